/- The contracts of add, sub, mul, and, or, xor, shl, shr, filled: the program's. -/
import Derived.Test.YtpmbdnmiokkknabDc
namespace Go.Proofs.Ytpmbdnmiokkknab
open Go.ChangeShapes Go.WideShapes Go.ChangeAt Go.RowKit
set_option maxRecDepth 10000
set_option linter.unusedVariables false

theorem shr_full : ∀ L : Nat, L ≤ 64 → (18446744073709551615 : Int) / 2 ^ (64 - L) = 2 ^ L - 1 := by
  have h : ∀ L : Fin 65, (18446744073709551615 : Int) / 2 ^ (64 - L.val) = 2 ^ L.val - 1 := by decide +kernel
  exact fun L hL => h ⟨L, by omega⟩

theorem filled_any (n : Int) (w : World) (h0 : 0 ≤ n) (h1 : n ≤ 18446744073709551615) : Calls Try.prog 36 #[.int .u64 n] w fun e w' => e = .returned (.int .u64 (fl n)) ∧ w = w' := by
  have HL := fun u => Try.bits_LeadingZeros64 n u h0 h1
  have hb : Lib.bitLen n.toNat ≤ 64 := Lib.bitLen_le _ 64 (Nat.le_refl _) (by omega)
  unfold fl
  generalize Lib.bitLen n.toNat = L at *
  have HS := Hid.mk' (shr_full L hb)
  go_enter Try.func36, Try.ntmps36
  go_wp2_with fail
  refine (HL _).mono ?_
  rintro e w1 ⟨rfl, rfl⟩
  have g0 : (0 : Int) ≤ 64 - (L : Int) := by omega
  go_wp2_with fail
  go_ret
  exact ⟨ret_int HS.out, rfl⟩

/-- An answer: stored into the third box. -/
theorem B3.done {w u : World} {al ah bl bh x y : Int} (h : B3 w u al ah bl bh x y) (x' y' : Int) :
    ((u.setCell ⟨w.heap.size + 1 + 1, 0, none⟩ (.int .u64 x')).setCell ⟨w.heap.size + 1 + 1, 1, none⟩ (.int .u64 y')).cell? ⟨w.heap.size + 1 + 1, 0, none⟩ = some (.int .u64 x') ∧
    ((u.setCell ⟨w.heap.size + 1 + 1, 0, none⟩ (.int .u64 x')).setCell ⟨w.heap.size + 1 + 1, 1, none⟩ (.int .u64 y')).cell? ⟨w.heap.size + 1 + 1, 1, none⟩ = some (.int .u64 y') ∧
    Below w.heap.size w ((u.setCell ⟨w.heap.size + 1 + 1, 0, none⟩ (.int .u64 x')).setCell ⟨w.heap.size + 1 + 1, 1, none⟩ (.int .u64 y')) :=
  ⟨(h.set x' y').Z.c0, (h.set x' y').Z.c1, (h.set x' y').old⟩

theorem add_any (al ah bl bh : Int) (w : World) (h : U4 al ah bl bh) (ha : al ≤ ah) (hb : bl ≤ bh) :
    Calls Try.prog 21 #[spV (al, ah), spV (bl, bh)] w fun e w' => e = .returned (spV (dAdd al ah bl bh)) ∧ Below w.heap.size w w' := by
  obtain ⟨a0, a1, a2, a3, b0, b1, b2, b3⟩ := h
  have r1 := fun u => add64 al bl a0 a1 b0 b1 u
  have r2 := fun u => add64 ah bh a2 a3 b2 b3 u
  have HB : Hid (∀ w1, Below _ _ w1 → B3 w w1 al ah bl bh 0 0) := Hid.mk' (fun w1 b => (B3.start w al ah bl bh 0 0).below b)
  go_enter Try.func21, Try.ntmps21
  by_cases hc : (al + bl) / 18446744073709551616 = (ah + bh) / 18446744073709551616
  · have e : dAdd al ah bl bh = ((al + bl) % 18446744073709551616, (ah + bh) % 18446744073709551616) := by unfold dAdd; rw [if_pos (by omega)]
    rw [e]
    clear e ha hb
    go_wp2_with (first | simp only [r1] | simp only [r2])
    refine ret_sp rfl rfl (celln (by simp) rfl) (celln (by simp) rfl) rfl ?_
    exact ⟨rfl, bl3 _ _ _ _⟩
  · have e : dAdd al ah bl bh = allS := by unfold dAdd; rw [if_neg (by omega)]
    rw [e]
    clear e ha hb
    go_wp2_with (first | simp only [r1] | simp only [r2])
    refine (all_any _).mono ?_
    rintro e w1 ⟨rfl, b1⟩
    have X := HB.out w1 b1
    obtain ⟨c0, c1, d0, d1, z0, z1, f0, f1⟩ := X.facts
    have X := Hid.mk' X
    clear b1
    go_wp2_with fail
    obtain ⟨k0, k1, K⟩ := X.out.done 0 18446744073709551615
    refine ret_sp rfl rfl k0 k1 rfl ?_
    exact ⟨rfl, K⟩

theorem sub_any (al ah bl bh : Int) (w : World) (h : U4 al ah bl bh) (ha : al ≤ ah) (hb : bl ≤ bh) :
    Calls Try.prog 22 #[spV (al, ah), spV (bl, bh)] w fun e w' => e = .returned (spV (dSub al ah bl bh)) ∧ Below w.heap.size w w' := by
  obtain ⟨a0, a1, a2, a3, b0, b1, b2, b3⟩ := h
  have HB : Hid (∀ w1, Below _ _ w1 → B3 w w1 al ah bl bh 0 0) := Hid.mk' (fun w1 b => (B3.start w al ah bl bh 0 0).below b)
  by_cases hc : (if al < bh then (1 : Int) else 0) = (if ah < bl then 1 else 0)
  · have e : dSub al ah bl bh = ((al - bh) % 18446744073709551616, (ah - bl) % 18446744073709551616) := by unfold dSub; rw [if_pos (by split at hc <;> split at hc <;> omega)]
    have r1 := fun u => sub64 al bh a0 a1 b2 b3 u
    have r2 := fun u => sub64 ah bl a2 a3 b0 b1 u
    rw [e]
    rw [hc] at r1
    clear e ha hb hc
    generalize (if ah < bl then (1 : Int) else 0) = F at *
    go_enter Try.func22, Try.ntmps22
    go_wp2_with (first | simp only [r1] | simp only [r2])
    refine ret_sp rfl rfl (celln (by simp) rfl) (celln (by simp) rfl) rfl ?_
    exact ⟨rfl, bl3 _ _ _ _⟩
  · have e : dSub al ah bl bh = allS := by unfold dSub; rw [if_neg (by split at hc <;> split at hc <;> omega)]
    have r1 := fun u => sub64 al bh a0 a1 b2 b3 u
    have r2 := fun u => sub64 ah bl a2 a3 b0 b1 u
    rw [e]
    clear e ha hb
    generalize (if ah < bl then (1 : Int) else 0) = F at *
    generalize (if al < bh then (1 : Int) else 0) = E at *
    go_enter Try.func22, Try.ntmps22
    go_wp2_with (first | simp only [r1] | simp only [r2])
    refine (all_any _).mono ?_
    rintro e w1 ⟨rfl, b1⟩
    have X := HB.out w1 b1
    obtain ⟨c0, c1, d0, d1, z0, z1, f0, f1⟩ := X.facts
    have X := Hid.mk' X
    clear b1
    go_wp2_with fail
    obtain ⟨k0, k1, K⟩ := X.out.done 0 18446744073709551615
    refine ret_sp rfl rfl k0 k1 rfl ?_
    exact ⟨rfl, K⟩

theorem mul64 (x y : Int) (x0 : 0 ≤ x) (x1 : x ≤ 18446744073709551615) (y0 : 0 ≤ y) (y1 : y ≤ 18446744073709551615) (w : World) :
    Calls Try.prog 35 #[.int .u64 x, .int .u64 y] w fun e w' => e = .returned (.tuple #[.int .u64 (x * y / 18446744073709551616), .int .u64 (x * y % 18446744073709551616)]) ∧ w = w' := by
  obtain ⟨a, rfl⟩ := Int.eq_ofNat_of_zero_le x0
  obtain ⟨b, rfl⟩ := Int.eq_ofNat_of_zero_le y0
  have h := keep_name (Try.bits_Mul64 a b (by omega) (by omega) w)
  have e1 : ((a * b / 18446744073709551616 : Nat) : Int) = (a : Int) * b / 18446744073709551616 := by rw [← Int.natCast_mul]; omega
  have e2 : ((a * b % 18446744073709551616 : Nat) : Int) = (a : Int) * b % 18446744073709551616 := by rw [← Int.natCast_mul]; omega
  rw [e1, e2] at h
  exact h

theorem mul_any (al ah bl bh : Int) (w : World) (h : U4 al ah bl bh) :
    Calls Try.prog 23 #[spV (al, ah), spV (bl, bh)] w fun e w' => e = .returned (spV (dMul al ah bl bh)) ∧ Below w.heap.size w w' := by
  obtain ⟨a0, a1, a2, a3, b0, b1, b2, b3⟩ := h
  have HB : Hid (∀ w1, Below _ _ w1 → B3 w w1 al ah bl bh 0 0) := Hid.mk' (fun w1 b => (B3.start w al ah bl bh 0 0).below b)
  have p0 : 0 ≤ ah * bh := Int.mul_nonneg a2 b2
  have r1 := Hid.mk' (fun u => mul64 ah bh a2 a3 b2 b3 u)
  have hw := wrap64 (al * bl)
  by_cases hc : ah * bh < 18446744073709551616
  · have e : dMul al ah bl bh = ((al * bl) % 18446744073709551616, (ah * bh) % 18446744073709551616) := by unfold dMul; rw [if_pos (.inl hc)]
    have hd : ah * bh / 18446744073709551616 = 0 := by omega
    have hm : ah * bh % 18446744073709551616 = ah * bh := by omega
    rw [e, hm]
    have r1 := r1.out
    rw [hd, hm] at r1
    have r1 := Hid.mk' r1
    clear e hd hm
    generalize ah * bh = P at *
    go_enter Try.func23, Try.ntmps23
    go_wp2_with fail
    refine (r1.out _).mono ?_
    rintro e w1 ⟨rfl, rfl⟩
    go_wp2_with fail
    refine ret_sp rfl rfl (celln (by simp) rfl) (celln (by simp) rfl) rfl ?_
    exact ⟨rfl, bl3 _ _ _ _⟩
  · have hd : ¬ ah * bh / 18446744073709551616 = 0 := by omega
    have e : dMul al ah bl bh = if al = ah ∧ bl = bh then ((al * bl) % 18446744073709551616, (ah * bh) % 18446744073709551616) else allS := by
      unfold dMul
      by_cases k : al = ah ∧ bl = bh
      · rw [if_pos (.inr k), if_pos k]
      · rw [if_neg (fun j => j.elim hc k), if_neg k]
    rw [e]
    clear e hc p0
    generalize ah * bh = P at *
    by_cases s1 : al = ah
    · have e1 : decide (al = ah) = true := decide_eq_true s1
      by_cases s2 : bl = bh
      · have e2 : decide (bl = bh) = true := decide_eq_true s2
        rw [if_pos ⟨s1, s2⟩]
        clear s1 s2
        go_enter Try.func23, Try.ntmps23
        go_wp2_with fail
        refine (r1.out _).mono ?_
        rintro e w1 ⟨rfl, rfl⟩
        go_wp2_with fail
        refine (single_any _ _ _).mono ?_
        rintro e w1 ⟨rfl, b1⟩
        rw [e1]
        have X := HB.out w1 b1
        obtain ⟨c0, c1, d0, d1, z0, z1, f0, f1⟩ := X.facts
        have X := Hid.mk' X
        clear b1
        go_wp2_with fail
        refine (single_any _ _ _).mono ?_
        rintro e w2 ⟨rfl, b1⟩
        rw [e2]
        have X := X.out.below b1
        obtain ⟨c0, c1, d0, d1, z0, z1, f0, f1⟩ := X.facts
        have X := Hid.mk' X
        clear b1
        go_wp2_with fail
        obtain ⟨k0, k1, K⟩ := X.out.done (al * bl % 18446744073709551616) (P % 18446744073709551616)
        refine ret_sp rfl rfl k0 k1 rfl ?_
        exact ⟨rfl, K⟩
      · have e2 : decide (bl = bh) = false := decide_eq_false s2
        rw [if_neg (fun k => s2 k.2)]
        clear s1 s2
        go_enter Try.func23, Try.ntmps23
        go_wp2_with fail
        refine (r1.out _).mono ?_
        rintro e w1 ⟨rfl, rfl⟩
        go_wp2_with fail
        refine (single_any _ _ _).mono ?_
        rintro e w1 ⟨rfl, b1⟩
        rw [e1]
        have X := HB.out w1 b1
        obtain ⟨c0, c1, d0, d1, z0, z1, f0, f1⟩ := X.facts
        have X := Hid.mk' X
        clear b1
        go_wp2_with fail
        refine (single_any _ _ _).mono ?_
        rintro e w2 ⟨rfl, b1⟩
        rw [e2]
        have X := Hid.mk' (X.out.below b1)
        clear b1
        go_wp2_with fail
        refine (all_any _).mono ?_
        rintro e w3 ⟨rfl, b1⟩
        have X := X.out.below b1
        obtain ⟨c0, c1, d0, d1, z0, z1, f0, f1⟩ := X.facts
        have X := Hid.mk' X
        clear b1
        go_wp2_with fail
        obtain ⟨k0, k1, K⟩ := X.out.done 0 18446744073709551615
        refine ret_sp rfl rfl k0 k1 rfl ?_
        exact ⟨rfl, K⟩
    · have e1 : decide (al = ah) = false := decide_eq_false s1
      rw [if_neg (fun k => s1 k.1)]
      clear s1
      go_enter Try.func23, Try.ntmps23
      go_wp2_with fail
      refine (r1.out _).mono ?_
      rintro e w1 ⟨rfl, rfl⟩
      go_wp2_with fail
      refine (single_any _ _ _).mono ?_
      rintro e w1 ⟨rfl, b1⟩
      rw [e1]
      have X := Hid.mk' (HB.out w1 b1)
      clear b1
      go_wp2_with fail
      refine (all_any _).mono ?_
      rintro e w3 ⟨rfl, b1⟩
      have X := X.out.below b1
      obtain ⟨c0, c1, d0, d1, z0, z1, f0, f1⟩ := X.facts
      have X := Hid.mk' X
      clear b1
      go_wp2_with fail
      obtain ⟨k0, k1, K⟩ := X.out.done 0 18446744073709551615
      refine ret_sp rfl rfl k0 k1 rfl ?_
      exact ⟨rfl, K⟩

set_option maxHeartbeats 1000000 in
theorem and_any (al ah bl bh : Int) (w : World) (h : U4 al ah bl bh) :
    Calls Try.prog 24 #[spV (al, ah), spV (bl, bh)] w fun e w' => e = .returned (spV (dAnd al ah bl bh)) ∧ Below w.heap.size w w' := by
  obtain ⟨a0, a1, a2, a3, b0, b1, b2, b3⟩ := h
  have HB : Hid (∀ w1, Below _ _ w1 → B3 w w1 al ah bl bh 0 0) := Hid.mk' (fun w1 b => (B3.start w al ah bl bh 0 0).below b)
  have hx1 : ∀ (u : World) ts t, (Builtin.min_ ts t #[.int .u64 ah, .int .u64 bh]).run Try.prog u = .ok (.int .u64 (mn ah bh)) u := fun u ts t => by rw [run_min_int2]; rfl
  have hx2 : ∀ (u : World) ts t, (Builtin.max_ ts t #[.int .u64 ah, .int .u64 bh]).run Try.prog u = .ok (.int .u64 (mx ah bh)) u := fun u ts t => by rw [run_max_int2]; rfl
  have hx3 : ∀ (u : World) ts t, (Builtin.max_ ts t #[.int .u64 al, .int .u64 bl]).run Try.prog u = .ok (.int .u64 (mx al bl)) u := fun u ts t => by rw [run_max_int2]; rfl
  obtain ⟨l1, l2, l3⟩ := mx_le ah bh
  have HF := Hid.mk' (fun u => filled_any (mx ah bh) u (by omega) (by omega))
  clear l1 l2 l3 a0 a1 a2 a3 b0 b1 b2 b3
  by_cases s1 : al = ah
  · have e1 : decide (al = ah) = true := decide_eq_true s1
    by_cases s2 : bl = bh
    · have e2 : decide (bl = bh) = true := decide_eq_true s2
      have e : dAnd al ah bl bh = (bits .and .u64 al bl, bits .and .u64 al bl) := by unfold dAnd; rw [if_pos ⟨s1, s2⟩]
      rw [e]
      clear s1 s2 e
      go_enter Try.func24, Try.ntmps24
      go_wp2_with fail
      refine (single_any _ _ _).mono ?_
      rintro e w1 ⟨rfl, b1⟩
      rw [e1]
      have X := HB.out w1 b1
      obtain ⟨c0, c1, d0, d1, z0, z1, f0, f1⟩ := X.facts
      have X := Hid.mk' X
      clear b1
      go_wp2_with fail
      refine (single_any _ _ _).mono ?_
      rintro e w2 ⟨rfl, b1⟩
      rw [e2]
      have X := X.out.below b1
      obtain ⟨c0, c1, d0, d1, z0, z1, f0, f1⟩ := X.facts
      have X := Hid.mk' X
      clear b1
      go_wp2_with fail
      refine (one_any _ _).mono ?_
      rintro e w3 ⟨rfl, b1⟩
      have X := X.out.below b1
      obtain ⟨c0, c1, d0, d1, z0, z1, f0, f1⟩ := X.facts
      have X := Hid.mk' X
      clear b1
      go_wp2_with fail
      obtain ⟨k0, k1, K⟩ := X.out.done (bits .and .u64 al bl) (bits .and .u64 al bl)
      refine ret_sp rfl rfl k0 k1 rfl ?_
      exact ⟨rfl, K⟩
    · have e2 : decide (bl = bh) = false := decide_eq_false s2
      have e : dAnd al ah bl bh = (0, mn ah bh) := by unfold dAnd; rw [if_neg (fun k => s2 k.2)]
      rw [e]
      clear s1 s2 e
      generalize mx ah bh = MH at *
      generalize mx al bl = ML at *
      generalize mn ah bh = NH at *
      go_enter Try.func24, Try.ntmps24
      go_wp2_with fail
      refine (single_any _ _ _).mono ?_
      rintro e w1 ⟨rfl, b1⟩
      rw [e1]
      have X := HB.out w1 b1
      obtain ⟨c0, c1, d0, d1, z0, z1, f0, f1⟩ := X.facts
      have X := Hid.mk' X
      clear b1
      go_wp2_with fail
      refine (single_any _ _ _).mono ?_
      rintro e w2 ⟨rfl, b1⟩
      rw [e2]
      have X := X.out.below b1
      obtain ⟨c0, c1, d0, d1, z0, z1, f0, f1⟩ := X.facts
      have X := Hid.mk' X
      clear b1
      go_wp2_with fail
      obtain ⟨k0, k1, K⟩ := X.out.done 0 NH
      refine ret_sp rfl rfl k0 k1 rfl ?_
      exact ⟨rfl, K⟩
  · have e1 : decide (al = ah) = false := decide_eq_false s1
    have e : dAnd al ah bl bh = (0, mn ah bh) := by unfold dAnd; rw [if_neg (fun k => s1 k.1)]
    rw [e]
    clear s1 e
    generalize mx ah bh = MH at *
    generalize mx al bl = ML at *
    generalize mn ah bh = NH at *
    go_enter Try.func24, Try.ntmps24
    go_wp2_with fail
    refine (single_any _ _ _).mono ?_
    rintro e w1 ⟨rfl, b1⟩
    rw [e1]
    have X := HB.out w1 b1
    obtain ⟨c0, c1, d0, d1, z0, z1, f0, f1⟩ := X.facts
    have X := Hid.mk' X
    clear b1
    go_wp2_with fail
    obtain ⟨k0, k1, K⟩ := X.out.done 0 NH
    refine ret_sp rfl rfl k0 k1 rfl ?_
    exact ⟨rfl, K⟩

set_option maxHeartbeats 1000000 in
theorem xor_any (al ah bl bh : Int) (w : World) (h : U4 al ah bl bh) :
    Calls Try.prog 26 #[spV (al, ah), spV (bl, bh)] w fun e w' => e = .returned (spV (dXor al ah bl bh)) ∧ Below w.heap.size w w' := by
  obtain ⟨a0, a1, a2, a3, b0, b1, b2, b3⟩ := h
  have HB : Hid (∀ w1, Below _ _ w1 → B3 w w1 al ah bl bh 0 0) := Hid.mk' (fun w1 b => (B3.start w al ah bl bh 0 0).below b)
  have hx1 : ∀ (u : World) ts t, (Builtin.min_ ts t #[.int .u64 ah, .int .u64 bh]).run Try.prog u = .ok (.int .u64 (mn ah bh)) u := fun u ts t => by rw [run_min_int2]; rfl
  have hx2 : ∀ (u : World) ts t, (Builtin.max_ ts t #[.int .u64 ah, .int .u64 bh]).run Try.prog u = .ok (.int .u64 (mx ah bh)) u := fun u ts t => by rw [run_max_int2]; rfl
  have hx3 : ∀ (u : World) ts t, (Builtin.max_ ts t #[.int .u64 al, .int .u64 bl]).run Try.prog u = .ok (.int .u64 (mx al bl)) u := fun u ts t => by rw [run_max_int2]; rfl
  obtain ⟨l1, l2, l3⟩ := mx_le ah bh
  have HF := Hid.mk' (fun u => filled_any (mx ah bh) u (by omega) (by omega))
  clear l1 l2 l3 a0 a1 a2 a3 b0 b1 b2 b3
  by_cases s1 : al = ah
  · have e1 : decide (al = ah) = true := decide_eq_true s1
    by_cases s2 : bl = bh
    · have e2 : decide (bl = bh) = true := decide_eq_true s2
      have e : dXor al ah bl bh = (bits .xor .u64 al bl, bits .xor .u64 al bl) := by unfold dXor; rw [if_pos ⟨s1, s2⟩]
      rw [e]
      clear s1 s2 e
      go_enter Try.func26, Try.ntmps26
      go_wp2_with fail
      refine (single_any _ _ _).mono ?_
      rintro e w1 ⟨rfl, b1⟩
      rw [e1]
      have X := HB.out w1 b1
      obtain ⟨c0, c1, d0, d1, z0, z1, f0, f1⟩ := X.facts
      have X := Hid.mk' X
      clear b1
      go_wp2_with fail
      refine (single_any _ _ _).mono ?_
      rintro e w2 ⟨rfl, b1⟩
      rw [e2]
      have X := X.out.below b1
      obtain ⟨c0, c1, d0, d1, z0, z1, f0, f1⟩ := X.facts
      have X := Hid.mk' X
      clear b1
      go_wp2_with fail
      refine (one_any _ _).mono ?_
      rintro e w3 ⟨rfl, b1⟩
      have X := X.out.below b1
      obtain ⟨c0, c1, d0, d1, z0, z1, f0, f1⟩ := X.facts
      have X := Hid.mk' X
      clear b1
      go_wp2_with fail
      obtain ⟨k0, k1, K⟩ := X.out.done (bits .xor .u64 al bl) (bits .xor .u64 al bl)
      refine ret_sp rfl rfl k0 k1 rfl ?_
      exact ⟨rfl, K⟩
    · have e2 : decide (bl = bh) = false := decide_eq_false s2
      have e : dXor al ah bl bh = (0, fl (mx ah bh)) := by unfold dXor; rw [if_neg (fun k => s2 k.2)]
      rw [e]
      clear s1 s2 e
      generalize mx ah bh = MH at *
      generalize mx al bl = ML at *
      generalize mn ah bh = NH at *
      go_enter Try.func26, Try.ntmps26
      go_wp2_with fail
      refine (single_any _ _ _).mono ?_
      rintro e w1 ⟨rfl, b1⟩
      rw [e1]
      have X := HB.out w1 b1
      obtain ⟨c0, c1, d0, d1, z0, z1, f0, f1⟩ := X.facts
      have X := Hid.mk' X
      clear b1
      go_wp2_with fail
      refine (single_any _ _ _).mono ?_
      rintro e w2 ⟨rfl, b1⟩
      rw [e2]
      have X := X.out.below b1
      obtain ⟨c0, c1, d0, d1, z0, z1, f0, f1⟩ := X.facts
      have X := Hid.mk' X
      clear b1
      go_wp2_with fail
      refine (HF.out _).mono ?_
      rintro e w4 ⟨rfl, rfl⟩
      go_wp2_with fail
      obtain ⟨k0, k1, K⟩ := X.out.done 0 (fl MH)
      refine ret_sp rfl rfl k0 k1 rfl ?_
      exact ⟨rfl, K⟩
  · have e1 : decide (al = ah) = false := decide_eq_false s1
    have e : dXor al ah bl bh = (0, fl (mx ah bh)) := by unfold dXor; rw [if_neg (fun k => s1 k.1)]
    rw [e]
    clear s1 e
    generalize mx ah bh = MH at *
    generalize mx al bl = ML at *
    generalize mn ah bh = NH at *
    go_enter Try.func26, Try.ntmps26
    go_wp2_with fail
    refine (single_any _ _ _).mono ?_
    rintro e w1 ⟨rfl, b1⟩
    rw [e1]
    have X := HB.out w1 b1
    obtain ⟨c0, c1, d0, d1, z0, z1, f0, f1⟩ := X.facts
    have X := Hid.mk' X
    clear b1
    go_wp2_with fail
    refine (HF.out _).mono ?_
    rintro e w4 ⟨rfl, rfl⟩
    go_wp2_with fail
    obtain ⟨k0, k1, K⟩ := X.out.done 0 (fl MH)
    refine ret_sp rfl rfl k0 k1 rfl ?_
    exact ⟨rfl, K⟩
end Go.Proofs.Ytpmbdnmiokkknab
