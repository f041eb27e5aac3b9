/- The document's add, sub, fits, mul. -/
import Derived.Test.YtpmbdnmiokkknaaDd
namespace Go.Proofs.Ytpmbdnmiokkknaa
open Go.ChangeShapes Go.WideShapes Go.ChangeAt Go.RowKit
set_option maxRecDepth 10000
set_option linter.unusedVariables false

theorem sp_same {a b c d : Int} (h1 : a = c) (h2 : b = d) : Ending.returned (.agg #[.int .u64 a, .int .u64 b]) = .returned (spV (c, d)) := by rw [h1, h2]

theorem radd_any (al ah bl bh : Int) (w : World) (h : U4 al ah bl bh) (ha : al ≤ ah) (hb : bl ≤ bh) :
    Calls Try.prog 36 #[spV (al, ah), spV (bl, bh)] w fun e w' => e = .returned (spV (dAdd al ah bl bh)) ∧ Below w.heap.size w w' := by
  obtain ⟨a0, a1, a2, a3, b0, b1, b2, b3⟩ := h
  have HB : Hid (∀ w1, Below _ _ w1 → B3 w w1 al ah bl bh 0 0) := Hid.mk' (fun w1 b => (B3.start w al ah bl bh 0 0).below b)
  have s1 := wrap64 (al + bl)
  have s2 := wrap64 (ah + bh)
  by_cases c1 : ah ≤ 18446744073709551615 - bh
  · have e : dAdd al ah bl bh = ((al + bl) % 18446744073709551616, (ah + bh) % 18446744073709551616) := by unfold dAdd; rw [if_pos (by omega)]
    rw [e]
    have q1 : (al + bl) % 18446744073709551616 = al + bl := by omega
    have q2 : (ah + bh) % 18446744073709551616 = ah + bh := by omega
    have Q1 := Hid.mk' q1
    have Q2 := Hid.mk' q2
    have k1 : al + bl ≤ 18446744073709551615 := by omega
    have k2 : ah + bh ≤ 18446744073709551615 := by omega
    clear e q1 q2 s1 s2 ha hb
    by_cases z : bl > 0
    · by_cases c2 : al > 18446744073709551615 - bl
      · omega
      · go_enter Try.func36, Try.ntmps36
        go_wp2_with fail
        refine ret_sp rfl rfl (celln (by simp) rfl) (celln (by simp) rfl) rfl ?_
        exact ⟨sp_same (by first | exact Q1.out.symm | omega) (by first | exact Q2.out.symm | omega), bl3 _ _ _ _⟩
    · go_enter Try.func36, Try.ntmps36
      go_wp2_with fail
      refine ret_sp rfl rfl (celln (by simp) rfl) (celln (by simp) rfl) rfl ?_
      exact ⟨sp_same (by first | exact Q1.out.symm | omega) (by first | exact Q2.out.symm | omega), bl3 _ _ _ _⟩
  · by_cases c2 : bl > 0 ∧ al > 18446744073709551615 - bl
    · obtain ⟨z, c2⟩ := c2
      have e : dAdd al ah bl bh = ((al + bl) % 18446744073709551616, (ah + bh) % 18446744073709551616) := by unfold dAdd; rw [if_pos (by omega)]
      rw [e]
      have S1 := Hid.mk' s1
      have S2 := Hid.mk' s2
      clear e s1 s2 ha hb
      go_enter Try.func36, Try.ntmps36
      go_wp2_with fail
      refine ret_sp rfl rfl (celln (by simp) rfl) (celln (by simp) rfl) rfl ?_
      exact ⟨sp_same (by first | exact S1.out | rfl | omega) (by first | exact S2.out | rfl | omega), bl3 _ _ _ _⟩
    · have e : dAdd al ah bl bh = allS := by unfold dAdd; rw [if_neg (by omega)]
      rw [e]
      clear e s1 s2 ha hb
      by_cases z : bl > 0
      · have c3 : al ≤ 18446744073709551615 - bl := by omega
        clear c2
        go_enter Try.func36, Try.ntmps36
        go_wp2_with fail
        refine (rall_any _).mono ?_
        rintro e w3 ⟨rfl, b1⟩
        have X := HB.out w3 b1
        obtain ⟨c0, c1, d0, d1, z0, z1, f0, f1⟩ := X.facts
        have X := Hid.mk' X
        clear b1
        go_wp2_with fail
        obtain ⟨k0, k1, K⟩ := X.out.done 0 18446744073709551615
        refine ret_sp rfl rfl k0 k1 rfl ?_
        exact ⟨rfl, K⟩
      · clear c2
        go_enter Try.func36, Try.ntmps36
        go_wp2_with fail
        refine (rall_any _).mono ?_
        rintro e w3 ⟨rfl, b1⟩
        have X := HB.out w3 b1
        obtain ⟨c0, c1, d0, d1, z0, z1, f0, f1⟩ := X.facts
        have X := Hid.mk' X
        clear b1
        go_wp2_with fail
        obtain ⟨k0, k1, K⟩ := X.out.done 0 18446744073709551615
        refine ret_sp rfl rfl k0 k1 rfl ?_
        exact ⟨rfl, K⟩

theorem rsub_any (al ah bl bh : Int) (w : World) (h : U4 al ah bl bh) :
    Calls Try.prog 37 #[spV (al, ah), spV (bl, bh)] w fun e w' => e = .returned (spV (dSub al ah bl bh)) ∧ Below w.heap.size w w' := by
  obtain ⟨a0, a1, a2, a3, b0, b1, b2, b3⟩ := h
  have HB : Hid (∀ w1, Below _ _ w1 → B3 w w1 al ah bl bh 0 0) := Hid.mk' (fun w1 b => (B3.start w al ah bl bh 0 0).below b)
  have S1 := Hid.mk' (wrap64 (al - bh))
  have S2 := Hid.mk' (wrap64 (ah - bl))
  by_cases c1 : al ≥ bh
  · have e : dSub al ah bl bh = ((al - bh) % 18446744073709551616, (ah - bl) % 18446744073709551616) := by unfold dSub; rw [if_pos (by omega)]
    rw [e]
    clear e
    go_enter Try.func37, Try.ntmps37
    go_wp2_with fail
    refine ret_sp rfl rfl (celln (by simp) rfl) (celln (by simp) rfl) rfl ?_
    exact ⟨sp_same (by first | exact S1.out | rfl | omega) (by first | exact S2.out | rfl | omega), bl3 _ _ _ _⟩
  · by_cases c2 : ah < bl
    · have e : dSub al ah bl bh = ((al - bh) % 18446744073709551616, (ah - bl) % 18446744073709551616) := by unfold dSub; rw [if_pos (by omega)]
      rw [e]
      clear e
      go_enter Try.func37, Try.ntmps37
      go_wp2_with fail
      refine ret_sp rfl rfl (celln (by simp) rfl) (celln (by simp) rfl) rfl ?_
      exact ⟨sp_same (by first | exact S1.out | rfl | omega) (by first | exact S2.out | rfl | omega), bl3 _ _ _ _⟩
    · by_cases s1 : al = ah
      · have e1 : decide (al = ah) = true := decide_eq_true s1
        by_cases s2 : bl = bh
        · have e2 : decide (bl = bh) = true := decide_eq_true s2
          have e : dSub al ah bl bh = ((al - bh) % 18446744073709551616, (ah - bl) % 18446744073709551616) := by unfold dSub; rw [if_pos (.inr (.inr ⟨s1, s2⟩))]
          rw [e]
          clear e s1 s2
          go_enter Try.func37, Try.ntmps37
          go_wp2_with fail
          refine (rsingle_any _ _ _).mono ?_
          rintro e w1 ⟨rfl, b1⟩
          rw [e1]
          have X := HB.out w1 b1
          obtain ⟨c0, c1, d0, d1, z0, z1, f0, f1⟩ := X.facts
          have X := Hid.mk' X
          clear b1
          go_wp2_with fail
          refine (rsingle_any _ _ _).mono ?_
          rintro e w1 ⟨rfl, b1⟩
          rw [e2]
          have X := X.out.below b1
          obtain ⟨c0, c1, d0, d1, z0, z1, f0, f1⟩ := X.facts
          have X := Hid.mk' X
          clear b1
          go_wp2_with fail
          obtain ⟨k0, k1, K⟩ := X.out.done (IntKind.u64.wrap (al - bh)) (ah - bl)
          refine ret_sp rfl rfl k0 k1 rfl ?_
          exact ⟨sp_same S1.out (by omega), K⟩
        · have e2 : decide (bl = bh) = false := decide_eq_false s2
          have e : dSub al ah bl bh = allS := by unfold dSub; rw [if_neg (by omega)]
          rw [e]
          clear e s1 s2
          go_enter Try.func37, Try.ntmps37
          go_wp2_with fail
          refine (rsingle_any _ _ _).mono ?_
          rintro e w1 ⟨rfl, b1⟩
          rw [e1]
          have X := HB.out w1 b1
          obtain ⟨c0, c1, d0, d1, z0, z1, f0, f1⟩ := X.facts
          have X := Hid.mk' X
          clear b1
          go_wp2_with fail
          refine (rsingle_any _ _ _).mono ?_
          rintro e w1 ⟨rfl, b1⟩
          rw [e2]
          have X := X.out.below b1
          obtain ⟨c0, c1, d0, d1, z0, z1, f0, f1⟩ := X.facts
          have X := Hid.mk' X
          clear b1
          go_wp2_with fail
          refine (rall_any _).mono ?_
          rintro e w3 ⟨rfl, b1⟩
          have X := X.out.below b1
          obtain ⟨c0, c1, d0, d1, z0, z1, f0, f1⟩ := X.facts
          have X := Hid.mk' X
          clear b1
          go_wp2_with fail
          obtain ⟨k0, k1, K⟩ := X.out.done 0 18446744073709551615
          refine ret_sp rfl rfl k0 k1 rfl ?_
          exact ⟨rfl, K⟩
      · have e1 : decide (al = ah) = false := decide_eq_false s1
        have e : dSub al ah bl bh = allS := by unfold dSub; rw [if_neg (by omega)]
        rw [e]
        clear e s1
        go_enter Try.func37, Try.ntmps37
        go_wp2_with fail
        refine (rsingle_any _ _ _).mono ?_
        rintro e w1 ⟨rfl, b1⟩
        rw [e1]
        have X := HB.out w1 b1
        obtain ⟨c0, c1, d0, d1, z0, z1, f0, f1⟩ := X.facts
        have X := Hid.mk' X
        clear b1
        go_wp2_with fail
        refine (rall_any _).mono ?_
        rintro e w3 ⟨rfl, b1⟩
        have X := X.out.below b1
        obtain ⟨c0, c1, d0, d1, z0, z1, f0, f1⟩ := X.facts
        have X := Hid.mk' X
        clear b1
        go_wp2_with fail
        obtain ⟨k0, k1, K⟩ := X.out.done 0 18446744073709551615
        refine ret_sp rfl rfl k0 k1 rfl ?_
        exact ⟨rfl, K⟩

theorem fits_iff (a b : Int) (a0 : 0 ≤ a) (b0 : 0 ≤ b) (hb : ¬ b = 0) : a ≤ 18446744073709551615 / b ↔ a * b < 18446744073709551616 := by
  rw [Int.le_ediv_iff_mul_le (by omega)]
  omega
theorem fits_any (a b : Int) (w : World) (a0 : 0 ≤ a) (b0 : 0 ≤ b) (b1 : b ≤ 18446744073709551615) :
    Calls Try.prog 55 #[.int .u64 a, .int .u64 b] w fun e w' => e = .returned (.bool (decide (a * b < 18446744073709551616))) ∧ w = w' := by
  go_enter Try.func55, Try.ntmps55
  by_cases z : b = 0
  · have e : decide (a * b < 18446744073709551616) = true := by subst z; simp
    rw [e]
    subst z
    go_wp2_with fail
    go_ret
    exact ⟨rfl, rfl⟩
  · have hq := fits_iff a b a0 b0 z
    by_cases k : a * b < 18446744073709551616
    · have e := decide_eq_true k
      rw [e]
      have hk := hq.2 k
      clear e k hq
      go_wp2_with fail
      go_ret
      exact ⟨ret_bool (by first | rfl | (simp [*]; done)), rfl⟩
    · have e := decide_eq_false k
      rw [e]
      have hk : ¬ a ≤ 18446744073709551615 / b := fun j => k (hq.1 j)
      clear e k hq
      go_wp2_with fail
      go_ret
      exact ⟨ret_bool (by first | rfl | (simp [*]; done)), rfl⟩

theorem rmul_any (al ah bl bh : Int) (w : World) (h : U4 al ah bl bh) :
    Calls Try.prog 38 #[spV (al, ah), spV (bl, bh)] w fun e w' => e = .returned (spV (dMul al ah bl bh)) ∧ Below w.heap.size w w' := by
  have HB : Hid (∀ w1, Below _ _ w1 → B3 w w1 al ah bl bh 0 0) := Hid.mk' (fun w1 b => (B3.start w al ah bl bh 0 0).below b)
  have HF := Hid.mk' (fun u => fits_any ah bh u h.a2 h.b2 h.b3)
  have S1 := Hid.mk' (wrap64 (al * bl))
  have S2 := Hid.mk' (wrap64 (ah * bh))
  clear h
  by_cases c : ah * bh < 18446744073709551616
  · have e0 := decide_eq_true c
    have e : dMul al ah bl bh = ((al * bl) % 18446744073709551616, (ah * bh) % 18446744073709551616) := by unfold dMul; rw [if_pos (.inl c)]
    rw [e]
    clear e c
    go_enter Try.func38, Try.ntmps38
    go_wp2_with fail
    refine (HF.out _).mono ?_
    rintro e w1 ⟨rfl, rfl⟩
    rw [e0]
    go_wp2_with fail
    refine ret_sp rfl rfl (celln (by simp) rfl) (celln (by simp) rfl) rfl ?_
    exact ⟨sp_same S1.out S2.out, bl3 _ _ _ _⟩
  · have e0 := decide_eq_false c
    by_cases s1 : al = ah
    · have e1 : decide (al = ah) = true := decide_eq_true s1
      by_cases s2 : bl = bh
      · have e2 : decide (bl = bh) = true := decide_eq_true s2
        have e : dMul al ah bl bh = ((al * bl) % 18446744073709551616, (ah * bh) % 18446744073709551616) := by unfold dMul; rw [if_pos (.inr ⟨s1, s2⟩)]
        rw [e]
        clear e c s1 s2
        go_enter Try.func38, Try.ntmps38
        go_wp2_with fail
        refine (HF.out _).mono ?_
        rintro e w1 ⟨rfl, rfl⟩
        rw [e0]
        go_wp2_with fail
        refine (rsingle_any _ _ _).mono ?_
        rintro e w1 ⟨rfl, b1⟩
        rw [e1]
        have X := HB.out w1 b1
        obtain ⟨c0, c1, d0, d1, z0, z1, f0, f1⟩ := X.facts
        have X := Hid.mk' X
        clear b1
        go_wp2_with fail
        refine (rsingle_any _ _ _).mono ?_
        rintro e w1 ⟨rfl, b1⟩
        rw [e2]
        have X := X.out.below b1
        obtain ⟨c0, c1, d0, d1, z0, z1, f0, f1⟩ := X.facts
        have X := Hid.mk' X
        clear b1
        go_wp2_with fail
        obtain ⟨k0, k1, K⟩ := X.out.done (IntKind.u64.wrap (al * bl)) (IntKind.u64.wrap (ah * bh))
        refine ret_sp rfl rfl k0 k1 rfl ?_
        exact ⟨sp_same S1.out S2.out, K⟩
      · have e2 : decide (bl = bh) = false := decide_eq_false s2
        have e : dMul al ah bl bh = allS := by unfold dMul; rw [if_neg (fun k => k.elim c (fun j => s2 j.2))]
        rw [e]
        clear e c s1 s2
        go_enter Try.func38, Try.ntmps38
        go_wp2_with fail
        refine (HF.out _).mono ?_
        rintro e w1 ⟨rfl, rfl⟩
        rw [e0]
        go_wp2_with fail
        refine (rsingle_any _ _ _).mono ?_
        rintro e w1 ⟨rfl, b1⟩
        rw [e1]
        have X := HB.out w1 b1
        obtain ⟨c0, c1, d0, d1, z0, z1, f0, f1⟩ := X.facts
        have X := Hid.mk' X
        clear b1
        go_wp2_with fail
        refine (rsingle_any _ _ _).mono ?_
        rintro e w1 ⟨rfl, b1⟩
        rw [e2]
        have X := X.out.below b1
        obtain ⟨c0, c1, d0, d1, z0, z1, f0, f1⟩ := X.facts
        have X := Hid.mk' X
        clear b1
        go_wp2_with fail
        refine (rall_any _).mono ?_
        rintro e w3 ⟨rfl, b1⟩
        have X := X.out.below b1
        obtain ⟨c0, c1, d0, d1, z0, z1, f0, f1⟩ := X.facts
        have X := Hid.mk' X
        clear b1
        go_wp2_with fail
        obtain ⟨k0, k1, K⟩ := X.out.done 0 18446744073709551615
        refine ret_sp rfl rfl k0 k1 rfl ?_
        exact ⟨rfl, K⟩
    · have e1 : decide (al = ah) = false := decide_eq_false s1
      have e : dMul al ah bl bh = allS := by unfold dMul; rw [if_neg (fun k => k.elim c (fun j => s1 j.1))]
      rw [e]
      clear e c s1
      go_enter Try.func38, Try.ntmps38
      go_wp2_with fail
      refine (HF.out _).mono ?_
      rintro e w1 ⟨rfl, rfl⟩
      rw [e0]
      go_wp2_with fail
      refine (rsingle_any _ _ _).mono ?_
      rintro e w1 ⟨rfl, b1⟩
      rw [e1]
      have X := HB.out w1 b1
      obtain ⟨c0, c1, d0, d1, z0, z1, f0, f1⟩ := X.facts
      have X := Hid.mk' X
      clear b1
      go_wp2_with fail
      refine (rall_any _).mono ?_
      rintro e w3 ⟨rfl, b1⟩
      have X := X.out.below b1
      obtain ⟨c0, c1, d0, d1, z0, z1, f0, f1⟩ := X.facts
      have X := Hid.mk' X
      clear b1
      go_wp2_with fail
      obtain ⟨k0, k1, K⟩ := X.out.done 0 18446744073709551615
      refine ret_sp rfl rfl k0 k1 rfl ?_
      exact ⟨rfl, K⟩
end Go.Proofs.Ytpmbdnmiokkknaa
