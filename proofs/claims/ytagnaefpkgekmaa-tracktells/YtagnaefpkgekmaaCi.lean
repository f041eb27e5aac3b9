/- The document's id, Check, Bytes, Pointer, End, Says. -/
import Derived.Test.YtagnaefpkgekmaaCf
import Derived.Deep.RegionHeld3
import Derived.Deep.QuietTactic
import Derived.BigQuiet
namespace Go.Proofs.Ytagnaefpkgekmaa
open Go.ChangeShapes Go.WideShapes Go.ChangeAt Go.RowKit Go.Maps Go.Sort Go.Shelf
set_option maxRecDepth 10000

theorem within00_any (n a b : Int) (w : World) : Calls Try.prog 37 #[.int .i64 n, .int .i64 a, .int .i64 b] w fun e w' => e = .returned (.bool (decide (a ≤ n) && decide (n ≤ b))) ∧ w = w' := by
  by_cases h1 : a ≤ n
  · obtain ⟨Q, hQ⟩ : ∃ Q, (decide (a ≤ n) && decide (n ≤ b)) = Q := ⟨_, rfl⟩
    have HQ : Hid (decide (n ≤ b) = Q) := Hid.mk' (by rw [← hQ, decide_eq_true h1]; rfl)
    rw [hQ]
    clear hQ
    go_enter Try.func37, Try.ntmps37
    go_wp2_with fail
    go_ret
    exact ⟨ret_bool HQ.out, rfl⟩
  · obtain ⟨Q, hQ⟩ : ∃ Q, (decide (a ≤ n) && decide (n ≤ b)) = Q := ⟨_, rfl⟩
    have HQ : Hid (false = Q) := Hid.mk' (by rw [← hQ, decide_eq_false h1]; rfl)
    rw [hQ]
    clear hQ
    go_enter Try.func37, Try.ntmps37
    go_wp2_with fail
    go_ret
    exact ⟨ret_bool HQ.out, rfl⟩

theorem rid_any (n : Int) (w : World) : Calls Try.prog 36 #[.int .i64 n] w fun e w' => e = .returned (.bool (isId n)) ∧ w = w' := by
  go_enter Try.func36, Try.ntmps36
  go_wp2_with fail
  refine (within00_any n 0 256 _).mono ?_
  rintro e w1 ⟨rfl, rfl⟩
  go_wp2_with fail
  go_ret
  exact ⟨rfl, rfl⟩

set_option maxHeartbeats 1000000 in
theorem rbytes_any (v : Value) (l : List Kn) (z : Int) (w : World) (h : Ks w v l) : Calls Try.prog 13 #[v, .int .i64 z] w fun e w' => e = .returned (.int .i64 (byN l z)) ∧ w = w' := by
  obtain ⟨a, c, rfl, hl⟩ := h.lies
  have hlen := h.len
  have HB := Hid.mk' h.inb
  have HL := Hid.mk' hl
  clear h hl
  obtain ⟨n, hn⟩ : ∃ n, l.length = n := ⟨_, rfl⟩
  rw [hn] at hlen ⊢
  obtain ⟨E, hE⟩ : ∃ E, Hid (byN l z = E) := ⟨_, rfl⟩
  rw [hE.out]
  have HN := Hid.mk' hn
  clear hn
  go_enter Try.func13, Try.ntmps13
  go_wp2_with fail
  go_loopw [5] (fun r wr => ∃ (k : Nat), r = .int .i64 k ∧ Hid (E = byN (l.drop k) z) ∧ k ≤ n ∧ w = wr) (fun r _ => ((n : Int) - iv r).toNat)
  case atStart => exact ⟨0, rfl, Hid.mk' (by rw [← hE.out]; rfl), Nat.zero_le _, rfl⟩
  case round =>
    obtain ⟨k, rfl, HK, hk, rfl⟩ := hrel
    by_cases hkn : k < n
    · obtain ⟨b, off, ea, hbl, c0, c1, i0, i1⟩ := lkn_at HL.out HB.out (show k < l.length by rw [HN.out]; exact hkn)
      subst ea
      have hS := Hid.mk' (by_step (l := l) (k := k) (by rw [HN.out]; exact hkn) z)
      generalize idA l k = I at *
      generalize bA l k = N at *
      have hlk : (k : Int) < (n : Int) := by omega
      by_cases g1 : I = z
      · have HF : Hid (N = E) := Hid.mk' (by rw [HK.out, hS.out, if_pos g1])
        go_wp2_with fail
        go_ret
        exact ⟨ret_int HF.out, rfl⟩
      · have HF : Hid (E = byN (l.drop (k + 1)) z) := Hid.mk' (by rw [HK.out, hS.out, if_neg g1])
        go_wp2_with fail
        go_roundw
        case rel => exact ⟨k + 1, by go_num, HF, hkn, by trivial⟩
        case measure => simp [iv]; omega
    · have hlk : ¬ (k : Int) < (n : Int) := by omega
      have HF : Hid (0 = E) := Hid.mk' (by rw [HK.out, by_end (by rw [HN.out]; exact hkn)])
      go_wp2_with fail
      go_ret
      exact ⟨ret_int HF.out, rfl⟩

theorem sayN_val {op : Int} (h : op = 29 ∨ op = 30 ∨ op = 31 ∨ op = 32) (yes first : Bool) : 0 ≤ sayN op yes first ∧ sayN op yes first ≤ 2 := by
  rcases h with rfl | rfl | rfl | rfl <;> cases yes <;> cases first <;> simp [sayN]

theorem says_any (op : Int) (yes first : Bool) (w : World) (h : op = 29 ∨ op = 30 ∨ op = 31 ∨ op = 32) : Calls Try.prog 52 #[.int .u8 op, .bool yes, .bool first] w fun e w' => e = .returned (.int .i64 (sayN op yes first)) ∧ w = w' := by
  rcases h with rfl | rfl | rfl | rfl <;> cases yes <;> cases first
  all_goals
    go_enter Try.func52, Try.ntmps52
    go_wp2_with fail
    go_ret
    exact ⟨rfl, rfl⟩

set_option maxHeartbeats 1000000 in
theorem rpointer_any (x : Vl) (w : World) (h : x.In) : Calls Try.prog 45 #[x.v] w fun e w' => e = .returned (.bool (isPt x)) ∧ Below w.heap.size w w' := by
  obtain ⟨⟨k0, k1⟩, ⟨m0, m1⟩, ⟨n0, n1⟩, ⟨i0, i1⟩, ⟨o0, o1⟩⟩ := h
  obtain ⟨P, hP⟩ : ∃ P, Hid (isPt x = P) := ⟨_, rfl⟩
  rw [hP.out]
  obtain ⟨k, mi, ma, id, off⟩ := x
  have HP : Hid (P = (decide (k = 2) && (isId id && (decide (0 ≤ off) && (decide (off ≤ 2048) && (decide (mi = 0) && decide (ma = 0))))))) := Hid.mk' (by rw [← hP.out]; rfl)
  clear hP
  simp only at k0 k1 m0 m1 n0 n1 i0 i1 o0 o1
  have HK : Hid (Below w.heap.size w (w.alloc (.cells #[.int .u8 k, .int .u64 mi, .int .u64 ma, .int .i64 id, .int .i64 off] 39))) := (Below.refl _ _).alloc (Nat.le_refl _) _
  have KI := fun u => rid_any id u
  have KW := fun u => within00_any off 0 2048 u
  obtain ⟨V, hV⟩ : ∃ V, (decide (0 ≤ off) && decide (off ≤ 2048)) = V := ⟨_, rfl⟩
  rw [hV] at KW
  have HV := Hid.mk' hV
  clear hV
  unfold Vl.v
  simp only
  go_enter Try.func45, Try.ntmps45
  by_cases g1 : k = 2
  · by_cases g5 : mi = 0
    · by_cases g6 : ma = 0
      · by_cases g2 : isId id = true
        · rw [g2] at KI
          have HE : Hid (P = V) := Hid.mk' (by rw [HP.out, ← HV.out]; simp [g1, g2, g5, g6])
          subst g1 g5 g6
          go_wp2_with (first
            | (go_at_call 36; refine (KI _).mono ?_; rintro e u ⟨rfl, rfl⟩)
            | (go_at_call 37; refine (KW _).mono ?_; rintro e u ⟨rfl, rfl⟩))
          go_ret
          exact ⟨ret_bool HE.out.symm, HK.out⟩
        · have g2' : isId id = false := by simpa using g2
          rw [g2'] at KI
          have HE : Hid (P = false) := Hid.mk' (by rw [HP.out, g2']; simp)
          subst g1 g5 g6
          go_wp2_with (go_at_call 36; refine (KI _).mono ?_; rintro e u ⟨rfl, rfl⟩)
          go_ret
          exact ⟨ret_bool HE.out.symm, HK.out⟩
      · have HE : Hid (P = false) := Hid.mk' (by rw [HP.out]; simp [g6])
        subst g1 g5
        go_wp2_with fail
        go_ret
        exact ⟨ret_bool HE.out.symm, HK.out⟩
    · have HE : Hid (P = false) := Hid.mk' (by rw [HP.out]; simp [g5])
      subst g1
      go_wp2_with fail
      all_goals
        go_ret
        exact ⟨ret_bool HE.out.symm, HK.out⟩
  · have HE : Hid (P = false) := Hid.mk' (by rw [HP.out]; simp [g1])
    go_wp2_with fail
    go_ret
    exact ⟨ret_bool HE.out.symm, HK.out⟩

set_option maxHeartbeats 1000000 in
theorem rend_any (x : Vl) (w : World) (h : x.In) : Calls Try.prog 51 #[x.v] w fun e w' => e = .returned (.bool (isEn x)) ∧ Below w.heap.size w w' := by
  obtain ⟨⟨k0, k1⟩, ⟨m0, m1⟩, ⟨n0, n1⟩, ⟨i0, i1⟩, ⟨o0, o1⟩⟩ := h
  obtain ⟨P, hP⟩ : ∃ P, Hid (isEn x = P) := ⟨_, rfl⟩
  rw [hP.out]
  obtain ⟨k, mi, ma, id, off⟩ := x
  have HP : Hid (P = (decide (k = 3) && (decide (mi = 0) && (decide (ma = 0) && (decide (id = 0) && decide (off = 0)))))) := Hid.mk' (by rw [← hP.out]; rfl)
  clear hP
  simp only at k0 k1 m0 m1 n0 n1 i0 i1 o0 o1
  unfold Vl.v
  simp only
  go_enter Try.func51, Try.ntmps51
  go_wp2_with fail
  all_goals
    go_ret
    refine ⟨ret_bool ?_, (Below.refl _ _).alloc (Nat.le_refl _) _⟩
    rw [HP.out]
    first | rfl | (simp [*]; done) | (rw [Bool.eq_iff_iff]; simp; omega)
end Go.Proofs.Ytagnaefpkgekmaa
