/- The walks of SumsAdds and SumsGroup; the contracts of the document's own Add, Sub, Same, Update. -/
import Derived.Test.YtogkgchcjjoplaaSw
namespace Go.Proofs.Ytogkgchcjjoplaa
open Go.ChangeShapes Go.WideShapes Go.ChangeAt Go.RowKit

set_option maxHeartbeats 400000 in
theorem refadd_any (a b : Int) (w : World) (ha : 0 ≤ a) (ha' : a ≤ 65535) (hb : 0 ≤ b) (hb' : b ≤ 65535) :
    Calls Try.prog 17 #[.int .u16 a, .int .u16 b] w fun e w' => e = .returned (.int .u16 (fo (a + b))) ∧ w' = w := by
  have hf := fo_sub (a + b) (by omega) (by omega)
  have HF : Hid (fo (a + b) = if a + b > 65535 then a + b - 65535 else a + b) := hf
  clear hf
  by_cases h : 65535 < a + b
  · go_enter Try.func17, Try.ntmps17
    go_wp2_with fail
    go_ret
    exact ⟨ret_int (by rw [HF.out, if_pos (by omega)]), rfl⟩
  · go_enter Try.func17, Try.ntmps17
    go_wp2_with fail
    go_ret
    exact ⟨ret_int (by rw [HF.out, if_neg (by omega)]), rfl⟩

set_option maxHeartbeats 400000 in
theorem refsub_any (a b : Int) (w : World) (ha : 0 ≤ a) (ha' : a ≤ 65535) (hb : 0 ≤ b) (hb' : b ≤ 65535) :
    Calls Try.prog 19 #[.int .u16 a, .int .u16 b] w fun e w' => e = .returned (.int .u16 (fo (a + (65535 - b)))) ∧ w' = w := by
  go_enter Try.func19, Try.ntmps19
  go_wp2_with (go_at_call 17; refine (refadd_any _ _ _ (by omega) (by omega) (by omega) (by omega)).mono ?_; rintro e w' ⟨rfl, rfl⟩)
  go_ret
  exact ⟨rfl, rfl⟩

set_option maxHeartbeats 400000 in
theorem refsame_any (a b : Int) (w : World) (ha : 0 ≤ a) (ha' : a ≤ 65535) (hb : 0 ≤ b) (hb' : b ≤ 65535) :
    Calls Try.prog 21 #[.int .u16 a, .int .u16 b] w fun e w' => e = .returned (.bool (a % 65535 == b % 65535)) ∧ w' = w := by
  go_enter Try.func21, Try.ntmps21
  go_wp2_with fail
  go_ret
  exact ⟨rfl, rfl⟩

set_option maxHeartbeats 400000 in
theorem refupdate_any (f o n : Int) (w : World) (hf : 0 ≤ f) (hf' : f ≤ 65535) (ho : 0 ≤ o) (ho' : o ≤ 65535) (hn : 0 ≤ n) (hn' : n ≤ 65535) :
    Calls Try.prog 23 #[.int .u16 f, .int .u16 o, .int .u16 n] w fun e w' => e = .returned (.int .u16 (upd f o n)) ∧ w' = w := by
  have h1 := fo_nonneg ((65535 - f) + (65535 - o))
  have h2 := fo_le ((65535 - f) + (65535 - o))
  have h3 := fo_nonneg (fo ((65535 - f) + (65535 - o)) + n)
  have h4 := fo_le (fo ((65535 - f) + (65535 - o)) + n)
  go_enter Try.func23, Try.ntmps23
  go_wp2_with fail
  refine (refadd_any _ _ _ (by omega) (by omega) (by omega) (by omega)).mono ?_
  rintro e w' ⟨rfl, rfl⟩
  go_wp2_with fail
  refine (refadd_any _ _ _ (by omega) (by omega) (by omega) (by omega)).mono ?_
  rintro e w' ⟨rfl, rfl⟩
  go_wp2_with fail
  go_ret
  exact ⟨rfl, rfl⟩

set_option maxHeartbeats 2000000 in
theorem walkSumsAdds (a b c : Int) (W : World) (h0 : (Lit.int .u16 a).wf = true) (h1 : (Lit.int .u16 b).wf = true) (h2 : (Lit.int .u16 c).wf = true) :
    Calls Try.prog 4 #[.int .u16 a, .int .u16 b, .int .u16 c] W fun e w' => e = .returned (.bool true) ∧ Below W.heap.size W w' := by
  obtain ⟨a0, a1⟩ := bounds_u16 h0
  obtain ⟨b0, b1⟩ := bounds_u16 h1
  obtain ⟨c0, c1⟩ := bounds_u16 h2
  clear h0 h1 h2
  go_enter Try.func4, Try.ntmps4
  go_wp2_with fail
  refine (add_any _ _ _ a0 a1 b0 b1).mono ?_
  rintro e w' ⟨rfl, rfl⟩
  go_wp2_with fail
  refine (refadd_any _ _ _ a0 a1 b0 b1).mono ?_
  rintro e w' ⟨rfl, rfl⟩
  go_wp2_with fail
  refine (sub_any _ _ _ a0 a1 b0 b1).mono ?_
  rintro e w' ⟨rfl, rfl⟩
  go_wp2_with fail
  refine (refsub_any _ _ _ a0 a1 b0 b1).mono ?_
  rintro e w' ⟨rfl, rfl⟩
  go_wp2_with fail
  refine (same_any _ _ _ a0 a1 b0 b1).mono ?_
  rintro e w' ⟨rfl, rfl⟩
  go_wp2_with fail
  refine (refsame_any _ _ _ a0 a1 b0 b1).mono ?_
  rintro e w' ⟨rfl, rfl⟩
  go_wp2_with fail
  refine (update_any _ _ _ _ a0 a1 b0 b1 c0 c1).mono ?_
  rintro e w' ⟨rfl, rfl⟩
  go_wp2_with fail
  refine (refupdate_any _ _ _ _ a0 a1 b0 b1 c0 c1).mono ?_
  rintro e w' ⟨rfl, rfl⟩
  go_wp2_with fail
  refine (awake_any _).mono ?_
  rintro e w' ⟨rfl, hb⟩
  go_wp2_with fail
  go_ret
  exact ⟨rfl, hb⟩

theorem grp (a b : Int) (ha : 0 ≤ a) (hb : 0 ≤ b) (hb' : b ≤ 65535) : (fo (fo (a + b) + (65535 - b)) % 65535 == a % 65535) = true := by
  rw [fo_add _ _ (by omega) (by omega), fo_mod _ (by omega)]; simp; omega
theorem top (a : Int) (ha : 0 ≤ a) : (fo (a + 65535) % 65535 == a % 65535) = true := by
  rw [fo_mod _ (by omega)]; simp

set_option maxHeartbeats 4000000 in
theorem walkSumsGroup (a b c : Int) (W : World) (h0 : (Lit.int .u16 a).wf = true) (h1 : (Lit.int .u16 b).wf = true) (h2 : (Lit.int .u16 c).wf = true) :
    Calls Try.prog 7 #[.int .u16 a, .int .u16 b, .int .u16 c] W fun e w' => e = .returned (.bool true) ∧ Below W.heap.size W w' := by
  obtain ⟨a0, a1⟩ := bounds_u16 h0
  obtain ⟨b0, b1⟩ := bounds_u16 h1
  obtain ⟨c0, c1⟩ := bounds_u16 h2
  clear h0 h1 h2
  go_enter Try.func7, Try.ntmps7
  go_wp2_with fail
  refine (awake_any _).mono ?_
  rintro e w1 ⟨rfl, hbel⟩
  go_wp2_with fail
  refine (add_any _ _ _ a0 a1 b0 b1).mono ?_
  rintro e w' ⟨rfl, rfl⟩
  go_wp2_with fail
  refine (add_any _ _ _ b0 b1 a0 a1).mono ?_
  rintro e w' ⟨rfl, rfl⟩
  rw [Int.add_comm b a]
  go_wp2_with fail
  refine (add_any _ _ _ a0 a1 b0 b1).mono ?_
  rintro e w' ⟨rfl, rfl⟩
  go_wp2_with fail
  refine (add_any _ _ _ (fo_nonneg _) (fo_le _) c0 c1).mono ?_
  rintro e w' ⟨rfl, rfl⟩
  rw [fo_add _ _ (by omega) c0]
  go_wp2_with fail
  refine (add_any _ _ _ b0 b1 c0 c1).mono ?_
  rintro e w' ⟨rfl, rfl⟩
  go_wp2_with fail
  refine (add_any _ _ _ a0 a1 (fo_nonneg _) (fo_le _)).mono ?_
  rintro e w' ⟨rfl, rfl⟩
  rw [fo_add' _ _ a0 (by omega), ← Int.add_assoc]
  go_wp2_with fail
  refine (add_any _ _ _ a0 a1 b0 b1).mono ?_
  rintro e w' ⟨rfl, rfl⟩
  go_wp2_with fail
  refine (sub_any _ _ _ (fo_nonneg _) (fo_le _) b0 b1).mono ?_
  rintro e w' ⟨rfl, rfl⟩
  go_wp2_with fail
  refine (same_any _ _ _ (fo_nonneg _) (fo_le _) a0 a1).mono ?_
  rintro e w' ⟨rfl, rfl⟩
  rw [grp a b a0 b0 b1]
  go_wp2_with fail
  refine (same_any _ _ _ a0 a1 a0 a1).mono ?_
  rintro e w' ⟨rfl, rfl⟩
  rw [beq_self_eq_true (a % 65535)]
  go_wp2_with fail
  refine (same_any _ _ _ a0 a1 b0 b1).mono ?_
  rintro e w' ⟨rfl, rfl⟩
  go_wp2_with fail
  refine (same_any _ _ _ b0 b1 a0 a1).mono ?_
  rintro e w' ⟨rfl, rfl⟩
  rw [show (b % 65535 == a % 65535) = (a % 65535 == b % 65535) from BEq.comm]
  go_wp2_with fail
  refine (add_any _ _ _ a0 a1 (by omega) (by omega)).mono ?_
  rintro e w' ⟨rfl, rfl⟩
  rw [Int.add_zero, fo_small a a0 a1]
  go_wp2_with fail
  refine (add_any _ _ _ a0 a1 (by omega) (by omega)).mono ?_
  rintro e w' ⟨rfl, rfl⟩
  go_wp2_with fail
  refine (same_any _ _ _ (fo_nonneg _) (fo_le _) a0 a1).mono ?_
  rintro e w' ⟨rfl, rfl⟩
  rw [top a a0]
  go_wp2_with fail
  go_ret
  exact ⟨rfl, hbel⟩
end Go.Proofs.Ytogkgchcjjoplaa
