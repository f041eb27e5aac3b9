/- The contract of awake (the statements' own check that the chapter's sums come out): it returns true and writes nothing that was there. -/
import Derived.Test.YtogkgchcjjoplabSb
namespace Go.Proofs.Ytogkgchcjjoplab
open Go.ChangeShapes Go.WideShapes Go.ChangeAt Go.RowKit

set_option maxHeartbeats 2000000 in
theorem awake_any (w : World) :
    Calls Try.prog 11 #[] w fun e w' => e = .returned (.bool true) ∧ Below w.heap.size w w' := by
  have b0 : Below w.heap.size w (w.alloc (.cells #[.int .u8 0, .int .u8 1] 5)) := (Below.refl _ _).alloc (Nat.le_refl _) _
  have b1 : Below w.heap.size w ((w.alloc (.cells #[.int .u8 0, .int .u8 1] 5)).alloc (.cells #[.int .u8 0, .int .u8 3] 5)) := b0.alloc (by simp) _
  have s0 : Bs (w.alloc (.cells #[.int .u8 0, .int .u8 1] 5)) (some ⟨w.heap.size, 0, none⟩) [0, 1] := bs_new w [0, 1] 5 (by unfold Bytes; simp) (by simp)
  have s1 := s0.below ((Below.refl _ _).alloc (Nat.le_refl _) (.cells #[.int .u8 0, .int .u8 3] 5))
  have s2 : Bs ((w.alloc (.cells #[.int .u8 0, .int .u8 1] 5)).alloc (.cells #[.int .u8 0, .int .u8 3] 5)) (some ⟨w.heap.size + 1, 0, none⟩) [0, 3] := by
    have := bs_new (w.alloc (.cells #[.int .u8 0, .int .u8 1] 5)) [0, 3] 5 (by unfold Bytes; simp) (by simp)
    rw [show (w.alloc (.cells #[.int .u8 0, .int .u8 1] 5)).heap.size = w.heap.size + 1 from by simp] at this
    exact this
  go_enter Try.func11, Try.ntmps11
  go_wp2_with fail
  refine (diff_good _ _ _ _ [0, 1] [0, 3] _ s1 s2 2 rfl rfl rfl).mono ?_
  rintro e w1 ⟨rfl, d1⟩
  rw [show fo (su [0, 3] 2 + (65535 - su [0, 1] 2)) = 2 from by decide +kernel]
  have b2 : Below w.heap.size w w1 := b1.trans (d1.below _)
  clear b0 b1 s0 s1 s2 d1
  have s3 : Bs (w1.alloc (.cells #[.int .u8 1, .int .u8 2, .int .u8 3] 5)) (some ⟨w1.heap.size, 0, none⟩) [1, 2, 3] := bs_new w1 [1, 2, 3] 5 (by unfold Bytes; simp) (by simp)
  go_wp2_with fail
  refine (sum_any _ _ [1, 2, 3] _ s3).mono ?_
  rintro e w2 ⟨rfl, d2⟩
  rw [show su [1, 2, 3] ([1, 2, 3] : List Int).length = 1026 from by decide +kernel]
  have b3 : Below w.heap.size w w2 := (b2.alloc b2.size _).trans (d2.below _)
  clear s3 d2 b2
  have s4 : Bs (w2.alloc (.cells #[.int .u8 69, .int .u8 0, .int .u8 0, .int .u8 20] 5)) (some ⟨w2.heap.size, 0, none⟩) [69, 0, 0, 20] := bs_new w2 [69, 0, 0, 20] 5 (by unfold Bytes; simp) (by simp)
  go_wp2_with fail
  refine (field_any _ _ [69, 0, 0, 20] _ s4).mono ?_
  rintro e w3 ⟨rfl, d3⟩
  rw [show 65535 - su [69, 0, 0, 20] ([69, 0, 0, 20] : List Int).length = 47851 from by decide +kernel]
  have b4 : Below w.heap.size w w3 := (b3.alloc b3.size _).trans (d3.below _)
  clear s4 d3 b3
  go_wp2_with fail
  refine (add_any _ _ _ (by omega) (by omega) (by omega) (by omega)).mono ?_
  rintro e w' ⟨rfl, rfl⟩
  rw [show fo (65535 + 1) = 1 from by decide +kernel]
  go_wp2_with fail
  refine (sub_any _ _ _ (by omega) (by omega) (by omega) (by omega)).mono ?_
  rintro e w' ⟨rfl, rfl⟩
  rw [show fo (3 + (65535 - 5)) = 65533 from by decide +kernel]
  go_wp2_with fail
  refine (same_any _ _ _ (by omega) (by omega) (by omega) (by omega)).mono ?_
  rintro e w' ⟨rfl, rfl⟩
  rw [show ((0 : Int) % 65535 == 65535 % 65535) = true from by decide +kernel]
  go_wp2_with fail
  refine (update_any _ _ _ _ (by omega) (by omega) (by omega) (by omega) (by omega) (by omega)).mono ?_
  rintro e w' ⟨rfl, rfl⟩
  rw [show upd 47851 20 40 = 47831 from by decide +kernel]
  go_wp2_with fail
  go_ret
  exact ⟨rfl, b4⟩
end Go.Proofs.Ytogkgchcjjoplab
