/- Which kind comes next, a kind's size: the program's calls and the document's. -/
import Derived.Test.YthdgfhllieknlaaJa
namespace Go.Proofs.Ythdgfhllieknlaa
open Go.ChangeShapes Go.WideShapes Go.ChangeAt Go.RowKit
set_option maxRecDepth 10000

theorem type_any (v : Int) (w : World) (h0 : 0 ≤ v) (h1 : v ≤ 65535) : Calls Try.prog 24 #[.int .u16 v] w fun e w' => e = .returned (.int .u8 (nT v)) ∧ w = w' := by
  unfold nT
  by_cases e0 : v = 33024
  · subst e0
    go_enter Try.func24, Try.ntmps24
    go_wp2
    go_ret
    exact ⟨rfl, rfl⟩
  by_cases e1 : v = 2048
  · subst e1
    go_enter Try.func24, Try.ntmps24
    go_wp2
    go_ret
    exact ⟨rfl, rfl⟩
  by_cases e2 : v = 34525
  · subst e2
    go_enter Try.func24, Try.ntmps24
    go_wp2
    go_ret
    exact ⟨rfl, rfl⟩
  rw [if_neg e0, if_neg e1, if_neg e2]
  go_enter Try.func24, Try.ntmps24
  go_wp2
  go_ret
  exact ⟨rfl, rfl⟩

theorem proto_any (v : Int) (w : World) (h0 : 0 ≤ v) (h1 : v ≤ 255) : Calls Try.prog 25 #[.int .u8 v] w fun e w' => e = .returned (.int .u8 (nP v)) ∧ w = w' := by
  unfold nP
  by_cases e0 : v = 6
  · subst e0
    go_enter Try.func25, Try.ntmps25
    go_wp2
    go_ret
    exact ⟨rfl, rfl⟩
  by_cases e1 : v = 17
  · subst e1
    go_enter Try.func25, Try.ntmps25
    go_wp2
    go_ret
    exact ⟨rfl, rfl⟩
  rw [if_neg e0, if_neg e1]
  go_enter Try.func25, Try.ntmps25
  go_wp2
  go_ret
  exact ⟨rfl, rfl⟩

theorem size_any (k : Int) (w : World) (h0 : 0 ≤ k) (h1 : k ≤ 255) : Calls Try.prog 23 #[.int .u8 k] w fun e w' => e = .returned (.int .i64 (sz k : Nat)) ∧ Below w.heap.size w w' := by
  have hB : Below w.heap.size w (w.alloc (.cells #[.int .i64 0, .int .i64 14, .int .i64 4, .int .i64 20, .int .i64 40, .int .i64 20, .int .i64 8] 3)) := (Below.refl _ _).alloc (Nat.le_refl _) _
  by_cases hk : k ≤ 6
  · have : k = 0 ∨ k = 1 ∨ k = 2 ∨ k = 3 ∨ k = 4 ∨ k = 5 ∨ k = 6 := by omega
    rcases this with rfl | rfl | rfl | rfl | rfl | rfl | rfl <;>
    · go_enter Try.func23, Try.ntmps23
      go_wp2
      go_ret
      exact ⟨rfl, hB⟩
  · have e : sz k = 0 := by unfold sz; rw [if_neg (by omega), if_neg (by omega), if_neg (by omega), if_neg (by omega), if_neg (by omega), if_neg (by omega)]
    rw [e]
    go_enter Try.func23, Try.ntmps23
    go_wp2
    go_ret
    exact ⟨rfl, hB⟩
end Go.Proofs.Ythdgfhllieknlaa
