/- The contract of the statements' own helper Bring: a number brought into a range. -/
import Derived.Test.YtagnaefpkgekmaaBa
namespace Go.Proofs.Ytagnaefpkgekmaa
open Go.ChangeShapes Go.WideShapes Go.ChangeAt Go.RowKit

theorem tmod_bd (i : Int) (n : Nat) (h : 0 < n) : -(n : Int) < i.tmod n ∧ i.tmod n < n := by
  rcases Int.le_total 0 i with h0 | h0
  · rw [Int.tmod_eq_emod_of_nonneg h0]
    have := Int.emod_nonneg i (show (n : Int) ≠ 0 from by omega)
    have := Int.emod_lt_of_pos i (show (0 : Int) < n from by omega)
    omega
  · have e : i.tmod n = -((-i).tmod n) := by rw [Int.neg_tmod, Int.neg_neg]
    rw [e, Int.tmod_eq_emod_of_nonneg (show 0 ≤ -i from by omega)]
    have := Int.emod_nonneg (-i) (show (n : Int) ≠ 0 from by omega)
    have := Int.emod_lt_of_pos (-i) (show (0 : Int) < n from by omega)
    omega

set_option maxHeartbeats 400000 in
theorem bring_any (i : Int) (n : Nat) (w : World) (h0 : 0 < n) (h1 : n ≤ 140737488355328) (_hi : -9223372036854775808 ≤ i) (_hi' : i ≤ 9223372036854775807) :
    Calls Try.prog 30 #[.int .i64 i, .int .i64 n] w fun e w' => (∃ r : Nat, r < n ∧ e = .returned (.int .i64 r)) ∧ w' = w := by
  have hne : ¬ (n : Int) = 0 := by omega
  have hn1 : ¬ (n : Int) = -1 := by omega
  have hbd := tmod_bd i n h0
  by_cases hneg : i.tmod n < 0
  · go_enter Try.func30, Try.ntmps30
    go_wp2_with fail
    go_ret
    exact ⟨⟨(i.tmod n + n).toNat, by omega, ret_int (by omega)⟩, rfl⟩
  · go_enter Try.func30, Try.ntmps30
    go_wp2_with fail
    go_ret
    exact ⟨⟨(i.tmod n).toNat, by omega, ret_int (by omega)⟩, rfl⟩

/-- Which number it is hangs on the two numbers alone. -/
def brg (i : Int) (n : Nat) : Nat := (if i.tmod n < 0 then i.tmod n + n else i.tmod n).toNat

theorem brg_lt (i : Int) (n : Nat) (h : 0 < n) : brg i n < n := by
  have := tmod_bd i n h
  unfold brg
  split <;> omega

set_option maxHeartbeats 400000 in
theorem brg_any (i : Int) (n : Nat) (w : World) (h0 : 0 < n) (h1 : n ≤ 140737488355328) (_hi : -9223372036854775808 ≤ i) (_hi' : i ≤ 9223372036854775807) :
    Calls Try.prog 30 #[.int .i64 i, .int .i64 n] w fun e w' => e = .returned (.int .i64 (brg i n)) ∧ w = w' := by
  have hne : ¬ (n : Int) = 0 := by omega
  have hn1 : ¬ (n : Int) = -1 := by omega
  have hbd := tmod_bd i n h0
  unfold brg
  by_cases hneg : i.tmod n < 0
  · rw [if_pos hneg]
    go_enter Try.func30, Try.ntmps30
    go_wp2_with fail
    go_ret
    exact ⟨ret_int (by omega), rfl⟩
  · rw [if_neg hneg]
    go_enter Try.func30, Try.ntmps30
    go_wp2_with fail
    go_ret
    exact ⟨ret_int (by omega), rfl⟩

theorem bring_fix (i : Int) (n : Nat) (h0 : 0 < n) (h1 : n ≤ 140737488355328) (hi : -9223372036854775808 ≤ i) (hi' : i ≤ 9223372036854775807) : ∃ r : Nat, r < n ∧ ∀ u : World, Calls Try.prog 30 #[.int .i64 i, .int .i64 n] u fun e w' => e = .returned (.int .i64 r) ∧ u = w' :=
  ⟨brg i n, brg_lt i n h0, fun u => brg_any i n u h0 h1 hi hi'⟩

end Go.Proofs.Ytagnaefpkgekmaa
