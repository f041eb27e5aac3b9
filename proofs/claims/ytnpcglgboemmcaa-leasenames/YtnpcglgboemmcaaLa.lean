/- Contracts of package lease's small functions: liesWithin, Lend, meet, isNone, New. -/
import Derived.Test.YtnpcglgboemmcaaBa
namespace Go.Proofs.Ytnpcglgboemmcaa
open Go.ChangeShapes Go.WideShapes Go.ChangeAt Go.RowKit

/-- A range lies within so many bytes. -/
def inB (at' n : Int) (len : Nat) : Bool := decide (0 ≤ at' ∧ 0 ≤ n ∧ n ≤ len - at')

set_option maxHeartbeats 400000 in
theorem lies_any (x y : Int) (len : Nat) (w : World) (hl : len ≤ 140737488355328) (hx : -9223372036854775808 ≤ x) (hx' : x ≤ 9223372036854775807) (hy : -9223372036854775808 ≤ y) (hy' : y ≤ 9223372036854775807) :
    Calls Try.prog 24 #[.agg #[.int .i64 x, .int .i64 y], .int .i64 len] w fun e w' => e = .returned (.bool (inB x y len)) ∧ Below w.heap.size w w' := by
  by_cases h1 : 0 ≤ x
  · by_cases h2 : 0 ≤ y
    · by_cases h3 : y ≤ len - x
      · go_enter Try.func24, Try.ntmps24
        go_wp2_with fail
        go_ret
        exact ⟨ret_bool (by simp [inB]; omega), (Below.refl _ _).alloc (Nat.le_refl _) _⟩
      · go_enter Try.func24, Try.ntmps24
        go_wp2_with fail
        go_ret
        exact ⟨ret_bool (by simp [inB]; omega), (Below.refl _ _).alloc (Nat.le_refl _) _⟩
    · go_enter Try.func24, Try.ntmps24
      go_wp2_with fail
      go_ret
      exact ⟨ret_bool (by simp [inB]; omega), (Below.refl _ _).alloc (Nat.le_refl _) _⟩
  · go_enter Try.func24, Try.ntmps24
    go_wp2_with fail
    go_ret
    exact ⟨ret_bool (by simp [inB]; omega), (Below.refl _ _).alloc (Nat.le_refl _) _⟩

set_option maxHeartbeats 400000 in
theorem lend_out (a : Option Addr) (n c : Nat) (x y : Int) (w : World) (hl : n ≤ 140737488355328) (hx : -9223372036854775808 ≤ x) (hx' : x ≤ 9223372036854775807) (hy : -9223372036854775808 ≤ y) (hy' : y ≤ 9223372036854775807)
    (h : inB x y n = false) :
    Calls Try.prog 9 #[.slice a n c, .agg #[.int .i64 x, .int .i64 y]] w fun e w' => e = .returned (.tuple #[.slice none 0 0, .int .i64 20]) ∧ Below w.heap.size w w' := by
  go_enter Try.func9, Try.ntmps9
  go_wp2_with fail
  refine (lies_any x y n _ hl hx hx' hy hy').mono ?_
  rw [h]
  rintro e w1 ⟨rfl, b1⟩
  have b2 : Below w.heap.size w w1 := ((Below.refl _ _).alloc (Nat.le_refl _) _).trans (b1.mono (by simp))
  go_wp2_with fail
  go_ret2
  exact ⟨rfl, b2⟩

/-- Where a window lies. -/
def winA (a : Option Addr) (x y : Nat) : Option Addr := if y = 0 then a else a.map (·.add x)

set_option maxHeartbeats 400000 in
theorem lend_none (a : Option Addr) (n c : Nat) (x : Nat) (w : World) (hl : n ≤ 140737488355328) (hc : n ≤ c) (h : x ≤ n) :
    Calls Try.prog 9 #[.slice a n c, .agg #[.int .i64 x, .int .i64 0]] w fun e w' => e = .returned (.tuple #[.slice a 0 0, .int .i64 0]) ∧ Below w.heap.size w w' := by
  go_enter Try.func9, Try.ntmps9
  go_wp2_with fail
  refine (lies_any x 0 n _ hl (by omega) (by omega) (by omega) (by omega)).mono ?_
  rw [show inB x 0 n = true from by simp [inB]; omega]
  rintro e w1 ⟨rfl, b1⟩
  have b2 : Below w.heap.size w w1 := ((Below.refl _ _).alloc (Nat.le_refl _) _).trans (b1.mono (by simp))
  have hc0 : w1.cell? ⟨w.heap.size, 0, none⟩ = some (.int .i64 x) := by
    rw [b1.cell (by simp)]; simp
  have hc1 : w1.cell? ⟨w.heap.size, 1, none⟩ = some (.int .i64 0) := by
    rw [b1.cell (by simp)]; simp
  clear b1
  go_wp2_with fail
  go_ret2
  exact ⟨rfl, b2⟩

set_option maxHeartbeats 400000 in
theorem lend_some (a : Addr) (n c : Nat) (x y : Nat) (w : World) (hl : n ≤ 140737488355328) (hc : n ≤ c) (h : x + y ≤ n) (hy : 0 < y) :
    Calls Try.prog 9 #[.slice (some a) n c, .agg #[.int .i64 x, .int .i64 y]] w fun e w' => e = .returned (.tuple #[.slice (some (a.add x)) y y, .int .i64 0]) ∧ Below w.heap.size w w' := by
  go_enter Try.func9, Try.ntmps9
  go_wp2_with fail
  refine (lies_any x y n _ hl (by omega) (by omega) (by omega) (by omega)).mono ?_
  rw [show inB x y n = true from by simp [inB]; omega]
  rintro e w1 ⟨rfl, b1⟩
  have b2 : Below w.heap.size w w1 := ((Below.refl _ _).alloc (Nat.le_refl _) _).trans (b1.mono (by simp))
  have hc0 : w1.cell? ⟨w.heap.size, 0, none⟩ = some (.int .i64 x) := by
    rw [b1.cell (by simp)]; simp
  have hc1 : w1.cell? ⟨w.heap.size, 1, none⟩ = some (.int .i64 y) := by
    rw [b1.cell (by simp)]; simp
  have hxy : ((x : Int) + (y : Int)).toNat - x = y := by omega
  have hxy' : ¬ ((x : Int) + (y : Int)).toNat = x := by omega
  clear b1
  go_wp2_with fail
  go_ret2
  exact ⟨rfl, b2⟩

/-- Two ranges have a byte together. -/
def mt (x y u v : Int) : Bool := decide (x < x + y ∧ x < u + v ∧ u < x + y ∧ u < u + v)

set_option maxHeartbeats 400000 in
theorem meet_any (x y u v : Int) (w : World) (h0 : 0 ≤ x) (h1 : 0 ≤ y) (h2 : x + y ≤ 140737488355328) (g0 : 0 ≤ u) (g1 : 0 ≤ v) (g2 : u + v ≤ 140737488355328) :
    Calls Try.prog 32 #[.agg #[.int .i64 x, .int .i64 y], .agg #[.int .i64 u, .int .i64 v]] w fun e w' => e = .returned (.bool (mt x y u v)) ∧ Below w.heap.size w w' := by
  go_enter Try.func32, Try.ntmps32
  go_wp2_with fail
  all_goals
    go_ret
    exact ⟨ret_bool (decide_eq_decide.2 (by omega)), ((Below.refl _ _).alloc (Nat.le_refl _) _).alloc (by simp) _⟩

set_option maxHeartbeats 400000 in
theorem isNone_no (p : Nat) (w : World) (h : w.cell? ⟨p, 0, none⟩ = some (.bool true)) :
    Calls Try.prog 25 #[.pointer (some ⟨p, 0, none⟩)] w fun e w' => e = .returned (.bool false) ∧ w' = w := by
  go_enter Try.func25, Try.ntmps25
  go_wp2_with fail
  go_ret
  exact ⟨rfl, rfl⟩

set_option maxHeartbeats 400000 in
theorem isNone_nil (w : World) :
    Calls Try.prog 25 #[.pointer none] w fun e w' => e = .returned (.bool true) ∧ w' = w := by
  go_enter Try.func25, Try.ntmps25
  go_wp2_with fail
  go_ret
  exact ⟨rfl, rfl⟩

set_option maxHeartbeats 400000 in
theorem isNone_zero (p : Nat) (w : World) (h : w.cell? ⟨p, 0, none⟩ = some (.bool false)) :
    Calls Try.prog 25 #[.pointer (some ⟨p, 0, none⟩)] w fun e w' => e = .returned (.bool true) ∧ w' = w := by
  go_enter Try.func25, Try.ntmps25
  go_wp2_with fail
  go_ret
  exact ⟨rfl, rfl⟩

set_option maxHeartbeats 400000 in
theorem new_any (a : Option Addr) (n c : Nat) (w : World) :
    Calls Try.prog 14 #[.slice a n c] w fun e w' => e = .returned (.pointer (some ⟨w.heap.size, 0, none⟩)) ∧ w' = w.alloc (.cells #[.bool true, .slice a n c, .int .i64 0, .slice none 0 0] 59) := by
  go_enter Try.func14, Try.ntmps14
  go_wp2_with fail
  go_ret
  exact ⟨rfl, rfl⟩
end Go.Proofs.Ytnpcglgboemmcaa
