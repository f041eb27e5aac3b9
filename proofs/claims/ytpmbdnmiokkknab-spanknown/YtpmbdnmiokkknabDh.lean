/- The contracts of span.told, span.Compare. -/
import Derived.Test.YtpmbdnmiokkknabDc
namespace Go.Proofs.Ytpmbdnmiokkknab
open Go.ChangeShapes Go.WideShapes Go.ChangeAt Go.RowKit
set_option maxRecDepth 10000
set_option linter.unusedVariables false

/-- Which relation a comparison asks for; whether it is to be so. -/
def toR (o : Int) : Int := if o = 23 ∨ o = 24 ∨ o = 27 ∨ o = 28 then 1 else if o = 25 ∨ o = 26 ∨ o = 29 ∨ o = 32 then 2 else if o = 30 ∨ o = 31 then 3 else 0
def toB (o : Int) (y : Bool) : Bool := if o = 23 ∨ o = 25 ∨ o = 27 ∨ o = 29 ∨ o = 30 then y else if o = 24 ∨ o = 26 ∨ o = 28 ∨ o = 31 ∨ o = 32 then !y else false
theorem cm_cases {o : Int} (h : 23 ≤ o ∧ o ≤ 32) : o = 23 ∨ o = 24 ∨ o = 25 ∨ o = 26 ∨ o = 27 ∨ o = 28 ∨ o = 29 ∨ o = 30 ∨ o = 31 ∨ o = 32 := by omega

theorem told_any (o : Int) (y : Bool) (w : World) : Calls Try.prog 19 #[.int .u8 o, .bool y] w fun e w' => e = .returned (.tuple #[.int .i64 (toR o), .bool (toB o y)]) ∧ w = w' := by
  by_cases h : 23 ≤ o ∧ o ≤ 32
  · rcases cm_cases h with rfl | rfl | rfl | rfl | rfl | rfl | rfl | rfl | rfl | rfl
    all_goals
      clear h
      go_enter Try.func19, Try.ntmps19
      go_wp2_with fail
      go_ret2
      exact ⟨rfl, rfl⟩
  · have e1 : toR o = 0 := by unfold toR; rw [if_neg (by omega), if_neg (by omega), if_neg (by omega)]
    have e2 : toB o y = false := by unfold toB; rw [if_neg (by omega), if_neg (by omega)]
    rw [e1, e2]
    have n1 : ¬ o = 23 := by omega
    have n2 : ¬ o = 24 := by omega
    have n3 : ¬ o = 25 := by omega
    have n4 : ¬ o = 26 := by omega
    have n5 : ¬ o = 27 := by omega
    have n6 : ¬ o = 28 := by omega
    have n7 : ¬ o = 29 := by omega
    have n8 : ¬ o = 30 := by omega
    have n9 : ¬ o = 31 := by omega
    have n10 : ¬ o = 32 := by omega
    clear h e1 e2
    go_enter Try.func19, Try.ntmps19
    go_wp2_with fail
    go_ret2
    exact ⟨rfl, rfl⟩

/-- Whether a comparison holds of two numbers; its error. -/
def cmE (o : Int) : Int := if 23 ≤ o ∧ o ≤ 32 then 0 else 2
def cmB (o a b : Int) : Bool :=
  if o = 23 ∨ o = 27 then decide (a = b) else if o = 24 ∨ o = 28 then !decide (a = b) else if o = 25 ∨ o = 29 then decide (a < b)
  else if o = 26 ∨ o = 32 then decide (b ≤ a) else if o = 30 then decide (a ≤ b) else if o = 31 then decide (b < a) else false

theorem ret_bi {a b : Bool} {c : Int} (h : a = b) : Ending.returned (.tuple #[.bool a, .int .i64 c]) = .returned (.tuple #[.bool b, .int .i64 c]) := by rw [h]

theorem compare_any (o a b : Int) (w : World) : Calls Try.prog 12 #[.int .u8 o, .int .u64 a, .int .u64 b] w fun e w' => e = .returned (.tuple #[.bool (cmB o a b), .int .i64 (cmE o)]) ∧ w = w' := by
  have HT := Hid.mk' (fun u => told_any o true u)
  by_cases h : 23 ≤ o ∧ o ≤ 32
  · rcases cm_cases h with rfl | rfl | rfl | rfl | rfl | rfl | rfl | rfl | rfl | rfl
    all_goals
      clear h
      go_enter Try.func12, Try.ntmps12
      go_wp2_with fail
      refine (HT.out _).mono ?_
      rintro e w1 ⟨rfl, rfl⟩
      simp only [show toR 23 = 1 from rfl, show toR 24 = 1 from rfl, show toR 25 = 2 from rfl, show toR 26 = 2 from rfl, show toR 27 = 1 from rfl, show toR 28 = 1 from rfl, show toR 29 = 2 from rfl, show toR 30 = 3 from rfl, show toR 31 = 3 from rfl, show toR 32 = 2 from rfl,
        show toB 23 true = true from rfl, show toB 24 true = false from rfl, show toB 25 true = true from rfl, show toB 26 true = false from rfl, show toB 27 true = true from rfl, show toB 28 true = false from rfl, show toB 29 true = true from rfl, show toB 30 true = true from rfl, show toB 31 true = false from rfl, show toB 32 true = false from rfl]
      go_wp2_with fail
      go_ret2
      refine ⟨ret_bi ?_, rfl⟩
      first | rfl | (show _ = decide _; rw [Bool.eq_iff_iff]; simp; done) | (show _ = !decide _; rw [Bool.eq_iff_iff]; simp; done) | (show _ = decide _; rw [Bool.eq_iff_iff]; simp; omega)
  · have e1 : toR o = 0 := by unfold toR; rw [if_neg (by omega), if_neg (by omega), if_neg (by omega)]
    have e2 : cmB o a b = false := by unfold cmB; rw [if_neg (by omega), if_neg (by omega), if_neg (by omega), if_neg (by omega), if_neg (by omega), if_neg (by omega)]
    have e3 : cmE o = 2 := by unfold cmE; rw [if_neg h]
    rw [e2, e3]
    clear h e2 e3
    go_enter Try.func12, Try.ntmps12
    go_wp2_with fail
    refine (HT.out _).mono ?_
    rintro e w1 ⟨rfl, rfl⟩
    rw [e1]
    go_wp2_with fail
    go_ret2
    exact ⟨rfl, rfl⟩
end Go.Proofs.Ytpmbdnmiokkknab
