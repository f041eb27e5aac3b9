/- The document's turn, Compare. -/
import Derived.Test.YtpmbdnmiokkknaaDh
namespace Go.Proofs.Ytpmbdnmiokkknaa
open Go.ChangeShapes Go.WideShapes Go.ChangeAt Go.RowKit
set_option maxRecDepth 10000
set_option linter.unusedVariables false

theorem compares_any (o : Int) (w : World) : Calls Try.prog 43 #[.int .u8 o] w fun e w' => e = .returned (.bool (decide (23 ≤ o) && decide (o ≤ 32))) ∧ w = w' := by
  go_enter Try.func43, Try.ntmps43
  by_cases h : 23 ≤ o
  · have HV := Hid.mk' (show (decide (23 ≤ o) && decide (o ≤ 32)) = decide (o ≤ 32) by simp [h])
    rw [HV.out]
    clear HV
    go_wp2_with fail
    go_ret
    exact ⟨ret_bool (by first | rfl | (rw [Bool.eq_iff_iff]; simp)), rfl⟩
  · have HV := Hid.mk' (show (decide (23 ≤ o) && decide (o ≤ 32)) = false by simp [h])
    rw [HV.out]
    clear HV
    go_wp2_with fail
    go_ret
    exact ⟨rfl, rfl⟩

/-- A comparison with registers alone, or its contrary. -/
def tnB (o : Int) : Int := if o = 23 then 27 else if o = 24 then 28 else if o = 25 then 29 else if o = 26 then 32 else o
def tnN (b : Int) : Int := if b = 27 then 28 else if b = 28 then 27 else if b = 29 then 32 else if b = 30 then 31 else if b = 31 then 30 else 29
def tnC (o : Int) (y : Bool) : Int := if y = true then tnB o else tnN (tnB o)

set_option maxHeartbeats 1000000 in
theorem turn_any (o : Int) (y : Bool) (w : World) (ho : 23 ≤ o ∧ o ≤ 32) : Calls Try.prog 45 #[.int .u8 o, .bool y] w fun e w' => e = .returned (.int .u8 (tnC o y)) ∧ Below w.heap.size w w' := by
  rcases cm_cases ho with rfl | rfl | rfl | rfl | rfl | rfl | rfl | rfl | rfl | rfl <;> cases y
  all_goals
    clear ho
    go_enter Try.func45, Try.ntmps45
    go_wp2_with fail
    go_ret
    exact ⟨rfl, by first | exact Below.refl _ _ | exact bl1 _ _ | exact bl2 _ _ _⟩

set_option maxHeartbeats 1000000 in
theorem rcompare_any (o a b : Int) (w : World) : Calls Try.prog 27 #[.int .u8 o, .int .u64 a, .int .u64 b] w fun e w' => e = .returned (.tuple #[.bool (cmB o a b), .int .i64 (cmE o)]) ∧ Below w.heap.size w w' := by
  by_cases h : 23 ≤ o ∧ o ≤ 32
  · have HK : Hid (∀ u, Calls Try.prog 43 #[.int .u8 o] u fun e w' => e = .returned (.bool true) ∧ u = w') := Hid.mk' (fun u => by
      have := compares_any o u
      rw [show (decide (23 ≤ o) && decide (o ≤ 32)) = true by simp [h]] at this
      exact this)
    have HT := Hid.mk' (fun u => turn_any o true u h)
    rcases cm_cases h with rfl | rfl | rfl | rfl | rfl | rfl | rfl | rfl | rfl | rfl
    all_goals
      clear h
      go_enter Try.func27, Try.ntmps27
      go_wp2_with fail
      refine (HK.out _).mono ?_
      rintro e w1 ⟨rfl, rfl⟩
      go_wp2_with fail
      refine (HT.out _).mono ?_
      rintro e w1 ⟨rfl, b1⟩
      simp only [show tnC 23 true = 27 from rfl, show tnC 24 true = 28 from rfl, show tnC 25 true = 29 from rfl, show tnC 26 true = 32 from rfl, show tnC 27 true = 27 from rfl, show tnC 28 true = 28 from rfl, show tnC 29 true = 29 from rfl, show tnC 30 true = 30 from rfl, show tnC 31 true = 31 from rfl, show tnC 32 true = 32 from rfl]
      have b1 := Hid.mk' b1
      go_wp2_with fail
      go_ret2
      refine ⟨ret_bi ?_, b1.out⟩
      first | rfl | (show _ = decide _; rw [Bool.eq_iff_iff]; simp; done) | (show _ = !decide _; rw [Bool.eq_iff_iff]; simp; done) | (show _ = decide _; rw [Bool.eq_iff_iff]; simp; omega)
  · have HK : Hid (∀ u, Calls Try.prog 43 #[.int .u8 o] u fun e w' => e = .returned (.bool false) ∧ u = w') := Hid.mk' (fun u => by
      have := compares_any o u
      rw [show (decide (23 ≤ o) && decide (o ≤ 32)) = false by simp; omega] at this
      exact this)
    have e2 : cmB o a b = false := by unfold cmB; rw [if_neg (by omega), if_neg (by omega), if_neg (by omega), if_neg (by omega), if_neg (by omega), if_neg (by omega)]
    have e3 : cmE o = 2 := by unfold cmE; rw [if_neg h]
    rw [e2, e3]
    clear h e2 e3
    go_enter Try.func27, Try.ntmps27
    go_wp2_with fail
    refine (HK.out _).mono ?_
    rintro e w1 ⟨rfl, rfl⟩
    go_wp2_with fail
    go_ret2
    exact ⟨rfl, Below.refl _ _⟩
end Go.Proofs.Ytpmbdnmiokkknaa
