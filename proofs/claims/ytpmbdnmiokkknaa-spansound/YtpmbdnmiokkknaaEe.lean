/- What follows of the cuts: no number is lost, what is left lies under what there was. -/
import Derived.Test.YtpmbdnmiokkknaaDm
namespace Go.Proofs.Ytpmbdnmiokkknaa
open Go.ChangeShapes Go.WideShapes Go.ChangeAt Go.RowKit
set_option maxRecDepth 10000
set_option linter.unusedVariables false

theorem under_iff (al ah bl bh : Int) : unB al ah bl bh = true ↔ bl ≤ al ∧ ah ≤ bh := by unfold unB; simp
theorem has_iff (l h n : Int) : hasB l h n = true ↔ l ≤ n ∧ n ≤ h := by unfold hasB; simp

/-- What a cut leaves of both, told by relation: that it can be; its ends. -/
theorem cu_left (r : Int) (so : Bool) (al ah bl bh x y : Int) (hr : r = 1 ∨ r = 2 ∨ r = 3) (ha : al ≤ x ∧ x ≤ ah) (hb : bl ≤ y ∧ y ≤ bh)
    (hs : (if r = 1 then decide (x = y) else if r = 2 then decide (x < y) else decide (x ≤ y)) = so) :
    cuC r so al ah bl bh = true ∧ (cuX r so al ah bl bh).1 ≤ x ∧ x ≤ (cuX r so al ah bl bh).2 ∧ (cuY r so al ah bl bh).1 ≤ y ∧ y ≤ (cuY r so al ah bl bh).2 := by
  rcases hr with rfl | rfl | rfl <;> cases so
  · have h1 : ¬ x = y := by simpa using hs
    unfold cuC cuX cuY neC woS
    simp only [if_pos, Bool.false_eq_true, if_false]
    refine ⟨?_, ?_⟩
    · rw [Bool.or_eq_true]
      by_cases k : al = ah
      · right
        simp only [Bool.not_eq_true', Bool.and_eq_false_iff, decide_eq_false_iff_not]
        by_cases j : al = bl
        · right; omega
        · left; exact j
      · left; simp [k]
    · split <;> split <;> (try split) <;> (try split) <;> (try split) <;> (try split) <;> simp only [] at * <;> omega
  · have h1 : x = y := by simpa using hs
    unfold cuC cuX cuY mx mn
    simp only [if_pos, decide_eq_true_eq]
    split <;> split <;> simp only [] at * <;> omega
  · have h1 : ¬ x < y := by simpa using hs
    have c : odC 0 bl ah = true := decide_eq_true ⟨by omega, by omega⟩
    have e1 : cuC 2 false al ah bl bh = odC 0 bl ah := rfl
    have e2 : cuX 2 false al ah bl bh = if odC 0 bl ah = true then odY 0 bl bh al ah else (0, 0) := rfl
    have e3 : cuY 2 false al ah bl bh = if odC 0 bl ah = true then odX 0 bl bh al ah else (0, 0) := rfl
    rw [e1, e2, e3, if_pos c, if_pos c]
    refine ⟨c, ?_⟩
    unfold odX odY mx mn
    simp only []
    split <;> split <;> omega
  · have h1 : x < y := by simpa using hs
    have c : odC 1 al bh = true := decide_eq_true ⟨by omega, by omega⟩
    have e1 : cuC 2 true al ah bl bh = odC 1 al bh := rfl
    have e2 : cuX 2 true al ah bl bh = if odC 1 al bh = true then odX 1 al ah bl bh else (0, 0) := rfl
    have e3 : cuY 2 true al ah bl bh = if odC 1 al bh = true then odY 1 al ah bl bh else (0, 0) := rfl
    rw [e1, e2, e3, if_pos c, if_pos c]
    refine ⟨c, ?_⟩
    unfold odX odY mx mn
    simp only []
    split <;> split <;> omega
  · have h1 : ¬ x ≤ y := by simpa using hs
    have c : odC 1 bl ah = true := decide_eq_true ⟨by omega, by omega⟩
    have e1 : cuC 3 false al ah bl bh = odC 1 bl ah := rfl
    have e2 : cuX 3 false al ah bl bh = if odC 1 bl ah = true then odY 1 bl bh al ah else (0, 0) := rfl
    have e3 : cuY 3 false al ah bl bh = if odC 1 bl ah = true then odX 1 bl bh al ah else (0, 0) := rfl
    rw [e1, e2, e3, if_pos c, if_pos c]
    refine ⟨c, ?_⟩
    unfold odX odY mx mn
    simp only []
    split <;> split <;> omega
  · have h1 : x ≤ y := by simpa using hs
    have c : odC 0 al bh = true := decide_eq_true ⟨by omega, by omega⟩
    have e1 : cuC 3 true al ah bl bh = odC 0 al bh := rfl
    have e2 : cuX 3 true al ah bl bh = if odC 0 al bh = true then odX 0 al ah bl bh else (0, 0) := rfl
    have e3 : cuY 3 true al ah bl bh = if odC 0 al bh = true then odY 0 al ah bl bh else (0, 0) := rfl
    rw [e1, e2, e3, if_pos c, if_pos c]
    refine ⟨c, ?_⟩
    unfold odX odY mx mn
    simp only []
    split <;> split <;> omega

/-- .. whatever it leaves lies under what there was, and may be. -/
theorem cu_under (r : Int) (so : Bool) (al ah bl bh : Int) (hr : r = 1 ∨ r = 2 ∨ r = 3) (ha : al ≤ ah) (hb : bl ≤ bh) (hc : cuC r so al ah bl bh = true) :
    al ≤ (cuX r so al ah bl bh).1 ∧ (cuX r so al ah bl bh).1 ≤ (cuX r so al ah bl bh).2 ∧ (cuX r so al ah bl bh).2 ≤ ah ∧ bl ≤ (cuY r so al ah bl bh).1 ∧ (cuY r so al ah bl bh).1 ≤ (cuY r so al ah bl bh).2 ∧ (cuY r so al ah bl bh).2 ≤ bh := by
  rcases hr with rfl | rfl | rfl <;> cases so
  · unfold cuX cuY woS
    simp only [if_pos, Bool.false_eq_true, if_false]
    split <;> (try split) <;> (try split) <;> (try split) <;> (try split) <;> (try split) <;> simp only [] at * <;> omega
  · have h1 : mx al bl ≤ mn ah bh := by have : decide (mx al bl ≤ mn ah bh) = true := hc; simpa using this
    have := mx_le al bl
    have := mn_le ah bh
    show al ≤ mx al bl ∧ mx al bl ≤ mn ah bh ∧ mn ah bh ≤ ah ∧ bl ≤ mx al bl ∧ mx al bl ≤ mn ah bh ∧ mn ah bh ≤ bh
    omega
  · have c : odC 0 bl ah = true := hc
    have c' := of_decide_eq_true c
    have e2 : cuX 2 false al ah bl bh = if odC 0 bl ah = true then odY 0 bl bh al ah else (0, 0) := rfl
    have e3 : cuY 2 false al ah bl bh = if odC 0 bl ah = true then odX 0 bl bh al ah else (0, 0) := rfl
    rw [e2, e3, if_pos c, if_pos c]
    unfold odX odY mx mn
    simp only []
    split <;> split <;> omega
  · have c : odC 1 al bh = true := hc
    have c' := of_decide_eq_true c
    have e2 : cuX 2 true al ah bl bh = if odC 1 al bh = true then odX 1 al ah bl bh else (0, 0) := rfl
    have e3 : cuY 2 true al ah bl bh = if odC 1 al bh = true then odY 1 al ah bl bh else (0, 0) := rfl
    rw [e2, e3, if_pos c, if_pos c]
    unfold odX odY mx mn
    simp only []
    split <;> split <;> omega
  · have c : odC 1 bl ah = true := hc
    have c' := of_decide_eq_true c
    have e2 : cuX 3 false al ah bl bh = if odC 1 bl ah = true then odY 1 bl bh al ah else (0, 0) := rfl
    have e3 : cuY 3 false al ah bl bh = if odC 1 bl ah = true then odX 1 bl bh al ah else (0, 0) := rfl
    rw [e2, e3, if_pos c, if_pos c]
    unfold odX odY mx mn
    simp only []
    split <;> split <;> omega
  · have c : odC 0 al bh = true := hc
    have c' := of_decide_eq_true c
    have e2 : cuX 3 true al ah bl bh = if odC 0 al bh = true then odX 0 al ah bl bh else (0, 0) := rfl
    have e3 : cuY 3 true al ah bl bh = if odC 0 al bh = true then odY 0 al ah bl bh else (0, 0) := rfl
    rw [e2, e3, if_pos c, if_pos c]
    unfold odX odY mx mn
    simp only []
    split <;> split <;> omega

/-- The comparison of numbers, by relation. -/
theorem cm_rel (o x y : Int) (ho : 23 ≤ o ∧ o ≤ 32) (so : Bool) : (if toR o = 1 then decide (x = y) else if toR o = 2 then decide (x < y) else decide (x ≤ y)) = toB o so ↔ cmB o x y = so := by
  rcases cm_cases ho with rfl | rfl | rfl | rfl | rfl | rfl | rfl | rfl | rfl | rfl <;> cases so <;> simp [toR, toB, cmB] <;> omega

/-- All that SpanLeft asks of a cut that is as the numbers are. -/
theorem ct_left (o al ah bl bh x y : Int) (ho : 23 ≤ o ∧ o ≤ 32) (ha : al ≤ x ∧ x ≤ ah) (hb : bl ≤ y ∧ y ≤ bh) :
    ctE o al ah bl bh = 0 ∧ ctC o (cmB o x y) al ah bl bh = true ∧ hasB (ctX o (cmB o x y) al ah bl bh).1 (ctX o (cmB o x y) al ah bl bh).2 x = true ∧ hasB (ctY o (cmB o x y) al ah bl bh).1 (ctY o (cmB o x y) al ah bl bh).2 y = true ∧
    unB (ctX o (cmB o x y) al ah bl bh).1 (ctX o (cmB o x y) al ah bl bh).2 al ah = true ∧ unB (ctY o (cmB o x y) al ah bl bh).1 (ctY o (cmB o x y) al ah bl bh).2 bl bh = true := by
  have hE : ctE o al ah bl bh = 0 := by unfold ctE cbS; rw [if_pos ho, if_pos ⟨by omega, by omega⟩]
  obtain ⟨h1, h2⟩ := cu_left (toR o) (toB o (cmB o x y)) al ah bl bh x y (toR_in ho) ha hb ((cm_rel o x y ho _).2 rfl)
  have hC : ctC o (cmB o x y) al ah bl bh = true := by unfold ctC; rw [hE, h1]; rfl
  have h3 := cu_under (toR o) (toB o (cmB o x y)) al ah bl bh (toR_in ho) (by omega) (by omega) h1
  refine ⟨hE, hC, ?_⟩
  unfold ctX ctY
  rw [if_pos hC, if_pos hC, has_iff, has_iff, under_iff, under_iff]
  omega
/-- .. and of one that is not. -/
theorem ct_other (o al ah bl bh : Int) (so : Bool) (ho : 23 ≤ o ∧ o ≤ 32) (ha : al ≤ ah) (hb : bl ≤ bh) :
    ctE o al ah bl bh = 0 ∧ (ctC o so al ah bl bh = true → unB (ctX o so al ah bl bh).1 (ctX o so al ah bl bh).2 al ah = true ∧ unB (ctY o so al ah bl bh).1 (ctY o so al ah bl bh).2 bl bh = true ∧ ckS (ctX o so al ah bl bh).1 (ctX o so al ah bl bh).2 = 0 ∧ ckS (ctY o so al ah bl bh).1 (ctY o so al ah bl bh).2 = 0) ∧
    (ctC o so al ah bl bh = false → ctX o so al ah bl bh = (0, 0) ∧ ctY o so al ah bl bh = (0, 0)) := by
  have hE : ctE o al ah bl bh = 0 := by unfold ctE cbS; rw [if_pos ho, if_pos ⟨ha, hb⟩]
  refine ⟨hE, fun hC => ?_, fun hC => ?_⟩
  · have h1 : cuC (toR o) (toB o so) al ah bl bh = true := by
      have := hC
      unfold ctC at this
      rw [hE] at this
      simpa using this
    have h3 := cu_under (toR o) (toB o so) al ah bl bh (toR_in ho) ha hb h1
    unfold ctX ctY
    rw [if_pos hC, if_pos hC, under_iff, under_iff, ckS_ok, ckS_ok]
    omega
  · unfold ctX ctY
    rw [hC]
    exact ⟨rfl, rfl⟩
end Go.Proofs.Ytpmbdnmiokkknaa
