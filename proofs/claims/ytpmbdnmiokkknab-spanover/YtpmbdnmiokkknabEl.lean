/- Cut of greater spans tells greater ones; Join is the least span over both. -/
import Derived.Test.YtpmbdnmiokkknabEk
namespace Go.Proofs.Ytpmbdnmiokkknab
open Go.ChangeShapes Go.WideShapes Go.ChangeAt Go.RowKit
set_option maxRecDepth 10000
set_option linter.unusedVariables false

theorem cu_over (r : Int) (so : Bool) {al ah bl bh cl ch dl dh : Int} (o : Ov al ah bl bh cl ch dl dh) (hr : r = 1 ∨ r = 2 ∨ r = 3) (hc : cuC r so al ah bl bh = true) :
    cuC r so cl ch dl dh = true ∧ Sub2 (cuX r so al ah bl bh) (cuX r so cl ch dl dh) ∧ Sub2 (cuY r so al ah bl bh) (cuY r so cl ch dl dh) := by
  obtain ⟨o1, o2, o3, o4, o5, o6⟩ := o
  rcases hr with rfl | rfl | rfl <;> cases so
  · have h1 : ¬ (al = ah ∧ al = bl ∧ ah = bh) := by
      have : neC al ah bl bh = true := hc
      unfold neC at this
      intro k
      simp [k.1, k.2.2] at this
      omega
    have h2 : neC cl ch dl dh = true := by
      unfold neC
      rw [Bool.or_eq_true]
      by_cases k : cl = ch
      · right
        simp only [Bool.not_eq_true', Bool.and_eq_false_iff, decide_eq_false_iff_not]
        by_cases j : cl = dl
        · right; omega
        · left; exact j
      · left; simp [k]
    refine ⟨h2, ?_⟩
    show Sub2 (woS al ah bl bh) (woS cl ch dl dh) ∧ Sub2 (woS bl bh al ah) (woS dl dh cl ch)
    unfold woS Sub2
    constructor
    · split <;> (try split) <;> (try split) <;> (try split) <;> (try split) <;> (try split) <;> simp only [] at * <;> omega
    · split <;> (try split) <;> (try split) <;> (try split) <;> (try split) <;> (try split) <;> simp only [] at * <;> omega
  · have h1 : mx al bl ≤ mn ah bh := by have : decide (mx al bl ≤ mn ah bh) = true := hc; simpa using this
    have a1 := mx_le al bl
    have a2 := mn_le ah bh
    have a3 := mx_le cl dl
    have a4 := mn_le ch dh
    have h2 : decide (mx cl dl ≤ mn ch dh) = true := by simp only [decide_eq_true_eq]; omega
    refine ⟨h2, ?_⟩
    show Sub2 (mx al bl, mn ah bh) (mx cl dl, mn ch dh) ∧ Sub2 (mx al bl, mn ah bh) (mx cl dl, mn ch dh)
    unfold Sub2
    simp only []
    omega
  · have c : odC 0 bl ah = true := hc
    have c' := of_decide_eq_true c
    have d : odC 0 dl ch = true := decide_eq_true (by omega)
    have e2 : ∀ p q r s : Int, cuX 2 false p q r s = if odC 0 r q = true then odY 0 r s p q else (0, 0) := fun _ _ _ _ => rfl
    have e3 : ∀ p q r s : Int, cuY 2 false p q r s = if odC 0 r q = true then odX 0 r s p q else (0, 0) := fun _ _ _ _ => rfl
    refine ⟨d, ?_⟩
    rw [e2, e3, e2, e3, if_pos c, if_pos c, if_pos d, if_pos d]
    unfold odX odY mx mn Sub2
    simp only []
    split <;> split <;> split <;> split <;> omega
  · have c : odC 1 al bh = true := hc
    have c' := of_decide_eq_true c
    have d : odC 1 cl dh = true := decide_eq_true (by omega)
    have e2 : ∀ p q r s : Int, cuX 2 true p q r s = if odC 1 p s = true then odX 1 p q r s else (0, 0) := fun _ _ _ _ => rfl
    have e3 : ∀ p q r s : Int, cuY 2 true p q r s = if odC 1 p s = true then odY 1 p q r s else (0, 0) := fun _ _ _ _ => rfl
    refine ⟨d, ?_⟩
    rw [e2, e3, e2, e3, if_pos c, if_pos c, if_pos d, if_pos d]
    unfold odX odY mx mn Sub2
    simp only []
    split <;> split <;> split <;> split <;> omega
  · have c : odC 1 bl ah = true := hc
    have c' := of_decide_eq_true c
    have d : odC 1 dl ch = true := decide_eq_true (by omega)
    have e2 : ∀ p q r s : Int, cuX 3 false p q r s = if odC 1 r q = true then odY 1 r s p q else (0, 0) := fun _ _ _ _ => rfl
    have e3 : ∀ p q r s : Int, cuY 3 false p q r s = if odC 1 r q = true then odX 1 r s p q else (0, 0) := fun _ _ _ _ => rfl
    refine ⟨d, ?_⟩
    rw [e2, e3, e2, e3, if_pos c, if_pos c, if_pos d, if_pos d]
    unfold odX odY mx mn Sub2
    simp only []
    split <;> split <;> split <;> split <;> omega
  · have c : odC 0 al bh = true := hc
    have c' := of_decide_eq_true c
    have d : odC 0 cl dh = true := decide_eq_true (by omega)
    have e2 : ∀ p q r s : Int, cuX 3 true p q r s = if odC 0 p s = true then odX 0 p q r s else (0, 0) := fun _ _ _ _ => rfl
    have e3 : ∀ p q r s : Int, cuY 3 true p q r s = if odC 0 p s = true then odY 0 p q r s else (0, 0) := fun _ _ _ _ => rfl
    refine ⟨d, ?_⟩
    rw [e2, e3, e2, e3, if_pos c, if_pos c, if_pos d, if_pos d]
    unfold odX odY mx mn Sub2
    simp only []
    split <;> split <;> split <;> split <;> omega

theorem un_sub {p q : Int × Int} (h : Sub2 p q) : unB p.1 p.2 q.1 q.2 = true := by unfold unB; simp [h.1, h.2]

/-- Both cuts, and that the second lies over the first. -/
theorem over_cut (c : Int) (so : Bool) (al ah bl bh cl ch dl dh : Int) (o : Ov al ah bl bh cl ch dl dh) (h : U4 al ah bl bh) (k : U4 cl ch dl dh) (hc : 23 ≤ c ∧ c ≤ 32) :
    ∃ (C D : Bool) (P1 P2 Q1 Q2 R1 R2 S1 S2 : Int),
      (∀ u, Calls Try.prog 10 #[.int .u8 c, .bool so, spV (al, ah), spV (bl, bh)] u fun e w' => e = .returned (.tuple #[spV (P1, P2), spV (Q1, Q2), .bool C, .int .i64 0]) ∧ Below u.heap.size u w') ∧
      (∀ u, Calls Try.prog 10 #[.int .u8 c, .bool so, spV (cl, ch), spV (dl, dh)] u fun e w' => e = .returned (.tuple #[spV (R1, R2), spV (S1, S2), .bool D, .int .i64 0]) ∧ Below u.heap.size u w') ∧
      (C = true → D = true ∧ (∀ u, Calls Try.prog 8 #[spV (P1, P2), spV (R1, R2)] u fun e w' => e = .returned (.bool true) ∧ Below u.heap.size u w') ∧
        (∀ u, Calls Try.prog 8 #[spV (Q1, Q2), spV (S1, S2)] u fun e w' => e = .returned (.bool true) ∧ Below u.heap.size u w')) := by
  have hE : ctE c al ah bl bh = 0 := by unfold ctE cbS; rw [if_pos hc, if_pos ⟨o.ha, o.hb⟩]
  have hF : ctE c cl ch dl dh = 0 := by unfold ctE cbS; rw [if_pos hc, if_pos ⟨by have := o.ha; have := o.a1; have := o.a2; omega, by have := o.hb; have := o.b1; have := o.b2; omega⟩]
  refine ⟨ctC c so al ah bl bh, ctC c so cl ch dl dh, (ctX c so al ah bl bh).1, (ctX c so al ah bl bh).2, (ctY c so al ah bl bh).1, (ctY c so al ah bl bh).2,
    (ctX c so cl ch dl dh).1, (ctX c so cl ch dl dh).2, (ctY c so cl ch dl dh).1, (ctY c so cl ch dl dh).2, fun u => ?_, fun u => ?_, fun hC => ?_⟩
  · have := pcut_any c so al ah bl bh u h
    rw [hE] at this
    exact this
  · have := pcut_any c so cl ch dl dh u k
    rw [hF] at this
    exact this
  · have h1 : cuC (toR c) (toB c so) al ah bl bh = true := by
      have := hC
      unfold ctC at this
      rw [hE] at this
      simpa using this
    obtain ⟨g1, g2, g3⟩ := cu_over (toR c) (toB c so) o (toR_in hc) h1
    have hD : ctC c so cl ch dl dh = true := by unfold ctC; rw [hF, g1]; rfl
    refine ⟨hD, fun u => ?_, fun u => ?_⟩
    · have := under_any (ctX c so al ah bl bh).1 (ctX c so al ah bl bh).2 (ctX c so cl ch dl dh).1 (ctX c so cl ch dl dh).2 u
      rw [un_sub (by unfold ctX; rw [if_pos hC, if_pos hD]; exact g2)] at this
      exact this
    · have := under_any (ctY c so al ah bl bh).1 (ctY c so al ah bl bh).2 (ctY c so cl ch dl dh).1 (ctY c so cl ch dl dh).2 u
      rw [un_sub (by unfold ctY; rw [if_pos hC, if_pos hD]; exact g3)] at this
      exact this

/-- Both sums, and that the second lies over the first where both are told. -/
theorem over_do (p al ah bl bh cl ch dl dh : Int) (o : Ov al ah bl bh cl ch dl dh) (h : U4 al ah bl bh) (k : U4 cl ch dl dh) :
    ∃ (E F P1 P2 R1 R2 : Int),
      (∀ u, Calls Try.prog 9 #[.int .u8 p, spV (al, ah), spV (bl, bh)] u fun e w' => e = .returned (.tuple #[spV (P1, P2), .int .i64 E]) ∧ Below u.heap.size u w') ∧
      (∀ u, Calls Try.prog 9 #[.int .u8 p, spV (cl, ch), spV (dl, dh)] u fun e w' => e = .returned (.tuple #[spV (R1, R2), .int .i64 F]) ∧ Below u.heap.size u w') ∧
      (E = 0 → F = 0 → ∀ u, Calls Try.prog 8 #[spV (P1, P2), spV (R1, R2)] u fun e w' => e = .returned (.bool true) ∧ Below u.heap.size u w') :=
  ⟨doE p al ah bl bh, doE p cl ch dl dh, (doS p al ah bl bh).1, (doS p al ah bl bh).2, (doS p cl ch dl dh).1, (doS p cl ch dl dh).2, fun u => do_any p al ah bl bh u h, fun u => do_any p cl ch dl dh u k, fun e1 e2 u => by
    have := under_any (doS p al ah bl bh).1 (doS p al ah bl bh).2 (doS p cl ch dl dh).1 (doS p cl ch dl dh).2 u
    rw [un_sub (ov_do p al ah bl bh cl ch dl dh o h k e1 e2)] at this
    exact this⟩
end Go.Proofs.Ytpmbdnmiokkknab
