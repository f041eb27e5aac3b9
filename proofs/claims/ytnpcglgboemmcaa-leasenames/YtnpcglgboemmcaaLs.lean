/- The program's book against the document's: the loans are the ranges that are out, with their numbers. -/
import Derived.Test.YtnpcglgboemmcaaLq
import Derived.Test.YtnpcglgboemmcaaLr
namespace Go.Proofs.Ytnpcglgboemmcaa
open Go.ChangeShapes Go.WideShapes Go.ChangeAt Go.RowKit

/-- The loans of ranges and marks, numbered from i on. -/
def live : Nat → List Rg → List Bool → List Loan
  | i, r :: R, f :: F => if f then ((i : Int), r.1, r.2) :: live (i + 1) R F else live (i + 1) R F
  | _, _, _ => []

theorem live_snoc : ∀ (R : List Rg) (F : List Bool) (i : Nat) (r : Rg), F.length = R.length → live i (R ++ [r]) (F ++ [true]) = live i R F ++ [(((i + R.length : Nat) : Int), r.1, r.2)]
  | [], [], i, r, _ => by simp [live]
  | x :: R, f :: F, i, r, h => by
    have ih := live_snoc R F (i + 1) r (by simpa using h)
    have e : i + 1 + R.length = i + (x :: R).length := by simp; omega
    rw [e] at ih
    cases f <;> simp only [List.cons_append, live, ih, if_true, if_false, Bool.false_eq_true]

theorem live_any (u v : Int) : ∀ (R : List Rg) (F : List Bool) (i : Nat), ((live i R F).any fun l => mt l.2.1 l.2.2 u v) = rbusy R F u v
  | [], _, _ => by simp [live, rbusy]
  | _ :: _, [], _ => by simp [live, rbusy]
  | r :: R, f :: F, i => by
    have ih := live_any u v R F (i + 1)
    unfold rbusy at ih ⊢
    cases f <;> simp [live, ih]

theorem live_outs : ∀ (R : List Rg) (F : List Bool) (i : Nat), rgs (live i R F) = outs R F
  | [], _, _ => by simp [live, rgs, outs]
  | _ :: _, [], _ => by simp [live, rgs, outs]
  | r :: R, f :: F, i => by
    have ih := live_outs R F (i + 1)
    unfold rgs outs at ih ⊢
    cases f <;> simp [live, ih]

theorem live_ids : ∀ (R : List Rg) (F : List Bool) (i : Nat) (l : Loan), l ∈ live i R F → (i : Int) ≤ l.1
  | [], _, _, _, h => by simp [live] at h
  | _ :: _, [], _, _, h => by simp [live] at h
  | r :: R, f :: F, i, l, h => by
    cases f with
    | false =>
      have := live_ids R F (i + 1) l (by simpa [live] using h)
      omega
    | true =>
      simp only [live, if_true] at h
      rcases List.mem_cons.1 h with rfl | h
      · simp
      · have := live_ids R F (i + 1) l h
        omega

theorem backL_cons (l : Loan) (L : List Loan) (id : Int) : backL (l :: L) id = if l.1 == id then L else l :: backL L id := by
  unfold backL
  rw [List.findIdx?_cons]
  by_cases e : (l.1 == id) = true
  · simp [e]
  · simp only [e, Bool.false_eq_true, if_false]
    cases List.findIdx? (fun l => l.1 == id) L with
    | none => simp
    | some k => simp

theorem backL_none (L : List Loan) (id : Int) (h : ∀ l ∈ L, l.1 ≠ id) : backL L id = L := by
  unfold backL
  rw [List.findIdx?_eq_none_iff.2 (fun l hl => by simpa using h l hl)]

theorem live_back : ∀ (R : List Rg) (F : List Bool) (i : Nat) (id : Int), backL (live i R F) id = live i R (if (i : Int) ≤ id then F.set (id - i).toNat false else F)
  | [], F, i, id => by simp [live, backL]
  | _ :: _, [], i, id => by simp [live, backL]
  | r :: R, f :: F, i, id => by
    have ih := live_back R F (i + 1) id
    by_cases h1 : id = (i : Int)
    · subst h1
      have e : ((i : Int) - (i : Int)).toNat = 0 := by omega
      rw [if_pos (Int.le_refl _), e, List.set_cons_zero]
      cases f with
      | true => simp only [live, if_true, backL_cons, beq_self_eq_true, Bool.false_eq_true, if_false]
      | false =>
        simp only [live, Bool.false_eq_true, if_false]
        exact backL_none _ _ (fun l hl => by have := live_ids R F (i + 1) l hl; omega)
    · by_cases h2 : (i : Int) ≤ id
      · have e : (id - (i : Int)).toNat = (id - ((i + 1 : Nat) : Int)).toNat + 1 := by omega
        rw [if_pos (by omega)] at ih
        rw [if_pos h2, e, List.set_cons_succ]
        cases f with
        | true =>
          have hne : ((i : Int) == id) = false := by simpa using fun e => h1 e.symm
          simp only [live, if_true, backL_cons, hne, Bool.false_eq_true, if_false, ih]
        | false => simp only [live, Bool.false_eq_true, if_false, ih]
      · rw [if_neg (by omega)] at ih
        rw [if_neg h2]
        cases f with
        | true =>
          have hne : ((i : Int) == id) = false := by simpa using fun e => h1 e.symm
          simp only [live, if_true, backL_cons, hne, Bool.false_eq_true, if_false, ih]
        | false => simp only [live, Bool.false_eq_true, if_false, ih]

theorem live_has : ∀ (R : List Rg) (F : List Bool) (i : Nat) (id : Int), F.length = R.length → hasId (live i R F) id = (decide ((i : Int) ≤ id) && F.getD (id - i).toNat false)
  | [], [], i, id, _ => by simp [live, hasId]
  | r :: R, f :: F, i, id, h => by
    have ih := live_has R F (i + 1) id (by simpa using h)
    unfold hasId at ih ⊢
    by_cases h1 : id = (i : Int)
    · subst h1
      have e : ((i : Int) - (i : Int)).toNat = 0 := by omega
      rw [e]
      cases f with
      | true => simp [live]
      | false =>
        simp only [live, Bool.false_eq_true, if_false, ih]
        rw [decide_eq_false (by omega : ¬ ((i + 1 : Nat) : Int) ≤ (i : Int))]
        simp
    · have hne : ((i : Int) == id) = false := by simpa using fun e => h1 e.symm
      have key : (decide (((i + 1 : Nat) : Int) ≤ id) && F.getD (id - ((i + 1 : Nat) : Int)).toNat false) = (decide ((i : Int) ≤ id) && (f :: F).getD (id - (i : Int)).toNat false) := by
        by_cases h2 : (i : Int) ≤ id
        · have e : (id - (i : Int)).toNat = (id - ((i + 1 : Nat) : Int)).toNat + 1 := by omega
          have h3 : ((i + 1 : Nat) : Int) ≤ id := by omega
          rw [e, decide_eq_true h2, decide_eq_true h3]
          simp
        · have h3 : ¬ ((i + 1 : Nat) : Int) ≤ id := by omega
          rw [decide_eq_false h2, decide_eq_false h3]
          simp
      cases f with
      | true =>
        simp only [live, if_true, List.any_cons, hne, Bool.false_or, ih]
        exact key
      | false =>
        simp only [live, Bool.false_eq_true, if_false, ih]
        exact key

/-- Back, in both books. -/
theorem both_back (R : List Rg) (F : List Bool) (id : Int) (h : F.length = R.length) : backE (live 0 R F) id = (if isOut F id then 0 else 22) ∧ backL (live 0 R F) id = live 0 R (if isOut F id then F.set id.toNat false else F) := by
  have h1 := live_has R F 0 id h
  have e0 : (id - ((0 : Nat) : Int)).toNat = id.toNat := by omega
  rw [e0] at h1
  have h2 : hasId (live 0 R F) id = isOut F id := by
    rw [h1]; unfold isOut; simp
  refine ⟨by unfold backE; rw [h2], ?_⟩
  rw [live_back, e0]
  by_cases ho : isOut F id = true
  · have : ((0 : Nat) : Int) ≤ id := by
      unfold isOut at ho; simp at ho; omega
    rw [if_pos this, if_pos ho]
  · rw [if_neg ho]
    by_cases h0 : ((0 : Nat) : Int) ≤ id
    · rw [if_pos h0]
      congr 1
      have hf : F.getD id.toNat false = false := by
        unfold isOut at ho
        simp only [Bool.and_eq_true, decide_eq_true_eq, not_and, Bool.not_eq_true] at ho
        exact ho (by omega)
      apply List.ext_getElem?
      intro j
      by_cases e : id.toNat = j
      · subst e
        rw [List.getElem?_set_self']
        cases hg : F[id.toNat]? with
        | none => rfl
        | some b => simp [List.getD, hg] at hf; simp [hf]
      · rw [List.getElem?_set_ne e]
    · rw [if_neg h0]
end Go.Proofs.Ytnpcglgboemmcaa
