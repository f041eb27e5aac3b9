/- What comes behind a place of a program that is right; the loops' row. -/
import Derived.Test.YtffjddabjjcjpaaFl
namespace Go.Proofs.Ytffjddabjjcjpaa
open Go.ChangeShapes Go.WideShapes Go.ChangeAt Go.RowKit
set_option maxRecDepth 10000
variable {L : List Q5}

/-- A list of places behind one: how it lies. -/
structure NxOk (L : List Q5) (k : Nat) (l : List Int) : Prop where
  len : l.length ≤ 2
  none : l.length = 0 ↔ opA L k = 36
  lies : ∀ (i : Nat) (y : Int), l[i]? = some y → 0 ≤ y ∧ y < L.length ∧ (y ≤ k → opA L k = 34)
  rise : ∀ (y z : Int), l[0]? = some y → l[1]? = some z → y < z
  two : ∀ y : Int, l[1]? = some y → (k : Int) < y
  loops : ∀ (i : Nat) (y : Int), l[i]? = some y → ∀ B E : Nat, enN L L.length B = (E : Int) → (((B : Int) < y ∧ y ≤ E) → ((B : Int) ≤ k ∧ (k : Int) ≤ E)) ∧ (y ≤ k → k = E → y = (B : Int) + 1)

theorem nx_ok (hg : Good L) {k : Nat} (hk : k < L.length) : NxOk L k (nxF L k) := by
  -- to the next place
  have next : opA L k ≠ 36 → ∀ B E : Nat, enN L L.length B = (E : Int) → (((B : Int) < (k : Int) + 1 ∧ (k : Int) + 1 ≤ E) → ((B : Int) ≤ k ∧ (k : Int) ≤ E)) ∧ ((k : Int) + 1 ≤ k → k = E → (k : Int) + 1 = (B : Int) + 1) := by
    intro _ B E _
    constructor
    · intro h; omega
    · intro h; omega
  unfold nxF
  by_cases h36 : opA L k = 36
  · rw [if_pos h36]
    exact ⟨by simp, by simp [h36], by simp, by simp, by simp, by simp⟩
  rw [if_neg h36]
  have hm := hg.more hk h36
  by_cases h22 : opA L k = 22
  · rw [if_pos h22]
    obtain ⟨t, t1, t2, t3, t4, t5, t6⟩ := hg.jump hk (by rw [h22]; decide)
    rw [t1]
    refine ⟨by simp, by simp [h36], ?_, by simp, by simp, ?_⟩
    · intro i y hy
      cases i with
      | zero => simp at hy; subst hy; omega
      | succ i => simp at hy
    · intro i y hy B E hBE
      cases i with
      | zero =>
        simp at hy
        subst hy
        constructor
        · rintro ⟨h1, h2⟩
          have := in_mid hBE (k := t) (by omega) (by omega)
          have hB : (B : Int) ≤ k := by
            cases hs : stk L t with
            | nil => rw [hs] at this; simp at this
            | cons r u =>
              rw [hs] at this t4
              have hr : (r : Int) ≤ k := t4
              have hd := stk_dec (L := L) t
              rw [hs] at hd
              rcases List.mem_cons.1 this with rfl | hq
              · omega
              · have := (List.pairwise_cons.1 hd).1 B hq
                omega
          omega
        · intro h; omega
      | succ i => simp at hy
  rw [if_neg h22]
  by_cases hj : isJ (opA L k) = true
  · rw [if_pos hj]
    obtain ⟨t, t1, t2, t3, t4, t5, t6⟩ := hg.jump hk hj
    by_cases h0 : ofA L k = 0
    · rw [if_pos h0]
      refine ⟨by simp, by simp [h36], ?_, by simp, by simp, ?_⟩
      · intro i y hy
        cases i with
        | zero => simp at hy; subst hy; omega
        | succ i => simp at hy
      · intro i y hy
        cases i with
        | zero => simp at hy; subst hy; exact next h36
        | succ i => simp at hy
    · rw [if_neg h0, t1]
      have ht : (t : Int) = k + 1 + ofA L k := by rw [← t1]; rfl
      refine ⟨by simp, by simp [h36], ?_, ?_, by intro y hy; simp at hy; omega, ?_⟩
      · intro i y hy
        match i, hy with
        | 0, hy => simp at hy; subst hy; omega
        | 1, hy => simp at hy; subst hy; omega
        | i + 2, hy => simp at hy
      · intro y z hy hz
        simp at hy hz
        subst hy hz
        omega
      · intro i y hy
        match i, hy with
        | 0, hy => simp at hy; subst hy; exact next h36
        | 1, hy =>
          simp at hy
          subst hy
          intro B E hBE
          constructor
          · rintro ⟨h1, h2⟩
            have := in_mid hBE (k := t) (by omega) (by omega)
            have hB : (B : Int) ≤ k := by
              cases hs : stk L t with
              | nil => rw [hs] at this; simp at this
              | cons r u =>
                rw [hs] at this t4
                have hr : (r : Int) ≤ k := t4
                have hd := stk_dec (L := L) t
                rw [hs] at hd
                rcases List.mem_cons.1 this with rfl | hq
                · omega
                · have := (List.pairwise_cons.1 hd).1 B hq
                  omega
            omega
          · intro h; omega
        | i + 2, hy => simp at hy
  rw [if_neg hj]
  by_cases h34 : opA L k = 34 ∧ 1 < imA L (top (stk L k)).toNat
  · rw [if_pos h34]
    obtain ⟨r, hr⟩ := hg.end' hk h34.1
    have he := en_top h34.1 hr hk
    have hs := top_mem hr
    have hrk := stk_lt (L := L) (k := k) (r := r) (by rw [hs]; exact List.mem_cons_self)
    rw [hr]
    refine ⟨by simp, by simp [h36], ?_, ?_, by intro y hy; simp at hy; omega, ?_⟩
    · intro i y hy
      match i, hy with
      | 0, hy => simp at hy; subst hy; exact ⟨by omega, by omega, fun _ => h34.1⟩
      | 1, hy => simp at hy; subst hy; omega
      | i + 2, hy => simp at hy
    · intro y z hy hz
      simp at hy hz
      subst hy hz
      omega
    · intro i y hy
      match i, hy with
      | 0, hy =>
        simp at hy
        subst hy
        intro B E hBE
        constructor
        · rintro ⟨h1, h2⟩
          by_cases hB : B = r
          · subst hB
            have : (E : Int) = k := by rw [← hBE, he]
            omega
          · obtain ⟨q1, q2⟩ := nest_two hBE he (by omega) (by omega)
            omega
        · intro h1 h2
          subst h2
          obtain ⟨e', g1, g2, g3, g4, g5, g6⟩ := en_some (L := L) (n := L.length) (j := B) (by omega)
          have : e' = k := by omega
          subst this
          rw [g6] at hs
          have : B = r := (List.cons.inj hs).1
          omega
      | 1, hy => simp at hy; subst hy; exact next h36
      | i + 2, hy => simp at hy
  · rw [if_neg h34]
    refine ⟨by simp, by simp [h36], ?_, by simp, by simp, ?_⟩
    · intro i y hy
      cases i with
      | zero => simp at hy; subst hy; omega
      | succ i => simp at hy
    · intro i y hy
      cases i with
      | zero => simp at hy; subst hy; exact next h36
      | succ i => simp at hy

/-- The loops' row, where there is one. -/
theorem lp_row2 {w : World} {base : Nat} {u : Value} {l : List Lp} (h : w.ownsRow base 43 4 u l.length (lpCs l)) : ∃ a c, u = .slice a l.length c ∧ (l.length = 0 ∨ ∃ g, a = some ⟨g, 0, none⟩ ∧ base ≤ g ∧ g < w.heap.size ∧
    ∀ k b e t d, l[k]? = some (b, e, t, d) → w.cell? ⟨g, k * 4, none⟩ = some (.int .i64 b) ∧ w.cell? ⟨g, k * 4 + 1, none⟩ = some (.int .i64 e) ∧ w.cell? ⟨g, k * 4 + 2, none⟩ = some (.int .i64 t) ∧ w.cell? ⟨g, k * 4 + 3, none⟩ = some (.int .i64 d)) := by
  rcases h.2 with ⟨rfl, h0⟩ | ⟨g, cap, cur, rfl, hb, hg, _⟩
  · exact ⟨none, 0, by rw [h0], .inl h0⟩
  · refine ⟨_, _, rfl, .inr ⟨g, rfl, hb, (Array.getElem?_eq_some_iff.1 hg).1, fun k b e t d hk => ?_⟩⟩
    have hlt := (List.getElem?_eq_some_iff.1 hk).1
    obtain ⟨a0, a1, a2, a3⟩ := lpCs_at l k b e t d hk
    refine ⟨?_, ?_, ?_, ?_⟩
    · rw [h.cellAt (k * 4) (by omega)]; exact a0
    · rw [h.cellAt (k * 4 + 1) (by omega)]; exact a1
    · rw [h.cellAt (k * 4 + 2) (by omega)]; exact a2
    · rw [h.cellAt (k * 4 + 3) (by omega)]; exact a3
end Go.Proofs.Ytffjddabjjcjpaa
