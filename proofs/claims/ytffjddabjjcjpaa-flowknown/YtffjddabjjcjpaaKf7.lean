/- A region in whatever order: the frame behind it, slot by slot. -/
import Derived.Test.YtffjddabjjcjpaaKd7
namespace Go.Proofs.Ytffjddabjjcjpaa
open Go.ChangeShapes Go.WideShapes Go.ChangeAt Go.RowKit Go.Great
set_option maxRecDepth 20000

theorem rgn_map (Φ : Nat → Value → World → Prop) (D : List (List Nat)) (ds : Nat → Nat) (OL : List Op) (m : Nat) (g1 g2 g3 gm : Nat) (ix : Nat → Option Nat) (ops : Array Oper) (Q : Exit → Act → World → Prop) (a0 : Act) (w0 : World)
    (hmono : ∀ i v w w', Φ i v w → Below w.heap.size w w' → Φ i v w')
    (hall : ∀ p ∈ OL.zipIdx, StG Φ D ds g1 g2 g3 gm w0.heap.size p.2 p.1)
    (hlow : ∀ t : Nat, t ≤ 8 → t ≠ 6 → ∀ j, j < m → ds j ≠ t)
    (hix1 : ∀ j, j < m → ix (ds j) = some j) (hix2 : ∀ t j, ix t = some j → j < m ∧ ds j = t)
    (hop : ops.toList.map (·.op) = OL) (hds : ops.toList.map (·.dst) = (List.range m).map (fun j => some (ds j)))
    (hsz : ops.size = m) (hN : a0.tmps.size = 280) (hfree : freeB 280 D ops = true) (he : Env g1 g2 g3 gm (fun t => a0.tmps.getD t undef) w0)
    (hQ : ∀ (f : Nat → Value) (w : World), Below w0.heap.size w0 w → (∀ j, j < m → Φ j (f j) w) → Q .normal ⟨((List.range 280).map (fun t => match ix t with | some j => f j | none => a0.tmps.getD t undef)).toArray, a0.defers⟩ w) :
    wpAny Try.prog .any ops Q ops.size (Array.replicate ops.size false) a0 w0 := by
  have hd1 : ∀ (i : Nat) (o : Oper), ops[i]? = some o → o.dst = some (ds i) := by
    intro i o ho
    have hi : i < m := by rw [← hsz]; exact (Array.getElem?_eq_some_iff.1 ho).1
    have e : (ops.toList.map (·.dst))[i]? = some o.dst := by simp [ho]
    rw [hds] at e
    simp [hi] at e
    exact e.symm
  have hno : ∀ t : Nat, (∀ j, j < m → ds j ≠ t) → ∀ (i : Nat) (o : Oper), ops[i]? = some o → o.dst ≠ some t := by
    intro t ht i o ho e
    rw [hd1 i o ho] at e
    exact ht i (by rw [← hsz]; exact (Array.getElem?_eq_some_iff.1 ho).1) (Option.some.inj e)
  refine wpAny_free D Φ a0 w0 (by rw [hN]; exact hfree) hmono ?_ ?_
  · intro i o a w K ho hb hdep hrest hK
    have e : (ops.toList.map (·.op))[i]? = some o.op := by simp [ho]
    rw [hop] at e
    have hmem : (o.op, i) ∈ OL.zipIdx := by
      rw [List.mem_zipIdx_iff_getElem?]
      exact e
    refine hall (o.op, i) hmem o a w K Q rfl ⟨?_, ?_, ?_, ?_, range_below he.c1 hb, range_below he.c2 hb, range_below he.c3 hb, he.lm.below hb⟩ hb.size (fun j hj => ?_) hK
    · exact (hrest 1 (hno 1 (hlow 1 (by omega) (by omega)))).trans he.t1
    · exact (hrest 2 (hno 2 (hlow 2 (by omega) (by omega)))).trans he.t2
    · exact (hrest 3 (hno 3 (hlow 3 (by omega) (by omega)))).trans he.t3
    · exact (hrest 4 (hno 4 (hlow 4 (by omega) (by omega)))).trans he.t4
    · obtain ⟨-, -, g4, g5⟩ := freeB_at hfree ho
      obtain ⟨e', he', hbd, hon⟩ := g5 j hj
      have hi : i < ops.size := (Array.getElem?_eq_some_iff.1 ho).1
      have hjs : j < ops.size := by have := g4 e' he' hbd; rw [hon] at this; omega
      have hoj : ops[j]? = some ops[j] := Array.getElem?_eq_getElem hjs
      exact hdep j hj _ _ hoj (hd1 j _ hoj)
  · intro a w h1 h2 h3 h4 h5
    have key := hQ (fun j => a.tmps.getD (ds j) undef) w h3 (fun j hj => by
      have hoj : ops[j]? = some ops[j] := Array.getElem?_eq_getElem (by omega)
      exact h4 j _ _ hoj (hd1 j _ hoj))
    have e : a = ⟨((List.range 280).map (fun t => match ix t with | some j => a.tmps.getD (ds j) undef | none => a0.tmps.getD t undef)).toArray, a0.defers⟩ := by
      obtain ⟨tm, df⟩ := a
      simp only at h1 h2 h5 ⊢
      subst h2
      congr 1
      refine Array.ext (by simp [h1, hN]) (fun t ht1 ht2 => ?_)
      simp only [List.getElem_toArray, List.getElem_map, List.getElem_range]
      have e1 : tm[t] = tm.getD t undef := by simp [Array.getD_eq_getD_getElem?, ht1]
      cases hx : ix t with
      | some j =>
        obtain ⟨-, hj⟩ := hix2 t j hx
        simp only [hj]
        exact e1
      | none =>
        rw [e1]
        refine h5 t (hno t (fun j hj hc => ?_))
        rw [← hc, hix1 j hj] at hx
        cases hx
    rw [e]
    exact key

def ix7 (t : Nat) : Option Nat := if t = 6 then some 79 else if 42 ≤ t ∧ t ≤ 120 then some (t - 42) else none
def ix8 (t : Nat) : Option Nat := if t = 200 then some 10 else if 201 ≤ t ∧ t ≤ 210 then some (t - 201) else if 211 ≤ t ∧ t ≤ 212 then some (t - 200) else if 18 ≤ t ∧ t ≤ 19 then some (t - 5) else none
def ix9 (t : Nat) : Option Nat := if t = 213 then some 5 else if 214 ≤ t ∧ t ≤ 218 then some (t - 214) else if 219 ≤ t ∧ t ≤ 220 then some (t - 213) else if 20 ≤ t ∧ t ≤ 21 then some (t - 12) else none

theorem ix7_1 : ∀ j, j < 80 → ix7 (ds7 j) = some j := by decide
theorem ix8_1 : ∀ j, j < 15 → ix8 (ds8 j) = some j := by decide
theorem ix9_1 : ∀ j, j < 10 → ix9 (ds9 j) = some j := by decide
theorem ix7_2 (t j : Nat) (h : ix7 t = some j) : j < 80 ∧ ds7 j = t := by
  unfold ix7 at h
  split at h
  · rename_i e
    cases h
    subst e
    exact ⟨by omega, rfl⟩
  split at h
  · cases h
    unfold ds7
    split <;> omega
  · cases h
theorem ix8_2 (t j : Nat) (h : ix8 t = some j) : j < 15 ∧ ds8 j = t := by
  have key : ∀ j, j < 15 → ∀ t, t < 300 → ix8 t = some j → ds8 j = t := by decide +kernel
  have hj : j < 15 ∧ t < 300 := by
    unfold ix8 at h
    split at h
    · cases h; omega
    split at h
    · cases h; omega
    split at h
    · cases h; omega
    split at h
    · cases h; omega
    · cases h
  exact ⟨hj.1, key j hj.1 t hj.2 h⟩
theorem ix9_2 (t j : Nat) (h : ix9 t = some j) : j < 10 ∧ ds9 j = t := by
  have key : ∀ j, j < 10 → ∀ t, t < 300 → ix9 t = some j → ds9 j = t := by decide +kernel
  have hj : j < 10 ∧ t < 300 := by
    unfold ix9 at h
    split at h
    · cases h; omega
    split at h
    · cases h; omega
    split at h
    · cases h; omega
    split at h
    · cases h; omega
    · cases h
  exact ⟨hj.1, key j hj.1 t hj.2 h⟩
theorem low7 : ∀ t : Nat, t ≤ 8 → t ≠ 6 → ∀ j, j < 80 → ds7 j ≠ t := by
  intro t ht h6 j hj
  unfold ds7
  split <;> omega
theorem low8 : ∀ t : Nat, t ≤ 8 → t ≠ 6 → ∀ j, j < 15 → ds8 j ≠ t := by
  have : ∀ j, j < 15 → 8 < ds8 j := by decide
  intro t ht _ j hj
  have := this j hj
  omega
theorem low9 : ∀ t : Nat, t ≤ 8 → t ≠ 6 → ∀ j, j < 10 → ds9 j ≠ t := by
  have : ∀ j, j < 10 → 8 < ds9 j := by decide
  intro t ht _ j hj
  have := this j hj
  omega
theorem all7G {g1 g2 g3 gm B : Nat} : ∀ p ∈ OL7.zipIdx, StG (ph7 gm) D7 ds7 g1 g2 g3 gm B p.2 p.1 := fun p hp o a w K Q ho he _ hd hK => all7 p hp o a w K Q ho he hd hK
end Go.Proofs.Ytffjddabjjcjpaa
