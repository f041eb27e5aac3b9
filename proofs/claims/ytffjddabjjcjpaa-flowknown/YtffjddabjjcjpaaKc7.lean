/- FlowKnown's region, whatever its order; what is known of its programs. -/
import Derived.Test.YtffjddabjjcjpaaKb7
namespace Go.Proofs.Ytffjddabjjcjpaa
open Go.ChangeShapes Go.WideShapes Go.ChangeAt Go.RowKit Go.Great
set_option maxRecDepth 20000

/-- The region that lays the programs. -/
theorem reg7 (g1 g2 g3 gm : Nat) (ops : Array Oper) (Q : Exit → Act → World → Prop) (a0 : Act) (w0 : World) (hop : ops.toList.map (·.op) = OL7) (hds : ops.toList.map (·.dst) = (List.range 80).map (fun j => some (ds7 j)))
    (hsz : ops.size = 80) (hN : a0.tmps.size = 280) (hfree : freeB 280 D7 ops = true) (he : Env g1 g2 g3 gm (fun t => a0.tmps.getD t undef) w0)
    (hQ : ∀ a w, a.tmps.size = a0.tmps.size → a.defers = a0.defers → Below w0.heap.size w0 w → ph7 gm 79 (a.tmps.getD 6 undef) w → (∀ t : Nat, t ≤ 5 → a.tmps.getD t undef = a0.tmps.getD t undef) → Q .normal a w) :
    wpAny Try.prog .any ops Q ops.size (Array.replicate ops.size false) a0 w0 := by
  have hd1 : ∀ (i : Nat) (o : Oper), ops[i]? = some o → o.dst = some (ds7 i) := by
    intro i o ho
    have hi : i < 80 := by rw [← hsz]; exact (Array.getElem?_eq_some_iff.1 ho).1
    have e : (ops.toList.map (·.dst))[i]? = some o.dst := by simp [ho]
    rw [hds] at e
    simp [hi] at e
    exact e.symm
  have hlow : ∀ t : Nat, t ≤ 5 → ∀ (i : Nat) (o : Oper), ops[i]? = some o → o.dst ≠ some t := by
    intro t ht i o ho e
    rw [hd1 i o ho] at e
    unfold ds7 at e
    have e2 := Option.some.inj e
    split at e2 <;> omega
  refine wpAny_free D7 (ph7 gm) a0 w0 (by rw [hN]; exact hfree) (fun i v w w' h b => ph7_mono gm i v w w' h b) ?_ ?_
  · intro i o a w K ho hb hdep hrest hK
    have hi : i < 80 := by rw [← hsz]; exact (Array.getElem?_eq_some_iff.1 ho).1
    have e : (ops.toList.map (·.op))[i]? = some o.op := by simp [ho]
    rw [hop] at e
    have hmem : (o.op, i) ∈ OL7.zipIdx := by
      rw [List.mem_zipIdx_iff_getElem?]
      exact e
    have hst : St7 g1 g2 g3 gm i o.op := all7 (o.op, i) hmem
    refine hst o a w K Q rfl ⟨?_, ?_, ?_, ?_, range_below he.c1 hb, range_below he.c2 hb, range_below he.c3 hb, he.lm.below hb⟩ (fun j hj => ?_) hK
    · exact (hrest 1 (hlow 1 (by omega))).trans he.t1
    · exact (hrest 2 (hlow 2 (by omega))).trans he.t2
    · exact (hrest 3 (hlow 3 (by omega))).trans he.t3
    · exact (hrest 4 (hlow 4 (by omega))).trans he.t4
    · obtain ⟨-, -, g4, g5⟩ := freeB_at hfree ho
      obtain ⟨e', he', hbd, hon⟩ := g5 j hj
      have hj80 : j < ops.size := by have := g4 e' he' hbd; rw [hon] at this; omega
      have hoj : ops[j]? = some ops[j] := Array.getElem?_eq_getElem hj80
      exact hdep j hj _ _ hoj (hd1 j _ hoj)
  · intro a w h1 h2 h3 h4 h5
    have h79 : ops[79]? = some ops[79] := Array.getElem?_eq_getElem (by omega)
    exact hQ a w h1 h2 h3 (h4 79 _ 6 h79 (hd1 79 _ h79)) (fun t ht => h5 t (hlow t ht))

def pl7 : List Nat := [0, 0, 1, 0, 0, 0, 0, 0, 0, 0, 0, 3, 0, 0, 2, 1, 0, 0, 1, 1]
def er7 : List Int := [140, 3, 130, 140, 140, 140, 0, 140, 140, 0, 0, 140, 0, 0, 140, 140, 0, 0, 140, 130]

theorem exits_op {n k : Nat} (hk : k < n) : opA (List.replicate n xQ) k = 36 := by
  unfold opA
  rw [List.getD_eq_getElem?_getD, List.getElem?_replicate, if_pos hk]; rfl
theorem exits_ck : ckF (List.replicate 256 xQ) = (0, 0) := by
  refine ckF_ok (by rw [List.length_replicate]; omega) (by rw [List.length_replicate]; omega) (fun k hk => ?_) (fun k hk => ?_)
  · rw [List.length_replicate] at hk
    unfold okA
    rw [List.getD_eq_getElem?_getD, List.getElem?_replicate, if_pos hk]; decide
  · rw [List.length_replicate] at hk
    have h := exits_op hk
    unfold wgN
    rw [h]
    split
    · rfl
    · rw [if_neg (by omega), if_neg (by omega), if_neg (by decide)]
theorem many_ck : ckF (List.replicate 257 xQ) = (0, 3) := by
  unfold ckF
  rw [List.length_replicate, if_pos (by omega)]

theorem ck7 : ∀ k, k < 20 → ckF (cdK.getD k []) = (pl7.getD k 0, er7.getD k 0) := by
  intro k hk
  match k, hk with
  | 0, _ => decide
  | 1, _ => exact many_ck
  | 2, _ => decide
  | 3, _ => decide
  | 4, _ => decide
  | 5, _ => decide
  | 6, _ => decide
  | 7, _ => decide
  | 8, _ => decide
  | 9, _ => decide
  | 10, _ => decide
  | 11, _ => decide
  | 12, _ => decide
  | 13, _ => exact exits_ck
  | 14, _ => decide
  | 15, _ => decide
  | 16, _ => decide
  | 17, _ => decide
  | 18, _ => decide
  | 19, _ => decide
  | k + 20, h => omega
end Go.Proofs.Ytffjddabjjcjpaa
