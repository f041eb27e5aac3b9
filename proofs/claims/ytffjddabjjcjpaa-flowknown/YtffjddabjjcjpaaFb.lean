/- Operations on great blocks (a struct of 512 numbers): laid, built, stored and loaded as a whole, one of its cells stored: the cells stand as a letter. -/
import Derived.Test.YtffjddabjjcjpaaFa
import Derived.Test.YtffjddabjjcjpaaBw
import Derived.Deep.MidRow
import Derived.Great.BuildSlice
namespace Go.Proofs.Ytffjddabjjcjpaa
open Go.ChangeShapes Go.WideShapes Go.ChangeAt Go.RowKit
set_option maxRecDepth 10000

/-- Whole numbers of int, as cells. -/
def intC (zs : List Int) : List Value := zs.map (Value.int .i64)

theorem nest_info : ∃ i, Try.prog.info? 53 = some i ∧ i.zero = some (.agg (intC (List.replicate 512 0)).toArray) ∧ i.size = 512 := by
  have h : (Try.prog.info? 53).map (fun i => (i.zero, i.size)) = some (some (.agg (intC (List.replicate 512 0)).toArray), 512) := by kernel_rfl
  cases e : Try.prog.info? 53 with
  | none => rw [e] at h; simp at h
  | some i => rw [e] at h; simp at h; exact ⟨i, rfl, h.1, h.2⟩
theorem pile_info : ∃ i, Try.prog.info? 51 = some i ∧ i.zero = some (.agg (intC (List.replicate 256 0)).toArray) ∧ i.size = 256 := by
  have h : (Try.prog.info? 51).map (fun i => (i.zero, i.size)) = some (some (.agg (intC (List.replicate 256 0)).toArray), 256) := by kernel_rfl
  cases e : Try.prog.info? 51 with
  | none => rw [e] at h; simp at h
  | some i => rw [e] at h; simp at h; exact ⟨i, rfl, h.1, h.2⟩
theorem nest_size : (Try.prog.info? 53).map (·.size) = some 512 := by
  obtain ⟨i, h, -, hs⟩ := nest_info
  rw [h, ← hs]; rfl
theorem nest_built : Try.prog.built 53 [] = some (intC (List.replicate 512 0)).toArray := by
  kernel_rfl

/-- A great block is laid. -/
theorem wpList_alloc_big {ops : Array Oper} {rest : List Oper} {o : Oper} {a : Act} {w : World} {Q : Exit → Act → World → Prop} (hgd : o.guard = none) (t : TypeId) (ho : o.op = .alloc t)
    (i : TypeInfo) (zs : Array Value) (hi : Try.prog.info? t = some i) (hz : i.zero = some (.agg zs))
    (h : ∀ w', w'.heap[w.heap.size]? = some (.cells zs t (0, 0)) → Below w.heap.size w w' → w'.heap.size = w.heap.size + 1 → wpList Try.prog ops Q rest (a.put o.dst (.pointer (some ⟨w.heap.size, 0, none⟩))) w') : wpList Try.prog ops Q (o :: rest) a w := by
  refine wpList_plain hgd fun K hK => ?_
  unfold Oper.wp
  have hb : Below w.heap.size w (w.alloc (.cells zs t)) := (Below.refl _ _).alloc (Nat.le_refl _) _
  have hn : (w.alloc (.cells zs t)).heap[w.heap.size]? = some (.cells zs t (0, 0)) := heap_alloc_new w _
  simp [execOp, ho, Instr.alloc, zeroValue, typeInfo, hi, hz, newVar, Value.cells, Result.andThen]
  exact hK _ _ (h _ hn hb (by simp))

theorem wpList_build_big {ops : Array Oper} {rest : List Oper} {o : Oper} {a : Act} {w : World} {Q : Exit → Act → World → Prop} (hgd : o.guard = none) (t : TypeId) (ho : o.op = .build t #[])
    (zs : Array Value) (hz : Try.prog.built t [] = some zs) (h : wpList Try.prog ops Q rest (a.put o.dst (.agg zs)) w) : wpList Try.prog ops Q (o :: rest) a w :=
  wpList_buildTo hgd t #[] ho o.dst rfl zs (by simpa using hz) h

/-- A struct goes over a block of as many cells. -/
theorem wpList_store_over {ops : Array Oper} {rest : List Oper} {op : Oper} {a : Act} {w : World} {Q : Exit → Act → World → Prop} (hgd : op.guard = none) (ty : TypeId) (x y : Operand) (ho : op.op = .store ty x y)
    (g : Nat) (t : TypeId) (Z L : List Value) (hx : a.eval x = .pointer (some ⟨g, 0, none⟩)) (hy : a.eval y = .agg L.toArray) (hg : w.heap[g]? = some (.cells Z.toArray t (0, 0))) (n : Nat) (hZ : Z.length = n) (hL : L.length = n) (hi : (Try.prog.info? ty).map (·.size) = some n) (h1 : L.toArray.all (·.oneCell') = true)
    (h : ∀ w', w'.heap[g]? = some (.cells L.toArray t (0, 0)) → Kept (fun k => k = g) w w' → w'.heap.size = w.heap.size → wpList Try.prog ops Q rest (a.put op.dst undef) w') : wpList Try.prog ops Q (op :: rest) a w := by
  refine wpList_store_mid hgd ty x y ho g 0 L.toArray hx hy ?_ (by rw [List.size_toArray, hL]; exact hi) h1 ?_
  · intro j hj
    have hj' : j < Z.length := by simp at hj; omega
    refine ⟨?_, frozen_of_row w g _ _ _ hg⟩
    rw [Nat.zero_add, cell_of_row w g j _ _ _ hg, List.getElem?_toArray, List.getElem?_eq_getElem hj']; rfl
  · have e := heap_setCells g t L 0 w Z.toArray hg (by simp; omega)
    have hd : Z.drop (0 + L.length) = [] := List.drop_eq_nil_of_le (by omega)
    simp only [List.take_zero, List.nil_append, hd, List.append_nil] at e
    exact h _ e ((Kept.refl _ w).setCells g 0 L (fun _ => rfl)) (by
      have : ∀ (vs : List Value) (o : Nat) (u : World), (u.setCells g o vs).heap.size = u.heap.size := by
        intro vs
        induction vs with
        | nil => intro o u; rfl
        | cons v r ih => intro o u; rw [World.setCells, ih]; simp [World.setCell]
      exact this _ _ _)

theorem wpList_load_big {ops : Array Oper} {rest : List Oper} {op : Oper} {a : Act} {w : World} {Q : Exit → Act → World → Prop} (hgd : op.guard = none) (ty : TypeId) (x : Operand) (ho : op.op = .load ty x)
    (g : Nat) (t : TypeId) (L : List Value) (hx : a.eval x = .pointer (some ⟨g, 0, none⟩)) (hg : w.heap[g]? = some (.cells L.toArray t (0, 0))) (d : TypeDesc) (hu : Try.prog.underlying ty = some d) (hd : d.isRow = true) (n : Nat) (hL : L.length = n) (hi : (Try.prog.info? ty).map (·.size) = some n)
    (h : wpList Try.prog ops Q rest (a.put op.dst (.agg L.toArray)) w) : wpList Try.prog ops Q (op :: rest) a w :=
  wpList_load_mid hgd ty x ho g 0 hx L d (fun j v hv => by rw [Nat.zero_add, cell_of_row w g j _ _ _ hg, List.getElem?_toArray]; exact hv) hu hd (by rw [hL]; exact hi) h

/-- One cell of a block is written. -/
theorem wpList_store_at {ops : Array Oper} {rest : List Oper} {op : Oper} {a : Act} {w : World} {Q : Exit → Act → World → Prop} (hgd : op.guard = none) (x y : Operand) (ho : op.op = .store 3 x y)
    (g k : Nat) (v : Int) (t : TypeId) (L : List Value) (hx : a.eval x = .pointer (some ⟨g, k, none⟩)) (hy : a.eval y = .int .i64 v) (hg : w.heap[g]? = some (.cells L.toArray t (0, 0))) (hk : k < L.length)
    (h : ∀ w', w'.heap[g]? = some (.cells (L.set k (.int .i64 v)).toArray t (0, 0)) → Kept (fun k => k = g) w w' → w'.heap.size = w.heap.size → wpList Try.prog ops Q rest (a.put op.dst undef) w') : wpList Try.prog ops Q (op :: rest) a w := by
  refine wpList_plain hgd fun K hK => ?_
  have hc : w.cell? ⟨g, k, none⟩ = some L[k] := by rw [cell_of_row w g k _ _ _ hg, List.getElem?_toArray, List.getElem?_eq_getElem hk]
  have hf : w.frozen? ⟨g, k, none⟩ = false := frozen_of_row w g _ _ _ hg
  have h1 := Go.heap_setCell_same w g k L.toArray t (.int .i64 v) hg
  rw [List.setIfInBounds_toArray] at h1
  have hlt : g < w.heap.size := (Array.getElem?_eq_some_iff.1 hg).1
  have hsz : (w.setCell ⟨g, k, none⟩ (.int .i64 v)).heap.size = w.heap.size := by simp [World.setCell]
  have hrun := run_storeCells_cells (P := Try.prog) g k [.int .i64 v] 0 w (fun j hj => by
    have : j = 0 := by simp at hj; omega
    subst this
    show (w.cell? ⟨g, k, none⟩).isSome = true
    rw [hc]; rfl) (fun j hj => by
    have : j = 0 := by simp at hj; omega
    subst this
    exact hf) (fun u hu => by simp at hu; subst hu; rfl)
  unfold Oper.wp
  simp [execOp, ho, hx, hy, Instr.storeAt, Instr.sureAddr, storeVar, Value.cells, Result.andThen, hrun]
  exact hK _ _ (h _ h1 ((Kept.refl (fun k => k = g) w).setCell (p := ⟨g, k, none⟩) (fun _ => rfl) _) hsz)

theorem intC_one (zs : List Int) : (intC zs).toArray.all (·.oneCell') = true := by
  simp [intC, Value.oneCell']
theorem intC_length (zs : List Int) : (intC zs).length = zs.length := by simp [intC]
end Go.Proofs.Ytffjddabjjcjpaa
