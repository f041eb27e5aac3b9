/- Structs and arrays in memory, as blocks of cells: make and copy of bytes, one step of a region that draws among them; a struct that is loaded or stored as a whole. -/
import Derived.Test.YtednmdkjhiihcaaGreatBv
import Derived.Laws.IdiomCopy
import Derived.Laws.MakeOwn
import Derived.Laws.OwnMore
import Derived.Deep.MidRow
import Derived.Deep.RegionLaw
import Derived.BigRegion
namespace Go.Proofs.YtednmdkjhiihcaaGreat
open Go.ChangeShapes Go.WideShapes Go.ChangeAt Go.RowKit

/-- make of n bytes. -/
theorem make_bytes (n : Nat) (hn : n ≤ 140737488355328) : ∀ u : World, (Instr.makeSlice 22 (.int .i64 n) (.int .i64 n)).run Tryz.prog u =
    .ok (.slice (some ⟨u.heap.size, 0, none⟩) n n) (u.alloc (.cells ((List.replicate n (0 : Int)).map (Value.int .u8)).toArray 5)) := by
  intro u
  obtain ⟨i0, hi, hz0, hz1, hz2⟩ := info_parts info_u8
  have h := run_make (P := Tryz.prog) u 22 5 i0 (.int .u8 0) Tryz.underlying22 hi hz0 .i64 .i64 n n (by omega) (Int.le_refl _) (by rw [hz2]; omega) (by omega)
  have e : madeCells #[.int .u8 0] n = ((List.replicate n (0 : Int)).map (Value.int .u8)).toArray := by
    apply Array.toList_inj.1
    rw [toList_madeCells_one, List.map_replicate]
  simpa [hz1, Value.cells, e] using h

/-- Cells of a list that are written over from a place on. -/
def put {α : Type} (L : List α) (o : Nat) (vs : List α) : List α := L.take o ++ vs ++ L.drop (o + vs.length)

theorem put_length {α : Type} (L : List α) (o : Nat) (vs : List α) (h : o + vs.length ≤ L.length) : (put L o vs).length = L.length := by
  unfold put; simp only [List.length_append, List.length_take, List.length_drop]; omega

theorem put_map {α β : Type} (f : α → β) (L : List α) (o : Nat) (vs : List α) : put (L.map f) o (vs.map f) = (put L o vs).map f := by
  unfold put; simp only [List.map_append, List.map_take, List.map_drop, List.length_map]

theorem put_head {α : Type} (A B vs : List α) (h : vs.length = A.length) : put (A ++ B) 0 vs = vs ++ B := by
  unfold put; rw [h]; simp

theorem put_mid {α : Type} (A B D vs : List α) (o : Nat) (ho : o = A.length) (h : vs.length = B.length) : put (A ++ (B ++ D)) o vs = A ++ (vs ++ D) := by
  unfold put; subst ho; rw [h]
  rw [List.take_left, ← List.append_assoc A B D, ← List.length_append, List.drop_left, List.append_assoc]

theorem heap_put {w : World} {g : Nat} {L : List Value} {t : TypeId} (h : w.heap[g]? = some (.cells L.toArray t (0, 0))) (o : Nat) (vs : List Value) (hf : o + vs.length ≤ L.length) :
    (w.setCells g o vs).heap[g]? = some (.cells (put L o vs).toArray t (0, 0)) := by
  have := heap_setCells g t vs o w L.toArray h (by simpa using hf)
  simpa [put] using this

/-- copy of bytes to a place of a block. -/
theorem run_copy_in (w : World) (ty : TypeId) (g o n dc sc : Nat) (a : Option Addr) (zs : List Int) (L : List Value) (t : TypeId) (hg : w.heap[g]? = some (.cells L.toArray t (0, 0))) (hB : Bs w a zs) (hn : zs.length = n) (hf : o + n ≤ L.length) :
    (Builtin.copy_ #[22, 22] ty #[.slice (some ⟨g, o, none⟩) n dc, .slice a n sc]).run Tryz.prog w = .ok (goInt n) (w.setCells g o (zs.map (Value.int .u8))) := by
  obtain ⟨i0, hi, hz0, hz1, hz2⟩ := info_parts info_u8
  have hs : (Tryz.prog.info? 5).map (·.size) = some 1 := by rw [hi]; simp [hz1]
  subst hn
  by_cases h0 : zs.length = 0
  · obtain rfl := List.eq_nil_of_length_eq_zero h0
    exact run_copy_none (P := Tryz.prog) w 22 22 ty 5 _ _ 0 dc 0 sc Tryz.underlying22 hs rfl
  · rcases hB.lies with h | ⟨b, off, rfl, hc⟩
    · exact absurd h h0
    · have := run_copy_cells (P := Tryz.prog) w 22 22 ty 5 g o zs.length dc ⟨b, off, none⟩ zs.length sc (zs.map (Value.int .u8)) Tryz.underlying22 hs (by rw [List.length_map]; exact (Nat.min_self _).symm)
        (fun j v hj => by
          have hlt : j < zs.length := by have := (List.getElem?_eq_some_iff.1 hj).1; simpa using this
          rw [addr_add, hc j hlt]
          simp [hlt] at hj
          simp [hlt, hj])
        (fun j hj => by
          rw [List.length_map] at hj
          rw [cell_of_row w g (o + j) _ _ _ hg, Array.getElem?_eq_getElem (by simp; omega)]; rfl)
        (fun j _ => frozen_of_row w g _ _ _ hg) (fun v hv => by simp at hv; obtain ⟨z, _, rfl⟩ := hv; rfl)
      rw [List.length_map] at this
      exact this

/-- The same as a step of a region that draws (go_region_law). -/
theorem step_copy {ops : Array Oper} {op : Oper} {a : Act} {w : World} {K : Act → World → Prop} {Q : Exit → Act → World → Prop} {E : Prop} (hgd : op.guard = none) (d s : Operand)
    (ho : op.op = .call { callee := .builtin .copy, args := #[d, s], argTypes := #[22, 22] })
    (g o n dc sc : Nat) (xa : Option Addr) (hd : a.eval d = .slice (some ⟨g, o, none⟩) n dc) (hs : a.eval s = .slice xa n sc) (zs : List Int) (L : List Value) (t : TypeId) (hg : w.heap[g]? = some (.cells L.toArray t (0, 0))) (hB : Bs w xa zs) (hn : zs.length = n) (hf : o + n ≤ L.length)
    (h : ∀ w', w'.heap[g]? = some (.cells (put L o (zs.map (Value.int .u8))).toArray t (0, 0)) → Kept (fun k => k = g) w w' → K (a.put op.dst (goInt n)) w') :
    if Region.wanted op (yielded ops a.tmps) = true then Oper.wp Tryz.prog op a w K Q else E := by
  have hw : Region.wanted op (yielded ops a.tmps) = true := by simp [Region.wanted, hgd]
  rw [if_pos hw]
  have hrun := run_copy_in w op.type g o n dc sc xa zs L t hg hB hn hf
  unfold Oper.wp
  simp [execOp, ho, resolve, invoke, builtin, hd, hs, hrun, Result.andThen]
  exact h _ (heap_put hg o _ (by rw [List.length_map, hn]; exact hf)) ((Kept.refl (fun k => k = g) w).setCells g o _ (fun _ => rfl))

/-- .. and of a plain region. -/
theorem wpList_copy {ops : Array Oper} {rest : List Oper} {op : Oper} {a : Act} {w : World} {Q : Exit → Act → World → Prop} (hgd : op.guard = none) (d s : Operand)
    (ho : op.op = .call { callee := .builtin .copy, args := #[d, s], argTypes := #[22, 22] })
    (g o n dc sc : Nat) (xa : Option Addr) (hd : a.eval d = .slice (some ⟨g, o, none⟩) n dc) (hs : a.eval s = .slice xa n sc) (zs : List Int) (L : List Value) (t : TypeId) (hg : w.heap[g]? = some (.cells L.toArray t (0, 0))) (hB : Bs w xa zs) (hn : zs.length = n) (hf : o + n ≤ L.length)
    (h : ∀ w', w'.heap[g]? = some (.cells (put L o (zs.map (Value.int .u8))).toArray t (0, 0)) → Kept (fun k => k = g) w w' → wpList Tryz.prog ops Q rest (a.put op.dst (goInt n)) w') : wpList Tryz.prog ops Q (op :: rest) a w := by
  refine wpList_plain hgd fun K hK => ?_
  have hrun := run_copy_in w op.type g o n dc sc xa zs L t hg hB hn hf
  unfold Oper.wp
  simp [execOp, ho, resolve, invoke, builtin, hd, hs, hrun, Result.andThen]
  exact hK _ _ (h _ (heap_put hg o _ (by rw [List.length_map, hn]; exact hf)) ((Kept.refl (fun k => k = g) w).setCells g o _ (fun _ => rfl)))

/-- Bytes that lie in a block of cells of whatever kind. -/
theorem bs_block {w : World} {g : Nat} {t : TypeId} {A D : List Value} {zs : List Int} (h : w.heap[g]? = some (.cells (A ++ (zs.map (Value.int .u8) ++ D)).toArray t (0, 0))) (o : Nat) (ho : o = A.length) (hb : Bytes zs) (hl : zs.length ≤ 140737488355328) : Bs w (some ⟨g, o, none⟩) zs := by
  subst ho
  refine ⟨hl, hb, .inr ⟨g, A.length, rfl, fun i hi => ?_⟩⟩
  rw [Go.cell_of_row w g (A.length + i) _ _ _ h]
  rw [List.getElem?_toArray, List.getElem?_append_right (by omega), Nat.add_sub_cancel_left, List.getElem?_append_left (by simpa using hi)]
  simp [hi]

/-- A row of the call's own, out of its block. -/
theorem own_block {w : World} {g base n : Nat} {t : TypeId} {L : List Value} (h : w.heap[g]? = some (.cells L.toArray t (0, 0))) (hb : base ≤ g) (hl : L.length = n) (hm : n ≤ 1000000) : w.ownsRow base t 1 (.slice (some ⟨g, 0, none⟩) n n) n L :=
  ⟨by simpa using hl, .inr ⟨g, n, L.toArray, rfl, hb, h, Nat.le_refl _, by unfold maxLen; omega, by simp [hl], by simp [← hl]⟩⟩

theorem range_block {w : World} {g : Nat} {L : List Value} {t : TypeId} {fr : Nat × Nat} (h : w.heap[g]? = some (.cells L.toArray t fr)) : w.rangeAt g 0 L := fun j v hv => by
  rw [Nat.zero_add, cell_of_row w g j _ _ _ h, List.getElem?_toArray]; exact hv

theorem there_block {w : World} {g : Nat} {L : List Value} {t : TypeId} (h : w.heap[g]? = some (.cells L.toArray t (0, 0))) : w.there g 0 L.length := fun j hj =>
  ⟨by rw [Nat.zero_add, cell_of_row w g j _ _ _ h, List.getElem?_toArray, List.getElem?_eq_getElem hj]; rfl, frozen_of_row w g _ _ _ h⟩

theorem put_all {α : Type} (L M : List α) (h : L.length = M.length) : put L 0 M = M := by
  unfold put; rw [← h]; simp

/-- A struct is stored whole over a block of as many cells. -/
theorem heap_whole {w : World} {g : Nat} {L M : List Value} {t : TypeId} (h : w.heap[g]? = some (.cells L.toArray t (0, 0))) (hl : L.length = M.length) : (w.setCells g 0 M).heap[g]? = some (.cells M.toArray t (0, 0)) := by
  rw [heap_put h 0 M (by omega), put_all L M hl]

/-- A call ends with a struct that lies in a block and a value. -/
theorem ret_cell_tmp {fn : Func} {p u : Tmp} {ty : TypeId} {R : Ending → World → Prop} {a : Act} {w : World} (hres : fn.results = #[.cell p ty, .tmp u]) (g : Nat) (t : TypeId) (L : List Value) (fr : Nat × Nat) (d : TypeDesc)
    (hp : a.tmps.getD p undef = .pointer (some ⟨g, 0, none⟩)) (hg : w.heap[g]? = some (.cells L.toArray t fr)) (hu : Tryz.prog.underlying ty = some d) (hd : d.isRow = true) (hi : (Tryz.prog.info? ty).map (·.size) = some L.length)
    (hdf : a.defers = []) (hR : R (.returned (.tuple #[.agg L.toArray, a.tmps.getD u undef])) w) : bodyPost Tryz.prog fn R .ret a w := by
  refine bodyPost_ret ?_ hdf hR
  have hp' : a.tmps[p]?.getD undef = .pointer (some ⟨g, 0, none⟩) := by simpa using hp
  simp [results, hres, hp', asAddr, run_loadVar_mid w g 0 ty L d (range_block hg) hu hd hi]

/-- A call ends with a struct that lies in a block and two values. -/
theorem ret_cell_tmp2 {fn : Func} {p u v : Tmp} {ty : TypeId} {R : Ending → World → Prop} {a : Act} {w : World} (hres : fn.results = #[.cell p ty, .tmp u, .tmp v]) (g : Nat) (t : TypeId) (L : List Value) (fr : Nat × Nat) (d : TypeDesc)
    (hp : a.tmps.getD p undef = .pointer (some ⟨g, 0, none⟩)) (hg : w.heap[g]? = some (.cells L.toArray t fr)) (hu : Tryz.prog.underlying ty = some d) (hd : d.isRow = true) (hi : (Tryz.prog.info? ty).map (·.size) = some L.length)
    (hdf : a.defers = []) (hR : R (.returned (.tuple #[.agg L.toArray, a.tmps.getD u undef, a.tmps.getD v undef])) w) : bodyPost Tryz.prog fn R .ret a w := by
  refine bodyPost_ret ?_ hdf hR
  have hp' : a.tmps[p]?.getD undef = .pointer (some ⟨g, 0, none⟩) := by simpa using hp
  simp [results, hres, hp', asAddr, run_loadVar_mid w g 0 ty L d (range_block hg) hu hd hi]

theorem setCells_new (w : World) (t : TypeId) : ∀ (vs : List Value) (o : Nat) (L : List Value), o + vs.length ≤ L.length → (w.alloc (.cells L.toArray t)).setCells w.heap.size o vs = w.alloc (.cells (put L o vs).toArray t)
  | [], o, L, _ => by simp [World.setCells, put]
  | v :: r, o, L, h => by
    simp only [List.length_cons] at h
    rw [World.setCells, World.setCell_alloc_at _ _ _ _ _ rfl, List.setIfInBounds_toArray, setCells_new w t r (o + 1) (L.set o v) (by rw [List.length_set]; omega)]
    congr 3
    unfold put
    have ho : o < L.length := by omega
    rw [List.take_succ_eq_append_getElem (by simpa using ho), List.take_set_of_le (Nat.le_refl _), List.drop_set_of_lt (by omega)]
    simp only [List.getElem_set_self, List.append_assoc, List.nil_append, List.cons_append, List.length_cons]
    rw [show o + 1 + r.length = o + (r.length + 1) by omega]

/-- A struct is stored into the block that was laid for it just now. -/
theorem wpList_store_new {ops : Array Oper} {rest : List Oper} {op : Oper} {a : Act} {w : World} {Q : Exit → Act → World → Prop} (hgd : op.guard = none) (ty : TypeId) (x y : Operand) (ho : op.op = .store ty x y) (t : TypeId)
    (Z L : List Value) (hx : a.eval x = .pointer (some ⟨w.heap.size, 0, none⟩)) (hy : a.eval y = .agg L.toArray) (hl : L.length = Z.length) (hi : (Tryz.prog.info? ty).map (·.size) = some L.length) (h1 : L.toArray.all (·.oneCell') = true)
    (h : wpList Tryz.prog ops Q rest (a.put op.dst undef) (w.alloc (.cells L.toArray t))) : wpList Tryz.prog ops Q (op :: rest) a (w.alloc (.cells Z.toArray t)) := by
  refine wpList_store_mid hgd ty x y ho w.heap.size 0 L.toArray hx hy ?_ (by simpa using hi) h1 ?_
  · have e : L.toArray.size = Z.length := by rw [← hl]; exact List.size_toArray
    rw [e]; exact there_block (heap_alloc_new w _)
  · rw [setCells_new w t _ 0 Z (by simp [hl]), put_all _ _ (by simp [hl])]
    exact h

/-- A struct is loaded, by an operation that is guarded and wanted. -/
theorem wpList_load_midG {ops : Array Oper} {rest : List Oper} {op : Oper} {a : Act} {w : World} {Q : Exit → Act → World → Prop} (hw : Region.wanted op (yielded ops a.tmps) = true) (ty : TypeId) (x : Operand) (ho : op.op = .load ty x)
    (b o : Nat) (hx : a.eval x = .pointer (some ⟨b, o, none⟩)) (cs : List Value) (d : TypeDesc) (hc : w.rangeAt b o cs)
    (hu : Tryz.prog.underlying ty = some d) (hd : d.isRow = true) (hi : (Tryz.prog.info? ty).map (·.size) = some cs.length)
    (h : wpList Tryz.prog ops Q rest (a.put op.dst (.agg cs.toArray)) w) : wpList Tryz.prog ops Q (op :: rest) a w :=
  wpList_step fun _ hK => by rw [if_pos hw]; exact wp_load_mid ty x ho b o hx cs d hc hu hd hi (hK _ _ h)
end Go.Proofs.YtednmdkjhiihcaaGreat
