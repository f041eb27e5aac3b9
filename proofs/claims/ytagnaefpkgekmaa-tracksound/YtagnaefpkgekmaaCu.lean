/- The laws' own worlds: a packet's length and where pointers lie (11 numbers in a block): made. -/
import Derived.Test.YtagnaefpkgekmaaCo
import Derived.Test.YtagnaefpkgekmaaBi
import Derived.Great.BuildSlice
namespace Go.Proofs.Ytagnaefpkgekmaa
open Go.ChangeShapes Go.WideShapes Go.ChangeAt Go.RowKit Go.Maps Go.Sort Go.Shelf
set_option maxRecDepth 10000

/-- Whole numbers of int, as cells. -/
def intC (zs : List Int) : List Value := zs.map (Value.int .i64)
theorem intC_set (zs : List Int) (k : Nat) (v : Int) : (intC zs).set k (.int .i64 v) = intC (zs.set k v) := by unfold intC; rw [List.map_set]
theorem world_info : ∃ i, Try.prog.info? 48 = some i ∧ i.zero = some (.agg (intC (List.replicate 11 0)).toArray) ∧ i.size = 11 := by
  have h : (Try.prog.info? 48).map (fun i => (i.zero, i.size)) = some (some (.agg (intC (List.replicate 11 0)).toArray), 11) := by kernel_rfl
  cases e : Try.prog.info? 48 with
  | none => rw [e] at h; simp at h
  | some i => rw [e] at h; simp at h; exact ⟨i, rfl, h.1, h.2⟩
theorem world_size : (Try.prog.info? 48).map (·.size) = some 11 := by
  obtain ⟨i, h, -, hs⟩ := world_info
  rw [h, ← hs]; rfl

/-- A great block is laid. -/
theorem wpList_alloc_big {ops : Array Oper} {rest : List Oper} {o : Oper} {a : Act} {w : World} {Q : Exit → Act → World → Prop} (hgd : o.guard = none) (t : TypeId) (ho : o.op = .alloc t)
    (i : TypeInfo) (zs : Array Value) (hi : Try.prog.info? t = some i) (hz : i.zero = some (.agg zs))
    (h : ∀ w', w'.heap[w.heap.size]? = some (.cells zs t (0, 0)) → Below w.heap.size w w' → w'.heap.size = w.heap.size + 1 → wpList Try.prog ops Q rest (a.put o.dst (.pointer (some ⟨w.heap.size, 0, none⟩))) w') : wpList Try.prog ops Q (o :: rest) a w := by
  refine wpList_plain hgd fun K hK => ?_
  unfold Oper.wp
  have hb : Below w.heap.size w (w.alloc (.cells zs t)) := (Below.refl _ _).alloc (Nat.le_refl _) _
  have hn : (w.alloc (.cells zs t)).heap[w.heap.size]? = some (.cells zs t (0, 0)) := World.alloc_heap_new w _
  simp [execOp, ho, Instr.alloc, zeroValue, typeInfo, hi, hz, newVar, Value.cells, Result.andThen]
  exact hK _ _ (h _ hn hb (by simp))

/-- A struct goes over a block of as many cells. -/
theorem wpList_store_over {ops : Array Oper} {rest : List Oper} {op : Oper} {a : Act} {w : World} {Q : Exit → Act → World → Prop} (hgd : op.guard = none) (ty : TypeId) (x y : Operand) (ho : op.op = .store ty x y)
    (g : Nat) (t : TypeId) (Z L : List Value) (hx : a.eval x = .pointer (some ⟨g, 0, none⟩)) (hy : a.eval y = .agg L.toArray) (hg : w.heap[g]? = some (.cells Z.toArray t (0, 0))) (n : Nat) (hZ : Z.length = n) (hL : L.length = n) (hi : (Try.prog.info? ty).map (·.size) = some n) (h1 : L.toArray.all (·.oneCell') = true)
    (h : ∀ w', w'.heap[g]? = some (.cells L.toArray t (0, 0)) → Kept (fun k => k = g) w w' → w'.heap.size = w.heap.size → wpList Try.prog ops Q rest (a.put op.dst undef) w') : wpList Try.prog ops Q (op :: rest) a w := by
  refine wpList_store_mid hgd ty x y ho g 0 L.toArray hx hy ?_ (by rw [List.size_toArray, hL]; exact hi) h1 ?_
  · intro j hj
    have hj' : j < Z.length := by simp at hj; omega
    refine ⟨?_, frozen_of_row w g _ _ _ hg⟩
    rw [Nat.zero_add, cell_of_row w g j _ _ _ hg, List.getElem?_toArray, List.getElem?_eq_getElem hj']; rfl
  · have e := heap_setCells g t L 0 w Z.toArray hg (by simp; omega)
    have hd : Z.drop (0 + L.length) = [] := List.drop_eq_nil_of_le (by omega)
    simp only [List.take_zero, List.nil_append, hd, List.append_nil] at e
    exact h _ e ((Kept.refl _ w).setCells g 0 L (fun _ => rfl)) (by
      have : ∀ (vs : List Value) (o : Nat) (u : World), (u.setCells g o vs).heap.size = u.heap.size := by
        intro vs
        induction vs with
        | nil => intro o u; rfl
        | cons v r ih => intro o u; rw [World.setCells, ih]; simp [World.setCell]
      exact this _ _ _)

theorem wpList_load_big {ops : Array Oper} {rest : List Oper} {op : Oper} {a : Act} {w : World} {Q : Exit → Act → World → Prop} (hgd : op.guard = none) (ty : TypeId) (x : Operand) (ho : op.op = .load ty x)
    (g : Nat) (t : TypeId) (L : List Value) (hx : a.eval x = .pointer (some ⟨g, 0, none⟩)) (hg : w.heap[g]? = some (.cells L.toArray t (0, 0))) (d : TypeDesc) (hu : Try.prog.underlying ty = some d) (hd : d.isRow = true) (n : Nat) (hL : L.length = n) (hi : (Try.prog.info? ty).map (·.size) = some n)
    (h : wpList Try.prog ops Q rest (a.put op.dst (.agg L.toArray)) w) : wpList Try.prog ops Q (op :: rest) a w :=
  wpList_load_mid hgd ty x ho g 0 hx L d (fun j v hv => by rw [Nat.zero_add, cell_of_row w g j _ _ _ hg, List.getElem?_toArray]; exact hv) hu hd (by rw [hL]; exact hi) h

/-- One cell of a block is written. -/
theorem wpList_store_at {ops : Array Oper} {rest : List Oper} {op : Oper} {a : Act} {w : World} {Q : Exit → Act → World → Prop} (hgd : op.guard = none) (x y : Operand) (ho : op.op = .store 3 x y)
    (g k : Nat) (v : Int) (t : TypeId) (L : List Value) (hx : a.eval x = .pointer (some ⟨g, k, none⟩)) (hy : a.eval y = .int .i64 v) (hg : w.heap[g]? = some (.cells L.toArray t (0, 0))) (hk : k < L.length)
    (h : ∀ w', w'.heap[g]? = some (.cells (L.set k (.int .i64 v)).toArray t (0, 0)) → Kept (fun k => k = g) w w' → w'.heap.size = w.heap.size → wpList Try.prog ops Q rest (a.put op.dst undef) w') : wpList Try.prog ops Q (op :: rest) a w := by
  refine wpList_plain hgd fun K hK => ?_
  have hc : w.cell? ⟨g, k, none⟩ = some L[k] := by rw [cell_of_row w g k _ _ _ hg, List.getElem?_toArray, List.getElem?_eq_getElem hk]
  have hf : w.frozen? ⟨g, k, none⟩ = false := frozen_of_row w g _ _ _ hg
  have h1 := Go.heap_setCell_same w g k L.toArray t (.int .i64 v) hg
  rw [List.setIfInBounds_toArray] at h1
  have hlt : g < w.heap.size := (Array.getElem?_eq_some_iff.1 hg).1
  have hsz : (w.setCell ⟨g, k, none⟩ (.int .i64 v)).heap.size = w.heap.size := by simp [World.setCell]
  have hrun := run_storeCells_cells (P := Try.prog) g k [.int .i64 v] 0 w (fun j hj => by
    have : j = 0 := by simp at hj; omega
    subst this
    show (w.cell? ⟨g, k, none⟩).isSome = true
    rw [hc]; rfl) (fun j hj => by
    have : j = 0 := by simp at hj; omega
    subst this
    exact hf) (fun u hu => by simp at hu; subst hu; rfl)
  unfold Oper.wp
  simp [execOp, ho, hx, hy, Instr.storeAt, Instr.sureAddr, storeVar, Value.cells, Result.andThen, hrun]
  exact hK _ _ (h _ h1 ((Kept.refl (fun k => k = g) w).setCell (p := ⟨g, k, none⟩) (fun _ => rfl) _) hsz)

theorem intC_one (zs : List Int) : (intC zs).toArray.all (·.oneCell') = true := by
  simp [intC, Value.oneCell']
theorem intC_length (zs : List Int) : (intC zs).length = zs.length := by simp [intC]

/-- A world that can be: a length, and ten places. -/
structure WOk (zs : List Int) : Prop where
  len : zs.length = 11
  l0 : 0 ≤ zs.getD 0 0
  l1 : zs.getD 0 0 ≤ 2048
  p0 : ∀ i, i < 10 → 0 ≤ zs.getD (1 + i) 0
  p1 : ∀ i, i < 10 → zs.getD (1 + i) 0 ≤ 2999
/-- It lies in a block. -/
def Wb (W : World) (g : Nat) (zs : List Int) : Prop := W.heap[g]? = some (.cells (intC zs).toArray 48 (0, 0))
theorem Wb.below {W W' : World} {g : Nat} {zs : List Int} (h : Wb W g zs) (hb : Below W.heap.size W W') : Wb W' g zs := (hb.block g (Array.getElem?_eq_some_iff.1 h).1).trans h
theorem Wb.lt {W : World} {g : Nat} {zs : List Int} (h : Wb W g zs) : g < W.heap.size := (Array.getElem?_eq_some_iff.1 h).1
theorem Wb.at {W : World} {g : Nat} {zs : List Int} (h : Wb W g zs) {k : Nat} (hk : k < zs.length) : W.cell? ⟨g, k, none⟩ = some (.int .i64 (zs.getD k 0)) := by
  rw [cell_of_row W g k _ _ _ h, List.getElem?_toArray]
  unfold intC
  rw [List.getElem?_map, List.getElem?_eq_getElem hk, List.getD_eq_getElem?_getD, List.getElem?_eq_getElem hk]
  rfl
theorem getD_set {zs : List Int} {k : Nat} (hk : k < zs.length) (v : Int) (i : Nat) : (zs.set k v).getD i 0 = if i = k then v else zs.getD i 0 := by
  rw [List.getD_eq_getElem?_getD, List.getD_eq_getElem?_getD, List.getElem?_set]
  by_cases e : k = i
  · subst e; rw [if_pos rfl, if_pos hk, if_pos rfl]; rfl
  · rw [if_neg e, if_neg (fun h => e h.symm)]

/-- The state of made. -/
structure MJ (w W : World) (g r : Nat) (zs : List Int) : Prop where
  old : Below w.heap.size w W
  box : Wb W g zs
  res : Wb W r (List.replicate 11 0)
theorem MJ.below {w W W' : World} {g r : Nat} {zs : List Int} (h : MJ w W g r zs) (hb : Below W.heap.size W W') : MJ w W' g r zs :=
  ⟨h.old.trans (hb.mono h.old.size), h.box.below hb, h.res.below hb⟩
theorem MJ.put {w W W' : World} {g r : Nat} {zs ys : List Int} (h : MJ w W g r zs) (hg : w.heap.size ≤ g) (hne : r ≠ g) (hk : Kept (fun k => k = g) W W') (h' : Wb W' g ys) : MJ w W' g r ys :=
  ⟨h.old.trans (hk.below h.old.size (fun j hj e => by omega)), h', (hk.block r h.res.lt hne).trans h.res⟩

set_option maxHeartbeats 2000000 in
theorem made_any (zs : List Int) (w : World) (hl : zs.length = 11) (hin : ∀ z ∈ zs, In64 z) : Calls Try.prog 28 #[.agg (intC zs).toArray] w fun e w' => (∃ ys, e = .returned (.agg (intC ys).toArray) ∧ WOk ys) ∧ Below w.heap.size w w' := by
  obtain ⟨iW, hiW, hzW, -⟩ := world_info
  have HiW := Hid.mk' hiW
  have HzW := Hid.mk' hzW
  have hin0 : ∀ k, In64 (zs.getD k 0) := fun k => by
    rw [List.getD_eq_getElem?_getD]
    cases e : zs[k]? with
    | none => exact ⟨by decide, by decide⟩
    | some z => exact hin z (List.mem_of_getElem? e)
  have HIN := Hid.mk' hin0
  have HL := Hid.mk' hl
  clear hiW hzW hin hin0 hl
  go_enter Try.func28, Try.ntmps28
  go_upto_region 1 with (refine wpList_alloc_big rfl 48 rfl iW _ HiW.out HzW.out ?_; intro w1 h1 b1 s1)
  have J1 : Hid (MJ w w1 w.heap.size (w.heap.size + 1) zs) := Hid.mk' ⟨((Below.refl _ w).alloc (Nat.le_refl _) _).trans (b1.mono (by simp)), (Wb.below (W := w.alloc (.cells (intC zs).toArray 48)) (World.alloc_heap_new w _) b1), by
    have := h1
    rw [World.size_alloc] at this
    exact this⟩
  have HR : Hid (w.heap.size ≤ w.heap.size ∧ w.heap.size + 1 ≠ w.heap.size) := Hid.mk' ⟨Nat.le_refl _, by omega⟩
  obtain ⟨g, hg⟩ : ∃ g, w.heap.size = g := ⟨_, rfl⟩
  obtain ⟨r, hr⟩ : ∃ r, g + 1 = r := ⟨_, rfl⟩
  have HG : Hid (w.heap.size ≤ g ∧ r ≠ g) := Hid.mk' ⟨by omega, by omega⟩
  have HQ : Hid (w.heap.size < r) := Hid.mk' (by omega)
  simp only [World.size_alloc]
  rw [hg, hr] at J1 ⊢
  clear h1 b1 s1 HR hr hg
  have c0 := J1.out.box.at (k := 0) (by rw [HL.out]; decide)
  obtain ⟨z0, hz0⟩ : ∃ z0, zs.getD 0 0 = z0 := ⟨_, rfl⟩
  have hzi := HIN.out 0
  rw [hz0] at c0 hzi
  have hb0 := brg_lt z0 2049 (by omega)
  have KB := fun u => brg_any z0 2049 u (by omega) (by omega) hzi.1 hzi.2
  go_upto_region 2 with (first
    | (go_at_call 30; refine (KB _).mono ?_; rintro e u ⟨rfl, rfl⟩)
    | (refine wpList_store_at rfl _ _ rfl g 0 (brg z0 2049 : Nat) 48 _ rfl rfl J1.out.box (by unfold intC; rw [List.length_map, HL.out]; decide) ?_; intro w2 h2 k2 s2))
  have J2 : Hid (MJ w w2 g r (zs.set 0 (brg z0 2049 : Nat))) := Hid.mk' (J1.out.put HG.out.1 HG.out.2 k2 (by rw [intC_set] at h2; exact h2))
  have Y2 : Hid ((zs.set 0 ((brg z0 2049 : Nat) : Int)).length = 11 ∧ (0 ≤ (zs.set 0 ((brg z0 2049 : Nat) : Int)).getD 0 0 ∧ (zs.set 0 ((brg z0 2049 : Nat) : Int)).getD 0 0 ≤ 2048) ∧ (∀ i, i < 0 → 0 ≤ (zs.set 0 ((brg z0 2049 : Nat) : Int)).getD (1 + i) 0 ∧ (zs.set 0 ((brg z0 2049 : Nat) : Int)).getD (1 + i) 0 ≤ 2999) ∧ ∀ k, In64 ((zs.set 0 ((brg z0 2049 : Nat) : Int)).getD k 0)) := Hid.mk' (by
    have hl := HL.out
    refine ⟨by rw [List.length_set]; exact hl, ?_, fun i hi => by omega, fun k => ?_⟩
    · rw [getD_set (by omega), if_pos rfl]; omega
    · rw [getD_set (by omega)]
      split
      · unfold In64; omega
      · exact HIN.out k)
  generalize zs.set 0 ((brg z0 2049 : Nat) : Int) = y2 at *
  clear J1 c0 KB h2 k2 s2 hb0 hzi hz0 HIN HL
  go_wp2_with fail
  go_loopw [3] (fun i wr => ∃ (k : Nat) (ys : List Int), k ≤ 10 ∧ i = .int .i64 k ∧ Hid (MJ w wr g r ys) ∧ Hid (ys.length = 11 ∧ (0 ≤ ys.getD 0 0 ∧ ys.getD 0 0 ≤ 2048) ∧ (∀ i, i < k → 0 ≤ ys.getD (1 + i) 0 ∧ ys.getD (1 + i) 0 ≤ 2999) ∧ ∀ k, In64 (ys.getD k 0))) (fun i _ => 10 - (iv i).toNat)
  case atStart => exact ⟨0, y2, by omega, rfl, J2, Y2⟩
  case round =>
    clear J2 Y2
    obtain ⟨k, ys, hk, rfl, hJ, hY⟩ := hrel
    have hyl := hY.out.1
    by_cases hlt : k < 10
    · have hlk : (k : Int) < 10 := by omega
      have c0 := hJ.out.box.at (k := 1 + k) (by omega)
      have hzi := hY.out.2.2.2 (1 + k)
      generalize hz : ys.getD (1 + k) 0 = z at *
      have hb0 := brg_lt z 3000 (by omega)
      have KB := fun u => brg_any z 3000 u (by omega) (by omega) hzi.1 hzi.2
      go_wp2_with (first
        | (go_at_call 30; refine (KB _).mono ?_; rintro e u ⟨rfl, rfl⟩)
        | (refine wpList_store_at rfl _ _ rfl g (1 + k) (brg z 3000 : Nat) 48 _ rfl rfl hJ.out.box (by unfold intC; rw [List.length_map]; omega) ?_; intro w5 h5 k5 s5))
      have J5 : Hid (MJ w w5 g r (ys.set (1 + k) (brg z 3000 : Nat))) := Hid.mk' (hJ.out.put HG.out.1 HG.out.2 k5 (by rw [intC_set] at h5; exact h5))
      have Y5 : Hid ((ys.set (1 + k) ((brg z 3000 : Nat) : Int)).length = 11 ∧ (0 ≤ (ys.set (1 + k) ((brg z 3000 : Nat) : Int)).getD 0 0 ∧ (ys.set (1 + k) ((brg z 3000 : Nat) : Int)).getD 0 0 ≤ 2048) ∧ (∀ i, i < k + 1 → 0 ≤ (ys.set (1 + k) ((brg z 3000 : Nat) : Int)).getD (1 + i) 0 ∧ (ys.set (1 + k) ((brg z 3000 : Nat) : Int)).getD (1 + i) 0 ≤ 2999) ∧ ∀ j, In64 ((ys.set (1 + k) ((brg z 3000 : Nat) : Int)).getD j 0)) := Hid.mk' (by
        obtain ⟨q1, q2, q3, q4⟩ := hY.out
        refine ⟨by rw [List.length_set]; exact hyl, ?_, fun i hi => ?_, fun j => ?_⟩
        · rw [getD_set (by omega), if_neg (by omega)]; exact q2
        · rw [getD_set (by omega)]
          by_cases e : 1 + i = 1 + k
          · rw [if_pos e]; omega
          · rw [if_neg e]; exact q3 i (by omega)
        · rw [getD_set (by omega)]
          split
          · unfold In64; omega
          · exact q4 j)
      go_roundw
      case rel => exact ⟨k + 1, _, hlt, by go_num, J5, Y5⟩
      case measure => simp [iv]; omega
    · have hlk : ¬ (k : Int) < 10 := by omega
      have hk10 : k = 10 := by omega
      subst hk10
      have c1 := hJ.out.box.at (k := 1) (by omega)
      have hil : Hid ((intC ys).length = 11) := Hid.mk' (by unfold intC; rw [List.length_map]; exact hyl)
      have hil2 : Hid ((intC (ys.set 1 0)).length = 11) := Hid.mk' (by unfold intC; rw [List.length_map, List.length_set]; exact hyl)
      have hirl : Hid ((intC (List.replicate 11 0)).length = 11) := Hid.mk' (by unfold intC; rw [List.length_map, List.length_replicate])
      have HONE : Hid ((intC (ys.set 1 0)).toArray.all (·.oneCell') = true) := Hid.mk' (intC_one _)
      go_wp2_with (first
        | (refine wpList_store_at rfl _ _ rfl g 1 0 48 _ rfl rfl hJ.out.box (by rw [hil.out]; decide) ?_; intro w5 h5 k5 s5; have J5 : Hid (MJ w w5 g r (ys.set 1 0)) := Hid.mk' (hJ.out.put HG.out.1 HG.out.2 k5 (by rw [intC_set] at h5; exact h5)); clear h5 k5 s5)
        | (refine wpList_load_big rfl 48 _ rfl g 48 (intC (ys.set 1 0)) rfl J5.out.box _ Try.underlying48 rfl 11 hil2.out world_size ?_)
        | (refine wpList_store_over rfl 48 _ _ rfl r 48 _ _ rfl rfl J5.out.res 11 hirl.out hil2.out world_size HONE.out ?_; intro w6 h6 k6 s6))
      refine ret_cell_one rfl r 48 _ (0, 0) _ rfl h6 Try.underlying48 rfl (by rw [hil2.out]; exact world_size) rfl ?_
      refine ⟨⟨_, rfl, ?_⟩, J5.out.old.trans (k6.below J5.out.old.size (fun j hj e => by have := HQ.out; omega))⟩
      obtain ⟨q1, q2, q3, q4⟩ := hY.out
      refine ⟨by rw [List.length_set]; exact q1, ?_, ?_, fun i hi => ?_, fun i hi => ?_⟩
      · rw [getD_set (by omega), if_neg (by omega)]; exact q2.1
      · rw [getD_set (by omega), if_neg (by omega)]; exact q2.2
      · rw [getD_set (by omega)]
        split
        · omega
        · exact (q3 i hi).1
      · rw [getD_set (by omega)]
        split
        · omega
        · exact (q3 i hi).2
end Go.Proofs.Ytagnaefpkgekmaa
