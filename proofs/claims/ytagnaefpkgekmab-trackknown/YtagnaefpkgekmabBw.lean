/- Rows of cells that are written as a whole: what setCells leaves; small helpers for contracts. -/
import Derived.Test.YtagnaefpkgekmabBa
namespace Go.Proofs.Ytagnaefpkgekmab
open Go.ChangeShapes Go.WideShapes Go.ChangeAt Go.RowKit

theorem heap_setCells (g : Nat) (t : TypeId) : ∀ (vs : List Value) (o : Nat) (w : World) (cur : Array Value), w.heap[g]? = some (.cells cur t (0, 0)) → o + vs.length ≤ cur.size →
    (w.setCells g o vs).heap[g]? = some (.cells (cur.toList.take o ++ vs ++ cur.toList.drop (o + vs.length)).toArray t (0, 0))
  | [], o, w, cur, h, _ => by simp [World.setCells, h]
  | v :: r, o, w, cur, h, hl => by
    simp only [List.length_cons] at hl
    have h1 := Go.heap_setCell_same w g o cur t v h
    have ih := heap_setCells g t r (o + 1) (w.setCell ⟨g, o, none⟩ v) _ h1 (by simp; omega)
    rw [World.setCells, ih]
    congr 3
    rw [Array.toList_setIfInBounds]
    have ho : o < cur.toList.length := by simp; omega
    have e1 : (cur.toList.set o v).take (o + 1) = cur.toList.take o ++ [v] := by
      rw [List.take_succ_eq_append_getElem (by simpa using ho), List.take_set_of_le (Nat.le_refl _)]
      simp
    have e2 : (cur.toList.set o v).drop (o + 1 + r.length) = cur.toList.drop (o + (v :: r).length) := by
      rw [List.drop_set_of_lt (by omega)]
      congr 1
      simp; omega
    rw [e1, e2]
    simp

theorem grownBy_setCells (g : Nat) : ∀ (vs : List Value) (o : Nat) (w : World), w.grownBy (w.setCells g o vs) (some g)
  | [], _, w => World.grownBy.refl w _
  | v :: r, o, w => by
    have h1 : w.grownBy (w.setCell ⟨g, o, none⟩ v) (some g) := ⟨rfl, rfl, rfl, by simp [World.setCell], fun k hk hn => Below.heap_setCell _ _ _ _ (fun e => hn (by rw [e]))⟩
    have h2 := grownBy_setCells g r (o + 1) (w.setCell ⟨g, o, none⟩ v)
    exact ⟨h2.os.trans h1.os, h2.tape.trans h1.tape, h2.output.trans h1.output, Nat.le_trans h1.size h2.size, fun k hk hn => (h2.block k (Nat.lt_of_lt_of_le hk h1.size) hn).trans (h1.block k hk hn)⟩

theorem Kept.setCells {S : Nat → Prop} {a w : World} (h : Kept S a w) (g o : Nat) (vs : List Value) (hp : g < a.heap.size → S g) : Kept S a (w.setCells g o vs) :=
  h.grown (grownBy_setCells g vs o w) (fun k e hk => by cases e; exact hp hk)

theorem heap_setCells_other {g k : Nat} (hk : k ≠ g) (vs : List Value) (o : Nat) (w : World) (hlt : k < w.heap.size) : (w.setCells g o vs).heap[k]? = w.heap[k]? :=
  (grownBy_setCells g vs o w).block k hlt (fun e => hk (by cases e; rfl))

theorem Hid.mk' {p : Prop} (h : p) : Hid p := h

theorem keep_name {P : Program} {f : Nat} {args : Array Value} {w : World} {x : Ending} (h : Calls P f args w fun e w' => e = x ∧ w' = w) : Calls P f args w fun e w' => e = x ∧ w = w' :=
  h.mono fun _ _ ⟨h1, h2⟩ => ⟨h1, h2.symm⟩
theorem keep_name' {P : Program} {f : Nat} {args : Array Value} {w : World} {R : Ending → Prop} (h : Calls P f args w fun e w' => R e ∧ w' = w) : Calls P f args w fun e w' => R e ∧ w = w' :=
  h.mono fun _ _ ⟨h1, h2⟩ => ⟨h1, h2.symm⟩

theorem own_slice {w : World} {base : Nat} {e : TypeId} {size : Nat} {v : Value} {n : Nat} {xs : List Value} (h : w.ownsRow base e size v n xs) : ∃ a c, v = .slice a n c := by
  rcases h.2 with ⟨rfl, h0⟩ | ⟨g, cap, cur, rfl, _⟩
  · exact ⟨none, 0, by rw [h0]⟩
  · exact ⟨_, _, rfl⟩

theorem bs_nil (w : World) (a : Option Addr) : Bs w a [] := ⟨by simp, fun z hz => by simp at hz, .inl rfl⟩

theorem Bs.drop {w : World} {b off : Nat} {zs : List Int} (h : Bs w (some ⟨b, off, none⟩) zs) (k : Nat) : Bs w (some ⟨b, off + k, none⟩) (zs.drop k) := by
  have hl := h.len
  refine ⟨by rw [List.length_drop]; omega, fun z hz => h.bytes z (List.mem_of_mem_drop hz), ?_⟩
  rcases h.lies with h0 | ⟨b', off', e, hc⟩
  · exact .inl (by rw [List.length_drop]; omega)
  · simp only [Option.some.injEq, Addr.mk.injEq, and_true] at e
    obtain ⟨rfl, rfl⟩ := e
    refine .inr ⟨b, off + k, rfl, fun i hi => ?_⟩
    rw [List.length_drop] at hi
    rw [Nat.add_assoc, hc (k + i) (by omega), List.getD_eq_getElem?_getD, List.getD_eq_getElem?_getD, List.getElem?_drop]

theorem Bs.mk_row {w : World} {g : Nat} {t : TypeId} {L : List Int} (o : Nat) (zs : List Int) (h : w.heap[g]? = some (.cells (L.map (Value.int .u8)).toArray t (0, 0))) (hb : Bytes zs) (hl : zs.length ≤ 140737488355328) (he : ∀ i, i < zs.length → L[o + i]? = zs[i]?) : Bs w (some ⟨g, o, none⟩) zs := by
  refine ⟨hl, hb, .inr ⟨g, o, rfl, fun i hi => ?_⟩⟩
  have e := he i hi
  rw [List.getElem?_eq_getElem hi] at e
  rw [Go.cell_of_row w g (o + i) _ _ _ h]
  simp only [List.getElem?_toArray, List.getElem?_map, e, Option.map_some]
  simp [hi]
end Go.Proofs.Ytagnaefpkgekmab
