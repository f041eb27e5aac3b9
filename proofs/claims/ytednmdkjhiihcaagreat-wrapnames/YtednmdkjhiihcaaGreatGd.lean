/- A region that draws, gone by hand: an operation is taken first; one alone comes up; a struct is stored whole into the block that was laid just now. -/
import Derived.Test.YtednmdkjhiihcaaGreatGa
import Derived.Deep.RegionHeld3
namespace Go.Proofs.YtednmdkjhiihcaaGreat
open Go.ChangeShapes Go.WideShapes Go.ChangeAt Go.RowKit

/-- An operation whose value stands in every world that meets S is taken first. -/
theorem held_take {md : Region.Mode} {ops : Array Oper} {Q : Exit → Act → World → Prop} {S : World → Prop} {fuel : Nat} {listed : Array Bool} {a : Act} {w : World} (i t : Nat) (v : Value) {oi : Oper} (hi : ops[i]? = some oi) (hd : oi.dst = some t)
    (hs : Region.noSelect ops = true) (hf : Region.free md ops listed i = true) (hr : (Region.ready md ops listed).contains i = true)
    (hQ : ∀ c a w, Q (.panic c) (a.put (some t) v) w → Q (.panic c) a w) (hy : YieldsIf Tryz.prog ops S oi v a) (hS : S w)
    (h : wpAnyH Tryz.prog md ops Q S fuel (listed.setIfInBounds i true) (a.put (some t) v) w) : wpAnyH Tryz.prog md ops Q S (fuel + 1) listed a w :=
  wpAnyH_take hi hs hf hr (fun c a w hq => hQ c a w (by rw [← hd]; exact hq)) hy hS (by rw [hd]; exact h)

/-- One operation alone may come up. -/
theorem held_one {md : Region.Mode} {ops : Array Oper} {Q : Exit → Act → World → Prop} {S : World → Prop} {fuel : Nat} {listed : Array Bool} {a : Act} {w : World} (i : Nat) {o : Oper} (hr : Region.ready md ops listed = [i]) (ho : ops[i]? = some o)
    (h : ∀ K' : Act → World → Prop, Shut (∀ a w, S w → (S w → wpAnyH Tryz.prog md ops Q S fuel (listed.setIfInBounds i true) a w) → K' a w) → if Region.wanted o (yielded ops a.tmps) = true then Oper.wp Tryz.prog o a w K' Q else K' (a.put o.dst undef) w) :
    wpAnyH Tryz.prog md ops Q S (fuel + 1) listed a w :=
  wpAnyH_ready hr (by simp) (AllReadyH.cons ho h AllReadyH.nil)

/-- .. which is a store of a struct into the block that was laid just now. -/
theorem held_store_new {md : Region.Mode} {ops : Array Oper} {Q : Exit → Act → World → Prop} {S : World → Prop} {fuel : Nat} {listed : Array Bool} {a : Act} {w : World} (i : Nat) {o : Oper} (hr : Region.ready md ops listed = [i]) (ho : ops[i]? = some o)
    (hg : o.guard = none) (hd : o.dst = none) (ty : TypeId) (x y : Operand) (hop : o.op = .store ty x y) (t : TypeId) (Z L : List Value) (hx : a.eval x = .pointer (some ⟨w.heap.size, 0, none⟩)) (hy : a.eval y = .agg L.toArray) (hl : L.length = Z.length) (hi : (Tryz.prog.info? ty).map (·.size) = some L.length) (h1 : L.toArray.all (·.oneCell') = true)
    (hS : S (w.alloc (.cells L.toArray t))) (h : wpAnyH Tryz.prog md ops Q S fuel (listed.setIfInBounds i true) a (w.alloc (.cells L.toArray t))) : wpAnyH Tryz.prog md ops Q S (fuel + 1) listed a (w.alloc (.cells Z.toArray t)) := by
  refine held_one i hr ho (fun K hK => ?_)
  have hw : Region.wanted o (yielded ops a.tmps) = true := by simp [Region.wanted, hg]
  rw [if_pos hw]
  refine wp_store_mid ty x y hop w.heap.size 0 L.toArray hx hy ?_ (by simpa using hi) h1 ?_
  · have e : L.toArray.size = Z.length := by rw [← hl]; exact List.size_toArray
    rw [e]; exact there_block (heap_alloc_new w _)
  · rw [setCells_new w t _ 0 Z (by simp [hl]), put_all _ _ (by simp [hl]), hd]
    exact hK.out _ _ hS (fun _ => h)
/-- A store of a struct over a block of as many cells, as a step. -/
theorem step_store_box {ops : Array Oper} {o : Oper} {a : Act} {w : World} {K : Act → World → Prop} {Q : Exit → Act → World → Prop} {E : Prop} (hg : o.guard = none) (hd : o.dst = none) (ty : TypeId) (x y : Operand) (hop : o.op = .store ty x y) (g : Nat) (L : List Value) (hx : a.eval x = .pointer (some ⟨g, 0, none⟩)) (hy : a.eval y = .agg L.toArray) (ht : w.there g 0 L.toArray.size) (hi : (Tryz.prog.info? ty).map (·.size) = some L.length) (h1 : L.toArray.all (·.oneCell') = true)
    (h : K a (w.setCells g 0 L)) : if Region.wanted o (yielded ops a.tmps) = true then Oper.wp Tryz.prog o a w K Q else E := by
  have hw : Region.wanted o (yielded ops a.tmps) = true := by simp [Region.wanted, hg]
  rw [if_pos hw]
  refine wp_store_mid ty x y hop g 0 L.toArray hx hy ht (by simpa using hi) h1 ?_
  rw [hd]
  exact h
end Go.Proofs.YtednmdkjhiihcaaGreat
