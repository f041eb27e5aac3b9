/- Things in memory, each with the blocks that it may write (Thing); a list of things that are apart from each other, all made since a world W (Heap): a step on one keeps the others. -/
import Derived.Test.YtednmdkjhiihcaaGreatBw
namespace Go.Proofs.YtednmdkjhiihcaaGreat
open Go.ChangeShapes Go.WideShapes Go.ChangeAt Go.RowKit

/-- Something that lies in memory: its blocks, and what is said of them; it hangs on these blocks alone. -/
structure Thing where
  foot : Nat → Prop
  holds : World → Prop
  keeps : ∀ {S : Nat → Prop} {w w' : World}, holds w → Kept S w w' → (∀ k, foot k → ¬ S k) → holds w'
  lt : ∀ {w : World} {k : Nat}, holds w → foot k → k < w.heap.size

theorem Thing.below (T : Thing) {w w' : World} (h : T.holds w) (b : Below w.heap.size w w') : T.holds w' :=
  T.keeps h (Kept.of_below (S := fun _ => False) b) (fun _ _ h => h)

def Apart (T U : Thing) : Prop := ∀ k, T.foot k → ¬ U.foot k
theorem Apart.symm {T U : Thing} (h : Apart T U) : Apart U T := fun k hk hk' => h k hk' hk

structure Heap (W : World) (w : World) (L : List Thing) : Prop where
  all : ∀ T ∈ L, T.holds w
  apart : L.Pairwise Apart
  high : ∀ T ∈ L, ∀ k, T.foot k → W.heap.size ≤ k
  old : Below W.heap.size W w

theorem Heap.nil {W w : World} (h : Below W.heap.size W w) : Heap W w [] := ⟨by simp, .nil, by simp, h⟩
theorem Heap.get {W w : World} {L : List Thing} (h : Heap W w L) {i : Nat} {T : Thing} (hi : L[i]? = some T) : T.holds w := h.all T (List.mem_of_getElem? hi)
theorem Heap.perm {W w : World} {L L' : List Thing} (h : Heap W w L) (p : L.Perm L') : Heap W w L' :=
  ⟨fun T hT => h.all T (p.mem_iff.2 hT), (p.pairwise_iff (fun {_ _} => Apart.symm)).1 h.apart, fun T hT => h.high T (p.mem_iff.2 hT), h.old⟩
theorem Heap.below {W w w' : World} {L : List Thing} (h : Heap W w L) (b : Below w.heap.size w w') : Heap W w' L :=
  ⟨fun T hT => T.below (h.all T hT) b, h.apart, h.high, h.old.trans (b.mono h.old.size)⟩
theorem Heap.tail {W w : World} {T : Thing} {L : List Thing} (h : Heap W w (T :: L)) : Heap W w L :=
  ⟨fun U hU => h.all U (List.mem_cons_of_mem _ hU), (List.pairwise_cons.1 h.apart).2, fun U hU => h.high U (List.mem_cons_of_mem _ hU), h.old⟩
theorem Heap.drop {W w : World} {L M : List Thing} (h : Heap W w (L ++ M)) : Heap W w M := by
  induction L with
  | nil => exact h
  | cons T L ih => exact ih h.tail

/-- A new thing. -/
theorem Heap.add {W w w' : World} {L : List Thing} (h : Heap W w L) (b : Below w.heap.size w w') (T : Thing) (hT : T.holds w') (hn : ∀ k, T.foot k → w.heap.size ≤ k) : Heap W w' (T :: L) := by
  refine ⟨fun U hU => ?_, List.pairwise_cons.2 ⟨fun U hU k hk hk' => ?_, h.apart⟩, fun U hU k hk => ?_, h.old.trans (b.mono h.old.size)⟩
  · rcases List.mem_cons.1 hU with rfl | hU
    · exact hT
    · exact U.below (h.all U hU) b
  · have := U.lt (h.all U hU) hk'
    have := hn k hk
    omega
  · rcases List.mem_cons.1 hU with rfl | hU
    · have := hn k hk; have := h.old.size; omega
    · exact h.high U hU k hk

/-- The first thing becomes another one; its blocks are the old one's, or new. -/
theorem Heap.step {W w w' : World} {T : Thing} {L : List Thing} (h : Heap W w (T :: L)) (k : Kept T.foot w w') (T' : Thing) (hT : T'.holds w') (hn : ∀ k, T'.foot k → T.foot k ∨ w.heap.size ≤ k) : Heap W w' (T' :: L) := by
  have ha := List.pairwise_cons.1 h.apart
  refine ⟨fun U hU => ?_, List.pairwise_cons.2 ⟨fun U hU j hj hj' => ?_, ha.2⟩, fun U hU j hj => ?_, h.old.trans (k.below h.old.size (fun j hj e => ?_))⟩
  · rcases List.mem_cons.1 hU with rfl | hU
    · exact hT
    · exact U.keeps (h.all U (List.mem_cons_of_mem _ hU)) k (fun j hj hj' => ha.1 U hU j hj' hj)
  · rcases hn j hj with e | e
    · exact ha.1 U hU j e hj'
    · have := U.lt (h.all U (List.mem_cons_of_mem _ hU)) hj'; omega
  · rcases List.mem_cons.1 hU with rfl | hU
    · rcases hn j hj with e | e
      · exact h.high T (by simp) j e
      · have := h.old.size; omega
    · exact h.high U (List.mem_cons_of_mem _ hU) j hj
  · have := h.high T (by simp) j e; omega

/-- The i-th thing becomes another one. -/
theorem Heap.stepAt {W w w' : World} {L : List Thing} (h : Heap W w L) (i : Nat) (T : Thing) (hi : L[i]? = some T) (k : Kept T.foot w w') (T' : Thing) (hT : T'.holds w') (hn : ∀ k, T'.foot k → T.foot k ∨ w.heap.size ≤ k) : Heap W w' (L.set i T') := by
  obtain ⟨hlt, he⟩ := List.getElem?_eq_some_iff.1 hi
  have p1 : L.Perm (T :: (L.take i ++ L.drop (i + 1))) := by
    have e : L = L.take i ++ T :: L.drop (i + 1) := by
      rw [← he, List.getElem_cons_drop hlt, List.take_append_drop]
    conv => lhs; rw [e]
    exact List.perm_middle
  have p2 : (T' :: (L.take i ++ L.drop (i + 1))).Perm (L.set i T') := by
    rw [List.set_eq_take_append_cons_drop, if_pos hlt]
    exact List.perm_middle.symm
  exact ((h.perm p1).step k T' hT hn).perm p2

/-- Two things, the first two, become others at once. -/
theorem Heap.step2 {W w w' : World} {T U : Thing} {L : List Thing} (h : Heap W w (T :: U :: L)) (k : Kept (fun j => T.foot j ∨ U.foot j) w w') (T' U' : Thing) (hT : T'.holds w') (hU : U'.holds w') (hn : ∀ k, T'.foot k → T.foot k ∨ w.heap.size ≤ k) (hm : ∀ k, U'.foot k → U.foot k ∨ w.heap.size ≤ k) (hd : ∀ k, w.heap.size ≤ k → T'.foot k → ¬ U'.foot k) : Heap W w' (T' :: U' :: L) := by
  have ha := List.pairwise_cons.1 h.apart
  have hb := List.pairwise_cons.1 ha.2
  have lt : ∀ V ∈ T :: U :: L, ∀ j, V.foot j → j < w.heap.size := fun V hV j hj => V.lt (h.all V hV) hj
  refine ⟨fun V hV => ?_, List.pairwise_cons.2 ⟨fun V hV j hj hj' => ?_, List.pairwise_cons.2 ⟨fun V hV j hj hj' => ?_, hb.2⟩⟩, fun V hV j hj => ?_, h.old.trans (k.below h.old.size (fun j hj e => ?_))⟩
  · rcases List.mem_cons.1 hV with rfl | hV
    · exact hT
    · rcases List.mem_cons.1 hV with rfl | hV
      · exact hU
      · refine V.keeps (h.all V (by simp [hV])) k (fun j hj hj' => ?_)
        rcases hj' with e | e
        · exact ha.1 V (by simp [hV]) j e hj
        · exact hb.1 V hV j e hj
  · rcases List.mem_cons.1 hV with rfl | hV
    · rcases hn j hj with e | e
      · rcases hm j hj' with e' | e'
        · exact ha.1 U (by simp) j e e'
        · have := lt T (by simp) j e; omega
      · exact hd j e hj hj'
    · rcases hn j hj with e | e
      · exact ha.1 V (by simp [hV]) j e hj'
      · have := lt V (by simp [hV]) j hj'; omega
  · rcases hm j hj with e | e
    · exact hb.1 V hV j e hj'
    · have := lt V (by simp [hV]) j hj'; omega
  · have hs := h.old.size
    rcases List.mem_cons.1 hV with rfl | hV
    · rcases hn j hj with e | e
      · exact h.high T (by simp) j e
      · omega
    · rcases List.mem_cons.1 hV with rfl | hV
      · rcases hm j hj with e | e
        · exact h.high U (by simp) j e
        · omega
      · exact h.high V (by simp [hV]) j hj
  · rcases e with e | e
    · have := h.high T (by simp) j e; omega
    · have := h.high U (by simp) j e; omega

/-- A block of cells, just so. -/
def cellsT (p : Nat) (cs : Array Value) (t : TypeId) : Thing where
  foot := fun k => k = p
  holds := fun w => w.heap[p]? = some (.cells cs t (0, 0))
  keeps := fun {S w w'} h k hs => by rw [k.block p (Array.getElem?_eq_some_iff.1 h).1 (hs p rfl)]; exact h
  lt := fun {w k} h e => by subst e; exact (Array.getElem?_eq_some_iff.1 h).1

/-- A row of the call's own. -/
def rowT (base : Nat) (e : TypeId) (size : Nat) (v : Value) (n : Nat) (xs : List Value) : Thing where
  foot := fun k => v.ownBlock = some k
  holds := fun w => w.ownsRow base e size v n xs
  keeps := fun h k hs => Kept.owns h k (fun g hg => hs g hg)
  lt := fun {_ k} h e => (h.lt k e).2
end Go.Proofs.YtednmdkjhiihcaaGreat
