/- What the statement ShareApart keeps: handles that all stand, and a book of what each shows. -/
import Derived.Test.YtbinedhgjmfceaaHk
namespace Go.Proofs.Ytbinedhgjmfceaa
open Go.ChangeShapes Go.WideShapes Go.ChangeAt Go.RowKit

abbrev Bk := Value × List Int

structure AInv (σ : St) (bk : List Bk) (M : Nat) : Prop where
  len : bk.length = σ.hs.length
  at_ : ∀ (i : Nat) (v : Value) (X : List Int), bk[i]? = some (v, X) → ∃ j G, σ.hs[i]? = some (some j) ∧ σ.gs[j]? = some G ∧ G.B = X ∧ G.m ≤ M ∧ X.length ≤ 64 + M

theorem St.put_same {σ : St} {j : Nat} {G : Gr} (h : σ.gs[j]? = some G) : σ.putG j G = σ := by
  obtain ⟨hlt, he⟩ := List.getElem?_eq_some_iff.1 h
  unfold St.putG
  rw [← he, List.set_getElem_self hlt]

theorem AInv.put {σ : St} {bk : List Bk} {M M' k j : Nat} {G G' : Gr} (h : AInv σ bk M) (hk : σ.hs[k]? = some (some j)) (hG : σ.gs[j]? = some G) (v' : Value) (hM : M ≤ M') (h1 : G'.m ≤ M') (h2 : G'.B.length ≤ 64 + M') : AInv ((σ.part k j G).putG (σ.pJ j) G') (bk.set k (v', G'.B)) M' := by
  have hj := (List.getElem?_eq_some_iff.1 hG).1
  have hpg := St.part_get (i := k) hG
  have hph := St.part_hs (G := G) hk
  refine ⟨by rw [List.length_set]; exact h.len.trans (St.part_len σ k j G).symm, fun i v X e => ?_⟩
  rcases set_get e with ⟨rfl, e'⟩ | ⟨hne, e⟩
  · obtain ⟨rfl, rfl⟩ := Prod.mk.inj e'
    exact ⟨σ.pJ j, G', hph, List.getElem?_set_self (List.getElem?_eq_some_iff.1 hpg).1, rfl, h1, h2⟩
  · obtain ⟨ji, Gi, q1, q2, q3, q4, q5⟩ := h.at_ i v X e
    have hji := (List.getElem?_eq_some_iff.1 q2).1
    refine ⟨ji, Gi, ?_, ?_, q3, by omega, by omega⟩
    · show (σ.part k j G).hs[i]? = _
      unfold St.part
      by_cases hm : many σ.hs j = 1
      · rw [if_pos hm]; exact q1
      · rw [if_neg hm]
        show (σ.hs.set k _)[i]? = _
        rw [List.getElem?_set_ne (fun e => hne e.symm)]; exact q1
    · show ((σ.part k j G).gs.set (σ.pJ j) G')[ji]? = _
      have hne2 : σ.pJ j ≠ ji := by
        unfold St.pJ
        by_cases hm : many σ.hs j = 1
        · rw [if_pos hm]
          intro e; subst e
          have := many_two hk q1 (fun e => hne e.symm)
          omega
        · rw [if_neg hm]; omega
      rw [List.getElem?_set_ne hne2]
      unfold St.part
      by_cases hm : many σ.hs j = 1
      · rw [if_pos hm]; exact q2
      · rw [if_neg hm]; exact snoc_old q2

theorem AInv.parted {σ : St} {bk : List Bk} {M k j : Nat} {G : Gr} {v : Value} (h : AInv σ bk M) (hk : σ.hs[k]? = some (some j)) (hG : σ.gs[j]? = some G) (hb : bk[k]? = some (v, G.B)) (hm : G.m ≤ M) (hl : G.B.length ≤ 64 + M) : AInv (σ.part k j G) bk M := by
  have h1 : (σ.pG j G).m ≤ M := by unfold St.pG; split <;> simp [hm]
  have := h.put hk hG (G' := σ.pG j G) v (Nat.le_refl _) h1 (by rw [St.pG_B]; exact hl)
  rw [St.put_same (St.part_get (i := k) hG), St.pG_B] at this
  obtain ⟨hlt, he⟩ := List.getElem?_eq_some_iff.1 hb
  rw [← he, List.set_getElem_self hlt] at this
  exact this

theorem AInv.clone {σ : St} {bk : List Bk} {M k j : Nat} {v : Value} {X : List Int} (h : AInv σ bk M) (hk : σ.hs[k]? = some (some j)) (hb : bk[k]? = some (v, X)) (v' : Value) : AInv ⟨σ.hs ++ [some j], σ.gs⟩ (bk ++ [(v', X)]) M := by
  refine ⟨by simp [h.len], fun i v2 X2 e => ?_⟩
  rcases snoc_get e with e | ⟨rfl, e'⟩
  · obtain ⟨ji, Gi, q1, q⟩ := h.at_ i v2 X2 e
    exact ⟨ji, Gi, snoc_old q1, q⟩
  · obtain ⟨rfl, rfl⟩ := Prod.mk.inj e'
    obtain ⟨ji, Gi, q1, q⟩ := h.at_ k v X2 hb
    have : j = ji := by have := hk.symm.trans q1; simpa using this
    subst this
    exact ⟨j, Gi, by rw [h.len]; exact snoc_new _ _, q⟩

theorem AInv.more {σ : St} {bk : List Bk} {M M' : Nat} (h : AInv σ bk M) (hM : M ≤ M') : AInv σ bk M' :=
  ⟨h.len, fun i v X e => by
    obtain ⟨ji, Gi, q1, q2, q3, q4, q5⟩ := h.at_ i v X e
    exact ⟨ji, Gi, q1, q2, q3, by omega, by omega⟩⟩

/-- A row of bytes in the book. -/
def rwT (W : World) (e : Bk) : Thing := rowT W.heap.size 5 1 e.1 e.2.length (e.2.map (Value.int .u8))

/-- All that there is: handles, the slice of them, the book, its rows. -/
def apL (W : World) (F : Nat → Prop) (sl pl : List Nat) (σ : St) (ga ca gb cb N : Nat) (bk : List Bk) : List Thing :=
  shT pgS F sl pl σ :: rowT W.heap.size 36 1 (.slice (some ⟨ga, 0, none⟩) N ca) N (sl.map ptr) :: rowT W.heap.size 22 1 (.slice (some ⟨gb, 0, none⟩) N cb) N (bk.map (·.1)) :: bk.map (rwT W)

theorem Heap.swap {W w : World} {L : List Thing} {T : Thing} (h : Heap W w (T :: L)) (i : Nat) (hi : i < L.length) : Heap W w (L.set i T) := by
  have p : (T :: L).Perm (L[i] :: L.set i T) := by
    have e1 : L.set i T = L.take i ++ T :: L.drop (i + 1) := by rw [List.set_eq_take_append_cons_drop, if_pos hi]
    have e2 : L = L.take i ++ L[i] :: L.drop (i + 1) := by rw [List.getElem_cons_drop hi, List.take_append_drop]
    rw [e1]
    conv => lhs; rw [e2]
    refine (List.Perm.cons _ List.perm_middle).trans ?_
    refine (List.Perm.swap _ _ _).trans (List.Perm.cons _ ?_)
    exact List.perm_middle.symm
  exact (h.perm p).tail

theorem own_cut {w : World} {base : Nat} {e : TypeId} {g c n : Nat} {xs : List Value} (h : w.ownsRow base e 1 (.slice (some ⟨g, 0, none⟩) n c) n xs) (k : Nat) (hk : k ≤ n) : w.ownsRow base e 1 (.slice (some ⟨g, 0, none⟩) k c) k (xs.take k) := by
  obtain ⟨h1, h2⟩ := h
  rcases h2 with ⟨e1, _⟩ | ⟨g', cap, cur, e1, q1, q2, q3, q4, q5, q6⟩
  · cases e1
  · simp only [Value.slice.injEq, Option.some.injEq, Addr.mk.injEq] at e1
    obtain ⟨⟨rfl, -, -⟩, -, rfl⟩ := e1
    refine ⟨by rw [List.length_take, h1]; omega, .inr ⟨g, c, cur, rfl, q1, q2, by omega, q4, q5, ?_⟩⟩
    rw [← q6, List.take_take]
    congr 1; omega
end Go.Proofs.Ytbinedhgjmfceaa
