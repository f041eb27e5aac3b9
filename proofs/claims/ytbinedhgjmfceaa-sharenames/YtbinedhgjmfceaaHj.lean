/- What the statement ShareCounts keeps of handles, as numbers. -/
import Derived.Test.YtbinedhgjmfceaaHi
namespace Go.Proofs.Ytbinedhgjmfceaa
open Go.ChangeShapes Go.WideShapes Go.ChangeAt Go.RowKit

structure CInv (σ : St) (st : List Nat) (sh : Nat) : Prop where
  len : st.length = σ.hs.length
  at_ : ∀ (k x : Nat) (o : Option Nat), st[k]? = some x → σ.hs[k]? = some o → (x = 0 ∧ o = some 0) ∨ (x = 1 ∧ o = none) ∨ (x = 2 ∧ ∃ j, o = some j ∧ j ≠ 0 ∧ many σ.hs j = 1)
  sh_ : sh = many σ.hs 0
  bs : ∀ (j : Nat) (G : Gr), σ.gs[j]? = some G → G.B.length = 3
  ne : 0 < σ.gs.length
  rng : ∀ (i j : Nat), σ.hs[i]? = some (some j) → j < σ.gs.length

theorem many_two {hs : List (Option Nat)} {i k j : Nat} (h1 : hs[i]? = some (some j)) (h2 : hs[k]? = some (some j)) (hne : i ≠ k) : 2 ≤ many hs j := by
  have h3 := many_set none j h1
  have h4 : (hs.set i none)[k]? = some (some j) := by rw [List.getElem?_set_ne hne]; exact h2
  have := many_pos h4
  simp at h3
  omega

theorem CInv.get {σ : St} {st : List Nat} {sh : Nat} (h : CInv σ st sh) {k : Nat} (hk : k < st.length) : ∃ x o, st[k]? = some x ∧ σ.hs[k]? = some o := by
  exact ⟨_, _, List.getElem?_eq_getElem hk, List.getElem?_eq_getElem (by rw [← h.len]; exact hk)⟩

theorem CInv.free {σ : St} {st : List Nat} {sh k j x : Nat} (h : CInv σ st sh) (hx : st[k]? = some x) (hk : σ.hs[k]? = some (some j)) : CInv ⟨σ.hs.set k none, σ.gs⟩ (st.set k 1) (if x = 0 then sh - 1 else sh) := by
  have hm0 := many_set none 0 hk
  refine ⟨by simp [h.len], fun k' x' o' e1 e2 => ?_, ?_, h.bs, h.ne, fun i' j' e => ?_⟩
  · rcases set_get e1 with ⟨rfl, rfl⟩ | ⟨hne, e1⟩
    · rcases set_get e2 with ⟨_, rfl⟩ | ⟨hne, _⟩
      · exact .inr (.inl ⟨rfl, rfl⟩)
      · exact absurd rfl hne
    · rcases set_get e2 with ⟨e, _⟩ | ⟨_, e2⟩
      · exact absurd e hne
      · rcases h.at_ k' x' o' e1 e2 with c | c | ⟨c1, j', c2, c3, c4⟩
        · exact .inl c
        · exact .inr (.inl c)
        · refine .inr (.inr ⟨c1, j', c2, c3, ?_⟩)
          have hj : ¬ j = j' := by
            intro e; subst e; subst c2
            have := many_two hk e2 (fun e => hne e.symm)
            omega
          have hm := many_set none j' hk
          simp [hj] at hm
          show many (σ.hs.set k none) j' = 1
          omega
  · show _ = many (σ.hs.set k none) 0
    have := h.sh_
    rcases h.at_ k x _ hx hk with ⟨c1, c2⟩ | ⟨c1, c2⟩ | ⟨c1, j', c2, c3, c4⟩
    · have : j = 0 := by simpa using c2
      subst this; simp at hm0
      rw [if_pos c1]; omega
    · cases c2
    · have e : j = j' := by simpa using c2
      subst e
      simp [c3] at hm0
      rw [if_neg (by omega)]; omega
  · rcases set_get e with ⟨_, e⟩ | ⟨_, e⟩
    · cases e
    · exact h.rng i' j' e

theorem CInv.store {σ : St} {st : List Nat} {sh k j x : Nat} {G : Gr} (h : CInv σ st sh) (hx : st[k]? = some x) (hk : σ.hs[k]? = some (some j)) (hG : σ.gs[j]? = some G) : CInv (σ.store k j G 0 1 7) (if x = 0 ∧ 1 < sh then st.set k 2 else st) (if x = 0 ∧ 1 < sh then sh - 1 else sh) := by
  have hB := h.bs j G hG
  have ha : askE G.B.length 0 1 = 0 := by rw [hB]; decide
  have hst : (stE G.B 0 1 7).length = 3 := by rw [stE_length]; exact hB
  have hj := h.rng k j hk
  have hp := many_pos hk
  have hsh := h.sh_
  unfold St.store
  rw [if_pos ha]
  unfold St.part St.pJ St.pG St.putG
  by_cases h1 : many σ.hs j = 1
  · rw [if_pos h1, if_pos h1, if_pos h1]
    have hc : ¬ (x = 0 ∧ 1 < sh) := by
      rintro ⟨rfl, e⟩
      rcases h.at_ k 0 _ hx hk with ⟨c1, c2⟩ | ⟨c1, c2⟩ | ⟨c1, j', c2, c3, c4⟩
      · have : j = 0 := by simpa using c2
        subst this; omega
      · cases c2
      · omega
    rw [if_neg hc, if_neg hc]
    refine ⟨h.len, h.at_, h.sh_, fun j' G' e => ?_, by simpa using h.ne, fun i' j' e => by simpa using h.rng i' j' e⟩
    rcases set_get e with ⟨_, rfl⟩ | ⟨_, e⟩
    · exact hst
    · exact h.bs j' G' e
  · rw [if_neg h1, if_neg h1, if_neg h1]
    have hj0 : x = 0 ∧ j = 0 := by
      rcases h.at_ k x _ hx hk with ⟨c1, c2⟩ | ⟨c1, c2⟩ | ⟨c1, j', c2, c3, c4⟩
      · exact ⟨c1, by simpa using c2⟩
      · cases c2
      · have : j = j' := by simpa using c2
        subst this; exact absurd c4 h1
    obtain ⟨rfl, rfl⟩ := hj0
    rw [if_pos ⟨rfl, by omega⟩, if_pos ⟨rfl, by omega⟩]
    have h0 : many σ.hs σ.gs.length = 0 := many_out (fun i' j' e => h.rng i' j' e)
    have hne := h.ne
    refine ⟨by simp [h.len], fun k' x' o' e1 e2 => ?_, ?_, fun j' G' e => ?_, by simp, fun i' j' e => ?_⟩
    · rcases set_get e1 with ⟨rfl, rfl⟩ | ⟨hk', e1⟩
      · rcases set_get e2 with ⟨_, rfl⟩ | ⟨hne, _⟩
        · refine .inr (.inr ⟨rfl, σ.gs.length, rfl, by omega, ?_⟩)
          have hm := many_set (some σ.gs.length) σ.gs.length hk
          simp [show ¬ 0 = σ.gs.length by omega] at hm
          show many (σ.hs.set k' (some σ.gs.length)) σ.gs.length = 1
          omega
        · exact absurd rfl hne
      · rcases set_get e2 with ⟨e, _⟩ | ⟨_, e2⟩
        · exact absurd e hk'
        · rcases h.at_ k' x' o' e1 e2 with c | c | ⟨c1, j', c2, c3, c4⟩
          · exact .inl c
          · exact .inr (.inl c)
          · refine .inr (.inr ⟨c1, j', c2, c3, ?_⟩)
            subst c2
            have hr := h.rng k' j' e2
            have hm := many_set (some σ.gs.length) j' hk
            simp [show ¬ 0 = j' by omega, show ¬ σ.gs.length = j' by omega] at hm
            show many (σ.hs.set k (some σ.gs.length)) j' = 1
            omega
    · have hm := many_set (some σ.gs.length) 0 hk
      simp [show ¬ σ.gs.length = 0 by omega] at hm
      show _ = many (σ.hs.set k (some σ.gs.length)) 0
      omega
    · rcases set_get e with ⟨_, rfl⟩ | ⟨_, e⟩
      · exact hst
      · rcases snoc_get e with e | ⟨_, rfl⟩
        · exact h.bs j' G' e
        · exact hB
    · rcases set_get e with ⟨_, e⟩ | ⟨_, e⟩
      · have : j' = σ.gs.length := by simpa using e
        simp; omega
      · have := h.rng i' j' e
        simp; omega

/-- How many it says share the k-th. -/
def wantC (x sh : Nat) : Nat := if x = 1 then 0 else if x = 2 then 1 else sh
end Go.Proofs.Ytbinedhgjmfceaa
