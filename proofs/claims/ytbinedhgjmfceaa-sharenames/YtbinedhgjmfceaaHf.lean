/- Steps on handles that share packets: a clone, one that is given up, one that parts, a packet that is changed, a new one. -/
import Derived.Test.YtbinedhgjmfceaaHe
namespace Go.Proofs.Ytbinedhgjmfceaa
open Go.ChangeShapes Go.WideShapes Go.ChangeAt Go.RowKit

theorem snoc_get {α : Type} {l : List α} {x y : α} {i : Nat} (h : (l ++ [x])[i]? = some y) : l[i]? = some y ∨ (i = l.length ∧ y = x) := by
  by_cases hlt : i < l.length
  · rw [List.getElem?_append_left hlt] at h; exact .inl h
  · rw [List.getElem?_append_right (by omega)] at h
    by_cases e : i - l.length = 0
    · rw [e] at h; simp at h; exact .inr ⟨by omega, h.symm⟩
    · rw [List.getElem?_eq_none (by simp; omega)] at h; cases h
theorem snoc_old {α : Type} {l : List α} {x y : α} {i : Nat} (h : l[i]? = some y) : (l ++ [x])[i]? = some y := by
  rw [List.getElem?_append_left (List.getElem?_eq_some_iff.1 h).1]; exact h
theorem snoc_new {α : Type} (l : List α) (x : α) : (l ++ [x])[l.length]? = some x := by simp
theorem set_get {α : Type} {l : List α} {i k : Nat} {y z : α} (h : (l.set i y)[k]? = some z) : (k = i ∧ z = y) ∨ (k ≠ i ∧ l[k]? = some z) := by
  by_cases e : k = i
  · subst e
    have hlt : k < l.length := by have := (List.getElem?_eq_some_iff.1 h).1; simpa using this
    rw [List.getElem?_set_self hlt] at h
    exact .inl ⟨rfl, by simpa using h.symm⟩
  · rw [List.getElem?_set_ne (fun h => e h.symm)] at h
    exact .inr ⟨e, h⟩

theorem lt_of_block {w : World} {k : Nat} {o : Obj} (h : w.heap[k]? = some o) : k < w.heap.size := (Array.getElem?_eq_some_iff.1 h).1

theorem Open.clone {d : Sd} {w w' : World} {F : Nat → Prop} {lab : Nat → Lab} {cl sl pl : List Nat} {σ : St} {i j s c p : Nat} {x : d.X} {G : Gr} {cs : Array Value} (o : Open d w lab cl sl pl σ i j s c p x G cs) (hF : ∀ k, F k ↔ lab k ≠ .no)
    {t : Nat} {cs' : Array Value} (k : Kept (fun i => i = c) w w') (ht : w.heap.size ≤ t) (h1 : w'.heap[t]? = some (.cells cs' d.tS (0, 0))) (hcs : d.hc (some c) cs') (h2 : w'.heap[c]? = some (.cells #[.pointer (some ⟨p, 0, none⟩), .int .i64 ((many σ.hs j + 1 : Nat) : Int)] d.tG (0, 0))) :
    Next d w F w' (sl ++ [t]) pl ⟨σ.hs ++ [some j], σ.gs⟩ := by
  have kT : Kept (fun i => (fun l => l = Lab.cm j) (lab i)) w w' := k.mono (fun i _ e => by show lab i = .cm j; rw [e]; exact o.lc)
  refine ShsAt.nexts (T := fun l => l = Lab.cm j) hF (by intro e; cases e) kT (f := fun k => if k = t then .hd sl.length else .no) (o.at_.next (fun l => l = Lab.cm j) kT _ cl (sl ++ [t]) pl _ (by simp [o.at_.lens]) o.at_.lenc o.at_.lenp (fun _ _ h => h) (fun i' s' st e1 e2 => ?_) (fun j' c' p' G' e1 e2 e3 => ?_))
  · rcases snoc_get e1 with e1 | ⟨rfl, rfl⟩
    · rcases snoc_get e2 with e2 | ⟨e, _⟩
      · exact .inl ⟨e1, e2, by intro e; cases e⟩
      · have := (List.getElem?_eq_some_iff.1 e1).1
        have := o.at_.lens
        omega
    · refine .inr ⟨by rw [grow_new ht (lt_of_block h1)]; simp, cs', h1, ?_⟩
      have e2' : (σ.hs ++ [some j])[σ.hs.length]? = some st := by rw [← o.at_.lens]; exact e2
      rw [snoc_new] at e2'
      obtain rfl : some j = st := by simpa using e2'
      exact ⟨c, o.hcl, hcs⟩
  · by_cases e : j' = j
    · subst e
      obtain rfl : c = c' := by have := o.hcl.symm.trans e1; simpa using this
      obtain rfl : p = p' := by have := o.hpl.symm.trans e2; simpa using this
      obtain rfl : G = G' := by have := o.hgs.symm.trans e3; simpa using this
      refine .inr ⟨o.at_.grow_of o.lc (by intro e; cases e), x, ?_, (d.pk p x G).keeps o.pk kT (fun i hi => by rw [o.lp i hi]; intro e; cases e), fun i hi => o.at_.grow_of (o.lp i hi) (by intro e; cases e)⟩
      rw [h2, many_snoc]; simp
    · refine .inl ⟨e1, e2, e3, ?_, by intro h; cases h; exact e rfl, by intro h; cases h⟩
      show many (σ.hs ++ [some j]) j' = _
      rw [many_snoc, if_neg (by intro h; cases h; exact e rfl)]; rfl

theorem Open.free {d : Sd} {w w' : World} {F : Nat → Prop} {lab : Nat → Lab} {cl sl pl : List Nat} {σ : St} {i j s c p : Nat} {x : d.X} {G : Gr} {cs : Array Value} (o : Open d w lab cl sl pl σ i j s c p x G cs) (hF : ∀ k, F k ↔ lab k ≠ .no)
    {n : Nat} {cs' : Array Value} (k : Kept (fun i => i = s ∨ i = c) w w') (h1 : w'.heap[s]? = some (.cells cs' d.tS (0, 0))) (hcs : d.hc none cs') (hn : n + 1 = many σ.hs j) (h2 : w'.heap[c]? = some (.cells #[.pointer (some ⟨p, 0, none⟩), .int .i64 (n : Int)] d.tG (0, 0))) :
    Next d w F w' sl pl ⟨σ.hs.set i none, σ.gs⟩ := by
  have kT : Kept (fun k => (fun l => l = Lab.hd i ∨ l = Lab.cm j) (lab k)) w w' := k.mono (fun i' _ e => by
    rcases e with rfl | rfl
    · exact .inl o.lh
    · exact .inr o.lc)
  refine ShsAt.nexts (T := fun l => l = Lab.hd i ∨ l = Lab.cm j) hF (by intro e; rcases e with e | e <;> cases e) kT (f := fun _ => .no) (o.at_.next (fun l => l = Lab.hd i ∨ l = Lab.cm j) kT _ cl sl pl _ (by simp [o.at_.lens]) o.at_.lenc o.at_.lenp (fun _ _ h => h) (fun i' s' st e1 e2 => ?_) (fun j' c' p' G' e1 e2 e3 => ?_))
  · rcases set_get e2 with ⟨rfl, rfl⟩ | ⟨hne, e2⟩
    · obtain rfl : s = s' := by have := o.hsl.symm.trans e1; simpa using this
      exact .inr ⟨o.at_.grow_of o.lh (by intro e; cases e), cs', h1, hcs⟩
    · exact .inl ⟨e1, e2, by rintro (h | h) <;> cases h; exact hne rfl⟩
  · have hm := many_set none j' o.hhs
    by_cases e : j' = j
    · subst e
      obtain rfl : c = c' := by have := o.hcl.symm.trans e1; simpa using this
      obtain rfl : p = p' := by have := o.hpl.symm.trans e2; simpa using this
      obtain rfl : G = G' := by have := o.hgs.symm.trans e3; simpa using this
      refine .inr ⟨o.at_.grow_of o.lc (by intro e; cases e), x, ?_, (d.pk p x G).keeps o.pk kT (fun i hi => by rw [o.lp i hi]; rintro (e | e) <;> cases e), fun i hi => o.at_.grow_of (o.lp i hi) (by intro e; cases e)⟩
      rw [h2]
      simp at hm
      show _ = some (Obj.cells #[_, Value.int .i64 ((many (σ.hs.set i none) j' : Nat) : Int)] _ _)
      rw [show many (σ.hs.set i none) j' = n by omega]
    · refine .inl ⟨e1, e2, e3, ?_, by rintro (h | h) <;> cases h; exact e rfl, by rintro (h | h) <;> cases h⟩
      have e' : ¬ j = j' := fun h => e h.symm
      simp [e'] at hm
      exact hm

theorem Open.part {d : Sd} {w w' : World} {F : Nat → Prop} {lab : Nat → Lab} {cl sl pl : List Nat} {σ : St} {i j s c p : Nat} {x : d.X} {G : Gr} {cs : Array Value} (o : Open d w lab cl sl pl σ i j s c p x G cs) (hF : ∀ k, F k ↔ lab k ≠ .no)
    {n c' p' : Nat} {x' : d.X} {G' : Gr} {cs' : Array Value} (k : Kept (fun i => i = s ∨ i = c) w w') (h1 : w'.heap[s]? = some (.cells cs' d.tS (0, 0))) (hcs : d.hc (some c') cs') (hn : n + 1 = many σ.hs j) (h2 : w'.heap[c]? = some (.cells #[.pointer (some ⟨p, 0, none⟩), .int .i64 (n : Int)] d.tG (0, 0)))
    (h3 : w'.heap[c']? = some (.cells #[.pointer (some ⟨p', 0, none⟩), .int .i64 ((1 : Nat) : Int)] d.tG (0, 0))) (hc' : w.heap.size ≤ c') (h4 : (d.pk p' x' G').holds w') (h5 : ∀ k, (d.pk p' x' G').foot k → w.heap.size ≤ k ∧ k ≠ c') :
    Next d w F w' sl (pl ++ [p']) ⟨σ.hs.set i (some σ.gs.length), σ.gs ++ [G']⟩ := by
  have kT : Kept (fun k => (fun l => l = Lab.hd i ∨ l = Lab.cm j) (lab k)) w w' := k.mono (fun i' _ e => by
    rcases e with rfl | rfl
    · exact .inl o.lh
    · exact .inr o.lc)
  have hj := o.at_.rng o.hhs
  have h0 : many σ.hs σ.gs.length = 0 := many_out (fun _ _ h => o.at_.rng h)
  refine ShsAt.nexts (T := fun l => l = Lab.hd i ∨ l = Lab.cm j) hF (by intro e; rcases e with e | e <;> cases e) kT (f := fun k => if k = c' then .cm σ.gs.length else .pk σ.gs.length) (o.at_.next (fun l => l = Lab.hd i ∨ l = Lab.cm j) kT _ (cl ++ [c']) sl (pl ++ [p']) _ (by simp [o.at_.lens]) (by simp [o.at_.lenc]) (by simp [o.at_.lenp]) (fun _ _ h => snoc_old h) (fun i' s' st e1 e2 => ?_) (fun j' c2 p2 G2 e1 e2 e3 => ?_))
  · rcases set_get e2 with ⟨rfl, rfl⟩ | ⟨hne, e2⟩
    · obtain rfl : s = s' := by have := o.hsl.symm.trans e1; simpa using this
      exact .inr ⟨o.at_.grow_of o.lh (by intro e; cases e), cs', h1, c', by rw [← o.at_.lenc]; exact snoc_new _ _, hcs⟩
    · exact .inl ⟨e1, e2, by rintro (h | h) <;> cases h; exact hne rfl⟩
  · have hm := many_set (some σ.gs.length) j' o.hhs
    rcases snoc_get e3 with e3 | ⟨rfl, rfl⟩
    · have hj' := (List.getElem?_eq_some_iff.1 e3).1
      have hJ : ¬ σ.gs.length = j' := by omega
      have e1 : cl[j']? = some c2 := by
        rcases snoc_get e1 with e1 | ⟨e, _⟩
        · exact e1
        · have := o.at_.lenc; omega
      have e2 : pl[j']? = some p2 := by
        rcases snoc_get e2 with e2 | ⟨e, _⟩
        · exact e2
        · have := o.at_.lenp; omega
      by_cases e : j' = j
      · subst e
        obtain rfl : c = c2 := by have := o.hcl.symm.trans e1; simpa using this
        obtain rfl : p = p2 := by have := o.hpl.symm.trans e2; simpa using this
        obtain rfl : G = G2 := by have := o.hgs.symm.trans e3; simpa using this
        refine .inr ⟨o.at_.grow_of o.lc (by intro e; cases e), x, ?_, (d.pk p x G).keeps o.pk kT (fun i hi => by rw [o.lp i hi]; rintro (e | e) <;> cases e), fun i hi => o.at_.grow_of (o.lp i hi) (by intro e; cases e)⟩
        rw [h2]
        simp [hJ] at hm
        show _ = some (Obj.cells #[_, Value.int .i64 ((many (σ.hs.set i (some σ.gs.length)) j' : Nat) : Int)] _ _)
        rw [show many (σ.hs.set i (some σ.gs.length)) j' = n by omega]
      · refine .inl ⟨e1, e2, e3, ?_, by rintro (h | h) <;> cases h; exact e rfl, by rintro (h | h) <;> cases h⟩
        have e' : ¬ j = j' := fun h => e h.symm
        simp [e', hJ] at hm
        exact hm
    · have e1' : c2 = c' := by
        rw [← o.at_.lenc, snoc_new] at e1; simpa using e1.symm
      have e2' : p2 = p' := by
        rw [← o.at_.lenp, snoc_new] at e2; simpa using e2.symm
      subst e1'; subst e2'
      refine .inr ⟨by rw [grow_new hc' (lt_of_block h3)]; simp, x', ?_, h4, fun i hi => ?_⟩
      · rw [h3]
        have hj2 : ¬ j = σ.gs.length := by omega
        simp [hj2] at hm
        show _ = some (Obj.cells #[_, Value.int .i64 ((many (σ.hs.set i (some σ.gs.length)) σ.gs.length : Nat) : Int)] _ _)
        rw [show many (σ.hs.set i (some σ.gs.length)) σ.gs.length = 1 by omega]
      · rw [grow_new (h5 i hi).1 ((d.pk p2 x' G2).lt h4 hi)]
        simp [(h5 i hi).2]

/-- The packet of a group is changed. -/
theorem Shs.put {d : Sd} {w : World} {F : Nat → Prop} {sl pl : List Nat} {σ : St} (h : Shs d w F sl pl σ) {j p : Nat} {G : Gr} (hp : pl[j]? = some p) (hG : σ.gs[j]? = some G) :
    ∃ x, (d.pk p x G).holds w ∧ (∀ k, (d.pk p x G).foot k → F k) ∧ ∀ (w' : World) (x' : d.X) (G' : Gr), Kept (d.pk p x G).foot w w' → (d.pk p x' G').holds w' → (∀ k, (d.pk p x' G').foot k → (d.pk p x G).foot k ∨ w.heap.size ≤ k) → Next d w F w' sl pl ⟨σ.hs, σ.gs.set j G'⟩ := by
  obtain ⟨lab, cl, hF, h⟩ := h
  have hj := (List.getElem?_eq_some_iff.1 hG).1
  obtain ⟨c, hc⟩ : ∃ c, cl[j]? = some c := ⟨_, List.getElem?_eq_getElem (by rw [h.lenc]; exact hj)⟩
  obtain ⟨r1, x, r2, r3, r4⟩ := h.grs j c p G hc hp hG
  refine ⟨x, r3, fun k hk => (hF k).2 (by rw [r4 k hk]; intro e; cases e), fun w' x' G' k1 k2 k3 => ?_⟩
  have kT : Kept (fun k => (fun l => l = Lab.pk j) (lab k)) w w' := k1.mono (fun i' _ e => r4 i' e)
  refine ShsAt.nexts (T := fun l => l = Lab.pk j) hF (by intro e; cases e) kT (f := fun _ => .pk j) (h.next (fun l => l = Lab.pk j) kT _ cl sl pl _ h.lens (by simp [h.lenc]) (by simp [h.lenp]) (fun _ _ h => h) (fun i' s' st e1 e2 => ?_) (fun j' c' p' G2 e1 e2 e3 => ?_))
  · exact .inl ⟨e1, e2, by intro e; cases e⟩
  · rcases set_get e3 with ⟨rfl, rfl⟩ | ⟨hne, e3⟩
    · obtain rfl : c = c' := by have := hc.symm.trans e1; simpa using this
      obtain rfl : p = p' := by have := hp.symm.trans e2; simpa using this
      refine .inr ⟨h.grow_of r1 (by intro e; cases e), x', block_kept r2 kT (by rw [r1]; intro e; cases e), k2, fun i hi => ?_⟩
      rcases k3 i hi with e | e
      · exact h.grow_of (r4 i e) (by intro e; cases e)
      · rw [grow_new e ((d.pk p x' G2).lt k2 hi)]
    · exact .inl ⟨e1, e2, e3, rfl, (by intro e; cases e), (by intro e; cases e; exact hne rfl)⟩

theorem Shs.new {d : Sd} {w w' : World} {F : Nat → Prop} {sl pl : List Nat} {σ : St} (h : Shs d w F sl pl σ) (b : Below w.heap.size w w') {t c' p' : Nat} {x' : d.X} {G' : Gr} {cs' : Array Value} (ht : w.heap.size ≤ t) (hc' : w.heap.size ≤ c') (htc : t ≠ c') (h1 : w'.heap[t]? = some (.cells cs' d.tS (0, 0))) (hcs : d.hc (some c') cs')
    (h3 : w'.heap[c']? = some (.cells #[.pointer (some ⟨p', 0, none⟩), .int .i64 ((1 : Nat) : Int)] d.tG (0, 0))) (h4 : (d.pk p' x' G').holds w') (h5 : ∀ k, (d.pk p' x' G').foot k → w.heap.size ≤ k ∧ k ≠ c' ∧ k ≠ t) :
    Next d w F w' (sl ++ [t]) (pl ++ [p']) ⟨σ.hs ++ [some σ.gs.length], σ.gs ++ [G']⟩ := by
  obtain ⟨lab, cl, hF, h⟩ := h
  have kT : Kept (fun k => (fun _ : Lab => False) (lab k)) w w' := Kept.of_below b
  have h0 : many σ.hs σ.gs.length = 0 := many_out (fun _ _ hh => h.rng hh)
  refine ShsAt.nexts (T := fun _ : Lab => False) hF (fun e => e) kT (f := fun k => if k = t then .hd sl.length else if k = c' then .cm σ.gs.length else .pk σ.gs.length) (h.next (fun _ : Lab => False) kT _ (cl ++ [c']) (sl ++ [t]) (pl ++ [p']) _ (by simp [h.lens]) (by simp [h.lenc]) (by simp [h.lenp]) (fun _ _ hh => snoc_old hh) (fun i' s' st e1 e2 => ?_) (fun j' c2 p2 G2 e1 e2 e3 => ?_))
  · rcases snoc_get e1 with e1 | ⟨rfl, rfl⟩
    · rcases snoc_get e2 with e2 | ⟨e, _⟩
      · exact .inl ⟨e1, e2, fun e => e⟩
      · have := (List.getElem?_eq_some_iff.1 e1).1
        have := h.lens
        omega
    · refine .inr ⟨by rw [grow_new ht (lt_of_block h1)]; simp, cs', h1, ?_⟩
      have e2' : (σ.hs ++ [some σ.gs.length])[σ.hs.length]? = some st := by rw [← h.lens]; exact e2
      rw [snoc_new] at e2'
      obtain rfl : some σ.gs.length = st := by simpa using e2'
      exact ⟨c', by rw [← h.lenc]; exact snoc_new _ _, hcs⟩
  · have hm := many_snoc σ.hs (some σ.gs.length) j'
    rcases snoc_get e3 with e3 | ⟨rfl, rfl⟩
    · have hj' := (List.getElem?_eq_some_iff.1 e3).1
      have hJ : ¬ σ.gs.length = j' := by omega
      have e1 : cl[j']? = some c2 := by
        rcases snoc_get e1 with e1 | ⟨e, _⟩
        · exact e1
        · have := h.lenc; omega
      have e2 : pl[j']? = some p2 := by
        rcases snoc_get e2 with e2 | ⟨e, _⟩
        · exact e2
        · have := h.lenp; omega
      simp [hJ] at hm
      exact .inl ⟨e1, e2, e3, hm, fun e => e, fun e => e⟩
    · have e1' : c2 = c' := by
        rw [← h.lenc, snoc_new] at e1; simpa using e1.symm
      have e2' : p2 = p' := by
        rw [← h.lenp, snoc_new] at e2; simpa using e2.symm
      subst e1'; subst e2'
      refine .inr ⟨by rw [grow_new hc' (lt_of_block h3)]; simp [htc.symm], x', ?_, h4, fun i hi => ?_⟩
      · rw [h3]
        simp at hm
        show _ = some (Obj.cells #[_, Value.int .i64 ((many (σ.hs ++ [some σ.gs.length]) σ.gs.length : Nat) : Int)] _ _)
        rw [show many (σ.hs ++ [some σ.gs.length]) σ.gs.length = 1 by omega]
      · rw [grow_new (h5 i hi).1 ((d.pk p2 x' G2).lt h4 hi)]
        simp [(h5 i hi).2.1, (h5 i hi).2.2]
end Go.Proofs.Ytbinedhgjmfceaa
