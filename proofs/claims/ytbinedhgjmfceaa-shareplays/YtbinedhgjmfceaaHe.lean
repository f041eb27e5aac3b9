/- Handles that share packets, as one thing in memory (Shs), whoever's they are (Sd): what may be done to it. -/
import Derived.Test.YtbinedhgjmfceaaBz
namespace Go.Proofs.Ytbinedhgjmfceaa
open Go.ChangeShapes Go.WideShapes Go.ChangeAt Go.RowKit

/-- A packet, as it is told: bytes, room ahead and behind, moves. -/
structure Gr where
  B : List Int
  a : Nat
  d : Nat
  m : Nat

/-- Which group each handle is of (none: given up); the groups' packets. -/
structure St where
  hs : List (Option Nat)
  gs : List Gr

def many (hs : List (Option Nat)) (j : Nat) : Nat := hs.count (some j)

/-- What a block is: nothing of ours, the i-th handle, the j-th group's struct, of the j-th group's packet. -/
structure Lab where
  c : Nat
  i : Nat
abbrev Lab.no : Lab := ⟨0, 0⟩
abbrev Lab.hd (i : Nat) : Lab := ⟨1, i⟩
abbrev Lab.cm (j : Nat) : Lab := ⟨2, j⟩
abbrev Lab.pk (j : Nat) : Lab := ⟨3, j⟩

/-- One side: how a handle's cells look, its types, its packets. -/
structure Sd where
  X : Type
  hc : Option Nat → Array Value → Prop
  tS : TypeId
  tG : TypeId
  pk : Nat → X → Gr → Thing

def HdOk (d : Sd) (w : World) (cl : List Nat) (s : Nat) (st : Option Nat) : Prop :=
  ∃ cs, w.heap[s]? = some (.cells cs d.tS (0, 0)) ∧ match st with | none => d.hc none cs | some j => ∃ c, cl[j]? = some c ∧ d.hc (some c) cs
def GrOk (d : Sd) (w : World) (lab : Nat → Lab) (j c p n : Nat) (G : Gr) : Prop :=
  ∃ x, w.heap[c]? = some (.cells #[.pointer (some ⟨p, 0, none⟩), .int .i64 n] d.tG (0, 0)) ∧ (d.pk p x G).holds w ∧ ∀ k, (d.pk p x G).foot k → lab k = .pk j

structure ShsAt (d : Sd) (w : World) (lab : Nat → Lab) (cl sl pl : List Nat) (σ : St) : Prop where
  low : ∀ k, lab k ≠ .no → k < w.heap.size
  lens : sl.length = σ.hs.length
  lenc : cl.length = σ.gs.length
  lenp : pl.length = σ.gs.length
  hds : ∀ (i s : Nat) (st : Option Nat), sl[i]? = some s → σ.hs[i]? = some st → lab s = .hd i ∧ HdOk d w cl s st
  grs : ∀ (j c p : Nat) (G : Gr), cl[j]? = some c → pl[j]? = some p → σ.gs[j]? = some G → lab c = .cm j ∧ GrOk d w lab j c p (many σ.hs j) G

def Shs (d : Sd) (w : World) (F : Nat → Prop) (sl pl : List Nat) (σ : St) : Prop :=
  ∃ lab cl, (∀ k, F k ↔ lab k ≠ .no) ∧ ShsAt d w lab cl sl pl σ

/-- What a step leaves. -/
def Next (d : Sd) (w : World) (F : Nat → Prop) (w' : World) (sl pl : List Nat) (σ : St) : Prop :=
  ∃ F', Shs d w' F' sl pl σ ∧ Kept F w w' ∧ ∀ k, F' k → F k ∨ w.heap.size ≤ k

theorem block_kept {S : Nat → Prop} {w w' : World} {k : Nat} {o : Obj} (h : w.heap[k]? = some o) (kp : Kept S w w') (hs : ¬ S k) : w'.heap[k]? = some o := by
  rw [kp.block k (Array.getElem?_eq_some_iff.1 h).1 hs]; exact h

theorem HdOk.kept {d : Sd} {w w' : World} {cl cl' : List Nat} {s : Nat} {st : Option Nat} {S : Nat → Prop} (h : HdOk d w cl s st) (k : Kept S w w') (hs : ¬ S s) (hcl : ∀ j c : Nat, cl[j]? = some c → cl'[j]? = some c) : HdOk d w' cl' s st := by
  obtain ⟨cs, h1, h2⟩ := h
  refine ⟨cs, block_kept h1 k hs, ?_⟩
  cases st with
  | none => exact h2
  | some j => obtain ⟨c, h3, h4⟩ := h2; exact ⟨c, hcl j c h3, h4⟩

/-- New blocks are labelled. -/
def grow (lab : Nat → Lab) (w w' : World) (f : Nat → Lab) : Nat → Lab := fun k => if k < w.heap.size then lab k else if k < w'.heap.size then f k else .no

theorem grow_old {lab f : Nat → Lab} {w w' : World} {k : Nat} (h : k < w.heap.size) : grow lab w w' f k = lab k := by unfold grow; rw [if_pos h]
theorem grow_new {lab f : Nat → Lab} {w w' : World} {k : Nat} (h : w.heap.size ≤ k) (h' : k < w'.heap.size) : grow lab w w' f k = f k := by unfold grow; rw [if_neg (by omega), if_pos h']
theorem ShsAt.grow_of {d : Sd} {w w' : World} {lab f : Nat → Lab} {cl sl pl : List Nat} {σ : St} (h : ShsAt d w lab cl sl pl σ) {k : Nat} {l : Lab} (e : lab k = l) (hl : l ≠ .no) : grow lab w w' f k = l := by
  rw [grow_old (h.low k (by rw [e]; exact hl))]; exact e

/-- All steps: the labels that may be written are those in T. -/
theorem ShsAt.next {d : Sd} {w w' : World} {lab : Nat → Lab} {cl sl pl : List Nat} {σ : St} (h : ShsAt d w lab cl sl pl σ) (T : Lab → Prop) (k : Kept (fun i => T (lab i)) w w') (f : Nat → Lab) (cl' sl' pl' : List Nat) (σ' : St)
    (l1 : sl'.length = σ'.hs.length) (l2 : cl'.length = σ'.gs.length) (l3 : pl'.length = σ'.gs.length)
    (hcl : ∀ j c : Nat, cl[j]? = some c → cl'[j]? = some c)
    (hh : ∀ (i s : Nat) (st : Option Nat), sl'[i]? = some s → σ'.hs[i]? = some st → (sl[i]? = some s ∧ σ.hs[i]? = some st ∧ ¬ T (.hd i)) ∨ (grow lab w w' f s = .hd i ∧ HdOk d w' cl' s st))
    (hg : ∀ (j c p : Nat) (G : Gr), cl'[j]? = some c → pl'[j]? = some p → σ'.gs[j]? = some G → (cl[j]? = some c ∧ pl[j]? = some p ∧ σ.gs[j]? = some G ∧ many σ'.hs j = many σ.hs j ∧ ¬ T (.cm j) ∧ ¬ T (.pk j)) ∨ (grow lab w w' f c = .cm j ∧ GrOk d w' (grow lab w w' f) j c p (many σ'.hs j) G)) :
    ShsAt d w' (grow lab w w' f) cl' sl' pl' σ' := by
  refine ⟨fun x hx => ?_, l1, l2, l3, fun i s st h1 h2 => ?_, fun j c p G h1 h2 h3 => ?_⟩
  · have hs := k.size
    unfold grow at hx
    split at hx
    · omega
    · split at hx
      · assumption
      · exact absurd rfl hx
  · rcases hh i s st h1 h2 with ⟨e1, e2, e3⟩ | e
    · obtain ⟨q1, q2⟩ := h.hds i s st e1 e2
      exact ⟨h.grow_of q1 (by intro e; cases e), q2.kept k (by rw [q1]; exact e3) hcl⟩
    · exact e
  · rcases hg j c p G h1 h2 h3 with ⟨e1, e2, e3, e4, e5, e6⟩ | e
    · obtain ⟨q1, x, q2, q3, q4⟩ := h.grs j c p G e1 e2 e3
      refine ⟨h.grow_of q1 (by intro e; cases e), x, ?_, (d.pk p x G).keeps q3 k (fun i hi => by rw [q4 i hi]; exact e6), fun i hi => h.grow_of (q4 i hi) (by intro e; cases e)⟩
      rw [e4]; exact block_kept q2 k (by rw [q1]; exact e5)
    · exact e

theorem ShsAt.shs {d : Sd} {w : World} {lab : Nat → Lab} {cl sl pl : List Nat} {σ : St} (h : ShsAt d w lab cl sl pl σ) : Shs d w (fun k => lab k ≠ .no) sl pl σ := ⟨lab, cl, fun _ => Iff.rfl, h⟩

theorem ShsAt.nexts {d : Sd} {w w' : World} {F : Nat → Prop} {lab : Nat → Lab} {cl sl' pl' : List Nat} {σ' : St} {T : Lab → Prop} {f : Nat → Lab} (hF : ∀ k, F k ↔ lab k ≠ .no) (hT : ¬ T .no) (k : Kept (fun i => T (lab i)) w w') (h : ShsAt d w' (grow lab w w' f) cl sl' pl' σ') : Next d w F w' sl' pl' σ' := by
  refine ⟨_, h.shs, k.mono (fun i _ e => (hF i).2 (fun e' => hT (by rw [e'] at e; exact e))), fun i hi => ?_⟩
  by_cases hlt : i < w.heap.size
  · rw [grow_old hlt] at hi
    exact .inl ((hF i).2 hi)
  · exact .inr (by omega)

theorem Shs.kept {d : Sd} {w w' : World} {F S : Nat → Prop} {sl pl : List Nat} {σ : St} (h : Shs d w F sl pl σ) (k : Kept S w w') (hs : ∀ i, F i → ¬ S i) : Shs d w' F sl pl σ := by
  obtain ⟨lab, cl, hF, h⟩ := h
  have hs' : ∀ i, lab i ≠ .no → ¬ S i := fun i hi => hs i ((hF i).2 hi)
  refine ⟨lab, cl, hF, fun i hi => Nat.lt_of_lt_of_le (h.low i hi) k.size, h.lens, h.lenc, h.lenp, fun i s st h1 h2 => ?_, fun j c p G h1 h2 h3 => ?_⟩
  · obtain ⟨q1, q2⟩ := h.hds i s st h1 h2
    exact ⟨q1, q2.kept k (hs' s (by rw [q1]; intro e; cases e)) (fun _ _ h => h)⟩
  · obtain ⟨q1, x, q2, q3, q4⟩ := h.grs j c p G h1 h2 h3
    exact ⟨q1, x, block_kept q2 k (hs' c (by rw [q1]; intro e; cases e)), (d.pk p x G).keeps q3 k (fun i hi => hs' i (by rw [q4 i hi]; intro e; cases e)), q4⟩

theorem Shs.lt {d : Sd} {w : World} {F : Nat → Prop} {sl pl : List Nat} {σ : St} (h : Shs d w F sl pl σ) {k : Nat} (hk : F k) : k < w.heap.size := by
  obtain ⟨lab, cl, hF, h⟩ := h
  exact h.low k ((hF k).1 hk)

/-- All handles of one side, as a thing. -/
def shT (d : Sd) (F : Nat → Prop) (sl pl : List Nat) (σ : St) : Thing where
  foot := F
  holds := fun w => Shs d w F sl pl σ
  keeps := fun h k hs => h.kept k hs
  lt := fun h hk => h.lt hk

theorem Heap.next {W w w' : World} {d : Sd} {F : Nat → Prop} {sl pl sl' pl' : List Nat} {σ σ' : St} {L : List Thing} (h : Heap W w L) (i : Nat) (hi : L[i]? = some (shT d F sl pl σ)) (n : Next d w F w' sl' pl' σ') : ∃ F', Heap W w' (L.set i (shT d F' sl' pl' σ')) := by
  obtain ⟨F', h1, h2, h3⟩ := n
  exact ⟨F', h.stepAt i _ hi h2 (shT d F' sl' pl' σ') h1 h3⟩

theorem Shs.none_new (d : Sd) (w : World) : Shs d w (fun _ => False) [] [] ⟨[], []⟩ :=
  ⟨fun _ => .no, [], fun _ => by simp, fun _ hk => absurd rfl hk, rfl, rfl, rfl, fun i s st h => by simp at h, fun j c p G h => by simp at h⟩

/-- How many share the i-th handle's packet; what it shows. -/
def St.cnt (σ : St) (i : Nat) : Nat := match σ.hs[i]? with | some (some j) => many σ.hs j | _ => 0
def St.shown (σ : St) (i : Nat) : List Int := match σ.hs[i]? with | some (some j) => (match σ.gs[j]? with | some G => G.B | none => []) | _ => []

theorem many_pos {hs : List (Option Nat)} {i j : Nat} (h : hs[i]? = some (some j)) : 0 < many hs j := List.count_pos_iff.2 (List.mem_of_getElem? h)
theorem many_le (hs : List (Option Nat)) (j : Nat) : many hs j ≤ hs.length := List.count_le_length
theorem many_snoc (hs : List (Option Nat)) (x : Option Nat) (j : Nat) : many (hs ++ [x]) j = many hs j + (if x = some j then 1 else 0) := by
  unfold many; rw [List.count_append, List.count_singleton]
  by_cases e : x = some j
  · simp [e]
  · simp [e]
theorem many_set {hs : List (Option Nat)} {i : Nat} {x : Option Nat} (y : Option Nat) (j : Nat) (h : hs[i]? = some x) : many (hs.set i y) j + (if x = some j then 1 else 0) = many hs j + (if y = some j then 1 else 0) := by
  obtain ⟨hlt, he⟩ := List.getElem?_eq_some_iff.1 h
  unfold many
  rw [List.count_set hlt, he]
  have hp : x = some j → 0 < hs.count (some j) := fun e => List.count_pos_iff.2 (by rw [← e, ← he]; exact List.getElem_mem hlt)
  by_cases e1 : x = some j
  · have := hp e1
    by_cases e2 : y = some j
    · simp [e1, e2]; omega
    · simp [e1, e2]; omega
  · by_cases e2 : y = some j
    · simp [e1, e2]
    · simp [e1, e2]
theorem many_out {hs : List (Option Nat)} {n : Nat} (h : ∀ (i j : Nat), hs[i]? = some (some j) → j < n) : many hs n = 0 := by
  unfold many
  rw [List.count_eq_zero]
  intro hm
  obtain ⟨i, hi⟩ := List.getElem?_of_mem hm
  exact absurd (h i n hi) (by omega)

theorem ShsAt.rng {d : Sd} {w : World} {lab : Nat → Lab} {cl sl pl : List Nat} {σ : St} (h : ShsAt d w lab cl sl pl σ) {i j : Nat} (hi : σ.hs[i]? = some (some j)) : j < σ.gs.length := by
  have hlt := (List.getElem?_eq_some_iff.1 hi).1
  have hs : sl[i]? = some (sl[i]'(by rw [h.lens]; exact hlt)) := List.getElem?_eq_getElem _
  obtain ⟨_, cs, _, c, hc, _⟩ := h.hds i _ _ hs hi
  have := (List.getElem?_eq_some_iff.1 hc).1
  rw [h.lenc] at this; exact this
theorem Shs.rng {d : Sd} {w : World} {F : Nat → Prop} {sl pl : List Nat} {σ : St} (h : Shs d w F sl pl σ) {i j : Nat} (hi : σ.hs[i]? = some (some j)) : j < σ.gs.length := by
  obtain ⟨lab, cl, hF, h⟩ := h
  exact h.rng hi

/-- A handle that stands, opened. -/
structure Open (d : Sd) (w : World) (lab : Nat → Lab) (cl sl pl : List Nat) (σ : St) (i j s c p : Nat) (x : d.X) (G : Gr) (cs : Array Value) : Prop where
  at_ : ShsAt d w lab cl sl pl σ
  hsl : sl[i]? = some s
  hhs : σ.hs[i]? = some (some j)
  hcl : cl[j]? = some c
  hpl : pl[j]? = some p
  hgs : σ.gs[j]? = some G
  lh : lab s = .hd i
  lc : lab c = .cm j
  bs : w.heap[s]? = some (.cells cs d.tS (0, 0))
  hc : d.hc (some c) cs
  bc : w.heap[c]? = some (.cells #[.pointer (some ⟨p, 0, none⟩), .int .i64 (many σ.hs j)] d.tG (0, 0))
  pk : (d.pk p x G).holds w
  lp : ∀ k, (d.pk p x G).foot k → lab k = .pk j

theorem ShsAt.opened {d : Sd} {w : World} {lab : Nat → Lab} {cl sl pl : List Nat} {σ : St} (h : ShsAt d w lab cl sl pl σ) {i j s : Nat} (hs : sl[i]? = some s) (hi : σ.hs[i]? = some (some j)) : ∃ c p x G cs, Open d w lab cl sl pl σ i j s c p x G cs := by
  have hj := h.rng hi
  obtain ⟨G, hG⟩ : ∃ G, σ.gs[j]? = some G := ⟨_, List.getElem?_eq_getElem hj⟩
  obtain ⟨p, hp⟩ : ∃ p, pl[j]? = some p := ⟨_, List.getElem?_eq_getElem (by rw [h.lenp]; exact hj)⟩
  obtain ⟨q1, cs, q2, c, q3, q4⟩ := h.hds i s _ hs hi
  obtain ⟨r1, x, r2, r3, r4⟩ := h.grs j c p G q3 hp hG
  exact ⟨c, p, x, G, cs, h, hs, hi, q3, hp, hG, q1, r1, q2, q4, r2, r3, r4⟩
theorem Shs.opened {d : Sd} {w : World} {F : Nat → Prop} {sl pl : List Nat} {σ : St} (h : Shs d w F sl pl σ) {i j s : Nat} (hs : sl[i]? = some s) (hi : σ.hs[i]? = some (some j)) : ∃ lab cl c p x G cs, (∀ k, F k ↔ lab k ≠ .no) ∧ Open d w lab cl sl pl σ i j s c p x G cs := by
  obtain ⟨lab, cl, hF, h⟩ := h
  obtain ⟨c, p, x, G, cs, o⟩ := h.opened hs hi
  exact ⟨lab, cl, c, p, x, G, cs, hF, o⟩
/-- A handle that was given up. -/
theorem Shs.gone {d : Sd} {w : World} {F : Nat → Prop} {sl pl : List Nat} {σ : St} (h : Shs d w F sl pl σ) {i s : Nat} (hs : sl[i]? = some s) (hi : σ.hs[i]? = some none) : ∃ cs, w.heap[s]? = some (.cells cs d.tS (0, 0)) ∧ d.hc none cs := by
  obtain ⟨lab, cl, hF, h⟩ := h
  exact (h.hds i s none hs hi).2
end Go.Proofs.Ytbinedhgjmfceaa
