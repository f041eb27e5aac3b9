/- Mathematics of loops: the pile of the loops that are open at a place, where a loop is closed; what is wrong with a program, both ways. -/
import Derived.Test.YtffjddabjjcjpaaIa
namespace Go.Proofs.Ytffjddabjjcjpaa
open Go.ChangeShapes Go.WideShapes Go.ChangeAt Go.RowKit
set_option maxRecDepth 10000

abbrev Q5 := Int × Int × Int × Int × Int
def opA (L : List Q5) (k : Nat) : Int := (L.getD k default).1
def ofA (L : List Q5) (k : Nat) : Int := (L.getD k default).2.2.2.1
def imA (L : List Q5) (k : Nat) : Int := (L.getD k default).2.2.2.2

/-- The loops that are open ahead of a place, the innermost first. -/
def stk (L : List Q5) : Nat → List Nat
  | 0 => []
  | k + 1 => if opA L k = 33 then k :: stk L k else if opA L k = 34 then (stk L k).tail else stk L k
/-- Where a loop is closed, as far as is known ahead of a place; -1: nowhere. -/
def enN (L : List Q5) : Nat → Nat → Int
  | 0, _ => -1
  | k + 1, j => if opA L k = 34 ∧ (stk L k).head? = some j then (k : Int) else enN L k j
def top (l : List Nat) : Int := match l with | [] => -1 | r :: _ => (r : Int)

variable {L : List Q5}

theorem stk_rep {k : Nat} (h : opA L k = 33) : stk L (k + 1) = k :: stk L k := by rw [stk, if_pos h]
theorem stk_end {k : Nat} (h : opA L k = 34) : stk L (k + 1) = (stk L k).tail := by
  have h2 : ¬ opA L k = 33 := by omega
  rw [stk, if_neg h2, if_pos h]
theorem stk_else {k : Nat} (h : opA L k ≠ 33) (h' : opA L k ≠ 34) : stk L (k + 1) = stk L k := by rw [stk, if_neg h, if_neg h']

theorem stk_lt {k r : Nat} (h : r ∈ stk L k) : r < k ∧ opA L r = 33 := by
  induction k with
  | zero => simp [stk] at h
  | succ k ih =>
    by_cases h1 : opA L k = 33
    · rw [stk_rep h1] at h
      rcases List.mem_cons.1 h with rfl | h
      · exact ⟨by omega, h1⟩
      · have := ih h; exact ⟨by omega, this.2⟩
    · by_cases h2 : opA L k = 34
      · rw [stk_end h2] at h
        have := ih (List.mem_of_mem_tail h); exact ⟨by omega, this.2⟩
      · rw [stk_else h1 h2] at h
        have := ih h; exact ⟨by omega, this.2⟩

theorem stk_cons {k r : Nat} {t : List Nat} (h : stk L k = r :: t) : t = stk L r := by
  induction k using Nat.strongRecOn generalizing r t with
  | ind k ih =>
    cases k with
    | zero => simp [stk] at h
    | succ k =>
      by_cases h1 : opA L k = 33
      · rw [stk_rep h1] at h
        cases h; rfl
      · by_cases h2 : opA L k = 34
        · rw [stk_end h2] at h
          cases hs : stk L k with
          | nil => rw [hs] at h; simp at h
          | cons x u =>
            rw [hs] at h
            have e := ih k (by omega) hs
            have hx : x < k := (stk_lt (by rw [hs]; exact List.mem_cons_self)).1
            exact ih x (by omega) (by rw [← e]; exact h)
        · rw [stk_else h1 h2] at h
          exact ih k (by omega) h

theorem top_mem {k r : Nat} (h : top (stk L k) = r) : stk L k = r :: stk L r := by
  cases hs : stk L k with
  | nil => rw [hs] at h; simp [top] at h
  | cons x t =>
    rw [hs] at h
    simp [top] at h
    rw [stk_cons hs]
    have : x = r := by omega
    rw [this]

theorem top_cases (k : Nat) : (stk L k = [] ∧ top (stk L k) = -1) ∨ ∃ r : Nat, r < k ∧ opA L r = 33 ∧ stk L k = r :: stk L r ∧ top (stk L k) = r := by
  cases hs : stk L k with
  | nil => exact .inl ⟨rfl, rfl⟩
  | cons x t =>
    have h := stk_lt (L := L) (k := k) (r := x) (by rw [hs]; exact List.mem_cons_self)
    exact .inr ⟨x, h.1, h.2, by rw [← stk_cons hs], rfl⟩

theorem stk_dec (k : Nat) : (stk L k).Pairwise (· > ·) := by
  induction k with
  | zero => exact .nil
  | succ k ih =>
    by_cases h1 : opA L k = 33
    · rw [stk_rep h1]
      exact List.pairwise_cons.2 ⟨fun x hx => (stk_lt hx).1, ih⟩
    · by_cases h2 : opA L k = 34
      · rw [stk_end h2]; exact ih.tail
      · rw [stk_else h1 h2]; exact ih

theorem stk_len (k : Nat) : (stk L k).length ≤ k := by
  induction k with
  | zero => simp [stk]
  | succ k ih =>
    by_cases h1 : opA L k = 33
    · rw [stk_rep h1]; simpa using ih
    · by_cases h2 : opA L k = 34
      · rw [stk_end h2]; simp; omega
      · rw [stk_else h1 h2]; omega

theorem stk_back {k j r : Nat} (h : r ∈ stk L k) (hj : r < j) (hk : j ≤ k) : r ∈ stk L j := by
  induction k with
  | zero => have : j = 0 := by omega
            subst this; exact h
  | succ k ih =>
    by_cases e : j = k + 1
    · subst e; exact h
    · have hjk : j ≤ k := by omega
      refine ih ?_ hjk
      by_cases h1 : opA L k = 33
      · rw [stk_rep h1] at h
        rcases List.mem_cons.1 h with rfl | h
        · omega
        · exact h
      · by_cases h2 : opA L k = 34
        · rw [stk_end h2] at h; exact List.mem_of_mem_tail h
        · rw [stk_else h1 h2] at h; exact h

theorem stk_split {k r : Nat} (h : r ∈ stk L k) : ∃ U, stk L k = U ++ r :: stk L r ∧ ∀ u ∈ U, r < u := by
  obtain ⟨U, V, e⟩ := List.append_of_mem h
  have hd := stk_dec (L := L) k
  rw [e] at hd
  have h1 : ∀ u ∈ U, r < u := fun u hu => (List.pairwise_append.1 hd).2.2 u hu r List.mem_cons_self
  refine ⟨U, ?_, h1⟩
  have key : ∀ (U : List Nat) (k : Nat), stk L k = U ++ r :: V → V = stk L r := by
    intro U
    induction U with
    | nil => intro k e; exact stk_cons e
    | cons x U ih => intro k e; exact ih x (stk_cons e).symm
  rw [e, ← key U k e]

theorem stk_trans {k r s : Nat} (h : r ∈ stk L k) (hs : s ∈ stk L r) : s ∈ stk L k := by
  obtain ⟨U, e, -⟩ := stk_split h
  rw [e]
  exact List.mem_append_right _ (List.mem_cons_of_mem _ hs)

/-- Those of the pile at a later place that began ahead of an earlier one. -/
theorem stk_mem_le {k r s : Nat} (h : r ∈ stk L k) (hs : s ∈ stk L k) (hl : s < r) : s ∈ stk L r :=
  stk_back hs hl (Nat.le_of_lt (stk_lt h).1)

theorem en_mem {k j : Nat} (hj : opA L j = 33) (hk : j < k) : j ∈ stk L k ↔ enN L k j = -1 := by
  induction k with
  | zero => omega
  | succ k ih =>
    unfold enN
    by_cases e : j = k
    · subst e
      rw [stk_rep hj, if_neg (by omega)]
      have : ∀ m, m ≤ j → enN L m j = -1 := by
        intro m
        induction m with
        | zero => intro _; rfl
        | succ m ih =>
          intro hm
          unfold enN
          rw [if_neg, ih (by omega)]
          rintro ⟨-, h⟩
          have := (stk_lt (L := L) (k := m) (r := j) (List.mem_of_mem_head? h)).1
          omega
      simp [this j (Nat.le_refl _)]
    · have ih := ih (by omega)
      by_cases h1 : opA L k = 33
      · rw [stk_rep h1, if_neg (by omega), ← ih]
        simp [e]
      · by_cases h2 : opA L k = 34
        · rw [stk_end h2]
          by_cases h3 : (stk L k).head? = some j
          · rw [if_pos ⟨h2, h3⟩]
            cases hs : stk L k with
            | nil => rw [hs] at h3; simp at h3
            | cons x t =>
              rw [hs] at h3
              have hx : x = j := by simpa using h3
              subst hx
              have ht := stk_cons hs
              constructor
              · intro h
                have h' : x ∈ stk L x := by rw [← ht]; exact h
                have := (stk_lt h').1
                omega
              · intro h; omega
          · rw [if_neg (fun h => h3 h.2), ← ih]
            constructor
            · exact List.mem_of_mem_tail
            · intro h
              cases hs : stk L k with
              | nil => rw [hs] at h; simp at h
              | cons x t =>
                rw [hs] at h h3
                have hx : x ≠ j := by simpa using h3
                rcases List.mem_cons.1 h with rfl | h
                · exact absurd rfl hx
                · exact h
        · rw [stk_else h1 h2, if_neg (fun h => h2 h.1)]
          exact ih

theorem en_some {n j : Nat} (h : enN L n j ≠ -1) : ∃ e : Nat, enN L n j = e ∧ e < n ∧ j < e ∧ opA L e = 34 ∧ opA L j = 33 ∧ stk L e = j :: stk L j := by
  induction n with
  | zero => exact absurd rfl h
  | succ n ih =>
    unfold enN at h ⊢
    by_cases c : opA L n = 34 ∧ (stk L n).head? = some j
    · rw [if_pos c]
      have hm := List.mem_of_mem_head? c.2
      have hl := stk_lt hm
      refine ⟨n, rfl, by omega, hl.1, c.1, hl.2, ?_⟩
      cases hs : stk L n with
      | nil => rw [hs] at hm; simp at hm
      | cons x t =>
        have hx : x = j := by have := c.2; rw [hs] at this; simpa using this
        rw [stk_cons hs, hx]
    · rw [if_neg c] at h ⊢
      obtain ⟨e, h1, h2, h3⟩ := ih h
      exact ⟨e, h1, by omega, h3⟩

theorem en_out {n j : Nat} (hj : n ≤ j) : enN L n j = -1 := by
  by_cases h : enN L n j = -1
  · exact h
  · obtain ⟨e, -, h2, h3, -⟩ := en_some h
    omega

theorem en_mono {k n j : Nat} (hk : k ≤ n) (h : enN L k j ≠ -1) : enN L n j = enN L k j := by
  induction n with
  | zero => have : k = 0 := by omega
            subst this; rfl
  | succ n ih =>
    by_cases e : k = n + 1
    · subst e; rfl
    · have ih := ih (by omega)
      rw [← ih]
      conv => lhs; unfold enN
      rw [if_neg]
      rintro ⟨h2, h3⟩
      have hm := List.mem_of_mem_head? h3
      have hl := stk_lt hm
      have := (en_mem hl.2 hl.1).1 hm
      rw [ih] at this
      exact h this

theorem en_ge {k n j : Nat} (hk : k ≤ n) (h : enN L k j = -1) : enN L n j = -1 ∨ (k : Int) ≤ enN L n j := by
  induction n with
  | zero => have : k = 0 := by omega
            subst this; exact .inl h
  | succ n ih =>
    by_cases e : k = n + 1
    · subst e; exact .inl h
    · unfold enN
      by_cases c : opA L n = 34 ∧ (stk L n).head? = some j
      · rw [if_pos c]; right; omega
      · rw [if_neg c]; exact ih (by omega)

/-- In whose inside a place lies, by where loops are closed. -/
theorem in_iff {i at' n : Nat} (hi : opA L i = 33) (h1 : i < at') (h2 : at' ≤ n) : i ∈ stk L at' ↔ (enN L n i < 0 ∨ (at' : Int) ≤ enN L n i) := by
  rw [en_mem hi h1]
  constructor
  · intro h
    rcases en_ge h2 h with e | e
    · left; omega
    · exact .inr e
  · intro h
    by_cases c : enN L at' i = -1
    · exact c
    · exfalso
      obtain ⟨e, e1, e2, -⟩ := en_some c
      rw [en_mono h2 c, e1] at h
      omega

/-- The OpEnd of a place closes the innermost loop there. -/
theorem en_top {e r n : Nat} (h : opA L e = 34) (ht : top (stk L e) = r) (hn : e < n) : enN L n r = e := by
  have hs := top_mem ht
  have h1 : enN L (e + 1) r = e := by
    unfold enN
    rw [if_pos ⟨h, by rw [hs]; rfl⟩]
  rw [en_mono hn (by rw [h1]; omega), h1]

/-- A place between is in the inside. -/
theorem in_mid {r e k n : Nat} (h : enN L n r = (e : Int)) (h1 : r < k) (h2 : k ≤ e) : r ∈ stk L k := by
  obtain ⟨e', g1, g2, g3, g4, g5, g6⟩ := en_some (L := L) (n := n) (j := r) (by omega)
  have : e' = e := by omega
  subst this
  exact stk_back (by rw [g6]; exact List.mem_cons_self) h1 h2

/-- .. and the other way. -/
theorem mid_in {r e k n : Nat} (h : enN L n r = (e : Int)) (hk : r ∈ stk L k) : k ≤ e := by
  obtain ⟨e', g1, g2, g3, g4, g5, g6⟩ := en_some (L := L) (n := n) (j := r) (by omega)
  have : e' = e := by omega
  subst this
  by_cases c : k ≤ e'
  · exact c
  · exfalso
    have h1 := stk_back hk (j := e' + 1) (by omega) (by omega)
    rw [stk_end g4, g6] at h1
    have := (stk_lt (show r ∈ stk L r from h1)).1
    omega

/-- Two loops. -/
theorem nest_two {r s e f n : Nat} (hr : enN L n r = (e : Int)) (hs : enN L n s = (f : Int)) (hl : r < s) (h2 : s < e) : f < e ∧ r ∈ stk L s := by
  have hm := in_mid hr hl (Nat.le_of_lt h2)
  refine ⟨?_, hm⟩
  obtain ⟨f', g1, g2, g3, g4, g5, g6⟩ := en_some (L := L) (n := n) (j := s) (by omega)
  have : f' = f := by omega
  subst this
  have h3 : r ∈ stk L f' := by rw [g6]; exact List.mem_cons_of_mem _ hm
  have h4 := mid_in hr h3
  obtain ⟨e', k1, k2, k3, k4, k5, k6⟩ := en_some (L := L) (n := n) (j := r) (by omega)
  have : e' = e := by omega
  subst this
  by_cases c : f' = e'
  · subst c
    rw [k6] at g6
    have : r = s := (List.cons.inj g6).1
    omega
  · omega

theorem filter_top {l : List Nat} (h : l.Pairwise (· > ·)) (k : Nat) : l.filter (· < k + 1) = if k ∈ l then k :: l.filter (· < k) else l.filter (· < k) := by
  induction l with
  | nil => simp
  | cons x t ih =>
    have hx := (List.pairwise_cons.1 h).1
    have ht := ih (List.pairwise_cons.1 h).2
    by_cases e : x = k
    · subst e
      have e1 : t.filter (· < x + 1) = t := List.filter_eq_self.2 (fun y hy => by have := hx y hy; simp; omega)
      have e2 : t.filter (· < x) = t := List.filter_eq_self.2 (fun y hy => by have := hx y hy; simp; omega)
      simp [e1, e2]
    · by_cases c : x < k
      · have hk : k ∉ x :: t := by
          intro hm
          rcases List.mem_cons.1 hm with rfl | hm
          · exact e rfl
          · have := hx k hm; omega
        have hk' : k ∉ t := fun hm => hk (List.mem_cons_of_mem _ hm)
        rw [if_neg hk]
        rw [if_neg hk'] at ht
        rw [List.filter_cons_of_pos (by simp; omega), List.filter_cons_of_pos (by simp; omega), ht]
      · rw [List.filter_cons_of_neg (by simp; omega), List.filter_cons_of_neg (by simp; omega), ht]
        have : (k ∈ x :: t) ↔ k ∈ t := by simp [Ne.symm e]
        simp only [this]
end Go.Proofs.Ytffjddabjjcjpaa
