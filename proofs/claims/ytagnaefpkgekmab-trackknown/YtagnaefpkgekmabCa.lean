/- What is known of pointers, as lists (mathematics): the one form, what a list says of a pointer, the list of what a function says. -/
import Derived.Test.YtagnaefpkgekmabBw
import Derived.Lib.SlKeysI
namespace Go.Proofs.Ytagnaefpkgekmab
open Go.ChangeShapes Go.WideShapes Go.ChangeAt Go.RowKit Go.Maps
set_option maxRecDepth 10000

/-- A pointer's number, and its bytes. -/
abbrev Kn := Int × Int
def isId (n : Int) : Bool := decide (0 ≤ n) && decide (n ≤ 256)
def okB (n : Int) : Bool := decide (1 ≤ n) && decide (n ≤ 2048)
/-- Behind a number: do the numbers rise, and is each within its bounds? -/
def okF : Int → List Kn → Bool
  | _, [] => true
  | last, (i, n) :: r => decide (last < i) && isId i && okB n && okF i r
/-- Check's answer. -/
def ckN (l : List Kn) : Int := if 257 < l.length then 3 else if okF (-1) l then 0 else 2
/-- How many bytes are proved of a pointer. -/
def byN : List Kn → Int → Int
  | [], _ => 0
  | (i, n) :: r, z => if i = z then n else byN r z
def hasN (l : List Kn) (z : Int) : Bool := l.any fun p => p.1 == z
def idA (l : List Kn) (k : Nat) : Int := (l.getD k (0, 0)).1
def bA (l : List Kn) (k : Nat) : Int := (l.getD k (0, 0)).2
/-- The number ahead of a place. -/
def laA (l : List Kn) : Nat → Int
  | 0 => -1
  | k + 1 => idA l k
/-- What is known, in the one form, up to a number. -/
def nfU (f : Int → Int) : Nat → List Kn
  | 0 => []
  | k + 1 => nfU f k ++ (if f k = 0 then [] else [((k : Int), f k)])
def nf (f : Int → Int) : List Kn := nfU f 257
/-- A function of pointers' numbers. -/
structure Fn (f : Int → Int) : Prop where
  out : ∀ z, f z ≠ 0 → 0 ≤ z ∧ z ≤ 256
  low : ∀ z, 0 ≤ f z
  high : ∀ z, f z ≤ 2048
def upd (f : Int → Int) (i n : Int) (z : Int) : Int := if z = i then n else f z

theorem getA {l : List Kn} {k : Nat} (h : k < l.length) : l[k]? = some (idA l k, bA l k) := by
  unfold idA bA
  rw [List.getD_eq_getElem?_getD, List.getElem?_eq_getElem h]
  rfl
theorem drop_get {l : List Kn} {k : Nat} (h : k < l.length) : l.drop k = (idA l k, bA l k) :: l.drop (k + 1) := by
  rw [List.drop_eq_getElem_cons h]
  congr 1
  have := getA h
  rw [List.getElem?_eq_getElem h] at this
  exact Option.some.inj this
theorem take_get {l : List Kn} {k : Nat} (h : k < l.length) : l.take (k + 1) = l.take k ++ [(idA l k, bA l k)] := by
  rw [List.take_succ_eq_append_getElem h]
  congr 2
  have := getA h
  rw [List.getElem?_eq_getElem h] at this
  exact Option.some.inj this

theorem ok_step {l : List Kn} {k : Nat} (h : k < l.length) : okF (laA l k) (l.drop k) = (decide (laA l k < idA l k) && isId (idA l k) && okB (bA l k) && okF (laA l (k + 1)) (l.drop (k + 1))) := by
  rw [drop_get h]; rfl
theorem ok_end {l : List Kn} {k : Nat} (h : ¬ k < l.length) : okF (laA l k) (l.drop k) = true := by
  rw [List.drop_eq_nil_of_le (by omega)]; rfl
theorem by_step {l : List Kn} {k : Nat} (h : k < l.length) (z : Int) : byN (l.drop k) z = if idA l k = z then bA l k else byN (l.drop (k + 1)) z := by
  rw [drop_get h]; rfl
theorem by_end {l : List Kn} {k : Nat} (h : ¬ k < l.length) (z : Int) : byN (l.drop k) z = 0 := by
  rw [List.drop_eq_nil_of_le (by omega)]; rfl

theorem by_append (a b : List Kn) (z : Int) : byN (a ++ b) z = if hasN a z then byN a z else byN b z := by
  induction a with
  | nil => rfl
  | cons p r ih =>
    obtain ⟨i, n⟩ := p
    show (if i = z then n else byN (r ++ b) z) = if ((i == z) || hasN r z) = true then (if i = z then n else byN r z) else byN b z
    by_cases e : i = z
    · simp [e]
    · rw [if_neg e, if_neg e, ih]
      simp [e]
theorem by_of_not (a : List Kn) (z : Int) (h : hasN a z = false) : byN a z = 0 := by
  induction a with
  | nil => rfl
  | cons p r ih =>
    obtain ⟨i, n⟩ := p
    have h : ((i == z) || hasN r z) = false := h
    simp only [Bool.or_eq_false_iff, beq_eq_false_iff_ne] at h
    show (if i = z then n else byN r z) = 0
    rw [if_neg h.1, ih h.2]
theorem has_append (a b : List Kn) (z : Int) : hasN (a ++ b) z = (hasN a z || hasN b z) := by
  unfold hasN; rw [List.any_append]
theorem has_one (i n z : Int) : hasN [(i, n)] z = (i == z) := by simp [hasN]
theorem by_mem (l : List Kn) (z : Int) (h : hasN l z = true) : (z, byN l z) ∈ l := by
  induction l with
  | nil => cases h
  | cons p r ih =>
    obtain ⟨i, n⟩ := p
    have h : ((i == z) || hasN r z) = true := h
    show (z, if i = z then n else byN r z) ∈ (i, n) :: r
    by_cases e : i = z
    · subst e; rw [if_pos rfl]; exact List.mem_cons_self
    · rw [if_neg e]
      simp [e] at h
      exact List.mem_cons_of_mem _ (ih h)
theorem has_mem {l : List Kn} {p : Kn} (h : p ∈ l) : hasN l p.1 = true := by
  unfold hasN; rw [List.any_eq_true]; exact ⟨p, h, by simp⟩

/-- What the one form says of each. -/
theorem ok_all {last : Int} {l : List Kn} (h : okF last l = true) : (∀ p ∈ l, last < p.1 ∧ (0 ≤ p.1 ∧ p.1 ≤ 256) ∧ 1 ≤ p.2 ∧ p.2 ≤ 2048) ∧ l.Pairwise (fun p q => p.1 < q.1) := by
  induction l generalizing last with
  | nil => exact ⟨by simp, .nil⟩
  | cons p r ih =>
    obtain ⟨i, n⟩ := p
    have h : (decide (last < i) && isId i && okB n && okF i r) = true := h
    simp only [isId, okB, Bool.and_eq_true, decide_eq_true_eq] at h
    obtain ⟨⟨⟨h1, h2⟩, h3⟩, h4⟩ := h
    obtain ⟨i1, i2⟩ := ih h4
    refine ⟨fun q hq => ?_, List.pairwise_cons.2 ⟨fun q hq => (i1 q hq).1, i2⟩⟩
    rcases List.mem_cons.1 hq with rfl | hq
    · exact ⟨h1, h2, h3⟩
    · have := i1 q hq; exact ⟨by omega, this.2⟩
theorem ok_of {last : Int} {l : List Kn} (h : ∀ p ∈ l, last < p.1 ∧ (0 ≤ p.1 ∧ p.1 ≤ 256) ∧ 1 ≤ p.2 ∧ p.2 ≤ 2048) (hp : l.Pairwise (fun p q => p.1 < q.1)) : okF last l = true := by
  induction l generalizing last with
  | nil => rfl
  | cons p r ih =>
    obtain ⟨i, n⟩ := p
    have h0 := h (i, n) List.mem_cons_self
    obtain ⟨p1, p2⟩ := List.pairwise_cons.1 hp
    show (decide (last < i) && isId i && okB n && okF i r) = true
    simp only [isId, okB, Bool.and_eq_true, decide_eq_true_eq]
    exact ⟨⟨⟨h0.1, h0.2.1⟩, h0.2.2⟩, ih (fun q hq => ⟨p1 q hq, (h q (List.mem_cons_of_mem _ hq)).2⟩) p2⟩

theorem ok_fresh {l : List Kn} (h : okF (-1) l = true) {k : Nat} (hk : k < l.length) : hasN (l.take k) (idA l k) = false := by
  have hp := (ok_all h).2
  rw [← List.take_append_drop k l, drop_get hk] at hp
  have hp := (List.pairwise_append.1 hp).2.2
  unfold hasN
  rw [List.any_eq_false]
  intro p hm
  have := hp p hm _ List.mem_cons_self
  simp only [beq_iff_eq]
  omega
theorem ok_at {l : List Kn} (h : okF (-1) l = true) {k : Nat} (hk : k < l.length) : (0 ≤ idA l k ∧ idA l k ≤ 256) ∧ 1 ≤ bA l k ∧ bA l k ≤ 2048 :=
  ((ok_all h).1 _ (List.mem_of_getElem? (getA hk))).2

/-- The first elements' function, step by step. -/
theorem by_take {l : List Kn} (h : okF (-1) l = true) {k : Nat} (hk : k < l.length) (z : Int) : byN (l.take (k + 1)) z = upd (byN (l.take k)) (idA l k) (bA l k) z := by
  rw [take_get hk, by_append]
  unfold upd
  by_cases e : z = idA l k
  · subst e
    rw [ok_fresh h hk]
    simp [byN]
  · rw [if_neg e]
    by_cases hh : hasN (l.take k) z = true
    · rw [if_pos hh]
    · have hh' : hasN (l.take k) z = false := by simpa using hh
      rw [if_neg hh, by_of_not _ _ hh']
      show (if idA l k = z then _ else 0) = 0
      rw [if_neg (fun e' => e e'.symm)]

theorem fn_zero : Fn (fun _ => 0) := ⟨fun z h => absurd rfl h, fun _ => Int.le_refl _, fun _ => by omega⟩
theorem Fn.upd {f : Int → Int} (h : Fn f) {i n : Int} (hi : 0 ≤ i ∧ i ≤ 256) (h0 : 0 ≤ n) (h1 : n ≤ 2048) : Fn (upd f i n) := by
  refine ⟨fun z hz => ?_, fun z => ?_, fun z => ?_⟩ <;> unfold Go.Proofs.Ytagnaefpkgekmab.upd at *
  · by_cases e : z = i
    · subst e; exact hi
    · rw [if_neg e] at hz; exact h.out z hz
  · split
    · exact h0
    · exact h.low z
  · split
    · exact h1
    · exact h.high z
theorem fn_by {l : List Kn} (h : okF (-1) l = true) : Fn (byN l) := by
  have ha := (ok_all h).1
  have key : ∀ z, hasN l z = true → (0 ≤ z ∧ z ≤ 256) ∧ 1 ≤ byN l z ∧ byN l z ≤ 2048 := fun z hz => by
    have := ha _ (by_mem l z hz); exact this.2
  refine ⟨fun z hz => ?_, fun z => ?_, fun z => ?_⟩ <;> cases hh : hasN l z
  · exact absurd (by_of_not l z hh) hz
  · exact (key z hh).1
  · rw [by_of_not l z hh]; omega
  · have := key z hh; omega
  · rw [by_of_not l z hh]; omega
  · have := key z hh; omega
theorem has_by {l : List Kn} (h : okF (-1) l = true) (z : Int) : hasN l z = !(byN l z == 0) := by
  cases hh : hasN l z
  · rw [by_of_not l z hh]; rfl
  · have := (ok_all h).1 _ (by_mem l z hh)
    have h0 : byN l z ≠ 0 := by have := this.2.2.1; simp at this; omega
    simp [h0]
theorem Fn.ext {f g : Int → Int} (h : Fn f) (e : ∀ z, g z = f z) : Fn g := by
  have : g = f := funext e
  rw [this]; exact h

/-! ### the one form of a function -/
theorem nfU_mem (f : Int → Int) (k : Nat) (p : Kn) : p ∈ nfU f k ↔ ∃ i : Nat, i < k ∧ f i ≠ 0 ∧ p = ((i : Int), f i) := by
  induction k with
  | zero => simp [nfU]
  | succ k ih =>
    show p ∈ nfU f k ++ (if f k = 0 then [] else [((k : Int), f k)]) ↔ _
    rw [List.mem_append, ih]
    constructor
    · rintro (⟨i, h1, h2, h3⟩ | h)
      · exact ⟨i, by omega, h2, h3⟩
      · by_cases e : f k = 0
        · rw [if_pos e] at h; simp at h
        · rw [if_neg e] at h; exact ⟨k, by omega, e, by simpa using h⟩
    · rintro ⟨i, h1, h2, h3⟩
      by_cases e : i < k
      · exact .inl ⟨i, e, h2, h3⟩
      · obtain rfl : i = k := by omega
        rw [if_neg h2]
        exact .inr (by simpa using h3)
theorem nfU_sorted (f : Int → Int) (k : Nat) : (nfU f k).Pairwise (fun p q => p.1 < q.1) := by
  induction k with
  | zero => exact .nil
  | succ k ih =>
    show (nfU f k ++ (if f k = 0 then [] else [((k : Int), f k)])).Pairwise _
    refine List.pairwise_append.2 ⟨ih, ?_, fun p hp q hq => ?_⟩
    · split
      · exact .nil
      · simp
    · obtain ⟨i, h1, _, rfl⟩ := (nfU_mem f k p).1 hp
      by_cases e : f k = 0
      · rw [if_pos e] at hq; simp at hq
      · rw [if_neg e] at hq
        simp at hq
        rw [hq]
        show (i : Int) < k
        omega
theorem nfU_len (f : Int → Int) (k : Nat) : (nfU f k).length ≤ k := by
  induction k with
  | zero => exact Nat.le_refl _
  | succ k ih =>
    show (nfU f k ++ (if f k = 0 then [] else [((k : Int), f k)])).length ≤ k + 1
    rw [List.length_append]
    have : (if f k = 0 then [] else [((k : Int), f k)]).length ≤ 1 := by split <;> simp
    omega
theorem nf_mem (f : Int → Int) (p : Kn) : p ∈ nf f ↔ ∃ i : Nat, i < 257 ∧ f i ≠ 0 ∧ p = ((i : Int), f i) := by
  unfold nf; exact nfU_mem f 257 p
theorem nf_sorted (f : Int → Int) : (nf f).Pairwise (fun p q => p.1 < q.1) := by
  unfold nf; exact nfU_sorted f 257
theorem nf_len (f : Int → Int) : (nf f).length ≤ 257 := by unfold nf; exact nfU_len f 257
theorem nf_congr {f g : Int → Int} (h : ∀ z, f z = g z) : nf f = nf g := by rw [funext h]
theorem nf_ok {f : Int → Int} (h : Fn f) : okF (-1) (nf f) = true := by
  refine ok_of (fun p hp => ?_) (nf_sorted f)
  obtain ⟨i, h1, h2, rfl⟩ := (nf_mem f p).1 hp
  have := h.low i
  have := h.high i
  refine ⟨?_, ⟨?_, ?_⟩, ?_, ?_⟩ <;> simp <;> omega
theorem nf_has {f : Int → Int} (h : Fn f) (z : Int) : hasN (nf f) z = !(f z == 0) := by
  cases hz : hasN (nf f) z
  · by_cases e : f z = 0
    · simp [e]
    · exfalso
      obtain ⟨z0, z1⟩ := h.out z e
      have hm : (z, f z) ∈ nf f := (nf_mem f _).2 ⟨z.toNat, by omega, by rw [show ((z.toNat : Nat) : Int) = z by omega]; exact e, by rw [show ((z.toNat : Nat) : Int) = z by omega]⟩
      have hq := has_mem hm
      have hq : hasN (nf f) z = true := hq
      rw [hq] at hz
      cases hz
  · obtain ⟨i, h1, h2, e⟩ := (nf_mem f _).1 (by_mem (nf f) z hz)
    have e1 : z = (i : Int) := (Prod.mk.inj e).1
    rw [e1]
    simp [h2]
theorem nf_by {f : Int → Int} (h : Fn f) (z : Int) : byN (nf f) z = f z := by
  cases hz : hasN (nf f) z
  · rw [by_of_not _ _ hz]
    rw [nf_has h z] at hz
    simp at hz
    exact hz.symm
  · obtain ⟨i, h1, h2, e⟩ := (nf_mem f _).1 (by_mem (nf f) z hz)
    have e1 : z = (i : Int) := (Prod.mk.inj e).1
    have e2 : byN (nf f) z = f i := (Prod.mk.inj e).2
    rw [e2, ← e1]

/-- The numbers of the one form are what sorting the keys gives. -/
def idsOf (f : Int → Int) : List Int := (nf f).map (·.1)
theorem ids_sorted (f : Int → Int) : (idsOf f).Pairwise (fun a b => a < b) := List.pairwise_map.2 (nf_sorted f)
theorem ids_mem {f : Int → Int} (h : Fn f) (x : Int) : x ∈ idsOf f ↔ f x ≠ 0 := by
  unfold idsOf
  rw [List.mem_map]
  constructor
  · rintro ⟨p, hp, rfl⟩
    obtain ⟨i, h1, h2, rfl⟩ := (nf_mem f p).1 hp
    exact h2
  · intro hx
    have : hasN (nf f) x = true := by rw [nf_has h x]; simp [hx]
    exact ⟨_, by_mem _ _ this, rfl⟩
theorem ids_map (f : Int → Int) : (idsOf f).map (fun i => (i, f i)) = nf f := by
  unfold idsOf
  rw [List.map_map]
  conv => rhs; rw [← List.map_id (nf f)]
  apply List.map_congr_left
  intro p hp
  obtain ⟨i, h1, h2, rfl⟩ := (nf_mem f p).1 hp
  rfl
theorem ids_sort {f : Int → Int} {ks ss : List Int} (hp : ss.Perm ks) (hk : (idsOf f).Perm ks) : (ss.mergeSort fun x y => decide (x ≤ y)) = idsOf f := by
  have h1 : ss.mergeSort leI = (idsOf f).mergeSort leI := mergeSort_of_perm_i (hp.trans hk.symm)
  have h2 : (idsOf f).mergeSort leI = idsOf f := by
    refine List.mergeSort_of_pairwise ?_
    exact (ids_sorted f).imp (fun {a b} hab => by simp [leI]; omega)
  exact h1.trans h2

/-! ### a map that says what a function says -/
section
variable {H : Type}
def Says (D : DataW H) (f : Int → Int) : Prop := ∀ z : Int, (Lit.int .i64 z).wf = true → D.atKey (.int .i64 z) (.lit (.int .i64 0)) = .lit (.int .i64 (f z)) ∧ has D (.int .i64 z) = !(f z == 0)

theorem key_int (z : Int) : WideAt.IsKeyLit (.int .i64 z) := by trivial

theorem says_none : Says (H := H) (.map []) (fun _ => 0) := fun _ _ => ⟨rfl, rfl⟩
theorem Says.put {D : DataW H} {f : Int → Int} (h : Says D f) (hD : IsMap D) (i n : Int) (hn : n ≠ 0) : Says (D.put (.int .i64 i) (.lit (.int .i64 n))) (upd f i n) := by
  intro z hz
  unfold upd
  by_cases e : z = i
  · subst e
    rw [if_pos rfl, atKey_put_same hD (key_int z), has_put_same hD (key_int z)]
    exact ⟨rfl, by simp [hn]⟩
  · have hne : Lit.int .i64 z ≠ .int .i64 i := fun e' => e (by injection e')
    rw [if_neg e, atKey_put_other hne, has_put_other hne]
    exact h z hz
theorem Says.del {D : DataW H} {f : Int → Int} (h : Says D f) (i : Int) : Says (D.del (.int .i64 i)) (upd f i 0) := by
  intro z hz
  unfold upd
  by_cases e : z = i
  · subst e
    rw [if_pos rfl, atKey_del_same, has_del_same]
    exact ⟨rfl, rfl⟩
  · have hne : Lit.int .i64 z ≠ .int .i64 i := fun e' => e (by injection e')
    rw [if_neg e, atKey_del_other hne, has_del_other hne]
    exact h z hz
theorem Says.ext {D : DataW H} {f g : Int → Int} (h : Says D f) (e : ∀ z, g z = f z) : Says D g := by
  have : g = f := funext e
  rw [this]; exact h

variable {P : Program} {k : TypeId} {R : Value → Option (DataW H × List MemPlace)} {w : World} {b n : Nat} {D : DataW H}
theorem says_perm {f : Int → Int} (hs : Says D f) (hf : Fn f) (hown : w.ownsMap P k R b n D) (K : Keyed P k) (hk : P.underlying k = some (.int .i64)) : (idsOf f).Perm (intKeys D) := by
  obtain ⟨es, hD, hpw, _⟩ := hown.entries K
  obtain ⟨es', hD', hko⟩ := hown.keysOf
  obtain rfl : es = es' := by rw [hD] at hD'; simpa using hD'
  subst hD
  have hi : ∀ p ∈ es, ∃ x, p.1 = .int .i64 x ∧ (Lit.int .i64 x).wf = true := fun p hp => by
    obtain ⟨v, hv⟩ := hko p hp
    obtain ⟨x, _, hx, hw⟩ := Maps.keyOf_i64 hk hv
    exact ⟨x, hx, hx ▸ hw⟩
  refine perm_intKeys hpw (fun p hp => by obtain ⟨x, hx, _⟩ := hi p hp; exact ⟨x, hx⟩) ((ids_sorted f).imp (fun {a b} hab => by omega)) (fun x => ?_)
  rw [ids_mem hf x]
  constructor
  · intro hx
    obtain ⟨x0, x1⟩ := hf.out x hx
    rw [(hs x (WalkArith.wf_i64 (by omega))).2]
    simp [hx]
  · intro hx
    have hx' := hx
    rw [has_eq, List.any_eq_true] at hx'
    obtain ⟨p, hp, hpk⟩ := hx'
    obtain ⟨y, hy, hw⟩ := hi p hp
    rw [hy] at hpk
    have e : Lit.int .i64 y = .int .i64 x := WideAt.sameKey_eq hpk
    injection e with _ e
    subst e
    rw [(hs y hw).2] at hx
    simpa using hx
theorem says_size {f : Int → Int} (hs : Says D f) (hf : Fn f) (hown : w.ownsMap P k R b n D) (K : Keyed P k) (hk : P.underlying k = some (.int .i64)) : Maps.size D = (nf f).length := by
  have h := (says_perm hs hf hown K hk).length_eq
  obtain ⟨es, hD, _⟩ := hown.entries K
  subst hD
  have e : (intKeys (DataW.map es)).length = es.length := by simp [intKeys]
  rw [e] at h
  show es.length = _
  rw [← h]
  simp [idsOf]
end
end Go.Proofs.Ytagnaefpkgekmab
