/- Mathematics of runs: how often each place may still be come to; each step takes one away. -/
import Derived.Test.YtffjddabjjcjpaaFg
namespace Go.Proofs.Ytffjddabjjcjpaa
open Go.ChangeShapes Go.WideShapes Go.ChangeAt Go.RowKit
set_option maxRecDepth 10000

/-- How often the loops of a pile are begun anew, those in which the run is. -/
def eN (im lf : Nat → Nat) : List Nat → Nat
  | [] => 0
  | q :: t => (lf q - 1) + eN im lf t * im q
/-- How often what lies in a pile's inside may be come to; a: it lies ahead. -/
def tN (im lf : Nat → Nat) (S : List Nat) (a : Nat) : List Nat → Nat
  | [] => a
  | q :: t => if q ∈ S then (lf q - 1) + eN im lf t * im q + a else tN im lf S a t * im q
/-- With one of the run's loops all around it are the run's. -/
def Dn (S : List Nat) : List Nat → Prop
  | [] => True
  | q :: t => (q ∈ S → ∀ p ∈ t, p ∈ S) ∧ Dn S t

variable {im lf lf' : Nat → Nat} {S S' : List Nat} {a : Nat} {l : List Nat}

theorem eN_cons (q : Nat) (t : List Nat) : eN im lf (q :: t) = (lf q - 1) + eN im lf t * im q := rfl
theorem tN_cons (q : Nat) (t : List Nat) : tN im lf S a (q :: t) = if q ∈ S then (lf q - 1) + eN im lf t * im q + a else tN im lf S a t * im q := rfl

theorem eN_congr (h : ∀ q ∈ l, lf q = lf' q) : eN im lf l = eN im lf' l := by
  induction l with
  | nil => rfl
  | cons q t ih =>
    rw [eN_cons, eN_cons, h q List.mem_cons_self, ih (fun x hx => h x (List.mem_cons_of_mem _ hx))]

theorem tN_in (h : ∀ q ∈ l, q ∈ S) : tN im lf S a l = eN im lf l + a := by
  cases l with
  | nil => simp [tN, eN]
  | cons q t =>
    rw [tN_cons, eN_cons]
    rw [if_pos (h q List.mem_cons_self)]

/-- It hangs on the run's loops around alone. -/
theorem tN_congr (hd : Dn S l) (h : ∀ q ∈ l, q ∈ S ↔ q ∈ S') (hf : ∀ q ∈ l, q ∈ S → lf q = lf' q) : tN im lf S a l = tN im lf' S' a l := by
  induction l with
  | nil => rfl
  | cons q t ih =>
    rw [tN_cons, tN_cons]
    by_cases c : q ∈ S
    · rw [if_pos c, if_pos ((h q List.mem_cons_self).1 c), hf q List.mem_cons_self c, eN_congr (lf' := lf') (fun x hx => hf x (List.mem_cons_of_mem _ hx) (hd.1 c x hx))]
    · rw [if_neg c, if_neg (fun e => c ((h q List.mem_cons_self).2 e)), ih hd.2 (fun x hx => h x (List.mem_cons_of_mem _ hx)) (fun x hx => hf x (List.mem_cons_of_mem _ hx))]

theorem tN_mono {a b : Nat} (hab : a ≤ b) : tN im lf S a l ≤ tN im lf S b l := by
  induction l with
  | nil => exact hab
  | cons q t ih =>
    rw [tN_cons, tN_cons]
    by_cases c : q ∈ S
    · rw [if_pos c, if_pos c]; omega
    · rw [if_neg c, if_neg c]; exact Nat.mul_le_mul_right _ ih

/-- Out of loops: what lies behind is not come to more often. -/
theorem tN_leave (hd : Dn S l) (hs : ∀ q, q ∈ S' → q ∈ S) : tN im lf S' 0 l ≤ tN im lf S 0 l := by
  have key : ∀ l : List Nat, (∀ q ∈ l, q ∈ S) → tN im lf S' 0 l ≤ eN im lf l := by
    intro l
    induction l with
    | nil => intro _; exact Nat.le_refl _
    | cons q t ih =>
      intro h
      have ih := ih (fun x hx => h x (List.mem_cons_of_mem _ hx))
      rw [tN_cons, eN_cons]
      by_cases c : q ∈ S'
      · rw [if_pos c]; omega
      · rw [if_neg c]
        have := Nat.mul_le_mul_right (im q) ih
        omega
  induction l with
  | nil => exact Nat.le_refl _
  | cons q t ih =>
    by_cases c : q ∈ S
    · have h1 := key (q :: t) (fun x hx => by
        rcases List.mem_cons.1 hx with rfl | hx
        · exact c
        · exact hd.1 c x hx)
      refine Nat.le_trans h1 ?_
      rw [tN_cons, eN_cons, if_pos c]
      omega
    · have c' : q ∉ S' := fun e => c (hs q e)
      rw [tN_cons, tN_cons, if_neg c, if_neg c']
      exact Nat.mul_le_mul_right _ (ih hd.2)

/-- Into a loop: what lies in it, before and behind. -/
theorem tN_enter {r : Nat} {U : List Nat} (hr : r ∉ S) (hU : ∀ u ∈ U, u ∉ S ∧ u ≠ r) (hf : ∀ q ∈ S, lf' q = lf q) (hr' : lf' r = im r) (h1 : 1 ≤ im r) :
    tN im lf' (r :: S) 1 (U ++ r :: S) = tN im lf S 1 (U ++ r :: S) := by
  induction U with
  | nil =>
    simp only [List.nil_append]
    rw [tN_cons, tN_cons, if_pos List.mem_cons_self, if_neg hr, tN_in (fun q h => h), eN_congr (lf' := lf) (fun q hq => hf q hq), hr', Nat.add_mul]
    omega
  | cons u U ih =>
    have ih := ih (fun x hx => hU x (List.mem_cons_of_mem _ hx))
    have hu := hU u List.mem_cons_self
    simp only [List.cons_append]
    rw [tN_cons, tN_cons, if_neg hu.1, if_neg (by simp only [List.mem_cons, not_or]; exact ⟨hu.2, hu.1⟩), ih]

/-- Once more round a loop. -/
theorem tN_again {r : Nat} {t U : List Nat} (hU : ∀ u ∈ U, u ∉ r :: t) (hf : ∀ q ∈ t, lf' q = lf q) (hr' : lf' r = lf r - 1) (h2 : 2 ≤ lf r) :
    tN im lf' (r :: t) 1 (U ++ r :: t) = tN im lf (r :: t) 0 (U ++ r :: t) := by
  induction U with
  | nil =>
    simp only [List.nil_append]
    rw [tN_cons, tN_cons, if_pos List.mem_cons_self, if_pos List.mem_cons_self, eN_congr (lf' := lf) (fun q hq => hf q hq), hr']
    omega
  | cons u U ih =>
    have ih := ih (fun x hx => hU x (List.mem_cons_of_mem _ hx))
    have hu := hU u List.mem_cons_self
    simp only [List.cons_append]
    rw [tN_cons, tN_cons, if_neg hu, if_neg hu, ih]

/-- Out of a loop that is done. -/
theorem tN_done {r : Nat} {t U : List Nat} (hU : ∀ u ∈ U, u ∉ r :: t) (ht : r ∉ t) (hf : ∀ q ∈ t, lf' q = lf q) (h1 : lf r = 1) :
    tN im lf' t 0 (U ++ r :: t) = tN im lf (r :: t) 0 (U ++ r :: t) := by
  induction U with
  | nil =>
    simp only [List.nil_append]
    rw [tN_cons, tN_cons, if_pos List.mem_cons_self, if_neg ht, tN_in (fun q h => h), eN_congr (lf' := lf) (fun q hq => hf q hq), h1]
    simp
  | cons u U ih =>
    have ih := ih (fun x hx => hU x (List.mem_cons_of_mem _ hx))
    have hu := hU u List.mem_cons_self
    simp only [List.cons_append]
    rw [tN_cons, tN_cons, if_neg hu, if_neg (fun e => hu (List.mem_cons_of_mem _ e)), ih]

variable {L : List Q5}

theorem dn_stk (x : Nat) : ∀ (l : List Nat) (k : Nat), stk L k = l → Dn (stk L x) l
  | [], _, _ => trivial
  | q :: t, k, h => by
    have e := stk_cons h
    refine ⟨fun hq p hp => ?_, dn_stk x t q e.symm⟩
    rw [e] at hp
    exact stk_trans hq hp

def imN (L : List Q5) (q : Nat) : Nat := (imA L q).toNat
/-- How often a place may still be come to, the run being at x. -/
def rN (L : List Q5) (lf : Nat → Nat) (x k : Nat) : Nat := tN (imN L) lf (stk L x) (if x ≤ k then 1 else 0) (stk L k)
def sumN (f : Nat → Nat) : Nat → Nat
  | 0 => 0
  | n + 1 => sumN f n + f n
theorem sum_le {f g : Nat → Nat} {n : Nat} (h : ∀ k, k < n → f k ≤ g k) : sumN f n ≤ sumN g n := by
  induction n with
  | zero => exact Nat.le_refl _
  | succ n ih => exact Nat.add_le_add (ih (fun k hk => h k (by omega))) (h n (by omega))
theorem sum_lt {f g : Nat → Nat} {n x : Nat} (h : ∀ k, k < n → f k ≤ g k) (hx : x < n) (hl : f x < g x) : sumN f n + 1 ≤ sumN g n := by
  induction n with
  | zero => omega
  | succ n ih =>
    have h1 := h n (by omega)
    show sumN f n + f n + 1 ≤ sumN g n + g n
    by_cases c : x < n
    · have := ih (fun k hk => h k (by omega)) c
      omega
    · have e : x = n := by omega
      subst e
      have := sum_le (fun k hk => h k (Nat.lt_succ_of_lt hk))
      omega
theorem sum_one {f : Nat → Nat} {n x : Nat} (hx : x < n) (h : 1 ≤ f x) : 1 ≤ sumN f n := by
  have := sum_lt (f := fun _ => 0) (g := f) (n := n) (x := x) (fun k _ => Nat.zero_le _) hx h
  omega

theorem rN_self (x : Nat) : rN L lf x x = eN (imN L) lf (stk L x) + 1 := by
  unfold rN
  rw [if_pos (Nat.le_refl _), tN_in (fun q h => h)]

theorem not_self (x : Nat) : x ∉ stk L x := fun h => by have := (stk_lt h).1; omega

/-- On to the next place. -/
theorem step_next {x : Nat} (h3 : opA L x ≠ 33) (h4 : opA L x ≠ 34) (k : Nat) : rN L lf (x + 1) k ≤ rN L lf x k ∧ (k = x → rN L lf (x + 1) k < rN L lf x k) := by
  by_cases c : k = x
  · subst c
    have h : rN L lf (k + 1) k < rN L lf k k := by
      rw [rN_self]
      unfold rN
      rw [stk_else h3 h4, if_neg (by omega), tN_in (fun q h => h)]
      omega
    exact ⟨Nat.le_of_lt h, fun _ => h⟩
  · refine ⟨?_, fun e => absurd e c⟩
    unfold rN
    rw [stk_else h3 h4]
    by_cases d : x ≤ k
    · rw [if_pos d, if_pos (by omega)]
      exact Nat.le_refl _
    · rw [if_neg d, if_neg (by omega)]
      exact Nat.le_refl _

/-- Into a loop. -/
theorem step_rep {x : Nat} (h3 : opA L x = 33) (hi : 1 ≤ imN L x) (hf : ∀ q, q ≠ x → lf' q = lf q) (hx : lf' x = imN L x) (k : Nat) : rN L lf' (x + 1) k ≤ rN L lf x k ∧ (k = x → rN L lf' (x + 1) k < rN L lf x k) := by
  have hfS : ∀ q ∈ stk L x, lf' q = lf q := fun q hq => hf q (by have := (stk_lt hq).1; omega)
  by_cases c : k = x
  · subst c
    have h : rN L lf' (k + 1) k < rN L lf k k := by
      rw [rN_self]
      unfold rN
      rw [stk_rep h3, if_neg (by omega), tN_in (fun q h => List.mem_cons_of_mem _ h), eN_congr hfS]
      omega
    exact ⟨Nat.le_of_lt h, fun _ => h⟩
  · refine ⟨Nat.le_of_eq ?_, fun e => absurd e c⟩
    unfold rN
    rw [stk_rep h3]
    by_cases d : x ∈ stk L k
    · have hxk := (stk_lt d).1
      obtain ⟨U, e, hU⟩ := stk_split d
      rw [if_pos (by omega), if_pos (by omega), e]
      exact tN_enter (not_self x) (fun u hu => ⟨fun h => by have := (stk_lt h).1; have := hU u hu; omega, by have := hU u hu; omega⟩) hfS hx hi
    · have ea : (if x + 1 ≤ k then 1 else 0) = (if x ≤ k then 1 else 0) := by
        by_cases d2 : x ≤ k
        · rw [if_pos d2, if_pos (by omega)]
        · rw [if_neg d2, if_neg (by omega)]
      rw [ea]
      refine (tN_congr (dn_stk x _ k rfl) (fun q hq => ?_) (fun q hq hqS => (hfS q hqS).symm)).symm
      simp only [List.mem_cons]
      constructor
      · exact .inr
      · rintro (rfl | h)
        · exact absurd hq d
        · exact h

/-- A jump. -/
theorem step_jump {x t : Nat} (h3 : opA L x ≠ 33) (hxt : x < t) (ht : top (stk L t) ≤ x) (k : Nat) : rN L lf t k ≤ rN L lf x k ∧ (k = x → rN L lf t k < rN L lf x k) := by
  have hsub : ∀ q, q ∈ stk L t → q ∈ stk L x := by
    intro q hq
    have hqx : q < x := by
      have h33 := (stk_lt hq).2
      have hne : q ≠ x := fun e => h3 (by rw [← e]; exact h33)
      have hle : q ≤ x := by
        cases hs : stk L t with
        | nil => rw [hs] at hq; simp at hq
        | cons r u =>
          rw [hs] at hq ht
          have hr : (r : Int) ≤ x := ht
          have hd := stk_dec (L := L) t
          rw [hs] at hd
          rcases List.mem_cons.1 hq with rfl | hq
          · omega
          · have := (List.pairwise_cons.1 hd).1 q hq
            omega
      omega
    exact stk_back hq hqx (by omega)
  by_cases c : t ≤ k
  · refine ⟨Nat.le_of_eq ?_, fun e => by omega⟩
    unfold rN
    rw [if_pos c, if_pos (by omega)]
    refine (tN_congr (dn_stk x _ k rfl) (fun q hq => ⟨fun h => ?_, hsub q⟩) (fun _ _ _ => rfl)).symm
    exact stk_back hq (by have := (stk_lt h).1; omega) c
  · have h1 : rN L lf t k ≤ tN (imN L) lf (stk L x) 0 (stk L k) := by
      unfold rN
      rw [if_neg c]
      exact tN_leave (dn_stk x _ k rfl) hsub
    refine ⟨Nat.le_trans h1 (tN_mono (Nat.zero_le _)), fun e => ?_⟩
    subst e
    rw [rN_self]
    rw [tN_in (fun q h => h)] at h1
    omega

/-- Out of a loop that is done. -/
theorem step_done {x r n : Nat} (h4 : opA L x = 34) (hr : top (stk L x) = r) (hxn : x < n) (h1 : lf r = 1) (hf : ∀ q, q ≠ r → lf' q = lf q) (k : Nat) : rN L lf' (x + 1) k ≤ rN L lf x k ∧ (k = x → rN L lf' (x + 1) k < rN L lf x k) := by
  have hs := top_mem hr
  have hs' : stk L (x + 1) = stk L r := by rw [stk_end h4, hs]; rfl
  have hfS : ∀ q ∈ stk L r, lf' q = lf q := fun q hq => hf q (by have := (stk_lt hq).1; omega)
  have he := en_top h4 hr hxn
  by_cases c : k = x
  · subst c
    have h : rN L lf' (k + 1) k < rN L lf k k := by
      rw [rN_self]
      unfold rN
      rw [hs', if_neg (by omega), hs]
      have := tN_done (im := imN L) (lf := lf) (lf' := lf') (r := r) (t := stk L r) (U := []) (by simp) (not_self r) hfS h1
      simp only [List.nil_append] at this
      rw [this, tN_in (fun q h => h)]
      omega
    exact ⟨Nat.le_of_lt h, fun _ => h⟩
  · refine ⟨Nat.le_of_eq ?_, fun e => absurd e c⟩
    unfold rN
    rw [hs', hs]
    by_cases d : r ∈ stk L k
    · have hk := mid_in he d
      obtain ⟨U, e, hU⟩ := stk_split d
      rw [if_neg (by omega), if_neg (by omega), e]
      exact tN_done (fun u hu h => by
        have := hU u hu
        rcases List.mem_cons.1 h with rfl | h
        · omega
        · have := (stk_lt h).1; omega) (not_self r) hfS h1
    · have ea : (if x + 1 ≤ k then 1 else 0) = (if x ≤ k then 1 else 0) := by
        by_cases d2 : x ≤ k
        · rw [if_pos d2, if_pos (by omega)]
        · rw [if_neg d2, if_neg (by omega)]
      rw [ea]
      have hdn := dn_stk (L := L) x _ k rfl
      rw [hs] at hdn
      refine (tN_congr hdn (fun q hq => ?_) (fun q hq hqS => ?_)).symm
      · simp only [List.mem_cons]
        constructor
        · rintro (rfl | h)
          · exact absurd hq d
          · exact h
        · exact .inr
      · exact (hf q (fun e => d (by rw [← e]; exact hq))).symm

/-- Once more round a loop. -/
theorem step_again {x r n : Nat} (h4 : opA L x = 34) (hr : top (stk L x) = r) (hxn : x < n) (h2 : 2 ≤ lf r) (hf : ∀ q, q ≠ r → lf' q = lf q) (hr' : lf' r = lf r - 1) (k : Nat) : rN L lf' (r + 1) k ≤ rN L lf x k ∧ (k = x → rN L lf' (r + 1) k < rN L lf x k) := by
  have hs := top_mem hr
  have hm : r ∈ stk L x := by rw [hs]; exact List.mem_cons_self
  have hrl := stk_lt hm
  have hs' : stk L (r + 1) = r :: stk L r := stk_rep hrl.2
  have hfS : ∀ q ∈ stk L r, lf' q = lf q := fun q hq => hf q (by have := (stk_lt hq).1; omega)
  have he := en_top h4 hr hxn
  have hU0 : ∀ (k : Nat) (U : List Nat), (∀ u ∈ U, r < u) → ∀ u ∈ U, u ∉ r :: stk L r := fun k U hU u hu h => by
    have := hU u hu
    rcases List.mem_cons.1 h with rfl | h
    · omega
    · have := (stk_lt h).1; omega
  by_cases c : k = x
  · subst c
    have h : rN L lf' (r + 1) k < rN L lf k k := by
      rw [rN_self]
      unfold rN
      rw [hs', if_pos (by omega), hs]
      have := tN_again (im := imN L) (lf := lf) (lf' := lf') (r := r) (t := stk L r) (U := []) (by simp) hfS hr' h2
      simp only [List.nil_append] at this
      rw [this, tN_in (fun q h => h)]
      omega
    exact ⟨Nat.le_of_lt h, fun _ => h⟩
  · refine ⟨Nat.le_of_eq ?_, fun e => absurd e c⟩
    unfold rN
    rw [hs', hs]
    by_cases d : r ∈ stk L k
    · have hk := mid_in he d
      have hrk := (stk_lt d).1
      obtain ⟨U, e, hU⟩ := stk_split d
      rw [if_pos (by omega), if_neg (by omega), e]
      exact tN_again (hU0 k U hU) hfS hr' h2
    · have ea : (if r + 1 ≤ k then 1 else 0) = (if x ≤ k then 1 else 0) := by
        by_cases d2 : x ≤ k
        · rw [if_pos d2, if_pos (by omega)]
        · rw [if_neg d2, if_neg]
          intro h
          exact d (in_mid he (by omega) (by omega))
      rw [ea]
      have hdn := dn_stk (L := L) x _ k rfl
      rw [hs] at hdn
      exact (tN_congr hdn (fun q hq => Iff.rfl) (fun q hq hqS => (hf q (fun e => d (by rw [← e]; exact hq))).symm)).symm

/-- What is left of a run. -/
def leftN (L : List Q5) (lf : Nat → Nat) (x : Nat) : Nat := sumN (rN L lf x) L.length
theorem left_step {lf lf' : Nat → Nat} {x y : Nat} (hx : x < L.length) (h : ∀ k, rN L lf' y k ≤ rN L lf x k ∧ (k = x → rN L lf' y k < rN L lf x k)) : leftN L lf' y + 1 ≤ leftN L lf x :=
  sum_lt (fun k _ => (h k).1) hx ((h x).2 rfl)
theorem left_one {lf : Nat → Nat} {x : Nat} (hx : x < L.length) : 1 ≤ leftN L lf x :=
  sum_one hx (by rw [rN_self]; omega)

theorem tN_all {l : List Nat} (h : ∀ q ∈ l, 1 ≤ imA L q) : ((tN (imN L) lf [] 1 l : Nat) : Int) = pdS L l := by
  induction l with
  | nil => rfl
  | cons q t ih =>
    have ih := ih (fun x hx => h x (List.mem_cons_of_mem _ hx))
    have hq := h q List.mem_cons_self
    unfold tN pdS
    rw [if_neg (by simp), Int.natCast_mul, ih, Int.mul_comm]
    congr 1
    unfold imN
    omega
theorem left_start (hg : Good L) (lf : Nat → Nat) : ((leftN L lf 0 : Nat) : Int) = spN L L.length := by
  have key : ∀ n, n ≤ L.length → ((sumN (rN L lf 0) n : Nat) : Int) = spN L n := by
    intro n
    induction n with
    | zero => intro _; rfl
    | succ n ih =>
      intro hn
      have ih := ih (by omega)
      unfold sumN spN
      rw [Int.natCast_add, ih]
      congr 1
      unfold rN
      rw [if_pos (Nat.zero_le _)]
      exact tN_all (fun q hq => (hg.imm (by omega) hq).1)
  exact key _ (Nat.le_refl _)
end Go.Proofs.Ytffjddabjjcjpaa
