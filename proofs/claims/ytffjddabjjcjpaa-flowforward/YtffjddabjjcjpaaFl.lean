/- The laws' argument, opened; the loops in a row; what is known of two loops. -/
import Derived.Test.YtffjddabjjcjpaaFk
import Derived.Test.YtffjddabjjcjpaaSp
namespace Go.Proofs.Ytffjddabjjcjpaa
open Go.ChangeShapes Go.WideShapes Go.ChangeAt Go.RowKit
set_option maxRecDepth 10000

theorem cd_open (a : Option Addr) (c : Nat) (xs : List sh37.M) (W : World) (o : SlOk sh37 W a c xs) : Cd W (.slice a xs.length c) (xs : List Q5) := by
  obtain ⟨⟨h1, h2, h3⟩, h4, h5⟩ := o
  refine ⟨⟨a, c, rfl, h2, ?_⟩, ?_⟩
  · rcases h4 with h0 | ⟨b, off, rfl, hc⟩
    · exact .inl (List.eq_nil_of_length_eq_zero h0)
    · refine .inr ⟨b, off, rfl, fun k p d s o i hk => ?_⟩
      have := hc k (p, d, s, o, i) hk
      refine ⟨this 0 _ rfl, this 1 _ rfl, this 2 _ rfl, this 3 _ rfl, this 4 _ rfl⟩
  · intro k p d s o i hk
    have := h5 (p, d, s, o, i) (List.mem_of_getElem? hk)
    obtain ⟨w1, w2, w3, w4, w5⟩ : (Lit.int .u8 p).wf = true ∧ (Lit.int .u8 d).wf = true ∧ (Lit.int .u8 s).wf = true ∧ (Lit.int .i16 o).wf = true ∧ (Lit.int .i32 i).wf = true := this
    have v1 := bounds_u8 w1
    have v2 := bounds_u8 w2
    have v3 := bounds_u8 w3
    have v4 : -32768 ≤ o ∧ o ≤ 32767 := bounds_i16 w4
    have v5 : -2147483648 ≤ i ∧ i ≤ 2147483647 := bounds_i32 w5
    constructor <;> omega

theorem lpCs_at : ∀ (l : List Lp) (k : Nat) (b e t d : Int), l[k]? = some (b, e, t, d) → (lpCs l)[k * 4]? = some (.int .i64 b) ∧ (lpCs l)[k * 4 + 1]? = some (.int .i64 e) ∧ (lpCs l)[k * 4 + 2]? = some (.int .i64 t) ∧ (lpCs l)[k * 4 + 3]? = some (.int .i64 d)
  | [], k, b, e, t, d, h => by simp at h
  | x :: r, 0, b, e, t, d, h => by
    simp at h
    subst h
    exact ⟨rfl, rfl, rfl, rfl⟩
  | x :: r, k + 1, b, e, t, d, h => by
    have ih := lpCs_at r k b e t d (by simpa using h)
    have e' : ∀ j, (lpCs (x :: r))[(k + 1) * 4 + j]? = (lpCs r)[k * 4 + j]? := fun j => by
      show (lpC x ++ lpCs r)[(k + 1) * 4 + j]? = _
      rw [List.getElem?_append_right (by simp [lpC]; omega)]
      congr 1
      simp [lpC]; omega
    have e0 := e' 0
    rw [Nat.add_zero, Nat.add_zero] at e0
    rw [e0, e' 1, e' 2, e' 3]
    exact ih

variable {L : List Q5}

theorem lpN_mem {k : Nat} {x : Lp} (h : x ∈ lpN L k) : ∃ j : Nat, j < k ∧ opA L j = 33 ∧ x = ((j : Int), enN L L.length j, imA L j, ((stk L j).length : Int) + 1) := by
  induction k with
  | zero => simp [lpN] at h
  | succ k ih =>
    unfold lpN at h
    by_cases c : opA L k = 33
    · rw [if_pos c] at h
      rcases List.mem_append.1 h with h | h
      · obtain ⟨j, h1, h2⟩ := ih h
        exact ⟨j, by omega, h2⟩
      · exact ⟨k, by omega, c, by simpa using h⟩
    · rw [if_neg c] at h
      obtain ⟨j, h1, h2⟩ := ih h
      exact ⟨j, by omega, h2⟩
theorem lpN_sorted (k : Nat) : (lpN L k).Pairwise (fun x y => x.1 < y.1) := by
  induction k with
  | zero => exact .nil
  | succ k ih =>
    unfold lpN
    by_cases c : opA L k = 33
    · rw [if_pos c]
      refine List.pairwise_append.2 ⟨ih, by simp, fun x hx y hy => ?_⟩
      obtain ⟨j, h1, -, rfl⟩ := lpN_mem hx
      simp at hy
      subst hy
      show (j : Int) < k
      omega
    · rw [if_neg c]; exact ih

/-- What is known of a loop. -/
theorem loop_at (hg : Good L) {k : Nat} {b e t d : Int} (h : (lpN L L.length)[k]? = some (b, e, t, d)) : ∃ B E : Nat, b = B ∧ e = E ∧ B < E ∧ E < L.length ∧ opA L B = 33 ∧ opA L E = 34 ∧ t = imA L B ∧ d = ((stk L B).length : Int) + 1 ∧ (stk L B).length < 3 ∧ enN L L.length B = E ∧ stk L E = B :: stk L B := by
  obtain ⟨j, h1, h2, h3⟩ := lpN_mem (List.mem_of_getElem? h)
  simp only [Prod.mk.injEq] at h3
  obtain ⟨rfl, rfl, rfl, rfl⟩ := h3
  obtain ⟨⟨E, hE⟩, hd⟩ := hg.rep h1 h2
  obtain ⟨e', e1, e2, e3, e4, e5, e6⟩ := en_some (L := L) (n := L.length) (j := j) (by rw [hE]; omega)
  have : e' = E := by omega
  subst this
  exact ⟨j, e', rfl, hE, e3, e2, h2, e4, rfl, rfl, hd, hE, e6⟩

/-- .. and of two. -/
theorem loop_two (hg : Good L) {k i : Nat} {b e t d b' e' t' d' : Int} (hk : k < i) (h : (lpN L L.length)[i]? = some (b, e, t, d)) (h' : (lpN L L.length)[k]? = some (b', e', t', d')) :
    b' < b ∧ ¬ (b < e' ∧ e' < e) ∧ e' ≠ e ∧ ¬ (e < e' ∧ d ≤ d') := by
  have hlt : b' < b := by
    have hp := lpN_sorted (L := L) L.length
    obtain ⟨hi, ei⟩ := List.getElem?_eq_some_iff.1 h
    obtain ⟨hk', ek⟩ := List.getElem?_eq_some_iff.1 h'
    have := List.pairwise_iff_getElem.1 hp k i hk' hi hk
    rw [ek, ei] at this
    exact this
  obtain ⟨B, E, rfl, rfl, h1, h2, h3, h4, rfl, rfl, h5, h6, h7⟩ := loop_at hg h
  obtain ⟨B', E', rfl, rfl, g1, g2, g3, g4, rfl, rfl, g5, g6, g7⟩ := loop_at hg h'
  refine ⟨hlt, ?_⟩
  by_cases c : B < E'
  · obtain ⟨q1, q2⟩ := nest_two g6 h6 (by omega) c
    obtain ⟨U, q3, -⟩ := stk_split q2
    have q4 : (stk L B).length = U.length + ((stk L B').length + 1) := by rw [q3]; simp
    omega
  · have : E' ≠ B := fun e => by rw [e] at g4; omega
    omega
end Go.Proofs.Ytffjddabjjcjpaa
