/- Stage 12: headers, each of which says the next one, are told again by Peel (mathematics; the same as in Js, which a seat without stage 11's laws can't import). -/
import Derived.Test.YtkjociipcdgeoabGreatRz
namespace Go.Proofs.YtkjociipcdgeoabGreat
open Go.ChangeShapes Go.WideShapes Go.ChangeAt Go.RowKit
set_option maxRecDepth 10000

theorem wP_bytes : ∀ (out : Hs) (ys p : List Int), HsOk out → Bytes ys → wP out ys = some p → Bytes p
  | [], ys, p, _, hb, h => by cases h; exact hb
  | x :: r, ys, p, ok, hb, h => by
    obtain ⟨q, h1, _, rfl⟩ := wP_cons h
    have hq := wP_bytes r ys q (fun y hy => ok y (by simp [hy])) hb h1
    exact bytes_append (bB_bytes (ok x (by simp)) hq) hq

theorem wP_rest : ∀ (out : Hs) (ys p : List Int), HsOk out → Bytes ys → wP out ys = some p → p.drop (hTot out) = ys
  | [], ys, p, _, _, h => by cases h; simp [hTot]
  | x :: r, ys, p, ok, hb, h => by
    obtain ⟨q, h1, he, rfl⟩ := wP_cons h
    have okr : HsOk r := fun y hy => ok y (by simp [hy])
    have hq := wP_bytes r ys q okr hb h1
    obtain ⟨e1, -, -⟩ := b_back (ok x (by simp)) hq he
    simp only [hTot]
    rw [← List.drop_drop, List.drop_left' e1]
    exact wP_rest r ys q okr hb h1

/-- Each header says the kind of the next one, and the last one none. -/
def Says : Hs → Prop
  | [] => True
  | [x] => nx (hk x.1 x.2) = 0
  | x :: y :: r => nx (hk x.1 x.2) = y.1 ∧ Says (y :: r)

theorem pe_says : ∀ (r : Hs) (x : Int × List Value) (n : Nat) (acc : Hs) (ys p : List Int), Says (x :: r) → HsOk (x :: r) → Bytes ys → wP (x :: r) ys = some p → r.length < n → pe n x.1 acc p = (0, acc ++ (x :: r))
  | r, x, 0, acc, ys, p, _, _, _, _, hn => by omega
  | [], x, n + 1, acc, ys, p, hs, ok, hb, hw, _ => by
    obtain ⟨q, h1, he, rfl⟩ := wP_cons hw
    cases h1
    obtain ⟨-, e2, e3⟩ := b_back (ok x (by simp)) hb he
    have hs : nx (hk x.1 x.2) = 0 := hs
    unfold pe
    rw [if_pos e3, e2, if_pos hs]
  | y :: r, x, n + 1, acc, ys, p, hs, ok, hb, hw, hn => by
    obtain ⟨q, h1, he, rfl⟩ := wP_cons hw
    have okr : HsOk (y :: r) := fun z hz => ok z (List.mem_cons_of_mem _ hz)
    have hq := wP_bytes (y :: r) ys q okr hb h1
    obtain ⟨e1, e2, e3⟩ := b_back (ok x (by simp)) hq he
    obtain ⟨hs1, hs2⟩ : nx (hk x.1 x.2) = y.1 ∧ Says (y :: r) := hs
    have ky := (okr y (by simp)).1
    unfold pe
    rw [if_pos e3, e2, if_neg (by omega), hs1, List.drop_left' e1, pe_says r y n (acc ++ [(x.1, x.2)]) ys q hs2 okr hb h1 (by simp at hn; omega)]
    simp

theorem PE_says {r : Hs} {L : List Value} {ys p : List Int} (hs : Says ((1, L) :: r)) (ok : HsOk ((1, L) :: r)) (hb : Bytes ys) (hw : wP ((1, L) :: r) ys = some p) (hn : r.length < 8) : PE p = (0, (1, L) :: r) ∧ peR p = ys := by
  have e : PE p = (0, (1, L) :: r) := pe_says r (1, L) 8 [] ys p hs ok hb hw hn
  refine ⟨e, ?_⟩
  unfold peR
  rw [e, if_pos rfl]
  exact wP_rest _ ys p ok hb hw


/-- What WrapPeels finds out, round by round: whether each of the first headers says the next one. -/
def toldB (l : List (List Value)) : Nat → Bool
  | 0 => decide (0 < l.length) && (num (l.getD 0 hz) 0 == 1)
  | k + 1 => toldB l k && ((!(nx (l.getD k hz) == 0)) == decide (k + 1 < l.length)) && ((nx (l.getD k hz) == 0) || (nx (l.getD k hz) == num (l.getD (k + 1) hz) 0))
theorem toldB_le (l : List (List Value)) : ∀ (m k : Nat), toldB l (k + m) = true → toldB l k = true
  | 0, k, h => h
  | m + 1, k, h => by
    rw [← Nat.add_assoc] at h
    refine toldB_le l m k ?_
    unfold toldB at h
    simp only [Bool.and_eq_true] at h
    exact h.1.1
theorem toldB_at {l : List (List Value)} (h : toldB l l.length = true) {k : Nat} (hk : k < l.length) : (k + 1 < l.length → nx (l.getD k hz) = num (l.getD (k + 1) hz) 0) ∧ (k + 1 = l.length → nx (l.getD k hz) = 0) := by
  have h1 := toldB_le l (l.length - (k + 1)) (k + 1) (by rw [show k + 1 + (l.length - (k + 1)) = l.length by omega]; exact h)
  unfold toldB at h1
  simp only [Bool.and_eq_true, Bool.or_eq_true, beq_iff_eq] at h1
  obtain ⟨⟨-, h2⟩, h3⟩ := h1
  refine ⟨fun hl => ?_, fun hl => ?_⟩
  · rcases h3 with h3 | h3
    · rw [h3, decide_eq_true hl] at h2; simp at h2
    · exact h3
  · rw [decide_eq_false (by omega)] at h2
    simpa using h2
theorem says_of : ∀ (l : List (List Value)), (∀ H ∈ l, hk (num H 0) (pt (num H 0) H) = H) → (∀ k, k < l.length → (k + 1 < l.length → nx (l.getD k hz) = num (l.getD (k + 1) hz) 0) ∧ (k + 1 = l.length → nx (l.getD k hz) = 0)) → Says (toHs l)
  | [], _, _ => trivial
  | [H], he, h => by
    show nx (hk (num H 0) (pt (num H 0) H)) = 0
    rw [he H (by simp)]
    exact (h 0 (by simp)).2 rfl
  | H :: J :: r, he, h => by
    refine ⟨?_, says_of (J :: r) (fun K hK => he K (List.mem_cons_of_mem _ hK)) (fun k hk => ?_)⟩
    · show nx (hk (num H 0) (pt (num H 0) H)) = num J 0
      rw [he H (by simp)]
      exact (h 0 (by simp)).1 (by simp)
    · have := h (k + 1) (by simp at hk ⊢; omega)
      simp only [List.length_cons] at this hk ⊢
      refine ⟨fun h1 => ?_, fun h1 => ?_⟩
      · have := this.1 (by omega); simpa using this
      · have := this.2 (by omega); simpa using this

theorem told_says {l : List (List Value)} {ys : List Int} (hl : ∀ H ∈ l, Hh H) (hy : Bytes ys) (he : (stP l ys).1 = 0) (h8 : l.length ≤ 8) (ht : toldB l l.length = true) : PE (stP l ys).2 = (0, toHs l) ∧ peR (stP l ys).2 = ys ∧ hsC (toHs l) = l.flatten ∧ HsOk (toHs l) ∧ 0 < l.length := by
  obtain ⟨t1, t2, t3, t4⟩ := toHs_ok l ys hl hy he
  have h0 := toldB_le l l.length 0 (by rw [Nat.zero_add]; exact ht)
  unfold toldB at h0
  simp only [Bool.and_eq_true, decide_eq_true_eq, beq_iff_eq] at h0
  obtain ⟨h0, h1⟩ := h0
  have hek : ∀ H ∈ l, hk (num H 0) (pt (num H 0) H) = H := fun H hH => (cE_ok (hl H hH) (t4 H hH)).2.2.2.1
  have hs := says_of l hek (fun k hk => toldB_at ht hk)
  cases l with
  | nil => simp at h0
  | cons H r =>
    have e1 : num H 0 = 1 := h1
    have e2 : toHs (H :: r) = (1, pt (num H 0) H) :: toHs r := by show (num H 0, _) :: _ = _; rw [e1]; rfl
    rw [e2] at hs t1 t2 ⊢
    have := PE_says hs t1 hy t2 (by simp [toHs] at h8 ⊢; omega)
    exact ⟨this.1, this.2, by rw [← e2]; exact t3, t1, h0⟩
end Go.Proofs.YtkjociipcdgeoabGreat
