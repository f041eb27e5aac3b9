/- Headers, each of which says the next one: put on they are told again; mathematics. -/
import Derived.Test.YthdgfhllieknlaaJo
namespace Go.Proofs.Ythdgfhllieknlaa
open Go.ChangeShapes Go.WideShapes Go.ChangeAt Go.RowKit
set_option maxRecDepth 10000

theorem wP_ok : ∀ (out : Hs) (ys : List Int), HsOk out → (∀ x ∈ out, kC x.1 x.2 = 0) → Bytes ys → ys.length + hTot out ≤ 2048 → ∃ p, wP out ys = some p ∧ p.length = hTot out + ys.length ∧ Bytes p
  | [], ys, _, _, hb, _ => ⟨ys, rfl, by simp [hTot], hb⟩
  | x :: r, ys, ok, hc, hb, hl => by
    simp only [hTot] at hl
    obtain ⟨q, h1, h2, h3⟩ := wP_ok r ys (fun y hy => ok y (by simp [hy])) (fun y hy => hc y (by simp [hy])) hb (by omega)
    have kx := ok x (by simp)
    have he := bE_ok (ys := q) kx (hc x (by simp)) (by omega)
    obtain ⟨e1, -, -⟩ := b_back kx h3 he
    refine ⟨bB x.1 x.2 q ++ q, ?_, ?_, bytes_append (bB_bytes kx h3) h3⟩
    · unfold wP; rw [h1]; simp only; rw [if_pos he]
    · rw [List.length_append, e1, h2]; simp only [hTot]; omega

theorem wP_bytes : ∀ (out : Hs) (ys p : List Int), HsOk out → Bytes ys → wP out ys = some p → Bytes p
  | [], ys, p, _, hb, h => by cases h; exact hb
  | x :: r, ys, p, ok, hb, h => by
    obtain ⟨q, h1, _, rfl⟩ := wP_cons h
    have hq := wP_bytes r ys q (fun y hy => ok y (by simp [hy])) hb h1
    exact bytes_append (bB_bytes (ok x (by simp)) hq) hq

theorem wP_rest : ∀ (out : Hs) (ys p : List Int), HsOk out → Bytes ys → wP out ys = some p → p.drop (hTot out) = ys
  | [], ys, p, _, _, h => by cases h; simp [hTot]
  | x :: r, ys, p, ok, hb, h => by
    obtain ⟨q, h1, he, rfl⟩ := wP_cons h
    have okr : HsOk r := fun y hy => ok y (by simp [hy])
    have hq := wP_bytes r ys q okr hb h1
    obtain ⟨e1, -, -⟩ := b_back (ok x (by simp)) hq he
    simp only [hTot]
    rw [← List.drop_drop, List.drop_left' e1]
    exact wP_rest r ys q okr hb h1

/-- Each header says the kind of the next one, and the last one none. -/
def Says : Hs → Prop
  | [] => True
  | [x] => nx (hk x.1 x.2) = 0
  | x :: y :: r => nx (hk x.1 x.2) = y.1 ∧ Says (y :: r)

theorem pe_says : ∀ (r : Hs) (x : Int × List Value) (n : Nat) (acc : Hs) (ys p : List Int), Says (x :: r) → HsOk (x :: r) → Bytes ys → wP (x :: r) ys = some p → r.length < n → pe n x.1 acc p = (0, acc ++ (x :: r))
  | r, x, 0, acc, ys, p, _, _, _, _, hn => by omega
  | [], x, n + 1, acc, ys, p, hs, ok, hb, hw, _ => by
    obtain ⟨q, h1, he, rfl⟩ := wP_cons hw
    cases h1
    obtain ⟨-, e2, e3⟩ := b_back (ok x (by simp)) hb he
    have hs : nx (hk x.1 x.2) = 0 := hs
    unfold pe
    rw [if_pos e3, e2, if_pos hs]
  | y :: r, x, n + 1, acc, ys, p, hs, ok, hb, hw, hn => by
    obtain ⟨q, h1, he, rfl⟩ := wP_cons hw
    have okr : HsOk (y :: r) := fun z hz => ok z (List.mem_cons_of_mem _ hz)
    have hq := wP_bytes (y :: r) ys q okr hb h1
    obtain ⟨e1, e2, e3⟩ := b_back (ok x (by simp)) hq he
    obtain ⟨hs1, hs2⟩ : nx (hk x.1 x.2) = y.1 ∧ Says (y :: r) := hs
    have ky := (okr y (by simp)).1
    unfold pe
    rw [if_pos e3, e2, if_neg (by omega), hs1, List.drop_left' e1, pe_says r y n (acc ++ [(x.1, x.2)]) ys q hs2 okr hb h1 (by simp at hn; omega)]
    simp

theorem PE_says {r : Hs} {L : List Value} {ys p : List Int} (hs : Says ((1, L) :: r)) (ok : HsOk ((1, L) :: r)) (hb : Bytes ys) (hw : wP ((1, L) :: r) ys = some p) (hn : r.length < 8) : PE p = (0, (1, L) :: r) ∧ peR p = ys := by
  have e : PE p = (0, (1, L) :: r) := pe_says r (1, L) 8 [] ys p hs ok hb hw hn
  refine ⟨e, ?_⟩
  unfold peR
  rw [e, if_pos rfl]
  exact wP_rest _ ys p ok hb hw

theorem fnd_mem (k : Int) : ∀ (out : Hs) (n : Nat), (∃ x ∈ out, x.1 = k) → ∃ m, fnd k n out = some m
  | [], n, h => by obtain ⟨x, hx, _⟩ := h; simp at hx
  | y :: r, n, h => by
    unfold fnd
    by_cases hy : y.1 = k
    · rw [if_pos hy]; exact ⟨n, rfl⟩
    · rw [if_neg hy]
      obtain ⟨x, hx, e⟩ := h
      rcases List.mem_cons.1 hx with rfl | hx
      · exact absurd e hy
      · exact fnd_mem k r _ ⟨x, hx, e⟩

theorem fnd_first (k : Int) : ∀ (out : Hs) (n i : Nat) (x : Int × List Value), out[i]? = some x → x.1 = k → (∀ j y, j < i → out[j]? = some y → ¬ y.1 = k) → fnd k n out = some (n + hTot (out.take i))
  | [], n, i, x, h, _, _ => by simp at h
  | y :: r, n, 0, x, h, e, _ => by
    simp at h; subst h
    unfold fnd; rw [if_pos e]; simp [hTot]
  | y :: r, n, i + 1, x, h, e, hf => by
    have hy := hf 0 y (by omega) rfl
    unfold fnd
    rw [if_neg hy, fnd_first k r (n + sz y.1) i x (by simpa using h) e (fun j z hj hz => hf (j + 1) z (by omega) (by simpa using hz))]
    simp [hTot, Nat.add_assoc]

theorem says_at : ∀ (out : Hs) (i : Nat) (x : Int × List Value), Says out → out[i]? = some x → (∀ y, out[i + 1]? = some y → nx (hk x.1 x.2) = y.1) ∧ (out.length = i + 1 → nx (hk x.1 x.2) = 0)
  | [], i, x, _, h => by simp at h
  | [z], 0, x, hs, h => by
    simp at h; subst h
    exact ⟨fun y hy => by simp at hy, fun _ => hs⟩
  | [z], i + 1, x, hs, h => by simp at h
  | z :: y :: r, 0, x, hs, h => by
    simp at h; subst h
    exact ⟨fun w hw => by simp at hw; subst hw; exact hs.1, fun hl => by simp at hl⟩
  | z :: y :: r, i + 1, x, hs, h => by
    obtain ⟨h1, h2⟩ := says_at (y :: r) i x hs.2 (by simpa using h)
    exact ⟨fun w hw => h1 w (by simpa using hw), fun hl => h2 (by simpa using hl)⟩
end Go.Proofs.Ythdgfhllieknlaa
