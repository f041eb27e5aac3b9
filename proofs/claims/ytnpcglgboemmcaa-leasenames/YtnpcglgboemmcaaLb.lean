/- Contracts: slices.IndexFunc at a slice of loans, with whatever predicate; the two closures of package lease; ContainsFunc; isBusy. -/
import Derived.Test.YtnpcglgboemmcaaLa
import Derived.Shelf.Abstract

namespace Go.Proofs.Ytnpcglgboemmcaa
open Go.ChangeShapes Go.WideShapes Go.ChangeAt Go.RowKit

abbrev Loan := Int × Int × Int
/-- The cells of loans, one behind the other. -/
def lcells (L : List Loan) : List Value := L.flatMap fun l => [.int .i64 l.1, .int .i64 l.2.1, .int .i64 l.2.2]

theorem lcells_length (L : List Loan) : (lcells L).length = L.length * 3 := by
  unfold lcells
  induction L with
  | nil => rfl
  | cons l r ih => rw [List.flatMap_cons, List.length_append, ih]; simp; omega

theorem lcells_append (L M : List Loan) : lcells (L ++ M) = lcells L ++ lcells M := by simp [lcells]

theorem lcells_take (L : List Loan) (k : Nat) : lcells (L.take k) = (lcells L).take (k * 3) := by
  induction L generalizing k with
  | nil => simp [lcells]
  | cons l r ih =>
    cases k with
    | zero => simp [lcells]
    | succ k =>
      rw [List.take_succ_cons]
      show [Value.int .i64 l.1, .int .i64 l.2.1, .int .i64 l.2.2] ++ lcells (r.take k) = ([Value.int .i64 l.1, .int .i64 l.2.1, .int .i64 l.2.2] ++ lcells r).take ((k + 1) * 3)
      rw [ih, show (k + 1) * 3 = 3 + k * 3 by omega]
      rw [show 3 + k * 3 = k * 3 + 2 + 1 by omega]
      simp

theorem lcells_drop (L : List Loan) (k : Nat) : lcells (L.drop k) = (lcells L).drop (k * 3) := by
  induction L generalizing k with
  | nil => simp [lcells]
  | cons l r ih =>
    cases k with
    | zero => simp [lcells]
    | succ k =>
      rw [List.drop_succ_cons]
      show lcells (r.drop k) = ([Value.int .i64 l.1, .int .i64 l.2.1, .int .i64 l.2.2] ++ lcells r).drop ((k + 1) * 3)
      rw [ih, show (k + 1) * 3 = k * 3 + 2 + 1 by omega]
      simp

theorem lcells_at (L : List Loan) (k : Nat) (l : Loan) (h : L[k]? = some l) : (lcells L)[k * 3]? = some (.int .i64 l.1) ∧ (lcells L)[k * 3 + 1]? = some (.int .i64 l.2.1) ∧ (lcells L)[k * 3 + 2]? = some (.int .i64 l.2.2) := by
  have e : L = L.take k ++ l :: L.drop (k + 1) := by
    have hk := (List.getElem?_eq_some_iff.1 h).1
    have hl := (List.getElem?_eq_some_iff.1 h).2
    rw [← hl, List.getElem_cons_drop, List.take_append_drop]
  have hk := (List.getElem?_eq_some_iff.1 h).1
  have hlen : (lcells (L.take k)).length = k * 3 := by rw [lcells_length, List.length_take]; omega
  rw [e, lcells_append]
  refine ⟨?_, ?_, ?_⟩
  all_goals
    rw [List.getElem?_append_right (by omega), hlen]
    simp [lcells]

/-- A loan's cells in a row that is owned. -/
theorem loan_cell {w : World} {base : Nat} {t : TypeId} {g cap n : Nat} {L : List Loan} (h : w.ownsRow base t 3 (.slice (some ⟨g, 0, none⟩) n cap) n (lcells L)) (k : Nat) (l : Loan) (hl : L[k]? = some l) :
    w.cell? ⟨g, k * 3, none⟩ = some (.int .i64 l.1) ∧ w.cell? ⟨g, k * 3 + 1, none⟩ = some (.int .i64 l.2.1) ∧ w.cell? ⟨g, k * 3 + 2, none⟩ = some (.int .i64 l.2.2) := by
  have hn := h.1
  rw [lcells_length] at hn
  have hk := (List.getElem?_eq_some_iff.1 hl).1
  obtain ⟨a, b, c⟩ := lcells_at L k l hl
  exact ⟨(h.cellAt _ (by omega)).trans a, (h.cellAt _ (by omega)).trans b, (h.cellAt _ (by omega)).trans c⟩

/-- The first place at which p holds, or -1. -/
def fst (p : Loan → Bool) (L : List Loan) : Int := match L.findIdx? p with | some i => (i : Int) | none => -1

theorem fst_hit (p : Loan → Bool) (L : List Loan) (k : Nat) (l : Loan) (hl : L[k]? = some l) (hp : p l = true) (hb : ∀ j l, j < k → L[j]? = some l → p l = false) : fst p L = k := by
  have hk := (List.getElem?_eq_some_iff.1 hl).1
  have he := (List.getElem?_eq_some_iff.1 hl).2
  have : L.findIdx? p = some k := by
    rw [List.findIdx?_eq_some_iff_getElem]
    refine ⟨hk, by rw [he]; exact hp, fun j hj => by simp [hb j L[j] hj (List.getElem?_eq_getElem (by omega))]⟩
  simp [fst, this]

theorem fst_miss (p : Loan → Bool) (L : List Loan) (hb : ∀ (j : Nat) (l : Loan), L[j]? = some l → p l = false) : fst p L = -1 := by
  have : L.findIdx? p = none := by
    rw [List.findIdx?_eq_none_iff]
    intro l hl
    obtain ⟨j, hj⟩ := List.mem_iff_getElem?.1 hl
    simp [hb j l hj]
  simp [fst, this]

set_option maxHeartbeats 1000000 in
theorem idx_any (g : Nat) (q : Addr) (p : Loan → Bool) (ov : Value) (L : List Loan) (w : World) (base : Nat) (hown : w.ownsRow base 65 3 ov L.length (lcells L)) (hL : L.length ≤ 1000000)
    (eg : ∀ args w, (callFunc g args).run Try.prog w = .ok (.enter g args) w)
    (hp : ∀ (W : World) (l : Loan), l ∈ L → Below w.heap.size w W → Calls Try.prog g #[.agg #[.int .i64 l.1, .int .i64 l.2.1, .int .i64 l.2.2], .pointer (some q)] W fun e w' => e = .returned (.bool (p l)) ∧ Below W.heap.size W w') :
    Calls Try.prog 26 #[ov, .func (.func g) #[] #[.pointer (some q)]] w fun e w' => e = .returned (.int .i64 (fst p L)) ∧ Below w.heap.size w w' := by
  have hov : ∃ a c, ov = .slice a L.length c := by
    rcases hown.2 with ⟨rfl, h⟩ | ⟨g, cap, cur, rfl, _⟩
    · exact ⟨none, 0, by rw [h]⟩
    · exact ⟨_, _, rfl⟩
  have HO : Hid (w.ownsRow base 65 3 ov L.length (lcells L)) := hown
  clear hown
  have HP : Hid (∀ (W : World) (l : Loan), l ∈ L → Below w.heap.size w W → Calls Try.prog g #[.agg #[.int .i64 l.1, .int .i64 l.2.1, .int .i64 l.2.2], .pointer (some q)] W fun e w' => e = .returned (.bool (p l)) ∧ Below W.heap.size W w') := hp
  clear hp
  obtain ⟨a, c, rfl⟩ := hov
  go_enter Try.func26, Try.ntmps26
  go_wp2_with fail
  go_loopw [5, 8] (fun _ i wr => ∃ k : Nat, k ≤ L.length ∧ i = .int .i64 k ∧ Below w.heap.size w wr ∧ Hid (∀ j l, j < k → L[j]? = some l → p l = false)) (fun _ i _ => L.length - (intOf i).toNat)
  case atStart => exact ⟨0, Nat.zero_le _, rfl, Below.refl _ _, fun j l hj => by omega⟩
  case round =>
    obtain ⟨k, hk, rfl, hb, hpre⟩ := hrel
    by_cases hlt : k < L.length
    · obtain ⟨gb, hv⟩ : ∃ g, a = some ⟨g, 0, none⟩ := by
        rcases HO.out.2 with ⟨h, h2⟩ | ⟨g, cap, cur, h, _⟩
        · omega
        · simp at h; exact ⟨g, h.1⟩
      subst hv
      have hl : L[k]? = some L[k] := List.getElem?_eq_getElem hlt
      obtain ⟨c0, c1, c2⟩ := loan_cell HO.out k _ hl
      have hcall := HP.out wr L[k] (List.getElem_mem hlt) hb
      have HK : ∃ l, Hid (L[k] = l) := ⟨_, rfl⟩
      obtain ⟨l, HK⟩ := HK
      rw [HK.out] at c0 c1 c2 hcall hl
      have HL : Hid (L[k]? = some l) := hl
      clear hl
      have d0 := (hb.cell (lt_of_cell c0)).trans c0
      have d1 := (hb.cell (lt_of_cell c1)).trans c1
      have d2 := (hb.cell (lt_of_cell c2)).trans c2
      clear c0 c1 c2
      have hsp : (k : Int) < (L.length : Int) := by omega
      have HC := hcall
      clear hcall
      cases hpl : p l with
      | true =>
        rw [hpl] at HC
        go_wp2_with (go_at_fn g; refine HC.mono ?_; rintro e w' ⟨rfl, hb'⟩)
        go_ret
        exact ⟨ret_int (fst_hit p L k l HL.out hpl hpre).symm, hb.trans (hb'.mono hb.size)⟩
      | false =>
        rw [hpl] at HC
        go_wp2_with (go_at_fn g; refine HC.mono ?_; rintro e w' ⟨rfl, hb'⟩)
        go_roundw
        case rel =>
          refine ⟨k + 1, hlt, by go_num, hb.trans (hb'.mono hb.size), fun j l' hj hl' => ?_⟩
          by_cases e : j = k
          · subst e
            have := HL.out
            rw [this] at hl'
            cases hl'
            exact hpl
          · exact hpre j l' (by omega) hl'
        case measure => simp [intOf]; omega
    · go_wp2_with fail
      go_ret
      exact ⟨ret_int (fst_miss p L (fun j l hj => hpre j l (by have := (List.getElem?_eq_some_iff.1 hj).1; omega) hj)).symm, hb⟩

theorem enter27 : ∀ args w, (callFunc 27 args).run Try.prog w = .ok (.enter 27 args) w := fun _ _ => by kernel_rfl
theorem enter31 : ∀ args w, (callFunc 31 args).run Try.prog w = .ok (.enter 31 args) w := fun _ _ => by kernel_rfl

set_option maxHeartbeats 400000 in
theorem back1_any (i a n : Int) (q : Nat) (id : Int) (w : World) (h : w.cell? ⟨q, 0, none⟩ = some (.int .i64 id)) :
    Calls Try.prog 27 #[.agg #[.int .i64 i, .int .i64 a, .int .i64 n], .pointer (some ⟨q, 0, none⟩)] w fun e w' => e = .returned (.bool (i == id)) ∧ Below w.heap.size w w' := by
  have hlt : q < w.heap.size := lt_of_cell h
  go_enter Try.func27, Try.ntmps27
  go_wp2_with fail
  go_ret
  exact ⟨rfl, (Below.refl _ _).alloc (Nat.le_refl _) _⟩

set_option maxHeartbeats 400000 in
theorem busy1_any (i x y : Int) (q : Nat) (u v : Int) (w : World) (h : w.cell? ⟨q, 0, none⟩ = some (.int .i64 u)) (h' : w.cell? ⟨q, 1, none⟩ = some (.int .i64 v))
    (h0 : 0 ≤ x) (h1 : 0 ≤ y) (h2 : x + y ≤ 140737488355328) (g0 : 0 ≤ u) (g1 : 0 ≤ v) (g2 : u + v ≤ 140737488355328) :
    Calls Try.prog 31 #[.agg #[.int .i64 i, .int .i64 x, .int .i64 y], .pointer (some ⟨q, 0, none⟩)] w fun e w' => e = .returned (.bool (mt x y u v)) ∧ Below w.heap.size w w' := by
  have hlt : q < w.heap.size := lt_of_cell h
  go_enter Try.func31, Try.ntmps31
  go_wp2_with fail
  refine (meet_any x y u v _ h0 h1 h2 g0 g1 g2).mono ?_
  rintro e w1 ⟨rfl, b1⟩
  have b2 : Below w.heap.size w w1 := ((Below.refl _ _).alloc (Nat.le_refl _) _).trans (b1.mono (by simp))
  clear b1
  go_wp2_with fail
  go_ret
  exact ⟨rfl, b2⟩

set_option maxHeartbeats 400000 in
theorem has_any (g : Nat) (q : Addr) (p : Loan → Bool) (ov : Value) (L : List Loan) (w : World) (base : Nat) (hown : w.ownsRow base 65 3 ov L.length (lcells L)) (hL : L.length ≤ 1000000)
    (eg : ∀ args w, (callFunc g args).run Try.prog w = .ok (.enter g args) w)
    (hp : ∀ (W : World) (l : Loan), l ∈ L → Below w.heap.size w W → Calls Try.prog g #[.agg #[.int .i64 l.1, .int .i64 l.2.1, .int .i64 l.2.2], .pointer (some q)] W fun e w' => e = .returned (.bool (p l)) ∧ Below W.heap.size W w') :
    Calls Try.prog 30 #[ov, .func (.func g) #[] #[.pointer (some q)]] w fun e w' => e = .returned (.bool (L.any p)) ∧ Below w.heap.size w w' := by
  have key := idx_any g q p ov L w base hown hL eg hp
  have hov : ∃ a c, ov = .slice a L.length c := by
    rcases hown.2 with ⟨rfl, h⟩ | ⟨g, cap, cur, rfl, _⟩
    · exact ⟨none, 0, by rw [h]⟩
    · exact ⟨_, _, rfl⟩
  obtain ⟨a, c, rfl⟩ := hov
  have hf : decide (0 ≤ fst p L) = L.any p := by
    unfold fst
    cases e : L.findIdx? p with
    | none =>
      rw [List.findIdx?_eq_none_iff] at e
      simp only [show ¬ (0 : Int) ≤ -1 by omega, decide_false]
      symm
      rw [List.any_eq_false]
      intro x hx
      simp [e x hx]
    | some i =>
      rw [List.findIdx?_eq_some_iff_getElem] at e
      obtain ⟨hi, hpi, _⟩ := e
      simp only [show (0 : Int) ≤ (i : Int) by omega, decide_true]
      symm
      rw [List.any_eq_true]
      exact ⟨L[i], List.getElem_mem hi, hpi⟩
  have HF : Hid (decide (0 ≤ fst p L) = L.any p) := hf
  clear hf hown hp
  generalize fst p L = r at key HF
  generalize L.any p = bb at HF
  go_enter Try.func30, Try.ntmps30
  go_wp2_with fail
  refine key.mono ?_
  rintro e w1 ⟨rfl, b1⟩
  go_wp2_with fail
  go_ret
  exact ⟨ret_bool HF.out, b1⟩
end Go.Proofs.Ytnpcglgboemmcaa
