/- What LeaseApart and LeaseBooks share: the cells of a list of calls (Do); Back in one contract; lists of loans that do not meet. -/
import Derived.Test.YtnpcglgboemmcaaLi
import Derived.Test.YtnpcglgboemmcaaSp
import Derived.Test.YtnpcglgboemmcaaBi
namespace Go.Proofs.Ytnpcglgboemmcaa
open Go.ChangeShapes Go.WideShapes Go.ChangeAt Go.RowKit

theorem keep_name' {P : Program} {f : Nat} {args : Array Value} {w : World} {R : Ending → Prop} (h : Calls P f args w fun e w' => R e ∧ w' = w) : Calls P f args w fun e w' => R e ∧ w = w' :=
  h.mono fun _ _ ⟨a, b⟩ => ⟨a, b.symm⟩

theorem bring_at (i m : Int) (n : Nat) (w : World) (hm : m = (n : Int)) (h0 : 0 < n) (h1 : n ≤ 140737488355328) (hi : -9223372036854775808 ≤ i) (hi' : i ≤ 9223372036854775807) :
    Calls Try.prog 23 #[.int .i64 i, .int .i64 m] w fun e w' => (∃ r : Nat, r < n ∧ e = .returned (.int .i64 r)) ∧ w = w' := by
  subst hm
  exact keep_name' (bring_any i n w h0 h1 hi hi')

abbrev DoM := Bool × Int × Int × Int

theorem do_cells {W : World} {a : Option Addr} {c : Nat} {xs : List DoM} (h : SlOk sh40 W a c xs) (i : Nat) (hi : i < xs.length) :
    ∃ (b off : Nat) (bk : Bool) (id x y : Int), a = some ⟨b, off, none⟩ ∧ xs[i]? = some (bk, id, x, y) ∧ W.cell? ⟨b, off + i * 4, none⟩ = some (.bool bk) ∧ W.cell? ⟨b, off + i * 4 + 1, none⟩ = some (.int .i64 id) ∧
      W.cell? ⟨b, off + i * 4 + 2, none⟩ = some (.int .i64 x) ∧ W.cell? ⟨b, off + i * 4 + 3, none⟩ = some (.int .i64 y) ∧ b < W.heap.size ∧
      (-9223372036854775808 ≤ id ∧ id ≤ 9223372036854775807) ∧ (-9223372036854775808 ≤ x ∧ x ≤ 9223372036854775807) ∧ (-9223372036854775808 ≤ y ∧ y ≤ 9223372036854775807) := by
  obtain ⟨_, h2, h3⟩ := h
  rcases h2 with h0 | ⟨b, off, rfl, hc⟩
  · exact absurd hi (by rw [show xs.length = 0 from h0]; omega)
  · have hx : xs[i]? = some xs[i] := List.getElem?_eq_getElem hi
    generalize xs[i] = m at hx
    obtain ⟨bk, id, x, y⟩ := m
    have k := hc i (bk, id, x, y) hx
    have c0 := k 0 (.bool bk) rfl
    have o := h3 (bk, id, x, y) (List.mem_of_getElem? hx)
    exact ⟨b, off, bk, id, x, y, rfl, hx, c0, k 1 (.int .i64 id) rfl, k 2 (.int .i64 x) rfl, k 3 (.int .i64 y) rfl, lt_of_cell c0, bounds_i64 o.2.1, bounds_i64 o.2.2.1, bounds_i64 o.2.2.2⟩

/-- Back, whatever the number: what is left of the loans. -/
def backL (L : List Loan) (id : Int) : List Loan := match L.findIdx? (fun l => l.1 == id) with | some k => L.eraseIdx k | none => L
def backE (L : List Loan) (id : Int) : Int := if hasId L id then 0 else 22

theorem back_any (p : Nat) (a : Option Addr) (n c nx : Nat) (ov : Value) (L : List Loan) (id : Int) (w : World) (h : BookIs w p a n c nx ov L) :
    Calls Try.prog 16 #[.pointer (some ⟨p, 0, none⟩), .int .i64 id] w fun e w' => e = .returned (.int .i64 (backE L id)) ∧ ∃ ov', BookIs w' p a n c nx ov' (backL L id) ∧ Kept (bookS p ov) w w' ∧ ov'.ownBlock = ov.ownBlock := by
  cases hf : L.findIdx? (fun l => l.1 == id) with
  | none =>
    rw [List.findIdx?_eq_none_iff] at hf
    have h1 : hasId L id = false := by
      unfold hasId; rw [List.any_eq_false]; intro x hx; simpa using hf x hx
    refine (back_no p a n c nx ov L id w h (fun l hl => by simpa using hf l hl)).mono ?_
    rintro e w' ⟨rfl, b⟩
    refine ⟨by simp [backE, h1], ov, ?_, Kept.of_below b, rfl⟩
    have : backL L id = L := by
      unfold backL
      rw [List.findIdx?_eq_none_iff.2 hf]
    rw [this]
    exact h.below b
  | some k =>
    have hf' := hf
    rw [List.findIdx?_eq_some_iff_getElem] at hf
    obtain ⟨hk, hp, hb⟩ := hf
    have h1 : hasId L id = true := by
      unfold hasId; rw [List.any_eq_true]; exact ⟨L[k], List.getElem_mem hk, hp⟩
    refine (back_yes p a n c nx ov L id w h k L[k] (List.getElem?_eq_getElem hk) (by simpa using hp) (fun j l hj hl => ?_)).mono ?_
    · have := hb j hj
      have he := (List.getElem?_eq_some_iff.1 hl).2
      rw [he] at this
      simpa using this
    · rintro e w' ⟨rfl, ov', b, k1, k2⟩
      refine ⟨by simp [backE, h1], ov', ?_, k1, k2⟩
      have : backL L id = L.eraseIdx k := by unfold backL; rw [hf']
      rw [this]
      exact b

theorem backL_sub (L : List Loan) (id : Int) : (backL L id).Sublist L := by
  unfold backL
  split
  · exact List.eraseIdx_sublist _ _
  · exact List.Sublist.refl _

/-- No two loans of a list meet. -/
def Apart (L : List Loan) : Prop := L.Pairwise fun l l' => mt l.2.1 l.2.2 l'.2.1 l'.2.2 = false

theorem Apart.back {L : List Loan} (h : Apart L) (id : Int) : Apart (backL L id) := List.Pairwise.sublist (backL_sub L id) h
theorem Apart.snoc {L : List Loan} (h : Apart L) (l : Loan) (hb : (L.any fun k => mt k.2.1 k.2.2 l.2.1 l.2.2) = false) : Apart (L ++ [l]) := by
  unfold Apart
  rw [List.pairwise_append]
  refine ⟨h, by simp, fun x hx y hy => ?_⟩
  simp at hy
  subst hy
  rw [List.any_eq_false] at hb
  simpa using hb x hx
end Go.Proofs.Ytnpcglgboemmcaa
