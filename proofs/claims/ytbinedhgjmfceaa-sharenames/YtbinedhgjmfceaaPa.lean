/- A packet of package packet in memory (Raw, PkIs); contracts of isNone, Data, Len, Room, Moves. -/
import Derived.Test.YtbinedhgjmfceaaBc
import Derived.Test.YtbinedhgjmfceaaBw
import Derived.Lib.SliceRun
import Derived.WalkLawsBesides
namespace Go.Proofs.Ytbinedhgjmfceaa
open Go.ChangeShapes Go.WideShapes Go.ChangeAt Go.RowKit

/-- The struct at block p: a piece of n bytes at block g, the bytes from a to e, m moves. -/
structure Raw (w : World) (p g n a e m : Nat) : Prop where
  box : w.heap[p]? = some (.cells #[.slice (some ⟨g, 0, none⟩) n n, .int .i64 a, .int .i64 e, .int .i64 m] 81 (0, 0))
  ae : a ≤ e
  en : e ≤ n
  big : n ≤ 4096

theorem Raw.lt {w : World} {p g n a e m : Nat} (h : Raw w p g n a e m) : p < w.heap.size := (Array.getElem?_eq_some_iff.1 h.box).1
theorem Raw.cell {w : World} {p g n a e m : Nat} (h : Raw w p g n a e m) :
    w.cell? ⟨p, 0, none⟩ = some (.slice (some ⟨g, 0, none⟩) n n) ∧ w.cell? ⟨p, 1, none⟩ = some (.int .i64 a) ∧ w.cell? ⟨p, 2, none⟩ = some (.int .i64 e) ∧ w.cell? ⟨p, 3, none⟩ = some (.int .i64 m) ∧ ∀ j, w.frozen? ⟨p, j, none⟩ = false :=
  ⟨cell_of_row w p 0 _ _ _ h.box, cell_of_row w p 1 _ _ _ h.box, cell_of_row w p 2 _ _ _ h.box, cell_of_row w p 3 _ _ _ h.box, fun j => frozen_of_row w p j _ _ h.box⟩

theorem Raw.dr {w w' : World} {p g n a e m : Nat} (h : Raw w p g n a e m) (d : Dr w w') : Raw w' p g n a e m := ⟨by rw [d.heap]; exact h.box, h.ae, h.en, h.big⟩

theorem nil_no (x : Addr) (n c : Nat) : ∀ u : World, (binOp .eql 22 (.slice (some x) n c) (.slice none 0 0)).run Try.prog u = .ok (.bool false) u :=
  fun u => Go.Lib.run_eql_slice_nil u _ _ (some x) n c 0 0 Try.underlying22
theorem nil_yes (n c : Nat) : ∀ u : World, (binOp .eql 22 (.slice none n c) (.slice none 0 0)).run Try.prog u = .ok (.bool true) u :=
  fun u => Go.Lib.run_eql_slice_nil u _ _ none n c 0 0 Try.underlying22

set_option maxHeartbeats 400000 in
theorem isNone_no (p : Nat) (x : Addr) (n c : Nat) (w : World) (h : w.cell? ⟨p, 0, none⟩ = some (.slice (some x) n c)) :
    Calls Try.prog 52 #[.pointer (some ⟨p, 0, none⟩)] w fun e w' => e = .returned (.bool false) ∧ w = w' := by
  have hq := nil_no x n c
  go_enter Try.func52, Try.ntmps52
  go_wp2_with fail
  go_ret
  exact ⟨rfl, rfl⟩

/-- A packet that is none. -/
def NoPk (w : World) (v : Value) : Prop := v = .pointer none ∨ ∃ p, v = .pointer (some ⟨p, 0, none⟩) ∧ w.cell? ⟨p, 0, none⟩ = some (.slice none 0 0)

theorem NoPk.dr {w w' : World} {v : Value} (h : NoPk w v) (d : Dr w w') : NoPk w' v := by
  rcases h with h | ⟨p, h, hc⟩
  · exact .inl h
  · exact .inr ⟨p, h, (d.cell _).trans hc⟩

set_option maxHeartbeats 400000 in
theorem isNone_yes (v : Value) (w : World) (h : NoPk w v) :
    Calls Try.prog 52 #[v] w fun e w' => e = .returned (.bool true) ∧ w = w' := by
  have hq := nil_yes 0 0
  rcases h with rfl | ⟨p, rfl, hc⟩
  · go_enter Try.func52, Try.ntmps52
    go_wp2_with fail
    go_ret
    exact ⟨rfl, rfl⟩
  · go_enter Try.func52, Try.ntmps52
    go_wp2_with fail
    go_ret
    exact ⟨rfl, rfl⟩

/-- Where Data's slice begins. -/
def dOff (a e : Nat) : Nat := if e = a then 0 else a

set_option maxHeartbeats 400000 in
theorem data_raw (p g n a e m : Nat) (w : World) (h : Raw w p g n a e m) :
    Calls Try.prog 37 #[.pointer (some ⟨p, 0, none⟩)] w fun x w' => x = .returned (.slice (some ⟨g, dOff a e, none⟩) (e - a) (e - a)) ∧ Dr w w' := by
  obtain ⟨q0, q1, q2, q3, fz⟩ := h.cell
  have h1 := h.ae
  have h2 := h.en
  have h3 := h.big
  clear fz q3 h
  unfold dOff
  go_enter Try.func37, Try.ntmps37
  go_wp2_with fail
  refine (isNone_no p _ _ _ w q0).mono ?_
  rintro x w1 ⟨rfl, rfl⟩
  by_cases hae : e = a
  · subst hae
    go_wp2_with fail
    go_quiet (fail)
    go_wp2_with fail
    go_ret
    exact ⟨by simp, _, rfl⟩
  · have hae' : ¬ a = e := fun h => hae h.symm
    go_wp2_with fail
    go_quiet (fail)
    go_wp2_with fail
    go_ret
    exact ⟨by simp, _, rfl⟩

set_option maxHeartbeats 400000 in
theorem data_no (v : Value) (w : World) (h : NoPk w v) :
    Calls Try.prog 37 #[v] w fun x w' => x = .returned (.slice none 0 0) ∧ w = w' := by
  go_enter Try.func37, Try.ntmps37
  go_wp2_with fail
  refine (isNone_yes v w h).mono ?_
  rintro x w1 ⟨rfl, rfl⟩
  go_wp2_with fail
  go_ret
  exact ⟨rfl, rfl⟩

set_option maxHeartbeats 400000 in
theorem len_raw (p g n a e m : Nat) (w : World) (h : Raw w p g n a e m) :
    Calls Try.prog 47 #[.pointer (some ⟨p, 0, none⟩)] w fun x w' => x = .returned (.int .i64 ((e - a : Nat) : Int)) ∧ Dr w w' := by
  have H := Hid.mk' h
  clear h
  go_enter Try.func47, Try.ntmps47
  go_wp2_with fail
  refine (data_raw p g n a e m w H.out).mono ?_
  rintro x w1 ⟨rfl, d1⟩
  go_wp2_with fail
  go_ret
  exact ⟨rfl, d1⟩

set_option maxHeartbeats 400000 in
theorem len_no (v : Value) (w : World) (h : NoPk w v) :
    Calls Try.prog 47 #[v] w fun x w' => x = .returned (.int .i64 0) ∧ w = w' := by
  go_enter Try.func47, Try.ntmps47
  go_wp2_with fail
  refine (data_no v w h).mono ?_
  rintro x w1 ⟨rfl, rfl⟩
  go_wp2_with fail
  go_ret
  exact ⟨rfl, rfl⟩

set_option maxHeartbeats 400000 in
theorem moves_raw (p g n a e m : Nat) (w : World) (h : Raw w p g n a e m) :
    Calls Try.prog 31 #[.pointer (some ⟨p, 0, none⟩)] w fun x w' => x = .returned (.int .i64 m) ∧ w = w' := by
  obtain ⟨q0, q1, q2, q3, fz⟩ := h.cell
  clear fz q1 q2 h
  go_enter Try.func31, Try.ntmps31
  go_wp2_with fail
  refine (isNone_no p _ _ _ w q0).mono ?_
  rintro x w1 ⟨rfl, rfl⟩
  go_wp2_with fail
  go_ret
  exact ⟨rfl, rfl⟩

set_option maxHeartbeats 400000 in
theorem moves_no (v : Value) (w : World) (h : NoPk w v) :
    Calls Try.prog 31 #[v] w fun x w' => x = .returned (.int .i64 0) ∧ w = w' := by
  go_enter Try.func31, Try.ntmps31
  go_wp2_with fail
  refine (isNone_yes v w h).mono ?_
  rintro x w1 ⟨rfl, rfl⟩
  go_wp2_with fail
  go_ret
  exact ⟨rfl, rfl⟩
end Go.Proofs.Ytbinedhgjmfceaa
