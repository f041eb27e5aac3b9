/- The document's own book (sallyportref02) in memory, and the contracts of its calls. -/
import Derived.Test.YtnpcglgboemmcaaLk
namespace Go.Proofs.Ytnpcglgboemmcaa
open Go.ChangeShapes Go.WideShapes Go.ChangeAt Go.RowKit

/-- The document's book at block q: n bytes, all ranges R ever lent, and which of them are out. -/
structure RefIs (w : World) (q n : Nat) (av iv : Value) (R : List Rg) (F : List Bool) : Prop where
  box : w.heap[q]? = some (.cells #[.int .i64 n, av, iv] 62 (0, 0))
  rowR : w.ownsRow (q + 1) 24 2 av R.length (rcells R)
  rowF : w.ownsRow (q + 1) 4 1 iv R.length (F.map Value.bool)
  apart : ∀ g, av.ownBlock = some g → iv.ownBlock ≠ some g
  most : R.length ≤ 1000
  ins : ∀ r ∈ R, 0 ≤ r.1 ∧ 0 ≤ r.2 ∧ r.1 + r.2 ≤ n
  big : n ≤ 140737488355328

def refS (q : Nat) (av iv : Value) : Nat → Prop := fun k => k = q ∨ av.ownBlock = some k ∨ iv.ownBlock = some k

theorem RefIs.len {w : World} {q n : Nat} {av iv : Value} {R : List Rg} {F : List Bool} (h : RefIs w q n av iv R F) : F.length = R.length := by
  have := h.rowF.1; simpa using this
theorem RefIs.lt {w : World} {q n : Nat} {av iv : Value} {R : List Rg} {F : List Bool} (h : RefIs w q n av iv R F) : q < w.heap.size := (Array.getElem?_eq_some_iff.1 h.box).1
theorem RefIs.cell {w : World} {q n : Nat} {av iv : Value} {R : List Rg} {F : List Bool} (h : RefIs w q n av iv R F) :
    w.cell? ⟨q, 0, none⟩ = some (.int .i64 n) ∧ w.cell? ⟨q, 1, none⟩ = some av ∧ w.cell? ⟨q, 2, none⟩ = some iv ∧ ∀ j, w.frozen? ⟨q, j, none⟩ = false :=
  ⟨cell_of_row w q 0 _ _ _ h.box, cell_of_row w q 1 _ _ _ h.box, cell_of_row w q 2 _ _ _ h.box, fun j => frozen_of_row w q j _ _ h.box⟩
theorem RefIs.kept {w w' : World} {q n : Nat} {av iv : Value} {R : List Rg} {F : List Bool} {S : Nat → Prop} (h : RefIs w q n av iv R F) (k : Kept S w w') (hs : ∀ i, refS q av iv i → ¬ S i) : RefIs w' q n av iv R F :=
  ⟨by rw [k.block q h.lt (hs q (.inl rfl))]; exact h.box, Kept.owns h.rowR k (fun g hg => hs g (.inr (.inl hg))), Kept.owns h.rowF k (fun g hg => hs g (.inr (.inr hg))), h.apart, h.most, h.ins, h.big⟩
theorem RefIs.below {w w' : World} {q n : Nat} {av iv : Value} {R : List Rg} {F : List Bool} (h : RefIs w q n av iv R F) (k : Below w.heap.size w w') : RefIs w' q n av iv R F :=
  h.kept (Kept.of_below (S := fun _ => False) k) (fun _ _ h => h)
theorem RefIs.above {w : World} {q n : Nat} {av iv : Value} {R : List Rg} {F : List Bool} (h : RefIs w q n av iv R F) {k : Nat} (hk : k < q) : ¬ refS q av iv k := by
  rintro (rfl | e | e)
  · omega
  · have := (h.rowR.lt k e).1; omega
  · have := (h.rowF.lt k e).1; omega
theorem RefIs.slt {w : World} {q n : Nat} {av iv : Value} {R : List Rg} {F : List Bool} (h : RefIs w q n av iv R F) {k : Nat} (hk : refS q av iv k) : k < w.heap.size := by
  rcases hk with rfl | e | e
  · exact h.lt
  · exact (h.rowR.lt k e).2
  · exact (h.rowF.lt k e).2

set_option maxHeartbeats 400000 in
theorem refnew_any (a : Option Addr) (n c : Nat) (w : World) :
    Calls Try.prog 15 #[.slice a n c] w fun e w' => e = .returned (.pointer (some ⟨w.heap.size, 0, none⟩)) ∧ w' = w.alloc (.cells #[.int .i64 n, .slice none 0 0, .slice none 0 0] 62) := by
  go_enter Try.func15, Try.ntmps15
  go_wp2_with fail
  go_ret
  exact ⟨rfl, rfl⟩

theorem refIs_new (w : World) (n : Nat) (hn : n ≤ 140737488355328) : RefIs (w.alloc (.cells #[.int .i64 n, .slice none 0 0, .slice none 0 0] 62)) w.heap.size n (.slice none 0 0) (.slice none 0 0) [] [] :=
  ⟨Go.heap_alloc_new w _, World.ownsRow_nil _ _ _ _, World.ownsRow_nil _ _ _ _, (fun g h => by simp [Value.ownBlock] at h), by simp, by simp, hn⟩

/-- A mark in a row. -/
theorem mark_cell {w : World} {base : Nat} {t : TypeId} {g cap n : Nat} {F : List Bool} (h : w.ownsRow base t 1 (.slice (some ⟨g, 0, none⟩) n cap) n (F.map Value.bool)) (k : Nat) (b : Bool) (hb : F[k]? = some b) :
    w.cell? ⟨g, k, none⟩ = some (.bool b) := by
  have hn := h.1
  simp at hn
  have hk := (List.getElem?_eq_some_iff.1 hb).1
  rw [h.cellAt k (by omega), List.getElem?_map, hb]; rfl

/-- Is a window with this number out? -/
def isOut (F : List Bool) (id : Int) : Bool := decide (0 ≤ id) && F.getD id.toNat false

set_option maxHeartbeats 1000000 in
theorem refback_any (q n : Nat) (av iv : Value) (R : List Rg) (F : List Bool) (id : Int) (w : World) (h : RefIs w q n av iv R F) :
    Calls Try.prog 17 #[.pointer (some ⟨q, 0, none⟩), .int .i64 id] w fun e w' => e = .returned (.int .i64 (if isOut F id then 0 else 22)) ∧ RefIs w' q n av iv R (if isOut F id then F.set id.toNat false else F) ∧ Kept (refS q av iv) w w' := by
  obtain ⟨c0, c1, c2, fz⟩ := h.cell
  have hlen := h.len
  have hmost := h.most
  obtain ⟨aa, ac, rfl⟩ := own_slice h.rowR
  obtain ⟨ia, ic, rfl⟩ := own_slice h.rowF
  have HR := Hid.mk' h
  have HL := Hid.mk' hlen
  clear h hlen
  by_cases h0 : id < 0
  · have e0 : isOut F id = false := by simp [isOut]; omega
    rw [e0]
    go_enter Try.func17, Try.ntmps17
    go_wp2_with fail
    go_ret
    exact ⟨rfl, HR.out, Kept.refl _ _⟩
  · obtain ⟨k, rfl⟩ : ∃ k : Nat, id = k := ⟨id.toNat, by omega⟩
    by_cases h1 : k < R.length
    · obtain ⟨b, hkF⟩ : ∃ b, F[k]? = some b := ⟨_, List.getElem?_eq_getElem (by rw [HL.out]; exact h1)⟩
      obtain ⟨g, hg⟩ : ∃ g, ia = some ⟨g, 0, none⟩ := by
        rcases HR.out.rowF.2 with ⟨_, h2⟩ | ⟨g, cap, cur, h, _⟩
        · omega
        · simp at h; exact ⟨g, h.1⟩
      subst hg
      have hm := mark_cell HR.out.rowF k b hkF
      have hf : w.frozen? ⟨g, k, none⟩ = false := HR.out.rowF.frozenAt k
      have e0 : isOut F (k : Int) = b := by simp [isOut, List.getD, hkF]
      rw [e0]
      have hsp : (k : Int) < (R.length : Int) := by omega
      cases b with
      | false =>
        go_enter Try.func17, Try.ntmps17
        go_wp2_with fail
        go_ret
        exact ⟨rfl, HR.out, Kept.refl _ _⟩
      | true =>
        have HK : Hid (Kept (refS q (.slice aa R.length ac) (.slice (some ⟨g, 0, none⟩) R.length ic)) w (w.setCell ⟨g, k, none⟩ (.bool false))) := (Kept.refl _ w).setCell (fun _ => .inr (.inr rfl)) _
        have HX : Hid (RefIs (w.setCell ⟨g, k, none⟩ (.bool false)) q n (.slice aa R.length ac) (.slice (some ⟨g, 0, none⟩) R.length ic) R (F.set k false)) := by
          have hgq : g ≠ q := by have := (HR.out.rowF.lt g rfl).1; omega
          refine ⟨?_, ?_, ?_, HR.out.apart, HR.out.most, HR.out.ins, HR.out.big⟩
          · rw [Below.heap_setCell _ _ _ _ (fun e => hgq e.symm)]; exact HR.out.box
          · refine HR.out.rowR.kept (row := some g) ⟨rfl, rfl, rfl, by simp [World.setCell], fun k hk hn => Below.heap_setCell _ _ _ _ (fun e => hn (by rw [e]))⟩ ?_
            cases hv : (Value.slice aa R.length ac).ownBlock with
            | none => exact .inl rfl
            | some g' =>
              refine .inr (fun e => HR.out.apart g' hv ?_)
              rw [e]; rfl
          · have := (HR.out.rowF.stored k (.bool false)).1
            rw [List.map_set]; exact this
        have h0' : ¬ (k : Int) < 0 := by omega
        clear HL
        go_enter Try.func17, Try.ntmps17
        go_wp2_with fail
        go_ret
        exact ⟨rfl, HX.out, HK.out⟩
    · have e0 : isOut F (k : Int) = false := by
        have : F[k]? = none := by rw [List.getElem?_eq_none_iff, HL.out]; omega
        simp [isOut, List.getD, this]
      rw [e0]
      go_enter Try.func17, Try.ntmps17
      go_wp2_with fail
      go_ret
      exact ⟨rfl, HR.out, Kept.refl _ _⟩
end Go.Proofs.Ytnpcglgboemmcaa
