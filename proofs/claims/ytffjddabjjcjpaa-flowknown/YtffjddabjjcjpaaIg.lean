/- Writes of both sides; EqInts; slices of whole numbers of the call's own; what slices.Sort and slices.Compact make of at most two. -/
import Derived.Test.YtffjddabjjcjpaaId
import Derived.Test.YtffjddabjjcjpaaShelf
namespace Go.Proofs.Ytffjddabjjcjpaa
open Go.ChangeShapes Go.WideShapes Go.ChangeAt Go.RowKit Go.Sort
set_option maxRecDepth 10000

/-- The register that is written, and whether one is. -/
def wrB (b : Bool) (p : Int) : Bool := b && (decide (p ≤ 18) || decide (p = 21) || decide (p = 35))
def wrN (b : Bool) (p d : Int) : Int := if b && (decide (p ≤ 18) || decide (p = 21)) then d else 0

theorem use2 (p : Int) (h1 : 1 ≤ p) (h2 : p ≤ 36) (h : p ≠ 35) : (useN p &&& 2 ≠ 0) ↔ (p ≤ 18 ∨ p = 21) := by
  have : p = 1 ∨ p = 2 ∨ p = 3 ∨ p = 4 ∨ p = 5 ∨ p = 6 ∨ p = 7 ∨ p = 8 ∨ p = 9 ∨ p = 10 ∨ p = 11 ∨ p = 12 ∨ p = 13 ∨ p = 14 ∨ p = 15 ∨ p = 16 ∨ p = 17 ∨ p = 18 ∨ p = 19 ∨ p = 20 ∨ p = 21 ∨ p = 22 ∨ p = 23 ∨ p = 24 ∨ p = 25 ∨ p = 26 ∨ p = 27 ∨ p = 28 ∨ p = 29 ∨ p = 30 ∨ p = 31 ∨ p = 32 ∨ p = 33 ∨ p = 34 ∨ p = 36 := by omega
  rcases this with rfl | rfl | rfl | rfl | rfl | rfl | rfl | rfl | rfl | rfl | rfl | rfl | rfl | rfl | rfl | rfl | rfl | rfl | rfl | rfl | rfl | rfl | rfl | rfl | rfl | rfl | rfl | rfl | rfl | rfl | rfl | rfl | rfl | rfl | rfl <;> decide

theorem may_p {p d s o i : Int} (h : mayB p d s o i = true) : 1 ≤ p ∧ p ≤ 36 := by
  unfold mayB okN at h
  simp only [Bool.and_eq_true, decide_eq_true_eq] at h
  exact h.1

/-- The five cells of an instruction that was boxed, behind a call that keeps them. -/
theorem cells5 {w w' : World} {c0 c1 c2 c3 c4 : Value} {t : TypeId} (hb : Below (w.alloc (.cells #[c0, c1, c2, c3, c4] t)).heap.size (w.alloc (.cells #[c0, c1, c2, c3, c4] t)) w') :
    Below w.heap.size w w' ∧ w'.cell? ⟨w.heap.size, 0, none⟩ = some c0 ∧ w'.cell? ⟨w.heap.size, 1, none⟩ = some c1 ∧ w'.cell? ⟨w.heap.size, 2, none⟩ = some c2 ∧ w'.cell? ⟨w.heap.size, 3, none⟩ = some c3 ∧ w'.cell? ⟨w.heap.size, 4, none⟩ = some c4 := by
  refine ⟨((Below.refl _ _).alloc (Nat.le_refl _) _).trans (hb.mono (by simp)), ?_, ?_, ?_, ?_, ?_⟩
  · exact (hb.cell (p := ⟨w.heap.size, 0, none⟩) (by simp)).trans (World.cell?_alloc_new _ _ _ _)
  · exact (hb.cell (p := ⟨w.heap.size, 1, none⟩) (by simp)).trans (World.cell?_alloc_new _ _ _ _)
  · exact (hb.cell (p := ⟨w.heap.size, 2, none⟩) (by simp)).trans (World.cell?_alloc_new _ _ _ _)
  · exact (hb.cell (p := ⟨w.heap.size, 3, none⟩) (by simp)).trans (World.cell?_alloc_new _ _ _ _)
  · exact (hb.cell (p := ⟨w.heap.size, 4, none⟩) (by simp)).trans (World.cell?_alloc_new _ _ _ _)



/-- A slice of whole numbers that can be read and written: it lies in a block from 'base' on. -/
structure Iw (w : World) (base : Nat) (v : Value) (zs : List Int) : Prop where
  lies : ∃ a c, v = .slice a zs.length c ∧ (zs = [] ∨ ∃ b off, a = some ⟨b, off, none⟩ ∧ base ≤ b ∧ b < w.heap.size ∧ zs.length ≤ c ∧ Holds (Value.int .i64) w b off zs.toArray)

theorem Iw.below {w w' : World} {base : Nat} {v : Value} {zs : List Int} (h : Iw w base v zs) (b : Below w.heap.size w w') : Iw w' base v zs := by
  obtain ⟨a, c, rfl, hl⟩ := h.lies
  refine ⟨a, c, rfl, ?_⟩
  rcases hl with h0 | ⟨k, off, rfl, h1, h2, h3, h4⟩
  · exact .inl h0
  · refine .inr ⟨k, off, rfl, h1, Nat.lt_of_lt_of_le h2 b.size, h3, fun j hj => ?_⟩
    obtain ⟨e1, e2⟩ := h4 j hj
    exact ⟨(b.cell (p := ⟨k, off + j, none⟩) h2).trans e1, (b.frozen (p := ⟨k, off + j, none⟩) h2).trans e2⟩

theorem Iw.base {w : World} {base base' : Nat} {v : Value} {zs : List Int} (h : Iw w base v zs) (hb : base' ≤ base) : Iw w base' v zs := by
  obtain ⟨a, c, rfl, hl⟩ := h.lies
  refine ⟨a, c, rfl, ?_⟩
  rcases hl with h0 | ⟨k, off, rfl, h1, h2⟩
  · exact .inl h0
  · exact .inr ⟨k, off, rfl, Nat.le_trans hb h1, h2⟩

theorem Iw.own {w : World} {base : Nat} {t : TypeId} {v : Value} {zs : List Int} (h : w.ownsRow base t 1 v zs.length (zs.map (Value.int .i64))) : Iw w base v zs := by
  rcases h.2 with ⟨rfl, h0⟩ | ⟨g, cap, cur, rfl, hg, hh, hn, hcap, hsz, htake⟩
  · exact ⟨none, 0, by rw [h0], .inl (List.length_eq_zero_iff.1 h0)⟩
  · refine ⟨_, cap, rfl, .inr ⟨g, 0, rfl, hg, (Array.getElem?_eq_some_iff.1 hh).1, hn, fun j hj => ?_⟩⟩
    have hj' : j < zs.length := by simpa using hj
    rw [Nat.zero_add]
    refine ⟨?_, h.frozenAt j⟩
    rw [h.cellAt j (by simpa using hj')]
    simp [hj']

theorem below_putRow0 (w : World) (base b off n : Nat) (d : Array Int) (hb : base ≤ b) : Go.RowKit.Below base w (putRow (Value.int .i64) (Sort.ahead w n) b off d) := by
  refine ⟨rfl, rfl, rfl, by simp, fun k hk => ?_⟩
  show (w.heap.modify b _)[k]? = w.heap[k]?
  rw [Array.getElem?_modify, if_neg (by omega)]

/-- Two numbers, rising; one number where they are one. -/
def two (x y : Int) : List Int := if x < y then [x, y] else if x = y then [x] else [y, x]
def srt (x y : Int) : List Int := if x ≤ y then [x, y] else [y, x]

theorem sort_two (x y : Int) : ([x, y].mergeSort fun a b => decide (a ≤ b)) = srt x y := by
  by_cases h : x ≤ y <;> simp [List.mergeSort, List.MergeSort.Internal.splitInTwo, srt, h]
theorem sort_one (x : Int) : ([x].mergeSort fun a b => decide (a ≤ b)) = [x] := by simp

theorem compact_ne (x y : Int) (h : x ≠ y) : Lib.compact [x, y] = [x, y] := by
  refine Lib.compact_all _ (fun j hj => ?_)
  match j, hj with
  | 0, _ => exact Lib.keeps_lt_one _ 0 (by omega)
  | 1, _ => exact Lib.keeps_pos (show y ≠ x from fun e => h e.symm)
theorem compact_eq (x : Int) : Lib.compact [x, x] = [x] := by
  simp [Lib.compact, Lib.compactUpTo, Lib.keeps, List.range_succ]
theorem compact_one (x : Int) : Lib.compact [x] = [x] := by
  refine Lib.compact_all _ (fun j hj => ?_)
  match j, hj with
  | 0, _ => exact Lib.keeps_lt_one _ 0 (by omega)

theorem compact_two (x y : Int) : Lib.compact (srt x y) = two x y := by
  unfold srt two
  by_cases h : x < y
  · rw [if_pos (by omega), if_pos h]
    exact compact_ne x y (by omega)
  · rw [if_neg h]
    by_cases e : x = y
    · subst e
      rw [if_pos (Int.le_refl _), if_pos rfl]
      exact compact_eq x
    · rw [if_neg (by omega), if_neg e]
      exact compact_ne y x (by omega)

theorem holds_take {w : World} {b off : Nat} {zs ys : List Int} (h : Holds (Value.int .i64) w b off (zs ++ ys).toArray) : Holds (Value.int .i64) w b off zs.toArray := by
  intro j hj
  have hj' : j < zs.length := by simpa using hj
  have := h j (by simp; omega)
  have e : (zs ++ ys).toArray[j]! = zs.toArray[j]! := by
    simp [hj', List.getElem?_append_left]
  rw [e] at this
  exact this


theorem compact_any (w : World) (base : Nat) (v : Value) (zs ys : List Int) (hys : Lib.compact zs = ys) (hle : ys.length ≤ zs.length) (h : Iw w base v zs) (hl : zs.length ≤ 2) :
    Calls Try.prog 24 #[v] w fun e w' => ∃ v', e = .returned v' ∧ Iw w' base v' ys ∧ Below base w w' := by
  obtain ⟨a, c, rfl, hl2⟩ := h.lies
  rcases hl2 with rfl | ⟨b, off, rfl, h1, h2, h3, h4⟩
  · have : ys = [] := List.length_eq_zero_iff.1 (by simpa using hle)
    subst this
    refine (Try.slices_Compact_int_empty _ _ _).mono ?_
    rintro e w' ⟨rfl, rfl⟩
    exact ⟨_, rfl, h, Below.refl _ _⟩
  · refine (Try.slices_Compact_int b off c zs w h4 (by omega) h3).mono ?_
    rintro e w' ⟨rfl, n, rfl⟩
    rw [hys]
    have hb := below_putRow0 w base b off n (ys ++ List.replicate (zs.length - ys.length) 0).toArray h1
    refine ⟨_, rfl, ⟨_, c, rfl, .inr ⟨b, off, rfl, h1, by simpa using h2, by omega, ?_⟩⟩, hb⟩
    exact holds_take (holds_putRow _ _ _ _ zs.toArray _ (holds_ahead _ _ _ _ _ _ h4) (by simp; omega))
end Go.Proofs.Ytffjddabjjcjpaa
