/- The state of a call with spans in boxes; single, checkBoth, the library's sums with carries. -/
import Derived.Test.YtpmbdnmiokkknabDb
import Derived.Laws.Externs
import Derived.Shelf.Spec.BitsCarry
import Derived.BigRegion
import Derived.Deep.RegionHeld3
namespace Go.Proofs.Ytpmbdnmiokkknab
open Go.ChangeShapes Go.WideShapes Go.ChangeAt Go.RowKit
set_option maxRecDepth 10000
set_option linter.unusedVariables false

abbrev spO (l h : Int) : Obj := .cells #[.int .u64 l, .int .u64 h] 24 (0, 0)

/-- A span's box: block g holds it. -/
structure Box (u : World) (g : Nat) (l h : Int) : Prop where
  blk : u.heap[g]? = some (spO l h)
theorem Box.lt {u : World} {g : Nat} {l h : Int} (b : Box u g l h) : g < u.heap.size := (Array.getElem?_eq_some_iff.1 b.blk).1
theorem Box.c0 {u : World} {g : Nat} {l h : Int} (b : Box u g l h) : u.cell? ⟨g, 0, none⟩ = some (.int .u64 l) := by rw [cell_of_row u g 0 _ _ _ b.blk]; rfl
theorem Box.c1 {u : World} {g : Nat} {l h : Int} (b : Box u g l h) : u.cell? ⟨g, 1, none⟩ = some (.int .u64 h) := by rw [cell_of_row u g 1 _ _ _ b.blk]; rfl
theorem Box.fz {u : World} {g : Nat} {l h : Int} (b : Box u g l h) (k : Nat) : u.frozen? ⟨g, k, none⟩ = false := frozen_of_row u g _ _ _ b.blk
theorem Box.below {u u' : World} {g : Nat} {l h : Int} (b : Box u g l h) (k : Below u.heap.size u u') : Box u' g l h := ⟨(k.block g b.lt).trans b.blk⟩
theorem Box.dr {u u' : World} {g : Nat} {l h : Int} (b : Box u g l h) (k : Dr u u') : Box u' g l h := ⟨by rw [k.heap]; exact b.blk⟩
theorem Box.alloc {u : World} {g : Nat} {l h : Int} (b : Box u g l h) (o : Obj) : Box (u.alloc o) g l h := b.below (bl1 u o)
theorem Box.new (u : World) (l h : Int) {g : Nat} (e : g = u.heap.size) : Box (u.alloc (spO l h)) g l h := ⟨by subst e; exact heap_alloc_new u _⟩
theorem Box.set {u : World} {g : Nat} {l h : Int} (b : Box u g l h) (x y : Int) : Box ((u.setCell ⟨g, 0, none⟩ (.int .u64 x)).setCell ⟨g, 1, none⟩ (.int .u64 y)) g x y := by
  have h1 := Go.heap_setCell_same u g 0 #[.int .u64 l, .int .u64 h] 24 (.int .u64 x) b.blk
  have h2 := Go.heap_setCell_same _ g 1 _ 24 (.int .u64 y) h1
  exact ⟨h2⟩
theorem Box.other {u : World} {g k : Nat} {l h : Int} (b : Box u g l h) (j : Nat) (v : Value) (hk : k ≠ g) : Box (u.setCell ⟨k, j, none⟩ v) g l h :=
  ⟨by rw [Below.heap_setCell u ⟨k, j, none⟩ v g (fun e => hk (by simpa using e.symm))]; exact b.blk⟩

/-- Stored into new memory: what was there is as it was. -/
theorem below_set {w u : World} (h : Below w.heap.size w u) {g : Nat} (hg : w.heap.size ≤ g) (k : Nat) (v : Value) : Below w.heap.size w (u.setCell ⟨g, k, none⟩ v) :=
  (Kept.of_below (S := fun _ => False) h |>.mono (fun _ _ e => e.elim) : Kept (fun j => w.heap.size ≤ j) w u).setCell (fun _ => hg) v |>.below (Nat.le_refl _) (fun k hk => by omega)
theorem below_set2 {w u : World} (h : Below w.heap.size w u) {g : Nat} (hg : w.heap.size ≤ g) (v v' : Value) : Below w.heap.size w ((u.setCell ⟨g, 0, none⟩ v).setCell ⟨g, 1, none⟩ v') :=
  below_set (below_set h hg 0 v) hg 1 v'

/-- Two spans in boxes, and a third for the answer. -/
structure B3 (w u : World) (al ah bl bh x y : Int) : Prop where
  old : Below w.heap.size w u
  A : Box u w.heap.size al ah
  B : Box u (w.heap.size + 1) bl bh
  Z : Box u (w.heap.size + 1 + 1) x y
theorem B3.start (w : World) (al ah bl bh x y : Int) : B3 w (((w.alloc (spO al ah)).alloc (spO bl bh)).alloc (spO x y)) al ah bl bh x y :=
  ⟨bl3 _ _ _ _, ((Box.new w al ah rfl).alloc _).alloc _, (Box.new _ bl bh (by simp)).alloc _, Box.new _ x y (by simp)⟩
theorem B3.below {w u u' : World} {al ah bl bh x y : Int} (h : B3 w u al ah bl bh x y) (k : Below u.heap.size u u') : B3 w u' al ah bl bh x y :=
  ⟨h.old.trans (k.mono h.old.size), h.A.below k, h.B.below k, h.Z.below k⟩
theorem B3.dr {w u u' : World} {al ah bl bh x y : Int} (h : B3 w u al ah bl bh x y) (k : Dr u u') : B3 w u' al ah bl bh x y :=
  h.below (k.below _)
theorem B3.set {w u : World} {al ah bl bh x y : Int} (h : B3 w u al ah bl bh x y) (x' y' : Int) : B3 w ((u.setCell ⟨w.heap.size + 1 + 1, 0, none⟩ (.int .u64 x')).setCell ⟨w.heap.size + 1 + 1, 1, none⟩ (.int .u64 y')) al ah bl bh x' y' :=
  ⟨below_set2 h.old (by omega) _ _, (h.A.other 0 _ (by omega)).other 1 _ (by omega), (h.B.other 0 _ (by omega)).other 1 _ (by omega), h.Z.set _ _⟩
/-- All that a walk asks. -/
theorem B3.facts {w u : World} {al ah bl bh x y : Int} (h : B3 w u al ah bl bh x y) :
    u.cell? ⟨w.heap.size, 0, none⟩ = some (.int .u64 al) ∧ u.cell? ⟨w.heap.size, 1, none⟩ = some (.int .u64 ah) ∧
    u.cell? ⟨w.heap.size + 1, 0, none⟩ = some (.int .u64 bl) ∧ u.cell? ⟨w.heap.size + 1, 1, none⟩ = some (.int .u64 bh) ∧
    u.cell? ⟨w.heap.size + 1 + 1, 0, none⟩ = some (.int .u64 x) ∧ u.cell? ⟨w.heap.size + 1 + 1, 1, none⟩ = some (.int .u64 y) ∧
    u.frozen? ⟨w.heap.size + 1 + 1, 0, none⟩ = false ∧ u.frozen? ⟨w.heap.size + 1 + 1, 1, none⟩ = false :=
  ⟨h.A.c0, h.A.c1, h.B.c0, h.B.c1, h.Z.c0, h.Z.c1, h.Z.fz 0, h.Z.fz 1⟩

theorem add64 (x y : Int) (x0 : 0 ≤ x) (x1 : x ≤ 18446744073709551615) (y0 : 0 ≤ y) (y1 : y ≤ 18446744073709551615) (w : World) :
    (callFunc 32 #[.int .u64 x, .int .u64 y, .int .u64 0]).run Try.prog w =
      .ok (.value (.tuple #[.int .u64 ((x + y) % 18446744073709551616), .int .u64 ((x + y) / 18446744073709551616)])) w := by
  rw [run_callFunc_extern Try.func32 (by kernel_rfl) (by kernel_rfl) (by kernel_rfl) (e := add64Entry) (by kernel_rfl), run_add64 x y 0 (by omega) (by omega) (by omega) (by omega)]
  simp only [Result.andThen, Int.add_zero]
theorem sub64 (x y : Int) (x0 : 0 ≤ x) (x1 : x ≤ 18446744073709551615) (y0 : 0 ≤ y) (y1 : y ≤ 18446744073709551615) (w : World) :
    (callFunc 34 #[.int .u64 x, .int .u64 y, .int .u64 0]).run Try.prog w =
      .ok (.value (.tuple #[.int .u64 ((x - y) % 18446744073709551616), .int .u64 (if x < y then 1 else 0)])) w := by
  obtain ⟨a, rfl⟩ := Int.eq_ofNat_of_zero_le x0
  obtain ⟨b, rfl⟩ := Int.eq_ofNat_of_zero_le y0
  rw [run_callFunc_extern Try.func34 (by kernel_rfl) (by kernel_rfl) (by kernel_rfl) (e := sub64Entry) (by kernel_rfl)]
  have h := run_sub64 (P := Try.prog) a b 0 (by omega) w
  rw [show (((0 : Nat) : Int)) = (0 : Int) from rfl] at h
  rw [h]
  have e1 : (((a + 18446744073709551616 - b - 0) % 18446744073709551616 : Nat) : Int) = ((a : Int) - b) % 18446744073709551616 := by omega
  have e2 : (((if a < b + 0 then 1 else 0 : Nat)) : Int) = if (a : Int) < b then 1 else 0 := by split <;> split <;> omega
  rw [e1, e2]
  rfl

theorem single_any (l h : Int) (w : World) : Calls Try.prog 18 #[spV (l, h)] w fun e w' => e = .returned (.bool (decide (l = h))) ∧ Below w.heap.size w w' := by
  go_enter Try.func18, Try.ntmps18
  go_wp2_with fail
  go_ret
  exact ⟨ret_bool (by first | rfl | (rw [Bool.eq_iff_iff]; simp)), bl1 _ _⟩

def cbS (al ah bl bh : Int) : Int := if al ≤ ah ∧ bl ≤ bh then 0 else 150
theorem cbS_1 {al ah bl bh : Int} (h : ¬ al ≤ ah) : cbS al ah bl bh = 150 := by unfold cbS; rw [if_neg (fun k => h k.1)]
theorem cbS_2 {al ah bl bh : Int} (h : al ≤ ah) : cbS al ah bl bh = ckS bl bh := by unfold cbS ckS; by_cases k : bl ≤ bh <;> simp [h, k] <;> omega

theorem both_any (al ah bl bh : Int) (w : World) : Calls Try.prog 16 #[spV (al, ah), spV (bl, bh)] w fun e w' => e = .returned (.int .i64 (cbS al ah bl bh)) ∧ Below w.heap.size w w' := by
  go_enter Try.func16, Try.ntmps16
  have HB : Hid (∀ w1, Below ((w.alloc (spO al ah)).alloc (spO bl bh)).heap.size ((w.alloc (spO al ah)).alloc (spO bl bh)) w1 → Box w1 (w.heap.size + 1) bl bh ∧ Below w.heap.size w w1) :=
    Hid.mk' (fun w1 b => ⟨(Box.new _ bl bh (by simp)).below b, (bl2 w _ _).trans (b.mono (by simp; omega))⟩)
  by_cases h1 : al ≤ ah
  · have e1 := ckS_0 h1
    rw [cbS_2 h1]
    go_wp2_with fail
    refine (check_any _ _ _).mono ?_
    rintro e w1 ⟨rfl, b1⟩
    obtain ⟨X, K⟩ := HB.out w1 b1
    rw [e1]
    have c0 := X.c0
    have c1 := X.c1
    have K := Hid.mk' K
    clear b1 X
    go_wp2_with fail
    refine (check_any _ _ _).mono ?_
    rintro e w2 ⟨rfl, b2⟩
    go_wp2_with fail
    go_ret
    exact ⟨rfl, K.out.trans (b2.mono K.out.size)⟩
  · have e1 := ckS_1 h1
    rw [cbS_1 h1]
    go_wp2_with fail
    refine (check_any _ _ _).mono ?_
    rintro e w1 ⟨rfl, b1⟩
    obtain ⟨X, K⟩ := HB.out w1 b1
    rw [e1]
    have K := Hid.mk' K
    clear b1 X
    go_wp2_with fail
    go_ret
    exact ⟨rfl, K.out⟩
end Go.Proofs.Ytpmbdnmiokkknab
