/- The law's works. -/
import Derived.Test.YtmiiddkpmfiocabIe
import Derived.Test.YtmiiddkpmfiocabIi
import Derived.Test.YtmiiddkpmfiocabIf
namespace Go.Proofs.Ytmiiddkpmfiocab
open Go.ChangeShapes Go.WideShapes Go.ChangeAt Go.RowKit
set_option maxRecDepth 10000

theorem inW : InB 18 2 7 14 2 := by constructor <;> decide
theorem mayW : mayB 18 2 7 14 2 = true := by decide
theorem wordW : wordN 18 2 7 14 2 = 1308014276903960578 := by decide

theorem encW (u : World) : Calls Try.prog 4 #[insV 18 2 7 14 2] u fun e w' => e = .returned (.tuple #[.int .u64 1308014276903960578, .int .i64 0]) ∧ Below u.heap.size u w' := by
  have h := enc_any 18 2 7 14 2 u inW
  rw [mayW, wordW] at h
  exact h
theorem decW (u : World) : Calls Try.prog 5 #[.int .u64 1308014276903960578] u fun e w' => e = .returned (.tuple #[insV 18 2 7 14 2, .int .i64 0]) ∧ Below u.heap.size u w' := by
  have h := dec_any 1308014276903960578 u (by decide) (by decide)
  have e : mayB (wP 1308014276903960578) (wD 1308014276903960578) (wS 1308014276903960578) (wO 1308014276903960578) (wI 1308014276903960578) = true := by decide
  rw [e] at h
  exact h
theorem wriW (u : World) : Calls Try.prog 6 #[insV 18 2 7 14 2] u fun e w' => e = .returned (.tuple #[.int .i64 2, .bool true]) ∧ Below u.heap.size u w' := by
  have h := writes_any 18 2 7 14 2 u inW
  rw [mayW] at h
  exact h
theorem reaW (u : World) : Calls Try.prog 8 #[insV 18 2 7 14 2] u fun e w' => ∃ v, e = .returned v ∧ Iw w' u.heap.size v [7] ∧ Below u.heap.size u w' := by
  have h := reads_any 18 2 7 14 2 u inW
  rw [mayW] at h
  exact h
theorem opW (u : World) : Calls Try.prog 10 #[.string ⟨#[106, 103, 116]⟩] u fun e w' => e = .returned (.tuple #[.int .u8 31, .bool true]) ∧ Below u.heap.size u w' := op_any ⟨#[106, 103, 116]⟩ u (by decide)
theorem nameW (u : World) : Calls Try.prog 11 #[.int .u8 36] u fun e w' => e = .returned (.string ⟨#[101, 120, 105, 116]⟩) ∧ Below u.heap.size u w' := name_any 36 u (by decide) (by decide)

set_option maxHeartbeats 2000000 in
theorem works_any (w : World) : Calls Try.prog 12 #[] w fun e w' => e = .returned (.bool true) ∧ Below w.heap.size w w' := by
  go_enter Try.func12, Try.ntmps12
  go_wp2_with fail
  refine (encW _).mono ?_
  rintro e w1 ⟨rfl, b1⟩
  obtain ⟨B1, c0, c1, c2, c3, c4⟩ := cells5 b1
  have h1 : w.heap.size < w1.heap.size := by have := b1.size; simp at this; omega
  clear b1
  go_wp2_with fail
  refine (decW _).mono ?_
  rintro e w2 ⟨rfl, b2⟩
  have c0 := (b2.cell (p := ⟨w.heap.size, 0, none⟩) h1).trans c0
  have c1 := (b2.cell (p := ⟨w.heap.size, 1, none⟩) h1).trans c1
  have c2 := (b2.cell (p := ⟨w.heap.size, 2, none⟩) h1).trans c2
  have c3 := (b2.cell (p := ⟨w.heap.size, 3, none⟩) h1).trans c3
  have c4 := (b2.cell (p := ⟨w.heap.size, 4, none⟩) h1).trans c4
  have h2 : w.heap.size < w2.heap.size := by have := b2.size; omega
  have B2 := B1.trans (b2.mono (by omega))
  clear b2 B1
  go_wp2_with fail
  refine (wriW _).mono ?_
  rintro e w3 ⟨rfl, b3⟩
  obtain ⟨B3', d0, d1, d2, d3, d4⟩ := cells5 b3
  have c0 := (B3'.cell (p := ⟨w.heap.size, 0, none⟩) h2).trans c0
  have c1 := (B3'.cell (p := ⟨w.heap.size, 1, none⟩) h2).trans c1
  have c2 := (B3'.cell (p := ⟨w.heap.size, 2, none⟩) h2).trans c2
  have c3 := (B3'.cell (p := ⟨w.heap.size, 3, none⟩) h2).trans c3
  have c4 := (B3'.cell (p := ⟨w.heap.size, 4, none⟩) h2).trans c4
  have B3 := B2.trans (B3'.mono (by omega))
  have h3 : w2.heap.size < w3.heap.size := by have := b3.size; simp at this; omega
  clear b3 B3' B2
  go_wp2_with fail
  refine (opW _).mono ?_
  rintro e w4 ⟨rfl, b4⟩
  have c0 := (b4.cell (p := ⟨w.heap.size, 0, none⟩) (by simp; omega)).trans c0
  have c1 := (b4.cell (p := ⟨w.heap.size, 1, none⟩) (by simp; omega)).trans c1
  have c2 := (b4.cell (p := ⟨w.heap.size, 2, none⟩) (by simp; omega)).trans c2
  have c3 := (b4.cell (p := ⟨w.heap.size, 3, none⟩) (by simp; omega)).trans c3
  have c4 := (b4.cell (p := ⟨w.heap.size, 4, none⟩) (by simp; omega)).trans c4
  have d0 := (b4.cell (p := ⟨w2.heap.size, 0, none⟩) h3).trans d0
  have d1 := (b4.cell (p := ⟨w2.heap.size, 1, none⟩) h3).trans d1
  have d2 := (b4.cell (p := ⟨w2.heap.size, 2, none⟩) h3).trans d2
  have d3 := (b4.cell (p := ⟨w2.heap.size, 3, none⟩) h3).trans d3
  have d4 := (b4.cell (p := ⟨w2.heap.size, 4, none⟩) h3).trans d4
  have B4 := Hid.mk' (B3.trans (b4.mono (by omega)))
  have h4 : w.heap.size ≤ w4.heap.size := by have := b4.size; omega
  clear b4 B3
  go_wp2_with fail
  refine (reaW _).mono ?_
  rintro e w5 ⟨v5, rfl, I5, b5⟩
  have B5 := Hid.mk' (B4.out.trans (b5.mono h4))
  have h5 : w.heap.size ≤ w5.heap.size := by have := b5.size; omega
  clear b5 B4
  go_wp2_with fail
  refine (eqi_any _ w4.heap.size w5.heap.size v5 _ [7] (I5.below ((Below.refl _ _).alloc (Nat.le_refl _) _)) (Iw.lit w5 [7] 3 1 (by simp) (by simp)) (by simp)).mono ?_
  rintro e w6 ⟨rfl, b6⟩
  have B6 := Hid.mk' (B5.out.trans (((Below.refl _ _).alloc (Nat.le_refl _) _ : Below w5.heap.size w5 _).mono h5 |>.trans (b6.mono (by simp; omega))))
  have h6 : w.heap.size ≤ w6.heap.size := by have := b6.size; simp at this; omega
  clear b6 B5
  go_wp2_with fail
  refine (nameW _).mono ?_
  rintro e w7 ⟨rfl, b7⟩
  go_wp2_with fail
  go_ret
  exact ⟨rfl, B6.out.trans (b7.mono h6)⟩
end Go.Proofs.Ytmiiddkpmfiocab
