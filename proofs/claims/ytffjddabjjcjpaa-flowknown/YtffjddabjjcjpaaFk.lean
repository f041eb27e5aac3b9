/- The law's works. -/
import Derived.Test.YtffjddabjjcjpaaFj
import Derived.Laws.StructEq
namespace Go.Proofs.Ytffjddabjjcjpaa
open Go.ChangeShapes Go.WideShapes Go.ChangeAt Go.RowKit
set_option maxRecDepth 10000

theorem ck3 : ckF L3 = (0, 0) := by decide
theorem st3 : stN L3 = 14 := by decide
theorem lp3 : lpV L3 = [(0, 4, 3, 1)] := by decide
theorem nx32 : nxE L3 2 = 0 ∧ nxV L3 2 = [3, 4] := by decide
theorem nx34 : nxE L3 4 = 0 ∧ nxV L3 4 = [1, 5] := by decide

theorem chk3 (v : Value) (u : World) (h : Cd u v L3) : Calls Try.prog 14 #[v] u fun e w' => e = .returned (.tuple #[.int .i64 0, .int .i64 0]) ∧ Below u.heap.size u w' := by
  have := check_f v u h
  rw [ck3] at this
  exact this
theorem stp3 (v : Value) (u : World) (h : Cd u v L3) : Calls Try.prog 15 #[v] u fun e w' => e = .returned (.tuple #[.int .i64 14, .int .i64 0]) ∧ Below u.heap.size u w' := by
  have := steps_f v u h
  rw [ck3, st3] at this
  exact this
theorem lps3 (v : Value) (u : World) (h : Cd u v L3) : Calls Try.prog 16 #[v] u fun e w' => (∃ g c, e = .returned (.tuple #[.slice (some ⟨g, 0, none⟩) 1 c, .int .i64 0]) ∧ w'.cell? ⟨g, 0, none⟩ = some (.int .i64 0) ∧ w'.cell? ⟨g, 1, none⟩ = some (.int .i64 4) ∧ w'.cell? ⟨g, 2, none⟩ = some (.int .i64 3) ∧ w'.cell? ⟨g, 3, none⟩ = some (.int .i64 1)) ∧ Below u.heap.size u w' := by
  have := loops_f v u h
  rw [ck3, lp3] at this
  refine this.mono ?_
  rintro e w' ⟨⟨r, rfl, hr⟩, hb⟩
  refine ⟨?_, hb⟩
  rcases hr.2 with ⟨-, h0⟩ | ⟨g, cap, cur, rfl, -⟩
  · simp at h0
  · refine ⟨g, cap, rfl, ?_, ?_, ?_, ?_⟩
    · rw [hr.cellAt 0 (by simp)]; rfl
    · rw [hr.cellAt 1 (by simp)]; rfl
    · rw [hr.cellAt 2 (by simp)]; rfl
    · rw [hr.cellAt 3 (by simp)]; rfl
theorem nxt32 (v : Value) (u : World) (h : Cd u v L3) : Calls Try.prog 9 #[v, .int .i64 2] u fun e w' => (∃ r, e = .returned (.tuple #[r, .int .i64 0]) ∧ Iw w' u.heap.size r [3, 4]) ∧ Below u.heap.size u w' := by
  have := next_f v 2 u h (by decide) (by decide)
  rw [nx32.1, nx32.2] at this
  exact this
theorem nxt34 (v : Value) (u : World) (h : Cd u v L3) : Calls Try.prog 9 #[v, .int .i64 4] u fun e w' => (∃ r, e = .returned (.tuple #[r, .int .i64 0]) ∧ Iw w' u.heap.size r [1, 5]) ∧ Below u.heap.size u w' := by
  have := next_f v 4 u h (by decide) (by decide)
  rw [nx34.1, nx34.2] at this
  exact this

set_option maxHeartbeats 2000000 in
theorem works_any (w : World) : Calls Try.prog 13 #[] w fun e w' => e = .returned (.bool true) ∧ Below w.heap.size w w' := by
  go_enter Try.func13, Try.ntmps13
  go_wp2_with fail
  refine (three_is _).mono ?_
  rintro e w1 ⟨⟨v1, rfl, C1⟩, b1⟩
  have K1 := Hid.mk' (chk3 _ _ C1)
  clear C1
  go_wp2_with fail
  refine K1.out.mono ?_
  rintro e w2 ⟨rfl, b2⟩
  have B2 := Hid.mk' (b1.trans (b2.mono b1.size))
  clear b1 b2 K1
  go_wp2_with fail
  refine (three_is _).mono ?_
  rintro e w3 ⟨⟨v3, rfl, C3⟩, b3⟩
  have K3 := Hid.mk' (stp3 _ _ C3)
  have B3 := Hid.mk' (B2.out.trans (b3.mono B2.out.size))
  clear C3 b3
  go_wp2_with fail
  refine K3.out.mono ?_
  rintro e w4 ⟨rfl, b4⟩
  have B4 := Hid.mk' (B3.out.trans (b4.mono B3.out.size))
  clear b4 K3
  go_wp2_with fail
  refine (three_is _).mono ?_
  rintro e w5 ⟨⟨v5, rfl, C5⟩, b5⟩
  have K5 := Hid.mk' (lps3 _ _ C5)
  have B5 := Hid.mk' (B4.out.trans (b5.mono B4.out.size))
  clear C5 b5
  go_wp2_with fail
  refine K5.out.mono ?_
  rintro e w6 ⟨⟨g, cl, rfl, f0, f1, f2, f3⟩, b6⟩
  have B6 := Hid.mk' (B5.out.trans (b6.mono B5.out.size))
  have F6 := Hid.mk' (And.intro f0 (And.intro f1 (And.intro f2 f3)))
  have hg := lt_of_cell f0
  clear b6 K5 f0 f1 f2 f3
  go_wp2_with fail
  refine (three_is _).mono ?_
  rintro e w7 ⟨⟨v7, rfl, C7⟩, b7⟩
  have K7 := Hid.mk' (nxt32 _ _ C7)
  have B7 := Hid.mk' (B6.out.trans (b7.mono B6.out.size))
  have S7 := Hid.mk' b7
  clear C7 b7
  go_wp2_with fail
  refine K7.out.mono ?_
  rintro e w8 ⟨⟨r8, rfl, I8⟩, b8⟩
  have B8 := Hid.mk' (B7.out.trans (b8.mono B7.out.size))
  have S8 := Hid.mk' (S7.out.trans (b8.mono S7.out.size))
  have I8 := Hid.mk' I8
  clear b8 K7
  go_wp2_with fail
  refine (three_is _).mono ?_
  rintro e w9 ⟨⟨v9, rfl, C9⟩, b9⟩
  have K9 := Hid.mk' (nxt34 _ _ C9)
  have B9 := Hid.mk' (B8.out.trans (b9.mono B8.out.size))
  have S9 := Hid.mk' (S8.out.trans (b9.mono S8.out.size))
  have I9 := Hid.mk' (I8.out.below b9)
  clear C9 b9
  go_wp2_with fail
  refine K9.out.mono ?_
  rintro e wa ⟨⟨ra, rfl, Ia⟩, ba⟩
  have Ba := Hid.mk' (B9.out.trans (ba.mono B9.out.size))
  have Sa := Hid.mk' (S9.out.trans (ba.mono S9.out.size))
  have Ja := Hid.mk' (I9.out.below ba)
  have Ia := Hid.mk' Ia
  obtain ⟨F0, F1, F2, F3⟩ := F6.out
  have f0 := (Sa.out.cell (p := ⟨g, 0, none⟩) hg).trans F0
  have f1 := (Sa.out.cell (p := ⟨g, 1, none⟩) hg).trans F1
  have f2 := (Sa.out.cell (p := ⟨g, 2, none⟩) hg).trans F2
  have f3 := (Sa.out.cell (p := ⟨g, 3, none⟩) hg).trans F3
  clear ba K9 F0 F1 F2 F3
  go_wp2_with fail
  refine (eqi_any _ w7.heap.size wa.heap.size r8 _ [3, 4] (Ja.out.below ((Below.refl _ _).alloc (Nat.le_refl _) _)) (Iw.row wa [3, 4] 3 (by simp)) (by simp)).mono ?_
  rintro e wb ⟨rfl, bb⟩
  have bb' : Below wa.heap.size wa wb := ((Below.refl wa.heap.size wa).alloc (Nat.le_refl _) _).trans (bb.mono (by simp))
  have Bb := Hid.mk' (Ba.out.trans (bb'.mono Ba.out.size))
  have Ib := Hid.mk' (Ia.out.below bb')
  clear bb bb'
  go_wp2_with fail
  refine (eqi_any _ w9.heap.size wb.heap.size ra _ [1, 5] (Ib.out.below ((Below.refl _ _).alloc (Nat.le_refl _) _)) (Iw.row wb [1, 5] 3 (by simp)) (by simp)).mono ?_
  rintro e wc ⟨rfl, bc⟩
  have Bc := Hid.mk' (Bb.out.trans ((((Below.refl wb.heap.size wb).alloc (Nat.le_refl _) _).trans (bc.mono (by simp))).mono Bb.out.size))
  clear bc
  go_wp2_with fail
  go_ret
  exact ⟨rfl, Bc.out⟩
end Go.Proofs.Ytffjddabjjcjpaa
