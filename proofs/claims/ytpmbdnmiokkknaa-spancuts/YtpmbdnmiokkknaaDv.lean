/- The document's left: above, at least. -/
import Derived.Test.YtpmbdnmiokkknaaDu
namespace Go.Proofs.Ytpmbdnmiokkknaa
open Go.ChangeShapes Go.WideShapes Go.ChangeAt Go.RowKit
set_option maxRecDepth 10000
set_option linter.unusedVariables false

set_option maxHeartbeats 2000000 in
theorem left_31 (al ah bl bh : Int) (w : World) (h : U4 al ah bl bh) :
    Calls Try.prog 44 #[.int .u8 31, spV (al, ah), spV (bl, bh)] w fun e w' =>
      (∃ P Q : Int × Int, e = .returned (.tuple #[spV P, spV Q, .bool (odC 1 bl ah)]) ∧ (odC 1 bl ah = true → P = odY 1 bl bh al ah ∧ Q = odX 1 bl bh al ah)) ∧ Below w.heap.size w w' := by
  have X4 := Hid.mk' (((((BxE.nil w).add al ah).add bl bh).add 0 0).add 0 0).out
  have HB : Hid (∀ w1, Below _ _ w1 → Bxs w w1 [(al, ah), (bl, bh), (0, 0), (0, 0)]) := Hid.mk' (fun w1 b => X4.out.below b)
  have HC := Hid.mk' (fun u => left_29 bl bh al ah u h.swap)
  clear X4 h
  generalize odC 1 bl ah = C at *
  generalize odX 1 bl bh al ah = RX at *
  generalize odY 1 bl bh al ah = RY at *
  go_enter Try.func44, Try.ntmps44
  go_wp2_with fail
  refine (HC.out _).mono ?_
  rintro e w1 ⟨⟨⟨Q1, Q2⟩, ⟨P1, P2⟩, rfl, hres⟩, b1⟩
  have X := HB.out w1 b1
  have hlt : w.heap.size + 1 + 1 + 1 < w1.heap.size := (X.at 3 (p := (0, 0)) rfl).lt
  have X := Hid.mk' X
  have HR := Hid.mk' hres
  clear b1 hres
  go_wp2_with fail
  have B6 : Hid (Box ((w1.alloc (spO Q1 Q2)).alloc (spO P1 P2)) w1.heap.size Q1 Q2 ∧ Box ((w1.alloc (spO Q1 Q2)).alloc (spO P1 P2)) (w1.heap.size + 1) P1 P2 ∧ Bxs w ((w1.alloc (spO Q1 Q2)).alloc (spO P1 P2)) [(al, ah), (bl, bh), (0, 0), (0, 0)]) :=
    Hid.mk' ⟨(Box.new w1 Q1 Q2 rfl).alloc _, Box.new _ P1 P2 (by simp), X.out.below (bl2 _ _ _)⟩
  obtain ⟨u, hu⟩ : ∃ u, u = ((w1.alloc (spO Q1 Q2)).alloc (spO P1 P2)) := ⟨_, rfl⟩
  rw [← hu] at B6 ⊢
  clear hu X
  obtain ⟨k1, k2, X⟩ := B6.out
  obtain ⟨c0, c1, d0, d1, y0, y1, z0, z1, f0, f1, t0, t1⟩ := four X
  have g0 := k1.c0
  have g1 := k1.c1
  have j0 := k2.c0
  have j1 := k2.c1
  have X := Hid.mk' X
  clear B6 k1 k2
  have n1 : ¬ (w.heap.size + 1 + 1 = w1.heap.size) := by omega
  have n2 : ¬ (w.heap.size + 1 + 1 = w1.heap.size + 1) := by omega
  have n3 : ¬ (w.heap.size + 1 + 1 + 1 = w1.heap.size) := by omega
  have n4 : ¬ (w.heap.size + 1 + 1 + 1 = w1.heap.size + 1) := by omega
  go_region
  all_goals
    go_wp2_with fail
    have Y := (X.out.two P1 P2 Q1 Q2).dr (u' := _) ⟨1, rfl⟩
    have R := Y.at 2 (p := (P1, P2)) rfl
    have R' := Y.at 3 (p := (Q1, Q2)) rfl
    refine ret_sp3 rfl rfl R.c0 R.c1 rfl R'.c0 R'.c1 rfl ?_
    exact ⟨⟨(P1, P2), (Q1, Q2), rfl, fun e => ⟨(HR.out e).2, (HR.out e).1⟩⟩, Y.old⟩

set_option maxHeartbeats 2000000 in
theorem left_32 (al ah bl bh : Int) (w : World) (h : U4 al ah bl bh) :
    Calls Try.prog 44 #[.int .u8 32, spV (al, ah), spV (bl, bh)] w fun e w' =>
      (∃ P Q : Int × Int, e = .returned (.tuple #[spV P, spV Q, .bool (odC 0 bl ah)]) ∧ (odC 0 bl ah = true → P = odY 0 bl bh al ah ∧ Q = odX 0 bl bh al ah)) ∧ Below w.heap.size w w' := by
  have X4 := Hid.mk' (((((BxE.nil w).add al ah).add bl bh).add 0 0).add 0 0).out
  have HB : Hid (∀ w1, Below _ _ w1 → Bxs w w1 [(al, ah), (bl, bh), (0, 0), (0, 0)]) := Hid.mk' (fun w1 b => X4.out.below b)
  have HC := Hid.mk' (fun u => left_30 bl bh al ah u h.swap)
  clear X4 h
  generalize odC 0 bl ah = C at *
  generalize odX 0 bl bh al ah = RX at *
  generalize odY 0 bl bh al ah = RY at *
  go_enter Try.func44, Try.ntmps44
  go_wp2_with fail
  refine (HC.out _).mono ?_
  rintro e w1 ⟨⟨⟨Q1, Q2⟩, ⟨P1, P2⟩, rfl, hres⟩, b1⟩
  have X := HB.out w1 b1
  have hlt : w.heap.size + 1 + 1 + 1 < w1.heap.size := (X.at 3 (p := (0, 0)) rfl).lt
  have X := Hid.mk' X
  have HR := Hid.mk' hres
  clear b1 hres
  go_wp2_with fail
  have B6 : Hid (Box ((w1.alloc (spO Q1 Q2)).alloc (spO P1 P2)) w1.heap.size Q1 Q2 ∧ Box ((w1.alloc (spO Q1 Q2)).alloc (spO P1 P2)) (w1.heap.size + 1) P1 P2 ∧ Bxs w ((w1.alloc (spO Q1 Q2)).alloc (spO P1 P2)) [(al, ah), (bl, bh), (0, 0), (0, 0)]) :=
    Hid.mk' ⟨(Box.new w1 Q1 Q2 rfl).alloc _, Box.new _ P1 P2 (by simp), X.out.below (bl2 _ _ _)⟩
  obtain ⟨u, hu⟩ : ∃ u, u = ((w1.alloc (spO Q1 Q2)).alloc (spO P1 P2)) := ⟨_, rfl⟩
  rw [← hu] at B6 ⊢
  clear hu X
  obtain ⟨k1, k2, X⟩ := B6.out
  obtain ⟨c0, c1, d0, d1, y0, y1, z0, z1, f0, f1, t0, t1⟩ := four X
  have g0 := k1.c0
  have g1 := k1.c1
  have j0 := k2.c0
  have j1 := k2.c1
  have X := Hid.mk' X
  clear B6 k1 k2
  have n1 : ¬ (w.heap.size + 1 + 1 = w1.heap.size) := by omega
  have n2 : ¬ (w.heap.size + 1 + 1 = w1.heap.size + 1) := by omega
  have n3 : ¬ (w.heap.size + 1 + 1 + 1 = w1.heap.size) := by omega
  have n4 : ¬ (w.heap.size + 1 + 1 + 1 = w1.heap.size + 1) := by omega
  go_region
  all_goals
    go_wp2_with fail
    have Y := (X.out.two P1 P2 Q1 Q2).dr (u' := _) ⟨1, rfl⟩
    have R := Y.at 2 (p := (P1, P2)) rfl
    have R' := Y.at 3 (p := (Q1, Q2)) rfl
    refine ret_sp3 rfl rfl R.c0 R.c1 rfl R'.c0 R'.c1 rfl ?_
    exact ⟨⟨(P1, P2), (Q1, Q2), rfl, fun e => ⟨(HR.out e).2, (HR.out e).1⟩⟩, Y.old⟩
end Go.Proofs.Ytpmbdnmiokkknaa
