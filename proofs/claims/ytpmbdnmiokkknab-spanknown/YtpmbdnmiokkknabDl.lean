/- The contract of span.cut. -/
import Derived.Test.YtpmbdnmiokkknabDk
namespace Go.Proofs.Ytpmbdnmiokkknab
open Go.ChangeShapes Go.WideShapes Go.ChangeAt Go.RowKit
set_option maxRecDepth 10000
set_option linter.unusedVariables false

def gp (r : Int) : Int := if r = 2 then 1 else 0
/-- Whether there is something left; what is left of both. -/
def cuC (r : Int) (so : Bool) (al ah bl bh : Int) : Bool :=
  if r = 1 then (if so = true then decide (mx al bl ≤ mn ah bh) else neC al ah bl bh) else if so = true then odC (gp r) al bh else odC (1 - gp r) bl ah
def cuX (r : Int) (so : Bool) (al ah bl bh : Int) : Int × Int :=
  if r = 1 then (if so = true then (mx al bl, mn ah bh) else woS al ah bl bh) else if so = true then (if odC (gp r) al bh = true then odX (gp r) al ah bl bh else (0, 0)) else (if odC (1 - gp r) bl ah = true then odY (1 - gp r) bl bh al ah else (0, 0))
def cuY (r : Int) (so : Bool) (al ah bl bh : Int) : Int × Int :=
  if r = 1 then (if so = true then (mx al bl, mn ah bh) else woS bl bh al ah) else if so = true then (if odC (gp r) al bh = true then odY (gp r) al ah bl bh else (0, 0)) else (if odC (1 - gp r) bl ah = true then odX (1 - gp r) bl bh al ah else (0, 0))

/-- Four boxes: what a walk asks of them. -/
theorem four {w u : World} {al ah bl bh x y x' y' : Int} (h : Bxs w u [(al, ah), (bl, bh), (x, y), (x', y')]) :
    u.cell? ⟨w.heap.size, 0, none⟩ = some (.int .u64 al) ∧ u.cell? ⟨w.heap.size, 1, none⟩ = some (.int .u64 ah) ∧ u.cell? ⟨w.heap.size + 1, 0, none⟩ = some (.int .u64 bl) ∧ u.cell? ⟨w.heap.size + 1, 1, none⟩ = some (.int .u64 bh) ∧
    u.cell? ⟨w.heap.size + 1 + 1, 0, none⟩ = some (.int .u64 x) ∧ u.cell? ⟨w.heap.size + 1 + 1, 1, none⟩ = some (.int .u64 y) ∧ u.cell? ⟨w.heap.size + 1 + 1 + 1, 0, none⟩ = some (.int .u64 x') ∧ u.cell? ⟨w.heap.size + 1 + 1 + 1, 1, none⟩ = some (.int .u64 y') ∧
    u.frozen? ⟨w.heap.size + 1 + 1, 0, none⟩ = false ∧ u.frozen? ⟨w.heap.size + 1 + 1, 1, none⟩ = false ∧ u.frozen? ⟨w.heap.size + 1 + 1 + 1, 0, none⟩ = false ∧ u.frozen? ⟨w.heap.size + 1 + 1 + 1, 1, none⟩ = false :=
  ⟨(h.at 0 (p := (al, ah)) rfl).c0, (h.at 0 (p := (al, ah)) rfl).c1, (h.at 1 (p := (bl, bh)) rfl).c0, (h.at 1 (p := (bl, bh)) rfl).c1, (h.at 2 (p := (x, y)) rfl).c0, (h.at 2 (p := (x, y)) rfl).c1, (h.at 3 (p := (x', y')) rfl).c0, (h.at 3 (p := (x', y')) rfl).c1,
    (h.at 2 (p := (x, y)) rfl).fz 0, (h.at 2 (p := (x, y)) rfl).fz 1, (h.at 3 (p := (x', y')) rfl).fz 0, (h.at 3 (p := (x', y')) rfl).fz 1⟩

/-- Both answers stored, one behind the other. -/
theorem Bxs.two {w u : World} {al ah bl bh x y x' y' : Int} (h : Bxs w u [(al, ah), (bl, bh), (x, y), (x', y')]) (p q p' q' : Int) :
    Bxs w ((((u.setCell ⟨w.heap.size + 1 + 1, 0, none⟩ (.int .u64 p)).setCell ⟨w.heap.size + 1 + 1, 1, none⟩ (.int .u64 q)).setCell ⟨w.heap.size + 1 + 1 + 1, 0, none⟩ (.int .u64 p')).setCell ⟨w.heap.size + 1 + 1 + 1, 1, none⟩ (.int .u64 q')) [(al, ah), (bl, bh), (p, q), (p', q')] :=
  (h.set 2 p q (by simp)).set 3 p' q' (by simp)

set_option maxHeartbeats 1000000 in
theorem cut_same (al ah bl bh : Int) (w : World) :
    Calls Try.prog 20 #[.int .i64 1, .bool true, spV (al, ah), spV (bl, bh)] w fun e w' =>
      e = .returned (.tuple #[spV (mx al bl, mn ah bh), spV (mx al bl, mn ah bh), .bool (decide (mx al bl ≤ mn ah bh))]) ∧ Below w.heap.size w w' := by
  have X4 := Hid.mk' (((((BxE.nil w).add al ah).add bl bh).add 0 0).add 0 0).out
  have HB : Hid (∀ w1, Below _ _ w1 → Bxs w w1 [(al, ah), (bl, bh), (0, 0), (0, 0)]) := Hid.mk' (fun w1 b => X4.out.below b)
  have HC := Hid.mk' (fun u => common_any al ah bl bh u)
  clear X4
  generalize decide (mx al bl ≤ mn ah bh) = C at *
  generalize mx al bl = P1 at *
  generalize mn ah bh = P2 at *
  go_enter Try.func20, Try.ntmps20
  go_wp2_with fail
  refine (HC.out _).mono ?_
  rintro e w1 ⟨rfl, b1⟩
  have X := HB.out w1 b1
  obtain ⟨c0, c1, d0, d1, y0, y1, z0, z1, f0, f1, t0, t1⟩ := four X
  have X := Hid.mk' X
  clear b1
  go_wp2_with fail
  have Y := X.out.two P1 P2 P1 P2
  have R := Y.at 2 (p := (P1, P2)) rfl
  have R' := Y.at 3 (p := (P1, P2)) rfl
  refine ret_sp3 rfl rfl R.c0 R.c1 rfl R'.c0 R'.c1 rfl ?_
  exact ⟨rfl, Y.old⟩

set_option maxHeartbeats 1000000 in
theorem cut_other (al ah bl bh : Int) (w : World) (h : U4 al ah bl bh) (ha : al ≤ ah) (hb : bl ≤ bh) :
    Calls Try.prog 20 #[.int .i64 1, .bool false, spV (al, ah), spV (bl, bh)] w fun e w' =>
      e = .returned (.tuple #[spV (woS al ah bl bh), spV (woS bl bh al ah), .bool (neC al ah bl bh)]) ∧ Below w.heap.size w w' := by
  have X4 := Hid.mk' (((((BxE.nil w).add al ah).add bl bh).add 0 0).add 0 0).out
  have HB : Hid (∀ w1, Below _ _ w1 → Bxs w w1 [(al, ah), (bl, bh), (0, 0), (0, 0)]) := Hid.mk' (fun w1 b => X4.out.below b)
  have HC := Hid.mk' (fun u => apart_any al ah bl bh u h ha hb)
  clear X4
  generalize neC al ah bl bh = C at *
  generalize woS al ah bl bh = P at *
  generalize woS bl bh al ah = Q at *
  obtain ⟨P1, P2⟩ := P
  obtain ⟨Q1, Q2⟩ := Q
  go_enter Try.func20, Try.ntmps20
  go_wp2_with fail
  refine (HC.out _).mono ?_
  rintro e w1 ⟨rfl, b1⟩
  have X := HB.out w1 b1
  obtain ⟨c0, c1, d0, d1, y0, y1, z0, z1, f0, f1, t0, t1⟩ := four X
  have X := Hid.mk' X
  clear b1
  go_wp2_with fail
  have Y := X.out.two P1 P2 Q1 Q2
  have R := Y.at 2 (p := (P1, P2)) rfl
  have R' := Y.at 3 (p := (Q1, Q2)) rfl
  refine ret_sp3 rfl rfl R.c0 R.c1 rfl R'.c0 R'.c1 rfl ?_
  exact ⟨rfl, Y.old⟩

set_option maxHeartbeats 1000000 in
theorem cut_od2 (al ah bl bh : Int) (w : World) (h : U4 al ah bl bh) :
    Calls Try.prog 20 #[.int .i64 2, .bool true, spV (al, ah), spV (bl, bh)] w fun e w' =>
      e = .returned (.tuple #[spV (if odC 1 al bh = true then odX 1 al ah bl bh else (0, 0)), spV (if odC 1 al bh = true then odY 1 al ah bl bh else (0, 0)), .bool (odC 1 al bh)]) ∧ Below w.heap.size w w' := by
  have X4 := Hid.mk' (((((BxE.nil w).add al ah).add bl bh).add 0 0).add 0 0).out
  have HB : Hid (∀ w1, Below _ _ w1 → Bxs w w1 [(al, ah), (bl, bh), (0, 0), (0, 0)]) := Hid.mk' (fun w1 b => X4.out.below b)
  have HC := Hid.mk' (fun u => ordered_any 1 al ah bl bh u h (by decide) (by decide))
  clear X4
  generalize (if odC 1 al bh = true then odX 1 al ah bl bh else (0, 0)) = P at *
  generalize (if odC 1 al bh = true then odY 1 al ah bl bh else (0, 0)) = Q at *
  generalize odC 1 al bh = C at *
  obtain ⟨P1, P2⟩ := P
  obtain ⟨Q1, Q2⟩ := Q
  go_enter Try.func20, Try.ntmps20
  go_wp2_with fail
  refine (HC.out _).mono ?_
  rintro e w1 ⟨rfl, b1⟩
  have X := HB.out w1 b1
  obtain ⟨c0, c1, d0, d1, y0, y1, z0, z1, f0, f1, t0, t1⟩ := four X
  have X := Hid.mk' X
  clear b1
  go_wp2_with fail
  have Y := X.out.two P1 P2 Q1 Q2
  have R := Y.at 2 (p := (P1, P2)) rfl
  have R' := Y.at 3 (p := (Q1, Q2)) rfl
  refine ret_sp3 rfl rfl R.c0 R.c1 rfl R'.c0 R'.c1 rfl ?_
  exact ⟨rfl, Y.old⟩

set_option maxHeartbeats 1000000 in
theorem cut_do2 (al ah bl bh : Int) (w : World) (h : U4 al ah bl bh) :
    Calls Try.prog 20 #[.int .i64 2, .bool false, spV (al, ah), spV (bl, bh)] w fun e w' =>
      e = .returned (.tuple #[spV (if odC 0 bl ah = true then odY 0 bl bh al ah else (0, 0)), spV (if odC 0 bl ah = true then odX 0 bl bh al ah else (0, 0)), .bool (odC 0 bl ah)]) ∧ Below w.heap.size w w' := by
  have X4 := Hid.mk' (((((BxE.nil w).add al ah).add bl bh).add 0 0).add 0 0).out
  have HB : Hid (∀ w1, Below _ _ w1 → Bxs w w1 [(al, ah), (bl, bh), (0, 0), (0, 0)]) := Hid.mk' (fun w1 b => X4.out.below b)
  have HC := Hid.mk' (fun u => ordered_any 0 bl bh al ah u h.swap (by decide) (by decide))
  clear X4
  generalize (if odC 0 bl ah = true then odY 0 bl bh al ah else (0, 0)) = P at *
  generalize (if odC 0 bl ah = true then odX 0 bl bh al ah else (0, 0)) = Q at *
  generalize odC 0 bl ah = C at *
  obtain ⟨P1, P2⟩ := P
  obtain ⟨Q1, Q2⟩ := Q
  go_enter Try.func20, Try.ntmps20
  go_wp2_with fail
  refine (HC.out _).mono ?_
  rintro e w1 ⟨rfl, b1⟩
  have X := HB.out w1 b1
  have hlt : w.heap.size + 1 + 1 + 1 < w1.heap.size := (X.at 3 (p := (0, 0)) rfl).lt
  have X := Hid.mk' X
  clear b1
  go_wp2_with fail
  have B6 : Hid (Box ((w1.alloc (spO Q1 Q2)).alloc (spO P1 P2)) w1.heap.size Q1 Q2 ∧ Box ((w1.alloc (spO Q1 Q2)).alloc (spO P1 P2)) (w1.heap.size + 1) P1 P2 ∧ Bxs w ((w1.alloc (spO Q1 Q2)).alloc (spO P1 P2)) [(al, ah), (bl, bh), (0, 0), (0, 0)]) :=
    Hid.mk' ⟨(Box.new w1 Q1 Q2 rfl).alloc _, Box.new _ P1 P2 (by simp), X.out.below (bl2 _ _ _)⟩
  obtain ⟨u, hu⟩ : ∃ u, u = ((w1.alloc (spO Q1 Q2)).alloc (spO P1 P2)) := ⟨_, rfl⟩
  rw [← hu] at B6 ⊢
  clear hu X
  obtain ⟨k1, k2, X⟩ := B6.out
  obtain ⟨c0, c1, d0, d1, y0, y1, z0, z1, f0, f1, t0, t1⟩ := four X
  have g0 := k1.c0
  have g1 := k1.c1
  have j0 := k2.c0
  have j1 := k2.c1
  have X := Hid.mk' X
  clear B6 k1 k2
  have n1 : ¬ (w.heap.size + 1 + 1 = w1.heap.size) := by omega
  have n2 : ¬ (w.heap.size + 1 + 1 = w1.heap.size + 1) := by omega
  have n3 : ¬ (w.heap.size + 1 + 1 + 1 = w1.heap.size) := by omega
  have n4 : ¬ (w.heap.size + 1 + 1 + 1 = w1.heap.size + 1) := by omega
  go_region
  all_goals
    go_wp2_with fail
    have Y := (X.out.two P1 P2 Q1 Q2).dr (u' := _) ⟨1, rfl⟩
    have R := Y.at 2 (p := (P1, P2)) rfl
    have R' := Y.at 3 (p := (Q1, Q2)) rfl
    refine ret_sp3 rfl rfl R.c0 R.c1 rfl R'.c0 R'.c1 rfl ?_
    exact ⟨rfl, Y.old⟩

set_option maxHeartbeats 1000000 in
theorem cut_od3 (al ah bl bh : Int) (w : World) (h : U4 al ah bl bh) :
    Calls Try.prog 20 #[.int .i64 3, .bool true, spV (al, ah), spV (bl, bh)] w fun e w' =>
      e = .returned (.tuple #[spV (if odC 0 al bh = true then odX 0 al ah bl bh else (0, 0)), spV (if odC 0 al bh = true then odY 0 al ah bl bh else (0, 0)), .bool (odC 0 al bh)]) ∧ Below w.heap.size w w' := by
  have X4 := Hid.mk' (((((BxE.nil w).add al ah).add bl bh).add 0 0).add 0 0).out
  have HB : Hid (∀ w1, Below _ _ w1 → Bxs w w1 [(al, ah), (bl, bh), (0, 0), (0, 0)]) := Hid.mk' (fun w1 b => X4.out.below b)
  have HC := Hid.mk' (fun u => ordered_any 0 al ah bl bh u h (by decide) (by decide))
  clear X4
  generalize (if odC 0 al bh = true then odX 0 al ah bl bh else (0, 0)) = P at *
  generalize (if odC 0 al bh = true then odY 0 al ah bl bh else (0, 0)) = Q at *
  generalize odC 0 al bh = C at *
  obtain ⟨P1, P2⟩ := P
  obtain ⟨Q1, Q2⟩ := Q
  go_enter Try.func20, Try.ntmps20
  go_wp2_with fail
  refine (HC.out _).mono ?_
  rintro e w1 ⟨rfl, b1⟩
  have X := HB.out w1 b1
  obtain ⟨c0, c1, d0, d1, y0, y1, z0, z1, f0, f1, t0, t1⟩ := four X
  have X := Hid.mk' X
  clear b1
  go_wp2_with fail
  have Y := X.out.two P1 P2 Q1 Q2
  have R := Y.at 2 (p := (P1, P2)) rfl
  have R' := Y.at 3 (p := (Q1, Q2)) rfl
  refine ret_sp3 rfl rfl R.c0 R.c1 rfl R'.c0 R'.c1 rfl ?_
  exact ⟨rfl, Y.old⟩

set_option maxHeartbeats 1000000 in
theorem cut_do3 (al ah bl bh : Int) (w : World) (h : U4 al ah bl bh) :
    Calls Try.prog 20 #[.int .i64 3, .bool false, spV (al, ah), spV (bl, bh)] w fun e w' =>
      e = .returned (.tuple #[spV (if odC 1 bl ah = true then odY 1 bl bh al ah else (0, 0)), spV (if odC 1 bl ah = true then odX 1 bl bh al ah else (0, 0)), .bool (odC 1 bl ah)]) ∧ Below w.heap.size w w' := by
  have X4 := Hid.mk' (((((BxE.nil w).add al ah).add bl bh).add 0 0).add 0 0).out
  have HB : Hid (∀ w1, Below _ _ w1 → Bxs w w1 [(al, ah), (bl, bh), (0, 0), (0, 0)]) := Hid.mk' (fun w1 b => X4.out.below b)
  have HC := Hid.mk' (fun u => ordered_any 1 bl bh al ah u h.swap (by decide) (by decide))
  clear X4
  generalize (if odC 1 bl ah = true then odY 1 bl bh al ah else (0, 0)) = P at *
  generalize (if odC 1 bl ah = true then odX 1 bl bh al ah else (0, 0)) = Q at *
  generalize odC 1 bl ah = C at *
  obtain ⟨P1, P2⟩ := P
  obtain ⟨Q1, Q2⟩ := Q
  go_enter Try.func20, Try.ntmps20
  go_wp2_with fail
  refine (HC.out _).mono ?_
  rintro e w1 ⟨rfl, b1⟩
  have X := HB.out w1 b1
  have hlt : w.heap.size + 1 + 1 + 1 < w1.heap.size := (X.at 3 (p := (0, 0)) rfl).lt
  have X := Hid.mk' X
  clear b1
  go_wp2_with fail
  have B6 : Hid (Box ((w1.alloc (spO Q1 Q2)).alloc (spO P1 P2)) w1.heap.size Q1 Q2 ∧ Box ((w1.alloc (spO Q1 Q2)).alloc (spO P1 P2)) (w1.heap.size + 1) P1 P2 ∧ Bxs w ((w1.alloc (spO Q1 Q2)).alloc (spO P1 P2)) [(al, ah), (bl, bh), (0, 0), (0, 0)]) :=
    Hid.mk' ⟨(Box.new w1 Q1 Q2 rfl).alloc _, Box.new _ P1 P2 (by simp), X.out.below (bl2 _ _ _)⟩
  obtain ⟨u, hu⟩ : ∃ u, u = ((w1.alloc (spO Q1 Q2)).alloc (spO P1 P2)) := ⟨_, rfl⟩
  rw [← hu] at B6 ⊢
  clear hu X
  obtain ⟨k1, k2, X⟩ := B6.out
  obtain ⟨c0, c1, d0, d1, y0, y1, z0, z1, f0, f1, t0, t1⟩ := four X
  have g0 := k1.c0
  have g1 := k1.c1
  have j0 := k2.c0
  have j1 := k2.c1
  have X := Hid.mk' X
  clear B6 k1 k2
  have n1 : ¬ (w.heap.size + 1 + 1 = w1.heap.size) := by omega
  have n2 : ¬ (w.heap.size + 1 + 1 = w1.heap.size + 1) := by omega
  have n3 : ¬ (w.heap.size + 1 + 1 + 1 = w1.heap.size) := by omega
  have n4 : ¬ (w.heap.size + 1 + 1 + 1 = w1.heap.size + 1) := by omega
  go_region
  all_goals
    go_wp2_with fail
    have Y := (X.out.two P1 P2 Q1 Q2).dr (u' := _) ⟨1, rfl⟩
    have R := Y.at 2 (p := (P1, P2)) rfl
    have R' := Y.at 3 (p := (Q1, Q2)) rfl
    refine ret_sp3 rfl rfl R.c0 R.c1 rfl R'.c0 R'.c1 rfl ?_
    exact ⟨rfl, Y.old⟩

theorem cut_any (r : Int) (so : Bool) (al ah bl bh : Int) (w : World) (h : U4 al ah bl bh) (ha : al ≤ ah) (hb : bl ≤ bh) (hr : r = 1 ∨ r = 2 ∨ r = 3) :
    Calls Try.prog 20 #[.int .i64 r, .bool so, spV (al, ah), spV (bl, bh)] w fun e w' =>
      e = .returned (.tuple #[spV (cuX r so al ah bl bh), spV (cuY r so al ah bl bh), .bool (cuC r so al ah bl bh)]) ∧ Below w.heap.size w w' := by
  rcases hr with rfl | rfl | rfl <;> cases so
  · exact cut_other al ah bl bh w h ha hb
  · exact cut_same al ah bl bh w
  · exact cut_do2 al ah bl bh w h
  · exact cut_od2 al ah bl bh w h
  · exact cut_do3 al ah bl bh w h
  · exact cut_od3 al ah bl bh w h
end Go.Proofs.Ytpmbdnmiokkknab
