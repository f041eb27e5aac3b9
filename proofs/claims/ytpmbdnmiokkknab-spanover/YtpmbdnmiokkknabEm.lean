/- The walk of SpanOver. -/
import Derived.Test.YtpmbdnmiokkknabDy
import Derived.Test.YtpmbdnmiokkknabEl
import Derived.Test.YtpmbdnmiokkknabSp
import Derived.Deep.CutBlock
import Derived.Deep.CutRange
import Derived.Deep.LoopGhost
namespace Go.Proofs.Ytpmbdnmiokkknab
open Go.ChangeShapes Go.WideShapes Go.ChangeAt Go.RowKit
set_option maxRecDepth 10000
set_option linter.unusedVariables false

theorem sp_nes (x y : Int) (u : World) : Sem.run Try.prog (binOp .neq 24 (.agg #[.int .u64 x, .int .u64 y]) (.agg #[.int .u64 x, .int .u64 y])) u = .ok (.bool false) u := by
  have h := sp_ne x y x y u
  simp only [decide_true, Bool.and_self, Bool.not_true] at h
  exact h
/-- Two spans and two numbers, as cells. -/
abbrev twV (al ah bl bh x y : Int) : Value := .agg #[.int .u64 al, .int .u64 ah, .int .u64 bl, .int .u64 bh, .int .u64 x, .int .u64 y]
structure Tw (w u : World) (al ah bl bh x y : Int) : Prop where
  old : Below w.heap.size w u
  blk : u.heap[w.heap.size]? = some (.cells #[.int .u64 al, .int .u64 ah, .int .u64 bl, .int .u64 bh, .int .u64 x, .int .u64 y] 26 (0, 0))
theorem Tw.new (w : World) (al ah bl bh x y : Int) : Tw w (w.alloc (.cells #[.int .u64 al, .int .u64 ah, .int .u64 bl, .int .u64 bh, .int .u64 x, .int .u64 y] 26 (0, 0))) al ah bl bh x y := ⟨bl1 _ _, heap_alloc_new w _⟩
theorem Tw.lt {w u : World} {al ah bl bh x y : Int} (h : Tw w u al ah bl bh x y) : w.heap.size < u.heap.size := (Array.getElem?_eq_some_iff.1 h.blk).1
theorem Tw.below {w u u' : World} {al ah bl bh x y : Int} (h : Tw w u al ah bl bh x y) (k : Below u.heap.size u u') : Tw w u' al ah bl bh x y :=
  ⟨h.old.trans (k.mono h.old.size), (k.block _ h.lt).trans h.blk⟩
theorem Tw.cells {w u : World} {al ah bl bh x y : Int} (h : Tw w u al ah bl bh x y) :
    u.cell? ⟨w.heap.size, 0, none⟩ = some (.int .u64 al) ∧ u.cell? ⟨w.heap.size, 1, none⟩ = some (.int .u64 ah) ∧ u.cell? ⟨w.heap.size, 2, none⟩ = some (.int .u64 bl) ∧ u.cell? ⟨w.heap.size, 3, none⟩ = some (.int .u64 bh) ∧ u.cell? ⟨w.heap.size, 4, none⟩ = some (.int .u64 x) ∧ u.cell? ⟨w.heap.size, 5, none⟩ = some (.int .u64 y) := by
  have e : ∀ j, u.cell? ⟨w.heap.size, j, none⟩ = (#[.int .u64 al, .int .u64 ah, .int .u64 bl, .int .u64 bh, .int .u64 x, .int .u64 y] : Array Value)[j]? := fun j => cell_of_row u w.heap.size j _ _ _ h.blk
  exact ⟨e 0, e 1, e 2, e 3, e 4, e 5⟩
theorem two_of {W : World} {al ah bl bh x y : Int} (h : sh26.ok W ((al, ah), (bl, bh), x, y)) : U4 al ah bl bh ∧ 0 ≤ x ∧ x ≤ 18446744073709551615 ∧ 0 ≤ y ∧ y ≤ 18446744073709551615 := by
  obtain ⟨⟨h1, h2⟩, ⟨h3, h4⟩, h5, h6⟩ := h
  have a1 := bounds_u64 h1
  have a2 := bounds_u64 h2
  have a3 := bounds_u64 h3
  have a4 := bounds_u64 h4
  have a5 := bounds_u64 h5
  have a6 := bounds_u64 h6
  exact ⟨⟨a1.1, a1.2, a2.1, a2.2, a3.1, a3.2, a4.1, a4.2⟩, a5.1, a5.2, a6.1, a6.2⟩

theorem two_more {W : World} {al ah bl bh x y : Int} (h : sh26.ok W ((al, ah), (bl, bh), x, y)) : U4 al ah bl bh ∧ 0 ≤ x ∧ x ≤ 18446744073709551615 ∧ 0 ≤ y ∧ y ≤ 18446744073709551615 := two_of h

set_option maxHeartbeats 4000000 in
theorem overs_ints (al ah bl bh x y mo op : Int) (W : World) (h : U4 al ah bl bh) (x0 : 0 ≤ x) (x1 : x ≤ 18446744073709551615) (y0 : 0 ≤ y) (y1 : y ≤ 18446744073709551615) (mo0 : 0 ≤ mo) (mo1 : mo ≤ 18446744073709551615) (p0 : 0 ≤ op) (p1 : op ≤ 255) :
    Calls Try.prog 3 #[twV al ah bl bh x y, .int .u64 mo, .int .u8 op] W fun e w' => e = .returned (.bool true) ∧ Below W.heap.size W w' := by
  by_cases h1 : al ≤ ah
  · have e1 := ckS_0 h1
    by_cases h2 : bl ≤ bh
    · have e2 := ckS_0 h2
      have hx1 : ∀ (u : World) ts t, (Builtin.min_ ts t #[.int .u64 al, .int .u64 mo]).run Try.prog u = .ok (.int .u64 (mn al mo)) u := fun u ts t => by rw [run_min_int2]; rfl
      have hx2 : ∀ (u : World) ts t, (Builtin.min_ ts t #[.int .u64 (18446744073709551615 - ah), .int .u64 (mo / 2)]).run Try.prog u = .ok (.int .u64 (mn (18446744073709551615 - ah) (mo / 2))) u := fun u ts t => by rw [run_min_int2]; rfl
      have hx3 : ∀ (u : World) ts t, (Builtin.min_ ts t #[.int .u64 bl, .int .u64 (x % 9)]).run Try.prog u = .ok (.int .u64 (mn bl (x % 9))) u := fun u ts t => by rw [run_min_int2]; rfl
      have hx4 : ∀ (u : World) ts t, (Builtin.min_ ts t #[.int .u64 (18446744073709551615 - bh), .int .u64 (y % 9)]).run Try.prog u = .ok (.int .u64 (mn (18446744073709551615 - bh) (y % 9))) u := fun u ts t => by rw [run_min_int2]; rfl
      have b1 := mn_le al mo
      have b2 := mn_le (18446744073709551615 - ah) (mo / 2)
      have b3 := mn_le bl (x % 9)
      have b4 := mn_le (18446744073709551615 - bh) (y % 9)
      obtain ⟨a0, a1, a2, a3, b0', b1', b2', b3'⟩ := h
      have n1 : 0 ≤ mn al mo := by omega
      have n2 : 0 ≤ mn (18446744073709551615 - ah) (mo / 2) := by omega
      have n3 : 0 ≤ mn bl (x % 9) := by omega
      have n4 : 0 ≤ mn (18446744073709551615 - bh) (y % 9) := by omega
      have o1 : mn al mo ≤ al := b1.1
      have o2 : mn (18446744073709551615 - ah) (mo / 2) ≤ 18446744073709551615 - ah := b2.1
      have o3 : mn bl (x % 9) ≤ bl := b3.1
      have o4 : mn (18446744073709551615 - bh) (y % 9) ≤ 18446744073709551615 - bh := b4.1
      clear b1 b2 b3 b4
      generalize mn al mo = i1 at *
      generalize mn (18446744073709551615 - ah) (mo / 2) = i2 at *
      generalize mn bl (x % 9) = j1 at *
      generalize mn (18446744073709551615 - bh) (y % 9) = j2 at *
      have HO : Hid (Ov al ah bl bh (al - i1) (ah + i2) (bl - j1) (bh + j2)) := Hid.mk' ⟨h1, h2, by omega, by omega, by omega, by omega⟩
      have HU : Hid (U4 al ah bl bh) := Hid.mk' ⟨a0, a1, a2, a3, b0', b1', b2', b3'⟩
      have HV : Hid (U4 (al - i1) (ah + i2) (bl - j1) (bh + j2)) := Hid.mk' (by constructor <;> omega)
      have U1 : Hid (∀ u, Calls Try.prog 8 #[spV (al, ah), spV (al - i1, ah + i2)] u fun e w' => e = .returned (.bool true) ∧ Below u.heap.size u w') := Hid.mk' (fun u => by
        have := under_any al ah (al - i1) (ah + i2) u
        rw [un_sub (p := (al, ah)) (q := (al - i1, ah + i2)) ⟨by simp only []; omega, by simp only []; omega⟩] at this
        exact this)
      have U2 : Hid (∀ u, Calls Try.prog 8 #[spV (bl, bh), spV (bl - j1, bh + j2)] u fun e w' => e = .returned (.bool true) ∧ Below u.heap.size u w') := Hid.mk' (fun u => by
        have := under_any bl bh (bl - j1) (bh + j2) u
        rw [un_sub (p := (bl, bh)) (q := (bl - j1, bh + j2)) ⟨by simp only []; omega, by simp only []; omega⟩] at this
        exact this)
      have jo1 := mn_le al bl
      have jo2 := mx_le ah bh
      have J1 : Hid (∀ u, Calls Try.prog 11 #[spV (al, ah), spV (bl, bh)] u fun e w' => e = .returned (spV (mn al bl, mx ah bh)) ∧ Below u.heap.size u w') := Hid.mk' (fun u => join_any al ah bl bh u)
      have V1 : Hid (∀ u, Calls Try.prog 8 #[spV (al, ah), spV (mn al bl, mx ah bh)] u fun e w' => e = .returned (.bool true) ∧ Below u.heap.size u w') := Hid.mk' (fun u => by
        have := under_any al ah (mn al bl) (mx ah bh) u
        rw [un_sub (p := (al, ah)) (q := (mn al bl, mx ah bh)) ⟨jo1.1, jo2.1⟩] at this
        exact this)
      have V2 : Hid (∀ u, Calls Try.prog 8 #[spV (bl, bh), spV (mn al bl, mx ah bh)] u fun e w' => e = .returned (.bool true) ∧ Below u.heap.size u w') := Hid.mk' (fun u => by
        have := under_any bl bh (mn al bl) (mx ah bh) u
        rw [un_sub (p := (bl, bh)) (q := (mn al bl, mx ah bh)) ⟨jo1.2.1, jo2.2.1⟩] at this
        exact this)
      have HJ := Hid.mk' jo1.2.2
      have HK := Hid.mk' jo2.2.2
      clear jo1 jo2
      generalize mn al bl = J at *
      generalize mx ah bh = K at *
      obtain ⟨E, F, P1, P2, R1, R2, k1, k2, k3⟩ := over_do op al ah bl bh (al - i1) (ah + i2) (bl - j1) (bh + j2) HO.out HU.out HV.out
      have D1 := Hid.mk' k1
      have D2 := Hid.mk' k2
      have D3 := Hid.mk' k3
      clear k1 k2 k3 h1 h2
      go_enter Try.func3, Try.ntmps3
      go_wp2_with fail
      refine (works_any _).mono ?_
      rintro e w1 ⟨rfl, hb⟩
      have X := (Tw.new W al ah bl bh x y).below hb
      obtain ⟨c0, c1, c2, c3, c4, c5⟩ := X.cells
      have X := Hid.mk' X
      clear hb
      go_wp2_with fail
      refine (check_any _ _ _).mono ?_
      rintro e w2 ⟨rfl, hb⟩
      rw [e1]
      have X := X.out.below hb
      clear c0 c1 c2 c3 c4 c5
      obtain ⟨c0, c1, c2, c3, c4, c5⟩ := X.cells
      have X := Hid.mk' X
      clear hb
      go_wp2_with fail
      refine (check_any _ _ _).mono ?_
      rintro e w3 ⟨rfl, hb⟩
      rw [e2]
      have X := X.out.below hb
      clear c0 c1 c2 c3 c4 c5
      obtain ⟨c0, c1, c2, c3, c4, c5⟩ := X.cells
      have X := Hid.mk' X
      clear hb
      go_wp2_with fail
      refine (to_any (al - i1) (ah + i2) _).mono ?_
      rintro e w4 ⟨rfl, hb⟩
      clear c0 c1 c2 c3 c4 c5
      have X := X.out.below hb
      obtain ⟨c0, c1, c2, c3, c4, c5⟩ := X.cells
      have X := Hid.mk' X
      clear hb
      have l0 : W.heap.size < w4.heap.size := X.out.lt
      have m0 : W.heap.size < w4.heap.size + 1 := by omega
      go_wp2_with fail
      refine (to_any (bl - j1) (bh + j2) _).mono ?_
      rintro e w5 ⟨rfl, hb⟩
      have BA : Hid (Box w5 w4.heap.size (al - i1) (ah + i2)) := Hid.mk' ((Box.new w4 (al - i1) (ah + i2) (by simp)).below hb)
      have hb := (bl1 w4 (spO (al - i1) (ah + i2))).trans (hb.mono (bl1 w4 (spO (al - i1) (ah + i2))).size)
      clear c0 c1 c2 c3 c4 c5
      have X := X.out.below hb
      obtain ⟨c0, c1, c2, c3, c4, c5⟩ := X.cells
      have X := Hid.mk' X
      have BA0 := BA.out.c0
      have BA1 := BA.out.c1
      clear hb
      clear l0 m0
      have l0 : W.heap.size < w5.heap.size := X.out.lt
      have m0 : W.heap.size < w5.heap.size + 1 := by omega
      have l1 : w4.heap.size < w5.heap.size := BA.out.lt
      have m1 : w4.heap.size < w5.heap.size + 1 := by omega
      go_wp2_with fail
      refine (U1.out _).mono ?_
      rintro e w6 ⟨rfl, hb⟩
      have BB : Hid (Box w6 w5.heap.size (bl - j1) (bh + j2)) := Hid.mk' ((Box.new w5 (bl - j1) (bh + j2) (by simp)).below hb)
      have hb := (bl1 w5 (spO (bl - j1) (bh + j2))).trans (hb.mono (bl1 w5 (spO (bl - j1) (bh + j2))).size)
      clear c0 c1 c2 c3 c4 c5
      have X := X.out.below hb
      clear BA0 BA1
      have BA := Hid.mk' (BA.out.below hb)
      obtain ⟨c0, c1, c2, c3, c4, c5⟩ := X.cells
      have X := Hid.mk' X
      have BA0 := BA.out.c0
      have BA1 := BA.out.c1
      have BB0 := BB.out.c0
      have BB1 := BB.out.c1
      clear hb
      clear l0 m0 l1 m1
      go_wp2_with fail
      refine (U2.out _).mono ?_
      rintro e w7 ⟨rfl, hb⟩
      clear c0 c1 c2 c3 c4 c5
      have X := X.out.below hb
      clear BA0 BA1
      have BA := Hid.mk' (BA.out.below hb)
      clear BB0 BB1
      have BB := Hid.mk' (BB.out.below hb)
      obtain ⟨c0, c1, c2, c3, c4, c5⟩ := X.cells
      have X := Hid.mk' X
      have BA0 := BA.out.c0
      have BA1 := BA.out.c1
      have BB0 := BB.out.c0
      have BB1 := BB.out.c1
      clear hb
      go_wp2_with fail
      refine (D1.out _).mono ?_
      rintro e w8 ⟨rfl, hb⟩
      clear c0 c1 c2 c3 c4 c5
      have X := X.out.below hb
      clear BA0 BA1
      have BA := Hid.mk' (BA.out.below hb)
      clear BB0 BB1
      have BB := Hid.mk' (BB.out.below hb)
      obtain ⟨c0, c1, c2, c3, c4, c5⟩ := X.cells
      have X := Hid.mk' X
      have BA0 := BA.out.c0
      have BA1 := BA.out.c1
      have BB0 := BB.out.c0
      have BB1 := BB.out.c1
      clear hb
      have l0 : W.heap.size < w8.heap.size := X.out.lt
      have m0 : W.heap.size < w8.heap.size + 1 := by omega
      have l1 : w4.heap.size < w8.heap.size := BA.out.lt
      have m1 : w4.heap.size < w8.heap.size + 1 := by omega
      have l2 : w5.heap.size < w8.heap.size := BB.out.lt
      have m2 : w5.heap.size < w8.heap.size + 1 := by omega
      go_wp2_with fail
      refine (D2.out _).mono ?_
      rintro e w9 ⟨rfl, hb⟩
      have BP : Hid (Box w9 w8.heap.size P1 P2) := Hid.mk' ((Box.new w8 P1 P2 (by simp)).below hb)
      have hb := (bl1 w8 (spO P1 P2)).trans (hb.mono (bl1 w8 (spO P1 P2)).size)
      clear c0 c1 c2 c3 c4 c5
      have X := X.out.below hb
      clear BA0 BA1
      have BA := Hid.mk' (BA.out.below hb)
      clear BB0 BB1
      have BB := Hid.mk' (BB.out.below hb)
      obtain ⟨c0, c1, c2, c3, c4, c5⟩ := X.cells
      have X := Hid.mk' X
      have BA0 := BA.out.c0
      have BA1 := BA.out.c1
      have BB0 := BB.out.c0
      have BB1 := BB.out.c1
      have BP0 := BP.out.c0
      have BP1 := BP.out.c1
      clear hb
      clear l0 m0 l1 m1 l2 m2
      have l0 : W.heap.size < w9.heap.size := X.out.lt
      have m0 : W.heap.size < w9.heap.size + 1 := by omega
      have l1 : w4.heap.size < w9.heap.size := BA.out.lt
      have m1 : w4.heap.size < w9.heap.size + 1 := by omega
      have l2 : w5.heap.size < w9.heap.size := BB.out.lt
      have m2 : w5.heap.size < w9.heap.size + 1 := by omega
      have l3 : w8.heap.size < w9.heap.size := BP.out.lt
      have m3 : w8.heap.size < w9.heap.size + 1 := by omega
      go_upto_region 11 with fail
      have hb := bl1 w9 (spO R1 R2)
      have HX : Hid (Tw W (w9.alloc (spO R1 R2)) al ah bl bh x y ∧ Box (w9.alloc (spO R1 R2)) w4.heap.size (al - i1) (ah + i2) ∧ Box (w9.alloc (spO R1 R2)) w5.heap.size (bl - j1) (bh + j2)) := Hid.mk' ⟨X.out.below hb, BA.out.below hb, BB.out.below hb⟩
      clear hb X BA BB
      go_cut [120] from 109 to 119 (fun s120 wr => s120 = .bool false ∧ Hid (Tw W wr al ah bl bh x y ∧ Box wr w4.heap.size (al - i1) (ah + i2) ∧ Box wr w5.heap.size (bl - j1) (bh + j2)))
      case first =>
        as_aux_lemma =>
          by_cases hE : E = 0
          · subst hE
            by_cases hF : F = 0
            · subst hF
              have DU := Hid.mk' (D3.out rfl rfl)
              go_wp2_with fail
              refine (DU.out _).mono ?_
              rintro e w10 ⟨rfl, hb⟩
              have HX := Hid.mk' (And.intro (HX.out.1.below hb) (And.intro (HX.out.2.1.below hb) (HX.out.2.2.below hb)))
              clear hb
              go_wp2_with fail
              go_meet
              exact ⟨rfl, HX⟩
            · go_wp2_with fail
              go_meet
              exact ⟨rfl, HX⟩
          · go_wp2_with fail
            go_meet
            exact ⟨rfl, HX⟩
      case rest =>
        obtain ⟨rfl, HX⟩ := hcut
        go_wp2_with fail
        go_loopg [13] 2 (fun g s13 wr => ∃ j : Nat, j ≤ 2 ∧ 2 - j ≤ g ∧ s13 = .int .i64 j ∧ Hid (Tw W wr al ah bl bh x y ∧ Box wr w4.heap.size (al - i1) (ah + i2) ∧ Box wr w5.heap.size (bl - j1) (bh + j2)))
        case atStart => exact ⟨0, by omega, by omega, rfl, HX⟩
        case round =>
          obtain ⟨j, hj2, hjg, rfl, HL⟩ := hrel
          clear HX
          by_cases hjl : j < 2
          · rcases (show j = 0 ∨ j = 1 by omega) with hj | hj
            · subst hj
              obtain ⟨C, D, Q1, Q2, Y1, Y2, R1, R2, S1, S2, k1, k2, k3⟩ := over_cut (23 + op % 10) true al ah bl bh (al - i1) (ah + i2) (bl - j1) (bh + j2) HO.out HU.out HV.out ⟨by omega, by omega⟩
              have C1 := Hid.mk' k1
              have C2 := Hid.mk' k2
              have C3 := Hid.mk' k3
              clear k1 k2 k3
              obtain ⟨X, BA, BB⟩ := HL.out
              obtain ⟨c0, c1, c2, c3, c4, c5⟩ := X.cells
              have X := Hid.mk' X
              have BA0 := BA.c0
              have BA1 := BA.c1
              have BB0 := BB.c0
              have BB1 := BB.c1
              have BA := Hid.mk' BA
              have BB := Hid.mk' BB
              go_wp2_with fail
              refine (C1.out _).mono ?_
              rintro e w10 ⟨rfl, hb⟩
              clear c0 c1 c2 c3 c4 c5
              have X := X.out.below hb
              clear BA0 BA1
              have BA := Hid.mk' (BA.out.below hb)
              clear BB0 BB1
              have BB := Hid.mk' (BB.out.below hb)
              obtain ⟨c0, c1, c2, c3, c4, c5⟩ := X.cells
              have X := Hid.mk' X
              have BA0 := BA.out.c0
              have BA1 := BA.out.c1
              have BB0 := BB.out.c0
              have BB1 := BB.out.c1
              clear hb
              have l0 : W.heap.size < w10.heap.size := X.out.lt
              have l1 : w4.heap.size < w10.heap.size := BA.out.lt
              have l2 : w5.heap.size < w10.heap.size := BB.out.lt
              have m0 : W.heap.size < w10.heap.size + 1 := by omega
              have m1 : w4.heap.size < w10.heap.size + 1 := by omega
              have m2 : w5.heap.size < w10.heap.size + 1 := by omega
              go_wp2_with fail
              refine (C2.out _).mono ?_
              rintro e w11 ⟨rfl, hb⟩
              have BQ : Hid (Box w11 w10.heap.size Q1 Q2) := Hid.mk' (((Box.new w10 Q1 Q2 (by simp)).alloc (spO Y1 Y2)).below hb)
              have BY : Hid (Box w11 (w10.heap.size + 1) Y1 Y2) := Hid.mk' ((Box.new (w10.alloc (spO Q1 Q2)) Y1 Y2 (by simp)).below hb)
              have hb := (bl2 w10 (spO Q1 Q2) (spO Y1 Y2)).trans (hb.mono (bl2 w10 (spO Q1 Q2) (spO Y1 Y2)).size)
              clear c0 c1 c2 c3 c4 c5
              have X := X.out.below hb
              clear BA0 BA1
              have BA := Hid.mk' (BA.out.below hb)
              clear BB0 BB1
              have BB := Hid.mk' (BB.out.below hb)
              obtain ⟨c0, c1, c2, c3, c4, c5⟩ := X.cells
              have X := Hid.mk' X
              have BA0 := BA.out.c0
              have BA1 := BA.out.c1
              have BB0 := BB.out.c0
              have BB1 := BB.out.c1
              have BQ0 := BQ.out.c0
              have BQ1 := BQ.out.c1
              have BY0 := BY.out.c0
              have BY1 := BY.out.c1
              clear hb
              clear l0 l1 l2 m0 m1 m2
              have l0 : w10.heap.size < w11.heap.size := BQ.out.lt
              have l1 : w10.heap.size + 1 < w11.heap.size := BY.out.lt
              have m0 : w10.heap.size < w11.heap.size + 1 := by omega
              have m1 : w10.heap.size + 1 < w11.heap.size + 1 := by omega
              cases C with
              | false =>
                have HX := Hid.mk' (And.intro (X.out.below (bl2 w11 (spO R1 R2) (spO S1 S2))) (And.intro (BA.out.below (bl2 w11 (spO R1 R2) (spO S1 S2))) (BB.out.below (bl2 w11 (spO R1 R2) (spO S1 S2)))))
                go_wp2_with fail
                go_roundg 1
                case measure => omega
                case rel => exact ⟨1, by omega, by omega, by go_num, HX⟩
              | true =>
                obtain ⟨hD, k4, k5⟩ := C3.out rfl
                subst hD
                have U3 := Hid.mk' k4
                have U4' := Hid.mk' k5
                clear k4 k5
                go_wp2_with fail
                refine (U3.out _).mono ?_
                rintro e w12 ⟨rfl, hb⟩
                have BR : Hid (Box w12 w11.heap.size R1 R2) := Hid.mk' (((Box.new w11 R1 R2 (by simp)).alloc (spO S1 S2)).below hb)
                have BS : Hid (Box w12 (w11.heap.size + 1) S1 S2) := Hid.mk' ((Box.new (w11.alloc (spO R1 R2)) S1 S2 (by simp)).below hb)
                have hb := (bl2 w11 (spO R1 R2) (spO S1 S2)).trans (hb.mono (bl2 w11 (spO R1 R2) (spO S1 S2)).size)
                clear c0 c1 c2 c3 c4 c5
                have X := X.out.below hb
                clear BA0 BA1
                have BA := Hid.mk' (BA.out.below hb)
                clear BB0 BB1
                have BB := Hid.mk' (BB.out.below hb)
                clear BQ0 BQ1
                have BQ := Hid.mk' (BQ.out.below hb)
                clear BY0 BY1
                have BY := Hid.mk' (BY.out.below hb)
                obtain ⟨c0, c1, c2, c3, c4, c5⟩ := X.cells
                have X := Hid.mk' X
                have BA0 := BA.out.c0
                have BA1 := BA.out.c1
                have BB0 := BB.out.c0
                have BB1 := BB.out.c1
                have BQ0 := BQ.out.c0
                have BQ1 := BQ.out.c1
                have BY0 := BY.out.c0
                have BY1 := BY.out.c1
                have BR0 := BR.out.c0
                have BR1 := BR.out.c1
                have BS0 := BS.out.c0
                have BS1 := BS.out.c1
                clear hb
                clear l0 l1 m0 m1
                go_wp2_with fail
                refine (U4'.out _).mono ?_
                rintro e w13 ⟨rfl, hb⟩
                clear c0 c1 c2 c3 c4 c5
                have X := X.out.below hb
                clear BA0 BA1
                have BA := Hid.mk' (BA.out.below hb)
                clear BB0 BB1
                have BB := Hid.mk' (BB.out.below hb)
                clear BQ0 BQ1
                have BQ := Hid.mk' (BQ.out.below hb)
                clear BY0 BY1
                have BY := Hid.mk' (BY.out.below hb)
                clear BR0 BR1
                have BR := Hid.mk' (BR.out.below hb)
                clear BS0 BS1
                have BS := Hid.mk' (BS.out.below hb)
                obtain ⟨c0, c1, c2, c3, c4, c5⟩ := X.cells
                have X := Hid.mk' X
                have BA0 := BA.out.c0
                have BA1 := BA.out.c1
                have BB0 := BB.out.c0
                have BB1 := BB.out.c1
                have BQ0 := BQ.out.c0
                have BQ1 := BQ.out.c1
                have BY0 := BY.out.c0
                have BY1 := BY.out.c1
                have BR0 := BR.out.c0
                have BR1 := BR.out.c1
                have BS0 := BS.out.c0
                have BS1 := BS.out.c1
                clear hb
                have HX := Hid.mk' (And.intro X.out (And.intro BA.out BB.out))
                go_wp2_with fail
                go_roundg 1
                case measure => omega
                case rel => exact ⟨1, by omega, by omega, by go_num, HX⟩
            · subst hj
              obtain ⟨C, D, Q1, Q2, Y1, Y2, R1, R2, S1, S2, k1, k2, k3⟩ := over_cut (23 + op % 10) false al ah bl bh (al - i1) (ah + i2) (bl - j1) (bh + j2) HO.out HU.out HV.out ⟨by omega, by omega⟩
              have C1 := Hid.mk' k1
              have C2 := Hid.mk' k2
              have C3 := Hid.mk' k3
              clear k1 k2 k3
              obtain ⟨X, BA, BB⟩ := HL.out
              obtain ⟨c0, c1, c2, c3, c4, c5⟩ := X.cells
              have X := Hid.mk' X
              have BA0 := BA.c0
              have BA1 := BA.c1
              have BB0 := BB.c0
              have BB1 := BB.c1
              have BA := Hid.mk' BA
              have BB := Hid.mk' BB
              go_wp2_with fail
              refine (C1.out _).mono ?_
              rintro e w10 ⟨rfl, hb⟩
              clear c0 c1 c2 c3 c4 c5
              have X := X.out.below hb
              clear BA0 BA1
              have BA := Hid.mk' (BA.out.below hb)
              clear BB0 BB1
              have BB := Hid.mk' (BB.out.below hb)
              obtain ⟨c0, c1, c2, c3, c4, c5⟩ := X.cells
              have X := Hid.mk' X
              have BA0 := BA.out.c0
              have BA1 := BA.out.c1
              have BB0 := BB.out.c0
              have BB1 := BB.out.c1
              clear hb
              have l0 : W.heap.size < w10.heap.size := X.out.lt
              have l1 : w4.heap.size < w10.heap.size := BA.out.lt
              have l2 : w5.heap.size < w10.heap.size := BB.out.lt
              have m0 : W.heap.size < w10.heap.size + 1 := by omega
              have m1 : w4.heap.size < w10.heap.size + 1 := by omega
              have m2 : w5.heap.size < w10.heap.size + 1 := by omega
              go_wp2_with fail
              refine (C2.out _).mono ?_
              rintro e w11 ⟨rfl, hb⟩
              have BQ : Hid (Box w11 w10.heap.size Q1 Q2) := Hid.mk' (((Box.new w10 Q1 Q2 (by simp)).alloc (spO Y1 Y2)).below hb)
              have BY : Hid (Box w11 (w10.heap.size + 1) Y1 Y2) := Hid.mk' ((Box.new (w10.alloc (spO Q1 Q2)) Y1 Y2 (by simp)).below hb)
              have hb := (bl2 w10 (spO Q1 Q2) (spO Y1 Y2)).trans (hb.mono (bl2 w10 (spO Q1 Q2) (spO Y1 Y2)).size)
              clear c0 c1 c2 c3 c4 c5
              have X := X.out.below hb
              clear BA0 BA1
              have BA := Hid.mk' (BA.out.below hb)
              clear BB0 BB1
              have BB := Hid.mk' (BB.out.below hb)
              obtain ⟨c0, c1, c2, c3, c4, c5⟩ := X.cells
              have X := Hid.mk' X
              have BA0 := BA.out.c0
              have BA1 := BA.out.c1
              have BB0 := BB.out.c0
              have BB1 := BB.out.c1
              have BQ0 := BQ.out.c0
              have BQ1 := BQ.out.c1
              have BY0 := BY.out.c0
              have BY1 := BY.out.c1
              clear hb
              clear l0 l1 l2 m0 m1 m2
              have l0 : w10.heap.size < w11.heap.size := BQ.out.lt
              have l1 : w10.heap.size + 1 < w11.heap.size := BY.out.lt
              have m0 : w10.heap.size < w11.heap.size + 1 := by omega
              have m1 : w10.heap.size + 1 < w11.heap.size + 1 := by omega
              cases C with
              | false =>
                have HX := Hid.mk' (And.intro (X.out.below (bl2 w11 (spO R1 R2) (spO S1 S2))) (And.intro (BA.out.below (bl2 w11 (spO R1 R2) (spO S1 S2))) (BB.out.below (bl2 w11 (spO R1 R2) (spO S1 S2)))))
                go_wp2_with fail
                go_roundg 0
                case measure => omega
                case rel => exact ⟨2, by omega, by omega, by go_num, HX⟩
              | true =>
                obtain ⟨hD, k4, k5⟩ := C3.out rfl
                subst hD
                have U3 := Hid.mk' k4
                have U4' := Hid.mk' k5
                clear k4 k5
                go_wp2_with fail
                refine (U3.out _).mono ?_
                rintro e w12 ⟨rfl, hb⟩
                have BR : Hid (Box w12 w11.heap.size R1 R2) := Hid.mk' (((Box.new w11 R1 R2 (by simp)).alloc (spO S1 S2)).below hb)
                have BS : Hid (Box w12 (w11.heap.size + 1) S1 S2) := Hid.mk' ((Box.new (w11.alloc (spO R1 R2)) S1 S2 (by simp)).below hb)
                have hb := (bl2 w11 (spO R1 R2) (spO S1 S2)).trans (hb.mono (bl2 w11 (spO R1 R2) (spO S1 S2)).size)
                clear c0 c1 c2 c3 c4 c5
                have X := X.out.below hb
                clear BA0 BA1
                have BA := Hid.mk' (BA.out.below hb)
                clear BB0 BB1
                have BB := Hid.mk' (BB.out.below hb)
                clear BQ0 BQ1
                have BQ := Hid.mk' (BQ.out.below hb)
                clear BY0 BY1
                have BY := Hid.mk' (BY.out.below hb)
                obtain ⟨c0, c1, c2, c3, c4, c5⟩ := X.cells
                have X := Hid.mk' X
                have BA0 := BA.out.c0
                have BA1 := BA.out.c1
                have BB0 := BB.out.c0
                have BB1 := BB.out.c1
                have BQ0 := BQ.out.c0
                have BQ1 := BQ.out.c1
                have BY0 := BY.out.c0
                have BY1 := BY.out.c1
                have BR0 := BR.out.c0
                have BR1 := BR.out.c1
                have BS0 := BS.out.c0
                have BS1 := BS.out.c1
                clear hb
                clear l0 l1 m0 m1
                go_wp2_with fail
                refine (U4'.out _).mono ?_
                rintro e w13 ⟨rfl, hb⟩
                clear c0 c1 c2 c3 c4 c5
                have X := X.out.below hb
                clear BA0 BA1
                have BA := Hid.mk' (BA.out.below hb)
                clear BB0 BB1
                have BB := Hid.mk' (BB.out.below hb)
                clear BQ0 BQ1
                have BQ := Hid.mk' (BQ.out.below hb)
                clear BY0 BY1
                have BY := Hid.mk' (BY.out.below hb)
                clear BR0 BR1
                have BR := Hid.mk' (BR.out.below hb)
                clear BS0 BS1
                have BS := Hid.mk' (BS.out.below hb)
                obtain ⟨c0, c1, c2, c3, c4, c5⟩ := X.cells
                have X := Hid.mk' X
                have BA0 := BA.out.c0
                have BA1 := BA.out.c1
                have BB0 := BB.out.c0
                have BB1 := BB.out.c1
                have BQ0 := BQ.out.c0
                have BQ1 := BQ.out.c1
                have BY0 := BY.out.c0
                have BY1 := BY.out.c1
                have BR0 := BR.out.c0
                have BR1 := BR.out.c1
                have BS0 := BS.out.c0
                have BS1 := BS.out.c1
                clear hb
                have HX := Hid.mk' (And.intro X.out (And.intro BA.out BB.out))
                go_wp2_with fail
                go_roundg 0
                case measure => omega
                case rel => exact ⟨2, by omega, by omega, by go_num, HX⟩
          · have hjk : ¬ (j : Int) < 2 := by omega
            obtain ⟨X, BA, BB⟩ := HL.out
            obtain ⟨c0, c1, c2, c3, c4, c5⟩ := X.cells
            have X := Hid.mk' X
            clear BA BB
            go_wp2_with fail
            refine (J1.out _).mono ?_
            rintro e w14 ⟨rfl, hb⟩
            clear c0 c1 c2 c3 c4 c5
            have X := X.out.below hb
            obtain ⟨c0, c1, c2, c3, c4, c5⟩ := X.cells
            have X := Hid.mk' X
            clear hb
            have l0 : W.heap.size < w14.heap.size := X.out.lt
            go_wp2_with fail
            refine (V1.out _).mono ?_
            rintro e w15 ⟨rfl, hb⟩
            have BJ : Hid (Box w15 w14.heap.size J K) := Hid.mk' ((Box.new w14 J K (by simp)).below hb)
            have hb := (bl1 w14 (spO J K)).trans (hb.mono (bl1 w14 (spO J K)).size)
            clear c0 c1 c2 c3 c4 c5
            have X := X.out.below hb
            obtain ⟨c0, c1, c2, c3, c4, c5⟩ := X.cells
            have X := Hid.mk' X
            have BJ0 := BJ.out.c0
            have BJ1 := BJ.out.c1
            clear hb
            clear l0
            go_wp2_with fail
            refine (V2.out _).mono ?_
            rintro e w16 ⟨rfl, hb⟩
            clear c0 c1 c2 c3 c4 c5
            have X := X.out.below hb
            clear BJ0 BJ1
            have BJ := Hid.mk' (BJ.out.below hb)
            obtain ⟨c0, c1, c2, c3, c4, c5⟩ := X.cells
            have X := Hid.mk' X
            have BJ0 := BJ.out.c0
            have BJ1 := BJ.out.c1
            clear hb
            have B := Hid.mk' X.out.old
            have eJ := HJ.out
            have eK := HK.out
            clear X BJ
            by_cases q1 : J = al
            · have q1' : (J == al) = true := by simp [q1]
              by_cases q2 : K = ah
              · have q2' : (K == ah) = true := by simp [q2]
                clear q1 q2 eJ eK
                go_wp2_with fail
                go_ret
                exact ⟨rfl, B.out⟩
              · have q2' : (K == ah) = false := by simp [q2]
                have q3' : (K == bh) = true := by simp; omega
                clear q1 q2 eJ eK
                go_wp2_with fail
                go_ret
                exact ⟨rfl, B.out⟩
            · have q1' : (J == al) = false := by simp [q1]
              have q4' : (J == bl) = true := by simp; omega
              by_cases q2 : K = ah
              · have q2' : (K == ah) = true := by simp [q2]
                clear q1 q2 eJ eK
                go_wp2_with fail
                go_ret
                exact ⟨rfl, B.out⟩
              · have q2' : (K == ah) = false := by simp [q2]
                have q3' : (K == bh) = true := by simp; omega
                clear q1 q2 eJ eK
                go_wp2_with fail
                go_ret
                exact ⟨rfl, B.out⟩
    · have e2 := ckS_1 h2
      clear h h1 h2 x0 x1 y0 y1 mo0 mo1 p0 p1
      go_enter Try.func3, Try.ntmps3
      go_wp2_with fail
      refine (works_any _).mono ?_
      rintro e w1 ⟨rfl, hb⟩
      have X := (Tw.new W al ah bl bh x y).below hb
      obtain ⟨c0, c1, c2, c3, c4, c5⟩ := X.cells
      have X := Hid.mk' X
      clear hb
      go_wp2_with fail
      refine (check_any _ _ _).mono ?_
      rintro e w2 ⟨rfl, hb⟩
      rw [e1]
      have X := X.out.below hb
      clear c0 c1 c2 c3 c4 c5
      obtain ⟨c0, c1, c2, c3, c4, c5⟩ := X.cells
      have X := Hid.mk' X
      clear hb
      go_wp2_with fail
      refine (check_any _ _ _).mono ?_
      rintro e w3 ⟨rfl, hb⟩
      rw [e2]
      have X := Hid.mk' (X.out.below hb)
      clear hb
      go_wp2_with fail
      go_ret
      exact ⟨rfl, X.out.old⟩
  · have e1 := ckS_1 h1
    clear h h1 x0 x1 y0 y1 mo0 mo1 p0 p1
    go_enter Try.func3, Try.ntmps3
    go_wp2_with fail
    refine (works_any _).mono ?_
    rintro e w1 ⟨rfl, hb⟩
    have X := (Tw.new W al ah bl bh x y).below hb
    obtain ⟨c0, c1, c2, c3, c4, c5⟩ := X.cells
    have X := Hid.mk' X
    clear hb
    go_wp2_with fail
    refine (check_any _ _ _).mono ?_
    rintro e w3 ⟨rfl, hb⟩
    rw [e1]
    have X := Hid.mk' (X.out.below hb)
    clear hb
    go_wp2_with fail
    go_ret
    exact ⟨rfl, X.out.old⟩

theorem walkSpanOver (m0 : sh26.M) (x1 x2 : Int) (W : World) (o0 : sh26.ok W m0) (h1 : (Lit.int .u64 x1).wf = true) (h2 : (Lit.int .u8 x2).wf = true) :
    Calls Try.prog 3 #[.agg (sh26.cs m0).toArray, .int .u64 x1, .int .u8 x2] W fun e w' => e = .returned (.bool true) ∧ Below W.heap.size W w' := by
  obtain ⟨⟨al, ah⟩, ⟨bl, bh⟩, x, y⟩ := m0
  obtain ⟨h, x0, x1', y0, y1⟩ := two_of o0
  have a1 := bounds_u64 h1
  have a2 := bounds_u8 h2
  exact overs_ints al ah bl bh x y x1 x2 W h x0 x1' y0 y1 a1.1 a1.2 a2.1 a2.2
end Go.Proofs.Ytpmbdnmiokkknab
