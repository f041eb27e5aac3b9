/- The walk of SpanLeft. -/
import Derived.Test.YtpmbdnmiokkknaaDy
import Derived.Test.YtpmbdnmiokkknaaEe
import Derived.Test.YtpmbdnmiokkknaaEf
import Derived.Test.YtpmbdnmiokkknaaSp
namespace Go.Proofs.Ytpmbdnmiokkknaa
open Go.ChangeShapes Go.WideShapes Go.ChangeAt Go.RowKit
set_option maxRecDepth 10000
set_option linter.unusedVariables false

theorem sp_nes (x y : Int) (u : World) : Sem.run Try.prog (binOp .neq 24 (.agg #[.int .u64 x, .int .u64 y]) (.agg #[.int .u64 x, .int .u64 y])) u = .ok (.bool false) u := by
  have h := sp_ne x y x y u
  simp only [decide_true, Bool.and_self, Bool.not_true] at h
  exact h
/-- Two spans and two numbers, as cells. -/
abbrev twV (al ah bl bh x y : Int) : Value := .agg #[.int .u64 al, .int .u64 ah, .int .u64 bl, .int .u64 bh, .int .u64 x, .int .u64 y]
structure Tw (w u : World) (al ah bl bh x y : Int) : Prop where
  old : Below w.heap.size w u
  blk : u.heap[w.heap.size]? = some (.cells #[.int .u64 al, .int .u64 ah, .int .u64 bl, .int .u64 bh, .int .u64 x, .int .u64 y] 43 (0, 0))
theorem Tw.new (w : World) (al ah bl bh x y : Int) : Tw w (w.alloc (.cells #[.int .u64 al, .int .u64 ah, .int .u64 bl, .int .u64 bh, .int .u64 x, .int .u64 y] 43 (0, 0))) al ah bl bh x y := ⟨bl1 _ _, heap_alloc_new w _⟩
theorem Tw.lt {w u : World} {al ah bl bh x y : Int} (h : Tw w u al ah bl bh x y) : w.heap.size < u.heap.size := (Array.getElem?_eq_some_iff.1 h.blk).1
theorem Tw.below {w u u' : World} {al ah bl bh x y : Int} (h : Tw w u al ah bl bh x y) (k : Below u.heap.size u u') : Tw w u' al ah bl bh x y :=
  ⟨h.old.trans (k.mono h.old.size), (k.block _ h.lt).trans h.blk⟩
theorem Tw.cells {w u : World} {al ah bl bh x y : Int} (h : Tw w u al ah bl bh x y) :
    u.cell? ⟨w.heap.size, 0, none⟩ = some (.int .u64 al) ∧ u.cell? ⟨w.heap.size, 1, none⟩ = some (.int .u64 ah) ∧ u.cell? ⟨w.heap.size, 2, none⟩ = some (.int .u64 bl) ∧ u.cell? ⟨w.heap.size, 3, none⟩ = some (.int .u64 bh) ∧ u.cell? ⟨w.heap.size, 4, none⟩ = some (.int .u64 x) ∧ u.cell? ⟨w.heap.size, 5, none⟩ = some (.int .u64 y) := by
  have e : ∀ j, u.cell? ⟨w.heap.size, j, none⟩ = (#[.int .u64 al, .int .u64 ah, .int .u64 bl, .int .u64 bh, .int .u64 x, .int .u64 y] : Array Value)[j]? := fun j => cell_of_row u w.heap.size j _ _ _ h.blk
  exact ⟨e 0, e 1, e 2, e 3, e 4, e 5⟩
theorem two_of {W : World} {al ah bl bh x y : Int} (h : sh43.ok W ((al, ah), (bl, bh), x, y)) : U4 al ah bl bh ∧ 0 ≤ x ∧ x ≤ 18446744073709551615 ∧ 0 ≤ y ∧ y ≤ 18446744073709551615 := by
  obtain ⟨⟨h1, h2⟩, ⟨h3, h4⟩, h5, h6⟩ := h
  have a1 := bounds_u64 h1
  have a2 := bounds_u64 h2
  have a3 := bounds_u64 h3
  have a4 := bounds_u64 h4
  have a5 := bounds_u64 h5
  have a6 := bounds_u64 h6
  exact ⟨⟨a1.1, a1.2, a2.1, a2.2, a3.1, a3.2, a4.1, a4.2⟩, a5.1, a5.2, a6.1, a6.2⟩

/-- All that a round asks: the comparison, both cuts, and what is told of what they leave. -/
theorem left_round (o al ah bl bh p q : Int) (h : U4 al ah bl bh) (ho : 23 ≤ o ∧ o ≤ 32) (ha : al ≤ p ∧ p ≤ ah) (hb : bl ≤ q ∧ q ≤ bh) :
    ∃ (so C : Bool) (P1 P2 Q1 Q2 R1 R2 S1 S2 : Int),
      (∀ u, Calls Try.prog 26 #[.int .u8 o, .int .u64 p, .int .u64 q] u fun e w' => e = .returned (.tuple #[.bool so, .int .i64 0]) ∧ u = w') ∧
      (∀ u, Calls Try.prog 24 #[.int .u8 o, .bool so, spV (al, ah), spV (bl, bh)] u fun e w' => e = .returned (.tuple #[spV (P1, P2), spV (Q1, Q2), .bool true, .int .i64 0]) ∧ Below u.heap.size u w') ∧
      (∀ u, Calls Try.prog 15 #[spV (P1, P2), .int .u64 p] u fun e w' => e = .returned (.bool true) ∧ Below u.heap.size u w') ∧
      (∀ u, Calls Try.prog 15 #[spV (Q1, Q2), .int .u64 q] u fun e w' => e = .returned (.bool true) ∧ Below u.heap.size u w') ∧
      (∀ u, Calls Try.prog 19 #[spV (P1, P2), spV (al, ah)] u fun e w' => e = .returned (.bool true) ∧ Below u.heap.size u w') ∧
      (∀ u, Calls Try.prog 19 #[spV (Q1, Q2), spV (bl, bh)] u fun e w' => e = .returned (.bool true) ∧ Below u.heap.size u w') ∧
      (∀ u, Calls Try.prog 24 #[.int .u8 o, .bool (!so), spV (al, ah), spV (bl, bh)] u fun e w' => e = .returned (.tuple #[spV (R1, R2), spV (S1, S2), .bool C, .int .i64 0]) ∧ Below u.heap.size u w') ∧
      (C = true → (∀ u, Calls Try.prog 19 #[spV (R1, R2), spV (al, ah)] u fun e w' => e = .returned (.bool true) ∧ Below u.heap.size u w') ∧
        (∀ u, Calls Try.prog 19 #[spV (S1, S2), spV (bl, bh)] u fun e w' => e = .returned (.bool true) ∧ Below u.heap.size u w') ∧
        (∀ u, Calls Try.prog 13 #[spV (R1, R2)] u fun e w' => e = .returned (.int .i64 0) ∧ Below u.heap.size u w') ∧
        (∀ u, Calls Try.prog 13 #[spV (S1, S2)] u fun e w' => e = .returned (.int .i64 0) ∧ Below u.heap.size u w')) ∧
      (C = false → R1 = 0 ∧ R2 = 0 ∧ S1 = 0 ∧ S2 = 0) := by
  obtain ⟨e1, e2, e3, e4, e5, e6⟩ := ct_left o al ah bl bh p q ho ha hb
  obtain ⟨f1, f2, f3⟩ := ct_other o al ah bl bh (!cmB o p q) ho (by omega) (by omega)
  refine ⟨cmB o p q, ctC o (!cmB o p q) al ah bl bh, (ctX o (cmB o p q) al ah bl bh).1, (ctX o (cmB o p q) al ah bl bh).2, (ctY o (cmB o p q) al ah bl bh).1, (ctY o (cmB o p q) al ah bl bh).2,
    (ctX o (!cmB o p q) al ah bl bh).1, (ctX o (!cmB o p q) al ah bl bh).2, (ctY o (!cmB o p q) al ah bl bh).1, (ctY o (!cmB o p q) al ah bl bh).2, fun u => ?_, fun u => ?_, fun u => ?_, fun u => ?_, fun u => ?_, fun u => ?_, fun u => ?_, fun hC => ?_, fun hC => ?_⟩
  · have := compare_any o p q u
    rw [show cmE o = 0 by unfold cmE; rw [if_pos ho]] at this
    exact this
  · have := pcut_any o (cmB o p q) al ah bl bh u h
    rw [e1, e2] at this
    exact this
  · have := has_any (ctX o (cmB o p q) al ah bl bh).1 (ctX o (cmB o p q) al ah bl bh).2 p u
    rw [e3] at this
    exact this
  · have := has_any (ctY o (cmB o p q) al ah bl bh).1 (ctY o (cmB o p q) al ah bl bh).2 q u
    rw [e4] at this
    exact this
  · have := under_any (ctX o (cmB o p q) al ah bl bh).1 (ctX o (cmB o p q) al ah bl bh).2 al ah u
    rw [e5] at this
    exact this
  · have := under_any (ctY o (cmB o p q) al ah bl bh).1 (ctY o (cmB o p q) al ah bl bh).2 bl bh u
    rw [e6] at this
    exact this
  · have := pcut_any o (!cmB o p q) al ah bl bh u h
    rw [f1] at this
    exact this
  · obtain ⟨g1, g2, g3, g4⟩ := f2 hC
    refine ⟨fun u => ?_, fun u => ?_, fun u => ?_, fun u => ?_⟩
    · have := under_any (ctX o (!cmB o p q) al ah bl bh).1 (ctX o (!cmB o p q) al ah bl bh).2 al ah u
      rw [g1] at this
      exact this
    · have := under_any (ctY o (!cmB o p q) al ah bl bh).1 (ctY o (!cmB o p q) al ah bl bh).2 bl bh u
      rw [g2] at this
      exact this
    · have := check_any (ctX o (!cmB o p q) al ah bl bh).1 (ctX o (!cmB o p q) al ah bl bh).2 u
      rw [g3] at this
      exact this
    · have := check_any (ctY o (!cmB o p q) al ah bl bh).1 (ctY o (!cmB o p q) al ah bl bh).2 u
      rw [g4] at this
      exact this
  · obtain ⟨g1, g2⟩ := f3 hC
    rw [g1, g2]
    exact ⟨rfl, rfl, rfl, rfl⟩

set_option maxHeartbeats 4000000 in
theorem lefts_ints (al ah bl bh x y : Int) (W : World) (h : U4 al ah bl bh) (x0 : 0 ≤ x) (x1 : x ≤ 18446744073709551615) (y0 : 0 ≤ y) (y1 : y ≤ 18446744073709551615) :
    Calls Try.prog 8 #[twV al ah bl bh x y] W fun e w' => e = .returned (.bool true) ∧ Below W.heap.size W w' := by
  by_cases h1 : al ≤ ah
  · have e1 := ckS_0 h1
    by_cases h2 : bl ≤ bh
    · have e2 := ckS_0 h2
      have I1 := Hid.mk' (fun u => inside_any al ah x u h.a0 h.a3 h1 x0 x1)
      have I2 := Hid.mk' (fun u => inside_any bl bh y u h.b0 h.b3 h2 y0 y1)
      have HU := Hid.mk' h
      have HPQ := Hid.mk' (And.intro (inN_in h.a0 h.a3 h1 x0 x1) (inN_in h.b0 h.b3 h2 y0 y1))
      have hne := fun u => sp_nes 0 0 u
      clear h h1 h2 x0 x1 y0 y1
      generalize inN al ah x = p at *
      generalize inN bl bh y = q at *
      go_enter Try.func8, Try.ntmps8
      go_wp2_with fail
      refine (works_any _).mono ?_
      rintro e w1 ⟨rfl, hb⟩
      have X := (Tw.new W al ah bl bh x y).below hb
      obtain ⟨c0, c1, c2, c3, c4, c5⟩ := X.cells
      have X := Hid.mk' X
      clear hb
      go_wp2_with fail
      refine (check_any _ _ _).mono ?_
      rintro e w2 ⟨rfl, hb⟩
      rw [e1]
      have X := X.out.below hb
      clear c0 c1 c2 c3 c4 c5
      obtain ⟨c0, c1, c2, c3, c4, c5⟩ := X.cells
      have X := Hid.mk' X
      clear hb
      go_wp2_with fail
      refine (check_any _ _ _).mono ?_
      rintro e w3 ⟨rfl, hb⟩
      rw [e2]
      have X := X.out.below hb
      clear c0 c1 c2 c3 c4 c5
      obtain ⟨c0, c1, c2, c3, c4, c5⟩ := X.cells
      have X := Hid.mk' X
      clear hb
      go_wp2_with fail
      go_region_held3 (fun w' => w'.cell? ⟨W.heap.size, 0, none⟩ = some (.int .u64 al) ∧ w'.cell? ⟨W.heap.size, 1, none⟩ = some (.int .u64 ah) ∧ w'.cell? ⟨W.heap.size, 2, none⟩ = some (.int .u64 bl) ∧ w'.cell? ⟨W.heap.size, 3, none⟩ = some (.int .u64 bh) ∧ w'.cell? ⟨W.heap.size, 4, none⟩ = some (.int .u64 x) ∧ w'.cell? ⟨W.heap.size, 5, none⟩ = some (.int .u64 y)) (go_keep) (first
        | (go_at_call 28; have hh := X4; refine (I2.out w4).mono ?_; rintro e w5 ⟨rfl, hb⟩; have X5 := X4.out.below hb; obtain ⟨e0, e1', e2', e3, e4, e5⟩ := X5.cells; have X5 := Hid.mk' X5; clear hb hh)
        | (go_at_call 28; refine (I1.out w3.drew).mono ?_; rintro e w4 ⟨rfl, hb⟩; have X4 := X.out.below (((Below.refl w3.heap.size w3).drew).trans hb); obtain ⟨d0, d1, d2, d3, d4, d5⟩ := X4.cells; have X4 := Hid.mk' X4; clear hb))
      all_goals
        go_wp2_with fail
        clear c0 c1 c2 c3 c4 c5 d0 d1 d2 d3 d4 d5 e0 e1 e2 e3 e4 e5 e1' e2' I1 I2 X X4
        go_loopw [9] (fun i wr => ∃ k : Nat, 23 ≤ k ∧ k ≤ 33 ∧ i = .int .u8 k ∧ Hid (Tw W wr al ah bl bh x y)) (fun i _ => 33 - (intOf i).toNat)
        case atStart => exact ⟨23, by omega, by omega, rfl, X5⟩
        case round =>
          obtain ⟨k, hk1, hk2, rfl, HX⟩ := hrel
          clear X5
          by_cases hlt : k ≤ 32
          · have hlk : (k : Int) ≤ 32 := by omega
            have hlg : (23 : Int) ≤ k := by omega
            obtain ⟨so, C, P1, P2, Q1, Q2, R1, R2, S1, S2, k1, k2, k3, k4, k5, k6, k7, k8, k9⟩ := left_round k al ah bl bh p q HU.out ⟨hlg, hlk⟩ HPQ.out.1 HPQ.out.2
            have K1 := Hid.mk' k1
            have KC1 := Hid.mk' k2
            have KH1 := Hid.mk' k3
            have KH2 := Hid.mk' k4
            have KU1 := Hid.mk' k5
            have KU2 := Hid.mk' k6
            have KC2 := Hid.mk' k7
            have KT := Hid.mk' k8
            have KF := Hid.mk' k9
            clear k1 k2 k3 k4 k5 k6 k7 k8 k9
            have X := HX.out
            obtain ⟨c0, c1, c2, c3, c4, c5⟩ := X.cells
            have X := Hid.mk' X
            go_wp2_with fail
            refine (K1.out _).mono ?_
            rintro e w1 ⟨rfl, rfl⟩
            go_wp2_with fail
            refine (KC1.out _).mono ?_
            rintro e w2 ⟨rfl, hb⟩
            clear c0 c1 c2 c3 c4 c5
            have X := X.out.below hb
            obtain ⟨c0, c1, c2, c3, c4, c5⟩ := X.cells
            have X := Hid.mk' X
            clear hb
            have l0 : W.heap.size < w2.heap.size := X.out.lt
            have l1 : W.heap.size < w2.heap.size + 1 := by omega
            go_wp2_with fail
            refine (KH1.out _).mono ?_
            rintro e w3 ⟨rfl, hb⟩
            have BP := Hid.mk' (((Box.new w2 P1 P2 rfl).alloc (spO Q1 Q2)).below hb)
            have BQ : Hid (Box w3 (w2.heap.size + 1) Q1 Q2) := Hid.mk' ((Box.new (w2.alloc (spO P1 P2)) Q1 Q2 (by simp)).below hb)
            have hb := (bl2 w2 (spO P1 P2) (spO Q1 Q2)).trans (hb.mono (bl2 w2 (spO P1 P2) (spO Q1 Q2)).size)
            clear c0 c1 c2 c3 c4 c5
            have X := X.out.below hb
            obtain ⟨c0, c1, c2, c3, c4, c5⟩ := X.cells
            have X := Hid.mk' X
            have BP0 := BP.out.c0
            have BP1 := BP.out.c1
            have BQ0 := BQ.out.c0
            have BQ1 := BQ.out.c1
            clear hb
            clear l0 l1
            go_wp2_with fail
            refine (KH2.out _).mono ?_
            rintro e w4 ⟨rfl, hb⟩
            clear c0 c1 c2 c3 c4 c5
            have X := X.out.below hb
            clear BP0 BP1
            have BP := Hid.mk' (BP.out.below hb)
            clear BQ0 BQ1
            have BQ := Hid.mk' (BQ.out.below hb)
            obtain ⟨c0, c1, c2, c3, c4, c5⟩ := X.cells
            have X := Hid.mk' X
            have BP0 := BP.out.c0
            have BP1 := BP.out.c1
            have BQ0 := BQ.out.c0
            have BQ1 := BQ.out.c1
            clear hb
            go_wp2_with fail
            refine (KU1.out _).mono ?_
            rintro e w5 ⟨rfl, hb⟩
            clear c0 c1 c2 c3 c4 c5
            have X := X.out.below hb
            clear BP0 BP1
            have BP := Hid.mk' (BP.out.below hb)
            clear BQ0 BQ1
            have BQ := Hid.mk' (BQ.out.below hb)
            obtain ⟨c0, c1, c2, c3, c4, c5⟩ := X.cells
            have X := Hid.mk' X
            have BP0 := BP.out.c0
            have BP1 := BP.out.c1
            have BQ0 := BQ.out.c0
            have BQ1 := BQ.out.c1
            clear hb
            go_wp2_with fail
            refine (KU2.out _).mono ?_
            rintro e w6 ⟨rfl, hb⟩
            clear c0 c1 c2 c3 c4 c5
            have X := X.out.below hb
            clear BP0 BP1
            have BP := Hid.mk' (BP.out.below hb)
            clear BQ0 BQ1
            have BQ := Hid.mk' (BQ.out.below hb)
            obtain ⟨c0, c1, c2, c3, c4, c5⟩ := X.cells
            have X := Hid.mk' X
            have BP0 := BP.out.c0
            have BP1 := BP.out.c1
            have BQ0 := BQ.out.c0
            have BQ1 := BQ.out.c1
            clear hb
            clear BP0 BP1 BQ0 BQ1
            go_wp2_with fail
            refine (KC2.out _).mono ?_
            rintro e w7 ⟨rfl, hb⟩
            clear c0 c1 c2 c3 c4 c5
            have X := X.out.below hb
            obtain ⟨c0, c1, c2, c3, c4, c5⟩ := X.cells
            have X := Hid.mk' X
            clear hb
            have l0 : W.heap.size < w7.heap.size := X.out.lt
            have l1 : W.heap.size < w7.heap.size + 1 := by omega
            cases C with
            | false =>
              obtain ⟨rfl, rfl, rfl, rfl⟩ := KF.out rfl
              have Y := Hid.mk' (X.out.below (bl2 w7 (spO 0 0) (spO 0 0)))
              go_wp2_with fail
              go_roundw
              case rel => exact ⟨k + 1, by omega, by omega, by go_num, Y⟩
              case measure => simp [intOf]; omega
            | true =>
              obtain ⟨k1, k2, k3, k4⟩ := KT.out rfl
              have KU3 := Hid.mk' k1
              have KU4 := Hid.mk' k2
              have KK3 := Hid.mk' k3
              have KK4 := Hid.mk' k4
              clear k1 k2 k3 k4
              go_wp2_with fail
              refine (KU3.out _).mono ?_
              rintro e w8 ⟨rfl, hb⟩
              have BR := Hid.mk' (((Box.new w7 R1 R2 rfl).alloc (spO S1 S2)).below hb)
              have BS : Hid (Box w8 (w7.heap.size + 1) S1 S2) := Hid.mk' ((Box.new (w7.alloc (spO R1 R2)) S1 S2 (by simp)).below hb)
              have hb := (bl2 w7 (spO R1 R2) (spO S1 S2)).trans (hb.mono (bl2 w7 (spO R1 R2) (spO S1 S2)).size)
              clear c0 c1 c2 c3 c4 c5
              have X := X.out.below hb
              obtain ⟨c0, c1, c2, c3, c4, c5⟩ := X.cells
              have X := Hid.mk' X
              have BR0 := BR.out.c0
              have BR1 := BR.out.c1
              have BS0 := BS.out.c0
              have BS1 := BS.out.c1
              clear hb
              clear l0 l1
              go_wp2_with fail
              refine (KU4.out _).mono ?_
              rintro e w9 ⟨rfl, hb⟩
              clear c0 c1 c2 c3 c4 c5
              have X := X.out.below hb
              clear BR0 BR1
              have BR := Hid.mk' (BR.out.below hb)
              clear BS0 BS1
              have BS := Hid.mk' (BS.out.below hb)
              obtain ⟨c0, c1, c2, c3, c4, c5⟩ := X.cells
              have X := Hid.mk' X
              have BR0 := BR.out.c0
              have BR1 := BR.out.c1
              have BS0 := BS.out.c0
              have BS1 := BS.out.c1
              clear hb
              go_wp2_with fail
              refine (KK3.out _).mono ?_
              rintro e w10 ⟨rfl, hb⟩
              clear c0 c1 c2 c3 c4 c5
              have X := X.out.below hb
              clear BR0 BR1
              have BR := Hid.mk' (BR.out.below hb)
              clear BS0 BS1
              have BS := Hid.mk' (BS.out.below hb)
              obtain ⟨c0, c1, c2, c3, c4, c5⟩ := X.cells
              have X := Hid.mk' X
              have BR0 := BR.out.c0
              have BR1 := BR.out.c1
              have BS0 := BS.out.c0
              have BS1 := BS.out.c1
              clear hb
              go_wp2_with fail
              refine (KK4.out _).mono ?_
              rintro e w11 ⟨rfl, hb⟩
              clear c0 c1 c2 c3 c4 c5
              have X := X.out.below hb
              clear BR0 BR1
              have BR := Hid.mk' (BR.out.below hb)
              clear BS0 BS1
              have BS := Hid.mk' (BS.out.below hb)
              obtain ⟨c0, c1, c2, c3, c4, c5⟩ := X.cells
              have X := Hid.mk' X
              have BR0 := BR.out.c0
              have BR1 := BR.out.c1
              have BS0 := BS.out.c0
              have BS1 := BS.out.c1
              clear hb
              go_wp2_with fail
              go_roundw
              case rel => exact ⟨k + 1, by omega, by omega, by go_num, X⟩
              case measure => simp [intOf]; omega
          · have hlk : ¬ (k : Int) ≤ 32 := by omega
            go_wp2_with fail
            go_ret
            exact ⟨rfl, HX.out.old⟩
    · have e2 := ckS_1 h2
      have HC : Hid (∀ u, Calls Try.prog 24 #[.int .u8 27, .bool true, spV (al, ah), spV (bl, bh)] u fun e w' => e = .returned (.tuple #[spV (0, 0), spV (0, 0), .bool false, .int .i64 150]) ∧ Below u.heap.size u w') := Hid.mk' (fun u => by
        have := pcut_any 27 true al ah bl bh u h
        have e : ctE 27 al ah bl bh = 150 := by unfold ctE cbS; rw [if_pos (by decide), if_neg (fun k => h2 k.2)]
        have c : ctC 27 true al ah bl bh = false := by unfold ctC; rw [e]; rfl
        unfold ctX ctY at this
        rw [c, e] at this
        exact this)
      clear h h1 h2 x0 x1 y0 y1
      go_enter Try.func8, Try.ntmps8
      go_wp2_with fail
      refine (works_any _).mono ?_
      rintro e w1 ⟨rfl, hb⟩
      have X := (Tw.new W al ah bl bh x y).below hb
      obtain ⟨c0, c1, c2, c3, c4, c5⟩ := X.cells
      have X := Hid.mk' X
      clear hb
      go_wp2_with fail
      refine (check_any _ _ _).mono ?_
      rintro e w2 ⟨rfl, hb⟩
      rw [e1]
      have X := X.out.below hb
      clear c0 c1 c2 c3 c4 c5
      obtain ⟨c0, c1, c2, c3, c4, c5⟩ := X.cells
      have X := Hid.mk' X
      clear hb
      go_wp2_with fail
      refine (check_any _ _ _).mono ?_
      rintro e w3 ⟨rfl, hb⟩
      rw [e2]
      have X := X.out.below hb
      clear c0 c1 c2 c3 c4 c5
      obtain ⟨c0, c1, c2, c3, c4, c5⟩ := X.cells
      have X := Hid.mk' X
      clear hb
      go_wp2_with fail
      refine (HC.out _).mono ?_
      rintro e w4 ⟨rfl, hb⟩
      have B := Hid.mk' (X.out.old.trans (hb.mono X.out.old.size))
      clear hb
      go_wp2_with fail
      go_ret
      exact ⟨rfl, B.out.trans ((bl2 w4 (spO 0 0) (spO 0 0)).mono B.out.size)⟩
  · have e1 := ckS_1 h1
    have HC : Hid (∀ u, Calls Try.prog 24 #[.int .u8 27, .bool true, spV (al, ah), spV (bl, bh)] u fun e w' => e = .returned (.tuple #[spV (0, 0), spV (0, 0), .bool false, .int .i64 150]) ∧ Below u.heap.size u w') := Hid.mk' (fun u => by
      have := pcut_any 27 true al ah bl bh u h
      have e : ctE 27 al ah bl bh = 150 := by unfold ctE cbS; rw [if_pos (by decide), if_neg (fun k => h1 k.1)]
      have c : ctC 27 true al ah bl bh = false := by unfold ctC; rw [e]; rfl
      unfold ctX ctY at this
      rw [c, e] at this
      exact this)
    clear h h1 x0 x1 y0 y1
    go_enter Try.func8, Try.ntmps8
    go_wp2_with fail
    refine (works_any _).mono ?_
    rintro e w1 ⟨rfl, hb⟩
    have X := (Tw.new W al ah bl bh x y).below hb
    obtain ⟨c0, c1, c2, c3, c4, c5⟩ := X.cells
    have X := Hid.mk' X
    clear hb
    go_wp2_with fail
    refine (check_any _ _ _).mono ?_
    rintro e w2 ⟨rfl, hb⟩
    rw [e1]
    have X := X.out.below hb
    clear c0 c1 c2 c3 c4 c5
    obtain ⟨c0, c1, c2, c3, c4, c5⟩ := X.cells
    have X := Hid.mk' X
    clear hb
    go_wp2_with fail
    refine (HC.out _).mono ?_
    rintro e w3 ⟨rfl, hb⟩
    have B := Hid.mk' (X.out.old.trans (hb.mono X.out.old.size))
    clear hb
    go_wp2_with fail
    go_ret
    exact ⟨rfl, B.out.trans ((bl2 w3 (spO 0 0) (spO 0 0)).mono B.out.size)⟩

theorem walkSpanLeft (m0 : sh43.M) (W : World) (o0 : sh43.ok W m0) : Calls Try.prog 8 #[.agg (sh43.cs m0).toArray] W fun e w' => e = .returned (.bool true) ∧ Below W.heap.size W w' := by
  obtain ⟨⟨al, ah⟩, ⟨bl, bh⟩, x, y⟩ := m0
  obtain ⟨h, x0, x1, y0, y1⟩ := two_of o0
  exact lefts_ints al ah bl bh x y W h x0 x1 y0 y1
end Go.Proofs.Ytpmbdnmiokkknaa
