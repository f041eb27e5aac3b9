/- The contract of span.Cut. -/
import Derived.Test.YtpmbdnmiokkknabDl
import Derived.Test.YtpmbdnmiokkknabDh
import Derived.Deep.CutBlock
namespace Go.Proofs.Ytpmbdnmiokkknab
open Go.ChangeShapes Go.WideShapes Go.ChangeAt Go.RowKit
set_option maxRecDepth 10000
set_option linter.unusedVariables false

/-- The error of Cut; whether it can be; what is left of both. -/
def ctE (o al ah bl bh : Int) : Int := if 23 ≤ o ∧ o ≤ 32 then cbS al ah bl bh else 2
def ctC (o : Int) (y : Bool) (al ah bl bh : Int) : Bool := decide (ctE o al ah bl bh = 0) && cuC (toR o) (toB o y) al ah bl bh
def ctX (o : Int) (y : Bool) (al ah bl bh : Int) : Int × Int := if ctC o y al ah bl bh = true then cuX (toR o) (toB o y) al ah bl bh else (0, 0)
def ctY (o : Int) (y : Bool) (al ah bl bh : Int) : Int × Int := if ctC o y al ah bl bh = true then cuY (toR o) (toB o y) al ah bl bh else (0, 0)

theorem toR_in {o : Int} (h : 23 ≤ o ∧ o ≤ 32) : toR o = 1 ∨ toR o = 2 ∨ toR o = 3 := by
  rcases cm_cases h with rfl | rfl | rfl | rfl | rfl | rfl | rfl | rfl | rfl | rfl <;> decide

set_option maxHeartbeats 1000000 in
theorem pcut_any (o : Int) (y : Bool) (al ah bl bh : Int) (w : World) (h : U4 al ah bl bh) :
    Calls Try.prog 10 #[.int .u8 o, .bool y, spV (al, ah), spV (bl, bh)] w fun e w' =>
      e = .returned (.tuple #[spV (ctX o y al ah bl bh), spV (ctY o y al ah bl bh), .bool (ctC o y al ah bl bh), .int .i64 (ctE o al ah bl bh)]) ∧ Below w.heap.size w w' := by
  have X4 := Hid.mk' (((((BxE.nil w).add al ah).add bl bh).add 0 0).add 0 0).out
  have HB : Hid (∀ w1, Below _ _ w1 → Bxs w w1 [(al, ah), (bl, bh), (0, 0), (0, 0)]) := Hid.mk' (fun w1 b => X4.out.below b)
  have HT := Hid.mk' (fun u => told_any o y u)
  by_cases ho : 23 ≤ o ∧ o ≤ 32
  · have hr := toR_in ho
    have E : ctE o al ah bl bh = cbS al ah bl bh := by unfold ctE; rw [if_pos ho]
    have hn : ¬ toR o = 0 := by omega
    by_cases hk : al ≤ ah ∧ bl ≤ bh
    · have hb : cbS al ah bl bh = 0 := by unfold cbS; rw [if_pos hk]
      have C : ctC o y al ah bl bh = cuC (toR o) (toB o y) al ah bl bh := by unfold ctC; rw [E, hb]; rfl
      have HC := Hid.mk' (fun u => cut_any (toR o) (toB o y) al ah bl bh u h hk.1 hk.2 hr)
      unfold ctX ctY
      rw [C, E, hb]
      clear C E hr ho hk h
      generalize cuC (toR o) (toB o y) al ah bl bh = C at *
      generalize cuX (toR o) (toB o y) al ah bl bh = P at *
      generalize cuY (toR o) (toB o y) al ah bl bh = Q at *
      generalize toR o = r at *
      generalize toB o y = so at *
      obtain ⟨P1, P2⟩ := P
      obtain ⟨Q1, Q2⟩ := Q
      go_enter Try.func10, Try.ntmps10
      go_wp2_with fail
      refine (HT.out _).mono ?_
      rintro e w1 ⟨rfl, rfl⟩
      go_wp2_with fail
      refine (both_any _ _ _ _ _).mono ?_
      rintro e w1 ⟨rfl, b1⟩
      rw [hb]
      have X := HB.out w1 b1
      obtain ⟨c0, c1, d0, d1, -⟩ := four X
      have X := Hid.mk' X
      clear b1 X4
      go_wp2_with fail
      refine (HC.out _).mono ?_
      rintro e w2 ⟨rfl, b2⟩
      have X := X.out.below b2
      have hlt : w.heap.size + 1 + 1 + 1 < w2.heap.size := (X.at 3 (p := (0, 0)) rfl).lt
      clear b2 c0 c1 d0 d1
      cases C with
      | false =>
        obtain ⟨c0, c1, d0, d1, y0, y1, z0, z1, f0, f1, t0, t1⟩ := four X
        have X := Hid.mk' X
        have l2 : w.heap.size + 1 + 1 < w2.heap.size := by omega
        have l3 : w.heap.size + 1 + 1 < w2.heap.size + 1 := by omega
        have l4 : w.heap.size + 1 + 1 + 1 < w2.heap.size + 1 := by omega
        go_wp2_with fail
        have Y := (X.out.two 0 0 0 0).below (bl2 _ (spO P1 P2) (spO Q1 Q2))
        have R := Y.at 2 (p := (0, 0)) rfl
        have R' := Y.at 3 (p := (0, 0)) rfl
        refine ret_sp4 rfl rfl R.c0 R.c1 rfl R'.c0 R'.c1 rfl ?_
        exact ⟨rfl, Y.old⟩
      | true =>
        have X := Hid.mk' X
        go_wp2_with fail
        have X := X.out
        have B6 : Hid (Box ((w2.alloc (spO P1 P2)).alloc (spO Q1 Q2)) w2.heap.size P1 P2 ∧ Box ((w2.alloc (spO P1 P2)).alloc (spO Q1 Q2)) (w2.heap.size + 1) Q1 Q2 ∧ Bxs w ((w2.alloc (spO P1 P2)).alloc (spO Q1 Q2)) [(al, ah), (bl, bh), (0, 0), (0, 0)]) :=
          Hid.mk' ⟨(Box.new w2 P1 P2 rfl).alloc _, Box.new _ Q1 Q2 (by simp), X.below (bl2 _ _ _)⟩
        obtain ⟨u, hu⟩ : ∃ u, u = ((w2.alloc (spO P1 P2)).alloc (spO Q1 Q2)) := ⟨_, rfl⟩
        rw [← hu] at B6 ⊢
        clear hu X
        obtain ⟨k1, k2, X⟩ := B6.out
        obtain ⟨c0, c1, d0, d1, y0, y1, z0, z1, f0, f1, t0, t1⟩ := four X
        have g0 := k1.c0
        have g1 := k1.c1
        have j0 := k2.c0
        have j1 := k2.c1
        have X := Hid.mk' X
        clear B6 k1 k2
        have n1 : ¬ (w.heap.size + 1 + 1 = w2.heap.size) := by omega
        have n2 : ¬ (w.heap.size + 1 + 1 = w2.heap.size + 1) := by omega
        have n3 : ¬ (w.heap.size + 1 + 1 + 1 = w2.heap.size) := by omega
        have n4 : ¬ (w.heap.size + 1 + 1 + 1 = w2.heap.size + 1) := by omega
        go_region
        all_goals
          go_wp2_with fail
          have Y := (X.out.two P1 P2 Q1 Q2).dr (u' := _) ⟨1, rfl⟩
          have R := Y.at 2 (p := (P1, P2)) rfl
          have R' := Y.at 3 (p := (Q1, Q2)) rfl
          refine ret_sp4 rfl rfl R.c0 R.c1 rfl R'.c0 R'.c1 rfl ?_
          exact ⟨rfl, Y.old⟩
    · have hb : cbS al ah bl bh = 150 := by unfold cbS; rw [if_neg hk]
      have C : ctC o y al ah bl bh = false := by unfold ctC; rw [E, hb]; rfl
      unfold ctX ctY
      rw [C, E, hb]
      clear C E hr ho hk h
      generalize toR o = r at *
      generalize toB o y = so at *
      go_enter Try.func10, Try.ntmps10
      go_wp2_with fail
      refine (HT.out _).mono ?_
      rintro e w1 ⟨rfl, rfl⟩
      go_wp2_with fail
      refine (both_any _ _ _ _ _).mono ?_
      rintro e w1 ⟨rfl, b1⟩
      rw [hb]
      have X := HB.out w1 b1
      obtain ⟨c0, c1, d0, d1, y0, y1, z0, z1, f0, f1, t0, t1⟩ := four X
      have X := Hid.mk' X
      clear b1 X4
      go_wp2_with fail
      have Y := X.out.two 0 0 0 0
      have R := Y.at 2 (p := (0, 0)) rfl
      have R' := Y.at 3 (p := (0, 0)) rfl
      refine ret_sp4 rfl rfl R.c0 R.c1 rfl R'.c0 R'.c1 rfl ?_
      exact ⟨rfl, Y.old⟩
  · have hr : toR o = 0 := by unfold toR; rw [if_neg (by omega), if_neg (by omega), if_neg (by omega)]
    have E : ctE o al ah bl bh = 2 := by unfold ctE; rw [if_neg ho]
    have C : ctC o y al ah bl bh = false := by unfold ctC; rw [E]; rfl
    unfold ctX ctY
    rw [C, E]
    clear C E ho h
    generalize toB o y = so at *
    go_enter Try.func10, Try.ntmps10
    go_wp2_with fail
    refine (HT.out _).mono ?_
    rintro e w1 ⟨rfl, rfl⟩
    rw [hr]
    go_wp2_with fail
    have R := X4.out.at 2 (p := (0, 0)) rfl
    have R' := X4.out.at 3 (p := (0, 0)) rfl
    refine ret_sp4 rfl rfl R.c0 R.c1 rfl R'.c0 R'.c1 rfl ?_
    exact ⟨rfl, X4.out.old⟩
end Go.Proofs.Ytpmbdnmiokkknab
