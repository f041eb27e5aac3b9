/- The walk of SpanCuts. -/
import Derived.Test.YtpmbdnmiokkknaaEb
import Derived.Test.YtpmbdnmiokkknaaDx
import Derived.Deep.LoopGhost
namespace Go.Proofs.Ytpmbdnmiokkknaa
open Go.ChangeShapes Go.WideShapes Go.ChangeAt Go.RowKit
set_option maxRecDepth 10000
set_option linter.unusedVariables false

set_option maxHeartbeats 4000000 in
theorem cuts_ints (o al ah bl bh : Int) (W : World) (h : U4 al ah bl bh) :
    Calls Try.prog 5 #[.int .u8 o, spV (al, ah), spV (bl, bh)] W fun e w' => e = .returned (.bool true) ∧ Below W.heap.size W w' := by
  have K1 := Hid.mk' (fun x y u => pcut_any x y al ah bl bh u h)
  have K2 := Hid.mk' (fun x y u => rcut_any x y al ah bl bh u h)
  have X2 := Hid.mk' (((BxE.nil W).add al ah).add bl bh).out
  clear h
  go_enter Try.func5, Try.ntmps5
  go_wp2_with fail
  go_loopg [7] 40 (fun g i wr => ∃ k : Nat, k ≤ 40 ∧ 40 - k ≤ g ∧ i = .int .i64 k ∧ Hid (Bxs W wr [(al, ah), (bl, bh)]))
  case atStart => exact ⟨0, Nat.zero_le _, by omega, rfl, X2⟩
  case round =>
    obtain ⟨k, hk, hkg, rfl, HB⟩ := hrel
    by_cases hlt : k < 40
    · have hlk : (k : Int) < 40 := by omega
      by_cases hz : k = 0
      · subst hz
        go_wp2_with fail
        go_loopg [9] 2 (fun g i wr => ∃ j : Nat, j ≤ 2 ∧ 2 - j ≤ g ∧ i = .int .i64 j ∧ Hid (Bxs W wr [(al, ah), (bl, bh)]))
        case atStart => exact ⟨0, Nat.zero_le _, by omega, rfl, HB⟩
        case round =>
          obtain ⟨j, hj2, hjg, rfl, HI⟩ := hrel
          by_cases hjl : j < 2
          · obtain ⟨c0, c1, d0, d1⟩ := twoB HI.out
            rcases (show j = 0 ∨ j = 1 by omega) with hj | hj
            · subst hj
              have C1 := Hid.mk' (fun u => K1.out o false u)
              have C2 := Hid.mk' (fun u => K2.out o false u)
              generalize ctX o false al ah bl bh = RX at *
              generalize ctY o false al ah bl bh = RY at *
              generalize ctC o false al ah bl bh = C at *
              generalize ctE o al ah bl bh = E at *
              obtain ⟨x, y⟩ := RX
              obtain ⟨x', y'⟩ := RY
              have hne1 := fun u => sp_ne_same x y u
              have hne2 := fun u => sp_ne_same x' y' u
              go_wp2_with fail
              refine (C1.out _).mono ?_
              rintro e w1 ⟨rfl, b1⟩
              have X := HI.out.below b1
              obtain ⟨c0, c1, d0, d1⟩ := twoB X
              have l0 : W.heap.size < w1.heap.size := (X.at 0 (p := (al, ah)) rfl).lt
              have l1 : W.heap.size + 1 < w1.heap.size := (X.at 1 (p := (bl, bh)) rfl).lt
              have l2 : W.heap.size < w1.heap.size + 1 := by omega
              have l3 : W.heap.size + 1 < w1.heap.size + 1 := by omega
              have X := Hid.mk' X
              clear b1
              go_wp2_with fail
              refine (C2.out _).mono ?_
              rintro e w2 ⟨rfl, b2⟩
              have T := ((Box.new w1 x y rfl).alloc (spO x' y')).below b2
              have T' := (Box.new (w1.alloc (spO x y)) x' y' rfl).below b2
              have g0 := T.c0
              have g1 := T.c1
              have g2 : w2.cell? ⟨w1.heap.size + 1, 0, none⟩ = some (.int .u64 x') := by have := T'.c0; simpa using this
              have g3 : w2.cell? ⟨w1.heap.size + 1, 1, none⟩ = some (.int .u64 y') := by have := T'.c1; simpa using this
              have m0 : w1.heap.size < w2.heap.size := T.lt
              have m1 : w1.heap.size + 1 < w2.heap.size := by have := T'.lt; simpa using this
              have m2 : w1.heap.size < w2.heap.size + 1 := by omega
              have m3 : w1.heap.size + 1 < w2.heap.size + 1 := by omega
              have X := X.out.below ((bl2 w1 (spO x y) (spO x' y')).trans (b2.mono (by simp; omega)))
              have Y := Hid.mk' (X.below (bl2 w2 (spO x y) (spO x' y')))
              clear T T' b2 X c0 c1 d0 d1 l0 l1 l2 l3
              go_wp2_with fail
              go_roundg 1
              case measure => omega
              case rel => exact ⟨1, by omega, by omega, by go_num, Y⟩
            · subst hj
              have C1 := Hid.mk' (fun u => K1.out o true u)
              have C2 := Hid.mk' (fun u => K2.out o true u)
              generalize ctX o true al ah bl bh = RX at *
              generalize ctY o true al ah bl bh = RY at *
              generalize ctC o true al ah bl bh = C at *
              generalize ctE o al ah bl bh = E at *
              obtain ⟨x, y⟩ := RX
              obtain ⟨x', y'⟩ := RY
              have hne1 := fun u => sp_ne_same x y u
              have hne2 := fun u => sp_ne_same x' y' u
              go_wp2_with fail
              refine (C1.out _).mono ?_
              rintro e w1 ⟨rfl, b1⟩
              have X := HI.out.below b1
              obtain ⟨c0, c1, d0, d1⟩ := twoB X
              have l0 : W.heap.size < w1.heap.size := (X.at 0 (p := (al, ah)) rfl).lt
              have l1 : W.heap.size + 1 < w1.heap.size := (X.at 1 (p := (bl, bh)) rfl).lt
              have l2 : W.heap.size < w1.heap.size + 1 := by omega
              have l3 : W.heap.size + 1 < w1.heap.size + 1 := by omega
              have X := Hid.mk' X
              clear b1
              go_wp2_with fail
              refine (C2.out _).mono ?_
              rintro e w2 ⟨rfl, b2⟩
              have T := ((Box.new w1 x y rfl).alloc (spO x' y')).below b2
              have T' := (Box.new (w1.alloc (spO x y)) x' y' rfl).below b2
              have g0 := T.c0
              have g1 := T.c1
              have g2 : w2.cell? ⟨w1.heap.size + 1, 0, none⟩ = some (.int .u64 x') := by have := T'.c0; simpa using this
              have g3 : w2.cell? ⟨w1.heap.size + 1, 1, none⟩ = some (.int .u64 y') := by have := T'.c1; simpa using this
              have m0 : w1.heap.size < w2.heap.size := T.lt
              have m1 : w1.heap.size + 1 < w2.heap.size := by have := T'.lt; simpa using this
              have m2 : w1.heap.size < w2.heap.size + 1 := by omega
              have m3 : w1.heap.size + 1 < w2.heap.size + 1 := by omega
              have X := X.out.below ((bl2 w1 (spO x y) (spO x' y')).trans (b2.mono (by simp; omega)))
              have Y := Hid.mk' (X.below (bl2 w2 (spO x y) (spO x' y')))
              clear T T' b2 X c0 c1 d0 d1 l0 l1 l2 l3
              go_wp2_with fail
              go_roundg 0
              case measure => omega
              case rel => exact ⟨2, by omega, by omega, by go_num, Y⟩
          · have hjk : ¬ (j : Int) < 2 := by omega
            go_wp2_with fail
            go_roundg (40 - (1))
            case measure => omega
            case rel => exact ⟨1, by omega, by omega, by go_num, HI⟩
      · have hz' : ((k : Int) == 0) = false := by simp; omega
        have hw : IntKind.u8.wrap (k : Int) = k := by rw [IntKind.wrap_u8']; omega
        go_wp2_with fail
        go_loopg [9] 2 (fun g i wr => ∃ j : Nat, j ≤ 2 ∧ 2 - j ≤ g ∧ i = .int .i64 j ∧ Hid (Bxs W wr [(al, ah), (bl, bh)]))
        case atStart => exact ⟨0, Nat.zero_le _, by omega, rfl, HB⟩
        case round =>
          obtain ⟨j, hj2, hjg, rfl, HI⟩ := hrel
          by_cases hjl : j < 2
          · obtain ⟨c0, c1, d0, d1⟩ := twoB HI.out
            rcases (show j = 0 ∨ j = 1 by omega) with hj | hj
            · subst hj
              have C1 := Hid.mk' (fun u => K1.out k false u)
              have C2 := Hid.mk' (fun u => K2.out k false u)
              generalize ctX k false al ah bl bh = RX at *
              generalize ctY k false al ah bl bh = RY at *
              generalize ctC k false al ah bl bh = C at *
              generalize ctE k al ah bl bh = E at *
              obtain ⟨x, y⟩ := RX
              obtain ⟨x', y'⟩ := RY
              have hne1 := fun u => sp_ne_same x y u
              have hne2 := fun u => sp_ne_same x' y' u
              go_wp2_with fail
              refine (C1.out _).mono ?_
              rintro e w1 ⟨rfl, b1⟩
              have X := HI.out.below b1
              obtain ⟨c0, c1, d0, d1⟩ := twoB X
              have l0 : W.heap.size < w1.heap.size := (X.at 0 (p := (al, ah)) rfl).lt
              have l1 : W.heap.size + 1 < w1.heap.size := (X.at 1 (p := (bl, bh)) rfl).lt
              have l2 : W.heap.size < w1.heap.size + 1 := by omega
              have l3 : W.heap.size + 1 < w1.heap.size + 1 := by omega
              have X := Hid.mk' X
              clear b1
              go_wp2_with fail
              refine (C2.out _).mono ?_
              rintro e w2 ⟨rfl, b2⟩
              have T := ((Box.new w1 x y rfl).alloc (spO x' y')).below b2
              have T' := (Box.new (w1.alloc (spO x y)) x' y' rfl).below b2
              have g0 := T.c0
              have g1 := T.c1
              have g2 : w2.cell? ⟨w1.heap.size + 1, 0, none⟩ = some (.int .u64 x') := by have := T'.c0; simpa using this
              have g3 : w2.cell? ⟨w1.heap.size + 1, 1, none⟩ = some (.int .u64 y') := by have := T'.c1; simpa using this
              have m0 : w1.heap.size < w2.heap.size := T.lt
              have m1 : w1.heap.size + 1 < w2.heap.size := by have := T'.lt; simpa using this
              have m2 : w1.heap.size < w2.heap.size + 1 := by omega
              have m3 : w1.heap.size + 1 < w2.heap.size + 1 := by omega
              have X := X.out.below ((bl2 w1 (spO x y) (spO x' y')).trans (b2.mono (by simp; omega)))
              have Y := Hid.mk' (X.below (bl2 w2 (spO x y) (spO x' y')))
              clear T T' b2 X c0 c1 d0 d1 l0 l1 l2 l3
              go_wp2_with fail
              go_roundg 1
              case measure => omega
              case rel => exact ⟨1, by omega, by omega, by go_num, Y⟩
            · subst hj
              have C1 := Hid.mk' (fun u => K1.out k true u)
              have C2 := Hid.mk' (fun u => K2.out k true u)
              generalize ctX k true al ah bl bh = RX at *
              generalize ctY k true al ah bl bh = RY at *
              generalize ctC k true al ah bl bh = C at *
              generalize ctE k al ah bl bh = E at *
              obtain ⟨x, y⟩ := RX
              obtain ⟨x', y'⟩ := RY
              have hne1 := fun u => sp_ne_same x y u
              have hne2 := fun u => sp_ne_same x' y' u
              go_wp2_with fail
              refine (C1.out _).mono ?_
              rintro e w1 ⟨rfl, b1⟩
              have X := HI.out.below b1
              obtain ⟨c0, c1, d0, d1⟩ := twoB X
              have l0 : W.heap.size < w1.heap.size := (X.at 0 (p := (al, ah)) rfl).lt
              have l1 : W.heap.size + 1 < w1.heap.size := (X.at 1 (p := (bl, bh)) rfl).lt
              have l2 : W.heap.size < w1.heap.size + 1 := by omega
              have l3 : W.heap.size + 1 < w1.heap.size + 1 := by omega
              have X := Hid.mk' X
              clear b1
              go_wp2_with fail
              refine (C2.out _).mono ?_
              rintro e w2 ⟨rfl, b2⟩
              have T := ((Box.new w1 x y rfl).alloc (spO x' y')).below b2
              have T' := (Box.new (w1.alloc (spO x y)) x' y' rfl).below b2
              have g0 := T.c0
              have g1 := T.c1
              have g2 : w2.cell? ⟨w1.heap.size + 1, 0, none⟩ = some (.int .u64 x') := by have := T'.c0; simpa using this
              have g3 : w2.cell? ⟨w1.heap.size + 1, 1, none⟩ = some (.int .u64 y') := by have := T'.c1; simpa using this
              have m0 : w1.heap.size < w2.heap.size := T.lt
              have m1 : w1.heap.size + 1 < w2.heap.size := by have := T'.lt; simpa using this
              have m2 : w1.heap.size < w2.heap.size + 1 := by omega
              have m3 : w1.heap.size + 1 < w2.heap.size + 1 := by omega
              have X := X.out.below ((bl2 w1 (spO x y) (spO x' y')).trans (b2.mono (by simp; omega)))
              have Y := Hid.mk' (X.below (bl2 w2 (spO x y) (spO x' y')))
              clear T T' b2 X c0 c1 d0 d1 l0 l1 l2 l3
              go_wp2_with fail
              go_roundg 0
              case measure => omega
              case rel => exact ⟨2, by omega, by omega, by go_num, Y⟩
          · have hjk : ¬ (j : Int) < 2 := by omega
            go_wp2_with fail
            go_roundg (40 - (k + 1))
            case measure => omega
            case rel => exact ⟨k + 1, by omega, by omega, by go_num, HI⟩
    · have hlk : ¬ (k : Int) < 40 := by omega
      go_wp2_with fail
      refine (works_any _).mono ?_
      rintro e w1 ⟨rfl, b1⟩
      go_wp2_with fail
      go_ret
      exact ⟨rfl, HB.out.old.trans (b1.mono HB.out.old.size)⟩

theorem walkSpanCuts (x0 : Int) (m1 m2 : sh24.M) (W : World) (h0 : (Lit.int .u8 x0).wf = true) (o1 : sh24.ok W m1) (o2 : sh24.ok W m2) :
    Calls Try.prog 5 #[.int .u8 x0, .agg (sh24.cs m1).toArray, .agg (sh24.cs m2).toArray] W fun e w' => e = .returned (.bool true) ∧ Below W.heap.size W w' := by
  obtain ⟨al, ah⟩ := m1
  obtain ⟨bl, bh⟩ := m2
  exact cuts_ints x0 al ah bl bh W (u4_of o1 o2)
end Go.Proofs.Ytpmbdnmiokkknaa
