/- The walk of SpanDoes. -/
import Derived.Test.YtpmbdnmiokkknaaDy
import Derived.Test.YtpmbdnmiokkknaaDr
import Derived.Test.YtpmbdnmiokkknaaSp
namespace Go.Proofs.Ytpmbdnmiokkknaa
open Go.ChangeShapes Go.WideShapes Go.ChangeAt Go.RowKit
set_option maxRecDepth 10000
set_option linter.unusedVariables false

theorem twoB {w u : World} {al ah bl bh : Int} (h : Bxs w u [(al, ah), (bl, bh)]) :
    u.cell? ⟨w.heap.size, 0, none⟩ = some (.int .u64 al) ∧ u.cell? ⟨w.heap.size, 1, none⟩ = some (.int .u64 ah) ∧ u.cell? ⟨w.heap.size + 1, 0, none⟩ = some (.int .u64 bl) ∧ u.cell? ⟨w.heap.size + 1, 1, none⟩ = some (.int .u64 bh) :=
  ⟨(h.at 0 (p := (al, ah)) rfl).c0, (h.at 0 (p := (al, ah)) rfl).c1, (h.at 1 (p := (bl, bh)) rfl).c0, (h.at 1 (p := (bl, bh)) rfl).c1⟩
theorem sp_ne_same (x y : Int) (u : World) : Sem.run Try.prog (binOp .neq 24 (.agg #[.int .u64 x, .int .u64 y]) (.agg #[.int .u64 x, .int .u64 y])) u = .ok (.bool false) u := by
  have h := sp_ne x y x y u
  simp only [decide_true, Bool.and_self, Bool.not_true] at h
  exact h
theorem sp_eq_same (x y : Int) (u : World) : Sem.run Try.prog (binOp .eql 24 (.agg #[.int .u64 x, .int .u64 y]) (.agg #[.int .u64 x, .int .u64 y])) u = .ok (.bool true) u := by
  have h := sp_eq x y x y u
  simp only [decide_true, Bool.and_self] at h
  exact h
theorem u4_of {W : World} {al ah bl bh : Int} (h : sh24.ok W (al, ah)) (k : sh24.ok W (bl, bh)) : U4 al ah bl bh := by
  obtain ⟨h1, h2⟩ := h
  obtain ⟨k1, k2⟩ := k
  have a1 := bounds_u64 h1
  have a2 := bounds_u64 h2
  have a3 := bounds_u64 k1
  have a4 := bounds_u64 k2
  exact ⟨a1.1, a1.2, a2.1, a2.2, a3.1, a3.2, a4.1, a4.2⟩

set_option maxHeartbeats 4000000 in
theorem does_ints (o al ah bl bh : Int) (W : World) (h : U4 al ah bl bh) :
    Calls Try.prog 4 #[.int .u8 o, spV (al, ah), spV (bl, bh)] W fun e w' => e = .returned (.bool true) ∧ Below W.heap.size W w' := by
  have K1 := Hid.mk' (fun x u => do_any x al ah bl bh u h)
  have K2 := Hid.mk' (fun x u => rdo_any x al ah bl bh u h)
  have X2 := Hid.mk' (((BxE.nil W).add al ah).add bl bh).out
  clear h
  go_enter Try.func4, Try.ntmps4
  go_wp2_with fail
  go_loopw [7] (fun i wr => ∃ k : Nat, k ≤ 40 ∧ i = .int .i64 k ∧ Hid (Bxs W wr [(al, ah), (bl, bh)])) (fun i _ => 40 - (intOf i).toNat)
  case atStart => exact ⟨0, Nat.zero_le _, rfl, X2⟩
  case round =>
    obtain ⟨k, hk, rfl, HB⟩ := hrel
    by_cases hlt : k < 40
    · have hlk : (k : Int) < 40 := by omega
      obtain ⟨c0, c1, d0, d1⟩ := twoB HB.out
      by_cases hz : k = 0
      · subst hz
        have C1 := Hid.mk' (fun u => K1.out o u)
        have C2 := Hid.mk' (fun u => K2.out o u)
        generalize doS o al ah bl bh = R at *
        generalize doE o al ah bl bh = E at *
        obtain ⟨x, y⟩ := R
        have hne := fun u => sp_ne_same x y u
        go_wp2_with fail
        refine (C1.out _).mono ?_
        rintro e w1 ⟨rfl, b1⟩
        have X := HB.out.below b1
        obtain ⟨c0, c1, d0, d1⟩ := twoB X
        have l0 : W.heap.size < w1.heap.size := (X.at 0 (p := (al, ah)) rfl).lt
        have l1 : W.heap.size + 1 < w1.heap.size := (X.at 1 (p := (bl, bh)) rfl).lt
        have X := Hid.mk' X
        clear b1
        go_wp2_with fail
        refine (C2.out _).mono ?_
        rintro e w2 ⟨rfl, b2⟩
        have T := (Box.new w1 x y rfl).below b2
        have g0 := T.c0
        have g1 := T.c1
        have hlt : w1.heap.size < w2.heap.size := T.lt
        have X := X.out.below ((bl1 w1 (spO x y)).trans (b2.mono (by simp)))
        have Y := Hid.mk' (X.below (bl1 w2 (spO x y)))
        clear T b2 X c0 c1 d0 d1 l0 l1
        go_wp2_with fail
        go_roundw
        case rel => exact ⟨1, by omega, by go_num, Y⟩
        case measure => simp [intOf]
      · have hz' : ¬ (k : Int) = 0 := by omega
        have hw : IntKind.u8.wrap (k : Int) = k := by rw [IntKind.wrap_u8']; omega
        have C1 := Hid.mk' (fun u => K1.out k u)
        have C2 := Hid.mk' (fun u => K2.out k u)
        generalize doS k al ah bl bh = R at *
        generalize doE k al ah bl bh = E at *
        obtain ⟨x, y⟩ := R
        have hne := fun u => sp_ne_same x y u
        go_wp2_with fail
        refine (C1.out _).mono ?_
        rintro e w1 ⟨rfl, b1⟩
        have X := HB.out.below b1
        obtain ⟨c0, c1, d0, d1⟩ := twoB X
        have l0 : W.heap.size < w1.heap.size := (X.at 0 (p := (al, ah)) rfl).lt
        have l1 : W.heap.size + 1 < w1.heap.size := (X.at 1 (p := (bl, bh)) rfl).lt
        have X := Hid.mk' X
        clear b1
        go_wp2_with fail
        refine (C2.out _).mono ?_
        rintro e w2 ⟨rfl, b2⟩
        have T := (Box.new w1 x y rfl).below b2
        have g0 := T.c0
        have g1 := T.c1
        have hlt : w1.heap.size < w2.heap.size := T.lt
        have X := X.out.below ((bl1 w1 (spO x y)).trans (b2.mono (by simp)))
        have Y := Hid.mk' (X.below (bl1 w2 (spO x y)))
        clear T b2 X c0 c1 d0 d1 l0 l1
        go_wp2_with fail
        go_roundw
        case rel => exact ⟨k + 1, by omega, by go_num, Y⟩
        case measure => simp [intOf]; omega
    · have hlk : ¬ (k : Int) < 40 := by omega
      go_wp2_with fail
      refine (works_any _).mono ?_
      rintro e w1 ⟨rfl, b1⟩
      go_wp2_with fail
      go_ret
      exact ⟨rfl, HB.out.old.trans (b1.mono HB.out.old.size)⟩

theorem walkSpanDoes (x0 : Int) (m1 m2 : sh24.M) (W : World) (h0 : (Lit.int .u8 x0).wf = true) (o1 : sh24.ok W m1) (o2 : sh24.ok W m2) :
    Calls Try.prog 4 #[.int .u8 x0, .agg (sh24.cs m1).toArray, .agg (sh24.cs m2).toArray] W fun e w' => e = .returned (.bool true) ∧ Below W.heap.size W w' := by
  obtain ⟨al, ah⟩ := m1
  obtain ⟨bl, bh⟩ := m2
  exact does_ints x0 al ah bl bh W (u4_of o1 o2)
end Go.Proofs.Ytpmbdnmiokkknaa
