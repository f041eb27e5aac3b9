/- The walk of SpanCompares. -/
import Derived.Test.YtpmbdnmiokkknaaDy
import Derived.Test.YtpmbdnmiokkknaaDs
namespace Go.Proofs.Ytpmbdnmiokkknaa
open Go.ChangeShapes Go.WideShapes Go.ChangeAt Go.RowKit
set_option maxRecDepth 10000
set_option linter.unusedVariables false

set_option maxHeartbeats 2000000 in
theorem walkSpanCompares (o a b : Int) (W : World) (h0 : (Lit.int .u8 o).wf = true) (h1 : (Lit.int .u64 a).wf = true) (h2 : (Lit.int .u64 b).wf = true) :
    Calls Try.prog 6 #[.int .u8 o, .int .u64 a, .int .u64 b] W fun e w' => e = .returned (.bool true) ∧ Below W.heap.size W w' := by
  have K1 := Hid.mk' (fun x u => compare_any x a b u)
  have K2 := Hid.mk' (fun x u => rcompare_any x a b u)
  clear h0 h1 h2
  go_enter Try.func6, Try.ntmps6
  go_wp2_with fail
  go_loopw [7] (fun i wr => ∃ k : Nat, k ≤ 40 ∧ i = .int .i64 k ∧ Hid (Below W.heap.size W wr)) (fun i _ => 40 - (intOf i).toNat)
  case atStart => exact ⟨0, Nat.zero_le _, rfl, Hid.mk' (Below.refl _ _)⟩
  case round =>
    obtain ⟨k, hk, rfl, HB⟩ := hrel
    by_cases hlt : k < 40
    · have hlk : (k : Int) < 40 := by omega
      by_cases hz : k = 0
      · subst hz
        have C1 := Hid.mk' (fun u => K1.out o u)
        have C2 := Hid.mk' (fun u => K2.out o u)
        generalize cmB o a b = B at *
        generalize cmE o = E at *
        go_wp2_with fail
        refine (C1.out _).mono ?_
        rintro e w1 ⟨rfl, rfl⟩
        go_wp2_with fail
        refine (C2.out _).mono ?_
        rintro e w2 ⟨rfl, b2⟩
        have HB2 := Hid.mk' (HB.out.trans (b2.mono HB.out.size))
        clear b2
        go_wp2_with fail
        go_roundw
        case rel => exact ⟨1, by omega, by go_num, HB2⟩
        case measure => simp [intOf]
      · have hz' : ¬ (k : Int) = 0 := by omega
        have hw : IntKind.u8.wrap (k : Int) = k := by rw [IntKind.wrap_u8']; omega
        have C1 := Hid.mk' (fun u => K1.out k u)
        have C2 := Hid.mk' (fun u => K2.out k u)
        generalize cmB k a b = B at *
        generalize cmE k = E at *
        go_wp2_with fail
        refine (C1.out _).mono ?_
        rintro e w1 ⟨rfl, rfl⟩
        go_wp2_with fail
        refine (C2.out _).mono ?_
        rintro e w2 ⟨rfl, b2⟩
        have HB2 := Hid.mk' (HB.out.trans (b2.mono HB.out.size))
        clear b2
        go_wp2_with fail
        go_roundw
        case rel => exact ⟨k + 1, by omega, by go_num, HB2⟩
        case measure => simp [intOf]; omega
    · have hlk : ¬ (k : Int) < 40 := by omega
      go_wp2_with fail
      refine (works_any _).mono ?_
      rintro e w1 ⟨rfl, b1⟩
      go_wp2_with fail
      go_ret
      exact ⟨rfl, HB.out.trans (b1.mono HB.out.size)⟩
end Go.Proofs.Ytpmbdnmiokkknaa
