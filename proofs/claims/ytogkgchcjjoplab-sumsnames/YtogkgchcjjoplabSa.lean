/- Contracts of the arithmetic of package sums: fold, Add, Sub, Same, Update. Each leaves the world as it was. -/
import Derived.Test.YtogkgchcjjoplabRows
import Derived.Test.YtogkgchcjjoplabSm
import Derived.WalkKit
import Derived.ProofKit
import Derived.OpenShut
import Derived.Outline
import Derived.Laws.BitsAllLaws
namespace Go.Proofs.Ytogkgchcjjoplab
open Go.ChangeShapes Go.WideShapes Go.ChangeAt Go.RowKit

theorem ret_int {k : IntKind} {a b : Int} (h : a = b) : Ending.returned (.int k a) = .returned (.int k b) := by rw [h]

theorem and_low16 (y : Int) (h0 : 0 ≤ y) (h1 : y < 18446744073709551616) : bits .and .u64 y 65535 = y % 65536 := by
  rw [u64_and y 65535 h0 h1 (by omega) (by omega)]
  have : y.toNat &&& (65535 : Int).toNat = y.toNat % 65536 := Nat.and_two_pow_sub_one_eq_mod y.toNat 16
  rw [this]; omega

theorem wrapu64 (y : Int) (h0 : 0 ≤ y) (h1 : y < 18446744073709551616) : IntKind.u64.wrap y = y := by
  rw [IntKind.wrap_u64]; omega
theorem wrapu16 (y : Int) (h0 : 0 ≤ y) (h1 : y < 65536) : IntKind.u16.wrap y = y := by
  rw [IntKind.wrap_u16]; omega

set_option maxHeartbeats 400000 in
theorem fold_any (n : Int) (w : World) (h0 : 0 ≤ n) (h1 : n < 18446744073709551616) :
    Calls Try.prog 13 #[.int .u64 n] w fun e w' => e = .returned (.int .u16 (fo n)) ∧ w' = w := by
  go_enter Try.func13, Try.ntmps13
  go_wp2
  go_loop [0] (fun t => ∃ y : Int, 0 ≤ y ∧ y < 18446744073709551616 ∧ fo y = fo n ∧ t = .int .u64 y) (fun t => (intOf t).toNat)
  case atStart => exact ⟨n, h0, h1, rfl, rfl⟩
  case round =>
    obtain ⟨y, hy0, hy1, hfo, rfl⟩ := hrel
    have HF : Hid (fo y = fo n) := hfo
    clear hfo
    go_wp2
    · have hne : (y / 65536 != 0) = true := by assumption
      have hne' : ¬ y / 65536 = 0 := by simpa using hne
      go_round
      case rel =>
        rw [and_low16 y hy0 hy1, wrapu64 _ (by omega) (by omega)]
        exact ⟨_, by omega, by omega, (fo_step y hy0).trans HF.out, rfl⟩
      case measure =>
        rw [and_low16 y hy0 hy1, wrapu64 _ (by omega) (by omega)]
        simp only [intOf]; omega
    · have hne : (y / 65536 != 0) = false := by assumption
      have hne' : y / 65536 = 0 := by simpa using hne
      go_ret
      exact ⟨ret_int (by rw [← HF.out, fo_small y hy0 (by omega), wrapu16 y hy0 (by omega)]), rfl⟩

set_option maxHeartbeats 400000 in
theorem add_any (a b : Int) (w : World) (ha : 0 ≤ a) (ha' : a ≤ 65535) (hb : 0 ≤ b) (hb' : b ≤ 65535) :
    Calls Try.prog 7 #[.int .u16 a, .int .u16 b] w fun e w' => e = .returned (.int .u16 (fo (a + b))) ∧ w' = w := by
  go_enter Try.func7, Try.ntmps7
  go_wp2_with (go_at_call 13; refine (fold_any _ _ (by omega) (by omega)).mono ?_; rintro e w' ⟨rfl, rfl⟩)
  go_ret
  exact ⟨rfl, rfl⟩

set_option maxHeartbeats 400000 in
theorem sub_any (a b : Int) (w : World) (ha : 0 ≤ a) (ha' : a ≤ 65535) (hb : 0 ≤ b) (hb' : b ≤ 65535) :
    Calls Try.prog 8 #[.int .u16 a, .int .u16 b] w fun e w' => e = .returned (.int .u16 (fo (a + (65535 - b)))) ∧ w' = w := by
  go_enter Try.func8, Try.ntmps8
  go_wp2_with (go_at_call 7; refine (add_any _ _ _ (by omega) (by omega) (by omega) (by omega)).mono ?_; rintro e w' ⟨rfl, rfl⟩)
  go_ret
  exact ⟨rfl, rfl⟩

set_option maxHeartbeats 400000 in
theorem same_any (a b : Int) (w : World) (ha : 0 ≤ a) (ha' : a ≤ 65535) (hb : 0 ≤ b) (hb' : b ≤ 65535) :
    Calls Try.prog 9 #[.int .u16 a, .int .u16 b] w fun e w' => e = .returned (.bool (a % 65535 == b % 65535)) ∧ w' = w := by
  go_enter Try.func9, Try.ntmps9
  go_wp2_with fail
  go_ret
  exact ⟨rfl, rfl⟩

/-- What a field becomes. -/
def upd (f o n : Int) : Int := 65535 - fo (fo ((65535 - f) + (65535 - o)) + n)
theorem upd_range (f o n : Int) : 0 ≤ upd f o n ∧ upd f o n ≤ 65535 := by
  have h1 := fo_nonneg (fo ((65535 - f) + (65535 - o)) + n)
  have h2 := fo_le (fo ((65535 - f) + (65535 - o)) + n)
  unfold upd; omega

set_option maxHeartbeats 400000 in
theorem update_any (f o n : Int) (w : World) (hf : 0 ≤ f) (hf' : f ≤ 65535) (ho : 0 ≤ o) (ho' : o ≤ 65535) (hn : 0 ≤ n) (hn' : n ≤ 65535) :
    Calls Try.prog 10 #[.int .u16 f, .int .u16 o, .int .u16 n] w fun e w' => e = .returned (.int .u16 (upd f o n)) ∧ w' = w := by
  have h1 := fo_nonneg ((65535 - f) + (65535 - o))
  have h2 := fo_le ((65535 - f) + (65535 - o))
  have h3 := fo_nonneg (fo ((65535 - f) + (65535 - o)) + n)
  have h4 := fo_le (fo ((65535 - f) + (65535 - o)) + n)
  go_enter Try.func10, Try.ntmps10
  go_wp2_with fail
  refine (add_any _ _ _ (by omega) (by omega) (by omega) (by omega)).mono ?_
  rintro e w' ⟨rfl, rfl⟩
  go_wp2_with fail
  refine (add_any _ _ _ (by omega) (by omega) (by omega) (by omega)).mono ?_
  rintro e w' ⟨rfl, rfl⟩
  go_wp2_with fail
  go_ret
  exact ⟨rfl, rfl⟩
end Go.Proofs.Ytogkgchcjjoplab
