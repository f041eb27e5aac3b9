/- The document's power, wide. -/
import Derived.Test.YtpmbdnmiokkknaaDc
namespace Go.Proofs.Ytpmbdnmiokkknaa
open Go.ChangeShapes Go.WideShapes Go.ChangeAt Go.RowKit
set_option maxRecDepth 10000
set_option linter.unusedVariables false

theorem pow_cast (k : Nat) : ((2 ^ k : Nat) : Int) = 2 ^ k := Int.natCast_pow 2 k

theorem power_any (n : Nat) (w : World) (hn : n ≤ 63) : Calls Try.prog 56 #[.int .u64 (n : Int)] w fun e w' => e = .returned (.int .u64 (2 ^ n)) ∧ w = w' := by
  go_enter Try.func56, Try.ntmps56
  go_wp2_with fail
  go_loopw [3, 4] (fun o i wr => ∃ k P : Nat, k ≤ n ∧ i = .int .u64 k ∧ o = .int .u64 P ∧ Hid (P = 2 ^ k) ∧ wr = w) (fun _ i _ => n - (intOf i).toNat)
  case atStart => exact ⟨0, 1, Nat.zero_le _, rfl, rfl, Hid.mk' rfl, rfl⟩
  case round =>
    obtain ⟨k, P, hk, rfl, rfl, hP, rfl⟩ := hrel
    have hp : P ≤ 2 ^ 63 := by rw [hP.out]; exact Nat.pow_le_pow_right (by omega) (by omega)
    by_cases hlt : k < n
    · have hlk : (k : Int) < (n : Int) := by omega
      have hp2 : P ≤ 2 ^ 62 := by rw [hP.out]; exact Nat.pow_le_pow_right (by omega) (by omega)
      have hp3 : P ≤ 4611686018427387904 := hp2
      have hP' : Hid (P * 2 = 2 ^ (k + 1)) := Hid.mk' (by rw [hP.out, Nat.pow_succ])
      clear hp hp2
      go_wp2_with fail
      go_roundw
      case rel => exact ⟨k + 1, P * 2, by omega, by go_num, by go_num, hP', by trivial⟩
      case measure => simp [intOf]; omega
    · have hlk : ¬ (k : Int) < (n : Int) := by omega
      have e : k = n := by omega
      have HE := Hid.mk' e
      clear e hp
      go_wp2_with fail
      go_ret
      exact ⟨ret_int (by rw [← pow_cast, ← HE.out, ← hP.out]), rfl⟩

theorem wide_any (n : Nat) (w : World) (hn : n < 18446744073709551616) : Calls Try.prog 57 #[.int .u64 (n : Int)] w fun e w' => e = .returned (.int .u64 (fl n)) ∧ w = w' := by
  obtain ⟨l1, l2, l3⟩ := bitLen_bounds n hn
  have H4 : Hid (n = 0 → Lib.bitLen n = 0) := Hid.mk' (fun e => by subst e; decide)
  have hF := Hid.mk' (fl_nat n)
  generalize Lib.bitLen n = L at *
  go_enter Try.func57, Try.ntmps57
  have H1 := Hid.mk' l1
  have H2 := Hid.mk' l2
  have H3 := Hid.mk' l3
  clear l1 l2 l3
  go_wp2_with fail
  go_loopw [3] (fun o wr => ∃ k P : Nat, o = .int .u64 P ∧ Hid (k ≤ L ∧ P + 1 = 2 ^ k) ∧ wr = w) (fun o _ => n - (intOf o).toNat)
  case atStart => exact ⟨0, 0, rfl, Hid.mk' ⟨Nat.zero_le _, rfl⟩, rfl⟩
  case round =>
    obtain ⟨k, P, rfl, hP, rfl⟩ := hrel
    by_cases hlt : P < n
    · have hlk : (P : Int) < (n : Int) := by omega
      have hkL : k < L := by
        have a := hP.out.2
        have b := hP.out.1
        have c := H1.out
        by_cases e : k = L
        · rw [e] at a; omega
        · omega
      have hp : P + 1 ≤ 2 ^ 63 := by rw [hP.out.2]; exact Nat.pow_le_pow_right (by omega) (by have := H3.out; omega)
      have hp3 : P ≤ 9223372036854775807 := by have : (2 : Nat) ^ 63 = 9223372036854775808 := rfl; omega
      have hP' : Hid (k + 1 ≤ L ∧ P * 2 + 1 + 1 = 2 ^ (k + 1)) := Hid.mk' ⟨hkL, by rw [Nat.pow_succ, ← hP.out.2]; omega⟩
      clear hp hkL
      go_wp2_with fail
      go_roundw
      case rel => exact ⟨k + 1, P * 2 + 1, by go_num, hP', by trivial⟩
      case measure => simp [intOf]; omega
    · have hlk : ¬ (P : Int) < (n : Int) := by omega
      have e : k = L := by
        have a := hP.out.2
        have b := hP.out.1
        have c := H2.out
        by_cases e : k = L
        · exact e
        · exfalso
          have h1 : 2 ^ (k + 1) ≤ 2 ^ L := Nat.pow_le_pow_right (by omega) (by omega)
          rw [Nat.pow_succ] at h1
          by_cases z : n = 0
          · have := H4.out z
            omega
          · have := c z
            omega
      have HE := Hid.mk' e
      clear e
      go_wp2_with fail
      go_ret
      exact ⟨ret_int (by rw [hF.out, ← HE.out, ← hP.out.2]; simp), rfl⟩
end Go.Proofs.Ytpmbdnmiokkknaa
