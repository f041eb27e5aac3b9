/- What is known of numbers, as mathematics: spans as two whole numbers, what operations make of them, what comparisons leave. -/
import Derived.Test.YtpmbdnmiokkknabBw
import Derived.Lib.BitFns
import Derived.Laws.Bits64b
namespace Go.Proofs.Ytpmbdnmiokkknab
open Go.ChangeShapes Go.WideShapes Go.ChangeAt Go.RowKit
set_option maxRecDepth 10000

/-- A span as its cells. -/
abbrev spV (p : Int × Int) : Value := .agg #[.int .u64 p.1, .int .u64 p.2]
/-- Numbers of 64 bits. -/
structure U4 (al ah bl bh : Int) : Prop where
  a0 : 0 ≤ al
  a1 : al ≤ 18446744073709551615
  a2 : 0 ≤ ah
  a3 : ah ≤ 18446744073709551615
  b0 : 0 ≤ bl
  b1 : bl ≤ 18446744073709551615
  b2 : 0 ≤ bh
  b3 : bh ≤ 18446744073709551615

def mn (x y : Int) : Int := if y < x then y else x
def mx (x y : Int) : Int := if y > x then y else x
theorem mn_le (x y : Int) : mn x y ≤ x ∧ mn x y ≤ y ∧ (mn x y = x ∨ mn x y = y) := by unfold mn; split <;> omega
theorem mx_le (x y : Int) : x ≤ mx x y ∧ y ≤ mx x y ∧ (mx x y = x ∨ mx x y = y) := by unfold mx; split <;> omega
theorem mx_comm (x y : Int) : mx x y = mx y x := by unfold mx; split <;> split <;> omega
theorem mn_comm (x y : Int) : mn x y = mn y x := by unfold mn; split <;> split <;> omega

def allS : Int × Int := (0, 18446744073709551615)
def dAdd (al ah bl bh : Int) : Int × Int :=
  if ah + bh < 18446744073709551616 ∨ 18446744073709551616 ≤ al + bl then ((al + bl) % 18446744073709551616, (ah + bh) % 18446744073709551616) else allS
def dSub (al ah bl bh : Int) : Int × Int :=
  if bh ≤ al ∨ ah < bl ∨ (al = ah ∧ bl = bh) then ((al - bh) % 18446744073709551616, (ah - bl) % 18446744073709551616) else allS
def dMul (al ah bl bh : Int) : Int × Int :=
  if ah * bh < 18446744073709551616 ∨ (al = ah ∧ bl = bh) then ((al * bl) % 18446744073709551616, (ah * bh) % 18446744073709551616) else allS
/-- The greatest of a length. -/
def fl (n : Int) : Int := 2 ^ Lib.bitLen n.toNat - 1
def dAnd (al ah bl bh : Int) : Int × Int :=
  if al = ah ∧ bl = bh then (bits .and .u64 al bl, bits .and .u64 al bl) else (0, mn ah bh)
def dOr (al ah bl bh : Int) : Int × Int :=
  if al = ah ∧ bl = bh then (bits .or .u64 al bl, bits .or .u64 al bl) else (mx al bl, fl (mx ah bh))
def dXor (al ah bl bh : Int) : Int × Int :=
  if al = ah ∧ bl = bh then (bits .xor .u64 al bl, bits .xor .u64 al bl) else (0, fl (mx ah bh))
def dShl (al ah n : Int) : Int × Int :=
  if ah * 2 ^ n.toNat < 18446744073709551616 ∨ al = ah then ((al * 2 ^ n.toNat) % 18446744073709551616, (ah * 2 ^ n.toNat) % 18446744073709551616) else allS
def dShr (al ah n : Int) : Int × Int := (al / 2 ^ n.toNat, ah / 2 ^ n.toNat)

theorem wrap64 (n : Int) : IntKind.u64.wrap n = n % 18446744073709551616 := by simp [IntKind.wrap, IntKind.bits, IntKind.signed]

/-- The number of bits. -/
theorem bitLen_lt (k : Nat) : ∀ x : Nat, x < 2 ^ k → x < 2 ^ 64 → x < 2 ^ Lib.bitLen x ∧ (x ≠ 0 → 2 ^ Lib.bitLen x ≤ 2 * x) := by
  induction k with
  | zero =>
    intro x h _
    have : x = 0 := by simp at h; exact h
    subst this
    decide
  | succ k ih =>
    intro x h h64
    by_cases h0 : x = 0
    · subst h0
      decide
    · have e := Lib.bitLen_half x h0 h64
      have hk : x / 2 < 2 ^ k := by rw [Nat.pow_succ] at h; omega
      obtain ⟨i1, i2⟩ := ih (x / 2) hk (by omega)
      rw [e, Nat.add_comm 1, Nat.pow_succ]
      refine ⟨by omega, fun _ => ?_⟩
      by_cases h1 : x / 2 = 0
      · have hb : Lib.bitLen (x / 2) = 0 := by rw [h1]; decide
        rw [hb]
        omega
      · have := i2 h1
        omega
theorem bitLen_bounds (x : Nat) (h : x < 18446744073709551616) : x < 2 ^ Lib.bitLen x ∧ (x ≠ 0 → 2 ^ Lib.bitLen x ≤ 2 * x) ∧ Lib.bitLen x ≤ 64 := by
  obtain ⟨h1, h2⟩ := bitLen_lt 64 x h h
  exact ⟨h1, h2, Lib.bitLen_le x 64 (Nat.le_refl _) h⟩

/-- All powers of two among numbers of 64 bits. -/
theorem pow_le64 {k : Nat} (h : k ≤ 64) : (2 : Nat) ^ k ≤ 18446744073709551616 := Nat.pow_le_pow_right (by omega) h
theorem fl_nat (n : Nat) : fl (n : Int) = ((2 ^ Lib.bitLen n - 1 : Nat) : Int) := by
  unfold fl
  have : 0 < 2 ^ Lib.bitLen n := Nat.two_pow_pos _
  rw [Int.toNat_natCast]
  have e : ((2 ^ Lib.bitLen n : Nat) : Int) = 2 ^ Lib.bitLen n := Int.natCast_pow 2 _
  omega
theorem fl_bounds (n : Int) (h0 : 0 ≤ n) (h1 : n ≤ 18446744073709551615) : n ≤ fl n ∧ fl n ≤ 18446744073709551615 ∧ 0 ≤ fl n := by
  obtain ⟨m, rfl⟩ := Int.eq_ofNat_of_zero_le h0
  rw [fl_nat]
  obtain ⟨b1, -, b3⟩ := bitLen_bounds m (by omega)
  have := pow_le64 b3
  omega
end Go.Proofs.Ytpmbdnmiokkknab
