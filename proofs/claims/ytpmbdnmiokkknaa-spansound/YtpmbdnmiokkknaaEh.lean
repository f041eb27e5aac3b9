/- What follows of the sums: what the operation makes of numbers, the span has. -/
import Derived.Test.YtpmbdnmiokkknaaDg
namespace Go.Proofs.Ytpmbdnmiokkknaa
open Go.ChangeShapes Go.WideShapes Go.ChangeAt Go.RowKit
set_option maxRecDepth 10000
set_option linter.unusedVariables false

/-- What an operation makes of two numbers. -/
def nuN (o a b : Int) : Int :=
  if o = 3 ∨ o = 4 then (a + b) % 18446744073709551616 else if o = 5 then (a - b) % 18446744073709551616 else if o = 6 ∨ o = 7 then (a * b) % 18446744073709551616
  else if o = 8 ∨ o = 9 then bits .and .u64 a b else if o = 10 then bits .or .u64 a b else if o = 11 then bits .xor .u64 a b
  else if o = 12 then (a * 2 ^ (b % 64).toNat) % 18446744073709551616 else a / 2 ^ (b % 64).toNat

theorem one_add (x c : Int) : dAdd x x c c = ((x + c) % 18446744073709551616, (x + c) % 18446744073709551616) := by unfold dAdd; rw [if_pos (by omega)]
theorem one_sub (x c : Int) : dSub x x c c = ((x - c) % 18446744073709551616, (x - c) % 18446744073709551616) := by unfold dSub; rw [if_pos (by omega)]
theorem one_mul' (x c : Int) : dMul x x c c = ((x * c) % 18446744073709551616, (x * c) % 18446744073709551616) := by unfold dMul; rw [if_pos (.inr ⟨rfl, rfl⟩)]
theorem one_and (x c : Int) : dAnd x x c c = (bits .and .u64 x c, bits .and .u64 x c) := by unfold dAnd; rw [if_pos ⟨rfl, rfl⟩]
theorem one_or (x c : Int) : dOr x x c c = (bits .or .u64 x c, bits .or .u64 x c) := by unfold dOr; rw [if_pos ⟨rfl, rfl⟩]
theorem one_xor (x c : Int) : dXor x x c c = (bits .xor .u64 x c, bits .xor .u64 x c) := by unfold dXor; rw [if_pos ⟨rfl, rfl⟩]
theorem one_shl (x c : Int) : dShl x x c = ((x * 2 ^ c.toNat) % 18446744073709551616, (x * 2 ^ c.toNat) % 18446744073709551616) := by unfold dShl; rw [if_pos (.inr rfl)]

/-- Of single numbers it is just that number. -/
theorem so_one (o x c : Int) (ho : 3 ≤ o ∧ o ≤ 13) (hc : (o = 12 ∨ o = 13) → 0 ≤ c ∧ c ≤ 63) : doE o x x c c = 0 ∧ doS o x x c c = (nuN o x c, nuN o x c) := by
  have hE : doE o x x c c = 0 := by
    rw [doE_0 ho, if_pos ⟨Int.le_refl _, Int.le_refl _⟩, if_neg (fun k => k.2 ⟨rfl, (hc k.1).2⟩)]
  refine ⟨hE, ?_⟩
  rw [doS_0 hE]
  rcases op_cases ho with rfl | rfl | rfl | rfl | rfl | rfl | rfl | rfl | rfl | rfl | rfl
  · exact one_add x c
  · exact one_add x c
  · exact one_sub x c
  · exact one_mul' x c
  · exact one_mul' x c
  · exact one_and x c
  · exact one_and x c
  · exact one_or x c
  · exact one_xor x c
  · have h := hc (by omega)
    show dShl x x c = ((x * 2 ^ (c % 64).toNat) % 18446744073709551616, (x * 2 ^ (c % 64).toNat) % 18446744073709551616)
    rw [show c % 64 = c by omega]
    exact one_shl x c
  · have h := hc (by omega)
    show dShr x x c = (x / 2 ^ (c % 64).toNat, x / 2 ^ (c % 64).toNat)
    rw [show c % 64 = c by omega]
    rfl

theorem mod_in (v : Int) : allS.1 ≤ v % 18446744073709551616 ∧ v % 18446744073709551616 ≤ allS.2 := by
  show 0 ≤ _ ∧ _ ≤ 18446744073709551615
  omega
theorem in_add (al ah bl bh x y : Int) (h : U4 al ah bl bh) (ha : al ≤ x ∧ x ≤ ah) (hb : bl ≤ y ∧ y ≤ bh) : (dAdd al ah bl bh).1 ≤ (x + y) % 18446744073709551616 ∧ (x + y) % 18446744073709551616 ≤ (dAdd al ah bl bh).2 := by
  obtain ⟨a0, a1, a2, a3, b0, b1, b2, b3⟩ := h
  unfold dAdd
  split
  · simp only []; omega
  · exact mod_in _
theorem in_sub (al ah bl bh x y : Int) (h : U4 al ah bl bh) (ha : al ≤ x ∧ x ≤ ah) (hb : bl ≤ y ∧ y ≤ bh) : (dSub al ah bl bh).1 ≤ (x - y) % 18446744073709551616 ∧ (x - y) % 18446744073709551616 ≤ (dSub al ah bl bh).2 := by
  obtain ⟨a0, a1, a2, a3, b0, b1, b2, b3⟩ := h
  unfold dSub
  split
  · simp only []; omega
  · exact mod_in _
theorem in_mul (al ah bl bh x y : Int) (a0 : 0 ≤ al) (b0 : 0 ≤ bl) (ha : al ≤ x ∧ x ≤ ah) (hb : bl ≤ y ∧ y ≤ bh) : (dMul al ah bl bh).1 ≤ (x * y) % 18446744073709551616 ∧ (x * y) % 18446744073709551616 ≤ (dMul al ah bl bh).2 := by
  have h1 : al * bl ≤ x * y := Int.mul_le_mul ha.1 hb.1 b0 (by omega)
  have h2 : x * y ≤ ah * bh := Int.mul_le_mul ha.2 hb.2 (by omega) (by omega)
  have h3 : 0 ≤ al * bl := Int.mul_nonneg a0 b0
  unfold dMul
  split
  · rename_i k
    rcases k with k | ⟨k1, k2⟩
    · simp only []
      generalize al * bl = A at *
      generalize x * y = B at *
      generalize ah * bh = C at *
      omega
    · have e1 : x = al := by omega
      have e2 : y = bl := by omega
      subst e1 e2 k1 k2
      exact ⟨Int.le_refl _, Int.le_refl _⟩
  · exact mod_in _
theorem in_shl (al ah x n : Int) (a0 : 0 ≤ al) (ha : al ≤ x ∧ x ≤ ah) : (dShl al ah n).1 ≤ (x * 2 ^ n.toNat) % 18446744073709551616 ∧ (x * 2 ^ n.toNat) % 18446744073709551616 ≤ (dShl al ah n).2 := by
  have hp : (0 : Int) ≤ 2 ^ n.toNat := Int.le_of_lt (pow_pos _)
  have h1 : al * 2 ^ n.toNat ≤ x * 2 ^ n.toNat := Int.mul_le_mul_of_nonneg_right ha.1 hp
  have h2 : x * 2 ^ n.toNat ≤ ah * 2 ^ n.toNat := Int.mul_le_mul_of_nonneg_right ha.2 hp
  have h3 : 0 ≤ al * 2 ^ n.toNat := Int.mul_nonneg a0 hp
  unfold dShl
  split
  · rename_i k
    rcases k with k | k
    · simp only []
      generalize al * 2 ^ n.toNat = A at *
      generalize x * 2 ^ n.toNat = B at *
      generalize ah * 2 ^ n.toNat = C at *
      omega
    · have e1 : x = al := by omega
      subst e1 k
      exact ⟨Int.le_refl _, Int.le_refl _⟩
  · exact mod_in _
theorem in_shr (al ah x n : Int) (ha : al ≤ x ∧ x ≤ ah) : (dShr al ah n).1 ≤ x / 2 ^ n.toNat ∧ x / 2 ^ n.toNat ≤ (dShr al ah n).2 :=
  ⟨Int.ediv_le_ediv (pow_pos _) ha.1, Int.ediv_le_ediv (pow_pos _) ha.2⟩

/-- Bits of numbers: bounds. -/
theorem bit_lt {x n : Int} (x0 : 0 ≤ x) (h : x ≤ n) (hn : n ≤ 18446744073709551615) : x.toNat < 2 ^ Lib.bitLen n.toNat := by
  have := (bitLen_bounds n.toNat (by omega)).1
  omega
theorem fl_of {v : Nat} {n : Int} (hv : v < 2 ^ Lib.bitLen n.toNat) : (v : Int) ≤ fl n := by
  unfold fl
  have e : ((2 ^ Lib.bitLen n.toNat : Nat) : Int) = 2 ^ Lib.bitLen n.toNat := Int.natCast_pow 2 _
  omega
theorem in_and (al ah bl bh x y : Int) (h : U4 al ah bl bh) (ha : al ≤ x ∧ x ≤ ah) (hb : bl ≤ y ∧ y ≤ bh) : (dAnd al ah bl bh).1 ≤ bits .and .u64 x y ∧ bits .and .u64 x y ≤ (dAnd al ah bl bh).2 := by
  obtain ⟨a0, a1, a2, a3, b0, b1, b2, b3⟩ := h
  unfold dAnd
  split
  · rename_i k
    have e1 : x = al := by omega
    have e2 : y = bl := by omega
    rw [e1, e2]
    exact ⟨Int.le_refl _, Int.le_refl _⟩
  · rw [u64_and x y (by omega) (by omega) (by omega) (by omega)]
    have h1 : x.toNat &&& y.toNat ≤ x.toNat := Nat.and_le_left
    have h2 : x.toNat &&& y.toNat ≤ y.toNat := Nat.and_le_right
    have := mn_le ah bh
    simp only []
    omega
theorem in_or (al ah bl bh x y : Int) (h : U4 al ah bl bh) (ha : al ≤ x ∧ x ≤ ah) (hb : bl ≤ y ∧ y ≤ bh) : (dOr al ah bl bh).1 ≤ bits .or .u64 x y ∧ bits .or .u64 x y ≤ (dOr al ah bl bh).2 := by
  obtain ⟨a0, a1, a2, a3, b0, b1, b2, b3⟩ := h
  unfold dOr
  split
  · rename_i k
    have e1 : x = al := by omega
    have e2 : y = bl := by omega
    rw [e1, e2]
    exact ⟨Int.le_refl _, Int.le_refl _⟩
  · rw [u64_or x y (by omega) (by omega) (by omega) (by omega)]
    have h1 : x.toNat ≤ x.toNat ||| y.toNat := Nat.left_le_or
    have h2 : y.toNat ≤ x.toNat ||| y.toNat := Nat.right_le_or
    have m1 := mx_le ah bh
    have m2 := mx_le al bl
    have h3 := fl_of (Nat.or_lt_two_pow (bit_lt (x := x) (n := mx ah bh) (by omega) (by omega) (by omega)) (bit_lt (x := y) (n := mx ah bh) (by omega) (by omega) (by omega)))
    simp only []
    omega
theorem in_xor (al ah bl bh x y : Int) (h : U4 al ah bl bh) (ha : al ≤ x ∧ x ≤ ah) (hb : bl ≤ y ∧ y ≤ bh) : (dXor al ah bl bh).1 ≤ bits .xor .u64 x y ∧ bits .xor .u64 x y ≤ (dXor al ah bl bh).2 := by
  obtain ⟨a0, a1, a2, a3, b0, b1, b2, b3⟩ := h
  unfold dXor
  split
  · rename_i k
    have e1 : x = al := by omega
    have e2 : y = bl := by omega
    rw [e1, e2]
    exact ⟨Int.le_refl _, Int.le_refl _⟩
  · rw [u64_xor x y (by omega) (by omega) (by omega) (by omega)]
    have m1 := mx_le ah bh
    have h3 := fl_of (Nat.xor_lt_two_pow (bit_lt (x := x) (n := mx ah bh) (by omega) (by omega) (by omega)) (bit_lt (x := y) (n := mx ah bh) (by omega) (by omega) (by omega)))
    simp only []
    omega

/-- What the operation makes of numbers that the spans have, the span has. -/
theorem so_in (o al ah bl bh x y : Int) (ho : 3 ≤ o ∧ o ≤ 13) (h : U4 al ah bl bh) (ha : al ≤ x ∧ x ≤ ah) (hb : bl ≤ y ∧ y ≤ bh) (hs : (o = 12 ∨ o = 13) → bl = bh ∧ bl ≤ 63) :
    doE o al ah bl bh = 0 ∧ hasB (doS o al ah bl bh).1 (doS o al ah bl bh).2 (nuN o x y) = true ∧ ckS (doS o al ah bl bh).1 (doS o al ah bl bh).2 = 0 := by
  have hE : doE o al ah bl bh = 0 := by
    rw [doE_0 ho, if_pos ⟨by omega, by omega⟩, if_neg (fun k => k.2 (hs k.1))]
  have key : (doM o al ah bl bh).1 ≤ nuN o x y ∧ nuN o x y ≤ (doM o al ah bl bh).2 := by
    rcases op_cases ho with rfl | rfl | rfl | rfl | rfl | rfl | rfl | rfl | rfl | rfl | rfl
    · exact in_add al ah bl bh x y h ha hb
    · exact in_add al ah bl bh x y h ha hb
    · exact in_sub al ah bl bh x y h ha hb
    · exact in_mul al ah bl bh x y h.a0 h.b0 ha hb
    · exact in_mul al ah bl bh x y h.a0 h.b0 ha hb
    · exact in_and al ah bl bh x y h ha hb
    · exact in_and al ah bl bh x y h ha hb
    · exact in_or al ah bl bh x y h ha hb
    · exact in_xor al ah bl bh x y h ha hb
    · have hk := hs (by omega)
      have b0 := h.b0
      have e : y = bl := by omega
      show (dShl al ah bl).1 ≤ (x * 2 ^ (y % 64).toNat) % 18446744073709551616 ∧ (x * 2 ^ (y % 64).toNat) % 18446744073709551616 ≤ (dShl al ah bl).2
      rw [e, show bl % 64 = bl by omega]
      exact in_shl al ah x bl h.a0 ha
    · have hk := hs (by omega)
      have b0 := h.b0
      have e : y = bl := by omega
      show (dShr al ah bl).1 ≤ x / 2 ^ (y % 64).toNat ∧ x / 2 ^ (y % 64).toNat ≤ (dShr al ah bl).2
      rw [e, show bl % 64 = bl by omega]
      exact in_shr al ah x bl ha
  rw [doS_0 hE]
  refine ⟨hE, ?_, ?_⟩
  · unfold hasB; simp [key.1, key.2]
  · exact ckS_0 (by omega)
end Go.Proofs.Ytpmbdnmiokkknaa
