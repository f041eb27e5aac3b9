/- Who knows less is told no more: greater spans tell greater ones. -/
import Derived.Test.YtpmbdnmiokkknabDg
import Derived.Test.YtpmbdnmiokkknabDm
namespace Go.Proofs.Ytpmbdnmiokkknab
open Go.ChangeShapes Go.WideShapes Go.ChangeAt Go.RowKit
set_option maxRecDepth 10000
set_option linter.unusedVariables false

/-- One span under another one. -/
def Sub2 (p q : Int × Int) : Prop := q.1 ≤ p.1 ∧ p.2 ≤ q.2
/-- Spans, and greater ones over them. -/
structure Ov (al ah bl bh cl ch dl dh : Int) : Prop where
  ha : al ≤ ah
  hb : bl ≤ bh
  a1 : cl ≤ al
  a2 : ah ≤ ch
  b1 : dl ≤ bl
  b2 : bh ≤ dh

theorem ov_all (v w : Int) : Sub2 (v % 18446744073709551616, w % 18446744073709551616) allS := by
  show 0 ≤ _ ∧ _ ≤ 18446744073709551615
  omega
theorem allS_sub : Sub2 allS allS := ⟨Int.le_refl _, Int.le_refl _⟩

theorem ov_add {al ah bl bh cl ch dl dh : Int} (o : Ov al ah bl bh cl ch dl dh) (h : U4 al ah bl bh) (k : U4 cl ch dl dh) : Sub2 (dAdd al ah bl bh) (dAdd cl ch dl dh) := by
  obtain ⟨o1, o2, o3, o4, o5, o6⟩ := o
  obtain ⟨a0, a1, a2, a3, b0, b1, b2, b3⟩ := h
  obtain ⟨c0, c1, c2, c3, d0, d1, d2, d3⟩ := k
  by_cases q : ch + dh < 18446744073709551616 ∨ 18446744073709551616 ≤ cl + dl
  · unfold dAdd
    rw [if_pos (by omega), if_pos q]
    unfold Sub2
    simp only []
    omega
  · have e : dAdd cl ch dl dh = allS := by unfold dAdd; rw [if_neg q]
    rw [e]
    unfold dAdd
    split
    · exact ov_all _ _
    · exact allS_sub
theorem ov_sub {al ah bl bh cl ch dl dh : Int} (o : Ov al ah bl bh cl ch dl dh) (h : U4 al ah bl bh) (k : U4 cl ch dl dh) : Sub2 (dSub al ah bl bh) (dSub cl ch dl dh) := by
  obtain ⟨o1, o2, o3, o4, o5, o6⟩ := o
  obtain ⟨a0, a1, a2, a3, b0, b1, b2, b3⟩ := h
  obtain ⟨c0, c1, c2, c3, d0, d1, d2, d3⟩ := k
  by_cases q : dh ≤ cl ∨ ch < dl ∨ (cl = ch ∧ dl = dh)
  · unfold dSub
    rw [if_pos (by omega), if_pos q]
    unfold Sub2
    simp only []
    omega
  · have e : dSub cl ch dl dh = allS := by unfold dSub; rw [if_neg q]
    rw [e]
    unfold dSub
    split
    · exact ov_all _ _
    · exact allS_sub
theorem ov_mul {al ah bl bh cl ch dl dh : Int} (o : Ov al ah bl bh cl ch dl dh) (h : U4 al ah bl bh) (k : U4 cl ch dl dh) : Sub2 (dMul al ah bl bh) (dMul cl ch dl dh) := by
  have m1 : cl * dl ≤ al * bl := Int.mul_le_mul o.a1 o.b1 k.b0 h.a0
  have m2 : al * bl ≤ ah * bh := Int.mul_le_mul o.ha o.hb h.b0 h.a2
  have m3 : ah * bh ≤ ch * dh := Int.mul_le_mul o.a2 o.b2 h.b2 k.a2
  have m4 : 0 ≤ cl * dl := Int.mul_nonneg k.a0 k.b0
  by_cases q : ch * dh < 18446744073709551616
  · unfold dMul
    rw [if_pos (.inl (show ah * bh < 18446744073709551616 by omega)), if_pos (.inl q)]
    unfold Sub2
    simp only []
    generalize cl * dl = A at *
    generalize al * bl = B at *
    generalize ah * bh = C at *
    generalize ch * dh = D at *
    omega
  · by_cases r : cl = ch ∧ dl = dh
    · obtain ⟨o1, o2, o3, o4, o5, o6⟩ := o
      have e1 : al = cl := by omega
      have e2 : ah = ch := by omega
      have e3 : bl = dl := by omega
      have e4 : bh = dh := by omega
      subst e1 e2 e3 e4
      exact ⟨Int.le_refl _, Int.le_refl _⟩
    · have e : dMul cl ch dl dh = allS := by unfold dMul; rw [if_neg (fun j => j.elim q r)]
      rw [e]
      unfold dMul
      split
      · exact ov_all _ _
      · exact allS_sub
theorem ov_shl {al ah cl ch : Int} (n : Int) (o1 : al ≤ ah) (o2 : cl ≤ al) (o3 : ah ≤ ch) (c0 : 0 ≤ cl) : Sub2 (dShl al ah n) (dShl cl ch n) := by
  have hp : (0 : Int) ≤ 2 ^ n.toNat := Int.le_of_lt (pow_pos _)
  have m1 : cl * 2 ^ n.toNat ≤ al * 2 ^ n.toNat := Int.mul_le_mul_of_nonneg_right o2 hp
  have m2 : al * 2 ^ n.toNat ≤ ah * 2 ^ n.toNat := Int.mul_le_mul_of_nonneg_right o1 hp
  have m3 : ah * 2 ^ n.toNat ≤ ch * 2 ^ n.toNat := Int.mul_le_mul_of_nonneg_right o3 hp
  have m4 : 0 ≤ cl * 2 ^ n.toNat := Int.mul_nonneg c0 hp
  by_cases q : ch * 2 ^ n.toNat < 18446744073709551616
  · unfold dShl
    rw [if_pos (.inl (show ah * 2 ^ n.toNat < 18446744073709551616 by omega)), if_pos (.inl q)]
    unfold Sub2
    simp only []
    generalize cl * 2 ^ n.toNat = A at *
    generalize al * 2 ^ n.toNat = B at *
    generalize ah * 2 ^ n.toNat = C at *
    generalize ch * 2 ^ n.toNat = D at *
    omega
  · by_cases r : cl = ch
    · have e1 : al = cl := by omega
      have e2 : ah = ch := by omega
      subst e1 e2
      exact ⟨Int.le_refl _, Int.le_refl _⟩
    · have e : dShl cl ch n = allS := by unfold dShl; rw [if_neg (fun j => j.elim q r)]
      rw [e]
      unfold dShl
      split
      · exact ov_all _ _
      · exact allS_sub
theorem ov_shr {al ah cl ch : Int} (n : Int) (o2 : cl ≤ al) (o3 : ah ≤ ch) : Sub2 (dShr al ah n) (dShr cl ch n) :=
  ⟨Int.ediv_le_ediv (pow_pos _) o2, Int.ediv_le_ediv (pow_pos _) o3⟩

theorem bitLen_mono {m n : Nat} (h : m ≤ n) (hn : n < 18446744073709551616) : Lib.bitLen m ≤ Lib.bitLen n := by
  by_cases z : m = 0
  · subst z
    have : Lib.bitLen 0 = 0 := by decide
    omega
  · have h1 := (bitLen_bounds m (by omega)).2.1 z
    have h2 := (bitLen_bounds n hn).1
    by_cases c : Lib.bitLen m ≤ Lib.bitLen n
    · exact c
    · exfalso
      have h3 : 2 ^ (Lib.bitLen n + 1) ≤ 2 ^ Lib.bitLen m := Nat.pow_le_pow_right (by omega) (by omega)
      rw [Nat.pow_succ] at h3
      omega
theorem fl_mono {m n : Int} (h0 : 0 ≤ m) (h : m ≤ n) (hn : n ≤ 18446744073709551615) : fl m ≤ fl n := by
  obtain ⟨a, rfl⟩ := Int.eq_ofNat_of_zero_le h0
  obtain ⟨b, rfl⟩ := Int.eq_ofNat_of_zero_le (show 0 ≤ n by omega)
  rw [fl_nat, fl_nat]
  have := Nat.pow_le_pow_right (n := 2) (by omega) (bitLen_mono (m := a) (n := b) (by omega) (by omega))
  omega
theorem bits_lt {x n : Int} (x0 : 0 ≤ x) (h : x ≤ n) (hn : n ≤ 18446744073709551615) : x.toNat < 2 ^ Lib.bitLen n.toNat := by
  have := (bitLen_bounds n.toNat (by omega)).1
  omega
theorem fl_up {v : Nat} {n : Int} (hv : v < 2 ^ Lib.bitLen n.toNat) : (v : Int) ≤ fl n := by
  unfold fl
  have e : ((2 ^ Lib.bitLen n.toNat : Nat) : Int) = 2 ^ Lib.bitLen n.toNat := Int.natCast_pow 2 _
  omega
theorem ov_and {al ah bl bh cl ch dl dh : Int} (o : Ov al ah bl bh cl ch dl dh) (h : U4 al ah bl bh) (k : U4 cl ch dl dh) : Sub2 (dAnd al ah bl bh) (dAnd cl ch dl dh) := by
  obtain ⟨o1, o2, o3, o4, o5, o6⟩ := o
  obtain ⟨a0, a1, a2, a3, b0, b1, b2, b3⟩ := h
  unfold dAnd
  by_cases r : cl = ch ∧ dl = dh
  · have e1 : al = cl := by omega
    have e2 : ah = ch := by omega
    have e3 : bl = dl := by omega
    have e4 : bh = dh := by omega
    subst e1 e2 e3 e4
    exact ⟨Int.le_refl _, Int.le_refl _⟩
  · rw [if_neg r]
    have m1 := mn_le ah bh
    have m2 := mn_le ch dh
    split
    · rw [u64_and al bl (by omega) (by omega) (by omega) (by omega)]
      have h1 : al.toNat &&& bl.toNat ≤ al.toNat := Nat.and_le_left
      have h2 : al.toNat &&& bl.toNat ≤ bl.toNat := Nat.and_le_right
      unfold Sub2
      simp only []
      omega
    · unfold Sub2
      simp only []
      omega
theorem ov_or {al ah bl bh cl ch dl dh : Int} (o : Ov al ah bl bh cl ch dl dh) (h : U4 al ah bl bh) (k : U4 cl ch dl dh) : Sub2 (dOr al ah bl bh) (dOr cl ch dl dh) := by
  obtain ⟨o1, o2, o3, o4, o5, o6⟩ := o
  obtain ⟨a0, a1, a2, a3, b0, b1, b2, b3⟩ := h
  obtain ⟨c0, c1, c2, c3, d0, d1, d2, d3⟩ := k
  unfold dOr
  by_cases r : cl = ch ∧ dl = dh
  · have e1 : al = cl := by omega
    have e2 : ah = ch := by omega
    have e3 : bl = dl := by omega
    have e4 : bh = dh := by omega
    subst e1 e2 e3 e4
    exact ⟨Int.le_refl _, Int.le_refl _⟩
  · rw [if_neg r]
    have m1 := mx_le ah bh
    have m2 := mx_le ch dh
    have m3 := mx_le al bl
    have m4 := mx_le cl dl
    split
    · rw [u64_or al bl (by omega) (by omega) (by omega) (by omega)]
      have h1 : al.toNat ≤ al.toNat ||| bl.toNat := Nat.left_le_or
      have h2 : bl.toNat ≤ al.toNat ||| bl.toNat := Nat.right_le_or
      have h3 := fl_up (Nat.or_lt_two_pow (bits_lt (x := al) (n := mx ch dh) (by omega) (by omega) (by omega)) (bits_lt (x := bl) (n := mx ch dh) (by omega) (by omega) (by omega)))
      unfold Sub2
      simp only []
      omega
    · have h3 := fl_mono (m := mx ah bh) (n := mx ch dh) (by omega) (by omega) (by omega)
      unfold Sub2
      simp only []
      omega
theorem ov_xor {al ah bl bh cl ch dl dh : Int} (o : Ov al ah bl bh cl ch dl dh) (h : U4 al ah bl bh) (k : U4 cl ch dl dh) : Sub2 (dXor al ah bl bh) (dXor cl ch dl dh) := by
  obtain ⟨o1, o2, o3, o4, o5, o6⟩ := o
  obtain ⟨a0, a1, a2, a3, b0, b1, b2, b3⟩ := h
  obtain ⟨c0, c1, c2, c3, d0, d1, d2, d3⟩ := k
  unfold dXor
  by_cases r : cl = ch ∧ dl = dh
  · have e1 : al = cl := by omega
    have e2 : ah = ch := by omega
    have e3 : bl = dl := by omega
    have e4 : bh = dh := by omega
    subst e1 e2 e3 e4
    exact ⟨Int.le_refl _, Int.le_refl _⟩
  · rw [if_neg r]
    have m1 := mx_le ah bh
    have m2 := mx_le ch dh
    split
    · rw [u64_xor al bl (by omega) (by omega) (by omega) (by omega)]
      have h3 := fl_up (Nat.xor_lt_two_pow (bits_lt (x := al) (n := mx ch dh) (by omega) (by omega) (by omega)) (bits_lt (x := bl) (n := mx ch dh) (by omega) (by omega) (by omega)))
      unfold Sub2
      simp only []
      omega
    · have h3 := fl_mono (m := mx ah bh) (n := mx ch dh) (by omega) (by omega) (by omega)
      unfold Sub2
      simp only []
      omega

/-- Do of greater spans tells one over. -/
theorem ov_do (p al ah bl bh cl ch dl dh : Int) (o : Ov al ah bl bh cl ch dl dh) (h : U4 al ah bl bh) (k : U4 cl ch dl dh) (e1 : doE p al ah bl bh = 0) (e2 : doE p cl ch dl dh = 0) : Sub2 (doS p al ah bl bh) (doS p cl ch dl dh) := by
  rw [doS_0 e1, doS_0 e2]
  by_cases hp : 3 ≤ p ∧ p ≤ 13
  · rw [doE_0 hp] at e2
    rcases op_cases hp with rfl | rfl | rfl | rfl | rfl | rfl | rfl | rfl | rfl | rfl | rfl
    · exact ov_add o h k
    · exact ov_add o h k
    · exact ov_sub o h k
    · exact ov_mul o h k
    · exact ov_mul o h k
    · exact ov_and o h k
    · exact ov_and o h k
    · exact ov_or o h k
    · exact ov_xor o h k
    · have e : dl = dh := by
        by_cases q : dl = dh
        · exact q
        · rw [if_pos ⟨by have := o.ha; have := o.a1; have := o.a2; omega, by have := o.hb; have := o.b1; have := o.b2; omega⟩, if_pos ⟨by omega, fun j => q j.1⟩] at e2
          omega
      have e' : bl = dl := by have := o.hb; have := o.b1; have := o.b2; omega
      show Sub2 (dShl al ah bl) (dShl cl ch dl)
      rw [e']
      exact ov_shl dl o.ha o.a1 o.a2 k.a0
    · have e : dl = dh := by
        by_cases q : dl = dh
        · exact q
        · rw [if_pos ⟨by have := o.ha; have := o.a1; have := o.a2; omega, by have := o.hb; have := o.b1; have := o.b2; omega⟩, if_pos ⟨by omega, fun j => q j.1⟩] at e2
          omega
      have e' : bl = dl := by have := o.hb; have := o.b1; have := o.b2; omega
      show Sub2 (dShr al ah bl) (dShr cl ch dl)
      rw [e']
      exact ov_shr dl o.a1 o.a2
  · rw [doE_2 hp] at e1
    omega
end Go.Proofs.Ytpmbdnmiokkknab
