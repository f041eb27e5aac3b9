/- The document's shift. -/
import Derived.Test.YtpmbdnmiokkknaaDn
import Derived.Test.YtpmbdnmiokkknaaDo
namespace Go.Proofs.Ytpmbdnmiokkknaa
open Go.ChangeShapes Go.WideShapes Go.ChangeAt Go.RowKit
set_option maxRecDepth 10000
set_option linter.unusedVariables false

theorem dMul_pow (al ah : Int) (m : Nat) : dMul al ah (2 ^ m) (2 ^ m) = dShl al ah m := by
  unfold dMul dShl
  rw [Int.toNat_natCast]
  by_cases h : ah * 2 ^ m < 18446744073709551616 ∨ al = ah
  · rw [if_pos h, if_pos (h.imp id (fun k => ⟨k, rfl⟩))]
  · rw [if_neg h, if_neg (fun k => h (k.imp id (fun j => j.1)))]

theorem pow_le63 (m : Nat) (h : m ≤ 63) : (2 : Int) ^ m ≤ 9223372036854775808 := by
  have := Nat.pow_le_pow_right (n := 2) (by omega) h
  have e := pow_cast m
  have e2 : (2 : Nat) ^ 63 = 9223372036854775808 := rfl
  omega
theorem pow_ge1 (m : Nat) : (1 : Int) ≤ 2 ^ m := by
  have := Nat.two_pow_pos m
  have e := pow_cast m
  omega

def shE (bl bh : Int) : Int := if bl = bh ∧ bl ≤ 63 then 0 else 2
def shS (o al ah bl bh : Int) : Int × Int := if bl = bh ∧ bl ≤ 63 then (if o = 13 then dShr al ah bl else dShl al ah bl) else (0, 0)

set_option maxHeartbeats 1000000 in
theorem rshift_any (o al ah bl bh : Int) (w : World) (h : U4 al ah bl bh) :
    Calls Try.prog 39 #[.int .u8 o, spV (al, ah), spV (bl, bh)] w fun e w' => e = .returned (.tuple #[spV (shS o al ah bl bh), .int .i64 (shE bl bh)]) ∧ Below w.heap.size w w' := by
  have HU := Hid.mk' h
  obtain ⟨a0, a1, a2, a3, b0, b1, b2, b3⟩ := h
  have HB : Hid (∀ w1, Below _ _ w1 → B3 w w1 al ah bl bh 0 0) := Hid.mk' (fun w1 b => (B3.start w al ah bl bh 0 0).below b)
  by_cases s : bl = bh
  · have e1 : decide (bl = bh) = true := decide_eq_true s
    by_cases k : bl ≤ 63
    · have E : shE bl bh = 0 := by unfold shE; rw [if_pos ⟨s, k⟩]
      have S : shS o al ah bl bh = if o = 13 then dShr al ah bl else dShl al ah bl := by unfold shS; rw [if_pos ⟨s, k⟩]
      rw [E, S]
      clear E S s
      obtain ⟨m, rfl⟩ := Int.eq_ofNat_of_zero_le b0
      have hm : m ≤ 63 := by omega
      have HP := Hid.mk' (fun u => power_any m u hm)
      have p1 := pow_le63 m hm
      have p0 := pow_ge1 m
      by_cases ho : o = 13
      · rw [if_pos ho]
        subst ho
        unfold dShr
        rw [Int.toNat_natCast]
        generalize (2 : Int) ^ m = P at *
        have hp : ¬ P = 0 := by omega
        go_enter Try.func39, Try.ntmps39
        go_wp2_with fail
        refine (rsingle_any _ _ _).mono ?_
        rintro e w1 ⟨rfl, b1⟩
        rw [e1]
        have X := HB.out w1 b1
        obtain ⟨c0, c1, d0, d1, z0, z1, f0, f1⟩ := X.facts
        have X := Hid.mk' X
        clear b1
        go_wp2_with fail
        refine (HP.out _).mono ?_
        rintro e w2 ⟨rfl, rfl⟩
        go_wp2_with fail
        go_region
        all_goals
          go_wp2_with fail
          obtain ⟨k0, k1, K⟩ := (X.out.dr (u' := w1.drew) ⟨1, rfl⟩).done (al / P) (ah / P)
          refine ret_sp1 rfl rfl k0 k1 rfl ?_
          exact ⟨rfl, K⟩
      · rw [if_neg ho, ← dMul_pow]
        have HM : Hid (∀ u, Calls Try.prog 38 #[spV (al, ah), spV (2 ^ m, 2 ^ m)] u fun e w' => e = .returned (spV (dMul al ah (2 ^ m) (2 ^ m))) ∧ Below u.heap.size u w') :=
          Hid.mk' (fun u => rmul_any al ah (2 ^ m) (2 ^ m) u ⟨a0, a1, a2, a3, by omega, by omega, by omega, by omega⟩)
        generalize dMul al ah (2 ^ m) (2 ^ m) = R at *
        generalize (2 : Int) ^ m = P at *
        obtain ⟨R1, R2⟩ := R
        go_enter Try.func39, Try.ntmps39
        go_wp2_with fail
        refine (rsingle_any _ _ _).mono ?_
        rintro e w1 ⟨rfl, b1⟩
        rw [e1]
        have X := HB.out w1 b1
        obtain ⟨c0, c1, d0, d1, z0, z1, f0, f1⟩ := X.facts
        have X := Hid.mk' X
        clear b1
        go_wp2_with fail
        refine (HP.out _).mono ?_
        rintro e w2 ⟨rfl, rfl⟩
        go_wp2_with fail
        have hne : ¬ (w.heap.size + 1 + 1 = w.heap.size) := by omega
        have X1 := X.out.dr (u' := w1.drew) ⟨1, rfl⟩
        go_region_held3 (fun w' => w'.cell? ⟨w.heap.size, 0, none⟩ = some (.int .u64 al) ∧ w'.cell? ⟨w.heap.size, 1, none⟩ = some (.int .u64 ah)) (go_keep) (first
          | (go_at_call 10; refine (rone_any P w1.drew).mono ?_; rintro e w3 ⟨rfl, b3⟩; have X3 := X1.below b3; obtain ⟨r0, r1, -⟩ := X3.facts; have X3 := Hid.mk' X3; clear b3)
          | (go_at_call 38; refine (HM.out w3).mono ?_; rintro e w4 ⟨rfl, b4⟩; have X4 := X3.out.below b4; obtain ⟨u0, u1, -, -, y0, y1, g0, g1⟩ := X4.facts; have X4 := Hid.mk' X4; clear b4))
        all_goals
          go_wp2_with fail
          obtain ⟨k0, k1, K⟩ := X4.out.done R1 R2
          refine ret_sp1 rfl rfl k0 k1 rfl ?_
          exact ⟨rfl, K⟩
    · have E : shE bl bh = 2 := by unfold shE; rw [if_neg (fun j => k j.2)]
      have S : shS o al ah bl bh = (0, 0) := by unfold shS; rw [if_neg (fun j => k j.2)]
      rw [E, S]
      clear E S s
      go_enter Try.func39, Try.ntmps39
      go_wp2_with fail
      refine (rsingle_any _ _ _).mono ?_
      rintro e w1 ⟨rfl, b1⟩
      rw [e1]
      have X := HB.out w1 b1
      obtain ⟨c0, c1, d0, d1, z0, z1, f0, f1⟩ := X.facts
      have X := Hid.mk' X
      clear b1
      go_wp2_with fail
      obtain ⟨k0, k1, K⟩ := X.out.done 0 0
      refine ret_sp1 rfl rfl k0 k1 rfl ?_
      exact ⟨rfl, K⟩
  · have e1 : decide (bl = bh) = false := decide_eq_false s
    have E : shE bl bh = 2 := by unfold shE; rw [if_neg (fun j => s j.1)]
    have S : shS o al ah bl bh = (0, 0) := by unfold shS; rw [if_neg (fun j => s j.1)]
    rw [E, S]
    clear E S s
    go_enter Try.func39, Try.ntmps39
    go_wp2_with fail
    refine (rsingle_any _ _ _).mono ?_
    rintro e w1 ⟨rfl, b1⟩
    rw [e1]
    have X := HB.out w1 b1
    obtain ⟨c0, c1, d0, d1, z0, z1, f0, f1⟩ := X.facts
    have X := Hid.mk' X
    clear b1
    go_wp2_with fail
    obtain ⟨k0, k1, K⟩ := X.out.done 0 0
    refine ret_sp1 rfl rfl k0 k1 rfl ?_
    exact ⟨rfl, K⟩
end Go.Proofs.Ytpmbdnmiokkknaa
