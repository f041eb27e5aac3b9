/- The document's Do. -/
import Derived.Test.YtpmbdnmiokkknaaDp
import Derived.Test.YtpmbdnmiokkknaaDq
import Derived.Test.YtpmbdnmiokkknaaDg
namespace Go.Proofs.Ytpmbdnmiokkknaa
open Go.ChangeShapes Go.WideShapes Go.ChangeAt Go.RowKit
set_option maxRecDepth 10000
set_option linter.unusedVariables false

theorem known_any (o : Int) (w : World) : Calls Try.prog 35 #[.int .u8 o] w fun e w' => e = .returned (.bool (decide (3 ≤ o) && decide (o ≤ 13))) ∧ w = w' := by
  go_enter Try.func35, Try.ntmps35
  by_cases h : 3 ≤ o
  · have HV := Hid.mk' (show (decide (3 ≤ o) && decide (o ≤ 13)) = decide (o ≤ 13) by simp [h])
    rw [HV.out]
    clear HV
    go_wp2_with fail
    go_ret
    exact ⟨ret_bool (by first | rfl | (rw [Bool.eq_iff_iff]; simp)), rfl⟩
  · have HV := Hid.mk' (show (decide (3 ≤ o) && decide (o ≤ 13)) = false by simp [h])
    rw [HV.out]
    clear HV
    go_wp2_with fail
    go_ret
    exact ⟨rfl, rfl⟩

set_option maxHeartbeats 4000000 in
theorem rdo_any (o al ah bl bh : Int) (w : World) (h : U4 al ah bl bh) :
    Calls Try.prog 23 #[.int .u8 o, spV (al, ah), spV (bl, bh)] w fun e w' => e = .returned (.tuple #[spV (doS o al ah bl bh), .int .i64 (doE o al ah bl bh)]) ∧ Below w.heap.size w w' := by
  have HB : Hid (∀ w1, Below _ _ w1 → B3 w w1 al ah bl bh 0 0) := Hid.mk' (fun w1 b => (B3.start w al ah bl bh 0 0).below b)
  by_cases ho : 3 ≤ o ∧ o ≤ 13
  · have HK : Hid (∀ u, Calls Try.prog 35 #[.int .u8 o] u fun e w' => e = .returned (.bool true) ∧ u = w') := Hid.mk' (fun u => by
      have := known_any o u
      rw [show (decide (3 ≤ o) && decide (o ≤ 13)) = true by simp [ho]] at this
      exact this)
    have E0 := @doE_0 o al ah bl bh ho
    by_cases h1 : al ≤ ah
    · have e1 := ckS_0 h1
      by_cases h2 : bl ≤ bh
      · have e2 := ckS_0 h2
        rw [if_pos ⟨h1, h2⟩] at E0
        rcases op_cases ho with rfl | rfl | rfl | rfl | rfl | rfl | rfl | rfl | rfl | rfl | rfl
        · have E1 : doE 3 al ah bl bh = 0 := by rw [E0, if_neg (by omega)]
          have S1 : doS 3 al ah bl bh = dAdd al ah bl bh := by rw [doS_0 E1]; rfl
          rw [E1, S1]
          have HR := Hid.mk' (fun u => radd_any al ah bl bh u h h1 h2)
          clear E0 E1 S1 ho h1 h2
          generalize dAdd al ah bl bh = R at *
          obtain ⟨x, y⟩ := R
          go_enter Try.func23, Try.ntmps23
          go_wp2_with fail
          refine (HK.out _).mono ?_
          rintro e w1 ⟨rfl, rfl⟩
          go_wp2_with fail
          refine (rcheck_any _ _ _).mono ?_
          rintro e w1 ⟨rfl, b1⟩
          rw [e1]
          have X := HB.out w1 b1
          obtain ⟨c0, c1, d0, d1, z0, z1, f0, f1⟩ := X.facts
          have X := Hid.mk' X
          clear b1
          go_wp2_with fail
          refine (rcheck_any _ _ _).mono ?_
          rintro e w1 ⟨rfl, b1⟩
          rw [e2]
          have X := X.out.below b1
          obtain ⟨c0, c1, d0, d1, z0, z1, f0, f1⟩ := X.facts
          have X := Hid.mk' X
          clear b1
          go_wp2_with fail
          refine (HR.out _).mono ?_
          rintro e w3 ⟨rfl, b1⟩
          have X := X.out.below b1
          obtain ⟨c0, c1, d0, d1, z0, z1, f0, f1⟩ := X.facts
          have X := Hid.mk' X
          clear b1
          go_wp2_with fail
          obtain ⟨k0, k1, K⟩ := X.out.done x y
          refine ret_sp1 rfl rfl k0 k1 rfl ?_
          exact ⟨rfl, K⟩
        · have E1 : doE 4 al ah bl bh = 0 := by rw [E0, if_neg (by omega)]
          have S1 : doS 4 al ah bl bh = dAdd al ah bl bh := by rw [doS_0 E1]; rfl
          rw [E1, S1]
          have HR := Hid.mk' (fun u => radd_any al ah bl bh u h h1 h2)
          clear E0 E1 S1 ho h1 h2
          generalize dAdd al ah bl bh = R at *
          obtain ⟨x, y⟩ := R
          go_enter Try.func23, Try.ntmps23
          go_wp2_with fail
          refine (HK.out _).mono ?_
          rintro e w1 ⟨rfl, rfl⟩
          go_wp2_with fail
          refine (rcheck_any _ _ _).mono ?_
          rintro e w1 ⟨rfl, b1⟩
          rw [e1]
          have X := HB.out w1 b1
          obtain ⟨c0, c1, d0, d1, z0, z1, f0, f1⟩ := X.facts
          have X := Hid.mk' X
          clear b1
          go_wp2_with fail
          refine (rcheck_any _ _ _).mono ?_
          rintro e w1 ⟨rfl, b1⟩
          rw [e2]
          have X := X.out.below b1
          obtain ⟨c0, c1, d0, d1, z0, z1, f0, f1⟩ := X.facts
          have X := Hid.mk' X
          clear b1
          go_wp2_with fail
          refine (HR.out _).mono ?_
          rintro e w3 ⟨rfl, b1⟩
          have X := X.out.below b1
          obtain ⟨c0, c1, d0, d1, z0, z1, f0, f1⟩ := X.facts
          have X := Hid.mk' X
          clear b1
          go_wp2_with fail
          obtain ⟨k0, k1, K⟩ := X.out.done x y
          refine ret_sp1 rfl rfl k0 k1 rfl ?_
          exact ⟨rfl, K⟩
        · have E1 : doE 5 al ah bl bh = 0 := by rw [E0, if_neg (by omega)]
          have S1 : doS 5 al ah bl bh = dSub al ah bl bh := by rw [doS_0 E1]; rfl
          rw [E1, S1]
          have HR := Hid.mk' (fun u => rsub_any al ah bl bh u h)
          clear E0 E1 S1 ho h1 h2
          generalize dSub al ah bl bh = R at *
          obtain ⟨x, y⟩ := R
          go_enter Try.func23, Try.ntmps23
          go_wp2_with fail
          refine (HK.out _).mono ?_
          rintro e w1 ⟨rfl, rfl⟩
          go_wp2_with fail
          refine (rcheck_any _ _ _).mono ?_
          rintro e w1 ⟨rfl, b1⟩
          rw [e1]
          have X := HB.out w1 b1
          obtain ⟨c0, c1, d0, d1, z0, z1, f0, f1⟩ := X.facts
          have X := Hid.mk' X
          clear b1
          go_wp2_with fail
          refine (rcheck_any _ _ _).mono ?_
          rintro e w1 ⟨rfl, b1⟩
          rw [e2]
          have X := X.out.below b1
          obtain ⟨c0, c1, d0, d1, z0, z1, f0, f1⟩ := X.facts
          have X := Hid.mk' X
          clear b1
          go_wp2_with fail
          refine (HR.out _).mono ?_
          rintro e w3 ⟨rfl, b1⟩
          have X := X.out.below b1
          obtain ⟨c0, c1, d0, d1, z0, z1, f0, f1⟩ := X.facts
          have X := Hid.mk' X
          clear b1
          go_wp2_with fail
          obtain ⟨k0, k1, K⟩ := X.out.done x y
          refine ret_sp1 rfl rfl k0 k1 rfl ?_
          exact ⟨rfl, K⟩
        · have E1 : doE 6 al ah bl bh = 0 := by rw [E0, if_neg (by omega)]
          have S1 : doS 6 al ah bl bh = dMul al ah bl bh := by rw [doS_0 E1]; rfl
          rw [E1, S1]
          have HR := Hid.mk' (fun u => rmul_any al ah bl bh u h)
          clear E0 E1 S1 ho h1 h2
          generalize dMul al ah bl bh = R at *
          obtain ⟨x, y⟩ := R
          go_enter Try.func23, Try.ntmps23
          go_wp2_with fail
          refine (HK.out _).mono ?_
          rintro e w1 ⟨rfl, rfl⟩
          go_wp2_with fail
          refine (rcheck_any _ _ _).mono ?_
          rintro e w1 ⟨rfl, b1⟩
          rw [e1]
          have X := HB.out w1 b1
          obtain ⟨c0, c1, d0, d1, z0, z1, f0, f1⟩ := X.facts
          have X := Hid.mk' X
          clear b1
          go_wp2_with fail
          refine (rcheck_any _ _ _).mono ?_
          rintro e w1 ⟨rfl, b1⟩
          rw [e2]
          have X := X.out.below b1
          obtain ⟨c0, c1, d0, d1, z0, z1, f0, f1⟩ := X.facts
          have X := Hid.mk' X
          clear b1
          go_wp2_with fail
          refine (HR.out _).mono ?_
          rintro e w3 ⟨rfl, b1⟩
          have X := X.out.below b1
          obtain ⟨c0, c1, d0, d1, z0, z1, f0, f1⟩ := X.facts
          have X := Hid.mk' X
          clear b1
          go_wp2_with fail
          obtain ⟨k0, k1, K⟩ := X.out.done x y
          refine ret_sp1 rfl rfl k0 k1 rfl ?_
          exact ⟨rfl, K⟩
        · have E1 : doE 7 al ah bl bh = 0 := by rw [E0, if_neg (by omega)]
          have S1 : doS 7 al ah bl bh = dMul al ah bl bh := by rw [doS_0 E1]; rfl
          rw [E1, S1]
          have HR := Hid.mk' (fun u => rmul_any al ah bl bh u h)
          clear E0 E1 S1 ho h1 h2
          generalize dMul al ah bl bh = R at *
          obtain ⟨x, y⟩ := R
          go_enter Try.func23, Try.ntmps23
          go_wp2_with fail
          refine (HK.out _).mono ?_
          rintro e w1 ⟨rfl, rfl⟩
          go_wp2_with fail
          refine (rcheck_any _ _ _).mono ?_
          rintro e w1 ⟨rfl, b1⟩
          rw [e1]
          have X := HB.out w1 b1
          obtain ⟨c0, c1, d0, d1, z0, z1, f0, f1⟩ := X.facts
          have X := Hid.mk' X
          clear b1
          go_wp2_with fail
          refine (rcheck_any _ _ _).mono ?_
          rintro e w1 ⟨rfl, b1⟩
          rw [e2]
          have X := X.out.below b1
          obtain ⟨c0, c1, d0, d1, z0, z1, f0, f1⟩ := X.facts
          have X := Hid.mk' X
          clear b1
          go_wp2_with fail
          refine (HR.out _).mono ?_
          rintro e w3 ⟨rfl, b1⟩
          have X := X.out.below b1
          obtain ⟨c0, c1, d0, d1, z0, z1, f0, f1⟩ := X.facts
          have X := Hid.mk' X
          clear b1
          go_wp2_with fail
          obtain ⟨k0, k1, K⟩ := X.out.done x y
          refine ret_sp1 rfl rfl k0 k1 rfl ?_
          exact ⟨rfl, K⟩
        · have E1 : doE 8 al ah bl bh = 0 := by rw [E0, if_neg (by omega)]
          have S1 : doS 8 al ah bl bh = dAnd al ah bl bh := by rw [doS_0 E1]; rfl
          rw [E1, S1]
          have HR := Hid.mk' (fun u => rbits_8 al ah bl bh u h)
          clear E0 E1 S1 ho h1 h2
          generalize dAnd al ah bl bh = R at *
          obtain ⟨x, y⟩ := R
          go_enter Try.func23, Try.ntmps23
          go_wp2_with fail
          refine (HK.out _).mono ?_
          rintro e w1 ⟨rfl, rfl⟩
          go_wp2_with fail
          refine (rcheck_any _ _ _).mono ?_
          rintro e w1 ⟨rfl, b1⟩
          rw [e1]
          have X := HB.out w1 b1
          obtain ⟨c0, c1, d0, d1, z0, z1, f0, f1⟩ := X.facts
          have X := Hid.mk' X
          clear b1
          go_wp2_with fail
          refine (rcheck_any _ _ _).mono ?_
          rintro e w1 ⟨rfl, b1⟩
          rw [e2]
          have X := X.out.below b1
          obtain ⟨c0, c1, d0, d1, z0, z1, f0, f1⟩ := X.facts
          have X := Hid.mk' X
          clear b1
          go_wp2_with fail
          refine (HR.out _).mono ?_
          rintro e w3 ⟨rfl, b1⟩
          have X := X.out.below b1
          obtain ⟨c0, c1, d0, d1, z0, z1, f0, f1⟩ := X.facts
          have X := Hid.mk' X
          clear b1
          go_wp2_with fail
          obtain ⟨k0, k1, K⟩ := X.out.done x y
          refine ret_sp1 rfl rfl k0 k1 rfl ?_
          exact ⟨rfl, K⟩
        · have E1 : doE 9 al ah bl bh = 0 := by rw [E0, if_neg (by omega)]
          have S1 : doS 9 al ah bl bh = dAnd al ah bl bh := by rw [doS_0 E1]; rfl
          rw [E1, S1]
          have HR := Hid.mk' (fun u => rbits_9 al ah bl bh u h)
          clear E0 E1 S1 ho h1 h2
          generalize dAnd al ah bl bh = R at *
          obtain ⟨x, y⟩ := R
          go_enter Try.func23, Try.ntmps23
          go_wp2_with fail
          refine (HK.out _).mono ?_
          rintro e w1 ⟨rfl, rfl⟩
          go_wp2_with fail
          refine (rcheck_any _ _ _).mono ?_
          rintro e w1 ⟨rfl, b1⟩
          rw [e1]
          have X := HB.out w1 b1
          obtain ⟨c0, c1, d0, d1, z0, z1, f0, f1⟩ := X.facts
          have X := Hid.mk' X
          clear b1
          go_wp2_with fail
          refine (rcheck_any _ _ _).mono ?_
          rintro e w1 ⟨rfl, b1⟩
          rw [e2]
          have X := X.out.below b1
          obtain ⟨c0, c1, d0, d1, z0, z1, f0, f1⟩ := X.facts
          have X := Hid.mk' X
          clear b1
          go_wp2_with fail
          refine (HR.out _).mono ?_
          rintro e w3 ⟨rfl, b1⟩
          have X := X.out.below b1
          obtain ⟨c0, c1, d0, d1, z0, z1, f0, f1⟩ := X.facts
          have X := Hid.mk' X
          clear b1
          go_wp2_with fail
          obtain ⟨k0, k1, K⟩ := X.out.done x y
          refine ret_sp1 rfl rfl k0 k1 rfl ?_
          exact ⟨rfl, K⟩
        · have E1 : doE 10 al ah bl bh = 0 := by rw [E0, if_neg (by omega)]
          have S1 : doS 10 al ah bl bh = dOr al ah bl bh := by rw [doS_0 E1]; rfl
          rw [E1, S1]
          have HR := Hid.mk' (fun u => rbits_10 al ah bl bh u h)
          clear E0 E1 S1 ho h1 h2
          generalize dOr al ah bl bh = R at *
          obtain ⟨x, y⟩ := R
          go_enter Try.func23, Try.ntmps23
          go_wp2_with fail
          refine (HK.out _).mono ?_
          rintro e w1 ⟨rfl, rfl⟩
          go_wp2_with fail
          refine (rcheck_any _ _ _).mono ?_
          rintro e w1 ⟨rfl, b1⟩
          rw [e1]
          have X := HB.out w1 b1
          obtain ⟨c0, c1, d0, d1, z0, z1, f0, f1⟩ := X.facts
          have X := Hid.mk' X
          clear b1
          go_wp2_with fail
          refine (rcheck_any _ _ _).mono ?_
          rintro e w1 ⟨rfl, b1⟩
          rw [e2]
          have X := X.out.below b1
          obtain ⟨c0, c1, d0, d1, z0, z1, f0, f1⟩ := X.facts
          have X := Hid.mk' X
          clear b1
          go_wp2_with fail
          refine (HR.out _).mono ?_
          rintro e w3 ⟨rfl, b1⟩
          have X := X.out.below b1
          obtain ⟨c0, c1, d0, d1, z0, z1, f0, f1⟩ := X.facts
          have X := Hid.mk' X
          clear b1
          go_wp2_with fail
          obtain ⟨k0, k1, K⟩ := X.out.done x y
          refine ret_sp1 rfl rfl k0 k1 rfl ?_
          exact ⟨rfl, K⟩
        · have E1 : doE 11 al ah bl bh = 0 := by rw [E0, if_neg (by omega)]
          have S1 : doS 11 al ah bl bh = dXor al ah bl bh := by rw [doS_0 E1]; rfl
          rw [E1, S1]
          have HR := Hid.mk' (fun u => rbits_11 al ah bl bh u h)
          clear E0 E1 S1 ho h1 h2
          generalize dXor al ah bl bh = R at *
          obtain ⟨x, y⟩ := R
          go_enter Try.func23, Try.ntmps23
          go_wp2_with fail
          refine (HK.out _).mono ?_
          rintro e w1 ⟨rfl, rfl⟩
          go_wp2_with fail
          refine (rcheck_any _ _ _).mono ?_
          rintro e w1 ⟨rfl, b1⟩
          rw [e1]
          have X := HB.out w1 b1
          obtain ⟨c0, c1, d0, d1, z0, z1, f0, f1⟩ := X.facts
          have X := Hid.mk' X
          clear b1
          go_wp2_with fail
          refine (rcheck_any _ _ _).mono ?_
          rintro e w1 ⟨rfl, b1⟩
          rw [e2]
          have X := X.out.below b1
          obtain ⟨c0, c1, d0, d1, z0, z1, f0, f1⟩ := X.facts
          have X := Hid.mk' X
          clear b1
          go_wp2_with fail
          refine (HR.out _).mono ?_
          rintro e w3 ⟨rfl, b1⟩
          have X := X.out.below b1
          obtain ⟨c0, c1, d0, d1, z0, z1, f0, f1⟩ := X.facts
          have X := Hid.mk' X
          clear b1
          go_wp2_with fail
          obtain ⟨k0, k1, K⟩ := X.out.done x y
          refine ret_sp1 rfl rfl k0 k1 rfl ?_
          exact ⟨rfl, K⟩
        · have E1 : doE 12 al ah bl bh = shE bl bh := by
            rw [E0]; unfold shE
            by_cases k : bl = bh ∧ bl ≤ 63
            · rw [if_pos k, if_neg (fun j => j.2 k)]
            · rw [if_neg k, if_pos ⟨by omega, k⟩]
          have S1 : doS 12 al ah bl bh = shS 12 al ah bl bh := by
            unfold doS shS
            rw [E1]; unfold shE
            by_cases k : bl = bh ∧ bl ≤ 63
            · rw [if_pos k, if_pos k, if_pos rfl]; rfl
            · rw [if_neg k, if_neg k, if_neg (by decide)]
          rw [E1, S1]
          have HR := Hid.mk' (fun u => rshift_any 12 al ah bl bh u h)
          clear E0 E1 S1 ho h1 h2
          generalize shS 12 al ah bl bh = R at *
          generalize shE bl bh = E at *
          obtain ⟨x, y⟩ := R
          go_enter Try.func23, Try.ntmps23
          go_wp2_with fail
          refine (HK.out _).mono ?_
          rintro e w1 ⟨rfl, rfl⟩
          go_wp2_with fail
          refine (rcheck_any _ _ _).mono ?_
          rintro e w1 ⟨rfl, b1⟩
          rw [e1]
          have X := HB.out w1 b1
          obtain ⟨c0, c1, d0, d1, z0, z1, f0, f1⟩ := X.facts
          have X := Hid.mk' X
          clear b1
          go_wp2_with fail
          refine (rcheck_any _ _ _).mono ?_
          rintro e w1 ⟨rfl, b1⟩
          rw [e2]
          have X := X.out.below b1
          obtain ⟨c0, c1, d0, d1, z0, z1, f0, f1⟩ := X.facts
          have X := Hid.mk' X
          clear b1
          go_wp2_with fail
          refine (HR.out _).mono ?_
          rintro e w3 ⟨rfl, b1⟩
          have X := X.out.below b1
          obtain ⟨c0, c1, d0, d1, z0, z1, f0, f1⟩ := X.facts
          have X := Hid.mk' X
          clear b1
          go_wp2_with fail
          obtain ⟨k0, k1, K⟩ := X.out.done x y
          refine ret_sp1 rfl rfl k0 k1 rfl ?_
          exact ⟨rfl, K⟩
        · have E1 : doE 13 al ah bl bh = shE bl bh := by
            rw [E0]; unfold shE
            by_cases k : bl = bh ∧ bl ≤ 63
            · rw [if_pos k, if_neg (fun j => j.2 k)]
            · rw [if_neg k, if_pos ⟨by omega, k⟩]
          have S1 : doS 13 al ah bl bh = shS 13 al ah bl bh := by
            unfold doS shS
            rw [E1]; unfold shE
            by_cases k : bl = bh ∧ bl ≤ 63
            · rw [if_pos k, if_pos k, if_pos rfl]; rfl
            · rw [if_neg k, if_neg k, if_neg (by decide)]
          rw [E1, S1]
          have HR := Hid.mk' (fun u => rshift_any 13 al ah bl bh u h)
          clear E0 E1 S1 ho h1 h2
          generalize shS 13 al ah bl bh = R at *
          generalize shE bl bh = E at *
          obtain ⟨x, y⟩ := R
          go_enter Try.func23, Try.ntmps23
          go_wp2_with fail
          refine (HK.out _).mono ?_
          rintro e w1 ⟨rfl, rfl⟩
          go_wp2_with fail
          refine (rcheck_any _ _ _).mono ?_
          rintro e w1 ⟨rfl, b1⟩
          rw [e1]
          have X := HB.out w1 b1
          obtain ⟨c0, c1, d0, d1, z0, z1, f0, f1⟩ := X.facts
          have X := Hid.mk' X
          clear b1
          go_wp2_with fail
          refine (rcheck_any _ _ _).mono ?_
          rintro e w1 ⟨rfl, b1⟩
          rw [e2]
          have X := X.out.below b1
          obtain ⟨c0, c1, d0, d1, z0, z1, f0, f1⟩ := X.facts
          have X := Hid.mk' X
          clear b1
          go_wp2_with fail
          refine (HR.out _).mono ?_
          rintro e w3 ⟨rfl, b1⟩
          have X := X.out.below b1
          obtain ⟨c0, c1, d0, d1, z0, z1, f0, f1⟩ := X.facts
          have X := Hid.mk' X
          clear b1
          go_wp2_with fail
          obtain ⟨k0, k1, K⟩ := X.out.done x y
          refine ret_sp1 rfl rfl k0 k1 rfl ?_
          exact ⟨rfl, K⟩
      · have e2 := ckS_1 h2
        have E1 : doE o al ah bl bh = 150 := by rw [E0, if_neg (fun k => h2 k.2)]
        rw [doS_1 (by omega), E1]
        clear E0 E1 ho h1 h2
        go_enter Try.func23, Try.ntmps23
        go_wp2_with fail
        refine (HK.out _).mono ?_
        rintro e w1 ⟨rfl, rfl⟩
        go_wp2_with fail
        refine (rcheck_any _ _ _).mono ?_
        rintro e w1 ⟨rfl, b1⟩
        rw [e1]
        have X := HB.out w1 b1
        obtain ⟨c0, c1, d0, d1, z0, z1, f0, f1⟩ := X.facts
        have X := Hid.mk' X
        clear b1
        go_wp2_with fail
        refine (rcheck_any _ _ _).mono ?_
        rintro e w1 ⟨rfl, b1⟩
        rw [e2]
        have X := X.out.below b1
        obtain ⟨c0, c1, d0, d1, z0, z1, f0, f1⟩ := X.facts
        have X := Hid.mk' X
        clear b1
        go_wp2_with fail
        obtain ⟨k0, k1, K⟩ := X.out.done 0 0
        refine ret_sp1 rfl rfl k0 k1 rfl ?_
        exact ⟨rfl, K⟩
    · have e1 := ckS_1 h1
      have E1 : doE o al ah bl bh = 150 := by rw [E0, if_neg (fun k => h1 k.1)]
      rw [doS_1 (by omega), E1]
      clear E0 E1 ho h1
      go_enter Try.func23, Try.ntmps23
      go_wp2_with fail
      refine (HK.out _).mono ?_
      rintro e w1 ⟨rfl, rfl⟩
      go_wp2_with fail
      refine (rcheck_any _ _ _).mono ?_
      rintro e w1 ⟨rfl, b1⟩
      rw [e1]
      have X := HB.out w1 b1
      obtain ⟨c0, c1, d0, d1, z0, z1, f0, f1⟩ := X.facts
      have X := Hid.mk' X
      clear b1
      go_wp2_with fail
      obtain ⟨k0, k1, K⟩ := X.out.done 0 0
      refine ret_sp1 rfl rfl k0 k1 rfl ?_
      exact ⟨rfl, K⟩
  · have HK : Hid (∀ u, Calls Try.prog 35 #[.int .u8 o] u fun e w' => e = .returned (.bool false) ∧ u = w') := Hid.mk' (fun u => by
      have := known_any o u
      rw [show (decide (3 ≤ o) && decide (o ≤ 13)) = false by simp; omega] at this
      exact this)
    have E1 := @doE_2 o al ah bl bh ho
    rw [doS_1 (by omega), E1]
    clear E1 ho
    go_enter Try.func23, Try.ntmps23
    go_wp2_with fail
    refine (HK.out _).mono ?_
    rintro e w1 ⟨rfl, rfl⟩
    go_wp2_with fail
    refine ret_sp1 rfl rfl (celln (by simp) rfl) (celln (by simp) rfl) rfl ?_
    exact ⟨rfl, bl3 _ _ _ _⟩
end Go.Proofs.Ytpmbdnmiokkknaa
