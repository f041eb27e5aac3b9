/- The contract of span.Do. -/
import Derived.Test.YtpmbdnmiokkknabDe
import Derived.Test.YtpmbdnmiokkknabDf
namespace Go.Proofs.Ytpmbdnmiokkknab
open Go.ChangeShapes Go.WideShapes Go.ChangeAt Go.RowKit
set_option maxRecDepth 10000
set_option linter.unusedVariables false

/-- The error of Do; what it makes. -/
def doE (o al ah bl bh : Int) : Int :=
  if 3 ≤ o ∧ o ≤ 13 then (if al ≤ ah ∧ bl ≤ bh then (if (o = 12 ∨ o = 13) ∧ ¬ (bl = bh ∧ bl ≤ 63) then 2 else 0) else 150) else 2
def doM (o al ah bl bh : Int) : Int × Int :=
  if o = 3 ∨ o = 4 then dAdd al ah bl bh else if o = 5 then dSub al ah bl bh else if o = 6 ∨ o = 7 then dMul al ah bl bh
  else if o = 8 ∨ o = 9 then dAnd al ah bl bh else if o = 10 then dOr al ah bl bh else if o = 11 then dXor al ah bl bh
  else if o = 12 then dShl al ah bl else dShr al ah bl
def doS (o al ah bl bh : Int) : Int × Int := if doE o al ah bl bh = 0 then doM o al ah bl bh else (0, 0)

/-- What the maker answers. -/
def mkF (o : Int) : Nat :=
  if o = 3 ∨ o = 4 then 21 else if o = 5 then 22 else if o = 6 ∨ o = 7 then 23
  else if o = 8 ∨ o = 9 then 24 else if o = 10 then 25 else if o = 11 then 26
  else if o = 12 then 27 else 28

theorem op_cases {o : Int} (h : 3 ≤ o ∧ o ≤ 13) : o = 3 ∨ o = 4 ∨ o = 5 ∨ o = 6 ∨ o = 7 ∨ o = 8 ∨ o = 9 ∨ o = 10 ∨ o = 11 ∨ o = 12 ∨ o = 13 := by omega

theorem maker_any (o : Int) (w : World) (h : 3 ≤ o ∧ o ≤ 13) : Calls Try.prog 15 #[.int .u8 o] w fun e w' => e = .returned (.func (.func (mkF o)) #[] #[]) ∧ w = w' := by
  rcases op_cases h with rfl | rfl | rfl | rfl | rfl | rfl | rfl | rfl | rfl | rfl | rfl
  all_goals
    go_enter Try.func15, Try.ntmps15
    go_wp2_with fail
    go_ret
    exact ⟨rfl, rfl⟩
theorem maker_none (o : Int) (w : World) (h : ¬ (3 ≤ o ∧ o ≤ 13)) : Calls Try.prog 15 #[.int .u8 o] w fun e w' => e = .returned .nilFunc ∧ w = w' := by
  have n3 : ¬ o = 3 := by omega
  have n4 : ¬ o = 4 := by omega
  have n5 : ¬ o = 5 := by omega
  have n6 : ¬ o = 6 := by omega
  have n7 : ¬ o = 7 := by omega
  have n8 : ¬ o = 8 := by omega
  have n9 : ¬ o = 9 := by omega
  have n10 : ¬ o = 10 := by omega
  have n11 : ¬ o = 11 := by omega
  have n12 : ¬ o = 12 := by omega
  have n13 : ¬ o = 13 := by omega
  clear h
  go_enter Try.func15, Try.ntmps15
  go_wp2_with fail
  go_ret
  exact ⟨rfl, rfl⟩

theorem shift_any (o : Int) (w : World) : Calls Try.prog 17 #[.int .u8 o] w fun e w' => e = .returned (.bool (decide (o = 12 ∨ o = 13))) ∧ w = w' := by
  have hv : ∀ b, (b = true ↔ (o = 12 ∨ o = 13)) → decide (o = 12 ∨ o = 13) = b := fun b h => by
    cases b <;> simp at h ⊢ <;> omega
  generalize decide (o = 12 ∨ o = 13) = D at *
  go_enter Try.func17, Try.ntmps17
  by_cases h : o = 12
  · have e := hv true (by simp [h])
    subst e h
    clear hv
    go_wp2_with fail
    go_ret
    exact ⟨ret_bool (by first | rfl | decide | (simp [*]; done)), rfl⟩
  · by_cases h3 : o = 13
    · have e := hv true (by simp [h3])
      subst e h3
      clear hv
      go_wp2_with fail
      go_ret
      exact ⟨ret_bool (by first | rfl | decide | (simp [*]; done)), rfl⟩
    · have e := hv false (by simp [h, h3])
      subst e
      clear hv
      go_wp2_with fail
      go_ret
      exact ⟨ret_bool (by first | rfl | decide | (simp [*]; done)), rfl⟩

theorem fn_nil (F : Nat) (u : World) : Sem.run Try.prog (binOp .eql 36 (.func (.func F) #[] #[]) .nilFunc) u = .ok (.bool false) u := by
  first | rfl | kernel_rfl | (simp [binOp]; done) | go_simp
theorem nil_nil (u : World) : Sem.run Try.prog (binOp .eql 36 .nilFunc .nilFunc) u = .ok (.bool true) u := by
  first | rfl | kernel_rfl | (simp [binOp]; done) | go_simp

theorem made_any (o al ah bl bh : Int) (w : World) (h : U4 al ah bl bh) (ho : 3 ≤ o ∧ o ≤ 13) (hk : doE o al ah bl bh = 0) :
    Calls Try.prog (mkF o) #[spV (al, ah), spV (bl, bh)] w fun e w' => e = .returned (spV (doM o al ah bl bh)) ∧ Below w.heap.size w w' := by
  unfold doE at hk
  rw [if_pos ho] at hk
  have hk2 : al ≤ ah ∧ bl ≤ bh := by
    by_cases k : al ≤ ah ∧ bl ≤ bh
    · exact k
    · rw [if_neg k] at hk; omega
  rw [if_pos hk2] at hk
  have hs : (o = 12 ∨ o = 13) → bl ≤ 63 := fun e => by
    by_cases k : bl = bh ∧ bl ≤ 63
    · exact k.2
    · rw [if_pos ⟨e, k⟩] at hk; omega
  rcases op_cases ho with rfl | rfl | rfl | rfl | rfl | rfl | rfl | rfl | rfl | rfl | rfl
  · exact add_any al ah bl bh w h hk2.1 hk2.2
  · exact add_any al ah bl bh w h hk2.1 hk2.2
  · exact sub_any al ah bl bh w h hk2.1 hk2.2
  · exact mul_any al ah bl bh w h
  · exact mul_any al ah bl bh w h
  · exact and_any al ah bl bh w h
  · exact and_any al ah bl bh w h
  · exact or_any al ah bl bh w h
  · exact xor_any al ah bl bh w h
  · exact shl_any al ah bl bh w h.a2 h.b0 (hs (by omega))
  · exact shr_any al ah bl bh w h.b0 (hs (by omega))

theorem made_enters (o : Int) (args : Array Value) (u : World) (ho : 3 ≤ o ∧ o ≤ 13) : (callFunc (mkF o) args).run Try.prog u = .ok (.enter (mkF o) args) u := by
  rcases op_cases ho with rfl | rfl | rfl | rfl | rfl | rfl | rfl | rfl | rfl | rfl | rfl
  · exact Try.call21 args u
  · exact Try.call21 args u
  · exact Try.call22 args u
  · exact Try.call23 args u
  · exact Try.call23 args u
  · exact Try.call24 args u
  · exact Try.call24 args u
  · exact Try.call25 args u
  · exact Try.call26 args u
  · exact Try.call27 args u
  · exact Try.call28 args u

theorem doE_2 {o al ah bl bh : Int} (h : ¬ (3 ≤ o ∧ o ≤ 13)) : doE o al ah bl bh = 2 := by unfold doE; rw [if_neg h]
theorem doE_0 {o al ah bl bh : Int} (h : (3 ≤ o ∧ o ≤ 13)) : doE o al ah bl bh = if al ≤ ah ∧ bl ≤ bh then (if (o = 12 ∨ o = 13) ∧ ¬ (bl = bh ∧ bl ≤ 63) then 2 else 0) else 150 := by unfold doE; rw [if_pos h]
theorem doS_0 {o al ah bl bh : Int} (h : doE o al ah bl bh = 0) : doS o al ah bl bh = doM o al ah bl bh := by unfold doS; rw [if_pos h]
theorem doS_1 {o al ah bl bh : Int} (h : ¬ doE o al ah bl bh = 0) : doS o al ah bl bh = (0, 0) := by unfold doS; rw [if_neg h]

set_option maxHeartbeats 1000000 in
theorem do_any (o al ah bl bh : Int) (w : World) (h : U4 al ah bl bh) :
    Calls Try.prog 9 #[.int .u8 o, spV (al, ah), spV (bl, bh)] w fun e w' => e = .returned (.tuple #[spV (doS o al ah bl bh), .int .i64 (doE o al ah bl bh)]) ∧ Below w.heap.size w w' := by
  have HB : Hid (∀ w1, Below _ _ w1 → B3 w w1 al ah bl bh 0 0) := Hid.mk' (fun w1 b => (B3.start w al ah bl bh 0 0).below b)
  by_cases ho : 3 ≤ o ∧ o ≤ 13
  · have HM := Hid.mk' (fun u => maker_any o u ho)
    have HE := Hid.mk' (fun args u => made_enters o args u ho)
    have HR : Hid (doE o al ah bl bh = 0 → ∀ u, Calls Try.prog (mkF o) #[spV (al, ah), spV (bl, bh)] u fun e w' => e = .returned (spV (doM o al ah bl bh)) ∧ Below u.heap.size u w') := Hid.mk' (fun k u => made_any o al ah bl bh u h ho k)
    have HS := Hid.mk' (fun u => shift_any o u)
    have E0 := @doE_0 o al ah bl bh ho
    generalize mkF o = F at *
    have hn := fun u => fn_nil F u
    by_cases hk : al ≤ ah ∧ bl ≤ bh
    · have hb : cbS al ah bl bh = 0 := by unfold cbS; rw [if_pos hk]
      rw [if_pos hk] at E0
      by_cases hs : o = 12 ∨ o = 13
      · have e1 : decide (o = 12 ∨ o = 13) = true := decide_eq_true hs
        by_cases hq : bl = bh
        · have e2 : decide (bl = bh) = true := decide_eq_true hq
          by_cases h6 : bl ≤ 63
          · have E1 : doE o al ah bl bh = 0 := by rw [E0, if_neg (fun k => k.2 ⟨hq, h6⟩)]
            have HR := Hid.mk' (HR.out E1)
            rw [doS_0 E1, E1]
            clear E0 E1 hk hs ho hq
            generalize doM o al ah bl bh = R at *
            obtain ⟨x, y⟩ := R
            go_enter Try.func9, Try.ntmps9
            go_wp2_with fail
            refine (HM.out _).mono ?_
            rintro e w1 ⟨rfl, rfl⟩
            go_wp2_with fail
            refine (both_any _ _ _ _ _).mono ?_
            rintro e w1 ⟨rfl, b1⟩
            rw [hb]
            have X := HB.out w1 b1
            obtain ⟨c0, c1, d0, d1, z0, z1, f0, f1⟩ := X.facts
            have X := Hid.mk' X
            clear b1
            go_wp2_with fail
            refine (HS.out _).mono ?_
            rintro e w2 ⟨rfl, rfl⟩
            rw [e1]
            go_wp2_with fail
            refine (single_any _ _ _).mono ?_
            rintro e w3 ⟨rfl, b1⟩
            rw [e2]
            have X := X.out.below b1
            obtain ⟨c0, c1, d0, d1, z0, z1, f0, f1⟩ := X.facts
            have X := Hid.mk' X
            clear b1
            have he := HE.out
            go_wp2_with fail
            refine (HR.out _).mono ?_
            rintro e w3 ⟨rfl, b1⟩
            have X := X.out.below b1
            obtain ⟨c0, c1, d0, d1, z0, z1, f0, f1⟩ := X.facts
            have X := Hid.mk' X
            clear b1
            go_wp2_with fail
            obtain ⟨k0, k1, K⟩ := X.out.done x y
            refine ret_sp1 rfl rfl k0 k1 rfl ?_
            exact ⟨rfl, K⟩
          · have E1 : doE o al ah bl bh = 2 := by rw [E0, if_pos ⟨hs, fun k => h6 k.2⟩]
            rw [doS_1 (by omega), E1]
            clear E0 E1 hk hs ho hq
            go_enter Try.func9, Try.ntmps9
            go_wp2_with fail
            refine (HM.out _).mono ?_
            rintro e w1 ⟨rfl, rfl⟩
            go_wp2_with fail
            refine (both_any _ _ _ _ _).mono ?_
            rintro e w1 ⟨rfl, b1⟩
            rw [hb]
            have X := HB.out w1 b1
            obtain ⟨c0, c1, d0, d1, z0, z1, f0, f1⟩ := X.facts
            have X := Hid.mk' X
            clear b1
            go_wp2_with fail
            refine (HS.out _).mono ?_
            rintro e w2 ⟨rfl, rfl⟩
            rw [e1]
            go_wp2_with fail
            refine (single_any _ _ _).mono ?_
            rintro e w3 ⟨rfl, b1⟩
            rw [e2]
            have X := X.out.below b1
            obtain ⟨c0, c1, d0, d1, z0, z1, f0, f1⟩ := X.facts
            have X := Hid.mk' X
            clear b1
            go_wp2_with fail
            obtain ⟨k0, k1, K⟩ := X.out.done 0 0
            refine ret_sp1 rfl rfl k0 k1 rfl ?_
            exact ⟨rfl, K⟩
        · have e2 : decide (bl = bh) = false := decide_eq_false hq
          have E1 : doE o al ah bl bh = 2 := by rw [E0, if_pos ⟨hs, fun k => hq k.1⟩]
          rw [doS_1 (by omega), E1]
          clear E0 E1 hk hs ho hq
          go_enter Try.func9, Try.ntmps9
          go_wp2_with fail
          refine (HM.out _).mono ?_
          rintro e w1 ⟨rfl, rfl⟩
          go_wp2_with fail
          refine (both_any _ _ _ _ _).mono ?_
          rintro e w1 ⟨rfl, b1⟩
          rw [hb]
          have X := HB.out w1 b1
          obtain ⟨c0, c1, d0, d1, z0, z1, f0, f1⟩ := X.facts
          have X := Hid.mk' X
          clear b1
          go_wp2_with fail
          refine (HS.out _).mono ?_
          rintro e w2 ⟨rfl, rfl⟩
          rw [e1]
          go_wp2_with fail
          refine (single_any _ _ _).mono ?_
          rintro e w3 ⟨rfl, b1⟩
          rw [e2]
          have X := X.out.below b1
          obtain ⟨c0, c1, d0, d1, z0, z1, f0, f1⟩ := X.facts
          have X := Hid.mk' X
          clear b1
          go_wp2_with fail
          obtain ⟨k0, k1, K⟩ := X.out.done 0 0
          refine ret_sp1 rfl rfl k0 k1 rfl ?_
          exact ⟨rfl, K⟩
      · have e1 : decide (o = 12 ∨ o = 13) = false := decide_eq_false hs
        have E1 : doE o al ah bl bh = 0 := by rw [E0, if_neg (fun k => hs k.1)]
        have HR := Hid.mk' (HR.out E1)
        rw [doS_0 E1, E1]
        clear E0 E1 hk hs ho
        generalize doM o al ah bl bh = R at *
        obtain ⟨x, y⟩ := R
        go_enter Try.func9, Try.ntmps9
        go_wp2_with fail
        refine (HM.out _).mono ?_
        rintro e w1 ⟨rfl, rfl⟩
        go_wp2_with fail
        refine (both_any _ _ _ _ _).mono ?_
        rintro e w1 ⟨rfl, b1⟩
        rw [hb]
        have X := HB.out w1 b1
        obtain ⟨c0, c1, d0, d1, z0, z1, f0, f1⟩ := X.facts
        have X := Hid.mk' X
        clear b1
        go_wp2_with fail
        refine (HS.out _).mono ?_
        rintro e w2 ⟨rfl, rfl⟩
        rw [e1]
        have he := HE.out
        go_wp2_with fail
        refine (HR.out _).mono ?_
        rintro e w3 ⟨rfl, b1⟩
        have X := X.out.below b1
        obtain ⟨c0, c1, d0, d1, z0, z1, f0, f1⟩ := X.facts
        have X := Hid.mk' X
        clear b1
        go_wp2_with fail
        obtain ⟨k0, k1, K⟩ := X.out.done x y
        refine ret_sp1 rfl rfl k0 k1 rfl ?_
        exact ⟨rfl, K⟩
    · have hb : cbS al ah bl bh = 150 := by unfold cbS; rw [if_neg hk]
      have E1 : doE o al ah bl bh = 150 := by rw [E0, if_neg hk]
      rw [doS_1 (by omega), E1]
      clear E0 E1 hk ho
      go_enter Try.func9, Try.ntmps9
      go_wp2_with fail
      refine (HM.out _).mono ?_
      rintro e w1 ⟨rfl, rfl⟩
      go_wp2_with fail
      refine (both_any _ _ _ _ _).mono ?_
      rintro e w1 ⟨rfl, b1⟩
      rw [hb]
      have X := HB.out w1 b1
      obtain ⟨c0, c1, d0, d1, z0, z1, f0, f1⟩ := X.facts
      have X := Hid.mk' X
      clear b1
      go_wp2_with fail
      obtain ⟨k0, k1, K⟩ := X.out.done 0 0
      refine ret_sp1 rfl rfl k0 k1 rfl ?_
      exact ⟨rfl, K⟩
  · have HM := Hid.mk' (fun u => maker_none o u ho)
    have hn := nil_nil
    have E1 := @doE_2 o al ah bl bh ho
    rw [doS_1 (by omega), E1]
    clear E1 ho
    go_enter Try.func9, Try.ntmps9
    go_wp2_with fail
    refine (HM.out _).mono ?_
    rintro e w1 ⟨rfl, rfl⟩
    go_wp2_with fail
    refine ret_sp1 rfl rfl (celln (by simp) rfl) (celln (by simp) rfl) rfl ?_
    exact ⟨rfl, bl3 _ _ _ _⟩
end Go.Proofs.Ytpmbdnmiokkknab
