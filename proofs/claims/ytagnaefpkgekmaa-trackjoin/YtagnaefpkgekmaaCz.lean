/- TrackJoin. -/
import Derived.Test.YtagnaefpkgekmaaCr
import Derived.Test.YtagnaefpkgekmaaBi
namespace Go.Proofs.Ytagnaefpkgekmaa
open Go.ChangeShapes Go.WideShapes Go.ChangeAt Go.RowKit Go.Maps Go.Sort Go.Shelf
set_option maxRecDepth 10000

theorem ck_nf' {f : Int → Int} (h : Fn f) : ckN (nf f) = 0 := by
  have := nf_len f
  unfold ckN
  rw [if_neg (by omega), if_pos (nf_ok h)]
/-- What TrackJoin asks, of lists that are in their one form. -/
theorem join_ok {xs ys : List Kn} (hx : ckN xs = 0) (hy : ckN ys = 0) {i : Nat} (hi : i < 257) : ∃ A M L : List Kn, jnN xs ys = (A, 0) ∧ jnN ys xs = (A, 0) ∧ pvN A i 5 = (M, 0) ∧ fgN M i = (L, 0) ∧
    (RIn (A, 0) ∧ RIn (M, 0) ∧ RIn (L, 0)) ∧ (ckN A = 0 ∧ ckN M = 0 ∧ ckN L = 0) ∧ (∀ z : Int, byN A z = min (byN xs z) (byN ys z)) ∧ (∀ z : Int, z ≠ i → byN M z = min (byN xs z) (byN ys z) ∧ byN L z = min (byN xs z) (byN ys z)) ∧ byN M i = max 5 (byN A i) ∧ byN L i = 0 := by
  have hf := fn_join (ck_fn hx).1 (ck_fn hy).1
  have hid : isId (i : Int) = true := (isId_iff _).2 (by omega)
  have hA : ∀ z, byN (nf (jnF xs ys)) z = jnF xs ys z := fun z => nf_by hf z
  have hfA : Fn (byN (nf (jnF xs ys))) := hf.ext hA
  have b0 := hfA.low i
  have b1 := hfA.high i
  have hM : Fn (pvF (byN (nf (jnF xs ys))) i 5) := hfA.upd ((isId_iff _).1 hid) (by omega) (by omega)
  have hMb : ∀ z, byN (nf (pvF (byN (nf (jnF xs ys))) i 5)) z = pvF (byN (nf (jnF xs ys))) i 5 z := fun z => nf_by hM z
  have hfM : Fn (byN (nf (pvF (byN (nf (jnF xs ys))) i 5))) := hM.ext hMb
  have hL : Fn (upd (byN (nf (pvF (byN (nf (jnF xs ys))) i 5))) i 0) := hfM.upd ((isId_iff _).1 hid) (by omega) (by omega)
  have hsw : nf (jnF ys xs) = nf (jnF xs ys) := nf_congr (fun z => by unfold jnF; omega)
  refine ⟨nf (jnF xs ys), nf (pvF (byN (nf (jnF xs ys))) i 5), nf (upd (byN (nf (pvF (byN (nf (jnF xs ys))) i 5))) i 0), ?_, ?_, ?_, ?_, ⟨rin_nf hf 0, rin_nf hM 0, rin_nf hL 0⟩, ⟨ck_nf' hf, ck_nf' hM, ck_nf' hL⟩, fun z => hA z, fun z hz => ⟨?_, ?_⟩, ?_, ?_⟩
  · unfold jnN; rw [if_pos hx, if_pos hy]
  · unfold jnN; rw [if_pos hy, if_pos hx, hsw]
  · unfold pvN; rw [if_pos (ck_nf' hf), if_pos hid, if_neg (by omega)]
  · unfold fgN; rw [if_pos (ck_nf' hM), if_pos hid]
  · rw [hMb]; unfold pvF upd; rw [if_neg hz]; exact hA z
  · rw [nf_by hL]
    show (if z = (i : Int) then (0 : Int) else _) = _
    rw [if_neg hz, hMb]; unfold pvF upd; rw [if_neg hz]; exact hA z
  · rw [hMb]; unfold pvF upd; rw [if_pos rfl]; omega
  · rw [nf_by hL]; unfold upd; rw [if_pos rfl]
theorem join_bad {xs ys : List Kn} (h : ckN xs ≠ 0 ∨ ckN ys ≠ 0) : ∃ e1 e2 : Int, jnN xs ys = ([], e1) ∧ jnN ys xs = ([], e2) ∧ e1 ≠ 0 ∧ e2 ≠ 0 := by
  unfold jnN
  by_cases hx : ckN xs = 0
  · have hy : ckN ys ≠ 0 := by
      rcases h with h | h
      · exact absurd hx h
      · exact h
    exact ⟨_, _, by rw [if_pos hx, if_neg hy], by rw [if_neg hy], hy, hy⟩
  · by_cases hy : ckN ys = 0
    · exact ⟨_, _, by rw [if_neg hx], by rw [if_pos hy, if_neg hx], hx, hx⟩
    · exact ⟨_, _, by rw [if_neg hx], by rw [if_neg hy], hx, hy⟩

set_option maxHeartbeats 16000000 in
theorem trackjoin_any (a : Option Addr) (c : Nat) (xs : List Kn) (a' : Option Addr) (c' : Nat) (ys : List Kn) (id : Int) (W : World) (hk : Ks W (.slice a xs.length c) xs) (hm : Ks W (.slice a' ys.length c') ys) (hid : In64 id) :
    Calls Try.prog 8 #[.slice a xs.length c, .slice a' ys.length c', .int .i64 id] W fun e w' => e = .returned (.bool true) ∧ Below W.heap.size W w' := by
  have KL := Hid.mk' hk
  have KM := Hid.mk' hm
  have CA := fun u hu => check_any (.slice a xs.length c) xs u hu
  have CB := fun u hu => check_any (.slice a' ys.length c') ys u hu
  clear hk hm
  go_enter Try.func8, Try.ntmps8
  go_wp2_with fail
  refine (works_any W).mono ?_
  rintro e w1 ⟨rfl, b1⟩
  have HB := Hid.mk' b1
  replace KL := Hid.mk' (KL.out.below b1)
  replace KM := Hid.mk' (KM.out.below b1)
  clear b1
  by_cases hck : ckN xs = 0 ∧ ckN ys = 0
  · obtain ⟨hx, hy⟩ := hck
    have li := brg_lt id 257 (by omega)
    have K0 := fun u => brg_any id 257 u (by omega) (by omega) hid.1 hid.2
    generalize brg id 257 = i at *
    obtain ⟨LA, LM, LL, hA, hB, hM, hL, ⟨rA, rM, rL⟩, ⟨kA, kM, kL⟩, hmin, hoth, hMi, hLi⟩ := join_ok hx hy li
    have HM := Hid.mk' hM
    have HL := Hid.mk' hL
    have RA := Hid.mk' rA
    have RM := Hid.mk' rM
    have RL := Hid.mk' rL
    have CKA := Hid.mk' kA
    have CKM := Hid.mk' kM
    have CKL := Hid.mk' kL
    have HMIN := Hid.mk' hmin
    have HOTH := Hid.mk' hoth
    have HMI := Hid.mk' hMi
    have HLI := Hid.mk' hLi
    clear hM hL rA rM rL kA kM kL hmin hoth hMi hLi hx hy CA CB
    have KQ := join_any (.slice a xs.length c) (.slice a' ys.length c') xs ys w1 KL.out KM.out
    rw [hA] at KQ
    go_wp2_with fail
    refine (KQ).mono ?_
    rintro e w2 ⟨⟨va, rfl, hrow⟩, b2⟩
    replace HB := Hid.mk' (HB.out.trans (b2.mono HB.out.size))
    replace KL := Hid.mk' (KL.out.below b2)
    replace KM := Hid.mk' (KM.out.below b2)
    have Ka := Hid.mk' (own_ks hrow RA.out.1 (Nat.le_trans RA.out.2 (by decide)))
    clear hrow KQ
    clear b2
    have KQ := join_any (.slice a' ys.length c') (.slice a xs.length c) ys xs w2 KM.out KL.out
    rw [hB] at KQ
    go_wp2_with fail
    refine (KQ).mono ?_
    rintro e w3 ⟨⟨vb, rfl, hrow⟩, b3⟩
    replace HB := Hid.mk' (HB.out.trans (b3.mono HB.out.size))
    replace KL := Hid.mk' (KL.out.below b3)
    replace KM := Hid.mk' (KM.out.below b3)
    replace Ka := Hid.mk' (Ka.out.below b3)
    have Kb := Hid.mk' (own_ks hrow RA.out.1 (Nat.le_trans RA.out.2 (by decide)))
    clear hrow KQ
    clear b3
    have KQ := prove_any va LA (i : Int) 5 w3 Ka.out (by unfold In64; omega)
    rw [HM.out] at KQ
    go_wp2_with (go_at_call 30; refine (K0 _).mono ?_; rintro e u ⟨rfl, rfl⟩)
    refine (KQ).mono ?_
    rintro e w4 ⟨⟨vm, rfl, hrow⟩, b4⟩
    replace HB := Hid.mk' (HB.out.trans (b4.mono HB.out.size))
    replace KL := Hid.mk' (KL.out.below b4)
    replace KM := Hid.mk' (KM.out.below b4)
    replace Ka := Hid.mk' (Ka.out.below b4)
    replace Kb := Hid.mk' (Kb.out.below b4)
    have Km := Hid.mk' (own_ks hrow RM.out.1 (Nat.le_trans RM.out.2 (by decide)))
    clear hrow KQ
    clear b4
    have KQ := forget_any vm LM (i : Int) w4 Km.out (by unfold In64; omega)
    rw [HL.out] at KQ
    go_wp2_with fail
    refine (KQ).mono ?_
    rintro e w5 ⟨⟨vl, rfl, hrow⟩, b5⟩
    replace HB := Hid.mk' (HB.out.trans (b5.mono HB.out.size))
    replace KL := Hid.mk' (KL.out.below b5)
    replace KM := Hid.mk' (KM.out.below b5)
    replace Ka := Hid.mk' (Ka.out.below b5)
    replace Kb := Hid.mk' (Kb.out.below b5)
    replace Km := Hid.mk' (Km.out.below b5)
    have Kl := Hid.mk' (own_ks hrow RL.out.1 (Nat.le_trans RL.out.2 (by decide)))
    clear hrow KQ
    clear b5
    go_wp2_with fail
    refine (same_bel va vb LA w5 Ka.out Kb.out).mono ?_
    rintro e w6 ⟨rfl, b6⟩
    replace HB := Hid.mk' (HB.out.trans (b6.mono HB.out.size))
    replace KL := Hid.mk' (KL.out.below b6)
    replace KM := Hid.mk' (KM.out.below b6)
    replace Ka := Hid.mk' (Ka.out.below b6)
    replace Kb := Hid.mk' (Kb.out.below b6)
    replace Km := Hid.mk' (Km.out.below b6)
    replace Kl := Hid.mk' (Kl.out.below b6)
    clear b6
    clear Kb
    have KQ := check_any va LA w6 Ka.out
    rw [CKA.out] at KQ
    go_wp2_with fail
    refine (KQ).mono ?_
    rintro e w7 ⟨rfl, b7⟩
    replace HB := Hid.mk' (HB.out.trans (b7.mono HB.out.size))
    replace KL := Hid.mk' (KL.out.below b7)
    replace KM := Hid.mk' (KM.out.below b7)
    replace Ka := Hid.mk' (Ka.out.below b7)
    replace Km := Hid.mk' (Km.out.below b7)
    replace Kl := Hid.mk' (Kl.out.below b7)
    clear KQ
    clear b7
    have KQ := check_any vm LM w7 Km.out
    rw [CKM.out] at KQ
    go_wp2_with fail
    refine (KQ).mono ?_
    rintro e w8 ⟨rfl, b8⟩
    replace HB := Hid.mk' (HB.out.trans (b8.mono HB.out.size))
    replace KL := Hid.mk' (KL.out.below b8)
    replace KM := Hid.mk' (KM.out.below b8)
    replace Ka := Hid.mk' (Ka.out.below b8)
    replace Km := Hid.mk' (Km.out.below b8)
    replace Kl := Hid.mk' (Kl.out.below b8)
    clear KQ
    clear b8
    have KQ := check_any vl LL w8 Kl.out
    rw [CKL.out] at KQ
    go_wp2_with fail
    refine (KQ).mono ?_
    rintro e w9 ⟨rfl, b9⟩
    replace HB := Hid.mk' (HB.out.trans (b9.mono HB.out.size))
    replace KL := Hid.mk' (KL.out.below b9)
    replace KM := Hid.mk' (KM.out.below b9)
    replace Ka := Hid.mk' (Ka.out.below b9)
    replace Km := Hid.mk' (Km.out.below b9)
    replace Kl := Hid.mk' (Kl.out.below b9)
    clear KQ
    clear b9
    go_wp2_with fail
    go_loopw [15, 16] (fun r s wr => ∃ m : Nat, r = .int .i64 m ∧ m ≤ 257 ∧ Hid (Ks wr (.slice a xs.length c) xs) ∧ Hid (Ks wr (.slice a' ys.length c') ys) ∧ Hid (Ks wr va LA) ∧ Hid (Ks wr vm LM) ∧ Hid (Ks wr vl LL) ∧ Hid (Below W.heap.size W wr)) (fun r _ _ => ((257 : Int) - iv r).toNat)
    case atStart => exact ⟨0, rfl, by omega, KL, KM, Ka, Km, Kl, HB⟩
    case round =>
      clear KL KM Ka Km Kl HB
      obtain ⟨m, rfl, hm, KL, KM, Ka, Km, Kl, HB⟩ := hrel
      by_cases hm7 : m < 257
      · have hlm : (m : Int) ≤ 256 := by omega
        have KX := fun u hu => bytes_any (.slice a xs.length c) xs (m : Int) u hu
        have KY := fun u hu => bytes_any (.slice a' ys.length c') ys (m : Int) u hu
        have KA := fun u hu => bytes_any va LA (m : Int) u hu
        have KMM := fun u hu => bytes_any vm LM (m : Int) u hu
        have KLL := fun u hu => bytes_any vl LL (m : Int) u hu
        rw [HMIN.out] at KA
        have HO := Hid.mk' (HOTH.out (m : Int))
        generalize byN xs (m : Int) = X at *
        generalize byN ys (m : Int) = Y at *
        go_wp2_with fail
        refine (KA wr Ka.out).mono ?_
        rintro e w41 ⟨rfl, b41⟩
        replace HB := Hid.mk' (HB.out.trans (b41.mono HB.out.size))
        replace KL := Hid.mk' (KL.out.below b41)
        replace KM := Hid.mk' (KM.out.below b41)
        replace Ka := Hid.mk' (Ka.out.below b41)
        replace Km := Hid.mk' (Km.out.below b41)
        replace Kl := Hid.mk' (Kl.out.below b41)
        clear b41
        go_wp2_with fail
        refine (KX w41 KL.out).mono ?_
        rintro e w42 ⟨rfl, b42⟩
        replace HB := Hid.mk' (HB.out.trans (b42.mono HB.out.size))
        replace KL := Hid.mk' (KL.out.below b42)
        replace KM := Hid.mk' (KM.out.below b42)
        replace Ka := Hid.mk' (Ka.out.below b42)
        replace Km := Hid.mk' (Km.out.below b42)
        replace Kl := Hid.mk' (Kl.out.below b42)
        clear b42
        go_wp2_with fail
        refine (KY w42 KM.out).mono ?_
        rintro e w43 ⟨rfl, b43⟩
        replace HB := Hid.mk' (HB.out.trans (b43.mono HB.out.size))
        replace KL := Hid.mk' (KL.out.below b43)
        replace KM := Hid.mk' (KM.out.below b43)
        replace Ka := Hid.mk' (Ka.out.below b43)
        replace Km := Hid.mk' (Km.out.below b43)
        replace Kl := Hid.mk' (Kl.out.below b43)
        clear b43
        by_cases hmi : (m : Int) = (i : Int)
        · have hmi2 : m = i := by omega
          clear KMM KLL
          go_wp2_with fail
          go_roundw
          case rel => exact ⟨m + 1, by go_num, by omega, KL, KM, Ka, Km, Kl, HB⟩
          case measure => simp [iv]; omega
        · have hmi2 : ¬ m = i := by omega
          obtain ⟨e1, e2⟩ := HO.out hmi
          rw [e1] at KMM
          rw [e2] at KLL
          clear e1 e2
          go_wp2_with fail
          refine (KMM w43 Km.out).mono ?_
          rintro e w44 ⟨rfl, b44⟩
          replace HB := Hid.mk' (HB.out.trans (b44.mono HB.out.size))
          replace KL := Hid.mk' (KL.out.below b44)
          replace KM := Hid.mk' (KM.out.below b44)
          replace Ka := Hid.mk' (Ka.out.below b44)
          replace Km := Hid.mk' (Km.out.below b44)
          replace Kl := Hid.mk' (Kl.out.below b44)
          clear b44
          go_wp2_with fail
          refine (KLL w44 Kl.out).mono ?_
          rintro e w45 ⟨rfl, b45⟩
          replace HB := Hid.mk' (HB.out.trans (b45.mono HB.out.size))
          replace KL := Hid.mk' (KL.out.below b45)
          replace KM := Hid.mk' (KM.out.below b45)
          replace Ka := Hid.mk' (Ka.out.below b45)
          replace Km := Hid.mk' (Km.out.below b45)
          replace Kl := Hid.mk' (Kl.out.below b45)
          clear b45
          go_wp2_with fail
          go_roundw
          case rel => exact ⟨m + 1, by go_num, by omega, KL, KM, Ka, Km, Kl, HB⟩
          case measure => simp [iv]; omega
      · have hlm : ¬ (m : Int) ≤ 256 := by omega
        clear KL KM
        have KMM := fun u hu => bytes_any vm LM (i : Int) u hu
        have KAA := fun u hu => bytes_any va LA (i : Int) u hu
        have KLL := fun u hu => bytes_any vl LL (i : Int) u hu
        rw [HMI.out] at KMM
        rw [HLI.out] at KLL
        generalize byN LA (i : Int) = X at *
        go_wp2_with fail
        refine (KMM wr Km.out).mono ?_
        rintro e w61 ⟨rfl, b61⟩
        replace HB := Hid.mk' (HB.out.trans (b61.mono HB.out.size))
        replace Ka := Hid.mk' (Ka.out.below b61)
        replace Km := Hid.mk' (Km.out.below b61)
        replace Kl := Hid.mk' (Kl.out.below b61)
        clear b61
        go_wp2_with fail
        refine (KAA w61 Ka.out).mono ?_
        rintro e w62 ⟨rfl, b62⟩
        replace HB := Hid.mk' (HB.out.trans (b62.mono HB.out.size))
        replace Ka := Hid.mk' (Ka.out.below b62)
        replace Km := Hid.mk' (Km.out.below b62)
        replace Kl := Hid.mk' (Kl.out.below b62)
        clear b62
        go_wp2_with fail
        refine (KLL w62 Kl.out).mono ?_
        rintro e w63 ⟨rfl, b63⟩
        replace HB := Hid.mk' (HB.out.trans (b63.mono HB.out.size))
        replace Ka := Hid.mk' (Ka.out.below b63)
        replace Km := Hid.mk' (Km.out.below b63)
        replace Kl := Hid.mk' (Kl.out.below b63)
        clear b63
        go_wp2_with fail
        go_ret
        exact ⟨rfl, HB.out⟩
  · obtain ⟨e1, e2, hA, hB, hn1, hn2⟩ := join_bad (xs := xs) (ys := ys) (by
      by_cases h : ckN xs = 0
      · exact .inr (fun h2 => hck ⟨h, h2⟩)
      · exact .inl h)
    have HCK := Hid.mk' hck
    clear hck
    have KQ := join_any (.slice a xs.length c) (.slice a' ys.length c') xs ys w1 KL.out KM.out
    rw [hA] at KQ
    go_wp2_with fail
    refine (KQ).mono ?_
    rintro e w2 ⟨⟨va, rfl, hrow⟩, b2⟩
    replace HB := Hid.mk' (HB.out.trans (b2.mono HB.out.size))
    replace KL := Hid.mk' (KL.out.below b2)
    replace KM := Hid.mk' (KM.out.below b2)
    have KA := Hid.mk' (own_ks hrow (by simp) (by simp))
    clear hrow KQ
    clear b2
    have KQ := join_any (.slice a' ys.length c') (.slice a xs.length c) ys xs w2 KM.out KL.out
    rw [hB] at KQ
    go_wp2_with fail
    refine (KQ).mono ?_
    rintro e w3 ⟨⟨vb, rfl, hrow⟩, b3⟩
    replace HB := Hid.mk' (HB.out.trans (b3.mono HB.out.size))
    replace KL := Hid.mk' (KL.out.below b3)
    replace KM := Hid.mk' (KM.out.below b3)
    replace KA := Hid.mk' (KA.out.below b3)
    have KB := Hid.mk' (own_ks hrow (by simp) (by simp))
    clear hrow KQ
    clear b3
    obtain ⟨sa, sc, hva, -⟩ := KA.out.lies
    obtain ⟨sb, sd, hvb, -⟩ := KB.out.lies
    simp only [List.length_nil] at hva hvb
    subst hva hvb
    clear KA KB
    obtain ⟨C, hC⟩ : ∃ C, ckN xs = C := ⟨_, rfl⟩
    obtain ⟨D, hD⟩ : ∃ D, ckN ys = D := ⟨_, rfl⟩
    rw [hC] at CA HCK
    rw [hD] at CB HCK
    clear hC hD hA hB
    go_wp2_with fail
    refine (CA w3 KL.out).mono ?_
    rintro e w4 ⟨rfl, b4⟩
    replace HB := Hid.mk' (HB.out.trans (b4.mono HB.out.size))
    replace KL := Hid.mk' (KL.out.below b4)
    replace KM := Hid.mk' (KM.out.below b4)
    clear b4
    by_cases hc0 : C = 0
    · subst hc0
      have hd0 : ¬ D = 0 := fun e => HCK.out ⟨by trivial, e⟩
      go_wp2_with fail
      refine (CB w4 KM.out).mono ?_
      rintro e w5 ⟨rfl, b5⟩
      replace HB := Hid.mk' (HB.out.trans (b5.mono HB.out.size))
      replace KM := Hid.mk' (KM.out.below b5)
      clear b5
      have hdb : (D != 0) = true := by simp [hd0]
      go_wp2_with fail
      go_ret
      exact ⟨ret_bool (by first | rfl | exact hdb), HB.out⟩
    · go_wp2_with fail
      go_ret
      exact ⟨rfl, HB.out⟩

theorem walkTrackJoin (a : Option Addr) (c : Nat) (xs : List sh60.M) (a' : Option Addr) (c' : Nat) (ys : List sh60.M) (x2 : Int) (W : World) (o0 : SlOk sh60 W a c xs) (l0 : xs.length ≤ 140737488351232) (o1 : SlOk sh60 W a' c' ys) (l1 : ys.length ≤ 140737488351232) (w2 : (Lit.int .i64 x2).wf = true) :
    Calls Try.prog 8 #[.slice a xs.length c, .slice a' ys.length c', .int .i64 x2] W fun e w' => e = .returned (.bool true) ∧ Below W.heap.size W w' :=
  trackjoin_any a c xs a' c' ys x2 W (ks_open a c xs W o0 (by omega)) (ks_open a' c' ys W o1 (by omega)) (bounds_i64 w2)
end Go.Proofs.Ytagnaefpkgekmaa
