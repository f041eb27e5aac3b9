/- The document's Where; its Same: two rows of heads. -/
import Derived.Test.YthdgfhllieknlaaJk
namespace Go.Proofs.Ythdgfhllieknlaa
open Go.ChangeShapes Go.WideShapes Go.ChangeAt Go.RowKit
set_option maxRecDepth 10000

theorem hsC_at (out : Hs) (i : Nat) (k : Int) (L : List Value) (h : out[i]? = some (k, L)) : ∃ B, hsC out = hsC (out.take i) ++ (hk k L ++ B) := by
  obtain ⟨hlt, he⟩ := List.getElem?_eq_some_iff.1 h
  have e : out = out.take i ++ (k, L) :: out.drop (i + 1) := by
    rw [← he, List.getElem_cons_drop hlt, List.take_append_drop]
  refine ⟨hsC (out.drop (i + 1)), ?_⟩
  conv => lhs; rw [e]
  simp [hsC]

/-- A head of a row of heads. -/
theorem head_range {w : World} {base g n c : Nat} {out : Hs} (h : w.ownsRow base 48 73 (.slice (some ⟨g, 0, none⟩) n c) n (hsC out)) (ok : HsOk out) (i : Nat) (k : Int) (L : List Value) (hx : out[i]? = some (k, L)) : w.rangeAt g (i * 73) (hk k L) := by
  obtain ⟨B, hB⟩ := hsC_at out i k L hx
  refine range_own h hB ?_
  rw [hsC_len _ (ok.take i), List.length_take, Nat.min_eq_left (Nat.le_of_lt (List.getElem?_eq_some_iff.1 hx).1)]
theorem head_kind {w : World} {base g n c : Nat} {out : Hs} (h : w.ownsRow base 48 73 (.slice (some ⟨g, 0, none⟩) n c) n (hsC out)) (ok : HsOk out) (i : Nat) (k : Int) (L : List Value) (hx : out[i]? = some (k, L)) : w.cell? ⟨g, i * 73, none⟩ = some (.int .u8 k) := by
  have := head_range h ok i k L hx 0 (.int .u8 k) rfl
  simpa using this

theorem sz_zero {k : Int} (h : ¬ (1 ≤ k ∧ k ≤ 6)) : sz k = 0 := by
  unfold sz
  rw [if_neg (by omega), if_neg (by omega), if_neg (by omega), if_neg (by omega), if_neg (by omega), if_neg (by omega)]
theorem sz_pos {k : Int} (h : 1 ≤ k ∧ k ≤ 6) : 0 < sz k ∧ sz k ≤ 40 := by
  rcases six h.1 h.2 with rfl | rfl | rfl | rfl | rfl | rfl <;> decide

set_option maxHeartbeats 2000000 in
theorem rwhere_any (k : Int) (a : Option Addr) (n c : Nat) (zs : List Int) (w : World) (k0 : 0 ≤ k) (k1 : k ≤ 255) (hz' : zs.length = n) (hB : Bs w a zs) (hn0 : a = none → c = 0) (hc : n ≤ c) :
    Calls Try.prog 15 #[.slice a n c, .int .u8 k] w fun e w' => e = .returned (whV (wh zs k)) ∧ Below w.heap.size w w' := by
  have J1 := Hid.mk' (RJ.first w)
  have HB := Hid.mk' hB
  have hln : n ≤ 140737488355328 := by rw [← hz']; exact hB.len
  have HZ := Hid.mk' hz'
  have HWK : Hid (∀ u, Below w.heap.size w u → Calls Try.prog 10 #[.slice a n c] u fun e w' => ∃ va vr, e = .returned (.tuple #[va, vr, .int .i64 (PE zs).1]) ∧ Heap u w' (plT u zs va vr)) := Hid.mk' (fun u hu => rpeel_any a n c zs u hz' (hB.below hu) hn0 hc)
  have HSE : Hid (∀ (kx : Int) (u : World), 0 ≤ kx → kx ≤ 255 → Calls Try.prog 23 #[.int .u8 kx] u fun e w' => e = .returned (.int .i64 (sz kx : Nat)) ∧ Below u.heap.size u w') := Hid.mk' (fun kx u h0 h1 => size_any kx u h0 h1)
  clear hB hz' hn0
  unfold wh
  by_cases hk : 1 ≤ k ∧ k ≤ 6
  · rw [if_pos hk]
    obtain ⟨sp0, sp1⟩ := sz_pos hk
    obtain ⟨S, HS⟩ : ∃ S, Hid (sz k = S) := ⟨_, rfl⟩
    rw [HS.out] at sp0 sp1
    have HSK : Hid (∀ u : World, Calls Try.prog 23 #[.int .u8 k] u fun e w' => e = .returned (.int .i64 (S : Nat)) ∧ Below u.heap.size u w') := Hid.mk' (fun u => by rw [← HS.out]; exact HSE.out k u k0 k1)
    have hS0 : ¬ (S : Int) = 0 := by omega
    have hSb : ((S : Int) == 0) = false := by simpa using hS0
    by_cases hE : (PE zs).1 = 0
    · obtain ⟨ok, fits, one, few⟩ := PE_ok HB.out.bytes hE
      rw [HZ.out] at fits
      unfold plT at HWK
      rw [hE] at HWK
      rw [if_pos hE]
      obtain ⟨out, HO⟩ : ∃ out, Hid ((PE zs).2 = out) := ⟨_, rfl⟩
      rw [HO.out] at ok one few HWK fits
      rw [HO.out]
      clear hE HO
      have OK := Hid.mk' ok
      clear ok
      obtain ⟨N, HN⟩ : ∃ N, Hid (out.length = N) := ⟨_, rfl⟩
      rw [HN.out] at one few HWK
      obtain ⟨R, HR⟩ : ∃ R, Hid (fnd k 0 out = R) := ⟨_, rfl⟩
      rw [HR.out]
      go_enter Try.func15, Try.ntmps15
      go_wp2_with fail
      refine (HSK.out _).mono ?_
      rintro e w1 ⟨rfl, b1⟩
      have J2 := Hid.mk' (J1.out.below b1)
      clear b1 J1
      go_wp2_with fail
      refine (HWK.out _ J2.out.old).mono ?_
      rintro e w2 ⟨va, vr, rfl, h2⟩
      have OW : Hid (w2.ownsRow w1.heap.size 48 73 va N (hsC out)) := Hid.mk' (h2.get (i := 0) rfl)
      obtain ⟨gl, cl, rfl, hcl⟩ := own_some OW.out (by omega)
      have J3 := Hid.mk' (J2.out.below h2.old)
      clear h2 HWK J2
      go_wp2_with fail
      go_loopg [10, 11] N (fun f s10 s11 wr => ∃ i : Nat, s11 = .int .i64 i ∧ s10 = .int .i64 (hTot (out.take i) : Nat) ∧ i ≤ N ∧ N - i ≤ f ∧ Hid (fnd k (hTot (out.take i)) (out.drop i) = R) ∧ Hid (Below w2.heap.size w2 wr))
      case atStart => exact ⟨0, rfl, rfl, by omega, by omega, HR, Below.refl _ _⟩
      case round =>
        obtain ⟨i, rfl, rfl, hi, hf, HF0, HBL⟩ := hrel
        have J4 := Hid.mk' (J3.out.below HBL.out)
        by_cases hlt : i < N
        · obtain ⟨⟨kx, L⟩, hx⟩ : ∃ x, out[i]? = some x := ⟨_, List.getElem?_eq_getElem (by rw [HN.out]; exact hlt)⟩
          have KX := OK.out (kx, L) (List.mem_of_getElem? hx)
          have kx0 : 0 ≤ kx := by have := KX.1; omega
          have kx1 : kx ≤ 255 := by have := KX.2.1; omega
          have HTP := Hid.mk' (take_push out i kx L hx)
          have hPs := hTot_take out (i + 1)
          rw [HTP.out, hTot_app] at hPs
          simp only [hTot] at hPs
          have hFA := HF0.out
          rw [fnd_at k out i _ hx] at hFA
          have ckx := head_kind (Kept.owns OW.out (Kept.of_below (S := fun _ => False) HBL.out) (fun _ _ h => h)) OK.out i kx L hx
          obtain ⟨P, HP⟩ : ∃ P, Hid (hTot (out.take i) = P) := ⟨_, rfl⟩
          rw [HP.out] at hPs
          rw [HP.out]
          clear hx KX
          by_cases hkx : kx = k
          · subst hkx
            rw [if_pos rfl, HP.out] at hFA
            subst hFA
            go_wp2_with (first
              | (go_at_call 23; refine (HSK.out _).mono ?_; rintro e w5 ⟨rfl, b5⟩; have J5 := Hid.mk' (J4.out.below b5); have T5 := Hid.mk' J5.out.there; clear b5)
              | refine wpList_store_mid rfl 52 _ _ rfl w.heap.size 0 [Value.int .i64 P, Value.int .i64 S].toArray rfl rfl T5.out info_rg (rg_one _ _) ?_)
            obtain ⟨D1, D2⟩ := J5.out.done (.int .i64 P) (.int .i64 S)
            refine ret_cell_tmp2 rfl w.heap.size 52 [.int .i64 P, .int .i64 S] (0, 0) _ rfl D1 Try.underlying52 rfl info_rg rfl ?_
            refine ⟨?_, D2⟩
            show _ = Ending.returned (.tuple #[.agg #[.int .i64 P, .int .i64 ((sz kx : Nat) : Int)], .bool true, .int .i64 0])
            rw [HS.out]; rfl
          · rw [if_neg hkx] at hFA
            have HFA : Hid (fnd k (hTot (out.take (i + 1))) (out.drop (i + 1)) = R) := Hid.mk' (by rw [HTP.out, hTot_app]; simpa [hTot] using hFA)
            obtain ⟨s, HSZ⟩ : ∃ s, Hid (sz kx = s) := ⟨_, rfl⟩
            rw [HSZ.out] at hPs
            have hP1 : Hid (hTot (out.take (i + 1)) = P + s) := Hid.mk' (by rw [HTP.out, hTot_app, HP.out]; simp [hTot, HSZ.out])
            have HSX : Hid (∀ u : World, Calls Try.prog 23 #[.int .u8 kx] u fun e w' => e = .returned (.int .i64 (s : Nat)) ∧ Below u.heap.size u w') := Hid.mk' (fun u => by rw [← HSZ.out]; exact HSE.out kx u kx0 kx1)
            clear hFA
            go_wp2_with (go_at_call 23; refine (HSX.out _).mono ?_; rintro e w5 ⟨rfl, b5⟩; have B5 : Hid (Below w2.heap.size w2 w5) := Hid.mk' (HBL.out.trans (b5.mono HBL.out.size)); clear b5)
            go_roundg (N - (i + 1))
            case measure => omega
            case rel => exact ⟨i + 1, by go_num, by rw [hP1.out]; go_num, by omega, by omega, HFA, B5⟩
        · have hiN : i = N := by omega
          have hR : R = none := by
            rw [← HF0.out, List.drop_of_length_le (by rw [HN.out]; omega)]; rfl
          subst hR
          have T4 := Hid.mk' J4.out.there
          go_wp2_with (first | refine wpList_store_mid rfl 52 _ _ rfl w.heap.size 0 [Value.int .i64 0, Value.int .i64 0].toArray rfl rfl T4.out info_rg (rg_one _ _) ?_)
          obtain ⟨D1, D2⟩ := J4.out.done (.int .i64 0) (.int .i64 0)
          refine ret_cell_tmp2 rfl w.heap.size 52 [.int .i64 0, .int .i64 0] (0, 0) _ rfl D1 Try.underlying52 rfl info_rg rfl ?_
          exact ⟨rfl, D2⟩
    · rw [if_neg hE]
      obtain ⟨E, HE⟩ : ∃ E, Hid ((PE zs).1 = E) := ⟨_, rfl⟩
      rw [HE.out] at hE HWK
      rw [HE.out]
      have hEb : (E == 0) = false := by simpa using hE
      go_enter Try.func15, Try.ntmps15
      go_wp2_with fail
      refine (HSK.out _).mono ?_
      rintro e w1 ⟨rfl, b1⟩
      have J2 := Hid.mk' (J1.out.below b1)
      clear b1 J1
      go_wp2_with fail
      refine (HWK.out _ J2.out.old).mono ?_
      rintro e w2 ⟨va, vr, rfl, h2⟩
      have J3 := Hid.mk' (J2.out.below h2.old)
      have T3 := Hid.mk' J3.out.there
      clear h2 HWK J2
      go_wp2_with (first | refine wpList_store_mid rfl 52 _ _ rfl w.heap.size 0 [Value.int .i64 0, Value.int .i64 0].toArray rfl rfl T3.out info_rg (rg_one _ _) ?_)
      obtain ⟨D1, D2⟩ := J3.out.done (.int .i64 0) (.int .i64 0)
      refine ret_cell_tmp2 rfl w.heap.size 52 [.int .i64 0, .int .i64 0] (0, 0) _ rfl D1 Try.underlying52 rfl info_rg rfl ?_
      exact ⟨rfl, D2⟩
  · rw [if_neg hk]
    have HSK : Hid (∀ u : World, Calls Try.prog 23 #[.int .u8 k] u fun e w' => e = .returned (.int .i64 0) ∧ Below u.heap.size u w') := Hid.mk' (fun u => by have := HSE.out k u k0 k1; rw [sz_zero hk] at this; exact this)
    go_enter Try.func15, Try.ntmps15
    go_wp2_with fail
    refine (HSK.out _).mono ?_
    rintro e w1 ⟨rfl, b1⟩
    have J2 := Hid.mk' (J1.out.below b1)
    have T2 := Hid.mk' J2.out.there
    clear b1 J1
    go_wp2_with (first | refine wpList_store_mid rfl 52 _ _ rfl w.heap.size 0 [Value.int .i64 0, Value.int .i64 0].toArray rfl rfl T2.out info_rg (rg_one _ _) ?_)
    obtain ⟨D1, D2⟩ := J2.out.done (.int .i64 0) (.int .i64 0)
    refine ret_cell_tmp2 rfl w.heap.size 52 [.int .i64 0, .int .i64 0] (0, 0) _ rfl D1 Try.underlying52 rfl info_rg rfl ?_
    exact ⟨rfl, D2⟩

/-- Two rows of the same heads are the same. -/
structure Hrow (w : World) (v : Value) (out : Hs) : Prop where
  own : ∃ base, w.ownsRow base 48 73 v out.length (hsC out)
  ok : HsOk out

set_option maxHeartbeats 2000000 in
theorem same_any (v1 v2 : Value) (out : Hs) (w : World) (few : out.length ≤ 8) (h1 : Hrow w v1 out) (h2 : Hrow w v2 out) : Calls Try.prog 11 #[v1, v2] w fun e w' => e = .returned (.bool true) ∧ Dr w w' := by
  obtain ⟨⟨b1, o1⟩, ok⟩ := h1
  obtain ⟨⟨b2, o2⟩, -⟩ := h2
  obtain ⟨a1, c1, e1⟩ := own_slice o1
  obtain ⟨a2, c2, e2⟩ := own_slice o2
  subst e1 e2
  have O1 := Hid.mk' o1
  have O2 := Hid.mk' o2
  have OK := Hid.mk' ok
  clear o1 o2 ok
  obtain ⟨N, HN⟩ : ∃ N, Hid (out.length = N) := ⟨_, rfl⟩
  rw [HN.out] at few O1 O2
  rw [HN.out]
  go_enter Try.func11, Try.ntmps11
  go_wp2_with fail
  go_loopg [5] N (fun f s5 wr => ∃ i : Nat, s5 = .int .i64 i ∧ i ≤ N ∧ N - i ≤ f ∧ Hid (Dr w wr))
  case atStart => exact ⟨0, rfl, by omega, by omega, Dr.refl _⟩
  case round =>
    obtain ⟨i, rfl, hi, hf, HD⟩ := hrel
    by_cases hlt : i < N
    · obtain ⟨g1, d1, e1, -⟩ := own_some O1.out (by omega)
      obtain ⟨g2, d2, e2, -⟩ := own_some O2.out (by omega)
      cases e1
      cases e2
      obtain ⟨⟨k, L⟩, hx⟩ : ∃ x, out[i]? = some x := ⟨_, List.getElem?_eq_getElem (by rw [HN.out]; exact hlt)⟩
      have KH := Hid.mk' (hk_hh (OK.out (k, L) (List.mem_of_getElem? hx)))
      have R1 := head_range O1.out OK.out i k L hx
      have R2 := head_range O2.out OK.out i k L hx
      obtain ⟨H, HHk⟩ : ∃ H, Hid (hk k L = H) := ⟨_, rfl⟩
      rw [HHk.out] at KH R1 R2
      have hh73 := Hid.mk' (hh_len KH.out)
      have hne := neq_same (t := 48) (L := H) (hh_eq KH.out)
      have S1 : wr.drew.rangeAt g1 (i * 73) H := fun j v hv => ((HD.out.more 1).cell _).trans (R1 j v hv)
      have S2 : wr.drew.rangeAt g2 (i * 73) H := fun j v hv => ((HD.out.more 1).cell _).trans (R2 j v hv)
      have RR := Hid.mk' (And.intro S1 S2)
      clear hx R1 R2 S1 S2
      go_wp2_with fail
      refine wp_region_held_drew (S := fun u => u.rangeAt g1 (i * 73) H ∧ u.rangeAt g2 (i * 73) H) (by kernel_rfl) RR.out (fun hHeld => ?_)
      change wpAnyH _ _ _ _ _ 9 #[false, false, false, false, false, false, false, false, false] _ _
      refine held_take 0 17 (.slice (some ⟨g1, 0, none⟩) N c1) rfl rfl (by kernel_rfl) (by kernel_rfl) (by kernel_rfl) (fun _ _ _ h => h) (Or.inl ⟨by rfl, fun u hu => ?_⟩) hHeld ?_
      · go_simp
      simp only [Act.put, List.setIfInBounds_toArray, List.set_cons_zero, List.set_cons_succ]
      refine held_take 1 18 (.int .i64 i) rfl rfl (by kernel_rfl) (by kernel_rfl) (by kernel_rfl) (fun _ _ _ h => h) (Or.inl ⟨by rfl, fun u hu => ?_⟩) hHeld ?_
      · go_simp
      simp only [Act.put, List.setIfInBounds_toArray, List.set_cons_zero, List.set_cons_succ]
      refine held_take 2 19 (.pointer (some ⟨g1, i * 73, none⟩)) rfl rfl (by kernel_rfl) (by kernel_rfl) (by kernel_rfl) (fun _ _ _ h => h) (Or.inl ⟨by rfl, fun u hu => ?_⟩) hHeld ?_
      · go_simp
      simp only [Act.put, List.setIfInBounds_toArray, List.set_cons_zero, List.set_cons_succ]
      refine held_take 3 20 (.agg H.toArray) rfl rfl (by kernel_rfl) (by kernel_rfl) (by kernel_rfl) (fun _ _ _ h => h) (yieldsIf_load_mid (by rfl) 48 _ rfl g1 (i * 73) rfl H _ (fun u hu => hu.1) Try.underlying48 rfl (by rw [hh73.out]; exact info_hh)) hHeld ?_
      simp only [Act.put, List.setIfInBounds_toArray, List.set_cons_zero, List.set_cons_succ]
      refine held_take 4 21 (.slice (some ⟨g2, 0, none⟩) N c2) rfl rfl (by kernel_rfl) (by kernel_rfl) (by kernel_rfl) (fun _ _ _ h => h) (Or.inl ⟨by rfl, fun u hu => ?_⟩) hHeld ?_
      · go_simp
      simp only [Act.put, List.setIfInBounds_toArray, List.set_cons_zero, List.set_cons_succ]
      refine held_take 5 22 (.int .i64 i) rfl rfl (by kernel_rfl) (by kernel_rfl) (by kernel_rfl) (fun _ _ _ h => h) (Or.inl ⟨by rfl, fun u hu => ?_⟩) hHeld ?_
      · go_simp
      simp only [Act.put, List.setIfInBounds_toArray, List.set_cons_zero, List.set_cons_succ]
      refine held_take 6 23 (.pointer (some ⟨g2, i * 73, none⟩)) rfl rfl (by kernel_rfl) (by kernel_rfl) (by kernel_rfl) (fun _ _ _ h => h) (Or.inl ⟨by rfl, fun u hu => ?_⟩) hHeld ?_
      · go_simp
      simp only [Act.put, List.setIfInBounds_toArray, List.set_cons_zero, List.set_cons_succ]
      refine held_take 7 24 (.agg H.toArray) rfl rfl (by kernel_rfl) (by kernel_rfl) (by kernel_rfl) (fun _ _ _ h => h) (yieldsIf_load_mid (by rfl) 48 _ rfl g2 (i * 73) rfl H _ (fun u hu => hu.2) Try.underlying48 rfl (by rw [hh73.out]; exact info_hh)) hHeld ?_
      simp only [Act.put, List.setIfInBounds_toArray, List.set_cons_zero, List.set_cons_succ]
      refine held_take 8 25 (.bool false) rfl rfl (by kernel_rfl) (by kernel_rfl) (by kernel_rfl) (fun _ _ _ h => h) (Or.inl ⟨by rfl, fun u hu => ?_⟩) hHeld ?_
      · go_simp
      simp only [Act.put, List.setIfInBounds_toArray, List.set_cons_zero, List.set_cons_succ]
      refine wpAnyH_done (by kernel_rfl) ?_ _
      have HD2 : Hid (Dr w wr.drew) := Hid.mk' (HD.out.more 1)
      clear HD RR hHeld
      go_wp2_with fail
      go_roundg (N - (i + 1))
      case measure => omega
      case rel => exact ⟨i + 1, by go_num, by omega, by omega, HD2⟩
    · go_wp2_with fail
      go_ret
      exact ⟨rfl, HD.out⟩
end Go.Proofs.Ythdgfhllieknlaa
