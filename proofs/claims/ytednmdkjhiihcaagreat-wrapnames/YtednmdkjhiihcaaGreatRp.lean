/- Stage 12: the document's Push and Pop. -/
import Derived.Test.YtednmdkjhiihcaaGreatRo
import Derived.Test.YtednmdkjhiihcaaGreatRi
namespace Go.Proofs.YtednmdkjhiihcaaGreat
open Go.ChangeShapes Go.WideShapes Go.ChangeAt Go.RowKit
set_option maxRecDepth 10000

set_option maxHeartbeats 2000000 in
theorem rpush_any (H : List Value) (a : Option Addr) (n c : Nat) (ys : List Int) (w : World) (h : Hh H) (hy : ys.length = n) (hB : Bs w a ys) :
    Calls Tryz.prog 36 #[.slice a n c, .agg H.toArray] w fun e w' => ∃ v, e = .returned (.tuple #[v, .int .i64 (puE H ys)]) ∧ w'.ownsRow w.heap.size 5 1 v (puB H ys).length ((puB H ys).map (Value.int .u8)) ∧ Below w.heap.size w w' := by
  have hh73 := Hid.mk' (hh_len h)
  have HB := Hid.mk' hB
  have J1 := Hid.mk' (BJ.first w H)
  have HC : Hid (∀ u, Calls Tryz.prog 38 #[.agg H.toArray] u fun e w' => e = .returned (.int .i64 (cE H)) ∧ Below u.heap.size u w') := Hid.mk' (fun u => rchk_any H u h)
  by_cases hc : cE H = 0
  · obtain ⟨h1, h6, KH, -, -⟩ := cE_ok h hc
    have HY : Hid (∀ u, Below w.heap.size w u → Calls Tryz.prog 54 #[.agg H.toArray, .slice a n c] u fun e w' => ∃ v, e = .returned (.tuple #[v, .int .i64 (bE (num H 0) (pt (num H 0) H) ys)]) ∧ w'.ownsRow u.heap.size 5 1 v (bB (num H 0) (pt (num H 0) H) ys).length ((bB (num H 0) (pt (num H 0) H) ys).map (Value.int .u8)) ∧ Below u.heap.size u w') :=
      Hid.mk' (fun u hu => rby_any H a n c ys u h h1 h6 hy (hB.below hu))
    have hE : puE H ys = bE (num H 0) (pt (num H 0) H) ys := by unfold puE; rw [if_pos hc]
    have hV : Hid (puE H ys = 0 → puB H ys = bB (num H 0) (pt (num H 0) H) ys ++ ys ∧ (bB (num H 0) (pt (num H 0) H) ys).length + n ≤ 4096) := Hid.mk' (fun he => by
      have P := pu_ok h hB.bytes he
      have := P.room
      exact ⟨P.val, by rw [P.len]; omega⟩)
    have hW : Hid (¬ puE H ys = 0 → puB H ys = []) := Hid.mk' pu_no
    rw [hE] at hV hW
    rw [hE]
    rw [hc] at HC
    obtain ⟨E, HE⟩ : ∃ E, Hid (bE (num H 0) (pt (num H 0) H) ys = E) := ⟨_, rfl⟩
    obtain ⟨BB, HBB⟩ : ∃ BB, Hid (bB (num H 0) (pt (num H 0) H) ys = BB) := ⟨_, rfl⟩
    obtain ⟨R, HR⟩ : ∃ R, Hid (puB H ys = R) := ⟨_, rfl⟩
    rw [HE.out, HBB.out] at HY
    rw [HE.out, HBB.out, HR.out] at hV
    rw [HE.out, HR.out] at hW
    rw [HE.out, HR.out]
    obtain ⟨q, hq⟩ : ∃ q, Hid (BB.length = q) := ⟨_, rfl⟩
    rw [hq.out] at HY hV
    have HN := Hid.mk' hy
    clear hE HE HBB HR KH hc h hy hB
    go_enter Tryz.func36, Tryz.ntmps36
    go_wp2_with (first | refine wpList_load_mid rfl 46 _ rfl w.heap.size 0 rfl H _ (range_block J1.out.hd) Tryz.underlying46 rfl (by rw [hh73.out]; exact info_hh) ?_)
    refine (HC.out _).mono ?_
    rintro e w2 ⟨rfl, b2⟩
    have J2 := Hid.mk' (J1.out.below b2)
    clear b2 J1 HC
    go_wp2_with (first | refine wpList_load_mid rfl 46 _ rfl w.heap.size 0 rfl H _ (range_block J2.out.hd) Tryz.underlying46 rfl (by rw [hh73.out]; exact info_hh) ?_)
    refine (HY.out _ J2.out.old).mono ?_
    rintro e w3 ⟨v3, rfl, own3, b3⟩
    have O3 := Hid.mk' (ownsRow_base own3 J2.out.old.size)
    have B3 : Hid (Below w.heap.size w w3) := Hid.mk' (J2.out.below b3).old
    clear own3 b3 J2 HY
    by_cases he : E = 0
    · obtain ⟨e1, e2⟩ := hV.out he
      have E1 := Hid.mk' e1
      subst he
      clear e1 hV hW
      have HBu := Hid.mk' (HB.out.below B3.out)
      go_wp2_with (at_builtin; go_loud (refine wpList_app_own rfl _ _ rfl w.heap.size v3 q _ rfl O3.out a c n ys rfl HN.out HBu.out (by omega) B3.out.size ?_; intro v4 w4 own4 gr4 ob4; have B4 : Hid (Below w.heap.size w w4) := Hid.mk' (B3.out.grown gr4 B3.out.size (fun i e => (O3.out.lt i e).1)); rw [← List.map_append] at own4; have O4 := Hid.mk' own4; clear own4 gr4 ob4))
      go_ret2
      refine ⟨v4, rfl, ?_, B4.out⟩
      rw [E1.out, List.length_append, hq.out, HN.out]; exact O4.out
    · have e1 := Hid.mk' (hW.out he)
      have hed : decide (E = 0) = false := by simp; exact he
      have heb : (E == 0) = false := by simp; exact he
      clear hV hW
      go_wp2_with fail
      go_ret2
      refine ⟨_, rfl, ?_, B3.out⟩
      rw [e1.out]; exact World.ownsRow_nil _ _ _ _
  · have hE : puE H ys = cE H := by unfold puE; rw [if_neg hc]
    have hR : puB H ys = [] := pu_no (by rw [hE]; exact hc)
    rw [hE, hR]
    generalize cE H = E at *
    have hed : decide (E = 0) = false := by simp; exact hc
    have heb : (E == 0) = false := by simp; exact hc
    clear h hy hB hE hR
    go_enter Tryz.func36, Tryz.ntmps36
    go_wp2_with (first | refine wpList_load_mid rfl 46 _ rfl w.heap.size 0 rfl H _ (range_block J1.out.hd) Tryz.underlying46 rfl (by rw [hh73.out]; exact info_hh) ?_)
    refine (HC.out _).mono ?_
    rintro e w2 ⟨rfl, b2⟩
    have B2 := Hid.mk' (J1.out.below b2).old
    clear b2
    go_wp2_with fail
    go_ret2
    exact ⟨_, rfl, World.ownsRow_nil _ _ _ _, B2.out⟩

theorem rH_po {k : Int} {zs : List Int} (h0 : 1 ≤ k) (h1 : k ≤ 6) : rH k zs = poH k zs ∧ rE k zs = poE k zs := by
  unfold rH poH
  have e : poE k zs = rE k zs := by unfold poE; rw [if_pos ⟨h0, h1⟩]
  rw [e]; exact ⟨rfl, rfl⟩

set_option maxHeartbeats 2000000 in
theorem rpop_any (k : Int) (a : Option Addr) (n c : Nat) (zs : List Int) (w : World) (k0 : 0 ≤ k) (k1 : k ≤ 255) (hz' : zs.length = n) (hB : Bs w a zs) (hcn : n ≤ c) :
    Calls Tryz.prog 39 #[.slice a n c, .int .u8 k] w fun e w' => ∃ v, e = .returned (.tuple #[.agg (poH k zs).toArray, v, .int .i64 (poE k zs)]) ∧ w'.ownsRow w.heap.size 5 1 v (poR k zs).length ((poR k zs).map (Value.int .u8)) ∧ Below w.heap.size w w' := by
  have J1 := Hid.mk' (HJ.first w)
  have HB := Hid.mk' hB
  have HS : Hid (∀ u, Calls Tryz.prog 55 #[.int .u8 k] u fun e w' => e = .returned (.int .i64 (sz k : Nat)) ∧ Below u.heap.size u w') := Hid.mk' (fun u => size_any k u k0 k1)
  have KH := Hid.mk' (poH_hh (k := k) hB.bytes)
  have hln : n ≤ 140737488355328 := by rw [← hz']; exact hB.len
  have hz73 : Hid (hz.toArray.size = 73) := Hid.mk' (by rw [List.size_toArray]; exact hz_len)
  have hz1 := Hid.mk' (hh_one hz_hh)
  by_cases hk : 1 ≤ k ∧ k ≤ 6
  · obtain ⟨h1, h6⟩ := hk
    have HF : Hid (∀ u, Below w.heap.size w u → Calls Tryz.prog 60 #[.slice a n c, .int .u8 k] u fun e w' => e = .returned (.tuple #[.agg (poH k zs).toArray, .int .i64 (poE k zs)]) ∧ Below u.heap.size u w') := Hid.mk' (fun u hu => by
      have := rread_any k h1 h6 a n c zs u hz' (hB.below hu) hcn
      rw [(rH_po h1 h6).1, (rH_po h1 h6).2] at this; exact this)
    have hsp := sz_pos ⟨h1, h6⟩
    have Yes : Hid (poE k zs = 0 → poR k zs = zs.drop (sz k) ∧ sz k ≤ n) := Hid.mk' (fun he => ⟨by unfold poR; rw [if_pos he], by rw [← hz']; exact rE_len h1 h6 (po_in he).2.2⟩)
    have No : Hid (¬ poE k zs = 0 → poH k zs = hz ∧ poR k zs = []) := Hid.mk' po_no
    obtain ⟨M, HM⟩ : ∃ M, Hid (poH k zs = M) := ⟨_, rfl⟩
    obtain ⟨S, hS⟩ : ∃ S, S = sz k := ⟨_, rfl⟩
    obtain ⟨E, HE⟩ : ∃ E, Hid (poE k zs = E) := ⟨_, rfl⟩
    obtain ⟨R, HR⟩ : ∃ R, Hid (poR k zs = R) := ⟨_, rfl⟩
    rw [HM.out, HE.out] at HF
    rw [← hS] at HS hsp
    rw [HE.out, HR.out, ← hS] at Yes
    rw [HE.out, HM.out, HR.out] at No
    rw [HM.out] at KH
    rw [HM.out, HE.out, HR.out]
    have hm73 := Hid.mk' (hh_len KH.out)
    have hm1 := Hid.mk' (hh_one KH.out)
    have hms : Hid (M.toArray.size = 73) := Hid.mk' (by rw [List.size_toArray]; exact hm73.out)
    have HZ := Hid.mk' hz'
    have hs0 : ¬ (S : Int) = 0 := by omega
    have hsd : decide ((S : Int) = 0) = false := by simp; omega
    clear HM hS HE HR KH hz' hB
    go_enter Tryz.func39, Tryz.ntmps39
    go_wp2_with fail
    refine (HS.out _).mono ?_
    rintro e w1 ⟨rfl, b1⟩
    have J1' := Hid.mk' (J1.out.below b1)
    clear b1 J1
    go_wp2_with fail
    refine (HF.out _ J1'.out.old).mono ?_
    rintro e w2 ⟨rfl, b2⟩
    have J2 := J1'.out.below b2
    have b3 : Below w2.heap.size w2 (w2.alloc (.cells M.toArray 46)) := (Below.refl _ _).alloc (Nat.le_refl _) _
    have P3 : Hid (PJ w w2.heap.size M (w2.alloc (.cells M.toArray 46))) := Hid.mk' ⟨J2.below b3, heap_alloc_new w2 _⟩
    have hq : Hid (w.heap.size < w2.heap.size) := Hid.mk' J2.lt
    clear J1' J2 b2 b3 HF HS
    by_cases he : E = 0
    · obtain ⟨e1, hsl⟩ := Yes.out he
      have E1 := Hid.mk' e1
      subst he
      clear e1 Yes No
      have hsub : (if c = S then a else a.map (fun x => x.add S)) = cutA a c S := rfl
      have SB : Hid (∀ u, Below w.heap.size w u → Bs u (cutA a c S) (zs.drop S)) := Hid.mk' (fun u hu => bs_cut (HB.out.below hu) c S (by rw [HZ.out]; exact hcn))
      have hnn : Hid (cutA a c S = none → c - S = 0) := Hid.mk' (fun e => by
        rcases HB.out.lies with h | ⟨b, off, rfl, _⟩
        · rw [HZ.out] at h; omega
        · unfold cutA at e; split at e <;> cases e)
      obtain ⟨A1, HA1⟩ : ∃ A1, Hid (cutA a c S = A1) := ⟨_, rfl⟩
      rw [HA1.out] at hsub SB hnn
      have hSc : S ≤ c := by omega
      have HCL : Hid (∀ u, Below w.heap.size w u → Calls Tryz.prog 35 #[.slice A1 (n - S) (c - S)] u fun e w' => ∃ v, e = .returned v ∧ w'.ownsRow u.heap.size 5 1 v (n - S) ((zs.drop S).map (Value.int .u8)) ∧ Below u.heap.size u w') :=
        Hid.mk' (fun u hu => copy_at A1 (n - S) (c - S) (zs.drop S) u (by rw [List.length_drop, HZ.out]) (SB.out u hu) hnn.out)
      clear HA1 SB hnn HB
      go_upto_region 7 with (first | refine wpList_store_new rfl 46 _ _ rfl _ hz M (by rfl) (by rfl) (by rw [hm73.out, hz_len]) (by rw [hm73.out]; exact info_hh) hm1.out ?_)
      generalize (w2.alloc (.cells M.toArray 46)) = w3 at P3 ⊢
      refine wp_region_held_drew (S := PJ w w2.heap.size M) (by kernel_rfl) (P3.out.below ((Below.refl _ _).drew)) (fun hHeld => ?_)
      change wpAnyH _ _ _ _ _ 8 #[false, false, false, false, false, false, false, false] _ _
      refine held_take 0 25 (.agg M.toArray) rfl rfl (by kernel_rfl) (by kernel_rfl) (by kernel_rfl) (fun _ _ _ h => h) (yieldsIf_load_mid (by rfl) 46 _ rfl w2.heap.size 0 rfl M _ (fun u hu => range_block hu.mm) Tryz.underlying46 rfl (by rw [hm73.out]; exact info_hh)) hHeld ?_
      simp only [Act.put, List.setIfInBounds_toArray, List.set_cons_zero, List.set_cons_succ]
      refine held_take 1 26 (.slice a n c) rfl rfl (by kernel_rfl) (by kernel_rfl) (by kernel_rfl) (fun _ _ _ h => h) (Or.inl ⟨by rfl, fun u hu => ?_⟩) hHeld ?_
      · go_simp
      simp only [Act.put, List.setIfInBounds_toArray, List.set_cons_zero, List.set_cons_succ]
      refine held_take 2 27 (.int .i64 S) rfl rfl (by kernel_rfl) (by kernel_rfl) (by kernel_rfl) (fun _ _ _ h => h) (Or.inl ⟨by rfl, fun u hu => ?_⟩) hHeld ?_
      · go_simp
      simp only [Act.put, List.setIfInBounds_toArray, List.set_cons_zero, List.set_cons_succ]
      refine held_take 3 28 (.slice A1 (n - S) (c - S)) rfl rfl (by kernel_rfl) (by kernel_rfl) (by kernel_rfl) (fun _ _ _ h => h) (Or.inl ⟨by rfl, fun u hu => ?_⟩) hHeld ?_
      · go_simp
      simp only [Act.put, List.setIfInBounds_toArray, List.set_cons_zero, List.set_cons_succ]
      clear hsub
      refine held_one 4 (by kernel_rfl) rfl (fun K hK => ?_)
      go_simp
      go_wp2_with (refine (HCL.out _ hHeld.ho.old).mono ?_; rintro e w4 ⟨v4, rfl, own4, b4⟩)
      have O4 := Hid.mk' (ownsRow_base own4 hHeld.ho.lt)
      have h4 := hHeld.below b4
      clear own4 b4
      refine hK.out _ _ h4 (fun hHeld => ?_)
      clear hK K
      try simp only [List.setIfInBounds_toArray, List.set_cons_zero, List.set_cons_succ]
      obtain ⟨D1, D2, D3⟩ := hHeld.ho.done M hm73.out
      have hHeld2 : PJ w w2.heap.size M (w4.setCells w.heap.size 0 M) := ⟨⟨⟨M, hm73.out, D1⟩, D2⟩, (D3.block _ (Array.getElem?_eq_some_iff.1 hHeld.mm).1 (by have := hq.out; omega)).trans hHeld.mm⟩
      have O5 := Hid.mk' (Kept.owns O4.out D3 (fun g e => by have := (O4.out.lt g e).1; omega))
      refine held_one 5 (by kernel_rfl) rfl (fun K hK => ?_)
      refine step_store_box rfl rfl 46 _ _ rfl w.heap.size M rfl rfl (by rw [hms.out]; exact hHeld.ho.there) (by rw [hm73.out]; exact info_hh) hm1.out ?_
      refine hK.out _ _ hHeld2 (fun hHeld => ?_)
      clear hK K
      try simp only [List.setIfInBounds_toArray, List.set_cons_zero, List.set_cons_succ]
      refine held_take 6 5 v4 rfl rfl (by kernel_rfl) (by kernel_rfl) (by kernel_rfl) (fun _ _ _ h => h) (Or.inl ⟨by rfl, fun u hu => ?_⟩) hHeld ?_
      · go_simp
      simp only [Act.put, List.setIfInBounds_toArray, List.set_cons_zero, List.set_cons_succ]
      refine held_take 7 6 (.int .i64 0) rfl rfl (by kernel_rfl) (by kernel_rfl) (by kernel_rfl) (fun _ _ _ h => h) (Or.inl ⟨by rfl, fun u hu => ?_⟩) hHeld ?_
      · go_simp
      simp only [Act.put, List.setIfInBounds_toArray, List.set_cons_zero, List.set_cons_succ]
      refine wpAnyH_done (by kernel_rfl) ?_ _
      go_wp2_with fail
      refine ret_cell_tmp2 rfl w.heap.size 46 M (0, 0) _ rfl D1 Tryz.underlying46 rfl (by rw [hm73.out]; exact info_hh) rfl ?_
      refine ⟨v4, rfl, ?_, D2⟩
      rw [E1.out, List.length_drop, HZ.out]; exact ownsRow_base O5.out (by omega)
    · obtain ⟨e1, e2⟩ := No.out he
      have hed : decide (E = 0) = false := by simp; exact he
      have heb : (E == 0) = false := by simp; exact he
      have E2 := Hid.mk' e2
      subst e1
      clear e2 Yes No
      have HTH : Hid ((w2.alloc (.cells hz.toArray 46)).there w.heap.size 0 hz.toArray.size) := Hid.mk' (by rw [hms.out]; exact P3.out.ho.there)
      go_upto_region 6 with (first | refine wpList_store_new rfl 46 _ _ rfl _ hz hz (by rfl) (by rfl) rfl (by rw [hm73.out]; exact info_hh) hm1.out ?_)
      generalize (w2.alloc (.cells hz.toArray 46)) = w3 at P3 HTH ⊢
      go_wp2_with (first
        | refine wpList_buildTo rfl 46 #[] rfl _ rfl hz.toArray (by exact wbzero) ?_
        | refine wpList_store_mid rfl 46 _ _ rfl w.heap.size 0 hz.toArray rfl rfl HTH.out (by rw [hz73.out]; exact info_hh) hz1.out ?_)
      obtain ⟨D1, D2, -⟩ := P3.out.ho.done hz hz_len
      refine ret_cell_tmp2 rfl w.heap.size 46 hz (0, 0) _ rfl D1 Tryz.underlying46 rfl (by rw [hz_len]; exact info_hh) rfl ?_
      refine ⟨_, rfl, ?_, D2⟩
      rw [E2.out]; exact World.ownsRow_nil _ _ _ _
  · have hE : poE k zs = 120 := by unfold poE; rw [if_neg hk]
    obtain ⟨eH, eR⟩ := po_no (k := k) (zs := zs) (by rw [hE]; omega)
    rw [hE, eH, eR]
    rw [sz_zero hk] at HS
    clear hE eH eR hz' hB KH
    go_enter Tryz.func39, Tryz.ntmps39
    go_wp2_with fail
    refine (HS.out _).mono ?_
    rintro e w2 ⟨rfl, b2⟩
    have J3 := Hid.mk' (J1.out.below b2)
    clear b2 J1
    go_wp2_with (first
      | refine wpList_buildTo rfl 46 #[] rfl _ rfl hz.toArray (by exact wbzero) ?_
      | refine wpList_store_mid rfl 46 _ _ rfl w.heap.size 0 hz.toArray rfl rfl (by rw [hz73.out]; exact J3.out.there) (by rw [hz73.out]; exact info_hh) hz1.out ?_)
    obtain ⟨D1, D2, -⟩ := J3.out.done hz hz_len
    refine ret_cell_tmp2 rfl w.heap.size 46 hz (0, 0) _ rfl D1 Tryz.underlying46 rfl (by rw [hz_len]; exact info_hh) rfl ?_
    exact ⟨_, rfl, World.ownsRow_nil _ _ _ _, D2⟩
end Go.Proofs.YtednmdkjhiihcaaGreat
