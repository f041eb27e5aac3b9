/- Stage 12: Pop. -/
import Derived.Test.YtednmdkjhiihcaaGreatRh
namespace Go.Proofs.YtednmdkjhiihcaaGreat
open Go.ChangeShapes Go.WideShapes Go.ChangeAt Go.RowKit
set_option maxRecDepth 10000

/-- What is behind the first bytes of a slice. -/
def cutA (a : Option Addr) (c M : Nat) : Option Addr := if c = M then a else a.map (fun x => x.add M)
theorem bs_cut {w : World} {a : Option Addr} {zs : List Int} (h : Bs w a zs) (c M : Nat) (hc : zs.length ≤ c) : Bs w (cutA a c M) (zs.drop M) := by
  have hl := h.len
  unfold cutA
  by_cases e : c = M
  · rw [if_pos e]
    exact ⟨by rw [List.length_drop]; omega, fun z hz => h.bytes z (List.mem_of_mem_drop hz), .inl (by rw [List.length_drop]; omega)⟩
  · rw [if_neg e]
    rcases h.lies with h0 | ⟨b, off, rfl, hc⟩
    · exact ⟨by rw [List.length_drop]; omega, fun z hz => h.bytes z (List.mem_of_mem_drop hz), .inl (by rw [List.length_drop]; omega)⟩
    · rw [Option.map_some, addr_add]
      exact h.drop M

/-- A result's block and a head that lies in another. -/
structure PJ (w : World) (r : Nat) (M : List Value) (u : World) : Prop where
  ho : HJ w u
  mm : u.heap[r]? = some (.cells M.toArray 46 (0, 0))
theorem PJ.below {w : World} {r : Nat} {M : List Value} {u v : World} (h : PJ w r M u) (b : Below u.heap.size u v) : PJ w r M v :=
  ⟨h.ho.below b, (b.block _ (Array.getElem?_eq_some_iff.1 h.mm).1).trans h.mm⟩

set_option maxHeartbeats 2000000 in
theorem pop_any (k : Int) (a : Option Addr) (n c : Nat) (zs : List Int) (w : World) (k0 : 0 ≤ k) (k1 : k ≤ 255) (hz' : zs.length = n) (hB : Bs w a zs) (hcn : n ≤ c) :
    Calls Tryz.prog 10 #[.slice a n c, .int .u8 k] w fun e w' => ∃ v, e = .returned (.tuple #[.agg (poH k zs).toArray, v, .int .i64 (poE k zs)]) ∧ w'.ownsRow w.heap.size 5 1 v (poR k zs).length ((poR k zs).map (Value.int .u8)) ∧ Below w.heap.size w w' := by
  have J1 := Hid.mk' (HJ.first w)
  have HB := Hid.mk' hB
  have HF : Hid (∀ u, Below w.heap.size w u → Calls Tryz.prog 29 #[.slice a n c, .int .u8 k] u fun e w' => e = .returned (.tuple #[.agg (fiH k zs).toArray, .int .i64 (sz k : Nat), .int .i64 (poE k zs)]) ∧ Below u.heap.size u w') :=
    Hid.mk' (fun u hu => first_any k a n c zs u k0 k1 hz' (hB.below hu) hcn)
  have KH := Hid.mk' (fiH_hh (k := k) hB.bytes)
  have hln : n ≤ 140737488355328 := by rw [← hz']; exact hB.len
  by_cases he : poE k zs = 0
  · obtain ⟨h1, h6, hr⟩ := po_in he
    have hsl := rE_len h1 h6 hr
    have hsp := sz_pos ⟨h1, h6⟩
    have hR : poR k zs = zs.drop (sz k) := by unfold poR; rw [if_pos he]
    rw [← fiH_po he, hR, he]
    rw [he] at HF
    obtain ⟨M, HM⟩ : ∃ M, Hid (fiH k zs = M) := ⟨_, rfl⟩
    obtain ⟨S, hS⟩ : ∃ S, S = sz k := ⟨_, rfl⟩
    rw [HM.out, ← hS] at HF
    rw [HM.out] at KH
    rw [← hS] at hsl hsp
    rw [HM.out, ← hS]
    rw [hz'] at hsl
    have hm73 := Hid.mk' (hh_len KH.out)
    have hm1 := Hid.mk' (hh_one KH.out)
    have hms : Hid (M.toArray.size = 73) := Hid.mk' (by rw [List.size_toArray]; exact hm73.out)
    have HZ := Hid.mk' hz'
    have hsub : (if c = S then a else a.map (fun x => x.add S)) = cutA a c S := rfl
    have SB : Hid (∀ u, Below w.heap.size w u → Bs u (cutA a c S) (zs.drop S)) := Hid.mk' (fun u hu => bs_cut (HB.out.below hu) c S (by rw [HZ.out]; exact hcn))
    obtain ⟨A1, HA1⟩ : ∃ A1, Hid (cutA a c S = A1) := ⟨_, rfl⟩
    rw [HA1.out] at hsub SB
    have hSc : S ≤ c := by omega
    have HCL : Hid (∀ u, Below w.heap.size w u → Calls Tryz.prog 24 #[.slice A1 (n - S) (c - S)] u fun e w' => ∃ v, e = .returned v ∧ w'.ownsRow u.heap.size 5 1 v (zs.drop S).length ((zs.drop S).map (Value.int .u8)) ∧ Below u.heap.size u w') :=
      Hid.mk' (fun u hu => clone_all A1 (n - S) (c - S) (zs.drop S) u (by rw [List.length_drop, HZ.out]) (SB.out u hu))
    clear he hr hR HM hS KH hz' hB HB HA1 SB
    go_enter Tryz.func10, Tryz.ntmps10
    go_wp2_with fail
    refine (HF.out _ J1.out.old).mono ?_
    rintro e w2 ⟨rfl, b2⟩
    have J2 := J1.out.below b2
    have b3 : Below w2.heap.size w2 (w2.alloc (.cells M.toArray 46)) := (Below.refl _ _).alloc (Nat.le_refl _) _
    have P3 : Hid (PJ w w2.heap.size M (w2.alloc (.cells M.toArray 46))) := Hid.mk' ⟨J2.below b3, heap_alloc_new w2 _⟩
    have hq : Hid (w.heap.size < w2.heap.size) := Hid.mk' J2.lt
    clear J1 J2 b2 b3 HF
    go_upto_region 4 with (first | refine wpList_store_new rfl 46 _ _ rfl _ hz M (by rfl) (by rfl) (by rw [hm73.out, hz_len]) (by rw [hm73.out]; exact info_hh) hm1.out ?_)
    generalize (w2.alloc (.cells M.toArray 46)) = w3 at P3 ⊢
    refine wp_region_held_drew (S := PJ w w2.heap.size M) (by kernel_rfl) (P3.out.below ((Below.refl _ _).drew)) (fun hHeld => ?_)
    change wpAnyH _ _ _ _ _ 8 #[false, false, false, false, false, false, false, false] _ _
    refine held_take 0 21 (.agg M.toArray) rfl rfl (by kernel_rfl) (by kernel_rfl) (by kernel_rfl) (fun _ _ _ h => h) (yieldsIf_load_mid (by rfl) 46 _ rfl w2.heap.size 0 rfl M _ (fun u hu => range_block hu.mm) Tryz.underlying46 rfl (by rw [hm73.out]; exact info_hh)) hHeld ?_
    simp only [Act.put, List.setIfInBounds_toArray, List.set_cons_zero, List.set_cons_succ]
    refine held_take 1 22 (.slice a n c) rfl rfl (by kernel_rfl) (by kernel_rfl) (by kernel_rfl) (fun _ _ _ h => h) (Or.inl ⟨by rfl, fun u hu => ?_⟩) hHeld ?_
    · go_simp
    simp only [Act.put, List.setIfInBounds_toArray, List.set_cons_zero, List.set_cons_succ]
    refine held_take 2 23 (.int .i64 S) rfl rfl (by kernel_rfl) (by kernel_rfl) (by kernel_rfl) (fun _ _ _ h => h) (Or.inl ⟨by rfl, fun u hu => ?_⟩) hHeld ?_
    · go_simp
    simp only [Act.put, List.setIfInBounds_toArray, List.set_cons_zero, List.set_cons_succ]
    refine held_take 3 24 (.slice A1 (n - S) (c - S)) rfl rfl (by kernel_rfl) (by kernel_rfl) (by kernel_rfl) (fun _ _ _ h => h) (Or.inl ⟨by rfl, fun u hu => ?_⟩) hHeld ?_
    · go_simp
    simp only [Act.put, List.setIfInBounds_toArray, List.set_cons_zero, List.set_cons_succ]
    clear hsub
    refine held_one 4 (by kernel_rfl) rfl (fun K hK => ?_)
    go_simp
    go_wp2_with (refine (HCL.out _ hHeld.ho.old).mono ?_; rintro e w4 ⟨v4, rfl, own4, b4⟩)
    have O4 := Hid.mk' (ownsRow_base own4 hHeld.ho.lt)
    have h4 := hHeld.below b4
    clear own4 b4
    refine hK.out _ _ h4 (fun hHeld => ?_)
    clear hK K
    try simp only [List.setIfInBounds_toArray, List.set_cons_zero, List.set_cons_succ]
    obtain ⟨D1, D2, D3⟩ := hHeld.ho.done M hm73.out
    have hHeld2 : PJ w w2.heap.size M (w4.setCells w.heap.size 0 M) := ⟨⟨⟨M, hm73.out, D1⟩, D2⟩, (D3.block _ (Array.getElem?_eq_some_iff.1 hHeld.mm).1 (by have := hq.out; omega)).trans hHeld.mm⟩
    have O5 := Hid.mk' (Kept.owns O4.out D3 (fun g e => by have := (O4.out.lt g e).1; omega))
    refine held_one 5 (by kernel_rfl) rfl (fun K hK => ?_)
    refine step_store_box rfl rfl 46 _ _ rfl w.heap.size M rfl rfl (by rw [hms.out]; exact hHeld.ho.there) (by rw [hm73.out]; exact info_hh) hm1.out ?_
    refine hK.out _ _ hHeld2 (fun hHeld => ?_)
    clear hK K
    try simp only [List.setIfInBounds_toArray, List.set_cons_zero, List.set_cons_succ]
    refine held_take 6 5 v4 rfl rfl (by kernel_rfl) (by kernel_rfl) (by kernel_rfl) (fun _ _ _ h => h) (Or.inl ⟨by rfl, fun u hu => ?_⟩) hHeld ?_
    · go_simp
    simp only [Act.put, List.setIfInBounds_toArray, List.set_cons_zero, List.set_cons_succ]
    refine held_take 7 6 (.int .i64 0) rfl rfl (by kernel_rfl) (by kernel_rfl) (by kernel_rfl) (fun _ _ _ h => h) (Or.inl ⟨by rfl, fun u hu => ?_⟩) hHeld ?_
    · go_simp
    simp only [Act.put, List.setIfInBounds_toArray, List.set_cons_zero, List.set_cons_succ]
    refine wpAnyH_done (by kernel_rfl) ?_ _
    go_wp2_with fail
    refine ret_cell_tmp2 rfl w.heap.size 46 M (0, 0) _ rfl D1 Tryz.underlying46 rfl (by rw [hm73.out]; exact info_hh) rfl ?_
    exact ⟨v4, rfl, ownsRow_base O5.out (by omega), D2⟩
  · obtain ⟨eH, eR⟩ := po_no he
    rw [eH, eR]
    obtain ⟨M, HM⟩ : ∃ M, Hid (fiH k zs = M) := ⟨_, rfl⟩
    obtain ⟨S, hS⟩ : ∃ S, S = sz k := ⟨_, rfl⟩
    obtain ⟨E, HE⟩ : ∃ E, Hid (poE k zs = E) := ⟨_, rfl⟩
    rw [HM.out, ← hS, HE.out] at HF
    rw [HM.out] at KH
    rw [HE.out] at he
    rw [HE.out]
    have hed : decide (E = 0) = false := by simp; exact he
    have heb : (E == 0) = false := by simp; exact he
    have hm73 := Hid.mk' (hh_len KH.out)
    have hm1 := Hid.mk' (hh_one KH.out)
    have hz73 : Hid (hz.toArray.size = 73) := Hid.mk' (by rw [List.size_toArray]; exact hz_len)
    have hz1 := Hid.mk' (hh_one hz_hh)
    clear HM hS KH hz' hB eH eR HE
    go_enter Tryz.func10, Tryz.ntmps10
    go_wp2_with fail
    refine (HF.out _ J1.out.old).mono ?_
    rintro e w2 ⟨rfl, b2⟩
    have J2 := J1.out.below b2
    have J3 : Hid (HJ w (w2.alloc (.cells M.toArray 46))) := Hid.mk' (J2.below ((Below.refl _ _).alloc (Nat.le_refl _) _))
    clear J1 J2 b2 HF
    go_upto_region 3 with (first | refine wpList_store_new rfl 46 _ _ rfl _ hz M (by rfl) (by rfl) (by rw [hm73.out, hz_len]) (by rw [hm73.out]; exact info_hh) hm1.out ?_)
    generalize (w2.alloc (.cells M.toArray 46)) = w3 at J3 ⊢
    go_wp2_with (first
      | refine wpList_buildTo rfl 46 #[] rfl _ rfl hz.toArray (by exact wbzero) ?_
      | refine wpList_store_mid rfl 46 _ _ rfl w.heap.size 0 hz.toArray rfl rfl (by rw [hz73.out]; exact J3.out.there) (by rw [hz73.out]; exact info_hh) hz1.out ?_)
    obtain ⟨D1, D2, -⟩ := J3.out.done hz hz_len
    refine ret_cell_tmp2 rfl w.heap.size 46 hz (0, 0) _ rfl D1 Tryz.underlying46 rfl (by rw [hz_len]; exact info_hh) rfl ?_
    exact ⟨_, rfl, World.ownsRow_nil _ _ _ _, D2⟩
end Go.Proofs.YtednmdkjhiihcaaGreat
