/- Stage 12: the header with which a packet begins; Pop. -/
import Derived.Test.YtednmdkjhiihcaaGreatRg
namespace Go.Proofs.YtednmdkjhiihcaaGreat
open Go.ChangeShapes Go.WideShapes Go.ChangeAt Go.RowKit
set_option maxRecDepth 10000

theorem wbzero : Tryz.prog.built 46 [] = some hz.toArray := by rw [built_head, Instr.fill]

/-- What the first header of a kind is, as the program tells it. -/
def fiH (k : Int) (zs : List Int) : List Value := if 1 ≤ k ∧ k ≤ 6 then hk k (rL k zs) else hz
theorem fiH_hh {k : Int} {zs : List Int} (h : Bytes zs) : Hh (fiH k zs) := by
  unfold fiH; split
  · rename_i hk; exact hk_hh (rL_hd hk.1 hk.2 h)
  · exact hz_hh
theorem fiH_po {k : Int} {zs : List Int} (he : poE k zs = 0) : fiH k zs = poH k zs := by
  obtain ⟨h0, h1, hr⟩ := po_in he
  unfold fiH poH; rw [if_pos ⟨h0, h1⟩, if_pos he]

/-- A result's block, a kind's deeds, and a head that was read. -/
structure FJ (w : World) (q r : Nat) (k : Int) (g : Nat) (M : List Value) (u : World) : Prop where
  ho : HJ w u
  dd : u.heap[q]? = some (.cells (dk k g).toArray 96 (0, 0))
  mm : u.heap[r]? = some (.cells M.toArray 46 (0, 0))
theorem FJ.below {w : World} {q r : Nat} {k : Int} {g : Nat} {M : List Value} {u v : World} (h : FJ w q r k g M u) (b : Below u.heap.size u v) : FJ w q r k g M v :=
  ⟨h.ho.below b, (b.block _ (Array.getElem?_eq_some_iff.1 h.dd).1).trans h.dd, (b.block _ (Array.getElem?_eq_some_iff.1 h.mm).1).trans h.mm⟩

set_option maxHeartbeats 2000000 in
theorem first_any (k : Int) (a : Option Addr) (n c : Nat) (zs : List Int) (w : World) (k0 : 0 ≤ k) (k1 : k ≤ 255) (hz' : zs.length = n) (hB : Bs w a zs) (hcn : n ≤ c) :
    Calls Tryz.prog 29 #[.slice a n c, .int .u8 k] w fun e w' => e = .returned (.tuple #[.agg (fiH k zs).toArray, .int .i64 (sz k : Nat), .int .i64 (poE k zs)]) ∧ Below w.heap.size w w' := by
  have J1 := Hid.mk' (HJ.first w)
  by_cases hk : 1 ≤ k ∧ k ≤ 6
  · obtain ⟨h1, h6⟩ := hk
    have hE : poE k zs = rE k zs := by unfold poE; rw [if_pos ⟨h1, h6⟩]
    have hM : fiH k zs = hk k (rL k zs) := by unfold fiH; rw [if_pos ⟨h1, h6⟩]
    rw [hE, hM]
    have cS := call_uS k h1 h6
    have cR := call_uR k h1 h6
    have FR : Hid (∀ u g, Below w.heap.size w u → Bk k u g → Calls Tryz.prog (uR k) #[.slice a n c, pp (g + 2), pp (g + 4)] u fun e w' => e = .returned (.tuple #[.agg (hk k (rL k zs)).toArray, .int .i64 (rE k zs)]) ∧ Below u.heap.size u w') :=
      Hid.mk' (fun u g hu hg => dread_any k h1 h6 a n c zs g u hz' (hB.below hu) hcn hg)
    have FS : Hid (∀ u, Calls Tryz.prog (uS k) #[] u fun e w' => e = .returned (.int .i64 (sz k : Nat)) ∧ u = w') := Hid.mk' (fun u => dsize_any k h1 h6 u)
    have KH := Hid.mk' (hk_hh (rL_hd h1 h6 hB.bytes))
    obtain ⟨M, HM⟩ : ∃ M, Hid (hk k (rL k zs) = M) := ⟨_, rfl⟩
    obtain ⟨E, HE⟩ : ∃ E, Hid (rE k zs = E) := ⟨_, rfl⟩
    obtain ⟨S, HS⟩ : ∃ S, Hid (sz k = S) := ⟨_, rfl⟩
    rw [HM.out] at FR KH
    rw [HE.out] at FR
    rw [HS.out] at FS
    rw [HM.out, HE.out, HS.out]
    have hm73 := Hid.mk' (hh_len KH.out)
    have hm1 := Hid.mk' (hh_one KH.out)
    have hms : Hid (M.toArray.size = 73) := Hid.mk' (by rw [List.size_toArray]; exact hm73.out)
    clear hE hM HM HE HS hz' hB KH
    go_enter Tryz.func29, Tryz.ntmps29
    go_wp2_with fail
    refine (find_any k _ h1 h6).mono ?_
    rintro e w2 ⟨g, rfl, bx, b2⟩
    have J2 := J1.out.below b2
    have b3 : Below w2.heap.size w2 (w2.alloc (.cells (dk k g).toArray 96)) := (Below.refl _ _).alloc (Nat.le_refl _) _
    have J3 := Hid.mk' (J2.below b3)
    have X3 := Hid.mk' (bx.below b3)
    have D3 : Hid ((w2.alloc (.cells (dk k g).toArray 96)).heap[w2.heap.size]? = some (.cells (dk k g).toArray 96 (0, 0))) := Hid.mk' (heap_alloc_new w2 _)
    have hq : Hid (w.heap.size < w2.heap.size) := Hid.mk' J2.lt
    clear J1 J2 b2 b3 bx
    go_upto_region 4 with (first | refine wpList_store_new rfl 96 _ _ rfl _ _ (dk k g) rfl rfl rfl (by kernel_rfl) (dk_one k g) ?_)
    generalize (w2.alloc (.cells (dk k g).toArray 96)) = w3 at J3 X3 D3 ⊢
    have c4 : w3.cell? ⟨w2.heap.size, 4, none⟩ = some (.func (.func (uR k)) #[] #[pp (g + 2), pp (g + 4)]) := cell_of_row w3 _ 4 _ _ _ D3.out
    go_wp2_with fail
    refine (FR.out _ g J3.out.old X3.out).mono ?_
    rintro e w4 ⟨rfl, b4⟩
    have b5 : Below w3.heap.size w3 (w4.alloc (.cells M.toArray 46)) := b4.alloc b4.size _
    have F5 : Hid (FJ w w2.heap.size w4.heap.size k g M (w4.alloc (.cells M.toArray 46))) := Hid.mk' ⟨J3.out.below b5, (b5.block _ (Array.getElem?_eq_some_iff.1 D3.out).1).trans D3.out, heap_alloc_new w4 _⟩
    have hr : Hid (w.heap.size < w4.heap.size) := Hid.mk' (Nat.lt_of_lt_of_le J3.out.lt b4.size)
    clear b4 b5 c4 J3 X3 D3 FR cR
    go_upto_region 5 with (first | refine wpList_store_new rfl 46 _ _ rfl _ hz M (by rfl) (by rfl) (by rw [hm73.out, hz_len]) (by rw [hm73.out]; exact info_hh) hm1.out ?_)
    generalize (w4.alloc (.cells M.toArray 46)) = w5 at F5 ⊢
    refine wp_region_held_drew (S := FJ w w2.heap.size w4.heap.size k g M) (by kernel_rfl) (F5.out.below ((Below.refl _ _).drew)) (fun hHeld => ?_)
    change wpAnyH _ _ _ _ _ 8 #[false, false, false, false, false, false, false, false] _ _
    refine held_take 0 26 (.agg M.toArray) rfl rfl (by kernel_rfl) (by kernel_rfl) (by kernel_rfl) (fun _ _ _ h => h) (yieldsIf_load_mid (by rfl) 46 _ rfl w4.heap.size 0 rfl M _ (fun u hu => range_block hu.mm) Tryz.underlying46 rfl (by rw [hm73.out]; exact info_hh)) hHeld ?_
    simp only [Act.put, List.setIfInBounds_toArray, List.set_cons_zero, List.set_cons_succ]
    refine held_take 1 27 (.pointer (some ⟨w2.heap.size, 0, none⟩)) rfl rfl (by kernel_rfl) (by kernel_rfl) (by kernel_rfl) (fun _ _ _ h => h) (Or.inl ⟨by rfl, fun u hu => ?_⟩) hHeld ?_
    · go_simp
    simp only [Act.put, List.setIfInBounds_toArray, List.set_cons_zero, List.set_cons_succ]
    refine held_take 2 28 (fv (uS k)) rfl rfl (by kernel_rfl) (by kernel_rfl) (by kernel_rfl) (fun _ _ _ h => h) (Or.inl ⟨by rfl, fun u hu => ?_⟩) hHeld ?_
    · have hc : u.cell? ⟨w2.heap.size, 0, none⟩ = some (fv (uS k)) := cell_of_row u _ 0 _ _ _ hu.dd
      go_simp
    simp only [Act.put, List.setIfInBounds_toArray, List.set_cons_zero, List.set_cons_succ]
    refine held_take 4 30 (.int .i64 E) rfl rfl (by kernel_rfl) (by kernel_rfl) (by kernel_rfl) (fun _ _ _ h => h) (Or.inl ⟨by rfl, fun u hu => ?_⟩) hHeld ?_
    · go_simp
    simp only [Act.put, List.setIfInBounds_toArray, List.set_cons_zero, List.set_cons_succ]
    refine held_one 3 (by kernel_rfl) rfl (fun K hK => ?_)
    go_simp
    go_wp2_with (refine (FS.out _).mono ?_; rintro e w6 ⟨rfl, rfl⟩)
    refine hK.out _ _ hHeld (fun hHeld => ?_)
    clear hK K
    try simp only [List.setIfInBounds_toArray, List.set_cons_zero, List.set_cons_succ]
    obtain ⟨D1, D2, D3⟩ := hHeld.ho.done M hm73.out
    have hHeld2 : FJ w w2.heap.size w4.heap.size k g M (w5.drew.setCells w.heap.size 0 M) := ⟨⟨⟨M, hm73.out, D1⟩, D2⟩, (D3.block _ (Array.getElem?_eq_some_iff.1 hHeld.dd).1 (by have := hq.out; omega)).trans hHeld.dd, (D3.block _ (Array.getElem?_eq_some_iff.1 hHeld.mm).1 (by have := hr.out; omega)).trans hHeld.mm⟩
    refine held_one 5 (by kernel_rfl) rfl (fun K hK => ?_)
    refine step_store_box rfl rfl 46 _ _ rfl w.heap.size M rfl rfl (by rw [hms.out]; exact hHeld.ho.there) (by rw [hm73.out]; exact info_hh) hm1.out ?_
    refine hK.out _ _ hHeld2 (fun hHeld => ?_)
    clear hK K
    try simp only [List.setIfInBounds_toArray, List.set_cons_zero, List.set_cons_succ]
    refine held_take 6 5 (.int .i64 S) rfl rfl (by kernel_rfl) (by kernel_rfl) (by kernel_rfl) (fun _ _ _ h => h) (Or.inl ⟨by rfl, fun u hu => ?_⟩) hHeld ?_
    · go_simp
    simp only [Act.put, List.setIfInBounds_toArray, List.set_cons_zero, List.set_cons_succ]
    refine held_take 7 6 (.int .i64 E) rfl rfl (by kernel_rfl) (by kernel_rfl) (by kernel_rfl) (fun _ _ _ h => h) (Or.inl ⟨by rfl, fun u hu => ?_⟩) hHeld ?_
    · go_simp
    simp only [Act.put, List.setIfInBounds_toArray, List.set_cons_zero, List.set_cons_succ]
    refine wpAnyH_done (by kernel_rfl) ?_ _
    go_wp2_with fail
    refine ret_cell_tmp2 rfl w.heap.size 46 M (0, 0) _ rfl D1 Tryz.underlying46 rfl (by rw [hm73.out]; exact info_hh) rfl ?_
    exact ⟨rfl, D2⟩
  · have hE : poE k zs = 120 := by unfold poE; rw [if_neg hk]
    have hM : fiH k zs = hz := by unfold fiH; rw [if_neg hk]
    rw [hE, hM, sz_zero hk]
    clear hE hM hz' hB
    have hz73 : Hid (hz.toArray.size = 73) := Hid.mk' (by rw [List.size_toArray]; exact hz_len)
    have hz1 := Hid.mk' (hh_one hz_hh)
    go_enter Tryz.func29, Tryz.ntmps29
    go_wp2_with fail
    refine (find_no k _ k0 k1 hk).mono ?_
    rintro e w2 ⟨rfl, b2⟩
    have J2 := J1.out.below b2
    have J3 : Hid (HJ w (w2.alloc (.cells dz.toArray 96))) := Hid.mk' (J2.below ((Below.refl _ _).alloc (Nat.le_refl _) _))
    clear J1 J2 b2
    go_upto_region 3 with (first | refine wpList_store_new rfl 96 _ _ rfl _ _ dz rfl rfl rfl (by kernel_rfl) (by kernel_rfl) ?_)
    generalize (w2.alloc (.cells dz.toArray 96)) = w3 at J3 ⊢
    go_wp2_with (first
      | refine wpList_buildTo rfl 46 #[] rfl _ rfl hz.toArray (by exact wbzero) ?_
      | refine wpList_store_mid rfl 46 _ _ rfl w.heap.size 0 hz.toArray rfl rfl (by rw [hz73.out]; exact J3.out.there) (by rw [hz73.out]; exact info_hh) hz1.out ?_)
    obtain ⟨D1, D2, -⟩ := J3.out.done hz hz_len
    refine ret_cell_tmp2 rfl w.heap.size 46 hz (0, 0) _ rfl D1 Tryz.underlying46 rfl (by rw [hz_len]; exact info_hh) rfl ?_
    exact ⟨rfl, D2⟩
end Go.Proofs.YtednmdkjhiihcaaGreat
