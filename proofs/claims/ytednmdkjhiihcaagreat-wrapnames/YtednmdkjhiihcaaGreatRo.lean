/- Stage 12: the document's Check and Size. (Made by a generator.) -/
import Derived.Test.YtednmdkjhiihcaaGreatRn
namespace Go.Proofs.YtednmdkjhiihcaaGreat
open Go.ChangeShapes Go.WideShapes Go.ChangeAt Go.RowKit
set_option maxRecDepth 10000

/-- A head that was boxed. -/
structure BJ (w : World) (H : List Value) (u : World) : Prop where
  hd : u.heap[w.heap.size]? = some (.cells H.toArray 46 (0, 0))
  old : Below w.heap.size w u
theorem BJ.first (w : World) (H : List Value) : BJ w H (w.alloc (.cells H.toArray 46)) := ⟨heap_alloc_new w _, (Below.refl _ _).alloc (Nat.le_refl _) _⟩
theorem BJ.below {w : World} {H : List Value} {u v : World} (h : BJ w H u) (b : Below u.heap.size u v) : BJ w H v :=
  ⟨(b.block _ (Array.getElem?_eq_some_iff.1 h.hd).1).trans h.hd, h.old.trans (b.mono h.old.size)⟩
theorem BJ.kind {w : World} {H : List Value} {u : World} (h : BJ w H u) {k : Int} (a0 : H[0]? = some (.int .u8 k)) : u.cell? ⟨w.heap.size, 0, none⟩ = some (.int .u8 k) := by
  rw [cell_of_row u w.heap.size 0 _ _ _ h.hd, List.getElem?_toArray]; exact a0

set_option maxHeartbeats 2000000 in
theorem rchk_any (H : List Value) (w : World) (h : Hh H) : Calls Tryz.prog 38 #[.agg H.toArray] w fun e w' => e = .returned (.int .i64 (cE H)) ∧ Below w.heap.size w w' := by
  have hh73 := Hid.mk' (hh_len h)
  obtain ⟨⟨a0, k0, k1⟩, -⟩ := hh_cells h
  have J1 := Hid.mk' (BJ.first w H)
  by_cases hk : 1 ≤ num H 0 ∧ num H 0 ≤ 6
  · obtain ⟨h1, h6⟩ := hk
    have KH := Hid.mk' (pt_hd h1 h6 h)
    obtain ⟨b, hb, -, hne⟩ := eql_hh (hk_hh KH.out) h
    have hcE : Hid (cE H = if b = true then kC (num H 0) (pt (num H 0) H) else 120) := Hid.mk' (by
      cases b with
      | true => rw [if_pos rfl]; exact cE_one h1 h6 (hb.1 rfl)
      | false => rw [if_neg (by decide)]; exact cE_two h h1 h6 (fun e => by have := hb.2 e; cases this))
    have FO : Hid (∀ u, Calls Tryz.prog 56 #[.agg H.toArray] u fun e w' => e = .returned (.agg (hk (num H 0) (pt (num H 0) H)).toArray) ∧ Below u.heap.size u w') := Hid.mk' (fun u => alone_any H u h h1 h6)
    have HS : Hid (∀ u, Calls Tryz.prog 55 #[.int .u8 (num H 0)] u fun e w' => e = .returned (.int .i64 (sz (num H 0) : Nat)) ∧ Below u.heap.size u w') := Hid.mk' (fun u => size_any (num H 0) u k0 k1)
    have hsp := sz_pos ⟨h1, h6⟩
    have RP : Hid (∀ u : World, u.heap[w.heap.size]? = some (.cells H.toArray 46 (0, 0)) → u.rangeAt w.heap.size (pAt (num H 0)) (pt (num H 0) H)) := Hid.mk' (fun u hu => pt_range (num H 0) hu)
    rw [hcE.out]
    obtain ⟨J, HJ'⟩ : ∃ J, Hid (hk (num H 0) (pt (num H 0) H) = J) := ⟨_, rfl⟩
    rw [HJ'.out] at FO hne
    clear hcE HJ' hb
    obtain ⟨S, hS⟩ : ∃ S, S = sz (num H 0) := ⟨_, rfl⟩
    rw [← hS] at HS hsp
    obtain ⟨L, HL⟩ : ∃ L, Hid (pt (num H 0) H = L) := ⟨_, rfl⟩
    rw [HL.out] at KH RP
    rw [HL.out]
    clear HL hS
    generalize num H 0 = k at *
    have hs0 : ¬ (S : Int) = 0 := by omega
    have hsd : decide ((S : Int) = 0) = false := by simp; omega
    have hsb : ((S : Int) == 0) = false := by simp; omega
    have A0 := Hid.mk' a0
    clear h a0 k0 k1
    go_enter Tryz.func38, Tryz.ntmps38
    go_upto_region 1 with fail
    refine wp_region_held_drew (S := BJ w H) (by kernel_rfl) (J1.out.below ((Below.refl _ _).drew)) (fun hHeld => ?_)
    change wpAnyH _ _ _ _ _ 10 #[false, false, false, false, false, false, false, false, false, false] _ _
    refine held_take 0 3 (.pointer (some ⟨w.heap.size, 0, none⟩)) rfl rfl (by kernel_rfl) (by kernel_rfl) (by kernel_rfl) (fun _ _ _ h => h) (Or.inl ⟨by rfl, fun u hu => ?_⟩) hHeld ?_
    · go_simp
    simp only [Act.put, List.setIfInBounds_toArray, List.set_cons_zero, List.set_cons_succ]
    refine held_take 1 4 (.int .u8 k) rfl rfl (by kernel_rfl) (by kernel_rfl) (by kernel_rfl) (fun _ _ _ h => h) (Or.inl ⟨by rfl, fun u hu => ?_⟩) hHeld ?_
    · have hc := hu.kind A0.out
      go_simp
    simp only [Act.put, List.setIfInBounds_toArray, List.set_cons_zero, List.set_cons_succ]
    refine held_one 2 (by kernel_rfl) rfl (fun K hK => ?_)
    go_simp
    go_wp2_with (refine (HS.out _).mono ?_; rintro e w3 ⟨rfl, bh3⟩)
    have h3 := hHeld.below bh3
    refine hK.out _ _ h3 (fun hHeld => ?_)
    clear hK K
    try simp only [List.setIfInBounds_toArray, List.set_cons_zero, List.set_cons_succ]
    refine held_take 3 6 (.bool false) rfl rfl (by kernel_rfl) (by kernel_rfl) (by kernel_rfl) (fun _ _ _ h => h) (Or.inl ⟨by rfl, fun u hu => ?_⟩) hHeld ?_
    · go_simp
    simp only [Act.put, List.setIfInBounds_toArray, List.set_cons_zero, List.set_cons_succ]
    refine held_take 4 7 (.bool false) rfl rfl (by kernel_rfl) (by kernel_rfl) (by kernel_rfl) (fun _ _ _ h => h) (Or.inl ⟨by rfl, fun u hu => ?_⟩) hHeld ?_
    · go_simp
    simp only [Act.put, List.setIfInBounds_toArray, List.set_cons_zero, List.set_cons_succ]
    refine held_take 5 8 (.agg H.toArray) rfl rfl (by kernel_rfl) (by kernel_rfl) (by kernel_rfl) (fun _ _ _ h => h) (yieldsIf_load_mid (by rfl) 46 _ rfl w.heap.size 0 rfl H _ (fun u hu => range_block hu.hd) Tryz.underlying46 rfl (by rw [hh73.out]; exact info_hh)) hHeld ?_
    simp only [Act.put, List.setIfInBounds_toArray, List.set_cons_zero, List.set_cons_succ]
    refine held_take 7 10 (.agg H.toArray) rfl rfl (by kernel_rfl) (by kernel_rfl) (by kernel_rfl) (fun _ _ _ h => h) (yieldsIf_load_mid (by rfl) 46 _ rfl w.heap.size 0 rfl H _ (fun u hu => range_block hu.hd) Tryz.underlying46 rfl (by rw [hh73.out]; exact info_hh)) hHeld ?_
    simp only [Act.put, List.setIfInBounds_toArray, List.set_cons_zero, List.set_cons_succ]
    refine held_one 6 (by kernel_rfl) rfl (fun K hK => ?_)
    go_simp
    go_wp2_with (refine (FO.out _).mono ?_; rintro e w4 ⟨rfl, bh4⟩)
    have h4 := hHeld.below bh4
    refine hK.out _ _ h4 (fun hHeld => ?_)
    clear hK K
    try simp only [List.setIfInBounds_toArray, List.set_cons_zero, List.set_cons_succ]
    refine held_take 8 11 (.bool (!b)) rfl rfl (by kernel_rfl) (by kernel_rfl) (by kernel_rfl) (fun _ _ _ h => h) (Or.inl ⟨by rfl, fun u hu => ?_⟩) hHeld ?_
    · have hc := hne u
      go_simp
    simp only [Act.put, List.setIfInBounds_toArray, List.set_cons_zero, List.set_cons_succ]
    refine held_take 9 12 (.bool (!b)) rfl rfl (by kernel_rfl) (by kernel_rfl) (by kernel_rfl) (fun _ _ _ h => h) (Or.inl ⟨by rfl, fun u hu => ?_⟩) hHeld ?_
    · go_simp
    simp only [Act.put, List.setIfInBounds_toArray, List.set_cons_zero, List.set_cons_succ]
    refine wpAnyH_done (by kernel_rfl) ?_ _
    clear hne FO HS hs0 hsd hsb J1
    have H4 := Hid.mk' hHeld
    clear hHeld h3 h4 bh3 bh4
    cases b with
    | false =>
      go_wp2_with fail
      go_ret
      exact ⟨rfl, H4.out.old⟩
    | true =>
      have c0 := H4.out.kind A0.out
      have HR := Hid.mk' (RP.out _ H4.out.hd)

      clear RP A0
      rcases six h1 h6 with rfl | rfl | rfl | rfl | rfl | rfl
      · go_wp2_with fail
        go_ret
        exact ⟨rfl, H4.out.old⟩
      · have hlc := Hid.mk' (h_len_2 KH.out)
        have FC := Hid.mk' (K06.h_rcheck L w4 (KH.out.2.2.2.1 rfl))
        show _
        go_wp2_with (first
          | refine wpList_load_mid rfl 33 _ rfl w.heap.size 14 (by rfl) L _ HR.out Tryz.underlying33 rfl (by rw [hlc.out]; exact K06.info_hd) ?_)
        refine FC.out.mono ?_
        rintro e w5 ⟨rfl, b5⟩
        have h5 := H4.out.below b5
        go_wp2_with fail
        go_ret
        exact ⟨rfl, h5.old⟩
      · go_wp2_with fail
        go_ret
        exact ⟨rfl, H4.out.old⟩
      · have hlc := Hid.mk' (h_len_4 KH.out)
        have FC := Hid.mk' (K08.h_rcheck L w4 (KH.out.2.2.2.2.2.1 rfl))
        show _
        go_wp2_with (first
          | refine wpList_load_mid rfl 40 _ rfl w.heap.size 29 (by rfl) L _ HR.out Tryz.underlying40 rfl (by rw [hlc.out]; exact K08.info_hd) ?_)
        refine FC.out.mono ?_
        rintro e w5 ⟨rfl, b5⟩
        have h5 := H4.out.below b5
        go_wp2_with fail
        go_ret
        exact ⟨rfl, h5.old⟩
      · have hlc := Hid.mk' (h_len_5 KH.out)
        have FC := Hid.mk' (K09.h_rcheck L w4 (KH.out.2.2.2.2.2.2.1 rfl))
        show _
        go_wp2_with (first
          | refine wpList_load_mid rfl 42 _ rfl w.heap.size 65 (by rfl) L _ HR.out Tryz.underlying42 rfl (by rw [hlc.out]; exact K09.info_hd) ?_)
        refine FC.out.mono ?_
        rintro e w5 ⟨rfl, b5⟩
        have h5 := H4.out.below b5
        go_wp2_with fail
        go_ret
        exact ⟨rfl, h5.old⟩
      · go_wp2_with fail
        go_ret
        exact ⟨rfl, H4.out.old⟩
  · rw [cE_no hk]
    have HS : Hid (∀ u, Calls Tryz.prog 55 #[.int .u8 (num H 0)] u fun e w' => e = .returned (.int .i64 0) ∧ Below u.heap.size u w') := Hid.mk' (fun u => by
      have := size_any (num H 0) u k0 k1
      rw [sz_zero hk] at this; exact this)
    generalize num H 0 = k at *
    have A0 := Hid.mk' a0
    clear h a0 k0 k1 hk
    go_enter Tryz.func38, Tryz.ntmps38
    go_upto_region 1 with fail
    refine wp_region_held_drew (S := BJ w H) (by kernel_rfl) (J1.out.below ((Below.refl _ _).drew)) (fun hHeld => ?_)
    change wpAnyH _ _ _ _ _ 10 #[false, false, false, false, false, false, false, false, false, false] _ _
    refine held_take 0 3 (.pointer (some ⟨w.heap.size, 0, none⟩)) rfl rfl (by kernel_rfl) (by kernel_rfl) (by kernel_rfl) (fun _ _ _ h => h) (Or.inl ⟨by rfl, fun u hu => ?_⟩) hHeld ?_
    · go_simp
    simp only [Act.put, List.setIfInBounds_toArray, List.set_cons_zero, List.set_cons_succ]
    refine held_take 1 4 (.int .u8 k) rfl rfl (by kernel_rfl) (by kernel_rfl) (by kernel_rfl) (fun _ _ _ h => h) (Or.inl ⟨by rfl, fun u hu => ?_⟩) hHeld ?_
    · have hc := hu.kind A0.out
      go_simp
    simp only [Act.put, List.setIfInBounds_toArray, List.set_cons_zero, List.set_cons_succ]
    refine held_one 2 (by kernel_rfl) rfl (fun K hK => ?_)
    go_simp
    go_wp2_with (refine (HS.out _).mono ?_; rintro e w3 ⟨rfl, bh3⟩)
    have h3 := hHeld.below bh3
    refine hK.out _ _ h3 (fun hHeld => ?_)
    clear hK K
    try simp only [List.setIfInBounds_toArray, List.set_cons_zero, List.set_cons_succ]
    refine held_take 3 6 (.bool true) rfl rfl (by kernel_rfl) (by kernel_rfl) (by kernel_rfl) (fun _ _ _ h => h) (Or.inl ⟨by rfl, fun u hu => ?_⟩) hHeld ?_
    · go_simp
    simp only [Act.put, List.setIfInBounds_toArray, List.set_cons_zero, List.set_cons_succ]
    refine held_take 4 7 (.bool true) rfl rfl (by kernel_rfl) (by kernel_rfl) (by kernel_rfl) (fun _ _ _ h => h) (Or.inl ⟨by rfl, fun u hu => ?_⟩) hHeld ?_
    · go_simp
    simp only [Act.put, List.setIfInBounds_toArray, List.set_cons_zero, List.set_cons_succ]
    refine held_take 5 8 undef rfl rfl (by kernel_rfl) (by kernel_rfl) (by kernel_rfl) (fun _ _ _ h => h) (Or.inr ⟨by rfl, rfl⟩) hHeld ?_
    simp only [Act.put, List.setIfInBounds_toArray, List.set_cons_zero, List.set_cons_succ]
    refine held_take 7 10 undef rfl rfl (by kernel_rfl) (by kernel_rfl) (by kernel_rfl) (fun _ _ _ h => h) (Or.inr ⟨by rfl, rfl⟩) hHeld ?_
    simp only [Act.put, List.setIfInBounds_toArray, List.set_cons_zero, List.set_cons_succ]
    refine held_take 6 9 undef rfl rfl (by kernel_rfl) (by kernel_rfl) (by kernel_rfl) (fun _ _ _ h => h) (Or.inr ⟨by rfl, rfl⟩) hHeld ?_
    simp only [Act.put, List.setIfInBounds_toArray, List.set_cons_zero, List.set_cons_succ]
    refine held_take 8 11 undef rfl rfl (by kernel_rfl) (by kernel_rfl) (by kernel_rfl) (fun _ _ _ h => h) (Or.inr ⟨by rfl, rfl⟩) hHeld ?_
    simp only [Act.put, List.setIfInBounds_toArray, List.set_cons_zero, List.set_cons_succ]
    refine held_take 9 12 (.bool true) rfl rfl (by kernel_rfl) (by kernel_rfl) (by kernel_rfl) (fun _ _ _ h => h) (Or.inl ⟨by rfl, fun u hu => ?_⟩) hHeld ?_
    · go_simp
    simp only [Act.put, List.setIfInBounds_toArray, List.set_cons_zero, List.set_cons_succ]
    refine wpAnyH_done (by kernel_rfl) ?_ _
    have H4 := Hid.mk' hHeld
    clear hHeld h3 bh3 J1 HS
    go_wp2_with fail
    go_ret
    exact ⟨rfl, H4.out.old⟩

set_option maxHeartbeats 1000000 in
theorem rsz_any (k : Int) (w : World) (k0 : 0 ≤ k) (k1 : k ≤ 255) : Calls Tryz.prog 37 #[.int .u8 k] w fun e w' => e = .returned (.tuple #[.int .i64 (sz k : Nat), .int .i64 (szE k)]) ∧ Below w.heap.size w w' := by
  have HS := Hid.mk' (size_any k w k0 k1)
  by_cases hk : 1 ≤ k ∧ k ≤ 6
  · have hsp := sz_pos hk
    have he : szE k = 0 := by unfold szE; rw [if_pos hk]
    rw [he]
    obtain ⟨S, hS⟩ : ∃ S, S = sz k := ⟨_, rfl⟩
    rw [← hS] at HS hsp
    rw [← hS]
    have hs0 : ¬ (S : Int) = 0 := by omega
    have hsd : decide ((S : Int) = 0) = false := by simp; omega
    clear hS he
    go_enter Tryz.func37, Tryz.ntmps37
    go_wp2_with fail
    refine HS.out.mono ?_
    rintro e w2 ⟨rfl, b2⟩
    go_wp2_with fail
    go_ret2
    exact ⟨rfl, b2⟩
  · have he : szE k = 120 := by unfold szE; rw [if_neg hk]
    rw [he, sz_zero hk]
    rw [sz_zero hk] at HS
    clear he
    go_enter Tryz.func37, Tryz.ntmps37
    go_wp2_with fail
    refine HS.out.mono ?_
    rintro e w2 ⟨rfl, b2⟩
    go_wp2_with fail
    go_ret2
    exact ⟨rfl, b2⟩
end Go.Proofs.YtednmdkjhiihcaaGreat
