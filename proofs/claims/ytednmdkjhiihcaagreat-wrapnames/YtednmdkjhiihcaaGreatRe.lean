/- Stage 12: Check, Size. -/
import Derived.Test.YtednmdkjhiihcaaGreatRd
namespace Go.Proofs.YtednmdkjhiihcaaGreat
open Go.ChangeShapes Go.WideShapes Go.ChangeAt Go.RowKit
set_option maxRecDepth 10000

/-- What is held while a head and its kind's deeds lie in their blocks. -/
structure DJ (w : World) (q : Nat) (H : List Value) (k : Int) (g : Nat) (u : World) : Prop where
  hd : u.heap[w.heap.size]? = some (.cells H.toArray 46 (0, 0))
  dd : u.heap[q]? = some (.cells (dk k g).toArray 96 (0, 0))
  bx : Bk k u g
  old : Below w.heap.size w u
theorem DJ.below {w : World} {q : Nat} {H : List Value} {k : Int} {g : Nat} {u v : World} (h : DJ w q H k g u) (b : Below u.heap.size u v) : DJ w q H k g v :=
  ⟨(b.block _ (Array.getElem?_eq_some_iff.1 h.hd).1).trans h.hd, (b.block _ (Array.getElem?_eq_some_iff.1 h.dd).1).trans h.dd, h.bx.below b, h.old.trans (b.mono h.old.size)⟩
theorem DJ.cells {w : World} {q : Nat} {H : List Value} {k : Int} {g : Nat} {u : World} (h : DJ w q H k g u) : u.cell? ⟨q, 0, none⟩ = some (fv (uS k)) ∧ u.cell? ⟨q, 1, none⟩ = some (.func (.func (uO k)) #[] #[pp (g + 4), pp (g + 3)]) ∧ u.cell? ⟨q, 2, none⟩ = some (.func (.func (uC k)) #[] #[pp g, pp (g + 3)]) ∧
    u.cell? ⟨q, 3, none⟩ = some (.func (.func (uB k)) #[] #[pp (g + 1), pp (g + 3)]) ∧ u.cell? ⟨q, 4, none⟩ = some (.func (.func (uR k)) #[] #[pp (g + 2), pp (g + 4)]) :=
  ⟨cell_of_row u q 0 _ _ _ h.dd, cell_of_row u q 1 _ _ _ h.dd, cell_of_row u q 2 _ _ _ h.dd, cell_of_row u q 3 _ _ _ h.dd, cell_of_row u q 4 _ _ _ h.dd⟩
/-- It begins: a head is boxed, then the deeds are laid. -/
theorem DJ.start {w w2 : World} {H : List Value} {k : Int} {g : Nat} (b : Below (w.alloc (.cells H.toArray 46)).heap.size (w.alloc (.cells H.toArray 46)) w2) (bx : Bk k w2 g) : DJ w w2.heap.size H k g (w2.alloc (.cells (dk k g).toArray 96)) := by
  have R1 : (w.alloc (.cells H.toArray 46)).heap[w.heap.size]? = some (.cells H.toArray 46 (0, 0)) := heap_alloc_new w _
  have R2 := (b.block _ (Array.getElem?_eq_some_iff.1 R1).1).trans R1
  have B1 : Below w.heap.size w (w.alloc (.cells H.toArray 46)) := (Below.refl _ _).alloc (Nat.le_refl _) _
  have B2 := B1.trans (b.mono B1.size)
  have b3 : Below w2.heap.size w2 (w2.alloc (.cells (dk k g).toArray 96)) := (Below.refl _ _).alloc (Nat.le_refl _) _
  exact ⟨(b3.block _ (Array.getElem?_eq_some_iff.1 R2).1).trans R2, heap_alloc_new w2 _, bx.below b3, B2.trans (b3.mono B2.size)⟩

theorem cE_no {H : List Value} (hk : ¬ (1 ≤ num H 0 ∧ num H 0 ≤ 6)) : cE H = 120 := by unfold cE; rw [if_neg hk]
theorem cE_two {H : List Value} (h : Hh H) (h1 : 1 ≤ num H 0) (h6 : num H 0 ≤ 6) (hn : ¬ hk (num H 0) (pt (num H 0) H) = H) : cE H = 120 := by
  unfold cE; rw [if_pos ⟨h1, h6⟩, if_neg (fun e => hn (hh_same (hk_hh (pt_hd h1 h6 h)) h e))]
theorem cE_one {H : List Value} (h1 : 1 ≤ num H 0) (h6 : num H 0 ≤ 6) (hy : hk (num H 0) (pt (num H 0) H) = H) : cE H = kC (num H 0) (pt (num H 0) H) := by
  unfold cE; rw [if_pos ⟨h1, h6⟩, if_pos (by rw [hy])]

set_option maxHeartbeats 2000000 in
theorem check_any (H : List Value) (w : World) (h : Hh H) : Calls Tryz.prog 11 #[.agg H.toArray] w fun e w' => e = .returned (.int .i64 (cE H)) ∧ Below w.heap.size w w' := by
  have hh73 := Hid.mk' (hh_len h)
  obtain ⟨⟨a0, k0, k1⟩, -⟩ := hh_cells h
  have A0 : H.toArray[0]? = some (.int .u8 (num H 0)) := by simpa using a0
  have B1 : Hid (Below w.heap.size w (w.alloc (.cells H.toArray 46))) := Hid.mk' ((Below.refl _ _).alloc (Nat.le_refl _) _)
  by_cases hk : 1 ≤ num H 0 ∧ num H 0 ≤ 6
  · obtain ⟨h1, h6⟩ := hk
    have KH := pt_hd h1 h6 h
    obtain ⟨b, hb, -, hne⟩ := eql_hh (hk_hh KH) h
    have hcE : Hid (cE H = if b = true then kC (num H 0) (pt (num H 0) H) else 120) := Hid.mk' (by
      cases b with
      | true => rw [if_pos rfl]; exact cE_one h1 h6 (hb.1 rfl)
      | false => rw [if_neg (by decide)]; exact cE_two h h1 h6 (fun e => by have := hb.2 e; cases this))
    have FO : Hid (∀ u g, Bk (num H 0) u g → Calls Tryz.prog (uO (num H 0)) #[.agg H.toArray, pp (g + 4), pp (g + 3)] u fun e w' => e = .returned (.agg (hk (num H 0) (pt (num H 0) H)).toArray) ∧ Below u.heap.size u w') := Hid.mk' (fun u g hg => donly_any _ h1 h6 H g u h hg)
    have FC : Hid (∀ u g, Bk (num H 0) u g → Calls Tryz.prog (uC (num H 0)) #[.agg H.toArray, pp g, pp (g + 3)] u fun e w' => e = .returned (.int .i64 (kC (num H 0) (pt (num H 0) H))) ∧ Below u.heap.size u w') := Hid.mk' (fun u g hg => dcheck_any _ h1 h6 H g u h hg)
    rw [hcE.out]
    obtain ⟨E, HE⟩ : ∃ E, Hid (kC (num H 0) (pt (num H 0) H) = E) := ⟨_, rfl⟩
    obtain ⟨J, HJ'⟩ : ∃ J, Hid (hk (num H 0) (pt (num H 0) H) = J) := ⟨_, rfl⟩
    rw [HE.out] at FC
    rw [HJ'.out] at FO hne
    rw [HE.out]
    clear hcE HE HJ' KH hb
    generalize num H 0 = k at *
    have cO := call_uO k h1 h6
    have cC := call_uC k h1 h6
    clear h
    go_enter Tryz.func11, Tryz.ntmps11
    go_wp2_with fail
    refine (find_any k _ h1 h6).mono ?_
    rintro e w2 ⟨g, rfl, bx, b2⟩
    have J3 := Hid.mk' (DJ.start b2 bx)
    clear b2 bx
    go_upto_region 4 with (first | refine wpList_store_new rfl 96 _ _ rfl _ _ (dk k g) rfl rfl rfl (by kernel_rfl) (dk_one k g) ?_)
    generalize (w2.alloc (.cells (dk k g).toArray 96)) = w3 at J3 ⊢
    refine wp_region_held_drew (S := DJ w w2.heap.size H k g) (by kernel_rfl) (J3.out.below ((Below.refl _ _).drew)) (fun hHeld => ?_)
    change wpAnyH _ _ _ _ _ 6 #[false, false, false, false, false, false] _ _
    refine held_take 0 14 (.pointer (some ⟨w2.heap.size, 1, none⟩)) rfl rfl (by kernel_rfl) (by kernel_rfl) (by kernel_rfl) (fun _ _ _ h => h) (Or.inl ⟨by rfl, fun u hu => ?_⟩) hHeld ?_
    · go_simp
    simp only [Act.put, List.setIfInBounds_toArray, List.set_cons_zero, List.set_cons_succ]
    refine held_take 1 15 (.func (.func (uO k)) #[] #[pp (g + 4), pp (g + 3)]) rfl rfl (by kernel_rfl) (by kernel_rfl) (by kernel_rfl) (fun _ _ _ h => h) (Or.inl ⟨by rfl, fun u hu => ?_⟩) hHeld ?_
    · have hc := hu.cells.2.1
      go_simp
    simp only [Act.put, List.setIfInBounds_toArray, List.set_cons_zero, List.set_cons_succ]
    refine held_take 2 16 (.agg H.toArray) rfl rfl (by kernel_rfl) (by kernel_rfl) (by kernel_rfl) (fun _ _ _ h => h) (yieldsIf_load_mid (by rfl) 46 _ rfl w.heap.size 0 rfl H _ (fun u hu => range_block hu.hd) Tryz.underlying46 rfl (by rw [hh73.out]; exact info_hh)) hHeld ?_
    simp only [Act.put, List.setIfInBounds_toArray, List.set_cons_zero, List.set_cons_succ]
    refine held_take 4 18 (.agg H.toArray) rfl rfl (by kernel_rfl) (by kernel_rfl) (by kernel_rfl) (fun _ _ _ h => h) (yieldsIf_load_mid (by rfl) 46 _ rfl w.heap.size 0 rfl H _ (fun u hu => range_block hu.hd) Tryz.underlying46 rfl (by rw [hh73.out]; exact info_hh)) hHeld ?_
    simp only [Act.put, List.setIfInBounds_toArray, List.set_cons_zero, List.set_cons_succ]
    refine held_one 3 (by kernel_rfl) rfl (fun K hK => ?_)
    go_simp
    go_wp2_with (refine (FO.out _ g hHeld.bx).mono ?_; rintro e w4 ⟨rfl, b4⟩)
    have h4 := hHeld.below b4
    refine hK.out _ _ h4 (fun hHeld => ?_)
    clear hK K
    try simp only [List.setIfInBounds_toArray, List.set_cons_zero, List.set_cons_succ]
    refine held_take 5 19 (.bool (!b)) rfl rfl (by kernel_rfl) (by kernel_rfl) (by kernel_rfl) (fun _ _ _ h => h) (Or.inl ⟨by rfl, fun u hu => ?_⟩) hHeld ?_
    · have hc := hne u
      go_simp
    simp only [Act.put, List.setIfInBounds_toArray, List.set_cons_zero, List.set_cons_succ]
    refine wpAnyH_done (by kernel_rfl) ?_ _
    clear hne FO cO
    have H4 := Hid.mk' hHeld
    have cc := hHeld.cells.2.2.1
    clear hHeld
    cases b with
    | false =>
      go_wp2_with fail
      go_ret
      exact ⟨rfl, H4.out.old⟩
    | true =>
      go_wp2_with (first
        | refine wpList_load_mid rfl 46 _ rfl w.heap.size 0 rfl H _ (range_block H4.out.hd) Tryz.underlying46 rfl (by rw [hh73.out]; exact info_hh) ?_
        | (refine (FC.out _ g H4.out.bx).mono ?_; rintro e w5 ⟨rfl, b5⟩))
      have h5 := H4.out.below b5
      go_ret
      exact ⟨rfl, h5.old⟩
  · rw [cE_no hk]
    generalize num H 0 = k at *
    clear h
    go_enter Tryz.func11, Tryz.ntmps11
    go_wp2_with fail
    refine (find_no k _ k0 k1 hk).mono ?_
    rintro e w2 ⟨rfl, b2⟩
    have B3 : Hid (Below w.heap.size w (w2.alloc (.cells dz.toArray 96))) := Hid.mk' ((B1.out.trans (b2.mono B1.out.size)).alloc (B1.out.trans (b2.mono B1.out.size)).size _)
    go_wp2_with (first | refine wpList_store_new rfl 96 _ _ rfl _ _ dz rfl rfl rfl (by kernel_rfl) (by kernel_rfl) ?_)
    go_ret
    exact ⟨rfl, B3.out⟩

/-- What Size answers. -/
def szE (k : Int) : Int := if 1 ≤ k ∧ k ≤ 6 then 0 else 120
set_option maxHeartbeats 1000000 in
theorem wsize_any (k : Int) (w : World) (k0 : 0 ≤ k) (k1 : k ≤ 255) : Calls Tryz.prog 14 #[.int .u8 k] w fun e w' => e = .returned (.tuple #[.int .i64 (sz k : Nat), .int .i64 (szE k)]) ∧ Below w.heap.size w w' := by
  by_cases hk : 1 ≤ k ∧ k ≤ 6
  · obtain ⟨h1, h6⟩ := hk
    have hsz : szE k = 0 := by unfold szE; rw [if_pos ⟨h1, h6⟩]
    rw [hsz]
    have cS := call_uS k h1 h6
    have FS : Hid (∀ u, Calls Tryz.prog (uS k) #[] u fun e w' => e = .returned (.int .i64 (sz k : Nat)) ∧ u = w') := Hid.mk' (fun u => dsize_any k h1 h6 u)
    clear hsz
    go_enter Tryz.func14, Tryz.ntmps14
    go_wp2_with fail
    refine (find_any k _ h1 h6).mono ?_
    rintro e w2 ⟨g, rfl, bx, b2⟩
    have B3 : Hid (Below w.heap.size w (w2.alloc (.cells (dk k g).toArray 96))) := Hid.mk' (b2.alloc b2.size _)
    have cc : (w2.alloc (.cells (dk k g).toArray 96)).cell? ⟨w2.heap.size, 0, none⟩ = some (fv (uS k)) := cell_of_row _ w2.heap.size 0 _ _ _ (heap_alloc_new w2 _)
    clear b2 bx
    go_upto_region 4 with (first | refine wpList_store_new rfl 96 _ _ rfl _ _ (dk k g) rfl rfl rfl (by kernel_rfl) (dk_one k g) ?_)
    generalize (w2.alloc (.cells (dk k g).toArray 96)) = w3 at B3 cc ⊢
    go_wp2_with (refine (FS.out _).mono ?_; rintro e w5 ⟨rfl, rfl⟩)
    go_ret2
    exact ⟨rfl, B3.out⟩
  · have hsz : szE k = 120 := by unfold szE; rw [if_neg hk]
    rw [hsz, sz_zero hk]
    go_enter Tryz.func14, Tryz.ntmps14
    go_wp2_with fail
    refine (find_no k _ k0 k1 hk).mono ?_
    rintro e w2 ⟨rfl, b2⟩
    have B3 : Hid (Below w.heap.size w (w2.alloc (.cells dz.toArray 96))) := Hid.mk' (b2.alloc b2.size _)
    go_wp2_with (first | refine wpList_store_new rfl 96 _ _ rfl _ _ dz rfl rfl rfl (by kernel_rfl) (by kernel_rfl) ?_)
    go_ret2
    exact ⟨rfl, B3.out⟩
end Go.Proofs.YtednmdkjhiihcaaGreat
