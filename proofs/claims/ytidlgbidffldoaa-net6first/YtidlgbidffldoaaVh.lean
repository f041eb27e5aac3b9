/- The chapter's header as the statements lay it. -/
import Derived.Test.YtidlgbidffldoaaVg
import Derived.Test.YtidlgbidffldoaaGd
namespace Go.Proofs.Ytidlgbidffldoaa
open Go.ChangeShapes Go.WideShapes Go.ChangeAt Go.RowKit

/-- What lies in memory while it is laid: its box. -/
structure UsJ (w : World) (L : List Value) (u : World) : Prop where
  box : u.heap[w.heap.size]? = some (.cells L.toArray 25 (0, 0))
  old : Below w.heap.size w u
theorem UsJ.alloc {w u : World} {L : List Value} (h : UsJ w L u) (o : Obj) : UsJ w L (u.alloc o) :=
  ⟨(Below.heap_alloc u o _ (Array.getElem?_eq_some_iff.1 h.box).1).trans h.box, h.old.alloc h.old.size _⟩
theorem UsJ.there {w u : World} (h : UsJ w hd0 u) : u.there w.heap.size 0 uL.toArray.size := there_block (L := hd0) h.box
theorem UsJ.set {w u : World} (h : UsJ w hd0 u) : UsJ w uL (u.setCells w.heap.size 0 uL) :=
  ⟨heap_whole (L := hd0) h.box rfl, h.old.trans (((Kept.refl (fun k => k = w.heap.size) u).setCells w.heap.size 0 uL (fun _ => rfl)).below h.old.size (fun k hk => by omega))⟩
theorem UsJ.row {w u : World} {L : List Value} (_h : UsJ w L u) {g : Nat} {zs : List Int} (hb : Bs u (some ⟨g, 0, none⟩) zs) (hg : g ≠ w.heap.size) : Bs (u.setCells w.heap.size 0 uL) (some ⟨g, 0, none⟩) zs :=
  Kept.bs hb ((Kept.refl (fun k => k = w.heap.size) u).setCells w.heap.size 0 uL (fun _ => rfl)) (fun p hp => by cases hp; exact hg)

set_option maxHeartbeats 1000000 in
theorem usual_any (w : World) : Calls Try.prog 20 #[] w fun e w' => ∃ g pa pc, e = .returned (.tuple #[.agg uL.toArray, .slice pa uY.length pc, .slice (some ⟨g, 0, none⟩) 40 40]) ∧ Bs w' pa uY ∧ (pa = none → pc = 0) ∧ uY.length ≤ pc ∧ Bs w' (some ⟨g, 0, none⟩) uB ∧ Below w.heap.size w w' := by
  have hmk : ∀ u : World, (Instr.makeSlice 26 (.int .i64 3) (.int .i64 3)).run Try.prog u = .ok (.slice (some ⟨u.heap.size, 0, none⟩) 3 3) (u.alloc (.cells #[.int .u8 0, .int .u8 0, .int .u8 0] 5)) := make_bytes 3 (by omega)
  go_enter Try.func20, Try.ntmps20
  go_wp2_with fail
  refine wp_region_held_drew (S := fun _ => True) (by kernel_rfl) trivial (fun _ => ?_)
  change wpAnyH _ _ _ _ _ 8 #[false, false, false, false, false, false, false, false] _ _
  refine held_take 0 3 (.agg #[.int .u8 1, .int .u8 1, .int .u8 1, .int .u8 1, .int .u8 1, .int .u8 1, .int .u8 1, .int .u8 1, .int .u8 1, .int .u8 1, .int .u8 1, .int .u8 1, .int .u8 1, .int .u8 1, .int .u8 1, .int .u8 1]) rfl rfl (by kernel_rfl) (by kernel_rfl) (by kernel_rfl) (fun _ _ _ h => h) (Or.inl ⟨by rfl, fun u hu => ?_⟩) trivial ?_
  · go_simp
  simp only [Act.put, List.setIfInBounds_toArray, List.set_cons_zero, List.set_cons_succ]
  refine held_take 1 4 (.agg #[.int .u8 2, .int .u8 2, .int .u8 2, .int .u8 2, .int .u8 2, .int .u8 2, .int .u8 2, .int .u8 2, .int .u8 2, .int .u8 2, .int .u8 2, .int .u8 2, .int .u8 2, .int .u8 2, .int .u8 2, .int .u8 2]) rfl rfl (by kernel_rfl) (by kernel_rfl) (by kernel_rfl) (fun _ _ _ h => h) (Or.inl ⟨by rfl, fun u hu => ?_⟩) trivial ?_
  · go_simp
  simp only [Act.put, List.setIfInBounds_toArray, List.set_cons_zero, List.set_cons_succ]
  refine held_take 2 5 (.agg #[.int .u8 18, .int .u32 214375, .int .u8 6, .int .u8 64, .int .u8 1, .int .u8 1, .int .u8 1, .int .u8 1, .int .u8 1, .int .u8 1, .int .u8 1, .int .u8 1, .int .u8 1, .int .u8 1, .int .u8 1, .int .u8 1, .int .u8 1, .int .u8 1, .int .u8 1, .int .u8 1, .int .u8 2, .int .u8 2, .int .u8 2, .int .u8 2, .int .u8 2, .int .u8 2, .int .u8 2, .int .u8 2, .int .u8 2, .int .u8 2, .int .u8 2, .int .u8 2, .int .u8 2, .int .u8 2, .int .u8 2, .int .u8 2]) rfl rfl (by kernel_rfl) (by kernel_rfl) (by kernel_rfl) (fun _ _ _ h => h) (Or.inl ⟨by rfl, fun u hu => ?_⟩) trivial ?_
  · go_simp
  simp only [Act.put, List.setIfInBounds_toArray, List.set_cons_zero, List.set_cons_succ]
  have UW : Hid (UsJ w hd0 (w.alloc (.cells hd0.toArray 25)).drew) := Hid.mk' ⟨heap_alloc_new w _, ((Below.refl _ _).alloc (Nat.le_refl _) _).drew⟩
  obtain ⟨W, HW⟩ : ∃ W, W = (w.alloc (.cells hd0.toArray 25)).drew := ⟨_, rfl⟩
  change wpAnyH _ _ _ _ _ _ _ _ (World.drew (w.alloc (.cells hd0.toArray 25)))
  rw [← HW] at UW ⊢
  clear HW
  refine wpAnyH_ready (rs := [3, 4, 5]) (by kernel_rfl) (by simp) ?_
  refine AllReadyH.cons rfl (fun K hK => ?_) ?_
  · go_simp
    refine hK.out _ _ trivial (fun _ => ?_)
    clear hK K
    simp only [List.setIfInBounds_toArray, List.set_cons_zero, List.set_cons_succ]
    have UW3 := Hid.mk' (UW.out.alloc (.cells (uY.map (Value.int .u8)).toArray 5))
    have YW3 : Hid (Bs (World.alloc W (.cells (uY.map (Value.int .u8)).toArray 5)) (some ⟨W.heap.size, 0, none⟩) uY) := Hid.mk' (bs_new W uY 5 uY_bytes (by decide))
    obtain ⟨pW3, HpW3⟩ : ∃ pW3, pW3 = W.heap.size := ⟨_, rfl⟩
    have GpW3 : Hid (w.heap.size < pW3) := Hid.mk' (by rw [HpW3]; exact (Array.getElem?_eq_some_iff.1 UW.out.box).1)
    rw [← HpW3] at YW3 ⊢
    obtain ⟨W3, HW3⟩ : ∃ W3, W3 = World.alloc W (.cells (uY.map (Value.int .u8)).toArray 5) := ⟨_, rfl⟩
    change wpAnyH _ _ _ _ _ _ _ _ (World.alloc W (.cells (uY.map (Value.int .u8)).toArray 5))
    rw [← HW3] at UW3 YW3 ⊢
    clear HW3 HpW3
    refine wpAnyH_ready (rs := [4, 5]) (by kernel_rfl) (by simp) ?_
    refine AllReadyH.cons rfl (fun K hK => ?_) ?_
    · go_simp
      refine hK.out _ _ trivial (fun _ => ?_)
      clear hK K
      simp only [List.setIfInBounds_toArray, List.set_cons_zero, List.set_cons_succ]
      have UW34 := Hid.mk' (UW3.out.alloc (.cells (uB.map (Value.int .u8)).toArray 5))
      have YW34 : Hid (Bs _ _ uY) := Hid.mk' (YW3.out.below ((Below.refl _ _).alloc (Nat.le_refl _) (.cells (uB.map (Value.int .u8)).toArray 5)))
      have BW34 : Hid (Bs (World.alloc W3 (.cells (uB.map (Value.int .u8)).toArray 5)) (some ⟨W3.heap.size, 0, none⟩) uB) := Hid.mk' (bs_new W3 uB 5 uB_by (by decide))
      obtain ⟨pW34, HpW34⟩ : ∃ pW34, pW34 = W3.heap.size := ⟨_, rfl⟩
      have GpW34 : Hid (w.heap.size < pW34) := Hid.mk' (by rw [HpW34]; exact (Array.getElem?_eq_some_iff.1 UW3.out.box).1)
      rw [← HpW34] at BW34 ⊢
      obtain ⟨W34, HW34⟩ : ∃ W34, W34 = World.alloc W3 (.cells (uB.map (Value.int .u8)).toArray 5) := ⟨_, rfl⟩
      change wpAnyH _ _ _ _ _ _ _ _ (World.alloc W3 (.cells (uB.map (Value.int .u8)).toArray 5))
      rw [← HW34] at UW34 YW34 BW34 ⊢
      clear HW34 HpW34
      refine wpAnyH_ready (rs := [5]) (by kernel_rfl) (by simp) ?_
      refine AllReadyH.cons rfl (fun K hK => ?_) ?_
      · refine step_store_box rfl rfl 25 _ _ rfl w.heap.size uL rfl rfl UW34.out.there info_hd (hd_one hd_u) ?_
        refine hK.out _ _ trivial (fun _ => ?_)
        clear hK K
        have UW345 := Hid.mk' UW34.out.set
        have YW345 : Hid (Bs _ _ uY) := Hid.mk' (UW34.out.row YW34.out (by have := GpW3.out; omega))
        have BW345 : Hid (Bs _ _ uB) := Hid.mk' (UW34.out.row BW34.out (by have := GpW34.out; omega))
        generalize World.setCells _ _ _ _ = W345 at *
        simp only [List.setIfInBounds_toArray, List.set_cons_zero, List.set_cons_succ]
        refine held_take 6 1 (.slice (some ⟨pW3, 0, none⟩) 3 3) rfl rfl (by kernel_rfl) (by kernel_rfl) (by kernel_rfl) (fun _ _ _ h => h) (Or.inl ⟨by rfl, fun u hu => ?_⟩) trivial ?_
        · go_simp
        simp only [Act.put, List.setIfInBounds_toArray, List.set_cons_zero, List.set_cons_succ]
        refine held_take 7 2 (.slice (some ⟨pW34, 0, none⟩) 40 40) rfl rfl (by kernel_rfl) (by kernel_rfl) (by kernel_rfl) (fun _ _ _ h => h) (Or.inl ⟨by rfl, fun u hu => ?_⟩) trivial ?_
        · go_simp
        simp only [Act.put, List.setIfInBounds_toArray, List.set_cons_zero, List.set_cons_succ]
        refine wpAnyH_done (by kernel_rfl) ?_ _
        go_wp2_with fail
        refine ret_cell_tmp2 rfl w.heap.size 25 uL (0, 0) _ rfl UW345.out.box Try.underlying25 rfl info_hd rfl ?_
        exact ⟨_, _, 3, rfl, YW345.out, (fun e => by cases e), Nat.le_refl _, BW345.out, UW345.out.old⟩
      exact AllReadyH.nil
    refine AllReadyH.cons rfl (fun K hK => ?_) ?_
    · refine step_store_box rfl rfl 25 _ _ rfl w.heap.size uL rfl rfl UW3.out.there info_hd (hd_one hd_u) ?_
      refine hK.out _ _ trivial (fun _ => ?_)
      clear hK K
      have UW35 := Hid.mk' UW3.out.set
      have YW35 : Hid (Bs _ _ uY) := Hid.mk' (UW3.out.row YW3.out (by have := GpW3.out; omega))
      generalize World.setCells _ _ _ _ = W35 at *
      simp only [List.setIfInBounds_toArray, List.set_cons_zero, List.set_cons_succ]
      refine held_take 6 1 (.slice (some ⟨pW3, 0, none⟩) 3 3) rfl rfl (by kernel_rfl) (by kernel_rfl) (by kernel_rfl) (fun _ _ _ h => h) (Or.inl ⟨by rfl, fun u hu => ?_⟩) trivial ?_
      · go_simp
      simp only [Act.put, List.setIfInBounds_toArray, List.set_cons_zero, List.set_cons_succ]
      refine wpAnyH_ready (rs := [4]) (by kernel_rfl) (by simp) ?_
      refine AllReadyH.cons rfl (fun K hK => ?_) ?_
      · go_simp
        refine hK.out _ _ trivial (fun _ => ?_)
        clear hK K
        simp only [List.setIfInBounds_toArray, List.set_cons_zero, List.set_cons_succ]
        have UW354 := Hid.mk' (UW35.out.alloc (.cells (uB.map (Value.int .u8)).toArray 5))
        have YW354 : Hid (Bs _ _ uY) := Hid.mk' (YW35.out.below ((Below.refl _ _).alloc (Nat.le_refl _) (.cells (uB.map (Value.int .u8)).toArray 5)))
        have BW354 : Hid (Bs (World.alloc W35 (.cells (uB.map (Value.int .u8)).toArray 5)) (some ⟨W35.heap.size, 0, none⟩) uB) := Hid.mk' (bs_new W35 uB 5 uB_by (by decide))
        obtain ⟨pW354, HpW354⟩ : ∃ pW354, pW354 = W35.heap.size := ⟨_, rfl⟩
        have GpW354 : Hid (w.heap.size < pW354) := Hid.mk' (by rw [HpW354]; exact (Array.getElem?_eq_some_iff.1 UW35.out.box).1)
        rw [← HpW354] at BW354 ⊢
        obtain ⟨W354, HW354⟩ : ∃ W354, W354 = World.alloc W35 (.cells (uB.map (Value.int .u8)).toArray 5) := ⟨_, rfl⟩
        change wpAnyH _ _ _ _ _ _ _ _ (World.alloc W35 (.cells (uB.map (Value.int .u8)).toArray 5))
        rw [← HW354] at UW354 YW354 BW354 ⊢
        clear HW354 HpW354
        refine held_take 7 2 (.slice (some ⟨pW354, 0, none⟩) 40 40) rfl rfl (by kernel_rfl) (by kernel_rfl) (by kernel_rfl) (fun _ _ _ h => h) (Or.inl ⟨by rfl, fun u hu => ?_⟩) trivial ?_
        · go_simp
        simp only [Act.put, List.setIfInBounds_toArray, List.set_cons_zero, List.set_cons_succ]
        refine wpAnyH_done (by kernel_rfl) ?_ _
        go_wp2_with fail
        refine ret_cell_tmp2 rfl w.heap.size 25 uL (0, 0) _ rfl UW354.out.box Try.underlying25 rfl info_hd rfl ?_
        exact ⟨_, _, 3, rfl, YW354.out, (fun e => by cases e), Nat.le_refl _, BW354.out, UW354.out.old⟩
      exact AllReadyH.nil
    exact AllReadyH.nil
  refine AllReadyH.cons rfl (fun K hK => ?_) ?_
  · go_simp
    refine hK.out _ _ trivial (fun _ => ?_)
    clear hK K
    simp only [List.setIfInBounds_toArray, List.set_cons_zero, List.set_cons_succ]
    have UW4 := Hid.mk' (UW.out.alloc (.cells (uB.map (Value.int .u8)).toArray 5))
    have BW4 : Hid (Bs (World.alloc W (.cells (uB.map (Value.int .u8)).toArray 5)) (some ⟨W.heap.size, 0, none⟩) uB) := Hid.mk' (bs_new W uB 5 uB_by (by decide))
    obtain ⟨pW4, HpW4⟩ : ∃ pW4, pW4 = W.heap.size := ⟨_, rfl⟩
    have GpW4 : Hid (w.heap.size < pW4) := Hid.mk' (by rw [HpW4]; exact (Array.getElem?_eq_some_iff.1 UW.out.box).1)
    rw [← HpW4] at BW4 ⊢
    obtain ⟨W4, HW4⟩ : ∃ W4, W4 = World.alloc W (.cells (uB.map (Value.int .u8)).toArray 5) := ⟨_, rfl⟩
    change wpAnyH _ _ _ _ _ _ _ _ (World.alloc W (.cells (uB.map (Value.int .u8)).toArray 5))
    rw [← HW4] at UW4 BW4 ⊢
    clear HW4 HpW4
    refine wpAnyH_ready (rs := [3, 5]) (by kernel_rfl) (by simp) ?_
    refine AllReadyH.cons rfl (fun K hK => ?_) ?_
    · go_simp
      refine hK.out _ _ trivial (fun _ => ?_)
      clear hK K
      simp only [List.setIfInBounds_toArray, List.set_cons_zero, List.set_cons_succ]
      have UW43 := Hid.mk' (UW4.out.alloc (.cells (uY.map (Value.int .u8)).toArray 5))
      have BW43 : Hid (Bs _ _ uB) := Hid.mk' (BW4.out.below ((Below.refl _ _).alloc (Nat.le_refl _) (.cells (uY.map (Value.int .u8)).toArray 5)))
      have YW43 : Hid (Bs (World.alloc W4 (.cells (uY.map (Value.int .u8)).toArray 5)) (some ⟨W4.heap.size, 0, none⟩) uY) := Hid.mk' (bs_new W4 uY 5 uY_bytes (by decide))
      obtain ⟨pW43, HpW43⟩ : ∃ pW43, pW43 = W4.heap.size := ⟨_, rfl⟩
      have GpW43 : Hid (w.heap.size < pW43) := Hid.mk' (by rw [HpW43]; exact (Array.getElem?_eq_some_iff.1 UW4.out.box).1)
      rw [← HpW43] at YW43 ⊢
      obtain ⟨W43, HW43⟩ : ∃ W43, W43 = World.alloc W4 (.cells (uY.map (Value.int .u8)).toArray 5) := ⟨_, rfl⟩
      change wpAnyH _ _ _ _ _ _ _ _ (World.alloc W4 (.cells (uY.map (Value.int .u8)).toArray 5))
      rw [← HW43] at UW43 YW43 BW43 ⊢
      clear HW43 HpW43
      refine wpAnyH_ready (rs := [5]) (by kernel_rfl) (by simp) ?_
      refine AllReadyH.cons rfl (fun K hK => ?_) ?_
      · refine step_store_box rfl rfl 25 _ _ rfl w.heap.size uL rfl rfl UW43.out.there info_hd (hd_one hd_u) ?_
        refine hK.out _ _ trivial (fun _ => ?_)
        clear hK K
        have UW435 := Hid.mk' UW43.out.set
        have YW435 : Hid (Bs _ _ uY) := Hid.mk' (UW43.out.row YW43.out (by have := GpW43.out; omega))
        have BW435 : Hid (Bs _ _ uB) := Hid.mk' (UW43.out.row BW43.out (by have := GpW4.out; omega))
        generalize World.setCells _ _ _ _ = W435 at *
        simp only [List.setIfInBounds_toArray, List.set_cons_zero, List.set_cons_succ]
        refine held_take 6 1 (.slice (some ⟨pW43, 0, none⟩) 3 3) rfl rfl (by kernel_rfl) (by kernel_rfl) (by kernel_rfl) (fun _ _ _ h => h) (Or.inl ⟨by rfl, fun u hu => ?_⟩) trivial ?_
        · go_simp
        simp only [Act.put, List.setIfInBounds_toArray, List.set_cons_zero, List.set_cons_succ]
        refine held_take 7 2 (.slice (some ⟨pW4, 0, none⟩) 40 40) rfl rfl (by kernel_rfl) (by kernel_rfl) (by kernel_rfl) (fun _ _ _ h => h) (Or.inl ⟨by rfl, fun u hu => ?_⟩) trivial ?_
        · go_simp
        simp only [Act.put, List.setIfInBounds_toArray, List.set_cons_zero, List.set_cons_succ]
        refine wpAnyH_done (by kernel_rfl) ?_ _
        go_wp2_with fail
        refine ret_cell_tmp2 rfl w.heap.size 25 uL (0, 0) _ rfl UW435.out.box Try.underlying25 rfl info_hd rfl ?_
        exact ⟨_, _, 3, rfl, YW435.out, (fun e => by cases e), Nat.le_refl _, BW435.out, UW435.out.old⟩
      exact AllReadyH.nil
    refine AllReadyH.cons rfl (fun K hK => ?_) ?_
    · refine step_store_box rfl rfl 25 _ _ rfl w.heap.size uL rfl rfl UW4.out.there info_hd (hd_one hd_u) ?_
      refine hK.out _ _ trivial (fun _ => ?_)
      clear hK K
      have UW45 := Hid.mk' UW4.out.set
      have BW45 : Hid (Bs _ _ uB) := Hid.mk' (UW4.out.row BW4.out (by have := GpW4.out; omega))
      generalize World.setCells _ _ _ _ = W45 at *
      simp only [List.setIfInBounds_toArray, List.set_cons_zero, List.set_cons_succ]
      refine wpAnyH_ready (rs := [3]) (by kernel_rfl) (by simp) ?_
      refine AllReadyH.cons rfl (fun K hK => ?_) ?_
      · go_simp
        refine hK.out _ _ trivial (fun _ => ?_)
        clear hK K
        simp only [List.setIfInBounds_toArray, List.set_cons_zero, List.set_cons_succ]
        have UW453 := Hid.mk' (UW45.out.alloc (.cells (uY.map (Value.int .u8)).toArray 5))
        have BW453 : Hid (Bs _ _ uB) := Hid.mk' (BW45.out.below ((Below.refl _ _).alloc (Nat.le_refl _) (.cells (uY.map (Value.int .u8)).toArray 5)))
        have YW453 : Hid (Bs (World.alloc W45 (.cells (uY.map (Value.int .u8)).toArray 5)) (some ⟨W45.heap.size, 0, none⟩) uY) := Hid.mk' (bs_new W45 uY 5 uY_bytes (by decide))
        obtain ⟨pW453, HpW453⟩ : ∃ pW453, pW453 = W45.heap.size := ⟨_, rfl⟩
        have GpW453 : Hid (w.heap.size < pW453) := Hid.mk' (by rw [HpW453]; exact (Array.getElem?_eq_some_iff.1 UW45.out.box).1)
        rw [← HpW453] at YW453 ⊢
        obtain ⟨W453, HW453⟩ : ∃ W453, W453 = World.alloc W45 (.cells (uY.map (Value.int .u8)).toArray 5) := ⟨_, rfl⟩
        change wpAnyH _ _ _ _ _ _ _ _ (World.alloc W45 (.cells (uY.map (Value.int .u8)).toArray 5))
        rw [← HW453] at UW453 YW453 BW453 ⊢
        clear HW453 HpW453
        refine held_take 6 1 (.slice (some ⟨pW453, 0, none⟩) 3 3) rfl rfl (by kernel_rfl) (by kernel_rfl) (by kernel_rfl) (fun _ _ _ h => h) (Or.inl ⟨by rfl, fun u hu => ?_⟩) trivial ?_
        · go_simp
        simp only [Act.put, List.setIfInBounds_toArray, List.set_cons_zero, List.set_cons_succ]
        refine held_take 7 2 (.slice (some ⟨pW4, 0, none⟩) 40 40) rfl rfl (by kernel_rfl) (by kernel_rfl) (by kernel_rfl) (fun _ _ _ h => h) (Or.inl ⟨by rfl, fun u hu => ?_⟩) trivial ?_
        · go_simp
        simp only [Act.put, List.setIfInBounds_toArray, List.set_cons_zero, List.set_cons_succ]
        refine wpAnyH_done (by kernel_rfl) ?_ _
        go_wp2_with fail
        refine ret_cell_tmp2 rfl w.heap.size 25 uL (0, 0) _ rfl UW453.out.box Try.underlying25 rfl info_hd rfl ?_
        exact ⟨_, _, 3, rfl, YW453.out, (fun e => by cases e), Nat.le_refl _, BW453.out, UW453.out.old⟩
      exact AllReadyH.nil
    exact AllReadyH.nil
  refine AllReadyH.cons rfl (fun K hK => ?_) ?_
  · refine step_store_box rfl rfl 25 _ _ rfl w.heap.size uL rfl rfl UW.out.there info_hd (hd_one hd_u) ?_
    refine hK.out _ _ trivial (fun _ => ?_)
    clear hK K
    have UW5 := Hid.mk' UW.out.set
    generalize World.setCells _ _ _ _ = W5 at *
    simp only [List.setIfInBounds_toArray, List.set_cons_zero, List.set_cons_succ]
    refine wpAnyH_ready (rs := [3, 4]) (by kernel_rfl) (by simp) ?_
    refine AllReadyH.cons rfl (fun K hK => ?_) ?_
    · go_simp
      refine hK.out _ _ trivial (fun _ => ?_)
      clear hK K
      simp only [List.setIfInBounds_toArray, List.set_cons_zero, List.set_cons_succ]
      have UW53 := Hid.mk' (UW5.out.alloc (.cells (uY.map (Value.int .u8)).toArray 5))
      have YW53 : Hid (Bs (World.alloc W5 (.cells (uY.map (Value.int .u8)).toArray 5)) (some ⟨W5.heap.size, 0, none⟩) uY) := Hid.mk' (bs_new W5 uY 5 uY_bytes (by decide))
      obtain ⟨pW53, HpW53⟩ : ∃ pW53, pW53 = W5.heap.size := ⟨_, rfl⟩
      have GpW53 : Hid (w.heap.size < pW53) := Hid.mk' (by rw [HpW53]; exact (Array.getElem?_eq_some_iff.1 UW5.out.box).1)
      rw [← HpW53] at YW53 ⊢
      obtain ⟨W53, HW53⟩ : ∃ W53, W53 = World.alloc W5 (.cells (uY.map (Value.int .u8)).toArray 5) := ⟨_, rfl⟩
      change wpAnyH _ _ _ _ _ _ _ _ (World.alloc W5 (.cells (uY.map (Value.int .u8)).toArray 5))
      rw [← HW53] at UW53 YW53 ⊢
      clear HW53 HpW53
      refine held_take 6 1 (.slice (some ⟨pW53, 0, none⟩) 3 3) rfl rfl (by kernel_rfl) (by kernel_rfl) (by kernel_rfl) (fun _ _ _ h => h) (Or.inl ⟨by rfl, fun u hu => ?_⟩) trivial ?_
      · go_simp
      simp only [Act.put, List.setIfInBounds_toArray, List.set_cons_zero, List.set_cons_succ]
      refine wpAnyH_ready (rs := [4]) (by kernel_rfl) (by simp) ?_
      refine AllReadyH.cons rfl (fun K hK => ?_) ?_
      · go_simp
        refine hK.out _ _ trivial (fun _ => ?_)
        clear hK K
        simp only [List.setIfInBounds_toArray, List.set_cons_zero, List.set_cons_succ]
        have UW534 := Hid.mk' (UW53.out.alloc (.cells (uB.map (Value.int .u8)).toArray 5))
        have YW534 : Hid (Bs _ _ uY) := Hid.mk' (YW53.out.below ((Below.refl _ _).alloc (Nat.le_refl _) (.cells (uB.map (Value.int .u8)).toArray 5)))
        have BW534 : Hid (Bs (World.alloc W53 (.cells (uB.map (Value.int .u8)).toArray 5)) (some ⟨W53.heap.size, 0, none⟩) uB) := Hid.mk' (bs_new W53 uB 5 uB_by (by decide))
        obtain ⟨pW534, HpW534⟩ : ∃ pW534, pW534 = W53.heap.size := ⟨_, rfl⟩
        have GpW534 : Hid (w.heap.size < pW534) := Hid.mk' (by rw [HpW534]; exact (Array.getElem?_eq_some_iff.1 UW53.out.box).1)
        rw [← HpW534] at BW534 ⊢
        obtain ⟨W534, HW534⟩ : ∃ W534, W534 = World.alloc W53 (.cells (uB.map (Value.int .u8)).toArray 5) := ⟨_, rfl⟩
        change wpAnyH _ _ _ _ _ _ _ _ (World.alloc W53 (.cells (uB.map (Value.int .u8)).toArray 5))
        rw [← HW534] at UW534 YW534 BW534 ⊢
        clear HW534 HpW534
        refine held_take 7 2 (.slice (some ⟨pW534, 0, none⟩) 40 40) rfl rfl (by kernel_rfl) (by kernel_rfl) (by kernel_rfl) (fun _ _ _ h => h) (Or.inl ⟨by rfl, fun u hu => ?_⟩) trivial ?_
        · go_simp
        simp only [Act.put, List.setIfInBounds_toArray, List.set_cons_zero, List.set_cons_succ]
        refine wpAnyH_done (by kernel_rfl) ?_ _
        go_wp2_with fail
        refine ret_cell_tmp2 rfl w.heap.size 25 uL (0, 0) _ rfl UW534.out.box Try.underlying25 rfl info_hd rfl ?_
        exact ⟨_, _, 3, rfl, YW534.out, (fun e => by cases e), Nat.le_refl _, BW534.out, UW534.out.old⟩
      exact AllReadyH.nil
    refine AllReadyH.cons rfl (fun K hK => ?_) ?_
    · go_simp
      refine hK.out _ _ trivial (fun _ => ?_)
      clear hK K
      simp only [List.setIfInBounds_toArray, List.set_cons_zero, List.set_cons_succ]
      have UW54 := Hid.mk' (UW5.out.alloc (.cells (uB.map (Value.int .u8)).toArray 5))
      have BW54 : Hid (Bs (World.alloc W5 (.cells (uB.map (Value.int .u8)).toArray 5)) (some ⟨W5.heap.size, 0, none⟩) uB) := Hid.mk' (bs_new W5 uB 5 uB_by (by decide))
      obtain ⟨pW54, HpW54⟩ : ∃ pW54, pW54 = W5.heap.size := ⟨_, rfl⟩
      have GpW54 : Hid (w.heap.size < pW54) := Hid.mk' (by rw [HpW54]; exact (Array.getElem?_eq_some_iff.1 UW5.out.box).1)
      rw [← HpW54] at BW54 ⊢
      obtain ⟨W54, HW54⟩ : ∃ W54, W54 = World.alloc W5 (.cells (uB.map (Value.int .u8)).toArray 5) := ⟨_, rfl⟩
      change wpAnyH _ _ _ _ _ _ _ _ (World.alloc W5 (.cells (uB.map (Value.int .u8)).toArray 5))
      rw [← HW54] at UW54 BW54 ⊢
      clear HW54 HpW54
      refine wpAnyH_ready (rs := [3]) (by kernel_rfl) (by simp) ?_
      refine AllReadyH.cons rfl (fun K hK => ?_) ?_
      · go_simp
        refine hK.out _ _ trivial (fun _ => ?_)
        clear hK K
        simp only [List.setIfInBounds_toArray, List.set_cons_zero, List.set_cons_succ]
        have UW543 := Hid.mk' (UW54.out.alloc (.cells (uY.map (Value.int .u8)).toArray 5))
        have BW543 : Hid (Bs _ _ uB) := Hid.mk' (BW54.out.below ((Below.refl _ _).alloc (Nat.le_refl _) (.cells (uY.map (Value.int .u8)).toArray 5)))
        have YW543 : Hid (Bs (World.alloc W54 (.cells (uY.map (Value.int .u8)).toArray 5)) (some ⟨W54.heap.size, 0, none⟩) uY) := Hid.mk' (bs_new W54 uY 5 uY_bytes (by decide))
        obtain ⟨pW543, HpW543⟩ : ∃ pW543, pW543 = W54.heap.size := ⟨_, rfl⟩
        have GpW543 : Hid (w.heap.size < pW543) := Hid.mk' (by rw [HpW543]; exact (Array.getElem?_eq_some_iff.1 UW54.out.box).1)
        rw [← HpW543] at YW543 ⊢
        obtain ⟨W543, HW543⟩ : ∃ W543, W543 = World.alloc W54 (.cells (uY.map (Value.int .u8)).toArray 5) := ⟨_, rfl⟩
        change wpAnyH _ _ _ _ _ _ _ _ (World.alloc W54 (.cells (uY.map (Value.int .u8)).toArray 5))
        rw [← HW543] at UW543 YW543 BW543 ⊢
        clear HW543 HpW543
        refine held_take 6 1 (.slice (some ⟨pW543, 0, none⟩) 3 3) rfl rfl (by kernel_rfl) (by kernel_rfl) (by kernel_rfl) (fun _ _ _ h => h) (Or.inl ⟨by rfl, fun u hu => ?_⟩) trivial ?_
        · go_simp
        simp only [Act.put, List.setIfInBounds_toArray, List.set_cons_zero, List.set_cons_succ]
        refine held_take 7 2 (.slice (some ⟨pW54, 0, none⟩) 40 40) rfl rfl (by kernel_rfl) (by kernel_rfl) (by kernel_rfl) (fun _ _ _ h => h) (Or.inl ⟨by rfl, fun u hu => ?_⟩) trivial ?_
        · go_simp
        simp only [Act.put, List.setIfInBounds_toArray, List.set_cons_zero, List.set_cons_succ]
        refine wpAnyH_done (by kernel_rfl) ?_ _
        go_wp2_with fail
        refine ret_cell_tmp2 rfl w.heap.size 25 uL (0, 0) _ rfl UW543.out.box Try.underlying25 rfl info_hd rfl ?_
        exact ⟨_, _, 3, rfl, YW543.out, (fun e => by cases e), Nat.le_refl _, BW543.out, UW543.out.old⟩
      exact AllReadyH.nil
    exact AllReadyH.nil
  exact AllReadyH.nil
end Go.Proofs.Ytidlgbidffldoaa
