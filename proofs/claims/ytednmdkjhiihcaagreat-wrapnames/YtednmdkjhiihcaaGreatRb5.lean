/- Stage 12: the deeds of a kind (seg): its own field, a head of it, and the closures over them. -/
import Derived.Test.YtednmdkjhiihcaaGreatRa
namespace Go.Proofs.YtednmdkjhiihcaaGreat
open Go.ChangeShapes Go.WideShapes Go.ChangeAt Go.RowKit
set_option maxRecDepth 10000

/-- seg: its Check, Bytes, Read, Size, in the form of all kinds. -/
theorem kcheck_5 (L : List Value) (u : World) (h : KHd 5 L) : Calls Tryz.prog 101 #[.agg L.toArray] u fun e w' => e = .returned (.int .i64 (kC 5 L)) ∧ Below u.heap.size u w' := K09.h_check L u (h.2.2.2.2.2.2.1 rfl)
theorem kbytes_5 (L : List Value) (a : Option Addr) (n c : Nat) (ys : List Int) (u : World) (h : KHd 5 L) (hy : ys.length = n) (hB : Bs u a ys) :
    Calls Tryz.prog 102 #[.agg L.toArray, .slice a n c] u fun e w' => ∃ v, e = .returned (.tuple #[v, .int .i64 (bE 5 L ys)]) ∧ w'.ownsRow u.heap.size 5 1 v (bB 5 L ys).length ((bB 5 L ys).map (Value.int .u8)) ∧ Below u.heap.size u w' := by
  rw [show bE 5 L ys = K09.byE L ys from rfl, show bB 5 L ys = K09.byB L ys from rfl]
  exact K09.h_bytes L a n c ys u (h.2.2.2.2.2.2.1 rfl) hy hB
theorem kread_5 (a : Option Addr) (n c : Nat) (zs : List Int) (u : World) (hz' : zs.length = n) (hB : Bs u a zs) (hc : n ≤ c) :
    Calls Tryz.prog 75 #[.slice a n c] u fun e w' => e = .returned (.tuple #[.agg (rL 5 zs).toArray, .int .i64 (rE 5 zs)]) ∧ Below u.heap.size u w' := K09.h_read a n c zs u hz' hB hc
theorem ksize_5 (u : World) : Calls Tryz.prog 76 #[] u fun e w' => e = .returned (.int .i64 (sz 5 : Nat)) ∧ u = w' := K09.lsize_any u

set_option maxHeartbeats 1000000 in
theorem own_5 (H : List Value) (w : World) (h : Hh H) : Calls Tryz.prog 103 #[.agg H.toArray] w fun e w' => e = .returned (.agg (pt 5 H).toArray) ∧ Below w.heap.size w w' := by
  have hk := pt_hd (k := 5) (by omega) (by omega) h
  have hlc : Hid ((pt 5 H).length = 6) := Hid.mk' (K09.hd_len (hk.2.2.2.2.2.2.1 rfl))
  have hone : Hid ((pt 5 H).toArray.all (·.oneCell') = true) := Hid.mk' (K09.hd_one (hk.2.2.2.2.2.2.1 rfl))
  have R1 : Hid (∀ o, ((w.alloc (.cells H.toArray 46)).alloc o).rangeAt w.heap.size 65 (pt 5 H)) := Hid.mk' (fun o => pt_range 5 (heap_alloc2_old w _ _))
  obtain ⟨L, HL⟩ : ∃ L, Hid (pt 5 H = L) := ⟨_, rfl⟩
  rw [HL.out] at hlc hone R1
  rw [HL.out]
  have R2 : Hid (((w.alloc (.cells H.toArray 46)).alloc (.cells L.toArray 42)).heap[w.heap.size + 1]? = some (.cells L.toArray 42 (0, 0))) := Hid.mk' (by
    have := heap_alloc_new (w.alloc (.cells H.toArray 46)) (.cells L.toArray 42)
    rwa [show (w.alloc (.cells H.toArray 46)).heap.size = w.heap.size + 1 by simp] at this)
  have B2 : Hid (Below w.heap.size w ((w.alloc (.cells H.toArray 46)).alloc (.cells L.toArray 42))) := Hid.mk' (((Below.refl _ _).alloc (Nat.le_refl _) _).alloc (by simp) _)
  clear h hk HL
  go_enter Tryz.func103, Tryz.ntmps103
  go_wp2_with (first
    | refine wpList_load_mid rfl 42 _ rfl w.heap.size 65 rfl L _ (R1.out _) Tryz.underlying42 rfl (by rw [hlc.out]; exact K09.info_hd) ?_
    | refine wpList_store_newAt rfl 42 _ _ rfl _ _ L (w.heap.size + 1) (by simp) rfl rfl (by rw [hlc.out]; rfl) (by rw [hlc.out]; exact K09.info_hd) hone.out ?_)
  refine ret_cell rfl (w.heap.size + 1) 42 L (0, 0) _ rfl R2.out Tryz.underlying42 rfl (by rw [hlc.out]; exact K09.info_hd) rfl ?_
  exact ⟨rfl, B2.out⟩

set_option maxHeartbeats 1000000 in
theorem hof_5 (L : List Value) (w : World) (h : KHd 5 L) : Calls Tryz.prog 104 #[.agg L.toArray] w fun e w' => e = .returned (.agg (hk 5 L).toArray) ∧ Below w.heap.size w w' := by
  have hlc : Hid (L.length = 6) := Hid.mk' (K09.hd_len (h.2.2.2.2.2.2.1 rfl))
  have HH := Hid.mk' (hk_hh h)
  have R1 : Hid (∀ o, ((w.alloc (.cells L.toArray 42)).alloc o).heap[w.heap.size]? = some (.cells L.toArray 42 (0, 0))) := Hid.mk' (fun o => heap_alloc2_old w _ _)
  obtain ⟨H, HHk⟩ : ∃ H, Hid (hk 5 L = H) := ⟨_, rfl⟩
  have hbl : Hid (Tryz.prog.built 46 [(0, .int .u8 5), (5, .agg L.toArray)] = some H.toArray) := by rw [← HHk.out]; exact built_5 L hlc.out
  rw [HHk.out] at HH
  rw [HHk.out]
  have hh73 := Hid.mk' (hh_len HH.out)
  have hh1 := Hid.mk' (hh_one HH.out)
  have R2 : Hid (((w.alloc (.cells L.toArray 42)).alloc (.cells H.toArray 46)).heap[w.heap.size + 1]? = some (.cells H.toArray 46 (0, 0))) := Hid.mk' (by
    have := heap_alloc_new (w.alloc (.cells L.toArray 42)) (.cells H.toArray 46)
    rwa [show (w.alloc (.cells L.toArray 42)).heap.size = w.heap.size + 1 by simp] at this)
  have B2 : Hid (Below w.heap.size w ((w.alloc (.cells L.toArray 42)).alloc (.cells H.toArray 46))) := Hid.mk' (((Below.refl _ _).alloc (Nat.le_refl _) _).alloc (by simp) _)
  clear h HHk
  go_enter Tryz.func104, Tryz.ntmps104
  go_wp2_with (first
    | refine wpList_load_mid rfl 42 _ rfl w.heap.size 0 rfl L _ (range_block (R1.out _)) Tryz.underlying42 rfl (by rw [hlc.out]; exact K09.info_hd) ?_
    | refine wpList_buildTo rfl 46 #[(0, .const (.int .u8 5)), (5, .tmp 3)] rfl (some 4) rfl H.toArray (by simpa [Act.eval, Act.put] using hbl.out) ?_
    | refine wpList_store_newAt rfl 46 _ _ rfl _ _ H (w.heap.size + 1) (by simp) rfl rfl (by rw [hh73.out]; rfl) (by rw [hh73.out]; exact info_hh) hh1.out ?_)
  refine ret_cell rfl (w.heap.size + 1) 46 H (0, 0) _ rfl R2.out Tryz.underlying46 rfl (by rw [hh73.out]; exact info_hh) rfl ?_
  exact ⟨rfl, B2.out⟩


set_option maxHeartbeats 1000000 in
theorem only_5 (H : List Value) (p q : Nat) (w : World) (h : Hh H) (hp : w.cell? ⟨p, 0, none⟩ = some (fv 104)) (hq : w.cell? ⟨q, 0, none⟩ = some (fv 103)) (lp : p < w.heap.size) (lq : q < w.heap.size) :
    Calls Tryz.prog 155 #[.agg H.toArray, pp p, pp q] w fun e w' => e = .returned (.agg (hk 5 (pt 5 H)).toArray) ∧ Below w.heap.size w w' := by
  have KH := Hid.mk' (pt_hd (k := 5) (by omega) (by omega) h)
  have HO : Hid (∀ u, Calls Tryz.prog 103 #[.agg H.toArray] u fun e w' => e = .returned (.agg (pt 5 H).toArray) ∧ Below u.heap.size u w') := Hid.mk' (fun u => own_5 H u h)
  have HF : Hid (∀ u, Calls Tryz.prog 104 #[.agg (pt 5 H).toArray] u fun e w' => e = .returned (.agg (hk 5 (pt 5 H)).toArray) ∧ Below u.heap.size u w') := Hid.mk' (fun u => hof_5 _ u KH.out)
  have hh73 := Hid.mk' (hh_len h)
  have hm73 := Hid.mk' (hh_len (hk_hh KH.out))
  have hm1 := Hid.mk' (hh_one (hk_hh KH.out))
  obtain ⟨L, HL⟩ : ∃ L, Hid (pt 5 H = L) := ⟨_, rfl⟩
  rw [HL.out] at HO HF hm73 hm1
  rw [HL.out]
  obtain ⟨M, HM⟩ : ∃ M, Hid (hk 5 L = M) := ⟨_, rfl⟩
  rw [HM.out] at HF hm73 hm1
  rw [HM.out]
  have hms : Hid (M.toArray.size = 73) := Hid.mk' (by rw [List.size_toArray]; exact hm73.out)
  have J1 : Hid (HJ (w.alloc (.cells H.toArray 46)) ((w.alloc (.cells H.toArray 46)).alloc (.cells hz.toArray 46))) := HJ.first _
  have hsz : (w.alloc (.cells H.toArray 46)).heap.size = w.heap.size + 1 := by simp
  have RH : Hid (∀ u, HJ (w.alloc (.cells H.toArray 46)) u → u.heap[w.heap.size]? = some (.cells H.toArray 46 (0, 0))) := Hid.mk' (fun u hu => (hu.old.block _ (by omega)).trans (heap_alloc_new w _))
  have RP : Hid (∀ u, HJ (w.alloc (.cells H.toArray 46)) u → u.cell? ⟨p, 0, none⟩ = some (fv 104)) := Hid.mk' (fun u hu => (hu.old.cell (p := ⟨p, 0, none⟩) (by show p < _; omega)).trans (((Below.refl w.heap.size w).alloc (Nat.le_refl _) _).cell (p := ⟨p, 0, none⟩) lp |>.trans hp))
  have RQ : Hid (∀ u, HJ (w.alloc (.cells H.toArray 46)) u → u.cell? ⟨q, 0, none⟩ = some (fv 103)) := Hid.mk' (fun u hu => (hu.old.cell (p := ⟨q, 0, none⟩) (by show q < _; omega)).trans (((Below.refl w.heap.size w).alloc (Nat.le_refl _) _).cell (p := ⟨q, 0, none⟩) lq |>.trans hq))
  have FIN : Hid (∀ u, HJ (w.alloc (.cells H.toArray 46)) u → (u.setCells (w.heap.size + 1) 0 M).heap[w.heap.size + 1]? = some (.cells M.toArray 46 (0, 0)) ∧ Below w.heap.size w (u.setCells (w.heap.size + 1) 0 M) ∧ HJ (w.alloc (.cells H.toArray 46)) (u.setCells (w.heap.size + 1) 0 M)) := Hid.mk' (fun u hu => by
    obtain ⟨D1, D2, D3⟩ := hu.done M hm73.out
    rw [hsz] at D1 D2 D3
    exact ⟨D1, ((Below.refl w.heap.size w).alloc (Nat.le_refl _) _).trans (D2.mono (by omega)), ⟨⟨M, hm73.out, by rw [hsz]; exact D1⟩, by rw [hsz]; exact D2⟩⟩)
  have TH : Hid (∀ u, HJ (w.alloc (.cells H.toArray 46)) u → u.there (w.heap.size + 1) 0 73) := Hid.mk' (fun u hu => by have := hu.there; rwa [hsz] at this)
  clear h hp hq lp lq HL HM KH hsz
  go_enter Tryz.func155, Tryz.ntmps155
  go_upto_region 1 with fail
  refine wp_region_held_drew (S := HJ (w.alloc (.cells H.toArray 46))) (by kernel_rfl) (J1.out.below (Below.refl _ _).drew) (fun hHeld => ?_)
  change wpAnyH _ _ _ _ _ 6 #[false, false, false, false, false, false] _ _
  refine held_take 0 5 (fv 104) rfl rfl (by kernel_rfl) (by kernel_rfl) (by kernel_rfl) (fun _ _ _ h => h) (Or.inl ⟨by rfl, fun u hu => ?_⟩) hHeld ?_
  · have hc := RP.out u hu; go_simp
  simp only [Act.put, List.setIfInBounds_toArray, List.set_cons_zero, List.set_cons_succ]
  refine held_take 1 6 (fv 103) rfl rfl (by kernel_rfl) (by kernel_rfl) (by kernel_rfl) (fun _ _ _ h => h) (Or.inl ⟨by rfl, fun u hu => ?_⟩) hHeld ?_
  · have hc := RQ.out u hu; go_simp
  simp only [Act.put, List.setIfInBounds_toArray, List.set_cons_zero, List.set_cons_succ]
  refine held_take 2 7 (.agg H.toArray) rfl rfl (by kernel_rfl) (by kernel_rfl) (by kernel_rfl) (fun _ _ _ h => h) (yieldsIf_load_mid (by rfl) 46 _ rfl w.heap.size 0 rfl H _ (fun u hu => range_block (RH.out u hu)) Tryz.underlying46 rfl (by rw [hh73.out]; exact info_hh)) hHeld ?_
  simp only [Act.put, List.setIfInBounds_toArray, List.set_cons_zero, List.set_cons_succ]
  refine held_one 3 (by kernel_rfl) rfl (fun K hK => ?_)
  go_simp
  go_wp2_with (refine (HO.out _).mono ?_; rintro e w4 ⟨rfl, b4⟩)
  have h4 := HJ.below hHeld b4
  refine hK.out _ _ h4 (fun hHeld => ?_)
  clear hK K
  try simp only [List.setIfInBounds_toArray, List.set_cons_zero, List.set_cons_succ]
  refine held_one 4 (by kernel_rfl) rfl (fun K hK => ?_)
  go_simp
  go_wp2_with (refine (HF.out _).mono ?_; rintro e w5 ⟨rfl, b5⟩)
  have h5 := HJ.below hHeld b5
  refine hK.out _ _ h5 (fun hHeld => ?_)
  clear hK K
  try simp only [List.setIfInBounds_toArray, List.set_cons_zero, List.set_cons_succ]
  refine held_one 5 (by kernel_rfl) rfl (fun K hK => ?_)
  refine step_store_box rfl rfl 46 _ _ rfl (w.heap.size + 1) M rfl rfl (by rw [hms.out]; exact TH.out _ hHeld) (by rw [hm73.out]; exact info_hh) hm1.out ?_
  refine hK.out _ _ (FIN.out _ hHeld).2.2 (fun _ => ?_)
  clear hK K
  try simp only [List.setIfInBounds_toArray, List.set_cons_zero, List.set_cons_succ]
  refine wpAnyH_done (by kernel_rfl) ?_ _
  go_wp2_with fail
  refine ret_cell rfl (w.heap.size + 1) 46 M (0, 0) _ rfl (FIN.out _ hHeld).1 Tryz.underlying46 rfl (by rw [hm73.out]; exact info_hh) rfl ?_
  exact ⟨rfl, (FIN.out _ hHeld).2.1⟩

set_option maxHeartbeats 1000000 in
theorem dcheck_5 (H : List Value) (p q : Nat) (w : World) (h : Hh H) (hp : w.cell? ⟨p, 0, none⟩ = some (fv 101)) (hq : w.cell? ⟨q, 0, none⟩ = some (fv 103)) (lp : p < w.heap.size) (lq : q < w.heap.size) :
    Calls Tryz.prog 156 #[.agg H.toArray, pp p, pp q] w fun e w' => e = .returned (.int .i64 (kC 5 (pt 5 H))) ∧ Below w.heap.size w w' := by
  have KH := Hid.mk' (pt_hd (k := 5) (by omega) (by omega) h)
  have HO : Hid (∀ u, Calls Tryz.prog 103 #[.agg H.toArray] u fun e w' => e = .returned (.agg (pt 5 H).toArray) ∧ Below u.heap.size u w') := Hid.mk' (fun u => own_5 H u h)
  have HF : Hid (∀ u, Calls Tryz.prog 101 #[.agg (pt 5 H).toArray] u fun e w' => e = .returned (.int .i64 (kC 5 (pt 5 H))) ∧ Below u.heap.size u w') := Hid.mk' (fun u => kcheck_5 _ u KH.out)
  obtain ⟨E, HE⟩ : ∃ E, Hid (kC 5 (pt 5 H) = E) := ⟨_, rfl⟩
  obtain ⟨L, HL⟩ : ∃ L, Hid (pt 5 H = L) := ⟨_, rfl⟩
  rw [HE.out] at HF
  rw [HE.out]
  rw [HL.out] at HO HF
  have hh73 := Hid.mk' (hh_len h)
  have hsz : (w.alloc (.cells H.toArray 46)).heap.size = w.heap.size + 1 := by simp
  have RH : Hid (∀ u, Below (w.alloc (.cells H.toArray 46)).heap.size (w.alloc (.cells H.toArray 46)) u → u.heap[w.heap.size]? = some (.cells H.toArray 46 (0, 0))) := Hid.mk' (fun u hu => (hu.block _ (by omega)).trans (heap_alloc_new w _))
  have RQ : Hid (∀ u, Below (w.alloc (.cells H.toArray 46)).heap.size (w.alloc (.cells H.toArray 46)) u → u.cell? ⟨q, 0, none⟩ = some (fv 103)) := Hid.mk' (fun u hu => (hu.cell (p := ⟨q, 0, none⟩) (by show q < _; omega)).trans (((Below.refl w.heap.size w).alloc (Nat.le_refl _) _).cell (p := ⟨q, 0, none⟩) lq |>.trans hq))
  have FIN : Hid (∀ u, Below (w.alloc (.cells H.toArray 46)).heap.size (w.alloc (.cells H.toArray 46)) u → Below w.heap.size w u) := Hid.mk' (fun u hu => ((Below.refl w.heap.size w).alloc (Nat.le_refl _) _).trans (hu.mono (by omega)))
  have RP : Hid (∀ u, Below (w.alloc (.cells H.toArray 46)).heap.size (w.alloc (.cells H.toArray 46)) u → u.cell? ⟨p, 0, none⟩ = some (fv 101)) := Hid.mk' (fun u hu => (hu.cell (p := ⟨p, 0, none⟩) (by show p < _; omega)).trans (((Below.refl w.heap.size w).alloc (Nat.le_refl _) _).cell (p := ⟨p, 0, none⟩) lp |>.trans hp))
  clear h hp hq lp lq HL HE KH hsz
  go_enter Tryz.func156, Tryz.ntmps156
  go_upto_region 1 with fail
  refine wp_region_held_drew (S := fun u => Below (w.alloc (.cells H.toArray 46)).heap.size (w.alloc (.cells H.toArray 46)) u) (by kernel_rfl) ((Below.refl _ _).drew) (fun hHeld => ?_)
  change wpAnyH _ _ _ _ _ 6 #[false, false, false, false, false, false] _ _
  refine held_take 0 5 (fv 101) rfl rfl (by kernel_rfl) (by kernel_rfl) (by kernel_rfl) (fun _ _ _ h => h) (Or.inl ⟨by rfl, fun u hu => ?_⟩) hHeld ?_
  · have hc := RP.out u hu; go_simp
  simp only [Act.put, List.setIfInBounds_toArray, List.set_cons_zero, List.set_cons_succ]
  refine held_take 1 6 (fv 103) rfl rfl (by kernel_rfl) (by kernel_rfl) (by kernel_rfl) (fun _ _ _ h => h) (Or.inl ⟨by rfl, fun u hu => ?_⟩) hHeld ?_
  · have hc := RQ.out u hu; go_simp
  simp only [Act.put, List.setIfInBounds_toArray, List.set_cons_zero, List.set_cons_succ]
  refine held_take 2 7 (.agg H.toArray) rfl rfl (by kernel_rfl) (by kernel_rfl) (by kernel_rfl) (fun _ _ _ h => h) (yieldsIf_load_mid (by rfl) 46 _ rfl w.heap.size 0 rfl H _ (fun u hu => range_block (RH.out u hu)) Tryz.underlying46 rfl (by rw [hh73.out]; exact info_hh)) hHeld ?_
  simp only [Act.put, List.setIfInBounds_toArray, List.set_cons_zero, List.set_cons_succ]
  refine held_one 3 (by kernel_rfl) rfl (fun K hK => ?_)
  go_simp
  go_wp2_with (refine (HO.out _).mono ?_; rintro e w4 ⟨rfl, b4⟩)
  have h4 := Below.trans hHeld (b4.mono hHeld.size)
  refine hK.out _ _ h4 (fun hHeld => ?_)
  clear hK K
  try simp only [List.setIfInBounds_toArray, List.set_cons_zero, List.set_cons_succ]
  refine held_one 4 (by kernel_rfl) rfl (fun K hK => ?_)
  go_simp
  go_wp2_with (refine (HF.out _).mono ?_; rintro e w5 ⟨rfl, b5⟩)
  have h5 := Below.trans hHeld (b5.mono hHeld.size)
  refine hK.out _ _ h5 (fun hHeld => ?_)
  clear hK K
  try simp only [List.setIfInBounds_toArray, List.set_cons_zero, List.set_cons_succ]
  refine held_take 5 4 (.int .i64 E) rfl rfl (by kernel_rfl) (by kernel_rfl) (by kernel_rfl) (fun _ _ _ h => h) (Or.inl ⟨by rfl, fun u hu => ?_⟩) hHeld ?_
  · go_simp
  simp only [Act.put, List.setIfInBounds_toArray, List.set_cons_zero, List.set_cons_succ]
  refine wpAnyH_done (by kernel_rfl) ?_ _
  go_wp2_with fail
  go_ret
  exact ⟨rfl, FIN.out _ hHeld⟩


set_option maxHeartbeats 1000000 in
theorem dbytes_5 (H : List Value) (a : Option Addr) (n c : Nat) (ys : List Int) (p q : Nat) (w : World) (h : Hh H) (hy : ys.length = n) (hB : Bs w a ys) (hp : w.cell? ⟨p, 0, none⟩ = some (fv 102)) (hq : w.cell? ⟨q, 0, none⟩ = some (fv 103)) (lp : p < w.heap.size) (lq : q < w.heap.size) :
    Calls Tryz.prog 157 #[.agg H.toArray, .slice a n c, pp p, pp q] w fun e w' => ∃ v, e = .returned (.tuple #[v, .int .i64 (bE 5 (pt 5 H) ys)]) ∧ w'.ownsRow w.heap.size 5 1 v (bB 5 (pt 5 H) ys).length ((bB 5 (pt 5 H) ys).map (Value.int .u8)) ∧ Below w.heap.size w w' := by
  have KH := Hid.mk' (pt_hd (k := 5) (by omega) (by omega) h)
  have HO : Hid (∀ u, Calls Tryz.prog 103 #[.agg H.toArray] u fun e w' => e = .returned (.agg (pt 5 H).toArray) ∧ Below u.heap.size u w') := Hid.mk' (fun u => own_5 H u h)
  have HF : Hid (∀ u, Below w.heap.size w u → Calls Tryz.prog 102 #[.agg (pt 5 H).toArray, .slice a n c] u fun e w' => ∃ v, e = .returned (.tuple #[v, .int .i64 (bE 5 (pt 5 H) ys)]) ∧ w'.ownsRow u.heap.size 5 1 v (bB 5 (pt 5 H) ys).length ((bB 5 (pt 5 H) ys).map (Value.int .u8)) ∧ Below u.heap.size u w') := Hid.mk' (fun u hu => kbytes_5 _ a n c ys u KH.out hy (hB.below hu))
  obtain ⟨E, HE⟩ : ∃ E, Hid (bE 5 (pt 5 H) ys = E) := ⟨_, rfl⟩
  obtain ⟨BB, HBB⟩ : ∃ BB, Hid (bB 5 (pt 5 H) ys = BB) := ⟨_, rfl⟩
  obtain ⟨L, HL⟩ : ∃ L, Hid (pt 5 H = L) := ⟨_, rfl⟩
  rw [HE.out, HBB.out] at HF
  rw [HE.out, HBB.out]
  rw [HL.out] at HO HF
  have hh73 := Hid.mk' (hh_len h)
  have hsz : (w.alloc (.cells H.toArray 46)).heap.size = w.heap.size + 1 := by simp
  have RH : Hid (∀ u, Below (w.alloc (.cells H.toArray 46)).heap.size (w.alloc (.cells H.toArray 46)) u → u.heap[w.heap.size]? = some (.cells H.toArray 46 (0, 0))) := Hid.mk' (fun u hu => (hu.block _ (by omega)).trans (heap_alloc_new w _))
  have RQ : Hid (∀ u, Below (w.alloc (.cells H.toArray 46)).heap.size (w.alloc (.cells H.toArray 46)) u → u.cell? ⟨q, 0, none⟩ = some (fv 103)) := Hid.mk' (fun u hu => (hu.cell (p := ⟨q, 0, none⟩) (by show q < _; omega)).trans (((Below.refl w.heap.size w).alloc (Nat.le_refl _) _).cell (p := ⟨q, 0, none⟩) lq |>.trans hq))
  have FIN : Hid (∀ u, Below (w.alloc (.cells H.toArray 46)).heap.size (w.alloc (.cells H.toArray 46)) u → Below w.heap.size w u) := Hid.mk' (fun u hu => ((Below.refl w.heap.size w).alloc (Nat.le_refl _) _).trans (hu.mono (by omega)))
  have RP : Hid (∀ u, Below (w.alloc (.cells H.toArray 46)).heap.size (w.alloc (.cells H.toArray 46)) u → u.cell? ⟨p, 0, none⟩ = some (fv 102)) := Hid.mk' (fun u hu => (hu.cell (p := ⟨p, 0, none⟩) (by show p < _; omega)).trans (((Below.refl w.heap.size w).alloc (Nat.le_refl _) _).cell (p := ⟨p, 0, none⟩) lp |>.trans hp))
  clear h hp hq lp lq HL HE HBB KH hsz hy hB
  go_enter Tryz.func157, Tryz.ntmps157
  go_upto_region 1 with fail
  refine wp_region_held_drew (S := fun u => Below (w.alloc (.cells H.toArray 46)).heap.size (w.alloc (.cells H.toArray 46)) u) (by kernel_rfl) ((Below.refl _ _).drew) (fun hHeld => ?_)
  change wpAnyH _ _ _ _ _ 10 #[false, false, false, false, false, false, false, false, false, false] _ _
  refine held_take 0 8 (fv 102) rfl rfl (by kernel_rfl) (by kernel_rfl) (by kernel_rfl) (fun _ _ _ h => h) (Or.inl ⟨by rfl, fun u hu => ?_⟩) hHeld ?_
  · have hc := RP.out u hu; go_simp
  simp only [Act.put, List.setIfInBounds_toArray, List.set_cons_zero, List.set_cons_succ]
  refine held_take 1 9 (fv 103) rfl rfl (by kernel_rfl) (by kernel_rfl) (by kernel_rfl) (fun _ _ _ h => h) (Or.inl ⟨by rfl, fun u hu => ?_⟩) hHeld ?_
  · have hc := RQ.out u hu; go_simp
  simp only [Act.put, List.setIfInBounds_toArray, List.set_cons_zero, List.set_cons_succ]
  refine held_take 2 10 (.agg H.toArray) rfl rfl (by kernel_rfl) (by kernel_rfl) (by kernel_rfl) (fun _ _ _ h => h) (yieldsIf_load_mid (by rfl) 46 _ rfl w.heap.size 0 rfl H _ (fun u hu => range_block (RH.out u hu)) Tryz.underlying46 rfl (by rw [hh73.out]; exact info_hh)) hHeld ?_
  simp only [Act.put, List.setIfInBounds_toArray, List.set_cons_zero, List.set_cons_succ]
  refine held_take 4 12 (.slice a n c) rfl rfl (by kernel_rfl) (by kernel_rfl) (by kernel_rfl) (fun _ _ _ h => h) (Or.inl ⟨by rfl, fun u hu => ?_⟩) hHeld ?_
  · go_simp
  simp only [Act.put, List.setIfInBounds_toArray, List.set_cons_zero, List.set_cons_succ]
  refine held_one 3 (by kernel_rfl) rfl (fun K hK => ?_)
  go_simp
  go_wp2_with (refine (HO.out _).mono ?_; rintro e w4 ⟨rfl, b4⟩)
  have h4 := Below.trans hHeld (b4.mono hHeld.size)
  refine hK.out _ _ h4 (fun hHeld => ?_)
  clear hK K
  try simp only [List.setIfInBounds_toArray, List.set_cons_zero, List.set_cons_succ]
  refine held_one 5 (by kernel_rfl) rfl (fun K hK => ?_)
  go_simp
  go_wp2_with (refine (HF.out _ (FIN.out _ hHeld)).mono ?_; rintro e w5 ⟨v, rfl, own5, b5⟩)
  have O5 := Hid.mk' (ownsRow_base own5 (FIN.out _ hHeld).size)
  clear own5
  have h5 := Below.trans hHeld (b5.mono hHeld.size)
  refine hK.out _ _ h5 (fun hHeld => ?_)
  clear hK K
  try simp only [List.setIfInBounds_toArray, List.set_cons_zero, List.set_cons_succ]
  refine held_take 6 14 (v) rfl rfl (by kernel_rfl) (by kernel_rfl) (by kernel_rfl) (fun _ _ _ h => h) (Or.inl ⟨by rfl, fun u hu => ?_⟩) hHeld ?_
  · go_simp
  simp only [Act.put, List.setIfInBounds_toArray, List.set_cons_zero, List.set_cons_succ]
  refine held_take 7 15 (.int .i64 E) rfl rfl (by kernel_rfl) (by kernel_rfl) (by kernel_rfl) (fun _ _ _ h => h) (Or.inl ⟨by rfl, fun u hu => ?_⟩) hHeld ?_
  · go_simp
  simp only [Act.put, List.setIfInBounds_toArray, List.set_cons_zero, List.set_cons_succ]
  refine held_take 8 6 (v) rfl rfl (by kernel_rfl) (by kernel_rfl) (by kernel_rfl) (fun _ _ _ h => h) (Or.inl ⟨by rfl, fun u hu => ?_⟩) hHeld ?_
  · go_simp
  simp only [Act.put, List.setIfInBounds_toArray, List.set_cons_zero, List.set_cons_succ]
  refine held_take 9 7 (.int .i64 E) rfl rfl (by kernel_rfl) (by kernel_rfl) (by kernel_rfl) (fun _ _ _ h => h) (Or.inl ⟨by rfl, fun u hu => ?_⟩) hHeld ?_
  · go_simp
  simp only [Act.put, List.setIfInBounds_toArray, List.set_cons_zero, List.set_cons_succ]
  refine wpAnyH_done (by kernel_rfl) ?_ _
  go_wp2_with fail
  go_ret2
  exact ⟨v, rfl, O5.out, FIN.out _ hHeld⟩


set_option maxHeartbeats 1000000 in
theorem dread_5 (a : Option Addr) (n c : Nat) (zs : List Int) (p q : Nat) (w : World) (hz' : zs.length = n) (hB : Bs w a zs) (hc : n ≤ c) (hp : w.cell? ⟨p, 0, none⟩ = some (fv 75)) (hq : w.cell? ⟨q, 0, none⟩ = some (fv 104)) (lp : p < w.heap.size) (lq : q < w.heap.size) :
    Calls Tryz.prog 158 #[.slice a n c, pp p, pp q] w fun e w' => e = .returned (.tuple #[.agg (hk 5 (rL 5 zs)).toArray, .int .i64 (rE 5 zs)]) ∧ Below w.heap.size w w' := by
  have KH := Hid.mk' (rL_hd (k := 5) (by omega) (by omega) hB.bytes)
  have J1 := Hid.mk' (HJ.first w)
  have HR : Hid (∀ u, HJ w u → Calls Tryz.prog 75 #[.slice a n c] u fun e w' => e = .returned (.tuple #[.agg (rL 5 zs).toArray, .int .i64 (rE 5 zs)]) ∧ Below u.heap.size u w') := Hid.mk' (fun u h => kread_5 a n c zs u hz' (hB.below h.old) hc)
  have RP : Hid (∀ u, HJ w u → u.cell? ⟨p, 0, none⟩ = some (fv 75)) := Hid.mk' (fun u hu => (hu.old.cell (p := ⟨p, 0, none⟩) lp).trans hp)
  have RQ : Hid (∀ u, HJ w u → u.cell? ⟨q, 0, none⟩ = some (fv 104)) := Hid.mk' (fun u hu => (hu.old.cell (p := ⟨q, 0, none⟩) lq).trans hq)
  have HF : Hid (∀ u, Calls Tryz.prog 104 #[.agg (rL 5 zs).toArray] u fun e w' => e = .returned (.agg (hk 5 (rL 5 zs)).toArray) ∧ Below u.heap.size u w') := Hid.mk' (fun u => hof_5 _ u KH.out)
  obtain ⟨L, HL⟩ : ∃ L, Hid (rL 5 zs = L) := ⟨_, rfl⟩
  obtain ⟨E, HE⟩ : ∃ E, Hid (rE 5 zs = E) := ⟨_, rfl⟩
  rw [HL.out, HE.out]
  rw [HL.out, HE.out] at HR
  rw [HL.out] at KH HF
  have hlc : Hid (L.length = 6) := Hid.mk' (K09.hd_len (KH.out.2.2.2.2.2.2.1 rfl))
  have hone : Hid (L.toArray.all (·.oneCell') = true) := Hid.mk' (K09.hd_one (KH.out.2.2.2.2.2.2.1 rfl))
  have HH := Hid.mk' (hk_hh KH.out)
  obtain ⟨M, HM⟩ : ∃ M, Hid (hk 5 L = M) := ⟨_, rfl⟩
  rw [HM.out] at HF HH
  rw [HM.out]
  have hm73 := Hid.mk' (hh_len HH.out)
  have hm1 := Hid.mk' (hh_one HH.out)
  have hms : Hid (M.toArray.size = 73) := Hid.mk' (by rw [List.size_toArray]; exact hm73.out)
  clear hz' hB hc HL HE KH HM hp hq lp lq
  have cp : (w.alloc (.cells Tryz.zeroCells46 46)).cell? ⟨p, 0, none⟩ = some (fv 75) := RP.out _ J1.out
  go_enter Tryz.func158, Tryz.ntmps158
  go_wp2_with fail
  refine (HR.out _ J1.out).mono ?_
  rintro e w2 ⟨rfl, b2⟩
  have J2 := Hid.mk' (J1.out.below b2)
  have R3 : Hid ((w2.alloc (.cells L.toArray 42)).heap[w2.heap.size]? = some (.cells L.toArray 42 (0, 0))) := Hid.mk' (heap_alloc_new w2 _)
  have J3 : Hid (HJ w (w2.alloc (.cells L.toArray 42))) := Hid.mk' (J2.out.below ((Below.refl _ _).alloc (Nat.le_refl _) _))
  have cq := RQ.out _ J3.out
  clear b2 J1 HR J2 cp
  go_wp2_with (first
    | refine wpList_store_new rfl 42 _ _ rfl _ _ L rfl rfl (by rw [hlc.out]; rfl) (by rw [hlc.out]; exact K09.info_hd) hone.out ?_
    | refine wpList_load_mid rfl 42 _ rfl w2.heap.size 0 rfl L _ (range_block R3.out) Tryz.underlying42 rfl (by rw [hlc.out]; exact K09.info_hd) ?_
    | (go_at_call 104; refine (HF.out _).mono ?_; rintro e w4 ⟨rfl, b4⟩; have J4 := Hid.mk' (J3.out.below b4); have T4 : Hid (w4.there w.heap.size 0 M.toArray.size) := Hid.mk' (by rw [hms.out]; exact J4.out.there); clear b4)
    | refine wpList_store_mid rfl 46 _ _ rfl w.heap.size 0 M.toArray rfl rfl T4.out (by rw [hms.out]; exact info_hh) hm1.out ?_)
  obtain ⟨D1, D2, -⟩ := J4.out.done M hm73.out
  refine ret_cell_tmp rfl w.heap.size 46 M (0, 0) _ rfl D1 Tryz.underlying46 rfl (by rw [hm73.out]; exact info_hh) rfl ?_
  exact ⟨rfl, D2⟩

set_option maxHeartbeats 1000000 in
theorem deeds_5 (w : World) : Calls Tryz.prog 100 #[fv 76, fv 101, fv 102, fv 75, fv 103, fv 104] w fun e w' => ∃ g, e = .returned (.agg (dl 76 155 156 157 158 g).toArray) ∧ Bxs w' g 101 102 75 103 104 ∧ w.heap.size ≤ g ∧ Below w.heap.size w w' := by
  go_enter Tryz.func100, Tryz.ntmps100
  go_wp2_with (first
    | refine wpList_store_newAt rfl 96 _ _ rfl _ _ (dl 76 155 156 157 158 w.heap.size) (w.heap.size + 5) (by simp) rfl rfl rfl (by kernel_rfl) (by kernel_rfl) ?_)
  refine ret_cell rfl (w.heap.size + 5) 96 (dl 76 155 156 157 158 w.heap.size) (0, 0) _ rfl (by apply newAt; simp) Tryz.underlying96 rfl (by kernel_rfl) rfl ?_
  obtain ⟨⟨c0, c1, c2, c3, c4, hl⟩, hb⟩ := boxes5 w _ _ _ _ _ _ _ _ _ _ _ _ rfl
  exact ⟨w.heap.size, rfl, ⟨c0, c1, c2, c3, c4, hl⟩, Nat.le_refl _, hb⟩
end Go.Proofs.YtednmdkjhiihcaaGreat
