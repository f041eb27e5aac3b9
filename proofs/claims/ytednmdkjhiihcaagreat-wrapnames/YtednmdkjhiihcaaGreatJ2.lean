/- Several texts in one (Je Jf Jh). -/
import Derived.Test.YtednmdkjhiihcaaGreatJ1
import Derived.Great.Walk
namespace Go.Proofs.YtednmdkjhiihcaaGreat
open Go.ChangeShapes Go.WideShapes Go.ChangeAt Go.RowKit

set_option maxRecDepth 10000

/-- The result's box, and what was there before. -/
structure HJ (w u : World) : Prop where
  box : ∃ M : List Value, M.length = 73 ∧ u.heap[w.heap.size]? = some (.cells M.toArray 46 (0, 0))
  old : Below w.heap.size w u

theorem HJ.first (w : World) : HJ w (w.alloc (.cells hz.toArray 46)) := ⟨⟨hz, hz_len, heap_alloc_new w _⟩, (Below.refl _ _).alloc (Nat.le_refl _) _⟩

theorem HJ.below {w u v : World} (h : HJ w u) (b : Below u.heap.size u v) : HJ w v := by
  obtain ⟨⟨M, hl, hb⟩, ho⟩ := h
  exact ⟨⟨M, hl, (b.block _ (Array.getElem?_eq_some_iff.1 hb).1).trans hb⟩, ho.trans (b.mono ho.size)⟩

theorem HJ.lt {w u : World} (h : HJ w u) : w.heap.size < u.heap.size := by
  obtain ⟨⟨M, hl, hb⟩, ho⟩ := h
  exact (Array.getElem?_eq_some_iff.1 hb).1

theorem HJ.dr {w u v : World} (h : HJ w u) (d : Dr u v) : HJ w v := h.below (d.below _)

theorem HJ.there {w u : World} (h : HJ w u) : u.there w.heap.size 0 73 := by
  obtain ⟨⟨M, hl, hb⟩, ho⟩ := h
  have := there_block hb
  rw [hl] at this; exact this

theorem HJ.done {w u : World} (h : HJ w u) (M : List Value) (hl : M.length = 73) : (u.setCells w.heap.size 0 M).heap[w.heap.size]? = some (.cells M.toArray 46 (0, 0)) ∧ Below w.heap.size w (u.setCells w.heap.size 0 M) ∧ Kept (fun k => k = w.heap.size) u (u.setCells w.heap.size 0 M) := by
  obtain ⟨⟨N, hn, hb⟩, ho⟩ := h
  have hk := (Kept.refl (fun k => k = w.heap.size) u).setCells w.heap.size 0 M (fun _ => rfl)
  exact ⟨heap_whole (L := N) hb (by rw [hl]; exact hn), ho.trans (hk.below ho.size (fun k hk => by omega)), hk⟩

theorem yieldsIf_build {ops : Array Oper} {S : World → Prop} {op : Oper} {a : Act} (hw : Region.wanted op (yielded ops a.tmps) = true) (t : TypeId) (parts : Array (Nat × Operand)) (ho : op.op = .build t parts) (cells : Array Value)
    (hf : Tryz.prog.built t (parts.map fun (i, x) => (i, a.eval x)).toList = some cells) : YieldsIf Tryz.prog ops S op (.agg cells) a :=
  .inl ⟨hw, fun w _ => by
    unfold execOp
    simp only [ho, Sem.run_bind, run_build w t _ cells hf, Result.andThen_ok]
    rfl⟩

set_option maxHeartbeats 1000000 in
theorem reader_1 (a : Option Addr) (n c : Nat) (zs : List Int) (w : World) (hz' : zs.length = n) (hB : Bs w a zs) (hc : n ≤ c) :
    Calls Tryz.prog 62 #[.slice a n c] w fun e w' => e = .returned (.tuple #[.agg (hk 1 (rL 1 zs)).toArray, .int .i64 (sz 1 : Nat), .int .i64 (rE 1 zs)]) ∧ Below w.heap.size w w' := by
  have KH := Hid.mk' (rL_hd (k := 1) (by omega) (by omega) hB.bytes)
  have J1 := Hid.mk' (HJ.first w)
  have HR : Hid (∀ u, HJ w u → Calls Tryz.prog 63 #[.slice a n c] u fun e w' => e = .returned (.tuple #[.agg (rL 1 zs).toArray, .int .i64 (rE 1 zs)]) ∧ Below u.heap.size u w') := Hid.mk' (fun u h => K05.lread_any a n c zs u hz' (hB.below h.old) hc)
  obtain ⟨L, HL⟩ : ∃ L, Hid (rL 1 zs = L) := ⟨_, rfl⟩
  obtain ⟨E, HE⟩ : ∃ E, Hid (rE 1 zs = E) := ⟨_, rfl⟩
  rw [HL.out, HE.out]
  rw [HL.out, HE.out] at HR
  rw [HL.out] at KH
  have hlc : Hid (L.length = 13) := Hid.mk' (lhd_len (KH.out.2.2.1 rfl))
  have hone : Hid (L.toArray.all (·.oneCell') = true) := Hid.mk' (lhd_one (KH.out.2.2.1 rfl))
  have HH := Hid.mk' (hk_hh KH.out)
  obtain ⟨H, HHk⟩ : ∃ H, Hid (hk 1 L = H) := ⟨_, rfl⟩
  have hbl : Hid (Tryz.prog.built 46 [(0, .int .u8 1), (1, .agg L.toArray)] = some H.toArray) := by rw [← HHk.out]; exact built_1 L hlc.out
  rw [HHk.out] at HH
  rw [HHk.out]
  have hh73 := Hid.mk' (hh_len HH.out)
  have hh1 := Hid.mk' (hh_one HH.out)
  have hs73 : Hid (H.toArray.size = 73) := Hid.mk' (by rw [List.size_toArray]; exact hh73.out)
  clear hz' hB hc HL HE KH
  go_enter Tryz.func62, Tryz.ntmps62
  go_wp2_with fail
  refine (HR.out _ J1.out).mono ?_
  rintro e w2 ⟨rfl, b2⟩
  have J2 := Hid.mk' (J1.out.below b2)
  clear b2 J1 HR
  go_wp2_with (first | refine wpList_store_new rfl 31 _ _ rfl _ _ L rfl rfl (by rw [hlc.out]; rfl) (by rw [hlc.out]; exact K05.info_lk) hone.out ?_)
  obtain ⟨w3, hw3⟩ : ∃ w3, w3 = w2.alloc (.cells L.toArray 31) := ⟨_, rfl⟩
  rw [← hw3]
  have R3 : Hid (w3.heap[w2.heap.size]? = some (.cells L.toArray 31 (0, 0))) := by rw [hw3]; exact heap_alloc_new w2 _
  have J3 : Hid (HJ w w3) := by rw [hw3]; exact J2.out.below ((Below.refl _ _).alloc (Nat.le_refl _) _)
  clear hw3
  refine wp_region_held_drew (S := fun u => u.heap[w2.heap.size]? = some (.cells L.toArray 31 (0, 0)) ∧ HJ w u) (by kernel_rfl) ⟨R3.out, J3.out.dr ⟨1, rfl⟩⟩ (fun hHeld => ?_)
  change wpAnyH _ _ _ _ _ 7 #[false, false, false, false, false, false, false] _ _
  refine held_take 0 12 (.agg L.toArray) rfl rfl (by kernel_rfl) (by kernel_rfl) (by kernel_rfl) (fun _ _ _ h => h) (yieldsIf_load_mid (by rfl) 31 _ rfl w2.heap.size 0 rfl L _ (fun u hu => range_block hu.1) Tryz.underlying31 rfl (by rw [hlc.out]; exact K05.info_lk)) hHeld ?_
  simp only [Act.put, List.setIfInBounds_toArray, List.set_cons_zero, List.set_cons_succ]
  refine held_take 1 13 (.agg H.toArray) rfl rfl (by kernel_rfl) (by kernel_rfl) (by kernel_rfl) (fun _ _ _ h => h) (yieldsIf_build (by rfl) 46 #[(0, .const (.int .u8 1)), (1, .tmp 12)] rfl H.toArray ?_) hHeld ?_
  · simpa [Act.eval] using hbl.out
  simp only [Act.put, List.setIfInBounds_toArray, List.set_cons_zero, List.set_cons_succ]
  refine held_take 3 15 (.int .i64 E) rfl rfl (by kernel_rfl) (by kernel_rfl) (by kernel_rfl) (fun _ _ _ h => h) (Or.inl ⟨by rfl, fun u hu => ?_⟩) hHeld ?_
  · go_simp
  simp only [Act.put, List.setIfInBounds_toArray, List.set_cons_zero, List.set_cons_succ]
  refine held_one 2 (by kernel_rfl) rfl (fun K hK => ?_)
  go_simp
  go_wp2_with (first | (go_at_call 64; refine (K05.lsize_any w3.drew).mono ?_; rintro e w8 ⟨rfl, rfl⟩))
  refine hK.out _ _ hHeld (fun _ => ?_)
  clear hK K
  try simp only [List.setIfInBounds_toArray, List.set_cons_zero, List.set_cons_succ]
  refine held_one 4 (by kernel_rfl) rfl (fun K hK => ?_)
  refine step_store_box rfl rfl 46 _ _ rfl w.heap.size H rfl rfl (by rw [hs73.out]; exact hHeld.2.there) (by rw [hh73.out]; exact info_hh) hh1.out ?_
  obtain ⟨D1, D2, D3⟩ := hHeld.2.done H hh73.out
  have hlt := J2.out.lt
  have hne : ¬ w2.heap.size = w.heap.size := by omega
  have hHeld3 : (w3.drew.setCells w.heap.size 0 H).heap[w2.heap.size]? = some (.cells L.toArray 31 (0, 0)) ∧ HJ w (w3.drew.setCells w.heap.size 0 H) := ⟨(D3.block _ (Array.getElem?_eq_some_iff.1 hHeld.1).1 hne).trans hHeld.1, ⟨⟨H, hh73.out, D1⟩, D2⟩⟩
  refine hK.out _ _ hHeld3 (fun _ => ?_)
  clear hK K
  try simp only [List.setIfInBounds_toArray, List.set_cons_zero, List.set_cons_succ]
  refine held_take 5 3 (.int .i64 14) rfl rfl (by kernel_rfl) (by kernel_rfl) (by kernel_rfl) (fun _ _ _ h => h) (Or.inl ⟨by rfl, fun u hu => ?_⟩) hHeld3 ?_
  · go_simp
  simp only [Act.put, List.setIfInBounds_toArray, List.set_cons_zero, List.set_cons_succ]
  refine held_take 6 4 (.int .i64 E) rfl rfl (by kernel_rfl) (by kernel_rfl) (by kernel_rfl) (fun _ _ _ h => h) (Or.inl ⟨by rfl, fun u hu => ?_⟩) hHeld3 ?_
  · go_simp
  simp only [Act.put, List.setIfInBounds_toArray, List.set_cons_zero, List.set_cons_succ]
  refine wpAnyH_done (by kernel_rfl) ?_ _
  go_wp2
  refine ret_cell_tmp2 rfl w.heap.size 46 H (0, 0) _ rfl D1 Tryz.underlying46 rfl (by rw [hh73.out]; exact info_hh) rfl ?_
  exact ⟨rfl, D2⟩

set_option maxHeartbeats 1000000 in
theorem reader_2 (a : Option Addr) (n c : Nat) (zs : List Int) (w : World) (hz' : zs.length = n) (hB : Bs w a zs) (hc : n ≤ c) :
    Calls Tryz.prog 65 #[.slice a n c] w fun e w' => e = .returned (.tuple #[.agg (hk 2 (rL 2 zs)).toArray, .int .i64 (sz 2 : Nat), .int .i64 (rE 2 zs)]) ∧ Below w.heap.size w w' := by
  have KH := Hid.mk' (rL_hd (k := 2) (by omega) (by omega) hB.bytes)
  have J1 := Hid.mk' (HJ.first w)
  have HR : Hid (∀ u, HJ w u → Calls Tryz.prog 66 #[.slice a n c] u fun e w' => e = .returned (.tuple #[.agg (rL 2 zs).toArray, .int .i64 (rE 2 zs)]) ∧ Below u.heap.size u w') := Hid.mk' (fun u h => K06.h_read a n c zs u hz' (hB.below h.old) hc)
  obtain ⟨L, HL⟩ : ∃ L, Hid (rL 2 zs = L) := ⟨_, rfl⟩
  obtain ⟨E, HE⟩ : ∃ E, Hid (rE 2 zs = E) := ⟨_, rfl⟩
  rw [HL.out, HE.out]
  rw [HL.out, HE.out] at HR
  rw [HL.out] at KH
  have hlc : Hid (L.length = 3) := Hid.mk' (K06.hd_len (KH.out.2.2.2.1 rfl))
  have hone : Hid (L.toArray.all (·.oneCell') = true) := Hid.mk' (K06.hd_one (KH.out.2.2.2.1 rfl))
  have HH := Hid.mk' (hk_hh KH.out)
  obtain ⟨H, HHk⟩ : ∃ H, Hid (hk 2 L = H) := ⟨_, rfl⟩
  have hbl : Hid (Tryz.prog.built 46 [(0, .int .u8 2), (2, .agg L.toArray)] = some H.toArray) := by rw [← HHk.out]; exact built_2 L hlc.out
  rw [HHk.out] at HH
  rw [HHk.out]
  have hh73 := Hid.mk' (hh_len HH.out)
  have hh1 := Hid.mk' (hh_one HH.out)
  have hs73 : Hid (H.toArray.size = 73) := Hid.mk' (by rw [List.size_toArray]; exact hh73.out)
  clear hz' hB hc HL HE KH
  go_enter Tryz.func65, Tryz.ntmps65
  go_wp2_with fail
  refine (HR.out _ J1.out).mono ?_
  rintro e w2 ⟨rfl, b2⟩
  have J2 := Hid.mk' (J1.out.below b2)
  clear b2 J1 HR
  go_wp2_with (first | refine wpList_store_new rfl 33 _ _ rfl _ _ L rfl rfl (by rw [hlc.out]; rfl) (by rw [hlc.out]; exact K06.info_hd) hone.out ?_)
  obtain ⟨w3, hw3⟩ : ∃ w3, w3 = w2.alloc (.cells L.toArray 33) := ⟨_, rfl⟩
  rw [← hw3]
  have R3 : Hid (w3.heap[w2.heap.size]? = some (.cells L.toArray 33 (0, 0))) := by rw [hw3]; exact heap_alloc_new w2 _
  have J3 : Hid (HJ w w3) := by rw [hw3]; exact J2.out.below ((Below.refl _ _).alloc (Nat.le_refl _) _)
  clear hw3
  refine wp_region_held_drew (S := fun u => u.heap[w2.heap.size]? = some (.cells L.toArray 33 (0, 0)) ∧ HJ w u) (by kernel_rfl) ⟨R3.out, J3.out.dr ⟨1, rfl⟩⟩ (fun hHeld => ?_)
  change wpAnyH _ _ _ _ _ 7 #[false, false, false, false, false, false, false] _ _
  refine held_take 0 12 (.agg L.toArray) rfl rfl (by kernel_rfl) (by kernel_rfl) (by kernel_rfl) (fun _ _ _ h => h) (yieldsIf_load_mid (by rfl) 33 _ rfl w2.heap.size 0 rfl L _ (fun u hu => range_block hu.1) Tryz.underlying33 rfl (by rw [hlc.out]; exact K06.info_hd)) hHeld ?_
  simp only [Act.put, List.setIfInBounds_toArray, List.set_cons_zero, List.set_cons_succ]
  refine held_take 1 13 (.agg H.toArray) rfl rfl (by kernel_rfl) (by kernel_rfl) (by kernel_rfl) (fun _ _ _ h => h) (yieldsIf_build (by rfl) 46 #[(0, .const (.int .u8 2)), (2, .tmp 12)] rfl H.toArray ?_) hHeld ?_
  · simpa [Act.eval] using hbl.out
  simp only [Act.put, List.setIfInBounds_toArray, List.set_cons_zero, List.set_cons_succ]
  refine held_take 3 15 (.int .i64 E) rfl rfl (by kernel_rfl) (by kernel_rfl) (by kernel_rfl) (fun _ _ _ h => h) (Or.inl ⟨by rfl, fun u hu => ?_⟩) hHeld ?_
  · go_simp
  simp only [Act.put, List.setIfInBounds_toArray, List.set_cons_zero, List.set_cons_succ]
  refine held_one 2 (by kernel_rfl) rfl (fun K hK => ?_)
  go_simp
  go_wp2_with (first | (go_at_call 67; refine (K06.lsize_any w3.drew).mono ?_; rintro e w8 ⟨rfl, rfl⟩))
  refine hK.out _ _ hHeld (fun _ => ?_)
  clear hK K
  try simp only [List.setIfInBounds_toArray, List.set_cons_zero, List.set_cons_succ]
  refine held_one 4 (by kernel_rfl) rfl (fun K hK => ?_)
  refine step_store_box rfl rfl 46 _ _ rfl w.heap.size H rfl rfl (by rw [hs73.out]; exact hHeld.2.there) (by rw [hh73.out]; exact info_hh) hh1.out ?_
  obtain ⟨D1, D2, D3⟩ := hHeld.2.done H hh73.out
  have hlt := J2.out.lt
  have hne : ¬ w2.heap.size = w.heap.size := by omega
  have hHeld3 : (w3.drew.setCells w.heap.size 0 H).heap[w2.heap.size]? = some (.cells L.toArray 33 (0, 0)) ∧ HJ w (w3.drew.setCells w.heap.size 0 H) := ⟨(D3.block _ (Array.getElem?_eq_some_iff.1 hHeld.1).1 hne).trans hHeld.1, ⟨⟨H, hh73.out, D1⟩, D2⟩⟩
  refine hK.out _ _ hHeld3 (fun _ => ?_)
  clear hK K
  try simp only [List.setIfInBounds_toArray, List.set_cons_zero, List.set_cons_succ]
  refine held_take 5 3 (.int .i64 4) rfl rfl (by kernel_rfl) (by kernel_rfl) (by kernel_rfl) (fun _ _ _ h => h) (Or.inl ⟨by rfl, fun u hu => ?_⟩) hHeld3 ?_
  · go_simp
  simp only [Act.put, List.setIfInBounds_toArray, List.set_cons_zero, List.set_cons_succ]
  refine held_take 6 4 (.int .i64 E) rfl rfl (by kernel_rfl) (by kernel_rfl) (by kernel_rfl) (fun _ _ _ h => h) (Or.inl ⟨by rfl, fun u hu => ?_⟩) hHeld3 ?_
  · go_simp
  simp only [Act.put, List.setIfInBounds_toArray, List.set_cons_zero, List.set_cons_succ]
  refine wpAnyH_done (by kernel_rfl) ?_ _
  go_wp2
  refine ret_cell_tmp2 rfl w.heap.size 46 H (0, 0) _ rfl D1 Tryz.underlying46 rfl (by rw [hh73.out]; exact info_hh) rfl ?_
  exact ⟨rfl, D2⟩

set_option maxHeartbeats 1000000 in
theorem reader_3 (a : Option Addr) (n c : Nat) (zs : List Int) (w : World) (hz' : zs.length = n) (hB : Bs w a zs) (hc : n ≤ c) :
    Calls Tryz.prog 68 #[.slice a n c] w fun e w' => e = .returned (.tuple #[.agg (hk 3 (rL 3 zs)).toArray, .int .i64 (sz 3 : Nat), .int .i64 (rE 3 zs)]) ∧ Below w.heap.size w w' := by
  have KH := Hid.mk' (rL_hd (k := 3) (by omega) (by omega) hB.bytes)
  have J1 := Hid.mk' (HJ.first w)
  have HR : Hid (∀ u, HJ w u → Calls Tryz.prog 69 #[.slice a n c] u fun e w' => e = .returned (.tuple #[.agg (rL 3 zs).toArray, .int .i64 (rE 3 zs)]) ∧ Below u.heap.size u w') := Hid.mk' (fun u h => K07.h_read a n c zs u hz' (hB.below h.old) hc)
  obtain ⟨L, HL⟩ : ∃ L, Hid (rL 3 zs = L) := ⟨_, rfl⟩
  obtain ⟨E, HE⟩ : ∃ E, Hid (rE 3 zs = E) := ⟨_, rfl⟩
  rw [HL.out, HE.out]
  rw [HL.out, HE.out] at HR
  rw [HL.out] at KH
  have hlc : Hid (L.length = 12) := Hid.mk' (K07.hd_len (KH.out.2.2.2.2.1 rfl))
  have hone : Hid (L.toArray.all (·.oneCell') = true) := Hid.mk' (K07.hd_one (KH.out.2.2.2.2.1 rfl))
  have HH := Hid.mk' (hk_hh KH.out)
  obtain ⟨H, HHk⟩ : ∃ H, Hid (hk 3 L = H) := ⟨_, rfl⟩
  have hbl : Hid (Tryz.prog.built 46 [(0, .int .u8 3), (3, .agg L.toArray)] = some H.toArray) := by rw [← HHk.out]; exact built_3 L hlc.out
  rw [HHk.out] at HH
  rw [HHk.out]
  have hh73 := Hid.mk' (hh_len HH.out)
  have hh1 := Hid.mk' (hh_one HH.out)
  have hs73 : Hid (H.toArray.size = 73) := Hid.mk' (by rw [List.size_toArray]; exact hh73.out)
  clear hz' hB hc HL HE KH
  go_enter Tryz.func68, Tryz.ntmps68
  go_wp2_with fail
  refine (HR.out _ J1.out).mono ?_
  rintro e w2 ⟨rfl, b2⟩
  have J2 := Hid.mk' (J1.out.below b2)
  clear b2 J1 HR
  go_wp2_with (first | refine wpList_store_new rfl 36 _ _ rfl _ _ L rfl rfl (by rw [hlc.out]; rfl) (by rw [hlc.out]; exact K07.info_hd) hone.out ?_)
  obtain ⟨w3, hw3⟩ : ∃ w3, w3 = w2.alloc (.cells L.toArray 36) := ⟨_, rfl⟩
  rw [← hw3]
  have R3 : Hid (w3.heap[w2.heap.size]? = some (.cells L.toArray 36 (0, 0))) := by rw [hw3]; exact heap_alloc_new w2 _
  have J3 : Hid (HJ w w3) := by rw [hw3]; exact J2.out.below ((Below.refl _ _).alloc (Nat.le_refl _) _)
  clear hw3
  refine wp_region_held_drew (S := fun u => u.heap[w2.heap.size]? = some (.cells L.toArray 36 (0, 0)) ∧ HJ w u) (by kernel_rfl) ⟨R3.out, J3.out.dr ⟨1, rfl⟩⟩ (fun hHeld => ?_)
  change wpAnyH _ _ _ _ _ 7 #[false, false, false, false, false, false, false] _ _
  refine held_take 0 12 (.agg L.toArray) rfl rfl (by kernel_rfl) (by kernel_rfl) (by kernel_rfl) (fun _ _ _ h => h) (yieldsIf_load_mid (by rfl) 36 _ rfl w2.heap.size 0 rfl L _ (fun u hu => range_block hu.1) Tryz.underlying36 rfl (by rw [hlc.out]; exact K07.info_hd)) hHeld ?_
  simp only [Act.put, List.setIfInBounds_toArray, List.set_cons_zero, List.set_cons_succ]
  refine held_take 1 13 (.agg H.toArray) rfl rfl (by kernel_rfl) (by kernel_rfl) (by kernel_rfl) (fun _ _ _ h => h) (yieldsIf_build (by rfl) 46 #[(0, .const (.int .u8 3)), (3, .tmp 12)] rfl H.toArray ?_) hHeld ?_
  · simpa [Act.eval] using hbl.out
  simp only [Act.put, List.setIfInBounds_toArray, List.set_cons_zero, List.set_cons_succ]
  refine held_take 3 15 (.int .i64 E) rfl rfl (by kernel_rfl) (by kernel_rfl) (by kernel_rfl) (fun _ _ _ h => h) (Or.inl ⟨by rfl, fun u hu => ?_⟩) hHeld ?_
  · go_simp
  simp only [Act.put, List.setIfInBounds_toArray, List.set_cons_zero, List.set_cons_succ]
  refine held_one 2 (by kernel_rfl) rfl (fun K hK => ?_)
  go_simp
  go_wp2_with (first | (go_at_call 70; refine (K07.lsize_any w3.drew).mono ?_; rintro e w8 ⟨rfl, rfl⟩))
  refine hK.out _ _ hHeld (fun _ => ?_)
  clear hK K
  try simp only [List.setIfInBounds_toArray, List.set_cons_zero, List.set_cons_succ]
  refine held_one 4 (by kernel_rfl) rfl (fun K hK => ?_)
  refine step_store_box rfl rfl 46 _ _ rfl w.heap.size H rfl rfl (by rw [hs73.out]; exact hHeld.2.there) (by rw [hh73.out]; exact info_hh) hh1.out ?_
  obtain ⟨D1, D2, D3⟩ := hHeld.2.done H hh73.out
  have hlt := J2.out.lt
  have hne : ¬ w2.heap.size = w.heap.size := by omega
  have hHeld3 : (w3.drew.setCells w.heap.size 0 H).heap[w2.heap.size]? = some (.cells L.toArray 36 (0, 0)) ∧ HJ w (w3.drew.setCells w.heap.size 0 H) := ⟨(D3.block _ (Array.getElem?_eq_some_iff.1 hHeld.1).1 hne).trans hHeld.1, ⟨⟨H, hh73.out, D1⟩, D2⟩⟩
  refine hK.out _ _ hHeld3 (fun _ => ?_)
  clear hK K
  try simp only [List.setIfInBounds_toArray, List.set_cons_zero, List.set_cons_succ]
  refine held_take 5 3 (.int .i64 20) rfl rfl (by kernel_rfl) (by kernel_rfl) (by kernel_rfl) (fun _ _ _ h => h) (Or.inl ⟨by rfl, fun u hu => ?_⟩) hHeld3 ?_
  · go_simp
  simp only [Act.put, List.setIfInBounds_toArray, List.set_cons_zero, List.set_cons_succ]
  refine held_take 6 4 (.int .i64 E) rfl rfl (by kernel_rfl) (by kernel_rfl) (by kernel_rfl) (fun _ _ _ h => h) (Or.inl ⟨by rfl, fun u hu => ?_⟩) hHeld3 ?_
  · go_simp
  simp only [Act.put, List.setIfInBounds_toArray, List.set_cons_zero, List.set_cons_succ]
  refine wpAnyH_done (by kernel_rfl) ?_ _
  go_wp2
  refine ret_cell_tmp2 rfl w.heap.size 46 H (0, 0) _ rfl D1 Tryz.underlying46 rfl (by rw [hh73.out]; exact info_hh) rfl ?_
  exact ⟨rfl, D2⟩

set_option maxHeartbeats 1000000 in
theorem reader_4 (a : Option Addr) (n c : Nat) (zs : List Int) (w : World) (hz' : zs.length = n) (hB : Bs w a zs) (hc : n ≤ c) :
    Calls Tryz.prog 71 #[.slice a n c] w fun e w' => e = .returned (.tuple #[.agg (hk 4 (rL 4 zs)).toArray, .int .i64 (sz 4 : Nat), .int .i64 (rE 4 zs)]) ∧ Below w.heap.size w w' := by
  have KH := Hid.mk' (rL_hd (k := 4) (by omega) (by omega) hB.bytes)
  have J1 := Hid.mk' (HJ.first w)
  have HR : Hid (∀ u, HJ w u → Calls Tryz.prog 72 #[.slice a n c] u fun e w' => e = .returned (.tuple #[.agg (rL 4 zs).toArray, .int .i64 (rE 4 zs)]) ∧ Below u.heap.size u w') := Hid.mk' (fun u h => K08.h_read a n c zs u hz' (hB.below h.old) hc)
  obtain ⟨L, HL⟩ : ∃ L, Hid (rL 4 zs = L) := ⟨_, rfl⟩
  obtain ⟨E, HE⟩ : ∃ E, Hid (rE 4 zs = E) := ⟨_, rfl⟩
  rw [HL.out, HE.out]
  rw [HL.out, HE.out] at HR
  rw [HL.out] at KH
  have hlc : Hid (L.length = 36) := Hid.mk' (K08.hd_len (KH.out.2.2.2.2.2.1 rfl))
  have hone : Hid (L.toArray.all (·.oneCell') = true) := Hid.mk' (K08.hd_one (KH.out.2.2.2.2.2.1 rfl))
  have HH := Hid.mk' (hk_hh KH.out)
  obtain ⟨H, HHk⟩ : ∃ H, Hid (hk 4 L = H) := ⟨_, rfl⟩
  have hbl : Hid (Tryz.prog.built 46 [(0, .int .u8 4), (4, .agg L.toArray)] = some H.toArray) := by rw [← HHk.out]; exact built_4 L hlc.out
  rw [HHk.out] at HH
  rw [HHk.out]
  have hh73 := Hid.mk' (hh_len HH.out)
  have hh1 := Hid.mk' (hh_one HH.out)
  have hs73 : Hid (H.toArray.size = 73) := Hid.mk' (by rw [List.size_toArray]; exact hh73.out)
  clear hz' hB hc HL HE KH
  go_enter Tryz.func71, Tryz.ntmps71
  go_wp2_with fail
  refine (HR.out _ J1.out).mono ?_
  rintro e w2 ⟨rfl, b2⟩
  have J2 := Hid.mk' (J1.out.below b2)
  clear b2 J1 HR
  go_wp2_with (first | refine wpList_store_new rfl 40 _ _ rfl _ _ L rfl rfl (by rw [hlc.out]; rfl) (by rw [hlc.out]; exact K08.info_hd) hone.out ?_)
  obtain ⟨w3, hw3⟩ : ∃ w3, w3 = w2.alloc (.cells L.toArray 40) := ⟨_, rfl⟩
  rw [← hw3]
  have R3 : Hid (w3.heap[w2.heap.size]? = some (.cells L.toArray 40 (0, 0))) := by rw [hw3]; exact heap_alloc_new w2 _
  have J3 : Hid (HJ w w3) := by rw [hw3]; exact J2.out.below ((Below.refl _ _).alloc (Nat.le_refl _) _)
  clear hw3
  refine wp_region_held_drew (S := fun u => u.heap[w2.heap.size]? = some (.cells L.toArray 40 (0, 0)) ∧ HJ w u) (by kernel_rfl) ⟨R3.out, J3.out.dr ⟨1, rfl⟩⟩ (fun hHeld => ?_)
  change wpAnyH _ _ _ _ _ 7 #[false, false, false, false, false, false, false] _ _
  refine held_take 0 12 (.agg L.toArray) rfl rfl (by kernel_rfl) (by kernel_rfl) (by kernel_rfl) (fun _ _ _ h => h) (yieldsIf_load_mid (by rfl) 40 _ rfl w2.heap.size 0 rfl L _ (fun u hu => range_block hu.1) Tryz.underlying40 rfl (by rw [hlc.out]; exact K08.info_hd)) hHeld ?_
  simp only [Act.put, List.setIfInBounds_toArray, List.set_cons_zero, List.set_cons_succ]
  refine held_take 1 13 (.agg H.toArray) rfl rfl (by kernel_rfl) (by kernel_rfl) (by kernel_rfl) (fun _ _ _ h => h) (yieldsIf_build (by rfl) 46 #[(0, .const (.int .u8 4)), (4, .tmp 12)] rfl H.toArray ?_) hHeld ?_
  · simpa [Act.eval] using hbl.out
  simp only [Act.put, List.setIfInBounds_toArray, List.set_cons_zero, List.set_cons_succ]
  refine held_take 3 15 (.int .i64 E) rfl rfl (by kernel_rfl) (by kernel_rfl) (by kernel_rfl) (fun _ _ _ h => h) (Or.inl ⟨by rfl, fun u hu => ?_⟩) hHeld ?_
  · go_simp
  simp only [Act.put, List.setIfInBounds_toArray, List.set_cons_zero, List.set_cons_succ]
  refine held_one 2 (by kernel_rfl) rfl (fun K hK => ?_)
  go_simp
  go_wp2_with (first | (go_at_call 73; refine (K08.lsize_any w3.drew).mono ?_; rintro e w8 ⟨rfl, rfl⟩))
  refine hK.out _ _ hHeld (fun _ => ?_)
  clear hK K
  try simp only [List.setIfInBounds_toArray, List.set_cons_zero, List.set_cons_succ]
  refine held_one 4 (by kernel_rfl) rfl (fun K hK => ?_)
  refine step_store_box rfl rfl 46 _ _ rfl w.heap.size H rfl rfl (by rw [hs73.out]; exact hHeld.2.there) (by rw [hh73.out]; exact info_hh) hh1.out ?_
  obtain ⟨D1, D2, D3⟩ := hHeld.2.done H hh73.out
  have hlt := J2.out.lt
  have hne : ¬ w2.heap.size = w.heap.size := by omega
  have hHeld3 : (w3.drew.setCells w.heap.size 0 H).heap[w2.heap.size]? = some (.cells L.toArray 40 (0, 0)) ∧ HJ w (w3.drew.setCells w.heap.size 0 H) := ⟨(D3.block _ (Array.getElem?_eq_some_iff.1 hHeld.1).1 hne).trans hHeld.1, ⟨⟨H, hh73.out, D1⟩, D2⟩⟩
  refine hK.out _ _ hHeld3 (fun _ => ?_)
  clear hK K
  try simp only [List.setIfInBounds_toArray, List.set_cons_zero, List.set_cons_succ]
  refine held_take 5 3 (.int .i64 40) rfl rfl (by kernel_rfl) (by kernel_rfl) (by kernel_rfl) (fun _ _ _ h => h) (Or.inl ⟨by rfl, fun u hu => ?_⟩) hHeld3 ?_
  · go_simp
  simp only [Act.put, List.setIfInBounds_toArray, List.set_cons_zero, List.set_cons_succ]
  refine held_take 6 4 (.int .i64 E) rfl rfl (by kernel_rfl) (by kernel_rfl) (by kernel_rfl) (fun _ _ _ h => h) (Or.inl ⟨by rfl, fun u hu => ?_⟩) hHeld3 ?_
  · go_simp
  simp only [Act.put, List.setIfInBounds_toArray, List.set_cons_zero, List.set_cons_succ]
  refine wpAnyH_done (by kernel_rfl) ?_ _
  go_wp2
  refine ret_cell_tmp2 rfl w.heap.size 46 H (0, 0) _ rfl D1 Tryz.underlying46 rfl (by rw [hh73.out]; exact info_hh) rfl ?_
  exact ⟨rfl, D2⟩

set_option maxHeartbeats 1000000 in
theorem reader_5 (a : Option Addr) (n c : Nat) (zs : List Int) (w : World) (hz' : zs.length = n) (hB : Bs w a zs) (hc : n ≤ c) :
    Calls Tryz.prog 74 #[.slice a n c] w fun e w' => e = .returned (.tuple #[.agg (hk 5 (rL 5 zs)).toArray, .int .i64 (sz 5 : Nat), .int .i64 (rE 5 zs)]) ∧ Below w.heap.size w w' := by
  have KH := Hid.mk' (rL_hd (k := 5) (by omega) (by omega) hB.bytes)
  have J1 := Hid.mk' (HJ.first w)
  have HR : Hid (∀ u, HJ w u → Calls Tryz.prog 75 #[.slice a n c] u fun e w' => e = .returned (.tuple #[.agg (rL 5 zs).toArray, .int .i64 (rE 5 zs)]) ∧ Below u.heap.size u w') := Hid.mk' (fun u h => K09.h_read a n c zs u hz' (hB.below h.old) hc)
  obtain ⟨L, HL⟩ : ∃ L, Hid (rL 5 zs = L) := ⟨_, rfl⟩
  obtain ⟨E, HE⟩ : ∃ E, Hid (rE 5 zs = E) := ⟨_, rfl⟩
  rw [HL.out, HE.out]
  rw [HL.out, HE.out] at HR
  rw [HL.out] at KH
  have hlc : Hid (L.length = 6) := Hid.mk' (K09.hd_len (KH.out.2.2.2.2.2.2.1 rfl))
  have hone : Hid (L.toArray.all (·.oneCell') = true) := Hid.mk' (K09.hd_one (KH.out.2.2.2.2.2.2.1 rfl))
  have HH := Hid.mk' (hk_hh KH.out)
  obtain ⟨H, HHk⟩ : ∃ H, Hid (hk 5 L = H) := ⟨_, rfl⟩
  have hbl : Hid (Tryz.prog.built 46 [(0, .int .u8 5), (5, .agg L.toArray)] = some H.toArray) := by rw [← HHk.out]; exact built_5 L hlc.out
  rw [HHk.out] at HH
  rw [HHk.out]
  have hh73 := Hid.mk' (hh_len HH.out)
  have hh1 := Hid.mk' (hh_one HH.out)
  have hs73 : Hid (H.toArray.size = 73) := Hid.mk' (by rw [List.size_toArray]; exact hh73.out)
  clear hz' hB hc HL HE KH
  go_enter Tryz.func74, Tryz.ntmps74
  go_wp2_with fail
  refine (HR.out _ J1.out).mono ?_
  rintro e w2 ⟨rfl, b2⟩
  have J2 := Hid.mk' (J1.out.below b2)
  clear b2 J1 HR
  go_wp2_with (first | refine wpList_store_new rfl 42 _ _ rfl _ _ L rfl rfl (by rw [hlc.out]; rfl) (by rw [hlc.out]; exact K09.info_hd) hone.out ?_)
  obtain ⟨w3, hw3⟩ : ∃ w3, w3 = w2.alloc (.cells L.toArray 42) := ⟨_, rfl⟩
  rw [← hw3]
  have R3 : Hid (w3.heap[w2.heap.size]? = some (.cells L.toArray 42 (0, 0))) := by rw [hw3]; exact heap_alloc_new w2 _
  have J3 : Hid (HJ w w3) := by rw [hw3]; exact J2.out.below ((Below.refl _ _).alloc (Nat.le_refl _) _)
  clear hw3
  refine wp_region_held_drew (S := fun u => u.heap[w2.heap.size]? = some (.cells L.toArray 42 (0, 0)) ∧ HJ w u) (by kernel_rfl) ⟨R3.out, J3.out.dr ⟨1, rfl⟩⟩ (fun hHeld => ?_)
  change wpAnyH _ _ _ _ _ 7 #[false, false, false, false, false, false, false] _ _
  refine held_take 0 12 (.agg L.toArray) rfl rfl (by kernel_rfl) (by kernel_rfl) (by kernel_rfl) (fun _ _ _ h => h) (yieldsIf_load_mid (by rfl) 42 _ rfl w2.heap.size 0 rfl L _ (fun u hu => range_block hu.1) Tryz.underlying42 rfl (by rw [hlc.out]; exact K09.info_hd)) hHeld ?_
  simp only [Act.put, List.setIfInBounds_toArray, List.set_cons_zero, List.set_cons_succ]
  refine held_take 1 13 (.agg H.toArray) rfl rfl (by kernel_rfl) (by kernel_rfl) (by kernel_rfl) (fun _ _ _ h => h) (yieldsIf_build (by rfl) 46 #[(0, .const (.int .u8 5)), (5, .tmp 12)] rfl H.toArray ?_) hHeld ?_
  · simpa [Act.eval] using hbl.out
  simp only [Act.put, List.setIfInBounds_toArray, List.set_cons_zero, List.set_cons_succ]
  refine held_take 3 15 (.int .i64 E) rfl rfl (by kernel_rfl) (by kernel_rfl) (by kernel_rfl) (fun _ _ _ h => h) (Or.inl ⟨by rfl, fun u hu => ?_⟩) hHeld ?_
  · go_simp
  simp only [Act.put, List.setIfInBounds_toArray, List.set_cons_zero, List.set_cons_succ]
  refine held_one 2 (by kernel_rfl) rfl (fun K hK => ?_)
  go_simp
  go_wp2_with (first | (go_at_call 76; refine (K09.lsize_any w3.drew).mono ?_; rintro e w8 ⟨rfl, rfl⟩))
  refine hK.out _ _ hHeld (fun _ => ?_)
  clear hK K
  try simp only [List.setIfInBounds_toArray, List.set_cons_zero, List.set_cons_succ]
  refine held_one 4 (by kernel_rfl) rfl (fun K hK => ?_)
  refine step_store_box rfl rfl 46 _ _ rfl w.heap.size H rfl rfl (by rw [hs73.out]; exact hHeld.2.there) (by rw [hh73.out]; exact info_hh) hh1.out ?_
  obtain ⟨D1, D2, D3⟩ := hHeld.2.done H hh73.out
  have hlt := J2.out.lt
  have hne : ¬ w2.heap.size = w.heap.size := by omega
  have hHeld3 : (w3.drew.setCells w.heap.size 0 H).heap[w2.heap.size]? = some (.cells L.toArray 42 (0, 0)) ∧ HJ w (w3.drew.setCells w.heap.size 0 H) := ⟨(D3.block _ (Array.getElem?_eq_some_iff.1 hHeld.1).1 hne).trans hHeld.1, ⟨⟨H, hh73.out, D1⟩, D2⟩⟩
  refine hK.out _ _ hHeld3 (fun _ => ?_)
  clear hK K
  try simp only [List.setIfInBounds_toArray, List.set_cons_zero, List.set_cons_succ]
  refine held_take 5 3 (.int .i64 20) rfl rfl (by kernel_rfl) (by kernel_rfl) (by kernel_rfl) (fun _ _ _ h => h) (Or.inl ⟨by rfl, fun u hu => ?_⟩) hHeld3 ?_
  · go_simp
  simp only [Act.put, List.setIfInBounds_toArray, List.set_cons_zero, List.set_cons_succ]
  refine held_take 6 4 (.int .i64 E) rfl rfl (by kernel_rfl) (by kernel_rfl) (by kernel_rfl) (fun _ _ _ h => h) (Or.inl ⟨by rfl, fun u hu => ?_⟩) hHeld3 ?_
  · go_simp
  simp only [Act.put, List.setIfInBounds_toArray, List.set_cons_zero, List.set_cons_succ]
  refine wpAnyH_done (by kernel_rfl) ?_ _
  go_wp2
  refine ret_cell_tmp2 rfl w.heap.size 46 H (0, 0) _ rfl D1 Tryz.underlying46 rfl (by rw [hh73.out]; exact info_hh) rfl ?_
  exact ⟨rfl, D2⟩

set_option maxHeartbeats 1000000 in
theorem reader_6 (a : Option Addr) (n c : Nat) (zs : List Int) (w : World) (hz' : zs.length = n) (hB : Bs w a zs) (hc : n ≤ c) :
    Calls Tryz.prog 77 #[.slice a n c] w fun e w' => e = .returned (.tuple #[.agg (hk 6 (rL 6 zs)).toArray, .int .i64 (sz 6 : Nat), .int .i64 (rE 6 zs)]) ∧ Below w.heap.size w w' := by
  have KH := Hid.mk' (rL_hd (k := 6) (by omega) (by omega) hB.bytes)
  have J1 := Hid.mk' (HJ.first w)
  have HR : Hid (∀ u, HJ w u → Calls Tryz.prog 78 #[.slice a n c] u fun e w' => e = .returned (.tuple #[.agg (rL 6 zs).toArray, .int .i64 (rE 6 zs)]) ∧ Below u.heap.size u w') := Hid.mk' (fun u h => K10.h_read a n c zs u hz' (hB.below h.old) hc)
  obtain ⟨L, HL⟩ : ∃ L, Hid (rL 6 zs = L) := ⟨_, rfl⟩
  obtain ⟨E, HE⟩ : ∃ E, Hid (rE 6 zs = E) := ⟨_, rfl⟩
  rw [HL.out, HE.out]
  rw [HL.out, HE.out] at HR
  rw [HL.out] at KH
  have hlc : Hid (L.length = 2) := Hid.mk' (K10.hd_len (KH.out.2.2.2.2.2.2.2 rfl))
  have hone : Hid (L.toArray.all (·.oneCell') = true) := Hid.mk' (K10.hd_one (KH.out.2.2.2.2.2.2.2 rfl))
  have HH := Hid.mk' (hk_hh KH.out)
  obtain ⟨H, HHk⟩ : ∃ H, Hid (hk 6 L = H) := ⟨_, rfl⟩
  have hbl : Hid (Tryz.prog.built 46 [(0, .int .u8 6), (6, .agg L.toArray)] = some H.toArray) := by rw [← HHk.out]; exact built_6 L hlc.out
  rw [HHk.out] at HH
  rw [HHk.out]
  have hh73 := Hid.mk' (hh_len HH.out)
  have hh1 := Hid.mk' (hh_one HH.out)
  have hs73 : Hid (H.toArray.size = 73) := Hid.mk' (by rw [List.size_toArray]; exact hh73.out)
  clear hz' hB hc HL HE KH
  go_enter Tryz.func77, Tryz.ntmps77
  go_wp2_with fail
  refine (HR.out _ J1.out).mono ?_
  rintro e w2 ⟨rfl, b2⟩
  have J2 := Hid.mk' (J1.out.below b2)
  clear b2 J1 HR
  go_wp2_with (first | refine wpList_store_new rfl 44 _ _ rfl _ _ L rfl rfl (by rw [hlc.out]; rfl) (by rw [hlc.out]; exact K10.info_hd) hone.out ?_)
  obtain ⟨w3, hw3⟩ : ∃ w3, w3 = w2.alloc (.cells L.toArray 44) := ⟨_, rfl⟩
  rw [← hw3]
  have R3 : Hid (w3.heap[w2.heap.size]? = some (.cells L.toArray 44 (0, 0))) := by rw [hw3]; exact heap_alloc_new w2 _
  have J3 : Hid (HJ w w3) := by rw [hw3]; exact J2.out.below ((Below.refl _ _).alloc (Nat.le_refl _) _)
  clear hw3
  refine wp_region_held_drew (S := fun u => u.heap[w2.heap.size]? = some (.cells L.toArray 44 (0, 0)) ∧ HJ w u) (by kernel_rfl) ⟨R3.out, J3.out.dr ⟨1, rfl⟩⟩ (fun hHeld => ?_)
  change wpAnyH _ _ _ _ _ 7 #[false, false, false, false, false, false, false] _ _
  refine held_take 0 12 (.agg L.toArray) rfl rfl (by kernel_rfl) (by kernel_rfl) (by kernel_rfl) (fun _ _ _ h => h) (yieldsIf_load_mid (by rfl) 44 _ rfl w2.heap.size 0 rfl L _ (fun u hu => range_block hu.1) Tryz.underlying44 rfl (by rw [hlc.out]; exact K10.info_hd)) hHeld ?_
  simp only [Act.put, List.setIfInBounds_toArray, List.set_cons_zero, List.set_cons_succ]
  refine held_take 1 13 (.agg H.toArray) rfl rfl (by kernel_rfl) (by kernel_rfl) (by kernel_rfl) (fun _ _ _ h => h) (yieldsIf_build (by rfl) 46 #[(0, .const (.int .u8 6)), (6, .tmp 12)] rfl H.toArray ?_) hHeld ?_
  · simpa [Act.eval] using hbl.out
  simp only [Act.put, List.setIfInBounds_toArray, List.set_cons_zero, List.set_cons_succ]
  refine held_take 3 15 (.int .i64 E) rfl rfl (by kernel_rfl) (by kernel_rfl) (by kernel_rfl) (fun _ _ _ h => h) (Or.inl ⟨by rfl, fun u hu => ?_⟩) hHeld ?_
  · go_simp
  simp only [Act.put, List.setIfInBounds_toArray, List.set_cons_zero, List.set_cons_succ]
  refine held_one 2 (by kernel_rfl) rfl (fun K hK => ?_)
  go_simp
  go_wp2_with (first | (go_at_call 79; refine (K10.lsize_any w3.drew).mono ?_; rintro e w8 ⟨rfl, rfl⟩))
  refine hK.out _ _ hHeld (fun _ => ?_)
  clear hK K
  try simp only [List.setIfInBounds_toArray, List.set_cons_zero, List.set_cons_succ]
  refine held_one 4 (by kernel_rfl) rfl (fun K hK => ?_)
  refine step_store_box rfl rfl 46 _ _ rfl w.heap.size H rfl rfl (by rw [hs73.out]; exact hHeld.2.there) (by rw [hh73.out]; exact info_hh) hh1.out ?_
  obtain ⟨D1, D2, D3⟩ := hHeld.2.done H hh73.out
  have hlt := J2.out.lt
  have hne : ¬ w2.heap.size = w.heap.size := by omega
  have hHeld3 : (w3.drew.setCells w.heap.size 0 H).heap[w2.heap.size]? = some (.cells L.toArray 44 (0, 0)) ∧ HJ w (w3.drew.setCells w.heap.size 0 H) := ⟨(D3.block _ (Array.getElem?_eq_some_iff.1 hHeld.1).1 hne).trans hHeld.1, ⟨⟨H, hh73.out, D1⟩, D2⟩⟩
  refine hK.out _ _ hHeld3 (fun _ => ?_)
  clear hK K
  try simp only [List.setIfInBounds_toArray, List.set_cons_zero, List.set_cons_succ]
  refine held_take 5 3 (.int .i64 8) rfl rfl (by kernel_rfl) (by kernel_rfl) (by kernel_rfl) (fun _ _ _ h => h) (Or.inl ⟨by rfl, fun u hu => ?_⟩) hHeld3 ?_
  · go_simp
  simp only [Act.put, List.setIfInBounds_toArray, List.set_cons_zero, List.set_cons_succ]
  refine held_take 6 4 (.int .i64 E) rfl rfl (by kernel_rfl) (by kernel_rfl) (by kernel_rfl) (fun _ _ _ h => h) (Or.inl ⟨by rfl, fun u hu => ?_⟩) hHeld3 ?_
  · go_simp
  simp only [Act.put, List.setIfInBounds_toArray, List.set_cons_zero, List.set_cons_succ]
  refine wpAnyH_done (by kernel_rfl) ?_ _
  go_wp2
  refine ret_cell_tmp2 rfl w.heap.size 46 H (0, 0) _ rfl D1 Tryz.underlying46 rfl (by rw [hh73.out]; exact info_hh) rfl ?_
  exact ⟨rfl, D2⟩

set_option maxRecDepth 10000

/-- A call ends with a struct that lies in a block. -/
theorem ret_cell {fn : Func} {p : Tmp} {ty : TypeId} {R : Ending → World → Prop} {a : Act} {w : World} (hres : fn.results = #[.cell p ty]) (g : Nat) (t : TypeId) (L : List Value) (fr : Nat × Nat) (d : TypeDesc)
    (hp : a.tmps.getD p undef = .pointer (some ⟨g, 0, none⟩)) (hg : w.heap[g]? = some (.cells L.toArray t fr)) (hu : Tryz.prog.underlying ty = some d) (hd : d.isRow = true) (hi : (Tryz.prog.info? ty).map (·.size) = some L.length)
    (hdf : a.defers = []) (hR : R (.returned (.agg L.toArray)) w) : bodyPost Tryz.prog fn R .ret a w := by
  refine bodyPost_ret ?_ hdf hR
  have hp' : a.tmps[p]?.getD undef = .pointer (some ⟨g, 0, none⟩) := by simpa using hp
  simp [results, hres, hp', asAddr, run_loadVar_mid w g 0 ty L d (range_block hg) hu hd hi]

/-- The functions that are kept in the array. -/
def rdF : List Value := [.nilFunc, .func (.func 62) #[] #[], .func (.func 65) #[] #[], .func (.func 68) #[] #[], .func (.func 71) #[] #[], .func (.func 74) #[] #[], .func (.func 77) #[] #[]]

set_option maxHeartbeats 1000000 in
theorem readers_any (w : World) : Calls Tryz.prog 48 #[] w fun e w' => e = .returned (.agg rdF.toArray) ∧ Below w.heap.size w w' := by
  go_enter Tryz.func48, Tryz.ntmps48
  go_wp2_with (first | refine wpList_store_new rfl 109 _ _ rfl _ _ rdF rfl rfl rfl (by kernel_rfl) (by kernel_rfl) ?_)
  refine ret_cell rfl w.heap.size 109 rdF (0, 0) _ rfl (heap_alloc_new w _) Tryz.underlying109 rfl (by kernel_rfl) rfl ?_
  exact ⟨rfl, (Below.refl _ _).alloc (Nat.le_refl _) _⟩

/-- What is found: a head and its range. -/
theorem built_found (H : List Value) (x y : Int) (h : H.length = 73) : Tryz.prog.built 89 [(0, .agg H.toArray), (1, .agg #[.int .i64 x, .int .i64 y])] = some (H ++ [Value.int .i64 x, Value.int .i64 y]).toArray := by
  have e : Tryz.prog.built 89 [(0, .agg H.toArray), (1, .agg #[.int .i64 x, .int .i64 y])] = Instr.fill (fun i => (#[(0, 73), (73, 2)] : Array (Nat × Nat))[i]?) (hz ++ [Value.int .i64 0, Value.int .i64 0]).toArray [(0, .agg H.toArray), (1, .agg #[.int .i64 x, .int .i64 y])] := by kernel_rfl
  have hl : (hz ++ [Value.int .i64 0, .int .i64 0]).length = 75 := by rw [List.length_append, hz_len]; rfl
  rw [e, fill_cons _ _ 0 0 H _ _ rfl (by rw [h]; rfl) (by rw [hl, h]; omega), fill_cons _ _ 1 73 [.int .i64 x, .int .i64 y] _ _ rfl rfl (by rw [put_length _ _ _ (by rw [hl, h]; omega), hl]; simp), Instr.fill]
  congr 2
  rw [put_head hz _ H (by rw [h, hz_len])]
  unfold put
  rw [← h, List.take_left]
  simp

/-- A row of one head, of two, of what is found. -/
theorem bslice_1 (H : List Value) (h : H.length = 73) : Tryz.prog.builtSlice 46 1 [(0, .agg H.toArray)] = some H.toArray := by
  have e : Tryz.prog.builtSlice 46 1 [(0, .agg H.toArray)] = Instr.fill (fun i => some (i * 73, 73)) hz.toArray [(0, .agg H.toArray)] := by kernel_rfl
  rw [e, fill_cons _ _ 0 0 H _ _ rfl (by rw [h]) (by rw [hz_len, h]; omega), Instr.fill, put_all hz H (by rw [hz_len, h])]

theorem bslice_2 (H J : List Value) (h : H.length = 73) (j : J.length = 73) : Tryz.prog.builtSlice 46 2 [(0, .agg H.toArray), (1, .agg J.toArray)] = some (H ++ J).toArray := by
  have e : Tryz.prog.builtSlice 46 2 [(0, .agg H.toArray), (1, .agg J.toArray)] = Instr.fill (fun i => some (i * 73, 73)) (hz ++ hz).toArray [(0, .agg H.toArray), (1, .agg J.toArray)] := by kernel_rfl
  have hl : (hz ++ hz).length = 146 := by rw [List.length_append, hz_len]
  rw [e, fill_cons _ _ 0 0 H _ _ rfl (by rw [h]) (by rw [hl, h]; omega), put_head hz hz H (by rw [h, hz_len]), fill_cons _ _ 1 73 J _ _ rfl (by rw [j]) (by rw [List.length_append, h, hz_len, j]; omega), Instr.fill]
  congr 2
  unfold put
  rw [← h, List.take_left, j, ← hz_len, h, ← h, ← List.length_append, List.drop_length, List.append_nil]

theorem bslice_f (F : List Value) (h : F.length = 75) : Tryz.prog.builtSlice 89 1 [(0, .agg F.toArray)] = some F.toArray := by
  have e : Tryz.prog.builtSlice 89 1 [(0, .agg F.toArray)] = Instr.fill (fun i => some (i * 75, 75)) (hz ++ [Value.int .i64 0, Value.int .i64 0]).toArray [(0, .agg F.toArray)] := by kernel_rfl
  have hl : (hz ++ [Value.int .i64 0, .int .i64 0]).length = 75 := by rw [List.length_append, hz_len]; rfl
  rw [e, fill_cons _ _ 0 0 F _ _ rfl (by rw [h]) (by rw [hl, h]; omega), Instr.fill, put_all _ F (by rw [hl, h])]

set_option maxRecDepth 10000

/-- What the document's Read tells: a head of noughts where there is an error. -/
def rH (k : Int) (zs : List Int) : List Value := if rE k zs = 0 then hk k (rL k zs) else hz

def mdH (H : List Value) (E : Int) : List Value := if E = 0 then H else hz

set_option maxHeartbeats 1000000 in
theorem made_any (H : List Value) (E : Int) (w : World) (h : Hh H) : Calls Tryz.prog 119 #[.agg H.toArray, .int .i64 E] w fun e w' => e = .returned (.tuple #[.agg (mdH H E).toArray, .int .i64 E]) ∧ Below w.heap.size w w' := by
  have hh73 := Hid.mk' (hh_len h)
  have hh1 := Hid.mk' (hh_one h)
  have h731 := Hid.mk' (hh_one hz_hh)
  have hs73 : Hid (H.toArray.size = 73) := Hid.mk' (by rw [List.size_toArray]; exact hh73.out)
  have J1 : Hid (HJ (w.alloc (.cells H.toArray 46)) ((w.alloc (.cells H.toArray 46)).alloc (.cells hz.toArray 46))) := HJ.first _
  have R1 : Hid (((w.alloc (.cells H.toArray 46)).alloc (.cells hz.toArray 46)).heap[w.heap.size]? = some (.cells H.toArray 46 (0, 0))) := Hid.mk' (heap_alloc2_old w _ _)
  have B0 : Below w.heap.size w (w.alloc (.cells H.toArray 46)) := (Below.refl _ _).alloc (Nat.le_refl _) _
  have hsz : (w.alloc (.cells H.toArray 46)).heap.size = w.heap.size + 1 := by simp
  unfold mdH
  by_cases hE : E = 0
  · subst hE
    rw [if_pos rfl]
    obtain ⟨D1, D2, -⟩ := J1.out.done H hh73.out
    have TH := J1.out.there
    rw [hsz] at D1 D2 TH
    have B2 := B0.trans (D2.mono (by omega))
    have HD1 := Hid.mk' D1
    have HT := Hid.mk' TH
    have HB2 := Hid.mk' B2
    clear D1 D2 TH B2 B0 hsz J1
    go_enter Tryz.func119, Tryz.ntmps119
    go_wp2_with (first | refine wpList_load_mid rfl 46 _ rfl w.heap.size 0 rfl H _ (range_block R1.out) Tryz.underlying46 rfl (by rw [hh73.out]; exact info_hh) ?_ | refine wpList_store_mid rfl 46 _ _ rfl (w.heap.size + 1) 0 H.toArray rfl rfl (by rw [hs73.out]; exact HT.out) (by rw [hs73.out]; exact info_hh) hh1.out ?_)
    refine ret_cell_tmp rfl (w.heap.size + 1) 46 H (0, 0) _ rfl HD1.out Tryz.underlying46 rfl (by rw [hh73.out]; exact info_hh) rfl ?_
    exact ⟨rfl, HB2.out⟩
  · rw [if_neg hE]
    have hEb : (E == 0) = false := by simpa using hE
    have hbz : Hid (Tryz.prog.built 46 [] = some hz.toArray) := Hid.mk' (by rw [built_head, Instr.fill])
    have hz73 := Hid.mk' hz_len
    have JD : Hid (∀ Z : List Value, Z.length = 73 → ((((w.alloc (.cells H.toArray 46)).alloc (.cells hz.toArray 46)).setCells (w.heap.size + 1) 0 Z).heap[w.heap.size + 1]? = some (.cells Z.toArray 46 (0, 0))) ∧ Below w.heap.size w (((w.alloc (.cells H.toArray 46)).alloc (.cells hz.toArray 46)).setCells (w.heap.size + 1) 0 Z)) := Hid.mk' (fun Z hZ => by
      obtain ⟨D1, D2, -⟩ := J1.out.done Z hZ
      rw [hsz] at D1 D2
      exact ⟨D1, B0.trans (D2.mono (by omega))⟩)
    have TH := J1.out.there
    rw [hsz] at TH
    have HT := Hid.mk' TH
    obtain ⟨Z, HZ⟩ : ∃ Z, Hid (hz = Z) := ⟨_, rfl⟩
    have hZ73 : Hid (Z.length = 73) := by rw [← HZ.out]; exact hz73
    have hZs : Hid (Z.toArray.size = 73) := Hid.mk' (by rw [List.size_toArray]; exact hZ73.out)
    rw [HZ.out] at h731 hbz
    rw [HZ.out]
    clear TH B0 hsz J1 hz73 HZ
    go_enter Tryz.func119, Tryz.ntmps119
    go_wp2_with (first | refine wpList_buildTo rfl 46 #[] rfl (some 8) rfl Z.toArray (by simpa [Act.eval, Act.put] using hbz.out) ?_ | refine wpList_store_mid rfl 46 _ _ rfl (w.heap.size + 1) 0 Z.toArray rfl rfl (by rw [hZs.out]; exact HT.out) (by rw [hZs.out]; exact info_hh) h731.out ?_)
    refine ret_cell_tmp rfl (w.heap.size + 1) 46 Z (0, 0) _ rfl (JD.out Z hZ73.out).1 Tryz.underlying46 rfl (by rw [hZ73.out]; exact info_hh) rfl ?_
    exact ⟨rfl, (JD.out Z hZ73.out).2⟩

set_option maxHeartbeats 1000000 in
theorem rread_1 (a : Option Addr) (n c : Nat) (zs : List Int) (w : World) (hz' : zs.length = n) (hB : Bs w a zs) (_hc : n ≤ c) :
    Calls Tryz.prog 60 #[.slice a n c, .int .u8 1] w fun e w' => e = .returned (.tuple #[.agg (rH 1 zs).toArray, .int .i64 (rE 1 zs)]) ∧ Below w.heap.size w w' := by
  have KH := Hid.mk' (rL_hd (k := 1) (by omega) (by omega) hB.bytes)
  have J1 := Hid.mk' (HJ.first w)
  have HR : Hid (∀ u, HJ w u → Calls Tryz.prog 118 #[.slice a n c] u fun e w' => e = .returned (.tuple #[.agg (rL 1 zs).toArray, .int .i64 (rE 1 zs)]) ∧ Below u.heap.size u w') := Hid.mk' (fun u h => K05.rread_any a n c zs u hz' (hB.below h.old))
  have HM : Hid (rH 1 zs = mdH (hk 1 (rL 1 zs)) (rE 1 zs)) := rfl
  rw [HM.out]
  obtain ⟨L, HL⟩ : ∃ L, Hid (rL 1 zs = L) := ⟨_, rfl⟩
  obtain ⟨E, HE⟩ : ∃ E, Hid (rE 1 zs = E) := ⟨_, rfl⟩
  rw [HL.out, HE.out]
  rw [HL.out, HE.out] at HR
  rw [HL.out] at KH
  have hlc : Hid (L.length = 13) := Hid.mk' (lhd_len (KH.out.2.2.1 rfl))
  have hone : Hid (L.toArray.all (·.oneCell') = true) := Hid.mk' (lhd_one (KH.out.2.2.1 rfl))
  have HH := Hid.mk' (hk_hh KH.out)
  obtain ⟨H, HHk⟩ : ∃ H, Hid (hk 1 L = H) := ⟨_, rfl⟩
  have hbl : Hid (Tryz.prog.built 46 [(0, .int .u8 1), (1, .agg L.toArray)] = some H.toArray) := by rw [← HHk.out]; exact built_1 L hlc.out
  rw [HHk.out] at HH
  rw [HHk.out]
  have KM : Hid (Hh (mdH H E)) := Hid.mk' (by unfold mdH; split; exact HH.out; exact hz_hh)
  obtain ⟨M, HMM⟩ : ∃ M, Hid (mdH H E = M) := ⟨_, rfl⟩
  have HD : Hid (∀ u, Calls Tryz.prog 119 #[.agg H.toArray, .int .i64 E] u fun e w' => e = .returned (.tuple #[.agg (mdH H E).toArray, .int .i64 E]) ∧ Below u.heap.size u w') := Hid.mk' (fun u => made_any H E u HH.out)
  rw [HMM.out] at KM HD
  rw [HMM.out]
  have hm73 := Hid.mk' (hh_len KM.out)
  have hm1 := Hid.mk' (hh_one KM.out)
  have hms : Hid (M.toArray.size = 73) := Hid.mk' (by rw [List.size_toArray]; exact hm73.out)
  clear hz' hB HL HE KH HM HMM HHk
  go_enter Tryz.func60, Tryz.ntmps60
  go_wp2_with fail
  refine (HR.out _ J1.out).mono ?_
  rintro e w2 ⟨rfl, b2⟩
  have J2 := Hid.mk' (J1.out.below b2)
  have R3 : Hid ((w2.alloc (.cells L.toArray 31)).heap[w2.heap.size]? = some (.cells L.toArray 31 (0, 0))) := Hid.mk' (heap_alloc_new w2 _)
  have J3 : Hid (HJ w (w2.alloc (.cells L.toArray 31))) := Hid.mk' (J2.out.below ((Below.refl _ _).alloc (Nat.le_refl _) _))
  clear b2 J1 HR J2
  go_wp2_with (first
    | refine wpList_store_new rfl 31 _ _ rfl _ _ L rfl rfl (by rw [hlc.out]; rfl) (by rw [hlc.out]; exact K05.info_lk) hone.out ?_
    | refine wpList_load_mid rfl 31 _ rfl w2.heap.size 0 rfl L _ (range_block R3.out) Tryz.underlying31 rfl (by rw [hlc.out]; exact K05.info_lk) ?_
    | refine wpList_buildTo rfl 46 #[(0, .const (.int .u8 1)), (1, .tmp 26)] rfl (some 27) rfl H.toArray (by simpa [Act.eval, Act.put] using hbl.out) ?_
    | (go_at_call 119; refine (HD.out _).mono ?_; rintro e w4 ⟨rfl, b4⟩; have J4 := Hid.mk' (J3.out.below b4); have T4 : Hid (w4.there w.heap.size 0 M.toArray.size) := Hid.mk' (by rw [hms.out]; exact J4.out.there); clear b4)
    | refine wpList_store_mid rfl 46 _ _ rfl w.heap.size 0 M.toArray rfl rfl T4.out (by rw [hms.out]; exact info_hh) hm1.out ?_)
  obtain ⟨D1, D2, -⟩ := J4.out.done M hm73.out
  refine ret_cell_tmp rfl w.heap.size 46 M (0, 0) _ rfl D1 Tryz.underlying46 rfl (by rw [hm73.out]; exact info_hh) rfl ?_
  exact ⟨rfl, D2⟩

set_option maxHeartbeats 1000000 in
theorem rread_2 (a : Option Addr) (n c : Nat) (zs : List Int) (w : World) (hz' : zs.length = n) (hB : Bs w a zs) (hc : n ≤ c) :
    Calls Tryz.prog 60 #[.slice a n c, .int .u8 2] w fun e w' => e = .returned (.tuple #[.agg (rH 2 zs).toArray, .int .i64 (rE 2 zs)]) ∧ Below w.heap.size w w' := by
  have KH := Hid.mk' (rL_hd (k := 2) (by omega) (by omega) hB.bytes)
  have J1 := Hid.mk' (HJ.first w)
  have HR : Hid (∀ u, HJ w u → Calls Tryz.prog 120 #[.slice a n c] u fun e w' => e = .returned (.tuple #[.agg (rL 2 zs).toArray, .int .i64 (rE 2 zs)]) ∧ Below u.heap.size u w') := Hid.mk' (fun u h => K06.h_rread a n c zs u hz' (hB.below h.old) hc)
  have HM : Hid (rH 2 zs = mdH (hk 2 (rL 2 zs)) (rE 2 zs)) := rfl
  rw [HM.out]
  obtain ⟨L, HL⟩ : ∃ L, Hid (rL 2 zs = L) := ⟨_, rfl⟩
  obtain ⟨E, HE⟩ : ∃ E, Hid (rE 2 zs = E) := ⟨_, rfl⟩
  rw [HL.out, HE.out]
  rw [HL.out, HE.out] at HR
  rw [HL.out] at KH
  have hlc : Hid (L.length = 3) := Hid.mk' (K06.hd_len (KH.out.2.2.2.1 rfl))
  have hone : Hid (L.toArray.all (·.oneCell') = true) := Hid.mk' (K06.hd_one (KH.out.2.2.2.1 rfl))
  have HH := Hid.mk' (hk_hh KH.out)
  obtain ⟨H, HHk⟩ : ∃ H, Hid (hk 2 L = H) := ⟨_, rfl⟩
  have hbl : Hid (Tryz.prog.built 46 [(0, .int .u8 2), (2, .agg L.toArray)] = some H.toArray) := by rw [← HHk.out]; exact built_2 L hlc.out
  rw [HHk.out] at HH
  rw [HHk.out]
  have KM : Hid (Hh (mdH H E)) := Hid.mk' (by unfold mdH; split; exact HH.out; exact hz_hh)
  obtain ⟨M, HMM⟩ : ∃ M, Hid (mdH H E = M) := ⟨_, rfl⟩
  have HD : Hid (∀ u, Calls Tryz.prog 119 #[.agg H.toArray, .int .i64 E] u fun e w' => e = .returned (.tuple #[.agg (mdH H E).toArray, .int .i64 E]) ∧ Below u.heap.size u w') := Hid.mk' (fun u => made_any H E u HH.out)
  rw [HMM.out] at KM HD
  rw [HMM.out]
  have hm73 := Hid.mk' (hh_len KM.out)
  have hm1 := Hid.mk' (hh_one KM.out)
  have hms : Hid (M.toArray.size = 73) := Hid.mk' (by rw [List.size_toArray]; exact hm73.out)
  clear hz' hB hc HL HE KH HM HMM HHk
  go_enter Tryz.func60, Tryz.ntmps60
  go_wp2_with fail
  refine (HR.out _ J1.out).mono ?_
  rintro e w2 ⟨rfl, b2⟩
  have J2 := Hid.mk' (J1.out.below b2)
  have R3 : Hid ((w2.alloc (.cells L.toArray 33)).heap[w2.heap.size]? = some (.cells L.toArray 33 (0, 0))) := Hid.mk' (heap_alloc_new w2 _)
  have J3 : Hid (HJ w (w2.alloc (.cells L.toArray 33))) := Hid.mk' (J2.out.below ((Below.refl _ _).alloc (Nat.le_refl _) _))
  clear b2 J1 HR J2
  go_wp2_with (first
    | refine wpList_store_new rfl 33 _ _ rfl _ _ L rfl rfl (by rw [hlc.out]; rfl) (by rw [hlc.out]; exact K06.info_hd) hone.out ?_
    | refine wpList_load_mid rfl 33 _ rfl w2.heap.size 0 rfl L _ (range_block R3.out) Tryz.underlying33 rfl (by rw [hlc.out]; exact K06.info_hd) ?_
    | refine wpList_buildTo rfl 46 #[(0, .const (.int .u8 2)), (2, .tmp 39)] rfl (some 40) rfl H.toArray (by simpa [Act.eval, Act.put] using hbl.out) ?_
    | (go_at_call 119; refine (HD.out _).mono ?_; rintro e w4 ⟨rfl, b4⟩; have J4 := Hid.mk' (J3.out.below b4); have T4 : Hid (w4.there w.heap.size 0 M.toArray.size) := Hid.mk' (by rw [hms.out]; exact J4.out.there); clear b4)
    | refine wpList_store_mid rfl 46 _ _ rfl w.heap.size 0 M.toArray rfl rfl T4.out (by rw [hms.out]; exact info_hh) hm1.out ?_)
  obtain ⟨D1, D2, -⟩ := J4.out.done M hm73.out
  refine ret_cell_tmp rfl w.heap.size 46 M (0, 0) _ rfl D1 Tryz.underlying46 rfl (by rw [hm73.out]; exact info_hh) rfl ?_
  exact ⟨rfl, D2⟩

set_option maxHeartbeats 1000000 in
theorem rread_3 (a : Option Addr) (n c : Nat) (zs : List Int) (w : World) (hz' : zs.length = n) (hB : Bs w a zs) (hc : n ≤ c) :
    Calls Tryz.prog 60 #[.slice a n c, .int .u8 3] w fun e w' => e = .returned (.tuple #[.agg (rH 3 zs).toArray, .int .i64 (rE 3 zs)]) ∧ Below w.heap.size w w' := by
  have KH := Hid.mk' (rL_hd (k := 3) (by omega) (by omega) hB.bytes)
  have J1 := Hid.mk' (HJ.first w)
  have HR : Hid (∀ u, HJ w u → Calls Tryz.prog 121 #[.slice a n c] u fun e w' => e = .returned (.tuple #[.agg (rL 3 zs).toArray, .int .i64 (rE 3 zs)]) ∧ Below u.heap.size u w') := Hid.mk' (fun u h => K07.h_rread a n c zs u hz' (hB.below h.old) hc)
  have HM : Hid (rH 3 zs = mdH (hk 3 (rL 3 zs)) (rE 3 zs)) := rfl
  rw [HM.out]
  obtain ⟨L, HL⟩ : ∃ L, Hid (rL 3 zs = L) := ⟨_, rfl⟩
  obtain ⟨E, HE⟩ : ∃ E, Hid (rE 3 zs = E) := ⟨_, rfl⟩
  rw [HL.out, HE.out]
  rw [HL.out, HE.out] at HR
  rw [HL.out] at KH
  have hlc : Hid (L.length = 12) := Hid.mk' (K07.hd_len (KH.out.2.2.2.2.1 rfl))
  have hone : Hid (L.toArray.all (·.oneCell') = true) := Hid.mk' (K07.hd_one (KH.out.2.2.2.2.1 rfl))
  have HH := Hid.mk' (hk_hh KH.out)
  obtain ⟨H, HHk⟩ : ∃ H, Hid (hk 3 L = H) := ⟨_, rfl⟩
  have hbl : Hid (Tryz.prog.built 46 [(0, .int .u8 3), (3, .agg L.toArray)] = some H.toArray) := by rw [← HHk.out]; exact built_3 L hlc.out
  rw [HHk.out] at HH
  rw [HHk.out]
  have KM : Hid (Hh (mdH H E)) := Hid.mk' (by unfold mdH; split; exact HH.out; exact hz_hh)
  obtain ⟨M, HMM⟩ : ∃ M, Hid (mdH H E = M) := ⟨_, rfl⟩
  have HD : Hid (∀ u, Calls Tryz.prog 119 #[.agg H.toArray, .int .i64 E] u fun e w' => e = .returned (.tuple #[.agg (mdH H E).toArray, .int .i64 E]) ∧ Below u.heap.size u w') := Hid.mk' (fun u => made_any H E u HH.out)
  rw [HMM.out] at KM HD
  rw [HMM.out]
  have hm73 := Hid.mk' (hh_len KM.out)
  have hm1 := Hid.mk' (hh_one KM.out)
  have hms : Hid (M.toArray.size = 73) := Hid.mk' (by rw [List.size_toArray]; exact hm73.out)
  clear hz' hB hc HL HE KH HM HMM HHk
  go_enter Tryz.func60, Tryz.ntmps60
  go_wp2_with fail
  refine (HR.out _ J1.out).mono ?_
  rintro e w2 ⟨rfl, b2⟩
  have J2 := Hid.mk' (J1.out.below b2)
  have R3 : Hid ((w2.alloc (.cells L.toArray 36)).heap[w2.heap.size]? = some (.cells L.toArray 36 (0, 0))) := Hid.mk' (heap_alloc_new w2 _)
  have J3 : Hid (HJ w (w2.alloc (.cells L.toArray 36))) := Hid.mk' (J2.out.below ((Below.refl _ _).alloc (Nat.le_refl _) _))
  clear b2 J1 HR J2
  go_wp2_with (first
    | refine wpList_store_new rfl 36 _ _ rfl _ _ L rfl rfl (by rw [hlc.out]; rfl) (by rw [hlc.out]; exact K07.info_hd) hone.out ?_
    | refine wpList_load_mid rfl 36 _ rfl w2.heap.size 0 rfl L _ (range_block R3.out) Tryz.underlying36 rfl (by rw [hlc.out]; exact K07.info_hd) ?_
    | refine wpList_buildTo rfl 46 #[(0, .const (.int .u8 3)), (3, .tmp 52)] rfl (some 53) rfl H.toArray (by simpa [Act.eval, Act.put] using hbl.out) ?_
    | (go_at_call 119; refine (HD.out _).mono ?_; rintro e w4 ⟨rfl, b4⟩; have J4 := Hid.mk' (J3.out.below b4); have T4 : Hid (w4.there w.heap.size 0 M.toArray.size) := Hid.mk' (by rw [hms.out]; exact J4.out.there); clear b4)
    | refine wpList_store_mid rfl 46 _ _ rfl w.heap.size 0 M.toArray rfl rfl T4.out (by rw [hms.out]; exact info_hh) hm1.out ?_)
  obtain ⟨D1, D2, -⟩ := J4.out.done M hm73.out
  refine ret_cell_tmp rfl w.heap.size 46 M (0, 0) _ rfl D1 Tryz.underlying46 rfl (by rw [hm73.out]; exact info_hh) rfl ?_
  exact ⟨rfl, D2⟩

set_option maxHeartbeats 1000000 in
theorem rread_4 (a : Option Addr) (n c : Nat) (zs : List Int) (w : World) (hz' : zs.length = n) (hB : Bs w a zs) (hc : n ≤ c) :
    Calls Tryz.prog 60 #[.slice a n c, .int .u8 4] w fun e w' => e = .returned (.tuple #[.agg (rH 4 zs).toArray, .int .i64 (rE 4 zs)]) ∧ Below w.heap.size w w' := by
  have KH := Hid.mk' (rL_hd (k := 4) (by omega) (by omega) hB.bytes)
  have J1 := Hid.mk' (HJ.first w)
  have HR : Hid (∀ u, HJ w u → Calls Tryz.prog 122 #[.slice a n c] u fun e w' => e = .returned (.tuple #[.agg (rL 4 zs).toArray, .int .i64 (rE 4 zs)]) ∧ Below u.heap.size u w') := Hid.mk' (fun u h => K08.h_rread a n c zs u hz' (hB.below h.old) hc)
  have HM : Hid (rH 4 zs = mdH (hk 4 (rL 4 zs)) (rE 4 zs)) := rfl
  rw [HM.out]
  obtain ⟨L, HL⟩ : ∃ L, Hid (rL 4 zs = L) := ⟨_, rfl⟩
  obtain ⟨E, HE⟩ : ∃ E, Hid (rE 4 zs = E) := ⟨_, rfl⟩
  rw [HL.out, HE.out]
  rw [HL.out, HE.out] at HR
  rw [HL.out] at KH
  have hlc : Hid (L.length = 36) := Hid.mk' (K08.hd_len (KH.out.2.2.2.2.2.1 rfl))
  have hone : Hid (L.toArray.all (·.oneCell') = true) := Hid.mk' (K08.hd_one (KH.out.2.2.2.2.2.1 rfl))
  have HH := Hid.mk' (hk_hh KH.out)
  obtain ⟨H, HHk⟩ : ∃ H, Hid (hk 4 L = H) := ⟨_, rfl⟩
  have hbl : Hid (Tryz.prog.built 46 [(0, .int .u8 4), (4, .agg L.toArray)] = some H.toArray) := by rw [← HHk.out]; exact built_4 L hlc.out
  rw [HHk.out] at HH
  rw [HHk.out]
  have KM : Hid (Hh (mdH H E)) := Hid.mk' (by unfold mdH; split; exact HH.out; exact hz_hh)
  obtain ⟨M, HMM⟩ : ∃ M, Hid (mdH H E = M) := ⟨_, rfl⟩
  have HD : Hid (∀ u, Calls Tryz.prog 119 #[.agg H.toArray, .int .i64 E] u fun e w' => e = .returned (.tuple #[.agg (mdH H E).toArray, .int .i64 E]) ∧ Below u.heap.size u w') := Hid.mk' (fun u => made_any H E u HH.out)
  rw [HMM.out] at KM HD
  rw [HMM.out]
  have hm73 := Hid.mk' (hh_len KM.out)
  have hm1 := Hid.mk' (hh_one KM.out)
  have hms : Hid (M.toArray.size = 73) := Hid.mk' (by rw [List.size_toArray]; exact hm73.out)
  clear hz' hB hc HL HE KH HM HMM HHk
  go_enter Tryz.func60, Tryz.ntmps60
  go_wp2_with fail
  refine (HR.out _ J1.out).mono ?_
  rintro e w2 ⟨rfl, b2⟩
  have J2 := Hid.mk' (J1.out.below b2)
  have R3 : Hid ((w2.alloc (.cells L.toArray 40)).heap[w2.heap.size]? = some (.cells L.toArray 40 (0, 0))) := Hid.mk' (heap_alloc_new w2 _)
  have J3 : Hid (HJ w (w2.alloc (.cells L.toArray 40))) := Hid.mk' (J2.out.below ((Below.refl _ _).alloc (Nat.le_refl _) _))
  clear b2 J1 HR J2
  go_wp2_with (first
    | refine wpList_store_new rfl 40 _ _ rfl _ _ L rfl rfl (by rw [hlc.out]; rfl) (by rw [hlc.out]; exact K08.info_hd) hone.out ?_
    | refine wpList_load_mid rfl 40 _ rfl w2.heap.size 0 rfl L _ (range_block R3.out) Tryz.underlying40 rfl (by rw [hlc.out]; exact K08.info_hd) ?_
    | refine wpList_buildTo rfl 46 #[(0, .const (.int .u8 4)), (4, .tmp 65)] rfl (some 66) rfl H.toArray (by simpa [Act.eval, Act.put] using hbl.out) ?_
    | (go_at_call 119; refine (HD.out _).mono ?_; rintro e w4 ⟨rfl, b4⟩; have J4 := Hid.mk' (J3.out.below b4); have T4 : Hid (w4.there w.heap.size 0 M.toArray.size) := Hid.mk' (by rw [hms.out]; exact J4.out.there); clear b4)
    | refine wpList_store_mid rfl 46 _ _ rfl w.heap.size 0 M.toArray rfl rfl T4.out (by rw [hms.out]; exact info_hh) hm1.out ?_)
  obtain ⟨D1, D2, -⟩ := J4.out.done M hm73.out
  refine ret_cell_tmp rfl w.heap.size 46 M (0, 0) _ rfl D1 Tryz.underlying46 rfl (by rw [hm73.out]; exact info_hh) rfl ?_
  exact ⟨rfl, D2⟩

set_option maxHeartbeats 1000000 in
theorem rread_5 (a : Option Addr) (n c : Nat) (zs : List Int) (w : World) (hz' : zs.length = n) (hB : Bs w a zs) (hc : n ≤ c) :
    Calls Tryz.prog 60 #[.slice a n c, .int .u8 5] w fun e w' => e = .returned (.tuple #[.agg (rH 5 zs).toArray, .int .i64 (rE 5 zs)]) ∧ Below w.heap.size w w' := by
  have KH := Hid.mk' (rL_hd (k := 5) (by omega) (by omega) hB.bytes)
  have J1 := Hid.mk' (HJ.first w)
  have HR : Hid (∀ u, HJ w u → Calls Tryz.prog 123 #[.slice a n c] u fun e w' => e = .returned (.tuple #[.agg (rL 5 zs).toArray, .int .i64 (rE 5 zs)]) ∧ Below u.heap.size u w') := Hid.mk' (fun u h => K09.h_rread a n c zs u hz' (hB.below h.old) hc)
  have HM : Hid (rH 5 zs = mdH (hk 5 (rL 5 zs)) (rE 5 zs)) := rfl
  rw [HM.out]
  obtain ⟨L, HL⟩ : ∃ L, Hid (rL 5 zs = L) := ⟨_, rfl⟩
  obtain ⟨E, HE⟩ : ∃ E, Hid (rE 5 zs = E) := ⟨_, rfl⟩
  rw [HL.out, HE.out]
  rw [HL.out, HE.out] at HR
  rw [HL.out] at KH
  have hlc : Hid (L.length = 6) := Hid.mk' (K09.hd_len (KH.out.2.2.2.2.2.2.1 rfl))
  have hone : Hid (L.toArray.all (·.oneCell') = true) := Hid.mk' (K09.hd_one (KH.out.2.2.2.2.2.2.1 rfl))
  have HH := Hid.mk' (hk_hh KH.out)
  obtain ⟨H, HHk⟩ : ∃ H, Hid (hk 5 L = H) := ⟨_, rfl⟩
  have hbl : Hid (Tryz.prog.built 46 [(0, .int .u8 5), (5, .agg L.toArray)] = some H.toArray) := by rw [← HHk.out]; exact built_5 L hlc.out
  rw [HHk.out] at HH
  rw [HHk.out]
  have KM : Hid (Hh (mdH H E)) := Hid.mk' (by unfold mdH; split; exact HH.out; exact hz_hh)
  obtain ⟨M, HMM⟩ : ∃ M, Hid (mdH H E = M) := ⟨_, rfl⟩
  have HD : Hid (∀ u, Calls Tryz.prog 119 #[.agg H.toArray, .int .i64 E] u fun e w' => e = .returned (.tuple #[.agg (mdH H E).toArray, .int .i64 E]) ∧ Below u.heap.size u w') := Hid.mk' (fun u => made_any H E u HH.out)
  rw [HMM.out] at KM HD
  rw [HMM.out]
  have hm73 := Hid.mk' (hh_len KM.out)
  have hm1 := Hid.mk' (hh_one KM.out)
  have hms : Hid (M.toArray.size = 73) := Hid.mk' (by rw [List.size_toArray]; exact hm73.out)
  clear hz' hB hc HL HE KH HM HMM HHk
  go_enter Tryz.func60, Tryz.ntmps60
  go_wp2_with fail
  refine (HR.out _ J1.out).mono ?_
  rintro e w2 ⟨rfl, b2⟩
  have J2 := Hid.mk' (J1.out.below b2)
  have R3 : Hid ((w2.alloc (.cells L.toArray 42)).heap[w2.heap.size]? = some (.cells L.toArray 42 (0, 0))) := Hid.mk' (heap_alloc_new w2 _)
  have J3 : Hid (HJ w (w2.alloc (.cells L.toArray 42))) := Hid.mk' (J2.out.below ((Below.refl _ _).alloc (Nat.le_refl _) _))
  clear b2 J1 HR J2
  go_wp2_with (first
    | refine wpList_store_new rfl 42 _ _ rfl _ _ L rfl rfl (by rw [hlc.out]; rfl) (by rw [hlc.out]; exact K09.info_hd) hone.out ?_
    | refine wpList_load_mid rfl 42 _ rfl w2.heap.size 0 rfl L _ (range_block R3.out) Tryz.underlying42 rfl (by rw [hlc.out]; exact K09.info_hd) ?_
    | refine wpList_buildTo rfl 46 #[(0, .const (.int .u8 5)), (5, .tmp 78)] rfl (some 79) rfl H.toArray (by simpa [Act.eval, Act.put] using hbl.out) ?_
    | (go_at_call 119; refine (HD.out _).mono ?_; rintro e w4 ⟨rfl, b4⟩; have J4 := Hid.mk' (J3.out.below b4); have T4 : Hid (w4.there w.heap.size 0 M.toArray.size) := Hid.mk' (by rw [hms.out]; exact J4.out.there); clear b4)
    | refine wpList_store_mid rfl 46 _ _ rfl w.heap.size 0 M.toArray rfl rfl T4.out (by rw [hms.out]; exact info_hh) hm1.out ?_)
  obtain ⟨D1, D2, -⟩ := J4.out.done M hm73.out
  refine ret_cell_tmp rfl w.heap.size 46 M (0, 0) _ rfl D1 Tryz.underlying46 rfl (by rw [hm73.out]; exact info_hh) rfl ?_
  exact ⟨rfl, D2⟩

set_option maxHeartbeats 1000000 in
theorem rread_6 (a : Option Addr) (n c : Nat) (zs : List Int) (w : World) (hz' : zs.length = n) (hB : Bs w a zs) (hc : n ≤ c) :
    Calls Tryz.prog 60 #[.slice a n c, .int .u8 6] w fun e w' => e = .returned (.tuple #[.agg (rH 6 zs).toArray, .int .i64 (rE 6 zs)]) ∧ Below w.heap.size w w' := by
  have KH := Hid.mk' (rL_hd (k := 6) (by omega) (by omega) hB.bytes)
  have J1 := Hid.mk' (HJ.first w)
  have HR : Hid (∀ u, HJ w u → Calls Tryz.prog 124 #[.slice a n c] u fun e w' => e = .returned (.tuple #[.agg (rL 6 zs).toArray, .int .i64 (rE 6 zs)]) ∧ Below u.heap.size u w') := Hid.mk' (fun u h => K10.h_rread a n c zs u hz' (hB.below h.old) hc)
  have HM : Hid (rH 6 zs = mdH (hk 6 (rL 6 zs)) (rE 6 zs)) := rfl
  rw [HM.out]
  obtain ⟨L, HL⟩ : ∃ L, Hid (rL 6 zs = L) := ⟨_, rfl⟩
  obtain ⟨E, HE⟩ : ∃ E, Hid (rE 6 zs = E) := ⟨_, rfl⟩
  rw [HL.out, HE.out]
  rw [HL.out, HE.out] at HR
  rw [HL.out] at KH
  have hlc : Hid (L.length = 2) := Hid.mk' (K10.hd_len (KH.out.2.2.2.2.2.2.2 rfl))
  have hone : Hid (L.toArray.all (·.oneCell') = true) := Hid.mk' (K10.hd_one (KH.out.2.2.2.2.2.2.2 rfl))
  have HH := Hid.mk' (hk_hh KH.out)
  obtain ⟨H, HHk⟩ : ∃ H, Hid (hk 6 L = H) := ⟨_, rfl⟩
  have hbl : Hid (Tryz.prog.built 46 [(0, .int .u8 6), (6, .agg L.toArray)] = some H.toArray) := by rw [← HHk.out]; exact built_6 L hlc.out
  rw [HHk.out] at HH
  rw [HHk.out]
  have KM : Hid (Hh (mdH H E)) := Hid.mk' (by unfold mdH; split; exact HH.out; exact hz_hh)
  obtain ⟨M, HMM⟩ : ∃ M, Hid (mdH H E = M) := ⟨_, rfl⟩
  have HD : Hid (∀ u, Calls Tryz.prog 119 #[.agg H.toArray, .int .i64 E] u fun e w' => e = .returned (.tuple #[.agg (mdH H E).toArray, .int .i64 E]) ∧ Below u.heap.size u w') := Hid.mk' (fun u => made_any H E u HH.out)
  rw [HMM.out] at KM HD
  rw [HMM.out]
  have hm73 := Hid.mk' (hh_len KM.out)
  have hm1 := Hid.mk' (hh_one KM.out)
  have hms : Hid (M.toArray.size = 73) := Hid.mk' (by rw [List.size_toArray]; exact hm73.out)
  clear hz' hB hc HL HE KH HM HMM HHk
  go_enter Tryz.func60, Tryz.ntmps60
  go_wp2_with fail
  refine (HR.out _ J1.out).mono ?_
  rintro e w2 ⟨rfl, b2⟩
  have J2 := Hid.mk' (J1.out.below b2)
  have R3 : Hid ((w2.alloc (.cells L.toArray 44)).heap[w2.heap.size]? = some (.cells L.toArray 44 (0, 0))) := Hid.mk' (heap_alloc_new w2 _)
  have J3 : Hid (HJ w (w2.alloc (.cells L.toArray 44))) := Hid.mk' (J2.out.below ((Below.refl _ _).alloc (Nat.le_refl _) _))
  clear b2 J1 HR J2
  go_wp2_with (first
    | refine wpList_store_new rfl 44 _ _ rfl _ _ L rfl rfl (by rw [hlc.out]; rfl) (by rw [hlc.out]; exact K10.info_hd) hone.out ?_
    | refine wpList_load_mid rfl 44 _ rfl w2.heap.size 0 rfl L _ (range_block R3.out) Tryz.underlying44 rfl (by rw [hlc.out]; exact K10.info_hd) ?_
    | refine wpList_buildTo rfl 46 #[(0, .const (.int .u8 6)), (6, .tmp 89)] rfl (some 90) rfl H.toArray (by simpa [Act.eval, Act.put] using hbl.out) ?_
    | (go_at_call 119; refine (HD.out _).mono ?_; rintro e w4 ⟨rfl, b4⟩; have J4 := Hid.mk' (J3.out.below b4); have T4 : Hid (w4.there w.heap.size 0 M.toArray.size) := Hid.mk' (by rw [hms.out]; exact J4.out.there); clear b4)
    | refine wpList_store_mid rfl 46 _ _ rfl w.heap.size 0 M.toArray rfl rfl T4.out (by rw [hms.out]; exact info_hh) hm1.out ?_)
  obtain ⟨D1, D2, -⟩ := J4.out.done M hm73.out
  refine ret_cell_tmp rfl w.heap.size 46 M (0, 0) _ rfl D1 Tryz.underlying46 rfl (by rw [hm73.out]; exact info_hh) rfl ?_
  exact ⟨rfl, D2⟩

theorem rread_any (k : Int) (h0 : 1 ≤ k) (h1 : k ≤ 6) (a : Option Addr) (n c : Nat) (zs : List Int) (w : World) (hz' : zs.length = n) (hB : Bs w a zs) (hc : n ≤ c) :
    Calls Tryz.prog 60 #[.slice a n c, .int .u8 k] w fun e w' => e = .returned (.tuple #[.agg (rH k zs).toArray, .int .i64 (rE k zs)]) ∧ Below w.heap.size w w' := by
  rcases six h0 h1 with rfl | rfl | rfl | rfl | rfl | rfl
  · exact rread_1 a n c zs w hz' hB hc
  · exact rread_2 a n c zs w hz' hB hc
  · exact rread_3 a n c zs w hz' hB hc
  · exact rread_4 a n c zs w hz' hB hc
  · exact rread_5 a n c zs w hz' hB hc
  · exact rread_6 a n c zs w hz' hB hc

end Go.Proofs.YtednmdkjhiihcaaGreat
