/- Stage 12: the document's alone, and a header's bytes. (Made by a generator: six kinds.) -/
import Derived.Test.YtednmdkjhiihcaaGreatRg
namespace Go.Proofs.YtednmdkjhiihcaaGreat
open Go.ChangeShapes Go.WideShapes Go.ChangeAt Go.RowKit
set_option maxRecDepth 10000

/-- A head of a kind with no header. -/
def h0k (k : Int) : List Value := hC k K05.lk0 K06.hd0 K07.hd0 K08.hd0 K09.hd0 K10.hd0
theorem h0k_hh {k : Int} (h0 : 0 ≤ k) (h1 : k ≤ 255) : Hh (h0k k) := ⟨k, _, _, _, _, _, _, rfl, h0, h1, lhd_0, K06.hd_0, K07.hd_0, K08.hd_0, K09.hd_0, K10.hd_0⟩
theorem h0k_built (k : Int) : Tryz.prog.built 46 [(0, .int .u8 k)] = some (h0k k).toArray := by
  rw [built_head, fill_cons _ _ 0 0 [.int .u8 k] _ _ rfl rfl (by rw [hz_len]; simp), Instr.fill]
  rfl
/-- What alone answers. -/
def alo (H : List Value) : List Value := if 1 ≤ num H 0 ∧ num H 0 ≤ 6 then hk (num H 0) (pt (num H 0) H) else h0k (num H 0)

/-- Three blocks, laid one behind the other. -/
theorem blocks3 (w : World) (A B C : List Value) (t1 t2 t3 : TypeId) (u : World) (hu : u = ((w.alloc (.cells A.toArray t1)).alloc (.cells B.toArray t2)).alloc (.cells C.toArray t3)) :
    u.heap[w.heap.size]? = some (.cells A.toArray t1 (0, 0)) ∧ u.heap[w.heap.size + 1]? = some (.cells B.toArray t2 (0, 0)) ∧ u.heap[w.heap.size + 2]? = some (.cells C.toArray t3 (0, 0)) ∧ Below w.heap.size w u := by
  subst hu
  have b1 : Below w.heap.size w (w.alloc (.cells A.toArray t1)) := (Below.refl _ _).alloc (Nat.le_refl _) _
  have s1 : (w.alloc (.cells A.toArray t1)).heap.size = w.heap.size + 1 := by simp
  have s2 : ((w.alloc (.cells A.toArray t1)).alloc (.cells B.toArray t2)).heap.size = w.heap.size + 2 := by simp
  have r1 : (w.alloc (.cells A.toArray t1)).heap[w.heap.size]? = some (.cells A.toArray t1 (0, 0)) := heap_alloc_new w _
  have r2 : ((w.alloc (.cells A.toArray t1)).alloc (.cells B.toArray t2)).heap[w.heap.size + 1]? = some (.cells B.toArray t2 (0, 0)) := by rw [← s1]; exact heap_alloc_new _ _
  have r3 : (((w.alloc (.cells A.toArray t1)).alloc (.cells B.toArray t2)).alloc (.cells C.toArray t3)).heap[w.heap.size + 2]? = some (.cells C.toArray t3 (0, 0)) := by rw [← s2]; exact heap_alloc_new _ _
  refine ⟨?_, ?_, r3, ?_⟩
  · rw [Below.heap_alloc _ _ _ (by omega), Below.heap_alloc _ _ _ (by omega)]; exact r1
  · rw [Below.heap_alloc _ _ _ (by omega)]; exact r2
  · exact (b1.alloc b1.size _).alloc (by omega) _

theorem put_h0_1 (L : List Value) (h : L.length = 13) : put (h0k 1) 1 L = hk 1 L := by
  unfold put
  rw [h]
  rfl
theorem h_len_1 {L : List Value} (h : KHd 1 L) : L.length = 13 := lhd_len (h.2.2.1 rfl)
theorem h_one_1 {L : List Value} (h : KHd 1 L) : L.toArray.all (·.oneCell') = true := lhd_one (h.2.2.1 rfl)

set_option maxHeartbeats 1000000 in
theorem alone_1 (H : List Value) (w : World) (h : Hh H) (hn : num H 0 = 1) : Calls Tryz.prog 56 #[.agg H.toArray] w fun e w' => e = .returned (.agg (hk 1 (pt 1 H)).toArray) ∧ Below w.heap.size w w' := by
  have hh73 := Hid.mk' (hh_len h)
  obtain ⟨⟨a0, k0, k1⟩, -⟩ := hh_cells h
  rw [hn] at a0
  have A0 : H.toArray[0]? = some (.int .u8 1) := by simpa using a0
  have KH := pt_hd (k := 1) (by omega) (by omega) h
  have hlc := Hid.mk' (h_len_1 KH)
  have hone := Hid.mk' (h_one_1 KH)
  have H3 := Hid.mk' (h0k_hh (k := 1) (by omega) (by omega))
  have hp := Hid.mk' (put_h0_1 (pt 1 H) hlc.out)
  have HM := Hid.mk' (hk_hh KH)
  have RP : Hid (∀ u : World, u.heap[w.heap.size]? = some (.cells H.toArray 46 (0, 0)) → u.rangeAt w.heap.size 1 (pt 1 H)) := Hid.mk' (fun u hu => pt_range 1 hu)
  obtain ⟨L, HL⟩ : ∃ L, Hid (pt 1 H = L) := ⟨_, rfl⟩
  rw [HL.out] at hlc hone hp HM RP
  rw [HL.out]
  obtain ⟨Z, HZ⟩ : ∃ Z, Hid (h0k 1 = Z) := ⟨_, rfl⟩
  have hbl := Hid.mk' (h0k_built 1)
  rw [HZ.out] at hp H3 hbl
  have hz73 := Hid.mk' (hh_len H3.out)
  have hz1 := Hid.mk' (hh_one H3.out)
  obtain ⟨M, HMM⟩ : ∃ M, Hid (hk 1 L = M) := ⟨_, rfl⟩
  rw [HMM.out] at hp HM
  rw [HMM.out]
  have hm73 := Hid.mk' (hh_len HM.out)
  have hm1 := Hid.mk' (hh_one HM.out)
  have hms : Hid (M.toArray.size = 73) := Hid.mk' (by rw [List.size_toArray]; exact hm73.out)
  clear h KH HL HZ HMM H3 HM
  obtain ⟨u3, hu3⟩ : ∃ u3, u3 = ((w.alloc (.cells H.toArray 46)).alloc (.cells hz.toArray 46)).alloc (.cells Z.toArray 46) := ⟨_, rfl⟩
  obtain ⟨r1, r2, r3, B3⟩ := blocks3 w H hz Z 46 46 46 u3 hu3
  have R1 := Hid.mk' r1
  have R2 := Hid.mk' r2
  have R3 := Hid.mk' r3
  have HB3 := Hid.mk' B3
  have HU := Hid.mk' hu3
  have TH3 : Hid (u3.there (w.heap.size + 2) 1 L.toArray.size) := Hid.mk' (by
    intro j hj
    rw [List.size_toArray, hlc.out] at hj
    refine ⟨?_, frozen_of_row u3 (w.heap.size + 2) _ _ _ R3.out⟩
    rw [cell_of_row u3 (w.heap.size + 2) (1 + j) _ _ _ R3.out, List.getElem?_toArray, List.getElem?_eq_getElem (by rw [hz73.out]; omega)]; rfl)
  have hls : Hid (L.toArray.size = 13) := Hid.mk' (by rw [List.size_toArray]; exact hlc.out)
  have X4 : Hid ((u3.setCells (w.heap.size + 2) 1 L).heap[w.heap.size + 2]? = some (.cells M.toArray 46 (0, 0))) := Hid.mk' (by
    have := heap_put R3.out 1 L (by rw [hz73.out, hlc.out]; omega)
    rw [hp.out] at this; exact this)
  have K4 : Hid (Kept (fun j => j = w.heap.size + 2) u3 (u3.setCells (w.heap.size + 2) 1 L)) := Hid.mk' ((Kept.refl _ u3).setCells (w.heap.size + 2) 1 L (fun _ => rfl))
  clear r1 r2 r3 B3 hu3
  go_enter Tryz.func56, Tryz.ntmps56
  go_upto_region 2 with (first
    | refine wpList_buildTo rfl 46 #[(0, .tmp 5)] rfl (some 6) rfl Z.toArray (by simpa [Act.eval, Act.put] using hbl.out) ?_
    | refine wpList_store_newAt rfl 46 _ _ rfl _ hz Z (w.heap.size + 2) (by simp) (by rfl) (by rfl) (by rw [hz73.out, hz_len]) (by rw [hz73.out]; exact info_hh) hz1.out ?_)
  have hw : ((w.alloc (.cells H.toArray 46)).alloc (.cells Tryz.zeroCells46 46)).alloc (.cells Z.toArray 46) = u3 := HU.out.symm
  rw [hw]
  clear hw HU
  have c0 : u3.cell? ⟨w.heap.size, 0, none⟩ = some (.int .u8 1) := by rw [cell_of_row u3 w.heap.size 0 _ _ _ R1.out]; exact A0
  go_upto_region 15 with (first
    | refine wpList_load_mid rfl 31 _ rfl w.heap.size 1 (by rfl) L _ (RP.out _ R1.out) Tryz.underlying31 rfl (by rw [hlc.out]; exact K05.info_lk) ?_
    | refine wpList_store_mid rfl 31 _ _ rfl (w.heap.size + 2) 1 L.toArray (by rfl) (by rfl) TH3.out (by rw [hls.out]; exact K05.info_lk) hone.out ?_)
  generalize hg4 : u3.setCells (w.heap.size + 2) 1 L = u4 at X4 K4
  have hg4' : u3.setCells (w.heap.size + 2) 1 L.toArray.toList = u4 := hg4
  try (first | rw [hg4'] | rw [hg4])
  clear hg4 hg4'
  have R24 : Hid (u4.heap[w.heap.size + 1]? = some (.cells hz.toArray 46 (0, 0))) := Hid.mk' ((K4.out.block _ (Array.getElem?_eq_some_iff.1 R2.out).1 (by omega)).trans R2.out)
  have TH4 : Hid (u4.there (w.heap.size + 1) 0 M.toArray.size) := Hid.mk' (by have := there_block R24.out; rw [hz_len] at this; rw [hms.out]; exact this)
  have B4 : Hid (Below w.heap.size w u4) := Hid.mk' (HB3.out.trans (K4.out.below HB3.out.size (fun j hj => by omega)))
  go_wp2_with (first
    | refine wpList_load_mid rfl 46 _ rfl (w.heap.size + 2) 0 (by rfl) M _ (range_block X4.out) Tryz.underlying46 rfl (by rw [hm73.out]; exact info_hh) ?_
    | refine wpList_store_mid rfl 46 _ _ rfl (w.heap.size + 1) 0 M.toArray (by rfl) (by rfl) TH4.out (by rw [hms.out]; exact info_hh) hm1.out ?_)
  have kk : Kept (fun j => j = w.heap.size + 1) u4 (u4.setCells (w.heap.size + 1) 0 M) := (Kept.refl _ u4).setCells (w.heap.size + 1) 0 M (fun _ => rfl)
  refine ret_cell rfl (w.heap.size + 1) 46 M (0, 0) _ rfl (heap_whole (L := hz) R24.out (by rw [hm73.out, hz_len])) Tryz.underlying46 rfl (by rw [hm73.out]; exact info_hh) rfl ?_
  exact ⟨rfl, B4.out.trans (kk.below B4.out.size (fun j hj => by omega))⟩

theorem put_h0_2 (L : List Value) (h : L.length = 3) : put (h0k 2) 14 L = hk 2 L := by
  unfold put
  rw [h]
  rfl
theorem h_len_2 {L : List Value} (h : KHd 2 L) : L.length = 3 := K06.hd_len (h.2.2.2.1 rfl)
theorem h_one_2 {L : List Value} (h : KHd 2 L) : L.toArray.all (·.oneCell') = true := K06.hd_one (h.2.2.2.1 rfl)

set_option maxHeartbeats 1000000 in
theorem alone_2 (H : List Value) (w : World) (h : Hh H) (hn : num H 0 = 2) : Calls Tryz.prog 56 #[.agg H.toArray] w fun e w' => e = .returned (.agg (hk 2 (pt 2 H)).toArray) ∧ Below w.heap.size w w' := by
  have hh73 := Hid.mk' (hh_len h)
  obtain ⟨⟨a0, k0, k1⟩, -⟩ := hh_cells h
  rw [hn] at a0
  have A0 : H.toArray[0]? = some (.int .u8 2) := by simpa using a0
  have KH := pt_hd (k := 2) (by omega) (by omega) h
  have hlc := Hid.mk' (h_len_2 KH)
  have hone := Hid.mk' (h_one_2 KH)
  have H3 := Hid.mk' (h0k_hh (k := 2) (by omega) (by omega))
  have hp := Hid.mk' (put_h0_2 (pt 2 H) hlc.out)
  have HM := Hid.mk' (hk_hh KH)
  have RP : Hid (∀ u : World, u.heap[w.heap.size]? = some (.cells H.toArray 46 (0, 0)) → u.rangeAt w.heap.size 14 (pt 2 H)) := Hid.mk' (fun u hu => pt_range 2 hu)
  obtain ⟨L, HL⟩ : ∃ L, Hid (pt 2 H = L) := ⟨_, rfl⟩
  rw [HL.out] at hlc hone hp HM RP
  rw [HL.out]
  obtain ⟨Z, HZ⟩ : ∃ Z, Hid (h0k 2 = Z) := ⟨_, rfl⟩
  have hbl := Hid.mk' (h0k_built 2)
  rw [HZ.out] at hp H3 hbl
  have hz73 := Hid.mk' (hh_len H3.out)
  have hz1 := Hid.mk' (hh_one H3.out)
  obtain ⟨M, HMM⟩ : ∃ M, Hid (hk 2 L = M) := ⟨_, rfl⟩
  rw [HMM.out] at hp HM
  rw [HMM.out]
  have hm73 := Hid.mk' (hh_len HM.out)
  have hm1 := Hid.mk' (hh_one HM.out)
  have hms : Hid (M.toArray.size = 73) := Hid.mk' (by rw [List.size_toArray]; exact hm73.out)
  clear h KH HL HZ HMM H3 HM
  obtain ⟨u3, hu3⟩ : ∃ u3, u3 = ((w.alloc (.cells H.toArray 46)).alloc (.cells hz.toArray 46)).alloc (.cells Z.toArray 46) := ⟨_, rfl⟩
  obtain ⟨r1, r2, r3, B3⟩ := blocks3 w H hz Z 46 46 46 u3 hu3
  have R1 := Hid.mk' r1
  have R2 := Hid.mk' r2
  have R3 := Hid.mk' r3
  have HB3 := Hid.mk' B3
  have HU := Hid.mk' hu3
  have TH3 : Hid (u3.there (w.heap.size + 2) 14 L.toArray.size) := Hid.mk' (by
    intro j hj
    rw [List.size_toArray, hlc.out] at hj
    refine ⟨?_, frozen_of_row u3 (w.heap.size + 2) _ _ _ R3.out⟩
    rw [cell_of_row u3 (w.heap.size + 2) (14 + j) _ _ _ R3.out, List.getElem?_toArray, List.getElem?_eq_getElem (by rw [hz73.out]; omega)]; rfl)
  have hls : Hid (L.toArray.size = 3) := Hid.mk' (by rw [List.size_toArray]; exact hlc.out)
  have X4 : Hid ((u3.setCells (w.heap.size + 2) 14 L).heap[w.heap.size + 2]? = some (.cells M.toArray 46 (0, 0))) := Hid.mk' (by
    have := heap_put R3.out 14 L (by rw [hz73.out, hlc.out]; omega)
    rw [hp.out] at this; exact this)
  have K4 : Hid (Kept (fun j => j = w.heap.size + 2) u3 (u3.setCells (w.heap.size + 2) 14 L)) := Hid.mk' ((Kept.refl _ u3).setCells (w.heap.size + 2) 14 L (fun _ => rfl))
  clear r1 r2 r3 B3 hu3
  go_enter Tryz.func56, Tryz.ntmps56
  go_upto_region 2 with (first
    | refine wpList_buildTo rfl 46 #[(0, .tmp 5)] rfl (some 6) rfl Z.toArray (by simpa [Act.eval, Act.put] using hbl.out) ?_
    | refine wpList_store_newAt rfl 46 _ _ rfl _ hz Z (w.heap.size + 2) (by simp) (by rfl) (by rfl) (by rw [hz73.out, hz_len]) (by rw [hz73.out]; exact info_hh) hz1.out ?_)
  have hw : ((w.alloc (.cells H.toArray 46)).alloc (.cells Tryz.zeroCells46 46)).alloc (.cells Z.toArray 46) = u3 := HU.out.symm
  rw [hw]
  clear hw HU
  have c0 : u3.cell? ⟨w.heap.size, 0, none⟩ = some (.int .u8 2) := by rw [cell_of_row u3 w.heap.size 0 _ _ _ R1.out]; exact A0
  go_upto_region 15 with (first
    | refine wpList_load_mid rfl 33 _ rfl w.heap.size 14 (by rfl) L _ (RP.out _ R1.out) Tryz.underlying33 rfl (by rw [hlc.out]; exact K06.info_hd) ?_
    | refine wpList_store_mid rfl 33 _ _ rfl (w.heap.size + 2) 14 L.toArray (by rfl) (by rfl) TH3.out (by rw [hls.out]; exact K06.info_hd) hone.out ?_)
  generalize hg4 : u3.setCells (w.heap.size + 2) 14 L = u4 at X4 K4
  have hg4' : u3.setCells (w.heap.size + 2) 14 L.toArray.toList = u4 := hg4
  try (first | rw [hg4'] | rw [hg4])
  clear hg4 hg4'
  have R24 : Hid (u4.heap[w.heap.size + 1]? = some (.cells hz.toArray 46 (0, 0))) := Hid.mk' ((K4.out.block _ (Array.getElem?_eq_some_iff.1 R2.out).1 (by omega)).trans R2.out)
  have TH4 : Hid (u4.there (w.heap.size + 1) 0 M.toArray.size) := Hid.mk' (by have := there_block R24.out; rw [hz_len] at this; rw [hms.out]; exact this)
  have B4 : Hid (Below w.heap.size w u4) := Hid.mk' (HB3.out.trans (K4.out.below HB3.out.size (fun j hj => by omega)))
  go_wp2_with (first
    | refine wpList_load_mid rfl 46 _ rfl (w.heap.size + 2) 0 (by rfl) M _ (range_block X4.out) Tryz.underlying46 rfl (by rw [hm73.out]; exact info_hh) ?_
    | refine wpList_store_mid rfl 46 _ _ rfl (w.heap.size + 1) 0 M.toArray (by rfl) (by rfl) TH4.out (by rw [hms.out]; exact info_hh) hm1.out ?_)
  have kk : Kept (fun j => j = w.heap.size + 1) u4 (u4.setCells (w.heap.size + 1) 0 M) := (Kept.refl _ u4).setCells (w.heap.size + 1) 0 M (fun _ => rfl)
  refine ret_cell rfl (w.heap.size + 1) 46 M (0, 0) _ rfl (heap_whole (L := hz) R24.out (by rw [hm73.out, hz_len])) Tryz.underlying46 rfl (by rw [hm73.out]; exact info_hh) rfl ?_
  exact ⟨rfl, B4.out.trans (kk.below B4.out.size (fun j hj => by omega))⟩

theorem put_h0_3 (L : List Value) (h : L.length = 12) : put (h0k 3) 17 L = hk 3 L := by
  unfold put
  rw [h]
  rfl
theorem h_len_3 {L : List Value} (h : KHd 3 L) : L.length = 12 := K07.hd_len (h.2.2.2.2.1 rfl)
theorem h_one_3 {L : List Value} (h : KHd 3 L) : L.toArray.all (·.oneCell') = true := K07.hd_one (h.2.2.2.2.1 rfl)

set_option maxHeartbeats 1000000 in
theorem alone_3 (H : List Value) (w : World) (h : Hh H) (hn : num H 0 = 3) : Calls Tryz.prog 56 #[.agg H.toArray] w fun e w' => e = .returned (.agg (hk 3 (pt 3 H)).toArray) ∧ Below w.heap.size w w' := by
  have hh73 := Hid.mk' (hh_len h)
  obtain ⟨⟨a0, k0, k1⟩, -⟩ := hh_cells h
  rw [hn] at a0
  have A0 : H.toArray[0]? = some (.int .u8 3) := by simpa using a0
  have KH := pt_hd (k := 3) (by omega) (by omega) h
  have hlc := Hid.mk' (h_len_3 KH)
  have hone := Hid.mk' (h_one_3 KH)
  have H3 := Hid.mk' (h0k_hh (k := 3) (by omega) (by omega))
  have hp := Hid.mk' (put_h0_3 (pt 3 H) hlc.out)
  have HM := Hid.mk' (hk_hh KH)
  have RP : Hid (∀ u : World, u.heap[w.heap.size]? = some (.cells H.toArray 46 (0, 0)) → u.rangeAt w.heap.size 17 (pt 3 H)) := Hid.mk' (fun u hu => pt_range 3 hu)
  obtain ⟨L, HL⟩ : ∃ L, Hid (pt 3 H = L) := ⟨_, rfl⟩
  rw [HL.out] at hlc hone hp HM RP
  rw [HL.out]
  obtain ⟨Z, HZ⟩ : ∃ Z, Hid (h0k 3 = Z) := ⟨_, rfl⟩
  have hbl := Hid.mk' (h0k_built 3)
  rw [HZ.out] at hp H3 hbl
  have hz73 := Hid.mk' (hh_len H3.out)
  have hz1 := Hid.mk' (hh_one H3.out)
  obtain ⟨M, HMM⟩ : ∃ M, Hid (hk 3 L = M) := ⟨_, rfl⟩
  rw [HMM.out] at hp HM
  rw [HMM.out]
  have hm73 := Hid.mk' (hh_len HM.out)
  have hm1 := Hid.mk' (hh_one HM.out)
  have hms : Hid (M.toArray.size = 73) := Hid.mk' (by rw [List.size_toArray]; exact hm73.out)
  clear h KH HL HZ HMM H3 HM
  obtain ⟨u3, hu3⟩ : ∃ u3, u3 = ((w.alloc (.cells H.toArray 46)).alloc (.cells hz.toArray 46)).alloc (.cells Z.toArray 46) := ⟨_, rfl⟩
  obtain ⟨r1, r2, r3, B3⟩ := blocks3 w H hz Z 46 46 46 u3 hu3
  have R1 := Hid.mk' r1
  have R2 := Hid.mk' r2
  have R3 := Hid.mk' r3
  have HB3 := Hid.mk' B3
  have HU := Hid.mk' hu3
  have TH3 : Hid (u3.there (w.heap.size + 2) 17 L.toArray.size) := Hid.mk' (by
    intro j hj
    rw [List.size_toArray, hlc.out] at hj
    refine ⟨?_, frozen_of_row u3 (w.heap.size + 2) _ _ _ R3.out⟩
    rw [cell_of_row u3 (w.heap.size + 2) (17 + j) _ _ _ R3.out, List.getElem?_toArray, List.getElem?_eq_getElem (by rw [hz73.out]; omega)]; rfl)
  have hls : Hid (L.toArray.size = 12) := Hid.mk' (by rw [List.size_toArray]; exact hlc.out)
  have X4 : Hid ((u3.setCells (w.heap.size + 2) 17 L).heap[w.heap.size + 2]? = some (.cells M.toArray 46 (0, 0))) := Hid.mk' (by
    have := heap_put R3.out 17 L (by rw [hz73.out, hlc.out]; omega)
    rw [hp.out] at this; exact this)
  have K4 : Hid (Kept (fun j => j = w.heap.size + 2) u3 (u3.setCells (w.heap.size + 2) 17 L)) := Hid.mk' ((Kept.refl _ u3).setCells (w.heap.size + 2) 17 L (fun _ => rfl))
  clear r1 r2 r3 B3 hu3
  go_enter Tryz.func56, Tryz.ntmps56
  go_upto_region 2 with (first
    | refine wpList_buildTo rfl 46 #[(0, .tmp 5)] rfl (some 6) rfl Z.toArray (by simpa [Act.eval, Act.put] using hbl.out) ?_
    | refine wpList_store_newAt rfl 46 _ _ rfl _ hz Z (w.heap.size + 2) (by simp) (by rfl) (by rfl) (by rw [hz73.out, hz_len]) (by rw [hz73.out]; exact info_hh) hz1.out ?_)
  have hw : ((w.alloc (.cells H.toArray 46)).alloc (.cells Tryz.zeroCells46 46)).alloc (.cells Z.toArray 46) = u3 := HU.out.symm
  rw [hw]
  clear hw HU
  have c0 : u3.cell? ⟨w.heap.size, 0, none⟩ = some (.int .u8 3) := by rw [cell_of_row u3 w.heap.size 0 _ _ _ R1.out]; exact A0
  go_upto_region 15 with (first
    | refine wpList_load_mid rfl 36 _ rfl w.heap.size 17 (by rfl) L _ (RP.out _ R1.out) Tryz.underlying36 rfl (by rw [hlc.out]; exact K07.info_hd) ?_
    | refine wpList_store_mid rfl 36 _ _ rfl (w.heap.size + 2) 17 L.toArray (by rfl) (by rfl) TH3.out (by rw [hls.out]; exact K07.info_hd) hone.out ?_)
  generalize hg4 : u3.setCells (w.heap.size + 2) 17 L = u4 at X4 K4
  have hg4' : u3.setCells (w.heap.size + 2) 17 L.toArray.toList = u4 := hg4
  try (first | rw [hg4'] | rw [hg4])
  clear hg4 hg4'
  have R24 : Hid (u4.heap[w.heap.size + 1]? = some (.cells hz.toArray 46 (0, 0))) := Hid.mk' ((K4.out.block _ (Array.getElem?_eq_some_iff.1 R2.out).1 (by omega)).trans R2.out)
  have TH4 : Hid (u4.there (w.heap.size + 1) 0 M.toArray.size) := Hid.mk' (by have := there_block R24.out; rw [hz_len] at this; rw [hms.out]; exact this)
  have B4 : Hid (Below w.heap.size w u4) := Hid.mk' (HB3.out.trans (K4.out.below HB3.out.size (fun j hj => by omega)))
  go_wp2_with (first
    | refine wpList_load_mid rfl 46 _ rfl (w.heap.size + 2) 0 (by rfl) M _ (range_block X4.out) Tryz.underlying46 rfl (by rw [hm73.out]; exact info_hh) ?_
    | refine wpList_store_mid rfl 46 _ _ rfl (w.heap.size + 1) 0 M.toArray (by rfl) (by rfl) TH4.out (by rw [hms.out]; exact info_hh) hm1.out ?_)
  have kk : Kept (fun j => j = w.heap.size + 1) u4 (u4.setCells (w.heap.size + 1) 0 M) := (Kept.refl _ u4).setCells (w.heap.size + 1) 0 M (fun _ => rfl)
  refine ret_cell rfl (w.heap.size + 1) 46 M (0, 0) _ rfl (heap_whole (L := hz) R24.out (by rw [hm73.out, hz_len])) Tryz.underlying46 rfl (by rw [hm73.out]; exact info_hh) rfl ?_
  exact ⟨rfl, B4.out.trans (kk.below B4.out.size (fun j hj => by omega))⟩

theorem put_h0_4 (L : List Value) (h : L.length = 36) : put (h0k 4) 29 L = hk 4 L := by
  unfold put
  rw [h]
  rfl
theorem h_len_4 {L : List Value} (h : KHd 4 L) : L.length = 36 := K08.hd_len (h.2.2.2.2.2.1 rfl)
theorem h_one_4 {L : List Value} (h : KHd 4 L) : L.toArray.all (·.oneCell') = true := K08.hd_one (h.2.2.2.2.2.1 rfl)

set_option maxHeartbeats 1000000 in
theorem alone_4 (H : List Value) (w : World) (h : Hh H) (hn : num H 0 = 4) : Calls Tryz.prog 56 #[.agg H.toArray] w fun e w' => e = .returned (.agg (hk 4 (pt 4 H)).toArray) ∧ Below w.heap.size w w' := by
  have hh73 := Hid.mk' (hh_len h)
  obtain ⟨⟨a0, k0, k1⟩, -⟩ := hh_cells h
  rw [hn] at a0
  have A0 : H.toArray[0]? = some (.int .u8 4) := by simpa using a0
  have KH := pt_hd (k := 4) (by omega) (by omega) h
  have hlc := Hid.mk' (h_len_4 KH)
  have hone := Hid.mk' (h_one_4 KH)
  have H3 := Hid.mk' (h0k_hh (k := 4) (by omega) (by omega))
  have hp := Hid.mk' (put_h0_4 (pt 4 H) hlc.out)
  have HM := Hid.mk' (hk_hh KH)
  have RP : Hid (∀ u : World, u.heap[w.heap.size]? = some (.cells H.toArray 46 (0, 0)) → u.rangeAt w.heap.size 29 (pt 4 H)) := Hid.mk' (fun u hu => pt_range 4 hu)
  obtain ⟨L, HL⟩ : ∃ L, Hid (pt 4 H = L) := ⟨_, rfl⟩
  rw [HL.out] at hlc hone hp HM RP
  rw [HL.out]
  obtain ⟨Z, HZ⟩ : ∃ Z, Hid (h0k 4 = Z) := ⟨_, rfl⟩
  have hbl := Hid.mk' (h0k_built 4)
  rw [HZ.out] at hp H3 hbl
  have hz73 := Hid.mk' (hh_len H3.out)
  have hz1 := Hid.mk' (hh_one H3.out)
  obtain ⟨M, HMM⟩ : ∃ M, Hid (hk 4 L = M) := ⟨_, rfl⟩
  rw [HMM.out] at hp HM
  rw [HMM.out]
  have hm73 := Hid.mk' (hh_len HM.out)
  have hm1 := Hid.mk' (hh_one HM.out)
  have hms : Hid (M.toArray.size = 73) := Hid.mk' (by rw [List.size_toArray]; exact hm73.out)
  clear h KH HL HZ HMM H3 HM
  obtain ⟨u3, hu3⟩ : ∃ u3, u3 = ((w.alloc (.cells H.toArray 46)).alloc (.cells hz.toArray 46)).alloc (.cells Z.toArray 46) := ⟨_, rfl⟩
  obtain ⟨r1, r2, r3, B3⟩ := blocks3 w H hz Z 46 46 46 u3 hu3
  have R1 := Hid.mk' r1
  have R2 := Hid.mk' r2
  have R3 := Hid.mk' r3
  have HB3 := Hid.mk' B3
  have HU := Hid.mk' hu3
  have TH3 : Hid (u3.there (w.heap.size + 2) 29 L.toArray.size) := Hid.mk' (by
    intro j hj
    rw [List.size_toArray, hlc.out] at hj
    refine ⟨?_, frozen_of_row u3 (w.heap.size + 2) _ _ _ R3.out⟩
    rw [cell_of_row u3 (w.heap.size + 2) (29 + j) _ _ _ R3.out, List.getElem?_toArray, List.getElem?_eq_getElem (by rw [hz73.out]; omega)]; rfl)
  have hls : Hid (L.toArray.size = 36) := Hid.mk' (by rw [List.size_toArray]; exact hlc.out)
  have X4 : Hid ((u3.setCells (w.heap.size + 2) 29 L).heap[w.heap.size + 2]? = some (.cells M.toArray 46 (0, 0))) := Hid.mk' (by
    have := heap_put R3.out 29 L (by rw [hz73.out, hlc.out]; omega)
    rw [hp.out] at this; exact this)
  have K4 : Hid (Kept (fun j => j = w.heap.size + 2) u3 (u3.setCells (w.heap.size + 2) 29 L)) := Hid.mk' ((Kept.refl _ u3).setCells (w.heap.size + 2) 29 L (fun _ => rfl))
  clear r1 r2 r3 B3 hu3
  go_enter Tryz.func56, Tryz.ntmps56
  go_upto_region 2 with (first
    | refine wpList_buildTo rfl 46 #[(0, .tmp 5)] rfl (some 6) rfl Z.toArray (by simpa [Act.eval, Act.put] using hbl.out) ?_
    | refine wpList_store_newAt rfl 46 _ _ rfl _ hz Z (w.heap.size + 2) (by simp) (by rfl) (by rfl) (by rw [hz73.out, hz_len]) (by rw [hz73.out]; exact info_hh) hz1.out ?_)
  have hw : ((w.alloc (.cells H.toArray 46)).alloc (.cells Tryz.zeroCells46 46)).alloc (.cells Z.toArray 46) = u3 := HU.out.symm
  rw [hw]
  clear hw HU
  have c0 : u3.cell? ⟨w.heap.size, 0, none⟩ = some (.int .u8 4) := by rw [cell_of_row u3 w.heap.size 0 _ _ _ R1.out]; exact A0
  go_upto_region 15 with (first
    | refine wpList_load_mid rfl 40 _ rfl w.heap.size 29 (by rfl) L _ (RP.out _ R1.out) Tryz.underlying40 rfl (by rw [hlc.out]; exact K08.info_hd) ?_
    | refine wpList_store_mid rfl 40 _ _ rfl (w.heap.size + 2) 29 L.toArray (by rfl) (by rfl) TH3.out (by rw [hls.out]; exact K08.info_hd) hone.out ?_)
  generalize hg4 : u3.setCells (w.heap.size + 2) 29 L = u4 at X4 K4
  have hg4' : u3.setCells (w.heap.size + 2) 29 L.toArray.toList = u4 := hg4
  try (first | rw [hg4'] | rw [hg4])
  clear hg4 hg4'
  have R24 : Hid (u4.heap[w.heap.size + 1]? = some (.cells hz.toArray 46 (0, 0))) := Hid.mk' ((K4.out.block _ (Array.getElem?_eq_some_iff.1 R2.out).1 (by omega)).trans R2.out)
  have TH4 : Hid (u4.there (w.heap.size + 1) 0 M.toArray.size) := Hid.mk' (by have := there_block R24.out; rw [hz_len] at this; rw [hms.out]; exact this)
  have B4 : Hid (Below w.heap.size w u4) := Hid.mk' (HB3.out.trans (K4.out.below HB3.out.size (fun j hj => by omega)))
  go_wp2_with (first
    | refine wpList_load_mid rfl 46 _ rfl (w.heap.size + 2) 0 (by rfl) M _ (range_block X4.out) Tryz.underlying46 rfl (by rw [hm73.out]; exact info_hh) ?_
    | refine wpList_store_mid rfl 46 _ _ rfl (w.heap.size + 1) 0 M.toArray (by rfl) (by rfl) TH4.out (by rw [hms.out]; exact info_hh) hm1.out ?_)
  have kk : Kept (fun j => j = w.heap.size + 1) u4 (u4.setCells (w.heap.size + 1) 0 M) := (Kept.refl _ u4).setCells (w.heap.size + 1) 0 M (fun _ => rfl)
  refine ret_cell rfl (w.heap.size + 1) 46 M (0, 0) _ rfl (heap_whole (L := hz) R24.out (by rw [hm73.out, hz_len])) Tryz.underlying46 rfl (by rw [hm73.out]; exact info_hh) rfl ?_
  exact ⟨rfl, B4.out.trans (kk.below B4.out.size (fun j hj => by omega))⟩

theorem put_h0_5 (L : List Value) (h : L.length = 6) : put (h0k 5) 65 L = hk 5 L := by
  unfold put
  rw [h]
  rfl
theorem h_len_5 {L : List Value} (h : KHd 5 L) : L.length = 6 := K09.hd_len (h.2.2.2.2.2.2.1 rfl)
theorem h_one_5 {L : List Value} (h : KHd 5 L) : L.toArray.all (·.oneCell') = true := K09.hd_one (h.2.2.2.2.2.2.1 rfl)

set_option maxHeartbeats 1000000 in
theorem alone_5 (H : List Value) (w : World) (h : Hh H) (hn : num H 0 = 5) : Calls Tryz.prog 56 #[.agg H.toArray] w fun e w' => e = .returned (.agg (hk 5 (pt 5 H)).toArray) ∧ Below w.heap.size w w' := by
  have hh73 := Hid.mk' (hh_len h)
  obtain ⟨⟨a0, k0, k1⟩, -⟩ := hh_cells h
  rw [hn] at a0
  have A0 : H.toArray[0]? = some (.int .u8 5) := by simpa using a0
  have KH := pt_hd (k := 5) (by omega) (by omega) h
  have hlc := Hid.mk' (h_len_5 KH)
  have hone := Hid.mk' (h_one_5 KH)
  have H3 := Hid.mk' (h0k_hh (k := 5) (by omega) (by omega))
  have hp := Hid.mk' (put_h0_5 (pt 5 H) hlc.out)
  have HM := Hid.mk' (hk_hh KH)
  have RP : Hid (∀ u : World, u.heap[w.heap.size]? = some (.cells H.toArray 46 (0, 0)) → u.rangeAt w.heap.size 65 (pt 5 H)) := Hid.mk' (fun u hu => pt_range 5 hu)
  obtain ⟨L, HL⟩ : ∃ L, Hid (pt 5 H = L) := ⟨_, rfl⟩
  rw [HL.out] at hlc hone hp HM RP
  rw [HL.out]
  obtain ⟨Z, HZ⟩ : ∃ Z, Hid (h0k 5 = Z) := ⟨_, rfl⟩
  have hbl := Hid.mk' (h0k_built 5)
  rw [HZ.out] at hp H3 hbl
  have hz73 := Hid.mk' (hh_len H3.out)
  have hz1 := Hid.mk' (hh_one H3.out)
  obtain ⟨M, HMM⟩ : ∃ M, Hid (hk 5 L = M) := ⟨_, rfl⟩
  rw [HMM.out] at hp HM
  rw [HMM.out]
  have hm73 := Hid.mk' (hh_len HM.out)
  have hm1 := Hid.mk' (hh_one HM.out)
  have hms : Hid (M.toArray.size = 73) := Hid.mk' (by rw [List.size_toArray]; exact hm73.out)
  clear h KH HL HZ HMM H3 HM
  obtain ⟨u3, hu3⟩ : ∃ u3, u3 = ((w.alloc (.cells H.toArray 46)).alloc (.cells hz.toArray 46)).alloc (.cells Z.toArray 46) := ⟨_, rfl⟩
  obtain ⟨r1, r2, r3, B3⟩ := blocks3 w H hz Z 46 46 46 u3 hu3
  have R1 := Hid.mk' r1
  have R2 := Hid.mk' r2
  have R3 := Hid.mk' r3
  have HB3 := Hid.mk' B3
  have HU := Hid.mk' hu3
  have TH3 : Hid (u3.there (w.heap.size + 2) 65 L.toArray.size) := Hid.mk' (by
    intro j hj
    rw [List.size_toArray, hlc.out] at hj
    refine ⟨?_, frozen_of_row u3 (w.heap.size + 2) _ _ _ R3.out⟩
    rw [cell_of_row u3 (w.heap.size + 2) (65 + j) _ _ _ R3.out, List.getElem?_toArray, List.getElem?_eq_getElem (by rw [hz73.out]; omega)]; rfl)
  have hls : Hid (L.toArray.size = 6) := Hid.mk' (by rw [List.size_toArray]; exact hlc.out)
  have X4 : Hid ((u3.setCells (w.heap.size + 2) 65 L).heap[w.heap.size + 2]? = some (.cells M.toArray 46 (0, 0))) := Hid.mk' (by
    have := heap_put R3.out 65 L (by rw [hz73.out, hlc.out]; omega)
    rw [hp.out] at this; exact this)
  have K4 : Hid (Kept (fun j => j = w.heap.size + 2) u3 (u3.setCells (w.heap.size + 2) 65 L)) := Hid.mk' ((Kept.refl _ u3).setCells (w.heap.size + 2) 65 L (fun _ => rfl))
  clear r1 r2 r3 B3 hu3
  go_enter Tryz.func56, Tryz.ntmps56
  go_upto_region 2 with (first
    | refine wpList_buildTo rfl 46 #[(0, .tmp 5)] rfl (some 6) rfl Z.toArray (by simpa [Act.eval, Act.put] using hbl.out) ?_
    | refine wpList_store_newAt rfl 46 _ _ rfl _ hz Z (w.heap.size + 2) (by simp) (by rfl) (by rfl) (by rw [hz73.out, hz_len]) (by rw [hz73.out]; exact info_hh) hz1.out ?_)
  have hw : ((w.alloc (.cells H.toArray 46)).alloc (.cells Tryz.zeroCells46 46)).alloc (.cells Z.toArray 46) = u3 := HU.out.symm
  rw [hw]
  clear hw HU
  have c0 : u3.cell? ⟨w.heap.size, 0, none⟩ = some (.int .u8 5) := by rw [cell_of_row u3 w.heap.size 0 _ _ _ R1.out]; exact A0
  go_upto_region 15 with (first
    | refine wpList_load_mid rfl 42 _ rfl w.heap.size 65 (by rfl) L _ (RP.out _ R1.out) Tryz.underlying42 rfl (by rw [hlc.out]; exact K09.info_hd) ?_
    | refine wpList_store_mid rfl 42 _ _ rfl (w.heap.size + 2) 65 L.toArray (by rfl) (by rfl) TH3.out (by rw [hls.out]; exact K09.info_hd) hone.out ?_)
  generalize hg4 : u3.setCells (w.heap.size + 2) 65 L = u4 at X4 K4
  have hg4' : u3.setCells (w.heap.size + 2) 65 L.toArray.toList = u4 := hg4
  try (first | rw [hg4'] | rw [hg4])
  clear hg4 hg4'
  have R24 : Hid (u4.heap[w.heap.size + 1]? = some (.cells hz.toArray 46 (0, 0))) := Hid.mk' ((K4.out.block _ (Array.getElem?_eq_some_iff.1 R2.out).1 (by omega)).trans R2.out)
  have TH4 : Hid (u4.there (w.heap.size + 1) 0 M.toArray.size) := Hid.mk' (by have := there_block R24.out; rw [hz_len] at this; rw [hms.out]; exact this)
  have B4 : Hid (Below w.heap.size w u4) := Hid.mk' (HB3.out.trans (K4.out.below HB3.out.size (fun j hj => by omega)))
  go_wp2_with (first
    | refine wpList_load_mid rfl 46 _ rfl (w.heap.size + 2) 0 (by rfl) M _ (range_block X4.out) Tryz.underlying46 rfl (by rw [hm73.out]; exact info_hh) ?_
    | refine wpList_store_mid rfl 46 _ _ rfl (w.heap.size + 1) 0 M.toArray (by rfl) (by rfl) TH4.out (by rw [hms.out]; exact info_hh) hm1.out ?_)
  have kk : Kept (fun j => j = w.heap.size + 1) u4 (u4.setCells (w.heap.size + 1) 0 M) := (Kept.refl _ u4).setCells (w.heap.size + 1) 0 M (fun _ => rfl)
  refine ret_cell rfl (w.heap.size + 1) 46 M (0, 0) _ rfl (heap_whole (L := hz) R24.out (by rw [hm73.out, hz_len])) Tryz.underlying46 rfl (by rw [hm73.out]; exact info_hh) rfl ?_
  exact ⟨rfl, B4.out.trans (kk.below B4.out.size (fun j hj => by omega))⟩

theorem put_h0_6 (L : List Value) (h : L.length = 2) : put (h0k 6) 71 L = hk 6 L := by
  unfold put
  rw [h]
  rw [show List.drop (71 + 2) (h0k 6) = [] from rfl, List.append_nil]
  rfl
theorem h_len_6 {L : List Value} (h : KHd 6 L) : L.length = 2 := K10.hd_len (h.2.2.2.2.2.2.2 rfl)
theorem h_one_6 {L : List Value} (h : KHd 6 L) : L.toArray.all (·.oneCell') = true := K10.hd_one (h.2.2.2.2.2.2.2 rfl)

set_option maxHeartbeats 1000000 in
theorem alone_6 (H : List Value) (w : World) (h : Hh H) (hn : num H 0 = 6) : Calls Tryz.prog 56 #[.agg H.toArray] w fun e w' => e = .returned (.agg (hk 6 (pt 6 H)).toArray) ∧ Below w.heap.size w w' := by
  have hh73 := Hid.mk' (hh_len h)
  obtain ⟨⟨a0, k0, k1⟩, -⟩ := hh_cells h
  rw [hn] at a0
  have A0 : H.toArray[0]? = some (.int .u8 6) := by simpa using a0
  have KH := pt_hd (k := 6) (by omega) (by omega) h
  have hlc := Hid.mk' (h_len_6 KH)
  have hone := Hid.mk' (h_one_6 KH)
  have H3 := Hid.mk' (h0k_hh (k := 6) (by omega) (by omega))
  have hp := Hid.mk' (put_h0_6 (pt 6 H) hlc.out)
  have HM := Hid.mk' (hk_hh KH)
  have RP : Hid (∀ u : World, u.heap[w.heap.size]? = some (.cells H.toArray 46 (0, 0)) → u.rangeAt w.heap.size 71 (pt 6 H)) := Hid.mk' (fun u hu => pt_range 6 hu)
  obtain ⟨L, HL⟩ : ∃ L, Hid (pt 6 H = L) := ⟨_, rfl⟩
  rw [HL.out] at hlc hone hp HM RP
  rw [HL.out]
  obtain ⟨Z, HZ⟩ : ∃ Z, Hid (h0k 6 = Z) := ⟨_, rfl⟩
  have hbl := Hid.mk' (h0k_built 6)
  rw [HZ.out] at hp H3 hbl
  have hz73 := Hid.mk' (hh_len H3.out)
  have hz1 := Hid.mk' (hh_one H3.out)
  obtain ⟨M, HMM⟩ : ∃ M, Hid (hk 6 L = M) := ⟨_, rfl⟩
  rw [HMM.out] at hp HM
  rw [HMM.out]
  have hm73 := Hid.mk' (hh_len HM.out)
  have hm1 := Hid.mk' (hh_one HM.out)
  have hms : Hid (M.toArray.size = 73) := Hid.mk' (by rw [List.size_toArray]; exact hm73.out)
  clear h KH HL HZ HMM H3 HM
  obtain ⟨u3, hu3⟩ : ∃ u3, u3 = ((w.alloc (.cells H.toArray 46)).alloc (.cells hz.toArray 46)).alloc (.cells Z.toArray 46) := ⟨_, rfl⟩
  obtain ⟨r1, r2, r3, B3⟩ := blocks3 w H hz Z 46 46 46 u3 hu3
  have R1 := Hid.mk' r1
  have R2 := Hid.mk' r2
  have R3 := Hid.mk' r3
  have HB3 := Hid.mk' B3
  have HU := Hid.mk' hu3
  have TH3 : Hid (u3.there (w.heap.size + 2) 71 L.toArray.size) := Hid.mk' (by
    intro j hj
    rw [List.size_toArray, hlc.out] at hj
    refine ⟨?_, frozen_of_row u3 (w.heap.size + 2) _ _ _ R3.out⟩
    rw [cell_of_row u3 (w.heap.size + 2) (71 + j) _ _ _ R3.out, List.getElem?_toArray, List.getElem?_eq_getElem (by rw [hz73.out]; omega)]; rfl)
  have hls : Hid (L.toArray.size = 2) := Hid.mk' (by rw [List.size_toArray]; exact hlc.out)
  have X4 : Hid ((u3.setCells (w.heap.size + 2) 71 L).heap[w.heap.size + 2]? = some (.cells M.toArray 46 (0, 0))) := Hid.mk' (by
    have := heap_put R3.out 71 L (by rw [hz73.out, hlc.out]; omega)
    rw [hp.out] at this; exact this)
  have K4 : Hid (Kept (fun j => j = w.heap.size + 2) u3 (u3.setCells (w.heap.size + 2) 71 L)) := Hid.mk' ((Kept.refl _ u3).setCells (w.heap.size + 2) 71 L (fun _ => rfl))
  clear r1 r2 r3 B3 hu3
  go_enter Tryz.func56, Tryz.ntmps56
  go_upto_region 2 with (first
    | refine wpList_buildTo rfl 46 #[(0, .tmp 5)] rfl (some 6) rfl Z.toArray (by simpa [Act.eval, Act.put] using hbl.out) ?_
    | refine wpList_store_newAt rfl 46 _ _ rfl _ hz Z (w.heap.size + 2) (by simp) (by rfl) (by rfl) (by rw [hz73.out, hz_len]) (by rw [hz73.out]; exact info_hh) hz1.out ?_)
  have hw : ((w.alloc (.cells H.toArray 46)).alloc (.cells Tryz.zeroCells46 46)).alloc (.cells Z.toArray 46) = u3 := HU.out.symm
  rw [hw]
  clear hw HU
  have c0 : u3.cell? ⟨w.heap.size, 0, none⟩ = some (.int .u8 6) := by rw [cell_of_row u3 w.heap.size 0 _ _ _ R1.out]; exact A0
  go_upto_region 15 with (first
    | refine wpList_load_mid rfl 44 _ rfl w.heap.size 71 (by rfl) L _ (RP.out _ R1.out) Tryz.underlying44 rfl (by rw [hlc.out]; exact K10.info_hd) ?_
    | refine wpList_store_mid rfl 44 _ _ rfl (w.heap.size + 2) 71 L.toArray (by rfl) (by rfl) TH3.out (by rw [hls.out]; exact K10.info_hd) hone.out ?_)
  generalize hg4 : u3.setCells (w.heap.size + 2) 71 L = u4 at X4 K4
  have hg4' : u3.setCells (w.heap.size + 2) 71 L.toArray.toList = u4 := hg4
  try (first | rw [hg4'] | rw [hg4])
  clear hg4 hg4'
  have R24 : Hid (u4.heap[w.heap.size + 1]? = some (.cells hz.toArray 46 (0, 0))) := Hid.mk' ((K4.out.block _ (Array.getElem?_eq_some_iff.1 R2.out).1 (by omega)).trans R2.out)
  have TH4 : Hid (u4.there (w.heap.size + 1) 0 M.toArray.size) := Hid.mk' (by have := there_block R24.out; rw [hz_len] at this; rw [hms.out]; exact this)
  have B4 : Hid (Below w.heap.size w u4) := Hid.mk' (HB3.out.trans (K4.out.below HB3.out.size (fun j hj => by omega)))
  go_wp2_with (first
    | refine wpList_load_mid rfl 46 _ rfl (w.heap.size + 2) 0 (by rfl) M _ (range_block X4.out) Tryz.underlying46 rfl (by rw [hm73.out]; exact info_hh) ?_
    | refine wpList_store_mid rfl 46 _ _ rfl (w.heap.size + 1) 0 M.toArray (by rfl) (by rfl) TH4.out (by rw [hms.out]; exact info_hh) hm1.out ?_)
  have kk : Kept (fun j => j = w.heap.size + 1) u4 (u4.setCells (w.heap.size + 1) 0 M) := (Kept.refl _ u4).setCells (w.heap.size + 1) 0 M (fun _ => rfl)
  refine ret_cell rfl (w.heap.size + 1) 46 M (0, 0) _ rfl (heap_whole (L := hz) R24.out (by rw [hm73.out, hz_len])) Tryz.underlying46 rfl (by rw [hm73.out]; exact info_hh) rfl ?_
  exact ⟨rfl, B4.out.trans (kk.below B4.out.size (fun j hj => by omega))⟩


theorem alone_any (H : List Value) (w : World) (h : Hh H) (h1 : 1 ≤ num H 0) (h6 : num H 0 ≤ 6) : Calls Tryz.prog 56 #[.agg H.toArray] w fun e w' => e = .returned (.agg (hk (num H 0) (pt (num H 0) H)).toArray) ∧ Below w.heap.size w w' := by
  rcases six h1 h6 with e | e | e | e | e | e
  · rw [e]; exact alone_1 H w h e
  · rw [e]; exact alone_2 H w h e
  · rw [e]; exact alone_3 H w h e
  · rw [e]; exact alone_4 H w h e
  · rw [e]; exact alone_5 H w h e
  · rw [e]; exact alone_6 H w h e

theorem rkbytes_1 (L : List Value) (a : Option Addr) (n c : Nat) (ys : List Int) (u : World) (h : KHd 1 L) (hy : ys.length = n) (hB : Bs u a ys) :
    Calls Tryz.prog 112 #[.agg L.toArray, .slice a n c] u fun e w' => ∃ v, e = .returned (.tuple #[v, .int .i64 (bE 1 L ys)]) ∧ w'.ownsRow u.heap.size 5 1 v (bB 1 L ys).length ((bB 1 L ys).map (Value.int .u8)) ∧ Below u.heap.size u w' := by rw [show bE 1 L ys = K05.byE ys.length from rfl, show bB 1 L ys = lB L ys.length from rfl]; obtain ⟨d, s, t, rfl, hx⟩ := h.2.2.1 rfl; subst hy; have := K05.rbytes_any d s t a ys.length c u hx hB.len; rw [← lB_of hx] at this; exact this
set_option maxHeartbeats 1000000 in
theorem rby_1 (H : List Value) (a : Option Addr) (n c : Nat) (ys : List Int) (w : World) (h : Hh H) (hn : num H 0 = 1) (hy : ys.length = n) (hB : Bs w a ys) :
    Calls Tryz.prog 54 #[.agg H.toArray, .slice a n c] w fun e w' => ∃ v, e = .returned (.tuple #[v, .int .i64 (bE 1 (pt 1 H) ys)]) ∧ w'.ownsRow w.heap.size 5 1 v (bB 1 (pt 1 H) ys).length ((bB 1 (pt 1 H) ys).map (Value.int .u8)) ∧ Below w.heap.size w w' := by
  obtain ⟨⟨a0, k0, k1⟩, -⟩ := hh_cells h
  rw [hn] at a0
  have A0 : H.toArray[0]? = some (.int .u8 1) := by simpa using a0
  have KH := pt_hd (k := 1) (by omega) (by omega) h
  have hlc := Hid.mk' (h_len_1 KH)
  have b1 : Below w.heap.size w (w.alloc (.cells H.toArray 46)) := (Below.refl _ _).alloc (Nat.le_refl _) _
  have FB : Hid (Calls Tryz.prog 112 #[.agg (pt 1 H).toArray, .slice a n c] (w.alloc (.cells H.toArray 46)) fun e w' => ∃ v, e = .returned (.tuple #[v, .int .i64 (bE 1 (pt 1 H) ys)]) ∧ w'.ownsRow (w.alloc (.cells H.toArray 46)).heap.size 5 1 v (bB 1 (pt 1 H) ys).length ((bB 1 (pt 1 H) ys).map (Value.int .u8)) ∧ Below (w.alloc (.cells H.toArray 46)).heap.size (w.alloc (.cells H.toArray 46)) w') := Hid.mk' (rkbytes_1 _ a n c ys _ KH hy (hB.below b1))
  have RP : Hid ((w.alloc (.cells H.toArray 46)).rangeAt w.heap.size 1 (pt 1 H)) := Hid.mk' (pt_range 1 (heap_alloc_new w _))
  have HB1 := Hid.mk' b1
  obtain ⟨E, HE⟩ : ∃ E, Hid (bE 1 (pt 1 H) ys = E) := ⟨_, rfl⟩
  obtain ⟨BB, HBB⟩ : ∃ BB, Hid (bB 1 (pt 1 H) ys = BB) := ⟨_, rfl⟩
  rw [HE.out, HBB.out] at FB
  rw [HE.out, HBB.out]
  obtain ⟨L, HL⟩ : ∃ L, Hid (pt 1 H = L) := ⟨_, rfl⟩
  rw [HL.out] at FB RP hlc
  clear h hy hB b1 KH HE HBB HL
  go_enter Tryz.func54, Tryz.ntmps54
  go_wp2_with (first
    | refine wpList_load_mid rfl 31 _ rfl w.heap.size 1 (by rfl) L _ RP.out Tryz.underlying31 rfl (by rw [hlc.out]; exact K05.info_lk) ?_)
  refine FB.out.mono ?_
  rintro e w2 ⟨v, rfl, own2, b2⟩
  have O2 := Hid.mk' (ownsRow_base own2 HB1.out.size)
  have B2 : Hid (Below w.heap.size w w2) := Hid.mk' (HB1.out.trans (b2.mono HB1.out.size))
  clear own2 b2 FB
  go_wp2_with fail
  go_ret2
  exact ⟨v, rfl, O2.out, B2.out⟩

theorem rkbytes_2 (L : List Value) (a : Option Addr) (n c : Nat) (ys : List Int) (u : World) (h : KHd 2 L) (hy : ys.length = n) (hB : Bs u a ys) :
    Calls Tryz.prog 113 #[.agg L.toArray, .slice a n c] u fun e w' => ∃ v, e = .returned (.tuple #[v, .int .i64 (bE 2 L ys)]) ∧ w'.ownsRow u.heap.size 5 1 v (bB 2 L ys).length ((bB 2 L ys).map (Value.int .u8)) ∧ Below u.heap.size u w' := K06.h_rbytes L a n c ys u (h.2.2.2.1 rfl) hy hB
set_option maxHeartbeats 1000000 in
theorem rby_2 (H : List Value) (a : Option Addr) (n c : Nat) (ys : List Int) (w : World) (h : Hh H) (hn : num H 0 = 2) (hy : ys.length = n) (hB : Bs w a ys) :
    Calls Tryz.prog 54 #[.agg H.toArray, .slice a n c] w fun e w' => ∃ v, e = .returned (.tuple #[v, .int .i64 (bE 2 (pt 2 H) ys)]) ∧ w'.ownsRow w.heap.size 5 1 v (bB 2 (pt 2 H) ys).length ((bB 2 (pt 2 H) ys).map (Value.int .u8)) ∧ Below w.heap.size w w' := by
  obtain ⟨⟨a0, k0, k1⟩, -⟩ := hh_cells h
  rw [hn] at a0
  have A0 : H.toArray[0]? = some (.int .u8 2) := by simpa using a0
  have KH := pt_hd (k := 2) (by omega) (by omega) h
  have hlc := Hid.mk' (h_len_2 KH)
  have b1 : Below w.heap.size w (w.alloc (.cells H.toArray 46)) := (Below.refl _ _).alloc (Nat.le_refl _) _
  have FB : Hid (Calls Tryz.prog 113 #[.agg (pt 2 H).toArray, .slice a n c] (w.alloc (.cells H.toArray 46)) fun e w' => ∃ v, e = .returned (.tuple #[v, .int .i64 (bE 2 (pt 2 H) ys)]) ∧ w'.ownsRow (w.alloc (.cells H.toArray 46)).heap.size 5 1 v (bB 2 (pt 2 H) ys).length ((bB 2 (pt 2 H) ys).map (Value.int .u8)) ∧ Below (w.alloc (.cells H.toArray 46)).heap.size (w.alloc (.cells H.toArray 46)) w') := Hid.mk' (rkbytes_2 _ a n c ys _ KH hy (hB.below b1))
  have RP : Hid ((w.alloc (.cells H.toArray 46)).rangeAt w.heap.size 14 (pt 2 H)) := Hid.mk' (pt_range 2 (heap_alloc_new w _))
  have HB1 := Hid.mk' b1
  obtain ⟨E, HE⟩ : ∃ E, Hid (bE 2 (pt 2 H) ys = E) := ⟨_, rfl⟩
  obtain ⟨BB, HBB⟩ : ∃ BB, Hid (bB 2 (pt 2 H) ys = BB) := ⟨_, rfl⟩
  rw [HE.out, HBB.out] at FB
  rw [HE.out, HBB.out]
  obtain ⟨L, HL⟩ : ∃ L, Hid (pt 2 H = L) := ⟨_, rfl⟩
  rw [HL.out] at FB RP hlc
  clear h hy hB b1 KH HE HBB HL
  go_enter Tryz.func54, Tryz.ntmps54
  go_wp2_with (first
    | refine wpList_load_mid rfl 33 _ rfl w.heap.size 14 (by rfl) L _ RP.out Tryz.underlying33 rfl (by rw [hlc.out]; exact K06.info_hd) ?_)
  refine FB.out.mono ?_
  rintro e w2 ⟨v, rfl, own2, b2⟩
  have O2 := Hid.mk' (ownsRow_base own2 HB1.out.size)
  have B2 : Hid (Below w.heap.size w w2) := Hid.mk' (HB1.out.trans (b2.mono HB1.out.size))
  clear own2 b2 FB
  go_wp2_with fail
  go_ret2
  exact ⟨v, rfl, O2.out, B2.out⟩

theorem rkbytes_3 (L : List Value) (a : Option Addr) (n c : Nat) (ys : List Int) (u : World) (h : KHd 3 L) (hy : ys.length = n) (hB : Bs u a ys) :
    Calls Tryz.prog 114 #[.agg L.toArray, .slice a n c] u fun e w' => ∃ v, e = .returned (.tuple #[v, .int .i64 (bE 3 L ys)]) ∧ w'.ownsRow u.heap.size 5 1 v (bB 3 L ys).length ((bB 3 L ys).map (Value.int .u8)) ∧ Below u.heap.size u w' := K07.h_rbytes L a n c ys u (h.2.2.2.2.1 rfl) hy hB
set_option maxHeartbeats 1000000 in
theorem rby_3 (H : List Value) (a : Option Addr) (n c : Nat) (ys : List Int) (w : World) (h : Hh H) (hn : num H 0 = 3) (hy : ys.length = n) (hB : Bs w a ys) :
    Calls Tryz.prog 54 #[.agg H.toArray, .slice a n c] w fun e w' => ∃ v, e = .returned (.tuple #[v, .int .i64 (bE 3 (pt 3 H) ys)]) ∧ w'.ownsRow w.heap.size 5 1 v (bB 3 (pt 3 H) ys).length ((bB 3 (pt 3 H) ys).map (Value.int .u8)) ∧ Below w.heap.size w w' := by
  obtain ⟨⟨a0, k0, k1⟩, -⟩ := hh_cells h
  rw [hn] at a0
  have A0 : H.toArray[0]? = some (.int .u8 3) := by simpa using a0
  have KH := pt_hd (k := 3) (by omega) (by omega) h
  have hlc := Hid.mk' (h_len_3 KH)
  have b1 : Below w.heap.size w (w.alloc (.cells H.toArray 46)) := (Below.refl _ _).alloc (Nat.le_refl _) _
  have FB : Hid (Calls Tryz.prog 114 #[.agg (pt 3 H).toArray, .slice a n c] (w.alloc (.cells H.toArray 46)) fun e w' => ∃ v, e = .returned (.tuple #[v, .int .i64 (bE 3 (pt 3 H) ys)]) ∧ w'.ownsRow (w.alloc (.cells H.toArray 46)).heap.size 5 1 v (bB 3 (pt 3 H) ys).length ((bB 3 (pt 3 H) ys).map (Value.int .u8)) ∧ Below (w.alloc (.cells H.toArray 46)).heap.size (w.alloc (.cells H.toArray 46)) w') := Hid.mk' (rkbytes_3 _ a n c ys _ KH hy (hB.below b1))
  have RP : Hid ((w.alloc (.cells H.toArray 46)).rangeAt w.heap.size 17 (pt 3 H)) := Hid.mk' (pt_range 3 (heap_alloc_new w _))
  have HB1 := Hid.mk' b1
  obtain ⟨E, HE⟩ : ∃ E, Hid (bE 3 (pt 3 H) ys = E) := ⟨_, rfl⟩
  obtain ⟨BB, HBB⟩ : ∃ BB, Hid (bB 3 (pt 3 H) ys = BB) := ⟨_, rfl⟩
  rw [HE.out, HBB.out] at FB
  rw [HE.out, HBB.out]
  obtain ⟨L, HL⟩ : ∃ L, Hid (pt 3 H = L) := ⟨_, rfl⟩
  rw [HL.out] at FB RP hlc
  clear h hy hB b1 KH HE HBB HL
  go_enter Tryz.func54, Tryz.ntmps54
  go_wp2_with (first
    | refine wpList_load_mid rfl 36 _ rfl w.heap.size 17 (by rfl) L _ RP.out Tryz.underlying36 rfl (by rw [hlc.out]; exact K07.info_hd) ?_)
  refine FB.out.mono ?_
  rintro e w2 ⟨v, rfl, own2, b2⟩
  have O2 := Hid.mk' (ownsRow_base own2 HB1.out.size)
  have B2 : Hid (Below w.heap.size w w2) := Hid.mk' (HB1.out.trans (b2.mono HB1.out.size))
  clear own2 b2 FB
  go_wp2_with fail
  go_ret2
  exact ⟨v, rfl, O2.out, B2.out⟩

theorem rkbytes_4 (L : List Value) (a : Option Addr) (n c : Nat) (ys : List Int) (u : World) (h : KHd 4 L) (hy : ys.length = n) (hB : Bs u a ys) :
    Calls Tryz.prog 115 #[.agg L.toArray, .slice a n c] u fun e w' => ∃ v, e = .returned (.tuple #[v, .int .i64 (bE 4 L ys)]) ∧ w'.ownsRow u.heap.size 5 1 v (bB 4 L ys).length ((bB 4 L ys).map (Value.int .u8)) ∧ Below u.heap.size u w' := K08.h_rbytes L a n c ys u (h.2.2.2.2.2.1 rfl) hy hB
set_option maxHeartbeats 1000000 in
theorem rby_4 (H : List Value) (a : Option Addr) (n c : Nat) (ys : List Int) (w : World) (h : Hh H) (hn : num H 0 = 4) (hy : ys.length = n) (hB : Bs w a ys) :
    Calls Tryz.prog 54 #[.agg H.toArray, .slice a n c] w fun e w' => ∃ v, e = .returned (.tuple #[v, .int .i64 (bE 4 (pt 4 H) ys)]) ∧ w'.ownsRow w.heap.size 5 1 v (bB 4 (pt 4 H) ys).length ((bB 4 (pt 4 H) ys).map (Value.int .u8)) ∧ Below w.heap.size w w' := by
  obtain ⟨⟨a0, k0, k1⟩, -⟩ := hh_cells h
  rw [hn] at a0
  have A0 : H.toArray[0]? = some (.int .u8 4) := by simpa using a0
  have KH := pt_hd (k := 4) (by omega) (by omega) h
  have hlc := Hid.mk' (h_len_4 KH)
  have b1 : Below w.heap.size w (w.alloc (.cells H.toArray 46)) := (Below.refl _ _).alloc (Nat.le_refl _) _
  have FB : Hid (Calls Tryz.prog 115 #[.agg (pt 4 H).toArray, .slice a n c] (w.alloc (.cells H.toArray 46)) fun e w' => ∃ v, e = .returned (.tuple #[v, .int .i64 (bE 4 (pt 4 H) ys)]) ∧ w'.ownsRow (w.alloc (.cells H.toArray 46)).heap.size 5 1 v (bB 4 (pt 4 H) ys).length ((bB 4 (pt 4 H) ys).map (Value.int .u8)) ∧ Below (w.alloc (.cells H.toArray 46)).heap.size (w.alloc (.cells H.toArray 46)) w') := Hid.mk' (rkbytes_4 _ a n c ys _ KH hy (hB.below b1))
  have RP : Hid ((w.alloc (.cells H.toArray 46)).rangeAt w.heap.size 29 (pt 4 H)) := Hid.mk' (pt_range 4 (heap_alloc_new w _))
  have HB1 := Hid.mk' b1
  obtain ⟨E, HE⟩ : ∃ E, Hid (bE 4 (pt 4 H) ys = E) := ⟨_, rfl⟩
  obtain ⟨BB, HBB⟩ : ∃ BB, Hid (bB 4 (pt 4 H) ys = BB) := ⟨_, rfl⟩
  rw [HE.out, HBB.out] at FB
  rw [HE.out, HBB.out]
  obtain ⟨L, HL⟩ : ∃ L, Hid (pt 4 H = L) := ⟨_, rfl⟩
  rw [HL.out] at FB RP hlc
  clear h hy hB b1 KH HE HBB HL
  go_enter Tryz.func54, Tryz.ntmps54
  go_wp2_with (first
    | refine wpList_load_mid rfl 40 _ rfl w.heap.size 29 (by rfl) L _ RP.out Tryz.underlying40 rfl (by rw [hlc.out]; exact K08.info_hd) ?_)
  refine FB.out.mono ?_
  rintro e w2 ⟨v, rfl, own2, b2⟩
  have O2 := Hid.mk' (ownsRow_base own2 HB1.out.size)
  have B2 : Hid (Below w.heap.size w w2) := Hid.mk' (HB1.out.trans (b2.mono HB1.out.size))
  clear own2 b2 FB
  go_wp2_with fail
  go_ret2
  exact ⟨v, rfl, O2.out, B2.out⟩

theorem rkbytes_5 (L : List Value) (a : Option Addr) (n c : Nat) (ys : List Int) (u : World) (h : KHd 5 L) (hy : ys.length = n) (hB : Bs u a ys) :
    Calls Tryz.prog 116 #[.agg L.toArray, .slice a n c] u fun e w' => ∃ v, e = .returned (.tuple #[v, .int .i64 (bE 5 L ys)]) ∧ w'.ownsRow u.heap.size 5 1 v (bB 5 L ys).length ((bB 5 L ys).map (Value.int .u8)) ∧ Below u.heap.size u w' := K09.h_rbytes L a n c ys u (h.2.2.2.2.2.2.1 rfl) hy hB
set_option maxHeartbeats 1000000 in
theorem rby_5 (H : List Value) (a : Option Addr) (n c : Nat) (ys : List Int) (w : World) (h : Hh H) (hn : num H 0 = 5) (hy : ys.length = n) (hB : Bs w a ys) :
    Calls Tryz.prog 54 #[.agg H.toArray, .slice a n c] w fun e w' => ∃ v, e = .returned (.tuple #[v, .int .i64 (bE 5 (pt 5 H) ys)]) ∧ w'.ownsRow w.heap.size 5 1 v (bB 5 (pt 5 H) ys).length ((bB 5 (pt 5 H) ys).map (Value.int .u8)) ∧ Below w.heap.size w w' := by
  obtain ⟨⟨a0, k0, k1⟩, -⟩ := hh_cells h
  rw [hn] at a0
  have A0 : H.toArray[0]? = some (.int .u8 5) := by simpa using a0
  have KH := pt_hd (k := 5) (by omega) (by omega) h
  have hlc := Hid.mk' (h_len_5 KH)
  have b1 : Below w.heap.size w (w.alloc (.cells H.toArray 46)) := (Below.refl _ _).alloc (Nat.le_refl _) _
  have FB : Hid (Calls Tryz.prog 116 #[.agg (pt 5 H).toArray, .slice a n c] (w.alloc (.cells H.toArray 46)) fun e w' => ∃ v, e = .returned (.tuple #[v, .int .i64 (bE 5 (pt 5 H) ys)]) ∧ w'.ownsRow (w.alloc (.cells H.toArray 46)).heap.size 5 1 v (bB 5 (pt 5 H) ys).length ((bB 5 (pt 5 H) ys).map (Value.int .u8)) ∧ Below (w.alloc (.cells H.toArray 46)).heap.size (w.alloc (.cells H.toArray 46)) w') := Hid.mk' (rkbytes_5 _ a n c ys _ KH hy (hB.below b1))
  have RP : Hid ((w.alloc (.cells H.toArray 46)).rangeAt w.heap.size 65 (pt 5 H)) := Hid.mk' (pt_range 5 (heap_alloc_new w _))
  have HB1 := Hid.mk' b1
  obtain ⟨E, HE⟩ : ∃ E, Hid (bE 5 (pt 5 H) ys = E) := ⟨_, rfl⟩
  obtain ⟨BB, HBB⟩ : ∃ BB, Hid (bB 5 (pt 5 H) ys = BB) := ⟨_, rfl⟩
  rw [HE.out, HBB.out] at FB
  rw [HE.out, HBB.out]
  obtain ⟨L, HL⟩ : ∃ L, Hid (pt 5 H = L) := ⟨_, rfl⟩
  rw [HL.out] at FB RP hlc
  clear h hy hB b1 KH HE HBB HL
  go_enter Tryz.func54, Tryz.ntmps54
  go_wp2_with (first
    | refine wpList_load_mid rfl 42 _ rfl w.heap.size 65 (by rfl) L _ RP.out Tryz.underlying42 rfl (by rw [hlc.out]; exact K09.info_hd) ?_)
  refine FB.out.mono ?_
  rintro e w2 ⟨v, rfl, own2, b2⟩
  have O2 := Hid.mk' (ownsRow_base own2 HB1.out.size)
  have B2 : Hid (Below w.heap.size w w2) := Hid.mk' (HB1.out.trans (b2.mono HB1.out.size))
  clear own2 b2 FB
  go_wp2_with fail
  go_ret2
  exact ⟨v, rfl, O2.out, B2.out⟩

theorem rkbytes_6 (L : List Value) (a : Option Addr) (n c : Nat) (ys : List Int) (u : World) (h : KHd 6 L) (hy : ys.length = n) (hB : Bs u a ys) :
    Calls Tryz.prog 117 #[.agg L.toArray, .slice a n c] u fun e w' => ∃ v, e = .returned (.tuple #[v, .int .i64 (bE 6 L ys)]) ∧ w'.ownsRow u.heap.size 5 1 v (bB 6 L ys).length ((bB 6 L ys).map (Value.int .u8)) ∧ Below u.heap.size u w' := K10.h_rbytes L a n c ys u (h.2.2.2.2.2.2.2 rfl) hy hB
set_option maxHeartbeats 1000000 in
theorem rby_6 (H : List Value) (a : Option Addr) (n c : Nat) (ys : List Int) (w : World) (h : Hh H) (hn : num H 0 = 6) (hy : ys.length = n) (hB : Bs w a ys) :
    Calls Tryz.prog 54 #[.agg H.toArray, .slice a n c] w fun e w' => ∃ v, e = .returned (.tuple #[v, .int .i64 (bE 6 (pt 6 H) ys)]) ∧ w'.ownsRow w.heap.size 5 1 v (bB 6 (pt 6 H) ys).length ((bB 6 (pt 6 H) ys).map (Value.int .u8)) ∧ Below w.heap.size w w' := by
  obtain ⟨⟨a0, k0, k1⟩, -⟩ := hh_cells h
  rw [hn] at a0
  have A0 : H.toArray[0]? = some (.int .u8 6) := by simpa using a0
  have KH := pt_hd (k := 6) (by omega) (by omega) h
  have hlc := Hid.mk' (h_len_6 KH)
  have b1 : Below w.heap.size w (w.alloc (.cells H.toArray 46)) := (Below.refl _ _).alloc (Nat.le_refl _) _
  have FB : Hid (Calls Tryz.prog 117 #[.agg (pt 6 H).toArray, .slice a n c] (w.alloc (.cells H.toArray 46)) fun e w' => ∃ v, e = .returned (.tuple #[v, .int .i64 (bE 6 (pt 6 H) ys)]) ∧ w'.ownsRow (w.alloc (.cells H.toArray 46)).heap.size 5 1 v (bB 6 (pt 6 H) ys).length ((bB 6 (pt 6 H) ys).map (Value.int .u8)) ∧ Below (w.alloc (.cells H.toArray 46)).heap.size (w.alloc (.cells H.toArray 46)) w') := Hid.mk' (rkbytes_6 _ a n c ys _ KH hy (hB.below b1))
  have RP : Hid ((w.alloc (.cells H.toArray 46)).rangeAt w.heap.size 71 (pt 6 H)) := Hid.mk' (pt_range 6 (heap_alloc_new w _))
  have HB1 := Hid.mk' b1
  obtain ⟨E, HE⟩ : ∃ E, Hid (bE 6 (pt 6 H) ys = E) := ⟨_, rfl⟩
  obtain ⟨BB, HBB⟩ : ∃ BB, Hid (bB 6 (pt 6 H) ys = BB) := ⟨_, rfl⟩
  rw [HE.out, HBB.out] at FB
  rw [HE.out, HBB.out]
  obtain ⟨L, HL⟩ : ∃ L, Hid (pt 6 H = L) := ⟨_, rfl⟩
  rw [HL.out] at FB RP hlc
  clear h hy hB b1 KH HE HBB HL
  go_enter Tryz.func54, Tryz.ntmps54
  go_wp2_with (first
    | refine wpList_load_mid rfl 44 _ rfl w.heap.size 71 (by rfl) L _ RP.out Tryz.underlying44 rfl (by rw [hlc.out]; exact K10.info_hd) ?_)
  refine FB.out.mono ?_
  rintro e w2 ⟨v, rfl, own2, b2⟩
  have O2 := Hid.mk' (ownsRow_base own2 HB1.out.size)
  have B2 : Hid (Below w.heap.size w w2) := Hid.mk' (HB1.out.trans (b2.mono HB1.out.size))
  clear own2 b2 FB
  go_wp2_with fail
  go_ret2
  exact ⟨v, rfl, O2.out, B2.out⟩


theorem rby_any (H : List Value) (a : Option Addr) (n c : Nat) (ys : List Int) (w : World) (h : Hh H) (h1 : 1 ≤ num H 0) (h6 : num H 0 ≤ 6) (hy : ys.length = n) (hB : Bs w a ys) :
    Calls Tryz.prog 54 #[.agg H.toArray, .slice a n c] w fun e w' => ∃ v, e = .returned (.tuple #[v, .int .i64 (bE (num H 0) (pt (num H 0) H) ys)]) ∧ w'.ownsRow w.heap.size 5 1 v (bB (num H 0) (pt (num H 0) H) ys).length ((bB (num H 0) (pt (num H 0) H) ys).map (Value.int .u8)) ∧ Below w.heap.size w w' := by
  rcases six h1 h6 with e | e | e | e | e | e
  · rw [e]; exact rby_1 H a n c ys w h e hy hB
  · rw [e]; exact rby_2 H a n c ys w h e hy hB
  · rw [e]; exact rby_3 H a n c ys w h e hy hB
  · rw [e]; exact rby_4 H a n c ys w h e hy hB
  · rw [e]; exact rby_5 H a n c ys w h e hy hB
  · rw [e]; exact rby_6 H a n c ys w h e hy hB
end Go.Proofs.YtednmdkjhiihcaaGreat
