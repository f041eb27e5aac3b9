/- The walk of DgramNames: as Nf, with a part of its own (a field that is 0; a field that would be 0). -/
import Derived.Test.YtbbnoogkgobeoaaNe
namespace Go.Proofs.Ytbbnoogkgobeoaa
open Go.ChangeShapes Go.WideShapes Go.ChangeAt Go.RowKit

-- a header whose field would be 0
def fB : List Int := [255, 247, 0, 0, 0, 8, 255, 255]
theorem hd_f : Hd (dgC 65527 0) := ⟨65527, 0, rfl, by omega, by omega, by omega, by omega⟩
theorem by_f : byE (dgC 65527 0) [] = 0 ∧ byB (dgC 65527 0) [] = fB := by decide +kernel
theorem nil_bytes : Bytes [] := fun z hz => by simp at hz
theorem fB_bytes : Bytes fB := by rw [← by_f.2]; exact byB_bytes hd_f nil_bytes
theorem rd_f : rdL fB = dgC 65527 0 ∧ rdE fB = 0 := by
  obtain ⟨-, h1, h2, -⟩ := m_back hd_f nil_bytes by_f.1
  rw [by_f.2, List.append_nil] at h1 h2
  exact ⟨h1, h2⟩
-- the chapter's packet, its field being 0
theorem rd_n : rdE (((uB ++ uY).set 6 0).set 7 0) = 110 := by decide +kernel

theorem bytes_zeros (n : Nat) : Bytes (List.replicate n 0) := fun z hz => by rw [(List.mem_replicate.1 hz).2]; omega

set_option maxHeartbeats 4000000 in
theorem walkDgramNames (W : World) : Calls Try.prog 7 #[] W fun e w' => e = .returned (.bool true) ∧ Below W.heap.size W w' := by
  have HU := Hid.mk' hd_u
  have hlc := Hid.mk' (hd_len hd_u)
  have hone := Hid.mk' (hd_one hd_u)
  have KEY := Hid.mk' (usual_any W)
  have hUL0 : (uB ++ uY).length = 8 + uY.length := by rw [List.length_append, uB_len]
  have hUB0 := uW_bytes
  have hny : uY.length ≤ 2048 := by decide
  have HUBL := Hid.mk' uB_len
  obtain ⟨L, HL⟩ : ∃ L, Hid (uL = L) := ⟨_, rfl⟩
  obtain ⟨YY, HY⟩ : ∃ YY, Hid (uY = YY) := ⟨_, rfl⟩
  obtain ⟨BB, HB⟩ : ∃ BB, Hid (uB = BB) := ⟨_, rfl⟩
  obtain ⟨ny, HNY⟩ : ∃ ny, Hid (uY.length = ny) := ⟨_, rfl⟩
  rw [HL.out] at HU hlc hone KEY
  rw [HNY.out] at KEY hUL0 hny
  rw [HY.out] at KEY HNY hUL0 hUB0
  rw [HB.out] at KEY hUL0 hUB0 HUBL
  obtain ⟨UB, HU2⟩ : ∃ UB : List Int, Hid (BB ++ YY = UB) := ⟨BB ++ YY, Hid.mk' rfl⟩
  obtain ⟨N0, HN0⟩ : ∃ N0 : Nat, Hid (8 + ny = N0) := ⟨_, rfl⟩
  rw [HU2.out] at hUL0 hUB0
  rw [HN0.out] at hUL0
  have HUB := Hid.mk' hUB0
  have HUL := Hid.mk' hUL0
  have hn0 : 8 ≤ N0 := by rw [← HN0.out]; omega
  have hn1 : N0 ≤ 4096 := by rw [← HN0.out]; omega
  clear hUL0 hUB0
  go_enter Try.func7, Try.ntmps7
  go_wp2_with fail
  refine KEY.out.mono ?_
  rintro e w1 ⟨g, pa, pc, rfl, sy, hpc, hpn, sb, b1⟩
  have SY := Hid.mk' sy
  have SB := Hid.mk' sb
  have B1 := Hid.mk' b1
  clear sy hpc hpn sb b1 KEY
  go_wp2_with (first | refine wpList_store_new rfl 24 _ _ rfl _ _ L rfl rfl (by rw [hlc.out]; rfl) (by rw [hlc.out]; exact info_hd) hone.out ?_)
  obtain ⟨w2, hw2⟩ : ∃ w2, w2 = w1.alloc (.cells L.toArray 24) := ⟨_, rfl⟩
  rw [← hw2]
  have b2 : Below w1.heap.size w1 w2 := by rw [hw2]; exact (Below.refl _ _).alloc (Nat.le_refl _) _
  have R2 : Hid (w2.heap[w1.heap.size]? = some (.cells L.toArray 24 (0, 0))) := by rw [hw2]; exact heap_alloc_new w1 _
  have B2 : Hid (Below W.heap.size W w2) := B1.out.trans (b2.mono B1.out.size)
  have SY2 := Hid.mk' (SY.out.below b2)
  have SB2 := Hid.mk' (SB.out.below b2)
  clear hw2 b2 SY SB B1
  refine (join_any (some ⟨g, 0, none⟩) pa 8 pc 8 ny BB YY w2 HUBL.out HNY.out SB2.out SY2.out (by omega)).mono ?_
  rw [HN0.out, HU2.out]
  rintro e w3 ⟨v3, rfl, hown, b3⟩
  obtain ⟨g3, c3, rfl, hc3⟩ := own_some hown (by omega)
  have S3 : Hid (Bs w3 (some ⟨g3, 0, none⟩) UB) := own_block_bs hown HUB.out (by rw [HUL.out]; omega)
  have R3 : Hid (w3.heap[w1.heap.size]? = some (.cells L.toArray 24 (0, 0))) := (b3.block _ (Array.getElem?_eq_some_iff.1 R2.out).1).trans R2.out
  have B3 : Hid (Below W.heap.size W w3) := B2.out.trans (b3.mono B2.out.size)
  have HC3 := Hid.mk' hc3
  clear hown b3 SY2 SB2 R2 B2 hc3
  go_wp2_with fail
  go_loopw [5] (fun i wr => ∃ k : Nat, k ≤ N0 ∧ i = .int .i64 k ∧ Hid (Bs wr (some ⟨g3, 0, none⟩) UB) ∧ Hid (wr.heap[w1.heap.size]? = some (.cells L.toArray 24 (0, 0))) ∧ Hid (Below W.heap.size W wr)) (fun i _ => N0 - (intOf i).toNat)
  case atStart => exact ⟨0, Nat.zero_le _, rfl, S3, R3, B3⟩
  case round =>
    clear S3 R3 B3
    obtain ⟨k, hk, rfl, S4, R4, B4⟩ := hrel
    by_cases hlt : k < N0
    · have hsp : (k : Int) < (N0 : Int) := by omega
      have hkc : (k : Int) ≤ (c3 : Int) := by have := HC3.out; omega
      go_wp2_with fail
      refine (copy_at (some ⟨g3, 0, none⟩) N0 c3 UB wr HUL.out S4.out (fun e => by cases e)).mono ?_
      rintro e w5 ⟨v5, rfl, hown, b5⟩
      obtain ⟨g5, c5, rfl, hc5⟩ := own_some hown (by omega)
      have hg5 : wr.heap.size ≤ g5 := (hown.lt g5 rfl).1
      have cc : w5.cell? ⟨g5, k, none⟩ = some (.int .u8 (UB.getD k 0)) := by
        rw [hown.cellAt k (by simp; omega)]
        simp [HUL.out, hlt]
      have ff := hown.frozenAt k
      have hb := HUB.out.getD k
      obtain ⟨x, HX⟩ : ∃ x, Hid (UB.getD k 0 = x) := ⟨_, rfl⟩
      rw [HX.out] at cc hb
      have hxr := xor8 (y := 16) hb.1 hb.2 (by omega) (by omega)
      have O6 := Hid.mk' (hown.stored k (.int .u8 (bits .xor .u8 x 16))).1
      have b6 : Below wr.heap.size wr (w5.setCell ⟨g5, k, none⟩ (.int .u8 (bits .xor .u8 x 16))) := b5.setCell (p := ⟨g5, k, none⟩) hg5 _
      have S6 := Hid.mk' (S4.out.below b6)
      have R6 : Hid ((w5.setCell ⟨g5, k, none⟩ (.int .u8 (bits .xor .u8 x 16))).heap[w1.heap.size]? = some (.cells L.toArray 24 (0, 0))) := (b6.block _ (Array.getElem?_eq_some_iff.1 R4.out).1).trans R4.out
      have B6 : Hid (Below W.heap.size W (w5.setCell ⟨g5, k, none⟩ (.int .u8 (bits .xor .u8 x 16)))) := B4.out.trans (b6.mono B4.out.size)
      have HC5 := Hid.mk' hc5
      have HXR := Hid.mk' hxr
      clear hown b5 b6 hc5 hg5 hb hxr S4 R4 B4
      go_wp2_with fail
      generalize w5.setCell ⟨g5, k, none⟩ (.int .u8 (bits .xor .u8 x 16)) = w6 at *
      rw [← List.map_set] at O6
      refine (reads_any (some ⟨g5, 0, none⟩) N0 c5 (UB.set k (bits .xor .u8 x 16)) w6 (by rw [List.length_set]; exact HUL.out) (own_block_bs O6.out (bytes_set HUB.out k _ HXR.out.1 HXR.out.2) (by rw [List.length_set, HUL.out]; omega)) (fun e => by cases e) HC5.out).mono ?_
      rintro e w7 ⟨rfl, b7⟩
      have S7 := Hid.mk' (S6.out.below b7)
      have R7 : Hid (w7.heap[w1.heap.size]? = some (.cells L.toArray 24 (0, 0))) := (b7.block _ (Array.getElem?_eq_some_iff.1 R6.out).1).trans R6.out
      have B7 : Hid (Below W.heap.size W w7) := B6.out.trans (b7.mono B6.out.size)
      have HTK : Hid ((UB.take k).length = k) := Hid.mk' (by rw [List.length_take, HUL.out]; omega)
      have HBK : Hid (Bytes (UB.take k)) := Hid.mk' (fun z hz => HUB.out z (List.mem_of_mem_take hz))
      clear b7 S6 R6 B6 O6 cc ff
      go_wp2_with fail
      refine (reads_any (some ⟨g3, 0, none⟩) k c3 (UB.take k) w7 HTK.out (S7.out.take k (by rw [HUL.out]; omega)) (fun e => by cases e) (by omega)).mono ?_
      rintro e w8 ⟨rfl, b8⟩
      have S8 := Hid.mk' (S7.out.below b8)
      have R8 : Hid (w8.heap[w1.heap.size]? = some (.cells L.toArray 24 (0, 0))) := (b8.block _ (Array.getElem?_eq_some_iff.1 R7.out).1).trans R7.out
      have B8 : Hid (Below W.heap.size W w8) := B7.out.trans (b8.mono B7.out.size)
      clear b8 S7 R7 B7
      go_wp2_with fail
      refine (join_any (some ⟨g3, 0, none⟩) (some ⟨g3, 0, none⟩) c3 c3 N0 k UB (UB.take k) w8 HUL.out HTK.out S8.out (S8.out.take k (by rw [HUL.out]; omega)) (by omega)).mono ?_
      rintro e w9 ⟨v9, rfl, hown, b9⟩
      have hjl : (UB ++ UB.take k).length = N0 + k := by rw [List.length_append, HUL.out, HTK.out]
      obtain ⟨a9, c9, rfl, s9, hc9, hn9⟩ := own_bs hown hjl (bytes_append HUB.out HBK.out) (by rw [hjl]; omega)
      have T9 := Hid.mk' s9
      have HN9 := Hid.mk' hn9
      have HC9 := Hid.mk' hc9
      have HJL := Hid.mk' hjl
      have S9 := Hid.mk' (S8.out.below b9)
      have R9 : Hid (w9.heap[w1.heap.size]? = some (.cells L.toArray 24 (0, 0))) := (b9.block _ (Array.getElem?_eq_some_iff.1 R8.out).1).trans R8.out
      have B9 : Hid (Below W.heap.size W w9) := B8.out.trans (b9.mono B8.out.size)
      clear hown b9 s9 hc9 hn9 hjl S8 R8 B8
      go_wp2_with fail
      refine (reads_any a9 (N0 + k) c9 _ w9 HJL.out T9.out HN9.out HC9.out).mono ?_
      rintro e w10 ⟨rfl, b10⟩
      have S10 := Hid.mk' (S9.out.below b10)
      have R10 : Hid (w10.heap[w1.heap.size]? = some (.cells L.toArray 24 (0, 0))) := (b10.block _ (Array.getElem?_eq_some_iff.1 R9.out).1).trans R9.out
      have B10 : Hid (Below W.heap.size W w10) := B9.out.trans (b10.mono B9.out.size)
      clear b10 S9 R9 B9 T9
      go_wp2_with fail
      go_roundw
      case rel => exact ⟨k + 1, hlt, by go_num, S10, R10, B10⟩
      case measure => simp [intOf]; omega
    · obtain rfl : k = N0 := by omega
      have AL : Hid (∀ (u : World) (o : Obj), Below u.heap.size u (u.alloc o)) := Hid.mk' (fun u o => (Below.refl _ _).alloc (Nat.le_refl _) _)
      have SM : Hid (∀ (u u2 v : World), Below u.heap.size u u2 → Below u2.heap.size u2 v → Below u.heap.size u v) := Hid.mk' (fun u u2 v h1 h2 => h1.trans (h2.mono h1.size))
      have ET : Hid (rdE ((UB.set 6 0).set 7 0) = 110) := Hid.mk' (by rw [← HU2.out, ← HB.out, ← HY.out]; exact rd_n)
      have HZB : Hid (Bytes ((UB.set 6 0).set 7 0)) := Hid.mk' (bytes_set (bytes_set HUB.out 6 0 (by omega) (by omega)) 7 0 (by omega) (by omega))
      have HZL : Hid (((UB.set 6 0).set 7 0).length = k) := Hid.mk' (by rw [List.length_set, List.length_set]; exact HUL.out)
      have k6 : (6 : Int) < (k : Int) := by omega
      have k7 : (7 : Int) < (k : Int) := by omega
      obtain ⟨FB, HFB⟩ : ∃ FB, Hid (fB = FB) := ⟨_, rfl⟩
      obtain ⟨FL, HFL⟩ : ∃ FL, Hid (dgC 65527 0 = FL) := ⟨_, rfl⟩
      have HFBB : Hid (Bytes FB) := Hid.mk' (by rw [← HFB.out]; exact fB_bytes)
      have HFBL : Hid (FB.length = 8) := Hid.mk' (by rw [← HFB.out]; rfl)
      have hlcF : Hid (FL.length = 2) := Hid.mk' (by rw [← HFL.out]; rfl)
      have honeF : Hid (FL.toArray.all (·.oneCell') = true) := Hid.mk' (by rw [← HFL.out]; exact dgC_one _ _)
      have hneqF : ∀ w, (binOp .neq 24 (.agg FL.toArray) (.agg #[.int .u16 65527, .int .u16 0])).run Try.prog w = .ok (.bool false) w := by
        rw [← HFL.out]; exact neq_same (t := 24) (L := dgC 65527 0) (hd_eq hd_f)
      have KF : Hid (∀ w : World, Calls Try.prog 9 #[.agg #[.int .u16 65527, .int .u16 0], .slice none 0 0] w fun e w' => ∃ v, e = .returned (.tuple #[v, .int .i64 0]) ∧ w'.ownsRow w.heap.size 5 1 v 8 (FB.map (Value.int .u8)) ∧ Below w.heap.size w w') := Hid.mk' (fun w => by
        have h1 := h_bytes (dgC 65527 0) none 0 0 [] w hd_f rfl (bs_nil _ _)
        rw [by_f.1, by_f.2, HFB.out, HFBL.out] at h1
        exact h1)
      have KR : Hid (∀ (a : Option Addr) (c : Nat) (w : World), Bs w a FB → 8 ≤ c → Calls Try.prog 17 #[.slice a 8 c] w fun e w' => e = .returned (.tuple #[.agg FL.toArray, .int .i64 0]) ∧ Below w.heap.size w w') := Hid.mk' (fun a c w hb hc => by
        have h1 := h_read a 8 c FB w HFBL.out hb hc
        rw [← HFB.out, rd_f.1, rd_f.2, HFL.out] at h1
        exact h1)
      go_wp2_with fail
      refine (copy_at (some ⟨g3, 0, none⟩) k c3 UB wr HUL.out S4.out (fun e => by cases e)).mono ?_
      rintro e w5 ⟨v5, rfl, hown, b5⟩
      obtain ⟨g5, c5, rfl, hc5⟩ := own_some hown (by omega)
      have hg5 : wr.heap.size ≤ g5 := (hown.lt g5 rfl).1
      obtain ⟨y6, d6⟩ : ∃ u, w5.cell? ⟨g5, 6, none⟩ = some u := ⟨_, by rw [hown.cellAt 6 (by omega), List.getElem?_eq_getElem (by rw [List.length_map, HUL.out]; omega)]⟩
      obtain ⟨y7, d7⟩ : ∃ u, w5.cell? ⟨g5, 7, none⟩ = some u := ⟨_, by rw [hown.cellAt 7 (by omega), List.getElem?_eq_getElem (by rw [List.length_map, HUL.out]; omega)]⟩
      have f6 := hown.frozenAt 6
      have f7 := hown.frozenAt 7
      have O6 := Hid.mk' (((hown.stored 6 (.int .u8 0)).1).stored 7 (.int .u8 0)).1
      rw [← List.map_set, ← List.map_set] at O6
      have b6 : Below wr.heap.size wr ((w5.setCell ⟨g5, 6, none⟩ (.int .u8 0)).setCell ⟨g5, 7, none⟩ (.int .u8 0)) := (b5.setCell (p := ⟨g5, 6, none⟩) hg5 _).setCell (p := ⟨g5, 7, none⟩) hg5 _
      have R6 : Hid (((w5.setCell ⟨g5, 6, none⟩ (.int .u8 0)).setCell ⟨g5, 7, none⟩ (.int .u8 0)).heap[w1.heap.size]? = some (.cells L.toArray 24 (0, 0))) := (b6.block _ (Array.getElem?_eq_some_iff.1 R4.out).1).trans R4.out
      have B6 : Hid (Below W.heap.size W ((w5.setCell ⟨g5, 6, none⟩ (.int .u8 0)).setCell ⟨g5, 7, none⟩ (.int .u8 0))) := B4.out.trans (b6.mono B4.out.size)
      have HC5 := Hid.mk' hc5
      clear hown b5 b6 hc5 hg5 S4 R4 B4
      go_wp2_with fail
      clear d6 d7 f6 f7
      generalize (w5.setCell ⟨g5, 6, none⟩ (.int .u8 0)).setCell ⟨g5, 7, none⟩ (.int .u8 0) = u6 at *
      have key := h_read (some ⟨g5, 0, none⟩) k c5 ((UB.set 6 0).set 7 0) u6 HZL.out (own_block_bs O6.out HZB.out (by rw [HZL.out]; omega)) HC5.out
      rw [ET.out, m_none (by rw [ET.out]; omega)] at key
      refine key.mono ?_
      rintro e u7 ⟨rfl, b7⟩
      have R7 : Hid (u7.heap[w1.heap.size]? = some (.cells L.toArray 24 (0, 0))) := (b7.block _ (Array.getElem?_eq_some_iff.1 R6.out).1).trans R6.out
      have B7 : Hid (Below W.heap.size W u7) := B6.out.trans (b7.mono B6.out.size)
      clear key b7 R6 B6 O6
      go_wp2_with (first | refine wpList_store_new rfl 24 _ _ rfl _ _ hd0 rfl rfl rfl info_hd hd0_one ?_)
      obtain ⟨u8, hu8⟩ : ∃ u8, u8 = u7.alloc (.cells hd0.toArray 24) := ⟨_, rfl⟩
      have hu8' : u7.alloc (.cells #[.int .u16 0, .int .u16 0] 24) = u8 := hu8.symm
      first | rw [← hu8] | rw [hu8']
      have b8 : Below u7.heap.size u7 u8 := by rw [hu8]; exact (Below.refl _ _).alloc (Nat.le_refl _) _
      have R8 : Hid (u8.heap[w1.heap.size]? = some (.cells L.toArray 24 (0, 0))) := (b8.block _ (Array.getElem?_eq_some_iff.1 R7.out).1).trans R7.out
      have B8 : Hid (Below W.heap.size W u8) := B7.out.trans (b8.mono B7.out.size)
      clear hu8 hu8' b8 R7 B7
      refine (KF.out u8).mono ?_
      rintro e u9 ⟨v9, rfl, hown, b9⟩
      obtain ⟨g9, c9, rfl, hc9⟩ := own_some hown (by omega)
      have T9 : Hid (Bs u9 (some ⟨g9, 0, none⟩) FB) := own_block_bs hown HFBB.out (by rw [HFBL.out]; omega)
      have R9 : Hid (u9.heap[w1.heap.size]? = some (.cells L.toArray 24 (0, 0))) := (b9.block _ (Array.getElem?_eq_some_iff.1 R8.out).1).trans R8.out
      have B9 : Hid (Below W.heap.size W u9) := B8.out.trans (b9.mono B8.out.size)
      have HC9 := Hid.mk' hc9
      clear hown b9 hc9 R8 B8
      go_wp2_with fail
      refine (KR.out (some ⟨g9, 0, none⟩) c9 u9 T9.out HC9.out).mono ?_
      rintro e u10 ⟨rfl, b10⟩
      have T10 := Hid.mk' (T9.out.below b10)
      have R10 : Hid (u10.heap[w1.heap.size]? = some (.cells L.toArray 24 (0, 0))) := (b10.block _ (Array.getElem?_eq_some_iff.1 R9.out).1).trans R9.out
      have B10 : Hid (Below W.heap.size W u10) := B9.out.trans (b10.mono B9.out.size)
      clear b10 T9 R9 B9
      obtain ⟨O, HO⟩ : ∃ O : Obj, Hid (Obj.cells #[.int .u8 255, .int .u8 247, .int .u8 0, .int .u8 0, .int .u8 0, .int .u8 8, .int .u8 255, .int .u8 255] 5 (0, 0) = O) := ⟨_, rfl⟩
      have b11 : Below u10.heap.size u10 ((u10.alloc (.cells FL.toArray 24)).alloc (.cells #[.int .u8 255, .int .u8 247, .int .u8 0, .int .u8 0, .int .u8 0, .int .u8 8, .int .u8 255, .int .u8 255] 5)) := ((Below.refl _ _).alloc (Nat.le_refl _) _).alloc (by simp) _
      have Q11 : Hid (((u10.alloc (.cells FL.toArray 24)).alloc (.cells #[.int .u8 255, .int .u8 247, .int .u8 0, .int .u8 0, .int .u8 0, .int .u8 8, .int .u8 255, .int .u8 255] 5)).heap[u10.heap.size]? = some (.cells FL.toArray 24 (0, 0))) := Hid.mk' (heap_alloc2_old u10 _ _)
      have S11 : Hid (Bs ((u10.alloc (.cells FL.toArray 24)).alloc (.cells #[.int .u8 255, .int .u8 247, .int .u8 0, .int .u8 0, .int .u8 0, .int .u8 8, .int .u8 255, .int .u8 255] 5)) (some ⟨u10.heap.size + 1, 0, none⟩) FB) := Hid.mk' (by
        rw [← HFB.out]
        exact bs_block (A := []) (D := []) (zs := fB) (heap_alloc2_new u10 _ _) 0 rfl fB_bytes (by simp [fB]))
      have T11 := Hid.mk' (T10.out.below b11)
      have R11 : Hid (((u10.alloc (.cells FL.toArray 24)).alloc (.cells #[.int .u8 255, .int .u8 247, .int .u8 0, .int .u8 0, .int .u8 0, .int .u8 8, .int .u8 255, .int .u8 255] 5)).heap[w1.heap.size]? = some (.cells L.toArray 24 (0, 0))) := (b11.block _ (Array.getElem?_eq_some_iff.1 R10.out).1).trans R10.out
      have B11 : Hid (Below W.heap.size W ((u10.alloc (.cells FL.toArray 24)).alloc (.cells #[.int .u8 255, .int .u8 247, .int .u8 0, .int .u8 0, .int .u8 0, .int .u8 8, .int .u8 255, .int .u8 255] 5))) := B10.out.trans (b11.mono B10.out.size)
      clear b11 T10 R10 B10 HO
      go_wp2_with (first | refine wpList_store_new rfl 24 _ _ rfl _ _ FL rfl rfl (by rw [hlcF.out]; rfl) (by rw [hlcF.out]; exact info_hd) honeF.out ?_)
      generalize (u10.alloc (.cells FL.toArray 24)).alloc (.cells #[.int .u8 255, .int .u8 247, .int .u8 0, .int .u8 0, .int .u8 0, .int .u8 8, .int .u8 255, .int .u8 255] 5) = u11 at *
      refine (eq_at (some ⟨g9, 0, none⟩) (some ⟨u10.heap.size + 1, 0, none⟩) 8 8 c9 8 FB FB u11 HFBL.out HFBL.out T11.out S11.out).mono ?_
      rw [decide_eq_true (rfl : FB = FB)]
      rintro e u12 ⟨rfl, d12⟩
      have Q12 : Hid (u12.heap[u10.heap.size]? = some (.cells FL.toArray 24 (0, 0))) := Hid.mk' (by rw [d12.heap]; exact Q11.out)
      have R4 : Hid (u12.heap[w1.heap.size]? = some (.cells L.toArray 24 (0, 0))) := Hid.mk' (by rw [d12.heap]; exact R11.out)
      have B4 : Hid (Below W.heap.size W u12) := B11.out.trans (d12.below _)
      clear d12 Q11 S11 T11 R11 B11
      go_wp2_with (first | refine wpList_load_midG (by rfl) 24 _ rfl u10.heap.size 0 rfl FL _ (range_block Q12.out) Try.underlying24 rfl (by rw [hlcF.out]; exact info_hd) ?_)
      clear ET HZB HZL k6 k7 HFB HFL HFBB HFBL hlcF honeF hneqF KF KR HC5 HC9 Q12
      have KB : Hid (∀ (a : Option Addr) (n c : Nat) (zs : List Int) (W' : World), zs.length = n → Bs W' a zs → (a = none → c = 0) → Calls Try.prog 3 #[.agg L.toArray, .slice a n c] W' fun e w' => e = .returned (.bool true) ∧ Below W'.heap.size W' w') := Hid.mk' (fun a n c zs W' hn hB h0 => bytes_any L a n c zs W' HU.out hn hB h0)
      have KK : Hid (∀ (a : Option Addr) (n c : Nat) (zs : List Int) (W' : World), zs.length = n → Bs W' a zs → Calls Try.prog 5 #[.agg L.toArray, .slice a n c, .slice none 0 0] W' fun e w' => e = .returned (.bool true) ∧ Below W'.heap.size W' w') := Hid.mk' (fun a n c zs W' hn hB => back_any L a n c zs none 0 0 [] W' HU.out hn hB rfl (bs_nil _ _) (by omega))
      have KZ : Hid (∀ W' : World, Calls Try.prog 3 #[.agg #[.int .u16 0, .int .u16 0], .slice none 0 0] W' fun e w' => e = .returned (.bool true) ∧ Below W'.heap.size W' w') := Hid.mk' (fun W' => bytes_any hd0 none 0 0 [] W' hd_0 rfl (bs_nil _ _) (fun _ => rfl))
      obtain ⟨x0, x1, hLx⟩ := cells_of L hlc.out
      subst hLx
      have CE : Hid (∀ w' : World, w'.heap[w1.heap.size]? = some (.cells [x0, x1].toArray 24 (0, 0)) → w'.cell? ⟨w1.heap.size, 0, none⟩ = some x0 ∧ w'.cell? ⟨w1.heap.size, 1, none⟩ = some x1) := Hid.mk' (fun w' hh => by
        refine ⟨?_, ?_⟩ <;> exact cell_of_row w' _ _ _ _ _ hh)
      have rD := CE.out _ R4.out
      obtain ⟨Z1, HZ1⟩ : ∃ Z1, Hid ((List.replicate 2040 (0 : Int)).map (Value.int .u8) = Z1) := ⟨_, rfl⟩
      obtain ⟨Z2, HZ2⟩ : ∃ Z2, Hid ((List.replicate 2041 (0 : Int)).map (Value.int .u8) = Z2) := ⟨_, rfl⟩
      obtain ⟨Z3, HZ3⟩ : ∃ Z3, Hid ((List.replicate 70000 (0 : Int)).map (Value.int .u8) = Z3) := ⟨_, rfl⟩
      have hmk1 : ∀ u : World, (Instr.makeSlice 25 (.int .i64 2040) (.int .i64 2040)).run Try.prog u = .ok (.slice (some ⟨u.heap.size, 0, none⟩) 2040 2040) (u.alloc (.cells Z1.toArray 5)) := by
        rw [← HZ1.out]; exact make_bytes 2040 (by omega)
      have hmk2 : ∀ u : World, (Instr.makeSlice 25 (.int .i64 2041) (.int .i64 2041)).run Try.prog u = .ok (.slice (some ⟨u.heap.size, 0, none⟩) 2041 2041) (u.alloc (.cells Z2.toArray 5)) := by
        rw [← HZ2.out]; exact make_bytes 2041 (by omega)
      have hmk3 : ∀ u : World, (Instr.makeSlice 25 (.int .i64 70000) (.int .i64 70000)).run Try.prog u = .ok (.slice (some ⟨u.heap.size, 0, none⟩) 70000 70000) (u.alloc (.cells Z3.toArray 5)) := by
        rw [← HZ3.out]; exact make_bytes 70000 (by omega)
      have NB1 : Hid (∀ u : World, Bs (u.alloc (.cells Z1.toArray 5)) (some ⟨u.heap.size, 0, none⟩) (List.replicate 2040 0)) := Hid.mk' (fun u => by rw [← HZ1.out]; exact bs_new u _ 5 (bytes_zeros _) (by rw [List.length_replicate]; omega))
      have NB2 : Hid (∀ u : World, Bs (u.alloc (.cells Z2.toArray 5)) (some ⟨u.heap.size, 0, none⟩) (List.replicate 2041 0)) := Hid.mk' (fun u => by rw [← HZ2.out]; exact bs_new u _ 5 (bytes_zeros _) (by rw [List.length_replicate]; omega))
      have NB3 : Hid (∀ u : World, Bs (u.alloc (.cells Z3.toArray 5)) (some ⟨u.heap.size, 0, none⟩) (List.replicate 70000 0)) := Hid.mk' (fun u => by rw [← HZ3.out]; exact bs_new u _ 5 (bytes_zeros _) (by rw [List.length_replicate]; omega))
      go_region_held3 (fun w' => w'.cell? ⟨w1.heap.size, 0, none⟩ = some x0 ∧ w'.cell? ⟨w1.heap.size, 1, none⟩ = some x1) (go_keep) (first | (go_at_call 16; refine (awake_any u12.drew).mono ?_; rintro e w5 ⟨rfl, b5⟩; have b5 := ((Below.refl u12.heap.size u12).drew).trans b5; have R5 : Hid (w5.heap[w1.heap.size]? = some (.cells [x0, x1].toArray 24 (0, 0))) := ((b5.block _ (Array.getElem?_eq_some_iff.1 R4.out).1).trans R4.out); have B5 : Hid (Below W.heap.size W w5) := (B4.out.trans (b5.mono B4.out.size)); have r5 := CE.out _ R5.out; clear b5 rD) | (go_at_call 3; refine (KZ.out w7).mono ?_; rintro e w8 ⟨rfl, b8⟩; have R8 : Hid (w8.heap[w1.heap.size]? = some (.cells [x0, x1].toArray 24 (0, 0))) := ((b8.block _ (Array.getElem?_eq_some_iff.1 R7.out).1).trans R7.out); have B8 : Hid (Below W.heap.size W w8) := (B7.out.trans (b8.mono B7.out.size)); have r8 := CE.out _ R8.out; clear b8 r7) | (go_at_call 3; refine (KB.out (some ⟨w6.heap.size, 0, none⟩) 2041 2041 (List.replicate 2041 0) (w6.alloc (.cells Z2.toArray 5)) List.length_replicate (NB2.out w6) (fun e => by cases e)).mono ?_; rintro e w7 ⟨rfl, b7⟩; have b7 := SM.out _ _ _ (AL.out w6 _) b7; have R7 : Hid (w7.heap[w1.heap.size]? = some (.cells [x0, x1].toArray 24 (0, 0))) := ((b7.block _ (Array.getElem?_eq_some_iff.1 R6.out).1).trans R6.out); have B7 : Hid (Below W.heap.size W w7) := (B6.out.trans (b7.mono B6.out.size)); have r7 := CE.out _ R7.out; clear b7 r6) | (go_at_call 3; refine (KB.out (some ⟨w5.heap.size, 0, none⟩) 2040 2040 (List.replicate 2040 0) (w5.alloc (.cells Z1.toArray 5)) List.length_replicate (NB1.out w5) (fun e => by cases e)).mono ?_; rintro e w6 ⟨rfl, b6⟩; have b6 := SM.out _ _ _ (AL.out w5 _) b6; have R6 : Hid (w6.heap[w1.heap.size]? = some (.cells [x0, x1].toArray 24 (0, 0))) := ((b6.block _ (Array.getElem?_eq_some_iff.1 R5.out).1).trans R5.out); have B6 : Hid (Below W.heap.size W w6) := (B5.out.trans (b6.mono B5.out.size)); have r6 := CE.out _ R6.out; clear b6 r5) | (go_at_call 4; refine (reads_any (some ⟨w8.heap.size, 0, none⟩) 70000 70000 (List.replicate 70000 0) (w8.alloc (.cells Z3.toArray 5)) List.length_replicate (NB3.out w8) (fun e => by cases e) (Nat.le_refl _)).mono ?_; rintro e w9 ⟨rfl, b9⟩; have b9 := SM.out _ _ _ (AL.out w8 _) b9; have R9 : Hid (w9.heap[w1.heap.size]? = some (.cells [x0, x1].toArray 24 (0, 0))) := ((b9.block _ (Array.getElem?_eq_some_iff.1 R8.out).1).trans R8.out); have B9 : Hid (Below W.heap.size W w9) := (B8.out.trans (b9.mono B8.out.size)); have r9 := CE.out _ R9.out; clear b9 r8) | (go_at_call 5; refine (KK.out (some ⟨w9.heap.size, 0, none⟩) 2040 2040 (List.replicate 2040 0) (w9.alloc (.cells Z1.toArray 5)) List.length_replicate (NB1.out w9)).mono ?_; rintro e w10 ⟨rfl, b10⟩; have b10 := SM.out _ _ _ (AL.out w9 _) b10; have R10 : Hid (w10.heap[w1.heap.size]? = some (.cells [x0, x1].toArray 24 (0, 0))) := ((b10.block _ (Array.getElem?_eq_some_iff.1 R9.out).1).trans R9.out); have B10 : Hid (Below W.heap.size W w10) := (B9.out.trans (b10.mono B9.out.size)); have r10 := CE.out _ R10.out; clear b10 r9))
      all_goals
        clear r10
        go_wp2_with fail
        go_ret
        exact ⟨rfl, B10.out⟩
end Go.Proofs.Ytbbnoogkgobeoaa
