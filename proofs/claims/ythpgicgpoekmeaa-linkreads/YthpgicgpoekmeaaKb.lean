/- The contract of link.Read. -/
import Derived.Test.YthpgicgpoekmeaaKa
namespace Go.Proofs.Ythpgicgpoekmeaa
open Go.ChangeShapes Go.WideShapes Go.ChangeAt Go.RowKit

theorem or16 (V b : Int) (h0 : 0 ≤ V) (h1 : V ≤ 255) (b0 : 0 ≤ b) (b1 : b ≤ 255) : bits .or .u16 (V * 256) b = V * 256 + b := by
  rw [u16_or _ _ (by omega) (by omega) (by omega) (by omega)]
  have h := Nat.two_pow_add_eq_or_of_lt (i := 8) (b := b.toNat) (by omega) V.toNat
  have e2 : (V * 256).toNat = 2 ^ 8 * V.toNat := by omega
  rw [e2, ← h]
  omega

theorem info_lk : (Try.prog.info? 25).map (·.size) = some 13 := by kernel_rfl

set_option maxHeartbeats 400000 in
theorem lread_no (a : Option Addr) (n c : Nat) (w : World) (hn : n < 14) :
    Calls Try.prog 17 #[.slice a n c] w fun e w' => e = .returned (.tuple #[.agg lk0.toArray, .int .i64 6]) ∧ Below w.heap.size w w' := by
  go_enter Try.func17, Try.ntmps17
  go_wp2_with fail
  refine ret_cell_tmp rfl w.heap.size 25 _ (0, 0) _ rfl (heap_alloc_new w _) Try.underlying25 rfl info_lk rfl ?_
  exact ⟨rfl, (Below.refl _ _).alloc (Nat.le_refl _) _⟩

set_option maxHeartbeats 400000 in
theorem lread_ok (b off : Nat) (n c : Nat) (zs : List Int) (w : World) (hz : zs.length = n) (hB : Bs w (some ⟨b, off, none⟩) zs) (hn : 14 ≤ n) (hc : n ≤ c) :
    Calls Try.prog 17 #[.slice (some ⟨b, off, none⟩) n c] w fun e w' => e = .returned (.tuple #[.agg (lkC (rdD zs) (rdS zs) (rdT zs)).toArray, .int .i64 0]) ∧ Below w.heap.size w w' := by
  obtain ⟨RES, HRES⟩ : ∃ RES, Hid (lkC (rdD zs) (rdS zs) (rdT zs) = RES) := ⟨_, rfl⟩
  rw [HRES.out]
  obtain ⟨Z, HZ⟩ : ∃ Z : Array Value, Hid (#[.int .u8 0, .int .u8 0, .int .u8 0, .int .u8 0, .int .u8 0, .int .u8 0, .int .u8 0, .int .u8 0, .int .u8 0, .int .u8 0, .int .u8 0, .int .u8 0, .int .u16 0] = Z) := ⟨_, rfl⟩
  have hsp : (12 : Int) < (n : Int) := by omega
  have hsp1 : (13 : Int) < (n : Int) := by omega
  have hc6 : (6 : Int) ≤ (c : Int) := by omega
  have hc12 : (12 : Int) ≤ (c : Int) := by omega
  have hln : n ≤ 140737488355328 := by rw [← hz]; exact hB.len
  have HB := Hid.mk' hB
  have HN := Hid.mk' hz
  clear hB hz
  go_enter Try.func17, Try.ntmps17
  go_wp2_with fail
  rw [HZ.out]
  obtain ⟨W1, hW1⟩ : ∃ W1, W1 = w.alloc (.cells Z 25) := ⟨_, rfl⟩
  rw [← hW1]
  have B1 : Hid (Below w.heap.size w W1) := by rw [hW1]; exact (Below.refl _ _).alloc (Nat.le_refl _) _
  have S1 : Hid (W1.heap.size = w.heap.size + 1) := by rw [hW1]; exact (by simp : (w.alloc (.cells Z 25)).heap.size = w.heap.size + 1)
  have R1 : Hid (W1.heap[w.heap.size]? = some (.cells Z 25 (0, 0))) := by rw [hW1]; exact heap_alloc_new w _
  clear hW1
  have cc : ∀ i, i < n → W1.cell? ⟨b, off + i, none⟩ = some (.int .u8 (zs.getD i 0)) := by
    intro i hi
    rcases (HB.out.below B1.out).lies with h0 | ⟨b', off', e, hc⟩
    · rw [HN.out] at h0; omega
    · cases e; exact hc i (by rw [HN.out]; exact hi)
  have c12 := cc 12 (by omega)
  have c13 := cc 13 (by omega)
  have b12 := HB.out.bytes.getD 12
  have b13 := HB.out.bytes.getD 13
  clear cc
  obtain ⟨x, HX⟩ : ∃ x, Hid (zs.getD 12 0 = x) := ⟨_, rfl⟩
  obtain ⟨y, HY⟩ : ∃ y, Hid (zs.getD 13 0 = y) := ⟨_, rfl⟩
  rw [HX.out] at b12 c12
  rw [HY.out] at b13 c13
  obtain ⟨b120, b121⟩ := b12
  obtain ⟨b130, b131⟩ := b13
  have hlt : b < W1.heap.size := lt_of_cell c12
  have hne : ¬ b = W1.heap.size := by omega
  go_region
  have hor : bits .or .u16 (x * 256) y = x * 256 + y := or16 x y (by omega) (by omega) (by omega) (by omega)
  rw [hor]
  have t0 : 0 ≤ x * 256 + y := by omega
  have t1 : x * 256 + y ≤ 65535 := by omega
  clear hor c12 c13
  obtain ⟨T, HT⟩ : ∃ T, Hid (x * 256 + y = T) := ⟨_, rfl⟩
  rw [HT.out] at t0 t1 ⊢
  obtain ⟨W2, hW2⟩ : ∃ W2, W2 = (W1.alloc (.cells #[.int .u8 0, .int .u8 0, .int .u8 0, .int .u8 0, .int .u8 0, .int .u8 0, .int .u8 0, .int .u8 0, .int .u8 0, .int .u8 0, .int .u8 0, .int .u8 0, .int .u16 T] 25)).drew := ⟨_, rfl⟩
  rw [← hW2]
  have R2 : Hid (W2.heap[w.heap.size]? = some (.cells Z 25 (0, 0))) := by
    rw [hW2]
    exact (Below.heap_alloc W1 _ _ (by have := S1.out; omega)).trans R1.out
  have Q2 : Hid (W2.heap[W1.heap.size]? = some (.cells (lkC (List.replicate 6 0) (List.replicate 6 0) T).toArray 25 (0, 0))) := by
    rw [hW2]; exact heap_alloc_new W1 _
  have B2 : Hid (Below w.heap.size w W2) := by
    rw [hW2]
    exact (B1.out.alloc (by have := S1.out; omega) _).drew
  clear hW2 R1 B1
  go_wp2_with fail
  have Y2 : Hid (Bs W2.drew (some ⟨b, off, none⟩) (zs.take 6)) := ((HB.out.below B2.out).below ((Below.refl _ _).drew)).take 6 (by rw [HN.out]; omega)
  have hl6 : Hid ((zs.take 6).length = 6) := Hid.mk' (by rw [List.length_take, HN.out]; omega)
  go_region_law (refine step_copy rfl _ _ rfl W1.heap.size 0 6 6 c (some ⟨b, off, none⟩) rfl rfl (zs.take 6) _ 25 Q2.out Y2.out hl6.out (by simp [lkC]) ?_; intro w3 hg3 hk3; have Q3 := Hid.mk' hg3; have K3 := Hid.mk' hk3; clear hg3 hk3)
  have R3 : Hid (w3.heap[w.heap.size]? = some (.cells Z 25 (0, 0))) := (K3.out.block w.heap.size (by have := (Array.getElem?_eq_some_iff.1 R2.out).1; exact this) (by have := S1.out; omega)).trans R2.out
  have B3 : Hid (Below w.heap.size w w3) := B2.out.drew.trans (K3.out.below B2.out.size (fun k hk => by have := S1.out; omega))
  rw [show put (lkC (List.replicate 6 0) (List.replicate 6 0) T) 0 ((zs.take 6).map (Value.int .u8)) = lkC (zs.take 6) (List.replicate 6 0) T from put_head _ _ _ (by simpa using hl6.out)] at Q3
  clear K3 R2 Q2 B2 Y2
  go_wp2_with fail
  have Y3 : Hid (Bs w3.drew (some ⟨b, off + 6, none⟩) ((zs.drop 6).take 6)) := (((HB.out.below B3.out).below ((Below.refl _ _).drew)).drop 6).take 6 (by rw [List.length_drop, HN.out]; omega)
  have hl12 : Hid (((zs.drop 6).take 6).length = 6) := Hid.mk' (by rw [List.length_take, List.length_drop, HN.out]; omega)
  have hne6 : ¬ c = 6 := by omega
  have hlq : Hid ((lkC (zs.take 6) (List.replicate 6 0) T).length = 13) := Hid.mk' (by unfold lkC; simp only [List.length_append, List.length_map, hl6.out, List.length_replicate]; rfl)
  go_region_law (refine step_copy rfl _ _ rfl W1.heap.size 6 6 6 (c - 6) (some ⟨b, off + 6, none⟩) rfl rfl ((zs.drop 6).take 6) _ 25 Q3.out Y3.out hl12.out (by rw [hlq.out]; omega) ?_; intro w4 hg4 hk4; have Q4 := Hid.mk' hg4; have K4 := Hid.mk' hk4; clear hg4 hk4)
  have R4 : Hid (w4.heap[w.heap.size]? = some (.cells Z 25 (0, 0))) := (K4.out.block w.heap.size (by have := (Array.getElem?_eq_some_iff.1 R3.out).1; exact this) (by have := S1.out; omega)).trans R3.out
  have B4 : Hid (Below w.heap.size w w4) := B3.out.drew.trans (K4.out.below B3.out.size (fun k hk => by have := S1.out; omega))
  rw [show put (lkC (zs.take 6) (List.replicate 6 0) T) 6 (((zs.drop 6).take 6).map (Value.int .u8)) = lkC (zs.take 6) ((zs.drop 6).take 6) T from put_mid _ _ _ _ 6 (by simpa using hl6.out.symm) (by simpa using hl12.out)] at Q4
  have hlc : Hid ((lkC (zs.take 6) ((zs.drop 6).take 6) T).length = 13) := Hid.mk' (by unfold lkC; simp only [List.length_append, List.length_map, hl6.out, hl12.out]; rfl)
  clear K4 R3 Q3 B3 Y3
  have hone : Hid ((lkC (zs.take 6) ((zs.drop 6).take 6) T).toArray.all (·.oneCell') = true) := lkC_one _ _ _
  have HLR : Hid (lkC (zs.take 6) ((zs.drop 6).take 6) T = RES) := Hid.mk' (by rw [← HRES.out]; unfold rdD rdS rdT; rw [HX.out, HY.out, HT.out])
  rw [HLR.out] at hlc hone Q4
  have hz13 : Hid (w4.there w.heap.size 0 RES.toArray.size) := by
    have e : RES.toArray.size = Z.toList.length := by rw [← HZ.out]; simpa using hlc.out
    rw [e]
    exact there_block (by simpa using R4.out)
  go_wp2_with (first | refine wpList_store_mid rfl 25 _ _ rfl w.heap.size 0 RES.toArray rfl rfl hz13.out (by rw [List.size_toArray, hlc.out]; exact info_lk) hone.out ?_ | refine wpList_load_mid rfl 25 _ rfl W1.heap.size 0 rfl RES _ (range_block Q4.out) Try.underlying25 rfl (by rw [hlc.out]; exact info_lk) ?_)
  have R5 : Hid ((w4.setCells w.heap.size 0 RES).heap[w.heap.size]? = some (.cells RES.toArray 25 (0, 0))) :=
    heap_whole (L := Z.toList) (by simpa using R4.out) (by rw [← HZ.out]; simpa using hlc.out.symm)
  have B5 : Hid (Below w.heap.size w (w4.setCells w.heap.size 0 RES)) := B4.out.trans (((Kept.refl (fun k => k = w.heap.size) w4).setCells w.heap.size 0 RES (fun _ => rfl)).below B4.out.size (fun k hk => by omega))
  refine ret_cell_tmp rfl w.heap.size 25 RES (0, 0) _ rfl R5.out Try.underlying25 rfl (by rw [hlc.out]; exact info_lk) rfl ?_
  exact ⟨rfl, B5.out⟩
end Go.Proofs.Ythpgicgpoekmeaa
