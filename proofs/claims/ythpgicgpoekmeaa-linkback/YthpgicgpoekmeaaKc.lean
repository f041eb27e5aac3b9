/- The contracts of the document's own Check, Size, Bytes, Read. -/
import Derived.Test.YthpgicgpoekmeaaKb
import Derived.Test.YthpgicgpoekmeaaGb
namespace Go.Proofs.Ythpgicgpoekmeaa
open Go.ChangeShapes Go.WideShapes Go.ChangeAt Go.RowKit

theorem rcheck_any (L : List Value) (w : World) : Calls Try.prog 12 #[.agg L.toArray] w fun e w' => e = .returned (.int .i64 0) ∧ Below w.heap.size w w' := by
  go_enter Try.func12, Try.ntmps12
  go_wp2_with fail
  go_ret
  exact ⟨rfl, (Below.refl _ _).alloc (Nat.le_refl _) _⟩

theorem rsize_any (w : World) : Calls Try.prog 14 #[] w fun e w' => e = .returned (.int .i64 14) ∧ w = w' := by
  go_enter Try.func14, Try.ntmps14
  go_wp2_with fail
  go_ret
  exact ⟨rfl, rfl⟩

theorem numB_two (t : Int) (h0 : 0 ≤ t) (h1 : t ≤ 65535) : numB 2 t = [t / 256, t % 256] := by
  simp [numB]; omega

set_option maxHeartbeats 400000 in
theorem rbytes_no (d s : List Int) (t : Int) (a : Option Addr) (n c : Nat) (w : World) (h : Lk d s t) (hn : ¬ n ≤ 2034) (hl : n ≤ 140737488355328) :
    Calls Try.prog 10 #[.agg (lkC d s t).toArray, .slice a n c] w fun e w' => e = .returned (.tuple #[.slice none 0 0, .int .i64 5]) ∧ Below w.heap.size w w' := by
  have hlc := Hid.mk' (lkC_length h)
  obtain ⟨L, HL⟩ : ∃ L, Hid (lkC d s t = L) := ⟨_, rfl⟩
  rw [HL.out] at hlc ⊢
  obtain ⟨W1, hW1⟩ : ∃ W1, W1 = w.alloc (.cells L.toArray 25) := ⟨_, rfl⟩
  have R1 : Hid (W1.heap[w.heap.size]? = some (.cells L.toArray 25 (0, 0))) := by rw [hW1]; exact heap_alloc_new w _
  have B1 : Hid (Below w.heap.size w W1) := by rw [hW1]; exact (Below.refl _ _).alloc (Nat.le_refl _) _
  have HW := Hid.mk' hW1.symm
  clear h hW1
  go_enter Try.func10, Try.ntmps10
  go_wp2_with (first | (go_at_call 12; rw [HW.out]; refine (rcheck_any L W1).mono ?_; rintro e w2 ⟨rfl, b2⟩; have B2 : Hid (Below w.heap.size w w2) := (B1.out.trans (b2.mono B1.out.size)); clear b2) | refine wpList_load_mid rfl 25 _ rfl w.heap.size 0 rfl L _ (by rw [HW.out]; exact range_block R1.out) Try.underlying25 rfl (by rw [hlc.out]; exact info_lk) ?_)
  go_ret2
  exact ⟨rfl, B2.out⟩

theorem Kept_block {w w' : World} {g : Nat} {o : Obj} {row : Option Nat} (h : w.heap[g]? = some o) (hg : w.grownBy w' row) (hne : row ≠ some g) : w'.heap[g]? = some o :=
  (hg.block g (Array.getElem?_eq_some_iff.1 h).1 (fun e => hne e.symm)).trans h

set_option maxHeartbeats 1000000 in
theorem rbytes_ok (d s : List Int) (t : Int) (a : Option Addr) (n c : Nat) (w : World) (h : Lk d s t) (hn : n ≤ 2034) :
    Calls Try.prog 10 #[.agg (lkC d s t).toArray, .slice a n c] w fun e w' => ∃ v, e = .returned (.tuple #[v, .int .i64 0]) ∧ w'.ownsRow w.heap.size 5 1 v 14 ((lkB d s t).map (Value.int .u8)) ∧ Below w.heap.size w w' := by
  have hlc := Hid.mk' (lkC_length h)
  obtain ⟨L, HL⟩ : ∃ L, Hid (lkC d s t = L) := ⟨_, rfl⟩
  rw [HL.out] at hlc ⊢
  obtain ⟨W1, hW1⟩ : ∃ W1, W1 = w.alloc (.cells L.toArray 25) := ⟨_, rfl⟩
  have R1 : Hid (W1.heap[w.heap.size]? = some (.cells L.toArray 25 (0, 0))) := by rw [hW1]; exact heap_alloc_new w _
  have B1 : Hid (Below w.heap.size w W1) := by rw [hW1]; exact (Below.refl _ _).alloc (Nat.le_refl _) _
  have HW := Hid.mk' hW1.symm
  have t0 := h.t0
  have t1 := h.t1
  have H := Hid.mk' h
  have bd : ∀ w' : World, w'.heap[w.heap.size]? = some (.cells L.toArray 25 (0, 0)) → Bs w' (some ⟨w.heap.size, 0, none⟩) d := fun w' hh =>
    bs_block (A := []) (D := s.map (Value.int .u8) ++ [.int .u16 t]) (t := 25) (by rw [hh, ← HL.out]; rfl) 0 rfl H.out.db (by rw [H.out.dl]; omega)
  have bs : ∀ w' : World, w'.heap[w.heap.size]? = some (.cells L.toArray 25 (0, 0)) → Bs w' (some ⟨w.heap.size, 6, none⟩) s := fun w' hh =>
    bs_block (A := d.map (Value.int .u8)) (D := [.int .u16 t]) (t := 25) (by rw [hh, ← HL.out]; rfl) 6 (by simp [H.out.dl]) H.out.sb (by rw [H.out.sl]; omega)
  have BD := Hid.mk' bd
  have BSS := Hid.mk' bs
  clear h hW1 bd bs
  go_enter Try.func10, Try.ntmps10
  go_wp2_with (first | (go_at_call 12; rw [HW.out]; refine (rcheck_any L W1).mono ?_; rintro e w2 ⟨rfl, b2⟩; have B2 : Hid (Below w.heap.size w w2) := (B1.out.trans (b2.mono B1.out.size)); have R2 : Hid (w2.heap[w.heap.size]? = some (.cells L.toArray 25 (0, 0))) := ((b2.block _ (Array.getElem?_eq_some_iff.1 R1.out).1).trans R1.out); clear b2) | (at_builtin; refine wpList_app_own rfl _ _ rfl w2.heap.size v3 (0 + 6) _ rfl O3.out (some ⟨w.heap.size, 6, none⟩) 6 6 s rfl H.out.sl (BSS.out _ R3.out) (by omega) (Nat.le_of_lt_succ (Nat.lt_succ_of_le S3.out)) ?_; intro v4 w4 hown hgrow hpl; have R4 : Hid (w4.heap[w.heap.size]? = some (.cells L.toArray 25 (0, 0))) := (Kept_block R3.out hgrow (fun e => by have h1 := (O3.out.lt _ e).1; have h2 := (Array.getElem?_eq_some_iff.1 R2.out).1; omega)); have c12 : w4.cell? ⟨w.heap.size, 12, none⟩ = some (.int .u16 t) := (by rw [cell_of_row w4 _ 12 _ _ _ R4.out, ← HL.out, List.getElem?_toArray]; exact lkC_cell H.out); have B4 : Hid (Below w.heap.size w w4) := (B3.out.grown hgrow B3.out.size (by intro k hk; exact Nat.le_trans B2.out.size (O3.out.lt k hk).1)); have S4 := Hid.mk' (Nat.le_trans S3.out hgrow.size); have O4 := Hid.mk' hown; clear hown hgrow hpl) | (at_builtin; refine wpList_app_own rfl _ _ rfl w2.heap.size (.slice none 0 0) 0 [] rfl (World.ownsRow_nil _ _ _ _) (some ⟨w.heap.size, 0, none⟩) 6 6 d rfl H.out.dl (BD.out _ R2.out) (by omega) (Nat.le_refl _) ?_; intro v3 w3 hown hgrow hpl; have R3 : Hid (w3.heap[w.heap.size]? = some (.cells L.toArray 25 (0, 0))) := (Kept_block R2.out hgrow (by simp [Value.ownBlock])); have B3 : Hid (Below w.heap.size w w3) := (B2.out.grown hgrow B2.out.size (by intro k hk; simp [Value.ownBlock] at hk)); have S3 := Hid.mk' hgrow.size; have O3 := Hid.mk' hown; clear hown hgrow hpl) | refine wpList_load_mid rfl 25 _ rfl w.heap.size 0 rfl L _ (by rw [HW.out]; exact range_block R1.out) Try.underlying25 rfl (by rw [hlc.out]; exact info_lk) ?_)
  refine (number_any t 2 w4 t0 (by omega) (by omega)).mono ?_
  rintro e w5 ⟨u5, rfl, hown, b5⟩
  obtain ⟨a5, c5, rfl, s5, -⟩ := bs_own (by rw [numB_length]; exact hown) (numB_bytes 2 t) (by rw [numB_length]; omega)
  rw [numB_length] at *
  have S5 := Hid.mk' s5
  have O5 := Hid.mk' (Kept.owns O4.out (Kept.of_below (S := fun _ => False) b5) (fun _ _ h => h))
  have B5 : Hid (Below w.heap.size w w5) := B4.out.trans (b5.mono B4.out.size)
  have T5 := Hid.mk' (Nat.le_trans S4.out b5.size)
  clear hown b5 s5 c12
  go_wp2_with (at_builtin; refine wpList_app_own rfl _ _ rfl w2.heap.size v4 (0 + 6 + 6) _ rfl O5.out a5 c5 2 (numB 2 t) rfl (numB_length 2 t) S5.out (by omega) T5.out ?_; intro v6 w6 hown hgrow hpl; have B6 : Hid (Below w.heap.size w w6) := (B5.out.grown hgrow B5.out.size (by intro k hk; exact Nat.le_trans B2.out.size (O5.out.lt k hk).1)); have O6 := Hid.mk' hown; clear hown hgrow hpl)
  go_ret2
  refine ⟨_, rfl, ?_, B6.out⟩
  have h6 := ownsRow_base O6.out B2.out.size
  rw [numB_two t t0 t1] at h6
  simpa [lkB] using h6

set_option maxHeartbeats 400000 in
theorem rread_no (a : Option Addr) (n c : Nat) (w : World) (hn : n < 14) :
    Calls Try.prog 18 #[.slice a n c] w fun e w' => e = .returned (.tuple #[.agg lk0.toArray, .int .i64 6]) ∧ Below w.heap.size w w' := by
  go_enter Try.func18, Try.ntmps18
  go_wp2_with fail
  refine ret_cell_tmp rfl w.heap.size 25 _ (0, 0) _ rfl (heap_alloc2_old w _ _) Try.underlying25 rfl info_lk rfl ?_
  exact ⟨rfl, ((Below.refl _ _).alloc (Nat.le_refl _) _).alloc (by simp) _⟩

theorem lkC_setD (d s : List Int) (t : Int) (i : Nat) (x : Int) (h : i < d.length) : (lkC d s t).set i (.int .u8 x) = lkC (d.set i x) s t := by
  unfold lkC
  rw [List.set_append_left _ _ (by simpa using h), List.map_set]
theorem lkC_setS (d s : List Int) (t : Int) (i : Nat) (x : Int) (h : i < s.length) : (lkC d s t).set (d.length + i) (.int .u8 x) = lkC d (s.set i x) t := by
  unfold lkC
  rw [List.set_append_right _ _ (by simp), List.length_map, Nat.add_sub_cancel_left, List.set_append_left _ _ (by simpa using h), List.map_set]
theorem lkC_setT (d s : List Int) (t u : Int) : (lkC d s t).set (d.length + s.length) (.int .u16 u) = lkC d s u := by
  unfold lkC
  rw [List.set_append_right _ _ (by simp), List.length_map, Nat.add_sub_cancel_left, List.set_append_right _ _ (by simp), List.length_map, Nat.sub_self]
  rfl

/-- The first i of six bytes are there, the others are 0. -/
def half (zs : List Int) (i : Nat) : List Int := zs.take i ++ List.replicate (6 - i) 0
theorem half_length {zs : List Int} {i : Nat} (h : 6 ≤ zs.length) (hi : i ≤ 6) : (half zs i).length = 6 := by
  unfold half; simp; omega
theorem half_succ {zs : List Int} {i : Nat} (h : 6 ≤ zs.length) (hi : i < 6) : (half zs i).set i (zs.getD i 0) = half zs (i + 1) := by
  unfold half
  have e : (zs.take i).length = i := by simp; omega
  rw [List.set_append_right _ _ (by omega), e, Nat.sub_self, List.take_succ_eq_append_getElem (by omega), show 6 - i = (6 - (i + 1)) + 1 by omega, List.replicate_succ, List.set_cons_zero, List.append_assoc]
  rw [List.getD_eq_getElem?_getD, List.getElem?_eq_getElem (by omega)]; rfl

set_option maxHeartbeats 1000000 in
theorem rread_ok (b off : Nat) (n c : Nat) (zs : List Int) (w : World) (hz : zs.length = n) (hB : Bs w (some ⟨b, off, none⟩) zs) (hn : 14 ≤ n) :
    Calls Try.prog 18 #[.slice (some ⟨b, off, none⟩) n c] w fun e w' => e = .returned (.tuple #[.agg (lkC (rdD zs) (rdS zs) (rdT zs)).toArray, .int .i64 0]) ∧ Below w.heap.size w w' := by
  obtain ⟨RES, HRES⟩ : ∃ RES, Hid (lkC (rdD zs) (rdS zs) (rdT zs) = RES) := ⟨_, rfl⟩
  rw [HRES.out]
  obtain ⟨Z, HZ⟩ : ∃ Z : List Value, Hid ([.int .u8 0, .int .u8 0, .int .u8 0, .int .u8 0, .int .u8 0, .int .u8 0, .int .u8 0, .int .u8 0, .int .u8 0, .int .u8 0, .int .u8 0, .int .u8 0, .int .u16 0] = Z) := ⟨_, rfl⟩
  have hln : n ≤ 140737488355328 := by rw [← hz]; exact hB.len
  have HB := Hid.mk' hB
  have HN := Hid.mk' hz
  have hbl : b < w.heap.size := by
    rcases hB.lies with h0 | ⟨b', off', e, hc⟩
    · omega
    · cases e; exact lt_of_cell (hc 0 (by omega))
  clear hB hz
  go_enter Try.func18, Try.ntmps18
  go_wp2_with fail
  rw [HZ.out]
  obtain ⟨W1, hW1⟩ : ∃ W1, W1 = ((w.alloc (.cells Z.toArray 25)).alloc (.cells Z.toArray 25)).alloc (.cells Z.toArray 25) := ⟨_, rfl⟩
  rw [← hW1]
  have B1 : Hid (Below w.heap.size w W1) := by rw [hW1]; exact (((Below.refl _ _).alloc (Nat.le_refl _) _).alloc (by simp) _).alloc (by simp; omega) _
  have R1 : Hid (W1.heap[w.heap.size]? = some (.cells Z.toArray 25 (0, 0))) := by rw [hW1]; exact (Below.heap_alloc _ _ _ (by simp; omega)).trans (heap_alloc2_old w _ _)
  have Q1 : Hid (W1.heap[w.heap.size + 2]? = some (.cells Z.toArray 25 (0, 0))) := by
    rw [hW1]
    have := heap_alloc_new ((w.alloc (.cells Z.toArray 25)).alloc (.cells Z.toArray 25)) (.cells Z.toArray 25)
    rw [show ((w.alloc (.cells Z.toArray 25)).alloc (.cells Z.toArray 25)).heap.size = w.heap.size + 2 by simp] at this
    exact this
  clear hW1
  go_loopw [6] (fun i wr => ∃ k : Nat, k ≤ 6 ∧ i = .int .i64 k ∧ Hid (wr.heap[w.heap.size + 2]? = some (.cells (lkC (half zs k) (half (zs.drop 6) k) 0).toArray 25 (0, 0))) ∧ Hid (wr.heap[w.heap.size]? = some (.cells Z.toArray 25 (0, 0))) ∧ Hid (Below w.heap.size w wr)) (fun i _ => 6 - (intOf i).toNat)
  case atStart => exact ⟨0, Nat.zero_le _, rfl, Hid.mk' (by rw [Q1.out, ← HZ.out]; rfl), R1, B1⟩
  case round =>
    obtain ⟨k, hk, rfl, Q2, R2, B2⟩ := hrel
    clear Q1 R1 B1
    have cc : ∀ i, i < n → wr.cell? ⟨b, off + i, none⟩ = some (.int .u8 (zs.getD i 0)) := by
      intro i hi
      rcases (HB.out.below B2.out).lies with h0 | ⟨b', off', e, hc⟩
      · rw [HN.out] at h0; omega
      · cases e; exact hc i (by rw [HN.out]; exact hi)
    by_cases hlt : k < 6
    · have hsp : (k : Int) < 6 := by omega
      have hk1 : (k : Int) < (n : Int) := by omega
      have hk2 : 6 + (k : Int) < (n : Int) := by omega
      have d0 := cc k (by omega)
      have d1 := cc (6 + k) (by omega)
      have hll : Hid ((lkC (half zs k) (half (zs.drop 6) k) 0).length = 13) := Hid.mk' (by unfold lkC; simp [half_length (show 6 ≤ zs.length by rw [HN.out]; omega) hk, half_length (zs := zs.drop 6) (by rw [List.length_drop, HN.out]; omega) hk])
      have f0 : wr.frozen? ⟨w.heap.size + 2, k, none⟩ = false := frozen_of_row wr _ _ _ _ Q2.out
      have f1 : wr.frozen? ⟨w.heap.size + 2, 6 + k, none⟩ = false := frozen_of_row wr _ _ _ _ Q2.out
      obtain ⟨u0, e0⟩ : ∃ u, wr.cell? ⟨w.heap.size + 2, k, none⟩ = some u := ⟨_, by rw [cell_of_row wr _ k _ _ _ Q2.out, List.getElem?_toArray, List.getElem?_eq_getElem (by rw [hll.out]; omega)]⟩
      obtain ⟨u1, e1⟩ : ∃ u, wr.cell? ⟨w.heap.size + 2, 6 + k, none⟩ = some u := ⟨_, by rw [cell_of_row wr _ (6 + k) _ _ _ Q2.out, List.getElem?_toArray, List.getElem?_eq_getElem (by rw [hll.out]; omega)]⟩
      have hbne : ¬ w.heap.size + 2 = b := by omega
      obtain ⟨x, HX⟩ : ∃ x, Hid (zs.getD k 0 = x) := ⟨_, rfl⟩
      obtain ⟨y, HY⟩ : ∃ y, Hid (zs.getD (6 + k) 0 = y) := ⟨_, rfl⟩
      rw [HX.out] at d0
      rw [HY.out] at d1
      clear cc
      go_wp2_with fail
      go_roundw
      case rel =>
        have h6 : 6 ≤ zs.length := by rw [HN.out]; omega
        have h6' : 6 ≤ (zs.drop 6).length := by rw [List.length_drop, HN.out]; omega
        refine ⟨k + 1, hlt, by go_num, Hid.mk' ?_, Hid.mk' ?_, Hid.mk' ?_⟩
        · rw [Go.heap_setCell_same _ _ (6 + k) _ _ _ (Go.heap_setCell_same _ _ k _ _ _ Q2.out)]
          rw [List.setIfInBounds_toArray, List.setIfInBounds_toArray, lkC_setD _ _ _ _ _ (by rw [half_length h6 hk]; exact hlt)]
          rw [show 6 + k = ((half zs k).set k x).length + k by rw [List.length_set, half_length h6 hk], lkC_setS _ _ _ _ _ (by rw [half_length h6' hk]; exact hlt)]
          rw [← HX.out, ← HY.out, half_succ h6 hlt]
          rw [show zs.getD (6 + k) 0 = (zs.drop 6).getD k 0 by simp only [List.getD_eq_getElem?_getD, List.getElem?_drop], half_succ h6' hlt]
        · rw [Go.heap_setCell_other _ _ _ _ (by simp; omega), Go.heap_setCell_other _ _ _ _ (by simp; omega)]; exact R2.out
        · exact (B2.out.setCell (p := ⟨w.heap.size + 1 + 1, k, none⟩) (by simp; omega) _).setCell (p := ⟨w.heap.size + 1 + 1, 6 + k, none⟩) (by simp; omega) _
      case measure => simp [intOf]; omega
    · obtain rfl : k = 6 := by omega
      have hE : Hid (half zs 6 = rdD zs ∧ half (zs.drop 6) 6 = rdS zs) := Hid.mk' (by unfold half rdD rdS; simp)
      rw [hE.out.1, hE.out.2] at Q2
      have hL : Lk (rdD zs) (rdS zs) (rdT zs) := lk_of HB.out.bytes (by rw [HN.out]; exact hn)
      have t0 := hL.t0
      have t1 := hL.t1
      have HV : Hid (valV zs 12 2 = rdT zs) := Hid.mk' (by simp [valV, rdT])
      obtain ⟨T, HT⟩ : ∃ T, Hid (rdT zs = T) := ⟨_, rfl⟩
      rw [HT.out] at HV t0 t1 HRES
      have hlc : Hid (RES.length = 13) := Hid.mk' (by rw [← HRES.out, ← HT.out]; exact lkC_length hL)
      have f0 : wr.frozen? ⟨w.heap.size + 2, 12, none⟩ = false := frozen_of_row wr _ _ _ _ Q2.out
      obtain ⟨u0, e0⟩ : ∃ u, wr.cell? ⟨w.heap.size + 2, 12, none⟩ = some u := ⟨_, by rw [cell_of_row wr _ 12 _ _ _ Q2.out, List.getElem?_toArray, List.getElem?_eq_getElem (by unfold lkC; simp [hL.dl, hL.sl])]⟩
      have Q5 : Hid ((wr.setCell ⟨w.heap.size + 2, 12, none⟩ (.int .u16 T)).heap[w.heap.size + 2]? = some (.cells RES.toArray 25 (0, 0))) := Hid.mk' (by
        rw [Go.heap_setCell_same _ _ 12 _ _ _ Q2.out, List.setIfInBounds_toArray, ← HRES.out]
        have := lkC_setT (rdD zs) (rdS zs) 0 T
        rw [hL.dl, hL.sl] at this
        rw [this])
      have R5 : Hid ((wr.setCell ⟨w.heap.size + 2, 12, none⟩ (.int .u16 T)).heap[w.heap.size]? = some (.cells Z.toArray 25 (0, 0))) := Hid.mk' (by
        rw [Go.heap_setCell_other _ _ _ _ (by simp)]; exact R2.out)
      have B5 : Hid (Below w.heap.size w (wr.setCell ⟨w.heap.size + 2, 12, none⟩ (.int .u16 T))) := B2.out.setCell (p := ⟨w.heap.size + 2, 12, none⟩) (by simp) _
      have hone : Hid (RES.toArray.all (·.oneCell') = true) := Hid.mk' (by rw [← HRES.out]; exact lkC_one _ _ _)
      have hzl : Hid (Z.length = RES.length) := Hid.mk' (by rw [hlc.out, ← HZ.out]; rfl)
      have hth : Hid ((wr.setCell ⟨w.heap.size + 2, 12, none⟩ (.int .u16 T)).there w.heap.size 0 RES.toArray.size) := Hid.mk' (by
        have e : RES.toArray.size = Z.length := by rw [hzl.out]; exact List.size_toArray
        rw [e]; exact there_block R5.out)
      have hle : Hid (12 + 2 ≤ n) := Hid.mk' (by omega)
      clear cc hL
      go_wp2_with (first | (go_at_call 22; refine (value_any b off n c 12 2 zs wr HN.out (HB.out.below B2.out) (by omega) hle.out).mono ?_; rw [HV.out]; rintro e w5 ⟨rfl, rfl⟩) | refine wpList_store_mid rfl 25 _ _ rfl w.heap.size 0 RES.toArray rfl rfl hth.out (by rw [List.size_toArray, hlc.out]; exact info_lk) hone.out ?_ | refine wpList_load_mid rfl 25 _ rfl (w.heap.size + 1 + 1) 0 rfl RES _ (range_block Q5.out) Try.underlying25 rfl (by rw [hlc.out]; exact info_lk) ?_)
      have R6 : Hid (((wr.setCell ⟨w.heap.size + 2, 12, none⟩ (.int .u16 T)).setCells w.heap.size 0 RES).heap[w.heap.size]? = some (.cells RES.toArray 25 (0, 0))) := heap_whole R5.out hzl.out
      have B6 : Hid (Below w.heap.size w ((wr.setCell ⟨w.heap.size + 2, 12, none⟩ (.int .u16 T)).setCells w.heap.size 0 RES)) := B5.out.trans (((Kept.refl (fun k => k = w.heap.size) _).setCells w.heap.size 0 RES (fun _ => rfl)).below B5.out.size (fun k hk => by omega))
      refine ret_cell_tmp rfl w.heap.size 25 RES (0, 0) _ rfl R6.out Try.underlying25 rfl (by rw [hlc.out]; exact info_lk) rfl ?_
      exact ⟨rfl, B6.out⟩
end Go.Proofs.Ythpgicgpoekmeaa
