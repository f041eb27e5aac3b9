/- The statements' own awake. -/
import Derived.Test.YthdgfhllieknlaaJn
namespace Go.Proofs.Ythdgfhllieknlaa
open Go.ChangeShapes Go.WideShapes Go.ChangeAt Go.RowKit
set_option maxRecDepth 10000

-- a link, a tag, and what is behind them
def awL1 : List Value := K05.lkC [0, 0, 0, 0, 0, 0] [0, 0, 0, 0, 0, 0] 33024
def awL2 : List Value := K06.tgC 0 7 0
def awO : Hs := [(1, awL1), (2, awL2)]
def awP : List Int := [0, 0, 0, 0, 0, 0, 0, 0, 0, 0, 0, 0, 129, 0, 0, 7, 0, 0, 1, 2]
theorem aw_k1 : KHd 1 awL1 := ⟨by omega, by omega, fun _ => ⟨_, _, _, rfl, rfl, rfl, by intro z hz; simp at hz; omega, by intro z hz; simp at hz; omega, by omega, by omega⟩, fun h => by omega, fun h => by omega, fun h => by omega, fun h => by omega, fun h => by omega⟩
theorem aw_k2 : KHd 2 awL2 := ⟨by omega, by omega, fun h => by omega, fun _ => ⟨0, 7, 0, rfl, by omega, by omega, by omega, by omega, by omega, by omega⟩, fun h => by omega, fun h => by omega, fun h => by omega, fun h => by omega⟩
theorem aw_ok : HsOk awO := by
  intro x hx
  simp only [awO, List.mem_cons, List.not_mem_nil, or_false] at hx
  rcases hx with rfl | rfl
  · exact aw_k1
  · exact aw_k2
theorem aw_whole : wP awO [1, 2] = some awP := by kernel_rfl
theorem aw_PE : PE awP = (0, awO) := by kernel_rfl
theorem aw_R : peR awP = [1, 2] := by kernel_rfl
theorem aw_wh : wh awP 2 = (14, 4, true, 0) := by kernel_rfl
theorem aw_13 : PE (awP.take 13) = (6, []) := by kernel_rfl
theorem aw_b1 : Try.prog.built 33 [(2, .int .u16 33024)] = some awL1.toArray := by kernel_rfl
theorem aw_b2 : Try.prog.built 35 [(1, .int .u16 7)] = some awL2.toArray := by kernel_rfl
theorem b12_bytes : Bytes [1, 2] := by intro z hz; simp at hz; omega

set_option maxHeartbeats 4000000 in
theorem awake_any (w : World) : Calls Try.prog 13 #[] w fun e w' => e = .returned (.bool true) ∧ Below w.heap.size w w' := by
  have KH1 := Hid.mk' (hk_hh aw_k1)
  have KH2 := Hid.mk' (hk_hh aw_k2)
  have hb1 := Hid.mk' aw_b1
  have hb2 := Hid.mk' aw_b2
  have hl1 : Hid (awL1.length = 13) := Hid.mk' rfl
  have hl2 : Hid (awL2.length = 3) := Hid.mk' rfl
  have hbh1 := Hid.mk' (built_1 awL1 rfl)
  have hbh2 := Hid.mk' (built_2 awL2 rfl)
  have HSC : Hid (hsC awO = hk 1 awL1 ++ hk 2 awL2) := Hid.mk' (by simp [hsC, awO])
  obtain ⟨L1, HL1⟩ : ∃ L1, Hid (awL1 = L1) := ⟨_, rfl⟩
  obtain ⟨L2, HL2⟩ : ∃ L2, Hid (awL2 = L2) := ⟨_, rfl⟩
  rw [HL1.out] at KH1 hb1 hl1 hbh1 HSC
  rw [HL2.out] at KH2 hb2 hl2 hbh2 HSC
  obtain ⟨H1, HH1⟩ : ∃ H1, Hid (hk 1 L1 = H1) := ⟨_, rfl⟩
  obtain ⟨H2, HH2⟩ : ∃ H2, Hid (hk 2 L2 = H2) := ⟨_, rfl⟩
  rw [HH1.out] at KH1 hbh1 HSC
  rw [HH2.out] at KH2 hbh2 HSC
  have h173 := Hid.mk' (hh_len KH1.out)
  have h273 := Hid.mk' (hh_len KH2.out)
  have hbs := Hid.mk' (bslice_2 H1 H2 h173.out h273.out)
  have heq1 := eql_same (t := 48) (L := H1) (hh_eq KH1.out)
  have heq2 := eql_same (t := 48) (L := H2) (hh_eq KH2.out)
  have HW1 : Hid ((w.alloc (.cells (H1 ++ H2).toArray 48)).ownsRow w.heap.size 48 73 (.slice (some ⟨w.heap.size, 0, none⟩) 2 2) 2 (hsC awO)) := Hid.mk' (by
    have := World.ownsRow_lit (base := w.heap.size) (size := 73) (e := 48) w (H1 ++ H2).toArray 2 (Nat.le_refl _) (by unfold maxLen; omega) (by simp [h173.out, h273.out])
    rw [HSC.out]; exact this)
  have B2 : Hid (Below w.heap.size w ((w.alloc (.cells (H1 ++ H2).toArray 48)).alloc (.cells #[.int .u8 1, .int .u8 2] 5))) := Hid.mk' (((Below.refl _ _).alloc (Nat.le_refl _) _).alloc (by simp) _)
  have HR2 : Hid (Hrow ((w.alloc (.cells (H1 ++ H2).toArray 48)).alloc (.cells #[.int .u8 1, .int .u8 2] 5)) (.slice (some ⟨w.heap.size, 0, none⟩) 2 2) awO) := Hid.mk' ⟨⟨_, World.ownsRow.alloc HW1.out _⟩, aw_ok⟩
  have S2 : Hid (Bs ((w.alloc (.cells (H1 ++ H2).toArray 48)).alloc (.cells #[.int .u8 1, .int .u8 2] 5)) (some ⟨w.heap.size + 1, 0, none⟩) [1, 2]) := Hid.mk' (bs_block (A := []) (D := []) (zs := [1, 2]) (heap_alloc2_new w _ _) 0 rfl b12_bytes (by simp))
  clear hl1 hl2
  go_enter Try.func13, Try.ntmps13
  go_wp2_with (first
    | refine wpList_buildTo rfl 33 #[(2, .const (.int .u16 33024))] rfl (some 13) rfl L1.toArray (by simpa [Act.eval, Act.put] using hb1.out) ?_
    | refine wpList_buildTo rfl 48 #[(0, .const (.int .u8 1)), (1, .tmp 13)] rfl (some 14) rfl H1.toArray (by simpa [Act.eval, Act.put] using hbh1.out) ?_
    | refine wpList_buildTo rfl 35 #[(1, .const (.int .u16 7))] rfl (some 15) rfl L2.toArray (by simpa [Act.eval, Act.put] using hb2.out) ?_
    | refine wpList_buildTo rfl 48 #[(0, .const (.int .u8 2)), (2, .tmp 15)] rfl (some 16) rfl H2.toArray (by simpa [Act.eval, Act.put] using hbh2.out) ?_
    | refine Great.wpList_buildSliceTo rfl 24 48 2 #[(0, .tmp 14), (1, .tmp 16)] rfl w.heap.size rfl (some 17) rfl Try.underlying24 (H1 ++ H2).toArray (by simpa [Act.eval, Act.put] using hbs.out) ?_)
  refine (whole_any _ awO _ 2 2 [1, 2] awP _ (by simp [awO]) HR2.out rfl S2.out (fun h => by cases h) (by omega) aw_whole).mono ?_
  rintro e w3 ⟨v3, rfl, own3, hby, b3⟩
  have B3 := Hid.mk' (B2.out.trans (b3.mono B2.out.size))
  obtain ⟨g3, c3, rfl, hc3⟩ := own_some own3 (by simp [awP])
  have e20 : awP.length = 20 := rfl
  rw [e20] at own3 hc3
  rw [e20]
  have S3 := Hid.mk' (K05.own_block_bs own3 hby (by rw [e20]; omega))
  have R3 : Hid ((w3.heap[w.heap.size]? = some (.cells (H1 ++ H2).toArray 48 (0, 0)))) := Hid.mk' ((b3.block _ (by simp; omega)).trans (heap_alloc2_old w _ _))
  clear own3 b3 hby B2 HR2 S2 HW1
  go_wp2_with fail
  have P4 := peel_any (some ⟨g3, 0, none⟩) 20 c3 awP w3 rfl S3.out (fun h => by cases h) hc3
  rw [aw_PE] at P4
  refine P4.mono ?_
  rintro e w4 ⟨va, vr, rfl, h4⟩
  clear P4
  unfold plT at h4
  rw [aw_PE, aw_R] at h4
  have O4 : w4.ownsRow w3.heap.size 48 73 va 2 (hsC awO) := h4.get (i := 0) rfl
  have Q4 : w4.ownsRow w3.heap.size 5 1 vr 2 ([1, 2].map (Value.int .u8)) := h4.get (i := 1) rfl
  obtain ⟨g4, c4, rfl, hc4⟩ := own_some O4 (by omega)
  obtain ⟨g5, c5, rfl, hc5⟩ := own_some Q4 (by omega)
  rw [HSC.out] at O4
  have RA := Hid.mk' (range_own (A := []) (F := H1) (B := H2) O4 rfl rfl)
  have RB := Hid.mk' (range_own (A := H1) (F := H2) (B := []) O4 (by simp) h173.out)
  have SQ := Hid.mk' (K05.own_block_bs (zs := [1, 2]) Q4 b12_bytes (by simp))
  have B4 := Hid.mk' h4.old
  clear O4 Q4 h4
  go_wp2_with fail
  have P5 := where_any 2 (some ⟨g3, 0, none⟩) 20 c3 awP w4 (by omega) (by omega) rfl (S3.out.below B4.out) hc3
  rw [aw_wh] at P5
  refine P5.mono ?_
  rintro e w5 ⟨rfl, b5⟩
  have B5 := Hid.mk' b5
  clear P5 b5
  have B6 : Hid (Below w5.heap.size w5 (w5.alloc (.cells #[.int .i64 14, .int .i64 4] 52))) := Hid.mk' ((Below.refl _ _).alloc (Nat.le_refl _) _)
  have R6 : Hid ((w5.alloc (.cells #[.int .i64 14, .int .i64 4] 52)).heap[w5.heap.size]? = some (.cells [Value.int .i64 14, Value.int .i64 4].toArray 52 (0, 0))) := Hid.mk' (heap_alloc_new w5 _)
  have c13 : (13 : Int) ≤ (c3 : Int) := by omega
  simp only [whV]
  go_wp2_with fail
  have P7 := peel_any (some ⟨g3, 0, none⟩) 13 c3 (awP.take 13) (w5.alloc (.cells #[.int .i64 14, .int .i64 4] 52)) rfl ((((S3.out.below B4.out).below B5.out).below B6.out).take 13 (by decide)) (fun h => by cases h) (by omega)
  rw [aw_13] at P7
  refine P7.mono ?_
  rintro e w7 ⟨vc, vd, rfl, h7⟩
  have B7 := Hid.mk' h7.old
  clear P7 h7
  have Z4 : Hid (Below w4.heap.size w4 w7) := Hid.mk' (B5.out.trans ((B6.out.trans (B7.out.mono B6.out.size)).mono B5.out.size))
  have Z5 : Hid (Below w5.heap.size w5 w7) := Hid.mk' (B6.out.trans (B7.out.mono B6.out.size))
  have Z3 : Hid (Below w3.heap.size w3 w7) := Hid.mk' (B4.out.trans (Z4.out.mono B4.out.size))
  have Z0 : Hid (Below w.heap.size w w7) := Hid.mk' (B3.out.trans (Z3.out.mono B3.out.size))
  have XA : Hid (∀ u, Below w7.heap.size w7 u → u.rangeAt g4 0 H1 ∧ u.rangeAt g4 73 H2 ∧ u.rangeAt w.heap.size 0 H1 ∧ u.rangeAt w.heap.size 73 H2 ∧ u.rangeAt w5.heap.size 0 [.int .i64 14, .int .i64 4] ∧ Bs u (some ⟨g5, 0, none⟩) [1, 2]) := Hid.mk' (fun u hu => by
    have u4 : Below w4.heap.size w4 u := Z4.out.trans (hu.mono Z4.out.size)
    have u3 : Below w3.heap.size w3 u := Z3.out.trans (hu.mono Z3.out.size)
    have k4 : ∀ {g o : Nat} {L : List Value}, w4.rangeAt g o L → u.rangeAt g o L := fun hr j v hv => (u4.cell (lt_of_cell (hr j v hv))).trans (hr j v hv)
    have hb : u.heap[w.heap.size]? = some (.cells (H1 ++ H2).toArray 48 (0, 0)) := (u3.block _ (Array.getElem?_eq_some_iff.1 R3.out).1).trans R3.out
    have u6 := B7.out.trans (hu.mono B7.out.size)
    have hc : u.heap[w5.heap.size]? = some (.cells [Value.int .i64 14, Value.int .i64 4].toArray 52 (0, 0)) := (u6.block _ (Array.getElem?_eq_some_iff.1 R6.out).1).trans R6.out
    exact ⟨k4 RA.out, k4 RB.out, range_pre (B := H2) (range_block hb), hk_part (A := H1) (L := H2) (B := []) _ hb (by simp) 73 h173.out, range_block hc, SQ.out.below u4⟩)
  clear RA RB SQ B4 B5 B6 B7 R3 R6 S3 Z3 Z4 Z5 B3
  go_wp2_with fail
  refine wp_region_held_drew (S := fun u => Below w7.heap.size w7 u) (by kernel_rfl) ((Below.refl _ _).drew) (fun hHeld => ?_)

  change wpAnyH _ _ _ _ _ 47 #[false, false, false, false, false, false, false, false, false, false, false, false, false, false, false, false, false, false, false, false, false, false, false, false, false, false, false, false, false, false, false, false, false, false, false, false, false, false, false, false, false, false, false, false, false, false, false] _ _
  refine held_take 0 50 (.int .i64 0) rfl rfl (by kernel_rfl) (by kernel_rfl) (by kernel_rfl) (fun _ _ _ h => h) (Or.inl ⟨by rfl, fun u hu => ?_⟩) hHeld ?_
  · go_simp
  simp only [Act.put, List.setIfInBounds_toArray, List.set_cons_zero, List.set_cons_succ]
  refine held_take 1 51 (.bool true) rfl rfl (by kernel_rfl) (by kernel_rfl) (by kernel_rfl) (fun _ _ _ h => h) (Or.inl ⟨by rfl, fun u hu => ?_⟩) hHeld ?_
  · go_simp
  simp only [Act.put, List.setIfInBounds_toArray, List.set_cons_zero, List.set_cons_succ]
  refine held_take 2 52 (.bool true) rfl rfl (by kernel_rfl) (by kernel_rfl) (by kernel_rfl) (fun _ _ _ h => h) (Or.inl ⟨by rfl, fun u hu => ?_⟩) hHeld ?_
  · go_simp
  simp only [Act.put, List.setIfInBounds_toArray, List.set_cons_zero, List.set_cons_succ]
  refine held_take 3 53 (.slice (some ⟨g4, 0, none⟩) 2 c4) rfl rfl (by kernel_rfl) (by kernel_rfl) (by kernel_rfl) (fun _ _ _ h => h) (Or.inl ⟨by rfl, fun u hu => ?_⟩) hHeld ?_
  · go_simp
  simp only [Act.put, List.setIfInBounds_toArray, List.set_cons_zero, List.set_cons_succ]
  refine held_take 4 54 (.int .i64 2) rfl rfl (by kernel_rfl) (by kernel_rfl) (by kernel_rfl) (fun _ _ _ h => h) (Or.inl ⟨by rfl, fun u hu => ?_⟩) hHeld ?_
  · go_simp
  simp only [Act.put, List.setIfInBounds_toArray, List.set_cons_zero, List.set_cons_succ]
  refine held_take 5 55 (.bool true) rfl rfl (by kernel_rfl) (by kernel_rfl) (by kernel_rfl) (fun _ _ _ h => h) (Or.inl ⟨by rfl, fun u hu => ?_⟩) hHeld ?_
  · go_simp
  simp only [Act.put, List.setIfInBounds_toArray, List.set_cons_zero, List.set_cons_succ]
  refine held_take 6 56 (.bool true) rfl rfl (by kernel_rfl) (by kernel_rfl) (by kernel_rfl) (fun _ _ _ h => h) (Or.inl ⟨by rfl, fun u hu => ?_⟩) hHeld ?_
  · go_simp
  simp only [Act.put, List.setIfInBounds_toArray, List.set_cons_zero, List.set_cons_succ]
  refine held_take 7 57 (.bool true) rfl rfl (by kernel_rfl) (by kernel_rfl) (by kernel_rfl) (fun _ _ _ h => h) (Or.inl ⟨by rfl, fun u hu => ?_⟩) hHeld ?_
  · go_simp
  simp only [Act.put, List.setIfInBounds_toArray, List.set_cons_zero, List.set_cons_succ]
  refine held_take 8 58 (.slice (some ⟨g4, 0, none⟩) 2 c4) rfl rfl (by kernel_rfl) (by kernel_rfl) (by kernel_rfl) (fun _ _ _ h => h) (Or.inl ⟨by rfl, fun u hu => ?_⟩) hHeld ?_
  · go_simp
  simp only [Act.put, List.setIfInBounds_toArray, List.set_cons_zero, List.set_cons_succ]
  refine held_take 9 59 (.pointer (some ⟨g4, 0, none⟩)) rfl rfl (by kernel_rfl) (by kernel_rfl) (by kernel_rfl) (fun _ _ _ h => h) (Or.inl ⟨by rfl, fun u hu => ?_⟩) hHeld ?_
  · go_simp
  simp only [Act.put, List.setIfInBounds_toArray, List.set_cons_zero, List.set_cons_succ]
  refine held_take 10 60 (.agg H1.toArray) rfl rfl (by kernel_rfl) (by kernel_rfl) (by kernel_rfl) (fun _ _ _ h => h) (yieldsIf_load_mid (by rfl) 48 _ rfl g4 0 rfl H1 _ (fun u hu => (XA.out u hu).1) Try.underlying48 rfl (by rw [h173.out]; exact info_hh)) hHeld ?_
  simp only [Act.put, List.setIfInBounds_toArray, List.set_cons_zero, List.set_cons_succ]
  refine held_take 11 61 (.slice (some ⟨w.heap.size, 0, none⟩) 2 2) rfl rfl (by kernel_rfl) (by kernel_rfl) (by kernel_rfl) (fun _ _ _ h => h) (Or.inl ⟨by rfl, fun u hu => ?_⟩) hHeld ?_
  · go_simp
  simp only [Act.put, List.setIfInBounds_toArray, List.set_cons_zero, List.set_cons_succ]
  refine held_take 12 62 (.pointer (some ⟨w.heap.size, 0, none⟩)) rfl rfl (by kernel_rfl) (by kernel_rfl) (by kernel_rfl) (fun _ _ _ h => h) (Or.inl ⟨by rfl, fun u hu => ?_⟩) hHeld ?_
  · go_simp
  simp only [Act.put, List.setIfInBounds_toArray, List.set_cons_zero, List.set_cons_succ]
  refine held_take 13 63 (.agg H1.toArray) rfl rfl (by kernel_rfl) (by kernel_rfl) (by kernel_rfl) (fun _ _ _ h => h) (yieldsIf_load_mid (by rfl) 48 _ rfl w.heap.size 0 rfl H1 _ (fun u hu => (XA.out u hu).2.2.1) Try.underlying48 rfl (by rw [h173.out]; exact info_hh)) hHeld ?_
  simp only [Act.put, List.setIfInBounds_toArray, List.set_cons_zero, List.set_cons_succ]
  refine held_take 14 64 (.bool true) rfl rfl (by kernel_rfl) (by kernel_rfl) (by kernel_rfl) (fun _ _ _ h => h) (Or.inl ⟨by rfl, fun u hu => ?_⟩) hHeld ?_
  · go_simp
  simp only [Act.put, List.setIfInBounds_toArray, List.set_cons_zero, List.set_cons_succ]
  refine held_take 15 65 (.bool true) rfl rfl (by kernel_rfl) (by kernel_rfl) (by kernel_rfl) (fun _ _ _ h => h) (Or.inl ⟨by rfl, fun u hu => ?_⟩) hHeld ?_
  · go_simp
  simp only [Act.put, List.setIfInBounds_toArray, List.set_cons_zero, List.set_cons_succ]
  refine held_take 16 66 (.bool true) rfl rfl (by kernel_rfl) (by kernel_rfl) (by kernel_rfl) (fun _ _ _ h => h) (Or.inl ⟨by rfl, fun u hu => ?_⟩) hHeld ?_
  · go_simp
  simp only [Act.put, List.setIfInBounds_toArray, List.set_cons_zero, List.set_cons_succ]
  refine held_take 17 67 (.slice (some ⟨g4, 0, none⟩) 2 c4) rfl rfl (by kernel_rfl) (by kernel_rfl) (by kernel_rfl) (fun _ _ _ h => h) (Or.inl ⟨by rfl, fun u hu => ?_⟩) hHeld ?_
  · go_simp
  simp only [Act.put, List.setIfInBounds_toArray, List.set_cons_zero, List.set_cons_succ]
  refine held_take 18 68 (.pointer (some ⟨g4, 73, none⟩)) rfl rfl (by kernel_rfl) (by kernel_rfl) (by kernel_rfl) (fun _ _ _ h => h) (Or.inl ⟨by rfl, fun u hu => ?_⟩) hHeld ?_
  · go_simp
  simp only [Act.put, List.setIfInBounds_toArray, List.set_cons_zero, List.set_cons_succ]
  refine held_take 19 69 (.agg H2.toArray) rfl rfl (by kernel_rfl) (by kernel_rfl) (by kernel_rfl) (fun _ _ _ h => h) (yieldsIf_load_mid (by rfl) 48 _ rfl g4 73 rfl H2 _ (fun u hu => (XA.out u hu).2.1) Try.underlying48 rfl (by rw [h273.out]; exact info_hh)) hHeld ?_
  simp only [Act.put, List.setIfInBounds_toArray, List.set_cons_zero, List.set_cons_succ]
  refine held_take 20 70 (.slice (some ⟨w.heap.size, 0, none⟩) 2 2) rfl rfl (by kernel_rfl) (by kernel_rfl) (by kernel_rfl) (fun _ _ _ h => h) (Or.inl ⟨by rfl, fun u hu => ?_⟩) hHeld ?_
  · go_simp
  simp only [Act.put, List.setIfInBounds_toArray, List.set_cons_zero, List.set_cons_succ]
  refine held_take 21 71 (.pointer (some ⟨w.heap.size, 73, none⟩)) rfl rfl (by kernel_rfl) (by kernel_rfl) (by kernel_rfl) (fun _ _ _ h => h) (Or.inl ⟨by rfl, fun u hu => ?_⟩) hHeld ?_
  · go_simp
  simp only [Act.put, List.setIfInBounds_toArray, List.set_cons_zero, List.set_cons_succ]
  refine held_take 22 72 (.agg H2.toArray) rfl rfl (by kernel_rfl) (by kernel_rfl) (by kernel_rfl) (fun _ _ _ h => h) (yieldsIf_load_mid (by rfl) 48 _ rfl w.heap.size 73 rfl H2 _ (fun u hu => (XA.out u hu).2.2.2.1) Try.underlying48 rfl (by rw [h273.out]; exact info_hh)) hHeld ?_
  simp only [Act.put, List.setIfInBounds_toArray, List.set_cons_zero, List.set_cons_succ]
  refine held_take 23 73 (.bool true) rfl rfl (by kernel_rfl) (by kernel_rfl) (by kernel_rfl) (fun _ _ _ h => h) (Or.inl ⟨by rfl, fun u hu => ?_⟩) hHeld ?_
  · go_simp
  simp only [Act.put, List.setIfInBounds_toArray, List.set_cons_zero, List.set_cons_succ]
  refine held_take 24 74 (.bool true) rfl rfl (by kernel_rfl) (by kernel_rfl) (by kernel_rfl) (fun _ _ _ h => h) (Or.inl ⟨by rfl, fun u hu => ?_⟩) hHeld ?_
  · go_simp
  simp only [Act.put, List.setIfInBounds_toArray, List.set_cons_zero, List.set_cons_succ]
  refine held_take 25 75 (.bool true) rfl rfl (by kernel_rfl) (by kernel_rfl) (by kernel_rfl) (fun _ _ _ h => h) (Or.inl ⟨by rfl, fun u hu => ?_⟩) hHeld ?_
  · go_simp
  simp only [Act.put, List.setIfInBounds_toArray, List.set_cons_zero, List.set_cons_succ]
  refine held_take 26 76 (.slice (some ⟨g5, 0, none⟩) 2 c5) rfl rfl (by kernel_rfl) (by kernel_rfl) (by kernel_rfl) (fun _ _ _ h => h) (Or.inl ⟨by rfl, fun u hu => ?_⟩) hHeld ?_
  · go_simp
  simp only [Act.put, List.setIfInBounds_toArray, List.set_cons_zero, List.set_cons_succ]
  refine held_one 27 (by kernel_rfl) rfl (fun K hK => ?_)
  go_simp
  have H8 : Below w7.heap.size w7 (w7.alloc (.cells #[.int .u8 1, .int .u8 2] 5)).drew := ((Below.refl _ _).alloc (Nat.le_refl _) _).drew
  have S8 : Hid (Bs (w7.alloc (.cells #[.int .u8 1, .int .u8 2] 5)).drew (some ⟨w7.heap.size, 0, none⟩) [1, 2]) := Hid.mk' ((bs_block (A := []) (D := []) (zs := [1, 2]) (heap_alloc_new w7 _) 0 rfl b12_bytes (by simp)).below ((Below.refl _ _).drew))
  refine hK.out _ _ H8 (fun _ => ?_)
  clear hK K
  try simp only [List.setIfInBounds_toArray, List.set_cons_zero, List.set_cons_succ]
  refine held_one 28 (by kernel_rfl) rfl (fun K hK => ?_)
  go_simp
  go_wp2_with (first | (go_at_call 12; refine (eq_at (some ⟨g5, 0, none⟩) (some ⟨w7.heap.size, 0, none⟩) 2 2 c5 2 [1, 2] [1, 2] _ rfl rfl (XA.out _ H8).2.2.2.2.2 S8.out).mono ?_; rintro e w9 ⟨rfl, d9⟩))
  have H9 : Below w7.heap.size w7 w9 := H8.trans ((d9.below _).mono H8.size)
  refine hK.out _ _ H9 (fun _ => ?_)
  clear hK K
  try simp only [List.setIfInBounds_toArray, List.set_cons_zero, List.set_cons_succ]
  have dt : decide (([1, 2] : List Int) = [1, 2]) = true := rfl
  try rw [dt]
  refine held_take 29 79 (.bool true) rfl rfl (by kernel_rfl) (by kernel_rfl) (by kernel_rfl) (fun _ _ _ h => h) (Or.inl ⟨by rfl, fun u hu => ?_⟩) H9 ?_
  · go_simp
  simp only [Act.put, List.setIfInBounds_toArray, List.set_cons_zero, List.set_cons_succ]
  refine held_take 30 80 (.bool true) rfl rfl (by kernel_rfl) (by kernel_rfl) (by kernel_rfl) (fun _ _ _ h => h) (Or.inl ⟨by rfl, fun u hu => ?_⟩) H9 ?_
  · go_simp
  simp only [Act.put, List.setIfInBounds_toArray, List.set_cons_zero, List.set_cons_succ]
  refine held_take 31 81 (.int .i64 0) rfl rfl (by kernel_rfl) (by kernel_rfl) (by kernel_rfl) (fun _ _ _ h => h) (Or.inl ⟨by rfl, fun u hu => ?_⟩) H9 ?_
  · go_simp
  simp only [Act.put, List.setIfInBounds_toArray, List.set_cons_zero, List.set_cons_succ]
  refine held_take 32 82 (.bool true) rfl rfl (by kernel_rfl) (by kernel_rfl) (by kernel_rfl) (fun _ _ _ h => h) (Or.inl ⟨by rfl, fun u hu => ?_⟩) H9 ?_
  · go_simp
  simp only [Act.put, List.setIfInBounds_toArray, List.set_cons_zero, List.set_cons_succ]
  refine held_take 33 83 (.bool true) rfl rfl (by kernel_rfl) (by kernel_rfl) (by kernel_rfl) (fun _ _ _ h => h) (Or.inl ⟨by rfl, fun u hu => ?_⟩) H9 ?_
  · go_simp
  simp only [Act.put, List.setIfInBounds_toArray, List.set_cons_zero, List.set_cons_succ]
  refine held_take 34 84 (.bool true) rfl rfl (by kernel_rfl) (by kernel_rfl) (by kernel_rfl) (fun _ _ _ h => h) (Or.inl ⟨by rfl, fun u hu => ?_⟩) H9 ?_
  · go_simp
  simp only [Act.put, List.setIfInBounds_toArray, List.set_cons_zero, List.set_cons_succ]
  refine held_take 35 85 (.bool true) rfl rfl (by kernel_rfl) (by kernel_rfl) (by kernel_rfl) (fun _ _ _ h => h) (Or.inl ⟨by rfl, fun u hu => ?_⟩) H9 ?_
  · go_simp
  simp only [Act.put, List.setIfInBounds_toArray, List.set_cons_zero, List.set_cons_succ]
  refine held_take 36 86 (.bool true) rfl rfl (by kernel_rfl) (by kernel_rfl) (by kernel_rfl) (fun _ _ _ h => h) (Or.inl ⟨by rfl, fun u hu => ?_⟩) H9 ?_
  · go_simp
  simp only [Act.put, List.setIfInBounds_toArray, List.set_cons_zero, List.set_cons_succ]
  refine held_take 37 87 (.bool true) rfl rfl (by kernel_rfl) (by kernel_rfl) (by kernel_rfl) (fun _ _ _ h => h) (Or.inl ⟨by rfl, fun u hu => ?_⟩) H9 ?_
  · go_simp
  simp only [Act.put, List.setIfInBounds_toArray, List.set_cons_zero, List.set_cons_succ]
  refine held_take 38 88 (.agg [Value.int .i64 14, Value.int .i64 4].toArray) rfl rfl (by kernel_rfl) (by kernel_rfl) (by kernel_rfl) (fun _ _ _ h => h) (yieldsIf_load_mid (by rfl) 52 _ rfl w5.heap.size 0 rfl [Value.int .i64 14, Value.int .i64 4] _ (fun u hu => (XA.out u hu).2.2.2.2.1) Try.underlying52 rfl (info_rg)) H9 ?_
  simp only [Act.put, List.setIfInBounds_toArray, List.set_cons_zero, List.set_cons_succ]
  refine held_take 39 89 (.agg #[.int .i64 14, .int .i64 4]) rfl rfl (by kernel_rfl) (by kernel_rfl) (by kernel_rfl) (fun _ _ _ h => h) (Or.inl ⟨by rfl, fun u hu => ?_⟩) H9 ?_
  · go_simp
  simp only [Act.put, List.setIfInBounds_toArray, List.set_cons_zero, List.set_cons_succ]
  refine held_take 40 90 (.bool true) rfl rfl (by kernel_rfl) (by kernel_rfl) (by kernel_rfl) (fun _ _ _ h => h) (Or.inl ⟨by rfl, fun u hu => ?_⟩) H9 ?_
  · go_simp
  simp only [Act.put, List.setIfInBounds_toArray, List.set_cons_zero, List.set_cons_succ]
  refine held_take 41 91 (.bool true) rfl rfl (by kernel_rfl) (by kernel_rfl) (by kernel_rfl) (fun _ _ _ h => h) (Or.inl ⟨by rfl, fun u hu => ?_⟩) H9 ?_
  · go_simp
  simp only [Act.put, List.setIfInBounds_toArray, List.set_cons_zero, List.set_cons_succ]
  refine held_take 42 92 (.bool true) rfl rfl (by kernel_rfl) (by kernel_rfl) (by kernel_rfl) (fun _ _ _ h => h) (Or.inl ⟨by rfl, fun u hu => ?_⟩) H9 ?_
  · go_simp
  simp only [Act.put, List.setIfInBounds_toArray, List.set_cons_zero, List.set_cons_succ]
  refine held_take 43 93 (.int .i64 6) rfl rfl (by kernel_rfl) (by kernel_rfl) (by kernel_rfl) (fun _ _ _ h => h) (Or.inl ⟨by rfl, fun u hu => ?_⟩) H9 ?_
  · go_simp
  simp only [Act.put, List.setIfInBounds_toArray, List.set_cons_zero, List.set_cons_succ]
  refine held_take 44 94 (.bool true) rfl rfl (by kernel_rfl) (by kernel_rfl) (by kernel_rfl) (fun _ _ _ h => h) (Or.inl ⟨by rfl, fun u hu => ?_⟩) H9 ?_
  · go_simp
  simp only [Act.put, List.setIfInBounds_toArray, List.set_cons_zero, List.set_cons_succ]
  refine held_take 45 95 (.bool true) rfl rfl (by kernel_rfl) (by kernel_rfl) (by kernel_rfl) (fun _ _ _ h => h) (Or.inl ⟨by rfl, fun u hu => ?_⟩) H9 ?_
  · go_simp
  simp only [Act.put, List.setIfInBounds_toArray, List.set_cons_zero, List.set_cons_succ]
  refine held_take 46 0 (.bool true) rfl rfl (by kernel_rfl) (by kernel_rfl) (by kernel_rfl) (fun _ _ _ h => h) (Or.inl ⟨by rfl, fun u hu => ?_⟩) H9 ?_
  · go_simp
  simp only [Act.put, List.setIfInBounds_toArray, List.set_cons_zero, List.set_cons_succ]
  refine wpAnyH_done (by kernel_rfl) ?_ _
  have BB : Hid (Below w.heap.size w w9) := Hid.mk' (Z0.out.trans (H9.mono Z0.out.size))
  clear hHeld H8 H9 S8 XA Z0 d9
  go_wp2_with fail
  go_ret
  exact ⟨rfl, BB.out⟩
end Go.Proofs.Ythdgfhllieknlaa
