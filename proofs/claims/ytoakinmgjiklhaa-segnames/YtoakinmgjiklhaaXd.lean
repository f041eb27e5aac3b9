/- The contracts of the document's own Check, Size, Bytes for seg. -/
import Derived.Test.YtoakinmgjiklhaaXc
import Derived.Test.YtoakinmgjiklhaaGe
namespace Go.Proofs.Ytoakinmgjiklhaa
open Go.ChangeShapes Go.WideShapes Go.ChangeAt Go.RowKit

theorem rcheck_any (L : List Value) (fl : Int) (w : World) (hL : L[4]? = some (.int .u8 fl)) : Calls Try.prog 12 #[.agg L.toArray] w fun e w' => e = .returned (.int .i64 (sgE fl)) ∧ Below w.heap.size w w' := by
  have hL' : L.toArray[4]? = some (.int .u8 fl) := by rw [List.getElem?_toArray]; exact hL
  unfold sgE
  by_cases h : fl ≤ 63
  · rw [if_pos h]
    have h' : ¬ 64 ≤ fl := by omega
    go_enter Try.func12, Try.ntmps12
    go_wp2_with fail
    go_ret
    exact ⟨rfl, (Below.refl _ _).alloc (Nat.le_refl _) _⟩
  · rw [if_neg h]
    have h' : 64 ≤ fl := by omega
    go_enter Try.func12, Try.ntmps12
    go_wp2_with fail
    go_ret
    exact ⟨rfl, (Below.refl _ _).alloc (Nat.le_refl _) _⟩

theorem rsize_any (w : World) : Calls Try.prog 14 #[] w fun e w' => e = .returned (.int .i64 20) ∧ w = w' := by
  go_enter Try.func14, Try.ntmps14
  go_wp2_with fail
  go_ret
  exact ⟨rfl, rfl⟩

set_option maxHeartbeats 400000 in
theorem rbytes_bad (L : List Value) (fl : Int) (a : Option Addr) (n c : Nat) (w : World) (hlc : L.length = 6) (hL : L[4]? = some (.int .u8 fl)) (hf : ¬ fl ≤ 63) :
    Calls Try.prog 10 #[.agg L.toArray, .slice a n c] w fun e w' => e = .returned (.tuple #[.slice none 0 0, .int .i64 90]) ∧ Below w.heap.size w w' := by
  have hlc := Hid.mk' hlc
  have HCK : Hid (∀ u : World, Calls Try.prog 12 #[.agg L.toArray] u fun e w' => e = .returned (.int .i64 90) ∧ Below u.heap.size u w') := Hid.mk' (fun u => by
    have := rcheck_any L fl u hL
    unfold sgE at this
    rw [if_neg hf] at this
    exact this)
  clear hL hf
  obtain ⟨W1, hW1⟩ : ∃ W1, W1 = w.alloc (.cells L.toArray 25) := ⟨_, rfl⟩
  have R1 : Hid (W1.heap[w.heap.size]? = some (.cells L.toArray 25 (0, 0))) := by rw [hW1]; exact heap_alloc_new w _
  have B1 : Hid (Below w.heap.size w W1) := by rw [hW1]; exact (Below.refl _ _).alloc (Nat.le_refl _) _
  have HW := Hid.mk' hW1.symm
  clear hW1
  go_enter Try.func10, Try.ntmps10
  go_wp2_with (first | (go_at_call 12; rw [HW.out]; refine (HCK.out W1).mono ?_; rintro e w2 ⟨rfl, b2⟩; have B2 : Hid (Below w.heap.size w w2) := (B1.out.trans (b2.mono B1.out.size)); clear b2) | refine wpList_load_mid rfl 25 _ rfl w.heap.size 0 rfl L _ (by rw [HW.out]; exact range_block R1.out) Try.underlying25 rfl (by rw [hlc.out]; exact info_hd) ?_)
  go_ret2
  exact ⟨rfl, B2.out⟩

set_option maxHeartbeats 400000 in
theorem rbytes_no (L : List Value) (fl : Int) (a : Option Addr) (n c : Nat) (w : World) (hlc : L.length = 6) (hL : L[4]? = some (.int .u8 fl)) (hf : fl ≤ 63) (hn : ¬ n ≤ 2028) (hl : n ≤ 140737488355328) :
    Calls Try.prog 10 #[.agg L.toArray, .slice a n c] w fun e w' => e = .returned (.tuple #[.slice none 0 0, .int .i64 5]) ∧ Below w.heap.size w w' := by
  have hlc := Hid.mk' hlc
  have HCK : Hid (∀ u : World, Calls Try.prog 12 #[.agg L.toArray] u fun e w' => e = .returned (.int .i64 0) ∧ Below u.heap.size u w') := Hid.mk' (fun u => by
    have := rcheck_any L fl u hL
    unfold sgE at this
    rw [if_pos hf] at this
    exact this)
  clear hL hf
  obtain ⟨W1, hW1⟩ : ∃ W1, W1 = w.alloc (.cells L.toArray 25) := ⟨_, rfl⟩
  have R1 : Hid (W1.heap[w.heap.size]? = some (.cells L.toArray 25 (0, 0))) := by rw [hW1]; exact heap_alloc_new w _
  have B1 : Hid (Below w.heap.size w W1) := by rw [hW1]; exact (Below.refl _ _).alloc (Nat.le_refl _) _
  have HW := Hid.mk' hW1.symm
  clear hW1
  go_enter Try.func10, Try.ntmps10
  go_wp2_with (first | (go_at_call 12; rw [HW.out]; refine (HCK.out W1).mono ?_; rintro e w2 ⟨rfl, b2⟩; have B2 : Hid (Below w.heap.size w w2) := (B1.out.trans (b2.mono B1.out.size)); clear b2) | refine wpList_load_mid rfl 25 _ rfl w.heap.size 0 rfl L _ (by rw [HW.out]; exact range_block R1.out) Try.underlying25 rfl (by rw [hlc.out]; exact info_hd) ?_)
  go_ret2
  exact ⟨rfl, B2.out⟩

set_option maxHeartbeats 1000000 in
theorem rbytes_ok (sp dp sq ak fl wn : Int) (a : Option Addr) (n c : Nat) (ys : List Int) (w : World) (h : Sg sp dp sq ak fl wn) (hf : fl ≤ 63) (hn : n ≤ 2028) (hy : ys.length = n) (hY : Bs w a ys) :
    Calls Try.prog 10 #[.agg (sgC sp dp sq ak fl wn).toArray, .slice a n c] w fun e w' => ∃ v, e = .returned (.tuple #[v, .int .i64 0]) ∧ w'.ownsRow w.heap.size 5 1 v 20 ((sgB sp dp sq ak fl wn (sgF sp dp sq ak fl wn ys)).map (Value.int .u8)) ∧ Below w.heap.size w w' := by
  have hlc : Hid ((sgC sp dp sq ak fl wn).length = 6) := Hid.mk' rfl
  have HCK : Hid (∀ u : World, Calls Try.prog 12 #[.agg (sgC sp dp sq ak fl wn).toArray] u fun e w' => e = .returned (.int .i64 0) ∧ Below u.heap.size u w') := Hid.mk' (fun u => by
    have := rcheck_any (sgC sp dp sq ak fl wn) fl u rfl
    unfold sgE at this
    rw [if_pos hf] at this
    exact this)
  obtain ⟨L, HL⟩ : ∃ L, Hid (sgC sp dp sq ak fl wn = L) := ⟨_, rfl⟩
  rw [HL.out] at hlc HCK ⊢
  have CE : Hid (∀ w' : World, w'.heap[w.heap.size]? = some (.cells L.toArray 25 (0, 0)) → w'.cell? ⟨w.heap.size, 0, none⟩ = some (.int .u16 sp) ∧ w'.cell? ⟨w.heap.size, 1, none⟩ = some (.int .u16 dp) ∧ w'.cell? ⟨w.heap.size, 2, none⟩ = some (.int .u32 sq) ∧ w'.cell? ⟨w.heap.size, 3, none⟩ = some (.int .u32 ak) ∧ w'.cell? ⟨w.heap.size, 4, none⟩ = some (.int .u8 fl) ∧ w'.cell? ⟨w.heap.size, 5, none⟩ = some (.int .u16 wn)) := Hid.mk' (fun w' hh => by
    rw [← HL.out] at hh
    refine ⟨?_, ?_, ?_, ?_, ?_, ?_⟩ <;> exact cell_of_row w' _ _ _ _ _ hh)
  have hF := sgF_bd sp dp sq ak fl wn ys
  have HFE : Hid (65535 - su (sgB sp dp sq ak fl wn 0 ++ ys) (20 + n) = sgF sp dp sq ak fl wn ys) := Hid.mk' (by rw [← hy]; rfl)
  have HSB : Hid (Bytes (sgB sp dp sq ak fl wn 0)) := Hid.mk' (sgB_bytes h (by omega) (by omega))
  obtain ⟨F, HF⟩ : ∃ F, Hid (sgF sp dp sq ak fl wn ys = F) := ⟨_, rfl⟩
  rw [HF.out] at HFE hF ⊢
  obtain ⟨F0, F1⟩ := hF
  obtain ⟨s0, s1, d0, d1, q0, q1, a0, a1, l0, l1, w0, w1⟩ := h
  have h80 : Hid ((20480 + fl) / 256 = 80) := Hid.mk' (by omega)
  have hfl : Hid ((20480 + fl) % 256 = fl) := Hid.mk' (by omega)
  have Y0 : Hid (Bytes [0, 0, 0, 0]) := Hid.mk' (by intro z hz; simp at hz; omega)
  have HY := Hid.mk' hY
  have HN := Hid.mk' hy
  clear hY hy
  obtain ⟨W1, hW1⟩ : ∃ W1, W1 = w.alloc (.cells L.toArray 25) := ⟨_, rfl⟩
  have R1 : Hid (W1.heap[w.heap.size]? = some (.cells L.toArray 25 (0, 0))) := by rw [hW1]; exact heap_alloc_new w _
  have B1 : Hid (Below w.heap.size w W1) := by rw [hW1]; exact (Below.refl _ _).alloc (Nat.le_refl _) _
  have HW := Hid.mk' hW1.symm
  clear hW1
  go_enter Try.func10, Try.ntmps10
  go_wp2_with (first | (go_at_call 12; rw [HW.out]; refine (HCK.out W1).mono ?_; rintro e w2 ⟨rfl, b2⟩; have B2 : Hid (Below w.heap.size w w2) := (B1.out.trans (b2.mono B1.out.size)); have R2 : Hid (w2.heap[w.heap.size]? = some (.cells L.toArray 25 (0, 0))) := ((b2.block _ (Array.getElem?_eq_some_iff.1 R1.out).1).trans R1.out); obtain ⟨e0, e1, e2, e3, e4, e5⟩ := CE.out _ R2.out; clear b2) | refine wpList_load_mid rfl 25 _ rfl w.heap.size 0 rfl L _ (by rw [HW.out]; exact range_block R1.out) Try.underlying25 rfl (by rw [hlc.out]; exact info_hd) ?_)
  have J2 : Hid (RbJ w L w2.heap.size (.slice none 0 0) 0 [] w2) := Hid.mk' ⟨R2.out, World.ownsRow_nil _ _ _ _, B2.out, Nat.le_refl _, (Array.getElem?_eq_some_iff.1 R2.out).1⟩
  clear R2 B2 R1 B1 HW
  refine (number_any sp 2 w2 (by omega) (by omega) (by omega)).mono ?_
  rintro e w3 ⟨u3, rfl, hown, b3⟩
  obtain ⟨a3, c3, rfl, s3, -⟩ := bs_own (by rw [numB_length]; exact hown) (numB_bytes 2 sp) (by rw [numB_length]; omega)
  rw [numB_length] at *
  have S3 := Hid.mk' s3
  have J3 := Hid.mk' (J2.out.below b3)
  clear hown b3 s3 J2 e0 e1 e2 e3 e4 e5
  go_wp2_with (at_builtin; refine wpList_app_own rfl _ _ rfl w2.heap.size (.slice none 0 0) (0) _ rfl J3.out.own a3 c3 2 (numB 2 sp) rfl (numB_length 2 _) S3.out (by omega) J3.out.sz ?_; intro v4 w4 hown hgrow hpl; have J4 := Hid.mk' (J3.out.app hown hgrow); obtain ⟨e0, e1, e2, e3, e4, e5⟩ := CE.out _ J4.out.box; clear hown hgrow hpl)
  clear J3 S3
  refine (number_any dp 2 w4 (by omega) (by omega) (by omega)).mono ?_
  rintro e w5 ⟨u5, rfl, hown, b5⟩
  obtain ⟨a5, c5, rfl, s5, -⟩ := bs_own (by rw [numB_length]; exact hown) (numB_bytes 2 dp) (by rw [numB_length]; omega)
  rw [numB_length] at *
  have S5 := Hid.mk' s5
  have J5 := Hid.mk' (J4.out.below b5)
  clear hown b5 s5 J4 e0 e1 e2 e3 e4 e5
  go_wp2_with (at_builtin; refine wpList_app_own rfl _ _ rfl w2.heap.size v4 (0 + 2) _ rfl J5.out.own a5 c5 2 (numB 2 dp) rfl (numB_length 2 _) S5.out (by omega) J5.out.sz ?_; intro v6 w6 hown hgrow hpl; have J6 := Hid.mk' (J5.out.app hown hgrow); obtain ⟨e0, e1, e2, e3, e4, e5⟩ := CE.out _ J6.out.box; clear hown hgrow hpl)
  clear J5 S5
  refine (number_any sq 4 w6 (by omega) (by omega) (by omega)).mono ?_
  rintro e w7 ⟨u7, rfl, hown, b7⟩
  obtain ⟨a7, c7, rfl, s7, -⟩ := bs_own (by rw [numB_length]; exact hown) (numB_bytes 4 sq) (by rw [numB_length]; omega)
  rw [numB_length] at *
  have S7 := Hid.mk' s7
  have J7 := Hid.mk' (J6.out.below b7)
  clear hown b7 s7 J6 e0 e1 e2 e3 e4 e5
  go_wp2_with (at_builtin; refine wpList_app_own rfl _ _ rfl w2.heap.size v6 (0 + 2 + 2) _ rfl J7.out.own a7 c7 4 (numB 4 sq) rfl (numB_length 4 _) S7.out (by omega) J7.out.sz ?_; intro v8 w8 hown hgrow hpl; have J8 := Hid.mk' (J7.out.app hown hgrow); obtain ⟨e0, e1, e2, e3, e4, e5⟩ := CE.out _ J8.out.box; clear hown hgrow hpl)
  clear J7 S7
  refine (number_any ak 4 w8 (by omega) (by omega) (by omega)).mono ?_
  rintro e w9 ⟨u9, rfl, hown, b9⟩
  obtain ⟨a9, c9, rfl, s9, -⟩ := bs_own (by rw [numB_length]; exact hown) (numB_bytes 4 ak) (by rw [numB_length]; omega)
  rw [numB_length] at *
  have S9 := Hid.mk' s9
  have J9 := Hid.mk' (J8.out.below b9)
  clear hown b9 s9 J8 e0 e1 e2 e3 e4 e5
  go_wp2_with (at_builtin; refine wpList_app_own rfl _ _ rfl w2.heap.size v8 (0 + 2 + 2 + 4) _ rfl J9.out.own a9 c9 4 (numB 4 ak) rfl (numB_length 4 _) S9.out (by omega) J9.out.sz ?_; intro v10 w10 hown hgrow hpl; have J10 := Hid.mk' (J9.out.app hown hgrow); obtain ⟨e0, e1, e2, e3, e4, e5⟩ := CE.out _ J10.out.box; clear hown hgrow hpl)
  clear J9 S9
  refine (number_any (20480 + fl) 2 w10 (by omega) (by omega) (by omega)).mono ?_
  rintro e w11 ⟨u11, rfl, hown, b11⟩
  obtain ⟨a11, c11, rfl, s11, -⟩ := bs_own (by rw [numB_length]; exact hown) (numB_bytes 2 (20480 + fl)) (by rw [numB_length]; omega)
  rw [numB_length] at *
  have S11 := Hid.mk' s11
  have J11 := Hid.mk' (J10.out.below b11)
  clear hown b11 s11 J10 e0 e1 e2 e3 e4 e5
  go_wp2_with (at_builtin; refine wpList_app_own rfl _ _ rfl w2.heap.size v10 (0 + 2 + 2 + 4 + 4) _ rfl J11.out.own a11 c11 2 (numB 2 (20480 + fl)) rfl (numB_length 2 _) S11.out (by omega) J11.out.sz ?_; intro v12 w12 hown hgrow hpl; have J12 := Hid.mk' (J11.out.app hown hgrow); obtain ⟨e0, e1, e2, e3, e4, e5⟩ := CE.out _ J12.out.box; clear hown hgrow hpl)
  clear J11 S11
  refine (number_any wn 2 w12 (by omega) (by omega) (by omega)).mono ?_
  rintro e w13 ⟨u13, rfl, hown, b13⟩
  obtain ⟨a13, c13, rfl, s13, -⟩ := bs_own (by rw [numB_length]; exact hown) (numB_bytes 2 wn) (by rw [numB_length]; omega)
  rw [numB_length] at *
  have S13 := Hid.mk' s13
  have J13 := Hid.mk' (J12.out.below b13)
  clear hown b13 s13 J12 e0 e1 e2 e3 e4 e5
  go_wp2_with (first | (at_builtin; refine wpList_app_own rfl _ _ rfl w2.heap.size v12 (0 + 2 + 2 + 4 + 4 + 2) _ rfl J13.out.own a13 c13 2 (numB 2 wn) rfl (numB_length 2 _) S13.out (by omega) J13.out.sz ?_; intro v14 w14 hown hgrow hpl; have J14 := Hid.mk' (J13.out.app hown hgrow); obtain ⟨e0, e1, e2, e3, e4, e5⟩ := CE.out _ J14.out.box; clear hown hgrow hpl) | (at_builtin; have J14' := Hid.mk' (J14.out.below ((Below.refl w14.heap.size w14).alloc (Nat.le_refl _) (.cells ([0, 0, 0, 0].map (Value.int .u8)).toArray 5))); refine wpList_app_own rfl _ _ rfl w2.heap.size v14 (0 + 2 + 2 + 4 + 4 + 2 + 2) _ rfl J14'.out.own (some ⟨w14.heap.size, 0, none⟩) 4 4 [0, 0, 0, 0] rfl rfl (bs_new w14 [0, 0, 0, 0] 5 Y0.out (by simp)) (by omega) J14'.out.sz ?_; intro v15 w15 hown hgrow hpl; have J15 := Hid.mk' (J14'.out.app hown hgrow); clear hown hgrow hpl))
  clear J13 S13 J14 J14' e0 e1 e2 e3 e4 e5
  have EB : Hid ([] ++ numB 2 sp ++ numB 2 dp ++ numB 4 sq ++ numB 4 ak ++ numB 2 (20480 + fl) ++ numB 2 wn ++ [0, 0, 0, 0] = sgB sp dp sq ak fl wn 0) := Hid.mk' (by
    rw [numB_two sp s0 s1, numB_two dp d0 d1, numB_four sq q0 q1, numB_four ak a0 a1, numB_two (20480 + fl) (by omega) (by omega), numB_two wn w0 w1, h80.out, hfl.out]; rfl)
  rw [EB.out] at J15
  have K0 : Hid (RbJ w L w2.heap.size v15 20 (sgB sp dp sq ak fl wn 0) w15) := J15
  clear J15
  obtain ⟨g, cg, rfl, hcg⟩ := own_some K0.out.own (by omega)
  have hgl := (K0.out.own.lt g rfl).1
  have S0 : Hid (Bs w15 (some ⟨g, 0, none⟩) (sgB sp dp sq ak fl wn 0)) := Hid.mk' (bs_row_g K0.out.own HSB.out (by rw [sgB_length]; omega))
  refine (rjoin_any (some ⟨g, 0, none⟩) a cg c 20 n (sgB sp dp sq ak fl wn 0) ys w15 rfl HN.out S0.out (HY.out.below K0.out.old) (by omega)).mono ?_
  rintro e u1 ⟨v1, rfl, hown, b1⟩
  have hjl : (sgB sp dp sq ak fl wn 0 ++ ys).length = 20 + n := by rw [List.length_append, HN.out]; rfl
  obtain ⟨a1', c1', rfl, s1', -⟩ := bs_own (by rw [hjl]; exact hown) (bytes_append HSB.out HY.out.bytes) (by rw [hjl]; omega)
  rw [hjl]
  have S1 := Hid.mk' s1'
  have K1 := Hid.mk' (K0.out.below b1)
  have HJL := Hid.mk' hjl
  clear hown b1 s1' S0 K0 hjl
  go_wp2_with fail
  have key := reffield_any a1' c1' (sgB sp dp sq ak fl wn 0 ++ ys) u1 S1.out
  rw [HJL.out, HFE.out] at key
  have O0 := Hid.mk' K1.out.own
  have O1 := Hid.mk' (O0.out.stored 16 (.int .u8 (F / 256))).1
  have O2 := Hid.mk' (O1.out.stored 17 (.int .u8 (F % 256))).1
  have d16 : u1.cell? ⟨g, 16, none⟩ = some (.int .u8 0) := by rw [O0.out.cellAt 16 (by omega)]; rfl
  have d17 : u1.cell? ⟨g, 17, none⟩ = some (.int .u8 0) := by rw [O0.out.cellAt 17 (by omega)]; rfl
  have f16 := O0.out.frozenAt 16
  have f17 := O0.out.frozenAt 17
  have HGL := Hid.mk' (Nat.le_trans (Nat.le_of_lt K1.out.lt) hgl)
  have B12 : Hid (Below w.heap.size w ((u1.setCell ⟨g, 16, none⟩ (.int .u8 (F / 256))).setCell ⟨g, 17, none⟩ (.int .u8 (F % 256)))) := Hid.mk' ((K1.out.old.setCell (p := ⟨g, 16, none⟩) HGL.out _).setCell (p := ⟨g, 17, none⟩) HGL.out _)
  have HE : Hid ((((sgB sp dp sq ak fl wn 0).map (Value.int .u8)).set 16 (.int .u8 (F / 256))).set 17 (.int .u8 (F % 256)) = (sgB sp dp sq ak fl wn F).map (Value.int .u8)) := Hid.mk' rfl
  have HO := Hid.mk' (ownsRow_base O2.out (Nat.le_of_lt K1.out.lt))
  rw [HE.out] at HO
  clear hgl hcg O1 O2
  refine key.mono ?_
  rintro e w13 ⟨rfl, rfl⟩
  go_wp2_with fail
  go_ret2
  exact ⟨_, rfl, HO.out, B12.out⟩
end Go.Proofs.Ytoakinmgjiklhaa
