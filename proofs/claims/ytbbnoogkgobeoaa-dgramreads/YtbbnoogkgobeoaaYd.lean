/- The contracts of the document's own Check, Size, field, Bytes for dgram. -/
import Derived.Test.YtbbnoogkgobeoaaYc
import Derived.Test.YtbbnoogkgobeoaaGe
namespace Go.Proofs.Ytbbnoogkgobeoaa
open Go.ChangeShapes Go.WideShapes Go.ChangeAt Go.RowKit

theorem rcheck_any (L : List Value) (w : World) : Calls Try.prog 12 #[.agg L.toArray] w fun e w' => e = .returned (.int .i64 0) ∧ Below w.heap.size w w' := by
  go_enter Try.func12, Try.ntmps12
  go_wp2_with fail
  go_ret
  exact ⟨rfl, (Below.refl _ _).alloc (Nat.le_refl _) _⟩

theorem rsize_any (w : World) : Calls Try.prog 14 #[] w fun e w' => e = .returned (.int .i64 8) ∧ w = w' := by
  go_enter Try.func14, Try.ntmps14
  go_wp2_with fail
  go_ret
  exact ⟨rfl, rfl⟩

set_option maxHeartbeats 400000 in
theorem rfield_any (a : Option Addr) (cap : Nat) (zs : List Int) (w : World) (hB : Bs w a zs) :
    Calls Try.prog 25 #[.slice a zs.length cap] w fun e w' => e = .returned (.int .i64 (fd (su zs zs.length))) ∧ w' = w := by
  have hr := su_range zs zs.length
  have K : Hid (Calls Try.prog 31 #[.slice a zs.length cap] w fun e w' => e = .returned (.int .u16 (65535 - su zs zs.length)) ∧ w' = w) := Hid.mk' (reffield_any a cap zs w hB)
  clear hB
  generalize su zs zs.length = T at *
  generalize zs.length = n at *
  obtain ⟨T0, T1⟩ := hr
  unfold fd
  by_cases hz : 65535 - T = 0
  · rw [if_pos hz]
    have hzb : (65535 - T == 0) = true := by simpa using hz
    go_enter Try.func25, Try.ntmps25
    go_wp2_with fail
    refine (keep_name K.out).mono ?_
    rintro e w' ⟨rfl, rfl⟩
    go_wp2_with fail
    go_ret
    exact ⟨rfl, rfl⟩
  · rw [if_neg hz]
    have hzb : (65535 - T == 0) = false := by simpa using hz
    go_enter Try.func25, Try.ntmps25
    go_wp2_with fail
    refine (keep_name K.out).mono ?_
    rintro e w' ⟨rfl, rfl⟩
    go_wp2_with fail
    go_ret
    exact ⟨rfl, rfl⟩

set_option maxHeartbeats 400000 in
theorem rbytes_no (L : List Value) (a : Option Addr) (n c : Nat) (w : World) (hlc : L.length = 2) (hn : ¬ n ≤ 2040) (hl : n ≤ 140737488355328) :
    Calls Try.prog 10 #[.agg L.toArray, .slice a n c] w fun e w' => e = .returned (.tuple #[.slice none 0 0, .int .i64 5]) ∧ Below w.heap.size w w' := by
  have hlc := Hid.mk' hlc
  have HCK : Hid (∀ u : World, Calls Try.prog 12 #[.agg L.toArray] u fun e w' => e = .returned (.int .i64 0) ∧ Below u.heap.size u w') := Hid.mk' (fun u => rcheck_any L u)
  obtain ⟨W1, hW1⟩ : ∃ W1, W1 = w.alloc (.cells L.toArray 24) := ⟨_, rfl⟩
  have R1 : Hid (W1.heap[w.heap.size]? = some (.cells L.toArray 24 (0, 0))) := by rw [hW1]; exact heap_alloc_new w _
  have B1 : Hid (Below w.heap.size w W1) := by rw [hW1]; exact (Below.refl _ _).alloc (Nat.le_refl _) _
  have HW := Hid.mk' hW1.symm
  clear hW1
  go_enter Try.func10, Try.ntmps10
  go_wp2_with (first | (go_at_call 12; rw [HW.out]; refine (HCK.out W1).mono ?_; rintro e w2 ⟨rfl, b2⟩; have B2 : Hid (Below w.heap.size w w2) := (B1.out.trans (b2.mono B1.out.size)); clear b2) | refine wpList_load_mid rfl 24 _ rfl w.heap.size 0 rfl L _ (by rw [HW.out]; exact range_block R1.out) Try.underlying24 rfl (by rw [hlc.out]; exact info_hd) ?_)
  go_ret2
  exact ⟨rfl, B2.out⟩

set_option maxHeartbeats 1000000 in
theorem rbytes_ok (sp dp : Int) (a : Option Addr) (n c : Nat) (ys : List Int) (w : World) (h : Dg sp dp) (hn : n ≤ 2040) (hy : ys.length = n) (hY : Bs w a ys) :
    Calls Try.prog 10 #[.agg (dgC sp dp).toArray, .slice a n c] w fun e w' => ∃ v, e = .returned (.tuple #[v, .int .i64 0]) ∧ w'.ownsRow w.heap.size 5 1 v 8 ((dgB sp dp ys.length (dgF sp dp ys)).map (Value.int .u8)) ∧ Below w.heap.size w w' := by
  have hlc : Hid ((dgC sp dp).length = 2) := Hid.mk' rfl
  have HCK : Hid (∀ u : World, Calls Try.prog 12 #[.agg (dgC sp dp).toArray] u fun e w' => e = .returned (.int .i64 0) ∧ Below u.heap.size u w') := Hid.mk' (fun u => rcheck_any (dgC sp dp) u)
  obtain ⟨L, HL⟩ : ∃ L, Hid (dgC sp dp = L) := ⟨_, rfl⟩
  rw [HL.out] at hlc HCK ⊢
  have CE : Hid (∀ w' : World, w'.heap[w.heap.size]? = some (.cells L.toArray 24 (0, 0)) → w'.cell? ⟨w.heap.size, 0, none⟩ = some (.int .u16 sp) ∧ w'.cell? ⟨w.heap.size, 1, none⟩ = some (.int .u16 dp)) := Hid.mk' (fun w' hh => by
    rw [← HL.out] at hh
    refine ⟨?_, ?_⟩ <;> exact cell_of_row w' _ _ _ _ _ hh)
  have hF := dgF_bd sp dp ys
  have HFE : Hid (fd (su (dgB sp dp n 0 ++ ys) (8 + n)) = dgF sp dp ys) := Hid.mk' (by rw [← hy]; rfl)
  have HSB : Hid (Bytes (dgB sp dp n 0)) := Hid.mk' (dgB_bytes h (by omega) (by omega) (by omega) (by omega))
  obtain ⟨F, HF⟩ : ∃ F, Hid (dgF sp dp ys = F) := ⟨_, rfl⟩
  rw [HF.out] at HFE hF ⊢
  rw [hy]
  obtain ⟨F0, F1⟩ := hF
  obtain ⟨s0, s1, d0, d1⟩ := h
  have Y0 : Hid (Bytes [0, 0]) := Hid.mk' (by intro z hz; simp at hz; omega)
  have HY := Hid.mk' hY
  have HN := Hid.mk' hy
  clear hY hy
  obtain ⟨W1, hW1⟩ : ∃ W1, W1 = w.alloc (.cells L.toArray 24) := ⟨_, rfl⟩
  have R1 : Hid (W1.heap[w.heap.size]? = some (.cells L.toArray 24 (0, 0))) := by rw [hW1]; exact heap_alloc_new w _
  have B1 : Hid (Below w.heap.size w W1) := by rw [hW1]; exact (Below.refl _ _).alloc (Nat.le_refl _) _
  have HW := Hid.mk' hW1.symm
  clear hW1
  go_enter Try.func10, Try.ntmps10
  go_wp2_with (first | (go_at_call 12; rw [HW.out]; refine (HCK.out W1).mono ?_; rintro e w2 ⟨rfl, b2⟩; have B2 : Hid (Below w.heap.size w w2) := (B1.out.trans (b2.mono B1.out.size)); have R2 : Hid (w2.heap[w.heap.size]? = some (.cells L.toArray 24 (0, 0))) := ((b2.block _ (Array.getElem?_eq_some_iff.1 R1.out).1).trans R1.out); obtain ⟨e0, e1⟩ := CE.out _ R2.out; clear b2) | refine wpList_load_mid rfl 24 _ rfl w.heap.size 0 rfl L _ (by rw [HW.out]; exact range_block R1.out) Try.underlying24 rfl (by rw [hlc.out]; exact info_hd) ?_)
  have J2 : Hid (RbJ w L w2.heap.size (.slice none 0 0) 0 [] w2) := Hid.mk' ⟨R2.out, World.ownsRow_nil _ _ _ _, B2.out, Nat.le_refl _, (Array.getElem?_eq_some_iff.1 R2.out).1⟩
  clear R2 B2 R1 B1 HW
  refine (number_any sp 2 w2 (by omega) (by omega) (by omega)).mono ?_
  rintro e w3 ⟨u3, rfl, hown, b3⟩
  obtain ⟨a3, c3, rfl, s3, -⟩ := bs_own (by rw [numB_length]; exact hown) (numB_bytes 2 sp) (by rw [numB_length]; omega)
  rw [numB_length] at *
  have S3 := Hid.mk' s3
  have J3 := Hid.mk' (J2.out.below b3)
  clear hown b3 s3 J2 e0 e1
  go_wp2_with (at_builtin; refine wpList_app_own rfl _ _ rfl w2.heap.size (.slice none 0 0) (0) _ rfl J3.out.own a3 c3 2 (numB 2 sp) rfl (numB_length 2 _) S3.out (by omega) J3.out.sz ?_; intro v4 w4 hown hgrow hpl; have J4 := Hid.mk' (J3.out.app hown hgrow); obtain ⟨e0, e1⟩ := CE.out _ J4.out.box; clear hown hgrow hpl)
  clear J3 S3
  refine (number_any dp 2 w4 (by omega) (by omega) (by omega)).mono ?_
  rintro e w5 ⟨u5, rfl, hown, b5⟩
  obtain ⟨a5, c5, rfl, s5, -⟩ := bs_own (by rw [numB_length]; exact hown) (numB_bytes 2 dp) (by rw [numB_length]; omega)
  rw [numB_length] at *
  have S5 := Hid.mk' s5
  have J5 := Hid.mk' (J4.out.below b5)
  clear hown b5 s5 J4 e0 e1
  go_wp2_with (at_builtin; refine wpList_app_own rfl _ _ rfl w2.heap.size v4 (0 + 2) _ rfl J5.out.own a5 c5 2 (numB 2 dp) rfl (numB_length 2 _) S5.out (by omega) J5.out.sz ?_; intro v6 w6 hown hgrow hpl; have J6 := Hid.mk' (J5.out.app hown hgrow); obtain ⟨e0, e1⟩ := CE.out _ J6.out.box; clear hown hgrow hpl)
  clear J5 S5
  refine (number_any (8 + (n : Int)) 2 w6 (by omega) (by omega) (by omega)).mono ?_
  rintro e w7 ⟨u7, rfl, hown, b7⟩
  obtain ⟨a7, c7, rfl, s7, -⟩ := bs_own (by rw [numB_length]; exact hown) (numB_bytes 2 (8 + (n : Int))) (by rw [numB_length]; omega)
  rw [numB_length] at *
  have S7 := Hid.mk' s7
  have J7 := Hid.mk' (J6.out.below b7)
  clear hown b7 s7 J6 e0 e1
  go_wp2_with (first | (at_builtin; refine wpList_app_own rfl _ _ rfl w2.heap.size v6 (0 + 2 + 2) _ rfl J7.out.own a7 c7 2 (numB 2 (8 + (n : Int))) rfl (numB_length 2 _) S7.out (by omega) J7.out.sz ?_; intro v8 w8 hown hgrow hpl; have J8 := Hid.mk' (J7.out.app hown hgrow); obtain ⟨e0, e1⟩ := CE.out _ J8.out.box; clear hown hgrow hpl) | (at_builtin; have J8' := Hid.mk' (J8.out.below ((Below.refl w8.heap.size w8).alloc (Nat.le_refl _) (.cells ([0, 0].map (Value.int .u8)).toArray 5))); refine wpList_app_own rfl _ _ rfl w2.heap.size v8 (0 + 2 + 2 + 2) _ rfl J8'.out.own (some ⟨w8.heap.size, 0, none⟩) 2 2 [0, 0] rfl rfl (bs_new w8 [0, 0] 5 Y0.out (by simp)) (by omega) J8'.out.sz ?_; intro v15 w15 hown hgrow hpl; have J15 := Hid.mk' (J8'.out.app hown hgrow); clear hown hgrow hpl))
  clear J7 S7 J8 J8' e0 e1
  have EB : Hid ([] ++ numB 2 sp ++ numB 2 dp ++ numB 2 (8 + (n : Int)) ++ [0, 0] = dgB sp dp n 0) := Hid.mk' (by
    rw [numB_two sp s0 s1, numB_two dp d0 d1, numB_two (8 + (n : Int)) (by omega) (by omega)]; rfl)
  rw [EB.out] at J15
  have K0 : Hid (RbJ w L w2.heap.size v15 8 (dgB sp dp n 0) w15) := J15
  clear J15
  obtain ⟨g, cg, rfl, hcg⟩ := own_some K0.out.own (by omega)
  have hgl := (K0.out.own.lt g rfl).1
  have S0 : Hid (Bs w15 (some ⟨g, 0, none⟩) (dgB sp dp n 0)) := Hid.mk' (bs_row_g K0.out.own HSB.out (by rw [dgB_length]; omega))
  refine (rjoin_any (some ⟨g, 0, none⟩) a cg c 8 n (dgB sp dp n 0) ys w15 rfl HN.out S0.out (HY.out.below K0.out.old) (by omega)).mono ?_
  rintro e u1 ⟨v1, rfl, hown, b1⟩
  have hjl : (dgB sp dp n 0 ++ ys).length = 8 + n := by rw [List.length_append, HN.out]; rfl
  obtain ⟨a1', c1', rfl, s1', -⟩ := bs_own (by rw [hjl]; exact hown) (bytes_append HSB.out HY.out.bytes) (by rw [hjl]; omega)
  rw [hjl]
  have S1 := Hid.mk' s1'
  have K1 := Hid.mk' (K0.out.below b1)
  have HJL := Hid.mk' hjl
  clear hown b1 s1' S0 K0 hjl
  go_wp2_with fail
  have key := rfield_any a1' c1' (dgB sp dp n 0 ++ ys) u1 S1.out
  rw [HJL.out, HFE.out] at key
  have O0 := Hid.mk' K1.out.own
  have O1 := Hid.mk' (O0.out.stored 6 (.int .u8 (F / 256))).1
  have O2 := Hid.mk' (O1.out.stored 7 (.int .u8 (F % 256))).1
  have d6 : u1.cell? ⟨g, 6, none⟩ = some (.int .u8 0) := by rw [O0.out.cellAt 6 (by omega)]; rfl
  have d7 : u1.cell? ⟨g, 7, none⟩ = some (.int .u8 0) := by rw [O0.out.cellAt 7 (by omega)]; rfl
  have f6 := O0.out.frozenAt 6
  have f7 := O0.out.frozenAt 7
  have HGL := Hid.mk' (Nat.le_trans (Nat.le_of_lt K1.out.lt) hgl)
  have B12 : Hid (Below w.heap.size w ((u1.setCell ⟨g, 6, none⟩ (.int .u8 (F / 256))).setCell ⟨g, 7, none⟩ (.int .u8 (F % 256)))) := Hid.mk' ((K1.out.old.setCell (p := ⟨g, 6, none⟩) HGL.out _).setCell (p := ⟨g, 7, none⟩) HGL.out _)
  have HE : Hid ((((dgB sp dp n 0).map (Value.int .u8)).set 6 (.int .u8 (F / 256))).set 7 (.int .u8 (F % 256)) = (dgB sp dp n F).map (Value.int .u8)) := Hid.mk' rfl
  have HO := Hid.mk' (ownsRow_base O2.out (Nat.le_of_lt K1.out.lt))
  rw [HE.out] at HO
  clear hgl hcg O1 O2
  refine key.mono ?_
  rintro e w13 ⟨rfl, rfl⟩
  go_wp2_with fail
  go_ret2
  exact ⟨_, rfl, HO.out, B12.out⟩
end Go.Proofs.Ytbbnoogkgobeoaa
