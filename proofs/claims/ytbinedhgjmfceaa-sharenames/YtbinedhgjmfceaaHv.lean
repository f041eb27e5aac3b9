/- The contract of the statements' own 'two'. -/
import Derived.Test.YtbinedhgjmfceaaHs
namespace Go.Proofs.Ytbinedhgjmfceaa
open Go.ChangeShapes Go.WideShapes Go.ChangeAt Go.RowKit

theorem sh_room {w : World} {F : Nat → Prop} {sl pl : List Nat} {σ : St} {j : Nat} {G : Gr} (h : Shs pgS w F sl pl σ) (hG : σ.gs[j]? = some G) : G.a ≤ 2560 ∧ G.d ≤ 2560 ∧ G.B.length ≤ 2048 := by
  obtain ⟨lab, cl, hF, h'⟩ := h
  have hj := (List.getElem?_eq_some_iff.1 hG).1
  obtain ⟨p, hp⟩ : ∃ p, pl[j]? = some p := ⟨_, List.getElem?_eq_getElem (by rw [h'.lenp]; exact hj)⟩
  obtain ⟨x, ⟨r1, r2, r3⟩, -, -⟩ := Shs.put ⟨lab, cl, hF, h'⟩ hp hG
  have := r1.all
  exact ⟨by omega, by omega, r1.most⟩

theorem part_pinv {σ : St} {M k j : Nat} {G : Gr} (h : PInv σ M) : PInv (σ.part k j G) M := by
  intro j' G' e
  unfold St.part at e
  split at e
  · exact h j' G' e
  · rcases snoc_get e with e | ⟨_, rfl⟩
    · exact h j' G' e
    · exact Nat.zero_le _
theorem put_pinv {σ : St} {M M' j : Nat} {G' : Gr} (h : PInv σ M) (hM : M ≤ M') (hG : G'.m ≤ M') : PInv (σ.putG j G') M' := by
  intro j' G2 e
  rcases set_get e with ⟨_, rfl⟩ | ⟨_, e⟩
  · exact hG
  · exact Nat.le_trans (h j' G2 e) hM
theorem mM_le4 (b : Nat) (n : Int) (m : Nat) : mM b n m ≤ m + 1 := by unfold mM; split <;> omega

set_option maxHeartbeats 2000000 in
set_option maxRecDepth 100000 in
theorem two_skip (W w : World) (xb N M r : Nat) (kd wh x sz n v : Int) (ba : Option Addr) (bl bc : Nat) (h : Pls W w xb N M) (hr : r < 4 ∨ 6 < r) (hr8 : r < 8)
    (hbr : ∀ u : World, Calls Try.prog 14 #[.int .i64 kd, .int .i64 8] u fun e w' => e = .returned (.int .i64 r) ∧ u = w') :
    Calls Try.prog 9 #[.pointer (some ⟨xb, 0, none⟩), .agg #[.int .i64 kd, .int .i64 wh, .int .i64 x, .int .i64 sz, .int .i64 n, .int .u64 v, .slice ba bl bc]] w fun e w' => e = .returned (.bool true) ∧ Pls W w' xb N (M + 1) := by
  have HF := Hid.mk' ((h.below ((Below.refl _ _).alloc (Nat.le_refl _) (.cells #[.int .i64 kd, .int .i64 wh, .int .i64 x, .int .i64 sz, .int .i64 n, .int .u64 v, .slice ba bl bc] 33))).more (Nat.le_succ M))
  clear h
  by_cases h4 : r < 4
  · have h4' : (r : Int) < 4 := by omega
    go_enter Try.func9, Try.ntmps9
    go_wp2_with fail
    refine (hbr _).mono ?_
    rintro e w1 ⟨rfl, rfl⟩
    go_wp2_with fail
    go_ret
    exact ⟨rfl, HF.out⟩
  · have h4' : ¬ (r : Int) < 4 := by omega
    have h6' : (6 : Int) < (r : Int) := by omega
    go_enter Try.func9, Try.ntmps9
    go_wp2_with fail
    refine (hbr _).mono ?_
    rintro e w1 ⟨rfl, rfl⟩
    go_wp2_with fail
    go_ret
    exact ⟨rfl, HF.out⟩

set_option maxHeartbeats 4000000 in
set_option maxRecDepth 100000 in
theorem two_head (W w : World) (xb N M : Nat) (kd wh x sz n v : Int) (ba : Option Addr) (bl bc : Nat) (h : Pls W w xb N M) (hN1 : 1 ≤ N) (hN : N ≤ 12) (hM : M ≤ 1000) (hwh : -9223372036854775808 ≤ wh ∧ wh ≤ 9223372036854775807)
    (hbr : ∀ u : World, Calls Try.prog 14 #[.int .i64 kd, .int .i64 8] u fun e w' => e = .returned (.int .i64 4) ∧ u = w') :
    Calls Try.prog 9 #[.pointer (some ⟨xb, 0, none⟩), .agg #[.int .i64 kd, .int .i64 wh, .int .i64 x, .int .i64 sz, .int .i64 n, .int .u64 v, .slice ba bl bc]] w fun e w' => e = .returned (.bool true) ∧ Pls W w' xb N (M + 1) := by
  obtain ⟨F, sl, pl, F', ml, ql, σ, lv, mv, h1, hsl, hml, hP⟩ := h.is
  obtain ⟨ga, ca, gm, cm, rfl, rfl⟩ := plL_some h1 hN1
  have hlen : Hid (σ.hs.length = N) := Hid.mk' (by rw [← (h1.shs 0 rfl).len]; exact hsl)
  have cN := fun u => brg_any wh N u (by omega) (by omega) hwh.1 hwh.2
  have hk := brg_lt wh N (by omega)
  generalize brg wh N = k at *
  obtain ⟨sk, hsk⟩ : ∃ sk, sl[k]? = some sk := ⟨_, List.getElem?_eq_getElem (by omega)⟩
  obtain ⟨mk, hmk⟩ : ∃ mk, ml[k]? = some mk := ⟨_, List.getElem?_eq_getElem (by omega)⟩
  have HSL := Hid.mk' hsl
  have HML := Hid.mk' hml
  have HPI := Hid.mk' hP
  have HSK := Hid.mk' hsk
  have HMK := Hid.mk' hmk
  have H0 := Hid.mk' h1
  have hkc : (k : Int) < (N : Int) := by omega
  clear h h1 hsl hml hP hsk hmk
  go_enter Try.func9, Try.ntmps9
  go_wp2_with fail
  refine (hbr _).mono ?_
  rintro e w1 ⟨rfl, hw1⟩
  have H1 := do_start H0.out hw1
  unfold doC at H1
  clear hw1 H0
  generalize w.heap.size = db at *
  obtain ⟨-, e1, -, -, -, -, -⟩ := do_at H1.out
  obtain ⟨x0, -, -, -⟩ := both_at H1.out 3 rfl
  go_wp2_with fail
  go_quiet ((go_at_call 14; exact quiet_same4 (cN _)))
  have H3 := Hid.mk' (H1.out.dr' ⟨nq, rfl⟩)
  clear H1 e1 x0 cN
  generalize w1.drewN nq = w3 at *
  obtain ⟨x0, x1, -, -⟩ := both_at H3.out 3 rfl
  have hc1 := (H3.out.cellAt 4 rfl k (ptr sk) (by simp [HSK.out])).1
  unfold ptr at hc1
  obtain ⟨o, ho⟩ : ∃ o, σ.hs[k]? = some o := ⟨_, List.getElem?_eq_getElem (by rw [hlen.out]; exact hk)⟩
  have HO := Hid.mk' ho
  clear ho
  cases o with
  | none =>
    have HF : Hid (Pls W w3 xb N (M + 1)) := Pls.more ⟨F, sl, pl, F', ml, ql, σ, _, _, H3.out.tail, HSL.out, HML.out, HPI.out⟩ (Nat.le_succ M)
    have key1 := sown_bad _ 40 w3 (sh_bad (H3.out.shs 1 rfl) HSK.out HO.out)
    have key2 := rsown_gone mk w3 (rd_gone (H3.out.shs 2 rfl) HMK.out HO.out)
    have hc2 := (H3.out.cellAt 5 rfl k (ptr mk) (by simp [HMK.out])).1
    unfold ptr at hc2
    clear H3
    go_wp2_with fail
    refine key1.mono ?_
    rintro e w4 ⟨rfl, rfl⟩
    go_wp2_with fail
    refine key2.mono ?_
    rintro e w4 ⟨rfl, rfl⟩
    go_wp2_with fail
    go_ret
    exact ⟨rfl, HF.out⟩
  | some j =>
    obtain ⟨G, hG⟩ : ∃ G, σ.gs[j]? = some G := ⟨_, List.getElem?_eq_getElem ((H3.out.shs 1 rfl).rng HO.out)⟩
    have HG := Hid.mk' hG
    have hln : Hid (σ.hs.length ≤ 1000) := Hid.mk' (by rw [hlen.out]; omega)
    clear hG
    go_wp2_with fail
    refine (sh_own (H3.out.shs 1 rfl) HSK.out HO.out HG.out hln.out).mono ?_
    rintro e w4 ⟨p, pl', rfl, hp, hnx⟩
    obtain ⟨F4, h4⟩ := H3.out.next 1 rfl hnx
    have HP := Hid.mk' hp
    have H4 := Hid.mk' h4
    obtain ⟨-, x1', -, -⟩ := both_at (lv := .slice (some ⟨ga, 0, none⟩) N ca) (mv := .slice (some ⟨gm, 0, none⟩) N cm) H4.out 3 rfl
    have hc2 := (H4.out.cellAt (g := gm) (c := cm) (n := N) (xs := ml.map ptr) 5 rfl k (ptr mk) (by simp [HMK.out])).1
    unfold ptr at hc2
    clear hp hnx h4 H3 x0 x1 hc1
    go_wp2_with fail
    refine (rd_own (H4.out.shs 2 rfl) HMK.out HO.out HG.out hln.out).mono ?_
    rintro e w5 ⟨q, ql', rfl, hq, hnx⟩
    obtain ⟨F5, h5⟩ := H4.out.next 2 rfl hnx
    have HQ := Hid.mk' hq
    have HG1 : Hid ((σ.part k j G).gs[σ.pJ j]? = some (σ.pG j G)) := Hid.mk' (St.part_get HG.out)
    have HP1 : Hid (PInv (σ.part k j G) M) := Hid.mk' (part_pinv HPI.out)
    have H5 : Hid (Heap W w5 (cellsT db #[.int .i64 kd, .int .i64 wh, .int .i64 x, .int .i64 sz, .int .i64 n, .int .u64 v, .slice ba bl bc] 33 :: plL W F4 sl pl' F5 ml ql' (σ.part k j G) xb (.slice (some ⟨ga, 0, none⟩) N ca) (.slice (some ⟨gm, 0, none⟩) N cm) N)) := h5
    clear hq hnx h5 H4 x1' hc2 HG HO HPI hln hlen HSK HMK
    generalize σ.part k j G = σ1 at *
    generalize σ.pJ j = J at *
    generalize σ.pG j G = G1 at *
    have hm := HP1.out J G1 HG1.out
    obtain ⟨hra, hrd, hrb⟩ := sh_room (H5.out.shs 1 rfl) HG1.out
    go_wp2_with fail
    refine (sh_moves (H5.out.shs 1 rfl) HP.out HG1.out).mono ?_
    rintro e w6 ⟨rfl, rfl⟩
    go_wp2_with fail
    refine (rd_moves (H5.out.shs 2 rfl) HQ.out HG1.out).mono ?_
    rintro e w6 ⟨rfl, rfl⟩
    obtain ⟨-, -, -, -, e4, -, -⟩ := do_at H5.out
    have HD := Hid.mk' (H5.out.below ((Below.refl _ _).drew))
    have KEY1 := Hid.mk' (sh_head n (HD.out.shs 1 rfl) HP.out HG1.out (by omega))
    have KEY2 := Hid.mk' (fun (u : World) (FF : Nat → Prop) (h : Shs dcS u FF ml ql' σ1) => rd_head n h HQ.out HG1.out (by omega) (by omega))
    have hmm := mM_le4 G1.B.length n G1.m
    generalize mayE G1.B.length n = E at *
    go_wp2_with fail
    go_region_with (first | (go_at_call 33; refine KEY1.out.mono ?_; rintro e w7 ⟨rfl, hnx⟩; obtain ⟨F7, h7⟩ := HD.out.next 1 rfl hnx; have H7 := Hid.mk' h7; obtain ⟨-, -, -, -, t4, -, -⟩ := do_at (L := [_, _, _, _, _]) h7; clear h7 hnx) | (go_at_call 34; refine (KEY2.out w7 _ (H7.out.shs 2 rfl)).mono ?_; rintro e w8 ⟨rfl, hnx⟩; obtain ⟨F8, h8⟩ := H7.out.next 2 rfl hnx; have H8 := Hid.mk' h8; clear h8 hnx))
    all_goals
      have HF : Hid (Pls W w8 xb N (M + 1)) := ⟨F7, sl, pl', F8, ml, ql', _, _, _, Heap.tail H8.out, HSL.out, HML.out, put_pinv HP1.out (Nat.le_succ M) (by show mM G1.B.length n G1.m ≤ M + 1; omega)⟩
      clear HD H7 H8 H5
      go_wp2_with fail
      go_ret
      first | exact ⟨rfl, HF.out⟩ | exact ⟨by simp, HF.out⟩

set_option maxHeartbeats 4000000 in
set_option maxRecDepth 100000 in
theorem two_tail (W w : World) (xb N M : Nat) (kd wh x sz n v : Int) (ba : Option Addr) (bl bc : Nat) (h : Pls W w xb N M) (hN1 : 1 ≤ N) (hN : N ≤ 12) (hM : M ≤ 1000) (hwh : -9223372036854775808 ≤ wh ∧ wh ≤ 9223372036854775807)
    (hbr : ∀ u : World, Calls Try.prog 14 #[.int .i64 kd, .int .i64 8] u fun e w' => e = .returned (.int .i64 5) ∧ u = w') :
    Calls Try.prog 9 #[.pointer (some ⟨xb, 0, none⟩), .agg #[.int .i64 kd, .int .i64 wh, .int .i64 x, .int .i64 sz, .int .i64 n, .int .u64 v, .slice ba bl bc]] w fun e w' => e = .returned (.bool true) ∧ Pls W w' xb N (M + 1) := by
  obtain ⟨F, sl, pl, F', ml, ql, σ, lv, mv, h1, hsl, hml, hP⟩ := h.is
  obtain ⟨ga, ca, gm, cm, rfl, rfl⟩ := plL_some h1 hN1
  have hlen : Hid (σ.hs.length = N) := Hid.mk' (by rw [← (h1.shs 0 rfl).len]; exact hsl)
  have cN := fun u => brg_any wh N u (by omega) (by omega) hwh.1 hwh.2
  have hk := brg_lt wh N (by omega)
  generalize brg wh N = k at *
  obtain ⟨sk, hsk⟩ : ∃ sk, sl[k]? = some sk := ⟨_, List.getElem?_eq_getElem (by omega)⟩
  obtain ⟨mk, hmk⟩ : ∃ mk, ml[k]? = some mk := ⟨_, List.getElem?_eq_getElem (by omega)⟩
  have HSL := Hid.mk' hsl
  have HML := Hid.mk' hml
  have HPI := Hid.mk' hP
  have HSK := Hid.mk' hsk
  have HMK := Hid.mk' hmk
  have H0 := Hid.mk' h1
  have hkc : (k : Int) < (N : Int) := by omega
  clear h h1 hsl hml hP hsk hmk
  go_enter Try.func9, Try.ntmps9
  go_wp2_with fail
  refine (hbr _).mono ?_
  rintro e w1 ⟨rfl, hw1⟩
  have H1 := do_start H0.out hw1
  unfold doC at H1
  clear hw1 H0
  generalize w.heap.size = db at *
  obtain ⟨-, e1, -, -, -, -, -⟩ := do_at H1.out
  obtain ⟨x0, -, -, -⟩ := both_at H1.out 3 rfl
  go_wp2_with fail
  go_quiet ((go_at_call 14; exact quiet_same4 (cN _)))
  have H3 := Hid.mk' (H1.out.dr' ⟨nq, rfl⟩)
  clear H1 e1 x0 cN
  generalize w1.drewN nq = w3 at *
  obtain ⟨x0, x1, -, -⟩ := both_at H3.out 3 rfl
  have hc1 := (H3.out.cellAt 4 rfl k (ptr sk) (by simp [HSK.out])).1
  unfold ptr at hc1
  obtain ⟨o, ho⟩ : ∃ o, σ.hs[k]? = some o := ⟨_, List.getElem?_eq_getElem (by rw [hlen.out]; exact hk)⟩
  have HO := Hid.mk' ho
  clear ho
  cases o with
  | none =>
    have HF : Hid (Pls W w3 xb N (M + 1)) := Pls.more ⟨F, sl, pl, F', ml, ql, σ, _, _, H3.out.tail, HSL.out, HML.out, HPI.out⟩ (Nat.le_succ M)
    have key1 := sown_bad _ 40 w3 (sh_bad (H3.out.shs 1 rfl) HSK.out HO.out)
    have key2 := rsown_gone mk w3 (rd_gone (H3.out.shs 2 rfl) HMK.out HO.out)
    have hc2 := (H3.out.cellAt 5 rfl k (ptr mk) (by simp [HMK.out])).1
    unfold ptr at hc2
    clear H3
    go_wp2_with fail
    refine key1.mono ?_
    rintro e w4 ⟨rfl, rfl⟩
    go_wp2_with fail
    refine key2.mono ?_
    rintro e w4 ⟨rfl, rfl⟩
    go_wp2_with fail
    go_ret
    exact ⟨rfl, HF.out⟩
  | some j =>
    obtain ⟨G, hG⟩ : ∃ G, σ.gs[j]? = some G := ⟨_, List.getElem?_eq_getElem ((H3.out.shs 1 rfl).rng HO.out)⟩
    have HG := Hid.mk' hG
    have hln : Hid (σ.hs.length ≤ 1000) := Hid.mk' (by rw [hlen.out]; omega)
    clear hG
    go_wp2_with fail
    refine (sh_own (H3.out.shs 1 rfl) HSK.out HO.out HG.out hln.out).mono ?_
    rintro e w4 ⟨p, pl', rfl, hp, hnx⟩
    obtain ⟨F4, h4⟩ := H3.out.next 1 rfl hnx
    have HP := Hid.mk' hp
    have H4 := Hid.mk' h4
    obtain ⟨-, x1', -, -⟩ := both_at (lv := .slice (some ⟨ga, 0, none⟩) N ca) (mv := .slice (some ⟨gm, 0, none⟩) N cm) H4.out 3 rfl
    have hc2 := (H4.out.cellAt (g := gm) (c := cm) (n := N) (xs := ml.map ptr) 5 rfl k (ptr mk) (by simp [HMK.out])).1
    unfold ptr at hc2
    clear hp hnx h4 H3 x0 x1 hc1
    go_wp2_with fail
    refine (rd_own (H4.out.shs 2 rfl) HMK.out HO.out HG.out hln.out).mono ?_
    rintro e w5 ⟨q, ql', rfl, hq, hnx⟩
    obtain ⟨F5, h5⟩ := H4.out.next 2 rfl hnx
    have HQ := Hid.mk' hq
    have HG1 : Hid ((σ.part k j G).gs[σ.pJ j]? = some (σ.pG j G)) := Hid.mk' (St.part_get HG.out)
    have HP1 : Hid (PInv (σ.part k j G) M) := Hid.mk' (part_pinv HPI.out)
    have H5 : Hid (Heap W w5 (cellsT db #[.int .i64 kd, .int .i64 wh, .int .i64 x, .int .i64 sz, .int .i64 n, .int .u64 v, .slice ba bl bc] 33 :: plL W F4 sl pl' F5 ml ql' (σ.part k j G) xb (.slice (some ⟨ga, 0, none⟩) N ca) (.slice (some ⟨gm, 0, none⟩) N cm) N)) := h5
    clear hq hnx h5 H4 x1' hc2 HG HO HPI hln hlen HSK HMK
    generalize σ.part k j G = σ1 at *
    generalize σ.pJ j = J at *
    generalize σ.pG j G = G1 at *
    have hm := HP1.out J G1 HG1.out
    obtain ⟨hra, hrd, hrb⟩ := sh_room (H5.out.shs 1 rfl) HG1.out
    go_wp2_with fail
    refine (sh_moves (H5.out.shs 1 rfl) HP.out HG1.out).mono ?_
    rintro e w6 ⟨rfl, rfl⟩
    go_wp2_with fail
    refine (rd_moves (H5.out.shs 2 rfl) HQ.out HG1.out).mono ?_
    rintro e w6 ⟨rfl, rfl⟩
    obtain ⟨-, -, -, -, e4, -, -⟩ := do_at H5.out
    have HD := Hid.mk' (H5.out.below ((Below.refl _ _).drew))
    have KEY1 := Hid.mk' (sh_tail n (HD.out.shs 1 rfl) HP.out HG1.out (by omega))
    have KEY2 := Hid.mk' (fun (u : World) (FF : Nat → Prop) (h : Shs dcS u FF ml ql' σ1) => rd_tail n h HQ.out HG1.out (by omega) (by omega))
    have hmm := mM_le4 G1.B.length n G1.m
    generalize mayE G1.B.length n = E at *
    go_wp2_with fail
    go_region_with (first | (go_at_call 35; refine KEY1.out.mono ?_; rintro e w7 ⟨rfl, hnx⟩; obtain ⟨F7, h7⟩ := HD.out.next 1 rfl hnx; have H7 := Hid.mk' h7; obtain ⟨-, -, -, -, t4, -, -⟩ := do_at (L := [_, _, _, _, _]) h7; clear h7 hnx) | (go_at_call 36; refine (KEY2.out w7 _ (H7.out.shs 2 rfl)).mono ?_; rintro e w8 ⟨rfl, hnx⟩; obtain ⟨F8, h8⟩ := H7.out.next 2 rfl hnx; have H8 := Hid.mk' h8; clear h8 hnx))
    all_goals
      have HF : Hid (Pls W w8 xb N (M + 1)) := ⟨F7, sl, pl', F8, ml, ql', _, _, _, Heap.tail H8.out, HSL.out, HML.out, put_pinv HP1.out (Nat.le_succ M) (by show mM G1.B.length n G1.m ≤ M + 1; omega)⟩
      clear HD H7 H8 H5
      go_wp2_with fail
      go_ret
      first | exact ⟨rfl, HF.out⟩ | exact ⟨by simp, HF.out⟩
end Go.Proofs.Ytbinedhgjmfceaa
