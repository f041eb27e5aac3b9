/- The contract of the statements' own 'two', where Data is written to. -/
import Derived.Test.YtbinedhgjmfceaaHv
namespace Go.Proofs.Ytbinedhgjmfceaa
open Go.ChangeShapes Go.WideShapes Go.ChangeAt Go.RowKit


set_option maxHeartbeats 4000000 in
set_option maxRecDepth 100000 in
theorem two_data (W w : World) (xb N M : Nat) (kd wh x sz n v : Int) (ba : Option Addr) (bl bc : Nat) (h : Pls W w xb N M) (hN1 : 1 ≤ N) (hN : N ≤ 12) (_hM : M ≤ 1000) (hwh : -9223372036854775808 ≤ wh ∧ wh ≤ 9223372036854775807)
    (hbr : ∀ u : World, Calls Try.prog 14 #[.int .i64 kd, .int .i64 8] u fun e w' => e = .returned (.int .i64 6) ∧ u = w') :
    Calls Try.prog 9 #[.pointer (some ⟨xb, 0, none⟩), .agg #[.int .i64 kd, .int .i64 wh, .int .i64 x, .int .i64 sz, .int .i64 n, .int .u64 v, .slice ba bl bc]] w fun e w' => e = .returned (.bool true) ∧ Pls W w' xb N (M + 1) := by
  obtain ⟨F, sl, pl, F', ml, ql, σ, lv, mv, h1, hsl, hml, hP⟩ := h.is
  obtain ⟨ga, ca, gm, cm, rfl, rfl⟩ := plL_some h1 hN1
  have hlen : Hid (σ.hs.length = N) := Hid.mk' (by rw [← (h1.shs 0 rfl).len]; exact hsl)
  have cN := fun u => brg_any wh N u (by omega) (by omega) hwh.1 hwh.2
  have hk := brg_lt wh N (by omega)
  generalize brg wh N = k at *
  obtain ⟨sk, hsk⟩ : ∃ sk, sl[k]? = some sk := ⟨_, List.getElem?_eq_getElem (by omega)⟩
  obtain ⟨mk, hmk⟩ : ∃ mk, ml[k]? = some mk := ⟨_, List.getElem?_eq_getElem (by omega)⟩
  have HSL := Hid.mk' hsl
  have HML := Hid.mk' hml
  have HPI := Hid.mk' hP
  have HSK := Hid.mk' hsk
  have HMK := Hid.mk' hmk
  have H0 := Hid.mk' h1
  have hkc : (k : Int) < (N : Int) := by omega
  clear h h1 hsl hml hP hsk hmk
  go_enter Try.func9, Try.ntmps9
  go_wp2_with fail
  refine (hbr _).mono ?_
  rintro e w1 ⟨rfl, hw1⟩
  have H1 := do_start H0.out hw1
  unfold doC at H1
  clear hw1 H0
  generalize w.heap.size = db at *
  obtain ⟨-, e1, -, -, -, -, -⟩ := do_at H1.out
  obtain ⟨x0, -, -, -⟩ := both_at H1.out 3 rfl
  go_wp2_with fail
  go_quiet ((go_at_call 14; exact quiet_same4 (cN _)))
  have H3 := Hid.mk' (H1.out.dr' ⟨nq, rfl⟩)
  clear H1 e1 x0 cN
  generalize w1.drewN nq = w3 at *
  obtain ⟨x0, x1, -, -⟩ := both_at H3.out 3 rfl
  have hc1 := (H3.out.cellAt 4 rfl k (ptr sk) (by simp [HSK.out])).1
  unfold ptr at hc1
  obtain ⟨o, ho⟩ : ∃ o, σ.hs[k]? = some o := ⟨_, List.getElem?_eq_getElem (by rw [hlen.out]; exact hk)⟩
  have HO := Hid.mk' ho
  clear ho
  cases o with
  | none =>
    have HF : Hid (Pls W w3 xb N (M + 1)) := Pls.more ⟨F, sl, pl, F', ml, ql, σ, _, _, H3.out.tail, HSL.out, HML.out, HPI.out⟩ (Nat.le_succ M)
    have key1 := sown_bad _ 40 w3 (sh_bad (H3.out.shs 1 rfl) HSK.out HO.out)
    have key2 := rsown_gone mk w3 (rd_gone (H3.out.shs 2 rfl) HMK.out HO.out)
    have hc2 := (H3.out.cellAt 5 rfl k (ptr mk) (by simp [HMK.out])).1
    unfold ptr at hc2
    clear H3
    go_wp2_with fail
    refine key1.mono ?_
    rintro e w4 ⟨rfl, rfl⟩
    go_wp2_with fail
    refine key2.mono ?_
    rintro e w4 ⟨rfl, rfl⟩
    go_wp2_with fail
    go_ret
    exact ⟨rfl, HF.out⟩
  | some j =>
    obtain ⟨G, hG⟩ : ∃ G, σ.gs[j]? = some G := ⟨_, List.getElem?_eq_getElem ((H3.out.shs 1 rfl).rng HO.out)⟩
    have HG := Hid.mk' hG
    have hln : Hid (σ.hs.length ≤ 1000) := Hid.mk' (by rw [hlen.out]; omega)
    clear hG
    go_wp2_with fail
    refine (sh_own (H3.out.shs 1 rfl) HSK.out HO.out HG.out hln.out).mono ?_
    rintro e w4 ⟨p, pl', rfl, hp, hnx⟩
    obtain ⟨F4, h4⟩ := H3.out.next 1 rfl hnx
    have HP := Hid.mk' hp
    have H4 := Hid.mk' h4
    obtain ⟨-, x1', -, -⟩ := both_at (lv := .slice (some ⟨ga, 0, none⟩) N ca) (mv := .slice (some ⟨gm, 0, none⟩) N cm) H4.out 3 rfl
    have hc2 := (H4.out.cellAt (g := gm) (c := cm) (n := N) (xs := ml.map ptr) 5 rfl k (ptr mk) (by simp [HMK.out])).1
    unfold ptr at hc2
    clear hp hnx h4 H3 x0 x1 hc1
    go_wp2_with fail
    refine (rd_own (H4.out.shs 2 rfl) HMK.out HO.out HG.out hln.out).mono ?_
    rintro e w5 ⟨q, ql', rfl, hq, hnx⟩
    obtain ⟨F5, h5⟩ := H4.out.next 2 rfl hnx
    have HQ := Hid.mk' hq
    have HG1 : Hid ((σ.part k j G).gs[σ.pJ j]? = some (σ.pG j G)) := Hid.mk' (St.part_get HG.out)
    have HP1 : Hid (PInv (σ.part k j G) M) := Hid.mk' (part_pinv HPI.out)
    have H5 : Hid (Heap W w5 (cellsT db #[.int .i64 kd, .int .i64 wh, .int .i64 x, .int .i64 sz, .int .i64 n, .int .u64 v, .slice ba bl bc] 33 :: plL W F4 sl pl' F5 ml ql' (σ.part k j G) xb (.slice (some ⟨ga, 0, none⟩) N ca) (.slice (some ⟨gm, 0, none⟩) N cm) N)) := h5
    clear hq hnx h5 H4 x1' hc2 HG HO HPI hln hlen HSK HMK
    generalize σ.part k j G = σ1 at *
    generalize σ.pJ j = J at *
    generalize σ.pG j G = G1 at *
    have hm := HP1.out J G1 HG1.out
    obtain ⟨hra, hrd, hrb⟩ := sh_room (H5.out.shs 1 rfl) HG1.out
    go_wp2_with fail
    refine (sh_moves (H5.out.shs 1 rfl) HP.out HG1.out).mono ?_
    rintro e w6 ⟨rfl, rfl⟩
    go_wp2_with fail
    refine (rd_moves (H5.out.shs 2 rfl) HQ.out HG1.out).mono ?_
    rintro e w6 ⟨rfl, rfl⟩
    obtain ⟨nb, hnb⟩ : ∃ n, n = G1.B.length := ⟨_, rfl⟩
    obtain ⟨g, o, a, hFg, hoa, hdata, hput⟩ := sh_data (H5.out.shs 1 rfl) HP.out HG1.out
    rw [← hnb] at hoa hdata hput hrb
    have HPUT := Hid.mk' hput
    have HNB := Hid.mk' hnb.symm
    have key := hdata w5 (Dr.refl _)
    clear hput hdata hnb
    go_wp2_with fail
    refine key.mono ?_
    rintro e w6 ⟨rfl, d6⟩
    have D6 := Hid.mk' d6
    have H6 := Hid.mk' (H5.out.dr' d6)
    clear key d6
    obtain ⟨-, -, e2, -, -, e5, -⟩ := do_at H6.out
    obtain ⟨xq, cq, -, hq0, -⟩ := rd_data (H6.out.shs 2 rfl) HQ.out HG1.out
    rw [HNB.out] at hq0
    by_cases hin : 0 ≤ x ∧ x < (nb : Int)
    · obtain ⟨hx0, hx1⟩ := hin
      obtain ⟨y, rfl⟩ : ∃ y : Nat, x = y := ⟨x.toNat, by omega⟩
      have hy : y < nb := by omega
      obtain rfl : o = a := hoa (by omega)
      go_wp2_with fail
      go_quiet (fail)
      have D7 : Hid (Dr w5 (w6.drewN nq)) := Hid.mk' (D6.out.trans ⟨nq, rfl⟩)
      have H7 := Hid.mk' (H6.out.dr' (w' := w6.drewN nq) ⟨nq, rfl⟩)
      clear H6 D6 e2 e5 hq0
      generalize w6.drewN nq = w7 at *
      obtain ⟨-, -, e2, -, -, e5, -⟩ := do_at H7.out
      obtain ⟨c1, c2, hnx⟩ := HPUT.out y hy
      have c1' := (D7.out.cell _).trans c1
      have c2' := (D7.out.frozen _).trans c2
      have hnx := hnx (v % 256) w7 D7.out (by omega) (by omega)
      obtain ⟨F8, h8⟩ := H5.out.next 1 rfl hnx
      have h8' : Heap W (w7.setCell ⟨g, o + y, none⟩ (.int .u8 (v % 256))) (cellsT db #[.int .i64 kd, .int .i64 wh, .int .i64 (y : Int), .int .i64 sz, .int .i64 n, .int .u64 v, .slice ba bl bc] 33 :: [shT pgS F8 sl pl' (σ1.putG J ⟨G1.B.set y (v % 256), G1.a, G1.d, G1.m⟩), shT dcS F5 ml ql' σ1, cellsT xb #[.slice (some ⟨ga, 0, none⟩) N ca, .slice (some ⟨gm, 0, none⟩) N cm] 28, rowT W.heap.size 36 1 (.slice (some ⟨ga, 0, none⟩) N ca) N (sl.map ptr), rowT W.heap.size 60 1 (.slice (some ⟨gm, 0, none⟩) N cm) N (ml.map ptr)]) := h8
      obtain ⟨-, -, u2, -, -, u5, -⟩ := do_at h8'
      obtain ⟨xq2, cq2, -, uq, hqput⟩ := rd_data (h8'.shs 2 rfl) HQ.out HG1.out
      rw [HNB.out] at uq hqput
      obtain ⟨gq, hxq, -, hcq, v1', v2', hnx2⟩ := hqput y hy
      subst hxq
      have hnx2 := hnx2 (v % 256) _ (Dr.refl _) (by omega) (by omega)
      obtain ⟨F9, h9⟩ := h8'.next 2 rfl hnx2
      have HF : Hid (Pls W ((w7.setCell ⟨g, o + y, none⟩ (.int .u8 (v % 256))).setCell ⟨gq, y, none⟩ (.int .u8 (v % 256))) xb N (M + 1)) := ⟨F8, sl, pl', F9, ml, ql', _, _, _, Heap.tail h9, HSL.out, HML.out, put_pinv HP1.out (Nat.le_succ M) (by show G1.m ≤ M + 1; omega)⟩
      generalize G1.B.getD y 0 = z at c1 c1' v1'
      clear h8 h8' h9 hnx hnx2 c1 c2 H5 H7 HPUT HP HQ HG1 D7
      go_wp2_with fail
      clear c1' c2' e2 e5
      generalize w7.setCell ⟨g, o + y, none⟩ (.int .u8 (v % 256)) = w8 at *
      go_region_with (fail)
      all_goals
        go_wp2_with fail
        go_ret
        exact ⟨rfl, HF.out.dr ⟨1, rfl⟩⟩
    · have HF : Hid (Pls W w6 xb N (M + 1)) := Pls.more ⟨F4, sl, pl', F5, ml, ql', σ1, _, _, H6.out.tail, HSL.out, HML.out, HP1.out⟩ (Nat.le_succ M)
      clear H5 H6 HPUT HP HQ HG1 D6
      by_cases hx0 : 0 ≤ x
      · have hx1 : ¬ x < (nb : Int) := by omega
        have hd0 : decide (0 ≤ x) = true := by simp; omega
        have hd1 : decide (x < (nb : Int)) = false := by simp; omega
        go_wp2_with fail
        go_quiet (fail)
        have HF2 := Hid.mk' (HF.out.dr (w' := w6.drewN nq) ⟨nq, rfl⟩)
        go_wp2_with fail
        go_ret
        exact ⟨rfl, HF2.out⟩
      · have hd0 : decide (0 ≤ x) = false := by simp; omega
        go_wp2_with fail
        go_quiet (fail)
        have HF2 := Hid.mk' (HF.out.dr (w' := w6.drewN nq) ⟨nq, rfl⟩)
        go_wp2_with fail
        go_ret
        exact ⟨rfl, HF2.out⟩
end Go.Proofs.Ytbinedhgjmfceaa
