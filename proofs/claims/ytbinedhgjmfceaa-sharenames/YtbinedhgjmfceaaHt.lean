/- The contract of the statements' own 'one': Load, Store, New. -/
import Derived.Test.YtbinedhgjmfceaaHs
namespace Go.Proofs.Ytbinedhgjmfceaa
open Go.ChangeShapes Go.WideShapes Go.ChangeAt Go.RowKit

set_option maxHeartbeats 4000000 in
set_option maxRecDepth 100000 in
theorem one_load (W w : World) (xb N M : Nat) (kd wh x sz n v : Int) (ba : Option Addr) (bl bc : Nat) (h : Pls W w xb N M) (hN1 : 1 ≤ N) (hN : N ≤ 12) (hwh : -9223372036854775808 ≤ wh ∧ wh ≤ 9223372036854775807) (hx : -9223372036854775808 ≤ x ∧ x ≤ 9223372036854775807)
    (hbr : ∀ u : World, Calls Try.prog 14 #[.int .i64 kd, .int .i64 8] u fun e w' => e = .returned (.int .i64 2) ∧ u = w') :
    Calls Try.prog 8 #[.pointer (some ⟨xb, 0, none⟩), .agg #[.int .i64 kd, .int .i64 wh, .int .i64 x, .int .i64 sz, .int .i64 n, .int .u64 v, .slice ba bl bc]] w fun e w' => e = .returned (.bool true) ∧ One W w' xb N M := by
  obtain ⟨F, sl, pl, F', ml, ql, σ, lv, mv, h1, hsl, hml, hP⟩ := h.is
  obtain ⟨ga, ca, gm, cm, rfl, rfl⟩ := plL_some h1 hN1
  have hlen : Hid (σ.hs.length = N) := Hid.mk' (by rw [← (h1.shs 0 rfl).len]; exact hsl)
  have cN := fun u => brg_any wh N u (by omega) (by omega) hwh.1 hwh.2
  have hk := brg_lt wh N (by omega)
  generalize brg wh N = k at *
  obtain ⟨sk, hsk⟩ : ∃ sk, sl[k]? = some sk := ⟨_, List.getElem?_eq_getElem (by omega)⟩
  obtain ⟨mk, hmk⟩ : ∃ mk, ml[k]? = some mk := ⟨_, List.getElem?_eq_getElem (by omega)⟩
  have HSL := Hid.mk' hsl
  have HML := Hid.mk' hml
  have HPI := Hid.mk' hP
  have HSK := Hid.mk' hsk
  have HMK := Hid.mk' hmk
  have H0 := Hid.mk' h1
  have hkc : (k : Int) < (N : Int) := by omega
  clear h h1 hsl hml hP hsk hmk
  go_enter Try.func8, Try.ntmps8
  go_wp2_with fail
  generalize hw1 : w.alloc (.cells #[.int .i64 kd, .int .i64 wh, .int .i64 x, .int .i64 sz, .int .i64 n, .int .u64 v, .slice ba bl bc] 33) = w1 at *
  have H1 := do_start H0.out hw1
  unfold doC at H1
  clear hw1 H0
  generalize w.heap.size = db at *
  obtain ⟨-, e1, -, -, -, -, -⟩ := do_at H1.out
  obtain ⟨x0, -, -, -⟩ := both_at H1.out 3 rfl
  go_quiet ((go_at_call 14; exact quiet_same4 (cN _)))
  have H2 := Hid.mk' (H1.out.dr' ⟨nq, rfl⟩)
  clear H1 e1 x0 cN
  generalize w1.drewN nq = w2 at *
  obtain ⟨x0, x1, -, -⟩ := both_at H2.out 3 rfl
  have hc1 := (H2.out.cellAt 4 rfl k (ptr sk) (by simp [HSK.out])).1
  have hc2 := (H2.out.cellAt 5 rfl k (ptr mk) (by simp [HMK.out])).1
  unfold ptr at hc1 hc2
  go_wp2_with fail
  go_quiet (fail)
  have H3 := Hid.mk' (H2.out.dr' ⟨nq, rfl⟩)
  clear H2 x0 x1 hc1 hc2
  generalize w2.drewN nq = w3 at *
  obtain ⟨e0, e1, e2, e3, e4, e5, e6⟩ := do_at H3.out
  go_wp2_with fail
  refine (hbr w3).mono ?_
  rintro e w4 ⟨rfl, rfl⟩
  obtain ⟨o, ho⟩ : ∃ o, σ.hs[k]? = some o := ⟨_, List.getElem?_eq_getElem (by rw [hlen.out]; exact hk)⟩
  have HO := Hid.mk' ho
  clear ho
  cases o with
  | none =>
    have HF : Hid (One W w3 xb N M) := ⟨N, Nat.le_refl _, hN, ⟨F, sl, pl, F', ml, ql, σ, _, _, H3.out.tail, HSL.out, HML.out, HPI.out⟩⟩
    have key1 := sload_bad _ 40 x sz w3 (sh_bad (H3.out.shs 1 rfl) HSK.out HO.out)
    have key2 := rsload_gone mk x sz w3 (rd_gone (H3.out.shs 2 rfl) HMK.out HO.out)
    clear H3
    go_wp2_with fail
    refine key1.mono ?_
    rintro e w4 ⟨rfl, rfl⟩
    go_wp2_with fail
    refine key2.mono ?_
    rintro e w4 ⟨rfl, rfl⟩
    go_wp2_with fail
    go_ret
    exact ⟨rfl, HF.out⟩
  | some j =>
    obtain ⟨G, hG⟩ : ∃ G, σ.gs[j]? = some G := ⟨_, List.getElem?_eq_getElem ((H3.out.shs 1 rfl).rng HO.out)⟩
    have HG := Hid.mk' hG
    clear hG
    have key1 := sh_load x sz (H3.out.shs 1 rfl) HSK.out HO.out HG.out hx.1 hx.2
    have key2 := fun u (h : Shs dcS u F' ml ql σ) => rd_load x sz h HMK.out HO.out HG.out
    generalize ldE G.B x sz = V at *
    generalize askE G.B.length x sz = E at *
    go_wp2_with fail
    refine key1.mono ?_
    rintro e w4 ⟨rfl, d4⟩
    have H4 := Hid.mk' (H3.out.dr' d4)
    clear key1 d4 H3 e0 e1 e2 e3 e4 e5 e6
    obtain ⟨e0, e1, e2, e3, e4, e5, e6⟩ := do_at H4.out
    go_wp2_with fail
    refine (key2 w4 (H4.out.shs 2 rfl)).mono ?_
    rintro e w5 ⟨rfl, d5⟩
    have HF : Hid (One W w5 xb N M) := ⟨N, Nat.le_refl _, hN, ⟨F, sl, pl, F', ml, ql, σ, _, _, (H4.out.dr' d5).tail, HSL.out, HML.out, HPI.out⟩⟩
    clear key2 d5 H4 e0 e1 e2 e3 e4 e5 e6
    go_wp2_with fail
    go_ret
    exact ⟨by simp, HF.out⟩

set_option maxHeartbeats 4000000 in
set_option maxRecDepth 100000 in
theorem one_store (W w : World) (xb N M : Nat) (kd wh x sz n v : Int) (ba : Option Addr) (bl bc : Nat) (h : Pls W w xb N M) (hN1 : 1 ≤ N) (hN : N ≤ 12) (hwh : -9223372036854775808 ≤ wh ∧ wh ≤ 9223372036854775807) (hx : -9223372036854775808 ≤ x ∧ x ≤ 9223372036854775807) (v0 : 0 ≤ v) (v1 : v ≤ 18446744073709551615)
    (hbr : ∀ u : World, Calls Try.prog 14 #[.int .i64 kd, .int .i64 8] u fun e w' => e = .returned (.int .i64 3) ∧ u = w') :
    Calls Try.prog 8 #[.pointer (some ⟨xb, 0, none⟩), .agg #[.int .i64 kd, .int .i64 wh, .int .i64 x, .int .i64 sz, .int .i64 n, .int .u64 v, .slice ba bl bc]] w fun e w' => e = .returned (.bool true) ∧ One W w' xb N M := by
  obtain ⟨F, sl, pl, F', ml, ql, σ, lv, mv, h1, hsl, hml, hP⟩ := h.is
  obtain ⟨ga, ca, gm, cm, rfl, rfl⟩ := plL_some h1 hN1
  have hlen : Hid (σ.hs.length = N) := Hid.mk' (by rw [← (h1.shs 0 rfl).len]; exact hsl)
  have cN := fun u => brg_any wh N u (by omega) (by omega) hwh.1 hwh.2
  have hk := brg_lt wh N (by omega)
  generalize brg wh N = k at *
  obtain ⟨sk, hsk⟩ : ∃ sk, sl[k]? = some sk := ⟨_, List.getElem?_eq_getElem (by omega)⟩
  obtain ⟨mk, hmk⟩ : ∃ mk, ml[k]? = some mk := ⟨_, List.getElem?_eq_getElem (by omega)⟩
  have HSL := Hid.mk' hsl
  have HML := Hid.mk' hml
  have HPI := Hid.mk' hP
  have HSK := Hid.mk' hsk
  have HMK := Hid.mk' hmk
  have H0 := Hid.mk' h1
  have hkc : (k : Int) < (N : Int) := by omega
  clear h h1 hsl hml hP hsk hmk
  go_enter Try.func8, Try.ntmps8
  go_wp2_with fail
  generalize hw1 : w.alloc (.cells #[.int .i64 kd, .int .i64 wh, .int .i64 x, .int .i64 sz, .int .i64 n, .int .u64 v, .slice ba bl bc] 33) = w1 at *
  have H1 := do_start H0.out hw1
  unfold doC at H1
  clear hw1 H0
  generalize w.heap.size = db at *
  obtain ⟨-, e1, -, -, -, -, -⟩ := do_at H1.out
  obtain ⟨x0, -, -, -⟩ := both_at H1.out 3 rfl
  go_quiet ((go_at_call 14; exact quiet_same4 (cN _)))
  have H2 := Hid.mk' (H1.out.dr' ⟨nq, rfl⟩)
  clear H1 e1 x0 cN
  generalize w1.drewN nq = w2 at *
  obtain ⟨x0, x1, -, -⟩ := both_at H2.out 3 rfl
  have hc1 := (H2.out.cellAt 4 rfl k (ptr sk) (by simp [HSK.out])).1
  have hc2 := (H2.out.cellAt 5 rfl k (ptr mk) (by simp [HMK.out])).1
  unfold ptr at hc1 hc2
  go_wp2_with fail
  go_quiet (fail)
  have H3 := Hid.mk' (H2.out.dr' ⟨nq, rfl⟩)
  clear H2 x0 x1 hc1 hc2
  generalize w2.drewN nq = w3 at *
  obtain ⟨e0, e1, e2, e3, e4, e5, e6⟩ := do_at H3.out
  go_wp2_with fail
  refine (hbr w3).mono ?_
  rintro e w4 ⟨rfl, rfl⟩
  obtain ⟨o, ho⟩ : ∃ o, σ.hs[k]? = some o := ⟨_, List.getElem?_eq_getElem (by rw [hlen.out]; exact hk)⟩
  have HO := Hid.mk' ho
  clear ho
  clear e0 e1 e4 e6
  cases o with
  | none =>
    have HF : Hid (One W w3.drew xb N M) := One.dr (w := w3) ⟨N, Nat.le_refl _, hN, ⟨F, sl, pl, F', ml, ql, σ, _, _, H3.out.tail, HSL.out, HML.out, HPI.out⟩⟩ ⟨1, rfl⟩
    have H4 := Hid.mk' (H3.out.below ((Below.refl _ _).drew))
    have KEY1 := Hid.mk' (sstore_bad _ 40 x sz v w3.drew (sh_bad (H4.out.shs 1 rfl) HSK.out HO.out))
    have KEY2 := Hid.mk' (rsstore_gone mk x sz v w3.drew (rd_gone (H4.out.shs 2 rfl) HMK.out HO.out))
    obtain ⟨-, -, t2, t3, -, t5, -⟩ := do_at H4.out
    clear H3 H4
    go_wp2_with fail
    go_region_held3 (fun w' => w'.cell? ⟨db, 2, none⟩ = some (.int .i64 x) ∧ w'.cell? ⟨db, 3, none⟩ = some (.int .i64 sz) ∧ w'.cell? ⟨db, 5, none⟩ = some (.int .u64 v)) (go_keep) (first | (go_at_call 20; refine KEY1.out.mono ?_; rintro e w4 ⟨rfl, rfl⟩) | (go_at_call 29; refine KEY2.out.mono ?_; rintro e w4 ⟨rfl, rfl⟩))
    all_goals
      go_wp2_with fail
      go_ret
      exact ⟨rfl, HF.out⟩
  | some j =>
    obtain ⟨G, hG⟩ : ∃ G, σ.gs[j]? = some G := ⟨_, List.getElem?_eq_getElem ((H3.out.shs 1 rfl).rng HO.out)⟩
    have HG := Hid.mk' hG
    clear hG
    have hln : Hid (σ.hs.length ≤ 1000) := Hid.mk' (by rw [hlen.out]; omega)
    have H4 := Hid.mk' (H3.out.below ((Below.refl _ _).drew))
    have KEY1 := Hid.mk' (sh_store x sz v (H4.out.shs 1 rfl) HSK.out HO.out HG.out hln.out hx.1 hx.2 v0 v1)
    have KEY2 := Hid.mk' (fun (u : World) (FF : Nat → Prop) (h : Shs dcS u FF ml ql σ) => rd_store x sz v h HMK.out HO.out HG.out hln.out v0 v1)
    have HST := Hid.mk' (store_pinv (k := k) (x := x) (sz := sz) (v := v) HPI.out HG.out)
    generalize σ.store k j G x sz v = σ' at *
    generalize askE G.B.length x sz = E at *
    clear H3
    go_wp2_with fail
    go_region_held3 (fun w' => w'.cell? ⟨db, 2, none⟩ = some (.int .i64 x) ∧ w'.cell? ⟨db, 3, none⟩ = some (.int .i64 sz) ∧ w'.cell? ⟨db, 5, none⟩ = some (.int .u64 v)) (go_keep) (first | (go_at_call 20; refine KEY1.out.mono ?_; rintro e w4 ⟨rfl, pl4, hnx⟩; obtain ⟨F4, h4⟩ := H4.out.next 1 rfl hnx; have H5 := Hid.mk' h4; obtain ⟨-, -, t2, t3, -, t5, -⟩ := do_at (L := [_, _, _, _, _]) h4; clear h4 hnx) | (go_at_call 29; refine (KEY2.out w4 _ (H5.out.shs 2 rfl)).mono ?_; rintro e w5 ⟨rfl, ql5, hnx⟩; obtain ⟨F5, h5⟩ := H5.out.next 2 rfl hnx; have H6 := Hid.mk' h5; obtain ⟨-, -, u2, u3, -, u5, -⟩ := do_at (L := [_, _, _, _, _]) h5; clear h5 hnx))
    all_goals
      have HF : Hid (One W w5 xb N M) := ⟨N, Nat.le_refl _, hN, ⟨F4, sl, pl4, F5, ml, ql5, σ', _, _, Heap.tail H6.out, HSL.out, HML.out, HST.out⟩⟩
      clear H4 H5 H6
      go_wp2_with fail
      go_ret
      exact ⟨by simp, HF.out⟩

set_option maxHeartbeats 4000000 in
set_option maxRecDepth 100000 in
theorem one_fresh (W w : World) (xb N M : Nat) (kd wh x sz n v : Int) (ba : Option Addr) (bl bc : Nat) (h : Pls W w xb N M) (hN1 : 1 ≤ N) (hN : N ≤ 12) (hwh : -9223372036854775808 ≤ wh ∧ wh ≤ 9223372036854775807) (ys : List Int) (hy : ys.length = bl) (hB : Bs W ba ys) (hb : ba = none → bc = 0) (hbl : bl ≤ 140737488351232)
    (hbr : ∀ u : World, Calls Try.prog 14 #[.int .i64 kd, .int .i64 8] u fun e w' => e = .returned (.int .i64 7) ∧ u = w') :
    Calls Try.prog 8 #[.pointer (some ⟨xb, 0, none⟩), .agg #[.int .i64 kd, .int .i64 wh, .int .i64 x, .int .i64 sz, .int .i64 n, .int .u64 v, .slice ba bl bc]] w fun e w' => e = .returned (.bool true) ∧ One W w' xb N M := by
  obtain ⟨F, sl, pl, F', ml, ql, σ, lv, mv, h1, hsl, hml, hP⟩ := h.is
  obtain ⟨ga, ca, gm, cm, rfl, rfl⟩ := plL_some h1 hN1
  have hlen : Hid (σ.hs.length = N) := Hid.mk' (by rw [← (h1.shs 0 rfl).len]; exact hsl)
  have cN := fun u => brg_any wh N u (by omega) (by omega) hwh.1 hwh.2
  have hk := brg_lt wh N (by omega)
  generalize brg wh N = k at *
  obtain ⟨sk, hsk⟩ : ∃ sk, sl[k]? = some sk := ⟨_, List.getElem?_eq_getElem (by omega)⟩
  obtain ⟨mk, hmk⟩ : ∃ mk, ml[k]? = some mk := ⟨_, List.getElem?_eq_getElem (by omega)⟩
  have HSL := Hid.mk' hsl
  have HML := Hid.mk' hml
  have HPI := Hid.mk' hP
  have HSK := Hid.mk' hsk
  have HMK := Hid.mk' hmk
  have H0 := Hid.mk' h1
  have hkc : (k : Int) < (N : Int) := by omega
  clear h h1 hsl hml hP hsk hmk
  go_enter Try.func8, Try.ntmps8
  go_wp2_with fail
  generalize hw1 : w.alloc (.cells #[.int .i64 kd, .int .i64 wh, .int .i64 x, .int .i64 sz, .int .i64 n, .int .u64 v, .slice ba bl bc] 33) = w1 at *
  have H1 := do_start H0.out hw1
  unfold doC at H1
  clear hw1 H0
  generalize w.heap.size = db at *
  obtain ⟨-, e1, -, -, -, -, -⟩ := do_at H1.out
  obtain ⟨x0, -, -, -⟩ := both_at H1.out 3 rfl
  go_quiet ((go_at_call 14; exact quiet_same4 (cN _)))
  have H2 := Hid.mk' (H1.out.dr' ⟨nq, rfl⟩)
  clear H1 e1 x0 cN
  generalize w1.drewN nq = w2 at *
  obtain ⟨x0, x1, -, -⟩ := both_at H2.out 3 rfl
  have hc1 := (H2.out.cellAt 4 rfl k (ptr sk) (by simp [HSK.out])).1
  have hc2 := (H2.out.cellAt 5 rfl k (ptr mk) (by simp [HMK.out])).1
  unfold ptr at hc1 hc2
  go_wp2_with fail
  go_quiet (fail)
  have H3 := Hid.mk' (H2.out.dr' ⟨nq, rfl⟩)
  clear H2 x0 x1 hc1 hc2
  generalize w2.drewN nq = w3 at *
  obtain ⟨e0, e1, e2, e3, e4, e5, e6⟩ := do_at H3.out
  go_wp2_with fail
  refine (hbr w3).mono ?_
  rintro e w4 ⟨rfl, rfl⟩
  have HP : Hid (Pls W w3 xb N M) := ⟨F, sl, pl, F', ml, ql, σ, _, _, H3.out.tail, HSL.out, HML.out, HPI.out⟩
  have key := fresh_any W w3 xb N M ba bl bc ys HP.out hN hy hB hb hbl
  clear H3 HP hy hB hb
  go_wp2_with fail
  refine key.mono ?_
  rintro e w4 ⟨rfl, hh⟩
  have HF : Hid (One W w4 xb N M) := hh
  clear key hh
  go_wp2_with fail
  go_ret
  exact ⟨rfl, HF.out⟩
end Go.Proofs.Ytbinedhgjmfceaa
