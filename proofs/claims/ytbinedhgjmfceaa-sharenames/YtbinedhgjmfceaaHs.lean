/- The contract of the statements' own 'one': what is skipped, Free. -/
import Derived.Test.YtbinedhgjmfceaaHr
namespace Go.Proofs.Ytbinedhgjmfceaa
open Go.ChangeShapes Go.WideShapes Go.ChangeAt Go.RowKit

theorem quiet_same4 {P : Program} {f : FuncId} {args : Array Value} {w : World} {n : Nat} {v : Value}
    (h : Calls P f args (w.drewN n) fun e w' => e = .returned v ∧ w.drewN n = w') : Calls P f args (w.drewN n) fun e w'' => e = .returned v ∧ ∃ m, w'' = w.drewN m :=
  h.mono fun _ _ ⟨he, hm⟩ => ⟨he, n, hm.symm⟩

theorem do_start {W w w1 : World} {L : List Thing} {kd wh x sz n v : Int} {ba : Option Addr} {bl bc : Nat} (h : Heap W w L) (hw : w.alloc (.cells (doC kd wh x sz n v ba bl bc) 33) = w1) :
    Hid (Heap W w1 (cellsT w.heap.size (doC kd wh x sz n v ba bl bc) 33 :: L)) := by
  subst hw
  refine h.add ((Below.refl _ _).alloc (Nat.le_refl _) _) _ (Go.heap_alloc_new w _) (fun k hk => ?_)
  have hk : k = w.heap.size := hk
  omega

/-- Both slices have elements. -/
theorem plL_some {W w : World} {F : Nat → Prop} {sl pl : List Nat} {F' : Nat → Prop} {ml ql : List Nat} {σ : St} {xb : Nat} {lv mv : Value} {N : Nat} (h : Heap W w (plL W F sl pl F' ml ql σ xb lv mv N)) (hN : 1 ≤ N) : ∃ ga ca gm cm, lv = .slice (some ⟨ga, 0, none⟩) N ca ∧ mv = .slice (some ⟨gm, 0, none⟩) N cm := by
  obtain ⟨ga, ca, e1, _⟩ := own_some (show w.ownsRow W.heap.size 36 1 lv N (sl.map ptr) from h.get (i := 3) rfl) (by omega)
  obtain ⟨gm, cm, e2, _⟩ := own_some (show w.ownsRow W.heap.size 60 1 mv N (ml.map ptr) from h.get (i := 4) rfl) (by omega)
  exact ⟨ga, ca, gm, cm, e1, e2⟩

/-- What 'one' leaves. -/
def One (W w' : World) (xb N M : Nat) : Prop := ∃ N', N ≤ N' ∧ N' ≤ 12 ∧ Pls W w' xb N' M
theorem One.dr {W w w' : World} {xb N M : Nat} (h : One W w xb N M) (d : Dr w w') : One W w' xb N M := by
  obtain ⟨N', h1, h2, h3⟩ := h
  exact ⟨N', h1, h2, h3.dr d⟩

theorem store_pinv {σ : St} {M k j : Nat} {G : Gr} {x sz v : Int} (h : PInv σ M) (hG : σ.gs[j]? = some G) : PInv (σ.store k j G x sz v) M := by
  have hGm := h j G hG
  have hpm : (σ.pG j G).m ≤ M := by
    unfold St.pG; split
    · exact hGm
    · exact Nat.zero_le _
  intro j' G' e
  unfold St.store at e
  split at e
  · rcases set_get e with ⟨_, rfl⟩ | ⟨_, e⟩
    · exact hpm
    · unfold St.part at e
      split at e
      · exact h j' G' e
      · rcases snoc_get e with e | ⟨_, rfl⟩
        · exact h j' G' e
        · exact Nat.zero_le _
  · exact h j' G' e

set_option maxHeartbeats 4000000 in
set_option maxRecDepth 100000 in
theorem one_skip (W w : World) (xb N M : Nat) (kd wh x sz n v : Int) (ba : Option Addr) (bl bc : Nat) (h : Pls W w xb N M) (hN1 : 1 ≤ N) (hN : N ≤ 12) (hwh : -9223372036854775808 ≤ wh ∧ wh ≤ 9223372036854775807) (r : Nat) (hr : r = 4 ∨ r = 5 ∨ r = 6)
    (hbr : ∀ u : World, Calls Try.prog 14 #[.int .i64 kd, .int .i64 8] u fun e w' => e = .returned (.int .i64 r) ∧ u = w') :
    Calls Try.prog 8 #[.pointer (some ⟨xb, 0, none⟩), .agg #[.int .i64 kd, .int .i64 wh, .int .i64 x, .int .i64 sz, .int .i64 n, .int .u64 v, .slice ba bl bc]] w fun e w' => e = .returned (.bool true) ∧ One W w' xb N M := by
  obtain ⟨F, sl, pl, F', ml, ql, σ, lv, mv, h1, hsl, hml, hP⟩ := h.is
  obtain ⟨ga, ca, gm, cm, rfl, rfl⟩ := plL_some h1 hN1
  have hlen : Hid (σ.hs.length = N) := Hid.mk' (by rw [← (h1.shs 0 rfl).len]; exact hsl)
  have cN := fun u => brg_any wh N u (by omega) (by omega) hwh.1 hwh.2
  have hk := brg_lt wh N (by omega)
  generalize brg wh N = k at *
  obtain ⟨sk, hsk⟩ : ∃ sk, sl[k]? = some sk := ⟨_, List.getElem?_eq_getElem (by omega)⟩
  obtain ⟨mk, hmk⟩ : ∃ mk, ml[k]? = some mk := ⟨_, List.getElem?_eq_getElem (by omega)⟩
  have HSL := Hid.mk' hsl
  have HML := Hid.mk' hml
  have HPI := Hid.mk' hP
  have HSK := Hid.mk' hsk
  have HMK := Hid.mk' hmk
  have H0 := Hid.mk' h1
  have hkc : (k : Int) < (N : Int) := by omega
  clear h h1 hsl hml hP hsk hmk
  go_enter Try.func8, Try.ntmps8
  go_wp2_with fail
  generalize hw1 : w.alloc (.cells #[.int .i64 kd, .int .i64 wh, .int .i64 x, .int .i64 sz, .int .i64 n, .int .u64 v, .slice ba bl bc] 33) = w1 at *
  have H1 := do_start H0.out hw1
  unfold doC at H1
  clear hw1 H0
  generalize w.heap.size = db at *
  obtain ⟨-, e1, -, -, -, -, -⟩ := do_at H1.out
  obtain ⟨x0, -, -, -⟩ := both_at H1.out 3 rfl
  go_quiet ((go_at_call 14; exact quiet_same4 (cN _)))
  have H2 := Hid.mk' (H1.out.dr' ⟨nq, rfl⟩)
  clear H1 e1 x0 cN
  generalize w1.drewN nq = w2 at *
  obtain ⟨x0, x1, -, -⟩ := both_at H2.out 3 rfl
  have hc1 := (H2.out.cellAt 4 rfl k (ptr sk) (by simp [HSK.out])).1
  have hc2 := (H2.out.cellAt 5 rfl k (ptr mk) (by simp [HMK.out])).1
  unfold ptr at hc1 hc2
  go_wp2_with fail
  go_quiet (fail)
  have H3 := Hid.mk' (H2.out.dr' ⟨nq, rfl⟩)
  clear H2 x0 x1 hc1 hc2
  generalize w2.drewN nq = w3 at *
  obtain ⟨e0, e1, e2, e3, e4, e5, e6⟩ := do_at H3.out
  go_wp2_with fail
  refine (hbr w3).mono ?_
  rintro e w4 ⟨rfl, rfl⟩
  have HF : Hid (One W w3 xb N M) := ⟨N, Nat.le_refl _, hN, ⟨F, sl, pl, F', ml, ql, σ, _, _, H3.out.tail, HSL.out, HML.out, HPI.out⟩⟩
  clear H3
  rcases hr with rfl | rfl | rfl
  all_goals
    go_wp2_with fail
    go_ret
    exact ⟨rfl, HF.out⟩

set_option maxHeartbeats 4000000 in
set_option maxRecDepth 100000 in
theorem one_free (W w : World) (xb N M : Nat) (kd wh x sz n v : Int) (ba : Option Addr) (bl bc : Nat) (h : Pls W w xb N M) (hN1 : 1 ≤ N) (hN : N ≤ 12) (hwh : -9223372036854775808 ≤ wh ∧ wh ≤ 9223372036854775807)
    (hbr : ∀ u : World, Calls Try.prog 14 #[.int .i64 kd, .int .i64 8] u fun e w' => e = .returned (.int .i64 1) ∧ u = w') :
    Calls Try.prog 8 #[.pointer (some ⟨xb, 0, none⟩), .agg #[.int .i64 kd, .int .i64 wh, .int .i64 x, .int .i64 sz, .int .i64 n, .int .u64 v, .slice ba bl bc]] w fun e w' => e = .returned (.bool true) ∧ One W w' xb N M := by
  obtain ⟨F, sl, pl, F', ml, ql, σ, lv, mv, h1, hsl, hml, hP⟩ := h.is
  obtain ⟨ga, ca, gm, cm, rfl, rfl⟩ := plL_some h1 hN1
  have hlen : Hid (σ.hs.length = N) := Hid.mk' (by rw [← (h1.shs 0 rfl).len]; exact hsl)
  have cN := fun u => brg_any wh N u (by omega) (by omega) hwh.1 hwh.2
  have hk := brg_lt wh N (by omega)
  generalize brg wh N = k at *
  obtain ⟨sk, hsk⟩ : ∃ sk, sl[k]? = some sk := ⟨_, List.getElem?_eq_getElem (by omega)⟩
  obtain ⟨mk, hmk⟩ : ∃ mk, ml[k]? = some mk := ⟨_, List.getElem?_eq_getElem (by omega)⟩
  have HSL := Hid.mk' hsl
  have HML := Hid.mk' hml
  have HPI := Hid.mk' hP
  have HSK := Hid.mk' hsk
  have HMK := Hid.mk' hmk
  have H0 := Hid.mk' h1
  have hkc : (k : Int) < (N : Int) := by omega
  clear h h1 hsl hml hP hsk hmk
  go_enter Try.func8, Try.ntmps8
  go_wp2_with fail
  generalize hw1 : w.alloc (.cells #[.int .i64 kd, .int .i64 wh, .int .i64 x, .int .i64 sz, .int .i64 n, .int .u64 v, .slice ba bl bc] 33) = w1 at *
  have H1 := do_start H0.out hw1
  unfold doC at H1
  clear hw1 H0
  generalize w.heap.size = db at *
  obtain ⟨-, e1, -, -, -, -, -⟩ := do_at H1.out
  obtain ⟨x0, -, -, -⟩ := both_at H1.out 3 rfl
  go_quiet ((go_at_call 14; exact quiet_same4 (cN _)))
  have H2 := Hid.mk' (H1.out.dr' ⟨nq, rfl⟩)
  clear H1 e1 x0 cN
  generalize w1.drewN nq = w2 at *
  obtain ⟨x0, x1, -, -⟩ := both_at H2.out 3 rfl
  have hc1 := (H2.out.cellAt 4 rfl k (ptr sk) (by simp [HSK.out])).1
  have hc2 := (H2.out.cellAt 5 rfl k (ptr mk) (by simp [HMK.out])).1
  unfold ptr at hc1 hc2
  go_wp2_with fail
  go_quiet (fail)
  have H3 := Hid.mk' (H2.out.dr' ⟨nq, rfl⟩)
  clear H2 x0 x1 hc1 hc2
  generalize w2.drewN nq = w3 at *
  obtain ⟨e0, e1, e2, e3, e4, e5, e6⟩ := do_at H3.out
  go_wp2_with fail
  refine (hbr w3).mono ?_
  rintro e w4 ⟨rfl, rfl⟩
  obtain ⟨o, ho⟩ : ∃ o, σ.hs[k]? = some o := ⟨_, List.getElem?_eq_getElem (by rw [hlen.out]; exact hk)⟩
  have HO := Hid.mk' ho
  clear ho
  cases o with
  | none =>
    have HF : Hid (One W w3 xb N M) := ⟨N, Nat.le_refl _, hN, ⟨F, sl, pl, F', ml, ql, σ, _, _, H3.out.tail, HSL.out, HML.out, HPI.out⟩⟩
    have key1 := free_bad _ 40 w3 (sh_bad (H3.out.shs 1 rfl) HSK.out HO.out)
    have key2 := rfree_gone mk w3 (rd_gone (H3.out.shs 2 rfl) HMK.out HO.out)
    clear H3
    go_wp2_with fail
    refine key1.mono ?_
    rintro e w4 ⟨rfl, rfl⟩
    go_wp2_with fail
    refine key2.mono ?_
    rintro e w4 ⟨rfl, rfl⟩
    go_wp2_with fail
    go_ret
    exact ⟨rfl, HF.out⟩
  | some j =>
    have key1 := sh_free (H3.out.shs 1 rfl) HSK.out HO.out (by rw [hlen.out]; omega)
    go_wp2_with fail
    refine key1.mono ?_
    rintro e w4 ⟨rfl, hnx⟩
    obtain ⟨F4, h4⟩ := H3.out.next 1 rfl hnx
    have H4 := Hid.mk' h4
    clear key1 hnx h4 H3 e0 e1 e2 e3 e4 e5 e6
    go_wp2_with fail
    refine (rd_free (H4.out.shs 2 rfl) HMK.out HO.out (by rw [hlen.out]; omega)).mono ?_
    rintro e w5 ⟨rfl, hnx⟩
    obtain ⟨F5, h5⟩ := H4.out.next 2 rfl hnx
    have HF : Hid (One W w5 xb N M) := ⟨N, Nat.le_refl _, hN, ⟨F4, sl, pl, F5, ml, ql, ⟨σ.hs.set k none, σ.gs⟩, _, _, Heap.tail h5, HSL.out, HML.out, HPI.out⟩⟩
    clear hnx h5 H4
    go_wp2_with fail
    go_ret
    exact ⟨rfl, HF.out⟩
end Go.Proofs.Ytbinedhgjmfceaa
