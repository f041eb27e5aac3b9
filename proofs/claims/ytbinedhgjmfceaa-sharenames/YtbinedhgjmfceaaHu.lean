/- The contract of the statements' own 'one': Clone. -/
import Derived.Test.YtbinedhgjmfceaaHt
namespace Go.Proofs.Ytbinedhgjmfceaa
open Go.ChangeShapes Go.WideShapes Go.ChangeAt Go.RowKit

set_option maxHeartbeats 4000000 in
set_option maxRecDepth 100000 in
theorem one_clone (W w : World) (xb N M : Nat) (kd wh x sz n v : Int) (ba : Option Addr) (bl bc : Nat) (h : Pls W w xb N M) (hN1 : 1 ≤ N) (hN : N ≤ 12) (hwh : -9223372036854775808 ≤ wh ∧ wh ≤ 9223372036854775807)
    (hbr : ∀ u : World, Calls Try.prog 14 #[.int .i64 kd, .int .i64 8] u fun e w' => e = .returned (.int .i64 0) ∧ u = w') :
    Calls Try.prog 8 #[.pointer (some ⟨xb, 0, none⟩), .agg #[.int .i64 kd, .int .i64 wh, .int .i64 x, .int .i64 sz, .int .i64 n, .int .u64 v, .slice ba bl bc]] w fun e w' => e = .returned (.bool true) ∧ One W w' xb N M := by
  obtain ⟨F, sl, pl, F', ml, ql, σ, lv, mv, h1, hsl, hml, hP⟩ := h.is
  obtain ⟨ga, ca, gm, cm, rfl, rfl⟩ := plL_some h1 hN1
  have hlen : Hid (σ.hs.length = N) := Hid.mk' (by rw [← (h1.shs 0 rfl).len]; exact hsl)
  have cN := fun u => brg_any wh N u (by omega) (by omega) hwh.1 hwh.2
  have hk := brg_lt wh N (by omega)
  generalize brg wh N = k at *
  obtain ⟨sk, hsk⟩ : ∃ sk, sl[k]? = some sk := ⟨_, List.getElem?_eq_getElem (by omega)⟩
  obtain ⟨mk, hmk⟩ : ∃ mk, ml[k]? = some mk := ⟨_, List.getElem?_eq_getElem (by omega)⟩
  have HSL := Hid.mk' hsl
  have HML := Hid.mk' hml
  have HPI := Hid.mk' hP
  have HSK := Hid.mk' hsk
  have HMK := Hid.mk' hmk
  have H0 := Hid.mk' h1
  have hkc : (k : Int) < (N : Int) := by omega
  clear h h1 hsl hml hP hsk hmk
  go_enter Try.func8, Try.ntmps8
  go_wp2_with fail
  generalize hw1 : w.alloc (.cells #[.int .i64 kd, .int .i64 wh, .int .i64 x, .int .i64 sz, .int .i64 n, .int .u64 v, .slice ba bl bc] 33) = w1 at *
  have H1 := do_start H0.out hw1
  unfold doC at H1
  clear hw1 H0
  generalize w.heap.size = db at *
  obtain ⟨-, e1, -, -, -, -, -⟩ := do_at H1.out
  obtain ⟨x0, -, -, -⟩ := both_at H1.out 3 rfl
  go_quiet ((go_at_call 14; exact quiet_same4 (cN _)))
  have H2 := Hid.mk' (H1.out.dr' ⟨nq, rfl⟩)
  clear H1 e1 x0 cN
  generalize w1.drewN nq = w2 at *
  obtain ⟨x0, x1, -, -⟩ := both_at H2.out 3 rfl
  have hc1 := (H2.out.cellAt 4 rfl k (ptr sk) (by simp [HSK.out])).1
  have hc2 := (H2.out.cellAt 5 rfl k (ptr mk) (by simp [HMK.out])).1
  unfold ptr at hc1 hc2
  go_wp2_with fail
  go_quiet (fail)
  have H3 := Hid.mk' (H2.out.dr' ⟨nq, rfl⟩)
  clear H2 x0 x1 hc1 hc2
  generalize w2.drewN nq = w3 at *
  obtain ⟨e0, e1, e2, e3, e4, e5, e6⟩ := do_at H3.out
  go_wp2_with fail
  refine (hbr w3).mono ?_
  rintro e w4 ⟨rfl, rfl⟩
  obtain ⟨i0, hi, hz0, hz1, hz2⟩ := info_parts info_ptr
  obtain ⟨i1, hi', hy0, hy1, hy2⟩ := info_parts info_ptr4
  obtain ⟨o, ho⟩ : ∃ o, σ.hs[k]? = some o := ⟨_, List.getElem?_eq_getElem (by rw [hlen.out]; exact hk)⟩
  have HO := Hid.mk' ho
  clear ho
  clear e0 e1 e2 e3 e4 e5 e6
  cases o with
  | none =>
    have HF : Hid (One W w3 xb N M) := ⟨N, Nat.le_refl _, hN, ⟨F, sl, pl, F', ml, ql, σ, _, _, H3.out.tail, HSL.out, HML.out, HPI.out⟩⟩
    have key1 := clone_bad _ 40 w3 (sh_bad (H3.out.shs 1 rfl) HSK.out HO.out)
    have key2 := rclone_gone mk w3 (rd_gone (H3.out.shs 2 rfl) HMK.out HO.out)
    clear H3
    go_wp2_with fail
    refine key1.mono ?_
    rintro e w4 ⟨rfl, rfl⟩
    go_wp2_with fail
    refine key2.mono ?_
    rintro e w4 ⟨rfl, rfl⟩
    go_wp2_with fail
    go_ret
    exact ⟨rfl, HF.out⟩
  | some j =>
    have hln : Hid (σ.hs.length ≤ 1000) := Hid.mk' (by rw [hlen.out]; omega)
    have key1 := sh_clone (H3.out.shs 1 rfl) HSK.out HO.out hln.out
    go_wp2_with fail
    refine key1.mono ?_
    rintro e w4 ⟨t, rfl, hnx⟩
    obtain ⟨F4, h4⟩ := H3.out.next 1 rfl hnx
    have H4 := Hid.mk' h4
    clear key1 hnx h4 H3
    go_wp2_with fail
    refine (rd_clone (H4.out.shs 2 rfl) HMK.out HO.out hln.out).mono ?_
    rintro e w5 ⟨u, rfl, hnx⟩
    obtain ⟨F5, h5⟩ := H4.out.next 2 rfl hnx
    have H6 : Hid (Heap W w5 [shT pgS F4 (sl ++ [t]) pl ⟨σ.hs ++ [some j], σ.gs⟩, shT dcS F5 (ml ++ [u]) ql ⟨σ.hs ++ [some j], σ.gs⟩, cellsT xb #[.slice (some ⟨ga, 0, none⟩) N ca, .slice (some ⟨gm, 0, none⟩) N cm] 28, rowT W.heap.size 36 1 (.slice (some ⟨ga, 0, none⟩) N ca) N (sl.map ptr), rowT W.heap.size 60 1 (.slice (some ⟨gm, 0, none⟩) N cm) N (ml.map ptr)]) := Heap.tail h5
    clear hnx h5 H4
    obtain ⟨x0, x1, y0, y1⟩ := both_at H6.out 2 rfl
    by_cases hN12 : N < 12
    · have hN12' : (N : Int) < 12 := by omega
      have H7 := Hid.mk' (H6.out.below ((Below.refl _ _).alloc (Nat.le_refl _) (.cells #[.pointer (some ⟨t, 0, none⟩)] 36)))
      have HOW : Hid ((w5.alloc (.cells #[.pointer (some ⟨t, 0, none⟩)] 36)).ownsRow W.heap.size 36 1 (.slice (some ⟨ga, 0, none⟩) N ca) N (sl.map ptr)) := H7.out.get (i := 3) rfl
      have HWS : Hid (W.heap.size ≤ (w5.alloc (.cells #[.pointer (some ⟨t, 0, none⟩)] 36)).heap.size) := H7.out.old.size
      have HNW := Hid.mk' (one_laid w5 (ptr t) 36)
      have x0' := (both_at H7.out 2 rfl).1
      go_wp2_with (first | (at_builtin; refine wpList_append_own2 rfl _ _ 25 rfl W.heap.size 36 i0 (.pointer none) 1 8 Try.underlying25 hi hz0 hz1 hz2 rfl (by decide) (.slice (some ⟨ga, 0, none⟩) N ca) N (sl.map ptr) rfl HOW.out ⟨w5.heap.size, 0, none⟩ 1 1 [ptr t] rfl (by simp) HNW.out (by intro u hu; simp at hu; subst hu; rfl) (by unfold maxLen; omega) (by omega) HWS.out ?_; intro v8 w8 hown8 hgr8 hob8; obtain ⟨g8, c8, hv8, hc8⟩ := own_some hown8 (by omega); subst hv8; have H8 := Hid.mk' (H7.out.grown 3 rfl hown8 hgr8 hob8); obtain ⟨z0, z1, f0, f1⟩ := both_at H8.out 2 rfl; have H9 := Hid.mk' (H8.out.cset 2 rfl 0 (.slice (some ⟨g8, 0, none⟩) (N + 1) c8)); have p1 : (w8.setCell ⟨xb, 0, none⟩ (.slice (some ⟨g8, 0, none⟩) (N + 1) c8)).cell? ⟨xb, 1, none⟩ = some (.slice (some ⟨gm, 0, none⟩) N cm) := (both_at (lv := .slice (some ⟨g8, 0, none⟩) (N + 1) c8) (mv := .slice (some ⟨gm, 0, none⟩) N cm) H9.out 2 rfl).2.1; have hsz8 : (w8.setCell ⟨xb, 0, none⟩ (.slice (some ⟨g8, 0, none⟩) (N + 1) c8)).heap.size = w8.heap.size := (by simp [World.setCell]); have H10 := Hid.mk' (H9.out.below ((Below.refl _ _).alloc (Nat.le_refl _) (.cells #[.pointer (some ⟨u, 0, none⟩)] 60))); have HOW2 : Hid (((w8.setCell ⟨xb, 0, none⟩ (.slice (some ⟨g8, 0, none⟩) (N + 1) c8)).alloc (.cells #[.pointer (some ⟨u, 0, none⟩)] 60)).ownsRow W.heap.size 60 1 (.slice (some ⟨gm, 0, none⟩) N cm) N (ml.map ptr)) := H10.out.get (i := 4) rfl; have HWS2 := Hid.mk' H10.out.old.size; have HNW2 := Hid.mk' (one_laid (w8.setCell ⟨xb, 0, none⟩ (.slice (some ⟨g8, 0, none⟩) (N + 1) c8)) (ptr u) 60); rw [hsz8] at HNW2; clear hown8 hgr8 hob8 HOW HNW HWS H7 H8 H9 x0 x1 y0 y1 x0' hsz8) | (at_builtin; go_loud (refine wpList_append_own2 rfl _ _ 26 rfl W.heap.size 60 i1 (.pointer none) 1 8 Try.underlying26 hi' hy0 hy1 hy2 rfl (by decide) (.slice (some ⟨gm, 0, none⟩) N cm) N (ml.map ptr) rfl HOW2.out ⟨w8.heap.size, 0, none⟩ 1 1 [ptr u] rfl (by simp) HNW2.out (by intro u hu; simp at hu; subst hu; rfl) (by unfold maxLen; omega) (by omega) HWS2.out ?_; intro v9 w9 hown9 hgr9 hob9; obtain ⟨g9, c9, hv9, hc9⟩ := own_some hown9 (by omega); subst hv9; have H11 := Hid.mk' (H10.out.grown 4 rfl hown9 hgr9 hob9); obtain ⟨r0, r1, f3, f4⟩ := both_at (lv := .slice (some ⟨g8, 0, none⟩) (N + 1) c8) (mv := .slice (some ⟨gm, 0, none⟩) N cm) H11.out 2 rfl; have H12 := Hid.mk' (H11.out.cset 2 rfl 1 (.slice (some ⟨g9, 0, none⟩) (N + 1) c9)); clear hown9 hgr9 hob9 HOW2 HNW2 HWS2 H10 H11 p1 z0 z1 f0 f1)))
      have HF : Hid (One W (w9.setCell ⟨xb, 1, none⟩ (.slice (some ⟨g9, 0, none⟩) (N + 1) c9)) xb N M) := by
        refine ⟨N + 1, by omega, by omega, ⟨F4, sl ++ [t], pl, F5, ml ++ [u], ql, ⟨σ.hs ++ [some j], σ.gs⟩, .slice (some ⟨g8, 0, none⟩) (N + 1) c8, .slice (some ⟨g9, 0, none⟩) (N + 1) c9, ?_, by rw [List.length_append, HSL.out]; rfl, by rw [List.length_append, HML.out]; rfl, HPI.out⟩⟩
        have := H12.out
        unfold plL
        rw [List.map_append, List.map_append]; exact this
      clear H12 H6
      go_wp2_with fail
      go_ret
      exact ⟨rfl, HF.out⟩
    · have hN12' : ¬ (N : Int) < 12 := by omega
      have hset : (σ.hs ++ [some j]).set N none = σ.hs ++ [none] := by
        rw [List.set_append_right _ _ (by rw [hlen.out]; exact Nat.le_refl _), hlen.out, Nat.sub_self]; rfl
      have HSET := Hid.mk' hset
      have hgN : Hid ((σ.hs ++ [some j])[N]? = some (some j)) := Hid.mk' (by rw [← hlen.out]; exact snoc_new _ _)
      have hl2 : Hid ((σ.hs ++ [some j]).length ≤ 1000) := Hid.mk' (by rw [List.length_append, hlen.out]; show N + 1 ≤ 1000; omega)
      have key1 := sh_free (i := N) (s := t) (H6.out.shs 0 rfl) (by rw [← HSL.out]; exact snoc_new _ _) hgN.out hl2.out
      clear hset
      go_wp2_with fail
      refine key1.mono ?_
      rintro e w6 ⟨rfl, hnx⟩
      obtain ⟨F6, h6⟩ := H6.out.next 0 rfl hnx
      have H7 := Hid.mk' h6
      clear key1 hnx h6 H6 x0 x1 y0 y1
      go_wp2_with fail
      refine (rd_free (i := N) (s := u) (H7.out.shs 1 rfl) (by rw [← HML.out]; exact snoc_new _ _) hgN.out hl2.out).mono ?_
      rintro e w7 ⟨rfl, hnx⟩
      obtain ⟨F7, h7⟩ := H7.out.next 1 rfl hnx
      have h8 := Heap.forget h7 0 rfl (hs := σ.hs) HSET.out
      have h9 := Heap.forget h8 1 rfl (hs := σ.hs) HSET.out
      have HF : Hid (One W w7 xb N M) := ⟨N, Nat.le_refl _, hN, ⟨F6, sl, pl, F7, ml, ql, ⟨σ.hs, σ.gs⟩, _, _, h9, HSL.out, HML.out, HPI.out⟩⟩
      clear hnx h7 h8 h9 H7
      go_wp2_with fail
      go_ret
      exact ⟨rfl, HF.out⟩
end Go.Proofs.Ytbinedhgjmfceaa
