/- What the statement SharePlays keeps: the program's handles and the document's, side by side; the contract of its 'fresh'. -/
import Derived.Test.YtbinedhgjmfceaaHq
namespace Go.Proofs.Ytbinedhgjmfceaa
open Go.ChangeShapes Go.WideShapes Go.ChangeAt Go.RowKit

/-- A handle that was given up, the last one, is forgotten. -/
theorem Shs.forget {d : Sd} {w : World} {F : Nat → Prop} {sl pl : List Nat} {t : Nat} {σ : St} {hs : List (Option Nat)} (h : Shs d w F (sl ++ [t]) pl σ) (hh : σ.hs = hs ++ [none]) : Shs d w F sl pl ⟨hs, σ.gs⟩ := by
  obtain ⟨lab, cl, hF, h⟩ := h
  have hl := h.lens
  rw [hh] at hl
  simp at hl
  refine ⟨lab, cl, hF, h.low, hl, h.lenc, h.lenp, fun i s st e1 e2 => h.hds i s st (snoc_old e1) (by rw [hh]; exact snoc_old e2), fun j c p G e1 e2 e3 => ?_⟩
  have := h.grs j c p G e1 e2 e3
  rw [hh, many_snoc] at this
  simpa using this

theorem Heap.forget {W w : World} {L : List Thing} {d : Sd} {F : Nat → Prop} {sl pl : List Nat} {t : Nat} {σ : St} {hs : List (Option Nat)} (h : Heap W w L) (i : Nat) (hi : L[i]? = some (shT d F (sl ++ [t]) pl σ)) (hh : σ.hs = hs ++ [none]) : Heap W w (L.set i (shT d F sl pl ⟨hs, σ.gs⟩)) :=
  h.stepAt i _ hi (Kept.refl _ _) (shT d F sl pl ⟨hs, σ.gs⟩) ((h.shs i hi).forget hh) (fun _ hk => .inl hk)

/-- A cell of a block among things is written. -/
theorem Heap.cset {W w : World} {L : List Thing} {p : Nat} {cs : Array Value} {t : TypeId} (h : Heap W w L) (i : Nat) (hi : L[i]? = some (cellsT p cs t)) (k : Nat) (u : Value) : Heap W (w.setCell ⟨p, k, none⟩ u) (L.set i (cellsT p (cs.setIfInBounds k u) t)) := by
  have hb : w.heap[p]? = some (.cells cs t (0, 0)) := h.get hi
  exact h.stepAt i _ hi (kept_set w p k u) (cellsT p (cs.setIfInBounds k u) t) (Go.heap_setCell_same w p k cs t u hb) (fun _ hk => .inl hk)

def PInv (σ : St) (M : Nat) : Prop := ∀ (j : Nat) (G : Gr), σ.gs[j]? = some G → G.m ≤ M

/-- The program's handles, the document's, the struct that has both slices, these slices. -/
def plL (W : World) (F : Nat → Prop) (sl pl : List Nat) (F' : Nat → Prop) (ml ql : List Nat) (σ : St) (xb : Nat) (lv mv : Value) (N : Nat) : List Thing :=
  [shT pgS F sl pl σ, shT dcS F' ml ql σ, cellsT xb #[lv, mv] 28, rowT W.heap.size 36 1 lv N (sl.map ptr), rowT W.heap.size 60 1 mv N (ml.map ptr)]

structure Pls (W w : World) (xb N M : Nat) : Prop where
  is : ∃ F sl pl F' ml ql σ lv mv, Heap W w (plL W F sl pl F' ml ql σ xb lv mv N) ∧ sl.length = N ∧ ml.length = N ∧ PInv σ M

theorem Pls.below {W w w' : World} {xb N M : Nat} (h : Pls W w xb N M) (b : Below w.heap.size w w') : Pls W w' xb N M := by
  obtain ⟨F, sl, pl, F', ml, ql, σ, lv, mv, h1, h2⟩ := h.is
  exact ⟨F, sl, pl, F', ml, ql, σ, lv, mv, h1.below b, h2⟩
theorem Pls.dr {W w w' : World} {xb N M : Nat} (h : Pls W w xb N M) (b : Dr w w') : Pls W w' xb N M := h.below (b.below _)
theorem Pls.old {W w : World} {xb N M : Nat} (h : Pls W w xb N M) : Below W.heap.size W w := by
  obtain ⟨F, sl, pl, F', ml, ql, σ, lv, mv, h1, h2⟩ := h.is
  exact h1.old
theorem Pls.more {W w : World} {xb N M M' : Nat} (h : Pls W w xb N M) (hM : M ≤ M') : Pls W w xb N M' := by
  obtain ⟨F, sl, pl, F', ml, ql, σ, lv, mv, h1, h2, h3, h4⟩ := h.is
  exact ⟨F, sl, pl, F', ml, ql, σ, lv, mv, h1, h2, h3, fun j G e => Nat.le_trans (h4 j G e) hM⟩

theorem info_ptr4 : (Try.prog.info? 60).map (fun i => (i.zero, i.size, i.bytes)) = some (some (.pointer none), 1, 8) := by kernel_rfl

theorem both_at {W w : World} {L : List Thing} {xb : Nat} {lv mv : Value} {t : TypeId} (h : Heap W w L) (i : Nat) (hi : L[i]? = some (cellsT xb #[lv, mv] t)) : w.cell? ⟨xb, 0, none⟩ = some lv ∧ w.cell? ⟨xb, 1, none⟩ = some mv ∧ w.frozen? ⟨xb, 0, none⟩ = false ∧ w.frozen? ⟨xb, 1, none⟩ = false := by
  have hb : w.heap[xb]? = some (.cells #[lv, mv] t (0, 0)) := h.get hi
  exact ⟨cell_of_row w xb 0 _ _ _ hb, cell_of_row w xb 1 _ _ _ hb, frozen_of_row w xb 0 _ _ hb, frozen_of_row w xb 1 _ _ hb⟩

theorem one_laid (w : World) (v : Value) (t : TypeId) : ∀ j u, [v][j]? = some u → (w.alloc (.cells #[v] t)).cell? ((⟨w.heap.size, 0, none⟩ : Addr).add j) = some u := by
  intro j u hj
  rw [addr_add, Nat.zero_add, World.cell?_alloc_new]
  match j, hj with
  | 0, hj => simpa using hj

set_option maxHeartbeats 4000000 in
set_option maxRecDepth 100000 in
theorem fresh_any (W w : World) (xb N M : Nat) (a : Option Addr) (n c : Nat) (zs : List Int) (h : Pls W w xb N M) (hN : N ≤ 12) (hn : zs.length = n) (hB : Bs W a zs) (ha : a = none → c = 0) (hl : n ≤ 140737488351232) :
    Calls Try.prog 7 #[.pointer (some ⟨xb, 0, none⟩), .slice a n c] w fun e w' => e = .returned (.bool true) ∧ ∃ N', N ≤ N' ∧ N' ≤ 12 ∧ Pls W w' xb N' M := by
  obtain ⟨i0, hi, hz0, hz1, hz2⟩ := info_parts info_ptr
  obtain ⟨i1, hi', hy0, hy1, hy2⟩ := info_parts info_ptr4
  obtain ⟨F, sl, pl, F', ml, ql, σ, lv, mv, h1, hsl, hml, hP⟩ := h.is
  have H1 := Hid.mk' h1
  have HSL := Hid.mk' hsl
  have HML := Hid.mk' hml
  have HPI := Hid.mk' hP
  have HN := Hid.mk' hn
  have HB := Hid.mk' hB
  have HA := Hid.mk' ha
  clear h h1 hsl hml hP hn hB ha
  go_enter Try.func7, Try.ntmps7
  go_wp2_with fail
  refine (copy_at a n c zs w HN.out (HB.out.below H1.out.old) HA.out).mono ?_
  rintro e w2 ⟨v2, rfl, hown2, b2⟩
  obtain ⟨a2, c2, rfl⟩ := own_slice hown2
  have h2 := H1.out.add b2 (rowT W.heap.size 5 1 (.slice a2 n c2) n (zs.map (Value.int .u8))) (ownsRow_base hown2 H1.out.old.size) (fun k hk => (hown2.lt k hk).1)
  have H2 := Hid.mk' h2
  have I2 : Hid (Bs w2 a2 zs) := bs_rw (by rw [HN.out]; exact hown2) HB.out.bytes HB.out.len
  clear h2 hown2 b2 H1
  by_cases hlong : 2048 < n
  · go_wp2_with fail
    refine (sh_new_long a2 n c2 w2 (by omega) hlong).mono ?_
    rintro e w3 ⟨rfl, rfl⟩
    go_wp2_with fail
    refine (rsnew_long a n c w2 (by omega) hlong).mono ?_
    rintro e w3 ⟨rfl, rfl⟩
    go_wp2_with fail
    refine (eq_same4 a2 a n c2 c zs w2 HN.out I2.out (HB.out.below H2.out.old)).mono ?_
    rintro e w3 ⟨rfl, d3⟩
    have H3 := Hid.mk' (H2.out.dr' d3)
    clear d3 H2 I2
    go_wp2_with fail
    go_loopg [10] n (fun f s10 wr => ∃ (k : Nat) (X : List Int), s10 = .int .i64 k ∧ k ≤ n ∧ n - k ≤ f ∧ Hid (Heap W wr (rowT W.heap.size 5 1 (.slice a2 n c2) n (X.map (Value.int .u8)) :: plL W F sl pl F' ml ql σ xb lv mv N)))
    case atStart => exact ⟨0, zs, rfl, by omega, by omega, H3⟩
    case round =>
      clear H3
      obtain ⟨k, X, rfl, hk, hf, hH⟩ := hrel
      by_cases hlt : k < n
      · have hown : wr.ownsRow W.heap.size 5 1 (.slice a2 n c2) n (X.map (Value.int .u8)) := hH.out.get (i := 0) rfl
        obtain ⟨gx, cx, hax, -⟩ := own_some hown (by omega)
        simp only [Value.slice.injEq] at hax
        obtain ⟨rfl, -, rfl⟩ := hax
        have hXl : X.length = n := by have := hown.1; simpa using this
        obtain ⟨cc, ff⟩ := own_byte (by rw [hXl]; exact hown) hXl k hlt
        generalize X.getD k 0 = z at cc
        have hst : Hid (∀ y : Int, Heap W (wr.setCell ⟨gx, k, none⟩ (.int .u8 y)) (rowT W.heap.size 5 1 (.slice (some ⟨gx, 0, none⟩) n c2) n ((X.set k y).map (Value.int .u8)) :: plL W F sl pl F' ml ql σ xb lv mv N)) := fun y => by
          rw [List.map_set]; exact hH.out.stored 0 rfl k (.int .u8 y)
        have hsp : (k : Int) < (n : Int) := by omega
        clear hown hXl hH
        go_wp2_with fail
        go_roundg (n - (k + 1))
        case measure => omega
        case rel => exact ⟨k + 1, X.set k _, by go_num, by omega, by omega, hst.out _⟩
      · have HF : Hid (Pls W wr xb N M) := ⟨F, sl, pl, F', ml, ql, σ, lv, mv, hH.out.tail, HSL.out, HML.out, HPI.out⟩
        clear hH
        go_wp2_with fail
        go_ret
        exact ⟨rfl, N, Nat.le_refl _, hN, HF.out⟩

  · have key1 := sh_new a2 n c2 zs (H2.out.shs 1 rfl) HN.out I2.out (by omega)
    go_wp2_with fail
    refine key1.mono ?_
    rintro e w3 ⟨t, p, rfl, -, b3, hnx⟩
    have B3 := Hid.mk' b3
    have I3 := Hid.mk' (I2.out.below b3)
    have H3 := Hid.mk' (H2.out.below b3)
    have N3 := Hid.mk' hnx
    clear key1 hnx b3 I2
    have key2 := rd_new a n c zs (H3.out.shs 2 rfl) HN.out (HB.out.below H3.out.old) HA.out (by omega)
    go_wp2_with fail
    refine key2.mono ?_
    rintro e w4 ⟨u, q, rfl, -, b4, hnx⟩
    have B4 := Hid.mk' b4
    have I4 := Hid.mk' (I3.out.below b4)
    have N4 := Hid.mk' hnx
    clear key2 hnx b4 I3
    go_wp2_with fail
    refine (eq_same4 a2 a n c2 c zs w4 HN.out I4.out (HB.out.below (H3.out.old.trans (B4.out.mono H3.out.old.size)))).mono ?_
    rintro e w5 ⟨rfl, d5⟩
    have D5 := Hid.mk' d5
    clear d5 I4
    by_cases hN12 : N < 12
    · have H5 : Hid (∃ F3 F4, Heap W w5 (rowT W.heap.size 5 1 (.slice a2 n c2) n (zs.map (Value.int .u8)) :: [shT pgS F3 (sl ++ [t]) (pl ++ [p]) ⟨σ.hs ++ [some σ.gs.length], σ.gs ++ [⟨zs, 64, 64, 0⟩]⟩, shT dcS F4 (ml ++ [u]) (ql ++ [q]) ⟨σ.hs ++ [some σ.gs.length], σ.gs ++ [⟨zs, 64, 64, 0⟩]⟩, cellsT xb #[lv, mv] 28, rowT W.heap.size 36 1 lv N (sl.map ptr), rowT W.heap.size 60 1 mv N (ml.map ptr)])) := by
        obtain ⟨F3, h3⟩ := H2.out.next 1 rfl N3.out
        obtain ⟨F4, h4⟩ := h3.next 2 rfl N4.out
        exact ⟨F3, F4, h4.dr' D5.out⟩
      clear H2 H3 N3 N4 B3 B4 D5
      obtain ⟨F3, F4, H5⟩ := H5.out
      have H5 := Hid.mk' H5
      go_wp2_with fail
      go_loopg [10] n (fun f s10 wr => ∃ (k : Nat) (X : List Int), s10 = .int .i64 k ∧ k ≤ n ∧ n - k ≤ f ∧ Hid (Heap W wr (rowT W.heap.size 5 1 (.slice a2 n c2) n (X.map (Value.int .u8)) :: [shT pgS F3 (sl ++ [t]) (pl ++ [p]) ⟨σ.hs ++ [some σ.gs.length], σ.gs ++ [⟨zs, 64, 64, 0⟩]⟩, shT dcS F4 (ml ++ [u]) (ql ++ [q]) ⟨σ.hs ++ [some σ.gs.length], σ.gs ++ [⟨zs, 64, 64, 0⟩]⟩, cellsT xb #[lv, mv] 28, rowT W.heap.size 36 1 lv N (sl.map ptr), rowT W.heap.size 60 1 mv N (ml.map ptr)])))
      case atStart => exact ⟨0, zs, rfl, by omega, by omega, H5⟩
      case round =>
        clear H5
        obtain ⟨k, X, rfl, hk, hf, hH⟩ := hrel
        by_cases hlt : k < n
        · have hown : wr.ownsRow W.heap.size 5 1 (.slice a2 n c2) n (X.map (Value.int .u8)) := hH.out.get (i := 0) rfl
          obtain ⟨gx, cx, hax, -⟩ := own_some hown (by omega)
          simp only [Value.slice.injEq] at hax
          obtain ⟨rfl, -, rfl⟩ := hax
          have hXl : X.length = n := by have := hown.1; simpa using this
          obtain ⟨cc, ff⟩ := own_byte (by rw [hXl]; exact hown) hXl k hlt
          generalize X.getD k 0 = z at cc
          have hst : Hid (∀ y : Int, Heap W (wr.setCell ⟨gx, k, none⟩ (.int .u8 y)) (rowT W.heap.size 5 1 (.slice (some ⟨gx, 0, none⟩) n c2) n ((X.set k y).map (Value.int .u8)) :: [shT pgS F3 (sl ++ [t]) (pl ++ [p]) ⟨σ.hs ++ [some σ.gs.length], σ.gs ++ [⟨zs, 64, 64, 0⟩]⟩, shT dcS F4 (ml ++ [u]) (ql ++ [q]) ⟨σ.hs ++ [some σ.gs.length], σ.gs ++ [⟨zs, 64, 64, 0⟩]⟩, cellsT xb #[lv, mv] 28, rowT W.heap.size 36 1 lv N (sl.map ptr), rowT W.heap.size 60 1 mv N (ml.map ptr)])) := fun y => by
            rw [List.map_set]; exact hH.out.stored 0 rfl k (.int .u8 y)
          have hsp : (k : Int) < (n : Int) := by omega
          clear hown hXl hH
          go_wp2_with fail
          go_roundg (n - (k + 1))
          case measure => omega
          case rel => exact ⟨k + 1, X.set k _, by go_num, by omega, by omega, hst.out _⟩
        · have H6 := Hid.mk' hH.out.tail
          obtain ⟨al, cal, hlv⟩ := own_slice (show wr.ownsRow W.heap.size 36 1 lv N (sl.map ptr) from H6.out.get (i := 3) rfl)
          obtain ⟨am, cam, hmv⟩ := own_slice (show wr.ownsRow W.heap.size 60 1 mv N (ml.map ptr) from H6.out.get (i := 4) rfl)
          subst hlv; subst hmv
          obtain ⟨x0, x1, y0, y1⟩ := both_at H6.out 2 rfl
          have hN12' : (N : Int) < 12 := by omega
          clear hH
          have H7 := Hid.mk' (H6.out.below ((Below.refl _ _).alloc (Nat.le_refl _) (.cells #[.pointer (some ⟨t, 0, none⟩)] 36)))
          have HOW : Hid ((wr.alloc (.cells #[.pointer (some ⟨t, 0, none⟩)] 36)).ownsRow W.heap.size 36 1 (.slice al N cal) N (sl.map ptr)) := H7.out.get (i := 3) rfl
          have HWS : Hid (W.heap.size ≤ (wr.alloc (.cells #[.pointer (some ⟨t, 0, none⟩)] 36)).heap.size) := H7.out.old.size
          have HNW := Hid.mk' (one_laid wr (ptr t) 36)
          have x0' := (both_at H7.out 2 rfl).1
          go_wp2_with (first | (at_builtin; refine wpList_append_own2 rfl _ _ 25 rfl W.heap.size 36 i0 (.pointer none) 1 8 Try.underlying25 hi hz0 hz1 hz2 rfl (by decide) (.slice al N cal) N (sl.map ptr) rfl HOW.out ⟨wr.heap.size, 0, none⟩ 1 1 [ptr t] rfl (by simp) HNW.out (by intro u hu; simp at hu; subst hu; rfl) (by unfold maxLen; omega) (by omega) HWS.out ?_; intro v8 w8 hown8 hgr8 hob8; obtain ⟨g8, c8, hv8, hc8⟩ := own_some hown8 (by omega); subst hv8; have H8 := Hid.mk' (H7.out.grown 3 rfl hown8 hgr8 hob8); obtain ⟨z0, z1, f0, f1⟩ := both_at H8.out 2 rfl; have H9 := Hid.mk' (H8.out.cset 2 rfl 0 (.slice (some ⟨g8, 0, none⟩) (N + 1) c8)); have p1 : (w8.setCell ⟨xb, 0, none⟩ (.slice (some ⟨g8, 0, none⟩) (N + 1) c8)).cell? ⟨xb, 1, none⟩ = some (.slice am N cam) := (both_at (lv := .slice (some ⟨g8, 0, none⟩) (N + 1) c8) (mv := .slice am N cam) H9.out 2 rfl).2.1; have hsz8 : (w8.setCell ⟨xb, 0, none⟩ (.slice (some ⟨g8, 0, none⟩) (N + 1) c8)).heap.size = w8.heap.size := (by simp [World.setCell]); have H10 := Hid.mk' (H9.out.below ((Below.refl _ _).alloc (Nat.le_refl _) (.cells #[.pointer (some ⟨u, 0, none⟩)] 60))); have HOW2 : Hid (((w8.setCell ⟨xb, 0, none⟩ (.slice (some ⟨g8, 0, none⟩) (N + 1) c8)).alloc (.cells #[.pointer (some ⟨u, 0, none⟩)] 60)).ownsRow W.heap.size 60 1 (.slice am N cam) N (ml.map ptr)) := H10.out.get (i := 4) rfl; have HWS2 := Hid.mk' H10.out.old.size; have HNW2 := Hid.mk' (one_laid (w8.setCell ⟨xb, 0, none⟩ (.slice (some ⟨g8, 0, none⟩) (N + 1) c8)) (ptr u) 60); rw [hsz8] at HNW2; clear hown8 hgr8 hob8 HOW HNW HWS H7 H8 H9 x0 x1 y0 y1 x0' hsz8) | (at_builtin; go_loud (refine wpList_append_own2 rfl _ _ 26 rfl W.heap.size 60 i1 (.pointer none) 1 8 Try.underlying26 hi' hy0 hy1 hy2 rfl (by decide) (.slice am N cam) N (ml.map ptr) rfl HOW2.out ⟨w8.heap.size, 0, none⟩ 1 1 [ptr u] rfl (by simp) HNW2.out (by intro u hu; simp at hu; subst hu; rfl) (by unfold maxLen; omega) (by omega) HWS2.out ?_; intro v9 w9 hown9 hgr9 hob9; obtain ⟨g9, c9, hv9, hc9⟩ := own_some hown9 (by omega); subst hv9; have H11 := Hid.mk' (H10.out.grown 4 rfl hown9 hgr9 hob9); obtain ⟨r0, r1, f3, f4⟩ := both_at (lv := .slice (some ⟨g8, 0, none⟩) (N + 1) c8) (mv := .slice am N cam) H11.out 2 rfl; have H12 := Hid.mk' (H11.out.cset 2 rfl 1 (.slice (some ⟨g9, 0, none⟩) (N + 1) c9)); clear hown9 hgr9 hob9 HOW2 HNW2 HWS2 H10 H11 p1 z0 z1 f0 f1)))
          have HF : Hid (Pls W (w9.setCell ⟨xb, 1, none⟩ (.slice (some ⟨g9, 0, none⟩) (N + 1) c9)) xb (N + 1) M) := by
            refine ⟨F3, sl ++ [t], pl ++ [p], F4, ml ++ [u], ql ++ [q], ⟨σ.hs ++ [some σ.gs.length], σ.gs ++ [⟨zs, 64, 64, 0⟩]⟩, .slice (some ⟨g8, 0, none⟩) (N + 1) c8, .slice (some ⟨g9, 0, none⟩) (N + 1) c9, ?_, by rw [List.length_append, HSL.out]; rfl, by rw [List.length_append, HML.out]; rfl, fun j G e => ?_⟩
            · have := H12.out
              unfold plL
              rw [List.map_append, List.map_append]; exact this
            · rcases snoc_get e with e | ⟨_, rfl⟩
              · exact HPI.out j G e
              · exact Nat.zero_le _
          clear H12 H6
          go_wp2_with fail
          go_ret
          exact ⟨rfl, N + 1, by omega, by omega, HF.out⟩
    · have hN12' : ¬ (N : Int) < 12 := by omega
      have H5 : Hid (Heap W w5 (rowT W.heap.size 5 1 (.slice a2 n c2) n (zs.map (Value.int .u8)) :: plL W F sl pl F' ml ql σ xb lv mv N)) := Hid.mk' ((H3.out.below B4.out).dr' D5.out)
      clear H2 H3 N3 N4 B3 B4 D5
      go_wp2_with fail
      go_loopg [10] n (fun f s10 wr => ∃ (k : Nat) (X : List Int), s10 = .int .i64 k ∧ k ≤ n ∧ n - k ≤ f ∧ Hid (Heap W wr (rowT W.heap.size 5 1 (.slice a2 n c2) n (X.map (Value.int .u8)) :: plL W F sl pl F' ml ql σ xb lv mv N)))
      case atStart => exact ⟨0, zs, rfl, by omega, by omega, H5⟩
      case round =>
        clear H5
        obtain ⟨k, X, rfl, hk, hf, hH⟩ := hrel
        by_cases hlt : k < n
        · have hown : wr.ownsRow W.heap.size 5 1 (.slice a2 n c2) n (X.map (Value.int .u8)) := hH.out.get (i := 0) rfl
          obtain ⟨gx, cx, hax, -⟩ := own_some hown (by omega)
          simp only [Value.slice.injEq] at hax
          obtain ⟨rfl, -, rfl⟩ := hax
          have hXl : X.length = n := by have := hown.1; simpa using this
          obtain ⟨cc, ff⟩ := own_byte (by rw [hXl]; exact hown) hXl k hlt
          generalize X.getD k 0 = z at cc
          have hst : Hid (∀ y : Int, Heap W (wr.setCell ⟨gx, k, none⟩ (.int .u8 y)) (rowT W.heap.size 5 1 (.slice (some ⟨gx, 0, none⟩) n c2) n ((X.set k y).map (Value.int .u8)) :: plL W F sl pl F' ml ql σ xb lv mv N)) := fun y => by
            rw [List.map_set]; exact hH.out.stored 0 rfl k (.int .u8 y)
          have hsp : (k : Int) < (n : Int) := by omega
          clear hown hXl hH
          go_wp2_with fail
          go_roundg (n - (k + 1))
          case measure => omega
          case rel => exact ⟨k + 1, X.set k _, by go_num, by omega, by omega, hst.out _⟩
        · have HF : Hid (Pls W wr xb N M) := ⟨F, sl, pl, F', ml, ql, σ, lv, mv, hH.out.tail, HSL.out, HML.out, HPI.out⟩
          obtain ⟨al, cal, hlv⟩ := own_slice (show wr.ownsRow W.heap.size 36 1 lv N (sl.map ptr) from hH.out.get (i := 4) rfl)
          subst hlv
          obtain ⟨x0, x1, y0, y1⟩ := both_at hH.out 3 rfl
          clear hH
          go_wp2_with fail
          go_ret
          exact ⟨rfl, N, Nat.le_refl _, hN, HF.out⟩
end Go.Proofs.Ytbinedhgjmfceaa
