/- The walk of the statement ShareApart. -/
import Derived.Test.YtbinedhgjmfceaaHn
import Derived.Test.YtbinedhgjmfceaaHo
import Derived.Test.YtbinedhgjmfceaaHp
import Derived.Deep.RegionHeld3
namespace Go.Proofs.Ytbinedhgjmfceaa
open Go.ChangeShapes Go.WideShapes Go.ChangeAt Go.RowKit

abbrev Do4 := Int × Int × Int × Int × Int × Int × (Option Addr × Nat × List Int)

theorem do4_cells {W : World} {a : Option Addr} {c : Nat} {xs : List Do4} (h : SlOk sh33 W a c xs) (i : Nat) (hi : i < xs.length) :
    ∃ (b off : Nat) (kd wh x sz n v : Int) (ba : Option Addr) (bc : Nat) (ys : List Int), xs[i]? = some (kd, wh, x, sz, n, v, ba, bc, ys) ∧ a = some ⟨b, off, none⟩ ∧ b < W.heap.size ∧
      (W.cell? ⟨b, off + i * 7, none⟩ = some (.int .i64 kd) ∧ W.cell? ⟨b, off + i * 7 + 1, none⟩ = some (.int .i64 wh) ∧ W.cell? ⟨b, off + i * 7 + 2, none⟩ = some (.int .i64 x) ∧ W.cell? ⟨b, off + i * 7 + 3, none⟩ = some (.int .i64 sz) ∧
      W.cell? ⟨b, off + i * 7 + 4, none⟩ = some (.int .i64 n) ∧ W.cell? ⟨b, off + i * 7 + 5, none⟩ = some (.int .u64 v) ∧ W.cell? ⟨b, off + i * 7 + 6, none⟩ = some (.slice ba ys.length bc)) ∧
      ((-9223372036854775808 ≤ kd ∧ kd ≤ 9223372036854775807) ∧ (-9223372036854775808 ≤ wh ∧ wh ≤ 9223372036854775807) ∧ (-9223372036854775808 ≤ x ∧ x ≤ 9223372036854775807) ∧ (-9223372036854775808 ≤ n ∧ n ≤ 9223372036854775807) ∧ (0 ≤ v ∧ v ≤ 18446744073709551615)) ∧ SlOk sh5 W ba bc ys := by
  obtain ⟨_, h2, h3⟩ := h
  rcases h2 with h0 | ⟨b, off, rfl, hc⟩
  · exact absurd hi (by rw [show xs.length = 0 from h0]; omega)
  · have hx : xs[i]? = some xs[i] := List.getElem?_eq_getElem hi
    generalize xs[i] = m at hx
    obtain ⟨kd, wh, x, sz, n, v, ba, bc, ys⟩ := m
    have k := hc i (kd, wh, x, sz, n, v, ba, bc, ys) hx
    have c0 := k 0 (.int .i64 kd) rfl
    have o := h3 (kd, wh, x, sz, n, v, ba, bc, ys) (List.mem_of_getElem? hx)
    exact ⟨b, off, kd, wh, x, sz, n, v, ba, bc, ys, hx, rfl, lt_of_cell c0, ⟨c0, k 1 (.int .i64 wh) rfl, k 2 (.int .i64 x) rfl, k 3 (.int .i64 sz) rfl, k 4 (.int .i64 n) rfl, k 5 (.int .u64 v) rfl, k 6 (.slice ba ys.length bc) rfl⟩,
      ⟨bounds_i64 o.1, bounds_i64 o.2.1, bounds_i64 o.2.2.1, bounds_i64 o.2.2.2.2.1, bounds_u64 o.2.2.2.2.2.1⟩, o.2.2.2.2.2.2⟩

theorem written_any (W w : World) (F : Nat → Prop) (sl pl : List Nat) (σ : St) (ga ca gb cb N M k s : Nat) (bk : List Bk) (kd wh x sz n v : Int) (ba : Option Addr) (bl bc : Nat) (h : Heap W w (apL W F sl pl σ ga ca gb cb N bk)) (hA : AInv σ bk M) (hM : M ≤ 100) (hN' : N ≤ 100) (hbl : bk.length = N) (hsk : sl[k]? = some s) (hk : k < N)
    (hx : -9223372036854775808 ≤ x ∧ x ≤ 9223372036854775807) (hn : -9223372036854775808 ≤ n ∧ n ≤ 9223372036854775807) (v0 : 0 ≤ v) (v1 : v ≤ 18446744073709551615) :
    Calls Try.prog 16 #[.pointer (some ⟨s, 0, none⟩), .slice (some ⟨gb, 0, none⟩) N cb, .int .i64 k, .agg #[.int .i64 kd, .int .i64 wh, .int .i64 x, .int .i64 sz, .int .i64 n, .int .u64 v, .slice ba bl bc]] w fun e w' => e = .returned (.bool true) ∧ Wrt W w' sl ga ca gb cb N M := by
  obtain ⟨r, hr, hbr⟩ := bring_fix n 4 (by omega) (by omega) hn.1 hn.2
  match r, hr, hbr with
  | 0, _, hbr => exact written0 W w F sl pl σ ga ca gb cb N M k s bk kd wh x sz n v ba bl bc h hA hM hN' hbl hsk hk hx v0 v1 hbr
  | 1, _, hbr => exact written1 W w F sl pl σ ga ca gb cb N M k s bk kd wh x sz n v ba bl bc h hA hM hN' hbl hsk hk hx hbr
  | 2, _, hbr => exact written2 W w F sl pl σ ga ca gb cb N M k s bk kd wh x sz n v ba bl bc h hA hM hN' hbl hsk hk hx hbr
  | 3, _, hbr => exact written3 W w F sl pl σ ga ca gb cb N M k s bk kd wh x sz n v ba bl bc h hA hM hN' hbl hsk hk hx hbr

theorem sh_factsG {w : World} {F : Nat → Prop} {sl pl : List Nat} {σ : St} {j : Nat} {G : Gr} (h : Shs pgS w F sl pl σ) (hG : σ.gs[j]? = some G) : Bytes G.B ∧ G.B.length ≤ 2048 ∧ G.m ≤ 100000 := by
  obtain ⟨lab, cl, hF, h'⟩ := h
  have hj := (List.getElem?_eq_some_iff.1 hG).1
  exact sh_facts ⟨lab, cl, hF, h'⟩ (List.getElem?_eq_getElem (by rw [h'.lenp]; exact hj)) hG
theorem Shs.len {d : Sd} {w : World} {F : Nat → Prop} {sl pl : List Nat} {σ : St} (h : Shs d w F sl pl σ) : sl.length = σ.hs.length := by
  obtain ⟨lab, cl, hF, h'⟩ := h
  exact h'.lens
theorem own_none {w : World} {base : Nat} {e : TypeId} {size : Nat} {a : Option Addr} {m c n : Nat} {xs : List Value} (h : w.ownsRow base e size (.slice a m c) n xs) : a = none → c = 0 := by
  intro ha
  rcases h.2 with ⟨e1, _⟩ | ⟨g, cap, cur, e1, _⟩
  · simp only [Value.slice.injEq] at e1; exact e1.2.2
  · simp only [Value.slice.injEq] at e1; rw [ha] at e1; cases e1.1
theorem eq_same4 (a b : Option Addr) (n c d : Nat) (zs : List Int) (w : World) (hn : zs.length = n) (hx : Bs w a zs) (hy : Bs w b zs) :
    Calls Try.prog 17 #[.slice a n c, .slice b n d] w fun e w' => e = .returned (.bool true) ∧ Dr w w' := by
  have := eq_at a b n n c d zs zs w hn hn hx hy
  rw [show decide (zs = zs) = true from by simp] at this
  exact this

theorem info_sl : (Try.prog.info? 22).map (fun i => (i.zero, i.size, i.bytes)) = some (some (.slice none 0 0), 1, 24) := by kernel_rfl

set_option maxHeartbeats 4000000 in
set_option maxRecDepth 100000 in
theorem apart_walk (a0 : Option Addr) (c0 : Nat) (zs : List Int) (a1 : Option Addr) (c1 : Nat) (xs : List Do4) (W : World) (h0 : Bs W a0 zs) (n0 : (a0 = none → c0 = 0) ∧ zs.length ≤ c0) (o1 : SlOk sh33 W a1 c1 xs) (l1 : xs.length ≤ 140737488351232) (hbig : zs.length ≤ 140737488351232) :
    Calls Try.prog 4 #[.slice a0 zs.length c0, .slice a1 xs.length c1] W fun e w' => e = .returned (.bool true) ∧ Below W.heap.size W w' := by
  have HB := Hid.mk' h0
  have HA0 := Hid.mk' n0.1
  have hcap := n0.2
  have HO := Hid.mk' o1
  clear h0 n0 o1
  obtain ⟨n, hn⟩ : ∃ n, n = zs.length := ⟨_, rfl⟩
  obtain ⟨ln, hln⟩ : ∃ n, n = xs.length := ⟨_, rfl⟩
  rw [← hn] at hbig hcap ⊢
  rw [← hln] at l1 ⊢
  have HN := Hid.mk' hn.symm
  have HLN := Hid.mk' hln.symm
  clear hn hln
  obtain ⟨i0, hi, hz0, hz1, hz2⟩ := info_parts info_ptr
  obtain ⟨i1, hi', hy0, hy1, hy2⟩ := info_parts info_sl
  go_enter Try.func4, Try.ntmps4
  go_wp2_with fail
  refine (awake4 W).mono ?_
  rintro e w1 ⟨rfl, b1⟩
  have B1 := Hid.mk' b1
  clear b1
  go_upto_if 19 with fail
  go_cut [0] from 20 (fun s0 wx => ∃ (nb : Nat) (ys : List Int), s0 = .slice a0 nb c0 ∧ nb ≤ 64 ∧ Hid (ys.length = nb) ∧ Hid (Bs W a0 ys) ∧ w1 = wx)
  case first =>
    by_cases hlong : 64 < n
    · have hc0 : ¬ c0 = 0 := by omega
      obtain ⟨ad, rfl⟩ : ∃ ad, a0 = some ad := by
        rcases HB.out.lies with h | ⟨b, off, e, _⟩
        · have := HN.out; omega
        · exact ⟨_, e⟩
      have HT := Hid.mk' (HB.out.take 64 (by rw [HN.out]; omega))
      have HTL : Hid ((zs.take 64).length = 64) := Hid.mk' (by rw [List.length_take, HN.out]; omega)
      go_wp2_with fail
      go_meet
      exact ⟨64, zs.take 64, by simp, by omega, HTL, HT, rfl⟩
    · go_wp2_with fail
      go_meet
      exact ⟨n, zs, rfl, by omega, HN, HB, rfl⟩
  case rest =>
  obtain ⟨nb, ys, rfl, hnb, HYL, HYB, rfl⟩ := hcut
  clear HB HN hbig hcap
  have key := sh_new a0 nb c0 ys (((Heap.start W pgS).below B1.out).shs 0 rfl) HYL.out (HYB.out.below B1.out) (by omega)
  go_wp2_with fail
  refine key.mono ?_
  rintro e w2 ⟨s, p, rfl, -, -, hnx⟩
  obtain ⟨F1, h1⟩ := ((Heap.start W pgS).below B1.out).next 0 rfl hnx
  have h1' : Heap W w2 [shT pgS F1 [s] [p] ⟨[some 0], [⟨ys, 64, 64, 0⟩]⟩] := h1
  have h2 := h1'.lit 36 #[ptr s] 1 (by omega) rfl
  have H2 : Hid (Heap W (w2.alloc (.cells #[.pointer (some ⟨s, 0, none⟩)] 36)) [shT pgS F1 [s] [p] ⟨[some 0], [⟨ys, 64, 64, 0⟩]⟩, rowT W.heap.size 36 1 (.slice (some ⟨w2.heap.size, 0, none⟩) 1 1) 1 ([s].map ptr)]) := h2
  clear key hnx h1 h1' h2
  go_wp2_with fail
  refine (copy_at a0 nb c0 ys _ HYL.out (HYB.out.below H2.out.old) HA0.out).mono ?_
  rintro e w3 ⟨v3, rfl, hown3, b3⟩
  obtain ⟨a3, c3, rfl⟩ := own_slice hown3
  have h3 := H2.out.push b3 (rwT W (.slice a3 nb c3, ys)) (by show w3.ownsRow _ _ _ _ ys.length _; rw [HYL.out]; exact ownsRow_base hown3 H2.out.old.size) (fun k hk => (hown3.lt k hk).1)
  have h4 := (h3.lit 22 #[.slice a3 nb c3] 1 (by omega) rfl).perm (((List.Perm.swap _ _ _).cons _).cons _)
  have H4 : Hid (Heap W (w3.alloc (.cells #[.slice a3 nb c3] 22)) (apL W F1 [s] [p] ⟨[some 0], [⟨ys, 64, 64, 0⟩]⟩ w2.heap.size 1 w3.heap.size 1 1 [(.slice a3 nb c3, ys)])) := h4
  have HA : Hid (AInv ⟨[some 0], [⟨ys, 64, 64, 0⟩]⟩ [(.slice a3 nb c3, ys)] 0) := by
    refine ⟨rfl, fun i v X e => ?_⟩
    cases i with
    | zero =>
      obtain ⟨rfl, rfl⟩ := Prod.mk.inj (Option.some.inj e)
      exact ⟨0, ⟨ys, 64, 64, 0⟩, rfl, rfl, rfl, Nat.le_refl _, by rw [HYL.out]; exact hnb⟩
    | succ i => simp at e
  clear h3 h4 H2 hown3 b3
  go_wp2_with fail
  generalize w3.alloc (.cells #[.slice a3 nb c3] 22) = w4 at *
  generalize w3.heap.size = g3' at *
  generalize w2.heap.size = g2' at *
  go_loopg [7, 8, 9] 100 (fun f s7 s8 s9 wr => ∃ (N i ga ca gb cb : Nat) (F : Nat → Prop) (sl pl : List Nat) (σ : St) (bk : List Bk), s7 = .slice (some ⟨ga, 0, none⟩) N ca ∧ s8 = .slice (some ⟨gb, 0, none⟩) N cb ∧ s9 = .int .i64 i ∧ 1 ≤ N ∧ N ≤ 10 ∧ i ≤ ln ∧ i ≤ 100 ∧ 100 - i ≤ f ∧ N ≤ ca ∧ N ≤ cb ∧ Hid (sl.length = N) ∧ Hid (bk.length = N) ∧ Hid (AInv σ bk i) ∧ Hid (Heap W wr (apL W F sl pl σ ga ca gb cb N bk)))
  case atStart => exact ⟨1, 0, _, 1, _, 1, F1, [s], [p], _, _, rfl, rfl, rfl, by omega, by omega, by omega, by omega, by omega, by omega, by omega, Hid.mk' rfl, Hid.mk' rfl, HA, H4⟩
  case round =>
    clear HA H4
    obtain ⟨N, i, ga, ca, gb, cb, F, sl, pl, σ, bk, rfl, rfl, rfl, hN1, hN2, hi1, hi2, hf, hca, hcb, hsl, hbk, hA, hH⟩ := hrel
    by_cases hin : i < ln ∧ i < 100
    · obtain ⟨hin1, hin2⟩ := hin
      have hsp : (i : Int) < (ln : Int) := by omega
      have hsp2 : (i : Int) < 100 := by omega
      obtain ⟨b, off, kd, wh, x, sz, nn, v, ba, bc, yy, -, ha, hbl, hcells, hbd, -⟩ := do4_cells HO.out i (by rw [HLN.out]; exact hin1)
      subst ha
      obtain ⟨q0, q1, q2, q3, q4, q5, q6⟩ := hcells
      obtain ⟨hkd, hwh, hx, hnn, hv⟩ := hbd
      have d0 := (hH.out.old.cell (p := ⟨b, off + i * 7, none⟩) hbl).trans q0
      have d1 := (hH.out.old.cell (p := ⟨b, off + i * 7 + 1, none⟩) hbl).trans q1
      have d2 := (hH.out.old.cell (p := ⟨b, off + i * 7 + 2, none⟩) hbl).trans q2
      have d3 := (hH.out.old.cell (p := ⟨b, off + i * 7 + 3, none⟩) hbl).trans q3
      have d4 := (hH.out.old.cell (p := ⟨b, off + i * 7 + 4, none⟩) hbl).trans q4
      have d5 := (hH.out.old.cell (p := ⟨b, off + i * 7 + 5, none⟩) hbl).trans q5
      have d6 := (hH.out.old.cell (p := ⟨b, off + i * 7 + 6, none⟩) hbl).trans q6
      clear q0 q1 q2 q3 q4 q5 q6
      generalize yy.length = yl at *
      have cN := fun u => brg_any wh N u (by omega) (by omega) hwh.1 hwh.2
      have hk := brg_lt wh N (by omega)
      generalize brg wh N = k at *
      have c3 := fun u => brg_any kd 3 u (by omega) (by omega) hkd.1 hkd.2
      have h3 := brg_lt kd 3 (by omega)
      generalize brg kd 3 = r at *
      obtain ⟨sk, hsk⟩ : ∃ sk, sl[k]? = some sk := ⟨_, List.getElem?_eq_getElem (by rw [hsl.out]; exact hk)⟩
      obtain ⟨⟨bv, X⟩, hb⟩ : ∃ e, bk[k]? = some e := ⟨_, List.getElem?_eq_getElem (by rw [hbk.out]; exact hk)⟩
      obtain ⟨j, G, hhs, hG, rfl, hGm, hXl⟩ := hA.out.at_ k bv X hb
      have HSK := Hid.mk' hsk
      have HBK := Hid.mk' hb
      have HHS := Hid.mk' hhs
      have HG := Hid.mk' hG
      have hl : Hid (σ.hs.length ≤ 1000) := Hid.mk' (by rw [← hA.out.len, hbk.out]; omega)
      have hkc : (k : Int) < (N : Int) := by omega
      clear hsk hb hhs hG
      go_wp2_with fail
      refine (cN _).mono ?_
      rintro e w5 ⟨rfl, hw5⟩
      have H5 := wr_start hH.out hw5
      unfold doC at H5
      have hd := do_at H5.out
      obtain ⟨e0, e1, e2, e3, e4, e5, e6⟩ := hd
      have hc1 := (H5.out.cellAt 2 rfl k (ptr sk) (by simp [HSK.out])).1
      unfold ptr at hc1
      obtain ⟨ax, cx, hbv⟩ := own_slice (row_at H5.out HBK.out)
      subst hbv
      obtain ⟨nx, hnx⟩ : ∃ n, n = G.B.length := ⟨_, rfl⟩
      rw [← hnx] at HBK hXl
      have HNX := Hid.mk' hnx.symm
      clear cN hw5 hH d0 d1 d2 d3 d4 d5 d6 hnx
      generalize wr.heap.size = db at *
      go_upto_region 15 with fail
      go_cut [61] from 34 to 113 (fun s61 wx => s61 = .bool (decide (r = 0 ∧ N < 10)) ∧ w5 = wx)
      case first =>
        go_wp2_with fail
        refine (c3 w5).mono ?_
        rintro e w6 ⟨rfl, rfl⟩
        by_cases hr0 : r = 0
        · subst hr0
          by_cases hN3 : N < 10
          · have hN3' : (N : Int) < 10 := by omega
            go_wp2_with fail
            go_meet
            exact ⟨by simp [hN3], rfl⟩
          · have hN3' : ¬ (N : Int) < 10 := by omega
            go_wp2_with fail
            go_meet
            exact ⟨by simp [hN3]; omega, rfl⟩
        · have hr0' : ¬ (r : Int) = 0 := by omega
          go_wp2_with fail
          go_meet
          exact ⟨by simp [hr0], rfl⟩
      case rest =>
      obtain ⟨rfl, rfl⟩ := hcut
      go_upto_if 61 with fail
      go_cut [7, 8, 12, 13] from 34 to 113 (fun s7 s8 s12 s13 wx => ∃ (N ga ca gb cb : Nat) (F : Nat → Prop) (sl pl : List Nat) (σ : St) (bk : List Bk), s7 = .slice (some ⟨ga, 0, none⟩) N ca ∧ s8 = .slice (some ⟨gb, 0, none⟩) N cb ∧ 1 ≤ N ∧ N ≤ 10 ∧ N ≤ ca ∧ N ≤ cb ∧ Hid (sl.length = N) ∧ Hid (bk.length = N) ∧ Hid (AInv σ bk (i + 1)) ∧ Hid (Heap W wx (apL W F sl pl σ ga ca gb cb N bk)))
      case first =>
        by_cases hcl : r = 0 ∧ N < 10
        · rw [show decide (r = 0 ∧ N < 10) = true from decide_eq_true hcl]
          obtain ⟨rfl, hN3⟩ := hcl
          clear e0 e1 e2 e3 e4 e5 e6
          go_wp2_with fail
          refine (sh_clone (H5.out.shs 1 rfl) HSK.out HHS.out hl.out).mono ?_
          rintro e w6 ⟨t, rfl, hnx⟩
          obtain ⟨F6, h6⟩ := H5.out.next1 hnx
          have H6 := Hid.mk' (h6.below ((Below.refl _ _).alloc (Nat.le_refl _) (.cells #[.pointer (some ⟨t, 0, none⟩)] 36)))
          have HOW : Hid ((w6.alloc (.cells #[.pointer (some ⟨t, 0, none⟩)] 36)).ownsRow W.heap.size 36 1 (.slice (some ⟨ga, 0, none⟩) N ca) N (sl.map ptr)) := H6.out.get (i := 2) rfl
          have HWS : Hid (W.heap.size ≤ (w6.alloc (.cells #[.pointer (some ⟨t, 0, none⟩)] 36)).heap.size) := H6.out.old.size
          have HNW : Hid (∀ j u, [ptr t][j]? = some u → (w6.alloc (.cells #[.pointer (some ⟨t, 0, none⟩)] 36)).cell? ((⟨w6.heap.size, 0, none⟩ : Addr).add j) = some u) := by
            intro j u hj
            cases j with
            | zero => simp at hj; subst hj; rw [addr_add]; simp [ptr]
            | succ j => simp at hj
          clear hnx h6 hc1
          go_wp2_with (at_builtin; go_loud (refine wpList_append_own2 rfl _ _ 25 rfl W.heap.size 36 i0 (.pointer none) 1 8 Try.underlying25 hi hz0 hz1 hz2 rfl (by decide) (.slice (some ⟨ga, 0, none⟩) N ca) N (sl.map ptr) rfl HOW.out ⟨w6.heap.size, 0, none⟩ 1 1 [ptr t] rfl (by simp) HNW.out (by intro u hu; simp at hu; subst hu; rfl) (by unfold maxLen; omega) (by omega) HWS.out ?_; intro v7 w7 hown7 hgr7 hob7; obtain ⟨g7, c7, hv7, hc7⟩ := own_some hown7 (by omega); subst hv7; have H7 : Hid (Heap W w7 (cellsT db #[.int .i64 kd, .int .i64 wh, .int .i64 x, .int .i64 sz, .int .i64 nn, .int .u64 v, .slice ba yl bc] 33 :: shT pgS F6 (sl ++ [t]) pl ⟨σ.hs ++ [some j], σ.gs⟩ :: rowT W.heap.size 36 1 (.slice (some ⟨g7, 0, none⟩) (N + 1) c7) (N + 1) (sl.map ptr ++ [ptr t]) :: rowT W.heap.size 22 1 (.slice (some ⟨gb, 0, none⟩) N cb) N (bk.map (·.1)) :: bk.map (rwT W))) := Hid.mk' (H6.out.grown 2 rfl hown7 hgr7 hob7); have hcb2 := (H7.out.cellAt 3 rfl k (.slice ax nx cx) (by simp [HBK.out])).1; clear hown7 hgr7 hob7 HOW HNW HWS H6))
          have hrow := H7.out.get (i := k + 4) (T := rwT W (.slice ax nx cx, G.B)) (by show (bk.map (rwT W))[k]? = _; rw [List.getElem?_map, HBK.out]; rfl)
          have hbsx : Bs w7 ax G.B := bs_rw hrow (sh_factsG (H7.out.shs 1 rfl) HG.out).1 (by rw [HNX.out]; omega)
          have hax : ax = none → cx = 0 := own_none hrow
          refine (copy_at ax nx cx G.B w7 HNX.out hbsx hax).mono ?_
          rintro e w8 ⟨v8, rfl, hown8, b8⟩
          obtain ⟨a8, c8, rfl⟩ := own_slice hown8
          have h8 := H7.out.push b8 (rwT W (.slice a8 nx c8, G.B)) (by show w8.ownsRow _ _ _ _ G.B.length _; rw [HNX.out]; exact ownsRow_base hown8 H7.out.old.size) (fun k hk => (hown8.lt k hk).1)
          have H8 := Hid.mk' (h8.below ((Below.refl _ _).alloc (Nat.le_refl _) (.cells #[.slice a8 nx c8] 22)))
          have HOW : Hid ((w8.alloc (.cells #[.slice a8 nx c8] 22)).ownsRow W.heap.size 22 1 (.slice (some ⟨gb, 0, none⟩) N cb) N (bk.map (·.1))) := H8.out.get (i := 3) rfl
          have HWS : Hid (W.heap.size ≤ (w8.alloc (.cells #[.slice a8 nx c8] 22)).heap.size) := H8.out.old.size
          have HNW : Hid (∀ j u, [Value.slice a8 nx c8][j]? = some u → (w8.alloc (.cells #[.slice a8 nx c8] 22)).cell? ((⟨w8.heap.size, 0, none⟩ : Addr).add j) = some u) := by
            intro j u hj
            cases j with
            | zero => simp at hj; subst hj; rw [addr_add]; simp
            | succ j => simp at hj
          clear hrow hbsx hax hown8 b8 h8 hcb2
          go_wp2_with (at_builtin; go_loud (refine wpList_append_own2 rfl _ _ 41 rfl W.heap.size 22 i1 (.slice none 0 0) 1 24 Try.underlying41 hi' hy0 hy1 hy2 rfl (by decide) (.slice (some ⟨gb, 0, none⟩) N cb) N (bk.map (·.1)) rfl HOW.out ⟨w8.heap.size, 0, none⟩ 1 1 [Value.slice a8 nx c8] rfl (by simp) HNW.out (by intro u hu; simp at hu; subst hu; rfl) (by unfold maxLen; omega) (by omega) HWS.out ?_; intro v9 w9 hown9 hgr9 hob9; obtain ⟨g9, c9, hv9, hc9⟩ := own_some hown9 (by omega); subst hv9; have H9 := Hid.mk' (H8.out.grown 3 rfl hown9 hgr9 hob9); clear hown9 hgr9 hob9 HOW HNW HWS H8))
          have H10 : Hid (Heap W w9 (apL W F6 (sl ++ [t]) pl ⟨σ.hs ++ [some j], σ.gs⟩ g7 c7 g9 c9 (N + 1) (bk ++ [(.slice a8 nx c8, G.B)]))) := by
            have := H9.out.tail
            unfold apL
            rw [List.map_append, List.map_append, List.map_append]; exact this
          have A10 : Hid (AInv ⟨σ.hs ++ [some j], σ.gs⟩ (bk ++ [(.slice a8 nx c8, G.B)]) (i + 1)) := (hA.out.clone HHS.out HBK.out _).more (by omega)
          clear H9 H7
          go_meet
          exact ⟨N + 1, g7, c7, g9, c9, F6, sl ++ [t], pl, _, _, rfl, rfl, by omega, by omega, hc7, hc9, Hid.mk' (by rw [List.length_append, hsl.out]; rfl), Hid.mk' (by rw [List.length_append, hbk.out]; rfl), A10, H10⟩
        · rw [show decide (r = 0 ∧ N < 10) = false from decide_eq_false hcl]
          have key := written_any W w5.drew F sl pl σ ga ca gb cb N i k sk bk kd wh x sz nn v ba yl bc (H5.out.tail.below ((Below.refl _ _).drew)) hA.out (by omega) (by omega) hbk.out HSK.out hk hx hnn hv.1 hv.2
          have KEY := Hid.mk' key
          clear key hcl
          go_wp2_with fail
          go_region_with (go_at_call 16; refine KEY.out.mono ?_; rintro e w6 ⟨rfl, hW6⟩; have W6 := Hid.mk' hW6; clear hW6)
          all_goals
            obtain ⟨F6, pl6, σ6, bk6, h6, a6⟩ := W6.out
            have H6 := Hid.mk' h6
            have A6 := Hid.mk' a6
            clear h6 a6 W6
            go_wp2_with fail
            go_meet
            exact ⟨N, ga, ca, gb, cb, F6, sl, pl6, σ6, bk6, rfl, rfl, by omega, by omega, by omega, by omega, hsl, Hid.mk' (by rw [A6.out.len, ← (H6.out.shs 0 rfl).len]; exact hsl.out), A6, H6⟩
      case rest =>
        clear H5 hA hsl hbk HSK HBK HHS HG hl hc1 e0 e1 e2 e3 e4 e5 e6 HNX
        obtain ⟨N2, ga2, ca2, gb2, cb2, F2, sl2, pl2, σ2, bk2, rfl, rfl, hM1, hM2, hca2, hcb2, hsl, hbk, hA, hH⟩ := hcut
        go_wp2_with fail
        go_loopg [14] N2 (fun f s14 wy => ∃ m : Nat, s14 = .int .i64 m ∧ m ≤ N2 ∧ N2 - m ≤ f ∧ Hid (Heap W wy (apL W F2 sl2 pl2 σ2 ga2 ca2 gb2 cb2 N2 bk2)))
        case atStart => exact ⟨0, rfl, by omega, by omega, hH⟩
        case round =>
          clear hH
          obtain ⟨m, rfl, hm1, hm2, hH⟩ := hrel
          by_cases hm : m < N2
          · have hsp4 : (m : Int) < (N2 : Int) := by omega
            obtain ⟨sm, hsm⟩ : ∃ sk, sl2[m]? = some sk := ⟨_, List.getElem?_eq_getElem (by rw [hsl.out]; exact hm)⟩
            obtain ⟨⟨bv, X⟩, hb⟩ : ∃ e, bk2[m]? = some e := ⟨_, List.getElem?_eq_getElem (by rw [hbk.out]; exact hm)⟩
            obtain ⟨jm, Gm, hhs, hG, rfl, -, hXl⟩ := hA.out.at_ m bv X hb
            have hrow : wr.ownsRow W.heap.size 5 1 bv Gm.B.length (Gm.B.map (Value.int .u8)) := hH.out.get (i := m + 3) (T := rwT W (bv, Gm.B)) (by show (bk2.map (rwT W))[m]? = _; rw [List.getElem?_map, hb]; rfl)
            obtain ⟨ax, cx, rfl⟩ := own_slice hrow
            have hby := (sh_factsG (hH.out.shs 0 rfl) hG).1
            have hbsx : Bs wr ax Gm.B := bs_rw hrow hby (by omega)
            have hc1 := (hH.out.cellAt 1 rfl m (ptr sm) (by simp [hsm])).1
            unfold ptr at hc1
            have hc2 := (hH.out.cellAt 2 rfl m (.slice ax Gm.B.length cx) (by simp [hb])).1
            have key := sh_bytes ((hH.out.below ((Below.refl _ _).drew)).shs 0 rfl) hsm hhs hG
            have KEY := Hid.mk' key
            have HBX := Hid.mk' hbsx
            have HBY := Hid.mk' hby
            have hlx : Hid (Gm.B.length ≤ 140737488355328) := Hid.mk' (by omega)
            have b1 := lt_of_cell hc1
            have b2 := lt_of_cell hc2
            clear key hrow hbsx hby hsm hb hhs hG
            obtain ⟨nx, hnx⟩ : ∃ n, n = Gm.B.length := ⟨_, rfl⟩
            rw [← hnx] at hc2 KEY
            have HNX := Hid.mk' hnx.symm
            clear hnx
            go_wp2_with fail
            go_region_held3 (fun w' => w'.cell? ⟨ga2, m, none⟩ = some (.pointer (some ⟨sm, 0, none⟩)) ∧ w'.cell? ⟨gb2, m, none⟩ = some (.slice ax nx cx)) (go_keep) (first | (go_at_call 18; refine KEY.out.mono ?_; rintro e w6 ⟨v6, rfl, hown6, b6⟩; obtain ⟨a6, c6, rfl⟩ := own_slice hown6; have b6 := ((Below.refl wr.heap.size wr).drew).trans b6; have L6 := Hid.mk' b6; have O6 := Hid.mk' hown6; have t1 := (b6.cell (p := ⟨ga2, m, none⟩) b1).trans hc1; have t2 := (b6.cell (p := ⟨gb2, m, none⟩) b2).trans hc2; clear b6 hown6) | (go_at_call 17; refine (eq_same4 a6 ax nx c6 cx Gm.B w6 HNX.out (bs_rw (by rw [HNX.out]; exact O6.out) HBY.out hlx.out) (HBX.out.below L6.out)).mono ?_; rintro e w7 ⟨rfl, d7⟩; have D7 := Hid.mk' d7; have u1 := (d7.cell _).trans t1; have u2 := (d7.cell _).trans t2; clear d7))
            all_goals
              have H7 := Hid.mk' ((hH.out.below L6.out).dr' D7.out)
              clear L6 D7 O6
              go_wp2_with fail
              go_roundg (N2 - (m + 1))
              case measure => omega
              case rel => exact ⟨m + 1, by go_num, by omega, by omega, H7⟩
          · go_wp2_with fail
            go_roundg (100 - (i + 1))
            case measure => omega
            case rel => exact ⟨N2, i + 1, ga2, ca2, gb2, cb2, F2, sl2, pl2, σ2, bk2, rfl, rfl, by go_num, by omega, by omega, by omega, by omega, by omega, by omega, by omega, hsl, hbk, hA, hH⟩
    · go_wp2_with fail
      all_goals
        go_ret
        exact ⟨rfl, hH.out.old⟩

theorem walkShareApart (a0 : Option Addr) (c0 : Nat) (zs : List Int) (a1 : Option Addr) (c1 : Nat) (xs : List sh33.M) (W : World) (h0 : Bs W a0 zs) (n0 : (a0 = none → c0 = 0) ∧ zs.length ≤ c0) (o1 : SlOk sh33 W a1 c1 xs) (l1 : xs.length ≤ 140737488351232) (u0 : zs.length ≤ 140737488351232) :
    Calls Try.prog 4 #[.slice a0 zs.length c0, .slice a1 xs.length c1] W fun e w' => e = .returned (.bool true) ∧ Below W.heap.size W w' :=
  apart_walk a0 c0 zs a1 c1 xs W h0 n0 o1 l1 u0
end Go.Proofs.Ytbinedhgjmfceaa
