/- The walk of the statement ShareCounts. -/
import Derived.Test.YtbinedhgjmfceaaHj
import Derived.Test.YtbinedhgjmfceaaBv
import Derived.Test.YtbinedhgjmfceaaBi
import Derived.Test.YtbinedhgjmfceaaSp
import Derived.Deep.CutRange
import Derived.Deep.CutBlock
namespace Go.Proofs.Ytbinedhgjmfceaa
open Go.ChangeShapes Go.WideShapes Go.ChangeAt Go.RowKit

def ptr (s : Nat) : Value := .pointer (some ⟨s, 0, none⟩)

theorem info_ptr : (Try.prog.info? 36).map (fun i => (i.zero, i.size, i.bytes)) = some (some (.pointer none), 1, 8) := by kernel_rfl
theorem info_i64 : (Try.prog.info? 3).map (fun i => (i.zero, i.size, i.bytes)) = some (some (.int .i64 0), 1, 8) := by kernel_rfl

/-- make of n integers. -/
theorem make_ints (n : Nat) (hn : n ≤ 1000000) : ∀ u : World, (Instr.makeSlice 47 (.int .i64 n) (.int .i64 n)).run Try.prog u =
    .ok (.slice (some ⟨u.heap.size, 0, none⟩) n n) (u.alloc (.cells (List.replicate n (Value.int .i64 0)).toArray 3)) := by
  intro u
  obtain ⟨i0, hi, hz0, hz1, hz2⟩ := info_parts info_i64
  have h := run_make (P := Try.prog) u 47 3 i0 (.int .i64 0) Try.underlying47 hi hz0 .i64 .i64 n n (by omega) (Int.le_refl _) (by rw [hz2]; omega) (by omega)
  have e : madeCells #[.int .i64 0] n = (List.replicate n (Value.int .i64 0)).toArray := by
    apply Array.toList_inj.1
    rw [toList_madeCells_one]
  simpa [hz1, Value.cells, e] using h

abbrev g3 : Gr := ⟨[1, 2, 3], 64, 64, 0⟩

theorem int_cell {W : World} {a : Option Addr} {c : Nat} {xs : List Int} (h : SlOk sh3 W a c xs) (i : Nat) (hi : i < xs.length) :
    ∃ (b off : Nat) (x : Int), a = some ⟨b, off, none⟩ ∧ W.cell? ⟨b, off + i, none⟩ = some (.int .i64 x) ∧ b < W.heap.size ∧ (-9223372036854775808 ≤ x ∧ x ≤ 9223372036854775807) := by
  obtain ⟨_, h2, h3⟩ := h
  rcases h2 with h0 | ⟨b, off, rfl, hc⟩
  · exact absurd hi (by rw [show xs.length = 0 from h0]; omega)
  · have hx : xs[i]? = some xs[i] := List.getElem?_eq_getElem hi
    generalize xs[i] = m at hx
    have q := hc i m hx 0 (.int .i64 m) rfl
    have e : off + i * sh3.n + 0 = off + i := by show off + i * 1 + 0 = off + i; omega
    rw [e] at q
    exact ⟨b, off, m, rfl, q, lt_of_cell q, bounds_i64 (h3 m (List.mem_of_getElem? hx))⟩

set_option maxHeartbeats 4000000 in
set_option maxRecDepth 100000 in
theorem counts_walk (n : Int) (a : Option Addr) (c : Nat) (xs : List Int) (W : World) (hn : -9223372036854775808 ≤ n ∧ n ≤ 9223372036854775807) (o : SlOk sh3 W a c xs) (l : xs.length ≤ 140737488351232) :
    Calls Try.prog 5 #[.int .i64 n, .slice a xs.length c] W fun e w' => e = .returned (.bool true) ∧ Below W.heap.size W w' := by
  have HO := Hid.mk' o
  clear o
  obtain ⟨ln, hln⟩ : ∃ n, n = xs.length := ⟨_, rfl⟩
  rw [← hln] at l ⊢
  have HLN := Hid.mk' hln.symm
  clear hln
  obtain ⟨i0, hi, hz0, hz1, hz2⟩ := info_parts info_ptr
  have c20 := fun u => brg_any n 20 u (by omega) (by omega) hn.1 hn.2
  have h20 := brg_lt n 20 (by omega)
  generalize brg n 20 = K at *
  go_enter Try.func5, Try.ntmps5
  go_wp2_with fail
  refine (awake4 W).mono ?_
  rintro e w1 ⟨rfl, b1⟩
  have h0 := ((Heap.start W pgS).below b1).below ((Below.refl _ _).alloc (Nat.le_refl _) (.cells #[.int .u8 1, .int .u8 2, .int .u8 3] 5))
  have key := sh_new (some ⟨w1.heap.size, 0, none⟩) 3 3 [1, 2, 3] (h0.shs 0 rfl) rfl (bs_new w1 [1, 2, 3] 5 (by unfold Bytes; simp) (by simp)) (by omega)
  have H0 := Hid.mk' h0
  clear h0 b1
  go_wp2_with fail
  refine key.mono ?_
  rintro e w2 ⟨s, p, rfl, -, -, hnx⟩
  obtain ⟨F1, h1⟩ := H0.out.next 0 rfl hnx
  have h1' : Heap W w2 [shT pgS F1 [s] [p] ⟨[some 0], [g3]⟩] := h1
  have h2 := h1'.lit 36 #[ptr s] 1 (by omega) rfl
  have H2 : Hid (Heap W (w2.alloc (.cells #[.pointer (some ⟨s, 0, none⟩)] 36)) [shT pgS F1 [s] [p] ⟨List.replicate 1 (some 0), [g3]⟩, rowT W.heap.size 36 1 (.slice (some ⟨w2.heap.size, 0, none⟩) 1 1) 1 ([s].map ptr)]) := h2
  clear key hnx h1 h1' h2 H0
  go_wp2_with fail
  go_loopg [7, 8] 20 (fun f s7 s8 wr => ∃ (N i g c : Nat) (F : Nat → Prop) (sl pl : List Nat), s7 = .slice (some ⟨g, 0, none⟩) N c ∧ s8 = .int .i64 i ∧ N ≤ i + 1 ∧ i + 1 ≤ N ∧ i ≤ 20 ∧ 20 - i ≤ f ∧ N ≤ c ∧ Hid (sl.length = N) ∧ Hid (Heap W wr [shT pgS F sl pl ⟨List.replicate N (some 0), [g3]⟩, rowT W.heap.size 36 1 (.slice (some ⟨g, 0, none⟩) N c) N (sl.map ptr)]))
  case atStart => exact ⟨1, 0, _, 1, F1, [s], [p], rfl, rfl, by omega, by omega, by omega, by omega, by omega, rfl, H2⟩
  case round =>
    clear H2
    obtain ⟨N, i, g, cp, F, sl, pl, rfl, rfl, hN1, hN2, hi20, hf, hcp, hsl, hH⟩ := hrel
    go_wp2_with fail
    refine (c20 wr).mono ?_
    rintro e w3 ⟨rfl, rfl⟩
    by_cases hlt : i < K
    · have hsp : (i : Int) < (K : Int) := by omega
      have cN := brg_any ((i : Int) * 7) N wr (by omega) (by omega) (by omega) (by omega)
      have hq := brg_lt ((i : Int) * 7) N (by omega)
      generalize brg ((i : Int) * 7) N = q at *
      have hqs : q < sl.length := by rw [hsl.out]; exact hq
      obtain ⟨sq, hsq⟩ : ∃ sq, sl[q]? = some sq := ⟨_, List.getElem?_eq_getElem hqs⟩
      have hcell := (hH.out.cellAt 1 rfl q (ptr sq) (by simp [hsq])).1
      unfold ptr at hcell
      have HSQ := Hid.mk' hsq
      have hsp2 : (q : Int) < (N : Int) := by omega
      clear hsq hqs
      go_wp2_with fail
      refine cN.mono ?_
      rintro e w4 ⟨rfl, rfl⟩
      go_wp2_with fail
      refine (sh_clone (i := q) (j := 0) (hH.out.shs 0 rfl) HSQ.out (by show (List.replicate N (some 0))[q]? = some (some 0); rw [List.getElem?_replicate, if_pos hq]) (by show (List.replicate N (some 0)).length ≤ 1000; rw [List.length_replicate]; omega)).mono ?_
      rintro e w4 ⟨t, rfl, hnx⟩
      obtain ⟨F2, h2⟩ := hH.out.next 0 rfl hnx
      have h2' : Heap W w4 [shT pgS F2 (sl ++ [t]) pl ⟨List.replicate N (some 0) ++ [some 0], [g3]⟩, rowT W.heap.size 36 1 (.slice (some ⟨g, 0, none⟩) N cp) N (sl.map ptr)] := h2
      rw [show List.replicate N (some 0) ++ [some 0] = List.replicate (N + 1) (some 0) from List.replicate_succ'.symm] at h2'
      have H2 := Hid.mk' (h2'.below ((Below.refl _ _).alloc (Nat.le_refl _) (.cells #[.pointer (some ⟨t, 0, none⟩)] 36)))
      have HOW : Hid ((w4.alloc (.cells #[.pointer (some ⟨t, 0, none⟩)] 36)).ownsRow W.heap.size 36 1 (.slice (some ⟨g, 0, none⟩) N cp) N (sl.map ptr)) := H2.out.get (i := 1) rfl
      have HWS : Hid (W.heap.size ≤ (w4.alloc (.cells #[.pointer (some ⟨t, 0, none⟩)] 36)).heap.size) := H2.out.old.size
      have HNW : Hid (∀ j u, [ptr t][j]? = some u → (w4.alloc (.cells #[.pointer (some ⟨t, 0, none⟩)] 36)).cell? ((⟨w4.heap.size, 0, none⟩ : Addr).add j) = some u) := by
        intro j u hj
        cases j with
        | zero => simp at hj; subst hj; rw [addr_add]; simp [ptr]
        | succ j => simp at hj
      clear hnx h2 h2' hcell hH
      go_wp2_with (at_builtin; go_loud (refine wpList_append_own2 rfl _ _ 25 rfl W.heap.size 36 i0 (.pointer none) 1 8 Try.underlying25 hi hz0 hz1 hz2 rfl (by decide) (.slice (some ⟨g, 0, none⟩) N cp) N (sl.map ptr) rfl HOW.out ⟨w4.heap.size, 0, none⟩ 1 1 [ptr t] rfl (by simp) HNW.out (by intro u hu; simp at hu; subst hu; rfl) (by unfold maxLen; omega) (by omega) HWS.out ?_; intro v5 w5 hown5 hgr5 hob5; obtain ⟨g5, c5, hv5, hc5⟩ := own_some hown5 (by omega); subst hv5; have H5 := Hid.mk' (H2.out.grown 1 rfl hown5 hgr5 hob5); clear hown5 hgr5 hob5 HOW HNW HWS H2))
      have H6 : Hid (Heap W w5 [shT pgS F2 (sl ++ [t]) pl ⟨List.replicate (N + 1) (some 0), [g3]⟩, rowT W.heap.size 36 1 (.slice (some ⟨g5, 0, none⟩) (N + 1) c5) (N + 1) ((sl ++ [t]).map ptr)]) := by
        have := H5.out
        rw [List.map_append]; exact this
      clear H5
      go_roundg (20 - (i + 1))
      case measure => omega
      case rel => exact ⟨N + 1, i + 1, g5, c5, F2, sl ++ [t], pl, rfl, by go_num, by omega, by omega, by omega, by omega, hc5, Hid.mk' (by rw [List.length_append, hsl.out]; rfl), H6⟩
    · have hmk := make_ints N (by omega)
      have hN3 : N ≤ 21 := by omega
      have h2 := hH.out.lit 3 (List.replicate N (Value.int .i64 0)).toArray N (by omega) (by simp)
      have HS : Hid (Heap W (wr.alloc (.cells (List.replicate N (Value.int .i64 0)).toArray 3)) [shT pgS F sl pl ⟨List.replicate N (some 0), [g3]⟩, rowT W.heap.size 36 1 (.slice (some ⟨g, 0, none⟩) N cp) N (sl.map ptr), rowT W.heap.size 3 1 (.slice (some ⟨wr.heap.size, 0, none⟩) N N) N ((List.replicate N 0).map fun x : Nat => Value.int .i64 x)]) := by
        rw [List.map_replicate]; exact h2
      have HC : Hid (CInv ⟨List.replicate N (some 0), [g3]⟩ (List.replicate N 0) N) := by
        refine ⟨by simp, fun k x o e1 e2 => ?_, ?_, fun j G e => ?_, by simp, fun i j e => ?_⟩
        · rw [List.getElem?_replicate] at e1 e2
          split at e1
          · simp at e1; rw [if_pos (by assumption)] at e2; simp at e2; exact .inl ⟨e1.symm, e2.symm⟩
          · cases e1
        · unfold many; simp
        · cases j with
          | zero => simp at e; subst e; rfl
          | succ j => simp at e
        · rw [List.getElem?_replicate] at e
          split at e
          · simp at e; subst e; simp
          · cases e
      have hsz : wr.heap.size < (wr.alloc (.cells (List.replicate N (Value.int .i64 0)).toArray 3)).heap.size := by simp
      generalize (List.replicate N (Value.int .i64 0)).toArray = Z at *
      clear h2 hH hsz
      go_wp2_with fail
      generalize wr.alloc (.cells Z 3) = wz at *
      generalize wr.heap.size = gz at *
      go_loopg [12, 13] 60 (fun f s12 s13 wx => ∃ (i sh : Nat) (F : Nat → Prop) (pl : List Nat) (σ : St) (st : List Nat), s12 = .int .i64 sh ∧ s13 = .int .i64 i ∧ i ≤ ln ∧ i ≤ 60 ∧ 60 - i ≤ f ∧ sh ≤ 1000 ∧ Hid (CInv σ st sh) ∧ Hid (st.length = N) ∧ Hid (Heap W wx [shT pgS F sl pl σ, rowT W.heap.size 36 1 (.slice (some ⟨g, 0, none⟩) N cp) N (sl.map ptr), rowT W.heap.size 3 1 (.slice (some ⟨gz, 0, none⟩) N N) N (st.map fun x : Nat => Value.int .i64 x)]))
      case atStart => exact ⟨0, N, F, pl, _, List.replicate N 0, rfl, rfl, by omega, by omega, by omega, by omega, HC, (List.length_replicate : _), HS⟩
      case round =>
        clear HS HC hmk
        obtain ⟨i', sh, F', pl', σ, st, rfl, rfl, hi1, hi2, hf2, hsh, hC, hst, hH⟩ := hrel
        by_cases hin : i' < ln ∧ i' < 60
        · obtain ⟨hin1, hin2⟩ := hin
          have hsp : (i' : Int) < (ln : Int) := by omega
          have hsp2 : (i' : Int) < 60 := by omega
          obtain ⟨b, off, x, rfl, q0, hbl, hx⟩ := int_cell HO.out i' (by rw [HLN.out]; exact hin1)
          have d0 := (hH.out.old.cell (p := ⟨b, off + i', none⟩) hbl).trans q0
          have Q0 := Hid.mk' q0
          have cN := brg_any x N wr (by omega) (by omega) hx.1 hx.2
          have hq := brg_lt x N (by omega)
          generalize brg x N = k at *
          obtain ⟨sk, hsk⟩ : ∃ sk, sl[k]? = some sk := ⟨_, List.getElem?_eq_getElem (by rw [hsl.out]; exact hq)⟩
          obtain ⟨z, o, hz, ho⟩ := hC.out.get (k := k) (by rw [hst.out]; exact hq)
          have hc1 := (hH.out.cellAt 1 rfl k (ptr sk) (by simp [hsk])).1
          unfold ptr at hc1
          obtain ⟨hc2, hf2⟩ := hH.out.cellAt 2 rfl k (.int .i64 z) (by simp [hz])
          have HSK := Hid.mk' hsk
          have HZ := Hid.mk' hz
          have HOO := Hid.mk' ho
          have hsp3 : (k : Int) < (N : Int) := by omega
          have hlen : Hid (σ.hs.length ≤ 1000) := by
            have := hC.out.len
            rw [hst.out] at this
            show σ.hs.length ≤ 1000
            omega
          clear hsk hz ho q0
          go_wp2_with fail
          refine cN.mono ?_
          rintro e w6 ⟨rfl, rfl⟩
          clear cN
          go_upto_if 79 with fail
          go_cut [6, 12] from 57 to 153 (fun s6 s12 wx => ∃ (sh2 : Nat) (F2 : Nat → Prop) (pl2 : List Nat) (σ2 : St) (st2 : List Nat), s12 = .int .i64 sh2 ∧ sh2 ≤ 1000 ∧ Hid (CInv σ2 st2 sh2) ∧ Hid (st2.length = N) ∧ Hid (Heap W wx [shT pgS F2 sl pl2 σ2, rowT W.heap.size 36 1 (.slice (some ⟨g, 0, none⟩) N cp) N (sl.map ptr), rowT W.heap.size 3 1 (.slice (some ⟨gz, 0, none⟩) N N) N (st2.map fun x : Nat => Value.int .i64 x)]))
          case first =>
            have HAT := Hid.mk' (hC.out.at_ k z o HZ.out HOO.out)
            by_cases hev : x.tmod 2 = 0
            · by_cases h1 : z = 1
              · subst h1
                have hgo : o = none := by rcases HAT.out with ⟨e, _⟩ | ⟨_, e⟩ | ⟨e, _⟩
                                          · omega
                                          · exact e
                                          · omega
                subst hgo
                have key := free_bad _ 40 wr (sh_bad (hH.out.shs 0 rfl) HSK.out HOO.out)
                have hst1 := hH.out.stored 2 rfl k (.int .i64 1)
                have hset : st.set k 1 = st := by
                  obtain ⟨hlt, he⟩ := List.getElem?_eq_some_iff.1 HZ.out
                  conv => lhs; rw [← he]
                  exact List.set_getElem_self hlt
                have H2 : Hid (Heap W (wr.setCell ⟨gz, k, none⟩ (.int .i64 1)) [shT pgS F' sl pl' σ, rowT W.heap.size 36 1 (.slice (some ⟨g, 0, none⟩) N cp) N (sl.map ptr), rowT W.heap.size 3 1 (.slice (some ⟨gz, 0, none⟩) N N) N (st.map fun x : Nat => Value.int .i64 x)]) := by
                  conv => arg 1; rw [← hset]
                  rw [List.map_set]; exact hst1
                clear hst1 hset HAT
                go_wp2_with fail
                refine key.mono ?_
                rintro e w7 ⟨rfl, rfl⟩
                clear key
                go_wp2_with fail
                go_meet
                exact ⟨sh, F', pl', σ, st, rfl, hsh, hC, hst, H2⟩
              · obtain ⟨j, hj⟩ : ∃ j, o = some j := by
                  rcases HAT.out with ⟨_, e⟩ | ⟨e, _⟩ | ⟨_, j, e, _⟩
                  · exact ⟨0, e⟩
                  · exact absurd e h1
                  · exact ⟨j, e⟩
                subst hj
                have key := sh_free (hH.out.shs 0 rfl) HSK.out HOO.out hlen.out
                have hC2 := hC.out.free HZ.out HOO.out
                have hz1' : ((z : Int) != 1) = true := by simp; omega
                go_wp2_with fail
                refine key.mono ?_
                rintro e w7 ⟨rfl, hnx⟩
                obtain ⟨F2, h2⟩ := hH.out.next 0 rfl hnx
                have H2 := Hid.mk' h2
                obtain ⟨hc3, hf3⟩ := H2.out.cellAt 2 rfl k (.int .i64 z) (by simp [HZ.out])
                have hst1 := H2.out.stored 2 rfl k (.int .i64 1)
                have H3 : Hid (Heap W (w7.setCell ⟨gz, k, none⟩ (.int .i64 1)) [shT pgS F2 sl pl' ⟨σ.hs.set k none, σ.gs⟩, rowT W.heap.size 36 1 (.slice (some ⟨g, 0, none⟩) N cp) N (sl.map ptr), rowT W.heap.size 3 1 (.slice (some ⟨gz, 0, none⟩) N N) N ((st.set k 1).map fun x : Nat => Value.int .i64 x)]) := by
                  rw [List.map_set]; exact hst1
                have hstl : Hid ((st.set k 1).length = N) := Hid.mk' (by rw [List.length_set]; exact hst.out)
                clear key hnx h2 hst1 HAT hc2 hf2
                by_cases h0 : z = 0
                · subst h0
                  rw [if_pos rfl] at hC2
                  have hp := many_pos HOO.out
                  have hj0 : j = 0 := by
                    rcases hC.out.at_ k 0 _ HZ.out HOO.out with ⟨_, e⟩ | ⟨e, _⟩ | ⟨e, _⟩
                    · simpa using e
                    · omega
                    · omega
                  subst hj0
                  have hsh1 := hC.out.sh_
                  have hsh2 : 1 ≤ sh := by omega
                  have HC2 := Hid.mk' hC2
                  clear hC2 hsh1 hp
                  go_wp2_with fail
                  go_meet
                  exact ⟨sh - 1, F2, pl', _, st.set k 1, congrArg (Value.int .i64) (by omega), by omega, HC2, hstl, H3⟩
                · rw [if_neg h0] at hC2
                  have HC2 := Hid.mk' hC2
                  clear hC2
                  have h0' : ¬ (z : Int) = 0 := by omega
                  go_wp2_with fail
                  go_meet
                  exact ⟨sh, F2, pl', _, st.set k 1, rfl, by omega, HC2, hstl, H3⟩
            · by_cases h1 : z = 1
              · subst h1
                have hgo : o = none := by rcases HAT.out with ⟨e, _⟩ | ⟨_, e⟩ | ⟨e, _⟩
                                          · omega
                                          · exact e
                                          · omega
                subst hgo
                have key := sstore_bad _ 40 0 1 7 wr (sh_bad (hH.out.shs 0 rfl) HSK.out HOO.out)
                clear HAT
                go_wp2_with fail
                refine key.mono ?_
                rintro e w7 ⟨rfl, rfl⟩
                clear key
                go_wp2_with fail
                go_meet
                exact ⟨sh, F', pl', σ, st, rfl, hsh, hC, hst, hH⟩
              · obtain ⟨j, hj⟩ : ∃ j, o = some j := by
                  rcases HAT.out with ⟨_, e⟩ | ⟨e, _⟩ | ⟨_, j, e, _⟩
                  · exact ⟨0, e⟩
                  · exact absurd e h1
                  · exact ⟨j, e⟩
                subst hj
                obtain ⟨G, hG⟩ : ∃ G, σ.gs[j]? = some G := ⟨_, List.getElem?_eq_getElem (hC.out.rng k j HOO.out)⟩
                have key := sh_store 0 1 7 (hH.out.shs 0 rfl) HSK.out HOO.out hG hlen.out (by omega) (by omega) (by omega) (by omega)
                have hask : askE G.B.length 0 1 = 0 := by rw [hC.out.bs j G hG]; decide
                rw [hask] at key
                have hC2 := hC.out.store HZ.out HOO.out hG
                have hz1' : ((z : Int) != 1) = true := by simp; omega
                clear hask hG
                go_wp2_with fail
                refine key.mono ?_
                rintro e w7 ⟨rfl, pl2, hnx⟩
                obtain ⟨F2, h2⟩ := hH.out.next 0 rfl hnx
                have H2 : Hid (Heap W w7 [shT pgS F2 sl pl2 (σ.store k j G 0 1 7), rowT W.heap.size 36 1 (.slice (some ⟨g, 0, none⟩) N cp) N (sl.map ptr), rowT W.heap.size 3 1 (.slice (some ⟨gz, 0, none⟩) N N) N (st.map fun x : Nat => Value.int .i64 x)]) := h2
                obtain ⟨hc3, hf3⟩ := H2.out.cellAt 2 rfl k (.int .i64 z) (by simp [HZ.out])
                have hst1 := H2.out.stored 2 rfl k (.int .i64 2)
                have H3 : Hid (Heap W (w7.setCell ⟨gz, k, none⟩ (.int .i64 2)) [shT pgS F2 sl pl2 (σ.store k j G 0 1 7), rowT W.heap.size 36 1 (.slice (some ⟨g, 0, none⟩) N cp) N (sl.map ptr), rowT W.heap.size 3 1 (.slice (some ⟨gz, 0, none⟩) N N) N ((st.set k 2).map fun x : Nat => Value.int .i64 x)]) := by
                  rw [List.map_set]; exact hst1
                have hstl : Hid ((st.set k 2).length = N) := Hid.mk' (by rw [List.length_set]; exact hst.out)
                clear key hnx h2 hst1 HAT hc2 hf2
                by_cases h0 : z = 0
                · subst h0
                  by_cases hs1 : 1 < sh
                  · rw [if_pos ⟨rfl, hs1⟩, if_pos ⟨rfl, hs1⟩] at hC2
                    have HC2 := Hid.mk' hC2
                    clear hC2
                    have hs1' : (1 : Int) < (sh : Int) := by omega
                    go_wp2_with fail
                    go_meet
                    exact ⟨sh - 1, F2, pl2, _, st.set k 2, congrArg (Value.int .i64) (by omega), by omega, HC2, hstl, H3⟩
                  · rw [if_neg (fun e => hs1 e.2), if_neg (fun e => hs1 e.2)] at hC2
                    have HC2 := Hid.mk' hC2
                    clear hC2
                    have hs1' : ¬ (1 : Int) < (sh : Int) := by omega
                    go_wp2_with fail
                    go_meet
                    exact ⟨sh, F2, pl2, _, st, rfl, by omega, HC2, hst, H2⟩
                · rw [if_neg (fun e => h0 e.1), if_neg (fun e => h0 e.1)] at hC2
                  have HC2 := Hid.mk' hC2
                  clear hC2
                  have h0' : ¬ (z : Int) = 0 := by omega
                  go_wp2_with fail
                  go_meet
                  exact ⟨sh, F2, pl2, _, st, rfl, by omega, HC2, hst, H2⟩
          case rest =>
            clear hC hst hH HZ HOO HSK hlen hc1 hc2 hf2 d0
            obtain ⟨sh2, F2, pl2, σ2, st2, rfl, hsh2, hC, hst, hH⟩ := hcut
            go_wp2_with fail
            go_loopg [15] N (fun f s15 wy => ∃ m : Nat, s15 = .int .i64 m ∧ m ≤ N ∧ N - m ≤ f ∧ wc = wy)
            case atStart => exact ⟨0, rfl, by omega, by omega, rfl⟩
            case round =>
              obtain ⟨m, rfl, hm1, hm2, rfl⟩ := hrel
              by_cases hm : m < N
              · have hsp4 : (m : Int) < (N : Int) := by omega
                obtain ⟨sm, hsm⟩ : ∃ sk, sl[m]? = some sk := ⟨_, List.getElem?_eq_getElem (by rw [hsl.out]; exact hm)⟩
                obtain ⟨z, o, hz, ho⟩ := hC.out.get (k := m) (by rw [hst.out]; exact hm)
                have hc1 := (hH.out.cellAt 1 rfl m (ptr sm) (by simp [hsm])).1
                unfold ptr at hc1
                obtain ⟨hc2, hf2⟩ := hH.out.cellAt 2 rfl m (.int .i64 z) (by simp [hz])
                rcases hC.out.at_ m z o hz ho with ⟨rfl, rfl⟩ | ⟨rfl, rfl⟩ | ⟨rfl, j, rfl, hj, hmj⟩
                · have key := sh_count (hH.out.shs 0 rfl) hsm ho
                  rw [← hC.out.sh_] at key
                  clear hsm hz ho
                  go_wp2_with fail
                  refine key.mono ?_
                  rintro e w7 ⟨rfl, rfl⟩
                  clear key
                  go_wp2_with fail
                  go_roundg (N - (m + 1))
                  case measure => omega
                  case rel => exact ⟨m + 1, by go_num, by omega, by omega, rfl⟩
                · have key := count_bad _ 40 wc (sh_bad (hH.out.shs 0 rfl) hsm ho)
                  clear hsm hz ho
                  go_wp2_with fail
                  refine key.mono ?_
                  rintro e w7 ⟨rfl, rfl⟩
                  clear key
                  go_wp2_with fail
                  go_roundg (N - (m + 1))
                  case measure => omega
                  case rel => exact ⟨m + 1, by go_num, by omega, by omega, rfl⟩
                · have key := sh_count (hH.out.shs 0 rfl) hsm ho
                  rw [hmj] at key
                  clear hsm hz ho hmj
                  go_wp2_with fail
                  refine key.mono ?_
                  rintro e w7 ⟨rfl, rfl⟩
                  clear key
                  go_wp2_with fail
                  go_roundg (N - (m + 1))
                  case measure => omega
                  case rel => exact ⟨m + 1, by go_num, by omega, by omega, rfl⟩
              · go_wp2_with fail
                go_roundg (60 - (i' + 1))
                case measure => omega
                case rel => exact ⟨i' + 1, sh2, F2, pl2, σ2, st2, rfl, by go_num, by omega, by omega, by omega, hsh2, hC, hst, hH⟩
        · go_wp2_with fail
          all_goals
            go_ret
            exact ⟨rfl, hH.out.old⟩

theorem walkShareCounts (n : Int) (a1 : Option Addr) (c1 : Nat) (xs : List sh3.M) (W : World) (h0 : (Lit.int .i64 n).wf = true) (o1 : SlOk sh3 W a1 c1 xs) (l1 : xs.length ≤ 140737488351232) :
    Calls Try.prog 5 #[.int .i64 n, .slice a1 xs.length c1] W fun e w' => e = .returned (.bool true) ∧ Below W.heap.size W w' :=
  counts_walk n a1 c1 xs W (bounds_i64 h0) o1 l1
end Go.Proofs.Ytbinedhgjmfceaa
