/- PeelBack. -/
import Derived.Test.YthdgfhllieknlaaJu
import Derived.Test.YthdgfhllieknlaaJp
import Derived.Test.YthdgfhllieknlaaJq
import Derived.Test.YthdgfhllieknlaaJt00
import Derived.Test.YthdgfhllieknlaaJt01
import Derived.Test.YthdgfhllieknlaaJt02
import Derived.Test.YthdgfhllieknlaaJt10
import Derived.Test.YthdgfhllieknlaaJt11
import Derived.Test.YthdgfhllieknlaaJt12
import Derived.Test.YthdgfhllieknlaaJt20
import Derived.Test.YthdgfhllieknlaaJt21
import Derived.Test.YthdgfhllieknlaaJt22
namespace Go.Proofs.Ythdgfhllieknlaa
open Go.ChangeShapes Go.WideShapes Go.ChangeAt Go.RowKit
set_option maxRecDepth 10000

theorem heads_any (T : Int) (r1 r2 : Nat) (da sa : List Int) (ta pb ib tb : Int) (c d e f : List Value) (w : World) (h1 : r1 < 3) (h2 : r2 < 3) (hT0 : -9223372036854775808 ≤ T) (hT1 : T ≤ 9223372036854775807) (hp : ChP da sa ta pb ib tb c d e f) :
    Calls Try.prog 19 #[.agg (chC T r1 r2 da sa ta pb ib tb c d e f).toArray] w fun r w' => ∃ t : Nat, t < 6 ∧ ∃ v, r = .returned v ∧ w'.ownsRow w.heap.size 48 73 v (chain da sa pb ib t r1 r2 c d e f).length (hsC (chain da sa pb ib t r1 r2 c d e f)) ∧ Below w.heap.size w w' := by
  have a1 : r1 = 0 ∨ r1 = 1 ∨ r1 = 2 := by omega
  have a2 : r2 = 0 ∨ r2 = 1 ∨ r2 = 2 := by omega
  rcases a1 with rfl | rfl | rfl <;> rcases a2 with rfl | rfl | rfl
  · exact heads_00 T da sa ta pb ib tb c d e f w hT0 hT1 hp
  · exact heads_01 T da sa ta pb ib tb c d e f w hT0 hT1 hp
  · exact heads_02 T da sa ta pb ib tb c d e f w hT0 hT1 hp
  · exact heads_10 T da sa ta pb ib tb c d e f w hT0 hT1 hp
  · exact heads_11 T da sa ta pb ib tb c d e f w hT0 hT1 hp
  · exact heads_12 T da sa ta pb ib tb c d e f w hT0 hT1 hp
  · exact heads_20 T da sa ta pb ib tb c d e f w hT0 hT1 hp
  · exact heads_21 T da sa ta pb ib tb c d e f w hT0 hT1 hp
  · exact heads_22 T da sa ta pb ib tb c d e f w hT0 hT1 hp
/-- A cell of a block is written. -/
theorem heap_set1 {w : World} {g k : Nat} {L : List Value} {t : TypeId} (h : w.heap[g]? = some (.cells L.toArray t (0, 0))) (hk : k < L.length) (v : Value) : (w.setCell ⟨g, k, none⟩ v).heap[g]? = some (.cells (L.set k v).toArray t (0, 0)) := by
  have := heap_put h k [v] (by simp; omega)
  have e : put L k [v] = L.set k v := by
    unfold put
    rw [List.set_eq_take_append_cons_drop, if_pos hk]
    simp
  rw [e] at this
  exact this

/-- A block among things is written at a cell. -/
theorem Heap.cset1 {W w : World} {L : List Thing} {g : Nat} {M : List Value} {t : TypeId} (h : Heap W w L) (i : Nat) (hi : L[i]? = some (cellsT g M.toArray t)) (k : Nat) (hk : k < M.length) (u : Value) : Heap W (w.setCell ⟨g, k, none⟩ u) (L.set i (cellsT g (M.set k u).toArray t)) :=
  h.stepAt i _ hi ((Kept.refl (fun j => j = g) w).setCell (p := ⟨g, k, none⟩) (fun _ => rfl) u) (cellsT g (M.set k u).toArray t) (heap_set1 (h.get hi) hk u) (fun _ hk => .inl hk)

theorem info_ch : (Try.prog.info? 59).map (·.size) = some 75 := by kernel_rfl
theorem chC_len {T x y : Int} {da sa : List Int} {ta pb ib tb : Int} {c d e f : List Value} (hp : ChP da sa ta pb ib tb c d e f) : (chC T x y da sa ta pb ib tb c d e f).length = 75 := by
  unfold chC
  simp only [List.length_append, K05.lkC_length hp.a, K07.hd_len hp.c, K08.hd_len hp.d, K09.hd_len hp.e, K10.hd_len hp.f]
  rfl

set_option maxHeartbeats 4000000 in
theorem back_any (T x y : Int) (da sa : List Int) (ta pb ib tb : Int) (c d e f : List Value) (a : Option Addr) (n cc : Nat) (zs : List Int) (W : World) (hT0 : -9223372036854775808 ≤ T) (hT1 : T ≤ 9223372036854775807) (hx0 : -9223372036854775808 ≤ x) (hx1 : x ≤ 9223372036854775807) (hy0 : -9223372036854775808 ≤ y) (hy1 : y ≤ 9223372036854775807)
    (hp : ChP da sa ta pb ib tb c d e f) (hz' : zs.length = n) (h0 : Bs W a zs) (hn0 : a = none → cc = 0) (hc : n ≤ cc) :
    Calls Try.prog 5 #[.agg (chC T x y da sa ta pb ib tb c d e f).toArray, .slice a n cc] W fun r w' => r = .returned (.bool true) ∧ Below W.heap.size W w' := by
  have HP := Hid.mk' hp
  have HB := Hid.mk' h0
  have HZ := Hid.mk' hz'
  have HN0 := Hid.mk' hn0
  have hln := h0.len
  rw [hz'] at hln
  have hC75 := Hid.mk' (chC_len (T := T) (x := x) (y := y) hp)
  have HCS : Hid (∀ u v : Int, ((chC T x y da sa ta pb ib tb c d e f).set 1 (.int .i64 u)).set 2 (.int .i64 v) = chC T u v da sa ta pb ib tb c d e f) := Hid.mk' (fun u v => rfl)
  clear hp h0 hz' hn0
  obtain ⟨C, HC⟩ : ∃ C, Hid (chC T x y da sa ta pb ib tb c d e f = C) := ⟨_, rfl⟩
  have C1 : C[1]? = some (.int .i64 x) := by rw [← HC.out]; rfl
  have C2 : C[2]? = some (.int .i64 y) := by rw [← HC.out]; rfl
  rw [HC.out] at hC75 HCS
  rw [HC.out]
  have B0 : Hid (Below W.heap.size W (W.alloc (.cells C.toArray 59))) := Hid.mk' ((Below.refl _ _).alloc (Nat.le_refl _) _)
  have R0 : Hid ((W.alloc (.cells C.toArray 59)).heap[W.heap.size]? = some (.cells C.toArray 59 (0, 0))) := Hid.mk' (heap_alloc_new W _)
  go_enter Try.func5, Try.ntmps5
  go_wp2_with fail
  refine (awake_any _).mono ?_
  rintro e0 w1 ⟨rfl, b1⟩
  have B1 : Hid (Below W.heap.size W w1) := Hid.mk' (B0.out.trans (b1.mono B0.out.size))
  have R1 : Hid (w1.heap[W.heap.size]? = some (.cells C.toArray 59 (0, 0))) := Hid.mk' ((b1.block _ (Array.getElem?_eq_some_iff.1 R0.out).1).trans R0.out)
  clear b1 B0 R0
  go_upto_if 25 with fail
  go_cut [1] from 25 (fun s1 wc => ∃ (m : Nat) (ys : List Int), s1 = .slice a m cc ∧ m ≤ 1800 ∧ m ≤ cc ∧ Hid (ys.length = m) ∧ Hid (Bs W a ys) ∧ w1 = wc)
  case first =>
    by_cases hl : 1800 < n
    · have hl1 : (1800 : Int) < (n : Int) := by omega
      have hl2 : (1800 : Int) ≤ (cc : Int) := by omega
      go_wp2_with fail
      go_meet
      exact ⟨1800, zs.take 1800, rfl, by omega, by omega, Hid.mk' (by rw [List.length_take, HZ.out]; omega), Hid.mk' (HB.out.take 1800 (by rw [HZ.out]; omega)), rfl⟩
    · have hl1 : ¬ (1800 : Int) < (n : Int) := by omega
      go_wp2_with fail
      go_meet
      exact ⟨n, zs, rfl, by omega, hc, HZ, HB, rfl⟩
  case rest =>
  obtain ⟨m, ys, rfl, hm, hmc, HM, HYS, rfl⟩ := hcut
  clear HZ HB hln hc
  have q1 : w1.cell? ⟨W.heap.size, 1, none⟩ = some (.int .i64 x) := by rw [cell_of_row w1 _ 1 _ _ _ R1.out, List.getElem?_toArray]; exact C1
  have f1 := frozen_of_row w1 W.heap.size 1 _ _ R1.out
  go_wp2_with fail
  refine (bring_any x 3 _ (by omega) (by omega) hx0 hx1).mono ?_
  rintro e0 w2 ⟨⟨r1, hr1, rfl⟩, hw2⟩
  have hw2' := hw2.symm
  subst hw2'
  have R2 := Hid.mk' (heap_set1 R1.out (k := 1) (by rw [hC75.out]; omega) (.int .i64 r1))
  have q2 : (w1.setCell ⟨W.heap.size, 1, none⟩ (.int .i64 r1)).cell? ⟨W.heap.size, 2, none⟩ = some (.int .i64 y) := by rw [cell_of_row _ _ 2 _ _ _ R2.out, List.getElem?_toArray, List.getElem?_set_ne (by omega)]; exact C2
  have f2 := frozen_of_row _ W.heap.size 2 _ _ R2.out
  go_wp2_with fail
  refine (bring_any y 3 _ (by omega) (by omega) hy0 hy1).mono ?_
  rintro e0 w2 ⟨⟨r2, hr2, rfl⟩, rfl⟩
  have R3 := Hid.mk' (heap_set1 R2.out (k := 2) (by rw [List.length_set, hC75.out]; omega) (.int .i64 r2))
  rw [HCS.out] at R3
  have l75 : Hid ((chC T r1 r2 da sa ta pb ib tb c d e f).length = 75) := Hid.mk' (chC_len HP.out)
  have HCQ : Hid (∀ t, t < 6 → ChQ (chain da sa pb ib t r1 r2 c d e f)) := Hid.mk' (fun t ht => chain_ok HP.out ht hr1 hr2)
  have HHD : Hid (∀ u : World, Calls Try.prog 19 #[.agg (chC T r1 r2 da sa ta pb ib tb c d e f).toArray] u fun r w' => ∃ t : Nat, t < 6 ∧ ∃ v, r = .returned v ∧ w'.ownsRow u.heap.size 48 73 v (chain da sa pb ib t r1 r2 c d e f).length (hsC (chain da sa pb ib t r1 r2 c d e f)) ∧ Below u.heap.size u w') := Hid.mk' (fun u => heads_any T r1 r2 da sa ta pb ib tb c d e f u hr1 hr2 hT0 hT1 HP.out)
  obtain ⟨CC, HCC⟩ : ∃ CC, Hid (chC T r1 r2 da sa ta pb ib tb c d e f = CC) := ⟨_, rfl⟩
  rw [HCC.out] at R3 l75 HHD
  obtain ⟨w3, hw3⟩ : ∃ w3, w3 = (w1.setCell ⟨W.heap.size, 1, none⟩ (.int .i64 r1)).setCell ⟨W.heap.size, 2, none⟩ (.int .i64 r2) := ⟨_, rfl⟩
  have B3 : Hid (Below W.heap.size W w3) := Hid.mk' (by
    have hk : Kept (fun k => k = W.heap.size) w1 w3 := by
      rw [hw3]
      exact ((Kept.refl (fun k => k = W.heap.size) w1).setCell (p := ⟨W.heap.size, 1, none⟩) (fun _ => rfl) _).setCell (p := ⟨W.heap.size, 2, none⟩) (fun _ => rfl) _
    exact B1.out.trans (hk.below B1.out.size (fun k hk => by omega)))
  have R3r : Hid (((w1.setCell ⟨W.heap.size, 1, none⟩ (.int .i64 r1)).setCell ⟨W.heap.size, 2, none⟩ (.int .i64 r2)).rangeAt W.heap.size 0 CC) := Hid.mk' (range_block R3.out)
  go_wp2_with (first
    | refine wpList_load_mid rfl 59 _ rfl W.heap.size 0 rfl CC _ R3r.out Try.underlying59 rfl (by rw [l75.out]; exact info_ch) ?_)
  rw [← hw3]
  refine (HHD.out w3).mono ?_
  rintro e0 w4 ⟨t, ht, v4, rfl, own4, b4⟩
  have CQ := HCQ.out t ht
  obtain ⟨out, HO⟩ : ∃ out, Hid (chain da sa pb ib t r1 r2 c d e f = out) := ⟨_, rfl⟩
  rw [HO.out] at CQ own4
  obtain ⟨p, hw, hpl, hpb⟩ := wP_ok out ys CQ.ok CQ.chk HYS.out.bytes (by rw [HM.out]; have := CQ.tot; omega)
  obtain ⟨L0, rr, hout⟩ := CQ.first
  have hPE : PE p = (0, out) ∧ peR p = ys := by
    have h1 := CQ.says
    have h2 := CQ.ok
    have h3 := CQ.few
    rw [hout] at h1 h2 h3 hw ⊢
    exact PE_says h1 h2 HYS.out.bytes hw (by simp at h3; omega)
  have hN1 : 0 < out.length := by rw [hout]; simp
  have htot := CQ.tot
  have hfew := CQ.few
  have OK := Hid.mk' CQ.ok
  have SAY := Hid.mk' CQ.says
  have HWP := Hid.mk' hw
  have HPEp := Hid.mk' hPE.1
  have HPR := Hid.mk' hPE.2
  have HPB := Hid.mk' hpb
  obtain ⟨N, HN⟩ : ∃ N, Hid (out.length = N) := ⟨_, rfl⟩
  rw [HN.out] at hN1 hfew own4
  rw [HM.out] at hpl
  obtain ⟨M, HMM⟩ : ∃ M, Hid (hTot out = M) := ⟨_, rfl⟩
  rw [HMM.out] at hpl htot
  obtain ⟨np, HNP⟩ : ∃ np, Hid (p.length = np) := ⟨_, rfl⟩
  rw [HNP.out] at hpl
  have HPL := Hid.mk' hpl
  have hnp : np ≤ 2000 := by omega
  clear hpl
  obtain ⟨gl, cl, rfl, hcl⟩ := own_some own4 (by omega)
  have B4 : Hid (Below W.heap.size W w4) := Hid.mk' (B3.out.trans (b4.mono B3.out.size))
  have H4 : Hid (Heap W w4 [rowT w3.heap.size 48 73 (.slice (some ⟨gl, 0, none⟩) N cl) N (hsC out)]) := Hid.mk' ⟨fun U hU => by simp at hU; subst hU; exact own4, by simp, fun U hU k hk => by simp at hU; subst hU; have := (own4.lt k hk).1; have := B3.out.size; omega, B4.out⟩
  have HRW : Hid (Hrow w4 (.slice (some ⟨gl, 0, none⟩) N cl) out) := Hid.mk' (Hrow.of own4 HN.out OK.out)
  generalize w3.heap.size = B0 at H4
  clear own4 b4 CQ hw hPE hpb hout HCQ HHD HP HO HCC R1 R2 R3 R3r l75 q1 q2 f1 f2 C1 C2 hw3 HCS hC75 HC B1 B3 hT0 hT1 hx0 hx1 hy0 hy1
  have few100 : Hid (out.length ≤ 100) := Hid.mk' (by rw [HN.out]; omega)
  go_wp2_with fail
  refine (whole_any _ out a m cc ys p w4 few100.out HRW.out HM.out (HYS.out.below B4.out) HN0.out (by omega) HWP.out).mono ?_
  rintro e0 w5 ⟨v5, rfl, own5, -, b5⟩
  rw [HNP.out] at own5
  obtain ⟨a5, c5, rfl, S5, hc5, hn5⟩ := K05.own_bs own5 HNP.out HPB.out (by rw [HNP.out]; omega)
  have H5 := Hid.mk' (H4.out.push b5 (rowT w4.heap.size 5 1 (.slice a5 np c5) np (p.map (Value.int .u8))) own5 (fun j hj => (own5.lt j hj).1))
  have HS5 := Hid.mk' S5
  have HN5 := Hid.mk' hn5
  clear own5 b5 S5 hn5 HRW HWP H4 few100
  have P6 := peel_any a5 np c5 p w5 HNP.out HS5.out HN5.out hc5
  unfold plT at P6
  rw [HPEp.out, HPR.out] at P6
  rw [HN.out, HM.out] at P6
  have HP6 := Hid.mk' P6
  clear P6
  go_wp2_with fail
  refine HP6.out.mono ?_
  rintro e0 w6 ⟨va, vr, rfl, h6⟩
  obtain ⟨gq, ck, rfl, hck⟩ := own_some (h6.get (i := 0) rfl) (by omega)
  obtain ⟨ar, cr, rfl, SR, -, -⟩ := K05.own_bs (h6.get (i := 1) rfl) HM.out HYS.out.bytes (by rw [HM.out]; omega)
  have HSR := Hid.mk' SR
  have H6 := Hid.mk' (H5.out.join h6)
  simp only [List.cons_append, List.nil_append] at H6
  clear h6 HP6 SR H5 HS5 B4
  have EQY : Hid (∀ (u : World) (x y : Option Addr) (cx cy : Nat), Bs u x ys → Bs u y ys → Calls Try.prog 12 #[.slice x m cx, .slice y m cy] u fun e w' => e = .returned (.bool true) ∧ Dr u w') := Hid.mk' (fun u x y cx cy h1 h2 => by have := eq_at x y m m cx cy ys ys u HM.out HM.out h1 h2; rwa [show decide (ys = ys) = true by simp] at this)
  go_wp2_with (first | (go_at_call 12; refine (EQY.out w6 ar a cr cc HSR.out (HYS.out.below H6.out.old)).mono ?_; rintro e0 w7 ⟨rfl, d7⟩; have H7 := Hid.mk' (H6.out.below (d7.below _)); clear d7))
  have H9 : Hid (Heap W ((w7.alloc (.cells szC.toArray 3)).alloc (.cells ([false, false, false, false, false, false, false].map Value.bool).toArray 65)) [rowT B0 48 73 (.slice (some ⟨gl, 0, none⟩) N cl) N (hsC out), rowT w4.heap.size 5 1 (.slice a5 np c5) np (p.map (Value.int .u8)), rowT w5.heap.size 48 73 (.slice (some ⟨gq, 0, none⟩) N ck) N (hsC out), rowT w5.heap.size 5 1 (.slice ar m cr) m (ys.map (Value.int .u8)), cellsT w7.heap.size szC.toArray 3, cellsT (w7.heap.size + 1) ([false, false, false, false, false, false, false].map Value.bool).toArray 65]) := Hid.mk' (by
    have h8 := H7.out.push ((Below.refl _ _).alloc (Nat.le_refl _) (.cells szC.toArray 3)) (cellsT w7.heap.size szC.toArray 3) (heap_alloc_new w7 _) (fun j hj => Nat.le_of_eq hj.symm)
    have h9 := h8.push ((Below.refl _ _).alloc (Nat.le_refl _) (.cells ([false, false, false, false, false, false, false].map Value.bool).toArray 65)) (cellsT (w7.alloc (.cells szC.toArray 3)).heap.size ([false, false, false, false, false, false, false].map Value.bool).toArray 65) (heap_alloc_new _ _) (fun j hj => Nat.le_of_eq hj.symm)
    rw [show (w7.alloc (.cells szC.toArray 3)).heap.size = w7.heap.size + 1 by simp] at h9
    exact h9)
  clear H6 H7 HSR EQY
  obtain ⟨gz, hgz⟩ : ∃ gz, gz = w7.heap.size := ⟨_, rfl⟩
  obtain ⟨gs, hgs⟩ : ∃ gs, gs = w7.heap.size + 1 := ⟨_, rfl⟩
  rw [← hgs, ← hgz] at H9
  rw [← hgs, ← hgz]
  clear hgz hgs
  go_loopg [12, 14] N (fun g s12 s14 wr => ∃ (i : Nat) (SN : List Bool), s14 = .int .i64 i ∧ s12 = .int .i64 (hTot (out.take i) : Nat) ∧ i ≤ N ∧ N - i ≤ g ∧ Hid (SN.length = 7) ∧ Hid (∀ k : Int, 1 ≤ k → k ≤ 6 → SN[k.toNat]? = some false → ∀ j z, j < i → out[j]? = some z → ¬ z.1 = k) ∧ Hid (Heap W wr [rowT B0 48 73 (.slice (some ⟨gl, 0, none⟩) N cl) N (hsC out), rowT w4.heap.size 5 1 (.slice a5 np c5) np (p.map (Value.int .u8)), rowT w5.heap.size 48 73 (.slice (some ⟨gq, 0, none⟩) N ck) N (hsC out), rowT w5.heap.size 5 1 (.slice ar m cr) m (ys.map (Value.int .u8)), cellsT gz szC.toArray 3, cellsT gs (SN.map Value.bool).toArray 65]))
  case atStart => exact ⟨0, [false, false, false, false, false, false, false], rfl, rfl, by omega, by omega, rfl, fun k _ _ _ j z hj => by omega, H9⟩
  case round =>
    clear H9
    obtain ⟨i, SN, rfl, rfl, hi, hg, HSL, HSN, HH⟩ := hrel
    by_cases hlt : i < N
    · obtain ⟨⟨kx, L⟩, hx⟩ : ∃ z, out[i]? = some z := ⟨_, List.getElem?_eq_getElem (by rw [HN.out]; exact hlt)⟩
      have KX := OK.out (kx, L) (List.mem_of_getElem? hx)
      have k1 : 1 ≤ kx := KX.1
      have k6 : kx ≤ 6 := KX.2.1
      have kn0 : 0 ≤ kx := by omega
      have kn7 : kx < 7 := by omega
      have kn255 : kx ≤ 255 := by omega
      have KH := Hid.mk' (hk_hh KX)
      have HTP := Hid.mk' (take_push out i kx L hx)
      have hPs := hTot_take out (i + 1)
      rw [HTP.out, hTot_app, HMM.out] at hPs
      simp only [hTot] at hPs
      have HX := Hid.mk' hx
      have HLI := Hid.mk' (Nat.le_of_lt hlt)
      have OWL : Hid (wr.ownsRow B0 48 73 (.slice (some ⟨gl, 0, none⟩) N cl) N (hsC out)) := Hid.mk' (HH.out.get (i := 0) rfl)
      have ckx := head_kind OWL.out OK.out i kx L hx
      obtain ⟨mu, hmu⟩ := fnd_mem kx out 0 ⟨(kx, L), List.mem_of_getElem? hx, rfl⟩
      have hwh : wh p kx = ((mu : Int), ((sz kx : Nat) : Int), true, 0) := by
        unfold wh
        rw [if_pos ⟨k1, k6⟩, HPEp.out, if_pos rfl]
        show whO kx (fnd kx 0 out) = _
        rw [hmu]; rfl
      have HMU := Hid.mk' hmu
      obtain ⟨ax, cx, ex, SX, -, -⟩ := K05.own_bs (HH.out.get (i := 1) rfl) HNP.out HPB.out (by rw [HNP.out]; omega)
      cases ex
      have HWC := Hid.mk' (where_any kx a5 np c5 p wr kn0 kn255 HNP.out SX hc5)
      rw [hwh] at HWC
      simp only [whV] at HWC
      obtain ⟨P, HPP⟩ : ∃ P, Hid (hTot (out.take i) = P) := ⟨_, rfl⟩
      obtain ⟨s, HSZ⟩ : ∃ s, Hid (sz kx = s) := ⟨_, rfl⟩
      rw [HPP.out, HSZ.out] at hPs
      rw [HPP.out]
      rw [HSZ.out] at HWC
      obtain ⟨H, HHk⟩ : ∃ H, Hid (hk kx L = H) := ⟨_, rfl⟩
      have HSA := Hid.mk' (says_at out i (kx, L) SAY.out hx)
      rw [HHk.out] at KH
      have hh73 := Hid.mk' (hh_len KH.out)
      have hne := neq_same (t := 48) (L := H) (hh_eq KH.out)
      clear hx KX hmu hwh SX
      go_wp2_with fail
      refine HWC.out.mono ?_
      rintro e0 w8 ⟨rfl, b8⟩
      have H8 : Hid (Heap W (w8.alloc (.cells #[.int .i64 mu, .int .i64 s] 52)) [rowT B0 48 73 (.slice (some ⟨gl, 0, none⟩) N cl) N (hsC out), rowT w4.heap.size 5 1 (.slice a5 np c5) np (p.map (Value.int .u8)), rowT w5.heap.size 48 73 (.slice (some ⟨gq, 0, none⟩) N ck) N (hsC out), rowT w5.heap.size 5 1 (.slice ar m cr) m (ys.map (Value.int .u8)), cellsT gz szC.toArray 3, cellsT gs (SN.map Value.bool).toArray 65]) := Hid.mk' ((HH.out.below b8).below ((Below.refl _ _).alloc (Nat.le_refl _) _))
      have RR0 : Hid ((w8.alloc (.cells #[.int .i64 mu, .int .i64 s] 52)).rangeAt w8.heap.size 0 [.int .i64 mu, .int .i64 s]) := Hid.mk' (range_block (heap_alloc_new w8 _))
      clear b8 HWC HH OWL ckx
      go_upto_region 22 with fail
      obtain ⟨wq, hwq⟩ : ∃ wq, wq = w8.alloc (.cells #[.int .i64 mu, .int .i64 s] 52) := ⟨_, rfl⟩
      rw [← hwq] at H8 RR0
      rw [← hwq]
      clear hwq
      have H8d := Hid.mk' (H8.out.below ((Below.refl _ _).drew))
      have RA : Hid (wq.drew.rangeAt gq (i * 73) H) := Hid.mk' (by rw [← HHk.out]; exact head_range (H8d.out.get (i := 2) rfl) OK.out i kx L HX.out)
      have RB : Hid (wq.drew.rangeAt gl (i * 73) H) := Hid.mk' (by rw [← HHk.out]; exact head_range (H8d.out.get (i := 0) rfl) OK.out i kx L HX.out)
      have hbs : wq.drew.heap[gs]? = some (.cells (SN.map Value.bool).toArray 65 (0, 0)) := H8d.out.get (i := 5) rfl
      have hbz : wq.drew.heap[gz]? = some (.cells szC.toArray 3 (0, 0)) := H8d.out.get (i := 4) rfl
      obtain ⟨sn, hsn⟩ : ∃ sn, SN[kx.toNat]? = some sn := ⟨_, List.getElem?_eq_getElem (by rw [HSL.out]; omega)⟩
      have cs : wq.drew.cell? ⟨gs, kx.toNat, none⟩ = some (.bool sn) := by
        rw [cell_of_row _ gs kx.toNat _ _ _ hbs, List.getElem?_toArray, List.getElem?_map, hsn]; rfl
      have csz : wq.drew.cell? ⟨gz, kx.toNat, none⟩ = some (.int .i64 s) := by
        rw [cell_of_row _ gz kx.toNat _ _ _ hbz, szC_at k1 k6, HSZ.out]
      have HFS : Hid (sn = false → mu = P) := Hid.mk' (fun e => by
        subst e
        have h1 := fnd_first kx out 0 i (kx, L) HX.out rfl (fun j z hj hz => HSN.out kx k1 k6 hsn j z hj hz)
        rw [HMU.out, Nat.zero_add, HPP.out] at h1
        exact Option.some.inj h1)
      clear hbs hbz hsn
      go_cut [118] from 72 to 154 (fun s118 wc => s118 = .bool false ∧ wq.drew = wc)
      case first =>
        cases sn with
        | true =>
          refine wp_region_held_drew (S := fun u => u = wq.drew) (by kernel_rfl) rfl (fun hHeld => ?_)
          change wpAnyH _ _ _ _ _ 33 #[false, false, false, false, false, false, false, false, false, false, false, false, false, false, false, false, false, false, false, false, false, false, false, false, false, false, false, false, false, false, false, false, false] _ _
          refine held_take 0 86 (.slice (some ⟨gq, 0, none⟩) N ck) rfl rfl (by kernel_rfl) (by kernel_rfl) (by kernel_rfl) (fun _ _ _ h => h) (Or.inl ⟨by rfl, fun u hu => ?_⟩) hHeld ?_
          · go_simp
          simp only [Act.put, List.setIfInBounds_toArray, List.set_cons_zero, List.set_cons_succ]
          refine held_take 1 87 (.int .i64 i) rfl rfl (by kernel_rfl) (by kernel_rfl) (by kernel_rfl) (fun _ _ _ h => h) (Or.inl ⟨by rfl, fun u hu => ?_⟩) hHeld ?_
          · go_simp
          simp only [Act.put, List.setIfInBounds_toArray, List.set_cons_zero, List.set_cons_succ]
          refine held_take 2 88 (.pointer (some ⟨gq, i * 73, none⟩)) rfl rfl (by kernel_rfl) (by kernel_rfl) (by kernel_rfl) (fun _ _ _ h => h) (Or.inl ⟨by rfl, fun u hu => ?_⟩) hHeld ?_
          · go_simp
          simp only [Act.put, List.setIfInBounds_toArray, List.set_cons_zero, List.set_cons_succ]
          refine held_take 3 89 (.agg H.toArray) rfl rfl (by kernel_rfl) (by kernel_rfl) (by kernel_rfl) (fun _ _ _ h => h) (yieldsIf_load_mid (by rfl) 48 _ rfl gq (i * 73) rfl H _ (fun u hu => by cases hu; exact RA.out) Try.underlying48 rfl (by rw [hh73.out]; exact info_hh)) hHeld ?_
          simp only [Act.put, List.setIfInBounds_toArray, List.set_cons_zero, List.set_cons_succ]
          refine held_take 4 90 (.slice (some ⟨gl, 0, none⟩) N cl) rfl rfl (by kernel_rfl) (by kernel_rfl) (by kernel_rfl) (fun _ _ _ h => h) (Or.inl ⟨by rfl, fun u hu => ?_⟩) hHeld ?_
          · go_simp
          simp only [Act.put, List.setIfInBounds_toArray, List.set_cons_zero, List.set_cons_succ]
          refine held_take 5 91 (.int .i64 i) rfl rfl (by kernel_rfl) (by kernel_rfl) (by kernel_rfl) (fun _ _ _ h => h) (Or.inl ⟨by rfl, fun u hu => ?_⟩) hHeld ?_
          · go_simp
          simp only [Act.put, List.setIfInBounds_toArray, List.set_cons_zero, List.set_cons_succ]
          refine held_take 6 92 (.pointer (some ⟨gl, i * 73, none⟩)) rfl rfl (by kernel_rfl) (by kernel_rfl) (by kernel_rfl) (fun _ _ _ h => h) (Or.inl ⟨by rfl, fun u hu => ?_⟩) hHeld ?_
          · go_simp
          simp only [Act.put, List.setIfInBounds_toArray, List.set_cons_zero, List.set_cons_succ]
          refine held_take 7 93 (.agg H.toArray) rfl rfl (by kernel_rfl) (by kernel_rfl) (by kernel_rfl) (fun _ _ _ h => h) (yieldsIf_load_mid (by rfl) 48 _ rfl gl (i * 73) rfl H _ (fun u hu => by cases hu; exact RB.out) Try.underlying48 rfl (by rw [hh73.out]; exact info_hh)) hHeld ?_
          simp only [Act.put, List.setIfInBounds_toArray, List.set_cons_zero, List.set_cons_succ]
          refine held_take 8 94 (.bool false) rfl rfl (by kernel_rfl) (by kernel_rfl) (by kernel_rfl) (fun _ _ _ h => h) (Or.inl ⟨by rfl, fun u hu => ?_⟩) hHeld ?_
          · go_simp
          simp only [Act.put, List.setIfInBounds_toArray, List.set_cons_zero, List.set_cons_succ]
          refine held_take 9 95 (.bool false) rfl rfl (by kernel_rfl) (by kernel_rfl) (by kernel_rfl) (fun _ _ _ h => h) (Or.inl ⟨by rfl, fun u hu => ?_⟩) hHeld ?_
          · go_simp
          simp only [Act.put, List.setIfInBounds_toArray, List.set_cons_zero, List.set_cons_succ]
          refine held_take 10 96 (.int .i64 0) rfl rfl (by kernel_rfl) (by kernel_rfl) (by kernel_rfl) (fun _ _ _ h => h) (Or.inl ⟨by rfl, fun u hu => ?_⟩) hHeld ?_
          · go_simp
          simp only [Act.put, List.setIfInBounds_toArray, List.set_cons_zero, List.set_cons_succ]
          refine held_take 11 97 (.bool false) rfl rfl (by kernel_rfl) (by kernel_rfl) (by kernel_rfl) (fun _ _ _ h => h) (Or.inl ⟨by rfl, fun u hu => ?_⟩) hHeld ?_
          · go_simp
          simp only [Act.put, List.setIfInBounds_toArray, List.set_cons_zero, List.set_cons_succ]
          refine held_take 12 98 (.bool false) rfl rfl (by kernel_rfl) (by kernel_rfl) (by kernel_rfl) (fun _ _ _ h => h) (Or.inl ⟨by rfl, fun u hu => ?_⟩) hHeld ?_
          · go_simp
          simp only [Act.put, List.setIfInBounds_toArray, List.set_cons_zero, List.set_cons_succ]
          refine held_take 13 99 (.bool false) rfl rfl (by kernel_rfl) (by kernel_rfl) (by kernel_rfl) (fun _ _ _ h => h) (Or.inl ⟨by rfl, fun u hu => ?_⟩) hHeld ?_
          · go_simp
          simp only [Act.put, List.setIfInBounds_toArray, List.set_cons_zero, List.set_cons_succ]
          refine held_take 14 100 (.bool true) rfl rfl (by kernel_rfl) (by kernel_rfl) (by kernel_rfl) (fun _ _ _ h => h) (Or.inl ⟨by rfl, fun u hu => ?_⟩) hHeld ?_
          · go_simp
          simp only [Act.put, List.setIfInBounds_toArray, List.set_cons_zero, List.set_cons_succ]
          refine held_take 15 101 (.bool false) rfl rfl (by kernel_rfl) (by kernel_rfl) (by kernel_rfl) (fun _ _ _ h => h) (Or.inl ⟨by rfl, fun u hu => ?_⟩) hHeld ?_
          · go_simp
          simp only [Act.put, List.setIfInBounds_toArray, List.set_cons_zero, List.set_cons_succ]
          refine held_take 16 102 (.bool false) rfl rfl (by kernel_rfl) (by kernel_rfl) (by kernel_rfl) (fun _ _ _ h => h) (Or.inl ⟨by rfl, fun u hu => ?_⟩) hHeld ?_
          · go_simp
          simp only [Act.put, List.setIfInBounds_toArray, List.set_cons_zero, List.set_cons_succ]
          refine held_take 17 103 (.bool false) rfl rfl (by kernel_rfl) (by kernel_rfl) (by kernel_rfl) (fun _ _ _ h => h) (Or.inl ⟨by rfl, fun u hu => ?_⟩) hHeld ?_
          · go_simp
          simp only [Act.put, List.setIfInBounds_toArray, List.set_cons_zero, List.set_cons_succ]
          refine held_take 18 104 (.int .u8 kx) rfl rfl (by kernel_rfl) (by kernel_rfl) (by kernel_rfl) (fun _ _ _ h => h) (Or.inl ⟨by rfl, fun u hu => ?_⟩) hHeld ?_
          · go_simp
          simp only [Act.put, List.setIfInBounds_toArray, List.set_cons_zero, List.set_cons_succ]
          refine held_take 19 105 (.pointer (some ⟨gs, kx.toNat, none⟩)) rfl rfl (by kernel_rfl) (by kernel_rfl) (by kernel_rfl) (fun _ _ _ h => h) (Or.inl ⟨by rfl, fun u hu => ?_⟩) hHeld ?_
          · go_simp
          simp only [Act.put, List.setIfInBounds_toArray, List.set_cons_zero, List.set_cons_succ]
          refine held_take 20 106 (.bool true) rfl rfl (by kernel_rfl) (by kernel_rfl) (by kernel_rfl) (fun _ _ _ h => h) (Or.inl ⟨by rfl, fun u hu => ?_⟩) hHeld ?_
          · cases hu; go_simp
          simp only [Act.put, List.setIfInBounds_toArray, List.set_cons_zero, List.set_cons_succ]
          refine held_take 21 107 (.bool false) rfl rfl (by kernel_rfl) (by kernel_rfl) (by kernel_rfl) (fun _ _ _ h => h) (Or.inl ⟨by rfl, fun u hu => ?_⟩) hHeld ?_
          · go_simp
          simp only [Act.put, List.setIfInBounds_toArray, List.set_cons_zero, List.set_cons_succ]
          refine held_take 22 108 (.bool false) rfl rfl (by kernel_rfl) (by kernel_rfl) (by kernel_rfl) (fun _ _ _ h => h) (Or.inl ⟨by rfl, fun u hu => ?_⟩) hHeld ?_
          · go_simp
          simp only [Act.put, List.setIfInBounds_toArray, List.set_cons_zero, List.set_cons_succ]
          refine held_take 23 109 undef rfl rfl (by kernel_rfl) (by kernel_rfl) (by kernel_rfl) (fun _ _ _ h => h) (Or.inr ⟨by rfl, rfl⟩) hHeld ?_
          simp only [Act.put, List.setIfInBounds_toArray, List.set_cons_zero, List.set_cons_succ]
          refine held_take 24 110 undef rfl rfl (by kernel_rfl) (by kernel_rfl) (by kernel_rfl) (fun _ _ _ h => h) (Or.inr ⟨by rfl, rfl⟩) hHeld ?_
          simp only [Act.put, List.setIfInBounds_toArray, List.set_cons_zero, List.set_cons_succ]
          refine held_take 25 111 undef rfl rfl (by kernel_rfl) (by kernel_rfl) (by kernel_rfl) (fun _ _ _ h => h) (Or.inr ⟨by rfl, rfl⟩) hHeld ?_
          simp only [Act.put, List.setIfInBounds_toArray, List.set_cons_zero, List.set_cons_succ]
          refine held_take 26 112 undef rfl rfl (by kernel_rfl) (by kernel_rfl) (by kernel_rfl) (fun _ _ _ h => h) (Or.inr ⟨by rfl, rfl⟩) hHeld ?_
          simp only [Act.put, List.setIfInBounds_toArray, List.set_cons_zero, List.set_cons_succ]
          refine held_take 27 113 undef rfl rfl (by kernel_rfl) (by kernel_rfl) (by kernel_rfl) (fun _ _ _ h => h) (Or.inr ⟨by rfl, rfl⟩) hHeld ?_
          simp only [Act.put, List.setIfInBounds_toArray, List.set_cons_zero, List.set_cons_succ]
          refine held_take 28 114 undef rfl rfl (by kernel_rfl) (by kernel_rfl) (by kernel_rfl) (fun _ _ _ h => h) (Or.inr ⟨by rfl, rfl⟩) hHeld ?_
          simp only [Act.put, List.setIfInBounds_toArray, List.set_cons_zero, List.set_cons_succ]
          refine held_take 29 115 undef rfl rfl (by kernel_rfl) (by kernel_rfl) (by kernel_rfl) (fun _ _ _ h => h) (Or.inr ⟨by rfl, rfl⟩) hHeld ?_
          simp only [Act.put, List.setIfInBounds_toArray, List.set_cons_zero, List.set_cons_succ]
          refine held_take 30 116 undef rfl rfl (by kernel_rfl) (by kernel_rfl) (by kernel_rfl) (fun _ _ _ h => h) (Or.inr ⟨by rfl, rfl⟩) hHeld ?_
          simp only [Act.put, List.setIfInBounds_toArray, List.set_cons_zero, List.set_cons_succ]
          refine held_take 31 117 (.bool false) rfl rfl (by kernel_rfl) (by kernel_rfl) (by kernel_rfl) (fun _ _ _ h => h) (Or.inl ⟨by rfl, fun u hu => ?_⟩) hHeld ?_
          · go_simp
          simp only [Act.put, List.setIfInBounds_toArray, List.set_cons_zero, List.set_cons_succ]
          refine held_take 32 118 (.bool false) rfl rfl (by kernel_rfl) (by kernel_rfl) (by kernel_rfl) (fun _ _ _ h => h) (Or.inl ⟨by rfl, fun u hu => ?_⟩) hHeld ?_
          · go_simp
          simp only [Act.put, List.setIfInBounds_toArray, List.set_cons_zero, List.set_cons_succ]
          refine wpAnyH_done (by kernel_rfl) ?_ _
          go_wp2_with fail
          go_meet
          exact ⟨rfl, rfl⟩
        | false =>
          have hmuP := HFS.out rfl
          subst hmuP
          have RR : Hid (wq.drew.rangeAt w8.heap.size 0 [.int .i64 mu, .int .i64 s]) := Hid.mk' (fun j v hv => RR0.out j v hv)
          refine wp_region_held_drew (S := fun u => u = wq.drew) (by kernel_rfl) rfl (fun hHeld => ?_)
          change wpAnyH _ _ _ _ _ 33 #[false, false, false, false, false, false, false, false, false, false, false, false, false, false, false, false, false, false, false, false, false, false, false, false, false, false, false, false, false, false, false, false, false] _ _
          refine held_take 0 86 (.slice (some ⟨gq, 0, none⟩) N ck) rfl rfl (by kernel_rfl) (by kernel_rfl) (by kernel_rfl) (fun _ _ _ h => h) (Or.inl ⟨by rfl, fun u hu => ?_⟩) hHeld ?_
          · go_simp
          simp only [Act.put, List.setIfInBounds_toArray, List.set_cons_zero, List.set_cons_succ]
          refine held_take 1 87 (.int .i64 i) rfl rfl (by kernel_rfl) (by kernel_rfl) (by kernel_rfl) (fun _ _ _ h => h) (Or.inl ⟨by rfl, fun u hu => ?_⟩) hHeld ?_
          · go_simp
          simp only [Act.put, List.setIfInBounds_toArray, List.set_cons_zero, List.set_cons_succ]
          refine held_take 2 88 (.pointer (some ⟨gq, i * 73, none⟩)) rfl rfl (by kernel_rfl) (by kernel_rfl) (by kernel_rfl) (fun _ _ _ h => h) (Or.inl ⟨by rfl, fun u hu => ?_⟩) hHeld ?_
          · go_simp
          simp only [Act.put, List.setIfInBounds_toArray, List.set_cons_zero, List.set_cons_succ]
          refine held_take 3 89 (.agg H.toArray) rfl rfl (by kernel_rfl) (by kernel_rfl) (by kernel_rfl) (fun _ _ _ h => h) (yieldsIf_load_mid (by rfl) 48 _ rfl gq (i * 73) rfl H _ (fun u hu => by cases hu; exact RA.out) Try.underlying48 rfl (by rw [hh73.out]; exact info_hh)) hHeld ?_
          simp only [Act.put, List.setIfInBounds_toArray, List.set_cons_zero, List.set_cons_succ]
          refine held_take 4 90 (.slice (some ⟨gl, 0, none⟩) N cl) rfl rfl (by kernel_rfl) (by kernel_rfl) (by kernel_rfl) (fun _ _ _ h => h) (Or.inl ⟨by rfl, fun u hu => ?_⟩) hHeld ?_
          · go_simp
          simp only [Act.put, List.setIfInBounds_toArray, List.set_cons_zero, List.set_cons_succ]
          refine held_take 5 91 (.int .i64 i) rfl rfl (by kernel_rfl) (by kernel_rfl) (by kernel_rfl) (fun _ _ _ h => h) (Or.inl ⟨by rfl, fun u hu => ?_⟩) hHeld ?_
          · go_simp
          simp only [Act.put, List.setIfInBounds_toArray, List.set_cons_zero, List.set_cons_succ]
          refine held_take 6 92 (.pointer (some ⟨gl, i * 73, none⟩)) rfl rfl (by kernel_rfl) (by kernel_rfl) (by kernel_rfl) (fun _ _ _ h => h) (Or.inl ⟨by rfl, fun u hu => ?_⟩) hHeld ?_
          · go_simp
          simp only [Act.put, List.setIfInBounds_toArray, List.set_cons_zero, List.set_cons_succ]
          refine held_take 7 93 (.agg H.toArray) rfl rfl (by kernel_rfl) (by kernel_rfl) (by kernel_rfl) (fun _ _ _ h => h) (yieldsIf_load_mid (by rfl) 48 _ rfl gl (i * 73) rfl H _ (fun u hu => by cases hu; exact RB.out) Try.underlying48 rfl (by rw [hh73.out]; exact info_hh)) hHeld ?_
          simp only [Act.put, List.setIfInBounds_toArray, List.set_cons_zero, List.set_cons_succ]
          refine held_take 8 94 (.bool false) rfl rfl (by kernel_rfl) (by kernel_rfl) (by kernel_rfl) (fun _ _ _ h => h) (Or.inl ⟨by rfl, fun u hu => ?_⟩) hHeld ?_
          · go_simp
          simp only [Act.put, List.setIfInBounds_toArray, List.set_cons_zero, List.set_cons_succ]
          refine held_take 9 95 (.bool false) rfl rfl (by kernel_rfl) (by kernel_rfl) (by kernel_rfl) (fun _ _ _ h => h) (Or.inl ⟨by rfl, fun u hu => ?_⟩) hHeld ?_
          · go_simp
          simp only [Act.put, List.setIfInBounds_toArray, List.set_cons_zero, List.set_cons_succ]
          refine held_take 10 96 (.int .i64 0) rfl rfl (by kernel_rfl) (by kernel_rfl) (by kernel_rfl) (fun _ _ _ h => h) (Or.inl ⟨by rfl, fun u hu => ?_⟩) hHeld ?_
          · go_simp
          simp only [Act.put, List.setIfInBounds_toArray, List.set_cons_zero, List.set_cons_succ]
          refine held_take 11 97 (.bool false) rfl rfl (by kernel_rfl) (by kernel_rfl) (by kernel_rfl) (fun _ _ _ h => h) (Or.inl ⟨by rfl, fun u hu => ?_⟩) hHeld ?_
          · go_simp
          simp only [Act.put, List.setIfInBounds_toArray, List.set_cons_zero, List.set_cons_succ]
          refine held_take 12 98 (.bool false) rfl rfl (by kernel_rfl) (by kernel_rfl) (by kernel_rfl) (fun _ _ _ h => h) (Or.inl ⟨by rfl, fun u hu => ?_⟩) hHeld ?_
          · go_simp
          simp only [Act.put, List.setIfInBounds_toArray, List.set_cons_zero, List.set_cons_succ]
          refine held_take 13 99 (.bool false) rfl rfl (by kernel_rfl) (by kernel_rfl) (by kernel_rfl) (fun _ _ _ h => h) (Or.inl ⟨by rfl, fun u hu => ?_⟩) hHeld ?_
          · go_simp
          simp only [Act.put, List.setIfInBounds_toArray, List.set_cons_zero, List.set_cons_succ]
          refine held_take 14 100 (.bool true) rfl rfl (by kernel_rfl) (by kernel_rfl) (by kernel_rfl) (fun _ _ _ h => h) (Or.inl ⟨by rfl, fun u hu => ?_⟩) hHeld ?_
          · go_simp
          simp only [Act.put, List.setIfInBounds_toArray, List.set_cons_zero, List.set_cons_succ]
          refine held_take 15 101 (.bool false) rfl rfl (by kernel_rfl) (by kernel_rfl) (by kernel_rfl) (fun _ _ _ h => h) (Or.inl ⟨by rfl, fun u hu => ?_⟩) hHeld ?_
          · go_simp
          simp only [Act.put, List.setIfInBounds_toArray, List.set_cons_zero, List.set_cons_succ]
          refine held_take 16 102 (.bool false) rfl rfl (by kernel_rfl) (by kernel_rfl) (by kernel_rfl) (fun _ _ _ h => h) (Or.inl ⟨by rfl, fun u hu => ?_⟩) hHeld ?_
          · go_simp
          simp only [Act.put, List.setIfInBounds_toArray, List.set_cons_zero, List.set_cons_succ]
          refine held_take 17 103 (.bool false) rfl rfl (by kernel_rfl) (by kernel_rfl) (by kernel_rfl) (fun _ _ _ h => h) (Or.inl ⟨by rfl, fun u hu => ?_⟩) hHeld ?_
          · go_simp
          simp only [Act.put, List.setIfInBounds_toArray, List.set_cons_zero, List.set_cons_succ]
          refine held_take 18 104 (.int .u8 kx) rfl rfl (by kernel_rfl) (by kernel_rfl) (by kernel_rfl) (fun _ _ _ h => h) (Or.inl ⟨by rfl, fun u hu => ?_⟩) hHeld ?_
          · go_simp
          simp only [Act.put, List.setIfInBounds_toArray, List.set_cons_zero, List.set_cons_succ]
          refine held_take 19 105 (.pointer (some ⟨gs, kx.toNat, none⟩)) rfl rfl (by kernel_rfl) (by kernel_rfl) (by kernel_rfl) (fun _ _ _ h => h) (Or.inl ⟨by rfl, fun u hu => ?_⟩) hHeld ?_
          · go_simp
          simp only [Act.put, List.setIfInBounds_toArray, List.set_cons_zero, List.set_cons_succ]
          refine held_take 20 106 (.bool false) rfl rfl (by kernel_rfl) (by kernel_rfl) (by kernel_rfl) (fun _ _ _ h => h) (Or.inl ⟨by rfl, fun u hu => ?_⟩) hHeld ?_
          · cases hu; go_simp
          simp only [Act.put, List.setIfInBounds_toArray, List.set_cons_zero, List.set_cons_succ]
          refine held_take 21 107 (.bool true) rfl rfl (by kernel_rfl) (by kernel_rfl) (by kernel_rfl) (fun _ _ _ h => h) (Or.inl ⟨by rfl, fun u hu => ?_⟩) hHeld ?_
          · go_simp
          simp only [Act.put, List.setIfInBounds_toArray, List.set_cons_zero, List.set_cons_succ]
          refine held_take 22 108 (.bool true) rfl rfl (by kernel_rfl) (by kernel_rfl) (by kernel_rfl) (fun _ _ _ h => h) (Or.inl ⟨by rfl, fun u hu => ?_⟩) hHeld ?_
          · go_simp
          simp only [Act.put, List.setIfInBounds_toArray, List.set_cons_zero, List.set_cons_succ]
          refine held_take 23 109 (.agg [Value.int .i64 mu, Value.int .i64 s].toArray) rfl rfl (by kernel_rfl) (by kernel_rfl) (by kernel_rfl) (fun _ _ _ h => h) (yieldsIf_load_mid (by rfl) 52 _ rfl w8.heap.size (0) rfl [Value.int .i64 mu, Value.int .i64 s] _ (fun u hu => by cases hu; exact RR.out) Try.underlying52 rfl (info_rg)) hHeld ?_
          simp only [Act.put, List.setIfInBounds_toArray, List.set_cons_zero, List.set_cons_succ]
          refine held_take 24 110 (.int .i64 mu) rfl rfl (by kernel_rfl) (by kernel_rfl) (by kernel_rfl) (fun _ _ _ h => h) (Or.inl ⟨by rfl, fun u hu => ?_⟩) hHeld ?_
          · go_simp
          simp only [Act.put, List.setIfInBounds_toArray, List.set_cons_zero, List.set_cons_succ]
          refine held_take 25 111 (.slice (some ⟨gz, 0, none⟩) 7 7) rfl rfl (by kernel_rfl) (by kernel_rfl) (by kernel_rfl) (fun _ _ _ h => h) (Or.inl ⟨by rfl, fun u hu => ?_⟩) hHeld ?_
          · go_simp
          simp only [Act.put, List.setIfInBounds_toArray, List.set_cons_zero, List.set_cons_succ]
          refine held_take 26 112 (.int .u8 kx) rfl rfl (by kernel_rfl) (by kernel_rfl) (by kernel_rfl) (fun _ _ _ h => h) (Or.inl ⟨by rfl, fun u hu => ?_⟩) hHeld ?_
          · go_simp
          simp only [Act.put, List.setIfInBounds_toArray, List.set_cons_zero, List.set_cons_succ]
          refine held_take 27 113 (.pointer (some ⟨gz, kx.toNat, none⟩)) rfl rfl (by kernel_rfl) (by kernel_rfl) (by kernel_rfl) (fun _ _ _ h => h) (Or.inl ⟨by rfl, fun u hu => ?_⟩) hHeld ?_
          · go_simp
          simp only [Act.put, List.setIfInBounds_toArray, List.set_cons_zero, List.set_cons_succ]
          refine held_take 28 114 (.int .i64 s) rfl rfl (by kernel_rfl) (by kernel_rfl) (by kernel_rfl) (fun _ _ _ h => h) (Or.inl ⟨by rfl, fun u hu => ?_⟩) hHeld ?_
          · cases hu; go_simp
          simp only [Act.put, List.setIfInBounds_toArray, List.set_cons_zero, List.set_cons_succ]
          refine held_take 29 115 (.agg #[.int .i64 mu, .int .i64 s]) rfl rfl (by kernel_rfl) (by kernel_rfl) (by kernel_rfl) (fun _ _ _ h => h) (Or.inl ⟨by rfl, fun u hu => ?_⟩) hHeld ?_
          · go_simp
          simp only [Act.put, List.setIfInBounds_toArray, List.set_cons_zero, List.set_cons_succ]
          refine held_take 30 116 (.bool false) rfl rfl (by kernel_rfl) (by kernel_rfl) (by kernel_rfl) (fun _ _ _ h => h) (Or.inl ⟨by rfl, fun u hu => ?_⟩) hHeld ?_
          · go_simp
          simp only [Act.put, List.setIfInBounds_toArray, List.set_cons_zero, List.set_cons_succ]
          refine held_take 31 117 (.bool false) rfl rfl (by kernel_rfl) (by kernel_rfl) (by kernel_rfl) (fun _ _ _ h => h) (Or.inl ⟨by rfl, fun u hu => ?_⟩) hHeld ?_
          · go_simp
          simp only [Act.put, List.setIfInBounds_toArray, List.set_cons_zero, List.set_cons_succ]
          refine held_take 32 118 (.bool false) rfl rfl (by kernel_rfl) (by kernel_rfl) (by kernel_rfl) (fun _ _ _ h => h) (Or.inl ⟨by rfl, fun u hu => ?_⟩) hHeld ?_
          · go_simp
          simp only [Act.put, List.setIfInBounds_toArray, List.set_cons_zero, List.set_cons_succ]
          refine wpAnyH_done (by kernel_rfl) ?_ _
          go_wp2_with fail
          go_meet
          exact ⟨rfl, rfl⟩
      case rest =>
        obtain ⟨rfl, rfl⟩ := hcut
        have RB' : Hid (wq.drew.rangeAt gl (i * 73) H) := RB
        have HNXC := Hid.mk' (next_any H wq.drew KH.out)
        have OWL2 : wq.drew.ownsRow B0 48 73 (.slice (some ⟨gl, 0, none⟩) N cl) N (hsC out) := H8d.out.get (i := 0) rfl
        have hP1 : Hid (hTot (out.take (i + 1)) = P + s) := Hid.mk' (by rw [HTP.out, hTot_app, HPP.out]; simp [hTot, HSZ.out])
        have HSL2 : Hid ((SN.set kx.toNat true).length = 7) := Hid.mk' (by rw [List.length_set]; exact HSL.out)
        have HSN2 : Hid (∀ k : Int, 1 ≤ k → k ≤ 6 → (SN.set kx.toNat true)[k.toNat]? = some false → ∀ j z, j < i + 1 → out[j]? = some z → ¬ z.1 = k) := Hid.mk' (fun k h1 h2 h3 j z hj hz e => by
          by_cases hk : k = kx
          · subst hk
            rw [List.getElem?_set_self (by rw [HSL.out]; omega)] at h3
            cases h3
          · rw [List.getElem?_set_ne (by omega)] at h3
            by_cases hji : j = i
            · subst hji
              rw [HX.out] at hz
              cases hz
              exact hk e.symm
            · exact HSN.out k h1 h2 h3 j z (by omega) hz e)
        have smap : (SN.map Value.bool).set kx.toNat (.bool true) = (SN.set kx.toNat true).map Value.bool := by rw [List.map_set]
        by_cases hl : i + 1 < N
        · obtain ⟨⟨ky, L'⟩, hy⟩ : ∃ z, out[i + 1]? = some z := ⟨_, List.getElem?_eq_getElem (by rw [HN.out]; exact hl)⟩
          have hnk : nx (hk kx L) = ky := HSA.out.1 (ky, L') hy
          have KY := OK.out (ky, L') (List.mem_of_getElem? hy)
          have ky1 : 1 ≤ ky := KY.1
          have ky6 : ky ≤ 6 := KY.2.1
          rw [HHk.out] at hnk
          rw [hnk] at HNXC
          have hkb : (ky == 0) = false := by simp; omega
          rw [hkb] at HNXC
          have cky := head_kind OWL2 OK.out (i + 1) ky L' hy
          have hlI : (i : Int) + 1 < (N : Int) := by omega
          clear hy KY OWL2 hnk
          go_wp2_with (first
            | refine wpList_load_mid rfl 48 _ rfl gl (i * 73) rfl H _ RB.out Try.underlying48 rfl (by rw [hh73.out]; exact info_hh) ?_
            | (go_at_call 16; refine HNXC.out.mono ?_; rintro e0 w10 ⟨rfl, b10⟩; have H10 := Hid.mk' (H8d.out.below b10); have cky' := (b10.cell (p := ⟨gl, (i + 1) * 73, none⟩) (lt_of_cell cky)).trans cky; have cs' := (b10.cell (p := ⟨gs, kx.toNat, none⟩) (lt_of_cell cs)).trans cs; have csz' := (b10.cell (p := ⟨gz, kx.toNat, none⟩) (lt_of_cell csz)).trans csz; have fs' : w10.frozen? ⟨gs, kx.toNat, none⟩ = false := frozen_of_row w10 gs kx.toNat _ _ (H10.out.get (i := 5) rfl); have H11 : Hid (Heap W (w10.setCell ⟨gs, kx.toNat, none⟩ (.bool true)) [rowT B0 48 73 (.slice (some ⟨gl, 0, none⟩) N cl) N (hsC out), rowT w4.heap.size 5 1 (.slice a5 np c5) np (p.map (Value.int .u8)), rowT w5.heap.size 48 73 (.slice (some ⟨gq, 0, none⟩) N ck) N (hsC out), rowT w5.heap.size 5 1 (.slice ar m cr) m (ys.map (Value.int .u8)), cellsT gz szC.toArray 3, cellsT gs ((SN.set kx.toNat true).map Value.bool).toArray 65]) := Hid.mk' (by { have := H10.out.cset1 5 rfl kx.toNat (by rw [List.length_map, HSL.out]; omega) (.bool true); rw [smap] at this; exact this }); have csz2 : (w10.setCell ⟨gs, kx.toNat, none⟩ (.bool true)).cell? ⟨gz, kx.toNat, none⟩ = some (.int .i64 s) := by { have hb : (w10.setCell ⟨gs, kx.toNat, none⟩ (.bool true)).heap[gz]? = some (.cells szC.toArray 3 (0, 0)) := H11.out.get (i := 4) rfl; rw [cell_of_row _ gz kx.toNat _ _ _ hb, szC_at k1 k6, HSZ.out] }; clear b10 cs csz cky))
          go_roundg (N - (i + 1))
          case measure => omega
          case rel => exact ⟨i + 1, SN.set kx.toNat true, by go_num, by rw [hP1.out]; go_num, by omega, by omega, HSL2, HSN2, H11⟩
        · have hnk : nx (hk kx L) = 0 := HSA.out.2 (by rw [HN.out]; omega)
          rw [HHk.out] at hnk
          rw [hnk] at HNXC
          have hlI : ¬ (i : Int) + 1 < (N : Int) := by omega
          clear OWL2 hnk
          go_wp2_with (first
            | refine wpList_load_mid rfl 48 _ rfl gl (i * 73) rfl H _ RB.out Try.underlying48 rfl (by rw [hh73.out]; exact info_hh) ?_
            | (go_at_call 16; refine HNXC.out.mono ?_; rintro e0 w10 ⟨rfl, b10⟩; have H10 := Hid.mk' (H8d.out.below b10); have cs' := (b10.cell (p := ⟨gs, kx.toNat, none⟩) (lt_of_cell cs)).trans cs; have csz' := (b10.cell (p := ⟨gz, kx.toNat, none⟩) (lt_of_cell csz)).trans csz; have fs' : w10.frozen? ⟨gs, kx.toNat, none⟩ = false := frozen_of_row w10 gs kx.toNat _ _ (H10.out.get (i := 5) rfl); have H11 : Hid (Heap W (w10.setCell ⟨gs, kx.toNat, none⟩ (.bool true)) [rowT B0 48 73 (.slice (some ⟨gl, 0, none⟩) N cl) N (hsC out), rowT w4.heap.size 5 1 (.slice a5 np c5) np (p.map (Value.int .u8)), rowT w5.heap.size 48 73 (.slice (some ⟨gq, 0, none⟩) N ck) N (hsC out), rowT w5.heap.size 5 1 (.slice ar m cr) m (ys.map (Value.int .u8)), cellsT gz szC.toArray 3, cellsT gs ((SN.set kx.toNat true).map Value.bool).toArray 65]) := Hid.mk' (by { have := H10.out.cset1 5 rfl kx.toNat (by rw [List.length_map, HSL.out]; omega) (.bool true); rw [smap] at this; exact this }); have csz2 : (w10.setCell ⟨gs, kx.toNat, none⟩ (.bool true)).cell? ⟨gz, kx.toNat, none⟩ = some (.int .i64 s) := by { have hb : (w10.setCell ⟨gs, kx.toNat, none⟩ (.bool true)).heap[gz]? = some (.cells szC.toArray 3 (0, 0)) := H11.out.get (i := 4) rfl; rw [cell_of_row _ gz kx.toNat _ _ _ hb, szC_at k1 k6, HSZ.out] }; clear b10 cs csz))
          go_roundg (N - (i + 1))
          case measure => omega
          case rel => exact ⟨i + 1, SN.set kx.toNat true, by go_num, by rw [hP1.out]; go_num, by omega, by omega, HSL2, HSN2, H11⟩
    · have hiN : i = N := by omega
      have HTK : Hid (out.take i = out) := Hid.mk' (List.take_of_length_le (by rw [HN.out]; omega))
      rw [HTK.out, HMM.out]
      have hsum : (M : Int) + (m : Int) = (np : Int) := by have := HPL.out; omega
      go_wp2_with fail
      go_ret
      refine ⟨?_, HH.out.old⟩
      simp

theorem walkPeelBack (m0 : sh59.M) (a : Option Addr) (c : Nat) (zs : List Int) (W : World) (o0 : sh59.ok W m0) (h1 : Bs W a zs) (n1 : (a = none → c = 0) ∧ zs.length ≤ c) :
    Calls Try.prog 5 #[.agg (sh59.cs m0).toArray, .slice a zs.length c] W fun e w' => e = .returned (.bool true) ∧ Below W.heap.size W w' := by
  obtain ⟨T, x, y, ma, mb, mc, md, me, mf⟩ := m0
  obtain ⟨oT, ox, oy, oa, ob, oc, od, oe, of⟩ := o0
  obtain ⟨da, sa, ta, ea, ha⟩ := lhd_open W ma oa
  obtain ⟨pb, ib, tb, eb, hb⟩ := K06.hd_open W mb ob
  have hp : ChP da sa ta pb ib tb (sh38.cs mc) (sh42.cs md) (sh44.cs me) (sh46.cs mf) := ⟨ha, hb, K07.hd_open W mc oc, K08.hd_open W md od, K09.hd_open W me oe, K10.hd_open W mf of⟩
  have e : sh59.cs (T, x, y, ma, mb, mc, md, me, mf) = chC T x y da sa ta pb ib tb (sh38.cs mc) (sh42.cs md) (sh44.cs me) (sh46.cs mf) := by
    show [Value.int .i64 T] ++ ([Value.int .i64 x] ++ ([Value.int .i64 y] ++ (sh33.cs ma ++ (sh35.cs mb ++ (sh38.cs mc ++ (sh42.cs md ++ (sh44.cs me ++ sh46.cs mf))))))) = _
    rw [ea, eb]; rfl
  rw [e]
  exact back_any T x y da sa ta pb ib tb _ _ _ _ a zs.length c zs W (bounds_i64 oT).1 (bounds_i64 oT).2 (bounds_i64 ox).1 (bounds_i64 ox).2 (bounds_i64 oy).1 (bounds_i64 oy).2 hp rfl h1 n1.1 n1.2
end Go.Proofs.Ythdgfhllieknlaa
