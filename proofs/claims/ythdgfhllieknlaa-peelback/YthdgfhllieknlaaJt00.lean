/- The statements' own chains of headers: network header 0, transport header 0. -/
import Derived.Test.YthdgfhllieknlaaJt
namespace Go.Proofs.Ythdgfhllieknlaa
open Go.ChangeShapes Go.WideShapes Go.ChangeAt Go.RowKit
set_option maxRecDepth 10000

set_option maxHeartbeats 4000000 in
theorem heads_00 (T : Int) (da sa : List Int) (ta pb ib tb : Int) (c d e f : List Value) (w : World) (hT0 : -9223372036854775808 ≤ T) (hT1 : T ≤ 9223372036854775807) (hp : ChP da sa ta pb ib tb c d e f) :
    Calls Try.prog 19 #[.agg (chC T 0 0 da sa ta pb ib tb c d e f).toArray] w fun r w' => ∃ t : Nat, t < 6 ∧ ∃ v, r = .returned v ∧ w'.ownsRow w.heap.size 48 73 v (chain da sa pb ib t 0 0 c d e f).length (hsC (chain da sa pb ib t 0 0 c d e f)) ∧ Below w.heap.size w w' := by
  obtain ⟨ha, hb, hc, hd, he, hf⟩ := hp
  have hA := ha.dl
  have hS := ha.sl
  have lA : (da.map (Value.int .u8)).length = 6 := by rw [List.length_map, hA]
  have lS : (sa.map (Value.int .u8)).length = 6 := by rw [List.length_map, hS]
  have lk := K05.lkC_length ha
  have lc := K07.hd_len hc
  have ld := K08.hd_len hd
  have le := K09.hd_len he
  have lf := K10.hd_len hf
  obtain ⟨C, HC⟩ : ∃ C, Hid (chC T 0 0 da sa ta pb ib tb c d e f = C) := ⟨_, rfl⟩
  have c0 : C[0]? = some (.int .i64 T) := by rw [← HC.out]; rfl
  have c1 : C[1]? = some (.int .i64 0) := by rw [← HC.out]; rfl
  have c2 : C[2]? = some (.int .i64 0) := by rw [← HC.out]; rfl
  have HT16 : C[16]? = some (.int .u8 pb) ∧ C[17]? = some (.int .u16 ib) := by
    rw [← HC.out]
    constructor
    · unfold chC
      rw [List.getElem?_append_right (by simp), List.getElem?_append_right (by rw [lk]; exact (by decide : 13 ≤ 13)), lk]; rfl
    · unfold chC
      rw [List.getElem?_append_right (by simp), List.getElem?_append_right (by rw [lk]; exact (by decide : 13 ≤ 14)), lk]; rfl
  obtain ⟨c16, c17⟩ := HT16
  have C0 : C.toArray[0]? = some (.int .i64 T) := by simpa using c0
  have C1 : C.toArray[1]? = some (.int .i64 0) := by simpa using c1
  have C2 : C.toArray[2]? = some (.int .i64 0) := by simpa using c2
  have RC : Hid (∀ (u : World), u.heap[w.heap.size]? = some (.cells C.toArray 59 (0, 0)) → u.rangeAt w.heap.size 3 (da.map (Value.int .u8)) ∧ u.rangeAt w.heap.size 9 (sa.map (Value.int .u8)) ∧ u.rangeAt w.heap.size 19 c ∧ u.rangeAt w.heap.size 31 d ∧ u.rangeAt w.heap.size 67 e ∧ u.rangeAt w.heap.size 73 f ∧ u.cell? ⟨w.heap.size, 16, none⟩ = some (.int .u8 pb) ∧ u.cell? ⟨w.heap.size, 17, none⟩ = some (.int .u16 ib)) := Hid.mk' (fun u hu => by
    refine ⟨?_, ?_, ?_, ?_, ?_, ?_, ?_, ?_⟩
    · refine hk_part (A := [.int .i64 T, .int .i64 0, .int .i64 0]) (B := sa.map (Value.int .u8) ++ ([.int .u16 ta] ++ (K06.tgC pb ib tb ++ (c ++ (d ++ (e ++ f)))))) C hu ?_ 3 rfl
      rw [← HC.out]; simp [chC, K05.lkC]
    · refine hk_part (A := [.int .i64 T, .int .i64 0, .int .i64 0] ++ da.map (Value.int .u8)) (B := [.int .u16 ta] ++ (K06.tgC pb ib tb ++ (c ++ (d ++ (e ++ f))))) C hu ?_ 9 (by rw [List.length_append, lA]; rfl)
      rw [← HC.out]; simp [chC, K05.lkC]
    · refine hk_part (A := [.int .i64 T, .int .i64 0, .int .i64 0] ++ (K05.lkC da sa ta ++ K06.tgC pb ib tb)) (B := d ++ (e ++ f)) C hu ?_ 19 (by rw [List.length_append, List.length_append, lk]; rfl)
      rw [← HC.out]; simp [chC]
    · refine hk_part (A := [.int .i64 T, .int .i64 0, .int .i64 0] ++ (K05.lkC da sa ta ++ (K06.tgC pb ib tb ++ c))) (B := e ++ f) C hu ?_ 31 (by rw [List.length_append, List.length_append, List.length_append, lk, lc]; rfl)
      rw [← HC.out]; simp [chC]
    · refine hk_part (A := [.int .i64 T, .int .i64 0, .int .i64 0] ++ (K05.lkC da sa ta ++ (K06.tgC pb ib tb ++ (c ++ d)))) (B := f) C hu ?_ 67 (by rw [List.length_append, List.length_append, List.length_append, List.length_append, lk, lc, ld]; rfl)
      rw [← HC.out]; simp [chC]
    · refine hk_part (A := [.int .i64 T, .int .i64 0, .int .i64 0] ++ (K05.lkC da sa ta ++ (K06.tgC pb ib tb ++ (c ++ (d ++ e))))) (B := []) C hu ?_ 73 (by rw [List.length_append, List.length_append, List.length_append, List.length_append, List.length_append, lk, lc, ld, le]; rfl)
      rw [← HC.out]; simp [chC]
    · rw [cell_of_row u _ 16 _ _ _ hu, List.getElem?_toArray]; exact c16
    · rw [cell_of_row u _ 17 _ _ _ hu, List.getElem?_toArray]; exact c17)
  rw [HC.out]
  clear HC c16 c17 lc ld le lf
  have HA := Hid.mk' ha
  have pb0 := hb.p0
  have pb1 := hb.p1
  have ib0 := hb.i0
  have ib1 := hb.i1
  have R1 : Hid ((w.alloc (.cells C.toArray 59)).heap[w.heap.size]? = some (.cells C.toArray 59 (0, 0))) := Hid.mk' (heap_alloc_new w _)
  have B1 : Hid (Below w.heap.size w (w.alloc (.cells C.toArray 59))) := Hid.mk' ((Below.refl _ _).alloc (Nat.le_refl _) _)
  obtain ⟨R3, R9, -⟩ := RC.out _ R1.out
  have HR3 := Hid.mk' R3
  have HR9 := Hid.mk' R9
  clear R3 R9 hA hS ha hb
  go_enter Try.func19, Try.ntmps19
  go_wp2_with fail
  refine (bring_any T 6 _ (by omega) (by omega) hT0 hT1).mono ?_
  rintro e0 w1 ⟨⟨t, ht, rfl⟩, rfl⟩
  obtain ⟨ty, HTY⟩ : ∃ ty, Hid (nxA t 4660 0 = ty) := ⟨_, rfl⟩
  go_upto_if 33 with fail
  go_cut [6] from 33 (fun s6 wc => s6 = .int .u16 ty ∧ w.alloc (.cells C.toArray 59) = wc)
  case first =>
    by_cases h0 : 0 < t
    · have hi : (0 : Int) < (t : Int) := by omega
      have hty : ty = 33024 := by rw [← HTY.out]; unfold nxA; rw [if_pos h0]
      subst hty
      go_wp2_with fail
      go_meet
      exact ⟨rfl, rfl⟩
    · have hi : ¬ (0 : Int) < (t : Int) := by omega
      have hty : ty = 4660 := by rw [← HTY.out]; unfold nxA; rw [if_neg h0]
      subst hty
      go_wp2_with fail
      go_meet
      exact ⟨rfl, rfl⟩
  case rest =>
  obtain ⟨rfl, rfl⟩ := hcut
  have KL : Hid (K05.Lk da sa ty) := Hid.mk' ⟨HA.out.dl, HA.out.sl, HA.out.db, HA.out.sb, by rw [← HTY.out]; unfold nxA; split <;> omega, by rw [← HTY.out]; unfold nxA; split <;> omega⟩
  have K1 : KHd 1 (K05.lkC da sa ty) := ⟨by omega, by omega, fun _ => ⟨da, sa, ty, rfl, KL.out⟩, fun h => by omega, fun h => by omega, fun h => by omega, fun h => by omega, fun h => by omega⟩
  have KH1 := Hid.mk' (hk_hh K1)
  have hbl := Hid.mk' (built_lk da sa ty HA.out.dl HA.out.sl)
  have hbh := Hid.mk' (built_1 (K05.lkC da sa ty) (K05.lkC_length KL.out))
  have HQ0 : Hid (hsC (chA da sa pb ib t 4660 0) = hk 1 (K05.lkC da sa ty)) := Hid.mk' (by unfold chA; rw [HTY.out]; simp [hsC, chTs])
  obtain ⟨L1, HL1⟩ : ∃ L1, Hid (K05.lkC da sa ty = L1) := ⟨_, rfl⟩
  rw [HL1.out] at KH1 hbl hbh HQ0
  obtain ⟨H1, HH1⟩ : ∃ H1, Hid (hk 1 L1 = H1) := ⟨_, rfl⟩
  rw [HH1.out] at KH1 hbh HQ0
  have h173 := Hid.mk' (hh_len KH1.out)
  have hbs := Hid.mk' (bslice_1 H1 h173.out)
  obtain ⟨DA, HDA⟩ : ∃ DA, Hid (da.map (Value.int .u8) = DA) := ⟨_, rfl⟩
  obtain ⟨SA, HSA⟩ : ∃ SA, Hid (sa.map (Value.int .u8) = SA) := ⟨_, rfl⟩
  rw [HDA.out] at HR3 lA hbl
  rw [HSA.out] at HR9 lS hbl
  have hlA := Hid.mk' lA
  have hlS := Hid.mk' lS
  have H2 : Hid (Heap w ((w.alloc (.cells C.toArray 59)).alloc (.cells H1.toArray 48)) [cellsT w.heap.size C.toArray 59, rowT w.heap.size 48 73 (.slice (some ⟨w.heap.size + 1, 0, none⟩) 1 1) 1 (hsC (chA da sa pb ib t 4660 0))]) := Hid.mk' (by
    have h0 : Heap w (w.alloc (.cells C.toArray 59)) [cellsT w.heap.size C.toArray 59] := (Heap.nil (Below.refl _ _)).add ((Below.refl _ _).alloc (Nat.le_refl _) _) (cellsT w.heap.size C.toArray 59) (heap_alloc_new w _) (fun k hk => Nat.le_of_eq hk.symm)
    refine h0.push ((Below.refl _ _).alloc (Nat.le_refl _) _) (rowT w.heap.size 48 73 (.slice (some ⟨w.heap.size + 1, 0, none⟩) 1 1) 1 (hsC (chA da sa pb ib t 4660 0))) ?_ (fun k hk => ?_)
    · have := World.ownsRow_lit (base := w.heap.size) (size := 73) (e := 48) (w.alloc (.cells C.toArray 59)) H1.toArray 1 (by simp) (by unfold maxLen; omega) (by simp [h173.out])
      rw [show (w.alloc (.cells C.toArray 59)).heap.size = w.heap.size + 1 by simp] at this
      rw [HQ0.out]; exact this
    · have : some (w.heap.size + 1) = some k := hk
      simp at this ⊢; omega)
  clear lA lS lk KL HA K1
  go_wp2_with (first
    | refine wpList_load_mid rfl 30 _ rfl w.heap.size 3 rfl DA _ HR3.out Try.underlying30 rfl (by rw [hlA.out]; kernel_rfl) ?_
    | refine wpList_load_mid rfl 30 _ rfl w.heap.size 9 rfl SA _ HR9.out Try.underlying30 rfl (by rw [hlS.out]; kernel_rfl) ?_
    | refine wpList_buildTo rfl 33 #[(0, .tmp 36), (1, .tmp 39), (2, .tmp 40)] rfl (some 41) rfl L1.toArray (by simpa [Act.eval, Act.put] using hbl.out) ?_
    | refine wpList_buildTo rfl 48 #[(0, .const (.int .u8 1)), (1, .tmp 41)] rfl (some 42) rfl H1.toArray (by simpa [Act.eval, Act.put] using hbh.out) ?_
    | refine Great.wpList_buildSliceTo rfl 24 48 1 #[(0, .tmp 42)] rfl (w.heap.size + 1) (by simp) (some 43) rfl Try.underlying24 H1.toArray (by simpa [Act.eval, Act.put] using hbs.out) ?_)
  obtain ⟨i0, hif, hz0, hz1, hz2⟩ := info_parts info_head
  have hzs : (Value.agg hz.toArray).cells.size = 73 := by rfl
  have INF : Hid (Try.prog.info? 48 = some i0 ∧ i0.zero = some (.agg hz.toArray) ∧ i0.size = 73 ∧ i0.bytes = 100) := ⟨hif, hz0, hz1, hz2⟩
  clear hif hz0 hz1 hz2 hbl hbh hbs HR3 HR9 R1 B1 KH1 HQ0 h173
  go_loopg [6, 7, 8] 6 (fun g s6 s7 s8 wr => ∃ i : Nat, s8 = .int .i64 i ∧ s6 = .int .u16 (nxA t 4660 i) ∧ i ≤ t ∧ t - i ≤ g ∧ Hid (Heap w wr [cellsT w.heap.size C.toArray 59, rowT w.heap.size 48 73 s7 (i + 1) (hsC (chA da sa pb ib t 4660 i))]))
  case atStart => exact ⟨0, rfl, by rw [HTY.out], by omega, by omega, H2⟩
  case round =>
    clear H2
    obtain ⟨i, rfl, rfl, hi, hg, HH⟩ := hrel
    obtain ⟨sv, sc, hs⟩ := own_slice (HH.out.get (i := 1) rfl)
    subst hs
    have hbox : Hid (wr.heap[w.heap.size]? = some (.cells C.toArray 59 (0, 0))) := Hid.mk' (HH.out.get (i := 0) rfl)
    have hws := HH.out.old.size
    by_cases hlt : i < t
    · obtain ⟨-, -, -, -, -, -, q16, q17⟩ := RC.out wr hbox.out
      have hsp : (i : Int) < (t : Int) := by omega
      obtain ⟨tx, HTX⟩ : ∃ tx, Hid (nxA t 4660 (i + 1) = tx) := ⟨_, rfl⟩
      have tx0 : 0 ≤ tx ∧ tx ≤ 65535 := by rw [← HTX.out]; unfold nxA; split <;> omega
      have K2 : KHd 2 (K06.tgC (pb % 8) (ib % 4096) tx) := ⟨by omega, by omega, fun h => by omega, fun _ => ⟨_, _, _, rfl, by omega, by omega, by omega, by omega, tx0.1, tx0.2⟩, fun h => by omega, fun h => by omega, fun h => by omega, fun h => by omega⟩
      have KH2 := Hid.mk' (hk_hh K2)
      have hbh := Hid.mk' (built_2 (K06.tgC (pb % 8) (ib % 4096) tx) rfl)
      have HQ1 : Hid (hsC (chA da sa pb ib t 4660 (i + 1)) = hsC (chA da sa pb ib t 4660 i) ++ hk 2 (K06.tgC (pb % 8) (ib % 4096) tx)) := Hid.mk' (by rw [chA_push, hsC_app, chT, HTX.out, hsC_one])
      have hbt : Hid (Try.prog.built 35 [(0, .int .u8 (pb % 8)), (1, .int .u16 (ib % 4096)), (2, .int .u16 tx)] = some (K06.tgC (pb % 8) (ib % 4096) tx).toArray) := Hid.mk' (by kernel_rfl)
      obtain ⟨L2, HL2⟩ : ∃ L2, Hid (K06.tgC (pb % 8) (ib % 4096) tx = L2) := ⟨_, rfl⟩
      rw [HL2.out] at KH2 hbh HQ1 hbt
      obtain ⟨H2, HH2⟩ : ∃ H2, Hid (hk 2 L2 = H2) := ⟨_, rfl⟩
      rw [HH2.out] at KH2 hbh HQ1
      have h273 := Hid.mk' (hh_len KH2.out)
      have hhm := Hid.mk' (hh_mem KH2.out)
      have hbs := Hid.mk' (bslice_1 H2 h273.out)
      have OWN : Hid (wr.ownsRow w.heap.size 48 73 (.slice sv (i + 1) sc) (i + 1) (hsC (chA da sa pb ib t 4660 i))) := Hid.mk' (HH.out.get (i := 1) rfl)
      clear K2
      by_cases hl : i + 1 = t
      · have htx : 4660 = tx := by rw [← HTX.out]; unfold nxA; rw [if_neg (by omega)]
        subst htx
        have hi1 : ((i : Int) == (t : Int) - 1) = true := by simp; omega
        have hi2 : (i : Int) = (t : Int) - 1 := by omega
        go_wp2_with (first
          | refine wpList_buildTo rfl 35 #[(0, .tmp 58), (1, .tmp 62), (2, .tmp 63)] rfl (some 64) rfl L2.toArray (by simpa [Act.eval, Act.put] using hbt.out) ?_
          | refine wpList_buildTo rfl 48 #[(0, .const (.int .u8 2)), (2, .tmp 64)] rfl (some 65) rfl H2.toArray (by simpa [Act.eval, Act.put] using hbh.out) ?_
          | refine Great.wpList_buildSliceTo rfl 24 48 1 #[(0, .tmp 65)] rfl wr.heap.size rfl (some 66) rfl Try.underlying24 H2.toArray (by simpa [Act.eval, Act.put] using hbs.out) ?_
          | (at_builtin; go_loud (refine wpList_append_own2 rfl _ _ 24 rfl w.heap.size 48 i0 (.agg hz.toArray) 73 100 Try.underlying24 INF.out.1 INF.out.2.1 INF.out.2.2.1 INF.out.2.2.2 hzs (by decide) (.slice sv (i + 1) sc) (i + 1) (hsC (chA da sa pb ib t 4660 i)) rfl (World.ownsRow.alloc OWN.out _) ⟨wr.heap.size, 0, none⟩ 1 1 H2 rfl (by rw [h273.out]) (cells_laid wr 48 H2) hhm.out (by unfold maxLen; omega) (by omega) (by simp; omega) ?_; intro v' w6 hown6 hgr6 hob6; have H6 := Hid.mk' ((HH.out.below ((Below.refl _ _).alloc (Nat.le_refl _) (.cells H2.toArray 48))).grown 1 rfl hown6 hgr6 hob6); clear hown6 hgr6 hob6)))
        go_roundg (t - (i + 1))
        case measure => omega
        case rel =>
          refine ⟨i + 1, by go_num, by rw [HTX.out], by omega, by omega, ?_⟩
          rw [HQ1.out]; exact H6
      · have htx : 33024 = tx := by rw [← HTX.out]; unfold nxA; rw [if_pos (by omega)]
        have hnx : nxA t 4660 i = 33024 := by unfold nxA; rw [if_pos hlt]
        subst htx
        rw [hnx]
        have hi1 : ((i : Int) == (t : Int) - 1) = false := by simp; omega
        have hi2 : ¬ (i : Int) = (t : Int) - 1 := by omega
        go_wp2_with (first
          | refine wpList_buildTo rfl 35 #[(0, .tmp 58), (1, .tmp 62), (2, .tmp 63)] rfl (some 64) rfl L2.toArray (by simpa [Act.eval, Act.put] using hbt.out) ?_
          | refine wpList_buildTo rfl 48 #[(0, .const (.int .u8 2)), (2, .tmp 64)] rfl (some 65) rfl H2.toArray (by simpa [Act.eval, Act.put] using hbh.out) ?_
          | refine Great.wpList_buildSliceTo rfl 24 48 1 #[(0, .tmp 65)] rfl wr.heap.size rfl (some 66) rfl Try.underlying24 H2.toArray (by simpa [Act.eval, Act.put] using hbs.out) ?_
          | (at_builtin; go_loud (refine wpList_append_own2 rfl _ _ 24 rfl w.heap.size 48 i0 (.agg hz.toArray) 73 100 Try.underlying24 INF.out.1 INF.out.2.1 INF.out.2.2.1 INF.out.2.2.2 hzs (by decide) (.slice sv (i + 1) sc) (i + 1) (hsC (chA da sa pb ib t 4660 i)) rfl (World.ownsRow.alloc OWN.out _) ⟨wr.heap.size, 0, none⟩ 1 1 H2 rfl (by rw [h273.out]) (cells_laid wr 48 H2) hhm.out (by unfold maxLen; omega) (by omega) (by simp; omega) ?_; intro v' w6 hown6 hgr6 hob6; have H6 := Hid.mk' ((HH.out.below ((Below.refl _ _).alloc (Nat.le_refl _) (.cells H2.toArray 48))).grown 1 rfl hown6 hgr6 hob6); clear hown6 hgr6 hob6)))
        go_roundg (t - (i + 1))
        case measure => omega
        case rel =>
          refine ⟨i + 1, by go_num, by rw [HTX.out], by omega, by omega, ?_⟩
          rw [HQ1.out]; exact H6
    · have hit : i = t := by omega
      have hsp : ¬ (i : Int) < (t : Int) := by omega
      subst hit
      have hnx : nxA i 4660 i = 4660 := by unfold nxA; rw [if_neg hlt]
      rw [hnx]
      go_wp2_with fail
      go_ret
      refine ⟨i, ht, .slice sv (i + 1) sc, rfl, ?_, HH.out.old⟩
      have e : chain da sa pb ib i 0 0 c d e f = chA da sa pb ib i 4660 i := by unfold chain chN chX nV; simp
      rw [e, chA_len]
      exact HH.out.get (i := 1) rfl
end Go.Proofs.Ythdgfhllieknlaa
