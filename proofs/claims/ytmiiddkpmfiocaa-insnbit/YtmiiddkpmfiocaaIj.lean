/- Reads of the document. -/
import Derived.Test.YtmiiddkpmfiocaaIi
import Derived.Deep.RegionWith
import Derived.Deep.CutBlock
namespace Go.Proofs.Ytmiiddkpmfiocaa
open Go.ChangeShapes Go.WideShapes Go.ChangeAt Go.RowKit
set_option maxRecDepth 10000

/-- The numbers that a row of ten says yes to. -/
def idx (T : List Bool) : List Int := ((List.range 10).filter (fun k => T.getD k false)).map Int.ofNat
def tIf (b : Bool) (k : Nat) (T : List Bool) : List Bool := if b then T.set k true else T
def t0 : List Bool := List.replicate 10 false
/-- Who is written by these operations, and not read. -/
def wrO (p : Int) : Bool := decide (p = 1) || decide (p = 2) || (decide (14 ≤ p) && decide (p ≤ 18)) || decide (p = 21)

theorem idx_two : ∀ (A B : Bool) (d s : Fin 10), idx (tIf B d.1 (t0.set s.1 A)) = (if B then (if A then two (Int.ofNat d.1) (Int.ofNat s.1) else [Int.ofNat d.1]) else (if A then [Int.ofNat s.1] else [])) := by
  decide +kernel

theorem flags : ∀ k : Nat, k < 37 → k ≠ 35 → k ≠ 36 → 1 ≤ k → (hasB (rowN (Int.ofNat k)) 115 = decide (useN (Int.ofNat k) &&& 4 ≠ 0)) ∧ ((hasB (rowN (Int.ofNat k)) 100 && !wrO (Int.ofNat k)) = decide (useN (Int.ofNat k) &&& 1 ≠ 0)) := by
  decide +kernel

/-- What the document's row says in the end. -/
def tEnd (p i : Int) (d s : Nat) : List Bool :=
  let T := tIf (hasB (rowN p) 100 && !wrO p) d (t0.set s (hasB (rowN p) 115))
  if p = 36 then T.set 0 true else if p = 35 then (if argN i = 1 then T.set 1 true else if argN i = 2 then (T.set 1 true).set 2 true else ((T.set 1 true).set 2 true).set 3 true) else T

theorem idx_end (p d s o i : Int) (h : mayR p d s o i = true) (d0 : 0 ≤ d) (s0 : 0 ≤ s) : idx (tEnd p i d.toNat s.toNat) = rdN p d s i := by
  obtain ⟨p1, p2, d9, s9⟩ := may_ds h
  obtain ⟨k, rfl⟩ := Int.eq_ofNat_of_zero_le (show 0 ≤ p by omega)
  obtain ⟨dn, rfl⟩ := Int.eq_ofNat_of_zero_le d0
  obtain ⟨sn, rfl⟩ := Int.eq_ofNat_of_zero_le s0
  by_cases h36 : k = 36
  · subst h36
    have e1 : dn = 0 := by
      unfold mayR at h
      simp [rowN, hasB] at h
      omega
    have e2 : sn = 0 := by
      unfold mayR at h
      simp [rowN, hasB] at h
      omega
    subst e1 e2
    unfold tEnd rdN
    rw [if_pos (by rfl), if_pos (by rfl)]
    decide
  by_cases h35 : k = 35
  · subst h35
    have e1 : dn = 0 := by
      unfold mayR at h
      simp [rowN, hasB] at h
      omega
    have e2 : sn = 0 := by
      unfold mayR at h
      simp [rowN, hasB] at h
      omega
    subst e1 e2
    unfold tEnd rdN
    have a36 : ¬ ((35 : Nat) : Int) = 36 := by decide
    have a35 : ((35 : Nat) : Int) = 35 := by decide
    rw [if_neg a36, if_pos a35, if_neg a36, if_pos a35]
    rcases argN_is i with e | e | e
    · rw [e]; decide
    · rw [e]; decide
    · rw [e]; decide
  · obtain ⟨f1, f2⟩ := flags k (by omega) h35 h36 (by omega)
    unfold tEnd rdN
    rw [if_neg (by omega), if_neg (by omega), if_neg (by omega), if_neg (by omega)]
    have e := idx_two (decide (useN (Int.ofNat k) &&& 4 ≠ 0)) (decide (useN (Int.ofNat k) &&& 1 ≠ 0)) ⟨dn, by omega⟩ ⟨sn, by omega⟩
    rw [← f1, ← f2] at e
    refine Eq.trans e ?_
    rw [f1, f2]
    simp only [decide_eq_true_eq]
    rfl

/-- The ten booleans in their block, while nothing elder is written. -/
structure TJ (w1 : World) (q : Nat) (T : List Bool) (w : World) : Prop where
  heap : w.heap[q]? = some (.cells (T.map Value.bool).toArray 63 (0, 0))
  below : Below w1.heap.size w1 w
  len : T.length = 10
  base : w1.heap.size ≤ q

theorem TJ.cell {w1 w : World} {q : Nat} {T : List Bool} (h : TJ w1 q T w) (k : Nat) (hk : k < 10) : w.cell? ⟨q, k, none⟩ = some (.bool (T.getD k false)) := by
  rw [Go.cell_of_row w q k _ _ _ h.heap]
  have : k < T.length := by rw [h.len]; exact hk
  simp [this]
theorem TJ.frozen {w1 w : World} {q : Nat} {T : List Bool} (h : TJ w1 q T w) (k : Nat) : w.frozen? ⟨q, k, none⟩ = false := by
  simp [World.frozen?, h.heap]
theorem TJ.keep {w1 w w' : World} {q : Nat} {T : List Bool} (h : TJ w1 q T w) (b : Below w.heap.size w w') : TJ w1 q T w' :=
  ⟨(b.block q (Array.getElem?_eq_some_iff.1 h.heap).1).trans h.heap, h.below.trans (b.mono h.below.size), h.len, h.base⟩
theorem TJ.set {w1 w : World} {q : Nat} {T : List Bool} (h : TJ w1 q T w) (k : Nat) (b : Bool) : TJ w1 q (T.set k b) (w.setCell ⟨q, k, none⟩ (.bool b)) := by
  refine ⟨?_, h.below.setCell (p := ⟨q, k, none⟩) h.base _, by rw [List.length_set]; exact h.len, h.base⟩
  rw [Go.heap_setCell_same w q k _ _ _ h.heap]
  simp [List.map_set]

/-- Of the first k. -/
def idxU (T : List Bool) (k : Nat) : List Int := ((List.range k).filter (fun k => T.getD k false)).map Int.ofNat
theorem idxU_succ (T : List Bool) (k : Nat) : idxU T (k + 1) = idxU T k ++ (if T.getD k false then [(k : Int)] else []) := by
  unfold idxU
  rw [List.range_succ, List.filter_append, List.map_append]
  congr 1
  cases h : T.getD k false
  · rw [List.filter_cons_of_neg (by rw [h]; decide)]; rfl
  · rw [List.filter_cons_of_pos (by rw [h])]; rfl

set_option maxHeartbeats 2000000 in
theorem rreads_any (p d s o i : Int) (w : World) (h : InB p d s o i) :
    Calls Try.prog 17 #[insV p d s o i] w fun e w' => ∃ v, e = .returned v ∧ Iw w' w.heap.size v (rdL (mayR p d s o i) p d s i) ∧ Below w.heap.size w w' := by
  have HC := fun u => rcheck_any p d s o i u h
  have HP : mayR p d s o i = true → 1 ≤ p ∧ p ≤ 36 ∧ d ≤ 9 ∧ s ≤ 9 := may_ds
  have HI : Hid (mayR p d s o i = true → idx (tEnd p i d.toNat s.toNat) = rdN p d s i) := Hid.mk' (fun e => idx_end p d s o i e h.d0 h.s0)
  have HR := fun u => row_any p u h.p0 h.p1
  have HA := fun u => args_any i u h.i0 h.i1
  have hai := argN_is i
  obtain ⟨R, hR⟩ : ∃ R : ByteArray, R = ⟨(rowN p).toArray⟩ := ⟨_, rfl⟩
  have hRl : R.data.toList = rowN p := by rw [hR]
  have hRs : R.size ≤ 1000 := by
    have := rowN_len p
    have e : R.size = (rowN p).length := by rw [hR]; rfl
    omega
  rw [← hR] at HR
  have H1 := fun u => has_any R 100 u hRs
  have H2 := fun u => has_any R 115 u hRs
  rw [hRl] at H1 H2
  clear hRl hR hRs
  obtain ⟨p0, p1, d0, d1, s0, s1, o0, o1, i0, i1⟩ := h
  obtain ⟨inf, hi, hz0, hz1, hz2⟩ := info_parts info_int
  generalize mayR p d s o i = b at *
  go_enter Try.func17, Try.ntmps17
  go_wp2_with fail
  refine (HC _).mono ?_
  rintro e w1 ⟨rfl, hb⟩
  obtain ⟨KB0, c0, c1, c2, c3, c4⟩ := cells5 hb
  have KB := Hid.mk' KB0
  have hlt : w.heap.size < w1.heap.size := by have := hb.size; simp at this; omega
  clear hb KB0 HC
  cases b with
  | false =>
    have e1 : ckN false = 130 := rfl
    rw [e1]
    go_wp2_with fail
    go_ret
    exact ⟨_, rfl, ⟨none, 0, rfl, .inl rfl⟩, KB.out⟩
  | true =>
    have e1 : ckN true = 0 := rfl
    rw [e1]
    obtain ⟨q1, q2, q3, q4⟩ := HP rfl
    clear HP
    go_wp2_with fail
    refine (HR _).mono ?_
    rintro e w2 ⟨rfl, rfl⟩
    clear HR
    obtain ⟨dn, rfl⟩ := Int.eq_ofNat_of_zero_le d0
    obtain ⟨sn, rfl⟩ := Int.eq_ofNat_of_zero_le s0
    go_upto_region 5 with fail
    have hT : TJ w2 w2.heap.size t0 (w2.alloc (.cells #[.bool false, .bool false, .bool false, .bool false, .bool false, .bool false, .bool false, .bool false, .bool false, .bool false] 63)) :=
      ⟨heap_alloc_new w2 _, (Below.refl _ _).alloc (Nat.le_refl _) _, rfl, Nat.le_refl _⟩
    generalize w2.alloc (.cells #[.bool false, .bool false, .bool false, .bool false, .bool false, .bool false, .bool false, .bool false, .bool false, .bool false] 63) = w3 at *
    have T3 := Hid.mk' hT
    clear hT
    have HT : Hid (tEnd p i dn sn = (let T := tIf (hasB (rowN p) 100 && !wrO p) dn (t0.set sn (hasB (rowN p) 115)); if p = 36 then T.set 0 true else if p = 35 then (if argN i = 1 then T.set 1 true else if argN i = 2 then (T.set 1 true).set 2 true else ((T.set 1 true).set 2 true).set 3 true) else T)) := Hid.mk' rfl
    generalize hasB (rowN p) 115 = A at *
    generalize hasB (rowN p) 100 = D at *
    have CO : Hid (∀ u, Below w2.heap.size w2 u → u.cell? ⟨w.heap.size, 0, none⟩ = some (.int .u8 p) ∧ u.cell? ⟨w.heap.size, 1, none⟩ = some (.int .u8 (dn : Int)) ∧ u.cell? ⟨w.heap.size, 2, none⟩ = some (.int .u8 (sn : Int)) ∧ u.cell? ⟨w.heap.size, 4, none⟩ = some (.int .i32 i)) := Hid.mk' (fun u hb =>
      ⟨(hb.cell (p := ⟨w.heap.size, 0, none⟩) hlt).trans c0, (hb.cell (p := ⟨w.heap.size, 1, none⟩) hlt).trans c1, (hb.cell (p := ⟨w.heap.size, 2, none⟩) hlt).trans c2, (hb.cell (p := ⟨w.heap.size, 4, none⟩) hlt).trans c4⟩)
    clear c0 c1 c2 c3 c4
    go_cut [0, 3, 4] from 10 (fun _ s3 _ wx => s3 = .string R ∧ Hid (TJ w2 w2.heap.size (t0.set sn A) wx))
    case first =>
      obtain ⟨k0, k1, k2, k4⟩ := CO.out _ T3.out.below
      have hcs := T3.out.cell sn (by omega)
      have hfs := T3.out.frozen sn
      have hsn : (sn : Int) < 10 := by omega
      go_region_with (go_at_call 32; refine (H2 _).mono ?_; rintro e w' ⟨rfl, rfl⟩)
      all_goals
        go_wp2_with fail
        go_meet
        exact ⟨rfl, Hid.mk' ((T3.out.set sn A).keep (Dr.below ⟨1, rfl⟩ _))⟩
    case rest =>
    obtain ⟨rfl, T4⟩ := hcut
    clear T3
    obtain ⟨w4, hw4⟩ : ∃ w4, w4 = wc := ⟨_, rfl⟩
    subst hw4
    obtain ⟨k0, k1, k2, k4⟩ := CO.out _ T4.out.below
    go_upto_region 6 with fail
    go_cut [6] from 10 (fun s6 wx => s6 = .bool (wrO p) ∧ w4 = wx)
    case first =>
      go_wp2_with fail
      all_goals
        go_meet
        refine ⟨?_, rfl⟩
        first | rfl | (unfold wrO; simp [*]; done) | (simp only [decide_eq_true_eq, decide_eq_false_iff_not] at *; refine congrArg Value.bool ?_; rw [Bool.eq_iff_iff]; unfold wrO; simp; omega) | (refine congrArg Value.bool ?_; rw [Bool.eq_iff_iff]; unfold wrO; simp; omega)
    case rest =>
    obtain ⟨rfl, rfl⟩ := hcut
    generalize wrO p = V at *
    go_upto_region 7 with fail
    go_cut [52] from 10 (fun s52 wx => s52 = .bool (D && !V) ∧ w4 = wx)
    case first =>
      cases D <;> cases V
      all_goals
        go_wp2_with (go_at_call 32; refine (H1 _).mono ?_; rintro e w' ⟨rfl, rfl⟩)
        go_meet
        exact ⟨rfl, rfl⟩
    case rest =>
    obtain ⟨rfl, rfl⟩ := hcut
    generalize (D && !V) = B at *
    go_upto_if 52 with fail
    go_cut [] from 10 (fun wx => Hid (TJ w2 w2.heap.size (tIf B dn (t0.set sn A)) wx))
    case first =>
      cases B with
      | true =>
        have hcs := T4.out.cell dn (by omega)
        have hfs := T4.out.frozen dn
        have hdn : (dn : Int) < 10 := by omega
        go_wp2_with fail
        go_meet
        exact Hid.mk' (T4.out.set dn true)
      | false =>
        go_wp2_with fail
        go_meet
        exact T4
    case rest =>
    have T5 := hcut
    obtain ⟨w5, hw5⟩ : ∃ w5, w5 = wc := ⟨_, rfl⟩
    subst hw5
    clear hcut T4 k0 k1 k2 k4
    generalize tIf B dn (t0.set sn A) = T at *
    obtain ⟨k0, k1, k2, k4⟩ := CO.out _ T5.out.below
    go_upto_if 58 with fail
    go_cut [] from 10 (fun wx => Hid (TJ w2 w2.heap.size (if p = 36 then T.set 0 true else T) wx))
    case first =>
      by_cases h36 : p = 36
      · have hcs := T5.out.cell 0 (by omega)
        have hfs := T5.out.frozen 0
        go_wp2_with fail
        go_meet
        rw [if_pos h36]
        exact Hid.mk' (T5.out.set 0 true)
      · have h36' : (p == 36) = false := by simp [h36]
        go_wp2_with fail
        go_meet
        rw [if_neg h36]
        exact T5
    case rest =>
    have T6 := hcut
    obtain ⟨w6, hw6⟩ : ∃ w6, w6 = wc := ⟨_, rfl⟩
    subst hw6
    clear hcut T5 k0 k1 k2 k4
    obtain ⟨k0, k1, k2, k4⟩ := CO.out _ T6.out.below
    have HI' : Hid (idx (tEnd p i dn sn) = rdN p dn sn i) := Hid.mk' (by
      have := HI.out (by first | rfl | trivial)
      simpa using this)
    clear HI
    go_upto_block 0 with fail
    go_cut [7] from 10 (fun _ wx => Hid (TJ w2 w2.heap.size (tEnd p i dn sn) wx))
    case first =>
      by_cases h35 : p = 35
      · subst h35
        rw [if_neg (by omega)] at T6
        have hcs1 := T6.out.cell 1 (by omega)
        have hfs1 := T6.out.frozen 1
        have hcs2 := T6.out.cell 2 (by omega)
        have hfs2 := T6.out.frozen 2
        have hcs3 := T6.out.cell 3 (by omega)
        have hfs3 := T6.out.frozen 3
        have hne : ¬ w.heap.size = w2.heap.size := by omega
        have hne' : ¬ w2.heap.size = w.heap.size := by omega
        have HT' := Hid.mk' (HT.out)
        clear HT
        rcases hai with e | e | e
        · have HT2 : Hid (tEnd 35 i dn sn = T.set 1 true) := Hid.mk' (by rw [HT'.out]; simp [e])
          rw [e] at HA
          go_wp2_with fail
          refine wp_loop_rounds 2 ?_
          rw [rounds_succ]
          go_wp2_with (go_at_call 38; refine (HA _).mono ?_; rintro e w' ⟨rfl, rfl⟩)
          rw [rounds_succ]
          go_wp2_with (go_at_call 38; refine (HA _).mono ?_; rintro e w' ⟨rfl, rfl⟩)
          go_meet
          rw [HT2.out]
          exact Hid.mk' (T6.out.set 1 true)
        · have HT2 : Hid (tEnd 35 i dn sn = (T.set 1 true).set 2 true) := Hid.mk' (by rw [HT'.out]; simp [e])
          rw [e] at HA
          go_wp2_with fail
          refine wp_loop_rounds 3 ?_
          rw [rounds_succ]
          go_wp2_with (go_at_call 38; refine (HA _).mono ?_; rintro e w' ⟨rfl, rfl⟩)
          rw [rounds_succ]
          go_wp2_with (go_at_call 38; refine (HA _).mono ?_; rintro e w' ⟨rfl, rfl⟩)
          rw [rounds_succ]
          go_wp2_with (go_at_call 38; refine (HA _).mono ?_; rintro e w' ⟨rfl, rfl⟩)
          go_meet
          rw [HT2.out]
          exact Hid.mk' ((T6.out.set 1 true).set 2 true)
        · have HT2 : Hid (tEnd 35 i dn sn = ((T.set 1 true).set 2 true).set 3 true) := Hid.mk' (by rw [HT'.out]; simp [e])
          rw [e] at HA
          go_wp2_with fail
          refine wp_loop_rounds 4 ?_
          rw [rounds_succ]
          go_wp2_with (go_at_call 38; refine (HA _).mono ?_; rintro e w' ⟨rfl, rfl⟩)
          rw [rounds_succ]
          go_wp2_with (go_at_call 38; refine (HA _).mono ?_; rintro e w' ⟨rfl, rfl⟩)
          rw [rounds_succ]
          go_wp2_with (go_at_call 38; refine (HA _).mono ?_; rintro e w' ⟨rfl, rfl⟩)
          rw [rounds_succ]
          go_wp2_with (go_at_call 38; refine (HA _).mono ?_; rintro e w' ⟨rfl, rfl⟩)
          go_meet
          rw [HT2.out]
          exact Hid.mk' (((T6.out.set 1 true).set 2 true).set 3 true)
      · have h35' : (p == 35) = false := by simp [h35]
        have HT2 : Hid (tEnd p i dn sn = if p = 36 then T.set 0 true else T) := Hid.mk' (by rw [HT.out]; simp [h35])
        go_wp2_with fail
        refine wp_loop_rounds 1 ?_
        rw [rounds_succ]
        go_wp2_with fail
        go_meet
        rw [HT2.out]
        exact T6
    case rest =>
    have T7 := hcut
    obtain ⟨w7, hw7⟩ : ∃ w7, w7 = wc := ⟨_, rfl⟩
    subst hw7
    clear hcut T6 k0 k1 k2 k4 HT HA hai
    generalize tEnd p i dn sn = U at *
    have hqB : w2.heap.size < w7.heap.size := (Array.getElem?_eq_some_iff.1 T7.out.heap).1
    have HCU : Hid (∀ k, k < 10 → w7.cell? ⟨w2.heap.size, k, none⟩ = some (.bool (U.getD k false))) := Hid.mk' (fun k hk => T7.out.cell k hk)
    have HB7 : Hid (Below w.heap.size w w7) := Hid.mk' (KB.out.trans (T7.out.below.mono (by omega)))
    clear T7
    go_upto_block 2 with fail
    go_wp2_with fail
    go_loopw [8, 9] (fun v i wr => ∃ (k n : Nat), k ≤ 10 ∧ i = .int .i64 k ∧ n ≤ k ∧ Hid (n = (idxU U k).length) ∧ Hid (wr.ownsRow w7.heap.size 3 1 v n ((idxU U k).map (Value.int .i64))) ∧ Hid (Below w7.heap.size w7 wr)) (fun _ i _ => 10 - (intOf i).toNat)
    case atStart => exact ⟨0, 0, by omega, rfl, Nat.le_refl _, Hid.mk' rfl, Hid.mk' (World.ownsRow_nil _ _ _ _), Hid.mk' (Below.refl _ _)⟩
    case round =>
      obtain ⟨k, n, hk, rfl, hnk, HN, HO, HB⟩ := hrel
      by_cases hk10 : k < 10
      · have hcs := (HB.out.cell (p := ⟨w2.heap.size, k, none⟩) hqB).trans (HCU.out k hk10)
        have hsp : (k : Int) < 10 := by omega
        have HU := idxU_succ U k
        have hBs := HB.out.size
        cases hx : U.getD k false with
        | true =>
          rw [hx] at hcs HU
          have HU := Hid.mk' HU
          clear hx
          go_wp2_with (at_builtin; refine wpList_append_own _ rfl _ _ 35 rfl w7.heap.size 3 inf (.int .i64 0) 1 8 Try.underlying35 hi hz0 hz1 hz2 rfl (by decide) _ _ _ rfl (HO.out.alloc _) ⟨wr.heap.size, 0, none⟩ 1 1 [.int .i64 (k : Int)] rfl rfl (cell_one_new _ _ _) (ints_oneCell .i64 [(k : Int)]) (by unfold maxLen; omega) (by omega) (by simp; omega) ?_; intro v3 w3' hown3 hgrow3 hq; clear hq)
          go_roundw
          case rel =>
            refine ⟨k + 1, n + 1, by omega, by go_num, by omega, Hid.mk' ?_, Hid.mk' ?_, Hid.mk' ?_⟩
            · rw [HU.out, List.length_append, HN.out]; rfl
            · rw [HU.out, List.map_append]; exact hown3
            · exact (HB.out.alloc hBs _).grown hgrow3 (by simp; omega) (own_base HO.out)
          case measure => simp [intOf]; omega
        | false =>
          rw [hx] at hcs HU
          have HU := Hid.mk' HU
          clear hx
          go_wp2_with fail
          go_roundw
          case rel =>
            refine ⟨k + 1, n, by omega, by go_num, by omega, Hid.mk' ?_, Hid.mk' ?_, HB⟩
            · rw [HU.out, HN.out]; simp
            · rw [HU.out]; simpa using HO.out
          case measure => simp [intOf]; omega
      · have hk' : k = 10 := by omega
        subst hk'
        go_wp2_with fail
        go_ret
        have h1 := HO.out
        rw [HN.out] at h1
        refine ⟨_, rfl, ?_, HB7.out.trans (HB.out.mono (by have := HB7.out.size; omega))⟩
        have h2 := (Iw.own h1).base (show w.heap.size ≤ w7.heap.size by omega)
        have e : rdL true p dn sn i = idxU U 10 := by
          show rdN p dn sn i = _
          rw [← HI'.out]; rfl
        rw [e]
        exact h2
end Go.Proofs.Ytmiiddkpmfiocaa
