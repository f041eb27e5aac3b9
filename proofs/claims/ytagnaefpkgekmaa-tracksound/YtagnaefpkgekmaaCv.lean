/- The laws' so, holds, some. -/
import Derived.Test.YtagnaefpkgekmaaCu
import Derived.BigRegion
import Derived.Deep.RegionHeld3
namespace Go.Proofs.Ytagnaefpkgekmaa
open Go.ChangeShapes Go.WideShapes Go.ChangeAt Go.RowKit Go.Maps Go.Sort Go.Shelf
set_option maxRecDepth 10000

def soB (op a b : Int) : Bool := if op = 29 then decide (a < b) else if op = 30 then decide (a ≤ b) else if op = 31 then decide (b < a) else decide (b ≤ a)
theorem so_any (op a b : Int) (w : World) (h : op = 29 ∨ op = 30 ∨ op = 31 ∨ op = 32) : Calls Try.prog 31 #[.int .u8 op, .int .i64 a, .int .i64 b] w fun e w' => e = .returned (.bool (soB op a b)) ∧ w = w' := by
  rcases h with rfl | rfl | rfl | rfl
  all_goals
    go_enter Try.func31, Try.ntmps31
    go_wp2_with fail
    go_ret
    exact ⟨rfl, rfl⟩

/-- What is known is true in a world. -/
def Hl (zs : List Int) (l : List Kn) : Prop := ∀ p ∈ l, (0 ≤ p.1 ∧ p.1 ≤ 9) ∧ (1 ≤ p.2 ∧ p.2 ≤ 2048) ∧ zs.getD (1 + p.1.toNat) 0 + p.2 ≤ zs.getD 0 0

set_option maxHeartbeats 2000000 in
theorem holds_any (zs : List Int) (v : Value) (l : List Kn) (w : World) (hz : WOk zs) (hk : Ks w v l) (hh : Hl zs l) : Calls Try.prog 34 #[.agg (intC zs).toArray, v] w fun e w' => e = .returned (.bool true) ∧ Below w.heap.size w w' := by
  obtain ⟨a, c, rfl, hl⟩ := hk.lies
  have hlen := hk.len
  have HB := Hid.mk' hk.inb
  have HL := Hid.mk' hl
  have HH := Hid.mk' hh
  have HZ := Hid.mk' hz
  clear hk hl hh hz
  obtain ⟨n, hn⟩ : ∃ n, l.length = n := ⟨_, rfl⟩
  rw [hn] at hlen ⊢
  have HN := Hid.mk' hn
  clear hn
  go_enter Try.func34, Try.ntmps34
  go_wp2_with fail
  have B0 : Hid (Below w.heap.size w (w.alloc (.cells (intC zs).toArray 48))) := (Below.refl _ _).alloc (Nat.le_refl _) _
  have W0 : Hid (Wb (w.alloc (.cells (intC zs).toArray 48)) w.heap.size zs) := Hid.mk' (World.alloc_heap_new w _)
  obtain ⟨g, hg⟩ : ∃ g, Hid (w.heap.size = g) := ⟨_, rfl⟩
  obtain ⟨w0, hw0⟩ : ∃ u, Hid (w.alloc (.cells (intC zs).toArray 48) = u) := ⟨_, rfl⟩
  rw [hw0.out] at B0 W0 ⊢
  clear hw0
  go_loopw [5] (fun r wr => ∃ k : Nat, r = .int .i64 k ∧ k ≤ n ∧ Hid (Dr w0 wr)) (fun r _ => ((n : Int) - iv r).toNat)
  case atStart => exact ⟨0, rfl, Nat.zero_le _, Hid.mk' (Dr.refl _)⟩
  case round =>
    obtain ⟨k, rfl, hk, hD⟩ := hrel
    by_cases hkn : k < n
    · obtain ⟨b, off, ea, hbl, c0, c1, i0, i1⟩ := lkn_at HL.out HB.out (show k < l.length by rw [HN.out]; exact hkn)
      subst ea
      have d0 := (hD.out.cell _).trans ((B0.out.cell (p := ⟨b, off + k * 2, none⟩) hbl).trans c0)
      have d1 := (hD.out.cell _).trans ((B0.out.cell (p := ⟨b, off + k * 2 + 1, none⟩) hbl).trans c1)
      obtain ⟨⟨h0, h9⟩, ⟨h1, h2⟩, h3⟩ := HH.out _ (List.mem_of_getElem? (getA (l := l) (k := k) (by rw [HN.out]; exact hkn)))
      simp only at h0 h9 h1 h2 h3
      clear c0 c1
      generalize idA l k = I at *
      generalize bA l k = N at *
      obtain ⟨i, rfl⟩ : ∃ i : Nat, I = (i : Int) := ⟨I.toNat, by omega⟩
      have hi10 : i < 10 := by omega
      have hi10' : (i : Int) < 10 := by omega
      have z0 := (hD.out.cell _).trans (W0.out.at (k := 0) (by rw [HZ.out.len]; decide))
      have z1 := (hD.out.cell _).trans (W0.out.at (k := 1 + i) (by rw [HZ.out.len]; omega))
      have p0 := HZ.out.p0 i hi10
      have p1 := HZ.out.p1 i hi10
      have l0 := HZ.out.l0
      have l1 := HZ.out.l1
      rw [Int.toNat_natCast] at h3
      generalize zs.getD (1 + i) 0 = P at *
      generalize zs.getD 0 0 = LN at *
      have hlk : (k : Int) < (n : Int) := by omega
      have hn1 : ¬ (10 : Int) ≤ (i : Int) := by omega
      have hn1' : ¬ 10 ≤ i := by omega
      have hw : IntKind.i64.wrap (P + N) = P + N := IntWalk.i64_in _ ⟨by omega, by omega⟩
      have hd : decide (LN < P + N) = false := decide_eq_false (by omega)
      go_wp2_with fail
      go_quiet (fail)
      go_wp2_with fail
      go_roundw
      case rel => exact ⟨k + 1, by go_num, hkn, Hid.mk' (hD.out.more _)⟩
      case measure => simp [iv]; omega
    · have hlk : ¬ (k : Int) < (n : Int) := by omega
      go_wp2_with fail
      go_ret
      exact ⟨rfl, B0.out.trans (hD.out.below _)⟩

/-- What some has made: a list in the one form, true in the world. -/
structure OutOk (zs : List Int) (l : List Kn) : Prop where
  ok : okF (-1) l = true
  hl : Hl zs l
theorem Rw2.below {base n : Nat} {w w' : World} {v : Value} {xs : List Value} (h : w.ownsRow base 60 2 v n xs) (hb : Below w.heap.size w w') : w'.ownsRow base 60 2 v n xs :=
  Kept.owns h (Kept.of_below (S := fun _ => False) hb) (fun _ _ e => e)
theorem out_none (zs : List Int) : OutOk zs [] := ⟨rfl, fun p hp => by simp at hp⟩
theorem out_snoc {zs : List Int} {l : List Kn} (h : OutOk zs l) {i n : Int} (hi : 0 ≤ i ∧ i ≤ 9) (hn : 1 ≤ n ∧ n ≤ 2048) (hp : zs.getD (1 + i.toNat) 0 + n ≤ zs.getD 0 0) (hlast : l = [] ∨ idA l (l.length - 1) < i) : OutOk zs (l ++ [(i, n)]) := by
  obtain ⟨h1, h2⟩ := ok_all h.ok
  refine ⟨ok_of (fun p hp' => ?_) (List.pairwise_append.2 ⟨h2, by simp, fun p hp' q hq => ?_⟩), fun p hp' => ?_⟩
  · rcases List.mem_append.1 hp' with hp' | hp'
    · exact h1 p hp'
    · simp at hp'; subst hp'; exact ⟨by omega, ⟨hi.1, by omega⟩, hn.1, hn.2⟩
  · simp at hq; subst hq
    rcases hlast with e | e
    · subst e; simp at hp'
    · obtain ⟨j, hj, rfl⟩ := List.getElem_of_mem hp'
      have hj' : l[j]? = some l[j] := List.getElem?_eq_getElem hj
      rw [getA hj] at hj'
      have ej : l[j].1 = idA l j := by rw [← Option.some.inj hj']
      rw [ej]
      by_cases hjl : j = l.length - 1
      · subst hjl; exact e
      · have hlast : l.length - 1 < l.length := by omega
        have := List.pairwise_iff_getElem.1 h2 j (l.length - 1) hj hlast (by omega)
        have e2 : l[l.length - 1].1 = idA l (l.length - 1) := by
          have := getA hlast
          rw [List.getElem?_eq_getElem hlast] at this
          rw [Option.some.inj this]
        rw [ej, e2] at this
        exact Int.lt_trans this e
  · rcases List.mem_append.1 hp' with hp' | hp'
    · exact h.hl p hp'
    · simp at hp'; subst hp'; exact ⟨hi, hn, hp⟩
theorem out_in {zs : List Int} {l : List Kn} (h : OutOk zs l) : ∀ p ∈ l, In64 p.1 ∧ In64 p.2 := fun p hp => by
  have := (ok_all h.ok).1 p hp
  unfold In64; omega

set_option maxHeartbeats 4000000 in
theorem some_any (zs : List Int) (v : Value) (l : List Kn) (w : World) (hz : WOk zs) (hk : Ks w v l) (hbig : l.length * 16 ≤ 140737488351232) : Calls Try.prog 29 #[.agg (intC zs).toArray, v] w fun e w' => (∃ v' ol, e = .returned v' ∧ OutOk zs ol ∧ ol.length ≤ l.length ∧ w'.ownsRow w.heap.size 60 2 v' ol.length (knC ol)) ∧ Below w.heap.size w w' := by
  obtain ⟨iN, hi1, hi2, hi3, hi4⟩ := known_info
  obtain ⟨a, c, rfl, hl⟩ := hk.lies
  have HB := Hid.mk' hk.inb
  have HL := Hid.mk' hl
  have HZ := Hid.mk' hz
  clear hk hl hz
  obtain ⟨n, hn⟩ : ∃ n, l.length = n := ⟨_, rfl⟩
  rw [hn] at hbig ⊢
  have HN := Hid.mk' hn
  clear hn
  go_enter Try.func29, Try.ntmps29
  go_wp2_with fail
  have B0 : Hid (Below w.heap.size w (w.alloc (.cells (intC zs).toArray 48))) := (Below.refl _ _).alloc (Nat.le_refl _) _
  have W0 : Hid (Wb (w.alloc (.cells (intC zs).toArray 48)) w.heap.size zs) := Hid.mk' (World.alloc_heap_new w _)
  have O0 : Hid ((w.alloc (.cells (intC zs).toArray 48)).ownsRow (w.heap.size + 1) 60 2 (.slice none 0 0) ([] : List Kn).length (knC [])) := Hid.mk' (World.ownsRow_nil _ _ _ _)
  have HGS : Hid (w.heap.size + 1 ≤ (w.alloc (.cells (intC zs).toArray 48)).heap.size) := Hid.mk' (by simp)
  obtain ⟨g, hg⟩ : ∃ g, Hid (w.heap.size = g) := ⟨_, rfl⟩
  obtain ⟨w0, hw0⟩ : ∃ u, Hid (w.alloc (.cells (intC zs).toArray 48) = u) := ⟨_, rfl⟩
  rw [hw0.out] at B0 W0 O0 HGS ⊢
  rw [hg.out] at W0 O0 HGS ⊢
  clear hw0
  go_loopw [5, 6] (fun s r wr => ∃ (k : Nat) (ol : List Kn), r = .int .i64 k ∧ k ≤ n ∧ Hid (OutOk zs ol) ∧ ol.length ≤ k ∧ Hid (wr.ownsRow (g + 1) 60 2 s ol.length (knC ol)) ∧ Hid (Wb wr g zs) ∧ Hid (Below w.heap.size w wr) ∧ Hid (g + 1 ≤ wr.heap.size)) (fun _ r _ => ((n : Int) - iv r).toNat)
  case atStart => exact ⟨0, [], rfl, Nat.zero_le _, Hid.mk' (out_none zs), Nat.le_refl _, O0, W0, B0, HGS⟩
  case round =>
    clear O0 W0 B0 HGS
    obtain ⟨k, ol, rfl, hk, hO, hok, hR, hW, hB, hS⟩ := hrel
    obtain ⟨sa, sc, hu5⟩ := own_slice hR.out
    subst hu5
    by_cases hkn : k < n
    · obtain ⟨b, off, ea, hbl, c0, c1, i0, i1⟩ := lkn_at HL.out HB.out (show k < l.length by rw [HN.out]; exact hkn)
      subst ea
      have d0 := (hB.out.cell (p := ⟨b, off + k * 2, none⟩) hbl).trans c0
      have d1 := (hB.out.cell (p := ⟨b, off + k * 2 + 1, none⟩) hbl).trans c1
      have hblt : b < wr.heap.size := Nat.lt_of_lt_of_le hbl hB.out.size
      have hbne : ¬ b = wr.heap.size := by omega
      clear c0 c1 hbl
      generalize idA l k = I at *
      generalize bA l k = N at *
      have hlk : (k : Int) < (n : Int) := by omega
      have k1 := brg_lt I 10 (by omega)
      have k2 := brg_lt N 2048 (by omega)
      have KI := fun u => brg_any I 10 u (by omega) (by omega) i0.1 i0.2
      have KN := fun u => brg_any N 2048 u (by omega) (by omega) i1.1 i1.2
      generalize brg I 10 = i at *
      generalize brg N 2048 = m at *
      have hw : IntKind.i64.wrap (1 + (m : Int)) = 1 + (m : Int) := IntWalk.i64_in _ ⟨by omega, by omega⟩
      obtain ⟨q, hq⟩ : ∃ q, wr.heap.size = q := ⟨_, rfl⟩
      have HQ := Hid.mk' hq
      clear hq
      go_upto_region 5 with fail
      go_cut [7] from 14 to 27 (fun s7 wx => s7 = .pointer (some ⟨q, 0, none⟩) ∧ Hid (wx.heap[q]? = some (.cells #[.int .i64 i, .int .i64 (1 + (m : Int))] 60 (0, 0)) ∧ Below q wr wx))
      case first =>
        go_region_held3 (fun w' => w'.cell? ⟨b, off + k * 2, none⟩ = some (.int .i64 I) ∧ w'.cell? ⟨b, off + k * 2 + 1, none⟩ = some (.int .i64 N)) (go_keep) (first
          | (go_at_call_of 30 (Value.int .i64 10); refine (KI _).mono ?_; rintro e u ⟨rfl, rfl⟩)
          | (go_at_call_of 30 (Value.int .i64 2048); refine (KN _).mono ?_; rintro e u ⟨rfl, rfl⟩))
        all_goals
          go_wp2_with fail
          go_meet
          rw [HQ.out]
          refine ⟨rfl, Hid.mk' ⟨?_, ?_⟩⟩
          · rw [← HQ.out]; exact World.alloc_heap_new wr _
          · exact ((Below.refl _ wr).alloc (by rw [HQ.out]; exact Nat.le_refl _) _).trans (Dr.below ⟨1, rfl⟩ _)
      case rest =>
      obtain ⟨rfl, HX⟩ := hcut
      have hqw : Hid (g + 1 ≤ q) := Hid.mk' (by rw [← HQ.out]; exact hS.out)
      have HW1 : Hid (Wb wc g zs) := Hid.mk' ((HX.out.2.block g (by have := hqw.out; omega)).trans hW.out)
      have HR1 : Hid (wc.ownsRow (g + 1) 60 2 (.slice sa ol.length sc) ol.length (knC ol)) := Hid.mk' (Rw2.below hR.out (by rw [HQ.out]; exact HX.out.2))
      have HB1 : Hid (Below w.heap.size w wc) := Hid.mk' (hB.out.trans (HX.out.2.mono (by rw [hg.out]; have := hqw.out; omega)))
      have hqlt : q < wc.heap.size := (Array.getElem?_eq_some_iff.1 HX.out.1).1
      have p0 := HZ.out.p0 i k1
      have p1 := HZ.out.p1 i k1
      have l0 := HZ.out.l0
      have l1 := HZ.out.l1
      have z0 := HW1.out.at (k := 0) (by rw [HZ.out.len]; decide)
      have z1 := HW1.out.at (k := 1 + i) (by rw [HZ.out.len]; omega)
      have x0 : wc.cell? ⟨q, 0, none⟩ = some (.int .i64 i) := Go.cell_of_row wc q 0 _ _ _ HX.out.1
      have x1 : wc.cell? ⟨q, 1, none⟩ = some (.int .i64 (1 + (m : Int))) := Go.cell_of_row wc q 1 _ _ _ HX.out.1
      have f1 : wc.frozen? ⟨q, 1, none⟩ = false := Go.frozen_of_row wc q 1 _ _ HX.out.1
      have HPL : Hid (zs.getD (1 + (i : Int).toNat) 0 = zs.getD (1 + i) 0) := Hid.mk' (by rw [Int.toNat_natCast])
      obtain ⟨P, hP⟩ : ∃ P, zs.getD (1 + i) 0 = P := ⟨_, rfl⟩
      obtain ⟨LN, hLN⟩ : ∃ LN, zs.getD 0 0 = LN := ⟨_, rfl⟩
      rw [hP] at p0 p1 z1 HPL
      rw [hLN] at l0 l1 z0
      have HLN := Hid.mk' hLN
      obtain ⟨M, hM⟩ : ∃ M, min (1 + (m : Int)) (LN - P) = M := ⟨_, rfl⟩
      have hwp : IntKind.i64.wrap (LN - P) = LN - P := IntWalk.i64_in _ ⟨by omega, by omega⟩
      have hmin : ∀ (u : World) ts t, (Builtin.min_ ts t #[.int .i64 (1 + (m : Int)), .int .i64 (LN - P)]).run Try.prog u = .ok (.int .i64 M) u := fun u ts t => by
        have e : (if LN - P < 1 + (m : Int) then LN - P else 1 + (m : Int)) = M := by split <;> omega
        rw [run_min_int2, e]
      have hi10 : i < 10 := k1
      have hi10' : (i : Int) < 10 := by omega
      clear hP hLN d0 d1 hblt hbne KI KN hw
      go_upto_region 6 with fail
      go_cut [7] from 28 to 39 (fun s7 wx => s7 = .pointer (some ⟨q, 0, none⟩) ∧ Hid (wx.heap[q]? = some (.cells #[.int .i64 i, .int .i64 M] 60 (0, 0)) ∧ Kept (fun j => j = q) wc wx))
      case first =>
        go_region_with (fail)
        all_goals
          go_wp2_with fail
          go_meet
          refine ⟨rfl, Hid.mk' ⟨?_, ?_⟩⟩
          · have e := Go.heap_setCell_same wc q 1 _ _ (.int .i64 M) HX.out.1
            exact e
          · exact (Kept.setCell (S := fun j => j = q) (p := ⟨q, 1, none⟩) (Kept.refl _ wc) (fun _ => rfl) _).drew
      case rest =>
      obtain ⟨rfl, HY⟩ := hcut
      have HWD : Hid (Wb wc g zs) := Hid.mk' ((HY.out.2.block g HW1.out.lt (by have := hqw.out; omega)).trans HW1.out)
      have HUQ : Hid (∀ j, (Value.slice sa ol.length sc).ownBlock = some j → j < q) := Hid.mk' (fun j e => by rw [← HQ.out]; exact (hR.out.lt j e).2)
      have HR2 : Hid (wc.ownsRow (g + 1) 60 2 (.slice sa ol.length sc) ol.length (knC ol)) := Hid.mk' (Kept.owns HR1.out HY.out.2 (fun j e e2 => by have := HUQ.out j e; omega))
      have HB2 : Hid (Below w.heap.size w wc) := Hid.mk' (HB1.out.trans (HY.out.2.below HB1.out.size (fun j hj e => by have := hqw.out; rw [hg.out] at hj; omega)))
      have HS2 : Hid (g + 1 ≤ wc.heap.size) := Hid.mk' (by have h1 := HY.out.2.size; have h2 := hqw.out; omega)
      have hqlt2 : q < wc.heap.size := Nat.lt_of_lt_of_le hqlt HY.out.2.size
      have y0 : wc.cell? ⟨q, 0, none⟩ = some (.int .i64 i) := Go.cell_of_row wc q 0 _ _ _ HY.out.1
      have y1 : wc.cell? ⟨q, 1, none⟩ = some (.int .i64 M) := Go.cell_of_row wc q 1 _ _ _ HY.out.1
      obtain ⟨W2, hW2⟩ : ∃ u, wc = u := ⟨_, rfl⟩
      rw [hW2] at HWD HR2 HB2 HS2 hqlt2 y0 y1 ⊢
      clear hW2 HX HY HW1 HR1 HB1 z0 z1 x0 x1 f1 hwp hmin hqlt hB hW hR hS
      have hOL : ol.length ≤ 1000000000000000 := by omega
      by_cases hM0 : 0 < M
      · have OSP : Hid ((ol = [] ∨ idA ol (ol.length - 1) < (i : Int)) → OutOk zs (ol ++ [((i : Int), M)])) := Hid.mk' (fun h => out_snoc hO.out ⟨by omega, by omega⟩ ⟨by omega, by omega⟩ (by rw [HPL.out, HLN.out]; omega) h)
        have hdM : decide (0 < M) = true := decide_eq_true hM0
        by_cases hol : ol.length = 0
        · have OS := Hid.mk' (OSP.out (.inl (List.length_eq_zero_iff.1 hol)))
          go_wp2_with fail
          go_quiet (fail)
          have HR3 : Hid ((W2.drewN nq).ownsRow (g + 1) 60 2 (.slice sa ol.length sc) ol.length (knC ol)) := Hid.mk' (Rw2.below HR2.out (Dr.below (a := W2) ⟨nq, rfl⟩ _))
          have HW3 : Hid (Wb (W2.drewN nq) g zs) := HWD
          have HB3 : Hid (Below w.heap.size w (W2.drewN nq)) := Hid.mk' (HB2.out.trans (Dr.below ⟨nq, rfl⟩ _))
          have HS3 : Hid (g + 1 ≤ (W2.drewN nq).heap.size) := HS2
          have q0 : (W2.drewN nq).cell? ⟨q, 0, none⟩ = some (.int .i64 i) := y0
          have q1 : (W2.drewN nq).cell? ⟨q, 1, none⟩ = some (.int .i64 M) := y1
          have hq3 : q < (W2.drewN nq).heap.size := hqlt2
          obtain ⟨W3, hW3⟩ : ∃ u, W2.drewN nq = u := ⟨_, rfl⟩
          rw [hW3] at HR3 HW3 HB3 HS3 q0 q1 hq3 ⊢
          clear hW3 HR2 HWD HB2 HS2 y0 y1 hqlt2
          go_wp2_with (at_builtin; refine wpList_append_own2 rfl _ _ 22 rfl (g + 1) 60 iN (.agg #[.int .i64 0, .int .i64 0]) 2 16 Try.underlying22 hi1 hi2 hi3 hi4 rfl (by decide) _ _ _ rfl (HR3.out.alloc _) ⟨W3.heap.size, 0, none⟩ 1 1 [.int .i64 i, .int .i64 M] rfl rfl (by intro j u hj; rw [addr_add, Nat.zero_add, World.cell?_alloc_new, List.getElem?_toArray]; exact hj) (by intro u hu; simp at hu; rcases hu with rfl | rfl <;> rfl) (by unfold maxLen; omega) (by omega) (by have := HS3.out; simp; omega) ?_; intro v' w5 hown5 hgr5; intro hwh; have HO5 := Hid.mk' hown5; have HG5 := Hid.mk' hgr5; clear hown5 hgr5 hwh)
          have R5 : Hid (w5.ownsRow (g + 1) 60 2 v' (ol ++ [((i : Int), M)]).length (knC (ol ++ [((i : Int), M)]))) := Hid.mk' (by
            rw [knC_append, List.length_append]
            exact HO5.out)
          have BG : Hid (Below (g + 1) W3 w5) := Hid.mk' (((Below.refl _ _).alloc (by have := HS3.out; omega) _).grown HG5.out (by have := HS3.out; simp; omega) (fun j e => own_base HR3.out j e))
          have W5 : Hid (Wb w5 g zs) := Hid.mk' ((BG.out.block g (by omega)).trans HW3.out)
          have B5 : Hid (Below w.heap.size w w5) := Hid.mk' (HB3.out.trans (BG.out.mono (by rw [hg.out]; omega)))
          have S5 : Hid (g + 1 ≤ w5.heap.size) := Hid.mk' (Nat.le_trans HS3.out BG.out.size)
          go_roundw
          case rel => exact ⟨k + 1, _, by go_num, hkn, OS, by rw [List.length_append]; simp; omega, R5, W5, B5, S5⟩
          case measure => simp [iv]; omega
        · obtain ⟨h, c2, hv⟩ : ∃ h c2, Value.slice sa ol.length sc = .slice (some ⟨h, 0, none⟩) ol.length c2 := by
            rcases HR2.out.2 with ⟨_, h0⟩ | ⟨h, cap, cur, e, _⟩
            · omega
            · exact ⟨h, cap, e⟩
          simp only [Value.slice.injEq, true_and] at hv
          obtain ⟨rfl, rfl⟩ := hv
          obtain ⟨m1, hm1⟩ : ∃ m1, ol.length = m1 + 1 := ⟨ol.length - 1, by omega⟩
          have hlast : m1 < ol.length := by omega
          have o0 : W2.cell? ⟨h, m1 * 2, none⟩ = some (.int .i64 (idA ol m1)) := by
            rw [HR2.out.cellAt (m1 * 2) (by omega)]
            exact (knC_at ol m1 _ _ (getA hlast)).1
          have OSQ : Hid (idA ol m1 < (i : Int) → OutOk zs (ol ++ [((i : Int), M)])) := Hid.mk' (fun e => OSP.out (.inr (by rw [hm1, Nat.add_sub_cancel]; exact e)))
          have hw1 : IntKind.i64.wrap ((ol.length : Int) - 1) = (m1 : Int) := by rw [IntWalk.i64_in _ ⟨by omega, by omega⟩]; omega
          have hm2 : (m1 : Int) < (ol.length : Int) := by omega
          have hol2 : ¬ (ol.length : Int) = 0 := by omega
          clear hm1
          by_cases hlt : idA ol m1 < (i : Int)
          · have OS := Hid.mk' (OSQ.out hlt)
            have hd2 : decide (idA ol m1 < (i : Int)) = true := decide_eq_true hlt
            generalize idA ol m1 = LI at *
            go_wp2_with fail
            go_quiet (fail)
            have HR3 : Hid ((W2.drewN nq).ownsRow (g + 1) 60 2 (.slice (some ⟨h, 0, none⟩) ol.length sc) ol.length (knC ol)) := Hid.mk' (Rw2.below HR2.out (Dr.below (a := W2) ⟨nq, rfl⟩ _))
            have HW3 : Hid (Wb (W2.drewN nq) g zs) := HWD
            have HB3 : Hid (Below w.heap.size w (W2.drewN nq)) := Hid.mk' (HB2.out.trans (Dr.below ⟨nq, rfl⟩ _))
            have HS3 : Hid (g + 1 ≤ (W2.drewN nq).heap.size) := HS2
            have q0 : (W2.drewN nq).cell? ⟨q, 0, none⟩ = some (.int .i64 i) := y0
            have q1 : (W2.drewN nq).cell? ⟨q, 1, none⟩ = some (.int .i64 M) := y1
            have hq3 : q < (W2.drewN nq).heap.size := hqlt2
            obtain ⟨W3, hW3⟩ : ∃ u, W2.drewN nq = u := ⟨_, rfl⟩
            rw [hW3] at HR3 HW3 HB3 HS3 q0 q1 hq3 ⊢
            clear hW3 HR2 HWD HB2 HS2 y0 y1 hqlt2
            go_wp2_with (at_builtin; refine wpList_append_own2 rfl _ _ 22 rfl (g + 1) 60 iN (.agg #[.int .i64 0, .int .i64 0]) 2 16 Try.underlying22 hi1 hi2 hi3 hi4 rfl (by decide) _ _ _ rfl (HR3.out.alloc _) ⟨W3.heap.size, 0, none⟩ 1 1 [.int .i64 i, .int .i64 M] rfl rfl (by intro j u hj; rw [addr_add, Nat.zero_add, World.cell?_alloc_new, List.getElem?_toArray]; exact hj) (by intro u hu; simp at hu; rcases hu with rfl | rfl <;> rfl) (by unfold maxLen; omega) (by omega) (by have := HS3.out; simp; omega) ?_; intro v' w5 hown5 hgr5; intro hwh; have HO5 := Hid.mk' hown5; have HG5 := Hid.mk' hgr5; clear hown5 hgr5 hwh)
            have R5 : Hid (w5.ownsRow (g + 1) 60 2 v' (ol ++ [((i : Int), M)]).length (knC (ol ++ [((i : Int), M)]))) := Hid.mk' (by
              rw [knC_append, List.length_append]
              exact HO5.out)
            have BG : Hid (Below (g + 1) W3 w5) := Hid.mk' (((Below.refl _ _).alloc (by have := HS3.out; omega) _).grown HG5.out (by have := HS3.out; simp; omega) (fun j e => own_base HR3.out j e))
            have W5 : Hid (Wb w5 g zs) := Hid.mk' ((BG.out.block g (by omega)).trans HW3.out)
            have B5 : Hid (Below w.heap.size w w5) := Hid.mk' (HB3.out.trans (BG.out.mono (by rw [hg.out]; omega)))
            have S5 : Hid (g + 1 ≤ w5.heap.size) := Hid.mk' (Nat.le_trans HS3.out BG.out.size)
            go_roundw
            case rel => exact ⟨k + 1, _, by go_num, hkn, OS, by rw [List.length_append]; simp; omega, R5, W5, B5, S5⟩
            case measure => simp [iv]; omega
          · have hd2 : decide (idA ol m1 < (i : Int)) = false := decide_eq_false hlt
            generalize idA ol m1 = LI at *
            go_wp2_with fail
            go_quiet (fail)
            have HR3 : Hid ((W2.drewN nq).ownsRow (g + 1) 60 2 (.slice (some ⟨h, 0, none⟩) ol.length sc) ol.length (knC ol)) := Hid.mk' (Rw2.below HR2.out (Dr.below (a := W2) ⟨nq, rfl⟩ _))
            have HW3 : Hid (Wb (W2.drewN nq) g zs) := HWD
            have HB3 : Hid (Below w.heap.size w (W2.drewN nq)) := Hid.mk' (HB2.out.trans (Dr.below ⟨nq, rfl⟩ _))
            have HS3 : Hid (g + 1 ≤ (W2.drewN nq).heap.size) := HS2
            have q0 : (W2.drewN nq).cell? ⟨q, 0, none⟩ = some (.int .i64 i) := y0
            have q1 : (W2.drewN nq).cell? ⟨q, 1, none⟩ = some (.int .i64 M) := y1
            have hq3 : q < (W2.drewN nq).heap.size := hqlt2
            obtain ⟨W3, hW3⟩ : ∃ u, W2.drewN nq = u := ⟨_, rfl⟩
            rw [hW3] at HR3 HW3 HB3 HS3 q0 q1 hq3 ⊢
            clear hW3 HR2 HWD HB2 HS2 y0 y1 hqlt2
            go_wp2_with fail
            go_roundw
            case rel => exact ⟨k + 1, ol, by go_num, hkn, hO, by omega, HR3, HW3, HB3, HS3⟩
            case measure => simp [iv]; omega
      · have hdM : decide (0 < M) = false := decide_eq_false hM0
        go_wp2_with fail
        go_quiet (fail)
        have HR3 : Hid ((W2.drewN nq).ownsRow (g + 1) 60 2 (.slice sa ol.length sc) ol.length (knC ol)) := Hid.mk' (Rw2.below HR2.out (Dr.below (a := W2) ⟨nq, rfl⟩ _))
        have HW3 : Hid (Wb (W2.drewN nq) g zs) := HWD
        have HB3 : Hid (Below w.heap.size w (W2.drewN nq)) := Hid.mk' (HB2.out.trans (Dr.below ⟨nq, rfl⟩ _))
        have HS3 : Hid (g + 1 ≤ (W2.drewN nq).heap.size) := HS2
        have q0 : (W2.drewN nq).cell? ⟨q, 0, none⟩ = some (.int .i64 i) := y0
        have q1 : (W2.drewN nq).cell? ⟨q, 1, none⟩ = some (.int .i64 M) := y1
        have hq3 : q < (W2.drewN nq).heap.size := hqlt2
        obtain ⟨W3, hW3⟩ : ∃ u, W2.drewN nq = u := ⟨_, rfl⟩
        rw [hW3] at HR3 HW3 HB3 HS3 q0 q1 hq3 ⊢
        clear hW3 HR2 HWD HB2 HS2 y0 y1 hqlt2
        go_wp2_with fail
        go_roundw
        case rel => exact ⟨k + 1, ol, by go_num, hkn, hO, by omega, HR3, HW3, HB3, HS3⟩
        case measure => simp [iv]; omega
    · have hlk : ¬ (k : Int) < (n : Int) := by omega
      go_wp2_with fail
      go_ret
      exact ⟨⟨_, rfl, ol, hO.out, by omega, ownsRow_base hR.out (by rw [hg.out]; omega)⟩, hB.out⟩
end Go.Proofs.Ytagnaefpkgekmaa
