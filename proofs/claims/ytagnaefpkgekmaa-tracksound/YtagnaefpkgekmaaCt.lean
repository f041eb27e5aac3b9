/- TrackTells. -/
import Derived.Test.YtagnaefpkgekmaaCr
import Derived.Test.YtagnaefpkgekmaaCm
import Derived.Test.YtagnaefpkgekmaaCn
import Derived.Deep.CutBlock
namespace Go.Proofs.Ytagnaefpkgekmaa
open Go.ChangeShapes Go.WideShapes Go.ChangeAt Go.RowKit Go.Maps Go.Sort Go.Shelf
set_option maxRecDepth 10000

/-- An access or a comparison, in a box. -/
def Bx14 (W : World) (q : Nat) (k mi ma id vo k' mi' ma' id' vo' op of sz : Int) (yes : Bool) : Prop := W.heap[q]? = some (.cells #[.int .u8 k, .int .u64 mi, .int .u64 ma, .int .i64 id, .int .i64 vo, .int .u8 k', .int .u64 mi', .int .u64 ma', .int .i64 id', .int .i64 vo', .int .u8 op, .bool yes, .int .i64 of, .int .i64 sz] 41 (0, 0))
theorem Bx14.below {W W' : World} {q : Nat} {k mi ma id vo k' mi' ma' id' vo' op of sz : Int} {yes : Bool} (h : Bx14 W q k mi ma id vo k' mi' ma' id' vo' op of sz yes) (hb : Below W.heap.size W W') : Bx14 W' q k mi ma id vo k' mi' ma' id' vo' op of sz yes := (hb.block q (Array.getElem?_eq_some_iff.1 h).1).trans h
theorem Bx14.cells {W : World} {q : Nat} {k mi ma id vo k' mi' ma' id' vo' op of sz : Int} {yes : Bool} (h : Bx14 W q k mi ma id vo k' mi' ma' id' vo' op of sz yes) : W.cell? ⟨q, 0, none⟩ = some (.int .u8 k) ∧ W.cell? ⟨q, 1, none⟩ = some (.int .u64 mi) ∧ W.cell? ⟨q, 2, none⟩ = some (.int .u64 ma) ∧ W.cell? ⟨q, 3, none⟩ = some (.int .i64 id) ∧ W.cell? ⟨q, 4, none⟩ = some (.int .i64 vo) ∧ W.cell? ⟨q, 5, none⟩ = some (.int .u8 k') ∧ W.cell? ⟨q, 6, none⟩ = some (.int .u64 mi') ∧ W.cell? ⟨q, 7, none⟩ = some (.int .u64 ma') ∧ W.cell? ⟨q, 8, none⟩ = some (.int .i64 id') ∧ W.cell? ⟨q, 9, none⟩ = some (.int .i64 vo') ∧ W.cell? ⟨q, 10, none⟩ = some (.int .u8 op) ∧ W.cell? ⟨q, 11, none⟩ = some (.bool yes) ∧ W.cell? ⟨q, 12, none⟩ = some (.int .i64 of) ∧ W.cell? ⟨q, 13, none⟩ = some (.int .i64 sz) :=
  ⟨Go.cell_of_row W q 0 _ _ _ h, Go.cell_of_row W q 1 _ _ _ h, Go.cell_of_row W q 2 _ _ _ h, Go.cell_of_row W q 3 _ _ _ h, Go.cell_of_row W q 4 _ _ _ h, Go.cell_of_row W q 5 _ _ _ h, Go.cell_of_row W q 6 _ _ _ h, Go.cell_of_row W q 7 _ _ _ h, Go.cell_of_row W q 8 _ _ _ h, Go.cell_of_row W q 9 _ _ _ h, Go.cell_of_row W q 10 _ _ _ h, Go.cell_of_row W q 11 _ _ _ h, Go.cell_of_row W q 12 _ _ _ h, Go.cell_of_row W q 13 _ _ _ h⟩

set_option maxHeartbeats 16000000 in
theorem tells_any (a : Option Addr) (c : Nat) (xs : List Kn) (k mi ma id vo k' mi' ma' id' vo' op of sz : Int) (yes : Bool) (W : World) (hk : Ks W (.slice a xs.length c) xs) (xbig : xs.length * 16 ≤ 140737488351232) (ha : Vl.In ⟨k, mi, ma, id, vo⟩) (hb : Vl.In ⟨k', mi', ma', id', vo'⟩) (hop : 0 ≤ op ∧ op ≤ 255) (hof : In64 of) (hsz : In64 sz) :
    Calls Try.prog 5 #[.slice a xs.length c, .agg #[.int .u8 k, .int .u64 mi, .int .u64 ma, .int .i64 id, .int .i64 vo, .int .u8 k', .int .u64 mi', .int .u64 ma', .int .i64 id', .int .i64 vo', .int .u8 op, .bool yes, .int .i64 of, .int .i64 sz]] W fun e w' => e = .returned (.bool true) ∧ Below W.heap.size W w' := by
  have xin := hk.inb
  have xle := hk.len
  have KL0 := Hid.mk' hk
  clear hk
  go_enter Try.func5, Try.ntmps5
  go_wp2_with fail
  have HB : Hid (Below W.heap.size W (W.alloc (.cells #[.int .u8 k, .int .u64 mi, .int .u64 ma, .int .i64 id, .int .i64 vo, .int .u8 k', .int .u64 mi', .int .u64 ma', .int .i64 id', .int .i64 vo', .int .u8 op, .bool yes, .int .i64 of, .int .i64 sz] 41))) := (Below.refl _ _).alloc (Nat.le_refl _) _
  have BX : Hid (Bx14 (W.alloc (.cells #[.int .u8 k, .int .u64 mi, .int .u64 ma, .int .i64 id, .int .i64 vo, .int .u8 k', .int .u64 mi', .int .u64 ma', .int .i64 id', .int .i64 vo', .int .u8 op, .bool yes, .int .i64 of, .int .i64 sz] 41)) W.heap.size k mi ma id vo k' mi' ma' id' vo' op of sz yes) := Hid.mk' (World.alloc_heap_new W _)
  have KL := Hid.mk' (KL0.out.below HB.out)
  clear KL0
  obtain ⟨w0, hw0⟩ : ∃ u, Hid (W.alloc (.cells #[.int .u8 k, .int .u64 mi, .int .u64 ma, .int .i64 id, .int .i64 vo, .int .u8 k', .int .u64 mi', .int .u64 ma', .int .i64 id', .int .i64 vo', .int .u8 op, .bool yes, .int .i64 of, .int .i64 sz] 41) = u) := ⟨_, rfl⟩
  rw [hw0.out] at HB BX KL ⊢
  clear hw0
  go_wp2_with fail
  refine (spare_any (.slice a xs.length c) xs w0 KL.out xbig).mono ?_
  rintro e w1 ⟨⟨gx, cx, rfl, hcx, -, hX⟩, b1⟩
  replace HB := Hid.mk' (HB.out.trans (b1.mono HB.out.size))
  replace KL := Hid.mk' (KL.out.below b1)
  replace BX := Hid.mk' (BX.out.below b1)
  have HXx := Hid.mk' hX
  have KIx := Hid.mk' (ks_pre (c := cx) HXx.out xin xle)
  clear hX
  clear b1
  obtain ⟨x0, x1, x2, x3, x4, x5, x6, x7, x8, x9, x10, x11, x12, x13⟩ := BX.out.cells
  have KQ := within_any (.slice (some ⟨gx, 0, none⟩) xs.length cx) xs ⟨k, mi, ma, id, vo⟩ of sz w1 KIx.out ha hof hsz
  have KR := fun u (hu : Ks u (.slice a xs.length c) xs) => rwithin_any (.slice a xs.length c) xs ⟨k, mi, ma, id, vo⟩ of sz u hu ha hof hsz
  obtain ⟨⟨RB, RE⟩, hRq⟩ : ∃ R, wiN xs ⟨k, mi, ma, id, vo⟩ of sz = R := ⟨_, rfl⟩
  rw [hRq] at KQ KR
  clear hRq
  go_wp2_with fail
  refine (KQ).mono ?_
  rintro e w2 ⟨rfl, b2⟩
  replace HB := Hid.mk' (HB.out.trans (b2.mono HB.out.size))
  replace KL := Hid.mk' (KL.out.below b2)
  replace BX := Hid.mk' (BX.out.below b2)
  replace HXx := Hid.mk' (HXx.out.below b2)
  replace KIx := Hid.mk' (KIx.out.below b2)
  clear x0 x1 x2 x3 x4 x5 x6 x7 x8 x9 x10 x11 x12 x13
  obtain ⟨x0, x1, x2, x3, x4, x5, x6, x7, x8, x9, x10, x11, x12, x13⟩ := BX.out.cells
  clear KQ
  clear b2
  go_wp2_with fail
  refine (KR w2 KL.out).mono ?_
  rintro e w3 ⟨rfl, b3⟩
  replace HB := Hid.mk' (HB.out.trans (b3.mono HB.out.size))
  replace KL := Hid.mk' (KL.out.below b3)
  replace BX := Hid.mk' (BX.out.below b3)
  replace HXx := Hid.mk' (HXx.out.below b3)
  replace KIx := Hid.mk' (KIx.out.below b3)
  clear x0 x1 x2 x3 x4 x5 x6 x7 x8 x9 x10 x11 x12 x13
  clear KR
  clear b3
  go_wp2_with fail
  go_loopw [10] (fun r wr => ∃ k1 : Nat, r = .int .i64 k1 ∧ k1 ≤ 16 ∧ Hid (Ks wr (.slice a xs.length c) xs) ∧ Hid (Bx14 wr W.heap.size k mi ma id vo k' mi' ma' id' vo' op of sz yes) ∧ Hid (Lkn wr gx 0 (xs ++ mkL 4)) ∧ Hid (Ks wr (.slice (some ⟨gx, 0, none⟩) xs.length cx) xs) ∧ Hid (Below W.heap.size W wr)) (fun r _ => ((16 : Int) - iv r).toNat)
  case atStart => exact ⟨0, rfl, by omega, KL, BX, HXx, KIx, HB⟩
  case round =>
    clear KL BX HXx KIx HB
    obtain ⟨k1, rfl, hk1, KL, BX, HXx, KIx, HB⟩ := hrel
    by_cases hk16 : k1 < 16
    · have hl1 : (k1 : Int) < 16 := by omega
      go_upto_if 56 with fail
      go_cut [11] from 57 to 93 (fun o wx => ∃ OP : Int, o = .int .u8 OP ∧ 0 ≤ OP ∧ OP ≤ 255 ∧ wr = wx)
      case first =>
        by_cases hz : k1 = 0
        · subst hz
          obtain ⟨x0, x1, x2, x3, x4, x5, x6, x7, x8, x9, x10, x11, x12, x13⟩ := BX.out.cells
          go_wp2_with fail
          go_meet
          exact ⟨op, rfl, hop.1, hop.2, rfl⟩
        · go_wp2_with fail
          go_meet
          exact ⟨_, rfl, by omega, by omega, rfl⟩
      case rest =>
      obtain ⟨OP, rfl, hop0, hop1, rfl⟩ := hcut
      have KQ := shown_any (.slice (some ⟨gx, 0, none⟩) xs.length cx) xs OP yes ⟨k, mi, ma, id, vo⟩ ⟨k', mi', ma', id', vo'⟩ wr KIx.out hop0 hop1 ha hb
      have KR := fun u (hu : Below wr.heap.size wr u) => rshown_any (.slice a xs.length c) xs OP yes ⟨k, mi, ma, id, vo⟩ ⟨k', mi', ma', id', vo'⟩ u (KL.out.below hu) hop0 hop1 ha hb
      have HRI := Hid.mk' (rin_sh xs OP yes ⟨k, mi, ma, id, vo⟩ ⟨k', mi', ma', id', vo'⟩)
      obtain ⟨⟨RL, RE⟩, hRq⟩ : ∃ R, shN xs OP yes ⟨k, mi, ma, id, vo⟩ ⟨k', mi', ma', id', vo'⟩ = R := ⟨_, rfl⟩
      rw [hRq] at KQ KR HRI
      clear hRq
      obtain ⟨x0, x1, x2, x3, x4, x5, x6, x7, x8, x9, x10, x11, x12, x13⟩ := BX.out.cells
      go_wp2_with fail
      refine KQ.mono ?_
      rintro e w21 ⟨⟨va, rfl, hrow⟩, b1⟩
      have RA : Hid (Rw wr.heap.size w21 va RL) := Hid.mk' hrow
      have BI : Hid (Below wr.heap.size wr w21) := Hid.mk' b1
      have KR1 := KR _ BI.out
      clear hrow b1 KQ KR
      clear x0 x1 x2 x3 x4 x5 x6 x7 x8 x9 x10 x11 x12 x13
      obtain ⟨x0, x1, x2, x3, x4, x5, x6, x7, x8, x9, x10, x11, x12, x13⟩ := (BX.out.below BI.out).cells
      go_wp2_with fail
      refine KR1.mono ?_
      rintro e w22 ⟨⟨vb, rfl, hrow⟩, b1⟩
      have KB : Hid (Ks w22 vb RL) := Hid.mk' (own_ks hrow HRI.out.1 (Nat.le_trans HRI.out.2 (by decide)))
      replace RA := Hid.mk' (RA.out.below b1)
      replace BI := Hid.mk' (BI.out.trans (b1.mono BI.out.size))
      clear hrow b1 KR1
      clear x0 x1 x2 x3 x4 x5 x6 x7 x8 x9 x10 x11 x12 x13
      have KA := own_ks RA.out HRI.out.1 (Nat.le_trans HRI.out.2 (by decide))
      go_wp2_with fail
      refine (same_bel va vb RL _ KA KB.out).mono ?_
      rintro e w23 ⟨rfl, b1⟩
      replace RA := Hid.mk' (RA.out.below b1)
      replace BI := Hid.mk' (BI.out.trans (b1.mono BI.out.size))
      clear b1 KA KB
      have KS := spoil_any wr.heap.size va _ _ w23 RA.out BI.out.size (Nat.le_trans HRI.out.2 (by decide))
      go_wp2_with fail
      refine KS.mono ?_
      rintro e w24 ⟨rfl, b1⟩
      replace BI := Hid.mk' (BI.out.trans b1)
      clear b1 KS RA HRI
      replace HB := Hid.mk' (HB.out.trans (BI.out.mono HB.out.size))
      replace KL := Hid.mk' (KL.out.below BI.out)
      replace BX := Hid.mk' (BX.out.below BI.out)
      replace HXx := Hid.mk' (HXx.out.below BI.out)
      replace KIx := Hid.mk' (KIx.out.below BI.out)
      clear BI
      go_wp2_with fail
      go_roundw
      case rel => exact ⟨k1 + 1, by go_num, by omega, KL, BX, HXx, KIx, HB⟩
      case measure => simp [iv]; omega
    · have hl1 : ¬ (k1 : Int) < 16 := by omega
      go_wp2_with fail
      refine (kept_bel gx cx (.slice a xs.length c) xs wr KL.out HXx.out hcx).mono ?_
      rintro e w41 ⟨rfl, b41⟩
      replace HB := Hid.mk' (HB.out.trans (b41.mono HB.out.size))
      replace KL := Hid.mk' (KL.out.below b41)
      replace BX := Hid.mk' (BX.out.below b41)
      replace HXx := Hid.mk' (HXx.out.below b41)
      replace KIx := Hid.mk' (KIx.out.below b41)
      clear b41
      go_wp2_with fail
      refine (works_any w41).mono ?_
      rintro e w42 ⟨rfl, b42⟩
      replace HB := Hid.mk' (HB.out.trans (b42.mono HB.out.size))
      replace KL := Hid.mk' (KL.out.below b42)
      replace BX := Hid.mk' (BX.out.below b42)
      replace HXx := Hid.mk' (HXx.out.below b42)
      replace KIx := Hid.mk' (KIx.out.below b42)
      clear b42
      go_wp2_with fail
      go_ret
      exact ⟨rfl, HB.out⟩

theorem walkTrackTells (a : Option Addr) (c : Nat) (xs : List sh60.M) (m : sh41.M) (W : World) (o0 : SlOk sh60 W a c xs) (l0 : xs.length * Try.prog.bytesOf 60 ≤ 140737488351232) (o1 : sh41.ok W m) :
    Calls Try.prog 5 #[.slice a xs.length c, .agg (sh41.cs m).toArray] W fun e w' => e = .returned (.bool true) ∧ Below W.heap.size W w' := by
  rw [known_bytes] at l0
  obtain ⟨⟨k, ⟨mi, ma⟩, id, vo⟩, ⟨k', ⟨mi', ma'⟩, id', vo'⟩, op, yes, of, sz⟩ := m
  obtain ⟨⟨h0, ⟨h1, h2⟩, h3, h4⟩, ⟨h5, ⟨h6, h7⟩, h8, h9⟩, h10, _, h12, h13⟩ := o1
  exact tells_any a c xs k mi ma id vo k' mi' ma' id' vo' op of sz yes W (ks_open a c xs W o0 (by omega)) l0 ⟨bounds_u8 h0, bounds_u64 h1, bounds_u64 h2, bounds_i64 h3, bounds_i64 h4⟩ ⟨bounds_u8 h5, bounds_u64 h6, bounds_u64 h7, bounds_i64 h8, bounds_i64 h9⟩ (bounds_u8 h10) (bounds_i64 h12) (bounds_i64 h13)
end Go.Proofs.Ytagnaefpkgekmaa
