/- The contract of the document's Tail. -/
import Derived.Test.YtbinedhgjmfceaaPj
import Derived.Test.YtbinedhgjmfceaaBy
import Derived.Deep.RegionWith
namespace Go.Proofs.Ytbinedhgjmfceaa
open Go.ChangeShapes Go.WideShapes Go.ChangeAt Go.RowKit

set_option maxHeartbeats 1000000 in
theorem rtail_any (base q : Nat) (bv : Value) (B : List Int) (a d m : Nat) (n : Int) (w : World) (h : RfIs w base q bv B a d m) (hm : m + 1 ≤ 100000) (ha : d ≤ 90000) :
    Calls Try.prog 36 #[.pointer (some ⟨q, 0, none⟩), .int .i64 n] w fun e w' => e = .returned (.int .i64 (mayE B.length n)) ∧ RMoved w w' base q bv (tB n B) (tA B.length n a d) (tD B.length n d) (mM B.length n m) := by
  have key := rmay_any base q bv B a d m n w h
  by_cases he : mayE B.length n = 0
  · have hb := may_zero.1 he
    unfold tB tA tD mM
    rw [if_pos he, if_pos he, if_pos he, if_pos he]
    rw [he] at key ⊢
    have hmost := h.most
    obtain ⟨nb, hnb⟩ : ∃ n, n = B.length := ⟨_, rfl⟩
    rw [← hnb] at hb hmost ⊢
    have HNB := Hid.mk' hnb.symm
    have H := Hid.mk' h
    clear he hnb
    obtain ⟨q0, q1, q2, q3, f0, f1, f2, f3⟩ := h.cells
    have hqlt := h.lt
    obtain ⟨xa, xc, hbv, hbs, hxn⟩ := h.bs
    rw [HNB.out] at hbv
    subst hbv
    have HB := Hid.mk' hbs
    have HXN := Hid.mk' hxn
    clear h hbs hxn
    by_cases hn : 0 ≤ n
    · obtain ⟨k, rfl⟩ : ∃ k : Nat, n = k := ⟨n.toNat, by omega⟩
      rw [if_pos hn, Int.toNat_natCast]
      by_cases hroom : (k : Int) > d
      · rw [if_pos hroom, if_pos hroom]
        go_enter Try.func36, Try.ntmps36
        go_wp2_with fail
        refine key.mono ?_
        rintro e w1 ⟨rfl, rfl⟩
        clear key
        go_wp2_with fail
        refine (copy_at xa nb xc B w HNB.out HB.out HXN.out).mono ?_
        rintro e w1 ⟨v1, rfl, hown1, b1⟩
        obtain ⟨a1, c1, rfl⟩ := own_slice hown1
        have HOW := Hid.mk' hown1
        have HW1 := Hid.mk' b1
        have HOB : Hid (∀ g, (Value.slice a1 nb c1).ownBlock = some g → w.heap.size ≤ g) := fun g hg => (hown1.lt g hg).1
        clear hown1 b1
        go_wp2_with (at_builtin; go_loud (refine wpList_app_zeros rfl _ _ rfl w.heap.size (.slice a1 nb c1) nb (B.map (Value.int .u8)) rfl HOW.out k rfl (by omega) HW1.out.size ?_; intro v2 w2 hown2 hgr2; obtain ⟨a2, c2, rfl⟩ := own_slice hown2; have HB2 : Hid (Below w.heap.size w w2) := HW1.out.grown hgr2 HW1.out.size HOB.out; have HR2 : Hid (w2.ownsRow w.heap.size 5 1 (.slice a2 (nb + k) c2) (B ++ List.replicate k (0 : Int)).length ((B ++ List.replicate k (0 : Int)).map (Value.int .u8))) := (by rw [List.length_append, List.length_replicate, HNB.out, List.map_append]; exact hown2); have r0 := (HB2.out.cell (p := ⟨q, 0, none⟩) hqlt).trans q0; have r1 := (HB2.out.cell (p := ⟨q, 1, none⟩) hqlt).trans q1; have r2 := (HB2.out.cell (p := ⟨q, 2, none⟩) hqlt).trans q2; have r3 := (HB2.out.cell (p := ⟨q, 3, none⟩) hqlt).trans q3; have g0 := (HB2.out.frozen (p := ⟨q, 0, none⟩) hqlt).trans f0; have g1 := (HB2.out.frozen (p := ⟨q, 1, none⟩) hqlt).trans f1; have g2 := (HB2.out.frozen (p := ⟨q, 2, none⟩) hqlt).trans f2; have g3 := (HB2.out.frozen (p := ⟨q, 3, none⟩) hqlt).trans f3; clear hown2 hgr2 HOW HW1 HOB q0 q1 q2 q3 f0 f1 f2 f3))
        have HF := Hid.mk' (rf_make H.out HB2.out _ (B ++ List.replicate k 0) HR2.out (bytes_append H.out.bytes (Bytes.zeros k)) (by rw [List.length_append, List.length_replicate, HNB.out]; omega) hm).2.2
        clear HR2 HB2
        go_wp2_with fail
        go_ret
        exact ⟨rfl, HF.out⟩
      · rw [if_neg hroom, if_neg hroom]
        go_enter Try.func36, Try.ntmps36
        go_wp2_with fail
        refine key.mono ?_
        rintro e w1 ⟨rfl, rfl⟩
        clear key
        go_wp2_with fail
        refine (copy_at xa nb xc B w HNB.out HB.out HXN.out).mono ?_
        rintro e w1 ⟨v1, rfl, hown1, b1⟩
        obtain ⟨a1, c1, rfl⟩ := own_slice hown1
        have HOW := Hid.mk' hown1
        have HW1 := Hid.mk' b1
        have HOB : Hid (∀ g, (Value.slice a1 nb c1).ownBlock = some g → w.heap.size ≤ g) := fun g hg => (hown1.lt g hg).1
        clear hown1 b1
        go_wp2_with (at_builtin; go_loud (refine wpList_app_zeros rfl _ _ rfl w.heap.size (.slice a1 nb c1) nb (B.map (Value.int .u8)) rfl HOW.out k rfl (by omega) HW1.out.size ?_; intro v2 w2 hown2 hgr2; obtain ⟨a2, c2, rfl⟩ := own_slice hown2; have HB2 : Hid (Below w.heap.size w w2) := HW1.out.grown hgr2 HW1.out.size HOB.out; have HR2 : Hid (w2.ownsRow w.heap.size 5 1 (.slice a2 (nb + k) c2) (B ++ List.replicate k (0 : Int)).length ((B ++ List.replicate k (0 : Int)).map (Value.int .u8))) := (by rw [List.length_append, List.length_replicate, HNB.out, List.map_append]; exact hown2); have r0 := (HB2.out.cell (p := ⟨q, 0, none⟩) hqlt).trans q0; have r1 := (HB2.out.cell (p := ⟨q, 1, none⟩) hqlt).trans q1; have r2 := (HB2.out.cell (p := ⟨q, 2, none⟩) hqlt).trans q2; have r3 := (HB2.out.cell (p := ⟨q, 3, none⟩) hqlt).trans q3; have g0 := (HB2.out.frozen (p := ⟨q, 0, none⟩) hqlt).trans f0; have g1 := (HB2.out.frozen (p := ⟨q, 1, none⟩) hqlt).trans f1; have g2 := (HB2.out.frozen (p := ⟨q, 2, none⟩) hqlt).trans f2; have g3 := (HB2.out.frozen (p := ⟨q, 3, none⟩) hqlt).trans f3; clear hown2 hgr2 HOW HW1 HOB q0 q1 q2 q3 f0 f1 f2 f3))
        have HF := Hid.mk' ((rf_make H.out HB2.out _ (B ++ List.replicate k 0) HR2.out (bytes_append H.out.bytes (Bytes.zeros k)) (by rw [List.length_append, List.length_replicate, HNB.out]; omega) hm).2.1 ((d : Int) - k).toNat ((d : Int) - k) (by omega))
        clear HR2 HB2
        go_wp2_with fail
        go_ret
        exact ⟨rfl, HF.out⟩
    · obtain ⟨k, hk⟩ : ∃ k : Nat, (k : Int) = (nb : Int) + n := ⟨((nb : Int) + n).toNat, by omega⟩
      have hroom : ¬ (n > d) := by omega
      rw [if_neg hn, if_neg hroom, if_neg hroom, show ((nb : Int) + n).toNat = k by omega]
      obtain ⟨g, c, hgc, hcap⟩ := H.out.lies (by rw [HNB.out]; omega)
      simp only [Value.slice.injEq] at hgc
      obtain ⟨rfl, -, rfl⟩ := hgc
      rw [HNB.out] at hcap
      have hkb : k ≤ nb := by omega
      have HDL : Hid ((B.take k).length = k) := Hid.mk' (by rw [List.length_take, HNB.out]; omega)
      have HBD : Hid (Bs w (some ⟨g, 0, none⟩) (B.take k)) := HB.out.take _ (by rw [HNB.out]; omega)
      have hadd : (nb : Int) + n = (k : Int) := hk.symm
      have hkc : k ≤ xc := by omega
      have hwr : IntKind.i64.wrap (k : Int) = (k : Int) := by rw [IntKind.wrap_i64]; omega
      have HKN := Hid.mk' hk
      have hn1 : n < 0 := by omega
      have hn2 : -2048 ≤ n := by omega
      have hxc0 : ¬ xc = 0 := by omega
      clear hk hn hroom hb
      go_enter Try.func36, Try.ntmps36
      go_wp2_with fail
      refine key.mono ?_
      rintro e w1 ⟨rfl, rfl⟩
      clear key
      go_wp2_with fail
      go_region_with (go_at_call 13; go_loud (refine (copy_at (some ⟨g, 0, none⟩) k xc (B.take k) w.drew HDL.out (HBD.out.below ((Below.refl _ _).drew)) (by simp)).mono ?_; rintro e w2 ⟨v2, rfl, hown2, b2⟩; obtain ⟨a2, c2, rfl⟩ := own_slice hown2; have b2 := ((Below.refl w.heap.size w).drew).trans b2; have HB2 := Hid.mk' b2; have HR2 : Hid (w2.ownsRow w.heap.size 5 1 (.slice a2 k c2) (B.take k).length ((B.take k).map (Value.int .u8))) := (by rw [HDL.out]; exact hown2); have r0 := (b2.cell (p := ⟨q, 0, none⟩) hqlt).trans q0; have r2 := (b2.cell (p := ⟨q, 2, none⟩) hqlt).trans q2; have r3 := (b2.cell (p := ⟨q, 3, none⟩) hqlt).trans q3; have g0 := (b2.frozen (p := ⟨q, 0, none⟩) hqlt).trans f0; have g2 := (b2.frozen (p := ⟨q, 2, none⟩) hqlt).trans f2; have g3 := (b2.frozen (p := ⟨q, 3, none⟩) hqlt).trans f3; clear hown2 b2 q0 q1 q2 q3 f0 f1 f2 f3))
      all_goals
        have HF := Hid.mk' ((rf_make H.out HB2.out _ (B.take k) HR2.out (H.out.bytes.take _) (by rw [HDL.out]; omega) hm).2.1 ((d : Int) - n).toNat ((d : Int) - n) (by omega))
        clear HR2 HB2
        go_wp2_with fail
        go_ret
        exact ⟨rfl, HF.out⟩
  · unfold tB tA tD mM
    rw [if_neg he, if_neg he, if_neg he, if_neg he]
    have hne : (mayE B.length n != 0) = true := by simpa using he
    have H := Hid.mk' h
    clear he h
    generalize mayE B.length n = E at *
    go_enter Try.func36, Try.ntmps36
    go_wp2_with fail
    refine key.mono ?_
    rintro e w1 ⟨rfl, rfl⟩
    clear key
    go_wp2_with fail
    go_ret
    exact ⟨rfl, bv, H.out, Kept.refl _ _, fun g hg => .inl hg⟩
end Go.Proofs.Ytbinedhgjmfceaa
