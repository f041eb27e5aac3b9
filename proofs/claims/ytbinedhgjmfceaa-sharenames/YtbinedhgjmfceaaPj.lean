/- The contracts of the document's Head and Tail. -/
import Derived.Test.YtbinedhgjmfceaaPi
namespace Go.Proofs.Ytbinedhgjmfceaa
open Go.ChangeShapes Go.WideShapes Go.ChangeAt Go.RowKit

/-- What is told of the document's packet behind Head or Tail. -/
def RMoved (w w' : World) (base q : Nat) (bv : Value) (B : List Int) (a d m : Nat) : Prop := ∃ bv', RfIs w' base q bv' B a d m ∧ Kept (rfS q bv) w w' ∧ (∀ g, bv'.ownBlock = some g → bv.ownBlock = some g ∨ w.heap.size ≤ g)

theorem owns_set {w : World} {base q j : Nat} {e : TypeId} {size : Nat} {v : Value} {n : Nat} {xs : List Value} (h : w.ownsRow base e size v n xs) (hne : ∀ g, v.ownBlock = some g → g ≠ q) (u : Value) : (w.setCell ⟨q, j, none⟩ u).ownsRow base e size v n xs :=
  Kept.owns h ((Kept.refl (fun k => k = q) w).setCell (p := ⟨q, j, none⟩) (fun _ => rfl) u) (fun g hg => hne g hg)

/-- New bytes, new room, one move more. -/
theorem rf_make {w w1 : World} {base q : Nat} {bv : Value} {B : List Int} {a d m : Nat} (h : RfIs w base q bv B a d m) (b : Below w.heap.size w w1) (v : Value) (B' : List Int) (hrow : w1.ownsRow w.heap.size 5 1 v B'.length (B'.map (Value.int .u8))) (hb : Bytes B') (hm : B'.length ≤ 2048) (hmv : m + 1 ≤ 100000) :
    (∀ (a' : Nat) (x : Int), x = a' → RMoved w (((w1.setCell ⟨q, 0, none⟩ v).setCell ⟨q, 1, none⟩ (.int .i64 x)).setCell ⟨q, 3, none⟩ (.int .i64 ((m : Int) + 1))) base q bv B' a' d (m + 1)) ∧
    (∀ (d' : Nat) (x : Int), x = d' → RMoved w (((w1.setCell ⟨q, 0, none⟩ v).setCell ⟨q, 2, none⟩ (.int .i64 x)).setCell ⟨q, 3, none⟩ (.int .i64 ((m : Int) + 1))) base q bv B' a d' (m + 1)) ∧
    RMoved w ((((w1.setCell ⟨q, 0, none⟩ v).setCell ⟨q, 1, none⟩ (.int .i64 64)).setCell ⟨q, 2, none⟩ (.int .i64 64)).setCell ⟨q, 3, none⟩ (.int .i64 ((m : Int) + 1))) base q bv B' 64 64 (m + 1) := by
  have hlt := h.lt
  have hbase : base ≤ w.heap.size := Nat.le_trans h.le (Nat.le_of_lt hlt)
  have hne : ∀ g, v.ownBlock = some g → g ≠ q := fun g hg => by have := (hrow.lt g hg).1; omega
  have hbox : w1.heap[q]? = some (.cells #[bv, .int .i64 a, .int .i64 d, .int .i64 m] 69 (0, 0)) := by rw [b.block q hlt]; exact h.box
  have hnew : ∀ g, v.ownBlock = some g → bv.ownBlock = some g ∨ w.heap.size ≤ g := fun g hg => .inr (hrow.lt g hg).1
  have k1 : Kept (rfS q bv) w w1 := Kept.of_below b
  have hrow' := ownsRow_base hrow hbase
  refine ⟨fun a' x hx => ⟨v, ⟨?_, ?_, hne, h.le, hb, hm, hmv⟩, ?_, hnew⟩, fun d' x hx => ⟨v, ⟨?_, ?_, hne, h.le, hb, hm, hmv⟩, ?_, hnew⟩, ⟨v, ⟨?_, ?_, hne, h.le, hb, hm, hmv⟩, ?_, hnew⟩⟩
  · subst hx
    rw [Go.heap_setCell_same _ q 3 _ _ _ (Go.heap_setCell_same _ q 1 _ _ _ (Go.heap_setCell_same _ q 0 _ _ _ hbox))]
    simp
  · exact owns_set (owns_set (owns_set hrow' hne _) hne _) hne _
  · exact ((k1.setCell (p := ⟨q, 0, none⟩) (fun _ => .inl rfl) _).setCell (p := ⟨q, 1, none⟩) (fun _ => .inl rfl) _).setCell (p := ⟨q, 3, none⟩) (fun _ => .inl rfl) _
  · subst hx
    rw [Go.heap_setCell_same _ q 3 _ _ _ (Go.heap_setCell_same _ q 2 _ _ _ (Go.heap_setCell_same _ q 0 _ _ _ hbox))]
    simp
  · exact owns_set (owns_set (owns_set hrow' hne _) hne _) hne _
  · exact ((k1.setCell (p := ⟨q, 0, none⟩) (fun _ => .inl rfl) _).setCell (p := ⟨q, 2, none⟩) (fun _ => .inl rfl) _).setCell (p := ⟨q, 3, none⟩) (fun _ => .inl rfl) _
  · rw [Go.heap_setCell_same _ q 3 _ _ _ (Go.heap_setCell_same _ q 2 _ _ _ (Go.heap_setCell_same _ q 1 _ _ _ (Go.heap_setCell_same _ q 0 _ _ _ hbox)))]
    simp
  · exact owns_set (owns_set (owns_set (owns_set hrow' hne _) hne _) hne _) hne _
  · exact (((k1.setCell (p := ⟨q, 0, none⟩) (fun _ => .inl rfl) _).setCell (p := ⟨q, 1, none⟩) (fun _ => .inl rfl) _).setCell (p := ⟨q, 2, none⟩) (fun _ => .inl rfl) _).setCell (p := ⟨q, 3, none⟩) (fun _ => .inl rfl) _

theorem own_zeros (w : World) (k base : Nat) (hk : k ≤ 4096) (hb : base ≤ w.heap.size) : (w.alloc (.cells ((List.replicate k (0 : Int)).map (Value.int .u8)).toArray 5)).ownsRow base 5 1 (.slice (some ⟨w.heap.size, 0, none⟩) k k) k ((List.replicate k (0 : Int)).map (Value.int .u8)) := by
  have := World.ownsRow_lit (base := base) (size := 1) (e := 5) w ((List.replicate k (0 : Int)).map (Value.int .u8)).toArray k hb (by unfold maxLen; omega) (by simp)
  simpa using this

set_option maxHeartbeats 1000000 in
theorem rhead_any (base q : Nat) (bv : Value) (B : List Int) (a d m : Nat) (n : Int) (w : World) (h : RfIs w base q bv B a d m) (hm : m + 1 ≤ 100000) (ha : a ≤ 90000) :
    Calls Try.prog 34 #[.pointer (some ⟨q, 0, none⟩), .int .i64 n] w fun e w' => e = .returned (.int .i64 (mayE B.length n)) ∧ RMoved w w' base q bv (hB n B) (hA B.length n a) (hD B.length n a d) (mM B.length n m) := by
  have key := rmay_any base q bv B a d m n w h
  by_cases he : mayE B.length n = 0
  · have hb := may_zero.1 he
    unfold hB hA hD mM
    rw [if_pos he, if_pos he, if_pos he, if_pos he]
    rw [he] at key ⊢
    have hmost := h.most
    obtain ⟨nb, hnb⟩ : ∃ n, n = B.length := ⟨_, rfl⟩
    rw [← hnb] at hb hmost
    have HNB := Hid.mk' hnb.symm
    have H := Hid.mk' h
    clear he hnb
    obtain ⟨q0, q1, q2, q3, f0, f1, f2, f3⟩ := h.cells
    have hqlt := h.lt
    obtain ⟨xa, xc, hbv, hbs, hxn⟩ := h.bs
    rw [HNB.out] at hbv
    subst hbv
    have HB := Hid.mk' hbs
    have HXN := Hid.mk' hxn
    clear h hbs hxn
    by_cases hn : 0 ≤ n
    · obtain ⟨k, rfl⟩ : ∃ k : Nat, n = k := ⟨n.toNat, by omega⟩
      rw [if_pos hn, Int.toNat_natCast]
      have hmk := make_bytes k (by omega)
      have HOW := Hid.mk' (own_zeros w k w.heap.size (by omega) (Nat.le_refl _))
      have HW1 : Hid (Below w.heap.size w (w.alloc (.cells ((List.replicate k (0 : Int)).map (Value.int .u8)).toArray 5))) := (Below.refl _ _).alloc (Nat.le_refl _) _
      have HB1 := Hid.mk' (HB.out.below HW1.out)
      obtain ⟨Z, hZ⟩ : ∃ Z, Z = (List.replicate k (0 : Int)).map (Value.int .u8) := ⟨_, rfl⟩
      rw [← hZ] at hmk HOW HW1 HB1
      have HZ := Hid.mk' hZ
      clear hZ
      by_cases hroom : (k : Int) > a
      · rw [if_pos hroom, if_pos hroom]
        go_enter Try.func34, Try.ntmps34
        go_wp2_with fail
        refine key.mono ?_
        rintro e w1 ⟨rfl, rfl⟩
        clear key
        go_wp2_with (at_builtin; go_loud (refine wpList_app_own rfl _ _ rfl w.heap.size (.slice (some ⟨w.heap.size, 0, none⟩) k k) k Z rfl HOW.out xa xc nb B rfl HNB.out HB1.out (by omega) (by simp) ?_; intro v2 w2 hown2 hgr2 hob2; obtain ⟨a2, c2, rfl⟩ := own_slice hown2; have HB2 : Hid (Below w.heap.size w w2) := HW1.out.grown hgr2 (by simp) (by intro g hg; simp [Value.ownBlock] at hg; omega); have HR2 : Hid (w2.ownsRow w.heap.size 5 1 (.slice a2 (k + nb) c2) (List.replicate k (0 : Int) ++ B).length ((List.replicate k (0 : Int) ++ B).map (Value.int .u8))) := (by rw [List.length_append, List.length_replicate, HNB.out, List.map_append, ← HZ.out]; exact hown2); have r0 := (HB2.out.cell (p := ⟨q, 0, none⟩) hqlt).trans q0; have r1 := (HB2.out.cell (p := ⟨q, 1, none⟩) hqlt).trans q1; have r2 := (HB2.out.cell (p := ⟨q, 2, none⟩) hqlt).trans q2; have r3 := (HB2.out.cell (p := ⟨q, 3, none⟩) hqlt).trans q3; have g0 := (HB2.out.frozen (p := ⟨q, 0, none⟩) hqlt).trans f0; have g1 := (HB2.out.frozen (p := ⟨q, 1, none⟩) hqlt).trans f1; have g2 := (HB2.out.frozen (p := ⟨q, 2, none⟩) hqlt).trans f2; have g3 := (HB2.out.frozen (p := ⟨q, 3, none⟩) hqlt).trans f3; clear hown2 hgr2 hob2 hmk HOW HW1 HB1 HZ q0 q1 q2 q3 f0 f1 f2 f3))
        have HF := Hid.mk' (rf_make H.out HB2.out _ (List.replicate k 0 ++ B) HR2.out (bytes_append (Bytes.zeros k) H.out.bytes) (by rw [List.length_append, List.length_replicate, HNB.out]; omega) hm).2.2
        clear HR2 HB2
        go_wp2_with fail
        go_ret
        exact ⟨rfl, HF.out⟩
      · rw [if_neg hroom, if_neg hroom]
        go_enter Try.func34, Try.ntmps34
        go_wp2_with fail
        refine key.mono ?_
        rintro e w1 ⟨rfl, rfl⟩
        clear key
        go_wp2_with (at_builtin; go_loud (refine wpList_app_own rfl _ _ rfl w.heap.size (.slice (some ⟨w.heap.size, 0, none⟩) k k) k Z rfl HOW.out xa xc nb B rfl HNB.out HB1.out (by omega) (by simp) ?_; intro v2 w2 hown2 hgr2 hob2; obtain ⟨a2, c2, rfl⟩ := own_slice hown2; have HB2 : Hid (Below w.heap.size w w2) := HW1.out.grown hgr2 (by simp) (by intro g hg; simp [Value.ownBlock] at hg; omega); have HR2 : Hid (w2.ownsRow w.heap.size 5 1 (.slice a2 (k + nb) c2) (List.replicate k (0 : Int) ++ B).length ((List.replicate k (0 : Int) ++ B).map (Value.int .u8))) := (by rw [List.length_append, List.length_replicate, HNB.out, List.map_append, ← HZ.out]; exact hown2); have r0 := (HB2.out.cell (p := ⟨q, 0, none⟩) hqlt).trans q0; have r1 := (HB2.out.cell (p := ⟨q, 1, none⟩) hqlt).trans q1; have r2 := (HB2.out.cell (p := ⟨q, 2, none⟩) hqlt).trans q2; have r3 := (HB2.out.cell (p := ⟨q, 3, none⟩) hqlt).trans q3; have g0 := (HB2.out.frozen (p := ⟨q, 0, none⟩) hqlt).trans f0; have g1 := (HB2.out.frozen (p := ⟨q, 1, none⟩) hqlt).trans f1; have g2 := (HB2.out.frozen (p := ⟨q, 2, none⟩) hqlt).trans f2; have g3 := (HB2.out.frozen (p := ⟨q, 3, none⟩) hqlt).trans f3; clear hown2 hgr2 hob2 hmk HOW HW1 HB1 HZ q0 q1 q2 q3 f0 f1 f2 f3))
        have HF := Hid.mk' ((rf_make H.out HB2.out _ (List.replicate k 0 ++ B) HR2.out (bytes_append (Bytes.zeros k) H.out.bytes) (by rw [List.length_append, List.length_replicate, HNB.out]; omega) hm).1 ((a : Int) - k).toNat ((a : Int) - k) (by omega))
        clear HR2 HB2
        go_wp2_with fail
        go_ret
        exact ⟨rfl, HF.out⟩
    · obtain ⟨k, rfl⟩ : ∃ k : Nat, n = -(k : Int) := ⟨(-n).toNat, by omega⟩
      have hroom : ¬ (-(k : Int) > a) := by omega
      rw [if_neg hn, if_neg hroom, if_neg hroom, show (-(-(k : Int))).toNat = k by omega]
      obtain ⟨g, c, hgc, hcap⟩ := H.out.lies (by rw [HNB.out]; omega)
      simp only [Value.slice.injEq] at hgc
      obtain ⟨rfl, -, rfl⟩ := hgc
      rw [HNB.out] at hcap
      have hkb : k ≤ nb := by omega
      have HDL : Hid ((B.drop k).length = nb - k) := by rw [List.length_drop, HNB.out]; rfl
      by_cases hck : xc = k
      · subst hck
        have HBD : Hid (Bs w (some ⟨g, 0, none⟩) (B.drop xc)) := ⟨by rw [HDL.out]; omega, H.out.bytes.drop _, .inl (by rw [HDL.out]; omega)⟩
        go_enter Try.func34, Try.ntmps34
        go_wp2_with fail
        refine key.mono ?_
        rintro e w1 ⟨rfl, rfl⟩
        clear key
        go_wp2_with fail
        have HDL : Hid ((B.drop xc).length = 0) := Hid.mk' (by rw [HDL.out]; omega)
        refine (copy_at _ 0 _ (B.drop xc) w HDL.out HBD.out (by simp)).mono ?_
        rintro e w2 ⟨v2, rfl, hown2, b2⟩
        obtain ⟨a2, c2, rfl⟩ := own_slice hown2
        have HB2 := Hid.mk' b2
        have HR2 : Hid (w2.ownsRow w.heap.size 5 1 (.slice a2 0 c2) (B.drop xc).length ((B.drop xc).map (Value.int .u8))) := by rw [HDL.out]; exact hown2
        have r0 := (b2.cell (p := ⟨q, 0, none⟩) hqlt).trans q0
        have r1 := (b2.cell (p := ⟨q, 1, none⟩) hqlt).trans q1
        have r3 := (b2.cell (p := ⟨q, 3, none⟩) hqlt).trans q3
        have g0 := (b2.frozen (p := ⟨q, 0, none⟩) hqlt).trans f0
        have g1 := (b2.frozen (p := ⟨q, 1, none⟩) hqlt).trans f1
        have g3 := (b2.frozen (p := ⟨q, 3, none⟩) hqlt).trans f3
        clear hown2 b2 q0 q1 q2 q3 f0 f1 f2 f3
        have HF := Hid.mk' ((rf_make H.out HB2.out _ (B.drop xc) HR2.out (H.out.bytes.drop _) (by rw [HDL.out]; omega) hm).1 ((a : Int) - -(xc : Int)).toNat ((a : Int) + xc) (by omega))
        clear HR2 HB2
        go_wp2_with fail
        go_ret
        exact ⟨rfl, HF.out⟩
      · have hck' : ¬ k = xc := fun h => hck h.symm
        have HBD : Hid (Bs w (some ⟨g, k, none⟩) (B.drop k)) := by have := HB.out.drop k; rw [Nat.zero_add] at this; exact this
        go_enter Try.func34, Try.ntmps34
        go_wp2_with fail
        refine key.mono ?_
        rintro e w1 ⟨rfl, rfl⟩
        clear key
        go_wp2_with fail
        refine (copy_at _ (nb - k) _ (B.drop k) w HDL.out HBD.out (by simp)).mono ?_
        rintro e w2 ⟨v2, rfl, hown2, b2⟩
        obtain ⟨a2, c2, rfl⟩ := own_slice hown2
        have HB2 := Hid.mk' b2
        have HR2 : Hid (w2.ownsRow w.heap.size 5 1 (.slice a2 (nb - k) c2) (B.drop k).length ((B.drop k).map (Value.int .u8))) := by rw [HDL.out]; exact hown2
        have r0 := (b2.cell (p := ⟨q, 0, none⟩) hqlt).trans q0
        have r1 := (b2.cell (p := ⟨q, 1, none⟩) hqlt).trans q1
        have r3 := (b2.cell (p := ⟨q, 3, none⟩) hqlt).trans q3
        have g0 := (b2.frozen (p := ⟨q, 0, none⟩) hqlt).trans f0
        have g1 := (b2.frozen (p := ⟨q, 1, none⟩) hqlt).trans f1
        have g3 := (b2.frozen (p := ⟨q, 3, none⟩) hqlt).trans f3
        clear hown2 b2 q0 q1 q2 q3 f0 f1 f2 f3
        have HF := Hid.mk' ((rf_make H.out HB2.out _ (B.drop k) HR2.out (H.out.bytes.drop _) (by rw [HDL.out]; omega) hm).1 ((a : Int) - -(k : Int)).toNat ((a : Int) + k) (by omega))
        clear HR2 HB2
        go_wp2_with fail
        go_ret
        exact ⟨rfl, HF.out⟩
  · unfold hB hA hD mM
    rw [if_neg he, if_neg he, if_neg he, if_neg he]
    have hne : (mayE B.length n != 0) = true := by simpa using he
    have H := Hid.mk' h
    clear he h
    generalize mayE B.length n = E at *
    go_enter Try.func34, Try.ntmps34
    go_wp2_with fail
    refine key.mono ?_
    rintro e w1 ⟨rfl, rfl⟩
    clear key
    go_wp2_with fail
    go_ret
    exact ⟨rfl, bv, H.out, Kept.refl _ _, fun g hg => .inl hg⟩
end Go.Proofs.Ytbinedhgjmfceaa
