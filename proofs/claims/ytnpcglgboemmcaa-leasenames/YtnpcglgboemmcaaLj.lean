/- The walk of the statement LeaseLends. -/
import Derived.Test.YtnpcglgboemmcaaLi
import Derived.Test.YtnpcglgboemmcaaSp
namespace Go.Proofs.Ytnpcglgboemmcaa
open Go.ChangeShapes Go.WideShapes Go.ChangeAt Go.RowKit

set_option maxHeartbeats 400000 in
theorem within_any (x y : Int) (len : Nat) (w : World) (hl : len ≤ 140737488355328) (hx : -9223372036854775808 ≤ x) (hx' : x ≤ 9223372036854775807) (hy : -9223372036854775808 ≤ y) (hy' : y ≤ 9223372036854775807) :
    Calls Try.prog 10 #[.agg #[.int .i64 x, .int .i64 y], .int .i64 len] w fun e w' => e = .returned (.bool (inB x y len)) ∧ Below w.heap.size w w' := by
  by_cases h1 : 0 ≤ x
  · by_cases h2 : 0 ≤ y
    · by_cases h4 : x ≤ len
      · by_cases h3 : y ≤ len - x
        · go_enter Try.func10, Try.ntmps10
          go_wp2_with fail
          go_ret
          exact ⟨ret_bool (by simp [inB]; omega), (Below.refl _ _).alloc (Nat.le_refl _) _⟩
        · go_enter Try.func10, Try.ntmps10
          go_wp2_with fail
          go_ret
          exact ⟨ret_bool (by simp [inB]; omega), (Below.refl _ _).alloc (Nat.le_refl _) _⟩
      · go_enter Try.func10, Try.ntmps10
        go_wp2_with fail
        go_ret
        exact ⟨ret_bool (by simp [inB]; omega), (Below.refl _ _).alloc (Nat.le_refl _) _⟩
    · go_enter Try.func10, Try.ntmps10
      go_wp2_with fail
      go_ret
      exact ⟨ret_bool (by simp [inB]; omega), (Below.refl _ _).alloc (Nat.le_refl _) _⟩
  · go_enter Try.func10, Try.ntmps10
    go_wp2_with fail
    go_ret
    exact ⟨ret_bool (by simp [inB]; omega), (Below.refl _ _).alloc (Nat.le_refl _) _⟩

theorem Buf.take {w : World} {g : Nat} {zs ys : List Int} (h : Buf w g (zs ++ ys)) : Buf w g zs :=
  ⟨by have := h.len; simp at this; omega, fun z hz => h.bytes z (by simp [hz]), fun i hi => by
    rw [h.cell i (by simp; omega), List.getD_eq_getElem?_getD, List.getD_eq_getElem?_getD, List.getElem?_append_left hi], h.free⟩

theorem over_any (g n c x y : Nat) (zs : List Int) (w : World) (h : Buf w g zs) (hn : zs.length = n) (hc : n ≤ c) (hxy : x + y ≤ n) (hbig : n ≤ 140737488351300) :
    Calls Try.prog 12 #[.slice (some ⟨g, 0, none⟩) n c, .slice (winA (some ⟨g, 0, none⟩) x y) y y, .agg #[.int .i64 x, .int .i64 y]] w fun e w' => e = .returned (.bool true) ∧ Below w.heap.size w w' := by
  by_cases hy : y = 0
  · subst hy
    exact over_none (some ⟨g, 0, none⟩) n c x zs w h.bs hn hc (by simp) (by omega) hbig
  · have : winA (some ⟨g, 0, none⟩) x y = some ⟨g, x, none⟩ := by simp [winA, hy, addr_add]
    rw [this]
    exact over_some g n c x y zs w h hn hc hxy (by omega) hbig

theorem ints_one (zs : List Int) : ∀ u ∈ zs.map (Value.int .u8), u.oneCell' = true := by
  intro u hu; simp at hu; obtain ⟨z, _, rfl⟩ := hu; rfl

/-- What stands behind LeaseLends' first two rows: the bytes and three more. -/
theorem lends_in {w : World} {base : Nat} {v : Value} {zs : List Int} {n : Nat} (h : w.ownsRow base 5 1 v (n + 3) (zs.map (Value.int .u8) ++ [.int .u8 1, .int .u8 2, .int .u8 3])) (hn : zs.length = n) (hb : Bytes zs) (hl : n ≤ 140737488351300) :
    ∃ g cap, v = .slice (some ⟨g, 0, none⟩) (n + 3) cap ∧ n + 3 ≤ cap ∧ Buf w g (zs ++ [1, 2, 3]) ∧ g < w.heap.size ∧ base ≤ g := by
  have h0 := h
  rcases h.2 with ⟨_, h1⟩ | ⟨g, cap, cur, rfl, hg, _, hc, _⟩
  · omega
  · refine ⟨g, cap, rfl, hc, ?_, (h0.lt g rfl).2, hg⟩
    refine buf_own (n := n + 3) (cap := cap) (base := base) (t := 5) ?_ (bytes_append hb (by unfold Bytes; simp)) (by simp; omega)
    simpa using h0

set_option maxHeartbeats 4000000 in
theorem lends_any (a : Option Addr) (c : Nat) (zs : List Int) (x y : Int) (W : World) (h0 : Bs W a zs) (n0 : (a = none → c = 0) ∧ zs.length ≤ c) (hx : (Lit.int .i64 x).wf = true) (hy : (Lit.int .i64 y).wf = true) (hbig : zs.length ≤ 140737488351232) :
    Calls Try.prog 3 #[.slice a zs.length c, .agg #[.int .i64 x, .int .i64 y]] W fun e w' => e = .returned (.bool true) ∧ Below W.heap.size W w' := by
  obtain ⟨i0, hif, hz0, hz1, hz2⟩ := info_parts info_u8
  obtain ⟨x0, x1⟩ := bounds_i64 hx
  obtain ⟨y0, y1⟩ := bounds_i64 hy
  have HB := Hid.mk' h0
  have HA := Hid.mk' n0.1
  have HBX : Hid (Below W.heap.size W (W.alloc (.cells #[.int .i64 x, .int .i64 y] 24))) := (Below.refl _ _).alloc (Nat.le_refl _) _
  clear h0 n0 hx hy
  obtain ⟨n, hn⟩ : ∃ n, n = zs.length := ⟨_, rfl⟩
  rw [← hn] at hbig ⊢
  have HN := Hid.mk' hn.symm
  clear hn
  go_enter Try.func3, Try.ntmps3
  go_wp2_with fail
  refine (copy_at a n c zs _ HN.out (HB.out.below HBX.out) HA.out).mono ?_
  rintro e w1 ⟨v1, rfl, hown1, b1⟩
  have B1 : Below W.heap.size W w1 := HBX.out.trans (b1.mono (by simp))
  have e0 : w1.cell? ⟨W.heap.size, 0, none⟩ = some (.int .i64 x) := by rw [b1.cell (by simp)]; simp
  have e1 : w1.cell? ⟨W.heap.size, 1, none⟩ = some (.int .i64 y) := by rw [b1.cell (by simp)]; simp
  have hs1 : W.heap.size < w1.heap.size := by have := b1.size; simp at this; omega
  clear b1 HBX
  have HO1 : Hid (w1.ownsRow (W.heap.size + 1) 5 1 v1 n (zs.map (Value.int .u8))) := by show w1.ownsRow _ _ _ _ _ _; simpa using hown1
  clear hown1
  go_wp2_with (at_builtin; refine wpList_append_own _ rfl _ _ 22 rfl (W.heap.size + 1) 5 i0 (.int .u8 0) 1 1 Try.underlying22 hif hz0 hz1 hz2 rfl (by decide) v1 n (zs.map (Value.int .u8)) rfl (World.ownsRow.alloc HO1.out _) ⟨w1.heap.size, 0, none⟩ 3 3 [.int .u8 1, .int .u8 2, .int .u8 3] rfl rfl (cell_three_new _ _ _ _ _) (by intro u hu; simp at hu; rcases hu with rfl | rfl | rfl <;> rfl) (by unfold maxLen; omega) (by omega) (by simp; omega) ?_; intro v2 w2 hown2 hgr2 hiff; clear hiff; obtain ⟨g, cap, rfl, hcap, hbuf, hg, hgW⟩ := lends_in hown2 HN.out HB.out.bytes (by omega); have k2 : Kept (fun k => v1.ownBlock = some k) w1 w2 := ((Kept.refl _ w1).alloc _).grown hgr2 (fun k hk _ => hk); have HF2 := Hid.mk' hbuf; have B2 : Below W.heap.size W w2 := B1.trans (k2.below (by omega) (fun k hk e => by have := (HO1.out.lt k e).1; omega)); have f0 := k2.cell e0 (fun e => absurd (HO1.out.lt _ e).1 (by show ¬ (W.heap.size + 1 ≤ W.heap.size); omega)); have f1 := k2.cell e1 (fun e => absurd (HO1.out.lt _ e).1 (by show ¬ (W.heap.size + 1 ≤ W.heap.size); omega)); have hs2 : W.heap.size < w2.heap.size := by { have := k2.size; omega }; clear hown2 hgr2 hbuf k2 e0 e1)
  have hlen : (zs ++ [1, 2, 3]).length = n + 3 := by simp [HN.out]
  have HL := Hid.mk' hlen
  clear hlen HO1 B1
  by_cases hin : inB x y n = true
  · have hin' := hin
    simp only [inB, decide_eq_true_eq] at hin'
    obtain ⟨p, rfl⟩ : ∃ p : Nat, x = p := ⟨x.toNat, by omega⟩
    obtain ⟨q, rfl⟩ : ∃ q : Nat, y = q := ⟨y.toNat, by omega⟩
    have hpq : p + q ≤ n := by omega
    have HIN := Hid.mk' hin
    clear hin hin' x0 x1 y0 y1
    refine (lend_ok (some ⟨g, 0, none⟩) n cap p q _ (by omega) (by omega) hpq (by simp)).mono ?_
    rintro e w3 ⟨rfl, b3⟩
    have B3 : Below W.heap.size W w3 := B2.trans (b3.mono (by omega))
    have g0 := (b3.cell (p := ⟨W.heap.size, 0, none⟩) hs2).trans f0
    have g1 := (b3.cell (p := ⟨W.heap.size, 1, none⟩) hs2).trans f1
    have hs3 : W.heap.size < w3.heap.size := by have := b3.size; omega
    have hg3 : g < w3.heap.size := by have := b3.size; omega
    have HF3 := Hid.mk' (HF2.out.below hg b3)
    clear b3 f0 f1 hs2 hg HF2 B2
    go_wp2_with fail
    refine (within_any p q n _ (by omega) (by omega) (by omega) (by omega) (by omega)).mono ?_
    rw [HIN.out]
    rintro e w4 ⟨rfl, b4⟩
    have B4 : Below W.heap.size W w4 := B3.trans (b4.mono (by omega))
    have k0 := (b4.cell (p := ⟨W.heap.size, 0, none⟩) hs3).trans g0
    have k1 := (b4.cell (p := ⟨W.heap.size, 1, none⟩) hs3).trans g1
    have hg4 : g < w4.heap.size := by have := b4.size; omega
    have HF4 := Hid.mk' (HF3.out.below hg3 b4)
    clear b4 g0 g1 hs3 hg3 HF3 B3
    go_wp2_with fail
    refine (over_any g n cap p q zs w4 HF4.out.take HN.out (by omega) hpq (by omega)).mono ?_
    rintro e w5 ⟨rfl, b5⟩
    have B5 : Below W.heap.size W w5 := B4.trans (b5.mono B4.size)
    have HF5 := Hid.mk' (HF4.out.below hg4 b5)
    have hg5 : g < w5.heap.size := by have := b5.size; omega
    clear b5 HF4 B4 hg4 k0 k1
    go_wp2_with fail
    refine (eq_at _ _ n n cap c zs zs w5 HN.out HN.out HF5.out.take.bs (HB.out.below B5)).mono ?_
    rintro e w6 ⟨rfl, d6⟩
    rw [show decide (zs = zs) = true from by simp]
    have B6 : Below W.heap.size W w6 := B5.trans (d6.below _)
    have HF6 := Hid.mk' (HF5.out.below hg5 (d6.below _))
    have hg6 : g < w6.heap.size := by rw [d6.heap]; exact hg5
    clear d6 HF5 B5 hg5
    have hcn : ¬ cap = n := by omega
    go_wp2_with fail
    have hsub : (((zs ++ [1, 2, 3]).drop n).take 3) = [1, 2, 3] := by rw [← HN.out]; simp
    have bsub := (HF6.out.below hg6 ((Below.refl _ _).alloc (Nat.le_refl _) (.cells #[.int .u8 1, .int .u8 2, .int .u8 3] 5))).sub n 3 (by rw [HL.out]; exact Nat.le_refl _)
    rw [hsub] at bsub
    refine (eq_at _ _ 3 3 _ 3 [1, 2, 3] [1, 2, 3] _ rfl rfl bsub (bs_new w6 [1, 2, 3] 5 (by unfold Bytes; simp) (by simp))).mono ?_
    rintro e w7 ⟨rfl, d7⟩
    rw [show decide (([1, 2, 3] : List Int) = [1, 2, 3]) = true from by simp]
    have B7 : Below W.heap.size W w7 := (B6.alloc B6.size _).trans (d7.below _)
    clear d7 bsub hsub B6 HF6
    go_wp2_with fail
    refine (awake_any w7).mono ?_
    rintro e w8 ⟨rfl, b8⟩
    have B8 : Below W.heap.size W w8 := B7.trans (b8.mono B7.size)
    clear b8 B7
    go_wp2_with fail
    go_ret
    exact ⟨rfl, B8⟩
  · have hin : inB x y n = false := by simpa using hin
    have HIN := Hid.mk' hin
    clear hin
    refine (lend_out (some ⟨g, 0, none⟩) n cap x y _ (by omega) x0 x1 y0 y1 HIN.out).mono ?_
    rintro e w3 ⟨rfl, b3⟩
    have B3 : Below W.heap.size W w3 := B2.trans (b3.mono (by omega))
    have g0 := (b3.cell (p := ⟨W.heap.size, 0, none⟩) hs2).trans f0
    have g1 := (b3.cell (p := ⟨W.heap.size, 1, none⟩) hs2).trans f1
    clear b3 f0 f1 HF2 B2
    go_wp2_with fail
    refine (within_any x y n _ (by omega) x0 x1 y0 y1).mono ?_
    rw [HIN.out]
    rintro e w4 ⟨rfl, b4⟩
    have B4 : Below W.heap.size W w4 := B3.trans (b4.mono B3.size)
    clear b4 B3 g0 g1
    go_wp2_with fail
    refine (awake_any w4).mono ?_
    rintro e w8 ⟨rfl, b8⟩
    have B8 : Below W.heap.size W w8 := B4.trans (b8.mono B4.size)
    clear b8 B4
    go_wp2_with fail
    go_ret
    exact ⟨rfl, B8⟩

theorem walkLeaseLends (a : Option Addr) (c : Nat) (zs : List Int) (m : sh24.M) (W : World) (h0 : Bs W a zs) (n0 : (a = none → c = 0) ∧ zs.length ≤ c) (o : sh24.ok W m) (hbig : zs.length ≤ 140737488351232) :
    Calls Try.prog 3 #[.slice a zs.length c, .agg (sh24.cs m).toArray] W fun e w' => e = .returned (.bool true) ∧ Below W.heap.size W w' :=
  lends_any a c zs m.1 m.2 W h0 n0 o.1 o.2 hbig
end Go.Proofs.Ytnpcglgboemmcaa
