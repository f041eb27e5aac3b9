/- The laws' works. -/
import Derived.Test.YtagnaefpkgekmabCp
import Derived.Test.YtagnaefpkgekmabCh
namespace Go.Proofs.Ytagnaefpkgekmab
open Go.ChangeShapes Go.WideShapes Go.ChangeAt Go.RowKit Go.Maps Go.Sort Go.Shelf
set_option maxRecDepth 10000

theorem w_prove : pvN two16 3 2 = ([(0, 14), (3, 2), (7, 4)], 0) := by decide +kernel
theorem w_in : wiN two16 (ptV 0 12) 0 2 = (true, 0) := by decide +kernel
theorem w_out : wiN two16 (ptV 0 12) 0 4 = (false, 0) := by decide +kernel
theorem w_shown : shN [] 29 true (ptV 0 20) enV = ([(0, 21)], 0) := by decide +kernel
theorem w_join : jnN two16 [(0, 10), (3, 5), (7, 6)] = ([(0, 10), (7, 4)], 0) := by decide +kernel
theorem pt_in (id off : Int) (h1 : In64 id) (h2 : In64 off) : (ptV id off).In := ⟨⟨(by decide : (0 : Int) ≤ 2), (by decide : (2 : Int) ≤ 255)⟩, ⟨(by decide : (0 : Int) ≤ 0), (by decide : (0 : Int) ≤ 18446744073709551615)⟩, ⟨(by decide : (0 : Int) ≤ 0), (by decide : (0 : Int) ≤ 18446744073709551615)⟩, h1, h2⟩
theorem en_in : enV.In := ⟨⟨by decide, by decide⟩, ⟨by decide, by decide⟩, ⟨by decide, by decide⟩, ⟨by decide, by decide⟩, ⟨by decide, by decide⟩⟩
/-- What a call answered, as a list in memory. -/
theorem ans_ks {w w' : World} {e : Ending} {r : List Kn × Int} (h : Ans w w' e r) (hb : ∀ p ∈ r.1, In64 p.1 ∧ In64 p.2) (hl : r.1.length ≤ 140737488355328) :
    ∃ v, e = .returned (.tuple #[v, .int .i64 r.2]) ∧ Ks w' v r.1 := by
  obtain ⟨v, he, ho⟩ := h
  exact ⟨v, he, own_ks ho hb hl⟩
theorem lkn_lit3 (w : World) (t : TypeId) (i n i' n' i'' n'' : Int) : Lkn (w.alloc (.cells #[.int .i64 i, .int .i64 n, .int .i64 i', .int .i64 n', .int .i64 i'', .int .i64 n''] t)) w.heap.size 0 [(i, n), (i', n'), (i'', n'')] := by
  intro k x y hk
  match k, hk with
  | 0, hk => cases hk; exact ⟨World.cell?_alloc_new _ _ _ _, World.cell?_alloc_new _ _ _ _⟩
  | 1, hk => cases hk; exact ⟨World.cell?_alloc_new _ _ _ _, World.cell?_alloc_new _ _ _ _⟩
  | 2, hk => cases hk; exact ⟨World.cell?_alloc_new _ _ _ _, World.cell?_alloc_new _ _ _ _⟩
  | k + 3, hk => simp at hk
theorem lkn_lit1 (w : World) (t : TypeId) (i n : Int) : Lkn (w.alloc (.cells #[.int .i64 i, .int .i64 n] t)) w.heap.size 0 [(i, n)] := by
  intro k x y hk
  match k, hk with
  | 0, hk => cases hk; exact ⟨World.cell?_alloc_new _ _ _ _, World.cell?_alloc_new _ _ _ _⟩
  | k + 1, hk => simp at hk
def inL (l : List Kn) : Bool := l.all fun p => decide (-9223372036854775808 ≤ p.1) && decide (p.1 ≤ 9223372036854775807) && decide (-9223372036854775808 ≤ p.2) && decide (p.2 ≤ 9223372036854775807)
theorem inL_of {l : List Kn} (h : inL l = true) : ∀ p ∈ l, In64 p.1 ∧ In64 p.2 := by
  intro p hp
  have := List.all_eq_true.1 h p hp
  simp only [Bool.and_eq_true, decide_eq_true_eq] at this
  exact ⟨⟨this.1.1.1, this.1.1.2⟩, this.1.2, this.2⟩
theorem ks_of {w : World} {g c : Nat} {l : List Kn} {n : Nat} (h : Lkn w g 0 l) (hb : inL l = true) (hn : l.length = n) (hl : n ≤ 1000) : Ks w (.slice (some ⟨g, 0, none⟩) n c) l :=
  ⟨⟨_, c, by rw [hn], .inr ⟨g, 0, rfl, h⟩⟩, inL_of hb, by omega⟩

theorem same_bel (va vb : Value) (l : List Kn) (w : World) (ha : Ks w va l) (hb : Ks w vb l) : Calls Try.prog 8 #[va, vb] w fun e w' => e = .returned (.bool true) ∧ Below w.heap.size w w' :=
  (same_any va vb l w ha hb).mono fun _ _ ⟨h1, h2⟩ => ⟨h1, h2.below _⟩

set_option maxHeartbeats 4000000 in
theorem works_any (w : World) : Calls Try.prog 15 #[] w fun e w' => e = .returned (.bool true) ∧ Below w.heap.size w w' := by
  have KT := fun u => two_any u
  have KPT := fun id off u => pointer_any id off u
  have KEN := fun u => end_any u
  go_enter Try.func15, Try.ntmps15
  go_wp2_with fail
  refine (KT _).mono ?_
  rintro e w1 ⟨⟨v1, rfl, k1⟩, b1⟩
  have HB := Hid.mk' b1
  have K1 := Hid.mk' k1
  clear k1
  clear b1
  have KQ := prove_any v1 two16 3 2 w1 K1.out (by unfold In64; omega)
  rw [w_prove] at KQ
  go_wp2_with fail
  refine (KQ).mono ?_
  rintro e w2 ⟨ha, b2⟩
  replace HB := Hid.mk' (HB.out.trans (b2.mono HB.out.size))
  replace K1 := Hid.mk' (K1.out.below b2)
  clear b2
  obtain ⟨va, rfl, ka⟩ := ans_ks ha (inL_of (by decide)) (by decide)
  have Ka := Hid.mk' ka
  clear ha ka KQ
  clear K1
  go_wp2_with fail
  refine (KT _).mono ?_
  rintro e w3 ⟨⟨v2, rfl, k2⟩, b3⟩
  replace HB := Hid.mk' (HB.out.trans (b3.mono HB.out.size))
  replace Ka := Hid.mk' (Ka.out.below b3)
  have K2 := Hid.mk' k2
  clear k2
  clear b3
  go_wp2_with fail
  refine (KPT 0 12 _).mono ?_
  rintro e w4 ⟨rfl, b4⟩
  replace HB := Hid.mk' (HB.out.trans (b4.mono HB.out.size))
  replace Ka := Hid.mk' (Ka.out.below b4)
  replace K2 := Hid.mk' (K2.out.below b4)
  clear b4
  have KQ := within_any v2 two16 (ptV 0 12) 0 2 w4 K2.out (pt_in _ _ (by unfold In64; omega) (by unfold In64; omega)) (by unfold In64; omega) (by unfold In64; omega)
  rw [w_in] at KQ
  go_wp2_with fail
  refine (KQ).mono ?_
  rintro e w5 ⟨rfl, b5⟩
  replace HB := Hid.mk' (HB.out.trans (b5.mono HB.out.size))
  replace Ka := Hid.mk' (Ka.out.below b5)
  replace K2 := Hid.mk' (K2.out.below b5)
  clear KQ
  clear b5
  clear K2
  go_wp2_with fail
  refine (KT _).mono ?_
  rintro e w6 ⟨⟨v3, rfl, k3⟩, b6⟩
  replace HB := Hid.mk' (HB.out.trans (b6.mono HB.out.size))
  replace Ka := Hid.mk' (Ka.out.below b6)
  have K3 := Hid.mk' k3
  clear k3
  clear b6
  go_wp2_with fail
  refine (KPT 0 12 _).mono ?_
  rintro e w7 ⟨rfl, b7⟩
  replace HB := Hid.mk' (HB.out.trans (b7.mono HB.out.size))
  replace Ka := Hid.mk' (Ka.out.below b7)
  replace K3 := Hid.mk' (K3.out.below b7)
  clear b7
  have KQ := within_any v3 two16 (ptV 0 12) 0 4 w7 K3.out (pt_in _ _ (by unfold In64; omega) (by unfold In64; omega)) (by unfold In64; omega) (by unfold In64; omega)
  rw [w_out] at KQ
  go_wp2_with fail
  refine (KQ).mono ?_
  rintro e w8 ⟨rfl, b8⟩
  replace HB := Hid.mk' (HB.out.trans (b8.mono HB.out.size))
  replace Ka := Hid.mk' (Ka.out.below b8)
  replace K3 := Hid.mk' (K3.out.below b8)
  clear KQ
  clear b8
  clear K3
  go_wp2_with fail
  refine (KPT 0 20 _).mono ?_
  rintro e w9 ⟨rfl, b9⟩
  replace HB := Hid.mk' (HB.out.trans (b9.mono HB.out.size))
  replace Ka := Hid.mk' (Ka.out.below b9)
  clear b9
  go_wp2_with fail
  refine (KEN _).mono ?_
  rintro e w10 ⟨rfl, b10⟩
  replace HB := Hid.mk' (HB.out.trans (b10.mono HB.out.size))
  replace Ka := Hid.mk' (Ka.out.below b10)
  clear b10
  have KQ := shown_any (.slice none 0 0) [] 29 true (ptV 0 20) enV w10 (ks_nil _ _ _) (by omega) (by omega) (pt_in _ _ (by unfold In64; omega) (by unfold In64; omega)) en_in
  rw [w_shown] at KQ
  go_wp2_with fail
  refine (KQ).mono ?_
  rintro e w11 ⟨ha, b11⟩
  replace HB := Hid.mk' (HB.out.trans (b11.mono HB.out.size))
  replace Ka := Hid.mk' (Ka.out.below b11)
  clear b11
  obtain ⟨vb, rfl, kb⟩ := ans_ks ha (inL_of (by decide)) (by decide)
  have Kb := Hid.mk' kb
  clear ha kb KQ
  go_wp2_with fail
  refine (KT _).mono ?_
  rintro e w12 ⟨⟨v4, rfl, k4⟩, b12⟩
  replace HB := Hid.mk' (HB.out.trans (b12.mono HB.out.size))
  replace Ka := Hid.mk' (Ka.out.below b12)
  replace Kb := Hid.mk' (Kb.out.below b12)
  have K4 := Hid.mk' k4
  clear k4
  clear b12
  go_wp2_with fail
  have bl : Below w12.heap.size w12 (w12.alloc (.cells #[.int .i64 0, .int .i64 10, .int .i64 3, .int .i64 5, .int .i64 7, .int .i64 6] 27)) := (Below.refl _ _).alloc (Nat.le_refl _) _
  replace HB := Hid.mk' (HB.out.trans (bl.mono HB.out.size))
  replace Ka := Hid.mk' (Ka.out.below bl)
  replace Kb := Hid.mk' (Kb.out.below bl)
  replace K4 := Hid.mk' (K4.out.below bl)
  have Kj : Hid (Ks (w12.alloc (.cells #[.int .i64 0, .int .i64 10, .int .i64 3, .int .i64 5, .int .i64 7, .int .i64 6] 27)) (.slice (some ⟨w12.heap.size, 0, none⟩) 3 3) [(0, 10), (3, 5), (7, 6)]) := Hid.mk' (ks_of (lkn_lit3 _ _ 0 10 3 5 7 6) (by decide) rfl (by decide))
  obtain ⟨w13, hwn⟩ : ∃ u, Hid ((w12.alloc (.cells #[.int .i64 0, .int .i64 10, .int .i64 3, .int .i64 5, .int .i64 7, .int .i64 6] 27)) = u) := ⟨_, rfl⟩
  rw [hwn.out] at HB Ka Kb K4 Kj ⊢
  clear bl hwn
  have KQ := join_any v4 _ two16 [(0, 10), (3, 5), (7, 6)] w13 K4.out Kj.out
  rw [w_join] at KQ
  refine (KQ).mono ?_
  rintro e w14 ⟨ha, b14⟩
  replace HB := Hid.mk' (HB.out.trans (b14.mono HB.out.size))
  replace Ka := Hid.mk' (Ka.out.below b14)
  replace Kb := Hid.mk' (Kb.out.below b14)
  replace K4 := Hid.mk' (K4.out.below b14)
  replace Kj := Hid.mk' (Kj.out.below b14)
  clear b14
  obtain ⟨vc, rfl, kc⟩ := ans_ks ha (inL_of (by decide)) (by decide)
  have Kc := Hid.mk' kc
  clear ha kc KQ
  clear K4
  clear Kj
  go_wp2_with fail
  have bl : Below w14.heap.size w14 (w14.alloc (.cells #[.int .i64 0, .int .i64 14, .int .i64 3, .int .i64 2, .int .i64 7, .int .i64 4] 27)) := (Below.refl _ _).alloc (Nat.le_refl _) _
  replace HB := Hid.mk' (HB.out.trans (bl.mono HB.out.size))
  replace Ka := Hid.mk' (Ka.out.below bl)
  replace Kb := Hid.mk' (Kb.out.below bl)
  replace Kc := Hid.mk' (Kc.out.below bl)
  have L1 : Hid (Ks (w14.alloc (.cells #[.int .i64 0, .int .i64 14, .int .i64 3, .int .i64 2, .int .i64 7, .int .i64 4] 27)) (.slice (some ⟨w14.heap.size, 0, none⟩) 3 3) [(0, 14), (3, 2), (7, 4)]) := Hid.mk' (ks_of (lkn_lit3 _ _ 0 14 3 2 7 4) (by decide) rfl (by decide))
  obtain ⟨w15, hwn⟩ : ∃ u, Hid ((w14.alloc (.cells #[.int .i64 0, .int .i64 14, .int .i64 3, .int .i64 2, .int .i64 7, .int .i64 4] 27)) = u) := ⟨_, rfl⟩
  rw [hwn.out] at HB Ka Kb Kc L1 ⊢
  clear bl hwn
  refine (same_bel va _ _ w15 Ka.out L1.out).mono ?_
  rintro e w16 ⟨rfl, b16⟩
  replace HB := Hid.mk' (HB.out.trans (b16.mono HB.out.size))
  replace Ka := Hid.mk' (Ka.out.below b16)
  replace Kb := Hid.mk' (Kb.out.below b16)
  replace Kc := Hid.mk' (Kc.out.below b16)
  replace L1 := Hid.mk' (L1.out.below b16)
  clear b16
  clear Ka
  clear L1
  go_wp2_with fail
  have bl : Below w16.heap.size w16 (w16.alloc (.cells #[.int .i64 0, .int .i64 21] 27)) := (Below.refl _ _).alloc (Nat.le_refl _) _
  replace HB := Hid.mk' (HB.out.trans (bl.mono HB.out.size))
  replace Kb := Hid.mk' (Kb.out.below bl)
  replace Kc := Hid.mk' (Kc.out.below bl)
  have L2 : Hid (Ks (w16.alloc (.cells #[.int .i64 0, .int .i64 21] 27)) (.slice (some ⟨w16.heap.size, 0, none⟩) 1 1) [(0, 21)]) := Hid.mk' (ks_of (lkn_lit1 _ _ 0 21) (by decide) rfl (by decide))
  obtain ⟨w17, hwn⟩ : ∃ u, Hid ((w16.alloc (.cells #[.int .i64 0, .int .i64 21] 27)) = u) := ⟨_, rfl⟩
  rw [hwn.out] at HB Kb Kc L2 ⊢
  clear bl hwn
  refine (same_bel vb _ _ w17 Kb.out L2.out).mono ?_
  rintro e w18 ⟨rfl, b18⟩
  replace HB := Hid.mk' (HB.out.trans (b18.mono HB.out.size))
  replace Kb := Hid.mk' (Kb.out.below b18)
  replace Kc := Hid.mk' (Kc.out.below b18)
  replace L2 := Hid.mk' (L2.out.below b18)
  clear b18
  clear Kb
  clear L2
  go_wp2_with fail
  have bl : Below w18.heap.size w18 (w18.alloc (.cells #[.int .i64 0, .int .i64 10, .int .i64 7, .int .i64 4] 27)) := (Below.refl _ _).alloc (Nat.le_refl _) _
  replace HB := Hid.mk' (HB.out.trans (bl.mono HB.out.size))
  replace Kc := Hid.mk' (Kc.out.below bl)
  have L3 : Hid (Ks (w18.alloc (.cells #[.int .i64 0, .int .i64 10, .int .i64 7, .int .i64 4] 27)) (.slice (some ⟨w18.heap.size, 0, none⟩) 2 2) [(0, 10), (7, 4)]) := Hid.mk' (ks_of (lkn_lit2 _ _ 0 10 7 4) (by decide) rfl (by decide))
  obtain ⟨w19, hwn⟩ : ∃ u, Hid ((w18.alloc (.cells #[.int .i64 0, .int .i64 10, .int .i64 7, .int .i64 4] 27)) = u) := ⟨_, rfl⟩
  rw [hwn.out] at HB Kc L3 ⊢
  clear bl hwn
  refine (same_bel vc _ _ w19 Kc.out L3.out).mono ?_
  rintro e w20 ⟨rfl, b20⟩
  replace HB := Hid.mk' (HB.out.trans (b20.mono HB.out.size))
  replace Kc := Hid.mk' (Kc.out.below b20)
  replace L3 := Hid.mk' (L3.out.below b20)
  clear b20
  go_wp2_with fail
  go_ret
  exact ⟨rfl, HB.out⟩
end Go.Proofs.Ytagnaefpkgekmab
