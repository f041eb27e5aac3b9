/- The walk of TrackKnown. -/
import Derived.Test.YtagnaefpkgekmabC0
namespace Go.Proofs.Ytagnaefpkgekmab
open Go.ChangeShapes Go.WideShapes Go.ChangeAt Go.RowKit Go.Maps Go.Sort Go.Shelf
set_option maxRecDepth 100000
set_option linter.unusedVariables false

set_option maxHeartbeats 8000000 in
theorem walkTrackKnown (w : World) : Calls Try.prog 3 #[] w fun e w' => e = .returned (.bool true) ∧ Below w.heap.size w w' := by
  have KT := fun u => two_any u
  have KPT := fun id off u => pointer_any id off u
  have KEN := fun u => end_any u
  have hmk := make258
  obtain ⟨ZL, HZ⟩ : ∃ ZL, Hid ((knC zeros).toArray = ZL) := ⟨_, rfl⟩
  rw [HZ.out] at hmk
  go_enter Try.func3, Try.ntmps3
  go_wp2_with fail
  refine (KT _).mono ?_
  rintro e w1 ⟨⟨v1, rfl, k1⟩, b1⟩
  have HB := Hid.mk' b1
  have K1 := Hid.mk' k1
  clear k1
  clear b1
  have KQ := check_any v1 two16 w1 K1.out
  rw [k_c1] at KQ
  go_wp2_with fail
  refine (KQ).mono ?_
  rintro e w2 ⟨rfl, b2⟩
  replace HB := Hid.mk' (HB.out.trans (b2.mono HB.out.size))
  replace K1 := Hid.mk' (K1.out.below b2)
  clear KQ
  clear b2
  clear K1
  go_wp2_with fail
  have bl : Below w2.heap.size w2 (w2.alloc (.cells #[.int .i64 7, .int .i64 4, .int .i64 0, .int .i64 14] 27)) := (Below.refl _ _).alloc (Nat.le_refl _) _
  replace HB := Hid.mk' (HB.out.trans (bl.mono HB.out.size))
  have L : Hid (Ks (w2.alloc (.cells #[.int .i64 7, .int .i64 4, .int .i64 0, .int .i64 14] 27)) (.slice (some ⟨w2.heap.size, 0, none⟩) 2 2) [(7, 4), (0, 14)]) := Hid.mk' (ks_of (lkn_lit2 _ _ 7 4 0 14) (by decide) rfl (by decide))
  obtain ⟨w3, hwn⟩ : ∃ u, Hid ((w2.alloc (.cells #[.int .i64 7, .int .i64 4, .int .i64 0, .int .i64 14] 27)) = u) := ⟨_, rfl⟩
  rw [hwn.out] at HB L ⊢
  clear bl hwn
  have KQ := check_any _ _ w3 L.out
  rw [k_c2] at KQ
  refine (KQ).mono ?_
  rintro e w4 ⟨rfl, b4⟩
  replace HB := Hid.mk' (HB.out.trans (b4.mono HB.out.size))
  replace L := Hid.mk' (L.out.below b4)
  clear KQ
  clear b4
  clear L
  go_wp2_with fail
  have bl : Below w4.heap.size w4 (w4.alloc (.cells #[.int .i64 0, .int .i64 0] 27)) := (Below.refl _ _).alloc (Nat.le_refl _) _
  replace HB := Hid.mk' (HB.out.trans (bl.mono HB.out.size))
  have L : Hid (Ks (w4.alloc (.cells #[.int .i64 0, .int .i64 0] 27)) (.slice (some ⟨w4.heap.size, 0, none⟩) 1 1) [(0, 0)]) := Hid.mk' (ks_of (lkn_lit1 _ _ 0 0) (by decide) rfl (by decide))
  obtain ⟨w5, hwn⟩ : ∃ u, Hid ((w4.alloc (.cells #[.int .i64 0, .int .i64 0] 27)) = u) := ⟨_, rfl⟩
  rw [hwn.out] at HB L ⊢
  clear bl hwn
  have KQ := check_any _ _ w5 L.out
  rw [k_c3] at KQ
  refine (KQ).mono ?_
  rintro e w6 ⟨rfl, b6⟩
  replace HB := Hid.mk' (HB.out.trans (b6.mono HB.out.size))
  replace L := Hid.mk' (L.out.below b6)
  clear KQ
  clear b6
  clear L
  go_wp2_with fail
  have bl : Below w6.heap.size w6 (w6.alloc (.cells #[.int .i64 257, .int .i64 1] 27)) := (Below.refl _ _).alloc (Nat.le_refl _) _
  replace HB := Hid.mk' (HB.out.trans (bl.mono HB.out.size))
  have L : Hid (Ks (w6.alloc (.cells #[.int .i64 257, .int .i64 1] 27)) (.slice (some ⟨w6.heap.size, 0, none⟩) 1 1) [(257, 1)]) := Hid.mk' (ks_of (lkn_lit1 _ _ 257 1) (by decide) rfl (by decide))
  obtain ⟨w7, hwn⟩ : ∃ u, Hid ((w6.alloc (.cells #[.int .i64 257, .int .i64 1] 27)) = u) := ⟨_, rfl⟩
  rw [hwn.out] at HB L ⊢
  clear bl hwn
  have KQ := check_any _ _ w7 L.out
  rw [k_c4] at KQ
  refine (KQ).mono ?_
  rintro e w8 ⟨rfl, b8⟩
  replace HB := Hid.mk' (HB.out.trans (b8.mono HB.out.size))
  replace L := Hid.mk' (L.out.below b8)
  clear KQ
  clear b8
  clear L
  go_wp2_with fail
  have bl : Below w8.heap.size w8 (w8.alloc (.cells #[.int .i64 256, .int .i64 2048] 27)) := (Below.refl _ _).alloc (Nat.le_refl _) _
  replace HB := Hid.mk' (HB.out.trans (bl.mono HB.out.size))
  have L : Hid (Ks (w8.alloc (.cells #[.int .i64 256, .int .i64 2048] 27)) (.slice (some ⟨w8.heap.size, 0, none⟩) 1 1) [(256, 2048)]) := Hid.mk' (ks_of (lkn_lit1 _ _ 256 2048) (by decide) rfl (by decide))
  obtain ⟨w9, hwn⟩ : ∃ u, Hid ((w8.alloc (.cells #[.int .i64 256, .int .i64 2048] 27)) = u) := ⟨_, rfl⟩
  rw [hwn.out] at HB L ⊢
  clear bl hwn
  have KQ := check_any _ _ w9 L.out
  rw [k_c5] at KQ
  refine (KQ).mono ?_
  rintro e w10 ⟨rfl, b10⟩
  replace HB := Hid.mk' (HB.out.trans (b10.mono HB.out.size))
  replace L := Hid.mk' (L.out.below b10)
  clear KQ
  clear b10
  clear L
  go_wp2_with fail
  have bl : Below w10.heap.size w10 (w10.alloc (.cells #[.int .i64 0, .int .i64 2049] 27)) := (Below.refl _ _).alloc (Nat.le_refl _) _
  replace HB := Hid.mk' (HB.out.trans (bl.mono HB.out.size))
  have L : Hid (Ks (w10.alloc (.cells #[.int .i64 0, .int .i64 2049] 27)) (.slice (some ⟨w10.heap.size, 0, none⟩) 1 1) [(0, 2049)]) := Hid.mk' (ks_of (lkn_lit1 _ _ 0 2049) (by decide) rfl (by decide))
  obtain ⟨w11, hwn⟩ : ∃ u, Hid ((w10.alloc (.cells #[.int .i64 0, .int .i64 2049] 27)) = u) := ⟨_, rfl⟩
  rw [hwn.out] at HB L ⊢
  clear bl hwn
  have KQ := check_any _ _ w11 L.out
  rw [k_c6] at KQ
  refine (KQ).mono ?_
  rintro e w12 ⟨rfl, b12⟩
  replace HB := Hid.mk' (HB.out.trans (b12.mono HB.out.size))
  replace L := Hid.mk' (L.out.below b12)
  clear KQ
  clear b12
  clear L
  go_wp2_with fail
  have bl : Below w12.heap.size w12 (w12.alloc (.cells ZL 27)) := (Below.refl _ _).alloc (Nat.le_refl _) _
  replace HB := Hid.mk' (HB.out.trans (bl.mono HB.out.size))
  have L : Hid (Ks (w12.alloc (.cells ZL 27)) (.slice (some ⟨w12.heap.size, 0, none⟩) 258 258) zeros) := Hid.mk' (by rw [← HZ.out]; exact ks_zeros _)
  obtain ⟨w13, hwn⟩ : ∃ u, Hid ((w12.alloc (.cells ZL 27)) = u) := ⟨_, rfl⟩
  rw [hwn.out] at HB L ⊢
  clear bl hwn hmk HZ
  have KQ := check_any _ _ w13 L.out
  rw [k_c7] at KQ
  refine (KQ).mono ?_
  rintro e w14 ⟨rfl, b14⟩
  replace HB := Hid.mk' (HB.out.trans (b14.mono HB.out.size))
  replace L := Hid.mk' (L.out.below b14)
  clear KQ
  clear b14
  clear L
  have KQ := check_any (.slice none 0 0) [] w14 (ks_nil _ _ _)
  rw [k_c8] at KQ
  go_wp2_with fail
  refine (KQ).mono ?_
  rintro e w15 ⟨rfl, b15⟩
  replace HB := Hid.mk' (HB.out.trans (b15.mono HB.out.size))
  clear KQ
  clear b15
  go_wp2_with fail
  refine (KT _).mono ?_
  rintro e w16 ⟨⟨vt, rfl, kt⟩, b16⟩
  replace HB := Hid.mk' (HB.out.trans (b16.mono HB.out.size))
  have Kt := Hid.mk' kt
  clear kt
  clear b16
  have KQ := prove_any vt two16 0 20 w16 Kt.out (by unfold In64; omega)
  rw [k_p2] at KQ
  go_wp2_with fail
  refine (KQ).mono ?_
  rintro e w17 ⟨ha, b17⟩
  replace HB := Hid.mk' (HB.out.trans (b17.mono HB.out.size))
  replace Kt := Hid.mk' (Kt.out.below b17)
  clear b17
  obtain ⟨v2, rfl, k2⟩ := ans_ks ha (inL_of (by decide)) (by decide)
  have K2 := Hid.mk' k2
  clear ha k2 KQ
  clear Kt
  go_wp2_with fail
  refine (KT _).mono ?_
  rintro e w18 ⟨⟨vt, rfl, kt⟩, b18⟩
  replace HB := Hid.mk' (HB.out.trans (b18.mono HB.out.size))
  replace K2 := Hid.mk' (K2.out.below b18)
  have Kt := Hid.mk' kt
  clear kt
  clear b18
  have KQ := prove_any vt two16 0 3 w18 Kt.out (by unfold In64; omega)
  rw [k_p4] at KQ
  go_wp2_with fail
  refine (KQ).mono ?_
  rintro e w19 ⟨ha, b19⟩
  replace HB := Hid.mk' (HB.out.trans (b19.mono HB.out.size))
  replace K2 := Hid.mk' (K2.out.below b19)
  replace Kt := Hid.mk' (Kt.out.below b19)
  clear b19
  obtain ⟨v4, rfl, k4⟩ := ans_ks ha (inL_of (by decide)) (by decide)
  have K4 := Hid.mk' k4
  clear ha k4 KQ
  clear Kt
  go_wp2_with fail
  refine (KT _).mono ?_
  rintro e w20 ⟨⟨vt, rfl, kt⟩, b20⟩
  replace HB := Hid.mk' (HB.out.trans (b20.mono HB.out.size))
  replace K2 := Hid.mk' (K2.out.below b20)
  replace K4 := Hid.mk' (K4.out.below b20)
  have Kt := Hid.mk' kt
  clear kt
  clear b20
  have KQ := prove_any vt two16 7 9223372036854775807 w20 Kt.out (by unfold In64; omega)
  rw [k_p6] at KQ
  go_wp2_with fail
  refine (KQ).mono ?_
  rintro e w21 ⟨ha, b21⟩
  replace HB := Hid.mk' (HB.out.trans (b21.mono HB.out.size))
  replace K2 := Hid.mk' (K2.out.below b21)
  replace K4 := Hid.mk' (K4.out.below b21)
  replace Kt := Hid.mk' (Kt.out.below b21)
  clear b21
  obtain ⟨v6, rfl, k6⟩ := ans_ks ha (inL_of (by decide)) (by decide)
  have K6 := Hid.mk' k6
  clear ha k6 KQ
  clear Kt
  go_wp2_with fail
  refine (KT _).mono ?_
  rintro e w22 ⟨⟨vt, rfl, kt⟩, b22⟩
  replace HB := Hid.mk' (HB.out.trans (b22.mono HB.out.size))
  replace K2 := Hid.mk' (K2.out.below b22)
  replace K4 := Hid.mk' (K4.out.below b22)
  replace K6 := Hid.mk' (K6.out.below b22)
  have Kt := Hid.mk' kt
  clear kt
  clear b22
  have KQ := prove_any vt two16 3 0 w22 Kt.out (by unfold In64; omega)
  rw [k_p8] at KQ
  go_wp2_with fail
  refine (KQ).mono ?_
  rintro e w23 ⟨ha, b23⟩
  replace HB := Hid.mk' (HB.out.trans (b23.mono HB.out.size))
  replace K2 := Hid.mk' (K2.out.below b23)
  replace K4 := Hid.mk' (K4.out.below b23)
  replace K6 := Hid.mk' (K6.out.below b23)
  replace Kt := Hid.mk' (Kt.out.below b23)
  clear b23
  obtain ⟨v8, rfl, k8⟩ := ans_ks ha (inL_of (by decide)) (by decide)
  have K8 := Hid.mk' k8
  clear ha k8 KQ
  clear Kt
  go_wp2_with fail
  refine (KT _).mono ?_
  rintro e w24 ⟨⟨vt, rfl, kt⟩, b24⟩
  replace HB := Hid.mk' (HB.out.trans (b24.mono HB.out.size))
  replace K2 := Hid.mk' (K2.out.below b24)
  replace K4 := Hid.mk' (K4.out.below b24)
  replace K6 := Hid.mk' (K6.out.below b24)
  replace K8 := Hid.mk' (K8.out.below b24)
  have Kt := Hid.mk' kt
  clear kt
  clear b24
  have KQ := prove_any vt two16 (-1) 2 w24 Kt.out (by unfold In64; omega)
  rw [k_p10] at KQ
  go_wp2_with fail
  refine (KQ).mono ?_
  rintro e w25 ⟨ha, b25⟩
  replace HB := Hid.mk' (HB.out.trans (b25.mono HB.out.size))
  replace K2 := Hid.mk' (K2.out.below b25)
  replace K4 := Hid.mk' (K4.out.below b25)
  replace K6 := Hid.mk' (K6.out.below b25)
  replace K8 := Hid.mk' (K8.out.below b25)
  replace Kt := Hid.mk' (Kt.out.below b25)
  clear b25
  obtain ⟨v10, rfl, k10⟩ := ans_ks ha (inL_of (by decide)) (by decide)
  clear ha k10 KQ
  clear Kt
  go_wp2_with fail
  refine (KT _).mono ?_
  rintro e w26 ⟨⟨vt, rfl, kt⟩, b26⟩
  replace HB := Hid.mk' (HB.out.trans (b26.mono HB.out.size))
  replace K2 := Hid.mk' (K2.out.below b26)
  replace K4 := Hid.mk' (K4.out.below b26)
  replace K6 := Hid.mk' (K6.out.below b26)
  replace K8 := Hid.mk' (K8.out.below b26)
  have Kt := Hid.mk' kt
  clear kt
  clear b26
  have KQ := prove_any vt two16 3 (-1) w26 Kt.out (by unfold In64; omega)
  rw [k_p12] at KQ
  go_wp2_with fail
  refine (KQ).mono ?_
  rintro e w27 ⟨ha, b27⟩
  replace HB := Hid.mk' (HB.out.trans (b27.mono HB.out.size))
  replace K2 := Hid.mk' (K2.out.below b27)
  replace K4 := Hid.mk' (K4.out.below b27)
  replace K6 := Hid.mk' (K6.out.below b27)
  replace K8 := Hid.mk' (K8.out.below b27)
  replace Kt := Hid.mk' (Kt.out.below b27)
  clear b27
  obtain ⟨v12, rfl, k12⟩ := ans_ks ha (inL_of (by decide)) (by decide)
  clear ha k12 KQ
  clear Kt
  go_wp2_with fail
  refine (KT _).mono ?_
  rintro e w28 ⟨⟨vt, rfl, kt⟩, b28⟩
  replace HB := Hid.mk' (HB.out.trans (b28.mono HB.out.size))
  replace K2 := Hid.mk' (K2.out.below b28)
  replace K4 := Hid.mk' (K4.out.below b28)
  replace K6 := Hid.mk' (K6.out.below b28)
  replace K8 := Hid.mk' (K8.out.below b28)
  have Kt := Hid.mk' kt
  clear kt
  clear b28
  have KQ := forget_any vt two16 257 w28 Kt.out (by unfold In64; omega)
  rw [k_f14] at KQ
  go_wp2_with fail
  refine (KQ).mono ?_
  rintro e w29 ⟨ha, b29⟩
  replace HB := Hid.mk' (HB.out.trans (b29.mono HB.out.size))
  replace K2 := Hid.mk' (K2.out.below b29)
  replace K4 := Hid.mk' (K4.out.below b29)
  replace K6 := Hid.mk' (K6.out.below b29)
  replace K8 := Hid.mk' (K8.out.below b29)
  replace Kt := Hid.mk' (Kt.out.below b29)
  clear b29
  obtain ⟨v14, rfl, k14⟩ := ans_ks ha (inL_of (by decide)) (by decide)
  clear ha k14 KQ
  clear Kt
  go_wp2_with fail
  have bl : Below w29.heap.size w29 (w29.alloc (.cells #[.int .i64 0, .int .i64 20, .int .i64 7, .int .i64 4] 27)) := (Below.refl _ _).alloc (Nat.le_refl _) _
  replace HB := Hid.mk' (HB.out.trans (bl.mono HB.out.size))
  replace K2 := Hid.mk' (K2.out.below bl)
  replace K4 := Hid.mk' (K4.out.below bl)
  replace K6 := Hid.mk' (K6.out.below bl)
  replace K8 := Hid.mk' (K8.out.below bl)
  have L : Hid (Ks (w29.alloc (.cells #[.int .i64 0, .int .i64 20, .int .i64 7, .int .i64 4] 27)) (.slice (some ⟨w29.heap.size, 0, none⟩) 2 2) [(0, 20), (7, 4)]) := Hid.mk' (ks_of (lkn_lit2 _ _ 0 20 7 4) (by decide) rfl (by decide))
  obtain ⟨w30, hwn⟩ : ∃ u, Hid ((w29.alloc (.cells #[.int .i64 0, .int .i64 20, .int .i64 7, .int .i64 4] 27)) = u) := ⟨_, rfl⟩
  rw [hwn.out] at HB K2 K4 K6 K8 L ⊢
  clear bl hwn
  refine (same_bel v2 _ _ w30 K2.out L.out).mono ?_
  rintro e w31 ⟨rfl, b31⟩
  replace HB := Hid.mk' (HB.out.trans (b31.mono HB.out.size))
  replace K2 := Hid.mk' (K2.out.below b31)
  replace K4 := Hid.mk' (K4.out.below b31)
  replace K6 := Hid.mk' (K6.out.below b31)
  replace K8 := Hid.mk' (K8.out.below b31)
  replace L := Hid.mk' (L.out.below b31)
  clear b31
  clear K2
  clear L
  go_wp2_with fail
  refine (KT _).mono ?_
  rintro e w32 ⟨⟨vt, rfl, kt⟩, b32⟩
  replace HB := Hid.mk' (HB.out.trans (b32.mono HB.out.size))
  replace K4 := Hid.mk' (K4.out.below b32)
  replace K6 := Hid.mk' (K6.out.below b32)
  replace K8 := Hid.mk' (K8.out.below b32)
  have Kt := Hid.mk' kt
  clear kt
  clear b32
  go_wp2_with fail
  refine (same_bel v4 _ _ w32 K4.out Kt.out).mono ?_
  rintro e w33 ⟨rfl, b33⟩
  replace HB := Hid.mk' (HB.out.trans (b33.mono HB.out.size))
  replace K4 := Hid.mk' (K4.out.below b33)
  replace K6 := Hid.mk' (K6.out.below b33)
  replace K8 := Hid.mk' (K8.out.below b33)
  replace Kt := Hid.mk' (Kt.out.below b33)
  clear b33
  clear K4
  clear Kt
  go_wp2_with fail
  have bl : Below w33.heap.size w33 (w33.alloc (.cells #[.int .i64 0, .int .i64 14, .int .i64 7, .int .i64 2048] 27)) := (Below.refl _ _).alloc (Nat.le_refl _) _
  replace HB := Hid.mk' (HB.out.trans (bl.mono HB.out.size))
  replace K6 := Hid.mk' (K6.out.below bl)
  replace K8 := Hid.mk' (K8.out.below bl)
  have L : Hid (Ks (w33.alloc (.cells #[.int .i64 0, .int .i64 14, .int .i64 7, .int .i64 2048] 27)) (.slice (some ⟨w33.heap.size, 0, none⟩) 2 2) [(0, 14), (7, 2048)]) := Hid.mk' (ks_of (lkn_lit2 _ _ 0 14 7 2048) (by decide) rfl (by decide))
  obtain ⟨w34, hwn⟩ : ∃ u, Hid ((w33.alloc (.cells #[.int .i64 0, .int .i64 14, .int .i64 7, .int .i64 2048] 27)) = u) := ⟨_, rfl⟩
  rw [hwn.out] at HB K6 K8 L ⊢
  clear bl hwn
  refine (same_bel v6 _ _ w34 K6.out L.out).mono ?_
  rintro e w35 ⟨rfl, b35⟩
  replace HB := Hid.mk' (HB.out.trans (b35.mono HB.out.size))
  replace K6 := Hid.mk' (K6.out.below b35)
  replace K8 := Hid.mk' (K8.out.below b35)
  replace L := Hid.mk' (L.out.below b35)
  clear b35
  clear K6
  clear L
  go_wp2_with fail
  refine (KT _).mono ?_
  rintro e w36 ⟨⟨vt, rfl, kt⟩, b36⟩
  replace HB := Hid.mk' (HB.out.trans (b36.mono HB.out.size))
  replace K8 := Hid.mk' (K8.out.below b36)
  have Kt := Hid.mk' kt
  clear kt
  clear b36
  go_wp2_with fail
  refine (same_bel v8 _ _ w36 K8.out Kt.out).mono ?_
  rintro e w37 ⟨rfl, b37⟩
  replace HB := Hid.mk' (HB.out.trans (b37.mono HB.out.size))
  replace K8 := Hid.mk' (K8.out.below b37)
  replace Kt := Hid.mk' (Kt.out.below b37)
  clear b37
  clear K8
  clear Kt
  go_wp2_with fail
  refine (KT _).mono ?_
  rintro e w38 ⟨⟨vt, rfl, kt⟩, b38⟩
  replace HB := Hid.mk' (HB.out.trans (b38.mono HB.out.size))
  have Kt := Hid.mk' kt
  clear kt
  clear b38
  go_wp2_with fail
  refine (KPT 0 12 _).mono ?_
  rintro e w39 ⟨rfl, b39⟩
  replace HB := Hid.mk' (HB.out.trans (b39.mono HB.out.size))
  replace Kt := Hid.mk' (Kt.out.below b39)
  clear b39
  have KQ := within_any vt two16 (ptV 0 12) (-12) 1 w39 Kt.out (pt_in _ _ (by unfold In64; omega) (by unfold In64; omega)) (by unfold In64; omega) (by unfold In64; omega)
  rw [k_w1] at KQ
  go_wp2_with fail
  refine (KQ).mono ?_
  rintro e w40 ⟨rfl, b40⟩
  replace HB := Hid.mk' (HB.out.trans (b40.mono HB.out.size))
  replace Kt := Hid.mk' (Kt.out.below b40)
  clear KQ
  clear b40
  clear Kt
  go_wp2_with fail
  refine (KT _).mono ?_
  rintro e w41 ⟨⟨vt, rfl, kt⟩, b41⟩
  replace HB := Hid.mk' (HB.out.trans (b41.mono HB.out.size))
  have Kt := Hid.mk' kt
  clear kt
  clear b41
  go_wp2_with fail
  refine (KPT 0 12 _).mono ?_
  rintro e w42 ⟨rfl, b42⟩
  replace HB := Hid.mk' (HB.out.trans (b42.mono HB.out.size))
  replace Kt := Hid.mk' (Kt.out.below b42)
  clear b42
  have KQ := within_any vt two16 (ptV 0 12) (-13) 1 w42 Kt.out (pt_in _ _ (by unfold In64; omega) (by unfold In64; omega)) (by unfold In64; omega) (by unfold In64; omega)
  rw [k_w2] at KQ
  go_wp2_with fail
  refine (KQ).mono ?_
  rintro e w43 ⟨rfl, b43⟩
  replace HB := Hid.mk' (HB.out.trans (b43.mono HB.out.size))
  replace Kt := Hid.mk' (Kt.out.below b43)
  clear KQ
  clear b43
  clear Kt
  go_wp2_with fail
  refine (KT _).mono ?_
  rintro e w44 ⟨⟨vt, rfl, kt⟩, b44⟩
  replace HB := Hid.mk' (HB.out.trans (b44.mono HB.out.size))
  have Kt := Hid.mk' kt
  clear kt
  clear b44
  go_wp2_with fail
  refine (KPT 3 0 _).mono ?_
  rintro e w45 ⟨rfl, b45⟩
  replace HB := Hid.mk' (HB.out.trans (b45.mono HB.out.size))
  replace Kt := Hid.mk' (Kt.out.below b45)
  clear b45
  have KQ := within_any vt two16 (ptV 3 0) 0 1 w45 Kt.out (pt_in _ _ (by unfold In64; omega) (by unfold In64; omega)) (by unfold In64; omega) (by unfold In64; omega)
  rw [k_w3] at KQ
  go_wp2_with fail
  refine (KQ).mono ?_
  rintro e w46 ⟨rfl, b46⟩
  replace HB := Hid.mk' (HB.out.trans (b46.mono HB.out.size))
  replace Kt := Hid.mk' (Kt.out.below b46)
  clear KQ
  clear b46
  clear Kt
  go_wp2_with fail
  refine (KT _).mono ?_
  rintro e w47 ⟨⟨vt, rfl, kt⟩, b47⟩
  replace HB := Hid.mk' (HB.out.trans (b47.mono HB.out.size))
  have Kt := Hid.mk' kt
  clear kt
  clear b47
  go_wp2_with fail
  refine (KPT 0 0 _).mono ?_
  rintro e w48 ⟨rfl, b48⟩
  replace HB := Hid.mk' (HB.out.trans (b48.mono HB.out.size))
  replace Kt := Hid.mk' (Kt.out.below b48)
  clear b48
  have KQ := within_any vt two16 (ptV 0 0) 9223372036854775807 8 w48 Kt.out (pt_in _ _ (by unfold In64; omega) (by unfold In64; omega)) (by unfold In64; omega) (by unfold In64; omega)
  rw [k_w4] at KQ
  go_wp2_with fail
  refine (KQ).mono ?_
  rintro e w49 ⟨rfl, b49⟩
  replace HB := Hid.mk' (HB.out.trans (b49.mono HB.out.size))
  replace Kt := Hid.mk' (Kt.out.below b49)
  clear KQ
  clear b49
  clear Kt
  go_wp2_with fail
  refine (KT _).mono ?_
  rintro e w50 ⟨⟨vt, rfl, kt⟩, b50⟩
  replace HB := Hid.mk' (HB.out.trans (b50.mono HB.out.size))
  have Kt := Hid.mk' kt
  clear kt
  clear b50
  go_wp2_with fail
  refine (KPT 0 0 _).mono ?_
  rintro e w51 ⟨rfl, b51⟩
  replace HB := Hid.mk' (HB.out.trans (b51.mono HB.out.size))
  replace Kt := Hid.mk' (Kt.out.below b51)
  clear b51
  have KQ := within_any vt two16 (ptV 0 0) (-9223372036854775808) 8 w51 Kt.out (pt_in _ _ (by unfold In64; omega) (by unfold In64; omega)) (by unfold In64; omega) (by unfold In64; omega)
  rw [k_w5] at KQ
  go_wp2_with fail
  refine (KQ).mono ?_
  rintro e w52 ⟨rfl, b52⟩
  replace HB := Hid.mk' (HB.out.trans (b52.mono HB.out.size))
  replace Kt := Hid.mk' (Kt.out.below b52)
  clear KQ
  clear b52
  clear Kt
  go_wp2_with fail
  refine (KT _).mono ?_
  rintro e w53 ⟨⟨vt, rfl, kt⟩, b53⟩
  replace HB := Hid.mk' (HB.out.trans (b53.mono HB.out.size))
  have Kt := Hid.mk' kt
  clear kt
  clear b53
  have KQ := within_any vt two16 nuV 0 1 w53 Kt.out nu_in (by unfold In64; omega) (by unfold In64; omega)
  rw [k_w6] at KQ
  go_wp2_with fail
  refine (KQ).mono ?_
  rintro e w54 ⟨rfl, b54⟩
  replace HB := Hid.mk' (HB.out.trans (b54.mono HB.out.size))
  replace Kt := Hid.mk' (Kt.out.below b54)
  clear KQ
  clear b54
  clear Kt
  go_wp2_with fail
  refine (KT _).mono ?_
  rintro e w55 ⟨⟨vt, rfl, kt⟩, b55⟩
  replace HB := Hid.mk' (HB.out.trans (b55.mono HB.out.size))
  have Kt := Hid.mk' kt
  clear kt
  clear b55
  go_wp2_with fail
  refine (KPT 0 2049 _).mono ?_
  rintro e w56 ⟨rfl, b56⟩
  replace HB := Hid.mk' (HB.out.trans (b56.mono HB.out.size))
  replace Kt := Hid.mk' (Kt.out.below b56)
  clear b56
  have KQ := within_any vt two16 (ptV 0 2049) 0 1 w56 Kt.out (pt_in _ _ (by unfold In64; omega) (by unfold In64; omega)) (by unfold In64; omega) (by unfold In64; omega)
  rw [k_w7] at KQ
  go_wp2_with fail
  refine (KQ).mono ?_
  rintro e w57 ⟨rfl, b57⟩
  replace HB := Hid.mk' (HB.out.trans (b57.mono HB.out.size))
  replace Kt := Hid.mk' (Kt.out.below b57)
  clear KQ
  clear b57
  clear Kt
  go_wp2_with fail
  refine (KT _).mono ?_
  rintro e w58 ⟨⟨vt, rfl, kt⟩, b58⟩
  replace HB := Hid.mk' (HB.out.trans (b58.mono HB.out.size))
  have Kt := Hid.mk' kt
  clear kt
  clear b58
  go_wp2_with fail
  refine (KPT 0 0 _).mono ?_
  rintro e w59 ⟨rfl, b59⟩
  replace HB := Hid.mk' (HB.out.trans (b59.mono HB.out.size))
  replace Kt := Hid.mk' (Kt.out.below b59)
  clear b59
  have KQ := within_any vt two16 (ptV 0 0) 0 9 w59 Kt.out (pt_in _ _ (by unfold In64; omega) (by unfold In64; omega)) (by unfold In64; omega) (by unfold In64; omega)
  rw [k_w8] at KQ
  go_wp2_with fail
  refine (KQ).mono ?_
  rintro e w60 ⟨rfl, b60⟩
  replace HB := Hid.mk' (HB.out.trans (b60.mono HB.out.size))
  replace Kt := Hid.mk' (Kt.out.below b60)
  clear KQ
  clear b60
  clear Kt
  go_wp2_with fail
  refine (KT _).mono ?_
  rintro e w61 ⟨⟨vt, rfl, kt⟩, b61⟩
  replace HB := Hid.mk' (HB.out.trans (b61.mono HB.out.size))
  have Kt := Hid.mk' kt
  clear kt
  clear b61
  go_wp2_with fail
  refine (KEN _).mono ?_
  rintro e w62 ⟨rfl, b62⟩
  replace HB := Hid.mk' (HB.out.trans (b62.mono HB.out.size))
  replace Kt := Hid.mk' (Kt.out.below b62)
  clear b62
  have KQ := within_any vt two16 enV 0 0 w62 Kt.out en_in (by unfold In64; omega) (by unfold In64; omega)
  rw [k_w9] at KQ
  go_wp2_with fail
  refine (KQ).mono ?_
  rintro e w63 ⟨rfl, b63⟩
  replace HB := Hid.mk' (HB.out.trans (b63.mono HB.out.size))
  replace Kt := Hid.mk' (Kt.out.below b63)
  clear KQ
  clear b63
  clear Kt
  go_wp2_with fail
  have L0 : Hid (Ow w63 w.heap.size (.slice none 0 0) 0) := Hid.mk' ⟨World.ownsRow_nil _ _ _ _⟩
  go_loopw [36, 37] (fun s r wr => ∃ k : Nat, r = .int .i64 k ∧ k ≤ 16 ∧ Hid (Ow wr w.heap.size s k) ∧ Hid (Below w.heap.size w wr)) (fun _ r _ => ((16 : Int) - iv r).toNat)
  case atStart => exact ⟨0, rfl, by omega, L0, HB⟩
  case round =>
    clear L0 HB
    obtain ⟨k, rfl, hk, hL, hB⟩ := hrel
    by_cases hlt : k < 16
    · obtain ⟨l1, e1, l2, e2, q1, q2, i1, i2, n1, n2, d1, d2⟩ := k_loop k hlt
      have HT := Hid.mk' (zs_take hlt)
      obtain ⟨z, hz⟩ : ∃ z, Hid (zsK.getD k 0 = z) := ⟨_, rfl⟩
      rw [hz.out] at d1 d2 HT
      have HI1 := Hid.mk' i1
      have HI2 := Hid.mk' i2
      have hlk : (k : Int) < 16 := by omega
      have hop0 : (0 : Int) ≤ 29 + (k : Int) / 4 := by omega
      have hop1 : 29 + (k : Int) / 4 ≤ (255 : Int) := by omega
      have KS1 := fun u => shown_any (.slice none 0 0) [] (29 + (k : Int) / 4) ((k : Int) % 2 == 0) (ptV 5 8) enV u (ks_nil _ _ _) hop0 hop1 (pt_in _ _ (by unfold In64; omega) (by unfold In64; omega)) en_in
      have KS2 := fun u => shown_any (.slice none 0 0) [] (29 + (k : Int) / 4) ((k : Int) % 2 == 0) enV (ptV 5 8) u (ks_nil _ _ _) hop0 hop1 en_in (pt_in _ _ (by unfold In64; omega) (by unfold In64; omega))
      simp only [q1, q2] at KS1 KS2
      obtain ⟨iI, hi1, hi2, hi3, hi4⟩ := int_info
      clear q1 q2 i1 i2 hz
      by_cases hsw : 1 < k % 4
      · obtain ⟨rfl, hby⟩ := d2 hsw
        have hsI : (1 : Int) < (k : Int) % 4 := by omega
        clear d1 d2
        go_wp2_with fail
        refine (KPT 5 8 _).mono ?_
        rintro e w101 ⟨rfl, b101⟩
        replace hB := Hid.mk' (hB.out.trans (b101.mono hB.out.size))
        replace hL := Hid.mk' (hL.out.below b101)
        clear b101
        go_wp2_with fail
        refine (KEN _).mono ?_
        rintro e w102 ⟨rfl, b102⟩
        replace hB := Hid.mk' (hB.out.trans (b102.mono hB.out.size))
        replace hL := Hid.mk' (hL.out.below b102)
        clear b102
        go_wp2_with fail
        refine (KS1 w102).mono ?_
        rintro e w103 ⟨ha, b103⟩
        replace hB := Hid.mk' (hB.out.trans (b103.mono hB.out.size))
        replace hL := Hid.mk' (hL.out.below b103)
        clear b103
        obtain ⟨va, rfl, ka⟩ := ans_ks ha HI1.out (by simpa using Nat.le_trans n1 (by omega))
        have Ka := Hid.mk' ka
        clear ha ka
        clear Ka
        go_wp2_with fail
        refine (KEN _).mono ?_
        rintro e w104 ⟨rfl, b104⟩
        replace hB := Hid.mk' (hB.out.trans (b104.mono hB.out.size))
        replace hL := Hid.mk' (hL.out.below b104)
        clear b104
        go_wp2_with fail
        refine (KPT 5 8 _).mono ?_
        rintro e w105 ⟨rfl, b105⟩
        replace hB := Hid.mk' (hB.out.trans (b105.mono hB.out.size))
        replace hL := Hid.mk' (hL.out.below b105)
        clear b105
        go_wp2_with fail
        refine (KS2 w105).mono ?_
        rintro e w106 ⟨ha, b106⟩
        replace hB := Hid.mk' (hB.out.trans (b106.mono hB.out.size))
        replace hL := Hid.mk' (hL.out.below b106)
        clear b106
        obtain ⟨vb, rfl, kb⟩ := ans_ks ha HI2.out (by simpa using Nat.le_trans n2 (by omega))
        have Kb := Hid.mk' kb
        clear ha kb
        have KQ := bytes_any vb l2 5 w106 Kb.out
        rw [hby] at KQ
        go_wp2_with fail
        refine (KQ).mono ?_
        rintro e w107 ⟨rfl, b107⟩
        replace hB := Hid.mk' (hB.out.trans (b107.mono hB.out.size))
        replace hL := Hid.mk' (hL.out.below b107)
        replace Kb := Hid.mk' (Kb.out.below b107)
        clear KQ hby
        clear b107
        clear Kb
        go_wp2_with (at_builtin; refine wpList_append_own2 rfl _ _ 41 rfl w.heap.size 3 iI (.int .i64 0) 1 8 Try.underlying41 hi1 hi2 hi3 hi4 rfl (by decide) _ _ _ rfl (hL.out.own.alloc _) ⟨w107.heap.size, 0, none⟩ 1 1 [.int .i64 z] rfl rfl (by intro j u hj; rw [addr_add, Nat.zero_add, World.cell?_alloc_new, List.getElem?_toArray]; exact hj) (by intro u hu; simp at hu; subst hu; rfl) (by unfold maxLen; omega) (by omega) (by have := hB.out.size; simp; omega) ?_; intro v' w5 hown5 hgr5; intro hwh; have HO5 := Hid.mk' hown5; have HG5 := Hid.mk' hgr5; clear hown5 hgr5 hwh)
        have L5 : Hid (Ow w5 w.heap.size v' (k + 1)) := Hid.mk' ⟨by rw [HT.out]; exact HO5.out⟩
        have B5 : Hid (Below w.heap.size w w5) := Hid.mk' ((hB.out.alloc hB.out.size _).grown HG5.out (by have := hB.out.size; simp; omega) (fun j hj => own_base hL.out.own j hj))
        clear HO5 HG5
        go_roundw
        case rel => exact ⟨k + 1, by go_num, hlt, L5, B5⟩
        case measure => simp [iv]; omega
      · obtain ⟨rfl, hby⟩ := d1 hsw
        have hsI : ¬ (1 : Int) < (k : Int) % 4 := by omega
        clear d1 d2
        go_wp2_with fail
        refine (KPT 5 8 _).mono ?_
        rintro e w101 ⟨rfl, b101⟩
        replace hB := Hid.mk' (hB.out.trans (b101.mono hB.out.size))
        replace hL := Hid.mk' (hL.out.below b101)
        clear b101
        go_wp2_with fail
        refine (KEN _).mono ?_
        rintro e w102 ⟨rfl, b102⟩
        replace hB := Hid.mk' (hB.out.trans (b102.mono hB.out.size))
        replace hL := Hid.mk' (hL.out.below b102)
        clear b102
        go_wp2_with fail
        refine (KS1 w102).mono ?_
        rintro e w103 ⟨ha, b103⟩
        replace hB := Hid.mk' (hB.out.trans (b103.mono hB.out.size))
        replace hL := Hid.mk' (hL.out.below b103)
        clear b103
        obtain ⟨va, rfl, ka⟩ := ans_ks ha HI1.out (by simpa using Nat.le_trans n1 (by omega))
        have Ka := Hid.mk' ka
        clear ha ka
        have KQ := bytes_any va l1 5 w103 Ka.out
        rw [hby] at KQ
        go_wp2_with fail
        refine (KQ).mono ?_
        rintro e w104 ⟨rfl, b104⟩
        replace hB := Hid.mk' (hB.out.trans (b104.mono hB.out.size))
        replace hL := Hid.mk' (hL.out.below b104)
        replace Ka := Hid.mk' (Ka.out.below b104)
        clear KQ hby
        clear b104
        clear Ka
        go_wp2_with (at_builtin; refine wpList_append_own2 rfl _ _ 41 rfl w.heap.size 3 iI (.int .i64 0) 1 8 Try.underlying41 hi1 hi2 hi3 hi4 rfl (by decide) _ _ _ rfl (hL.out.own.alloc _) ⟨w104.heap.size, 0, none⟩ 1 1 [.int .i64 z] rfl rfl (by intro j u hj; rw [addr_add, Nat.zero_add, World.cell?_alloc_new, List.getElem?_toArray]; exact hj) (by intro u hu; simp at hu; subst hu; rfl) (by unfold maxLen; omega) (by omega) (by have := hB.out.size; simp; omega) ?_; intro v' w5 hown5 hgr5; intro hwh; have HO5 := Hid.mk' hown5; have HG5 := Hid.mk' hgr5; clear hown5 hgr5 hwh)
        have L5 : Hid (Ow w5 w.heap.size v' (k + 1)) := Hid.mk' ⟨by rw [HT.out]; exact HO5.out⟩
        have B5 : Hid (Below w.heap.size w w5) := Hid.mk' ((hB.out.alloc hB.out.size _).grown HG5.out (by have := hB.out.size; simp; omega) (fun j hj => own_base hL.out.own j hj))
        clear HO5 HG5
        go_roundw
        case rel => exact ⟨k + 1, by go_num, hlt, L5, B5⟩
        case measure => simp [iv]; omega
    · have hlk : ¬ (k : Int) < 16 := by omega
      obtain rfl : k = 16 := by omega
      obtain ⟨g, c, hv, hcs⟩ := own_ints (zs := zsK) hL.out.own rfl (by omega)
      subst hv
      have hgl := (hL.out.own.lt g rfl).2
      have HC := Hid.mk' hcs
      clear hcs hL
      go_wp2_with fail
      have bl : Below wr.heap.size wr (wr.alloc (.cells #[.int .i64 9, .int .i64 0, .int .i64 0, .int .i64 8, .int .i64 8, .int .i64 0, .int .i64 0, .int .i64 9, .int .i64 0, .int .i64 8, .int .i64 9, .int .i64 0, .int .i64 0, .int .i64 9, .int .i64 8, .int .i64 0] 3)) := (Below.refl _ _).alloc (Nat.le_refl _) _
      replace hB := Hid.mk' (hB.out.trans (bl.mono hB.out.size))
      have E1 : Hid (∀ k, k < 16 → (wr.alloc (.cells #[.int .i64 9, .int .i64 0, .int .i64 0, .int .i64 8, .int .i64 8, .int .i64 0, .int .i64 0, .int .i64 9, .int .i64 0, .int .i64 8, .int .i64 9, .int .i64 0, .int .i64 0, .int .i64 9, .int .i64 8, .int .i64 0] 3)).cell? ⟨g, 0 + k, none⟩ = some (.int .i64 (zsK.getD k 0))) := Hid.mk' (fun k hk => (bl.cell (p := ⟨g, 0 + k, none⟩) hgl).trans (HC.out k hk))
      have E2 : Hid (∀ k, k < 16 → (wr.alloc (.cells #[.int .i64 9, .int .i64 0, .int .i64 0, .int .i64 8, .int .i64 8, .int .i64 0, .int .i64 0, .int .i64 9, .int .i64 0, .int .i64 8, .int .i64 9, .int .i64 0, .int .i64 0, .int .i64 9, .int .i64 8, .int .i64 0] 3)).cell? ⟨wr.heap.size, 0 + k, none⟩ = some (.int .i64 (zsK.getD k 0))) := Hid.mk' (lit_ints wr zsK 3)
      obtain ⟨w101, hwn⟩ : ∃ u, Hid ((wr.alloc (.cells #[.int .i64 9, .int .i64 0, .int .i64 0, .int .i64 8, .int .i64 8, .int .i64 0, .int .i64 0, .int .i64 9, .int .i64 0, .int .i64 8, .int .i64 9, .int .i64 0, .int .i64 0, .int .i64 9, .int .i64 8, .int .i64 0] 3)) = u) := ⟨_, rfl⟩
      rw [hwn.out] at hB E1 E2 ⊢
      clear bl hwn HC
      refine (eqi_at _ g 0 c wr.heap.size 0 16 16 zsK (by omega) E1.out E2.out).mono ?_
      rintro e w102 ⟨rfl, b102⟩
      replace hB := Hid.mk' (hB.out.trans (b102.mono hB.out.size))
      clear E1 E2
      clear b102
      go_wp2_with fail
      refine (KPT 0 0 _).mono ?_
      rintro e w103 ⟨rfl, b103⟩
      replace hB := Hid.mk' (hB.out.trans (b103.mono hB.out.size))
      clear b103
      go_wp2_with fail
      refine (KEN _).mono ?_
      rintro e w104 ⟨rfl, b104⟩
      replace hB := Hid.mk' (hB.out.trans (b104.mono hB.out.size))
      clear b104
      have KQ := shown_any (.slice none 0 0) [] 27 true (ptV 0 0) enV w104 (ks_nil _ _ _) (by omega) (by omega) (pt_in _ _ (by unfold In64; omega) (by unfold In64; omega)) en_in
      rw [k_s1] at KQ
      go_wp2_with fail
      refine (KQ).mono ?_
      rintro e w105 ⟨ha, b105⟩
      replace hB := Hid.mk' (hB.out.trans (b105.mono hB.out.size))
      clear b105
      obtain ⟨vs1, rfl, ks1⟩ := ans_ks ha (inL_of (by decide)) (by decide)
      clear ha ks1 KQ
      go_wp2_with fail
      refine (KPT 0 0 _).mono ?_
      rintro e w106 ⟨rfl, b106⟩
      replace hB := Hid.mk' (hB.out.trans (b106.mono hB.out.size))
      clear b106
      go_wp2_with fail
      refine (KPT 0 0 _).mono ?_
      rintro e w107 ⟨rfl, b107⟩
      replace hB := Hid.mk' (hB.out.trans (b107.mono hB.out.size))
      clear b107
      have KQ := shown_any (.slice none 0 0) [] 29 true (ptV 0 0) (ptV 0 0) w107 (ks_nil _ _ _) (by omega) (by omega) (pt_in _ _ (by unfold In64; omega) (by unfold In64; omega)) (pt_in _ _ (by unfold In64; omega) (by unfold In64; omega))
      rw [k_s2] at KQ
      go_wp2_with fail
      refine (KQ).mono ?_
      rintro e w108 ⟨ha, b108⟩
      replace hB := Hid.mk' (hB.out.trans (b108.mono hB.out.size))
      clear b108
      obtain ⟨vs2, rfl, ks2⟩ := ans_ks ha (inL_of (by decide)) (by decide)
      clear ha ks2 KQ
      go_wp2_with fail
      refine (KEN _).mono ?_
      rintro e w109 ⟨rfl, b109⟩
      replace hB := Hid.mk' (hB.out.trans (b109.mono hB.out.size))
      clear b109
      go_wp2_with fail
      refine (KEN _).mono ?_
      rintro e w110 ⟨rfl, b110⟩
      replace hB := Hid.mk' (hB.out.trans (b110.mono hB.out.size))
      clear b110
      have KQ := shown_any (.slice none 0 0) [] 29 true enV enV w110 (ks_nil _ _ _) (by omega) (by omega) en_in en_in
      rw [k_s3] at KQ
      go_wp2_with fail
      refine (KQ).mono ?_
      rintro e w111 ⟨ha, b111⟩
      replace hB := Hid.mk' (hB.out.trans (b111.mono hB.out.size))
      clear b111
      obtain ⟨vs3, rfl, ks3⟩ := ans_ks ha (inL_of (by decide)) (by decide)
      clear ha ks3 KQ
      go_wp2_with fail
      refine (KPT 0 0 _).mono ?_
      rintro e w112 ⟨rfl, b112⟩
      replace hB := Hid.mk' (hB.out.trans (b112.mono hB.out.size))
      clear b112
      have KQ := shown_any (.slice none 0 0) [] 29 true (ptV 0 0) ebV w112 (ks_nil _ _ _) (by omega) (by omega) (pt_in _ _ (by unfold In64; omega) (by unfold In64; omega)) eb_in
      rw [k_s4] at KQ
      go_wp2_with fail
      refine (KQ).mono ?_
      rintro e w113 ⟨ha, b113⟩
      replace hB := Hid.mk' (hB.out.trans (b113.mono hB.out.size))
      clear b113
      obtain ⟨vs4, rfl, ks4⟩ := ans_ks ha (inL_of (by decide)) (by decide)
      clear ha ks4 KQ
      go_wp2_with fail
      refine (KPT 0 2048 _).mono ?_
      rintro e w114 ⟨rfl, b114⟩
      replace hB := Hid.mk' (hB.out.trans (b114.mono hB.out.size))
      clear b114
      go_wp2_with fail
      refine (KEN _).mono ?_
      rintro e w115 ⟨rfl, b115⟩
      replace hB := Hid.mk' (hB.out.trans (b115.mono hB.out.size))
      clear b115
      have KQ := shown_any (.slice none 0 0) [] 29 true (ptV 0 2048) enV w115 (ks_nil _ _ _) (by omega) (by omega) (pt_in _ _ (by unfold In64; omega) (by unfold In64; omega)) en_in
      rw [k_s5] at KQ
      go_wp2_with fail
      refine (KQ).mono ?_
      rintro e w116 ⟨ha, b116⟩
      replace hB := Hid.mk' (hB.out.trans (b116.mono hB.out.size))
      clear b116
      obtain ⟨vs5, rfl, ks5⟩ := ans_ks ha (inL_of (by decide)) (by decide)
      have Ks5 := Hid.mk' ks5
      clear ha ks5 KQ
      go_wp2_with fail
      refine (works_any w116).mono ?_
      rintro e w117 ⟨rfl, b117⟩
      replace hB := Hid.mk' (hB.out.trans (b117.mono hB.out.size))
      replace Ks5 := Hid.mk' (Ks5.out.below b117)
      clear b117
      have KQ := bytes_any vs5 _ 0 w117 Ks5.out
      rw [show byN [(0, 2048)] 0 = 2048 from rfl] at KQ
      go_wp2_with fail
      refine (KQ).mono ?_
      rintro e w118 ⟨rfl, b118⟩
      replace hB := Hid.mk' (hB.out.trans (b118.mono hB.out.size))
      replace Ks5 := Hid.mk' (Ks5.out.below b118)
      clear KQ
      clear b118
      go_wp2_with fail
      go_ret
      exact ⟨rfl, hB.out⟩
end Go.Proofs.Ytagnaefpkgekmab
