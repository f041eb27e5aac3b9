/- The document's left, whatever comparison; its Cut. -/
import Derived.Test.YtpmbdnmiokkknaaDv
import Derived.Test.YtpmbdnmiokkknaaDw
import Derived.Test.YtpmbdnmiokkknaaDs
import Derived.Test.YtpmbdnmiokkknaaDm
namespace Go.Proofs.Ytpmbdnmiokkknaa
open Go.ChangeShapes Go.WideShapes Go.ChangeAt Go.RowKit
set_option maxRecDepth 10000
set_option linter.unusedVariables false

/-- What left tells. -/
def LeftIs (c r : Int) (so : Bool) (al ah bl bh : Int) : Prop := ∀ w : World, Calls Try.prog 44 #[.int .u8 c, spV (al, ah), spV (bl, bh)] w fun e w' =>
  (∃ P Q : Int × Int, e = .returned (.tuple #[spV P, spV Q, .bool (cuC r so al ah bl bh)]) ∧ (cuC r so al ah bl bh = true → P = cuX r so al ah bl bh ∧ Q = cuY r so al ah bl bh)) ∧ Below w.heap.size w w'

theorem is_27 (al ah bl bh : Int) : LeftIs 27 1 true al ah bl bh := fun w =>
  (left_27 al ah bl bh w).mono fun e w' ⟨he, hb⟩ => ⟨⟨_, _, he, fun _ => ⟨rfl, rfl⟩⟩, hb⟩
theorem is_28 (al ah bl bh : Int) (h : U4 al ah bl bh) (ha : al ≤ ah) (hb : bl ≤ bh) : LeftIs 28 1 false al ah bl bh := fun w =>
  (left_28 al ah bl bh w h ha hb).mono fun e w' ⟨he, hb⟩ => ⟨⟨_, _, he, fun _ => ⟨rfl, rfl⟩⟩, hb⟩
theorem is_29 (al ah bl bh : Int) (h : U4 al ah bl bh) : LeftIs 29 2 true al ah bl bh := fun w =>
  (left_29 al ah bl bh w h).mono fun e w' ⟨⟨P, Q, he, hk⟩, hb⟩ => ⟨⟨P, Q, he, fun k => by
    have k' : odC 1 al bh = true := k
    have e1 : cuX 2 true al ah bl bh = if odC 1 al bh = true then odX 1 al ah bl bh else (0, 0) := rfl
    have e2 : cuY 2 true al ah bl bh = if odC 1 al bh = true then odY 1 al ah bl bh else (0, 0) := rfl
    rw [e1, e2, if_pos k', if_pos k']; exact hk k'⟩, hb⟩
theorem is_30 (al ah bl bh : Int) (h : U4 al ah bl bh) : LeftIs 30 3 true al ah bl bh := fun w =>
  (left_30 al ah bl bh w h).mono fun e w' ⟨⟨P, Q, he, hk⟩, hb⟩ => ⟨⟨P, Q, he, fun k => by
    have k' : odC 0 al bh = true := k
    have e1 : cuX 3 true al ah bl bh = if odC 0 al bh = true then odX 0 al ah bl bh else (0, 0) := rfl
    have e2 : cuY 3 true al ah bl bh = if odC 0 al bh = true then odY 0 al ah bl bh else (0, 0) := rfl
    rw [e1, e2, if_pos k', if_pos k']; exact hk k'⟩, hb⟩
theorem is_31 (al ah bl bh : Int) (h : U4 al ah bl bh) : LeftIs 31 3 false al ah bl bh := fun w =>
  (left_31 al ah bl bh w h).mono fun e w' ⟨⟨P, Q, he, hk⟩, hb⟩ => ⟨⟨P, Q, he, fun k => by
    have k' : odC 1 bl ah = true := k
    have e1 : cuX 3 false al ah bl bh = if odC 1 bl ah = true then odY 1 bl bh al ah else (0, 0) := rfl
    have e2 : cuY 3 false al ah bl bh = if odC 1 bl ah = true then odX 1 bl bh al ah else (0, 0) := rfl
    rw [e1, e2, if_pos k', if_pos k']; exact hk k'⟩, hb⟩
theorem is_32 (al ah bl bh : Int) (h : U4 al ah bl bh) : LeftIs 32 2 false al ah bl bh := fun w =>
  (left_32 al ah bl bh w h).mono fun e w' ⟨⟨P, Q, he, hk⟩, hb⟩ => ⟨⟨P, Q, he, fun k => by
    have k' : odC 0 bl ah = true := k
    have e1 : cuX 2 false al ah bl bh = if odC 0 bl ah = true then odY 0 bl bh al ah else (0, 0) := rfl
    have e2 : cuY 2 false al ah bl bh = if odC 0 bl ah = true then odX 0 bl bh al ah else (0, 0) := rfl
    rw [e1, e2, if_pos k', if_pos k']; exact hk k'⟩, hb⟩

theorem left_any (o : Int) (y : Bool) (al ah bl bh : Int) (h : U4 al ah bl bh) (ha : al ≤ ah) (hb : bl ≤ bh) (ho : 23 ≤ o ∧ o ≤ 32) : LeftIs (tnC o y) (toR o) (toB o y) al ah bl bh := by
  rcases cm_cases ho with rfl | rfl | rfl | rfl | rfl | rfl | rfl | rfl | rfl | rfl <;> cases y
  all_goals first | exact is_27 al ah bl bh | exact is_28 al ah bl bh h ha hb | exact is_29 al ah bl bh h | exact is_30 al ah bl bh h | exact is_31 al ah bl bh h | exact is_32 al ah bl bh h

theorem Bxs.far {w u : World} {L : List (Int × Int)} (h : Bxs w u L) (g : Nat) (x y : Int) (hg : w.heap.size + L.length ≤ g) : Bxs w ((u.setCell ⟨g, 0, none⟩ (.int .u64 x)).setCell ⟨g, 1, none⟩ (.int .u64 y)) L :=
  ⟨below_set2 h.old (by omega) _ _, fun k p hp => ((h.box k p hp).other 0 _ (by have := (List.getElem?_eq_some_iff.1 hp).1; omega)).other 1 _ (by have := (List.getElem?_eq_some_iff.1 hp).1; omega)⟩

set_option maxHeartbeats 4000000 in
theorem rcut_in (o : Int) (y : Bool) (al ah bl bh : Int) (w : World) (h : U4 al ah bl bh) (ho : 23 ≤ o ∧ o ≤ 32) (h1 : al ≤ ah) (h2 : bl ≤ bh) :
    Calls Try.prog 25 #[.int .u8 o, .bool y, spV (al, ah), spV (bl, bh)] w fun e w' =>
      e = .returned (.tuple #[spV (ctX o y al ah bl bh), spV (ctY o y al ah bl bh), .bool (ctC o y al ah bl bh), .int .i64 (ctE o al ah bl bh)]) ∧ Below w.heap.size w w' := by
  have X4 := Hid.mk' (((((BxE.nil w).add al ah).add bl bh).add 0 0).add 0 0).out
  have HB : Hid (∀ w1, Below _ _ w1 → Bxs w w1 [(al, ah), (bl, bh), (0, 0), (0, 0)]) := Hid.mk' (fun w1 b => X4.out.below b)
  have HK : Hid (∀ u, Calls Try.prog 43 #[.int .u8 o] u fun e w' => e = .returned (.bool true) ∧ u = w') := Hid.mk' (fun u => by
    have := compares_any o u
    rw [show (decide (23 ≤ o) && decide (o ≤ 32)) = true by simp [ho]] at this
    exact this)
  have E : ctE o al ah bl bh = cbS al ah bl bh := by unfold ctE; rw [if_pos ho]
  have e1 := ckS_0 h1
  have e2 := ckS_0 h2
  have hb : cbS al ah bl bh = 0 := by unfold cbS; rw [if_pos ⟨h1, h2⟩]
  have C : ctC o y al ah bl bh = cuC (toR o) (toB o y) al ah bl bh := by unfold ctC; rw [E, hb]; rfl
  have HT := Hid.mk' (fun u => turn_any o y u ho)
  have HL := Hid.mk' (fun u => left_any o y al ah bl bh h h1 h2 ho u)
  unfold ctX ctY
  rw [C, E, hb]
  clear C E ho h1 h2 h X4 hb
  generalize cuC (toR o) (toB o y) al ah bl bh = C at *
  generalize cuX (toR o) (toB o y) al ah bl bh = PX at *
  generalize cuY (toR o) (toB o y) al ah bl bh = QY at *
  generalize tnC o y = c at *
  go_enter Try.func25, Try.ntmps25
  go_wp2_with fail
  refine (HK.out _).mono ?_
  rintro e w1 ⟨rfl, rfl⟩
  go_wp2_with fail
  refine (rcheck_any _ _ _).mono ?_
  rintro e w1 ⟨rfl, b1⟩
  rw [e1]
  have X := HB.out w1 b1
  obtain ⟨c0, c1, d0, d1, -⟩ := four X
  have X := Hid.mk' X
  clear b1
  go_wp2_with fail
  refine (rcheck_any _ _ _).mono ?_
  rintro e w2 ⟨rfl, b2⟩
  rw [e2]
  have X := Hid.mk' (X.out.below b2)
  clear b2 c0 c1 d0 d1 HB e1 e2
  go_wp2_with fail
  go_cut [12, 13, 14] from 15 (fun s12 s13 s14 wc => ∃ (p q : Nat) (P1 P2 Q1 Q2 : Int), s12 = .pointer (some ⟨p, 0, none⟩) ∧ s13 = .pointer (some ⟨q, 0, none⟩) ∧ s14 = .bool C ∧ Hid (Bxs w wc [(al, ah), (bl, bh), (0, 0), (0, 0)] ∧ Box wc p P1 P2 ∧ Box wc q Q1 Q2 ∧ w.heap.size + 1 + 1 + 1 < p ∧ w.heap.size + 1 + 1 + 1 < q ∧ (C = true → (P1, P2) = PX ∧ (Q1, Q2) = QY)))
  case first =>
    as_aux_lemma =>
      refine wp_region_held_drew (S := fun u => Bxs w u [(al, ah), (bl, bh), (0, 0), (0, 0)]) (by kernel_rfl) (X.out.below ((Below.refl w2.heap.size w2).drew)) (fun hHeld => ?_)
      change wpAnyH _ _ _ _ _ 15 #[false, false, false, false, false, false, false, false, false, false, false, false, false, false, false] _ _
      obtain ⟨v0, hv0⟩ : ∃ v0, v0 = w2.drew := ⟨_, rfl⟩
      change wpAnyH _ _ _ _ _ _ _ _ w2.drew
      rw [← hv0] at hHeld ⊢
      have Xv0 := Hid.mk' hHeld
      clear hv0 X
      refine held_take 0 31 (.int .u8 o) rfl rfl (by kernel_rfl) (by kernel_rfl) (by kernel_rfl) (fun _ _ _ h => h) (Or.inl ⟨by rfl, fun u hu => ?_⟩) Xv0.out ?_
      · go_simp
      simp only [Act.put, List.setIfInBounds_toArray, List.set_cons_zero, List.set_cons_succ]
      refine held_take 1 32 (.bool y) rfl rfl (by kernel_rfl) (by kernel_rfl) (by kernel_rfl) (fun _ _ _ h => h) (Or.inl ⟨by rfl, fun u hu => ?_⟩) Xv0.out ?_
      · go_simp
      simp only [Act.put, List.setIfInBounds_toArray, List.set_cons_zero, List.set_cons_succ]
      refine held_take 3 34 (.agg #[.int .u64 al, .int .u64 ah]) rfl rfl (by kernel_rfl) (by kernel_rfl) (by kernel_rfl) (fun _ _ _ h => h) (Or.inl ⟨by rfl, fun u hu => ?_⟩) Xv0.out ?_
      · obtain ⟨q0, q1, q2, q3, -⟩ := four hu
        go_simp
      simp only [Act.put, List.setIfInBounds_toArray, List.set_cons_zero, List.set_cons_succ]
      refine held_take 4 35 (.agg #[.int .u64 bl, .int .u64 bh]) rfl rfl (by kernel_rfl) (by kernel_rfl) (by kernel_rfl) (fun _ _ _ h => h) (Or.inl ⟨by rfl, fun u hu => ?_⟩) Xv0.out ?_
      · obtain ⟨q0, q1, q2, q3, -⟩ := four hu
        go_simp
      simp only [Act.put, List.setIfInBounds_toArray, List.set_cons_zero, List.set_cons_succ]
      refine wpAnyH_ready (rs := [2, 10, 11]) (by kernel_rfl) (by simp) (AllReadyH.cons rfl (fun K hK => ?_) (AllReadyH.cons rfl (fun K hK => ?_) (AllReadyH.cons rfl (fun K hK => ?_) (AllReadyH.nil))))
      · go_simp
        go_wp2_with (first | (go_at_call 45; refine (HT.out v0).mono ?_; rintro e v1 ⟨rfl, hb⟩))
        have Xv1 := Hid.mk' (Xv0.out.below hb)
        clear hb
        refine hK.out _ _ Xv1.out (fun _ => ?_)
        clear hK K
        try simp only [List.setIfInBounds_toArray, List.set_cons_zero, List.set_cons_succ]
        refine wpAnyH_ready (rs := [5, 10, 11]) (by kernel_rfl) (by simp) (AllReadyH.cons rfl (fun K hK => ?_) (AllReadyH.cons rfl (fun K hK => ?_) (AllReadyH.cons rfl (fun K hK => ?_) (AllReadyH.nil))))
        · go_simp
          go_wp2_with (first | (go_at_call 44; refine (HL.out v1).mono ?_; rintro e v2 ⟨⟨⟨P1, P2⟩, ⟨Q1, Q2⟩, rfl, hres⟩, hb⟩))
          have Xv2 := Hid.mk' (Xv1.out.below hb)
          have HR := Hid.mk' hres
          clear hb hres
          refine hK.out _ _ Xv2.out (fun _ => ?_)
          clear hK K
          try simp only [List.setIfInBounds_toArray, List.set_cons_zero, List.set_cons_succ]
          refine held_take 6 30 (.tuple #[spV (P1, P2), spV (Q1, Q2), .bool C]) rfl rfl (by kernel_rfl) (by kernel_rfl) (by kernel_rfl) (fun _ _ _ h => h) (Or.inl ⟨by rfl, fun u hu => ?_⟩) Xv2.out ?_
          · go_simp
          simp only [Act.put, List.setIfInBounds_toArray, List.set_cons_zero, List.set_cons_succ]
          refine held_take 7 37 (spV (P1, P2)) rfl rfl (by kernel_rfl) (by kernel_rfl) (by kernel_rfl) (fun _ _ _ h => h) (Or.inl ⟨by rfl, fun u hu => ?_⟩) Xv2.out ?_
          · go_simp
          simp only [Act.put, List.setIfInBounds_toArray, List.set_cons_zero, List.set_cons_succ]
          refine held_take 8 38 (spV (Q1, Q2)) rfl rfl (by kernel_rfl) (by kernel_rfl) (by kernel_rfl) (fun _ _ _ h => h) (Or.inl ⟨by rfl, fun u hu => ?_⟩) Xv2.out ?_
          · go_simp
          simp only [Act.put, List.setIfInBounds_toArray, List.set_cons_zero, List.set_cons_succ]
          refine held_take 9 39 (.bool C) rfl rfl (by kernel_rfl) (by kernel_rfl) (by kernel_rfl) (fun _ _ _ h => h) (Or.inl ⟨by rfl, fun u hu => ?_⟩) Xv2.out ?_
          · go_simp
          simp only [Act.put, List.setIfInBounds_toArray, List.set_cons_zero, List.set_cons_succ]
          refine wpAnyH_ready (rs := [10, 11]) (by kernel_rfl) (by simp) (AllReadyH.cons rfl (fun K hK => ?_) (AllReadyH.cons rfl (fun K hK => ?_) (AllReadyH.nil)))
          · go_simp
            have Xv3 := Hid.mk' (Xv2.out.below (bl1 v2 (spO 0 0)))
            refine hK.out _ _ Xv3.out (fun _ => ?_)
            clear hK K
            try simp only [List.setIfInBounds_toArray, List.set_cons_zero, List.set_cons_succ]
            obtain ⟨p3, Hp3⟩ : ∃ p3, p3 = v2.heap.size := ⟨_, rfl⟩
            have Bp3v3 : Hid (Box (v2.alloc (spO 0 0)) p3 0 0) := Hid.mk' (Box.new v2 0 0 Hp3)
            have Gp3 : Hid (w.heap.size + 1 + 1 + 1 < p3) := Hid.mk' (by rw [Hp3]; exact (Xv2.out.at 3 (p := (0, 0)) rfl).lt)
            rw [← Hp3]
            obtain ⟨v3, Hv3⟩ : ∃ v3, v3 = v2.alloc (spO 0 0) := ⟨_, rfl⟩
            change wpAnyH _ _ _ _ _ _ _ _ (v2.alloc (spO 0 0))
            rw [← Hv3] at Xv3 Bp3v3 ⊢
            clear Hv3 Hp3
            refine wpAnyH_ready (rs := [11]) (by kernel_rfl) (by simp) (AllReadyH.cons rfl (fun K hK => ?_) (AllReadyH.nil))
            · go_simp
              have Xv4 := Hid.mk' (Xv3.out.below (bl1 v3 (spO 0 0)))
              refine hK.out _ _ Xv4.out (fun _ => ?_)
              clear hK K
              try simp only [List.setIfInBounds_toArray, List.set_cons_zero, List.set_cons_succ]
              obtain ⟨p4, Hp4⟩ : ∃ p4, p4 = v3.heap.size := ⟨_, rfl⟩
              have Bp4v4 : Hid (Box (v3.alloc (spO 0 0)) p4 0 0) := Hid.mk' (Box.new v3 0 0 Hp4)
              have Gp4 : Hid (w.heap.size + 1 + 1 + 1 < p4) := Hid.mk' (by rw [Hp4]; exact (Xv3.out.at 3 (p := (0, 0)) rfl).lt)
              have NE : Hid (p3 < p4) := Hid.mk' (by rw [Hp4]; exact Bp3v3.out.lt)
              have Bp3v4 := Hid.mk' (Bp3v3.out.below (bl1 v3 (spO 0 0)))
              rw [← Hp4]
              obtain ⟨v4, Hv4⟩ : ∃ v4, v4 = v3.alloc (spO 0 0) := ⟨_, rfl⟩
              change wpAnyH _ _ _ _ _ _ _ _ (v3.alloc (spO 0 0))
              rw [← Hv4] at Xv4 Bp4v4 Bp3v4 ⊢
              clear Hv4 Hp4
              have gA := Gp3.out
              have gB := Gp4.out
              have ne := NE.out
              have a0 := Bp3v4.out.c0
              have a1 := Bp3v4.out.c1
              have a2 := Bp3v4.out.fz 0
              have a3 := Bp3v4.out.fz 1
              have X1 := Hid.mk' (Xv4.out.far p3 P1 P2 (by simp only [List.length_cons, List.length_nil]; omega))
              have A1 := Hid.mk' (Bp3v4.out.set P1 P2)
              have B1 := Hid.mk' ((Bp4v4.out.other 0 (k := p3) (.int .u64 P1) (by omega)).other 1 (k := p3) (.int .u64 P2) (by omega))
              have X2 := Hid.mk' (X1.out.far p4 Q1 Q2 (by simp only [List.length_cons, List.length_nil]; omega))
              have A2 := Hid.mk' ((A1.out.other 0 (k := p4) (.int .u64 Q1) (by omega)).other 1 (k := p4) (.int .u64 Q2) (by omega))
              have B2 := Hid.mk' (B1.out.set Q1 Q2)
              clear ne
              refine held_one 12 (by kernel_rfl) rfl (fun K hK => ?_)
              go_simp
              refine hK.out _ _ X1.out (fun _ => ?_)
              clear hK K
              try simp only [List.setIfInBounds_toArray, List.set_cons_zero, List.set_cons_succ]
              have b0 := B1.out.c0
              have b1 := B1.out.c1
              have b2 := B1.out.fz 0
              have b3 := B1.out.fz 1
              refine held_one 13 (by kernel_rfl) rfl (fun K hK => ?_)
              go_simp
              refine hK.out _ _ X2.out (fun _ => ?_)
              clear hK K
              try simp only [List.setIfInBounds_toArray, List.set_cons_zero, List.set_cons_succ]
              refine held_take 14 14 (.bool C) rfl rfl (by kernel_rfl) (by kernel_rfl) (by kernel_rfl) (fun _ _ _ h => h) (Or.inl ⟨by rfl, fun u hu => ?_⟩) X2.out ?_
              · go_simp
              simp only [Act.put, List.setIfInBounds_toArray, List.set_cons_zero, List.set_cons_succ]
              refine wpAnyH_done (by kernel_rfl) ?_ _
              go_wp2_with fail
              go_meet
              exact ⟨p3, p4, P1, P2, Q1, Q2, rfl, rfl, rfl, Hid.mk' ⟨X2.out, A2.out, B2.out, gA, gB, HR.out⟩⟩
          · go_simp
            have Xv5 := Hid.mk' (Xv2.out.below (bl1 v2 (spO 0 0)))
            refine hK.out _ _ Xv5.out (fun _ => ?_)
            clear hK K
            try simp only [List.setIfInBounds_toArray, List.set_cons_zero, List.set_cons_succ]
            obtain ⟨p5, Hp5⟩ : ∃ p5, p5 = v2.heap.size := ⟨_, rfl⟩
            have Bp5v5 : Hid (Box (v2.alloc (spO 0 0)) p5 0 0) := Hid.mk' (Box.new v2 0 0 Hp5)
            have Gp5 : Hid (w.heap.size + 1 + 1 + 1 < p5) := Hid.mk' (by rw [Hp5]; exact (Xv2.out.at 3 (p := (0, 0)) rfl).lt)
            rw [← Hp5]
            obtain ⟨v5, Hv5⟩ : ∃ v5, v5 = v2.alloc (spO 0 0) := ⟨_, rfl⟩
            change wpAnyH _ _ _ _ _ _ _ _ (v2.alloc (spO 0 0))
            rw [← Hv5] at Xv5 Bp5v5 ⊢
            clear Hv5 Hp5
            refine wpAnyH_ready (rs := [10]) (by kernel_rfl) (by simp) (AllReadyH.cons rfl (fun K hK => ?_) (AllReadyH.nil))
            · go_simp
              have Xv6 := Hid.mk' (Xv5.out.below (bl1 v5 (spO 0 0)))
              refine hK.out _ _ Xv6.out (fun _ => ?_)
              clear hK K
              try simp only [List.setIfInBounds_toArray, List.set_cons_zero, List.set_cons_succ]
              obtain ⟨p6, Hp6⟩ : ∃ p6, p6 = v5.heap.size := ⟨_, rfl⟩
              have Bp6v6 : Hid (Box (v5.alloc (spO 0 0)) p6 0 0) := Hid.mk' (Box.new v5 0 0 Hp6)
              have Gp6 : Hid (w.heap.size + 1 + 1 + 1 < p6) := Hid.mk' (by rw [Hp6]; exact (Xv5.out.at 3 (p := (0, 0)) rfl).lt)
              have NE : Hid (p5 < p6) := Hid.mk' (by rw [Hp6]; exact Bp5v5.out.lt)
              have Bp5v6 := Hid.mk' (Bp5v5.out.below (bl1 v5 (spO 0 0)))
              rw [← Hp6]
              obtain ⟨v6, Hv6⟩ : ∃ v6, v6 = v5.alloc (spO 0 0) := ⟨_, rfl⟩
              change wpAnyH _ _ _ _ _ _ _ _ (v5.alloc (spO 0 0))
              rw [← Hv6] at Xv6 Bp6v6 Bp5v6 ⊢
              clear Hv6 Hp6
              have gA := Gp6.out
              have gB := Gp5.out
              have ne := NE.out
              have a0 := Bp6v6.out.c0
              have a1 := Bp6v6.out.c1
              have a2 := Bp6v6.out.fz 0
              have a3 := Bp6v6.out.fz 1
              have X1 := Hid.mk' (Xv6.out.far p6 P1 P2 (by simp only [List.length_cons, List.length_nil]; omega))
              have A1 := Hid.mk' (Bp6v6.out.set P1 P2)
              have B1 := Hid.mk' ((Bp5v6.out.other 0 (k := p6) (.int .u64 P1) (by omega)).other 1 (k := p6) (.int .u64 P2) (by omega))
              have X2 := Hid.mk' (X1.out.far p5 Q1 Q2 (by simp only [List.length_cons, List.length_nil]; omega))
              have A2 := Hid.mk' ((A1.out.other 0 (k := p5) (.int .u64 Q1) (by omega)).other 1 (k := p5) (.int .u64 Q2) (by omega))
              have B2 := Hid.mk' (B1.out.set Q1 Q2)
              clear ne
              refine held_one 12 (by kernel_rfl) rfl (fun K hK => ?_)
              go_simp
              refine hK.out _ _ X1.out (fun _ => ?_)
              clear hK K
              try simp only [List.setIfInBounds_toArray, List.set_cons_zero, List.set_cons_succ]
              have b0 := B1.out.c0
              have b1 := B1.out.c1
              have b2 := B1.out.fz 0
              have b3 := B1.out.fz 1
              refine held_one 13 (by kernel_rfl) rfl (fun K hK => ?_)
              go_simp
              refine hK.out _ _ X2.out (fun _ => ?_)
              clear hK K
              try simp only [List.setIfInBounds_toArray, List.set_cons_zero, List.set_cons_succ]
              refine held_take 14 14 (.bool C) rfl rfl (by kernel_rfl) (by kernel_rfl) (by kernel_rfl) (fun _ _ _ h => h) (Or.inl ⟨by rfl, fun u hu => ?_⟩) X2.out ?_
              · go_simp
              simp only [Act.put, List.setIfInBounds_toArray, List.set_cons_zero, List.set_cons_succ]
              refine wpAnyH_done (by kernel_rfl) ?_ _
              go_wp2_with fail
              go_meet
              exact ⟨p6, p5, P1, P2, Q1, Q2, rfl, rfl, rfl, Hid.mk' ⟨X2.out, A2.out, B2.out, gA, gB, HR.out⟩⟩
        · go_simp
          have Xv7 := Hid.mk' (Xv1.out.below (bl1 v1 (spO 0 0)))
          refine hK.out _ _ Xv7.out (fun _ => ?_)
          clear hK K
          try simp only [List.setIfInBounds_toArray, List.set_cons_zero, List.set_cons_succ]
          obtain ⟨p7, Hp7⟩ : ∃ p7, p7 = v1.heap.size := ⟨_, rfl⟩
          have Bp7v7 : Hid (Box (v1.alloc (spO 0 0)) p7 0 0) := Hid.mk' (Box.new v1 0 0 Hp7)
          have Gp7 : Hid (w.heap.size + 1 + 1 + 1 < p7) := Hid.mk' (by rw [Hp7]; exact (Xv1.out.at 3 (p := (0, 0)) rfl).lt)
          rw [← Hp7]
          obtain ⟨v7, Hv7⟩ : ∃ v7, v7 = v1.alloc (spO 0 0) := ⟨_, rfl⟩
          change wpAnyH _ _ _ _ _ _ _ _ (v1.alloc (spO 0 0))
          rw [← Hv7] at Xv7 Bp7v7 ⊢
          clear Hv7 Hp7
          refine wpAnyH_ready (rs := [5, 11]) (by kernel_rfl) (by simp) (AllReadyH.cons rfl (fun K hK => ?_) (AllReadyH.cons rfl (fun K hK => ?_) (AllReadyH.nil)))
          · go_simp
            go_wp2_with (first | (go_at_call 44; refine (HL.out v7).mono ?_; rintro e v8 ⟨⟨⟨P1, P2⟩, ⟨Q1, Q2⟩, rfl, hres⟩, hb⟩))
            have Xv8 := Hid.mk' (Xv7.out.below hb)
            have HR := Hid.mk' hres
            have Bp7v8 := Hid.mk' (Bp7v7.out.below hb)
            clear hb hres
            refine hK.out _ _ Xv8.out (fun _ => ?_)
            clear hK K
            try simp only [List.setIfInBounds_toArray, List.set_cons_zero, List.set_cons_succ]
            refine held_take 6 30 (.tuple #[spV (P1, P2), spV (Q1, Q2), .bool C]) rfl rfl (by kernel_rfl) (by kernel_rfl) (by kernel_rfl) (fun _ _ _ h => h) (Or.inl ⟨by rfl, fun u hu => ?_⟩) Xv8.out ?_
            · go_simp
            simp only [Act.put, List.setIfInBounds_toArray, List.set_cons_zero, List.set_cons_succ]
            refine held_take 7 37 (spV (P1, P2)) rfl rfl (by kernel_rfl) (by kernel_rfl) (by kernel_rfl) (fun _ _ _ h => h) (Or.inl ⟨by rfl, fun u hu => ?_⟩) Xv8.out ?_
            · go_simp
            simp only [Act.put, List.setIfInBounds_toArray, List.set_cons_zero, List.set_cons_succ]
            refine held_take 8 38 (spV (Q1, Q2)) rfl rfl (by kernel_rfl) (by kernel_rfl) (by kernel_rfl) (fun _ _ _ h => h) (Or.inl ⟨by rfl, fun u hu => ?_⟩) Xv8.out ?_
            · go_simp
            simp only [Act.put, List.setIfInBounds_toArray, List.set_cons_zero, List.set_cons_succ]
            refine held_take 9 39 (.bool C) rfl rfl (by kernel_rfl) (by kernel_rfl) (by kernel_rfl) (fun _ _ _ h => h) (Or.inl ⟨by rfl, fun u hu => ?_⟩) Xv8.out ?_
            · go_simp
            simp only [Act.put, List.setIfInBounds_toArray, List.set_cons_zero, List.set_cons_succ]
            refine wpAnyH_ready (rs := [11]) (by kernel_rfl) (by simp) (AllReadyH.cons rfl (fun K hK => ?_) (AllReadyH.nil))
            · go_simp
              have Xv9 := Hid.mk' (Xv8.out.below (bl1 v8 (spO 0 0)))
              refine hK.out _ _ Xv9.out (fun _ => ?_)
              clear hK K
              try simp only [List.setIfInBounds_toArray, List.set_cons_zero, List.set_cons_succ]
              obtain ⟨p9, Hp9⟩ : ∃ p9, p9 = v8.heap.size := ⟨_, rfl⟩
              have Bp9v9 : Hid (Box (v8.alloc (spO 0 0)) p9 0 0) := Hid.mk' (Box.new v8 0 0 Hp9)
              have Gp9 : Hid (w.heap.size + 1 + 1 + 1 < p9) := Hid.mk' (by rw [Hp9]; exact (Xv8.out.at 3 (p := (0, 0)) rfl).lt)
              have NE : Hid (p7 < p9) := Hid.mk' (by rw [Hp9]; exact Bp7v8.out.lt)
              have Bp7v9 := Hid.mk' (Bp7v8.out.below (bl1 v8 (spO 0 0)))
              rw [← Hp9]
              obtain ⟨v9, Hv9⟩ : ∃ v9, v9 = v8.alloc (spO 0 0) := ⟨_, rfl⟩
              change wpAnyH _ _ _ _ _ _ _ _ (v8.alloc (spO 0 0))
              rw [← Hv9] at Xv9 Bp9v9 Bp7v9 ⊢
              clear Hv9 Hp9
              have gA := Gp7.out
              have gB := Gp9.out
              have ne := NE.out
              have a0 := Bp7v9.out.c0
              have a1 := Bp7v9.out.c1
              have a2 := Bp7v9.out.fz 0
              have a3 := Bp7v9.out.fz 1
              have X1 := Hid.mk' (Xv9.out.far p7 P1 P2 (by simp only [List.length_cons, List.length_nil]; omega))
              have A1 := Hid.mk' (Bp7v9.out.set P1 P2)
              have B1 := Hid.mk' ((Bp9v9.out.other 0 (k := p7) (.int .u64 P1) (by omega)).other 1 (k := p7) (.int .u64 P2) (by omega))
              have X2 := Hid.mk' (X1.out.far p9 Q1 Q2 (by simp only [List.length_cons, List.length_nil]; omega))
              have A2 := Hid.mk' ((A1.out.other 0 (k := p9) (.int .u64 Q1) (by omega)).other 1 (k := p9) (.int .u64 Q2) (by omega))
              have B2 := Hid.mk' (B1.out.set Q1 Q2)
              clear ne
              refine held_one 12 (by kernel_rfl) rfl (fun K hK => ?_)
              go_simp
              refine hK.out _ _ X1.out (fun _ => ?_)
              clear hK K
              try simp only [List.setIfInBounds_toArray, List.set_cons_zero, List.set_cons_succ]
              have b0 := B1.out.c0
              have b1 := B1.out.c1
              have b2 := B1.out.fz 0
              have b3 := B1.out.fz 1
              refine held_one 13 (by kernel_rfl) rfl (fun K hK => ?_)
              go_simp
              refine hK.out _ _ X2.out (fun _ => ?_)
              clear hK K
              try simp only [List.setIfInBounds_toArray, List.set_cons_zero, List.set_cons_succ]
              refine held_take 14 14 (.bool C) rfl rfl (by kernel_rfl) (by kernel_rfl) (by kernel_rfl) (fun _ _ _ h => h) (Or.inl ⟨by rfl, fun u hu => ?_⟩) X2.out ?_
              · go_simp
              simp only [Act.put, List.setIfInBounds_toArray, List.set_cons_zero, List.set_cons_succ]
              refine wpAnyH_done (by kernel_rfl) ?_ _
              go_wp2_with fail
              go_meet
              exact ⟨p7, p9, P1, P2, Q1, Q2, rfl, rfl, rfl, Hid.mk' ⟨X2.out, A2.out, B2.out, gA, gB, HR.out⟩⟩
          · go_simp
            have Xv10 := Hid.mk' (Xv7.out.below (bl1 v7 (spO 0 0)))
            refine hK.out _ _ Xv10.out (fun _ => ?_)
            clear hK K
            try simp only [List.setIfInBounds_toArray, List.set_cons_zero, List.set_cons_succ]
            obtain ⟨p10, Hp10⟩ : ∃ p10, p10 = v7.heap.size := ⟨_, rfl⟩
            have Bp10v10 : Hid (Box (v7.alloc (spO 0 0)) p10 0 0) := Hid.mk' (Box.new v7 0 0 Hp10)
            have Gp10 : Hid (w.heap.size + 1 + 1 + 1 < p10) := Hid.mk' (by rw [Hp10]; exact (Xv7.out.at 3 (p := (0, 0)) rfl).lt)
            have NE : Hid (p7 < p10) := Hid.mk' (by rw [Hp10]; exact Bp7v7.out.lt)
            have Bp7v10 := Hid.mk' (Bp7v7.out.below (bl1 v7 (spO 0 0)))
            rw [← Hp10]
            obtain ⟨v10, Hv10⟩ : ∃ v10, v10 = v7.alloc (spO 0 0) := ⟨_, rfl⟩
            change wpAnyH _ _ _ _ _ _ _ _ (v7.alloc (spO 0 0))
            rw [← Hv10] at Xv10 Bp10v10 Bp7v10 ⊢
            clear Hv10 Hp10
            refine wpAnyH_ready (rs := [5]) (by kernel_rfl) (by simp) (AllReadyH.cons rfl (fun K hK => ?_) (AllReadyH.nil))
            · go_simp
              go_wp2_with (first | (go_at_call 44; refine (HL.out v10).mono ?_; rintro e v11 ⟨⟨⟨P1, P2⟩, ⟨Q1, Q2⟩, rfl, hres⟩, hb⟩))
              have Xv11 := Hid.mk' (Xv10.out.below hb)
              have HR := Hid.mk' hres
              have Bp7v11 := Hid.mk' (Bp7v10.out.below hb)
              have Bp10v11 := Hid.mk' (Bp10v10.out.below hb)
              clear hb hres
              refine hK.out _ _ Xv11.out (fun _ => ?_)
              clear hK K
              try simp only [List.setIfInBounds_toArray, List.set_cons_zero, List.set_cons_succ]
              refine held_take 6 30 (.tuple #[spV (P1, P2), spV (Q1, Q2), .bool C]) rfl rfl (by kernel_rfl) (by kernel_rfl) (by kernel_rfl) (fun _ _ _ h => h) (Or.inl ⟨by rfl, fun u hu => ?_⟩) Xv11.out ?_
              · go_simp
              simp only [Act.put, List.setIfInBounds_toArray, List.set_cons_zero, List.set_cons_succ]
              refine held_take 7 37 (spV (P1, P2)) rfl rfl (by kernel_rfl) (by kernel_rfl) (by kernel_rfl) (fun _ _ _ h => h) (Or.inl ⟨by rfl, fun u hu => ?_⟩) Xv11.out ?_
              · go_simp
              simp only [Act.put, List.setIfInBounds_toArray, List.set_cons_zero, List.set_cons_succ]
              refine held_take 8 38 (spV (Q1, Q2)) rfl rfl (by kernel_rfl) (by kernel_rfl) (by kernel_rfl) (fun _ _ _ h => h) (Or.inl ⟨by rfl, fun u hu => ?_⟩) Xv11.out ?_
              · go_simp
              simp only [Act.put, List.setIfInBounds_toArray, List.set_cons_zero, List.set_cons_succ]
              refine held_take 9 39 (.bool C) rfl rfl (by kernel_rfl) (by kernel_rfl) (by kernel_rfl) (fun _ _ _ h => h) (Or.inl ⟨by rfl, fun u hu => ?_⟩) Xv11.out ?_
              · go_simp
              simp only [Act.put, List.setIfInBounds_toArray, List.set_cons_zero, List.set_cons_succ]
              have gA := Gp7.out
              have gB := Gp10.out
              have ne := NE.out
              have a0 := Bp7v11.out.c0
              have a1 := Bp7v11.out.c1
              have a2 := Bp7v11.out.fz 0
              have a3 := Bp7v11.out.fz 1
              have X1 := Hid.mk' (Xv11.out.far p7 P1 P2 (by simp only [List.length_cons, List.length_nil]; omega))
              have A1 := Hid.mk' (Bp7v11.out.set P1 P2)
              have B1 := Hid.mk' ((Bp10v11.out.other 0 (k := p7) (.int .u64 P1) (by omega)).other 1 (k := p7) (.int .u64 P2) (by omega))
              have X2 := Hid.mk' (X1.out.far p10 Q1 Q2 (by simp only [List.length_cons, List.length_nil]; omega))
              have A2 := Hid.mk' ((A1.out.other 0 (k := p10) (.int .u64 Q1) (by omega)).other 1 (k := p10) (.int .u64 Q2) (by omega))
              have B2 := Hid.mk' (B1.out.set Q1 Q2)
              clear ne
              refine held_one 12 (by kernel_rfl) rfl (fun K hK => ?_)
              go_simp
              refine hK.out _ _ X1.out (fun _ => ?_)
              clear hK K
              try simp only [List.setIfInBounds_toArray, List.set_cons_zero, List.set_cons_succ]
              have b0 := B1.out.c0
              have b1 := B1.out.c1
              have b2 := B1.out.fz 0
              have b3 := B1.out.fz 1
              refine held_one 13 (by kernel_rfl) rfl (fun K hK => ?_)
              go_simp
              refine hK.out _ _ X2.out (fun _ => ?_)
              clear hK K
              try simp only [List.setIfInBounds_toArray, List.set_cons_zero, List.set_cons_succ]
              refine held_take 14 14 (.bool C) rfl rfl (by kernel_rfl) (by kernel_rfl) (by kernel_rfl) (fun _ _ _ h => h) (Or.inl ⟨by rfl, fun u hu => ?_⟩) X2.out ?_
              · go_simp
              simp only [Act.put, List.setIfInBounds_toArray, List.set_cons_zero, List.set_cons_succ]
              refine wpAnyH_done (by kernel_rfl) ?_ _
              go_wp2_with fail
              go_meet
              exact ⟨p7, p10, P1, P2, Q1, Q2, rfl, rfl, rfl, Hid.mk' ⟨X2.out, A2.out, B2.out, gA, gB, HR.out⟩⟩
        · go_simp
          have Xv12 := Hid.mk' (Xv1.out.below (bl1 v1 (spO 0 0)))
          refine hK.out _ _ Xv12.out (fun _ => ?_)
          clear hK K
          try simp only [List.setIfInBounds_toArray, List.set_cons_zero, List.set_cons_succ]
          obtain ⟨p12, Hp12⟩ : ∃ p12, p12 = v1.heap.size := ⟨_, rfl⟩
          have Bp12v12 : Hid (Box (v1.alloc (spO 0 0)) p12 0 0) := Hid.mk' (Box.new v1 0 0 Hp12)
          have Gp12 : Hid (w.heap.size + 1 + 1 + 1 < p12) := Hid.mk' (by rw [Hp12]; exact (Xv1.out.at 3 (p := (0, 0)) rfl).lt)
          rw [← Hp12]
          obtain ⟨v12, Hv12⟩ : ∃ v12, v12 = v1.alloc (spO 0 0) := ⟨_, rfl⟩
          change wpAnyH _ _ _ _ _ _ _ _ (v1.alloc (spO 0 0))
          rw [← Hv12] at Xv12 Bp12v12 ⊢
          clear Hv12 Hp12
          refine wpAnyH_ready (rs := [5, 10]) (by kernel_rfl) (by simp) (AllReadyH.cons rfl (fun K hK => ?_) (AllReadyH.cons rfl (fun K hK => ?_) (AllReadyH.nil)))
          · go_simp
            go_wp2_with (first | (go_at_call 44; refine (HL.out v12).mono ?_; rintro e v13 ⟨⟨⟨P1, P2⟩, ⟨Q1, Q2⟩, rfl, hres⟩, hb⟩))
            have Xv13 := Hid.mk' (Xv12.out.below hb)
            have HR := Hid.mk' hres
            have Bp12v13 := Hid.mk' (Bp12v12.out.below hb)
            clear hb hres
            refine hK.out _ _ Xv13.out (fun _ => ?_)
            clear hK K
            try simp only [List.setIfInBounds_toArray, List.set_cons_zero, List.set_cons_succ]
            refine held_take 6 30 (.tuple #[spV (P1, P2), spV (Q1, Q2), .bool C]) rfl rfl (by kernel_rfl) (by kernel_rfl) (by kernel_rfl) (fun _ _ _ h => h) (Or.inl ⟨by rfl, fun u hu => ?_⟩) Xv13.out ?_
            · go_simp
            simp only [Act.put, List.setIfInBounds_toArray, List.set_cons_zero, List.set_cons_succ]
            refine held_take 7 37 (spV (P1, P2)) rfl rfl (by kernel_rfl) (by kernel_rfl) (by kernel_rfl) (fun _ _ _ h => h) (Or.inl ⟨by rfl, fun u hu => ?_⟩) Xv13.out ?_
            · go_simp
            simp only [Act.put, List.setIfInBounds_toArray, List.set_cons_zero, List.set_cons_succ]
            refine held_take 8 38 (spV (Q1, Q2)) rfl rfl (by kernel_rfl) (by kernel_rfl) (by kernel_rfl) (fun _ _ _ h => h) (Or.inl ⟨by rfl, fun u hu => ?_⟩) Xv13.out ?_
            · go_simp
            simp only [Act.put, List.setIfInBounds_toArray, List.set_cons_zero, List.set_cons_succ]
            refine held_take 9 39 (.bool C) rfl rfl (by kernel_rfl) (by kernel_rfl) (by kernel_rfl) (fun _ _ _ h => h) (Or.inl ⟨by rfl, fun u hu => ?_⟩) Xv13.out ?_
            · go_simp
            simp only [Act.put, List.setIfInBounds_toArray, List.set_cons_zero, List.set_cons_succ]
            refine wpAnyH_ready (rs := [10]) (by kernel_rfl) (by simp) (AllReadyH.cons rfl (fun K hK => ?_) (AllReadyH.nil))
            · go_simp
              have Xv14 := Hid.mk' (Xv13.out.below (bl1 v13 (spO 0 0)))
              refine hK.out _ _ Xv14.out (fun _ => ?_)
              clear hK K
              try simp only [List.setIfInBounds_toArray, List.set_cons_zero, List.set_cons_succ]
              obtain ⟨p14, Hp14⟩ : ∃ p14, p14 = v13.heap.size := ⟨_, rfl⟩
              have Bp14v14 : Hid (Box (v13.alloc (spO 0 0)) p14 0 0) := Hid.mk' (Box.new v13 0 0 Hp14)
              have Gp14 : Hid (w.heap.size + 1 + 1 + 1 < p14) := Hid.mk' (by rw [Hp14]; exact (Xv13.out.at 3 (p := (0, 0)) rfl).lt)
              have NE : Hid (p12 < p14) := Hid.mk' (by rw [Hp14]; exact Bp12v13.out.lt)
              have Bp12v14 := Hid.mk' (Bp12v13.out.below (bl1 v13 (spO 0 0)))
              rw [← Hp14]
              obtain ⟨v14, Hv14⟩ : ∃ v14, v14 = v13.alloc (spO 0 0) := ⟨_, rfl⟩
              change wpAnyH _ _ _ _ _ _ _ _ (v13.alloc (spO 0 0))
              rw [← Hv14] at Xv14 Bp14v14 Bp12v14 ⊢
              clear Hv14 Hp14
              have gA := Gp14.out
              have gB := Gp12.out
              have ne := NE.out
              have a0 := Bp14v14.out.c0
              have a1 := Bp14v14.out.c1
              have a2 := Bp14v14.out.fz 0
              have a3 := Bp14v14.out.fz 1
              have X1 := Hid.mk' (Xv14.out.far p14 P1 P2 (by simp only [List.length_cons, List.length_nil]; omega))
              have A1 := Hid.mk' (Bp14v14.out.set P1 P2)
              have B1 := Hid.mk' ((Bp12v14.out.other 0 (k := p14) (.int .u64 P1) (by omega)).other 1 (k := p14) (.int .u64 P2) (by omega))
              have X2 := Hid.mk' (X1.out.far p12 Q1 Q2 (by simp only [List.length_cons, List.length_nil]; omega))
              have A2 := Hid.mk' ((A1.out.other 0 (k := p12) (.int .u64 Q1) (by omega)).other 1 (k := p12) (.int .u64 Q2) (by omega))
              have B2 := Hid.mk' (B1.out.set Q1 Q2)
              clear ne
              refine held_one 12 (by kernel_rfl) rfl (fun K hK => ?_)
              go_simp
              refine hK.out _ _ X1.out (fun _ => ?_)
              clear hK K
              try simp only [List.setIfInBounds_toArray, List.set_cons_zero, List.set_cons_succ]
              have b0 := B1.out.c0
              have b1 := B1.out.c1
              have b2 := B1.out.fz 0
              have b3 := B1.out.fz 1
              refine held_one 13 (by kernel_rfl) rfl (fun K hK => ?_)
              go_simp
              refine hK.out _ _ X2.out (fun _ => ?_)
              clear hK K
              try simp only [List.setIfInBounds_toArray, List.set_cons_zero, List.set_cons_succ]
              refine held_take 14 14 (.bool C) rfl rfl (by kernel_rfl) (by kernel_rfl) (by kernel_rfl) (fun _ _ _ h => h) (Or.inl ⟨by rfl, fun u hu => ?_⟩) X2.out ?_
              · go_simp
              simp only [Act.put, List.setIfInBounds_toArray, List.set_cons_zero, List.set_cons_succ]
              refine wpAnyH_done (by kernel_rfl) ?_ _
              go_wp2_with fail
              go_meet
              exact ⟨p14, p12, P1, P2, Q1, Q2, rfl, rfl, rfl, Hid.mk' ⟨X2.out, A2.out, B2.out, gA, gB, HR.out⟩⟩
          · go_simp
            have Xv15 := Hid.mk' (Xv12.out.below (bl1 v12 (spO 0 0)))
            refine hK.out _ _ Xv15.out (fun _ => ?_)
            clear hK K
            try simp only [List.setIfInBounds_toArray, List.set_cons_zero, List.set_cons_succ]
            obtain ⟨p15, Hp15⟩ : ∃ p15, p15 = v12.heap.size := ⟨_, rfl⟩
            have Bp15v15 : Hid (Box (v12.alloc (spO 0 0)) p15 0 0) := Hid.mk' (Box.new v12 0 0 Hp15)
            have Gp15 : Hid (w.heap.size + 1 + 1 + 1 < p15) := Hid.mk' (by rw [Hp15]; exact (Xv12.out.at 3 (p := (0, 0)) rfl).lt)
            have NE : Hid (p12 < p15) := Hid.mk' (by rw [Hp15]; exact Bp12v12.out.lt)
            have Bp12v15 := Hid.mk' (Bp12v12.out.below (bl1 v12 (spO 0 0)))
            rw [← Hp15]
            obtain ⟨v15, Hv15⟩ : ∃ v15, v15 = v12.alloc (spO 0 0) := ⟨_, rfl⟩
            change wpAnyH _ _ _ _ _ _ _ _ (v12.alloc (spO 0 0))
            rw [← Hv15] at Xv15 Bp15v15 Bp12v15 ⊢
            clear Hv15 Hp15
            refine wpAnyH_ready (rs := [5]) (by kernel_rfl) (by simp) (AllReadyH.cons rfl (fun K hK => ?_) (AllReadyH.nil))
            · go_simp
              go_wp2_with (first | (go_at_call 44; refine (HL.out v15).mono ?_; rintro e v16 ⟨⟨⟨P1, P2⟩, ⟨Q1, Q2⟩, rfl, hres⟩, hb⟩))
              have Xv16 := Hid.mk' (Xv15.out.below hb)
              have HR := Hid.mk' hres
              have Bp15v16 := Hid.mk' (Bp15v15.out.below hb)
              have Bp12v16 := Hid.mk' (Bp12v15.out.below hb)
              clear hb hres
              refine hK.out _ _ Xv16.out (fun _ => ?_)
              clear hK K
              try simp only [List.setIfInBounds_toArray, List.set_cons_zero, List.set_cons_succ]
              refine held_take 6 30 (.tuple #[spV (P1, P2), spV (Q1, Q2), .bool C]) rfl rfl (by kernel_rfl) (by kernel_rfl) (by kernel_rfl) (fun _ _ _ h => h) (Or.inl ⟨by rfl, fun u hu => ?_⟩) Xv16.out ?_
              · go_simp
              simp only [Act.put, List.setIfInBounds_toArray, List.set_cons_zero, List.set_cons_succ]
              refine held_take 7 37 (spV (P1, P2)) rfl rfl (by kernel_rfl) (by kernel_rfl) (by kernel_rfl) (fun _ _ _ h => h) (Or.inl ⟨by rfl, fun u hu => ?_⟩) Xv16.out ?_
              · go_simp
              simp only [Act.put, List.setIfInBounds_toArray, List.set_cons_zero, List.set_cons_succ]
              refine held_take 8 38 (spV (Q1, Q2)) rfl rfl (by kernel_rfl) (by kernel_rfl) (by kernel_rfl) (fun _ _ _ h => h) (Or.inl ⟨by rfl, fun u hu => ?_⟩) Xv16.out ?_
              · go_simp
              simp only [Act.put, List.setIfInBounds_toArray, List.set_cons_zero, List.set_cons_succ]
              refine held_take 9 39 (.bool C) rfl rfl (by kernel_rfl) (by kernel_rfl) (by kernel_rfl) (fun _ _ _ h => h) (Or.inl ⟨by rfl, fun u hu => ?_⟩) Xv16.out ?_
              · go_simp
              simp only [Act.put, List.setIfInBounds_toArray, List.set_cons_zero, List.set_cons_succ]
              have gA := Gp15.out
              have gB := Gp12.out
              have ne := NE.out
              have a0 := Bp15v16.out.c0
              have a1 := Bp15v16.out.c1
              have a2 := Bp15v16.out.fz 0
              have a3 := Bp15v16.out.fz 1
              have X1 := Hid.mk' (Xv16.out.far p15 P1 P2 (by simp only [List.length_cons, List.length_nil]; omega))
              have A1 := Hid.mk' (Bp15v16.out.set P1 P2)
              have B1 := Hid.mk' ((Bp12v16.out.other 0 (k := p15) (.int .u64 P1) (by omega)).other 1 (k := p15) (.int .u64 P2) (by omega))
              have X2 := Hid.mk' (X1.out.far p12 Q1 Q2 (by simp only [List.length_cons, List.length_nil]; omega))
              have A2 := Hid.mk' ((A1.out.other 0 (k := p12) (.int .u64 Q1) (by omega)).other 1 (k := p12) (.int .u64 Q2) (by omega))
              have B2 := Hid.mk' (B1.out.set Q1 Q2)
              clear ne
              refine held_one 12 (by kernel_rfl) rfl (fun K hK => ?_)
              go_simp
              refine hK.out _ _ X1.out (fun _ => ?_)
              clear hK K
              try simp only [List.setIfInBounds_toArray, List.set_cons_zero, List.set_cons_succ]
              have b0 := B1.out.c0
              have b1 := B1.out.c1
              have b2 := B1.out.fz 0
              have b3 := B1.out.fz 1
              refine held_one 13 (by kernel_rfl) rfl (fun K hK => ?_)
              go_simp
              refine hK.out _ _ X2.out (fun _ => ?_)
              clear hK K
              try simp only [List.setIfInBounds_toArray, List.set_cons_zero, List.set_cons_succ]
              refine held_take 14 14 (.bool C) rfl rfl (by kernel_rfl) (by kernel_rfl) (by kernel_rfl) (fun _ _ _ h => h) (Or.inl ⟨by rfl, fun u hu => ?_⟩) X2.out ?_
              · go_simp
              simp only [Act.put, List.setIfInBounds_toArray, List.set_cons_zero, List.set_cons_succ]
              refine wpAnyH_done (by kernel_rfl) ?_ _
              go_wp2_with fail
              go_meet
              exact ⟨p15, p12, P1, P2, Q1, Q2, rfl, rfl, rfl, Hid.mk' ⟨X2.out, A2.out, B2.out, gA, gB, HR.out⟩⟩
      · go_simp
        have Xv17 := Hid.mk' (Xv0.out.below (bl1 v0 (spO 0 0)))
        refine hK.out _ _ Xv17.out (fun _ => ?_)
        clear hK K
        try simp only [List.setIfInBounds_toArray, List.set_cons_zero, List.set_cons_succ]
        obtain ⟨p17, Hp17⟩ : ∃ p17, p17 = v0.heap.size := ⟨_, rfl⟩
        have Bp17v17 : Hid (Box (v0.alloc (spO 0 0)) p17 0 0) := Hid.mk' (Box.new v0 0 0 Hp17)
        have Gp17 : Hid (w.heap.size + 1 + 1 + 1 < p17) := Hid.mk' (by rw [Hp17]; exact (Xv0.out.at 3 (p := (0, 0)) rfl).lt)
        rw [← Hp17]
        obtain ⟨v17, Hv17⟩ : ∃ v17, v17 = v0.alloc (spO 0 0) := ⟨_, rfl⟩
        change wpAnyH _ _ _ _ _ _ _ _ (v0.alloc (spO 0 0))
        rw [← Hv17] at Xv17 Bp17v17 ⊢
        clear Hv17 Hp17
        refine wpAnyH_ready (rs := [2, 11]) (by kernel_rfl) (by simp) (AllReadyH.cons rfl (fun K hK => ?_) (AllReadyH.cons rfl (fun K hK => ?_) (AllReadyH.nil)))
        · go_simp
          go_wp2_with (first | (go_at_call 45; refine (HT.out v17).mono ?_; rintro e v18 ⟨rfl, hb⟩))
          have Xv18 := Hid.mk' (Xv17.out.below hb)
          have Bp17v18 := Hid.mk' (Bp17v17.out.below hb)
          clear hb
          refine hK.out _ _ Xv18.out (fun _ => ?_)
          clear hK K
          try simp only [List.setIfInBounds_toArray, List.set_cons_zero, List.set_cons_succ]
          refine wpAnyH_ready (rs := [5, 11]) (by kernel_rfl) (by simp) (AllReadyH.cons rfl (fun K hK => ?_) (AllReadyH.cons rfl (fun K hK => ?_) (AllReadyH.nil)))
          · go_simp
            go_wp2_with (first | (go_at_call 44; refine (HL.out v18).mono ?_; rintro e v19 ⟨⟨⟨P1, P2⟩, ⟨Q1, Q2⟩, rfl, hres⟩, hb⟩))
            have Xv19 := Hid.mk' (Xv18.out.below hb)
            have HR := Hid.mk' hres
            have Bp17v19 := Hid.mk' (Bp17v18.out.below hb)
            clear hb hres
            refine hK.out _ _ Xv19.out (fun _ => ?_)
            clear hK K
            try simp only [List.setIfInBounds_toArray, List.set_cons_zero, List.set_cons_succ]
            refine held_take 6 30 (.tuple #[spV (P1, P2), spV (Q1, Q2), .bool C]) rfl rfl (by kernel_rfl) (by kernel_rfl) (by kernel_rfl) (fun _ _ _ h => h) (Or.inl ⟨by rfl, fun u hu => ?_⟩) Xv19.out ?_
            · go_simp
            simp only [Act.put, List.setIfInBounds_toArray, List.set_cons_zero, List.set_cons_succ]
            refine held_take 7 37 (spV (P1, P2)) rfl rfl (by kernel_rfl) (by kernel_rfl) (by kernel_rfl) (fun _ _ _ h => h) (Or.inl ⟨by rfl, fun u hu => ?_⟩) Xv19.out ?_
            · go_simp
            simp only [Act.put, List.setIfInBounds_toArray, List.set_cons_zero, List.set_cons_succ]
            refine held_take 8 38 (spV (Q1, Q2)) rfl rfl (by kernel_rfl) (by kernel_rfl) (by kernel_rfl) (fun _ _ _ h => h) (Or.inl ⟨by rfl, fun u hu => ?_⟩) Xv19.out ?_
            · go_simp
            simp only [Act.put, List.setIfInBounds_toArray, List.set_cons_zero, List.set_cons_succ]
            refine held_take 9 39 (.bool C) rfl rfl (by kernel_rfl) (by kernel_rfl) (by kernel_rfl) (fun _ _ _ h => h) (Or.inl ⟨by rfl, fun u hu => ?_⟩) Xv19.out ?_
            · go_simp
            simp only [Act.put, List.setIfInBounds_toArray, List.set_cons_zero, List.set_cons_succ]
            refine wpAnyH_ready (rs := [11]) (by kernel_rfl) (by simp) (AllReadyH.cons rfl (fun K hK => ?_) (AllReadyH.nil))
            · go_simp
              have Xv20 := Hid.mk' (Xv19.out.below (bl1 v19 (spO 0 0)))
              refine hK.out _ _ Xv20.out (fun _ => ?_)
              clear hK K
              try simp only [List.setIfInBounds_toArray, List.set_cons_zero, List.set_cons_succ]
              obtain ⟨p20, Hp20⟩ : ∃ p20, p20 = v19.heap.size := ⟨_, rfl⟩
              have Bp20v20 : Hid (Box (v19.alloc (spO 0 0)) p20 0 0) := Hid.mk' (Box.new v19 0 0 Hp20)
              have Gp20 : Hid (w.heap.size + 1 + 1 + 1 < p20) := Hid.mk' (by rw [Hp20]; exact (Xv19.out.at 3 (p := (0, 0)) rfl).lt)
              have NE : Hid (p17 < p20) := Hid.mk' (by rw [Hp20]; exact Bp17v19.out.lt)
              have Bp17v20 := Hid.mk' (Bp17v19.out.below (bl1 v19 (spO 0 0)))
              rw [← Hp20]
              obtain ⟨v20, Hv20⟩ : ∃ v20, v20 = v19.alloc (spO 0 0) := ⟨_, rfl⟩
              change wpAnyH _ _ _ _ _ _ _ _ (v19.alloc (spO 0 0))
              rw [← Hv20] at Xv20 Bp20v20 Bp17v20 ⊢
              clear Hv20 Hp20
              have gA := Gp17.out
              have gB := Gp20.out
              have ne := NE.out
              have a0 := Bp17v20.out.c0
              have a1 := Bp17v20.out.c1
              have a2 := Bp17v20.out.fz 0
              have a3 := Bp17v20.out.fz 1
              have X1 := Hid.mk' (Xv20.out.far p17 P1 P2 (by simp only [List.length_cons, List.length_nil]; omega))
              have A1 := Hid.mk' (Bp17v20.out.set P1 P2)
              have B1 := Hid.mk' ((Bp20v20.out.other 0 (k := p17) (.int .u64 P1) (by omega)).other 1 (k := p17) (.int .u64 P2) (by omega))
              have X2 := Hid.mk' (X1.out.far p20 Q1 Q2 (by simp only [List.length_cons, List.length_nil]; omega))
              have A2 := Hid.mk' ((A1.out.other 0 (k := p20) (.int .u64 Q1) (by omega)).other 1 (k := p20) (.int .u64 Q2) (by omega))
              have B2 := Hid.mk' (B1.out.set Q1 Q2)
              clear ne
              refine held_one 12 (by kernel_rfl) rfl (fun K hK => ?_)
              go_simp
              refine hK.out _ _ X1.out (fun _ => ?_)
              clear hK K
              try simp only [List.setIfInBounds_toArray, List.set_cons_zero, List.set_cons_succ]
              have b0 := B1.out.c0
              have b1 := B1.out.c1
              have b2 := B1.out.fz 0
              have b3 := B1.out.fz 1
              refine held_one 13 (by kernel_rfl) rfl (fun K hK => ?_)
              go_simp
              refine hK.out _ _ X2.out (fun _ => ?_)
              clear hK K
              try simp only [List.setIfInBounds_toArray, List.set_cons_zero, List.set_cons_succ]
              refine held_take 14 14 (.bool C) rfl rfl (by kernel_rfl) (by kernel_rfl) (by kernel_rfl) (fun _ _ _ h => h) (Or.inl ⟨by rfl, fun u hu => ?_⟩) X2.out ?_
              · go_simp
              simp only [Act.put, List.setIfInBounds_toArray, List.set_cons_zero, List.set_cons_succ]
              refine wpAnyH_done (by kernel_rfl) ?_ _
              go_wp2_with fail
              go_meet
              exact ⟨p17, p20, P1, P2, Q1, Q2, rfl, rfl, rfl, Hid.mk' ⟨X2.out, A2.out, B2.out, gA, gB, HR.out⟩⟩
          · go_simp
            have Xv21 := Hid.mk' (Xv18.out.below (bl1 v18 (spO 0 0)))
            refine hK.out _ _ Xv21.out (fun _ => ?_)
            clear hK K
            try simp only [List.setIfInBounds_toArray, List.set_cons_zero, List.set_cons_succ]
            obtain ⟨p21, Hp21⟩ : ∃ p21, p21 = v18.heap.size := ⟨_, rfl⟩
            have Bp21v21 : Hid (Box (v18.alloc (spO 0 0)) p21 0 0) := Hid.mk' (Box.new v18 0 0 Hp21)
            have Gp21 : Hid (w.heap.size + 1 + 1 + 1 < p21) := Hid.mk' (by rw [Hp21]; exact (Xv18.out.at 3 (p := (0, 0)) rfl).lt)
            have NE : Hid (p17 < p21) := Hid.mk' (by rw [Hp21]; exact Bp17v18.out.lt)
            have Bp17v21 := Hid.mk' (Bp17v18.out.below (bl1 v18 (spO 0 0)))
            rw [← Hp21]
            obtain ⟨v21, Hv21⟩ : ∃ v21, v21 = v18.alloc (spO 0 0) := ⟨_, rfl⟩
            change wpAnyH _ _ _ _ _ _ _ _ (v18.alloc (spO 0 0))
            rw [← Hv21] at Xv21 Bp21v21 Bp17v21 ⊢
            clear Hv21 Hp21
            refine wpAnyH_ready (rs := [5]) (by kernel_rfl) (by simp) (AllReadyH.cons rfl (fun K hK => ?_) (AllReadyH.nil))
            · go_simp
              go_wp2_with (first | (go_at_call 44; refine (HL.out v21).mono ?_; rintro e v22 ⟨⟨⟨P1, P2⟩, ⟨Q1, Q2⟩, rfl, hres⟩, hb⟩))
              have Xv22 := Hid.mk' (Xv21.out.below hb)
              have HR := Hid.mk' hres
              have Bp17v22 := Hid.mk' (Bp17v21.out.below hb)
              have Bp21v22 := Hid.mk' (Bp21v21.out.below hb)
              clear hb hres
              refine hK.out _ _ Xv22.out (fun _ => ?_)
              clear hK K
              try simp only [List.setIfInBounds_toArray, List.set_cons_zero, List.set_cons_succ]
              refine held_take 6 30 (.tuple #[spV (P1, P2), spV (Q1, Q2), .bool C]) rfl rfl (by kernel_rfl) (by kernel_rfl) (by kernel_rfl) (fun _ _ _ h => h) (Or.inl ⟨by rfl, fun u hu => ?_⟩) Xv22.out ?_
              · go_simp
              simp only [Act.put, List.setIfInBounds_toArray, List.set_cons_zero, List.set_cons_succ]
              refine held_take 7 37 (spV (P1, P2)) rfl rfl (by kernel_rfl) (by kernel_rfl) (by kernel_rfl) (fun _ _ _ h => h) (Or.inl ⟨by rfl, fun u hu => ?_⟩) Xv22.out ?_
              · go_simp
              simp only [Act.put, List.setIfInBounds_toArray, List.set_cons_zero, List.set_cons_succ]
              refine held_take 8 38 (spV (Q1, Q2)) rfl rfl (by kernel_rfl) (by kernel_rfl) (by kernel_rfl) (fun _ _ _ h => h) (Or.inl ⟨by rfl, fun u hu => ?_⟩) Xv22.out ?_
              · go_simp
              simp only [Act.put, List.setIfInBounds_toArray, List.set_cons_zero, List.set_cons_succ]
              refine held_take 9 39 (.bool C) rfl rfl (by kernel_rfl) (by kernel_rfl) (by kernel_rfl) (fun _ _ _ h => h) (Or.inl ⟨by rfl, fun u hu => ?_⟩) Xv22.out ?_
              · go_simp
              simp only [Act.put, List.setIfInBounds_toArray, List.set_cons_zero, List.set_cons_succ]
              have gA := Gp17.out
              have gB := Gp21.out
              have ne := NE.out
              have a0 := Bp17v22.out.c0
              have a1 := Bp17v22.out.c1
              have a2 := Bp17v22.out.fz 0
              have a3 := Bp17v22.out.fz 1
              have X1 := Hid.mk' (Xv22.out.far p17 P1 P2 (by simp only [List.length_cons, List.length_nil]; omega))
              have A1 := Hid.mk' (Bp17v22.out.set P1 P2)
              have B1 := Hid.mk' ((Bp21v22.out.other 0 (k := p17) (.int .u64 P1) (by omega)).other 1 (k := p17) (.int .u64 P2) (by omega))
              have X2 := Hid.mk' (X1.out.far p21 Q1 Q2 (by simp only [List.length_cons, List.length_nil]; omega))
              have A2 := Hid.mk' ((A1.out.other 0 (k := p21) (.int .u64 Q1) (by omega)).other 1 (k := p21) (.int .u64 Q2) (by omega))
              have B2 := Hid.mk' (B1.out.set Q1 Q2)
              clear ne
              refine held_one 12 (by kernel_rfl) rfl (fun K hK => ?_)
              go_simp
              refine hK.out _ _ X1.out (fun _ => ?_)
              clear hK K
              try simp only [List.setIfInBounds_toArray, List.set_cons_zero, List.set_cons_succ]
              have b0 := B1.out.c0
              have b1 := B1.out.c1
              have b2 := B1.out.fz 0
              have b3 := B1.out.fz 1
              refine held_one 13 (by kernel_rfl) rfl (fun K hK => ?_)
              go_simp
              refine hK.out _ _ X2.out (fun _ => ?_)
              clear hK K
              try simp only [List.setIfInBounds_toArray, List.set_cons_zero, List.set_cons_succ]
              refine held_take 14 14 (.bool C) rfl rfl (by kernel_rfl) (by kernel_rfl) (by kernel_rfl) (fun _ _ _ h => h) (Or.inl ⟨by rfl, fun u hu => ?_⟩) X2.out ?_
              · go_simp
              simp only [Act.put, List.setIfInBounds_toArray, List.set_cons_zero, List.set_cons_succ]
              refine wpAnyH_done (by kernel_rfl) ?_ _
              go_wp2_with fail
              go_meet
              exact ⟨p17, p21, P1, P2, Q1, Q2, rfl, rfl, rfl, Hid.mk' ⟨X2.out, A2.out, B2.out, gA, gB, HR.out⟩⟩
        · go_simp
          have Xv23 := Hid.mk' (Xv17.out.below (bl1 v17 (spO 0 0)))
          refine hK.out _ _ Xv23.out (fun _ => ?_)
          clear hK K
          try simp only [List.setIfInBounds_toArray, List.set_cons_zero, List.set_cons_succ]
          obtain ⟨p23, Hp23⟩ : ∃ p23, p23 = v17.heap.size := ⟨_, rfl⟩
          have Bp23v23 : Hid (Box (v17.alloc (spO 0 0)) p23 0 0) := Hid.mk' (Box.new v17 0 0 Hp23)
          have Gp23 : Hid (w.heap.size + 1 + 1 + 1 < p23) := Hid.mk' (by rw [Hp23]; exact (Xv17.out.at 3 (p := (0, 0)) rfl).lt)
          have NE : Hid (p17 < p23) := Hid.mk' (by rw [Hp23]; exact Bp17v17.out.lt)
          have Bp17v23 := Hid.mk' (Bp17v17.out.below (bl1 v17 (spO 0 0)))
          rw [← Hp23]
          obtain ⟨v23, Hv23⟩ : ∃ v23, v23 = v17.alloc (spO 0 0) := ⟨_, rfl⟩
          change wpAnyH _ _ _ _ _ _ _ _ (v17.alloc (spO 0 0))
          rw [← Hv23] at Xv23 Bp23v23 Bp17v23 ⊢
          clear Hv23 Hp23
          refine wpAnyH_ready (rs := [2]) (by kernel_rfl) (by simp) (AllReadyH.cons rfl (fun K hK => ?_) (AllReadyH.nil))
          · go_simp
            go_wp2_with (first | (go_at_call 45; refine (HT.out v23).mono ?_; rintro e v24 ⟨rfl, hb⟩))
            have Xv24 := Hid.mk' (Xv23.out.below hb)
            have Bp17v24 := Hid.mk' (Bp17v23.out.below hb)
            have Bp23v24 := Hid.mk' (Bp23v23.out.below hb)
            clear hb
            refine hK.out _ _ Xv24.out (fun _ => ?_)
            clear hK K
            try simp only [List.setIfInBounds_toArray, List.set_cons_zero, List.set_cons_succ]
            refine wpAnyH_ready (rs := [5]) (by kernel_rfl) (by simp) (AllReadyH.cons rfl (fun K hK => ?_) (AllReadyH.nil))
            · go_simp
              go_wp2_with (first | (go_at_call 44; refine (HL.out v24).mono ?_; rintro e v25 ⟨⟨⟨P1, P2⟩, ⟨Q1, Q2⟩, rfl, hres⟩, hb⟩))
              have Xv25 := Hid.mk' (Xv24.out.below hb)
              have HR := Hid.mk' hres
              have Bp17v25 := Hid.mk' (Bp17v24.out.below hb)
              have Bp23v25 := Hid.mk' (Bp23v24.out.below hb)
              clear hb hres
              refine hK.out _ _ Xv25.out (fun _ => ?_)
              clear hK K
              try simp only [List.setIfInBounds_toArray, List.set_cons_zero, List.set_cons_succ]
              refine held_take 6 30 (.tuple #[spV (P1, P2), spV (Q1, Q2), .bool C]) rfl rfl (by kernel_rfl) (by kernel_rfl) (by kernel_rfl) (fun _ _ _ h => h) (Or.inl ⟨by rfl, fun u hu => ?_⟩) Xv25.out ?_
              · go_simp
              simp only [Act.put, List.setIfInBounds_toArray, List.set_cons_zero, List.set_cons_succ]
              refine held_take 7 37 (spV (P1, P2)) rfl rfl (by kernel_rfl) (by kernel_rfl) (by kernel_rfl) (fun _ _ _ h => h) (Or.inl ⟨by rfl, fun u hu => ?_⟩) Xv25.out ?_
              · go_simp
              simp only [Act.put, List.setIfInBounds_toArray, List.set_cons_zero, List.set_cons_succ]
              refine held_take 8 38 (spV (Q1, Q2)) rfl rfl (by kernel_rfl) (by kernel_rfl) (by kernel_rfl) (fun _ _ _ h => h) (Or.inl ⟨by rfl, fun u hu => ?_⟩) Xv25.out ?_
              · go_simp
              simp only [Act.put, List.setIfInBounds_toArray, List.set_cons_zero, List.set_cons_succ]
              refine held_take 9 39 (.bool C) rfl rfl (by kernel_rfl) (by kernel_rfl) (by kernel_rfl) (fun _ _ _ h => h) (Or.inl ⟨by rfl, fun u hu => ?_⟩) Xv25.out ?_
              · go_simp
              simp only [Act.put, List.setIfInBounds_toArray, List.set_cons_zero, List.set_cons_succ]
              have gA := Gp17.out
              have gB := Gp23.out
              have ne := NE.out
              have a0 := Bp17v25.out.c0
              have a1 := Bp17v25.out.c1
              have a2 := Bp17v25.out.fz 0
              have a3 := Bp17v25.out.fz 1
              have X1 := Hid.mk' (Xv25.out.far p17 P1 P2 (by simp only [List.length_cons, List.length_nil]; omega))
              have A1 := Hid.mk' (Bp17v25.out.set P1 P2)
              have B1 := Hid.mk' ((Bp23v25.out.other 0 (k := p17) (.int .u64 P1) (by omega)).other 1 (k := p17) (.int .u64 P2) (by omega))
              have X2 := Hid.mk' (X1.out.far p23 Q1 Q2 (by simp only [List.length_cons, List.length_nil]; omega))
              have A2 := Hid.mk' ((A1.out.other 0 (k := p23) (.int .u64 Q1) (by omega)).other 1 (k := p23) (.int .u64 Q2) (by omega))
              have B2 := Hid.mk' (B1.out.set Q1 Q2)
              clear ne
              refine held_one 12 (by kernel_rfl) rfl (fun K hK => ?_)
              go_simp
              refine hK.out _ _ X1.out (fun _ => ?_)
              clear hK K
              try simp only [List.setIfInBounds_toArray, List.set_cons_zero, List.set_cons_succ]
              have b0 := B1.out.c0
              have b1 := B1.out.c1
              have b2 := B1.out.fz 0
              have b3 := B1.out.fz 1
              refine held_one 13 (by kernel_rfl) rfl (fun K hK => ?_)
              go_simp
              refine hK.out _ _ X2.out (fun _ => ?_)
              clear hK K
              try simp only [List.setIfInBounds_toArray, List.set_cons_zero, List.set_cons_succ]
              refine held_take 14 14 (.bool C) rfl rfl (by kernel_rfl) (by kernel_rfl) (by kernel_rfl) (fun _ _ _ h => h) (Or.inl ⟨by rfl, fun u hu => ?_⟩) X2.out ?_
              · go_simp
              simp only [Act.put, List.setIfInBounds_toArray, List.set_cons_zero, List.set_cons_succ]
              refine wpAnyH_done (by kernel_rfl) ?_ _
              go_wp2_with fail
              go_meet
              exact ⟨p17, p23, P1, P2, Q1, Q2, rfl, rfl, rfl, Hid.mk' ⟨X2.out, A2.out, B2.out, gA, gB, HR.out⟩⟩
      · go_simp
        have Xv26 := Hid.mk' (Xv0.out.below (bl1 v0 (spO 0 0)))
        refine hK.out _ _ Xv26.out (fun _ => ?_)
        clear hK K
        try simp only [List.setIfInBounds_toArray, List.set_cons_zero, List.set_cons_succ]
        obtain ⟨p26, Hp26⟩ : ∃ p26, p26 = v0.heap.size := ⟨_, rfl⟩
        have Bp26v26 : Hid (Box (v0.alloc (spO 0 0)) p26 0 0) := Hid.mk' (Box.new v0 0 0 Hp26)
        have Gp26 : Hid (w.heap.size + 1 + 1 + 1 < p26) := Hid.mk' (by rw [Hp26]; exact (Xv0.out.at 3 (p := (0, 0)) rfl).lt)
        rw [← Hp26]
        obtain ⟨v26, Hv26⟩ : ∃ v26, v26 = v0.alloc (spO 0 0) := ⟨_, rfl⟩
        change wpAnyH _ _ _ _ _ _ _ _ (v0.alloc (spO 0 0))
        rw [← Hv26] at Xv26 Bp26v26 ⊢
        clear Hv26 Hp26
        refine wpAnyH_ready (rs := [2, 10]) (by kernel_rfl) (by simp) (AllReadyH.cons rfl (fun K hK => ?_) (AllReadyH.cons rfl (fun K hK => ?_) (AllReadyH.nil)))
        · go_simp
          go_wp2_with (first | (go_at_call 45; refine (HT.out v26).mono ?_; rintro e v27 ⟨rfl, hb⟩))
          have Xv27 := Hid.mk' (Xv26.out.below hb)
          have Bp26v27 := Hid.mk' (Bp26v26.out.below hb)
          clear hb
          refine hK.out _ _ Xv27.out (fun _ => ?_)
          clear hK K
          try simp only [List.setIfInBounds_toArray, List.set_cons_zero, List.set_cons_succ]
          refine wpAnyH_ready (rs := [5, 10]) (by kernel_rfl) (by simp) (AllReadyH.cons rfl (fun K hK => ?_) (AllReadyH.cons rfl (fun K hK => ?_) (AllReadyH.nil)))
          · go_simp
            go_wp2_with (first | (go_at_call 44; refine (HL.out v27).mono ?_; rintro e v28 ⟨⟨⟨P1, P2⟩, ⟨Q1, Q2⟩, rfl, hres⟩, hb⟩))
            have Xv28 := Hid.mk' (Xv27.out.below hb)
            have HR := Hid.mk' hres
            have Bp26v28 := Hid.mk' (Bp26v27.out.below hb)
            clear hb hres
            refine hK.out _ _ Xv28.out (fun _ => ?_)
            clear hK K
            try simp only [List.setIfInBounds_toArray, List.set_cons_zero, List.set_cons_succ]
            refine held_take 6 30 (.tuple #[spV (P1, P2), spV (Q1, Q2), .bool C]) rfl rfl (by kernel_rfl) (by kernel_rfl) (by kernel_rfl) (fun _ _ _ h => h) (Or.inl ⟨by rfl, fun u hu => ?_⟩) Xv28.out ?_
            · go_simp
            simp only [Act.put, List.setIfInBounds_toArray, List.set_cons_zero, List.set_cons_succ]
            refine held_take 7 37 (spV (P1, P2)) rfl rfl (by kernel_rfl) (by kernel_rfl) (by kernel_rfl) (fun _ _ _ h => h) (Or.inl ⟨by rfl, fun u hu => ?_⟩) Xv28.out ?_
            · go_simp
            simp only [Act.put, List.setIfInBounds_toArray, List.set_cons_zero, List.set_cons_succ]
            refine held_take 8 38 (spV (Q1, Q2)) rfl rfl (by kernel_rfl) (by kernel_rfl) (by kernel_rfl) (fun _ _ _ h => h) (Or.inl ⟨by rfl, fun u hu => ?_⟩) Xv28.out ?_
            · go_simp
            simp only [Act.put, List.setIfInBounds_toArray, List.set_cons_zero, List.set_cons_succ]
            refine held_take 9 39 (.bool C) rfl rfl (by kernel_rfl) (by kernel_rfl) (by kernel_rfl) (fun _ _ _ h => h) (Or.inl ⟨by rfl, fun u hu => ?_⟩) Xv28.out ?_
            · go_simp
            simp only [Act.put, List.setIfInBounds_toArray, List.set_cons_zero, List.set_cons_succ]
            refine wpAnyH_ready (rs := [10]) (by kernel_rfl) (by simp) (AllReadyH.cons rfl (fun K hK => ?_) (AllReadyH.nil))
            · go_simp
              have Xv29 := Hid.mk' (Xv28.out.below (bl1 v28 (spO 0 0)))
              refine hK.out _ _ Xv29.out (fun _ => ?_)
              clear hK K
              try simp only [List.setIfInBounds_toArray, List.set_cons_zero, List.set_cons_succ]
              obtain ⟨p29, Hp29⟩ : ∃ p29, p29 = v28.heap.size := ⟨_, rfl⟩
              have Bp29v29 : Hid (Box (v28.alloc (spO 0 0)) p29 0 0) := Hid.mk' (Box.new v28 0 0 Hp29)
              have Gp29 : Hid (w.heap.size + 1 + 1 + 1 < p29) := Hid.mk' (by rw [Hp29]; exact (Xv28.out.at 3 (p := (0, 0)) rfl).lt)
              have NE : Hid (p26 < p29) := Hid.mk' (by rw [Hp29]; exact Bp26v28.out.lt)
              have Bp26v29 := Hid.mk' (Bp26v28.out.below (bl1 v28 (spO 0 0)))
              rw [← Hp29]
              obtain ⟨v29, Hv29⟩ : ∃ v29, v29 = v28.alloc (spO 0 0) := ⟨_, rfl⟩
              change wpAnyH _ _ _ _ _ _ _ _ (v28.alloc (spO 0 0))
              rw [← Hv29] at Xv29 Bp29v29 Bp26v29 ⊢
              clear Hv29 Hp29
              have gA := Gp29.out
              have gB := Gp26.out
              have ne := NE.out
              have a0 := Bp29v29.out.c0
              have a1 := Bp29v29.out.c1
              have a2 := Bp29v29.out.fz 0
              have a3 := Bp29v29.out.fz 1
              have X1 := Hid.mk' (Xv29.out.far p29 P1 P2 (by simp only [List.length_cons, List.length_nil]; omega))
              have A1 := Hid.mk' (Bp29v29.out.set P1 P2)
              have B1 := Hid.mk' ((Bp26v29.out.other 0 (k := p29) (.int .u64 P1) (by omega)).other 1 (k := p29) (.int .u64 P2) (by omega))
              have X2 := Hid.mk' (X1.out.far p26 Q1 Q2 (by simp only [List.length_cons, List.length_nil]; omega))
              have A2 := Hid.mk' ((A1.out.other 0 (k := p26) (.int .u64 Q1) (by omega)).other 1 (k := p26) (.int .u64 Q2) (by omega))
              have B2 := Hid.mk' (B1.out.set Q1 Q2)
              clear ne
              refine held_one 12 (by kernel_rfl) rfl (fun K hK => ?_)
              go_simp
              refine hK.out _ _ X1.out (fun _ => ?_)
              clear hK K
              try simp only [List.setIfInBounds_toArray, List.set_cons_zero, List.set_cons_succ]
              have b0 := B1.out.c0
              have b1 := B1.out.c1
              have b2 := B1.out.fz 0
              have b3 := B1.out.fz 1
              refine held_one 13 (by kernel_rfl) rfl (fun K hK => ?_)
              go_simp
              refine hK.out _ _ X2.out (fun _ => ?_)
              clear hK K
              try simp only [List.setIfInBounds_toArray, List.set_cons_zero, List.set_cons_succ]
              refine held_take 14 14 (.bool C) rfl rfl (by kernel_rfl) (by kernel_rfl) (by kernel_rfl) (fun _ _ _ h => h) (Or.inl ⟨by rfl, fun u hu => ?_⟩) X2.out ?_
              · go_simp
              simp only [Act.put, List.setIfInBounds_toArray, List.set_cons_zero, List.set_cons_succ]
              refine wpAnyH_done (by kernel_rfl) ?_ _
              go_wp2_with fail
              go_meet
              exact ⟨p29, p26, P1, P2, Q1, Q2, rfl, rfl, rfl, Hid.mk' ⟨X2.out, A2.out, B2.out, gA, gB, HR.out⟩⟩
          · go_simp
            have Xv30 := Hid.mk' (Xv27.out.below (bl1 v27 (spO 0 0)))
            refine hK.out _ _ Xv30.out (fun _ => ?_)
            clear hK K
            try simp only [List.setIfInBounds_toArray, List.set_cons_zero, List.set_cons_succ]
            obtain ⟨p30, Hp30⟩ : ∃ p30, p30 = v27.heap.size := ⟨_, rfl⟩
            have Bp30v30 : Hid (Box (v27.alloc (spO 0 0)) p30 0 0) := Hid.mk' (Box.new v27 0 0 Hp30)
            have Gp30 : Hid (w.heap.size + 1 + 1 + 1 < p30) := Hid.mk' (by rw [Hp30]; exact (Xv27.out.at 3 (p := (0, 0)) rfl).lt)
            have NE : Hid (p26 < p30) := Hid.mk' (by rw [Hp30]; exact Bp26v27.out.lt)
            have Bp26v30 := Hid.mk' (Bp26v27.out.below (bl1 v27 (spO 0 0)))
            rw [← Hp30]
            obtain ⟨v30, Hv30⟩ : ∃ v30, v30 = v27.alloc (spO 0 0) := ⟨_, rfl⟩
            change wpAnyH _ _ _ _ _ _ _ _ (v27.alloc (spO 0 0))
            rw [← Hv30] at Xv30 Bp30v30 Bp26v30 ⊢
            clear Hv30 Hp30
            refine wpAnyH_ready (rs := [5]) (by kernel_rfl) (by simp) (AllReadyH.cons rfl (fun K hK => ?_) (AllReadyH.nil))
            · go_simp
              go_wp2_with (first | (go_at_call 44; refine (HL.out v30).mono ?_; rintro e v31 ⟨⟨⟨P1, P2⟩, ⟨Q1, Q2⟩, rfl, hres⟩, hb⟩))
              have Xv31 := Hid.mk' (Xv30.out.below hb)
              have HR := Hid.mk' hres
              have Bp30v31 := Hid.mk' (Bp30v30.out.below hb)
              have Bp26v31 := Hid.mk' (Bp26v30.out.below hb)
              clear hb hres
              refine hK.out _ _ Xv31.out (fun _ => ?_)
              clear hK K
              try simp only [List.setIfInBounds_toArray, List.set_cons_zero, List.set_cons_succ]
              refine held_take 6 30 (.tuple #[spV (P1, P2), spV (Q1, Q2), .bool C]) rfl rfl (by kernel_rfl) (by kernel_rfl) (by kernel_rfl) (fun _ _ _ h => h) (Or.inl ⟨by rfl, fun u hu => ?_⟩) Xv31.out ?_
              · go_simp
              simp only [Act.put, List.setIfInBounds_toArray, List.set_cons_zero, List.set_cons_succ]
              refine held_take 7 37 (spV (P1, P2)) rfl rfl (by kernel_rfl) (by kernel_rfl) (by kernel_rfl) (fun _ _ _ h => h) (Or.inl ⟨by rfl, fun u hu => ?_⟩) Xv31.out ?_
              · go_simp
              simp only [Act.put, List.setIfInBounds_toArray, List.set_cons_zero, List.set_cons_succ]
              refine held_take 8 38 (spV (Q1, Q2)) rfl rfl (by kernel_rfl) (by kernel_rfl) (by kernel_rfl) (fun _ _ _ h => h) (Or.inl ⟨by rfl, fun u hu => ?_⟩) Xv31.out ?_
              · go_simp
              simp only [Act.put, List.setIfInBounds_toArray, List.set_cons_zero, List.set_cons_succ]
              refine held_take 9 39 (.bool C) rfl rfl (by kernel_rfl) (by kernel_rfl) (by kernel_rfl) (fun _ _ _ h => h) (Or.inl ⟨by rfl, fun u hu => ?_⟩) Xv31.out ?_
              · go_simp
              simp only [Act.put, List.setIfInBounds_toArray, List.set_cons_zero, List.set_cons_succ]
              have gA := Gp30.out
              have gB := Gp26.out
              have ne := NE.out
              have a0 := Bp30v31.out.c0
              have a1 := Bp30v31.out.c1
              have a2 := Bp30v31.out.fz 0
              have a3 := Bp30v31.out.fz 1
              have X1 := Hid.mk' (Xv31.out.far p30 P1 P2 (by simp only [List.length_cons, List.length_nil]; omega))
              have A1 := Hid.mk' (Bp30v31.out.set P1 P2)
              have B1 := Hid.mk' ((Bp26v31.out.other 0 (k := p30) (.int .u64 P1) (by omega)).other 1 (k := p30) (.int .u64 P2) (by omega))
              have X2 := Hid.mk' (X1.out.far p26 Q1 Q2 (by simp only [List.length_cons, List.length_nil]; omega))
              have A2 := Hid.mk' ((A1.out.other 0 (k := p26) (.int .u64 Q1) (by omega)).other 1 (k := p26) (.int .u64 Q2) (by omega))
              have B2 := Hid.mk' (B1.out.set Q1 Q2)
              clear ne
              refine held_one 12 (by kernel_rfl) rfl (fun K hK => ?_)
              go_simp
              refine hK.out _ _ X1.out (fun _ => ?_)
              clear hK K
              try simp only [List.setIfInBounds_toArray, List.set_cons_zero, List.set_cons_succ]
              have b0 := B1.out.c0
              have b1 := B1.out.c1
              have b2 := B1.out.fz 0
              have b3 := B1.out.fz 1
              refine held_one 13 (by kernel_rfl) rfl (fun K hK => ?_)
              go_simp
              refine hK.out _ _ X2.out (fun _ => ?_)
              clear hK K
              try simp only [List.setIfInBounds_toArray, List.set_cons_zero, List.set_cons_succ]
              refine held_take 14 14 (.bool C) rfl rfl (by kernel_rfl) (by kernel_rfl) (by kernel_rfl) (fun _ _ _ h => h) (Or.inl ⟨by rfl, fun u hu => ?_⟩) X2.out ?_
              · go_simp
              simp only [Act.put, List.setIfInBounds_toArray, List.set_cons_zero, List.set_cons_succ]
              refine wpAnyH_done (by kernel_rfl) ?_ _
              go_wp2_with fail
              go_meet
              exact ⟨p30, p26, P1, P2, Q1, Q2, rfl, rfl, rfl, Hid.mk' ⟨X2.out, A2.out, B2.out, gA, gB, HR.out⟩⟩
        · go_simp
          have Xv32 := Hid.mk' (Xv26.out.below (bl1 v26 (spO 0 0)))
          refine hK.out _ _ Xv32.out (fun _ => ?_)
          clear hK K
          try simp only [List.setIfInBounds_toArray, List.set_cons_zero, List.set_cons_succ]
          obtain ⟨p32, Hp32⟩ : ∃ p32, p32 = v26.heap.size := ⟨_, rfl⟩
          have Bp32v32 : Hid (Box (v26.alloc (spO 0 0)) p32 0 0) := Hid.mk' (Box.new v26 0 0 Hp32)
          have Gp32 : Hid (w.heap.size + 1 + 1 + 1 < p32) := Hid.mk' (by rw [Hp32]; exact (Xv26.out.at 3 (p := (0, 0)) rfl).lt)
          have NE : Hid (p26 < p32) := Hid.mk' (by rw [Hp32]; exact Bp26v26.out.lt)
          have Bp26v32 := Hid.mk' (Bp26v26.out.below (bl1 v26 (spO 0 0)))
          rw [← Hp32]
          obtain ⟨v32, Hv32⟩ : ∃ v32, v32 = v26.alloc (spO 0 0) := ⟨_, rfl⟩
          change wpAnyH _ _ _ _ _ _ _ _ (v26.alloc (spO 0 0))
          rw [← Hv32] at Xv32 Bp32v32 Bp26v32 ⊢
          clear Hv32 Hp32
          refine wpAnyH_ready (rs := [2]) (by kernel_rfl) (by simp) (AllReadyH.cons rfl (fun K hK => ?_) (AllReadyH.nil))
          · go_simp
            go_wp2_with (first | (go_at_call 45; refine (HT.out v32).mono ?_; rintro e v33 ⟨rfl, hb⟩))
            have Xv33 := Hid.mk' (Xv32.out.below hb)
            have Bp32v33 := Hid.mk' (Bp32v32.out.below hb)
            have Bp26v33 := Hid.mk' (Bp26v32.out.below hb)
            clear hb
            refine hK.out _ _ Xv33.out (fun _ => ?_)
            clear hK K
            try simp only [List.setIfInBounds_toArray, List.set_cons_zero, List.set_cons_succ]
            refine wpAnyH_ready (rs := [5]) (by kernel_rfl) (by simp) (AllReadyH.cons rfl (fun K hK => ?_) (AllReadyH.nil))
            · go_simp
              go_wp2_with (first | (go_at_call 44; refine (HL.out v33).mono ?_; rintro e v34 ⟨⟨⟨P1, P2⟩, ⟨Q1, Q2⟩, rfl, hres⟩, hb⟩))
              have Xv34 := Hid.mk' (Xv33.out.below hb)
              have HR := Hid.mk' hres
              have Bp32v34 := Hid.mk' (Bp32v33.out.below hb)
              have Bp26v34 := Hid.mk' (Bp26v33.out.below hb)
              clear hb hres
              refine hK.out _ _ Xv34.out (fun _ => ?_)
              clear hK K
              try simp only [List.setIfInBounds_toArray, List.set_cons_zero, List.set_cons_succ]
              refine held_take 6 30 (.tuple #[spV (P1, P2), spV (Q1, Q2), .bool C]) rfl rfl (by kernel_rfl) (by kernel_rfl) (by kernel_rfl) (fun _ _ _ h => h) (Or.inl ⟨by rfl, fun u hu => ?_⟩) Xv34.out ?_
              · go_simp
              simp only [Act.put, List.setIfInBounds_toArray, List.set_cons_zero, List.set_cons_succ]
              refine held_take 7 37 (spV (P1, P2)) rfl rfl (by kernel_rfl) (by kernel_rfl) (by kernel_rfl) (fun _ _ _ h => h) (Or.inl ⟨by rfl, fun u hu => ?_⟩) Xv34.out ?_
              · go_simp
              simp only [Act.put, List.setIfInBounds_toArray, List.set_cons_zero, List.set_cons_succ]
              refine held_take 8 38 (spV (Q1, Q2)) rfl rfl (by kernel_rfl) (by kernel_rfl) (by kernel_rfl) (fun _ _ _ h => h) (Or.inl ⟨by rfl, fun u hu => ?_⟩) Xv34.out ?_
              · go_simp
              simp only [Act.put, List.setIfInBounds_toArray, List.set_cons_zero, List.set_cons_succ]
              refine held_take 9 39 (.bool C) rfl rfl (by kernel_rfl) (by kernel_rfl) (by kernel_rfl) (fun _ _ _ h => h) (Or.inl ⟨by rfl, fun u hu => ?_⟩) Xv34.out ?_
              · go_simp
              simp only [Act.put, List.setIfInBounds_toArray, List.set_cons_zero, List.set_cons_succ]
              have gA := Gp32.out
              have gB := Gp26.out
              have ne := NE.out
              have a0 := Bp32v34.out.c0
              have a1 := Bp32v34.out.c1
              have a2 := Bp32v34.out.fz 0
              have a3 := Bp32v34.out.fz 1
              have X1 := Hid.mk' (Xv34.out.far p32 P1 P2 (by simp only [List.length_cons, List.length_nil]; omega))
              have A1 := Hid.mk' (Bp32v34.out.set P1 P2)
              have B1 := Hid.mk' ((Bp26v34.out.other 0 (k := p32) (.int .u64 P1) (by omega)).other 1 (k := p32) (.int .u64 P2) (by omega))
              have X2 := Hid.mk' (X1.out.far p26 Q1 Q2 (by simp only [List.length_cons, List.length_nil]; omega))
              have A2 := Hid.mk' ((A1.out.other 0 (k := p26) (.int .u64 Q1) (by omega)).other 1 (k := p26) (.int .u64 Q2) (by omega))
              have B2 := Hid.mk' (B1.out.set Q1 Q2)
              clear ne
              refine held_one 12 (by kernel_rfl) rfl (fun K hK => ?_)
              go_simp
              refine hK.out _ _ X1.out (fun _ => ?_)
              clear hK K
              try simp only [List.setIfInBounds_toArray, List.set_cons_zero, List.set_cons_succ]
              have b0 := B1.out.c0
              have b1 := B1.out.c1
              have b2 := B1.out.fz 0
              have b3 := B1.out.fz 1
              refine held_one 13 (by kernel_rfl) rfl (fun K hK => ?_)
              go_simp
              refine hK.out _ _ X2.out (fun _ => ?_)
              clear hK K
              try simp only [List.setIfInBounds_toArray, List.set_cons_zero, List.set_cons_succ]
              refine held_take 14 14 (.bool C) rfl rfl (by kernel_rfl) (by kernel_rfl) (by kernel_rfl) (fun _ _ _ h => h) (Or.inl ⟨by rfl, fun u hu => ?_⟩) X2.out ?_
              · go_simp
              simp only [Act.put, List.setIfInBounds_toArray, List.set_cons_zero, List.set_cons_succ]
              refine wpAnyH_done (by kernel_rfl) ?_ _
              go_wp2_with fail
              go_meet
              exact ⟨p32, p26, P1, P2, Q1, Q2, rfl, rfl, rfl, Hid.mk' ⟨X2.out, A2.out, B2.out, gA, gB, HR.out⟩⟩
  case rest =>
    obtain ⟨p, q, P1, P2, Q1, Q2, rfl, rfl, rfl, HM⟩ := hcut
    obtain ⟨X, k1, k2, l1, l2, hres⟩ := HM.out
    obtain ⟨c0, c1, d0, d1, y0, y1, z0, z1, f0, f1, t0, t1⟩ := four X
    have g0 := k1.c0
    have g1 := k1.c1
    have j0 := k2.c0
    have j1 := k2.c1
    have X := Hid.mk' X
    have n1 : ¬ (w.heap.size + 1 + 1 = p) := by omega
    have n2 : ¬ (w.heap.size + 1 + 1 = q) := by omega
    have n3 : ¬ (w.heap.size + 1 + 1 + 1 = p) := by omega
    have n4 : ¬ (w.heap.size + 1 + 1 + 1 = q) := by omega
    have HR := Hid.mk' hres
    clear HM k1 k2 l1 l2 hres HT HL HK
    cases C with
    | false =>
      go_wp2_with fail
      have Y := X.out.two 0 0 0 0
      have R := Y.at 2 (p := (0, 0)) rfl
      have R' := Y.at 3 (p := (0, 0)) rfl
      refine ret_sp4 rfl rfl R.c0 R.c1 rfl R'.c0 R'.c1 rfl ?_
      exact ⟨rfl, Y.old⟩
    | true =>
      obtain ⟨rfl, rfl⟩ := HR.out rfl
      clear HR
      go_wp2_with fail
      go_region
      all_goals
        go_wp2_with fail
        have Y := (X.out.two P1 P2 Q1 Q2).dr (u' := _) ⟨1, rfl⟩
        have R := Y.at 2 (p := (P1, P2)) rfl
        have R' := Y.at 3 (p := (Q1, Q2)) rfl
        refine ret_sp4 rfl rfl R.c0 R.c1 rfl R'.c0 R'.c1 rfl ?_
        exact ⟨rfl, Y.old⟩

set_option maxHeartbeats 1000000 in
theorem rcut_any (o : Int) (y : Bool) (al ah bl bh : Int) (w : World) (h : U4 al ah bl bh) :
    Calls Try.prog 25 #[.int .u8 o, .bool y, spV (al, ah), spV (bl, bh)] w fun e w' =>
      e = .returned (.tuple #[spV (ctX o y al ah bl bh), spV (ctY o y al ah bl bh), .bool (ctC o y al ah bl bh), .int .i64 (ctE o al ah bl bh)]) ∧ Below w.heap.size w w' := by
  have X4 := Hid.mk' (((((BxE.nil w).add al ah).add bl bh).add 0 0).add 0 0).out
  have HB : Hid (∀ w1, Below _ _ w1 → Bxs w w1 [(al, ah), (bl, bh), (0, 0), (0, 0)]) := Hid.mk' (fun w1 b => X4.out.below b)
  by_cases ho : 23 ≤ o ∧ o ≤ 32
  · have E : ctE o al ah bl bh = cbS al ah bl bh := by unfold ctE; rw [if_pos ho]
    by_cases h1 : al ≤ ah
    · have e1 := ckS_0 h1
      by_cases h2 : bl ≤ bh
      · exact rcut_in o y al ah bl bh w h ho h1 h2
      · have e2 := ckS_1 h2
        have HK : Hid (∀ u, Calls Try.prog 43 #[.int .u8 o] u fun e w' => e = .returned (.bool true) ∧ u = w') := Hid.mk' (fun u => by
          have := compares_any o u
          rw [show (decide (23 ≤ o) && decide (o ≤ 32)) = true by simp [ho]] at this
          exact this)
        have hb : cbS al ah bl bh = 150 := by unfold cbS; rw [if_neg (fun k => h2 k.2)]
        have C : ctC o y al ah bl bh = false := by unfold ctC; rw [E, hb]; rfl
        unfold ctX ctY
        rw [C, E, hb]
        clear C E ho h1 h2 h X4 hb
        go_enter Try.func25, Try.ntmps25
        go_wp2_with fail
        refine (HK.out _).mono ?_
        rintro e w1 ⟨rfl, rfl⟩
        go_wp2_with fail
        refine (rcheck_any _ _ _).mono ?_
        rintro e w1 ⟨rfl, b1⟩
        rw [e1]
        have X := HB.out w1 b1
        obtain ⟨c0, c1, d0, d1, -⟩ := four X
        have X := Hid.mk' X
        clear b1
        go_wp2_with fail
        refine (rcheck_any _ _ _).mono ?_
        rintro e w2 ⟨rfl, b2⟩
        rw [e2]
        have X := X.out.below b2
        clear c0 c1 d0 d1
        obtain ⟨c0, c1, d0, d1, y0, y1, z0, z1, f0, f1, t0, t1⟩ := four X
        have X := Hid.mk' X
        clear b2
        go_wp2_with fail
        have Y := X.out.two 0 0 0 0
        have R := Y.at 2 (p := (0, 0)) rfl
        have R' := Y.at 3 (p := (0, 0)) rfl
        refine ret_sp4 rfl rfl R.c0 R.c1 rfl R'.c0 R'.c1 rfl ?_
        exact ⟨rfl, Y.old⟩
    · have e1 := ckS_1 h1
      have HK : Hid (∀ u, Calls Try.prog 43 #[.int .u8 o] u fun e w' => e = .returned (.bool true) ∧ u = w') := Hid.mk' (fun u => by
        have := compares_any o u
        rw [show (decide (23 ≤ o) && decide (o ≤ 32)) = true by simp [ho]] at this
        exact this)
      have hb : cbS al ah bl bh = 150 := by unfold cbS; rw [if_neg (fun k => h1 k.1)]
      have C : ctC o y al ah bl bh = false := by unfold ctC; rw [E, hb]; rfl
      unfold ctX ctY
      rw [C, E, hb]
      clear C E ho h1 h X4 hb
      go_enter Try.func25, Try.ntmps25
      go_wp2_with fail
      refine (HK.out _).mono ?_
      rintro e w1 ⟨rfl, rfl⟩
      go_wp2_with fail
      refine (rcheck_any _ _ _).mono ?_
      rintro e w1 ⟨rfl, b1⟩
      rw [e1]
      have X := HB.out w1 b1
      obtain ⟨c0, c1, d0, d1, y0, y1, z0, z1, f0, f1, t0, t1⟩ := four X
      have X := Hid.mk' X
      clear b1
      go_wp2_with fail
      have Y := X.out.two 0 0 0 0
      have R := Y.at 2 (p := (0, 0)) rfl
      have R' := Y.at 3 (p := (0, 0)) rfl
      refine ret_sp4 rfl rfl R.c0 R.c1 rfl R'.c0 R'.c1 rfl ?_
      exact ⟨rfl, Y.old⟩
  · have HK : Hid (∀ u, Calls Try.prog 43 #[.int .u8 o] u fun e w' => e = .returned (.bool false) ∧ u = w') := Hid.mk' (fun u => by
      have := compares_any o u
      rw [show (decide (23 ≤ o) && decide (o ≤ 32)) = false by simp; omega] at this
      exact this)
    have E : ctE o al ah bl bh = 2 := by unfold ctE; rw [if_neg ho]
    have C : ctC o y al ah bl bh = false := by unfold ctC; rw [E]; rfl
    unfold ctX ctY
    rw [C, E]
    clear C E ho h
    go_enter Try.func25, Try.ntmps25
    go_wp2_with fail
    refine (HK.out _).mono ?_
    rintro e w1 ⟨rfl, rfl⟩
    go_wp2_with fail
    have R := X4.out.at 2 (p := (0, 0)) rfl
    have R' := X4.out.at 3 (p := (0, 0)) rfl
    refine ret_sp4 rfl rfl R.c0 R.c1 rfl R'.c0 R'.c1 rfl ?_
    exact ⟨rfl, X4.out.old⟩
end Go.Proofs.Ytpmbdnmiokkknaa
