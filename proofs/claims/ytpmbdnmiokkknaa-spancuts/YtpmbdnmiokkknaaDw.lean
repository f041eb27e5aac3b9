/- The document's left: another one. -/
import Derived.Test.YtpmbdnmiokkknaaDt
import Derived.Test.YtpmbdnmiokkknaaDk
namespace Go.Proofs.Ytpmbdnmiokkknaa
open Go.ChangeShapes Go.WideShapes Go.ChangeAt Go.RowKit
set_option maxRecDepth 10000
set_option linter.unusedVariables false

set_option maxHeartbeats 2000000 in
theorem left_28 (al ah bl bh : Int) (w : World) (h : U4 al ah bl bh) (ha : al ≤ ah) (hb : bl ≤ bh) :
    Calls Try.prog 44 #[.int .u8 28, spV (al, ah), spV (bl, bh)] w fun e w' =>
      e = .returned (.tuple #[spV (woS al ah bl bh), spV (woS bl bh al ah), .bool (neC al ah bl bh)]) ∧ Below w.heap.size w w' := by
  have X4 := Hid.mk' (((((BxE.nil w).add al ah).add bl bh).add 0 0).add 0 0).out
  have W1 := Hid.mk' (fun u => rapart_any al ah bl bh u h ha)
  have W2 := Hid.mk' (fun u => rapart_any bl bh al ah u h.swap hb)
  have HS : Hid (∀ w' (p q : Int × Int), Bxs w w' [(al, ah), (bl, bh), p, q] → w'.cell? ⟨w.heap.size, 0, none⟩ = some (.int .u64 al) ∧ w'.cell? ⟨w.heap.size, 1, none⟩ = some (.int .u64 ah) ∧ w'.cell? ⟨w.heap.size + 1, 0, none⟩ = some (.int .u64 bl) ∧ w'.cell? ⟨w.heap.size + 1, 1, none⟩ = some (.int .u64 bh)) := Hid.mk' (fun w' p q h => ⟨(h.at 0 (p := (al, ah)) rfl).c0, (h.at 0 (p := (al, ah)) rfl).c1, (h.at 1 (p := (bl, bh)) rfl).c0, (h.at 1 (p := (bl, bh)) rfl).c1⟩)
  generalize woS al ah bl bh = P at *
  generalize woS bl bh al ah = Q at *
  obtain ⟨P1, P2⟩ := P
  obtain ⟨Q1, Q2⟩ := Q
  by_cases s1 : al = ah
  · have e1 : decide (al = ah) = true := decide_eq_true s1
    by_cases s2 : bl = bh
    · have e2 : decide (bl = bh) = true := decide_eq_true s2
      have e : neC al ah bl bh = !(al == bl) := by
        unfold neC
        rw [e1, ← s1, ← s2]
        rw [Bool.eq_iff_iff]; simp
      rw [e]
      clear e s1 s2 ha hb h
      go_enter Try.func44, Try.ntmps44
      go_wp2_with fail
      have X := X4.out
      obtain ⟨u, hu⟩ : ∃ u, u = ((((w.alloc (spO al ah)).alloc (spO bl bh)).alloc (spO 0 0)).alloc (spO 0 0)) := ⟨_, rfl⟩
      rw [← hu] at X ⊢
      clear hu X4
      have X := Hid.mk' X
      refine wp_region_held_drew (S := fun w' => w'.cell? ⟨w.heap.size, 0, none⟩ = some (.int .u64 al) ∧ w'.cell? ⟨w.heap.size, 1, none⟩ = some (.int .u64 ah) ∧ w'.cell? ⟨w.heap.size + 1, 0, none⟩ = some (.int .u64 bl) ∧ w'.cell? ⟨w.heap.size + 1, 1, none⟩ = some (.int .u64 bh)) (by kernel_rfl) (HS.out _ (0, 0) (0, 0) (X.out.below ((Below.refl u.heap.size u).drew))) (fun hHeld => ?_)
      change wpAnyH _ _ _ _ _ 23 #[false, false, false, false, false, false, false, false, false, false, false, false, false, false, false, false, false, false, false, false, false, false, false] _ _
      refine held_take 0 37 (.agg #[.int .u64 al, .int .u64 ah]) rfl rfl (by kernel_rfl) (by kernel_rfl) (by kernel_rfl) (fun _ _ _ h => h) (Or.inl ⟨by rfl, fun u hu => ?_⟩) hHeld ?_
      · obtain ⟨q0, q1, q2, q3⟩ := hu
        go_simp
      simp only [Act.put, List.setIfInBounds_toArray, List.set_cons_zero, List.set_cons_succ]
      refine held_take 1 38 (.agg #[.int .u64 bl, .int .u64 bh]) rfl rfl (by kernel_rfl) (by kernel_rfl) (by kernel_rfl) (fun _ _ _ h => h) (Or.inl ⟨by rfl, fun u hu => ?_⟩) hHeld ?_
      · obtain ⟨q0, q1, q2, q3⟩ := hu
        go_simp
      simp only [Act.put, List.setIfInBounds_toArray, List.set_cons_zero, List.set_cons_succ]
      refine held_take 3 40 (.agg #[.int .u64 bl, .int .u64 bh]) rfl rfl (by kernel_rfl) (by kernel_rfl) (by kernel_rfl) (fun _ _ _ h => h) (Or.inl ⟨by rfl, fun u hu => ?_⟩) hHeld ?_
      · obtain ⟨q0, q1, q2, q3⟩ := hu
        go_simp
      simp only [Act.put, List.setIfInBounds_toArray, List.set_cons_zero, List.set_cons_succ]
      refine held_take 4 41 (.agg #[.int .u64 al, .int .u64 ah]) rfl rfl (by kernel_rfl) (by kernel_rfl) (by kernel_rfl) (fun _ _ _ h => h) (Or.inl ⟨by rfl, fun u hu => ?_⟩) hHeld ?_
      · obtain ⟨q0, q1, q2, q3⟩ := hu
        go_simp
      simp only [Act.put, List.setIfInBounds_toArray, List.set_cons_zero, List.set_cons_succ]
      refine held_take 6 43 (.agg #[.int .u64 al, .int .u64 ah]) rfl rfl (by kernel_rfl) (by kernel_rfl) (by kernel_rfl) (fun _ _ _ h => h) (Or.inl ⟨by rfl, fun u hu => ?_⟩) hHeld ?_
      · obtain ⟨q0, q1, q2, q3⟩ := hu
        go_simp
      simp only [Act.put, List.setIfInBounds_toArray, List.set_cons_zero, List.set_cons_succ]
      refine held_one 2 (by kernel_rfl) rfl (fun K hK => ?_)
      go_simp
      go_wp2_with (first | (go_at_call 61; refine (W1.out u.drew).mono ?_; rintro e w4 ⟨rfl, b4⟩; have X5 := Hid.mk' (X.out.below (((Below.refl u.heap.size u).drew).trans b4)); clear b4))
      refine hK.out _ _ (HS.out _ (0, 0) (0, 0) X5.out) (fun hHeld => ?_)
      clear hK K
      try simp only [List.setIfInBounds_toArray, List.set_cons_zero, List.set_cons_succ]
      refine held_one 5 (by kernel_rfl) rfl (fun K hK => ?_)
      go_simp
      go_wp2_with (first | (go_at_call 61; refine (W2.out w4).mono ?_; rintro e w5 ⟨rfl, b5⟩; have X6 := Hid.mk' (X5.out.below b5); clear b5))
      refine hK.out _ _ (HS.out _ (0, 0) (0, 0) X6.out) (fun hHeld => ?_)
      clear hK K
      try simp only [List.setIfInBounds_toArray, List.set_cons_zero, List.set_cons_succ]
      refine held_one 7 (by kernel_rfl) rfl (fun K hK => ?_)
      go_simp
      go_wp2_with (first | (go_at_call 54; refine (rsingle_any al ah w5).mono ?_; rintro e w6 ⟨rfl, b6⟩; rw [e1]; have X7 := Hid.mk' (X6.out.below b6); clear b6))
      refine hK.out _ _ (HS.out _ (0, 0) (0, 0) X7.out) (fun hHeld => ?_)
      clear hK K
      try simp only [List.setIfInBounds_toArray, List.set_cons_zero, List.set_cons_succ]
      refine held_take 8 45 (.bool true) rfl rfl (by kernel_rfl) (by kernel_rfl) (by kernel_rfl) (fun _ _ _ h => h) (Or.inl ⟨by rfl, fun u hu => ?_⟩) hHeld ?_
      · obtain ⟨q0, q1, q2, q3⟩ := hu
        go_simp
      simp only [Act.put, List.setIfInBounds_toArray, List.set_cons_zero, List.set_cons_succ]
      refine held_take 9 46 (.agg #[.int .u64 bl, .int .u64 bh]) rfl rfl (by kernel_rfl) (by kernel_rfl) (by kernel_rfl) (fun _ _ _ h => h) (Or.inl ⟨by rfl, fun u hu => ?_⟩) hHeld ?_
      · obtain ⟨q0, q1, q2, q3⟩ := hu
        go_simp
      simp only [Act.put, List.setIfInBounds_toArray, List.set_cons_zero, List.set_cons_succ]
      refine held_one 10 (by kernel_rfl) rfl (fun K hK => ?_)
      go_simp
      go_wp2_with (first | (go_at_call 54; refine (rsingle_any bl bh w6).mono ?_; rintro e w7 ⟨rfl, b7⟩; rw [e2]; have X8 := Hid.mk' (X7.out.below b7); clear b7))
      refine hK.out _ _ (HS.out _ (0, 0) (0, 0) X8.out) (fun hHeld => ?_)
      clear hK K
      try simp only [List.setIfInBounds_toArray, List.set_cons_zero, List.set_cons_succ]
      refine held_take 11 48 (.bool true) rfl rfl (by kernel_rfl) (by kernel_rfl) (by kernel_rfl) (fun _ _ _ h => h) (Or.inl ⟨by rfl, fun u hu => ?_⟩) hHeld ?_
      · obtain ⟨q0, q1, q2, q3⟩ := hu
        go_simp
      simp only [Act.put, List.setIfInBounds_toArray, List.set_cons_zero, List.set_cons_succ]
      refine held_take 12 49 (.bool true) rfl rfl (by kernel_rfl) (by kernel_rfl) (by kernel_rfl) (fun _ _ _ h => h) (Or.inl ⟨by rfl, fun u hu => ?_⟩) hHeld ?_
      · obtain ⟨q0, q1, q2, q3⟩ := hu
        go_simp
      simp only [Act.put, List.setIfInBounds_toArray, List.set_cons_zero, List.set_cons_succ]
      refine held_take 13 50 (.pointer (some ⟨w.heap.size, 0, none⟩)) rfl rfl (by kernel_rfl) (by kernel_rfl) (by kernel_rfl) (fun _ _ _ h => h) (Or.inl ⟨by rfl, fun u hu => ?_⟩) hHeld ?_
      · obtain ⟨q0, q1, q2, q3⟩ := hu
        go_simp
      simp only [Act.put, List.setIfInBounds_toArray, List.set_cons_zero, List.set_cons_succ]
      refine held_take 14 51 (.int .u64 al) rfl rfl (by kernel_rfl) (by kernel_rfl) (by kernel_rfl) (fun _ _ _ h => h) (Or.inl ⟨by rfl, fun u hu => ?_⟩) hHeld ?_
      · obtain ⟨q0, q1, q2, q3⟩ := hu
        go_simp
      simp only [Act.put, List.setIfInBounds_toArray, List.set_cons_zero, List.set_cons_succ]
      refine held_take 15 52 (.pointer (some ⟨w.heap.size + 1, 0, none⟩)) rfl rfl (by kernel_rfl) (by kernel_rfl) (by kernel_rfl) (fun _ _ _ h => h) (Or.inl ⟨by rfl, fun u hu => ?_⟩) hHeld ?_
      · obtain ⟨q0, q1, q2, q3⟩ := hu
        go_simp
      simp only [Act.put, List.setIfInBounds_toArray, List.set_cons_zero, List.set_cons_succ]
      refine held_take 16 53 (.int .u64 bl) rfl rfl (by kernel_rfl) (by kernel_rfl) (by kernel_rfl) (fun _ _ _ h => h) (Or.inl ⟨by rfl, fun u hu => ?_⟩) hHeld ?_
      · obtain ⟨q0, q1, q2, q3⟩ := hu
        go_simp
      simp only [Act.put, List.setIfInBounds_toArray, List.set_cons_zero, List.set_cons_succ]
      refine held_take 17 54 (.bool (al == bl)) rfl rfl (by kernel_rfl) (by kernel_rfl) (by kernel_rfl) (fun _ _ _ h => h) (Or.inl ⟨by rfl, fun u hu => ?_⟩) hHeld ?_
      · obtain ⟨q0, q1, q2, q3⟩ := hu
        go_simp
      simp only [Act.put, List.setIfInBounds_toArray, List.set_cons_zero, List.set_cons_succ]
      refine held_take 18 55 (.bool (al == bl)) rfl rfl (by kernel_rfl) (by kernel_rfl) (by kernel_rfl) (fun _ _ _ h => h) (Or.inl ⟨by rfl, fun u hu => ?_⟩) hHeld ?_
      · obtain ⟨q0, q1, q2, q3⟩ := hu
        go_simp
      simp only [Act.put, List.setIfInBounds_toArray, List.set_cons_zero, List.set_cons_succ]
      refine held_take 19 56 (.bool (!(al == bl))) rfl rfl (by kernel_rfl) (by kernel_rfl) (by kernel_rfl) (fun _ _ _ h => h) (Or.inl ⟨by rfl, fun u hu => ?_⟩) hHeld ?_
      · obtain ⟨q0, q1, q2, q3⟩ := hu
        go_simp
      simp only [Act.put, List.setIfInBounds_toArray, List.set_cons_zero, List.set_cons_succ]
      have y0 := (X8.out.at 2 (p := (0, 0)) rfl).c0
      have y1 := (X8.out.at 2 (p := (0, 0)) rfl).c1
      have f0 := (X8.out.at 2 (p := (0, 0)) rfl).fz 0
      have f1 := (X8.out.at 2 (p := (0, 0)) rfl).fz 1
      have z0 := (X8.out.at 3 (p := (0, 0)) rfl).c0
      have z1 := (X8.out.at 3 (p := (0, 0)) rfl).c1
      have t0 := (X8.out.at 3 (p := (0, 0)) rfl).fz 0
      have t1 := (X8.out.at 3 (p := (0, 0)) rfl).fz 1
      have Y7 := Hid.mk' (X8.out.set 2 P1 P2 (by simp))
      have Y8 := Hid.mk' (Y7.out.set 3 Q1 Q2 (by simp))
      refine held_one 20 (by kernel_rfl) rfl (fun K hK => ?_)
      go_simp
      refine hK.out _ _ (HS.out _ (P1, P2) (0, 0) Y7.out) (fun hHeld => ?_)
      clear hK K
      try simp only [List.setIfInBounds_toArray, List.set_cons_zero, List.set_cons_succ]
      have z0 := (Y7.out.at 3 (p := (0, 0)) rfl).c0
      have z1 := (Y7.out.at 3 (p := (0, 0)) rfl).c1
      have t0 := (Y7.out.at 3 (p := (0, 0)) rfl).fz 0
      have t1 := (Y7.out.at 3 (p := (0, 0)) rfl).fz 1
      refine held_one 21 (by kernel_rfl) rfl (fun K hK => ?_)
      go_simp
      refine hK.out _ _ (HS.out _ (P1, P2) (Q1, Q2) Y8.out) (fun hHeld => ?_)
      clear hK K
      try simp only [List.setIfInBounds_toArray, List.set_cons_zero, List.set_cons_succ]
      refine held_take 22 8 (.bool (!(al == bl))) rfl rfl (by kernel_rfl) (by kernel_rfl) (by kernel_rfl) (fun _ _ _ h => h) (Or.inl ⟨by rfl, fun u hu => ?_⟩) hHeld ?_
      · obtain ⟨q0, q1, q2, q3⟩ := hu
        go_simp
      simp only [Act.put, List.setIfInBounds_toArray, List.set_cons_zero, List.set_cons_succ]
      refine wpAnyH_done (by kernel_rfl) ?_ _
      go_wp2_with fail
      have R := Y8.out.at 2 (p := (P1, P2)) rfl
      have R' := Y8.out.at 3 (p := (Q1, Q2)) rfl
      refine ret_sp3 rfl rfl R.c0 R.c1 rfl R'.c0 R'.c1 rfl ?_
      exact ⟨rfl, Y8.out.old⟩
    · have e2 : decide (bl = bh) = false := decide_eq_false s2
      have e : neC al ah bl bh = true := by
        unfold neC
        rw [e1, Bool.eq_iff_iff]; simp; omega
      rw [e]
      clear e s1 s2 ha hb h
      go_enter Try.func44, Try.ntmps44
      go_wp2_with fail
      have X := X4.out
      obtain ⟨u, hu⟩ : ∃ u, u = ((((w.alloc (spO al ah)).alloc (spO bl bh)).alloc (spO 0 0)).alloc (spO 0 0)) := ⟨_, rfl⟩
      rw [← hu] at X ⊢
      clear hu X4
      have X := Hid.mk' X
      refine wp_region_held_drew (S := fun w' => w'.cell? ⟨w.heap.size, 0, none⟩ = some (.int .u64 al) ∧ w'.cell? ⟨w.heap.size, 1, none⟩ = some (.int .u64 ah) ∧ w'.cell? ⟨w.heap.size + 1, 0, none⟩ = some (.int .u64 bl) ∧ w'.cell? ⟨w.heap.size + 1, 1, none⟩ = some (.int .u64 bh)) (by kernel_rfl) (HS.out _ (0, 0) (0, 0) (X.out.below ((Below.refl u.heap.size u).drew))) (fun hHeld => ?_)
      change wpAnyH _ _ _ _ _ 23 #[false, false, false, false, false, false, false, false, false, false, false, false, false, false, false, false, false, false, false, false, false, false, false] _ _
      refine held_take 0 37 (.agg #[.int .u64 al, .int .u64 ah]) rfl rfl (by kernel_rfl) (by kernel_rfl) (by kernel_rfl) (fun _ _ _ h => h) (Or.inl ⟨by rfl, fun u hu => ?_⟩) hHeld ?_
      · obtain ⟨q0, q1, q2, q3⟩ := hu
        go_simp
      simp only [Act.put, List.setIfInBounds_toArray, List.set_cons_zero, List.set_cons_succ]
      refine held_take 1 38 (.agg #[.int .u64 bl, .int .u64 bh]) rfl rfl (by kernel_rfl) (by kernel_rfl) (by kernel_rfl) (fun _ _ _ h => h) (Or.inl ⟨by rfl, fun u hu => ?_⟩) hHeld ?_
      · obtain ⟨q0, q1, q2, q3⟩ := hu
        go_simp
      simp only [Act.put, List.setIfInBounds_toArray, List.set_cons_zero, List.set_cons_succ]
      refine held_take 3 40 (.agg #[.int .u64 bl, .int .u64 bh]) rfl rfl (by kernel_rfl) (by kernel_rfl) (by kernel_rfl) (fun _ _ _ h => h) (Or.inl ⟨by rfl, fun u hu => ?_⟩) hHeld ?_
      · obtain ⟨q0, q1, q2, q3⟩ := hu
        go_simp
      simp only [Act.put, List.setIfInBounds_toArray, List.set_cons_zero, List.set_cons_succ]
      refine held_take 4 41 (.agg #[.int .u64 al, .int .u64 ah]) rfl rfl (by kernel_rfl) (by kernel_rfl) (by kernel_rfl) (fun _ _ _ h => h) (Or.inl ⟨by rfl, fun u hu => ?_⟩) hHeld ?_
      · obtain ⟨q0, q1, q2, q3⟩ := hu
        go_simp
      simp only [Act.put, List.setIfInBounds_toArray, List.set_cons_zero, List.set_cons_succ]
      refine held_take 6 43 (.agg #[.int .u64 al, .int .u64 ah]) rfl rfl (by kernel_rfl) (by kernel_rfl) (by kernel_rfl) (fun _ _ _ h => h) (Or.inl ⟨by rfl, fun u hu => ?_⟩) hHeld ?_
      · obtain ⟨q0, q1, q2, q3⟩ := hu
        go_simp
      simp only [Act.put, List.setIfInBounds_toArray, List.set_cons_zero, List.set_cons_succ]
      refine held_one 2 (by kernel_rfl) rfl (fun K hK => ?_)
      go_simp
      go_wp2_with (first | (go_at_call 61; refine (W1.out u.drew).mono ?_; rintro e w4 ⟨rfl, b4⟩; have X5 := Hid.mk' (X.out.below (((Below.refl u.heap.size u).drew).trans b4)); clear b4))
      refine hK.out _ _ (HS.out _ (0, 0) (0, 0) X5.out) (fun hHeld => ?_)
      clear hK K
      try simp only [List.setIfInBounds_toArray, List.set_cons_zero, List.set_cons_succ]
      refine held_one 5 (by kernel_rfl) rfl (fun K hK => ?_)
      go_simp
      go_wp2_with (first | (go_at_call 61; refine (W2.out w4).mono ?_; rintro e w5 ⟨rfl, b5⟩; have X6 := Hid.mk' (X5.out.below b5); clear b5))
      refine hK.out _ _ (HS.out _ (0, 0) (0, 0) X6.out) (fun hHeld => ?_)
      clear hK K
      try simp only [List.setIfInBounds_toArray, List.set_cons_zero, List.set_cons_succ]
      refine held_one 7 (by kernel_rfl) rfl (fun K hK => ?_)
      go_simp
      go_wp2_with (first | (go_at_call 54; refine (rsingle_any al ah w5).mono ?_; rintro e w6 ⟨rfl, b6⟩; rw [e1]; have X7 := Hid.mk' (X6.out.below b6); clear b6))
      refine hK.out _ _ (HS.out _ (0, 0) (0, 0) X7.out) (fun hHeld => ?_)
      clear hK K
      try simp only [List.setIfInBounds_toArray, List.set_cons_zero, List.set_cons_succ]
      refine held_take 8 45 (.bool true) rfl rfl (by kernel_rfl) (by kernel_rfl) (by kernel_rfl) (fun _ _ _ h => h) (Or.inl ⟨by rfl, fun u hu => ?_⟩) hHeld ?_
      · obtain ⟨q0, q1, q2, q3⟩ := hu
        go_simp
      simp only [Act.put, List.setIfInBounds_toArray, List.set_cons_zero, List.set_cons_succ]
      refine held_take 9 46 (.agg #[.int .u64 bl, .int .u64 bh]) rfl rfl (by kernel_rfl) (by kernel_rfl) (by kernel_rfl) (fun _ _ _ h => h) (Or.inl ⟨by rfl, fun u hu => ?_⟩) hHeld ?_
      · obtain ⟨q0, q1, q2, q3⟩ := hu
        go_simp
      simp only [Act.put, List.setIfInBounds_toArray, List.set_cons_zero, List.set_cons_succ]
      refine held_one 10 (by kernel_rfl) rfl (fun K hK => ?_)
      go_simp
      go_wp2_with (first | (go_at_call 54; refine (rsingle_any bl bh w6).mono ?_; rintro e w7 ⟨rfl, b7⟩; rw [e2]; have X8 := Hid.mk' (X7.out.below b7); clear b7))
      refine hK.out _ _ (HS.out _ (0, 0) (0, 0) X8.out) (fun hHeld => ?_)
      clear hK K
      try simp only [List.setIfInBounds_toArray, List.set_cons_zero, List.set_cons_succ]
      refine held_take 11 48 (.bool false) rfl rfl (by kernel_rfl) (by kernel_rfl) (by kernel_rfl) (fun _ _ _ h => h) (Or.inl ⟨by rfl, fun u hu => ?_⟩) hHeld ?_
      · obtain ⟨q0, q1, q2, q3⟩ := hu
        go_simp
      simp only [Act.put, List.setIfInBounds_toArray, List.set_cons_zero, List.set_cons_succ]
      refine held_take 12 49 (.bool false) rfl rfl (by kernel_rfl) (by kernel_rfl) (by kernel_rfl) (fun _ _ _ h => h) (Or.inl ⟨by rfl, fun u hu => ?_⟩) hHeld ?_
      · obtain ⟨q0, q1, q2, q3⟩ := hu
        go_simp
      simp only [Act.put, List.setIfInBounds_toArray, List.set_cons_zero, List.set_cons_succ]
      refine held_take 13 50 undef rfl rfl (by kernel_rfl) (by kernel_rfl) (by kernel_rfl) (fun _ _ _ h => h) (Or.inr ⟨by rfl, rfl⟩) hHeld ?_
      simp only [Act.put, List.setIfInBounds_toArray, List.set_cons_zero, List.set_cons_succ]
      refine held_take 14 51 undef rfl rfl (by kernel_rfl) (by kernel_rfl) (by kernel_rfl) (fun _ _ _ h => h) (Or.inr ⟨by rfl, rfl⟩) hHeld ?_
      simp only [Act.put, List.setIfInBounds_toArray, List.set_cons_zero, List.set_cons_succ]
      refine held_take 15 52 undef rfl rfl (by kernel_rfl) (by kernel_rfl) (by kernel_rfl) (fun _ _ _ h => h) (Or.inr ⟨by rfl, rfl⟩) hHeld ?_
      simp only [Act.put, List.setIfInBounds_toArray, List.set_cons_zero, List.set_cons_succ]
      refine held_take 16 53 undef rfl rfl (by kernel_rfl) (by kernel_rfl) (by kernel_rfl) (fun _ _ _ h => h) (Or.inr ⟨by rfl, rfl⟩) hHeld ?_
      simp only [Act.put, List.setIfInBounds_toArray, List.set_cons_zero, List.set_cons_succ]
      refine held_take 17 54 undef rfl rfl (by kernel_rfl) (by kernel_rfl) (by kernel_rfl) (fun _ _ _ h => h) (Or.inr ⟨by rfl, rfl⟩) hHeld ?_
      simp only [Act.put, List.setIfInBounds_toArray, List.set_cons_zero, List.set_cons_succ]
      refine held_take 18 55 (.bool false) rfl rfl (by kernel_rfl) (by kernel_rfl) (by kernel_rfl) (fun _ _ _ h => h) (Or.inl ⟨by rfl, fun u hu => ?_⟩) hHeld ?_
      · obtain ⟨q0, q1, q2, q3⟩ := hu
        go_simp
      simp only [Act.put, List.setIfInBounds_toArray, List.set_cons_zero, List.set_cons_succ]
      refine held_take 19 56 (.bool true) rfl rfl (by kernel_rfl) (by kernel_rfl) (by kernel_rfl) (fun _ _ _ h => h) (Or.inl ⟨by rfl, fun u hu => ?_⟩) hHeld ?_
      · obtain ⟨q0, q1, q2, q3⟩ := hu
        go_simp
      simp only [Act.put, List.setIfInBounds_toArray, List.set_cons_zero, List.set_cons_succ]
      have y0 := (X8.out.at 2 (p := (0, 0)) rfl).c0
      have y1 := (X8.out.at 2 (p := (0, 0)) rfl).c1
      have f0 := (X8.out.at 2 (p := (0, 0)) rfl).fz 0
      have f1 := (X8.out.at 2 (p := (0, 0)) rfl).fz 1
      have z0 := (X8.out.at 3 (p := (0, 0)) rfl).c0
      have z1 := (X8.out.at 3 (p := (0, 0)) rfl).c1
      have t0 := (X8.out.at 3 (p := (0, 0)) rfl).fz 0
      have t1 := (X8.out.at 3 (p := (0, 0)) rfl).fz 1
      have Y7 := Hid.mk' (X8.out.set 2 P1 P2 (by simp))
      have Y8 := Hid.mk' (Y7.out.set 3 Q1 Q2 (by simp))
      refine held_one 20 (by kernel_rfl) rfl (fun K hK => ?_)
      go_simp
      refine hK.out _ _ (HS.out _ (P1, P2) (0, 0) Y7.out) (fun hHeld => ?_)
      clear hK K
      try simp only [List.setIfInBounds_toArray, List.set_cons_zero, List.set_cons_succ]
      have z0 := (Y7.out.at 3 (p := (0, 0)) rfl).c0
      have z1 := (Y7.out.at 3 (p := (0, 0)) rfl).c1
      have t0 := (Y7.out.at 3 (p := (0, 0)) rfl).fz 0
      have t1 := (Y7.out.at 3 (p := (0, 0)) rfl).fz 1
      refine held_one 21 (by kernel_rfl) rfl (fun K hK => ?_)
      go_simp
      refine hK.out _ _ (HS.out _ (P1, P2) (Q1, Q2) Y8.out) (fun hHeld => ?_)
      clear hK K
      try simp only [List.setIfInBounds_toArray, List.set_cons_zero, List.set_cons_succ]
      refine held_take 22 8 (.bool true) rfl rfl (by kernel_rfl) (by kernel_rfl) (by kernel_rfl) (fun _ _ _ h => h) (Or.inl ⟨by rfl, fun u hu => ?_⟩) hHeld ?_
      · obtain ⟨q0, q1, q2, q3⟩ := hu
        go_simp
      simp only [Act.put, List.setIfInBounds_toArray, List.set_cons_zero, List.set_cons_succ]
      refine wpAnyH_done (by kernel_rfl) ?_ _
      go_wp2_with fail
      have R := Y8.out.at 2 (p := (P1, P2)) rfl
      have R' := Y8.out.at 3 (p := (Q1, Q2)) rfl
      refine ret_sp3 rfl rfl R.c0 R.c1 rfl R'.c0 R'.c1 rfl ?_
      exact ⟨rfl, Y8.out.old⟩
  · have e1 : decide (al = ah) = false := decide_eq_false s1
    have e : neC al ah bl bh = true := by unfold neC; rw [e1]; rfl
    rw [e]
    clear e s1 ha hb h
    go_enter Try.func44, Try.ntmps44
    go_wp2_with fail
    have X := X4.out
    obtain ⟨u, hu⟩ : ∃ u, u = ((((w.alloc (spO al ah)).alloc (spO bl bh)).alloc (spO 0 0)).alloc (spO 0 0)) := ⟨_, rfl⟩
    rw [← hu] at X ⊢
    clear hu X4
    have X := Hid.mk' X
    refine wp_region_held_drew (S := fun w' => w'.cell? ⟨w.heap.size, 0, none⟩ = some (.int .u64 al) ∧ w'.cell? ⟨w.heap.size, 1, none⟩ = some (.int .u64 ah) ∧ w'.cell? ⟨w.heap.size + 1, 0, none⟩ = some (.int .u64 bl) ∧ w'.cell? ⟨w.heap.size + 1, 1, none⟩ = some (.int .u64 bh)) (by kernel_rfl) (HS.out _ (0, 0) (0, 0) (X.out.below ((Below.refl u.heap.size u).drew))) (fun hHeld => ?_)
    change wpAnyH _ _ _ _ _ 23 #[false, false, false, false, false, false, false, false, false, false, false, false, false, false, false, false, false, false, false, false, false, false, false] _ _
    refine held_take 0 37 (.agg #[.int .u64 al, .int .u64 ah]) rfl rfl (by kernel_rfl) (by kernel_rfl) (by kernel_rfl) (fun _ _ _ h => h) (Or.inl ⟨by rfl, fun u hu => ?_⟩) hHeld ?_
    · obtain ⟨q0, q1, q2, q3⟩ := hu
      go_simp
    simp only [Act.put, List.setIfInBounds_toArray, List.set_cons_zero, List.set_cons_succ]
    refine held_take 1 38 (.agg #[.int .u64 bl, .int .u64 bh]) rfl rfl (by kernel_rfl) (by kernel_rfl) (by kernel_rfl) (fun _ _ _ h => h) (Or.inl ⟨by rfl, fun u hu => ?_⟩) hHeld ?_
    · obtain ⟨q0, q1, q2, q3⟩ := hu
      go_simp
    simp only [Act.put, List.setIfInBounds_toArray, List.set_cons_zero, List.set_cons_succ]
    refine held_take 3 40 (.agg #[.int .u64 bl, .int .u64 bh]) rfl rfl (by kernel_rfl) (by kernel_rfl) (by kernel_rfl) (fun _ _ _ h => h) (Or.inl ⟨by rfl, fun u hu => ?_⟩) hHeld ?_
    · obtain ⟨q0, q1, q2, q3⟩ := hu
      go_simp
    simp only [Act.put, List.setIfInBounds_toArray, List.set_cons_zero, List.set_cons_succ]
    refine held_take 4 41 (.agg #[.int .u64 al, .int .u64 ah]) rfl rfl (by kernel_rfl) (by kernel_rfl) (by kernel_rfl) (fun _ _ _ h => h) (Or.inl ⟨by rfl, fun u hu => ?_⟩) hHeld ?_
    · obtain ⟨q0, q1, q2, q3⟩ := hu
      go_simp
    simp only [Act.put, List.setIfInBounds_toArray, List.set_cons_zero, List.set_cons_succ]
    refine held_take 6 43 (.agg #[.int .u64 al, .int .u64 ah]) rfl rfl (by kernel_rfl) (by kernel_rfl) (by kernel_rfl) (fun _ _ _ h => h) (Or.inl ⟨by rfl, fun u hu => ?_⟩) hHeld ?_
    · obtain ⟨q0, q1, q2, q3⟩ := hu
      go_simp
    simp only [Act.put, List.setIfInBounds_toArray, List.set_cons_zero, List.set_cons_succ]
    refine held_one 2 (by kernel_rfl) rfl (fun K hK => ?_)
    go_simp
    go_wp2_with (first | (go_at_call 61; refine (W1.out u.drew).mono ?_; rintro e w4 ⟨rfl, b4⟩; have X5 := Hid.mk' (X.out.below (((Below.refl u.heap.size u).drew).trans b4)); clear b4))
    refine hK.out _ _ (HS.out _ (0, 0) (0, 0) X5.out) (fun hHeld => ?_)
    clear hK K
    try simp only [List.setIfInBounds_toArray, List.set_cons_zero, List.set_cons_succ]
    refine held_one 5 (by kernel_rfl) rfl (fun K hK => ?_)
    go_simp
    go_wp2_with (first | (go_at_call 61; refine (W2.out w4).mono ?_; rintro e w5 ⟨rfl, b5⟩; have X6 := Hid.mk' (X5.out.below b5); clear b5))
    refine hK.out _ _ (HS.out _ (0, 0) (0, 0) X6.out) (fun hHeld => ?_)
    clear hK K
    try simp only [List.setIfInBounds_toArray, List.set_cons_zero, List.set_cons_succ]
    refine held_one 7 (by kernel_rfl) rfl (fun K hK => ?_)
    go_simp
    go_wp2_with (first | (go_at_call 54; refine (rsingle_any al ah w5).mono ?_; rintro e w6 ⟨rfl, b6⟩; rw [e1]; have X7 := Hid.mk' (X6.out.below b6); clear b6))
    refine hK.out _ _ (HS.out _ (0, 0) (0, 0) X7.out) (fun hHeld => ?_)
    clear hK K
    try simp only [List.setIfInBounds_toArray, List.set_cons_zero, List.set_cons_succ]
    refine held_take 8 45 (.bool false) rfl rfl (by kernel_rfl) (by kernel_rfl) (by kernel_rfl) (fun _ _ _ h => h) (Or.inl ⟨by rfl, fun u hu => ?_⟩) hHeld ?_
    · obtain ⟨q0, q1, q2, q3⟩ := hu
      go_simp
    simp only [Act.put, List.setIfInBounds_toArray, List.set_cons_zero, List.set_cons_succ]
    refine held_take 9 46 undef rfl rfl (by kernel_rfl) (by kernel_rfl) (by kernel_rfl) (fun _ _ _ h => h) (Or.inr ⟨by rfl, rfl⟩) hHeld ?_
    simp only [Act.put, List.setIfInBounds_toArray, List.set_cons_zero, List.set_cons_succ]
    refine held_take 10 47 undef rfl rfl (by kernel_rfl) (by kernel_rfl) (by kernel_rfl) (fun _ _ _ h => h) (Or.inr ⟨by rfl, rfl⟩) hHeld ?_
    simp only [Act.put, List.setIfInBounds_toArray, List.set_cons_zero, List.set_cons_succ]
    refine held_take 11 48 (.bool false) rfl rfl (by kernel_rfl) (by kernel_rfl) (by kernel_rfl) (fun _ _ _ h => h) (Or.inl ⟨by rfl, fun u hu => ?_⟩) hHeld ?_
    · obtain ⟨q0, q1, q2, q3⟩ := hu
      go_simp
    simp only [Act.put, List.setIfInBounds_toArray, List.set_cons_zero, List.set_cons_succ]
    refine held_take 12 49 (.bool false) rfl rfl (by kernel_rfl) (by kernel_rfl) (by kernel_rfl) (fun _ _ _ h => h) (Or.inl ⟨by rfl, fun u hu => ?_⟩) hHeld ?_
    · obtain ⟨q0, q1, q2, q3⟩ := hu
      go_simp
    simp only [Act.put, List.setIfInBounds_toArray, List.set_cons_zero, List.set_cons_succ]
    refine held_take 13 50 undef rfl rfl (by kernel_rfl) (by kernel_rfl) (by kernel_rfl) (fun _ _ _ h => h) (Or.inr ⟨by rfl, rfl⟩) hHeld ?_
    simp only [Act.put, List.setIfInBounds_toArray, List.set_cons_zero, List.set_cons_succ]
    refine held_take 14 51 undef rfl rfl (by kernel_rfl) (by kernel_rfl) (by kernel_rfl) (fun _ _ _ h => h) (Or.inr ⟨by rfl, rfl⟩) hHeld ?_
    simp only [Act.put, List.setIfInBounds_toArray, List.set_cons_zero, List.set_cons_succ]
    refine held_take 15 52 undef rfl rfl (by kernel_rfl) (by kernel_rfl) (by kernel_rfl) (fun _ _ _ h => h) (Or.inr ⟨by rfl, rfl⟩) hHeld ?_
    simp only [Act.put, List.setIfInBounds_toArray, List.set_cons_zero, List.set_cons_succ]
    refine held_take 16 53 undef rfl rfl (by kernel_rfl) (by kernel_rfl) (by kernel_rfl) (fun _ _ _ h => h) (Or.inr ⟨by rfl, rfl⟩) hHeld ?_
    simp only [Act.put, List.setIfInBounds_toArray, List.set_cons_zero, List.set_cons_succ]
    refine held_take 17 54 undef rfl rfl (by kernel_rfl) (by kernel_rfl) (by kernel_rfl) (fun _ _ _ h => h) (Or.inr ⟨by rfl, rfl⟩) hHeld ?_
    simp only [Act.put, List.setIfInBounds_toArray, List.set_cons_zero, List.set_cons_succ]
    refine held_take 18 55 (.bool false) rfl rfl (by kernel_rfl) (by kernel_rfl) (by kernel_rfl) (fun _ _ _ h => h) (Or.inl ⟨by rfl, fun u hu => ?_⟩) hHeld ?_
    · obtain ⟨q0, q1, q2, q3⟩ := hu
      go_simp
    simp only [Act.put, List.setIfInBounds_toArray, List.set_cons_zero, List.set_cons_succ]
    refine held_take 19 56 (.bool true) rfl rfl (by kernel_rfl) (by kernel_rfl) (by kernel_rfl) (fun _ _ _ h => h) (Or.inl ⟨by rfl, fun u hu => ?_⟩) hHeld ?_
    · obtain ⟨q0, q1, q2, q3⟩ := hu
      go_simp
    simp only [Act.put, List.setIfInBounds_toArray, List.set_cons_zero, List.set_cons_succ]
    have y0 := (X7.out.at 2 (p := (0, 0)) rfl).c0
    have y1 := (X7.out.at 2 (p := (0, 0)) rfl).c1
    have f0 := (X7.out.at 2 (p := (0, 0)) rfl).fz 0
    have f1 := (X7.out.at 2 (p := (0, 0)) rfl).fz 1
    have z0 := (X7.out.at 3 (p := (0, 0)) rfl).c0
    have z1 := (X7.out.at 3 (p := (0, 0)) rfl).c1
    have t0 := (X7.out.at 3 (p := (0, 0)) rfl).fz 0
    have t1 := (X7.out.at 3 (p := (0, 0)) rfl).fz 1
    have Y7 := Hid.mk' (X7.out.set 2 P1 P2 (by simp))
    have Y8 := Hid.mk' (Y7.out.set 3 Q1 Q2 (by simp))
    refine held_one 20 (by kernel_rfl) rfl (fun K hK => ?_)
    go_simp
    refine hK.out _ _ (HS.out _ (P1, P2) (0, 0) Y7.out) (fun hHeld => ?_)
    clear hK K
    try simp only [List.setIfInBounds_toArray, List.set_cons_zero, List.set_cons_succ]
    have z0 := (Y7.out.at 3 (p := (0, 0)) rfl).c0
    have z1 := (Y7.out.at 3 (p := (0, 0)) rfl).c1
    have t0 := (Y7.out.at 3 (p := (0, 0)) rfl).fz 0
    have t1 := (Y7.out.at 3 (p := (0, 0)) rfl).fz 1
    refine held_one 21 (by kernel_rfl) rfl (fun K hK => ?_)
    go_simp
    refine hK.out _ _ (HS.out _ (P1, P2) (Q1, Q2) Y8.out) (fun hHeld => ?_)
    clear hK K
    try simp only [List.setIfInBounds_toArray, List.set_cons_zero, List.set_cons_succ]
    refine held_take 22 8 (.bool true) rfl rfl (by kernel_rfl) (by kernel_rfl) (by kernel_rfl) (fun _ _ _ h => h) (Or.inl ⟨by rfl, fun u hu => ?_⟩) hHeld ?_
    · obtain ⟨q0, q1, q2, q3⟩ := hu
      go_simp
    simp only [Act.put, List.setIfInBounds_toArray, List.set_cons_zero, List.set_cons_succ]
    refine wpAnyH_done (by kernel_rfl) ?_ _
    go_wp2_with fail
    have R := Y8.out.at 2 (p := (P1, P2)) rfl
    have R' := Y8.out.at 3 (p := (Q1, Q2)) rfl
    refine ret_sp3 rfl rfl R.c0 R.c1 rfl R'.c0 R'.c1 rfl ?_
    exact ⟨rfl, Y8.out.old⟩
end Go.Proofs.Ytpmbdnmiokkknaa
