/- The document's left: the same, below, at most. -/
import Derived.Test.YtpmbdnmiokkknaaDl
namespace Go.Proofs.Ytpmbdnmiokkknaa
open Go.ChangeShapes Go.WideShapes Go.ChangeAt Go.RowKit
set_option maxRecDepth 10000
set_option linter.unusedVariables false

set_option maxHeartbeats 1000000 in
theorem left_27 (al ah bl bh : Int) (w : World) :
    Calls Try.prog 44 #[.int .u8 27, spV (al, ah), spV (bl, bh)] w fun e w' =>
      e = .returned (.tuple #[spV (mx al bl, mn ah bh), spV (mx al bl, mn ah bh), .bool (decide (mx al bl ≤ mn ah bh))]) ∧ Below w.heap.size w w' := by
  have X5 := (((((BxE.nil w).add al ah).add bl bh).add 0 0).add 0 0).add (mx al bl) (mn ah bh)
  have X5 := Hid.mk' X5.out
  have hx1 : ∀ (u : World) ts t, (Builtin.min_ ts t #[.int .u64 ah, .int .u64 bh]).run Try.prog u = .ok (.int .u64 (mn ah bh)) u := fun u ts t => by rw [run_min_int2]; rfl
  have hx2 : ∀ (u : World) ts t, (Builtin.max_ ts t #[.int .u64 al, .int .u64 bl]).run Try.prog u = .ok (.int .u64 (mx al bl)) u := fun u ts t => by rw [run_max_int2]; rfl
  generalize mn ah bh = Q at *
  generalize mx al bl = P at *
  go_enter Try.func44, Try.ntmps44
  go_wp2_with fail
  have X := X5.out
  obtain ⟨u, hu⟩ : ∃ u, u = (((((w.alloc (spO al ah)).alloc (spO bl bh)).alloc (spO 0 0)).alloc (spO 0 0)).alloc (spO P Q)) := ⟨_, rfl⟩
  rw [← hu] at X ⊢
  clear hu X5 hx1 hx2
  have c0 := (X.at 4 (p := (P, Q)) rfl).c0
  have c1 := (X.at 4 (p := (P, Q)) rfl).c1
  have y0 := (X.at 2 (p := (0, 0)) rfl).c0
  have y1 := (X.at 2 (p := (0, 0)) rfl).c1
  have f0 := (X.at 2 (p := (0, 0)) rfl).fz 0
  have f1 := (X.at 2 (p := (0, 0)) rfl).fz 1
  have z0 := (X.at 3 (p := (0, 0)) rfl).c0
  have z1 := (X.at 3 (p := (0, 0)) rfl).c1
  have t0 := (X.at 3 (p := (0, 0)) rfl).fz 0
  have t1 := (X.at 3 (p := (0, 0)) rfl).fz 1
  have X := Hid.mk' X
  go_region
  all_goals
    go_wp2_with fail
    have Y := (((X.out.set 2 P Q (by simp)).set 3 P Q (by simp)).dr (u' := _) ⟨1, rfl⟩)
    have R := Y.at 2 (p := (P, Q)) rfl
    have R' := Y.at 3 (p := (P, Q)) rfl
    refine ret_sp3 rfl rfl R.c0 R.c1 rfl R'.c0 R'.c1 rfl ?_
    exact ⟨rfl, Y.old⟩

/-- What is told of numbers that can't be: whatever. -/
theorem oneX (g al ah bl bh : Int) (k : odC g al bh = true) : (if odC g al bh = true then odX g al ah bl bh else (0, 0)) = odX g al ah bl bh := if_pos k

set_option maxHeartbeats 2000000 in
theorem left_29 (al ah bl bh : Int) (w : World) (h : U4 al ah bl bh) :
    Calls Try.prog 44 #[.int .u8 29, spV (al, ah), spV (bl, bh)] w fun e w' =>
      (∃ P Q : Int × Int, e = .returned (.tuple #[spV P, spV Q, .bool (odC 1 al bh)]) ∧ (odC 1 al bh = true → P = odX 1 al ah bl bh ∧ Q = odY 1 al ah bl bh)) ∧ Below w.heap.size w w' := by
  obtain ⟨a0, a1, a2, a3, b0, b1, b2, b3⟩ := h
  have X4 := Hid.mk' (((((BxE.nil w).add al ah).add bl bh).add 0 0).add 0 0).out
  by_cases hc : al ≥ bh
  · have e1 : odC 1 al bh = false := decide_eq_false (fun k => by omega)
    rw [e1]
    clear e1
    go_enter Try.func44, Try.ntmps44
    go_wp2_with fail
    have X := X4.out
    obtain ⟨u, hu⟩ : ∃ u, u = ((((w.alloc (spO al ah)).alloc (spO bl bh)).alloc (spO 0 0)).alloc (spO 0 0)) := ⟨_, rfl⟩
    rw [← hu] at X ⊢
    clear hu X4
    obtain ⟨c0, c1, d0, d1, y0, y1, z0, z1, f0, f1, t0, t1⟩ := four X
    have X := Hid.mk' X
    go_region
    all_goals
      go_wp2_with fail
      have Y := (X.out.two al ah bl bh).dr (u' := _) ⟨1, rfl⟩
      have R := Y.at 2 (p := (al, ah)) rfl
      have R' := Y.at 3 (p := (bl, bh)) rfl
      refine ret_sp3 rfl rfl R.c0 R.c1 rfl R'.c0 R'.c1 rfl ?_
      exact ⟨⟨(al, ah), (bl, bh), rfl, fun k => by cases k⟩, Y.old⟩
  · have e1 : odC 1 al bh = true := decide_eq_true ⟨by omega, by omega⟩
    rw [e1]
    clear e1
    have k1 : al + 1 ≤ 18446744073709551615 := by omega
    have k2 : 0 ≤ bh - 1 := by omega
    have hw1 : IntKind.u64.wrap (bh - 1) = bh - 1 := by rw [wrap64]; omega
    have hw2 : IntKind.u64.wrap (al + 1) = al + 1 := by rw [wrap64]; omega
    have hx1 : ∀ (u : World) ts t, (Builtin.min_ ts t #[.int .u64 ah, .int .u64 (bh - 1)]).run Try.prog u = .ok (.int .u64 (mn ah (bh - 1))) u := fun u ts t => by rw [run_min_int2]; rfl
    have hx2 : ∀ (u : World) ts t, (Builtin.max_ ts t #[.int .u64 bl, .int .u64 (al + 1)]).run Try.prog u = .ok (.int .u64 (mx bl (al + 1))) u := fun u ts t => by rw [run_max_int2]; rfl
    unfold odX odY
    generalize mn ah (bh - 1) = P at *
    generalize mx bl (al + 1) = Q at *
    go_enter Try.func44, Try.ntmps44
    go_wp2_with fail
    have X := X4.out
    obtain ⟨u, hu⟩ : ∃ u, u = ((((w.alloc (spO al ah)).alloc (spO bl bh)).alloc (spO 0 0)).alloc (spO 0 0)) := ⟨_, rfl⟩
    rw [← hu] at X ⊢
    clear hu X4
    obtain ⟨c0, c1, d0, d1, y0, y1, z0, z1, f0, f1, t0, t1⟩ := four X
    have X := Hid.mk' X
    have hne1 : ¬ (w.heap.size + 1 + 1 = w.heap.size) := by omega
    have hne2 : ¬ (w.heap.size + 1 + 1 + 1 = w.heap.size) := by omega
    have hne3 : ¬ (w.heap.size + 1 + 1 + 1 = w.heap.size + 1) := by omega
    have hne4 : ¬ (w.heap.size + 1 + 1 = w.heap.size + 1) := by omega
    go_region_held3 (fun w' => w'.cell? ⟨w.heap.size, 0, none⟩ = some (.int .u64 al) ∧ w'.cell? ⟨w.heap.size, 1, none⟩ = some (.int .u64 ah) ∧ w'.cell? ⟨w.heap.size + 1, 0, none⟩ = some (.int .u64 bl) ∧ w'.cell? ⟨w.heap.size + 1, 1, none⟩ = some (.int .u64 bh)) (go_keep) (first | fail)
    all_goals
      go_wp2_with fail
      have Y := (X.out.two al P Q bh).dr (u' := _) ⟨1, rfl⟩
      have R := Y.at 2 (p := (al, P)) rfl
      have R' := Y.at 3 (p := (Q, bh)) rfl
      refine ret_sp3 rfl rfl R.c0 R.c1 rfl R'.c0 R'.c1 rfl ?_
      exact ⟨⟨(al, P), (Q, bh), rfl, fun _ => ⟨rfl, rfl⟩⟩, Y.old⟩
set_option maxHeartbeats 2000000 in
theorem left_30 (al ah bl bh : Int) (w : World) (h : U4 al ah bl bh) :
    Calls Try.prog 44 #[.int .u8 30, spV (al, ah), spV (bl, bh)] w fun e w' =>
      (∃ P Q : Int × Int, e = .returned (.tuple #[spV P, spV Q, .bool (odC 0 al bh)]) ∧ (odC 0 al bh = true → P = odX 0 al ah bl bh ∧ Q = odY 0 al ah bl bh)) ∧ Below w.heap.size w w' := by
  obtain ⟨a0, a1, a2, a3, b0, b1, b2, b3⟩ := h
  have X4 := Hid.mk' (((((BxE.nil w).add al ah).add bl bh).add 0 0).add 0 0).out
  by_cases hc : al > bh
  · have e1 : odC 0 al bh = false := decide_eq_false (fun k => by omega)
    rw [e1]
    clear e1
    go_enter Try.func44, Try.ntmps44
    go_wp2_with fail
    have X := X4.out
    obtain ⟨u, hu⟩ : ∃ u, u = ((((w.alloc (spO al ah)).alloc (spO bl bh)).alloc (spO 0 0)).alloc (spO 0 0)) := ⟨_, rfl⟩
    rw [← hu] at X ⊢
    clear hu X4
    obtain ⟨c0, c1, d0, d1, y0, y1, z0, z1, f0, f1, t0, t1⟩ := four X
    have X := Hid.mk' X
    go_region
    all_goals
      go_wp2_with fail
      have Y := (X.out.two al ah bl bh).dr (u' := _) ⟨1, rfl⟩
      have R := Y.at 2 (p := (al, ah)) rfl
      have R' := Y.at 3 (p := (bl, bh)) rfl
      refine ret_sp3 rfl rfl R.c0 R.c1 rfl R'.c0 R'.c1 rfl ?_
      exact ⟨⟨(al, ah), (bl, bh), rfl, fun k => by cases k⟩, Y.old⟩
  · have e1 : odC 0 al bh = true := decide_eq_true ⟨by omega, by omega⟩
    rw [e1]
    clear e1
    have hx1 : ∀ (u : World) ts t, (Builtin.min_ ts t #[.int .u64 ah, .int .u64 bh]).run Try.prog u = .ok (.int .u64 (mn ah bh)) u := fun u ts t => by rw [run_min_int2]; rfl
    have hx2 : ∀ (u : World) ts t, (Builtin.max_ ts t #[.int .u64 bl, .int .u64 al]).run Try.prog u = .ok (.int .u64 (mx bl al)) u := fun u ts t => by rw [run_max_int2]; rfl
    unfold odX odY
    rw [Int.sub_zero, Int.add_zero]
    generalize mn ah bh = P at *
    generalize mx bl al = Q at *
    go_enter Try.func44, Try.ntmps44
    go_wp2_with fail
    have X := X4.out
    obtain ⟨u, hu⟩ : ∃ u, u = ((((w.alloc (spO al ah)).alloc (spO bl bh)).alloc (spO 0 0)).alloc (spO 0 0)) := ⟨_, rfl⟩
    rw [← hu] at X ⊢
    clear hu X4
    obtain ⟨c0, c1, d0, d1, y0, y1, z0, z1, f0, f1, t0, t1⟩ := four X
    have X := Hid.mk' X
    have hne1 : ¬ (w.heap.size + 1 + 1 = w.heap.size) := by omega
    have hne2 : ¬ (w.heap.size + 1 + 1 + 1 = w.heap.size) := by omega
    have hne3 : ¬ (w.heap.size + 1 + 1 + 1 = w.heap.size + 1) := by omega
    have hne4 : ¬ (w.heap.size + 1 + 1 = w.heap.size + 1) := by omega
    go_region_held3 (fun w' => w'.cell? ⟨w.heap.size, 0, none⟩ = some (.int .u64 al) ∧ w'.cell? ⟨w.heap.size, 1, none⟩ = some (.int .u64 ah) ∧ w'.cell? ⟨w.heap.size + 1, 0, none⟩ = some (.int .u64 bl) ∧ w'.cell? ⟨w.heap.size + 1, 1, none⟩ = some (.int .u64 bh)) (go_keep) (first | fail)
    all_goals
      go_wp2_with fail
      have Y := (X.out.two al P Q bh).dr (u' := _) ⟨1, rfl⟩
      have R := Y.at 2 (p := (al, P)) rfl
      have R' := Y.at 3 (p := (Q, bh)) rfl
      refine ret_sp3 rfl rfl R.c0 R.c1 rfl R'.c0 R'.c1 rfl ?_
      exact ⟨⟨(al, P), (Q, bh), rfl, fun _ => ⟨rfl, rfl⟩⟩, Y.old⟩
end Go.Proofs.Ytpmbdnmiokkknaa
