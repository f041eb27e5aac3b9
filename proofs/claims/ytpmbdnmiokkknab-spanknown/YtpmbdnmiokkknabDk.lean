/- Spans compared; the contract of span.apart. -/
import Derived.Test.YtpmbdnmiokkknabDi
import Derived.Test.YtpmbdnmiokkknabDj
import Derived.Laws.StructEq
namespace Go.Proofs.Ytpmbdnmiokkknab
open Go.ChangeShapes Go.WideShapes Go.ChangeAt Go.RowKit
set_option maxRecDepth 10000
set_option linter.unusedVariables false

theorem sp_eq (a b c d : Int) (w : World) : Sem.run Try.prog (binOp .eql 24 (.agg #[.int .u64 a, .int .u64 b]) (.agg #[.int .u64 c, .int .u64 d])) w = .ok (.bool (decide (a = c) && decide (b = d))) w := by
  have hu := Try.underlying24
  have hu2 := Try.underlying22
  go_simp
  by_cases h1 : a = c <;> by_cases h2 : b = d <;> simp [h1, h2]
theorem sp_ne (a b c d : Int) (w : World) : Sem.run Try.prog (binOp .neq 24 (.agg #[.int .u64 a, .int .u64 b]) (.agg #[.int .u64 c, .int .u64 d])) w = .ok (.bool (!(decide (a = c) && decide (b = d)))) w := by
  have hu := Try.underlying24
  have hu2 := Try.underlying22
  go_simp
  by_cases h1 : a = c <;> by_cases h2 : b = d <;> simp [h1, h2]

/-- An operation whose value stands in every world that meets S is taken first. -/
theorem held_take {md : Region.Mode} {ops : Array Oper} {Q : Exit → Act → World → Prop} {S : World → Prop} {fuel : Nat} {listed : Array Bool} {a : Act} {w : World} (i t : Nat) (v : Value) {oi : Oper} (hi : ops[i]? = some oi) (hd : oi.dst = some t)
    (hs : Region.noSelect ops = true) (hf : Region.free md ops listed i = true) (hr : (Region.ready md ops listed).contains i = true)
    (hQ : ∀ c a w, Q (.panic c) (a.put (some t) v) w → Q (.panic c) a w) (hy : YieldsIf Try.prog ops S oi v a) (hS : S w)
    (h : wpAnyH Try.prog md ops Q S fuel (listed.setIfInBounds i true) (a.put (some t) v) w) : wpAnyH Try.prog md ops Q S (fuel + 1) listed a w :=
  wpAnyH_take hi hs hf hr (fun c a w hq => hQ c a w (by rw [← hd]; exact hq)) hy hS (by rw [hd]; exact h)
/-- One operation alone may come up. -/
theorem held_one {md : Region.Mode} {ops : Array Oper} {Q : Exit → Act → World → Prop} {S : World → Prop} {fuel : Nat} {listed : Array Bool} {a : Act} {w : World} (i : Nat) {o : Oper} (hr : Region.ready md ops listed = [i]) (ho : ops[i]? = some o)
    (h : ∀ K' : Act → World → Prop, Shut (∀ a w, S w → (S w → wpAnyH Try.prog md ops Q S fuel (listed.setIfInBounds i true) a w) → K' a w) → if Region.wanted o (yielded ops a.tmps) = true then Oper.wp Try.prog o a w K' Q else K' (a.put o.dst undef) w) :
    wpAnyH Try.prog md ops Q S (fuel + 1) listed a w :=
  wpAnyH_ready hr (by simp) (AllReadyH.cons ho h AllReadyH.nil)

theorem U4.swap {al ah bl bh : Int} (h : U4 al ah bl bh) : U4 bl bh al ah := ⟨h.b0, h.b1, h.b2, h.b3, h.a0, h.a1, h.a2, h.a3⟩

/-- Whether numbers of two spans may be other ones. -/
def neC (al ah bl bh : Int) : Bool := !decide (al = ah) || !(decide (al = bl) && decide (ah = bh))

set_option maxHeartbeats 2000000 in
theorem apart_any (al ah bl bh : Int) (w : World) (h : U4 al ah bl bh) (ha : al ≤ ah) (hb : bl ≤ bh) :
    Calls Try.prog 30 #[spV (al, ah), spV (bl, bh)] w fun e w' =>
      e = .returned (.tuple #[spV (woS al ah bl bh), spV (woS bl bh al ah), .bool (neC al ah bl bh)]) ∧ Below w.heap.size w w' := by
  have X5 := Hid.mk' (((((BxE.nil w).add al ah).add bl bh).add 0 0).add 0 0).out
  have W1 := Hid.mk' (fun u => without_any al ah bl bh u h ha)
  have W2 := Hid.mk' (fun u => without_any bl bh al ah u h.swap hb)
  have hne := fun u => sp_ne al ah bl bh u
  have HV : Hid (∀ b, decide (al = ah) = b → neC al ah bl bh = if b then !(decide (al = bl) && decide (ah = bh)) else true) := Hid.mk' (fun b e => by
    unfold neC; rw [e]; cases b <;> simp)
  generalize woS al ah bl bh = P at *
  generalize woS bl bh al ah = Q at *
  obtain ⟨P1, P2⟩ := P
  obtain ⟨Q1, Q2⟩ := Q
  generalize (!(decide (al = bl) && decide (ah = bh))) = N at *
  go_enter Try.func30, Try.ntmps30
  by_cases s1 : al = ah
  · have e1 : decide (al = ah) = true := decide_eq_true s1
    rw [HV.out _ e1]
    clear HV s1 ha hb h
    go_wp2_with fail
    have X := X5.out
    obtain ⟨u, hu⟩ : ∃ u, u = ((((w.alloc (spO al ah)).alloc (spO bl bh)).alloc (spO 0 0)).alloc (spO 0 0)) := ⟨_, rfl⟩
    rw [← hu] at X ⊢
    clear hu X5
    have a0u : u.cell? ⟨w.heap.size, 0, none⟩ = some (.int .u64 al) := (X.at 0 (p := (al, ah)) rfl).c0
    have a1u : u.cell? ⟨w.heap.size, 1, none⟩ = some (.int .u64 ah) := (X.at 0 (p := (al, ah)) rfl).c1
    have b0u := (X.at 1 (p := (bl, bh)) rfl).c0
    have b1u := (X.at 1 (p := (bl, bh)) rfl).c1
    have X := Hid.mk' X
    have hn02 : ¬ (w.heap.size + 1 + 1 = w.heap.size) := by omega
    have hn03 : ¬ (w.heap.size + 1 + 1 + 1 = w.heap.size) := by omega
    have hn12 : ¬ (w.heap.size + 1 + 1 = w.heap.size + 1) := by omega
    have hn13 : ¬ (w.heap.size + 1 + 1 + 1 = w.heap.size + 1) := by omega
    have hn23 : ¬ (w.heap.size + 1 + 1 = w.heap.size + 1 + 1 + 1) := by omega
    go_region_held3 (fun w' => w'.cell? ⟨w.heap.size, 0, none⟩ = some (.int .u64 al) ∧ w'.cell? ⟨w.heap.size, 1, none⟩ = some (.int .u64 ah) ∧ w'.cell? ⟨w.heap.size + 1, 0, none⟩ = some (.int .u64 bl) ∧ w'.cell? ⟨w.heap.size + 1, 1, none⟩ = some (.int .u64 bh)) (go_keep) (first
      | (go_at_call 37; have hh := X4; refine (W2.out w4).mono ?_; rintro e w5 ⟨rfl, b5⟩; have X5 := X4.out.below b5; have a05 : w5.cell? ⟨w.heap.size, 0, none⟩ = some (.int .u64 al) := (X5.at 0 (p := (al, ah)) rfl).c0; have a15 : w5.cell? ⟨w.heap.size, 1, none⟩ = some (.int .u64 ah) := (X5.at 0 (p := (al, ah)) rfl).c1; have b05 := (X5.at 1 (p := (bl, bh)) rfl).c0; have b15 := (X5.at 1 (p := (bl, bh)) rfl).c1; have X5 := Hid.mk' X5; clear b5 hh)
      | (go_at_call 37; refine (W1.out u.drew).mono ?_; rintro e w4 ⟨rfl, b4⟩; have X4 := X.out.below (((Below.refl u.heap.size u).drew).trans b4); have a04 : w4.cell? ⟨w.heap.size, 0, none⟩ = some (.int .u64 al) := (X4.at 0 (p := (al, ah)) rfl).c0; have a14 : w4.cell? ⟨w.heap.size, 1, none⟩ = some (.int .u64 ah) := (X4.at 0 (p := (al, ah)) rfl).c1; have b04 := (X4.at 1 (p := (bl, bh)) rfl).c0; have b14 := (X4.at 1 (p := (bl, bh)) rfl).c1; have X4 := Hid.mk' X4; clear b4)
      | (go_at_call 18; refine (single_any al ah w5).mono ?_; rintro e w6 ⟨rfl, b6⟩; rw [e1]; have X6 := X5.out.below b6; have a06 : w6.cell? ⟨w.heap.size, 0, none⟩ = some (.int .u64 al) := (X6.at 0 (p := (al, ah)) rfl).c0; have a16 : w6.cell? ⟨w.heap.size, 1, none⟩ = some (.int .u64 ah) := (X6.at 0 (p := (al, ah)) rfl).c1; have b06 := (X6.at 1 (p := (bl, bh)) rfl).c0; have b16 := (X6.at 1 (p := (bl, bh)) rfl).c1; have y0 := (X6.at 2 (p := (0, 0)) rfl).c0; have y1 := (X6.at 2 (p := (0, 0)) rfl).c1; have f0 := (X6.at 2 (p := (0, 0)) rfl).fz 0; have f1 := (X6.at 2 (p := (0, 0)) rfl).fz 1; have z0 := (X6.at 3 (p := (0, 0)) rfl).c0; have z1 := (X6.at 3 (p := (0, 0)) rfl).c1; have t0 := (X6.at 3 (p := (0, 0)) rfl).fz 0; have t1 := (X6.at 3 (p := (0, 0)) rfl).fz 1; have X6 := Hid.mk' X6; clear b6))
    all_goals
      go_wp2_with fail
      have Y := ((X6.out.set 2 P1 P2 (by simp)).set 3 Q1 Q2 (by simp))
      have R := Y.at 2 (p := (P1, P2)) rfl
      have R' := Y.at 3 (p := (Q1, Q2)) rfl
      refine ret_sp3 rfl rfl R.c0 R.c1 rfl R'.c0 R'.c1 rfl ?_
      exact ⟨rfl, Y.old⟩
  · have e1 : decide (al = ah) = false := decide_eq_false s1
    rw [HV.out _ e1]
    clear HV s1 ha hb h
    go_wp2_with fail
    have X := X5.out
    obtain ⟨u, hu⟩ : ∃ u, u = ((((w.alloc (spO al ah)).alloc (spO bl bh)).alloc (spO 0 0)).alloc (spO 0 0)) := ⟨_, rfl⟩
    rw [← hu] at X ⊢
    clear hu X5
    have a0u : u.cell? ⟨w.heap.size, 0, none⟩ = some (.int .u64 al) := (X.at 0 (p := (al, ah)) rfl).c0
    have a1u : u.cell? ⟨w.heap.size, 1, none⟩ = some (.int .u64 ah) := (X.at 0 (p := (al, ah)) rfl).c1
    have b0u := (X.at 1 (p := (bl, bh)) rfl).c0
    have b1u := (X.at 1 (p := (bl, bh)) rfl).c1
    have X := Hid.mk' X
    have hn02 : ¬ (w.heap.size + 1 + 1 = w.heap.size) := by omega
    have hn03 : ¬ (w.heap.size + 1 + 1 + 1 = w.heap.size) := by omega
    have hn12 : ¬ (w.heap.size + 1 + 1 = w.heap.size + 1) := by omega
    have hn13 : ¬ (w.heap.size + 1 + 1 + 1 = w.heap.size + 1) := by omega
    have hn23 : ¬ (w.heap.size + 1 + 1 = w.heap.size + 1 + 1 + 1) := by omega
    have HS : Hid (∀ w', Bxs w w' [(al, ah), (bl, bh), (0, 0), (0, 0)] → w'.cell? ⟨w.heap.size, 0, none⟩ = some (.int .u64 al) ∧ w'.cell? ⟨w.heap.size, 1, none⟩ = some (.int .u64 ah) ∧ w'.cell? ⟨w.heap.size + 1, 0, none⟩ = some (.int .u64 bl) ∧ w'.cell? ⟨w.heap.size + 1, 1, none⟩ = some (.int .u64 bh)) := Hid.mk' (fun w' h => ⟨(h.at 0 (p := (al, ah)) rfl).c0, (h.at 0 (p := (al, ah)) rfl).c1, (h.at 1 (p := (bl, bh)) rfl).c0, (h.at 1 (p := (bl, bh)) rfl).c1⟩)
    refine wp_region_held_drew (S := fun w' => w'.cell? ⟨w.heap.size, 0, none⟩ = some (.int .u64 al) ∧ w'.cell? ⟨w.heap.size, 1, none⟩ = some (.int .u64 ah) ∧ w'.cell? ⟨w.heap.size + 1, 0, none⟩ = some (.int .u64 bl) ∧ w'.cell? ⟨w.heap.size + 1, 1, none⟩ = some (.int .u64 bh)) (by kernel_rfl) (HS.out _ (X.out.below ((Below.refl u.heap.size u).drew))) (fun hHeld => ?_)
    change wpAnyH _ _ _ _ _ 17 #[false, false, false, false, false, false, false, false, false, false, false, false, false, false, false, false, false] _ _
    refine held_take 0 7 (.agg #[.int .u64 al, .int .u64 ah]) rfl rfl (by kernel_rfl) (by kernel_rfl) (by kernel_rfl) (fun _ _ _ h => h) (Or.inl ⟨by rfl, fun u hu => ?_⟩) hHeld ?_
    · obtain ⟨q0, q1, q2, q3⟩ := hu
      go_simp
    simp only [Act.put, List.setIfInBounds_toArray, List.set_cons_zero, List.set_cons_succ]
    refine held_take 1 8 (.agg #[.int .u64 bl, .int .u64 bh]) rfl rfl (by kernel_rfl) (by kernel_rfl) (by kernel_rfl) (fun _ _ _ h => h) (Or.inl ⟨by rfl, fun u hu => ?_⟩) hHeld ?_
    · obtain ⟨q0, q1, q2, q3⟩ := hu
      go_simp
    simp only [Act.put, List.setIfInBounds_toArray, List.set_cons_zero, List.set_cons_succ]
    refine held_take 3 10 (.agg #[.int .u64 bl, .int .u64 bh]) rfl rfl (by kernel_rfl) (by kernel_rfl) (by kernel_rfl) (fun _ _ _ h => h) (Or.inl ⟨by rfl, fun u hu => ?_⟩) hHeld ?_
    · obtain ⟨q0, q1, q2, q3⟩ := hu
      go_simp
    simp only [Act.put, List.setIfInBounds_toArray, List.set_cons_zero, List.set_cons_succ]
    refine held_take 4 11 (.agg #[.int .u64 al, .int .u64 ah]) rfl rfl (by kernel_rfl) (by kernel_rfl) (by kernel_rfl) (fun _ _ _ h => h) (Or.inl ⟨by rfl, fun u hu => ?_⟩) hHeld ?_
    · obtain ⟨q0, q1, q2, q3⟩ := hu
      go_simp
    simp only [Act.put, List.setIfInBounds_toArray, List.set_cons_zero, List.set_cons_succ]
    refine held_take 6 13 (.agg #[.int .u64 al, .int .u64 ah]) rfl rfl (by kernel_rfl) (by kernel_rfl) (by kernel_rfl) (fun _ _ _ h => h) (Or.inl ⟨by rfl, fun u hu => ?_⟩) hHeld ?_
    · obtain ⟨q0, q1, q2, q3⟩ := hu
      go_simp
    simp only [Act.put, List.setIfInBounds_toArray, List.set_cons_zero, List.set_cons_succ]
    refine held_one 2 (by kernel_rfl) rfl (fun K hK => ?_)
    go_simp
    go_wp2_with (first | (go_at_call 37; refine (W1.out u.drew).mono ?_; rintro e w4 ⟨rfl, b4⟩; have X4 := Hid.mk' (X.out.below (((Below.refl u.heap.size u).drew).trans b4)); clear b4))
    refine hK.out _ _ (HS.out _ X4.out) (fun hHeld => ?_)
    clear hK K
    try simp only [List.setIfInBounds_toArray, List.set_cons_zero, List.set_cons_succ]
    refine held_one 5 (by kernel_rfl) rfl (fun K hK => ?_)
    go_simp
    go_wp2_with (first | (go_at_call 37; refine (W2.out w4).mono ?_; rintro e w5 ⟨rfl, b5⟩; have X5 := Hid.mk' (X4.out.below b5); clear b5))
    refine hK.out _ _ (HS.out _ X5.out) (fun hHeld => ?_)
    clear hK K
    try simp only [List.setIfInBounds_toArray, List.set_cons_zero, List.set_cons_succ]
    refine held_one 7 (by kernel_rfl) rfl (fun K hK => ?_)
    go_simp
    go_wp2_with (first | (go_at_call 18; refine (single_any al ah w5).mono ?_; rintro e w6 ⟨rfl, b6⟩; rw [e1]; have X6 := Hid.mk' (X5.out.below b6); clear b6))
    refine hK.out _ _ (HS.out _ X6.out) (fun hHeld => ?_)
    clear hK K
    try simp only [List.setIfInBounds_toArray, List.set_cons_zero, List.set_cons_succ]
    refine held_take 8 15 (.bool true) rfl rfl (by kernel_rfl) (by kernel_rfl) (by kernel_rfl) (fun _ _ _ h => h) (Or.inl ⟨by rfl, fun u hu => ?_⟩) hHeld ?_
    · obtain ⟨q0, q1, q2, q3⟩ := hu
      go_simp
    simp only [Act.put, List.setIfInBounds_toArray, List.set_cons_zero, List.set_cons_succ]
    refine held_take 9 16 (.bool true) rfl rfl (by kernel_rfl) (by kernel_rfl) (by kernel_rfl) (fun _ _ _ h => h) (Or.inl ⟨by rfl, fun u hu => ?_⟩) hHeld ?_
    · obtain ⟨q0, q1, q2, q3⟩ := hu
      go_simp
    simp only [Act.put, List.setIfInBounds_toArray, List.set_cons_zero, List.set_cons_succ]
    refine held_take 10 17 undef rfl rfl (by kernel_rfl) (by kernel_rfl) (by kernel_rfl) (fun _ _ _ h => h) (Or.inr ⟨by rfl, rfl⟩) hHeld ?_
    simp only [Act.put, List.setIfInBounds_toArray, List.set_cons_zero, List.set_cons_succ]
    refine held_take 11 18 undef rfl rfl (by kernel_rfl) (by kernel_rfl) (by kernel_rfl) (fun _ _ _ h => h) (Or.inr ⟨by rfl, rfl⟩) hHeld ?_
    simp only [Act.put, List.setIfInBounds_toArray, List.set_cons_zero, List.set_cons_succ]
    refine held_take 12 19 undef rfl rfl (by kernel_rfl) (by kernel_rfl) (by kernel_rfl) (fun _ _ _ h => h) (Or.inr ⟨by rfl, rfl⟩) hHeld ?_
    simp only [Act.put, List.setIfInBounds_toArray, List.set_cons_zero, List.set_cons_succ]
    refine held_take 13 20 (.bool true) rfl rfl (by kernel_rfl) (by kernel_rfl) (by kernel_rfl) (fun _ _ _ h => h) (Or.inl ⟨by rfl, fun u hu => ?_⟩) hHeld ?_
    · obtain ⟨q0, q1, q2, q3⟩ := hu
      go_simp
    simp only [Act.put, List.setIfInBounds_toArray, List.set_cons_zero, List.set_cons_succ]
    have y0 := (X6.out.at 2 (p := (0, 0)) rfl).c0
    have y1 := (X6.out.at 2 (p := (0, 0)) rfl).c1
    have f0 := (X6.out.at 2 (p := (0, 0)) rfl).fz 0
    have f1 := (X6.out.at 2 (p := (0, 0)) rfl).fz 1
    have z0 := (X6.out.at 3 (p := (0, 0)) rfl).c0
    have z1 := (X6.out.at 3 (p := (0, 0)) rfl).c1
    have t0 := (X6.out.at 3 (p := (0, 0)) rfl).fz 0
    have t1 := (X6.out.at 3 (p := (0, 0)) rfl).fz 1
    have X7 := Hid.mk' (X6.out.set 2 P1 P2 (by simp))
    have X8 := Hid.mk' (X7.out.set 3 Q1 Q2 (by simp))
    have HS7 : Hid (∀ w', Bxs w w' [(al, ah), (bl, bh), (P1, P2), (0, 0)] → w'.cell? ⟨w.heap.size, 0, none⟩ = some (.int .u64 al) ∧ w'.cell? ⟨w.heap.size, 1, none⟩ = some (.int .u64 ah) ∧ w'.cell? ⟨w.heap.size + 1, 0, none⟩ = some (.int .u64 bl) ∧ w'.cell? ⟨w.heap.size + 1, 1, none⟩ = some (.int .u64 bh)) := Hid.mk' (fun w' h => ⟨(h.at 0 (p := (al, ah)) rfl).c0, (h.at 0 (p := (al, ah)) rfl).c1, (h.at 1 (p := (bl, bh)) rfl).c0, (h.at 1 (p := (bl, bh)) rfl).c1⟩)
    have HS8 : Hid (∀ w', Bxs w w' [(al, ah), (bl, bh), (P1, P2), (Q1, Q2)] → w'.cell? ⟨w.heap.size, 0, none⟩ = some (.int .u64 al) ∧ w'.cell? ⟨w.heap.size, 1, none⟩ = some (.int .u64 ah) ∧ w'.cell? ⟨w.heap.size + 1, 0, none⟩ = some (.int .u64 bl) ∧ w'.cell? ⟨w.heap.size + 1, 1, none⟩ = some (.int .u64 bh)) := Hid.mk' (fun w' h => ⟨(h.at 0 (p := (al, ah)) rfl).c0, (h.at 0 (p := (al, ah)) rfl).c1, (h.at 1 (p := (bl, bh)) rfl).c0, (h.at 1 (p := (bl, bh)) rfl).c1⟩)
    refine held_one 14 (by kernel_rfl) rfl (fun K hK => ?_)
    go_simp
    refine hK.out _ _ (HS7.out _ X7.out) (fun hHeld => ?_)
    clear hK K
    try simp only [List.setIfInBounds_toArray, List.set_cons_zero, List.set_cons_succ]
    have z0 := (X7.out.at 3 (p := (0, 0)) rfl).c0
    have z1 := (X7.out.at 3 (p := (0, 0)) rfl).c1
    have t0 := (X7.out.at 3 (p := (0, 0)) rfl).fz 0
    have t1 := (X7.out.at 3 (p := (0, 0)) rfl).fz 1
    refine held_one 15 (by kernel_rfl) rfl (fun K hK => ?_)
    go_simp
    refine hK.out _ _ (HS8.out _ X8.out) (fun hHeld => ?_)
    clear hK K
    try simp only [List.setIfInBounds_toArray, List.set_cons_zero, List.set_cons_succ]
    refine held_take 16 6 (.bool true) rfl rfl (by kernel_rfl) (by kernel_rfl) (by kernel_rfl) (fun _ _ _ h => h) (Or.inl ⟨by rfl, fun u hu => ?_⟩) hHeld ?_
    · obtain ⟨q0, q1, q2, q3⟩ := hu
      go_simp
    simp only [Act.put, List.setIfInBounds_toArray, List.set_cons_zero, List.set_cons_succ]
    refine wpAnyH_done (by kernel_rfl) ?_ _
    go_wp2_with fail
    have R := X8.out.at 2 (p := (P1, P2)) rfl
    have R' := X8.out.at 3 (p := (Q1, Q2)) rfl
    refine ret_sp3 rfl rfl R.c0 R.c1 rfl R'.c0 R'.c1 rfl ?_
    exact ⟨rfl, X8.out.old⟩
end Go.Proofs.Ytpmbdnmiokkknab
