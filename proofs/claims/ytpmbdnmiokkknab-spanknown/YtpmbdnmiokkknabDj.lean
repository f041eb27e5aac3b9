/- Many spans in boxes; the contracts of span.ordered, span.common. -/
import Derived.Test.YtpmbdnmiokkknabDd
namespace Go.Proofs.Ytpmbdnmiokkknab
open Go.ChangeShapes Go.WideShapes Go.ChangeAt Go.RowKit
set_option maxRecDepth 10000
set_option linter.unusedVariables false

/-- Spans in boxes, one behind the other, from the world's end on. -/
structure Bxs (w u : World) (L : List (Int × Int)) : Prop where
  old : Below w.heap.size w u
  box : ∀ k p, L[k]? = some p → Box u (w.heap.size + k) p.1 p.2
theorem Bxs.at {w u : World} {L : List (Int × Int)} (h : Bxs w u L) (k : Nat) {p : Int × Int} (hk : L[k]? = some p) : Box u (w.heap.size + k) p.1 p.2 := h.box k p hk
theorem Bxs.below {w u u' : World} {L : List (Int × Int)} (h : Bxs w u L) (k : Below u.heap.size u u') : Bxs w u' L :=
  ⟨h.old.trans (k.mono h.old.size), fun i p hp => (h.box i p hp).below k⟩
theorem Bxs.dr {w u u' : World} {L : List (Int × Int)} (h : Bxs w u L) (k : Dr u u') : Bxs w u' L := h.below (k.below _)
theorem Bxs.set {w u : World} {L : List (Int × Int)} (h : Bxs w u L) (k : Nat) (x y : Int) (hk : k < L.length) : Bxs w ((u.setCell ⟨w.heap.size + k, 0, none⟩ (.int .u64 x)).setCell ⟨w.heap.size + k, 1, none⟩ (.int .u64 y)) (L.set k (x, y)) := by
  refine ⟨below_set2 h.old (Nat.le_add_right _ _) _ _, fun i p hp => ?_⟩
  by_cases e : k = i
  · subst e
    rw [List.getElem?_set_self hk] at hp
    cases hp
    exact (h.box k _ (List.getElem?_eq_getElem hk)).set x y
  · rw [List.getElem?_set_ne e] at hp
    exact ((h.box i p hp).other 0 _ (by omega)).other 1 _ (by omega)
theorem Bxs.set0 {w u : World} {L : List (Int × Int)} (h : Bxs w u L) (k : Nat) (x : Int) {p : Int × Int} (hk : L[k]? = some p) : Bxs w (u.setCell ⟨w.heap.size + k, 0, none⟩ (.int .u64 x)) (L.set k (x, p.2)) := by
  refine ⟨below_set h.old (Nat.le_add_right _ _) 0 _, fun i q hp => ?_⟩
  by_cases e : k = i
  · subst e
    rw [List.getElem?_set_self (List.getElem?_eq_some_iff.1 hk).1] at hp
    cases hp
    exact ⟨Go.heap_setCell_same u (w.heap.size + k) 0 #[.int .u64 p.1, .int .u64 p.2] 24 (.int .u64 x) (h.box k p hk).blk⟩
  · rw [List.getElem?_set_ne e] at hp
    exact (h.box i q hp).other 0 _ (by omega)
theorem Bxs.set1 {w u : World} {L : List (Int × Int)} (h : Bxs w u L) (k : Nat) (x : Int) {p : Int × Int} (hk : L[k]? = some p) : Bxs w (u.setCell ⟨w.heap.size + k, 1, none⟩ (.int .u64 x)) (L.set k (p.1, x)) := by
  refine ⟨below_set h.old (Nat.le_add_right _ _) 1 _, fun i q hp => ?_⟩
  by_cases e : k = i
  · subst e
    rw [List.getElem?_set_self (List.getElem?_eq_some_iff.1 hk).1] at hp
    cases hp
    exact ⟨Go.heap_setCell_same u (w.heap.size + k) 1 #[.int .u64 p.1, .int .u64 p.2] 24 (.int .u64 x) (h.box k p hk).blk⟩
  · rw [List.getElem?_set_ne e] at hp
    exact (h.box i q hp).other 1 _ (by omega)

/-- .. that were laid just now. -/
structure BxE (w u : World) (L : List (Int × Int)) : Prop where
  out : Bxs w u L
  size : u.heap.size = w.heap.size + L.length
theorem BxE.nil (w : World) : BxE w w [] := ⟨⟨Below.refl _ _, fun k p h => by simp at h⟩, rfl⟩
theorem BxE.add {w u : World} {L : List (Int × Int)} (h : BxE w u L) (x y : Int) : BxE w (u.alloc (spO x y)) (L ++ [(x, y)]) := by
  refine ⟨⟨h.out.old.trans ((bl1 u _).mono h.out.old.size), fun k p hp => ?_⟩, by simp [h.size]; omega⟩
  by_cases e : k < L.length
  · rw [List.getElem?_append_left e] at hp
    exact (h.out.box k p hp).alloc _
  · rw [List.getElem?_append_right (by omega)] at hp
    have hk : k = L.length := by
      have := (List.getElem?_eq_some_iff.1 hp).1
      simp at this
      omega
    subst hk
    simp at hp
    subst hp
    exact Box.new u x y h.size.symm

/-- What is left where a's number is by g or more below b's. -/
def odC (g al bh : Int) : Bool := decide (al ≤ bh ∧ g ≤ bh - al)
def odX (g al ah bl bh : Int) : Int × Int := (al, mn ah (bh - g))
def odY (g al ah bl bh : Int) : Int × Int := (mx bl (al + g), bh)

set_option maxHeartbeats 1000000 in
theorem ordered_any (g al ah bl bh : Int) (w : World) (h : U4 al ah bl bh) (g0 : 0 ≤ g) (g1 : g ≤ 1) :
    Calls Try.prog 31 #[spV (al, ah), spV (bl, bh), .int .u64 g] w fun e w' =>
      e = .returned (.tuple #[spV (if odC g al bh = true then odX g al ah bl bh else (0, 0)), spV (if odC g al bh = true then odY g al ah bl bh else (0, 0)), .bool (odC g al bh)]) ∧ Below w.heap.size w w' := by
  obtain ⟨a0, a1, a2, a3, b0, b1, b2, b3⟩ := h
  have X4 := ((((BxE.nil w).add al ah).add bl bh).add 0 0).add 0 0
  by_cases hc : al ≤ bh ∧ g ≤ bh - al
  · have e1 : odC g al bh = true := decide_eq_true hc
    rw [e1, if_pos rfl, if_pos rfl]
    obtain ⟨k1, k2⟩ := hc
    have hx1 : ∀ (u : World) ts t, (Builtin.min_ ts t #[.int .u64 ah, .int .u64 (bh - g)]).run Try.prog u = .ok (.int .u64 (mn ah (bh - g))) u := fun u ts t => by rw [run_min_int2]; rfl
    have hx2 : ∀ (u : World) ts t, (Builtin.max_ ts t #[.int .u64 bl, .int .u64 (al + g)]).run Try.prog u = .ok (.int .u64 (mx bl (al + g))) u := fun u ts t => by rw [run_max_int2]; rfl
    have X6 := (X4.add al (mn ah (bh - g))).add (mx bl (al + g)) bh
    have X6 := Hid.mk' X6.out
    clear X4 e1
    unfold odX odY
    generalize mn ah (bh - g) = P at *
    generalize mx bl (al + g) = Q at *
    go_enter Try.func31, Try.ntmps31
    go_wp2_with fail
    have X := X6.out
    obtain ⟨u, hu⟩ : ∃ u, u = ((((((w.alloc (spO al ah)).alloc (spO bl bh)).alloc (spO 0 0)).alloc (spO 0 0)).alloc (spO al P)).alloc (spO Q bh)) := ⟨_, rfl⟩
    rw [← hu] at X ⊢
    clear hu X6 hx1 hx2
    have c0 := (X.at 4 (p := (al, P)) rfl).c0
    have c1 := (X.at 4 (p := (al, P)) rfl).c1
    have d0 := (X.at 5 (p := (Q, bh)) rfl).c0
    have d1 := (X.at 5 (p := (Q, bh)) rfl).c1
    have y0 := (X.at 2 (p := (0, 0)) rfl).c0
    have y1 := (X.at 2 (p := (0, 0)) rfl).c1
    have f0 := (X.at 2 (p := (0, 0)) rfl).fz 0
    have f1 := (X.at 2 (p := (0, 0)) rfl).fz 1
    have z0 := (X.at 3 (p := (0, 0)) rfl).c0
    have z1 := (X.at 3 (p := (0, 0)) rfl).c1
    have t0 := (X.at 3 (p := (0, 0)) rfl).fz 0
    have t1 := (X.at 3 (p := (0, 0)) rfl).fz 1
    have X := Hid.mk' X
    go_region
    all_goals
      go_wp2_with fail
      have Y := (((X.out.set 2 al P (by simp)).set 3 Q bh (by simp)).dr (u' := _) ⟨1, rfl⟩)
      have R := Y.at 2 (p := (al, P)) rfl
      have R' := Y.at 3 (p := (Q, bh)) rfl
      refine ret_sp3 rfl rfl R.c0 R.c1 rfl R'.c0 R'.c1 rfl ?_
      exact ⟨rfl, Y.old⟩
  · have e1 : odC g al bh = false := decide_eq_false hc
    rw [e1, if_neg (by decide), if_neg (by decide)]
    have X4 := Hid.mk' X4.out
    by_cases k : al > bh
    · go_enter Try.func31, Try.ntmps31
      go_wp2_with fail
      have Y := (X4.out.at 2 (p := (0, 0)) rfl)
      have Z := (X4.out.at 3 (p := (0, 0)) rfl)
      refine ret_sp3 rfl rfl Y.c0 Y.c1 rfl Z.c0 Z.c1 rfl ?_
      exact ⟨rfl, X4.out.old⟩
    · have k2 : al ≤ bh := by omega
      have k3 : bh - al < g := by omega
      clear k
      go_enter Try.func31, Try.ntmps31
      go_wp2_with fail
      have Y := (X4.out.at 2 (p := (0, 0)) rfl)
      have Z := (X4.out.at 3 (p := (0, 0)) rfl)
      refine ret_sp3 rfl rfl Y.c0 Y.c1 rfl Z.c0 Z.c1 rfl ?_
      exact ⟨rfl, X4.out.old⟩

theorem ret_b3 {x y : Value} {a b : Bool} (h : a = b) : Ending.returned (.tuple #[x, y, .bool a]) = .returned (.tuple #[x, y, .bool b]) := by rw [h]
theorem ckS_beq (l h : Int) : (ckS l h == 0) = decide (l ≤ h) := by
  rw [Bool.eq_iff_iff]
  simp [ckS_ok]

set_option maxHeartbeats 1000000 in
theorem common_any (al ah bl bh : Int) (w : World) :
    Calls Try.prog 29 #[spV (al, ah), spV (bl, bh)] w fun e w' =>
      e = .returned (.tuple #[spV (mx al bl, mn ah bh), spV (mx al bl, mn ah bh), .bool (decide (mx al bl ≤ mn ah bh))]) ∧ Below w.heap.size w w' := by
  have X5 := (((((BxE.nil w).add al ah).add bl bh).add 0 0).add 0 0).add (mx al bl) (mn ah bh)
  have X5 := Hid.mk' X5.out
  have hx1 : ∀ (u : World) ts t, (Builtin.min_ ts t #[.int .u64 ah, .int .u64 bh]).run Try.prog u = .ok (.int .u64 (mn ah bh)) u := fun u ts t => by rw [run_min_int2]; rfl
  have hx2 : ∀ (u : World) ts t, (Builtin.max_ ts t #[.int .u64 al, .int .u64 bl]).run Try.prog u = .ok (.int .u64 (mx al bl)) u := fun u ts t => by rw [run_max_int2]; rfl
  generalize mn ah bh = Q at *
  generalize mx al bl = P at *
  have HC := Hid.mk' (ckS_beq P Q)
  go_enter Try.func29, Try.ntmps29
  go_wp2_with fail
  have X := X5.out
  obtain ⟨u, hu⟩ : ∃ u, u = (((((w.alloc (spO al ah)).alloc (spO bl bh)).alloc (spO 0 0)).alloc (spO 0 0)).alloc (spO P Q)) := ⟨_, rfl⟩
  rw [← hu] at X ⊢
  clear hu X5 hx1 hx2
  have c0 := (X.at 4 (p := (P, Q)) rfl).c0
  have c1 := (X.at 4 (p := (P, Q)) rfl).c1
  have X := Hid.mk' X
  have hn2 : ¬ (w.heap.size + 1 + 1 = w.heap.size + 1 + 1 + 1 + 1) := by omega
  have hn3 : ¬ (w.heap.size + 1 + 1 + 1 = w.heap.size + 1 + 1 + 1 + 1) := by omega
  have hn1 : ¬ (w.heap.size + 1 + 1 = w.heap.size + 1 + 1 + 1) := by omega
  go_region_held3 (fun w' => w'.cell? ⟨w.heap.size + 1 + 1 + 1 + 1, 0, none⟩ = some (.int .u64 P) ∧ w'.cell? ⟨w.heap.size + 1 + 1 + 1 + 1, 1, none⟩ = some (.int .u64 Q)) (go_keep) (first
    | (go_at_call 6; refine (check_any P Q u.drew).mono ?_; rintro e w4 ⟨rfl, b4⟩; have X4 := X.out.below (((Below.refl u.heap.size u).drew).trans b4); have e0 := (X4.at 4 (p := (P, Q)) rfl).c0; have e1 := (X4.at 4 (p := (P, Q)) rfl).c1; have y0 := (X4.at 2 (p := (0, 0)) rfl).c0; have y1 := (X4.at 2 (p := (0, 0)) rfl).c1; have f0 := (X4.at 2 (p := (0, 0)) rfl).fz 0; have f1 := (X4.at 2 (p := (0, 0)) rfl).fz 1; have z0 := (X4.at 3 (p := (0, 0)) rfl).c0; have z1 := (X4.at 3 (p := (0, 0)) rfl).c1; have t0 := (X4.at 3 (p := (0, 0)) rfl).fz 0; have t1 := (X4.at 3 (p := (0, 0)) rfl).fz 1; have X4 := Hid.mk' X4; clear b4))
  all_goals
    go_wp2_with fail
    have Y := ((X4.out.set 2 P Q (by simp)).set 3 P Q (by simp))
    have R := Y.at 2 (p := (P, Q)) rfl
    have R' := Y.at 3 (p := (P, Q)) rfl
    refine ret_sp3 rfl rfl R.c0 R.c1 rfl R'.c0 R'.c1 rfl ?_
    exact ⟨ret_b3 HC.out, Y.old⟩
end Go.Proofs.Ytpmbdnmiokkknab
