/- The statements' own 'awake' of layer 4. -/
import Derived.Test.YtbinedhgjmfceaaHh
namespace Go.Proofs.Ytbinedhgjmfceaa
open Go.ChangeShapes Go.WideShapes Go.ChangeAt Go.RowKit

theorem Heap.start (W : World) (d : Sd) : Heap W W [shT d (fun _ => False) [] [] ⟨[], []⟩] := by
  refine ⟨fun T hT => ?_, by simp, fun T hT k hk => ?_, Below.refl _ _⟩
  · obtain rfl : T = _ := by simpa using hT
    exact Shs.none_new d W
  · obtain rfl : T = _ := by simpa using hT
    exact hk.elim

theorem Heap.dr' {W w w' : World} {L : List Thing} (h : Heap W w L) (d : Dr w w') : Heap W w' L := h.below (d.below _)
theorem Heap.shs {W w : World} {L : List Thing} {d : Sd} {F : Nat → Prop} {sl pl : List Nat} {σ : St} (h : Heap W w L) (i : Nat) (hi : L[i]? = some (shT d F sl pl σ)) : Shs d w F sl pl σ := h.get hi

theorem bs_ownv {w : World} {base : Nat} {t : TypeId} {v : Value} {zs : List Int} (h : w.ownsRow base t 1 v zs.length (zs.map (Value.int .u8))) (hb : Bytes zs) (hl : zs.length ≤ 140737488355328) : ∃ a c, v = .slice a zs.length c ∧ Bs w a zs := by
  obtain ⟨a, c, e, h1, -⟩ := bs_own h hb hl
  exact ⟨a, c, e, h1⟩

set_option maxHeartbeats 2000000 in
theorem awake4 (W : World) : Calls Try.prog 11 #[] W fun e w' => e = .returned (.bool true) ∧ Below W.heap.size W w' := by
  have h0 := (Heap.start W pgS).below ((Below.refl _ _).alloc (Nat.le_refl _) (.cells #[.int .u8 1, .int .u8 2] 5))
  have key := sh_new (some ⟨W.heap.size, 0, none⟩) 2 2 [1, 2] (h0.shs 0 rfl) rfl (bs_new W [1, 2] 5 (by unfold Bytes; simp) (by simp)) (by omega)
  have H0 := Hid.mk' h0
  clear h0
  go_enter Try.func11, Try.ntmps11
  go_wp2_with fail
  refine key.mono ?_
  rintro e w1 ⟨s, p, rfl, -, -, hn⟩
  obtain ⟨F1, h1⟩ := H0.out.next 0 rfl hn
  have H1 : Hid (Heap W w1 [shT pgS F1 [s] [p] ⟨[some 0], [⟨[1, 2], 64, 64, 0⟩]⟩]) := h1
  clear key hn h1 H0
  go_wp2_with fail
  refine (sh_clone (i := 0) (H1.out.shs 0 rfl) rfl rfl (by decide)).mono ?_
  rintro e w2 ⟨t, rfl, hn⟩
  obtain ⟨F2, h2⟩ := H1.out.next 0 rfl hn
  have H2 : Hid (Heap W w2 [shT pgS F2 [s, t] [p] ⟨[some 0, some 0], [⟨[1, 2], 64, 64, 0⟩]⟩]) := h2
  clear hn h2 H1
  go_wp2_with fail
  refine (sh_count (i := 0) (H2.out.shs 0 rfl) rfl rfl).mono ?_
  rw [show many [some 0, some 0] 0 = 2 from rfl]
  rintro e w3 ⟨rfl, rfl⟩
  go_wp2_with fail
  refine (sh_store (i := 1) (G := ⟨[1, 2], 64, 64, 0⟩) 0 1 9 (H2.out.shs 0 rfl) rfl rfl rfl (by decide) (by omega) (by omega) (by omega) (by omega)).mono ?_
  rw [show askE ([1, 2] : List Int).length 0 1 = 0 by decide]
  rintro e w3 ⟨rfl, pl, hn⟩
  obtain ⟨F3, h3⟩ := H2.out.next 0 rfl hn
  have H3 : Hid (Heap W w3 [shT pgS F3 [s, t] pl ⟨[some 0, some 1], [⟨[1, 2], 64, 64, 0⟩, ⟨[9, 2], 64, 64, 0⟩]⟩]) := h3
  clear hn h3 H2
  go_wp2_with fail
  refine (sh_bytes (i := 0) (G := ⟨[1, 2], 64, 64, 0⟩) (H3.out.shs 0 rfl) rfl rfl rfl).mono ?_
  rintro e w4 ⟨v, rfl, hown, b4⟩
  obtain ⟨av, cv, hv, hbs⟩ := bs_ownv hown (by unfold Bytes; simp) (by simp)
  subst hv
  have H4 := Hid.mk' (H3.out.below b4)
  have HB := Hid.mk' hbs
  have HL := Hid.mk' (bs_new w4 [1, 2] 5 (by unfold Bytes; simp) (by simp))
  have HA : Hid (Below w4.heap.size w4 (w4.alloc (.cells #[.int .u8 1, .int .u8 2] 5))) := (Below.refl _ _).alloc (Nat.le_refl _) _
  clear hown b4 hbs H3
  go_wp2_with fail
  refine (eq_at av (some ⟨w4.heap.size, 0, none⟩) 2 2 cv 2 [1, 2] [1, 2] _ rfl rfl (HB.out.below HA.out) HL.out).mono ?_
  rw [show decide (([1, 2] : List Int) = [1, 2]) = true from by simp]
  rintro e w5 ⟨rfl, d5⟩
  have H5 := Hid.mk' ((H4.out.below HA.out).dr' d5)
  clear d5 HA HL HB H4
  go_wp2_with fail
  refine (sh_bytes (i := 1) (G := ⟨[9, 2], 64, 64, 0⟩) (H5.out.shs 0 rfl) rfl rfl rfl).mono ?_
  rintro e w6 ⟨v, rfl, hown, b6⟩
  obtain ⟨av2, cv2, hv, hbs⟩ := bs_ownv hown (by unfold Bytes; simp) (by simp)
  subst hv
  have H6 := Hid.mk' (H5.out.below b6)
  have HB := Hid.mk' hbs
  have HL := Hid.mk' (bs_new w6 [9, 2] 5 (by unfold Bytes; simp) (by simp))
  have HA : Hid (Below w6.heap.size w6 (w6.alloc (.cells #[.int .u8 9, .int .u8 2] 5))) := (Below.refl _ _).alloc (Nat.le_refl _) _
  clear hown b6 hbs H5
  go_wp2_with fail
  refine (eq_at av2 (some ⟨w6.heap.size, 0, none⟩) 2 2 cv2 2 [9, 2] [9, 2] _ rfl rfl (HB.out.below HA.out) HL.out).mono ?_
  rw [show decide (([9, 2] : List Int) = [9, 2]) = true from by simp]
  rintro e w7 ⟨rfl, d7⟩
  have H7 := Hid.mk' ((H6.out.below HA.out).dr' d7)
  clear d7 HA HL HB H6
  go_wp2_with fail
  refine (sh_count (i := 0) (H7.out.shs 0 rfl) rfl rfl).mono ?_
  rw [show many [some 0, some 1] 0 = 1 from rfl]
  rintro e w8 ⟨rfl, rfl⟩
  go_wp2_with fail
  refine (sh_count (i := 1) (H7.out.shs 0 rfl) rfl rfl).mono ?_
  rw [show many [some 0, some 1] 1 = 1 from rfl]
  rintro e w8 ⟨rfl, rfl⟩
  go_wp2_with fail
  go_ret
  exact ⟨rfl, H7.out.old⟩
end Go.Proofs.Ytbinedhgjmfceaa
