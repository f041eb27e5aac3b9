/- The walk of InsnBack. -/
import Derived.Test.YtmiiddkpmfiocaaIm
import Derived.Deep.CutBlock
namespace Go.Proofs.Ytmiiddkpmfiocaa
open Go.ChangeShapes Go.WideShapes Go.ChangeAt Go.RowKit
set_option maxRecDepth 10000

theorem may_ds' {p d s o i : Int} (h : InB p d s o i) (hm : mayB p d s o i = true) : d ≤ 9 ∧ s ≤ 9 := by
  rw [may_same p d s o i h.d0 h.s0] at hm
  exact ⟨(may_ds hm).2.2.1, (may_ds hm).2.2.2⟩

theorem dec_back (p d s o i : Int) (u : World) (h : InB p d s o i) (hm : mayB p d s o i = true) :
    Calls Try.prog 14 #[.int .u64 (wordN p d s o i)] u fun e w' => e = .returned (.tuple #[insV p d s o i, .int .i64 0]) ∧ Below u.heap.size u w' := by
  obtain ⟨h1, h2⟩ := may_ds' h hm
  obtain ⟨b0, b1⟩ := word_bounds h (by omega) (by omega)
  obtain ⟨e0, e1, e2, e3, e4⟩ := fields_word h (by omega) (by omega)
  have hd := dec_any (wordN p d s o i) u b0 (by omega)
  unfold decV at hd
  rw [e0, e1, e2, e3, e4, hm] at hd
  exact hd

theorem word_inj {p d s o i p' d' s' o' i' : Int} (h : InB p d s o i) (hm : mayB p d s o i = true) (h' : InB p' d' s' o' i') (hm' : mayB p' d' s' o' i' = true) (e : wordN p d s o i = wordN p' d' s' o' i') :
    p = p' ∧ d = d' ∧ s = s' ∧ o = o' ∧ i = i' := by
  obtain ⟨h1, h2⟩ := may_ds' h hm
  obtain ⟨k1, k2⟩ := may_ds' h' hm'
  obtain ⟨e0, e1, e2, e3, e4⟩ := fields_word h (by omega) (by omega)
  obtain ⟨f0, f1, f2, f3, f4⟩ := fields_word h' (by omega) (by omega)
  rw [e] at e0 e1 e2 e3 e4
  exact ⟨e0.symm.trans f0, e1.symm.trans f1, e2.symm.trans f2, e3.symm.trans f3, e4.symm.trans f4⟩

set_option maxHeartbeats 4000000 in
theorem back_ints (p d s o i p' d' s' o' i' v : Int) (W : World) (h : InB p d s o i) (h' : InB p' d' s' o' i') (v0 : 0 ≤ v) (v1 : v ≤ 18446744073709551615) :
    Calls Try.prog 7 #[insV p d s o i, insV p' d' s' o' i', .int .u64 v] W fun e w' => e = .returned (.bool true) ∧ Below W.heap.size W w' := by
  have K1 := Hid.mk' (fun u => enc_any p d s o i u h)
  have K2 := Hid.mk' (fun u => enc_any p' d' s' o' i' u h')
  have K3 := Hid.mk' (fun u hm => dec_back p d s o i u h hm)
  have K4 := Hid.mk' (fun u => check_any p d s o i u h)
  have K5 := fun u => dec_any v u v0 (by omega)
  have hF := fields_bounds v0 (by omega : v < 18446744073709551616)
  have K6 := fun u => enc_any (wP v) (wD v) (wS v) (wO v) (wI v) u hF
  rw [word_fields v] at K6
  have INJ := Hid.mk' (fun hm hm' e => word_inj h hm h' hm' e)
  have INE : Hid (p = p' → d = d' → s = s' → o = o' → i = i' → wordN p d s o i = wordN p' d' s' o' i') := Hid.mk' (by rintro rfl rfl rfl rfl rfl; rfl)
  unfold decV at K5
  generalize mayB (wP v) (wD v) (wS v) (wO v) (wI v) = b3 at *
  generalize wP v = q0 at *
  generalize wD v = q1 at *
  generalize wS v = q2 at *
  generalize wO v = q3 at *
  generalize wI v = q4 at *
  generalize mayB p d s o i = b1 at *
  generalize mayB p' d' s' o' i' = b2 at *
  generalize wordN p d s o i = E1 at *
  generalize wordN p' d' s' o' i' = E2 at *
  have K5 := Hid.mk' K5
  have K6 := Hid.mk' K6
  clear h h' hF
  go_enter Try.func7, Try.ntmps7
  go_wp2_with fail
  refine (works_any _).mono ?_
  rintro e w1 ⟨rfl, b1'⟩
  have CO : Hid (∀ u, Below w1.heap.size w1 u → u.cell? ⟨W.heap.size, 0, none⟩ = some (.int .u8 p) ∧ u.cell? ⟨W.heap.size, 1, none⟩ = some (.int .u8 d) ∧ u.cell? ⟨W.heap.size, 2, none⟩ = some (.int .u8 s) ∧ u.cell? ⟨W.heap.size, 3, none⟩ = some (.int .i16 o) ∧ u.cell? ⟨W.heap.size, 4, none⟩ = some (.int .i32 i) ∧
      u.cell? ⟨W.heap.size + 1, 0, none⟩ = some (.int .u8 p') ∧ u.cell? ⟨W.heap.size + 1, 1, none⟩ = some (.int .u8 d') ∧ u.cell? ⟨W.heap.size + 1, 2, none⟩ = some (.int .u8 s') ∧ u.cell? ⟨W.heap.size + 1, 3, none⟩ = some (.int .i16 o') ∧ u.cell? ⟨W.heap.size + 1, 4, none⟩ = some (.int .i32 i')) := Hid.mk' (fun u hb => by
    have hc := b1'.trans (hb.mono b1'.size)
    refine ⟨?_, ?_, ?_, ?_, ?_, ?_, ?_, ?_, ?_, ?_⟩
    · have := hc.cell (p := ⟨W.heap.size, 0, none⟩) (by simp; omega); simpa using this
    · have := hc.cell (p := ⟨W.heap.size, 1, none⟩) (by simp; omega); simpa using this
    · have := hc.cell (p := ⟨W.heap.size, 2, none⟩) (by simp; omega); simpa using this
    · have := hc.cell (p := ⟨W.heap.size, 3, none⟩) (by simp; omega); simpa using this
    · have := hc.cell (p := ⟨W.heap.size, 4, none⟩) (by simp; omega); simpa using this
    · have := hc.cell (p := ⟨W.heap.size + 1, 0, none⟩) (by simp); simpa using this
    · have := hc.cell (p := ⟨W.heap.size + 1, 1, none⟩) (by simp); simpa using this
    · have := hc.cell (p := ⟨W.heap.size + 1, 2, none⟩) (by simp); simpa using this
    · have := hc.cell (p := ⟨W.heap.size + 1, 3, none⟩) (by simp); simpa using this
    · have := hc.cell (p := ⟨W.heap.size + 1, 4, none⟩) (by simp); simpa using this)
  have B1 := Hid.mk' ((((Below.refl W.heap.size W).alloc (Nat.le_refl _) _).alloc (by simp) _).trans (b1'.mono (by simp; omega)))
  have hW : W.heap.size + 1 < w1.heap.size := by have := b1'.size; simp at this; omega
  clear b1'
  obtain ⟨c0, c1, c2, c3, c4, y0, y1, y2, y3, y4⟩ := CO.out _ (Below.refl _ _)
  go_wp2_with fail
  refine (K1.out _).mono ?_
  rintro e w2 ⟨rfl, b2'⟩
  have J2 := Hid.mk' b2'
  obtain ⟨c0, c1, c2, c3, c4, y0, y1, y2, y3, y4⟩ := CO.out _ J2.out
  have hs2 := b2'.size
  clear b2'
  go_wp2_with fail
  refine (K2.out _).mono ?_
  rintro e w3 ⟨rfl, b3'⟩
  have J3 := Hid.mk' (J2.out.trans (b3'.mono hs2))
  obtain ⟨c0, c1, c2, c3, c4, y0, y1, y2, y3, y4⟩ := CO.out _ J3.out
  have hs3 := J3.out.size
  clear b3' J2
  go_upto_if 30 with fail
  go_cut [0, 1] from 17 (fun _ _ wx => Hid (Below w1.heap.size w1 wx))
  case first =>
    cases b1 with
    | false =>
      have e1 : ckN false = 130 := rfl
      rw [e1]
      go_wp2_with fail
      go_meet
      exact J3
    | true =>
      have e1 : ckN true = 0 := rfl
      have e2 : encN true E1 = E1 := rfl
      rw [e1, e2]
      go_wp2_with fail
      refine (K3.out _ (by first | rfl | trivial)).mono ?_
      rintro e w4 ⟨rfl, b4⟩
      have J4 := Hid.mk' ((J3.out.trans (b4.mono hs3)).alloc (by have := b4.size; omega) (.cells #[.int .u8 p, .int .u8 d, .int .u8 s, .int .i16 o, .int .i32 i] 24))
      obtain ⟨c0, c1, c2, c3, c4, y0, y1, y2, y3, y4⟩ := CO.out _ (J3.out.trans (b4.mono hs3))
      have hs4 := b4.size
      have hx4 : W.heap.size < w4.heap.size := by omega
      have hy4 : W.heap.size + 1 < w4.heap.size := by omega
      have hx4' : ¬ W.heap.size = w4.heap.size := by omega
      clear b4
      go_wp2_with fail
      refine (K4.out _).mono ?_
      rintro e w5 ⟨rfl, b5⟩
      have J5 := Hid.mk' (J4.out.trans (b5.mono (by simp; omega)))
      rw [e1]
      go_wp2_with fail
      go_meet
      exact J5
  case rest =>
  have J6 := hcut
  obtain ⟨w6, hw6⟩ : ∃ w6, w6 = wc := ⟨_, rfl⟩
  subst hw6
  clear hcut J3 c0 c1 c2 c3 c4 y0 y1 y2 y3 y4
  obtain ⟨c0, c1, c2, c3, c4, y0, y1, y2, y3, y4⟩ := CO.out _ J6.out
  have hs6 := J6.out.size
  go_upto_region 9 with fail
  go_cut [62] from 17 (fun s62 wx => s62 = .bool false ∧ w6 = wx)
  case first =>
    cases b1 with
    | false =>
      have e1 : ckN false = 130 := rfl
      rw [e1]
      go_wp2_with fail
      go_meet
      exact ⟨rfl, rfl⟩
    | true =>
      have e1 : ckN true = 0 := rfl
      have e1' : encN true E1 = E1 := rfl
      rw [e1, e1']
      cases b2 with
      | false =>
        have e2 : ckN false = 130 := rfl
        rw [e2]
        go_wp2_with fail
        go_meet
        exact ⟨rfl, rfl⟩
      | true =>
        have e2 : encN true E2 = E2 := rfl
        rw [e1, e2]
        by_cases he : E1 = E2
        · obtain ⟨rfl, rfl, rfl, rfl, rfl⟩ := INJ.out (by first | rfl | trivial) (by first | rfl | trivial) he
          subst he
          go_wp2_with fail
          go_meet
          exact ⟨rfl, rfl⟩
        · have he' : (E1 == E2) = false := by simpa using he
          go_wp2_with fail
          all_goals
            go_meet
            first
              | exact ⟨rfl, rfl⟩
              | exact absurd (INE.out (by first | rfl | assumption | exact eq_of_beq (by assumption)) (by first | rfl | assumption | exact eq_of_beq (by assumption)) (by first | rfl | assumption | exact eq_of_beq (by assumption)) (by first | rfl | assumption | exact eq_of_beq (by assumption)) (by first | rfl | assumption | exact eq_of_beq (by assumption))) he
  case rest =>
  obtain ⟨rfl, rfl⟩ := hcut
  clear c0 c1 c2 c3 c4 y0 y1 y2 y3 y4 INJ INE K1 K2 K3 K4
  cases b3 with
  | false =>
    have e1 : ckN false = 130 := rfl
    have e2 : ∀ x, encN false x = 0 := fun _ => rfl
    simp only [e1, e2] at K5 K6
    go_wp2_with fail
    refine (K5.out _).mono ?_
    rintro e w7 ⟨rfl, b7⟩
    go_wp2_with fail
    go_ret
    have := b7.size
    have := B1.out.size
    exact ⟨rfl, ((B1.out.trans (J6.out.mono (by omega))).trans (b7.mono (by omega))).alloc (by omega) _⟩
  | true =>
    have e1 : ckN true = 0 := rfl
    have e2 : ∀ x, encN true x = x := fun _ => rfl
    simp only [e1, e2] at K5 K6
    go_wp2_with fail
    refine (K5.out _).mono ?_
    rintro e w7 ⟨rfl, b7⟩
    have hs7 := b7.size
    go_wp2_with fail
    refine (K6.out _).mono ?_
    rintro e w8 ⟨rfl, b8⟩
    go_wp2_with fail
    go_ret
    have := B1.out.size
    exact ⟨rfl, (((B1.out.trans (J6.out.mono (by omega))).trans (b7.mono (by omega))).alloc (by omega) _).trans (b8.mono (by simp; omega))⟩

theorem walkInsnBack (m0 m1 : sh24.M) (v : Int) (W : World) (o0 : sh24.ok W m0) (o1 : sh24.ok W m1) (hv : (Lit.int .u64 v).wf = true) : Calls Try.prog 7 #[.agg (sh24.cs m0).toArray, .agg (sh24.cs m1).toArray, .int .u64 v] W fun e w' => e = .returned (.bool true) ∧ Below W.heap.size W w' := by
  obtain ⟨p, d, s, o, i⟩ := m0
  obtain ⟨p', d', s', o', i'⟩ := m1
  obtain ⟨v0, v1⟩ := bounds_u64 hv
  exact back_ints p d s o i p' d' s' o' i' v W (inB_of o0) (inB_of o1) v0 (by omega)
end Go.Proofs.Ytmiiddkpmfiocaa
