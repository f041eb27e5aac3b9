/- The walk of FlowLoops. -/
import Derived.Test.YtffjddabjjcjpaaFl
namespace Go.Proofs.Ytffjddabjjcjpaa
open Go.ChangeShapes Go.WideShapes Go.ChangeAt Go.RowKit
set_option maxRecDepth 10000
variable {L : List Q5}

/-- The loops' row, where there is one. -/
theorem lp_row {w : World} {base : Nat} {u : Value} {l : List Lp} (h : w.ownsRow base 43 4 u l.length (lpCs l)) : ∃ a c, u = .slice a l.length c ∧ (l.length = 0 ∨ ∃ g, a = some ⟨g, 0, none⟩ ∧ base ≤ g ∧ g < w.heap.size ∧
    ∀ k b e t d, l[k]? = some (b, e, t, d) → w.cell? ⟨g, k * 4, none⟩ = some (.int .i64 b) ∧ w.cell? ⟨g, k * 4 + 1, none⟩ = some (.int .i64 e) ∧ w.cell? ⟨g, k * 4 + 2, none⟩ = some (.int .i64 t) ∧ w.cell? ⟨g, k * 4 + 3, none⟩ = some (.int .i64 d)) := by
  rcases h.2 with ⟨rfl, h0⟩ | ⟨g, cap, cur, rfl, hb, hg, _⟩
  · exact ⟨none, 0, by rw [h0], .inl h0⟩
  · refine ⟨_, _, rfl, .inr ⟨g, rfl, hb, (Array.getElem?_eq_some_iff.1 hg).1, fun k b e t d hk => ?_⟩⟩
    have hlt := (List.getElem?_eq_some_iff.1 hk).1
    obtain ⟨a0, a1, a2, a3⟩ := lpCs_at l k b e t d hk
    refine ⟨?_, ?_, ?_, ?_⟩
    · rw [h.cellAt (k * 4) (by omega)]; exact a0
    · rw [h.cellAt (k * 4 + 1) (by omega)]; exact a1
    · rw [h.cellAt (k * 4 + 2) (by omega)]; exact a2
    · rw [h.cellAt (k * 4 + 3) (by omega)]; exact a3

set_option maxHeartbeats 4000000 in
theorem flowloops_any (v : Value) (W : World) (hv : Cd W v L) :
    Calls Try.prog 5 #[v] W fun e w' => e = .returned (.bool true) ∧ Below W.heap.size W w' := by
  have HV := Hid.mk' hv
  obtain ⟨a, c, rfl, hc, hl⟩ := hv.lies
  clear hv
  obtain ⟨E, hE⟩ : ∃ E, Hid ((ckF L).2 = E) := ⟨_, Hid.mk' rfl⟩
  obtain ⟨n, hn⟩ : ∃ n, L.length = n := ⟨_, rfl⟩
  rw [hn] at hc HV ⊢
  have KLo : Hid (∀ u, Below W.heap.size W u → Calls Try.prog 16 #[.slice a n c] u fun e w' => (∃ r, e = .returned (.tuple #[r, .int .i64 E]) ∧ w'.ownsRow u.heap.size 43 4 r (lpV L).length (lpCs (lpV L))) ∧ Below u.heap.size u w') := Hid.mk' (fun u hu => by
    have := loops_f _ u (HV.out.below hu)
    rw [hE.out] at this
    exact this)
  have KSt : Hid (∀ u, Below W.heap.size W u → Calls Try.prog 15 #[.slice a n c] u fun e w' => e = .returned (.tuple #[.int .i64 (stN L), .int .i64 E]) ∧ Below u.heap.size u w') := Hid.mk' (fun u hu => by
    have := steps_f _ u (HV.out.below hu)
    rw [hE.out] at this
    exact this)
  go_enter Try.func5, Try.ntmps5
  go_wp2_with fail
  refine (works_any _).mono ?_
  rintro e w1 ⟨rfl, b1⟩
  have B1 := Hid.mk' b1
  clear b1
  go_wp2_with fail
  refine (KLo.out _ B1.out).mono ?_
  rintro e w2 ⟨⟨r, rfl, hr⟩, b2⟩
  have B2 := Hid.mk' (B1.out.trans (b2.mono B1.out.size))
  clear b2
  obtain ⟨ga, gc, rfl, hrow⟩ := lp_row hr
  clear hr
  by_cases hE0 : E = 0
  · have HG : Hid (Good L) := Hid.mk' (good_of (by rw [hE.out, hE0]))
    have hn256 : n ≤ 256 := by rw [← hn]; exact HG.out.len
    have hn0 : 0 < n := by rw [← hn]; exact HG.out.pos
    have eLP : lpV L = lpN L L.length := by unfold lpV; rw [hE.out, hE0]; rfl
    have eST : stN L = spN L L.length := by unfold stN; rw [hE.out, hE0]; rfl
    have hsb := spN_bd HG.out (k := L.length) (Nat.le_refl _)
    rw [eLP] at hrow ⊢
    rw [eST] at KSt
    obtain ⟨S, hS⟩ : ∃ S, spN L L.length = S := ⟨_, rfl⟩
    rw [hS] at KSt hsb
    have HL := Hid.mk' hn
    rw [hn] at hsb
    obtain ⟨m, hm⟩ : ∃ m, (lpN L L.length).length = m := ⟨_, rfl⟩
    rw [hm] at hrow ⊢
    have HM := Hid.mk' hm
    have hmn : m ≤ n := by rw [← hm, ← hn]; exact lpN_len _
    rcases hl with h0 | ⟨b, off, rfl, hC⟩
    · rw [h0] at hn; simp at hn; omega
    have HC := Hid.mk' (hC.below B2.out)
    have HR := Hid.mk' hrow
    clear hn hC eLP eST hS hm hrow
    subst hE0
    go_wp2_with fail
    go_loopw [5] (fun i wr => ∃ q : Nat, q ≤ m ∧ i = .int .i64 q ∧ Hid (Below w2.heap.size w2 wr)) (fun i _ => m - (intOf i).toNat)
    case atStart => exact ⟨0, Nat.zero_le _, rfl, Hid.mk' (Below.refl _ _)⟩
    case round =>
      obtain ⟨q, hq, rfl, hB⟩ := hrel
      by_cases hlt : q < m
      · rcases HR.out with h0 | ⟨g, rfl, hgb, hgl, hcell⟩
        · omega
        have HCELL := Hid.mk' hcell
        obtain ⟨⟨x0, x1, x2, x3⟩, hx⟩ : ∃ x, (lpN L L.length)[q]? = some x := ⟨_, List.getElem?_eq_getElem (by rw [HM.out]; exact hlt)⟩
        have HX := Hid.mk' hx
        obtain ⟨X, Y, rfl, rfl, y1, y2, y3, y4, y5, y6, y7, y8, y9⟩ := loop_at HG.out hx
        obtain ⟨e0, e1, e2, e3⟩ := hcell q _ _ _ _ hx
        have e0 := (hB.out.cell (p := ⟨g, q * 4, none⟩) hgl).trans e0
        have e1 := (hB.out.cell (p := ⟨g, q * 4 + 1, none⟩) hgl).trans e1
        have e2 := (hB.out.cell (p := ⟨g, q * 4 + 2, none⟩) hgl).trans e2
        have e3 := (hB.out.cell (p := ⟨g, q * 4 + 3, none⟩) hgl).trans e3
        rw [HL.out] at y2
        obtain ⟨p, d, s, o, i, hq1, r1, -, r3⟩ := at_get (L := L) (k := X) (by rw [HL.out]; omega)
        obtain ⟨p', d', s', o', i', hq2, r1', -, -⟩ := at_get (L := L) (k := Y) (by rw [HL.out]; omega)
        have ep : p = 33 := by rw [← r1]; exact y3
        have ep' : p' = 34 := by rw [← r1']; exact y4
        have ei : x2 = i := by rw [y5]; exact r3
        subst ep ep' ei
        have hB2r := hB.out
        obtain ⟨c0, -, -, -, c4⟩ := (HC.out.below hB2r) X _ _ _ _ _ hq1
        obtain ⟨c0', -, -, -, -⟩ := (HC.out.below hB2r) Y _ _ _ _ _ hq2
        have hi2 := (HV.out.inb X _ _ _ _ _ hq1)
        obtain ⟨i0, i1⟩ : -2147483648 ≤ x2 ∧ x2 ≤ 2147483647 := ⟨hi2.i0, hi2.i1⟩
        have d1 : 1 ≤ x3 := by omega
        have d3 : x3 ≤ 3 := by omega
        have hXn : (X : Int) < (n : Int) := by omega
        have hYn : (Y : Int) < (n : Int) := by omega
        have hXY : ¬ (Y : Int) ≤ (X : Int) := by omega
        have hlq : (q : Int) < (m : Int) := by omega
        have hwr : IntKind.i64.wrap x2 = x2 := by rw [IntKind.wrap_i64]; omega
        clear hcell hx y3 y4 y5 y6 y7 y8 y9 hq1 hq2 r1 r3 r1' hB2r hi2
        go_wp2_with fail
        obtain ⟨w4, hw4⟩ : ∃ w4, w4 = wr.alloc (.cells #[.int .i64 X, .int .i64 Y, .int .i64 x2, .int .i64 x3] 43) := ⟨_, rfl⟩
        have f0 : w4.cell? ⟨wr.heap.size, 0, none⟩ = some (.int .i64 X) := by rw [hw4]; exact World.cell?_alloc_new _ _ _ _
        have f1 : w4.cell? ⟨wr.heap.size, 1, none⟩ = some (.int .i64 Y) := by rw [hw4]; exact World.cell?_alloc_new _ _ _ _
        have f2 : w4.cell? ⟨wr.heap.size, 2, none⟩ = some (.int .i64 x2) := by rw [hw4]; exact World.cell?_alloc_new _ _ _ _
        have f3 : w4.cell? ⟨wr.heap.size, 3, none⟩ = some (.int .i64 x3) := by rw [hw4]; exact World.cell?_alloc_new _ _ _ _
        have B4 : Below wr.heap.size wr w4 := by rw [hw4]; exact (Below.refl _ _).alloc (Nat.le_refl _) _
        have c0 := (B4.cell (lt_of_cell c0)).trans c0
        have c4 := (B4.cell (lt_of_cell c4)).trans c4
        have c0' := (B4.cell (lt_of_cell c0')).trans c0'
        have J4 := Hid.mk' (hB.out.trans (B4.mono hB.out.size))
        have z4 := lt_of_cell f0
        have z4' : g < wr.heap.size := by have := hB.out.size; omega
        obtain ⟨bx, hbx⟩ : ∃ bx, wr.heap.size = bx := ⟨_, rfl⟩
        rw [← hw4]
        rw [hbx] at f0 f1 f2 f3 z4 z4' ⊢
        clear hw4 B4 e0 e1 e2 e3 hbx hB
        have n1 : ¬ n ≤ Y := by omega
        have n2 : ¬ Y ≤ X := by omega
        have n3 : ¬ n ≤ X := by omega
        have n4 : ¬ x3 < 1 := by omega
        have n5 : ¬ 3 < x3 := by omega
        go_quiet (fail)
        clear n1 n2 n3 n4 n5
        rename_i nq
        have F5 : Hid (∀ u, Below w4.heap.size w4 u → u.cell? ⟨bx, 0, none⟩ = some (.int .i64 X) ∧ u.cell? ⟨bx, 1, none⟩ = some (.int .i64 Y) ∧ u.cell? ⟨bx, 3, none⟩ = some (.int .i64 x3)) := Hid.mk' (fun u hu => ⟨(hu.cell (p := ⟨bx, 0, none⟩) z4).trans f0, (hu.cell (p := ⟨bx, 1, none⟩) z4).trans f1, (hu.cell (p := ⟨bx, 3, none⟩) z4).trans f3⟩)
        have E5 : Hid (Below w4.heap.size w4 (w4.drewN nq)) := Hid.mk' (Dr.below ⟨nq, rfl⟩ _)
        clear c0 c4 c0' f0 f1 f2 f3
        go_wp2_with fail
        go_loopw [7] (fun i ws => ∃ k : Nat, k ≤ q ∧ i = .int .i64 k ∧ Hid (Below w4.heap.size w4 ws)) (fun i _ => q - (intOf i).toNat)
        case atStart => exact ⟨0, Nat.zero_le _, rfl, E5⟩
        case round =>
          obtain ⟨k, hk, rfl, hD⟩ := hrel
          by_cases hkq : k < q
          · have hkq' : (k : Int) < (q : Int) := by omega
            have hkm : (k : Int) < (m : Int) := by omega
            obtain ⟨⟨y0, y1, y2, y3⟩, hy⟩ : ∃ x, (lpN L L.length)[k]? = some x := ⟨_, List.getElem?_eq_getElem (by rw [HM.out]; omega)⟩
            obtain ⟨t1, t2, t3, t4⟩ := loop_two HG.out hkq HX.out hy
            obtain ⟨e0, e1, e2, e3⟩ := HCELL.out k _ _ _ _ hy
            have hws := J4.out.trans (hD.out.mono J4.out.size)
            have e0 := (hws.cell (p := ⟨g, k * 4, none⟩) hgl).trans e0
            have e1 := (hws.cell (p := ⟨g, k * 4 + 1, none⟩) hgl).trans e1
            have e2 := (hws.cell (p := ⟨g, k * 4 + 2, none⟩) hgl).trans e2
            have e3 := (hws.cell (p := ⟨g, k * 4 + 3, none⟩) hgl).trans e3
            obtain ⟨g0, g1, g3⟩ := F5.out _ hD.out
            have hsz := hD.out.size
            have hzz : bx < wr.heap.size := by omega
            have u1 : ¬ (X : Int) ≤ y0 := by omega
            have u2 : ¬ y1 = (Y : Int) := t3
            by_cases hX1 : (X : Int) < y1
            · have u3 : ¬ y1 < (Y : Int) := fun h => t2 ⟨hX1, h⟩
              have u4 : (Y : Int) < y1 := by omega
              have u5 : ¬ x3 ≤ y3 := fun h => t4 ⟨u4, h⟩
              clear hws hy t1 t2 t3 t4
              go_wp2_with fail
              go_roundw
              case rel => exact ⟨k + 1, hkq, by go_num, Hid.mk' (hD.out.alloc hsz _)⟩
              case measure => simp [intOf]; omega
            · have u4 : ¬ (Y : Int) < y1 := by omega
              clear hws hy t1 t2 t3 t4
              go_wp2_with fail
              go_roundw
              case rel => exact ⟨k + 1, hkq, by go_num, Hid.mk' (hD.out.alloc hsz _)⟩
              case measure => simp [intOf]; omega
          · have hkq' : ¬ (k : Int) < (q : Int) := by omega
            go_wp2_with fail
            go_roundw
            case rel => exact ⟨q + 1, hlt, by go_num, Hid.mk' (J4.out.trans (hD.out.mono J4.out.size))⟩
            case measure => simp [intOf]; omega
      · have hlq : ¬ (q : Int) < (m : Int) := by omega
        have K := KSt.out wr (B2.out.trans (hB.out.mono B2.out.size))
        go_wp2_with fail
        refine K.mono ?_
        rintro e w9 ⟨rfl, b9⟩
        have B9 := Hid.mk' (B2.out.trans ((hB.out.trans (b9.mono hB.out.size)).mono B2.out.size))
        clear b9 K
        obtain ⟨s1, s2⟩ := hsb
        go_wp2_with fail
        go_ret
        exact ⟨rfl, B9.out⟩
  · have e0 : lpV L = [] := by unfold lpV; rw [hE.out, if_neg hE0]
    rw [e0]
    go_wp2_with fail
    go_ret
    exact ⟨rfl, B2.out⟩

theorem walkFlowLoops (a : Option Addr) (c : Nat) (xs : List sh37.M) (W : World) (o0 : SlOk sh37 W a c xs) (_l0 : xs.length ≤ 140737488351232) :
    Calls Try.prog 5 #[.slice a xs.length c] W fun e w' => e = .returned (.bool true) ∧ Below W.heap.size W w' := flowloops_any _ W (cd_open a c xs W o0)
end Go.Proofs.Ytffjddabjjcjpaa
