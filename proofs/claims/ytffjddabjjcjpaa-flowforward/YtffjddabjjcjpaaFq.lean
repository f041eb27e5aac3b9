/- The walk of FlowForward. -/
import Derived.Test.YtffjddabjjcjpaaFp
import Derived.Deep.CutBlock
namespace Go.Proofs.Ytffjddabjjcjpaa
open Go.ChangeShapes Go.WideShapes Go.ChangeAt Go.RowKit
set_option maxRecDepth 10000
variable {L : List Q5}

/-- A list of whole numbers in memory, at hand. -/
theorem iw_at {w : World} {base : Nat} {v : Value} {zs : List Int} (h : Iw w base v zs) : ∃ a c, v = .slice a zs.length c ∧ (zs.length = 0 ∨ ∃ b off, a = some ⟨b, off, none⟩ ∧ b < w.heap.size ∧ ∀ (k : Nat) (y : Int), zs[k]? = some y → w.cell? ⟨b, off + k, none⟩ = some (.int .i64 y)) := by
  obtain ⟨a, c, rfl, hl⟩ := h.lies
  refine ⟨a, c, rfl, ?_⟩
  rcases hl with h0 | ⟨b, off, rfl, h1, h2, h3, h4⟩
  · exact .inl (by rw [h0]; rfl)
  · refine .inr ⟨b, off, rfl, h2, fun k y hy => ?_⟩
    have hk := (List.getElem?_eq_some_iff.1 hy).1
    have := (h4 k (by simpa using hk)).1
    rw [this]
    have e : zs[k] = y := (List.getElem?_eq_some_iff.1 hy).2
    simp [hk, e]

set_option maxHeartbeats 4000000 in
theorem flowforward_any (v : Value) (W : World) (hv : Cd W v L) :
    Calls Try.prog 6 #[v] W fun e w' => e = .returned (.bool true) ∧ Below W.heap.size W w' := by
  have HV := Hid.mk' hv
  obtain ⟨a, c, rfl, hc, hl⟩ := hv.lies
  clear hv
  obtain ⟨E, hE⟩ : ∃ E, Hid ((ckF L).2 = E) := ⟨_, Hid.mk' rfl⟩
  obtain ⟨n, hn⟩ : ∃ n, L.length = n := ⟨_, rfl⟩
  rw [hn] at hc HV ⊢
  have KLo : Hid (∀ u, Below W.heap.size W u → Calls Try.prog 16 #[.slice a n c] u fun e w' => (∃ r, e = .returned (.tuple #[r, .int .i64 E]) ∧ w'.ownsRow u.heap.size 43 4 r (lpV L).length (lpCs (lpV L))) ∧ Below u.heap.size u w') := Hid.mk' (fun u hu => by
    have := loops_f _ u (HV.out.below hu)
    rw [hE.out] at this
    exact this)
  have KNx : Hid (∀ (x : Int) (u : World), Below W.heap.size W u → -9223372036854775808 ≤ x → x ≤ 9223372036854775807 → Calls Try.prog 9 #[.slice a n c, .int .i64 x] u fun e w' => (∃ r, e = .returned (.tuple #[r, .int .i64 (nxE L x)]) ∧ Iw w' u.heap.size r (nxV L x)) ∧ Below u.heap.size u w') := Hid.mk' (fun x u hu => next_f _ x u (HV.out.below hu))
  go_enter Try.func6, Try.ntmps6
  go_wp2_with fail
  refine (works_any _).mono ?_
  rintro e w1 ⟨rfl, b1⟩
  have B1 := Hid.mk' b1
  clear b1
  go_wp2_with fail
  refine (KLo.out _ B1.out).mono ?_
  rintro e w2 ⟨⟨r, rfl, hr⟩, b2⟩
  have B2 := Hid.mk' (B1.out.trans (b2.mono B1.out.size))
  clear b2 KLo B1
  obtain ⟨ga, gc, rfl, hrow⟩ := lp_row2 hr
  clear hr
  by_cases hE0 : E = 0
  · have HG : Hid (Good L) := Hid.mk' (good_of (by rw [hE.out, hE0]))
    have hn256 : n ≤ 256 := by rw [← hn]; exact HG.out.len
    have hn0 : 0 < n := by rw [← hn]; exact HG.out.pos
    have eLP : lpV L = lpN L L.length := by unfold lpV; rw [hE.out, hE0]; rfl
    have HNE : Hid (∀ k : Nat, k < n → nxE L k = 0 ∧ nxV L k = nxF L k) := Hid.mk' (fun k hk => by
      have h1 : nxE L k = 0 := by
        unfold nxE
        rw [hE.out, if_pos hE0, if_neg (by rw [hn]; omega)]
      refine ⟨h1, ?_⟩
      unfold nxV
      rw [if_pos h1]; rfl)
    rw [eLP] at hrow ⊢
    have HL := Hid.mk' hn
    obtain ⟨m, hm⟩ : ∃ m, (lpN L L.length).length = m := ⟨_, rfl⟩
    rw [hm] at hrow ⊢
    have HM := Hid.mk' hm
    have hmn : m ≤ n := by rw [← hm, ← hn]; exact lpN_len _
    rcases hl with h0 | ⟨b, off, rfl, hC⟩
    · rw [h0] at hn; simp at hn; omega
    have HC := Hid.mk' (hC.below B2.out)
    have HR := Hid.mk' hrow
    clear hn hC eLP hm hrow
    subst hE0
    go_wp2_with fail
    go_loopw [5] (fun i wr => ∃ k : Nat, k ≤ n ∧ i = .int .i64 k ∧ Hid (Below w2.heap.size w2 wr)) (fun i _ => n - (intOf i).toNat)
    case atStart => exact ⟨0, Nat.zero_le _, rfl, Hid.mk' (Below.refl _ _)⟩
    case round =>
      obtain ⟨k, hk, rfl, hB⟩ := hrel
      by_cases hlt : k < n
      · have hkn : (k : Int) < (n : Int) := by omega
        have K := KNx.out k wr (B2.out.trans (hB.out.mono B2.out.size)) (by omega) (by omega)
        rw [(HNE.out k hlt).1, (HNE.out k hlt).2] at K
        have HX := Hid.mk' (nx_ok HG.out (k := k) (by rw [HL.out]; exact hlt))
        generalize hl0 : nxF L k = ys at K HX
        clear hl0
        go_wp2_with fail
        refine K.mono ?_
        rintro e w4 ⟨⟨rv, rfl, hI⟩, b4⟩
        have B4 := Hid.mk' (hB.out.trans (b4.mono hB.out.size))
        clear b4 K hB
        obtain ⟨p, d, s, o, i, hq1, r1, -, -⟩ := at_get (L := L) (k := k) (by rw [HL.out]; exact hlt)
        obtain ⟨c0, -, -, -, -⟩ := (HC.out.below B4.out) k _ _ _ _ _ hq1
        obtain ⟨ia, ic, rfl, hy⟩ := iw_at hI
        have HP := Hid.mk' r1
        obtain ⟨q, hq⟩ : ∃ q, ys.length = q := ⟨_, rfl⟩
        have HQ := Hid.mk' hq
        have q2 : q ≤ 2 := by rw [← hq]; exact HX.out.len
        have q0 : Hid (q = 0 ↔ p = 36) := Hid.mk' (by rw [← hq, ← r1]; exact HX.out.none)
        rw [hq] at hy ⊢
        have HY := Hid.mk' hy
        clear hq1 r1 hq hI hy
        by_cases hp36 : p = 36
        · have hq0 : q = 0 := q0.out.2 hp36
          subst hp36 hq0
          go_wp2_with fail
          go_loopw [8] (fun i ws => i = .int .i64 0 ∧ ws = w4) (fun i _ => 0)
          case atStart => exact ⟨rfl, rfl⟩
          case round =>
            obtain ⟨rfl, rfl⟩ := hrel
            go_wp2_with fail
            go_roundw
            case rel => exact ⟨k + 1, hlt, by go_num, B4⟩
            case measure => simp [intOf]; omega
        · have hq0 : ¬ q = 0 := fun h => hp36 (q0.out.1 h)
          have hq0' : ¬ (q : Int) = 0 := by omega
          rcases HY.out with h0 | ⟨ib, io, rfl, hib, hyc⟩
          · omega
          have HYC := Hid.mk' hyc
          clear hyc HY
          have g1 : (q == 0) = false := by simp [hq0]
          have g2 : ((q : Int) == 0) = false := by simp [hq0]
          have g3 : (p == 36) = false := by simp [hp36]
          go_wp2_with fail
          clear g1 g2 g3
          have hq0'' := Hid.mk' hq0
          have HX0 := Hid.mk' hq0'
          clear hq0 hq0' q0
          have hib4 : ib < w4.heap.size := hib
          have C4 := Hid.mk' c0
          clear c0
          go_loopw [8] (fun i ws => ∃ j : Nat, j ≤ q ∧ i = .int .i64 j ∧ Hid (Below w4.heap.size w4 ws)) (fun i _ => q - (intOf i).toNat)
          case atStart => exact ⟨0, Nat.zero_le _, rfl, Hid.mk' (Below.refl _ _)⟩
          case round =>
            obtain ⟨j, hj, rfl, hD⟩ := hrel
            by_cases hjq : j < q
            · have hjq' : (j : Int) < (q : Int) := by omega
              obtain ⟨y, hy⟩ : ∃ y, ys[j]? = some y := ⟨_, List.getElem?_eq_getElem (by rw [HQ.out]; exact hjq)⟩
              obtain ⟨ya, yb, yc⟩ := HX.out.lies j y hy
              have HYc : Hid (y ≤ k → p = 34) := Hid.mk' (fun h => by rw [← HP.out]; exact yc h)
              have HLo := Hid.mk' (HX.out.loops j y hy)
              rw [HL.out] at yb
              have d0 := (hD.out.cell (p := ⟨ib, io + j, none⟩) hib4).trans (HYC.out j y hy)
              have e0 := (hD.out.cell (lt_of_cell C4.out)).trans C4.out
              have y0 : ¬ y < 0 := by omega
              have yn : ¬ (n : Int) ≤ y := by omega
              have D5 := Hid.mk' hD.out
              have hsz := hD.out.size
              have hj01 : j = 0 ∨ j = 1 := by omega
              have PREV : j = 1 → ∃ z, ys[0]? = some z ∧ z < y := by
                intro e
                subst e
                obtain ⟨z, hz⟩ : ∃ z, ys[0]? = some z := ⟨_, List.getElem?_eq_getElem (by rw [HQ.out]; omega)⟩
                exact ⟨z, hz, HX.out.rise z y hz hy⟩
              have TWO : j = 1 → (k : Int) < y := by
                intro e
                subst e
                exact HX.out.two y hy
              clear ya yb yc hy
              go_upto_if 99 with fail
              go_cut [99] from 54 to 98 (fun s99 wx => s99 = .bool false ∧ Hid (Below wr.heap.size wr wx))
              case first =>
                as_aux_lemma =>
                clear HV KNx B2 HNE HL HM HR HC HX HLo HP HQ B4 HX0 hq0'' C4 hE HG D5
                rcases hj01 with rfl | rfl
                · clear PREV TWO
                  have d0 : wr.cell? ⟨ib, io, none⟩ = some (.int .i64 y) := d0
                  by_cases hyk : y ≤ k
                  · have hp := HYc.out hyk
                    subst hp
                    refine wp_region_quiet_lit (by kernel_rfl) (by kernel_rfl) ?_
                    repeat (with_reducible refine wpQuiet_step (fun K hK => ?_); go_simp; with_reducible refine hK _ ?_; clear hK K)
                    refine wpQuiet_nil ?_
                    rintro _ ⟨nq, rfl⟩
                    go_wp2_with fail
                    go_meet
                    exact ⟨by simp [y0, yn], Hid.mk' (Dr.below ⟨_, rfl⟩ _)⟩
                  · refine wp_region_quiet_lit (by kernel_rfl) (by kernel_rfl) ?_
                    repeat (with_reducible refine wpQuiet_step (fun K hK => ?_); go_simp; with_reducible refine hK _ ?_; clear hK K)
                    refine wpQuiet_nil ?_
                    rintro _ ⟨nq, rfl⟩
                    go_wp2_with fail
                    go_meet
                    exact ⟨by simp [y0, yn], Hid.mk' (Dr.below ⟨_, rfl⟩ _)⟩
                · obtain ⟨z, hz, hzy⟩ := PREV rfl
                  have hyk := TWO rfl
                  have hyk' : ¬ y ≤ k := by omega
                  have h1q : (1 : Int) < (q : Int) := by omega
                  have h1q' : 1 < q := by omega
                  have h0q : (0 : Int) < (q : Int) := by omega
                  have h0q' : 0 < q := by omega
                  have hw0 : IntKind.i64.wrap 0 = 0 := by decide
                  have hzy' : ¬ y ≤ z := by omega
                  have dz : wr.cell? ⟨ib, io, none⟩ = some (.int .i64 z) := (hD.out.cell (p := ⟨ib, io + 0, none⟩) hib4).trans (HYC.out 0 z hz)
                  clear PREV TWO hz
                  refine wp_region_quiet_lit (by kernel_rfl) (by kernel_rfl) ?_
                  repeat (with_reducible refine wpQuiet_step (fun K hK => ?_); go_simp; with_reducible refine hK _ ?_; clear hK K)
                  refine wpQuiet_nil ?_
                  rintro _ ⟨nq, rfl⟩
                  go_wp2_with fail
                  go_meet
                  exact ⟨by simp [y0, yn], Hid.mk' (Dr.below ⟨_, rfl⟩ _)⟩
              case rest =>
                obtain ⟨rfl, hcut⟩ := hcut
                have hw4 := hD.out.trans (hcut.out.mono hD.out.size)
                have W5 := Hid.mk' hw4
                have W2 := Hid.mk' (B4.out.trans (hw4.mono B4.out.size))
                have y5 := (hcut.out.cell (p := ⟨ib, io + j, none⟩) (show ib < wr.heap.size by omega)).trans d0
                obtain ⟨w5, hw5⟩ : ∃ w5, w5 = wc := ⟨_, rfl⟩
                subst hw5
                clear hcut d0 e0 y0 yn PREV TWO hD D5 hw4 hsz HV KNx B2 HNE HL HYC C4 HX HP HYc
                have Y5 := Hid.mk' y5
                have zib := lt_of_cell y5
                clear y5
                go_wp2_with fail
                go_loopw [9] (fun i ws => ∃ z : Nat, z ≤ m ∧ i = .int .i64 z ∧ Hid (Below w5.heap.size w5 ws)) (fun i _ => m - (intOf i).toNat)
                case atStart => exact ⟨0, Nat.zero_le _, rfl, Hid.mk' (Below.refl _ _)⟩
                case round =>
                  obtain ⟨z, hz, rfl, hF⟩ := hrel
                  by_cases hzm : z < m
                  · have hzm' : (z : Int) < (m : Int) := by omega
                    rcases HR.out with h0 | ⟨g, rfl, hgb, hgl, hcell⟩
                    · omega
                    obtain ⟨⟨x0, x1, x2, x3⟩, hx⟩ : ∃ x, (lpN L L.length)[z]? = some x := ⟨_, List.getElem?_eq_getElem (by rw [HM.out]; exact hzm)⟩
                    obtain ⟨X, Y, rfl, rfl, -, -, -, -, -, -, -, y8, -⟩ := loop_at HG.out hx
                    obtain ⟨e0, e1, e2, e3⟩ := hcell z _ _ _ _ hx
                    have hb2 := W2.out.trans (hF.out.mono W2.out.size)
                    have e0 := (hb2.cell (p := ⟨g, z * 4, none⟩) hgl).trans e0
                    have e1 := (hb2.cell (p := ⟨g, z * 4 + 1, none⟩) hgl).trans e1
                    have e2 := (hb2.cell (p := ⟨g, z * 4 + 2, none⟩) hgl).trans e2
                    have e3 := (hb2.cell (p := ⟨g, z * 4 + 3, none⟩) hgl).trans e3
                    obtain ⟨L1, L2⟩ := HLo.out X Y y8
                    have L1 := Hid.mk' L1
                    have L2 := Hid.mk' L2
                    have d0 := (hF.out.cell (p := ⟨ib, io + j, none⟩) zib).trans Y5.out
                    have hFs := hF.out.size
                    clear hcell hx y8 hb2 HLo HR HM HG
                    go_upto_region 21 with fail
                    obtain ⟨w6, hw6⟩ : ∃ w6, w6 = wr.alloc (.cells #[.int .i64 X, .int .i64 Y, .int .i64 x2, .int .i64 x3] 43) := ⟨_, rfl⟩
                    have f0 : w6.cell? ⟨wr.heap.size, 0, none⟩ = some (.int .i64 X) := by rw [hw6]; exact World.cell?_alloc_new _ _ _ _
                    have f1 : w6.cell? ⟨wr.heap.size, 1, none⟩ = some (.int .i64 Y) := by rw [hw6]; exact World.cell?_alloc_new _ _ _ _
                    have B6 : Below wr.heap.size wr w6 := by rw [hw6]; exact (Below.refl _ _).alloc (Nat.le_refl _) _
                    have d6 := (B6.cell (lt_of_cell d0)).trans d0
                    have J6 := Hid.mk' (hF.out.trans (B6.mono hFs))
                    obtain ⟨bx, hbx⟩ : ∃ bx, wr.heap.size = bx := ⟨_, rfl⟩
                    rw [← hw6]
                    rw [hbx] at f0 f1 ⊢
                    clear hw6 B6 e0 e1 e2 e3 hbx hF d0 hFs
                    have F6 := Hid.mk' (And.intro f0 (And.intro f1 d6))
                    go_cut [11] from 110 to 125 (fun s11 wx => ∃ bi : Bool, s11 = .bool bi ∧ (bi = true ↔ (X : Int) < y ∧ y ≤ Y) ∧ Hid (Dr w6 wx))
                    case first =>
                      as_aux_lemma =>
                      by_cases p1 : (X : Int) < y
                      · refine wp_region_quiet_lit (by kernel_rfl) (by kernel_rfl) ?_
                        repeat (with_reducible refine wpQuiet_step (fun K hK => ?_); go_simp; with_reducible refine hK _ ?_; clear hK K)
                        refine wpQuiet_nil ?_
                        rintro _ ⟨nq, rfl⟩
                        go_wp2_with fail
                        go_meet
                        exact ⟨_, rfl, by first | (simp; done) | (simp; omega) | (simp [p1]; done), Hid.mk' ⟨nq, rfl⟩⟩
                      · refine wp_region_quiet_lit (by kernel_rfl) (by kernel_rfl) ?_
                        repeat (with_reducible refine wpQuiet_step (fun K hK => ?_); go_simp; with_reducible refine hK _ ?_; clear hK K)
                        refine wpQuiet_nil ?_
                        rintro _ ⟨nq, rfl⟩
                        go_wp2_with fail
                        go_meet
                        exact ⟨_, rfl, by first | (simp; done) | (simp; omega) | (simp [p1]; done), Hid.mk' ⟨nq, rfl⟩⟩
                    case rest =>
                      obtain ⟨bi, rfl, hbi, hD7⟩ := hcut
                      have f0 := (hD7.out.cell _).trans F6.out.1
                      have f1 := (hD7.out.cell _).trans F6.out.2.1
                      have d6 := (hD7.out.cell _).trans F6.out.2.2
                      have F7 := Hid.mk' (And.intro f0 (And.intro f1 d6))
                      have HBI := Hid.mk' hbi
                      clear hbi
                      go_upto_region 22 with fail
                      go_cut [12] from 126 to 135 (fun s12 wx => ∃ bw : Bool, s12 = .bool bw ∧ (bw = true ↔ (X : Int) ≤ k ∧ (k : Int) ≤ Y) ∧ wx = wc)
                      case first =>
                        as_aux_lemma =>
                        by_cases p1 : (X : Int) ≤ k
                        · go_wp2_with fail
                          go_meet
                          exact ⟨_, rfl, by first | (simp; done) | (simp; omega) | (simp [p1]; done), rfl⟩
                        · go_wp2_with fail
                          go_meet
                          exact ⟨_, rfl, by first | (simp; done) | (simp; omega) | (simp [p1]; done), rfl⟩
                      case rest =>
                        obtain ⟨bw, rfl, hbw, rfl⟩ := hcut
                        have HIM : Hid (bi = true → bw = true) := Hid.mk' (fun h => hbw.2 (L1.out (HBI.out.1 h)))
                        have HR2 : Hid (y ≤ k → (k : Int) = Y → y = (X : Int) + 1) := Hid.mk' (fun h1 h2 => L2.out h1 (by omega))
                        clear hbw
                        go_upto_region 23 with fail
                        cases bi with
                        | false =>
                          by_cases r1 : y ≤ k
                          · by_cases r2 : (k : Int) = Y
                            · have r3 := HR2.out r1 r2
                              have hx1 : (X : Int) < (Y : Int) := by omega
                              have hx2 : X < Y := by omega
                              have hx3 : (X : Int) + 1 ≤ (Y : Int) := by omega
                              have hx4 : X + 1 ≤ Y := by omega
                              have r2' : k = Y := by omega
                              have hwx : IntKind.i64.wrap ((X : Int) + 1) = (X : Int) + 1 := by rw [IntKind.wrap_i64]; omega
                              clear r2
                              subst r2' r3
                              refine wp_region_quiet_lit (by kernel_rfl) (by kernel_rfl) ?_
                              repeat (with_reducible refine wpQuiet_step (fun K hK => ?_); go_simp; with_reducible refine hK _ ?_; clear hK K)
                              refine wpQuiet_nil ?_
                              rintro _ ⟨nq, rfl⟩
                              go_wp2_with fail
                              go_roundw
                              case rel => exact ⟨z + 1, hzm, by go_num, Hid.mk' (J6.out.trans ((hD7.out.more nq).below _ |>.mono (Nat.le_refl _) |>.mono J6.out.size))⟩
                              case measure => simp [intOf]; omega

                            · have r2' : ¬ k = Y := by omega
                              have r4 : (k == Y) = false := by simp [r2']
                              have r5 : ((k : Int) == (Y : Int)) = false := by simp; omega
                              refine wp_region_quiet_lit (by kernel_rfl) (by kernel_rfl) ?_
                              repeat (with_reducible refine wpQuiet_step (fun K hK => ?_); go_simp; with_reducible refine hK _ ?_; clear hK K)
                              refine wpQuiet_nil ?_
                              rintro _ ⟨nq, rfl⟩
                              go_wp2_with fail
                              go_roundw
                              case rel => exact ⟨z + 1, hzm, by go_num, Hid.mk' (J6.out.trans ((hD7.out.more nq).below _ |>.mono (Nat.le_refl _) |>.mono J6.out.size))⟩
                              case measure => simp [intOf]; omega

                          · refine wp_region_quiet_lit (by kernel_rfl) (by kernel_rfl) ?_
                            repeat (with_reducible refine wpQuiet_step (fun K hK => ?_); go_simp; with_reducible refine hK _ ?_; clear hK K)
                            refine wpQuiet_nil ?_
                            rintro _ ⟨nq, rfl⟩
                            go_wp2_with fail
                            go_roundw
                            case rel => exact ⟨z + 1, hzm, by go_num, Hid.mk' (J6.out.trans ((hD7.out.more nq).below _ |>.mono (Nat.le_refl _) |>.mono J6.out.size))⟩
                            case measure => simp [intOf]; omega

                        | true =>
                          have hb := HIM.out rfl
                          subst hb
                          by_cases r1 : y ≤ k
                          · by_cases r2 : (k : Int) = Y
                            · have r3 := HR2.out r1 r2
                              have hx1 : (X : Int) < (Y : Int) := by omega
                              have hx2 : X < Y := by omega
                              have hx3 : (X : Int) + 1 ≤ (Y : Int) := by omega
                              have hx4 : X + 1 ≤ Y := by omega
                              have r2' : k = Y := by omega
                              have hwx : IntKind.i64.wrap ((X : Int) + 1) = (X : Int) + 1 := by rw [IntKind.wrap_i64]; omega
                              clear r2
                              subst r2' r3
                              refine wp_region_quiet_lit (by kernel_rfl) (by kernel_rfl) ?_
                              repeat (with_reducible refine wpQuiet_step (fun K hK => ?_); go_simp; with_reducible refine hK _ ?_; clear hK K)
                              refine wpQuiet_nil ?_
                              rintro _ ⟨nq, rfl⟩
                              go_wp2_with fail
                              go_roundw
                              case rel => exact ⟨z + 1, hzm, by go_num, Hid.mk' (J6.out.trans ((hD7.out.more nq).below _ |>.mono (Nat.le_refl _) |>.mono J6.out.size))⟩
                              case measure => simp [intOf]; omega

                            · have r2' : ¬ k = Y := by omega
                              have r4 : (k == Y) = false := by simp [r2']
                              have r5 : ((k : Int) == (Y : Int)) = false := by simp; omega
                              refine wp_region_quiet_lit (by kernel_rfl) (by kernel_rfl) ?_
                              repeat (with_reducible refine wpQuiet_step (fun K hK => ?_); go_simp; with_reducible refine hK _ ?_; clear hK K)
                              refine wpQuiet_nil ?_
                              rintro _ ⟨nq, rfl⟩
                              go_wp2_with fail
                              go_roundw
                              case rel => exact ⟨z + 1, hzm, by go_num, Hid.mk' (J6.out.trans ((hD7.out.more nq).below _ |>.mono (Nat.le_refl _) |>.mono J6.out.size))⟩
                              case measure => simp [intOf]; omega

                          · refine wp_region_quiet_lit (by kernel_rfl) (by kernel_rfl) ?_
                            repeat (with_reducible refine wpQuiet_step (fun K hK => ?_); go_simp; with_reducible refine hK _ ?_; clear hK K)
                            refine wpQuiet_nil ?_
                            rintro _ ⟨nq, rfl⟩
                            go_wp2_with fail
                            go_roundw
                            case rel => exact ⟨z + 1, hzm, by go_num, Hid.mk' (J6.out.trans ((hD7.out.more nq).below _ |>.mono (Nat.le_refl _) |>.mono J6.out.size))⟩
                            case measure => simp [intOf]; omega

                  · have hzm' : ¬ (z : Int) < (m : Int) := by omega
                    go_wp2_with fail
                    go_roundw
                    case rel => exact ⟨j + 1, hjq, by go_num, Hid.mk' (W5.out.trans (hF.out.mono W5.out.size))⟩
                    case measure => simp [intOf]; omega
            · have hjq' : ¬ (j : Int) < (q : Int) := by omega
              go_wp2_with fail
              go_roundw
              case rel => exact ⟨k + 1, hlt, by go_num, Hid.mk' (B4.out.trans (hD.out.mono B4.out.size))⟩
              case measure => simp [intOf]; omega
      · have hkn : ¬ (k : Int) < (n : Int) := by omega
        go_wp2_with fail
        go_ret
        exact ⟨rfl, B2.out.trans (hB.out.mono B2.out.size)⟩
  · go_wp2_with fail
    go_ret
    exact ⟨rfl, B2.out⟩

theorem walkFlowForward (a : Option Addr) (c : Nat) (xs : List sh37.M) (W : World) (o0 : SlOk sh37 W a c xs) (_l0 : xs.length ≤ 140737488351232) :
    Calls Try.prog 6 #[.slice a xs.length c] W fun e w' => e = .returned (.bool true) ∧ Below W.heap.size W w' := flowforward_any _ W (cd_open a c xs W o0)
end Go.Proofs.Ytffjddabjjcjpaa
