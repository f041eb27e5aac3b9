/- The walk of the statement LeaseBounds. -/
import Derived.Test.YtnpcglgboemmcaaLm
import Derived.Deep.CutRange
import Derived.Deep.CutBlock
import Derived.Deep.Light
namespace Go.Proofs.Ytnpcglgboemmcaa
open Go.ChangeShapes Go.WideShapes Go.ChangeAt Go.RowKit

/-- What stands when LeaseBounds begins its deeds. -/
theorem bounds_start {W w2 : World} {v1 v2 : Value} {zs : List Int} {n A N : Nat} (hn : zs.length = n) (hA : A + N ≤ n) (hbig : n ≤ 1048576) (hb : Bytes zs)
    (old : Below W.heap.size W w2) (b0 : w2.cell? ⟨W.heap.size, 0, none⟩ = some (.int .i64 A)) (b1 : w2.cell? ⟨W.heap.size, 1, none⟩ = some (.int .i64 N)) (bf : ∀ j, w2.frozen? ⟨W.heap.size, j, none⟩ = false)
    {g1 : Nat} (h1 : w2.ownsRow (W.heap.size + 1) 5 1 v1 n (zs.map (Value.int .u8))) (h2 : w2.ownsRow g1 5 1 v2 n (zs.map (Value.int .u8))) (hg1 : ∀ g, v1.ownBlock = some g → g < g1) (hg1' : W.heap.size + 1 ≤ g1) :
    ∃ ai aw ci cw gi gw, v1 = .slice ai n ci ∧ v2 = .slice aw n cw ∧ n ≤ ci ∧ n ≤ cw ∧ (0 < n → ai = some ⟨gi, 0, none⟩ ∧ aw = some ⟨gw, 0, none⟩) ∧ (ai = none → ci = 0) ∧ (aw = none → cw = 0) ∧
      Bd w2.heap.size W w2 zs A N gi gw zs zs ∧ Held w2.heap.size W w2 A N gi gw true A N N (winA ai A N) := by
  have hlt : W.heap.size < w2.heap.size := lt_of_cell b0
  by_cases h0 : n = 0
  · have hz : zs = [] := List.eq_nil_of_length_eq_zero (by omega)
    subst hz
    obtain rfl : A = 0 := by omega
    obtain rfl : N = 0 := by omega
    have e1 := h1
    have e2 := h2
    obtain ⟨a1, c1, rfl⟩ := own_slice e1
    obtain ⟨a2, c2, rfl⟩ := own_slice e2
    have n1 : a1 = none → c1 = 0 := by
      intro e; subst e
      rcases h1.2 with ⟨h, _⟩ | ⟨_, _, _, h, _⟩
      · simp at h; exact h.2
      · cases h
    have n2 : a2 = none → c2 = 0 := by
      intro e; subst e
      rcases h2.2 with ⟨h, _⟩ | ⟨_, _, _, h, _⟩
      · simp at h; exact h.2
      · cases h
    have hbuf : Buf w2 W.heap.size [] := ⟨by simp, hb, (fun i hi => by simp at hi), bf⟩
    exact ⟨a1, a2, c1, c2, W.heap.size, W.heap.size, rfl, rfl, by omega, by omega, (fun h => by omega), n1, n2,
      ⟨old, b0, b1, hbuf, hbuf, rfl, rfl, fun _ _ => rfl, ⟨Nat.le_refl _, hlt⟩, ⟨Nat.le_refl _, hlt⟩, ⟨hlt, Nat.le_refl _⟩, (fun h => by simp at h)⟩,
      ⟨Nat.le_refl _, fun _ => rfl, fun _ => ⟨0, rfl, rfl, fun h => by omega⟩, (fun h => by cases h)⟩⟩
  · have e1 := h1
    have e2 := h2
    rcases h1.2 with ⟨_, h⟩ | ⟨gi, ci, cur1, rfl, hgi, _, hci, _⟩
    · omega
    rcases h2.2 with ⟨_, h⟩ | ⟨gw, cw, cur2, rfl, hgw, _, hcw, _⟩
    · omega
    have hlen : zs.length ≤ 140737488355328 := by omega
    have l1 := (e1.lt gi rfl).2
    have l2 := (e2.lt gw rfl).2
    have l3 := hg1 gi rfl
    refine ⟨_, _, ci, cw, gi, gw, rfl, rfl, hci, hcw, fun _ => ⟨rfl, rfl⟩, (fun e => by cases e), (fun e => by cases e),
      ⟨old, b0, b1, buf_own e1 hb hlen, buf_own e2 hb hlen, rfl, rfl, fun _ _ => rfl, ⟨by omega, l1⟩, ⟨by omega, l2⟩, ⟨hlt, Nat.le_refl _⟩, fun _ => ⟨by omega, by omega, by omega⟩⟩,
      ⟨Nat.le_refl _, (fun e => ?_), fun _ => ⟨0, rfl, by omega, fun hN => ?_⟩, (fun h => by cases h)⟩⟩
    · by_cases hN : N = 0
      · exact hN
      · simp [winA, hN] at e
    · simp [winA, show ¬ N = 0 by omega, addr_add]

set_option maxHeartbeats 4000000 in
set_option maxRecDepth 100000 in
theorem bounds_any (a0 : Option Addr) (c0 : Nat) (zs : List Int) (x y : Int) (a2 : Option Addr) (c2 : Nat) (xs : List DeedM) (W : World) (h0 : Bs W a0 zs) (n0 : (a0 = none → c0 = 0) ∧ zs.length ≤ c0) (hx : (Lit.int .i64 x).wf = true) (hy : (Lit.int .i64 y).wf = true)
    (o2 : SlOk sh53 W a2 c2 xs) (l2 : szs sh53 xs ≤ 1048576) (u0 : zs.length ≤ 1048576) :
    Calls Try.prog 5 #[.slice a0 zs.length c0, .agg #[.int .i64 x, .int .i64 y], .slice a2 xs.length c2] W fun e w' => e = .returned (.bool true) ∧ Below W.heap.size W w' := by
  obtain ⟨x0, x1⟩ := bounds_i64 hx
  obtain ⟨y0, y1⟩ := bounds_i64 hy
  have hlnb : xs.length ≤ 9223372036854775807 := by have h1 := o2.1.2.1; have h2 := o2.1.2.2; unfold maxLen at h2; exact Nat.le_trans h1 (by omega)
  have HB := Hid.mk' h0
  have HA0 := Hid.mk' n0.1
  have HO := Hid.mk' o2
  have HZ := Hid.mk' l2
  clear h0 n0 hx hy o2 l2
  obtain ⟨n, hn⟩ : ∃ n, n = zs.length := ⟨_, rfl⟩
  obtain ⟨ln, hln⟩ : ∃ n, n = xs.length := ⟨_, rfl⟩
  rw [← hn] at u0 ⊢
  rw [← hln] at hlnb ⊢
  have HN := Hid.mk' hn.symm
  have HLN := Hid.mk' hln.symm
  clear hn hln
  have HBX : Hid (Below W.heap.size W (W.alloc (.cells #[.int .i64 x, .int .i64 y] 24))) := (Below.refl _ _).alloc (Nat.le_refl _) _
  go_enter Try.func5, Try.ntmps5
  go_wp2_with fail
  refine (awake_any _).mono ?_
  rintro e w1 ⟨rfl, b1⟩
  have e0 : w1.cell? ⟨W.heap.size, 0, none⟩ = some (.int .i64 x) := by rw [b1.cell (by simp)]; simp
  have e1 : w1.cell? ⟨W.heap.size, 1, none⟩ = some (.int .i64 y) := by rw [b1.cell (by simp)]; simp
  have ef : ∀ j, w1.frozen? ⟨W.heap.size, j, none⟩ = false := fun j => by rw [b1.frozen (by simp)]; exact World.frozen?_alloc_at (hn := rfl) ..
  have ef0 := ef 0
  have ef1 := ef 1
  have EF := Hid.mk' ef
  have B1 : Hid (Below W.heap.size W w1) := HBX.out.trans (b1.mono (by simp))
  clear b1 HBX ef
  go_wp2_with fail
  refine (bring_at x _ (n + 1) _ (by omega) (by omega) (by omega) x0 x1).mono ?_
  rintro e w2 ⟨⟨A, hA, rfl⟩, rfl⟩
  go_wp2_with fail
  refine (bring_at y _ (n - A + 1) _ (by omega) (by omega) (by omega) y0 y1).mono ?_
  rintro e w3 ⟨⟨N, hN, rfl⟩, rfl⟩
  go_wp2_with fail
  have f0 : ((w1.setCell ⟨W.heap.size, 0, none⟩ (.int .i64 A)).setCell ⟨W.heap.size, 1, none⟩ (.int .i64 N)).cell? ⟨W.heap.size, 0, none⟩ = some (.int .i64 A) := by
    rw [World.cell?_setCell_other _ _ _ _ (by simp)]; exact World.cell?_setCell_same _ _ _ e0
  have f1 : ((w1.setCell ⟨W.heap.size, 0, none⟩ (.int .i64 A)).setCell ⟨W.heap.size, 1, none⟩ (.int .i64 N)).cell? ⟨W.heap.size, 1, none⟩ = some (.int .i64 N) := by
    refine World.cell?_setCell_same _ _ _ (u := .int .i64 y) ?_
    rw [World.cell?_setCell_other _ _ _ _ (by simp)]; exact e1
  have FF : Hid (∀ j, ((w1.setCell ⟨W.heap.size, 0, none⟩ (.int .i64 A)).setCell ⟨W.heap.size, 1, none⟩ (.int .i64 N)).frozen? ⟨W.heap.size, j, none⟩ = false) := fun j => by rw [World.frozen?_setCell, World.frozen?_setCell]; exact EF.out j
  have B4 : Hid (Below W.heap.size W ((w1.setCell ⟨W.heap.size, 0, none⟩ (.int .i64 A)).setCell ⟨W.heap.size, 1, none⟩ (.int .i64 N))) := (B1.out.setCell (Nat.le_refl _) _).setCell (Nat.le_refl _) _
  clear e0 e1 ef0 ef1 EF B1
  generalize (w1.setCell ⟨W.heap.size, 0, none⟩ (.int .i64 A)).setCell ⟨W.heap.size, 1, none⟩ (.int .i64 N) = w4 at *
  have hs4 : W.heap.size < w4.heap.size := lt_of_cell f0
  refine (copy_at a0 n c0 zs w4 HN.out (HB.out.below B4.out) HA0.out).mono ?_
  rintro e w5 ⟨v5, rfl, hown5, b5⟩
  have B5 : Hid (Below W.heap.size W w5) := B4.out.trans (b5.mono (by omega))
  have k0 := (b5.cell (p := ⟨W.heap.size, 0, none⟩) hs4).trans f0
  have k1 := (b5.cell (p := ⟨W.heap.size, 1, none⟩) hs4).trans f1
  have KF : Hid (∀ j, w5.frozen? ⟨W.heap.size, j, none⟩ = false) := fun j => (b5.frozen (p := ⟨W.heap.size, j, none⟩) hs4).trans (FF.out j)
  have HO5 := Hid.mk' hown5
  have hs5 : W.heap.size < w5.heap.size := lt_of_cell k0
  clear f0 f1 FF B4 b5 hown5
  go_wp2_with fail
  refine (copy_at a0 n c0 zs w5 HN.out (HB.out.below B5.out) HA0.out).mono ?_
  rintro e w6 ⟨v6, rfl, hown6, b6⟩
  have B6 : Below W.heap.size W w6 := B5.out.trans (b6.mono (by omega))
  have m0 := (b6.cell (p := ⟨W.heap.size, 0, none⟩) hs5).trans k0
  have m1 := (b6.cell (p := ⟨W.heap.size, 1, none⟩) hs5).trans k1
  have MF : ∀ j, w6.frozen? ⟨W.heap.size, j, none⟩ = false := fun j => (b6.frozen (p := ⟨W.heap.size, j, none⟩) hs5).trans (KF.out j)
  have ho5 : w6.ownsRow (W.heap.size + 1) 5 1 v5 n (zs.map (Value.int .u8)) := Kept.owns (ownsRow_base HO5.out (by omega)) (Kept.of_below (S := fun _ => False) b6) (fun _ _ h => h)
  obtain ⟨ai, aw, ci, cw, gi, gw, rfl, rfl, hci, hcw, hgn, hai, haw, hBd, hHd⟩ := bounds_start (N := N) (A := A) HN.out (by omega) u0 HB.out.bytes B6 m0 m1 MF ho5 hown6 (fun g hg => (HO5.out.lt g hg).2) (by omega)
  have HBd := Hid.mk' hBd
  have HHd := Hid.mk' hHd
  have HGN := Hid.mk' hgn
  have HAI := Hid.mk' hai
  have HAW := Hid.mk' haw
  clear k0 k1 KF B5 HO5 b6 B6 MF ho5 hown6 hBd hHd hgn hai haw
  go_wp2_with fail
  refine (lend_ok ai n ci A N _ (by omega) hci (by omega) (fun h => by rw [(HGN.out h).1]; simp)).mono ?_
  rintro e w7 ⟨rfl, b7⟩
  have HB7 : Hid (Bd w6.heap.size W w7 zs A N gi gw zs zs) := HBd.out.step (Kept.of_below (S := fun _ => False) b7) (fun h => h) (fun h => h) (fun _ _ h => h)
  have HH7 : Hid (Held w7.heap.size W w7 A N gi gw true A N N (winA ai A N)) := (HHd.out.step (Nat.le_refl _) b7).room b7.size
  have HC7 : Hid (Bd w7.heap.size W w7 zs A N gi gw zs zs) := HB7.out.room b7.size (Nat.le_refl _)
  have p0 := HC7.out.b0
  have p1 := HC7.out.b1
  clear m0 m1 b7 HBd HHd HB7
  generalize winA ai A N = v at *
  go_wp2_with fail
  go_loopg [9, 11, 12, 13] 60 (fun g s9 s11 s12 s13 wr => ∃ (v : Option Addr) (len c p k : Nat) (ins : Bool), s9 = .slice v len c ∧ s11 = .int .i64 p ∧ s12 = .bool ins ∧ s13 = .int .i64 k ∧ k ≤ 60 ∧ k ≤ ln ∧ 60 - k ≤ g ∧ len ≤ 1048576 * (k + 1) ∧ p ≤ n ∧ Hid (∃ cur, Bd wr.heap.size W wr zs A N gi gw cur cur) ∧ Hid (Held wr.heap.size W wr A N gi gw ins p len c v))
  case atStart => exact ⟨v, N, N, A, 0, true, rfl, rfl, rfl, rfl, by omega, by omega, by omega, by omega, by omega, ⟨zs, HC7.out⟩, HH7⟩
  case round =>
    clear HC7 HH7 p0 p1
    obtain ⟨v, len, c, p, k, ins, rfl, rfl, rfl, rfl, hk1, hk2, hg, hlen, hp, hB, hH⟩ := hrel
    by_cases hlt : k < ln ∧ k < 60
    · obtain ⟨hlt1, hlt2⟩ := hlt
      have hsp : (k : Int) < (ln : Int) := by omega
      have hsp2 : (k : Int) < 60 := by omega
      obtain ⟨cur, hBd⟩ := hB.out
      obtain ⟨b, off, kd, dx, ba, bc, ys, ha, q0, q1, q2, hbl, hdx, hys, hba, hyc, hyl⟩ := deed_cells HO.out HZ.out k (by rw [HLN.out]; exact hlt1)
      subst ha
      have d0 := (hBd.old.cell (p := ⟨b, off + k * 3, none⟩) hbl).trans q0
      have d1 := (hBd.old.cell (p := ⟨b, off + k * 3 + 1, none⟩) hbl).trans q1
      have d2 := (hBd.old.cell (p := ⟨b, off + k * 3 + 2, none⟩) hbl).trans q2
      have hbr : b < wr.heap.size := Nat.lt_of_lt_of_le hbl hBd.old.size
      have HYS := Hid.mk' hys
      have HBA := Hid.mk' hba
      obtain ⟨m, hm⟩ : ∃ m, m = ys.length := ⟨_, rfl⟩
      rw [← hm] at d2 hyc hyl
      have HM := Hid.mk' hm.symm
      have HB0 := Hid.mk' hBd
      clear q0 q1 q2 hys hba hm hBd hB
      go_upto_block 2 with fail
      have HB1 : Hid (Bd wr.heap.size W (wr.alloc (.cells #[.int .u8 kd, .int .i64 dx, .slice ba m bc] 53)) zs A N gi gw cur cur) := HB0.out.alloc _
      have HH1 : Hid (Held wr.heap.size W (wr.alloc (.cells #[.int .u8 kd, .int .i64 dx, .slice ba m bc] 53)) A N gi gw ins p len c v) := hH.out.step (Nat.le_refl _) ((Below.refl _ _).alloc (Nat.le_refl _) _)
      have g1 : (wr.alloc (.cells #[.int .u8 kd, .int .i64 dx, .slice ba m bc] 53)).cell? ⟨wr.heap.size, 1, none⟩ = some (.int .i64 dx) := by simp
      have g2 : (wr.alloc (.cells #[.int .u8 kd, .int .i64 dx, .slice ba m bc] 53)).cell? ⟨wr.heap.size, 2, none⟩ = some (.slice ba m bc) := by simp
      have gs : wr.heap.size < (wr.alloc (.cells #[.int .u8 kd, .int .i64 dx, .slice ba m bc] 53)).heap.size := by simp
      clear d0 d1 d2 hbr HB0 hH
      generalize wr.alloc (.cells #[.int .u8 kd, .int .i64 dx, .slice ba m bc] 53) = wq at *
      generalize wr.heap.size = q at *
      go_cut [9, 11, 12] from 62 to 194 (fun s9 s11 s12 wx => ∃ (v : Option Addr) (len c p : Nat) (ins : Bool), s9 = .slice v len c ∧ s11 = .int .i64 p ∧ s12 = .bool ins ∧ len ≤ 1048576 * (k + 2) ∧ p ≤ n ∧ Hid (∃ cur, Bd wx.heap.size W wx zs A N gi gw cur cur) ∧ Hid (Held wx.heap.size W wx A N gi gw ins p len c v))
      case first =>
        by_cases hk2' : kd = 2
        · have t2 : (kd == 2) = true := by simpa using hk2'
          clear hk2'
          as_aux_lemma =>
            go_wp2_with fail
            go_loopg [15] m (fun g s15 wr2 => ∃ j : Nat, s15 = .int .i64 j ∧ j ≤ m ∧ m - j ≤ g ∧ wr2.cell? ⟨q, 1, none⟩ = some (.int .i64 dx) ∧ wr2.cell? ⟨q, 2, none⟩ = some (.slice ba m bc) ∧ q < wr2.heap.size ∧ Hid (∃ cur, Bd q W wr2 zs A N gi gw cur cur) ∧ Hid (Held q W wr2 A N gi gw ins p len c v))
            case atStart => exact ⟨0, rfl, by omega, by omega, g1, g2, gs, ⟨cur, HB1.out⟩, HH1⟩
            case round =>
              clear g1 g2 gs HB1 HH1
              obtain ⟨j, rfl, hj1, hj2, g1, g2, gs, hB1, hH1⟩ := hrel
              by_cases hjm : j < m
              · have hsp3 : (j : Int) < (m : Int) := by omega
                go_wp2_with fail
                refine (bring_at dx _ (len + 1) _ (by omega) (by omega) (by omega) hdx.1 hdx.2).mono ?_
                rintro e w8 ⟨⟨r, hr, rfl⟩, rfl⟩
                obtain ⟨cur1, hBd1⟩ := hB1.out
                by_cases hto : r + j < len
                · have hto' : (r : Int) + (j : Int) < (len : Int) := by omega
                  have hyj := HYS.out.bytes.getD j
                  obtain ⟨bb, bo, rfl, hyc', hbbW⟩ : ∃ bb bo, ba = some ⟨bb, bo, none⟩ ∧ wr.cell? ⟨bb, bo + j, none⟩ = some (.int .u8 (ys.getD j 0)) ∧ bb < W.heap.size := by
                    rcases HYS.out.lies with h | ⟨bb, bo, h1, h2⟩
                    · have := HM.out; omega
                    · have h3 := h2 j (by rw [HM.out]; exact hjm)
                      have h4 : bb < W.heap.size := lt_of_cell h3
                      exact ⟨bb, bo, h1, (hBd1.old.cell (p := ⟨bb, bo + j, none⟩) h4).trans h3, h4⟩
                  generalize ys.getD j 0 = z at hyj hyc'
                  cases ins with
                  | true =>
                    obtain ⟨o, ho1, ho2, ho3⟩ := hH1.out.yes rfl
                    have hv := ho3 (by have := hH1.out.le; omega)
                    rw [← ho1] at hv
                    subst hv
                    have hlc := hH1.out.le
                    have hpn : p + (r + j) < n := by omega
                    have hpA : A ≤ p + (r + j) ∧ p + (r + j) < A + N := by omega
                    obtain ⟨rfl, rfl⟩ := HGN.out (by omega)
                    obtain ⟨hne, hgi, hgw⟩ := hBd1.ne (by rw [HN.out]; omega)
                    have r0 : wr.cell? ⟨gi, p + (r + j), none⟩ = some (.int .u8 (cur1.getD (p + (r + j)) 0)) := hBd1.bi.cell _ (by rw [hBd1.leni, HN.out]; exact hpn)
                    have r1 : wr.cell? ⟨gw, p + (r + j), none⟩ = some (.int .u8 (cur1.getD (p + (r + j)) 0)) := hBd1.bw.cell _ (by rw [hBd1.lenw, HN.out]; exact hpn)
                    have r2 := hBd1.bi.free (p + (r + j))
                    have r3 := hBd1.bw.free (p + (r + j))
                    have r4 : bb ≠ gi := by omega
                    have r5 := hBd1.li.2
                    have r6 := hBd1.lw.2
                    clear ho1 ho2 ho3
                    generalize cur1.getD (p + (r + j)) 0 = z0 at r0 r1
                    go_wp2_with fail
                    go_roundg (m - (j + 1))
                    case measure => omega
                    case rel => exact ⟨j + 1, by go_num, by omega, by omega, cell_apart (cell_apart g1 r5) r6, cell_apart (cell_apart g2 r5) r6, by rw [size_setCell, size_setCell]; exact gs, ⟨_, (hBd1.seti _ z hyj.1 hyj.2 hpA.1 hpA.2 (by rw [HN.out]; omega)).setw _ z hyj.1 hyj.2 (by rw [HN.out]; exact hpn)⟩, (hH1.out.set _ _).set _ _⟩
                  | false =>
                    obtain ⟨gh, oh, hv, h2, h3, h4, h5, h6⟩ := hH1.out.no rfl (by have := hH1.out.le; omega)
                    subst hv
                    have hlc := hH1.out.le
                    obtain ⟨s1, s2⟩ := h6 (r + j) (by omega)
                    obtain ⟨u0', s3⟩ := Option.isSome_iff_exists.1 s1
                    clear s1 h6
                    go_wp2_with fail
                    go_roundg (m - (j + 1))
                    case measure => omega
                    case rel => exact ⟨j + 1, by go_num, by omega, by omega, cell_apart g1 h3, cell_apart g2 h3, by rw [size_setCell]; exact gs, ⟨cur1, hBd1.step ((Kept.refl (fun k => k = gh) _).setCell (fun _ => rfl) _) (fun e => h4 e.symm) (fun e => h5 e.symm) (fun i hi e => by omega)⟩, hH1.out.set _ _⟩
                · have hto' : ¬ (r : Int) + (j : Int) < (len : Int) := by omega
                  go_wp2_with fail
                  go_meet
                  exact ⟨v, len, c, p, ins, rfl, rfl, rfl, by omega, hp, ⟨cur1, hBd1.room (by omega) (Nat.le_refl _)⟩, hH1.out.room (by omega)⟩
              · obtain ⟨cur1, hBd1⟩ := hB1.out
                go_wp2_with fail
                go_meet
                exact ⟨v, len, c, p, ins, rfl, rfl, rfl, by omega, hp, ⟨cur1, hBd1.room (by omega) (Nat.le_refl _)⟩, hH1.out.room (by omega)⟩
        · have t2 : (kd == 2) = false := by simpa using hk2'
          clear hk2'
          by_cases hk3' : kd = 3
          · have t3 : (kd == 3) = true := by simpa using hk3'
            clear hk3'
            as_aux_lemma =>
              have p0 := HB1.out.b0
              have p1 := HB1.out.b1
              go_wp2_with fail
              refine (bring_at dx _ (len + 1) _ (by omega) (by omega) (by omega) hdx.1 hdx.2).mono ?_
              rintro e w8 ⟨⟨f, hf, rfl⟩, rfl⟩
              have hlc := HH1.out.le
              cases ins with
              | true =>
                obtain ⟨o, ho1, ho2, ho3⟩ := HH1.out.yes rfl
                have hhi : ((N : Int) - ((p : Int) - (A : Int))).toNat = c := by omega
                have hh1 : (f : Int) ≤ (N : Int) - ((p : Int) - (A : Int)) := by omega
                have hh2 : (N : Int) - ((p : Int) - (A : Int)) ≤ (c : Int) := by omega
                have hh0 : (0 : Int) ≤ (N : Int) - ((p : Int) - (A : Int)) := by omega
                have hcut := Hid.mk' (HH1.out.cut f (c - f) (p + f) (by omega) (Nat.le_refl _) (fun _ => rfl))
                by_cases hcf : c = f
                · have e1 : (if c = f then v else v.map (·.add f)) = v := by rw [if_pos hcf]
                  rw [e1] at hcut
                  have hcf0 : c - f = 0 := by omega
                  have hpf : p + f ≤ n := by omega
                  clear ho1 ho2 ho3 e1
                  go_wp2_with fail
                  go_meet
                  exact ⟨v, c - f, c - f, p + f, true, by simp [hcf], by go_num, rfl, by omega, hpf, ⟨cur, HB1.out.room (by omega) (Nat.le_refl _)⟩, hcut.out.room (by omega)⟩
                · have hv := ho3 (by omega)
                  rw [← ho1] at hv
                  subst hv
                  rw [if_neg hcf] at hcut
                  have hcut' : Hid (Held q W wq A N gi gw true (p + f) (c - f) (c - f) (some ⟨gi, p + f, none⟩)) := by have := hcut.out; rwa [Option.map_some, addr_add] at this
                  have hpf : p + f ≤ n := by omega
                  clear ho1 ho2 ho3 hcut
                  go_wp2_with fail
                  go_meet
                  exact ⟨_, c - f, c - f, p + f, true, rfl, by go_num, rfl, by omega, hpf, ⟨cur, HB1.out.room (by omega) (Nat.le_refl _)⟩, hcut'.out.room (by omega)⟩
              | false =>
                have hcut := Hid.mk' (HH1.out.cut f (len - f) p (by omega) (by omega) (fun h => by cases h))
                by_cases hcf : c = f
                · have e1 : (if c = f then v else v.map (·.add f)) = v := by rw [if_pos hcf]
                  rw [e1] at hcut
                  clear e1
                  have hlf : len = f := by omega
                  go_wp2_with fail
                  go_meet
                  exact ⟨v, len - f, c - f, p, false, by simp [hcf, hlf], rfl, rfl, by omega, hp, ⟨cur, HB1.out.room (by omega) (Nat.le_refl _)⟩, hcut.out.room (by omega)⟩
                · obtain ⟨gh, oh, hv, _⟩ := HH1.out.no rfl (by omega)
                  subst hv
                  rw [if_neg hcf] at hcut
                  have hcut' : Hid (Held q W wq A N gi gw false p (len - f) (c - f) (some ⟨gh, oh + f, none⟩)) := by have := hcut.out; rwa [Option.map_some, addr_add] at this
                  clear hcut
                  go_wp2_with fail
                  go_meet
                  exact ⟨_, len - f, c - f, p, false, rfl, rfl, rfl, by omega, hp, ⟨cur, HB1.out.room (by omega) (Nat.le_refl _)⟩, hcut'.out.room (by omega)⟩
          · have t3 : (kd == 3) = false := by simpa using hk3'
            clear hk3'
            by_cases hk4' : kd = 4
            · have t4 : (kd == 4) = true := by simpa using hk4'
              clear hk4'
              as_aux_lemma =>
                have p0 := HB1.out.b0
                have p1 := HB1.out.b1
                have hlc := HH1.out.le
                have HBQ := Hid.mk' (HYS.out.below HB1.out.old)
                have HVN := Hid.mk' HH1.out.none
                obtain ⟨olds, hol, hoc⟩ := HH1.out.olds HB1.out (by rw [HN.out]; omega)
                have HOL := Hid.mk' hol
                have HOC := Hid.mk' hoc
                clear hol hoc
                by_cases hm0 : m = 0
                · subst hm0
                  cases ins with
                  | true =>
                    obtain ⟨o, ho1, ho2, ho3⟩ := HH1.out.yes rfl
                    have hfit : (len : Int) ≤ (N : Int) - ((p : Int) - (A : Int)) := by omega
                    clear ho1 ho2 ho3
                    go_wp2_with (at_builtin; refine wpList_app_none rfl _ _ rfl v len c rfl hlc ba bc rfl ?_)
                    go_loopg [20] 0 (fun g s20 wr3 => s20 = .int .i64 0 ∧ wq = wr3)
                    case atStart => exact ⟨rfl, rfl⟩
                    case round =>
                      obtain ⟨rfl, rfl⟩ := hrel
                      go_wp2_with fail
                      go_meet
                      exact ⟨v, len, c, p, true, rfl, rfl, rfl, by omega, hp, ⟨cur, HB1.out.room (by omega) (Nat.le_refl _)⟩, HH1.out.room (by omega)⟩
                  | false =>
                    go_wp2_with (at_builtin; refine wpList_app_none rfl _ _ rfl v len c rfl hlc ba bc rfl ?_)
                    go_meet
                    exact ⟨v, len, c, p, false, rfl, rfl, rfl, by omega, hp, ⟨cur, HB1.out.room (by omega) (Nat.le_refl _)⟩, HH1.out.room (by omega)⟩
                · have hmp : 0 < m := by omega
                  have hmp' : (0 : Int) < (m : Int) := by omega
                  cases ins with
                  | true =>
                    obtain ⟨o, ho1, ho2, ho3⟩ := HH1.out.yes rfl
                    by_cases hfit : len + m ≤ c
                    · have hfit' : (len : Int) + (m : Int) ≤ (N : Int) - ((p : Int) - (A : Int)) := by omega
                      have hv := ho3 (by omega)
                      rw [← ho1] at hv
                      subst hv
                      have hpn : p + len + m ≤ n := by omega
                      obtain ⟨rfl, rfl⟩ := HGN.out (by omega)
                      have HSP : Hid (∀ j, j < m → (wq.cell? ⟨gi, p + len + j, none⟩).isSome = true ∧ wq.frozen? ⟨gi, p + len + j, none⟩ = false) := fun j hj => ⟨by rw [HB1.out.bi.cell _ (by rw [HB1.out.leni, HN.out]; omega)]; rfl, HB1.out.bi.free _⟩
                      have HF := held_fits HB1.out HH1.out HYS.out.bytes (by rw [HN.out]; omega) (by rw [HM.out]; exact hmp) (by rw [HM.out]; exact hfit)
                      rw [HM.out] at HF
                      obtain ⟨HF1, HF2⟩ := HF
                      have r5 := HB1.out.li.2
                      have r6 := HB1.out.lw.2
                      clear ho1 ho2 ho3
                      go_wp2_with (at_builtin; refine wpList_app_room rfl _ _ rfl gi p len c rfl ba bc ys m HM.out rfl HBQ.out hmp hfit HSP.out ?_; obtain ⟨w9, hw9⟩ : ∃ w9, w9 = wq.setCells gi (p + len) (ys.map (Value.int .u8)) := ⟨_, rfl⟩; rw [← hw9] at HF1 ⊢; have g9 : w9.cell? ⟨q, 2, none⟩ = some (.slice ba m bc) := by { rw [hw9]; exact cells_apart r5 _ _ _ g2 }; have s9 : q < w9.heap.size := by { rw [hw9, size_setCells]; exact gs }; clear hw9)
                      go_loopg [20] m (fun g s20 wr3 => ∃ j : Nat, s20 = .int .i64 j ∧ j ≤ m ∧ m - j ≤ g ∧ wr3.cell? ⟨q, 2, none⟩ = some (.slice ba m bc) ∧ q < wr3.heap.size ∧ Hid (Bd q W wr3 zs A N gi gw (putF cur (p + len) ys) (putF cur (p + len) (ys.take j))))
                      case atStart => exact ⟨0, rfl, by omega, by omega, g9, s9, HF1⟩
                      case round =>
                        clear HF1 g9 s9
                        obtain ⟨j, rfl, hj1, hj2, g9, s9, hF⟩ := hrel
                        by_cases hjm : j < m
                        · have hsp3 : (j : Int) < (m : Int) := by omega
                          have hyj := HYS.out.bytes.getD j
                          obtain ⟨bb, bo, rfl, hyc', hbbW⟩ : ∃ bb bo, ba = some ⟨bb, bo, none⟩ ∧ wr.cell? ⟨bb, bo + j, none⟩ = some (.int .u8 (ys.getD j 0)) ∧ bb < W.heap.size := by
                            rcases HYS.out.lies with h | ⟨bb, bo, h1, h2⟩
                            · have := HM.out; omega
                            · have h3 := h2 j (by rw [HM.out]; exact hjm)
                              have h4 : bb < W.heap.size := lt_of_cell h3
                              exact ⟨bb, bo, h1, (hF.out.old.cell (p := ⟨bb, bo + j, none⟩) h4).trans h3, h4⟩
                          have hput : Hid (putF cur (p + len) (ys.take (j + 1)) = (putF cur (p + len) (ys.take j)).set (p + len + j) (ys.getD j 0)) := by
                            have hjy : j < ys.length := by rw [HM.out]; exact hjm
                            show _ = _
                            rw [List.take_succ_eq_append_getElem hjy, putF_snoc, List.length_take, Nat.min_eq_left (by omega)]
                            simp [hjy]
                          generalize ys.getD j 0 = z at hyj hyc' hput
                          have hF' : Hid (Bd q W (wr.setCell ⟨gw, p + len + j, none⟩ (.int .u8 z)) zs A N gi gw (putF cur (p + len) ys) (putF cur (p + len) (ys.take (j + 1)))) := by rw [hput.out]; exact hF.out.setw _ z hyj.1 hyj.2 (by rw [HN.out]; omega)
                          have r1 : wr.cell? ⟨gw, p + len + j, none⟩ = some (.int .u8 ((putF cur (p + len) (ys.take j)).getD (p + len + j) 0)) := hF.out.bw.cell _ (by rw [hF.out.lenw, HN.out]; omega)
                          have r3 := hF.out.bw.free (p + len + j)
                          generalize (putF cur (p + len) (ys.take j)).getD (p + len + j) 0 = z0 at r1
                          have hat : (p : Int) + (len : Int) + (j : Int) < (n : Int) := by omega
                          go_wp2_with fail
                          go_roundg (m - (j + 1))
                          case measure => omega
                          case rel => exact ⟨j + 1, by go_num, by omega, by omega, cell_apart g9 r6, by rw [size_setCell]; exact s9, hF'⟩
                        · have hjm' : ys.take j = ys := List.take_of_length_le (by rw [HM.out]; omega)
                          have hF' : Hid (Bd q W wr zs A N gi gw (putF cur (p + len) ys) (putF cur (p + len) ys)) := by have := hF.out; rwa [hjm'] at this
                          clear hjm' hF
                          go_wp2_with fail
                          go_meet
                          exact ⟨_, len + m, c, p, true, rfl, rfl, rfl, by omega, hp, ⟨_, hF'.out.room (by omega) (Nat.le_refl _)⟩, (HF2.out wr).room (by omega)⟩
                    · have hfit' : ¬ (len : Int) + (m : Int) ≤ (N : Int) - ((p : Int) - (A : Int)) := by omega
                      clear ho1 ho2 ho3
                      go_wp2_with (at_builtin; refine wpList_app_grow rfl _ _ rfl v len c rfl (fun e => ⟨by have := HVN.out e; omega, HVN.out e⟩) olds HOL.out HOC.out ba bc ys m HM.out rfl HBQ.out hmp (by omega) (by omega) ?_; intro v9 w9 hown9 hgr9; obtain ⟨vv, cc, rfl, HB9, HH9, b9⟩ := held_grow (p := p) HB1.out hown9 hgr9 (by omega); have g9 := (b9.cell (p := ⟨q, 2, none⟩) gs).trans g2; clear hown9 hgr9 b9)
                      go_meet
                      exact ⟨vv, len + m, cc, p, false, rfl, rfl, rfl, by omega, hp, ⟨cur, HB9.out⟩, HH9⟩
                  | false =>
                    by_cases hfit : len + m ≤ c
                    · obtain ⟨gh, oh, hv, h2, h3, h4, h5, h6⟩ := HH1.out.no rfl (by omega)
                      subst hv
                      have HSP : Hid (∀ j, j < m → (wq.cell? ⟨gh, oh + len + j, none⟩).isSome = true ∧ wq.frozen? ⟨gh, oh + len + j, none⟩ = false) := fun j hj => by have := h6 (len + j) (by omega); rwa [← Nat.add_assoc] at this
                      have HF := held_own HB1.out HH1.out h2 h4 h5 (oh + len) (ys.map (Value.int .u8)) hfit
                      obtain ⟨HF1, HF2⟩ := HF
                      clear h6
                      go_wp2_with (at_builtin; refine wpList_app_room rfl _ _ rfl gh oh len c rfl ba bc ys m HM.out rfl HBQ.out hmp hfit HSP.out ?_; obtain ⟨w9, hw9⟩ : ∃ w9, w9 = wq.setCells gh (oh + len) (ys.map (Value.int .u8)) := ⟨_, rfl⟩; rw [← hw9] at HF1 HF2 ⊢; have g9 : w9.cell? ⟨q, 2, none⟩ = some (.slice ba m bc) := by { rw [hw9]; exact cells_apart h3 _ _ _ g2 }; have s9 : q < w9.heap.size := by { rw [hw9, size_setCells]; exact gs }; clear hw9)
                      go_meet
                      exact ⟨_, len + m, c, p, false, rfl, rfl, rfl, by omega, hp, ⟨cur, HF1.out.room (by omega) (Nat.le_refl _)⟩, HF2.out.room (by omega)⟩
                    · go_wp2_with (at_builtin; refine wpList_app_grow rfl _ _ rfl v len c rfl (fun e => ⟨by have := HVN.out e; omega, HVN.out e⟩) olds HOL.out HOC.out ba bc ys m HM.out rfl HBQ.out hmp (by omega) (by omega) ?_; intro v9 w9 hown9 hgr9; obtain ⟨vv, cc, rfl, HB9, HH9, b9⟩ := held_grow (p := p) HB1.out hown9 hgr9 (by omega); have g9 := (b9.cell (p := ⟨q, 2, none⟩) gs).trans g2; clear hown9 hgr9 b9)
                      go_meet
                      exact ⟨vv, len + m, cc, p, false, rfl, rfl, rfl, by omega, hp, ⟨cur, HB9.out⟩, HH9⟩
            · have t4 : (kd == 4) = false := by simpa using hk4'
              clear hk4'
              go_wp2_with fail
              go_meet
              exact ⟨v, len, c, p, ins, rfl, rfl, rfl, by omega, hp, ⟨cur, HB1.out.room (by omega) (Nat.le_refl _)⟩, HH1.out.room (by omega)⟩
      case rest =>
        obtain ⟨v', len', c', p', ins', rfl, rfl, rfl, hlen', hp', hB', hH'⟩ := hcut
        as_aux_lemma =>
          obtain ⟨cur', hBd'⟩ := hB'.out
          go_wp2_with fail
          refine (eq_at ai aw n n ci cw cur' cur' _ (by rw [hBd'.leni, HN.out]) (by rw [hBd'.leni, HN.out]) (hBd'.bsi HN.out (fun h => (HGN.out h).1)) (hBd'.bsw HN.out (fun h => (HGN.out h).2))).mono ?_
          rintro e w9 ⟨rfl, d9⟩
          rw [show decide (cur' = cur') = true from by simp]
          have HB9 : Hid (∃ cur, Bd w9.heap.size W w9 zs A N gi gw cur cur) := ⟨cur', (hBd'.step (Kept.of_below (S := fun _ => False) (d9.below _)) (fun h => h) (fun h => h) (fun _ _ h => h)).room (by rw [d9.heap]; exact Nat.le_refl _) (Nat.le_refl _)⟩
          have HH9 : Hid (Held w9.heap.size W w9 A N gi gw ins' p' len' c' v') := (hH'.out.step (Nat.le_refl _) (d9.below _)).room (by rw [d9.heap]; exact Nat.le_refl _)
          clear hBd' hB' hH' d9
          go_wp2_with fail
          go_roundg (60 - (k + 1))
          case measure => omega
          case rel => exact ⟨v', len', c', p', k + 1, ins', rfl, rfl, rfl, by go_num, by omega, by omega, by omega, by omega, hp', HB9, HH9⟩
    · obtain ⟨cur, hBd⟩ := hB.out
      have HBF := Hid.mk' hBd
      have ob0 := hBd.b0
      have ob1 := hBd.b1
      clear hBd hB hH
      as_aux_lemma =>
        go_wp2_with fail
        all_goals
          go_loopg [21] n (fun g s21 wr3 => ∃ i : Nat, s21 = .int .i64 i ∧ i ≤ n ∧ n - i ≤ g ∧ Dr wr wr3)
          case atStart => exact ⟨0, rfl, by omega, by omega, Dr.refl _⟩
          case round =>
            obtain ⟨i, rfl, hi1, hi2, hd⟩ := hrel
            have q0 := (hd.cell _).trans ob0
            have q1 := (hd.cell _).trans ob1
            have hfin : Below W.heap.size W wr := HBF.out.old.trans (hd.below _)
            have HFIN := Hid.mk' hfin
            clear hfin
            by_cases hin : i < n
            · obtain ⟨rfl, rfl⟩ := HGN.out (by omega)
              obtain ⟨bb, bo, rfl, hzc⟩ : ∃ bb bo, a0 = some ⟨bb, bo, none⟩ ∧ wr.cell? ⟨bb, bo + i, none⟩ = some (.int .u8 (zs.getD i 0)) := by
                rcases (HB.out.below HFIN.out).lies with h | ⟨bb, bo, h1, h2⟩
                · have := HN.out; omega
                · exact ⟨bb, bo, h1, h2 i (by rw [HN.out]; exact hin)⟩
              have hcc := (hd.cell _).trans (HBF.out.bi.cell i (by rw [HBF.out.leni, HN.out]; exact hin))
              have HOUT : Hid (i < A ∨ A + N ≤ i → cur.getD i 0 = zs.getD i 0) := HBF.out.out i
              have hspi : (i : Int) < (n : Int) := by omega
              generalize zs.getD i 0 = z at hzc HOUT
              generalize cur.getD i 0 = z' at hcc HOUT
              clear HGN
              by_cases h1 : i < A
              · have hz : z' = z := HOUT.out (.inl h1)
                subst hz
                have d1 : decide ((i : Int) < (A : Int)) = true := by simp; omega
                go_wp2_with fail
                go_quiet (fail)
                go_wp2_with fail
                go_roundg (n - (i + 1))
                case measure => omega
                case rel => exact ⟨i + 1, by go_num, by omega, by omega, hd.more _⟩
              · have d1 : decide ((i : Int) < (A : Int)) = false := by simp; omega
                by_cases h2 : A + N ≤ i
                · have hz : z' = z := HOUT.out (.inr h2)
                  subst hz
                  have d2 : decide ((A : Int) + (N : Int) ≤ (i : Int)) = true := by simp; omega
                  go_wp2_with fail
                  go_quiet (fail)
                  go_wp2_with fail
                  go_roundg (n - (i + 1))
                  case measure => omega
                  case rel => exact ⟨i + 1, by go_num, by omega, by omega, hd.more _⟩
                · have d2 : decide ((A : Int) + (N : Int) ≤ (i : Int)) = false := by simp; omega
                  go_wp2_with fail
                  go_quiet (fail)
                  go_wp2_with fail
                  go_roundg (n - (i + 1))
                  case measure => omega
                  case rel => exact ⟨i + 1, by go_num, by omega, by omega, hd.more _⟩
            · go_wp2_with fail
              go_ret
              exact ⟨rfl, HFIN.out⟩
end Go.Proofs.Ytnpcglgboemmcaa
