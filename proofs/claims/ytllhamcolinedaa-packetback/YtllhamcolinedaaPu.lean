/- The walk of the statement PacketBack. -/
import Derived.Test.YtllhamcolinedaaPt
import Derived.Test.YtllhamcolinedaaPs
namespace Go.Proofs.Ytllhamcolinedaa
open Go.ChangeShapes Go.WideShapes Go.ChangeAt Go.RowKit

theorem brg500 (r : Int) (w : World) (h0 : -9223372036854775808 ≤ r) (h1 : r ≤ 9223372036854775807) :
    Calls Try.prog 14 #[.int .i64 r, .int .i64 500] w fun e w' => e = .returned (.int .i64 (brg r 500)) ∧ w = w' := brg_any r 500 w (by omega) (by omega) h0 h1

/-- A row of the call's own, later. -/
theorem Q1.row {W1 : World} {S : Nat → Prop} {w2 : World} {p base n m : Nat} {B : List Int} {v : Value} {X : List Value} (h : Q1 W1 (fun i => S i ∨ v.ownBlock = some i) w2 p B m) (hc : W1.ownsRow base 5 1 v n X) : w2.ownsRow base 5 1 v n X :=
  Kept.owns hc h.old (fun _ hg e => e (.inr hg))

set_option maxHeartbeats 4000000 in
set_option maxRecDepth 100000 in
theorem back_walk (a0 : Option Addr) (c0 : Nat) (zs : List Int) (nn r0 r1 : Int) (W : World) (h0 : Bs W a0 zs) (n0 : (a0 = none → c0 = 0) ∧ zs.length ≤ c0) (hbig : zs.length ≤ 140737488351232) (hnn : -9223372036854775808 ≤ nn ∧ nn ≤ 9223372036854775807)
    (w0 : -9223372036854775808 ≤ r0 ∧ r0 ≤ 9223372036854775807) (w1 : -9223372036854775808 ≤ r1 ∧ r1 ≤ 9223372036854775807) :
    Calls Try.prog 5 #[.slice a0 zs.length c0, .int .i64 nn, .agg #[.int .i64 r0, .int .i64 r1]] W fun e w' => e = .returned (.bool true) ∧ Below W.heap.size W w' := by
  have HB := Hid.mk' h0
  have hcap := n0.2
  clear h0 n0
  obtain ⟨n, hn⟩ : ∃ n, n = zs.length := ⟨_, rfl⟩
  rw [← hn] at hbig hcap ⊢
  have HN := Hid.mk' hn.symm
  clear hn
  have HL0 : Hid (Below W.heap.size W (W.alloc (.cells #[.int .i64 r0, .int .i64 r1] 23))) := (Below.refl _ _).alloc (Nat.le_refl _) _
  go_enter Try.func5, Try.ntmps5
  go_wp2_with fail
  refine (awake_any _).mono ?_
  rintro e w4 ⟨rfl, b4⟩
  have hsz : W.heap.size < w4.heap.size := by have := b4.size; simp at this; omega
  have e0 : w4.cell? ⟨W.heap.size, 0, none⟩ = some (.int .i64 r0) := by rw [b4.cell (by simp)]; simp
  have e1 : w4.cell? ⟨W.heap.size, 1, none⟩ = some (.int .i64 r1) := by rw [b4.cell (by simp)]; simp
  have B4 : Hid (Below W.heap.size W w4) := HL0.out.trans (b4.mono (by simp))
  clear b4 HL0
  go_upto_if 18 with fail
  go_cut [0] from 19 (fun s0 wx => ∃ (nb : Nat) (ys : List Int), s0 = .slice a0 nb c0 ∧ nb ≤ 1500 ∧ Hid (ys.length = nb) ∧ Hid (Bs W a0 ys) ∧ w4 = wx)
  case first =>
    by_cases hlong : 1500 < n
    · have hc0 : ¬ c0 = 0 := by omega
      obtain ⟨ad, rfl⟩ : ∃ ad, a0 = some ad := by
        rcases HB.out.lies with h | ⟨b, off, e, _⟩
        · have := HN.out; omega
        · exact ⟨_, e⟩
      have HT := Hid.mk' (HB.out.take 1500 (by rw [HN.out]; omega))
      have HTL : Hid ((zs.take 1500).length = 1500) := Hid.mk' (by rw [List.length_take, HN.out]; omega)
      go_wp2_with fail
      go_meet
      exact ⟨1500, zs.take 1500, by simp, by omega, HTL, HT, rfl⟩
    · go_wp2_with fail
      go_meet
      exact ⟨n, zs, rfl, by omega, HN, HB, rfl⟩
  case rest =>
  obtain ⟨nb, ys, rfl, hnb, HYL, HYB, rfl⟩ := hcut
  clear HB HN hbig hcap
  have k0 := brg_lt r0 257 (by omega)
  have k1 := brg_lt r1 257 (by omega)
  have k2 := brg_lt nn 500 (by omega)
  have c_0 := fun u => brg257 r0 u w0.1 w0.2
  have c_1 := fun u => brg257 r1 u w1.1 w1.2
  have c_2 := fun u => brg500 nn u hnn.1 hnn.2
  generalize brg r0 257 = x0 at *
  generalize brg r1 257 = x1 at *
  generalize brg nn 500 = k at *
  have hnew := new_at a0 c0 ys x0 x1 w4.drew (HYB.out.below (B4.out.trans ((Below.refl _ _).drew))) (by rw [HYL.out]; omega) (by omega) (by omega)
  rw [HYL.out] at hnew
  have NEW := Hid.mk' hnew
  clear hnew
  go_wp2_with fail
  refine (c_2 _).mono ?_
  rintro e w5 ⟨rfl, rfl⟩
  go_wp2_with fail
  go_region_held3 (fun w' => w'.cell? ⟨W.heap.size, 0, none⟩ = some (.int .i64 r0) ∧ w'.cell? ⟨W.heap.size, 1, none⟩ = some (.int .i64 r1)) (go_keep) (first | (go_at_call_of 14 (Value.int .i64 r0); refine (c_0 _).mono ?_; rintro e w5 ⟨rfl, rfl⟩) | (go_at_call_of 14 (Value.int .i64 r1); refine (c_1 _).mono ?_; rintro e w5 ⟨rfl, rfl⟩) | (go_at_call 8; refine (NEW.out).mono ?_; rintro e w5 ⟨rfl, h5, b5⟩; have P5 := Hid.mk' h5; have b5 := ((Below.refl w4.heap.size w4).drew).trans b5; have L5 := Hid.mk' b5; have s0 := (b5.cell (p := ⟨W.heap.size, 0, none⟩) hsz).trans e0; have s1 := (b5.cell (p := ⟨W.heap.size, 1, none⟩) hsz).trans e1; clear h5 b5))
  have HI : Hid (Q1 W (fun i => i < W.heap.size) w5 w4.heap.size ys 0) := by
    refine ⟨⟨_, _, _, P5.out, fun j hj e => ?_⟩, fun j hj => hj, Kept.of_below (B4.out.trans (L5.out.mono (by omega)))⟩
    have a1 : j = w4.heap.size ∨ j = w4.heap.size + 1 := hj
    omega
  clear P5 L5 NEW c_0 c_1 c_2 B4 e0 e1 s0 s1
  generalize w4.heap.size = p at *
  go_wp2_with fail
  refine (q1_head_pos k HI.out (by omega) (by rw [HYL.out]; omega)).mono ?_
  rintro e w6 ⟨rfl, h6⟩
  have H6 := Hid.mk' h6
  have HZL : Hid ((List.replicate k (0 : Int) ++ ys).length = nb + k) := Hid.mk' (by rw [List.length_append, List.length_replicate, HYL.out]; omega)
  clear h6 HI
  go_wp2_with fail
  refine (q1_len (nb + k) H6.out HZL.out).mono ?_
  rw [show ((nb + k : Nat) : Int) = (nb : Int) + k by omega]
  rintro e w7 ⟨rfl, d7⟩
  have H7 := Hid.mk' (H6.out.dr d7)
  clear d7 H6
  go_wp2_with fail
  refine (q1_bytes (nb + k) H7.out HZL.out).mono ?_
  rintro e w8 ⟨gx, cx, rfl, hcx, ho8, b8⟩
  have OW8 := Hid.mk' ho8
  have L8 := Hid.mk' b8
  have H8 : Hid (Q1 w8 (fun i => i < W.heap.size ∨ (Value.slice (some ⟨gx, 0, none⟩) (nb + k) cx).ownBlock = some i) w8 p (List.replicate k 0 ++ ys) 1) := H7.out.more b8 _ (fun i hi => ho8.lt i hi)
  clear ho8 b8
  go_wp2_with fail
  go_loopg [10] k (fun f s10 wr => ∃ (j : Nat) (B : List Int), s10 = .int .i64 j ∧ j ≤ k ∧ k - j ≤ f ∧ Hid (B.length = nb + k) ∧ Hid (B.drop k = ys) ∧ Hid (Q1 w8 (fun i => i < W.heap.size ∨ (Value.slice (some ⟨gx, 0, none⟩) (nb + k) cx).ownBlock = some i) wr p B 1))
  case atStart => exact ⟨0, _, rfl, by omega, by omega, HZL, Hid.mk' (List.drop_left' (by simp)), H8⟩
  case round =>
    clear H8
    obtain ⟨j, B, rfl, hj, hf, hBl, hBd, hQ⟩ := hrel
    by_cases hlt : j < k
    · have cc : wr.cell? ⟨gx, j, none⟩ = some (.int .u8 0) := by
        rw [(hQ.out.row OW8.out).cellAt j (by omega), List.getElem?_map, List.getElem?_append_left (by simp; omega), List.getElem?_replicate]
        simp [hlt]
      have hsp : (j : Int) < (k : Int) := by omega
      have hsp2 : (j : Int) < (nb : Int) + (k : Int) := by omega
      go_wp2_with fail
      refine (q1_store1 j hQ.out (by rw [hBl.out]; omega)).mono ?_
      rintro e w9 ⟨rfl, h9⟩
      have H9 := Hid.mk' h9
      clear h9
      go_wp2_with fail
      go_roundg (k - (j + 1))
      case measure => omega
      case rel => exact ⟨j + 1, B.set j 255, by go_num, by omega, by omega, Hid.mk' (by rw [List.length_set]; exact hBl.out), Hid.mk' (by rw [List.drop_set_of_lt hlt]; exact hBd.out), H9⟩
    · have hkc : k ≤ cx := by omega
      obtain ⟨A0, hA0, XB⟩ : ∃ A0 : Addr, (if cx = k then some (⟨gx, 0, none⟩ : Addr) else some ⟨gx, k, none⟩) = some A0 ∧ Hid (Bs wr (some A0) ys) := by
        have hr : Bs wr (some ⟨gx, 0, none⟩) (List.replicate k 0 ++ ys) := bs_row (by rw [HZL.out]; exact hQ.out.row OW8.out) (bytes_append (Bytes.zeros k) HYB.out.bytes) (by rw [HZL.out]; omega)
        by_cases h : cx = k
        · exact ⟨_, by rw [if_pos h], ⟨HYB.out.len, HYB.out.bytes, .inl (by rw [HYL.out]; omega)⟩⟩
        · refine ⟨⟨gx, k, none⟩, by rw [if_neg h], ?_⟩
          have := hr.drop k
          rw [Nat.zero_add, List.drop_left' (by simp)] at this
          exact this
      have BW := Hid.mk' (HYB.out.below ((H7.out.less (T := fun i => (Value.slice (some ⟨gx, 0, none⟩) (nb + k) cx).ownBlock = some i) L8.out hQ.out).old.below (Nat.le_refl _) (fun i hi e => e hi)))
      have hlen2 : nb + k - k = nb := by omega
      go_wp2_with fail
      refine (eq_same (some A0) a0 nb _ c0 ys wr HYL.out XB.out BW.out).mono ?_
      rintro e w9 ⟨rfl, d9⟩
      have H9 : Hid (Q1 W (fun i => i < W.heap.size) w9 p B 1) := (H7.out.less (T := fun i => (Value.slice (some ⟨gx, 0, none⟩) (nb + k) cx).ownBlock = some i) L8.out hQ.out).dr d9
      clear d9 hQ XB BW hA0 H7 L8 OW8
      go_wp2_with fail
      refine (q1_head_neg k H9.out (by omega) (by rw [hBl.out]; omega)).mono ?_
      rw [hBd.out]
      rintro e w10 ⟨rfl, h10⟩
      have H10 := Hid.mk' h10
      clear h10 H9 hBl hBd
      go_wp2_with fail
      refine (q1_bytes nb H10.out HYL.out).mono ?_
      rintro e w11 ⟨g11, c11, rfl, -, ho11, b11⟩
      have H11 := Hid.mk' (H10.out.below b11)
      have X11 : Hid (Bs w11 (some ⟨g11, 0, none⟩) ys) := bs_row (by rw [HYL.out]; exact ho11) HYB.out.bytes HYB.out.len
      have BW := Hid.mk' (HYB.out.below (H11.out.old.below (Nat.le_refl _) (fun i hi e => e hi)))
      clear ho11 b11 H10
      go_wp2_with fail
      refine (eq_same (some ⟨g11, 0, none⟩) a0 nb _ c0 ys w11 HYL.out X11.out BW.out).mono ?_
      rintro e w12 ⟨rfl, d12⟩
      have H12 := Hid.mk' (H11.out.dr d12)
      clear d12 H11 X11 BW
      go_wp2_with fail
      refine (q1_tail_pos k H12.out (by omega) (by rw [HYL.out]; omega)).mono ?_
      rintro e w13 ⟨rfl, h13⟩
      have H13 := Hid.mk' h13
      have HTL : Hid ((ys ++ List.replicate k (0 : Int)).length = nb + k) := Hid.mk' (by rw [List.length_append, List.length_replicate, HYL.out])
      clear h13 H12
      have cl := fun u h => q1_len (W := W) (S := fun i => i < W.heap.size) (w := u) (p := p) (m := 3) (nb + k) h HTL.out
      rw [show ((nb + k : Nat) : Int) = (nb : Int) + k by omega] at cl
      have CL := Hid.mk' cl
      clear cl
      go_wp2_with fail
      refine (CL.out _ H13.out).mono ?_
      rintro e w14 ⟨rfl, d14⟩
      have H14 := Hid.mk' (H13.out.dr d14)
      clear d14 H13 CL
      go_wp2_with fail
      refine (q1_bytes (nb + k) H14.out HTL.out).mono ?_
      rintro e w15 ⟨gy, cy, rfl, hcy, ho15, b15⟩
      have OW15 := Hid.mk' ho15
      have H15 := Hid.mk' (H14.out.below b15)
      clear ho15 b15 H14
      go_wp2_with fail
      go_loopg [11] k (fun f s11 wr2 => ∃ j : Nat, s11 = .int .i64 j ∧ j ≤ k ∧ k - j ≤ f ∧ w15 = wr2)
      case atStart => exact ⟨0, rfl, by omega, by omega, rfl⟩
      case round =>
        obtain ⟨j2, rfl, hj2, hf2, rfl⟩ := hrel
        by_cases hlt2 : j2 < k
        · have cc : w15.cell? ⟨gy, nb + j2, none⟩ = some (.int .u8 0) := by
            rw [OW15.out.cellAt (nb + j2) (by omega), List.getElem?_map, List.getElem?_append_right (by rw [HYL.out]; omega), List.getElem?_replicate, HYL.out]
            simp; omega
          have hsp : (j2 : Int) < (k : Int) := by omega
          have hsp2 : (nb : Int) + (j2 : Int) < (nb : Int) + (k : Int) := by omega
          go_wp2_with fail
          go_roundg (k - (j2 + 1))
          case measure => omega
          case rel => exact ⟨j2 + 1, by go_num, by omega, by omega, rfl⟩
        · have XT : Hid (Bs w15 (some ⟨gy, 0, none⟩) ys) := by
            have hr : Bs w15 (some ⟨gy, 0, none⟩) (ys ++ List.replicate k 0) := bs_row (by rw [HTL.out]; exact OW15.out) (bytes_append HYB.out.bytes (Bytes.zeros k)) (by rw [HTL.out]; omega)
            have := hr.take nb (by rw [HTL.out]; omega)
            rw [← HYL.out, List.take_left] at this
            exact this
          have BW := Hid.mk' (HYB.out.below (H15.out.old.below (Nat.le_refl _) (fun i hi e => e hi)))
          have hnc : nb ≤ cy := by omega
          go_wp2_with fail
          refine (eq_same (some ⟨gy, 0, none⟩) a0 nb _ c0 ys w15 HYL.out XT.out BW.out).mono ?_
          rintro e w16 ⟨rfl, d16⟩
          have H16 := Hid.mk' (H15.out.dr d16)
          clear d16 H15 XT BW OW15
          have ct := fun u h => q1_tail_neg (W := W) (S := fun i => i < W.heap.size) (w := u) (p := p) (B := ys ++ List.replicate k 0) (m := 3) k h (by omega) (by rw [HTL.out]; omega)
          rw [show (ys ++ List.replicate k (0 : Int)).take ((ys ++ List.replicate k (0 : Int)).length - k) = ys from by rw [HTL.out, Nat.add_sub_cancel, ← HYL.out, List.take_left]] at ct
          have CT := Hid.mk' ct
          clear ct
          go_wp2_with fail
          refine (CT.out _ H16.out).mono ?_
          rintro e w17 ⟨rfl, h17⟩
          have H17 := Hid.mk' h17
          clear h17 H16 CT
          go_wp2_with fail
          refine (q1_bytes nb H17.out HYL.out).mono ?_
          rintro e w18 ⟨g18, c18, rfl, -, ho18, b18⟩
          have H18 := Hid.mk' (H17.out.below b18)
          have X18 : Hid (Bs w18 (some ⟨g18, 0, none⟩) ys) := bs_row (by rw [HYL.out]; exact ho18) HYB.out.bytes HYB.out.len
          have BW := Hid.mk' (HYB.out.below (H18.out.old.below (Nat.le_refl _) (fun i hi e => e hi)))
          clear ho18 b18 H17
          go_wp2_with fail
          refine (eq_same (some ⟨g18, 0, none⟩) a0 nb _ c0 ys w18 HYL.out X18.out BW.out).mono ?_
          rintro e w19 ⟨rfl, d19⟩
          have H19 := Hid.mk' (H18.out.dr d19)
          clear d19 H18 X18 BW
          go_wp2_with fail
          refine (q1_moves H19.out).mono ?_
          rintro e w20 ⟨rfl, rfl⟩
          obtain ⟨kk, hmin, hkk1, hkk2⟩ : ∃ kk : Nat, min (k : Int) (nb : Int) = (kk : Int) ∧ kk ≤ k ∧ kk ≤ nb := ⟨min k nb, by omega, by omega, by omega⟩
          go_wp2_with fail
          clear hmin
          refine (q1_head_neg kk H19.out (by omega) (by rw [HYL.out]; omega)).mono ?_
          rintro e w21 ⟨rfl, h21⟩
          have H21 := Hid.mk' h21
          clear h21 H19
          go_wp2_with fail
          refine (q1_head_pos kk H21.out (by omega) (by rw [List.length_drop, HYL.out]; omega)).mono ?_
          rintro e w22 ⟨rfl, h22⟩
          have H22 := Hid.mk' h22
          have HUL : Hid ((List.replicate kk (0 : Int) ++ ys.drop kk).length = nb) := Hid.mk' (by rw [List.length_append, List.length_replicate, List.length_drop, HYL.out]; omega)
          clear h22 H21
          go_wp2_with fail
          refine (q1_len nb H22.out HUL.out).mono ?_
          rintro e w23 ⟨rfl, d23⟩
          have H23 := Hid.mk' (H22.out.dr d23)
          clear d23 H22
          go_wp2_with fail
          refine (q1_bytes nb H23.out HUL.out).mono ?_
          rintro e w24 ⟨gz, cz, rfl, hcz, ho24, b24⟩
          have OW24 := Hid.mk' ho24
          have B24 : Hid (Below W.heap.size W w24) := (H23.out.old.below (Nat.le_refl _) (fun i hi e => e hi)).trans (b24.mono H23.out.old.size)
          clear ho24 b24 H23
          go_wp2_with fail
          go_loopg [13] nb (fun f s13 wr3 => ∃ j : Nat, s13 = .int .i64 j ∧ j ≤ nb ∧ nb - j ≤ f ∧ Hid (Dr w24 wr3))
          case atStart => exact ⟨0, rfl, by omega, by omega, Dr.refl _⟩
          case round =>
            obtain ⟨j3, rfl, hj3, hf3, hd3⟩ := hrel
            by_cases hlt3 : j3 < nb
            · obtain ⟨ab, ao, hab, hcb⟩ : ∃ ab ao : Nat, a0 = some ⟨ab, ao, none⟩ ∧ w24.cell? ⟨ab, ao + j3, none⟩ = some (.int .u8 (ys.getD j3 0)) := by
                have hby := HYB.out.below B24.out
                rcases hby.lies with h | ⟨b, off, e, hc⟩
                · have := HYL.out; omega
                · exact ⟨b, off, e, hc j3 (by rw [HYL.out]; exact hlt3)⟩
              subst hab
              have cb := (hd3.out.cell _).trans hcb
              have hsp : (j3 : Int) < (nb : Int) := by omega
              by_cases hin : j3 < kk
              · have cc0 : w24.cell? ⟨gz, j3, none⟩ = some (.int .u8 0) := by
                  rw [OW24.out.cellAt j3 (by omega), List.getElem?_map, List.getElem?_append_left (by simp; omega), List.getElem?_replicate]
                  simp [hin]
                have cc := (hd3.out.cell _).trans cc0
                have hin' : (j3 : Int) < (kk : Int) := by omega
                have hge : ¬ (kk : Int) ≤ (j3 : Int) := by omega
                have hgn : ¬ kk ≤ j3 := by omega
                have hgd : decide ((kk : Int) ≤ (j3 : Int)) = false := by simp; omega
                clear hcb cc0
                go_wp2_with fail
                go_quiet (fail)
                have HD := Hid.mk' (hd3.out.more nq)
                go_wp2_with fail
                go_roundg (nb - (j3 + 1))
                case measure => omega
                case rel => exact ⟨j3 + 1, by go_num, by omega, by omega, HD⟩
              · have cc0 : w24.cell? ⟨gz, j3, none⟩ = some (.int .u8 (ys.getD j3 0)) := by
                  rw [OW24.out.cellAt j3 (by omega), List.getElem?_map, List.getElem?_append_right (by simp; omega), List.getElem?_drop, List.length_replicate, show kk + (j3 - kk) = j3 by omega, List.getElem?_eq_getElem (by rw [HYL.out]; exact hlt3)]
                  rw [List.getD_eq_getElem?_getD, List.getElem?_eq_getElem (by rw [HYL.out]; exact hlt3)]; rfl
                have cc := (hd3.out.cell _).trans cc0
                have hin' : ¬ (j3 : Int) < (kk : Int) := by omega
                have hge : (kk : Int) ≤ (j3 : Int) := by omega
                have hgn : kk ≤ j3 := by omega
                have hgd : decide ((j3 : Int) < (kk : Int)) = false := by simp; omega
                clear hcb cc0
                generalize ys.getD j3 0 = z at *
                go_wp2_with fail
                go_quiet (fail)
                have HD := Hid.mk' (hd3.out.more nq)
                go_wp2_with fail
                go_roundg (nb - (j3 + 1))
                case measure => omega
                case rel => exact ⟨j3 + 1, by go_num, by omega, by omega, HD⟩
            · have B25 : Below W.heap.size W wr := B24.out.trans (hd3.out.below _)
              go_wp2_with fail
              go_ret
              exact ⟨rfl, B25⟩

theorem walkPacketBack (a0 : Option Addr) (c0 : Nat) (zs : List Int) (x1 : Int) (m2 : sh23.M) (W : World) (h0 : Bs W a0 zs) (n0 : (a0 = none → c0 = 0) ∧ zs.length ≤ c0) (h1 : (Lit.int .i64 x1).wf = true) (o2 : sh23.ok W m2) (u0 : zs.length ≤ 140737488351232) :
    Calls Try.prog 5 #[.slice a0 zs.length c0, .int .i64 x1, .agg (sh23.cs m2).toArray] W fun e w' => e = .returned (.bool true) ∧ Below W.heap.size W w' :=
  back_walk a0 c0 zs x1 m2.1 m2.2 W h0 n0 u0 (bounds_i64 h1) (bounds_i64 o2.1) (bounds_i64 o2.2)
end Go.Proofs.Ytllhamcolinedaa
