/- The walk of the statement PacketRoom. -/
import Derived.Test.YtllhamcolinedaaPq
import Derived.Test.YtllhamcolinedaaPr
import Derived.Deep.RegionHeld3
namespace Go.Proofs.Ytllhamcolinedaa
open Go.ChangeShapes Go.WideShapes Go.ChangeAt Go.RowKit

theorem bring4 {kd : Int} (h0 : -9223372036854775808 ≤ kd) (h1 : kd ≤ 9223372036854775807) : ∃ r : Nat, r < 4 ∧ ∀ u : World, Calls Try.prog 14 #[.int .i64 kd, .int .i64 4] u fun e w' => e = .returned (.int .i64 r) ∧ u = w' :=
  bring_fix kd 4 (by omega) (by omega) h0 h1

theorem q2_start {W : World} {S : Nat → Prop} {w w1 : World} {p q : Nat} {B : List Int} {m : Nat} {kd n x k v : Int} (h : Q2 W S w p q B m B m) (hw : w.alloc (.cells #[.int .i64 kd, .int .i64 n, .int .i64 x, .int .i64 k, .int .u64 v] 38) = w1) :
    Hid (Q2 w1 (fun i => S i ∨ i = w.heap.size) w1 p q B m B m) ∧ Hid (Below w.heap.size w w1) ∧ w1.cell? ⟨w.heap.size, 0, none⟩ = some (.int .i64 kd) ∧ w1.cell? ⟨w.heap.size, 1, none⟩ = some (.int .i64 n) ∧ w1.cell? ⟨w.heap.size, 2, none⟩ = some (.int .i64 x) ∧ w1.cell? ⟨w.heap.size, 3, none⟩ = some (.int .i64 k) ∧ w1.cell? ⟨w.heap.size, 4, none⟩ = some (.int .u64 v) := by
  subst hw
  have b : Below w.heap.size w (w.alloc (.cells #[.int .i64 kd, .int .i64 n, .int .i64 x, .int .i64 k, .int .u64 v] 38)) := (Below.refl _ _).alloc (Nat.le_refl _) _
  refine ⟨Q2.more h b (fun i => i = w.heap.size) (fun i hi => by subst hi; simp), b, ?_, ?_, ?_, ?_, ?_⟩ <;> simp

theorem brg257 (r : Int) (w : World) (h0 : -9223372036854775808 ≤ r) (h1 : r ≤ 9223372036854775807) :
    Calls Try.prog 14 #[.int .i64 r, .int .i64 257] w fun e w' => e = .returned (.int .i64 (brg r 257)) ∧ w = w' := brg_any r 257 w (by omega) (by omega) h0 h1

theorem new_at (a : Option Addr) (c : Nat) (zs : List Int) (x y : Nat) (w : World) (hB : Bs w a zs) (h : zs.length ≤ 2048) (hx : x ≤ 256) (hy : y ≤ 256) :
    Calls Try.prog 8 #[.slice a zs.length c, .int .i64 x, .int .i64 y] w fun e w' => e = .returned (.tuple #[.pointer (some ⟨w.heap.size, 0, none⟩), .int .i64 0]) ∧ PkIs w' w.heap.size (w.heap.size + 1) (List.replicate x 0) zs (List.replicate y 0) 0 ∧ Below w.heap.size w w' := by
  refine new_ok a c zs x y w hB h hx hy (fun b hb => ?_)
  rcases hB.lies with h0 | ⟨b', off, e, hc⟩
  · exact .inr h0
  · by_cases h0 : zs.length = 0
    · exact .inr h0
    · rw [hb] at e; cases e
      exact .inl (lt_of_cell (hc 0 (by omega)))

set_option maxHeartbeats 4000000 in
set_option maxRecDepth 100000 in
theorem room_walk (a0 : Option Addr) (c0 : Nat) (zs : List Int) (r0 r1 r2 r3 : Int) (a1 : Option Addr) (c1 : Nat) (xs : List DoM) (W : World) (h0 : Bs W a0 zs) (n0 : (a0 = none → c0 = 0) ∧ zs.length ≤ c0) (o1 : SlOk sh38 W a1 c1 xs) (l1 : xs.length ≤ 140737488351232) (hbig : zs.length ≤ 140737488351232)
    (w0 : -9223372036854775808 ≤ r0 ∧ r0 ≤ 9223372036854775807) (w1 : -9223372036854775808 ≤ r1 ∧ r1 ≤ 9223372036854775807) (w2 : -9223372036854775808 ≤ r2 ∧ r2 ≤ 9223372036854775807) (w3 : -9223372036854775808 ≤ r3 ∧ r3 ≤ 9223372036854775807) :
    Calls Try.prog 4 #[.slice a0 zs.length c0, .agg #[.int .i64 r0, .int .i64 r1, .int .i64 r2, .int .i64 r3], .slice a1 xs.length c1] W fun e w' => e = .returned (.bool true) ∧ Below W.heap.size W w' := by
  have HB := Hid.mk' h0
  have hcap := n0.2
  have HO := Hid.mk' o1
  clear h0 n0 o1
  obtain ⟨n, hn⟩ : ∃ n, n = zs.length := ⟨_, rfl⟩
  obtain ⟨ln, hln⟩ : ∃ n, n = xs.length := ⟨_, rfl⟩
  rw [← hn] at hbig hcap ⊢
  rw [← hln] at l1 ⊢
  have HN := Hid.mk' hn.symm
  have HLN := Hid.mk' hln.symm
  clear hn hln
  have HL0 : Hid (Below W.heap.size W (W.alloc (.cells #[.int .i64 r0, .int .i64 r1, .int .i64 r2, .int .i64 r3] 41))) := (Below.refl _ _).alloc (Nat.le_refl _) _
  go_enter Try.func4, Try.ntmps4
  go_wp2_with fail
  refine (awake_any _).mono ?_
  rintro e w4 ⟨rfl, b4⟩
  have hsz : W.heap.size < w4.heap.size := by have := b4.size; simp at this; omega
  have e0 : w4.cell? ⟨W.heap.size, 0, none⟩ = some (.int .i64 r0) := by rw [b4.cell (by simp)]; simp
  have e1 : w4.cell? ⟨W.heap.size, 1, none⟩ = some (.int .i64 r1) := by rw [b4.cell (by simp)]; simp
  have e2 : w4.cell? ⟨W.heap.size, 2, none⟩ = some (.int .i64 r2) := by rw [b4.cell (by simp)]; simp
  have e3 : w4.cell? ⟨W.heap.size, 3, none⟩ = some (.int .i64 r3) := by rw [b4.cell (by simp)]; simp
  have B4 : Hid (Below W.heap.size W w4) := HL0.out.trans (b4.mono (by simp))
  clear b4 HL0
  go_upto_if 21 with fail
  go_cut [0] from 22 (fun s0 wx => ∃ (nn : Nat) (ys : List Int), s0 = .slice a0 nn c0 ∧ nn ≤ 2048 ∧ Hid (ys.length = nn) ∧ Hid (Bs W a0 ys) ∧ w4 = wx)
  case first =>
    by_cases hlong : 2048 < n
    · have hc0 : ¬ c0 = 0 := by omega
      obtain ⟨ad, rfl⟩ : ∃ ad, a0 = some ad := by
        rcases HB.out.lies with h | ⟨b, off, e, _⟩
        · have := HN.out; omega
        · exact ⟨_, e⟩
      have HT := Hid.mk' (HB.out.take 2048 (by rw [HN.out]; omega))
      have HTL : Hid ((zs.take 2048).length = 2048) := Hid.mk' (by rw [List.length_take, HN.out]; omega)
      go_wp2_with fail
      go_meet
      exact ⟨2048, zs.take 2048, by simp, by omega, HTL, HT, rfl⟩
    · go_wp2_with fail
      go_meet
      exact ⟨n, zs, rfl, by omega, HN, HB, rfl⟩
  case rest =>
  obtain ⟨nb, ys, rfl, hnb, HYL, HYB, rfl⟩ := hcut
  clear HB HN hbig hcap
  have k0 := brg_lt r0 257 (by omega)
  have k1 := brg_lt r1 257 (by omega)
  have k2 := brg_lt r2 257 (by omega)
  have k3 := brg_lt r3 257 (by omega)
  have c_0 := fun u => brg257 r0 u w0.1 w0.2
  have c_1 := fun u => brg257 r1 u w1.1 w1.2
  have c_2 := fun u => brg257 r2 u w2.1 w2.2
  have c_3 := fun u => brg257 r3 u w3.1 w3.2
  generalize brg r0 257 = x0 at *
  generalize brg r1 257 = x1 at *
  generalize brg r2 257 = x2 at *
  generalize brg r3 257 = x3 at *
  have hnew := fun (x y : Nat) (u : World) (hx : x ≤ 256) (hy : y ≤ 256) (hu : Bs u a0 ys) => new_at a0 c0 ys x y u hu (by rw [HYL.out]; exact hnb) hx hy
  rw [HYL.out] at hnew
  have NEW := Hid.mk' hnew
  clear hnew
  have BY4 := Hid.mk' (HYB.out.below B4.out)
  go_wp2_with fail
  go_region_held3 (fun w' => w'.cell? ⟨W.heap.size, 0, none⟩ = some (.int .i64 r0) ∧ w'.cell? ⟨W.heap.size, 1, none⟩ = some (.int .i64 r1)) (go_keep) (first | (go_at_call_of 14 (Value.int .i64 r0); refine (c_0 _).mono ?_; rintro e w5 ⟨rfl, rfl⟩) | (go_at_call_of 14 (Value.int .i64 r1); refine (c_1 _).mono ?_; rintro e w5 ⟨rfl, rfl⟩) | (go_at_call 8; refine (NEW.out x0 x1 _ (by omega) (by omega) (BY4.out.below ((Below.refl _ _).drew))).mono ?_; rintro e w5 ⟨rfl, h5, b5⟩; have P5 := Hid.mk' h5; have b5 := ((Below.refl w4.heap.size w4).drew).trans b5; have L5 := Hid.mk' b5; have s2 := (b5.cell (p := ⟨W.heap.size, 2, none⟩) hsz).trans e2; have s3 := (b5.cell (p := ⟨W.heap.size, 3, none⟩) hsz).trans e3; have s0 := (b5.cell (p := ⟨W.heap.size, 0, none⟩) hsz).trans e0; have s1 := (b5.cell (p := ⟨W.heap.size, 1, none⟩) hsz).trans e1; clear h5 b5))
  have BY5 := Hid.mk' (BY4.out.below L5.out)
  have hsz5 : W.heap.size < w5.heap.size := by have := L5.out.size; omega
  clear e0 e1 e2 e3 s0 s1
  go_wp2_with fail
  go_region_held3 (fun w' => w'.cell? ⟨W.heap.size, 2, none⟩ = some (.int .i64 r2) ∧ w'.cell? ⟨W.heap.size, 3, none⟩ = some (.int .i64 r3)) (go_keep) (first | (go_at_call_of 14 (Value.int .i64 r2); refine (c_2 _).mono ?_; rintro e w6 ⟨rfl, rfl⟩) | (go_at_call_of 14 (Value.int .i64 r3); refine (c_3 _).mono ?_; rintro e w6 ⟨rfl, rfl⟩) | (go_at_call 8; refine (NEW.out x2 x3 _ (by omega) (by omega) (BY5.out.below ((Below.refl _ _).drew))).mono ?_; rintro e w6 ⟨rfl, h6, b6⟩; have P6 := Hid.mk' h6; have b6 := ((Below.refl w5.heap.size w5).drew).trans b6; have L6 := Hid.mk' b6; have t2 := (b6.cell (p := ⟨W.heap.size, 2, none⟩) hsz5).trans s2; have t3 := (b6.cell (p := ⟨W.heap.size, 3, none⟩) hsz5).trans s3; clear h6 b6))
  have hq : w4.heap.size + 1 < w5.heap.size := P5.out.glt
  have HI : Hid (Q2 W (fun i => i < W.heap.size) w6 w4.heap.size w5.heap.size ys 0 ys 0) := by
    refine ⟨⟨_, _, _, _, _, _, P5.out.below L6.out, P6.out, fun k hk hk' => ?_, fun k hk e => ?_, fun k hk e => ?_⟩, fun k hk => hk, ?_⟩
    · have a1 : k = w4.heap.size ∨ k = w4.heap.size + 1 := hk
      have a2 : k = w5.heap.size ∨ k = w5.heap.size + 1 := hk'
      omega
    · have a1 : k = w4.heap.size ∨ k = w4.heap.size + 1 := hk
      omega
    · have a1 : k = w5.heap.size ∨ k = w5.heap.size + 1 := hk
      omega
    · exact Kept.of_below (B4.out.trans ((L5.out.mono (by omega)).trans (L6.out.mono (by omega))))
  clear P5 P6 L5 L6 BY4 BY5 NEW c_0 c_1 c_2 c_3 B4 HYB s2 s3 t2 t3 hq
  generalize w4.heap.size = p at *
  generalize w5.heap.size = q at *
  go_wp2_with fail
  go_loopg [11] 150 (fun f s11 wr => ∃ (j : Nat) (B : List Int) (m : Nat), s11 = .int .i64 j ∧ j ≤ 150 ∧ j ≤ ln ∧ 150 - j ≤ f ∧ m ≤ j ∧ Hid (Q2 W (fun i => i < W.heap.size) wr p q B m B m))
  case atStart => exact ⟨0, ys, 0, rfl, by omega, by omega, by omega, by omega, HI⟩
  case round =>
    clear HI
    obtain ⟨j, B, m, rfl, hj1, hj2, hf2, hm, hI⟩ := hrel
    by_cases hlt2 : j < ln ∧ j < 150
    · obtain ⟨hlt3, hlt4⟩ := hlt2
      have hsp : (j : Int) < (ln : Int) := by omega
      have hsp2 : (j : Int) < 150 := by omega
      obtain ⟨b, off, kd, nn, xx, kk, vv, ha, q0, q1, q2, q3, q4, hbl, hkd, hxx, hvv⟩ := do_cells HO.out j (by rw [HLN.out]; exact hlt3)
      subst ha
      have g0 := hI.out.old.cell q0 (fun e => e hbl)
      have g1 := hI.out.old.cell q1 (fun e => e hbl)
      have g2 := hI.out.old.cell q2 (fun e => e hbl)
      have g3 := hI.out.old.cell q3 (fun e => e hbl)
      have g4 := hI.out.old.cell q4 (fun e => e hbl)
      clear q0 q1 q2 q3 q4
      obtain ⟨r, hr, hbr⟩ := bring4 hkd.1 hkd.2
      have HBR := Hid.mk' hbr
      clear hbr
      go_wp2_with fail
      refine (HBR.out _).mono ?_
      rintro e w5 ⟨rfl, hw5⟩
      obtain ⟨P1, L5, d0, d1, d2, d3, d4⟩ := q2_start hI.out hw5
      clear hw5 HBR g0 g1 g2 g3 g4
      have hcase : r = 0 ∨ r = 1 ∨ r = 2 ∨ r = 3 := by omega
      clear hr
      rcases hcase with rfl | rfl | rfl | rfl
      · go_wp2_with fail
        refine (q2_head nn P1.out (by omega)).mono ?_
        rintro e w6 ⟨rfl, h6⟩
        have P6 := Hid.mk' h6
        have t1 := h6.box d1
        clear h6
        go_wp2_with fail
        refine (q2_head nn P6.out.swap (by omega)).mono ?_
        rintro e w7 ⟨rfl, h7⟩
        have P7 : Hid (Q2 w5 (fun i => i < W.heap.size ∨ i = wr.heap.size) w7 p q (hB nn B) (mM B.length nn m) (hB nn B) (mM B.length nn m)) := h7.swap
        have hmv : mM B.length nn m ≤ m + 1 := mM_le _ _ _
        clear h7 P6 t1
        have P8 := Hid.mk' (Q2.less hI.out L5.out P7.out)
        obtain ⟨Bn, hBn⟩ : ∃ X, X = hB nn B := ⟨_, rfl⟩
        obtain ⟨mn, hmn⟩ : ∃ X, X = mM B.length nn m := ⟨_, rfl⟩
        rw [← hBn, ← hmn] at P8
        have hmv' : mn ≤ m + 1 := by rw [hmn]; exact hmv
        clear P7 P1 hI L5 d0 d1 d2 d3 d4 hBn hmn
        go_wp2_with fail
        refine (q2_moves P8.out).mono ?_
        rintro e w8 ⟨rfl, rfl⟩
        go_wp2_with fail
        refine (q2_moves P8.out.swap).mono ?_
        rintro e w8 ⟨rfl, rfl⟩
        go_wp2_with fail
        refine (q2_bytes P8.out).mono ?_
        rintro e w8 ⟨v8, rfl, ho8, b8⟩
        obtain ⟨a8, c8, rfl⟩ := own_slice ho8
        have P9 := Hid.mk' (P8.out.below b8)
        have X8 : Hid (Bs w8 a8 Bn) := bs_row ho8 P8.out.mvs.2 (by have := P8.out.mvs.1; omega)
        clear ho8 b8
        go_wp2_with fail
        refine (q2_bytes P9.out.swap).mono ?_
        rintro e w9 ⟨v9, rfl, ho9, b9⟩
        obtain ⟨a9, c9, rfl⟩ := own_slice ho9
        have P10 := Hid.mk' (P9.out.below b9)
        have X9 : Hid (Bs w9 a9 Bn) := bs_row ho9 P8.out.mvs.2 (by have := P8.out.mvs.1; omega)
        have X8' := Hid.mk' (X8.out.below b9)
        clear ho9 b9 X8
        have hlb : Bn.length ≤ 2048 := P8.out.mvs.1
        clear P8 P9
        go_wp2_with fail
        refine (eq_same a8 a9 _ _ _ Bn w9 rfl X8'.out X9.out).mono ?_
        rintro e w10 ⟨rfl, d10⟩
        have P11 := Hid.mk' (P10.out.dr d10)
        clear d10 X8' X9 P10
        go_wp2_with fail
        refine (q2_len P11.out).mono ?_
        rintro e w11 ⟨rfl, d11⟩
        have P12 := Hid.mk' (P11.out.dr d11)
        clear d11 P11
        go_wp2_with fail
        go_roundg (150 - (j + 1))
        case measure => omega
        case rel => exact ⟨j + 1, Bn, mn, by go_num, by omega, by omega, by omega, by omega, P12⟩
      · go_wp2_with fail
        refine (q2_tail nn P1.out (by omega)).mono ?_
        rintro e w6 ⟨rfl, h6⟩
        have P6 := Hid.mk' h6
        have t1 := h6.box d1
        clear h6
        go_wp2_with fail
        refine (q2_tail nn P6.out.swap (by omega)).mono ?_
        rintro e w7 ⟨rfl, h7⟩
        have P7 : Hid (Q2 w5 (fun i => i < W.heap.size ∨ i = wr.heap.size) w7 p q (tB nn B) (mM B.length nn m) (tB nn B) (mM B.length nn m)) := h7.swap
        have hmv : mM B.length nn m ≤ m + 1 := mM_le _ _ _
        clear h7 P6 t1
        have P8 := Hid.mk' (Q2.less hI.out L5.out P7.out)
        obtain ⟨Bn, hBn⟩ : ∃ X, X = tB nn B := ⟨_, rfl⟩
        obtain ⟨mn, hmn⟩ : ∃ X, X = mM B.length nn m := ⟨_, rfl⟩
        rw [← hBn, ← hmn] at P8
        have hmv' : mn ≤ m + 1 := by rw [hmn]; exact hmv
        clear P7 P1 hI L5 d0 d1 d2 d3 d4 hBn hmn
        go_wp2_with fail
        refine (q2_moves P8.out).mono ?_
        rintro e w8 ⟨rfl, rfl⟩
        go_wp2_with fail
        refine (q2_moves P8.out.swap).mono ?_
        rintro e w8 ⟨rfl, rfl⟩
        go_wp2_with fail
        refine (q2_bytes P8.out).mono ?_
        rintro e w8 ⟨v8, rfl, ho8, b8⟩
        obtain ⟨a8, c8, rfl⟩ := own_slice ho8
        have P9 := Hid.mk' (P8.out.below b8)
        have X8 : Hid (Bs w8 a8 Bn) := bs_row ho8 P8.out.mvs.2 (by have := P8.out.mvs.1; omega)
        clear ho8 b8
        go_wp2_with fail
        refine (q2_bytes P9.out.swap).mono ?_
        rintro e w9 ⟨v9, rfl, ho9, b9⟩
        obtain ⟨a9, c9, rfl⟩ := own_slice ho9
        have P10 := Hid.mk' (P9.out.below b9)
        have X9 : Hid (Bs w9 a9 Bn) := bs_row ho9 P8.out.mvs.2 (by have := P8.out.mvs.1; omega)
        have X8' := Hid.mk' (X8.out.below b9)
        clear ho9 b9 X8
        have hlb : Bn.length ≤ 2048 := P8.out.mvs.1
        clear P8 P9
        go_wp2_with fail
        refine (eq_same a8 a9 _ _ _ Bn w9 rfl X8'.out X9.out).mono ?_
        rintro e w10 ⟨rfl, d10⟩
        have P11 := Hid.mk' (P10.out.dr d10)
        clear d10 X8' X9 P10
        go_wp2_with fail
        refine (q2_len P11.out).mono ?_
        rintro e w11 ⟨rfl, d11⟩
        have P12 := Hid.mk' (P11.out.dr d11)
        clear d11 P11
        go_wp2_with fail
        go_roundg (150 - (j + 1))
        case measure => omega
        case rel => exact ⟨j + 1, Bn, mn, by go_num, by omega, by omega, by omega, by omega, P12⟩
      · go_wp2_with fail
        refine (q2_load xx kk P1.out hxx.1 hxx.2).mono ?_
        rintro e w6 ⟨rfl, d6⟩
        have P6 := Hid.mk' (P1.out.dr d6)
        have t2 := P6.out.box d2
        have t3 := P6.out.box d3
        clear d6
        go_wp2_with fail
        refine (q2_load xx kk P6.out.swap hxx.1 hxx.2).mono ?_
        rintro e w7 ⟨rfl, d7⟩
        have P7 : Hid (Q2 w5 (fun i => i < W.heap.size ∨ i = wr.heap.size) w7 p q B m B m) := P6.out.dr d7
        have hmv : m ≤ m + 1 := by omega
        clear d7 P6 t2 t3
        have P8 := Hid.mk' (Q2.less hI.out L5.out P7.out)
        obtain ⟨Bn, hBn⟩ : ∃ X, X = B := ⟨_, rfl⟩
        obtain ⟨mn, hmn⟩ : ∃ X, X = m := ⟨_, rfl⟩
        rw [← hBn, ← hmn] at P8
        have hmv' : mn ≤ m + 1 := by rw [hmn]; exact hmv
        clear P7 P1 hI L5 d0 d1 d2 d3 d4 hBn hmn
        go_wp2_with fail
        refine (q2_moves P8.out).mono ?_
        rintro e w8 ⟨rfl, rfl⟩
        go_wp2_with fail
        refine (q2_moves P8.out.swap).mono ?_
        rintro e w8 ⟨rfl, rfl⟩
        go_wp2_with fail
        refine (q2_bytes P8.out).mono ?_
        rintro e w8 ⟨v8, rfl, ho8, b8⟩
        obtain ⟨a8, c8, rfl⟩ := own_slice ho8
        have P9 := Hid.mk' (P8.out.below b8)
        have X8 : Hid (Bs w8 a8 Bn) := bs_row ho8 P8.out.mvs.2 (by have := P8.out.mvs.1; omega)
        clear ho8 b8
        go_wp2_with fail
        refine (q2_bytes P9.out.swap).mono ?_
        rintro e w9 ⟨v9, rfl, ho9, b9⟩
        obtain ⟨a9, c9, rfl⟩ := own_slice ho9
        have P10 := Hid.mk' (P9.out.below b9)
        have X9 : Hid (Bs w9 a9 Bn) := bs_row ho9 P8.out.mvs.2 (by have := P8.out.mvs.1; omega)
        have X8' := Hid.mk' (X8.out.below b9)
        clear ho9 b9 X8
        have hlb : Bn.length ≤ 2048 := P8.out.mvs.1
        clear P8 P9
        go_wp2_with fail
        refine (eq_same a8 a9 _ _ _ Bn w9 rfl X8'.out X9.out).mono ?_
        rintro e w10 ⟨rfl, d10⟩
        have P11 := Hid.mk' (P10.out.dr d10)
        clear d10 X8' X9 P10
        go_wp2_with fail
        refine (q2_len P11.out).mono ?_
        rintro e w11 ⟨rfl, d11⟩
        have P12 := Hid.mk' (P11.out.dr d11)
        clear d11 P11
        go_wp2_with fail
        go_roundg (150 - (j + 1))
        case measure => omega
        case rel => exact ⟨j + 1, Bn, mn, by go_num, by omega, by omega, by omega, by omega, P12⟩
      · go_wp2_with fail
        refine (q2_store xx kk vv P1.out hxx.1 hxx.2 hvv.1 hvv.2).mono ?_
        rintro e w6 ⟨rfl, h6⟩
        have P6 := Hid.mk' h6
        have t2 := h6.box d2
        have t3 := h6.box d3
        have t4 := h6.box d4
        clear h6
        go_wp2_with fail
        refine (q2_store xx kk vv P6.out.swap hxx.1 hxx.2 hvv.1 hvv.2).mono ?_
        rintro e w7 ⟨rfl, h7⟩
        have P7 : Hid (Q2 w5 (fun i => i < W.heap.size ∨ i = wr.heap.size) w7 p q (stE B xx kk vv) m (stE B xx kk vv) m) := h7.swap
        have hmv : m ≤ m + 1 := by omega
        clear h7 P6 t2 t3 t4
        have P8 := Hid.mk' (Q2.less hI.out L5.out P7.out)
        obtain ⟨Bn, hBn⟩ : ∃ X, X = stE B xx kk vv := ⟨_, rfl⟩
        obtain ⟨mn, hmn⟩ : ∃ X, X = m := ⟨_, rfl⟩
        rw [← hBn, ← hmn] at P8
        have hmv' : mn ≤ m + 1 := by rw [hmn]; exact hmv
        clear P7 P1 hI L5 d0 d1 d2 d3 d4 hBn hmn
        go_wp2_with fail
        refine (q2_moves P8.out).mono ?_
        rintro e w8 ⟨rfl, rfl⟩
        go_wp2_with fail
        refine (q2_moves P8.out.swap).mono ?_
        rintro e w8 ⟨rfl, rfl⟩
        go_wp2_with fail
        refine (q2_bytes P8.out).mono ?_
        rintro e w8 ⟨v8, rfl, ho8, b8⟩
        obtain ⟨a8, c8, rfl⟩ := own_slice ho8
        have P9 := Hid.mk' (P8.out.below b8)
        have X8 : Hid (Bs w8 a8 Bn) := bs_row ho8 P8.out.mvs.2 (by have := P8.out.mvs.1; omega)
        clear ho8 b8
        go_wp2_with fail
        refine (q2_bytes P9.out.swap).mono ?_
        rintro e w9 ⟨v9, rfl, ho9, b9⟩
        obtain ⟨a9, c9, rfl⟩ := own_slice ho9
        have P10 := Hid.mk' (P9.out.below b9)
        have X9 : Hid (Bs w9 a9 Bn) := bs_row ho9 P8.out.mvs.2 (by have := P8.out.mvs.1; omega)
        have X8' := Hid.mk' (X8.out.below b9)
        clear ho9 b9 X8
        have hlb : Bn.length ≤ 2048 := P8.out.mvs.1
        clear P8 P9
        go_wp2_with fail
        refine (eq_same a8 a9 _ _ _ Bn w9 rfl X8'.out X9.out).mono ?_
        rintro e w10 ⟨rfl, d10⟩
        have P11 := Hid.mk' (P10.out.dr d10)
        clear d10 X8' X9 P10
        go_wp2_with fail
        refine (q2_len P11.out).mono ?_
        rintro e w11 ⟨rfl, d11⟩
        have P12 := Hid.mk' (P11.out.dr d11)
        clear d11 P11
        go_wp2_with fail
        go_roundg (150 - (j + 1))
        case measure => omega
        case rel => exact ⟨j + 1, Bn, mn, by go_num, by omega, by omega, by omega, by omega, P12⟩
    · have B7 : Hid (Below W.heap.size W wr) := hI.out.old.below (Nat.le_refl _) (fun i hi e => e hi)
      clear hI
      go_wp2_with fail
      all_goals
        go_ret
        exact ⟨rfl, B7.out⟩

theorem walkPacketRoom (a0 : Option Addr) (c0 : Nat) (zs : List Int) (m1 : sh41.M) (a2 : Option Addr) (c2 : Nat) (xs : List sh38.M) (W : World) (h0 : Bs W a0 zs) (n0 : (a0 = none → c0 = 0) ∧ zs.length ≤ c0) (o1 : sh41.ok W m1)
    (o2 : SlOk sh38 W a2 c2 xs) (l2 : xs.length ≤ 140737488351232) (u0 : zs.length ≤ 140737488351232) :
    Calls Try.prog 4 #[.slice a0 zs.length c0, .agg (sh41.cs m1).toArray, .slice a2 xs.length c2] W fun e w' => e = .returned (.bool true) ∧ Below W.heap.size W w' :=
  room_walk a0 c0 zs m1.1 m1.2.1 m1.2.2.1 m1.2.2.2 a2 c2 xs W h0 n0 o2 l2 u0 (bounds_i64 o1.1) (bounds_i64 o1.2.1) (bounds_i64 o1.2.2.1) (bounds_i64 o1.2.2.2)
end Go.Proofs.Ytllhamcolinedaa
