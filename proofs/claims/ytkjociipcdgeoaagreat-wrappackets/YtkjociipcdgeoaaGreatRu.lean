/- The walk of WrapRoom. -/
import Derived.Test.YtkjociipcdgeoaaGreatRt
import Derived.Test.YtkjociipcdgeoaaGreatRk
import Derived.Test.YtkjociipcdgeoaaGreatQ2
namespace Go.Proofs.YtkjociipcdgeoaaGreat
open Go.ChangeShapes Go.WideShapes Go.ChangeAt Go.RowKit
set_option maxRecDepth 10000

theorem brg257 (r : Int) (w : World) (h0 : -9223372036854775808 ≤ r) (h1 : r ≤ 9223372036854775807) :
    Calls Tryz.prog 24 #[.int .i64 r, .int .i64 257] w fun e w' => e = .returned (.int .i64 (brg r 257)) ∧ w = w' := brg_any r 257 w (by omega) (by omega) h0 h1

theorem new_at (a : Option Addr) (c : Nat) (zs : List Int) (x y : Nat) (w : World) (hB : Bs w a zs) (h : zs.length ≤ 2048) (hx : x ≤ 256) (hy : y ≤ 256) :
    Calls Tryz.prog 23 #[.slice a zs.length c, .int .i64 x, .int .i64 y] w fun e w' => e = .returned (.tuple #[.pointer (some ⟨w.heap.size, 0, none⟩), .int .i64 0]) ∧ PkIs w' w.heap.size (w.heap.size + 1) (List.replicate x 0) zs (List.replicate y 0) 0 ∧ Below w.heap.size w w' := by
  refine new_ok a c zs x y w hB h hx hy (fun b hb => ?_)
  rcases hB.lies with h0 | ⟨b', off, e, hc⟩
  · exact .inr h0
  · by_cases h0 : zs.length = 0
    · exact .inr h0
    · rw [hb] at e; cases e
      exact .inl (lt_of_cell (hc 0 (by omega)))


/-- What is to be done, as it lies among what came in. -/
theorem do12 {W : World} {a : Option Addr} {c : Nat} {xs : List sh66.M} (h : SlOk sh66 W a c xs) (i : Nat) (hi : i < xs.length) :
    ∃ (b off : Nat) (o : Bool) (k : Int) (H : List Value), a = some ⟨b, off, none⟩ ∧ W.cell? ⟨b, off + i * 75, none⟩ = some (.bool o) ∧ W.cell? ⟨b, off + i * 75 + 1, none⟩ = some (.int .u8 k) ∧ W.rangeAt b (off + i * 75 + 2) H ∧ b < W.heap.size ∧ Hh H ∧ 0 ≤ k ∧ k ≤ 255 := by
  obtain ⟨_, h2, h3⟩ := h
  rcases h2 with h0 | ⟨b, off, rfl, hc⟩
  · exact absurd hi (by rw [show xs.length = 0 from h0]; omega)
  · have hx : xs[i]? = some xs[i] := List.getElem?_eq_getElem hi
    generalize xs[i] = m at hx
    obtain ⟨o, k, m⟩ := m
    have q := hc i (o, k, m) hx
    have c0 := q 0 (.bool o) rfl
    have ok := h3 (o, k, m) (List.mem_of_getElem? hx)
    refine ⟨b, off, o, k, sh41.cs m, rfl, c0, q 1 (.int .u8 k) rfl, fun j v hv => ?_, lt_of_cell c0, whh_open W m ok.2.2, (bounds_u8 ok.2.1).1, (bounds_u8 ok.2.1).2⟩
    have := q (j + 2) v hv
    rw [show off + i * 75 + 2 + j = off + i * 75 + (j + 2) by omega]
    exact this

theorem q2_on {W : World} {S : Nat → Prop} {w : World} {p q : Nat} {B B' : List Int} {m m' : Nat} (H : List Value) (h : Q2 W S w p q B m B' m') (hH : Hh H) (hm : m + 1 ≤ 100000) :
    Calls Tryz.prog 26 #[.pointer (some ⟨p, 0, none⟩), .agg H.toArray] w fun e w' => e = .returned (.int .i64 (puE H B)) ∧ Q2 W S w' p q (onB H B) (onM H B m) B' m' := by
  obtain ⟨g, A, D, g', A', D', h1, h2, h3, h4, h5⟩ := h.is
  exact (on_any p g A B D m H w h1 hH hm).mono fun e w' ⟨k1, g2, A2, D2, k2, k5, k6⟩ => ⟨k1, Q2.left h2 h3 h4 h5 h.low h.old h1 k2 k5 k6⟩
theorem q2_off {W : World} {S : Nat → Prop} {w : World} {p q : Nat} {B B' : List Int} {m m' : Nat} (k : Int) (h : Q2 W S w p q B m B' m') (k0 : 0 ≤ k) (k1 : k ≤ 255) (hm : m + 1 ≤ 100000) :
    Calls Tryz.prog 25 #[.pointer (some ⟨p, 0, none⟩), .int .u8 k] w fun e w' => e = .returned (.tuple #[.agg (poH k B).toArray, .int .i64 (poE k B)]) ∧ Q2 W S w' p q (ofB k B) (ofM k B m) B' m' := by
  obtain ⟨g, A, D, g', A', D', h1, h2, h3, h4, h5⟩ := h.is
  exact (off_any p g A B D m k w h1 k0 k1 hm).mono fun e w' ⟨k1, g2, A2, D2, k2, k5, k6⟩ => ⟨k1, Q2.left h2 h3 h4 h5 h.low h.old h1 k2 k5 k6⟩
theorem onM_le (H : List Value) (B : List Int) (m : Nat) : onM H B m ≤ m + 1 := by unfold onM; split <;> omega
theorem ofM_le (k : Int) (B : List Int) (m : Nat) : ofM k B m ≤ m + 1 := by unfold ofM; split <;> omega
theorem same_bytes (a b : Option Addr) (n c d : Nat) (zs : List Int) (w : World) (hn : zs.length = n) (hx : Bs w a zs) (hy : Bs w b zs) :
    Calls Tryz.prog 16 #[.slice a n c, .slice b n d] w fun e w' => e = .returned (.bool true) ∧ Dr w w' := by
  have := eq_at a b n n c d zs zs w hn hn hx hy
  rwa [show decide (zs = zs) = true by simp] at this

set_option maxHeartbeats 4000000 in
set_option maxRecDepth 100000 in
theorem wroom_walk (a0 : Option Addr) (c0 : Nat) (zs : List Int) (r0 r1 r2 r3 : Int) (a1 : Option Addr) (c1 : Nat) (xs : List sh66.M) (W : World) (h0 : Bs W a0 zs) (n0 : (a0 = none → c0 = 0) ∧ zs.length ≤ c0) (o1 : SlOk sh66 W a1 c1 xs) (l1 : xs.length ≤ 140737488351232) (hbig : zs.length ≤ 140737488351232)
    (w0 : -9223372036854775808 ≤ r0 ∧ r0 ≤ 9223372036854775807) (w1 : -9223372036854775808 ≤ r1 ∧ r1 ≤ 9223372036854775807) (w2 : -9223372036854775808 ≤ r2 ∧ r2 ≤ 9223372036854775807) (w3 : -9223372036854775808 ≤ r3 ∧ r3 ≤ 9223372036854775807) :
    Calls Tryz.prog 8 #[.slice a0 zs.length c0, .agg #[.int .i64 r0, .int .i64 r1, .int .i64 r2, .int .i64 r3], .slice a1 xs.length c1] W fun e w' => e = .returned (.bool true) ∧ Below W.heap.size W w' := by
  have HB := Hid.mk' h0
  have hcap := n0.2
  have HO := Hid.mk' o1
  clear h0 n0 o1
  obtain ⟨n, hn⟩ : ∃ n, n = zs.length := ⟨_, rfl⟩
  obtain ⟨ln, hln⟩ : ∃ n, n = xs.length := ⟨_, rfl⟩
  rw [← hn] at hbig hcap ⊢
  rw [← hln] at l1 ⊢
  have HN := Hid.mk' hn.symm
  have HLN := Hid.mk' hln.symm
  clear hn hln
  have HL0 : Hid (Below W.heap.size W (W.alloc (.cells #[.int .i64 r0, .int .i64 r1, .int .i64 r2, .int .i64 r3] 74))) := (Below.refl _ _).alloc (Nat.le_refl _) _
  go_enter Tryz.func8, Tryz.ntmps8
  go_wp2_with fail
  refine (wawake _).mono ?_
  rintro e w4 ⟨rfl, b4⟩
  have hsz : W.heap.size < w4.heap.size := by have := b4.size; simp at this; omega
  have e0 : w4.cell? ⟨W.heap.size, 0, none⟩ = some (.int .i64 r0) := by rw [b4.cell (by simp)]; simp
  have e1 : w4.cell? ⟨W.heap.size, 1, none⟩ = some (.int .i64 r1) := by rw [b4.cell (by simp)]; simp
  have e2 : w4.cell? ⟨W.heap.size, 2, none⟩ = some (.int .i64 r2) := by rw [b4.cell (by simp)]; simp
  have e3 : w4.cell? ⟨W.heap.size, 3, none⟩ = some (.int .i64 r3) := by rw [b4.cell (by simp)]; simp
  have B4 : Hid (Below W.heap.size W w4) := HL0.out.trans (b4.mono (by simp))
  clear b4 HL0
  go_upto_if 20 with fail
  go_cut [0] from 21 (fun s0 wx => ∃ (nn : Nat) (ys : List Int), s0 = .slice a0 nn c0 ∧ nn ≤ 2048 ∧ Hid (ys.length = nn) ∧ Hid (Bs W a0 ys) ∧ w4 = wx)
  case first =>
    by_cases hlong : 2048 < n
    · have hc0 : ¬ c0 = 0 := by omega
      obtain ⟨ad, rfl⟩ : ∃ ad, a0 = some ad := by
        rcases HB.out.lies with h | ⟨b, off, e, _⟩
        · have := HN.out; omega
        · exact ⟨_, e⟩
      have HT := Hid.mk' (HB.out.take 2048 (by rw [HN.out]; omega))
      have HTL : Hid ((zs.take 2048).length = 2048) := Hid.mk' (by rw [List.length_take, HN.out]; omega)
      go_wp2_with fail
      go_meet
      exact ⟨2048, zs.take 2048, by simp, by omega, HTL, HT, rfl⟩
    · go_wp2_with fail
      go_meet
      exact ⟨n, zs, rfl, by omega, HN, HB, rfl⟩
  case rest =>
  obtain ⟨nb, ys, rfl, hnb, HYL, HYB, rfl⟩ := hcut
  clear HB HN hbig hcap
  have k0 := brg_lt r0 257 (by omega)
  have k1 := brg_lt r1 257 (by omega)
  have k2 := brg_lt r2 257 (by omega)
  have k3 := brg_lt r3 257 (by omega)
  have c_0 := fun u => brg257 r0 u w0.1 w0.2
  have c_1 := fun u => brg257 r1 u w1.1 w1.2
  have c_2 := fun u => brg257 r2 u w2.1 w2.2
  have c_3 := fun u => brg257 r3 u w3.1 w3.2
  generalize brg r0 257 = x0 at *
  generalize brg r1 257 = x1 at *
  generalize brg r2 257 = x2 at *
  generalize brg r3 257 = x3 at *
  have hnew := fun (x y : Nat) (u : World) (hx : x ≤ 256) (hy : y ≤ 256) (hu : Bs u a0 ys) => new_at a0 c0 ys x y u hu (by rw [HYL.out]; exact hnb) hx hy
  rw [HYL.out] at hnew
  have NEW := Hid.mk' hnew
  clear hnew
  have BY4 := Hid.mk' (HYB.out.below B4.out)
  go_wp2_with fail
  go_region_held3 (fun w' => w'.cell? ⟨W.heap.size, 0, none⟩ = some (.int .i64 r0) ∧ w'.cell? ⟨W.heap.size, 1, none⟩ = some (.int .i64 r1)) (go_keep) (first | (go_at_call_of 24 (Value.int .i64 r0); refine (c_0 _).mono ?_; rintro e w5 ⟨rfl, rfl⟩) | (go_at_call_of 24 (Value.int .i64 r1); refine (c_1 _).mono ?_; rintro e w5 ⟨rfl, rfl⟩) | (go_at_call 23; refine (NEW.out x0 x1 _ (by omega) (by omega) (BY4.out.below ((Below.refl _ _).drew))).mono ?_; rintro e w5 ⟨rfl, h5, b5⟩; have P5 := Hid.mk' h5; have b5 := ((Below.refl w4.heap.size w4).drew).trans b5; have L5 := Hid.mk' b5; have s2 := (b5.cell (p := ⟨W.heap.size, 2, none⟩) hsz).trans e2; have s3 := (b5.cell (p := ⟨W.heap.size, 3, none⟩) hsz).trans e3; have s0 := (b5.cell (p := ⟨W.heap.size, 0, none⟩) hsz).trans e0; have s1 := (b5.cell (p := ⟨W.heap.size, 1, none⟩) hsz).trans e1; clear h5 b5))
  have BY5 := Hid.mk' (BY4.out.below L5.out)
  have hsz5 : W.heap.size < w5.heap.size := by have := L5.out.size; omega
  clear e0 e1 e2 e3 s0 s1
  go_wp2_with fail
  go_region_held3 (fun w' => w'.cell? ⟨W.heap.size, 2, none⟩ = some (.int .i64 r2) ∧ w'.cell? ⟨W.heap.size, 3, none⟩ = some (.int .i64 r3)) (go_keep) (first | (go_at_call_of 24 (Value.int .i64 r2); refine (c_2 _).mono ?_; rintro e w6 ⟨rfl, rfl⟩) | (go_at_call_of 24 (Value.int .i64 r3); refine (c_3 _).mono ?_; rintro e w6 ⟨rfl, rfl⟩) | (go_at_call 23; refine (NEW.out x2 x3 _ (by omega) (by omega) (BY5.out.below ((Below.refl _ _).drew))).mono ?_; rintro e w6 ⟨rfl, h6, b6⟩; have P6 := Hid.mk' h6; have b6 := ((Below.refl w5.heap.size w5).drew).trans b6; have L6 := Hid.mk' b6; have t2 := (b6.cell (p := ⟨W.heap.size, 2, none⟩) hsz5).trans s2; have t3 := (b6.cell (p := ⟨W.heap.size, 3, none⟩) hsz5).trans s3; clear h6 b6))
  have hq : w4.heap.size + 1 < w5.heap.size := P5.out.glt
  have HI : Hid (Q2 W (fun i => i < W.heap.size) w6 w4.heap.size w5.heap.size ys 0 ys 0) := by
    refine ⟨⟨_, _, _, _, _, _, P5.out.below L6.out, P6.out, fun k hk hk' => ?_, fun k hk e => ?_, fun k hk e => ?_⟩, fun k hk => hk, ?_⟩
    · have a1 : k = w4.heap.size ∨ k = w4.heap.size + 1 := hk
      have a2 : k = w5.heap.size ∨ k = w5.heap.size + 1 := hk'
      omega
    · have a1 : k = w4.heap.size ∨ k = w4.heap.size + 1 := hk
      omega
    · have a1 : k = w5.heap.size ∨ k = w5.heap.size + 1 := hk
      omega
    · exact Kept.of_below (B4.out.trans ((L5.out.mono (by omega)).trans (L6.out.mono (by omega))))
  clear P5 P6 L5 L6 BY4 BY5 NEW c_0 c_1 c_2 c_3 B4 HYB s2 s3 t2 t3 hq
  generalize w4.heap.size = p at *
  generalize w5.heap.size = q at *
  go_wp2_with fail
  go_loopg [11] 20 (fun f s11 wr => ∃ (j : Nat) (B : List Int) (m : Nat), s11 = .int .i64 j ∧ j ≤ 20 ∧ j ≤ ln ∧ 20 - j ≤ f ∧ m ≤ j ∧ Hid (Q2 W (fun i => i < W.heap.size) wr p q B m B m))
  case atStart => exact ⟨0, ys, 0, rfl, by omega, by omega, by omega, by omega, HI⟩
  case round =>
    clear HI
    obtain ⟨j, B, m, rfl, hj1, hj2, hf2, hm, hI⟩ := hrel
    by_cases hlt2 : j < ln ∧ j < 20
    · obtain ⟨hlt3, hlt4⟩ := hlt2
      have hsp : (j : Int) < (ln : Int) := by omega
      have hsp2 : (j : Int) < 20 := by omega
      obtain ⟨b, off, o, kd, H, ha, q0, q1, q2, hbl, hH, hk0, hk1⟩ := do12 HO.out j (by rw [HLN.out]; exact hlt3)
      subst ha
      have G1 : Hid (∀ u, Kept (fun i => ¬ i < W.heap.size) W u → u.cell? ⟨b, off + j * 75 + 1, none⟩ = some (.int .u8 kd)) := Hid.mk' (fun u hu => hu.cell q1 (fun e => e hbl))
      have G2 : Hid (∀ u, Kept (fun i => ¬ i < W.heap.size) W u → u.rangeAt b (off + j * 75 + 2) H) := Hid.mk' (fun u hu i v hv => hu.cell (q2 i v hv) (fun e => e hbl))
      have HH := Hid.mk' hH
      have hh73 := Hid.mk' (hh_len hH)
      have g0 := hI.out.old.cell q0 (fun e => e hbl)
      clear q0 q1 q2 hbl hH
      go_upto_if 65 with fail
      go_cut [12, 13, 14, 15] from 66 (fun s12 s13 s14 s15 wx => ∃ (Bn : List Int) (mn : Nat) (w8 : World), mn ≤ m + 1 ∧ Hid (Q2 W (fun i => i < W.heap.size) w8 p q Bn mn Bn mn) ∧ w8 = wx)
      case first =>
        cases o with
        | true =>
          have d1 := G1.out _ hI.out.old
          have hbb := hI.out.mvs.2
          have KM := Hid.mk' (poH_hh (k := kd) hbb)
          have HOFF : Hid (∀ (V : World) (S : Nat → Prop) (u : World) (p q : Nat) (B' : List Int) (m' : Nat), Q2 V S u p q B m B' m' → Calls Tryz.prog 25 #[.pointer (some ⟨p, 0, none⟩), .int .u8 kd] u fun e w' => e = .returned (.tuple #[.agg (poH kd B).toArray, .int .i64 (poE kd B)]) ∧ Q2 V S w' p q (ofB kd B) (ofM kd B m) B' m') := Hid.mk' (fun V S u p q B' m' h => q2_off kd h hk0 hk1 (by omega))
          have hmn := ofM_le kd B m
          obtain ⟨M, HM⟩ : ∃ M, Hid (poH kd B = M) := ⟨_, rfl⟩
          obtain ⟨E, HE⟩ : ∃ E, Hid (poE kd B = E) := ⟨_, rfl⟩
          obtain ⟨Bn, HBn⟩ : ∃ Bn, Hid (ofB kd B = Bn) := ⟨_, rfl⟩
          obtain ⟨mn, Hmn⟩ : ∃ mn, Hid (ofM kd B m = mn) := ⟨_, rfl⟩
          rw [HM.out, HE.out, HBn.out, Hmn.out] at HOFF
          rw [HM.out] at KM
          rw [Hmn.out] at hmn
          have hm73 := Hid.mk' (hh_len KM.out)
          have hm1 := Hid.mk' (hh_one KM.out)
          have hneq := neq_same (t := 41) (L := M) (hh_eq KM.out)
          clear HM HE HBn Hmn hbb KM G2
          go_wp2_with fail
          refine (HOFF.out _ _ _ p q B m hI.out).mono ?_
          rintro e w5 ⟨rfl, h5⟩
          have b6 : Below w5.heap.size w5 (w5.alloc (.cells M.toArray 41)) := (Below.refl _ _).alloc (Nat.le_refl _) _
          have P5 := Hid.mk' h5
          have P6 := Hid.mk' (Q2.more h5 b6 (fun i => i = w5.heap.size) (fun i hi => by subst hi; simp))
          have X6 : Hid ((w5.alloc (.cells M.toArray 41)).heap[w5.heap.size]? = some (.cells M.toArray 41 (0, 0))) := Hid.mk' (heap_alloc_new w5 _)
          have d6 := G1.out _ (h5.below b6).old
          have B6 := Hid.mk' b6
          clear h5 b6 hI d1 G1
          go_upto_region 14 with (first | refine wpList_store_new rfl 41 _ _ rfl _ hz M (by rfl) (by rfl) (by rw [hm73.out, hz_len]) (by rw [hm73.out]; exact info_hh) hm1.out ?_)
          generalize (w5.alloc (.cells M.toArray 41)) = w6 at P6 X6 d6 B6 ⊢
          go_wp2_with fail
          refine (HOFF.out _ _ _ q p Bn mn P6.out.swap).mono ?_
          rintro e w7 ⟨rfl, h7⟩
          have X7 : Hid (w7.heap[w5.heap.size]? = some (.cells M.toArray 41 (0, 0))) := Hid.mk' ((h7.old.block _ (Array.getElem?_eq_some_iff.1 X6.out).1 (fun e => e (.inr rfl))).trans X6.out)
          have P7 : Hid (Q2 W (fun i => i < W.heap.size) w7 p q Bn mn Bn mn) := Hid.mk' (Q2.less P5.out B6.out h7.swap)
          have b8 : Below w7.heap.size w7 (w7.alloc (.cells M.toArray 41)) := (Below.refl _ _).alloc (Nat.le_refl _) _
          have P8 := Hid.mk' (P7.out.below b8)
          have X8 : Hid ((w7.alloc (.cells M.toArray 41)).heap[w5.heap.size]? = some (.cells M.toArray 41 (0, 0))) := Hid.mk' ((b8.block _ (Array.getElem?_eq_some_iff.1 X7.out).1).trans X7.out)
          have Y8 : Hid ((w7.alloc (.cells M.toArray 41)).heap[w7.heap.size]? = some (.cells M.toArray 41 (0, 0))) := Hid.mk' (heap_alloc_new w7 _)
          clear h7 b8 P7 X7 P6 X6 d6 B6 P5 HOFF
          go_upto_region 15 with (first | refine wpList_store_new rfl 41 _ _ rfl _ hz M (by rfl) (by rfl) (by rw [hm73.out, hz_len]) (by rw [hm73.out]; exact info_hh) hm1.out ?_)
          generalize (w7.alloc (.cells M.toArray 41)) = w8 at P8 X8 Y8 ⊢
          generalize w5.heap.size = r5 at X8 ⊢
          generalize w7.heap.size = r7 at Y8 ⊢
          go_wp2_with (first
            | refine wpList_load_mid rfl 41 _ rfl r5 0 rfl M _ (range_block X8.out) Tryz.underlying41 rfl (by rw [hm73.out]; exact info_hh) ?_
            | refine wpList_load_mid rfl 41 _ rfl r7 0 rfl M _ (range_block Y8.out) Tryz.underlying41 rfl (by rw [hm73.out]; exact info_hh) ?_)
          go_meet
          exact ⟨Bn, mn, w8, hmn, P8, rfl⟩
        | false =>
          have HON : Hid (∀ (V : World) (S : Nat → Prop) (u : World) (p q : Nat) (B' : List Int) (m' : Nat), Q2 V S u p q B m B' m' → Calls Tryz.prog 26 #[.pointer (some ⟨p, 0, none⟩), .agg H.toArray] u fun e w' => e = .returned (.int .i64 (puE H B)) ∧ Q2 V S w' p q (onB H B) (onM H B m) B' m') := Hid.mk' (fun V S u p q B' m' h => q2_on H h HH.out (by omega))
          have hmn := onM_le H B m
          obtain ⟨E, HE⟩ : ∃ E, Hid (puE H B = E) := ⟨_, rfl⟩
          obtain ⟨Bn, HBn⟩ : ∃ Bn, Hid (onB H B = Bn) := ⟨_, rfl⟩
          obtain ⟨mn, Hmn⟩ : ∃ mn, Hid (onM H B m = mn) := ⟨_, rfl⟩
          rw [HE.out, HBn.out, Hmn.out] at HON
          rw [Hmn.out] at hmn
          clear HE HBn Hmn G1
          have hsl : (j : Int) < (ln : Int) := hsp
          go_upto_region 17 with fail
          have HD0 : Hid (Q2 W (fun i => i < W.heap.size) wr.drew p q B m B m) := Hid.mk' (hI.out.below ((Below.refl _ _).drew))
          refine wp_region_held_drew (S := fun u => Kept (fun i => ¬ i < W.heap.size) W u) (by kernel_rfl) HD0.out.old (fun hHeld => ?_)
          change wpAnyH _ _ _ _ _ 15 #[false, false, false, false, false, false, false, false, false, false, false, false, false, false, false] _ _
          refine held_take 0 94 (.pointer (some ⟨p, 0, none⟩)) rfl rfl (by kernel_rfl) (by kernel_rfl) (by kernel_rfl) (fun _ _ _ h => h) (Or.inl ⟨by rfl, fun u hu => ?_⟩) hHeld ?_
          · go_simp
          simp only [Act.put, List.setIfInBounds_toArray, List.set_cons_zero, List.set_cons_succ]
          refine held_take 1 95 (.slice (some ⟨b, off, none⟩) ln c1) rfl rfl (by kernel_rfl) (by kernel_rfl) (by kernel_rfl) (fun _ _ _ h => h) (Or.inl ⟨by rfl, fun u hu => ?_⟩) hHeld ?_
          · go_simp
          simp only [Act.put, List.setIfInBounds_toArray, List.set_cons_zero, List.set_cons_succ]
          refine held_take 2 96 (.int .i64 j) rfl rfl (by kernel_rfl) (by kernel_rfl) (by kernel_rfl) (fun _ _ _ h => h) (Or.inl ⟨by rfl, fun u hu => ?_⟩) hHeld ?_
          · go_simp
          simp only [Act.put, List.setIfInBounds_toArray, List.set_cons_zero, List.set_cons_succ]
          refine held_take 3 97 (.pointer (some ⟨b, off + j * 75, none⟩)) rfl rfl (by kernel_rfl) (by kernel_rfl) (by kernel_rfl) (fun _ _ _ h => h) (Or.inl ⟨by rfl, fun u hu => ?_⟩) hHeld ?_
          · go_simp
          simp only [Act.put, List.setIfInBounds_toArray, List.set_cons_zero, List.set_cons_succ]
          refine held_take 4 98 (.pointer (some ⟨b, off + j * 75 + 2, none⟩)) rfl rfl (by kernel_rfl) (by kernel_rfl) (by kernel_rfl) (fun _ _ _ h => h) (Or.inl ⟨by rfl, fun u hu => ?_⟩) hHeld ?_
          · go_simp
          simp only [Act.put, List.setIfInBounds_toArray, List.set_cons_zero, List.set_cons_succ]
          refine held_take 5 99 (.agg H.toArray) rfl rfl (by kernel_rfl) (by kernel_rfl) (by kernel_rfl) (fun _ _ _ h => h) (yieldsIf_load_mid (by rfl) 41 _ rfl b (off + j * 75 + 2) (by rfl) H _ (fun u hu => G2.out u hu) Tryz.underlying41 rfl (by rw [hh73.out]; exact info_hh)) hHeld ?_
          simp only [Act.put, List.setIfInBounds_toArray, List.set_cons_zero, List.set_cons_succ]
          refine held_take 7 101 (.pointer (some ⟨q, 0, none⟩)) rfl rfl (by kernel_rfl) (by kernel_rfl) (by kernel_rfl) (fun _ _ _ h => h) (Or.inl ⟨by rfl, fun u hu => ?_⟩) hHeld ?_
          · go_simp
          simp only [Act.put, List.setIfInBounds_toArray, List.set_cons_zero, List.set_cons_succ]
          refine held_take 8 102 (.slice (some ⟨b, off, none⟩) ln c1) rfl rfl (by kernel_rfl) (by kernel_rfl) (by kernel_rfl) (fun _ _ _ h => h) (Or.inl ⟨by rfl, fun u hu => ?_⟩) hHeld ?_
          · go_simp
          simp only [Act.put, List.setIfInBounds_toArray, List.set_cons_zero, List.set_cons_succ]
          refine held_take 9 103 (.int .i64 j) rfl rfl (by kernel_rfl) (by kernel_rfl) (by kernel_rfl) (fun _ _ _ h => h) (Or.inl ⟨by rfl, fun u hu => ?_⟩) hHeld ?_
          · go_simp
          simp only [Act.put, List.setIfInBounds_toArray, List.set_cons_zero, List.set_cons_succ]
          refine held_take 10 104 (.pointer (some ⟨b, off + j * 75, none⟩)) rfl rfl (by kernel_rfl) (by kernel_rfl) (by kernel_rfl) (fun _ _ _ h => h) (Or.inl ⟨by rfl, fun u hu => ?_⟩) hHeld ?_
          · go_simp
          simp only [Act.put, List.setIfInBounds_toArray, List.set_cons_zero, List.set_cons_succ]
          refine held_take 11 105 (.pointer (some ⟨b, off + j * 75 + 2, none⟩)) rfl rfl (by kernel_rfl) (by kernel_rfl) (by kernel_rfl) (fun _ _ _ h => h) (Or.inl ⟨by rfl, fun u hu => ?_⟩) hHeld ?_
          · go_simp
          simp only [Act.put, List.setIfInBounds_toArray, List.set_cons_zero, List.set_cons_succ]
          refine held_take 12 106 (.agg H.toArray) rfl rfl (by kernel_rfl) (by kernel_rfl) (by kernel_rfl) (fun _ _ _ h => h) (yieldsIf_load_mid (by rfl) 41 _ rfl b (off + j * 75 + 2) (by rfl) H _ (fun u hu => G2.out u hu) Tryz.underlying41 rfl (by rw [hh73.out]; exact info_hh)) hHeld ?_
          simp only [Act.put, List.setIfInBounds_toArray, List.set_cons_zero, List.set_cons_succ]
          refine held_one 6 (by kernel_rfl) rfl (fun K hK => ?_)
          go_simp
          go_wp2_with (refine (HON.out _ _ _ p q B m HD0.out).mono ?_; rintro e w5 ⟨rfl, h5⟩)
          have P5 := Hid.mk' h5
          refine hK.out _ _ h5.old (fun hHeld => ?_)
          clear hK K h5
          try simp only [List.setIfInBounds_toArray, List.set_cons_zero, List.set_cons_succ]
          refine held_one 13 (by kernel_rfl) rfl (fun K hK => ?_)
          go_simp
          go_wp2_with (refine (HON.out _ _ _ q p Bn mn P5.out.swap).mono ?_; rintro e w6 ⟨rfl, h6⟩)
          have P6 := Hid.mk' h6.swap
          refine hK.out _ _ h6.old (fun hHeld => ?_)
          clear hK K h6
          try simp only [List.setIfInBounds_toArray, List.set_cons_zero, List.set_cons_succ]
          refine held_take 14 108 (.bool false) rfl rfl (by kernel_rfl) (by kernel_rfl) (by kernel_rfl) (fun _ _ _ h => h) (Or.inl ⟨by rfl, fun u hu => ?_⟩) hHeld ?_
          · go_simp
          simp only [Act.put, List.setIfInBounds_toArray, List.set_cons_zero, List.set_cons_succ]
          refine wpAnyH_done (by kernel_rfl) ?_ _
          clear hHeld P5 HD0 HON
          go_wp2_with fail
          go_meet
          exact ⟨Bn, mn, w6, hmn, P6, rfl⟩
      case rest =>
      obtain ⟨Bn, mn, w8, hmn, P8, rfl⟩ := hcut
      clear hI G1 G2 HH hh73 g0
      go_wp2_with fail
      refine (q2_bytes P8.out).mono ?_
      rintro e w9 ⟨v9, rfl, ho9, b9⟩
      obtain ⟨a9, c9, rfl⟩ := own_slice ho9
      have P9 := Hid.mk' (P8.out.below b9)
      have hlb := P8.out.mvs.1
      have HBB := Hid.mk' P8.out.mvs.2
      have X9 : Hid (Bs w9 a9 Bn) := Hid.mk' (bs_ro ho9 rfl HBB.out (by omega))
      clear ho9 b9 P8
      go_wp2_with fail
      refine (q2_bytes P9.out.swap).mono ?_
      rintro e w10 ⟨v10, rfl, ho10, b10⟩
      obtain ⟨a10, c10, rfl⟩ := own_slice ho10
      have P10 := Hid.mk' (P9.out.below b10)
      have X10 : Hid (Bs w10 a10 Bn) := Hid.mk' (bs_ro ho10 rfl HBB.out (by omega))
      have X9' := Hid.mk' (X9.out.below b10)
      clear ho10 b10 X9 P9
      go_wp2_with fail
      refine (same_bytes a9 a10 _ _ _ Bn w10 rfl X9'.out X10.out).mono ?_
      rintro e w11 ⟨rfl, d11⟩
      have P11 := Hid.mk' (P10.out.dr d11)
      clear d11 X9' X10 P10
      go_wp2_with fail
      refine (q2_moves P11.out).mono ?_
      rintro e w12 ⟨rfl, rfl⟩
      go_wp2_with fail
      refine (q2_moves P11.out.swap).mono ?_
      rintro e w12 ⟨rfl, rfl⟩
      go_wp2_with fail
      go_roundg (20 - (j + 1))
      case measure => omega
      case rel => exact ⟨j + 1, Bn, mn, by go_num, by omega, by omega, by omega, by omega, P11⟩
    · have B7 : Hid (Below W.heap.size W wr) := hI.out.old.below (Nat.le_refl _) (fun i hi e => e hi)
      clear hI
      go_wp2_with fail
      all_goals
        go_ret
        exact ⟨rfl, B7.out⟩

theorem walkWrapRoom (a0 : Option Addr) (c0 : Nat) (zs : List Int) (m1 : sh74.M) (a2 : Option Addr) (c2 : Nat) (xs : List sh66.M) (W : World) (h0 : Bs W a0 zs) (n0 : (a0 = none → c0 = 0) ∧ zs.length ≤ c0) (o1 : sh74.ok W m1)
    (o2 : SlOk sh66 W a2 c2 xs) (l2 : xs.length ≤ 140737488351232) (u0 : zs.length ≤ 140737488351232) :
    Calls Tryz.prog 8 #[.slice a0 zs.length c0, .agg (sh74.cs m1).toArray, .slice a2 xs.length c2] W fun e w' => e = .returned (.bool true) ∧ Below W.heap.size W w' :=
  wroom_walk a0 c0 zs m1.1 m1.2.1 m1.2.2.1 m1.2.2.2 a2 c2 xs W h0 n0 o2 l2 u0 (bounds_i64 o1.1) (bounds_i64 o1.2.1) (bounds_i64 o1.2.2.1) (bounds_i64 o1.2.2.2)
end Go.Proofs.YtkjociipcdgeoaaGreat
