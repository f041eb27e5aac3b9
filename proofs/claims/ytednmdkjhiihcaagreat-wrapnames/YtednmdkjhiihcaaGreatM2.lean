/- Several texts in one (Ru Rv Zo). -/
import Derived.Test.YtednmdkjhiihcaaGreatRt
import Derived.Test.YtednmdkjhiihcaaGreatRk
import Derived.Test.YtednmdkjhiihcaaGreatQ2
import Derived.Test.YtednmdkjhiihcaaGreatSq
import Derived.Test.YtednmdkjhiihcaaGreatRa
import Derived.Test.YtednmdkjhiihcaaGreatGd
import Derived.Great.BuildSlice
import Derived.Great.Walk
import Derived.Laws.Tables
namespace Go.Proofs.YtednmdkjhiihcaaGreat
open Go.ChangeShapes Go.WideShapes Go.ChangeAt Go.RowKit

set_option maxRecDepth 10000

theorem brg257 (r : Int) (w : World) (h0 : -9223372036854775808 ≤ r) (h1 : r ≤ 9223372036854775807) :
    Calls Tryz.prog 42 #[.int .i64 r, .int .i64 257] w fun e w' => e = .returned (.int .i64 (brg r 257)) ∧ w = w' := brg_any r 257 w (by omega) (by omega) h0 h1

theorem new_at (a : Option Addr) (c : Nat) (zs : List Int) (x y : Nat) (w : World) (hB : Bs w a zs) (h : zs.length ≤ 2048) (hx : x ≤ 256) (hy : y ≤ 256) :
    Calls Tryz.prog 21 #[.slice a zs.length c, .int .i64 x, .int .i64 y] w fun e w' => e = .returned (.tuple #[.pointer (some ⟨w.heap.size, 0, none⟩), .int .i64 0]) ∧ PkIs w' w.heap.size (w.heap.size + 1) (List.replicate x 0) zs (List.replicate y 0) 0 ∧ Below w.heap.size w w' := by
  refine new_ok a c zs x y w hB h hx hy (fun b hb => ?_)
  rcases hB.lies with h0 | ⟨b', off, e, hc⟩
  · exact .inr h0
  · by_cases h0 : zs.length = 0
    · exact .inr h0
    · rw [hb] at e; cases e
      exact .inl (lt_of_cell (hc 0 (by omega)))

/-- What is to be done, as it lies among what came in. -/
theorem do12 {W : World} {a : Option Addr} {c : Nat} {xs : List sh70.M} (h : SlOk sh70 W a c xs) (i : Nat) (hi : i < xs.length) :
    ∃ (b off : Nat) (o : Bool) (k : Int) (H : List Value), a = some ⟨b, off, none⟩ ∧ W.cell? ⟨b, off + i * 75, none⟩ = some (.bool o) ∧ W.cell? ⟨b, off + i * 75 + 1, none⟩ = some (.int .u8 k) ∧ W.rangeAt b (off + i * 75 + 2) H ∧ b < W.heap.size ∧ Hh H ∧ 0 ≤ k ∧ k ≤ 255 := by
  obtain ⟨_, h2, h3⟩ := h
  rcases h2 with h0 | ⟨b, off, rfl, hc⟩
  · exact absurd hi (by rw [show xs.length = 0 from h0]; omega)
  · have hx : xs[i]? = some xs[i] := List.getElem?_eq_getElem hi
    generalize xs[i] = m at hx
    obtain ⟨o, k, m⟩ := m
    have q := hc i (o, k, m) hx
    have c0 := q 0 (.bool o) rfl
    have ok := h3 (o, k, m) (List.mem_of_getElem? hx)
    refine ⟨b, off, o, k, sh46.cs m, rfl, c0, q 1 (.int .u8 k) rfl, fun j v hv => ?_, lt_of_cell c0, whh_open W m ok.2.2, (bounds_u8 ok.2.1).1, (bounds_u8 ok.2.1).2⟩
    have := q (j + 2) v hv
    rw [show off + i * 75 + 2 + j = off + i * 75 + (j + 2) by omega]
    exact this

theorem q2_on {W : World} {S : Nat → Prop} {w : World} {p q : Nat} {B B' : List Int} {m m' : Nat} (H : List Value) (h : Q2 W S w p q B m B' m') (hH : Hh H) (hm : m + 1 ≤ 100000) :
    Calls Tryz.prog 12 #[.pointer (some ⟨p, 0, none⟩), .agg H.toArray] w fun e w' => e = .returned (.int .i64 (puE H B)) ∧ Q2 W S w' p q (onB H B) (onM H B m) B' m' := by
  obtain ⟨g, A, D, g', A', D', h1, h2, h3, h4, h5⟩ := h.is
  exact (on_any p g A B D m H w h1 hH hm).mono fun e w' ⟨k1, g2, A2, D2, k2, k5, k6⟩ => ⟨k1, Q2.left h2 h3 h4 h5 h.low h.old h1 k2 k5 k6⟩

theorem q2_off {W : World} {S : Nat → Prop} {w : World} {p q : Nat} {B B' : List Int} {m m' : Nat} (k : Int) (h : Q2 W S w p q B m B' m') (k0 : 0 ≤ k) (k1 : k ≤ 255) (hm : m + 1 ≤ 100000) :
    Calls Tryz.prog 13 #[.pointer (some ⟨p, 0, none⟩), .int .u8 k] w fun e w' => e = .returned (.tuple #[.agg (poH k B).toArray, .int .i64 (poE k B)]) ∧ Q2 W S w' p q (ofB k B) (ofM k B m) B' m' := by
  obtain ⟨g, A, D, g', A', D', h1, h2, h3, h4, h5⟩ := h.is
  exact (off_any p g A B D m k w h1 k0 k1 hm).mono fun e w' ⟨k1, g2, A2, D2, k2, k5, k6⟩ => ⟨k1, Q2.left h2 h3 h4 h5 h.low h.old h1 k2 k5 k6⟩

theorem onM_le (H : List Value) (B : List Int) (m : Nat) : onM H B m ≤ m + 1 := by unfold onM; split <;> omega

theorem ofM_le (k : Int) (B : List Int) (m : Nat) : ofM k B m ≤ m + 1 := by unfold ofM; split <;> omega

theorem same_bytes (a b : Option Addr) (n c d : Nat) (zs : List Int) (w : World) (hn : zs.length = n) (hx : Bs w a zs) (hy : Bs w b zs) :
    Calls Tryz.prog 9 #[.slice a n c, .slice b n d] w fun e w' => e = .returned (.bool true) ∧ Dr w w' := by
  have := eq_at a b n n c d zs zs w hn hn hx hy
  rwa [show decide (zs = zs) = true by simp] at this

set_option maxRecDepth 10000

/-- A packet, and a row of bytes beside it. -/
structure TJ (W : World) (p : Nat) (a : Option Addr) (n c : Nat) (B C : List Int) (m : Nat) (w : World) : Prop where
  is : ∃ g A D, PkIs w p g A B D m ∧ W.heap.size ≤ p ∧ W.heap.size ≤ g ∧ (∀ i, (Value.slice a n c).ownBlock = some i → i ≠ p ∧ i ≠ g)
  row : w.ownsRow W.heap.size 5 1 (.slice a n c) n (C.map (Value.int .u8))
  old : Below W.heap.size W w

theorem TJ.below {W : World} {p : Nat} {a : Option Addr} {n c : Nat} {B C : List Int} {m : Nat} {w w' : World} (h : TJ W p a n c B C m w) (b : Below w.heap.size w w') : TJ W p a n c B C m w' := by
  obtain ⟨g, A, D, h1, h2⟩ := h.is
  exact ⟨⟨g, A, D, h1.below b, h2⟩, Kept.owns h.row (Kept.of_below (S := fun _ => False) b) (fun _ _ h => h), h.old.trans (b.mono h.old.size)⟩

theorem TJ.facts {W : World} {p : Nat} {a : Option Addr} {n c : Nat} {B C : List Int} {m : Nat} {w : World} (h : TJ W p a n c B C m w) : B.length ≤ 2048 ∧ Bytes B := by
  obtain ⟨g, A, D, h1, -⟩ := h.is
  exact ⟨h1.most, h1.bytes.mid.2.1⟩

/-- The packet is moved. -/
theorem TJ.moved {W : World} {p g : Nat} {A D : List Int} {a : Option Addr} {n c : Nat} {B C B' : List Int} {m m' : Nat} {w w' : World} (_h1 : PkIs w p g A B D m) (h2 : W.heap.size ≤ p) (h3 : W.heap.size ≤ g) (h4 : ∀ i, (Value.slice a n c).ownBlock = some i → i ≠ p ∧ i ≠ g) (row : w.ownsRow W.heap.size 5 1 (.slice a n c) n (C.map (Value.int .u8))) (old : Below W.heap.size W w)
    (k : Mvd w w' p g B' m') : TJ W p a n c B' C m' w' := by
  obtain ⟨g', A', D', k1, k2, k3⟩ := k
  refine ⟨⟨g', A', D', k1, h2, ?_, fun i hi => ⟨(h4 i hi).1, ?_⟩⟩, Kept.owns row k2 (fun i hi => ?_), old.trans (k2.below old.size (fun i hi => ?_))⟩
  · rcases k3 with k3 | k3
    · rw [k3]; exact h3
    · have := old.size; omega
  · have hb := (row.lt i hi).2
    rcases k3 with k3 | k3
    · rw [k3]; exact (h4 i hi).2
    · omega
  · have := h4 i hi; rintro (e | e) <;> omega
  · rintro (e | e) <;> omega

theorem pk_one {w : World} {p g g' : Nat} {A B D A' B' D' : List Int} {m m' : Nat} (h : PkIs w p g A B D m) (h' : PkIs w p g' A' B' D' m') : g = g' := by
  have e := h.raw.box.symm.trans h'.raw.box
  simp only [Option.some.injEq, Obj.cells.injEq] at e
  have e2 := congrArg (fun l => l[0]?) e.1
  simp only [List.getElem?_toArray, List.getElem?_cons_zero, Option.some.injEq, Value.slice.injEq, Addr.mk.injEq] at e2
  exact e2.1.1

theorem t_off {W : World} {p : Nat} {a : Option Addr} {n c : Nat} {B C : List Int} {m : Nat} {w : World} (k : Int) (h : TJ W p a n c B C m w) (k0 : 0 ≤ k) (k1 : k ≤ 255) (hm : m + 1 ≤ 100000) :
    Calls Tryz.prog 13 #[.pointer (some ⟨p, 0, none⟩), .int .u8 k] w fun e w' => e = .returned (.tuple #[.agg (poH k B).toArray, .int .i64 (poE k B)]) ∧ TJ W p a n c (ofB k B) C (ofM k B m) w' := by
  obtain ⟨g, A, D, h1, h2, h3, h4⟩ := h.is
  exact (off_any p g A B D m k w h1 k0 k1 hm).mono fun e w' ⟨e1, e2⟩ => ⟨e1, TJ.moved h1 h2 h3 h4 h.row h.old e2⟩

theorem t_on {W : World} {p : Nat} {a a' : Option Addr} {n c n' c' : Nat} {B C C' : List Int} {m : Nat} {w : World} (H : List Value) (h : TJ W p a n c B C m w) (h' : TJ W p a' n' c' B C' m w) (hH : Hh H) (hm : m + 1 ≤ 100000) :
    Calls Tryz.prog 12 #[.pointer (some ⟨p, 0, none⟩), .agg H.toArray] w fun e w' => e = .returned (.int .i64 (puE H B)) ∧ TJ W p a n c (onB H B) C (onM H B m) w' ∧ TJ W p a' n' c' (onB H B) C' (onM H B m) w' := by
  obtain ⟨g, A, D, h1, h2, h3, h4⟩ := h.is
  obtain ⟨g', A', D', k1, k2, k3, k4⟩ := h'.is
  have e := pk_one h1 k1
  subst e
  exact (on_any p g A B D m H w h1 hH hm).mono fun e w' ⟨e1, e2⟩ => ⟨e1, TJ.moved h1 h2 h3 h4 h.row h.old e2, TJ.moved h1 k2 k3 k4 h'.row h.old e2⟩

/-- Another row, that was made just now. -/
theorem TJ.other {W : World} {p : Nat} {a a' : Option Addr} {n c n' c' : Nat} {B C C' : List Int} {m : Nat} {w w' : World} (h : TJ W p a n c B C m w) (b : Below w.heap.size w w') (own : w'.ownsRow w.heap.size 5 1 (.slice a' n' c') n' (C'.map (Value.int .u8))) : TJ W p a' n' c' B C' m w' := by
  obtain ⟨g, A, D, h1, h2, h3, h4⟩ := h.is
  have hp := h1.raw.lt
  have hg := h1.glt
  refine ⟨⟨g, A, D, h1.below b, h2, h3, fun i hi => ?_⟩, ownsRow_base own h.old.size, h.old.trans (b.mono h.old.size)⟩
  have := (own.lt i hi).1
  omega

set_option maxHeartbeats 4000000 in
set_option maxRecDepth 100000 in
theorem wpackets_walk (a0 : Option Addr) (c0 : Nat) (zs : List Int) (r0 r1 : Int) (a1 : Option Addr) (c1 : Nat) (xs : List sh70.M) (W : World) (h0 : Bs W a0 zs) (n0 : (a0 = none → c0 = 0) ∧ zs.length ≤ c0) (o1 : SlOk sh70 W a1 c1 xs) (l1 : xs.length ≤ 140737488351232) (hbig : zs.length ≤ 140737488351232)
    (w0 : -9223372036854775808 ≤ r0 ∧ r0 ≤ 9223372036854775807) (w1 : -9223372036854775808 ≤ r1 ∧ r1 ≤ 9223372036854775807) :
    Calls Tryz.prog 19 #[.slice a0 zs.length c0, .agg #[.int .i64 r0, .int .i64 r1], .slice a1 xs.length c1] W fun e w' => e = .returned (.bool true) ∧ Below W.heap.size W w' := by
  have HB := Hid.mk' h0
  have hcap := n0.2
  have HN0 := Hid.mk' n0.1
  have HO := Hid.mk' o1
  clear h0 n0 o1
  obtain ⟨n, hn⟩ : ∃ n, n = zs.length := ⟨_, rfl⟩
  obtain ⟨ln, hln⟩ : ∃ n, n = xs.length := ⟨_, rfl⟩
  rw [← hn] at hbig hcap ⊢
  rw [← hln] at l1 ⊢
  have HN := Hid.mk' hn.symm
  have HLN := Hid.mk' hln.symm
  clear hn hln
  obtain ⟨w4, hw4⟩ : ∃ w4, w4 = W.alloc (.cells #[.int .i64 r0, .int .i64 r1] 68) := ⟨_, rfl⟩
  have B4 : Hid (Below W.heap.size W w4) := Hid.mk' (by rw [hw4]; exact (Below.refl _ _).alloc (Nat.le_refl _) _)
  have e0 : w4.cell? ⟨W.heap.size, 0, none⟩ = some (.int .i64 r0) := by rw [hw4]; simp
  have e1 : w4.cell? ⟨W.heap.size, 1, none⟩ = some (.int .i64 r1) := by rw [hw4]; simp
  have hsz : W.heap.size < w4.heap.size := by rw [hw4]; simp
  have HW4 := Hid.mk' hw4
  clear hw4
  go_enter Tryz.func19, Tryz.ntmps19
  go_upto_if 22 with fail
  have hw : W.alloc (.cells #[.int .i64 r0, .int .i64 r1] 68) = w4 := HW4.out.symm
  rw [hw]
  clear hw HW4
  go_cut [0] from 23 (fun s0 wx => ∃ (nn : Nat) (ys : List Int), s0 = .slice a0 nn c0 ∧ nn ≤ 2048 ∧ Hid (ys.length = nn) ∧ Hid (Bs W a0 ys) ∧ w4 = wx)
  case first =>
    by_cases hlong : 2048 < n
    · have hc0 : ¬ c0 = 0 := by omega
      obtain ⟨ad, rfl⟩ : ∃ ad, a0 = some ad := by
        rcases HB.out.lies with h | ⟨b, off, e, _⟩
        · have := HN.out; omega
        · exact ⟨_, e⟩
      have HT := Hid.mk' (HB.out.take 2048 (by rw [HN.out]; omega))
      have HTL : Hid ((zs.take 2048).length = 2048) := Hid.mk' (by rw [List.length_take, HN.out]; omega)
      go_wp2_with fail
      go_meet
      exact ⟨2048, zs.take 2048, by simp, by omega, HTL, HT, rfl⟩
    · go_wp2_with fail
      go_meet
      exact ⟨n, zs, rfl, by omega, HN, HB, rfl⟩
  case rest =>
  obtain ⟨nb, ys, rfl, hnb, HYL, HYB, rfl⟩ := hcut
  clear HB HN hbig hcap
  have k0 := brg_lt r0 257 (by omega)
  have k1 := brg_lt r1 257 (by omega)
  have c_0 := fun u => brg257 r0 u w0.1 w0.2
  have c_1 := fun u => brg257 r1 u w1.1 w1.2
  generalize brg r0 257 = x0 at *
  generalize brg r1 257 = x1 at *
  have hnew := fun (x y : Nat) (u : World) (hx : x ≤ 256) (hy : y ≤ 256) (hu : Bs u a0 ys) => new_at a0 c0 ys x y u hu (by rw [HYL.out]; exact hnb) hx hy
  rw [HYL.out] at hnew
  have NEW := Hid.mk' hnew
  clear hnew
  have BY4 := Hid.mk' (HYB.out.below B4.out)
  go_wp2_with fail
  go_region_held3 (fun w' => w'.cell? ⟨W.heap.size, 0, none⟩ = some (.int .i64 r0) ∧ w'.cell? ⟨W.heap.size, 1, none⟩ = some (.int .i64 r1)) (go_keep) (first | (go_at_call_of 42 (Value.int .i64 r0); refine (c_0 _).mono ?_; rintro e w5 ⟨rfl, rfl⟩) | (go_at_call_of 42 (Value.int .i64 r1); refine (c_1 _).mono ?_; rintro e w5 ⟨rfl, rfl⟩) | (go_at_call 21; refine (NEW.out x0 x1 _ (by omega) (by omega) (BY4.out.below ((Below.refl _ _).drew))).mono ?_; rintro e w5 ⟨rfl, h5, b5⟩; have P5 := Hid.mk' h5; have b5 := ((Below.refl w4.heap.size w4).drew).trans b5; have L5 := Hid.mk' b5; have s0 := (b5.cell (p := ⟨W.heap.size, 0, none⟩) hsz).trans e0; have s1 := (b5.cell (p := ⟨W.heap.size, 1, none⟩) hsz).trans e1; clear b5 h5))
  have BY5 : Hid (Bs w5 a0 ys) := Hid.mk' (BY4.out.below L5.out)
  have B5 : Hid (Below W.heap.size W w5) := Hid.mk' (B4.out.trans (L5.out.mono B4.out.size))
  clear e0 e1 s0 s1 NEW c_0 c_1 BY4
  go_wp2_with fail
  refine (copy_at a0 nb c0 ys _ HYL.out BY5.out HN0.out).mono ?_
  rintro e w6 ⟨v6, rfl, own6, b6⟩
  obtain ⟨a6, c6, rfl, -, hc6, -⟩ := K05.own_bs own6 HYL.out HYB.out.bytes (by rw [HYL.out]; omega)
  have HI : Hid (TJ W w4.heap.size a6 nb c6 ys ys 0 w6) := Hid.mk' (by
    have hp : w4.heap.size < w5.heap.size := P5.out.raw.lt
    have hg : w4.heap.size + 1 < w5.heap.size := P5.out.glt
    have hs := B4.out.size
    refine ⟨⟨_, _, _, P5.out.below b6, hs, (show W.heap.size ≤ w4.heap.size + 1 by omega), fun i hi => ?_⟩, ownsRow_base own6 B5.out.size, B5.out.trans (b6.mono B5.out.size)⟩
    have := (own6.lt i hi).1
    exact ⟨(show i ≠ w4.heap.size by omega), (show i ≠ w4.heap.size + 1 by omega)⟩)
  clear own6 b6 P5 L5 BY5 B5 HYB HN0
  generalize w4.heap.size = p at *
  clear B4
  go_wp2_with fail
  go_loopg [9, 10, 11] 30 (fun f s9 s10 s11 wr => ∃ (j : Nat) (a : Option Addr) (n c : Nat) (B : List Int) (m : Nat), s11 = .int .i64 j ∧ s10 = .int .i64 m ∧ s9 = .slice a n c ∧ n ≤ c ∧ j ≤ 30 ∧ j ≤ ln ∧ 30 - j ≤ f ∧ m ≤ j ∧ Hid (B.length = n) ∧ Hid (TJ W p a n c B B m wr))
  case atStart => exact ⟨0, a6, nb, c6, ys, 0, rfl, rfl, rfl, hc6, by omega, by omega, by omega, by omega, HYL, HI⟩
  case round =>
    clear HI HYL
    obtain ⟨j, a, n, c, B, m, rfl, rfl, rfl, hcn, hj1, hj2, hf2, hm, HBN, hI⟩ := hrel
    by_cases hlt2 : j < ln ∧ j < 30
    · obtain ⟨hlt3, hlt4⟩ := hlt2
      have hsp : (j : Int) < (ln : Int) := by omega
      have hsp2 : (j : Int) < 30 := by omega
      obtain ⟨b, off, o, kd, H, ha, q0, q1, q2, hbl, hH, hk0, hk1⟩ := do12 HO.out j (by rw [HLN.out]; exact hlt3)
      subst ha
      have G1 : Hid (∀ u, Below W.heap.size W u → u.cell? ⟨b, off + j * 75 + 1, none⟩ = some (.int .u8 kd)) := Hid.mk' (fun u hu => (hu.cell (p := ⟨b, off + j * 75 + 1, none⟩) hbl).trans q1)
      have G2 : Hid (∀ u, Below W.heap.size W u → u.rangeAt b (off + j * 75 + 2) H) := Hid.mk' (fun u hu i v hv => (hu.cell (p := ⟨b, off + j * 75 + 2 + i, none⟩) hbl).trans (q2 i v hv))
      have HH := Hid.mk' hH
      have hh73 := Hid.mk' (hh_len hH)
      have hBf := hI.out.facts
      have hn48 : n ≤ 2048 := by rw [← HBN.out]; exact hBf.1
      have HBB := Hid.mk' hBf.2
      clear hBf
      have g0 := (hI.out.old.cell (p := ⟨b, off + j * 75, none⟩) hbl).trans q0
      clear q0 q1 q2 hbl hH
      go_upto_if 58 with fail
      go_cut [9, 12, 13, 14, 15, 16, 17, 18, 19] from 59 to 114 (fun s9 s12 s13 s14 s15 s16 s17 s18 s19 wx => ∃ (a9 : Option Addr) (n9 c9 : Nat) (Bn : List Int) (mn : Nat) (E : Int) (w8 : World), s9 = .slice a9 n9 c9 ∧ s12 = .int .i64 E ∧ n9 ≤ c9 ∧ Hid (Bn.length = n9) ∧ (E = 0 → mn = m + 1) ∧ (¬ E = 0 → mn = m) ∧ Hid (TJ W p a9 n9 c9 Bn Bn mn w8) ∧ w8 = wx)
      case first =>
        cases o with
        | true =>
          have d1 := G1.out _ hI.out.old
          have KM := Hid.mk' (poH_hh (k := kd) HBB.out)
          have BR : Hid (Bytes (poR kd B)) := Hid.mk' (poR_bytes HBB.out)
          have LR : (poR kd B).length ≤ n := by rw [← HBN.out]; exact poR_len kd B
          have HOFF := Hid.mk' (t_off kd hI.out hk0 hk1 (by omega))
          have HRP : Hid (∀ u, Bs u a B → Calls Tryz.prog 39 #[.slice a n c, .int .u8 kd] u fun e w' => ∃ v, e = .returned (.tuple #[.agg (poH kd B).toArray, v, .int .i64 (poE kd B)]) ∧ w'.ownsRow u.heap.size 5 1 v (poR kd B).length ((poR kd B).map (Value.int .u8)) ∧ Below u.heap.size u w') := Hid.mk' (fun u hB => rpop_any kd a n c B u hk0 hk1 HBN.out hB hcn)
          have Yes : Hid (poE kd B = 0 → ofB kd B = poR kd B ∧ ofM kd B m = m + 1) := Hid.mk' (fun he => ⟨by unfold ofB; rw [if_pos he], by unfold ofM; rw [if_pos he]⟩)
          have No : Hid (¬ poE kd B = 0 → ofB kd B = B ∧ ofM kd B m = m) := Hid.mk' (fun he => ⟨by unfold ofB; rw [if_neg he], by unfold ofM; rw [if_neg he]⟩)
          obtain ⟨M, HM⟩ : ∃ M, Hid (poH kd B = M) := ⟨_, rfl⟩
          obtain ⟨E, HE⟩ : ∃ E, Hid (poE kd B = E) := ⟨_, rfl⟩
          obtain ⟨R, HR⟩ : ∃ R, Hid (poR kd B = R) := ⟨_, rfl⟩
          rw [HM.out, HE.out] at HOFF
          rw [HM.out, HE.out, HR.out] at HRP
          rw [HE.out, HR.out] at Yes
          rw [HE.out] at No
          rw [HM.out] at KM
          rw [HR.out] at BR LR
          have hm73 := Hid.mk' (hh_len KM.out)
          have hm1 := Hid.mk' (hh_one KM.out)
          have hneq := neq_same (t := 46) (L := M) (hh_eq KM.out)
          obtain ⟨nr, HNR⟩ : ∃ nr, Hid (R.length = nr) := ⟨_, rfl⟩
          rw [HNR.out] at HRP LR
          clear HM HE HR KM G2
          go_wp2_with fail
          refine HOFF.out.mono ?_
          rintro e w5 ⟨rfl, h5⟩
          have b6 : Below w5.heap.size w5 (w5.alloc (.cells M.toArray 46)) := (Below.refl _ _).alloc (Nat.le_refl _) _
          have P6 := Hid.mk' (h5.below b6)
          have X6 : Hid ((w5.alloc (.cells M.toArray 46)).heap[w5.heap.size]? = some (.cells M.toArray 46 (0, 0))) := Hid.mk' (heap_alloc_new w5 _)
          have d6 := G1.out _ P6.out.old
          clear h5 b6 hI d1 G1 HOFF
          go_upto_region 14 with (first | refine wpList_store_new rfl 46 _ _ rfl _ hz M (by rfl) (by rfl) (by rw [hm73.out, hz_len]) (by rw [hm73.out]; exact info_hh) hm1.out ?_)
          generalize (w5.alloc (.cells M.toArray 46)) = w6 at P6 X6 d6 ⊢
          generalize w5.heap.size = r5 at X6 ⊢
          go_wp2_with fail
          refine (HRP.out _ (bs_ro P6.out.row HBN.out HBB.out (by rw [HBN.out]; omega))).mono ?_
          rintro e w7 ⟨v7, rfl, own7, b7⟩
          obtain ⟨a7, c7, rfl, -, hc7, -⟩ := K05.own_bs own7 HNR.out BR.out (by rw [HNR.out]; omega)
          have b8 : Below w7.heap.size w7 (w7.alloc (.cells M.toArray 46)) := (Below.refl _ _).alloc (Nat.le_refl _) _
          have P8 := Hid.mk' ((P6.out.below b7).below b8)
          have N8 := Hid.mk' ((P6.out.other b7 own7).below b8)
          have X8 : Hid ((w7.alloc (.cells M.toArray 46)).heap[r5]? = some (.cells M.toArray 46 (0, 0))) := Hid.mk' (by
            have x7 := (b7.block _ (Array.getElem?_eq_some_iff.1 X6.out).1).trans X6.out
            exact (b8.block _ (Array.getElem?_eq_some_iff.1 x7).1).trans x7)
          have Y8 : Hid ((w7.alloc (.cells M.toArray 46)).heap[w7.heap.size]? = some (.cells M.toArray 46 (0, 0))) := Hid.mk' (heap_alloc_new w7 _)
          clear own7 b7 b8 P6 X6 d6 HRP
          go_upto_region 15 with (first | refine wpList_store_new rfl 46 _ _ rfl _ hz M (by rfl) (by rfl) (by rw [hm73.out, hz_len]) (by rw [hm73.out]; exact info_hh) hm1.out ?_)
          generalize (w7.alloc (.cells M.toArray 46)) = w8 at P8 N8 X8 Y8 ⊢
          generalize w7.heap.size = r7 at Y8 ⊢
          by_cases he : E = 0
          · obtain ⟨y1, y2⟩ := Yes.out he
            rw [y1, y2] at N8
            subst he
            clear y1 y2 Yes No P8
            go_wp2_with (first
              | refine wpList_load_mid rfl 46 _ rfl r5 0 rfl M _ (range_block X8.out) Tryz.underlying46 rfl (by rw [hm73.out]; exact info_hh) ?_
              | refine wpList_load_mid rfl 46 _ rfl r7 0 rfl M _ (range_block Y8.out) Tryz.underlying46 rfl (by rw [hm73.out]; exact info_hh) ?_)
            go_meet
            exact ⟨a7, nr, c7, R, m + 1, 0, w8, rfl, rfl, hc7, HNR, fun _ => rfl, fun h => absurd rfl h, N8, rfl⟩
          · obtain ⟨y1, y2⟩ := No.out he
            rw [y1, y2] at P8
            have hed : decide (E = 0) = false := by simp; exact he
            have heb : (E == 0) = false := by simp; exact he
            clear y1 y2 Yes No N8
            go_wp2_with (first
              | refine wpList_load_mid rfl 46 _ rfl r5 0 rfl M _ (range_block X8.out) Tryz.underlying46 rfl (by rw [hm73.out]; exact info_hh) ?_
              | refine wpList_load_mid rfl 46 _ rfl r7 0 rfl M _ (range_block Y8.out) Tryz.underlying46 rfl (by rw [hm73.out]; exact info_hh) ?_)
            go_meet
            exact ⟨a, n, c, B, m, E, w8, rfl, rfl, hcn, HBN, fun h => absurd h he, fun _ => rfl, P8, rfl⟩
        | false =>
          have BR : Hid (Bytes (puB H B)) := Hid.mk' (puB_bytes HH.out HBB.out)
          have LR : (puB H B).length ≤ 2048 := puB_most HH.out HBB.out
          have HRP : Hid (∀ u, Bs u a B → Calls Tryz.prog 36 #[.slice a n c, .agg H.toArray] u fun e w' => ∃ v, e = .returned (.tuple #[v, .int .i64 (puE H B)]) ∧ w'.ownsRow u.heap.size 5 1 v (puB H B).length ((puB H B).map (Value.int .u8)) ∧ Below u.heap.size u w') := Hid.mk' (fun u hB => rpush_any H a n c B u HH.out HBN.out hB)
          have HON : Hid (∀ (a' : Option Addr) (n' c' : Nat) (C' : List Int) (u : World), TJ W p a n c B B m u → TJ W p a' n' c' B C' m u → Calls Tryz.prog 12 #[.pointer (some ⟨p, 0, none⟩), .agg H.toArray] u fun e w' => e = .returned (.int .i64 (puE H B)) ∧ TJ W p a n c (onB H B) B (onM H B m) w' ∧ TJ W p a' n' c' (onB H B) C' (onM H B m) w') := Hid.mk' (fun a' n' c' C' u h h' => t_on H h h' HH.out (by omega))
          have Yes : Hid (puE H B = 0 → onB H B = puB H B ∧ onM H B m = m + 1) := Hid.mk' (fun he => ⟨by unfold onB; rw [if_pos he], by unfold onM; rw [if_pos he]⟩)
          have No : Hid (¬ puE H B = 0 → onB H B = B ∧ onM H B m = m) := Hid.mk' (fun he => ⟨by unfold onB; rw [if_neg he], by unfold onM; rw [if_neg he]⟩)
          obtain ⟨E, HE⟩ : ∃ E, Hid (puE H B = E) := ⟨_, rfl⟩
          obtain ⟨R, HR⟩ : ∃ R, Hid (puB H B = R) := ⟨_, rfl⟩
          rw [HE.out] at HON No
          rw [HE.out, HR.out] at HRP Yes
          rw [HR.out] at BR LR
          obtain ⟨nr, HNR⟩ : ∃ nr, Hid (R.length = nr) := ⟨_, rfl⟩
          rw [HNR.out] at HRP LR
          have x1 := Hid.mk' (G2.out _ hI.out.old)
          clear HE HR G1
          go_wp2_with (first
            | refine wpList_load_mid rfl 46 _ rfl b (off + j * 75 + 2) (by rfl) H _ x1.out Tryz.underlying46 rfl (by rw [hh73.out]; exact info_hh) ?_)
          refine (HRP.out _ (bs_ro hI.out.row HBN.out HBB.out (by rw [HBN.out]; omega))).mono ?_
          rintro e w7 ⟨v7, rfl, own7, b7⟩
          obtain ⟨a7, c7, rfl, -, hc7, -⟩ := K05.own_bs own7 HNR.out BR.out (by rw [HNR.out]; omega)
          have P7 := Hid.mk' (hI.out.below b7)
          have N7 := Hid.mk' (hI.out.other b7 own7)
          have x7 := Hid.mk' (G2.out _ P7.out.old)
          clear own7 b7 hI x1 HRP G2
          go_wp2_with (first
            | refine wpList_load_mid rfl 46 _ rfl b (off + j * 75 + 2) (by rfl) H _ x7.out Tryz.underlying46 rfl (by rw [hh73.out]; exact info_hh) ?_)
          refine (HON.out _ _ _ _ _ P7.out N7.out).mono ?_
          rintro e w8 ⟨rfl, p8, q8⟩
          have P8 := Hid.mk' p8
          have N8 := Hid.mk' q8
          clear p8 q8 P7 N7 x7 HON
          by_cases he : E = 0
          · obtain ⟨y1, y2⟩ := Yes.out he
            rw [y1, y2] at N8
            subst he
            clear y1 y2 Yes No P8
            go_wp2_with fail
            go_meet
            exact ⟨a7, nr, c7, R, m + 1, 0, w8, rfl, rfl, hc7, HNR, fun _ => rfl, fun h => absurd rfl h, N8, rfl⟩
          · obtain ⟨y1, y2⟩ := No.out he
            rw [y1, y2] at P8
            have hed : decide (E = 0) = false := by simp; exact he
            have heb : (E == 0) = false := by simp; exact he
            clear y1 y2 Yes No N8
            go_wp2_with fail
            go_meet
            exact ⟨a, n, c, B, m, E, w8, rfl, rfl, hcn, HBN, fun h => absurd h he, fun _ => rfl, P8, rfl⟩
      case rest =>
      obtain ⟨a9, n9, c9, Bn, mn, E, w8, rfl, rfl, hc9, HN9, hy, hno, P8, rfl⟩ := hcut
      have hmn : mn ≤ m + 1 := by
        by_cases e : E = 0
        · rw [hy e]; omega
        · rw [hno e]; omega
      clear hI G1 G2 HH hh73 g0 HBN HBB hn48
      go_upto_if 116 with fail
      go_cut [10] from 117 to 118 (fun s10 wx => s10 = .int .i64 mn ∧ w8 = wx)
      case first =>
        by_cases he : E = 0
        · have e1 := hy he
          subst e1
          subst he
          clear hy hno
          go_wp2_with fail
          go_meet
          exact ⟨by go_num, rfl⟩
        · have e1 := hno he
          subst e1
          have hed : decide (E = 0) = false := by simp; exact he
          have heb : (E == 0) = false := by simp; exact he
          clear hy hno
          go_wp2_with fail
          go_meet
          exact ⟨rfl, rfl⟩
      case rest =>
      obtain ⟨rfl, rfl⟩ := hcut
      clear hy hno
      have hBf := P8.out.facts
      have hn48 : n9 ≤ 2048 := by rw [← HN9.out]; exact hBf.1
      have HBB := Hid.mk' hBf.2
      clear hBf
      obtain ⟨g, A, D, pk, tp, tg, tr⟩ := P8.out.is
      have HBY := Hid.mk' (bytes_any p g A Bn D mn w8 pk)
      have HMV : Hid (∀ u, Below w8.heap.size w8 u → Calls Tryz.prog 23 #[.pointer (some ⟨p, 0, none⟩)] u fun x w' => x = .returned (.int .i64 mn) ∧ u = w') := Hid.mk' (fun u hu => moves_any p g A Bn D mn u (pk.below hu))
      clear pk tp tg tr
      go_wp2_with fail
      refine HBY.out.mono ?_
      rintro e w9 ⟨v9, rfl, ho9, b9⟩
      rw [HN9.out] at ho9
      obtain ⟨a10, c10, rfl, s10, -, -⟩ := K05.own_bs ho9 HN9.out HBB.out (by rw [HN9.out]; omega)
      have S9 := Hid.mk' s10
      have B9 := Hid.mk' b9
      have P9 := Hid.mk' (P8.out.below b9)
      clear ho9 s10 b9 HBY P8
      go_wp2_with fail
      refine (same_bytes a10 a9 n9 _ _ Bn w9 HN9.out S9.out (bs_ro P9.out.row HN9.out HBB.out (by rw [HN9.out]; omega))).mono ?_
      rintro e w11 ⟨rfl, d11⟩
      have P11 := Hid.mk' (P9.out.below (d11.below _))
      have HMV2 := Hid.mk' (HMV.out w11 (B9.out.trans (d11.below _)))
      clear d11 S9 P9 HMV B9
      go_wp2_with fail
      refine HMV2.out.mono ?_
      rintro e w12 ⟨rfl, rfl⟩
      go_wp2_with fail
      go_roundg (30 - (j + 1))
      case measure => omega
      case rel => exact ⟨j + 1, a9, n9, c9, Bn, mn, by go_num, rfl, rfl, hc9, by omega, by omega, by omega, by omega, HN9, P11⟩
    · have B7 : Hid (Below W.heap.size W wr) := Hid.mk' hI.out.old
      clear hI
      go_wp2_with fail
      all_goals
        refine (wawake _).mono ?_
        rintro e w12 ⟨rfl, b12⟩
        have B12 : Hid (Below W.heap.size W w12) := Hid.mk' (B7.out.trans (b12.mono B7.out.size))
        clear b12
        go_wp2_with fail
        go_ret
        exact ⟨rfl, B12.out⟩

theorem walkWrapPackets (a0 : Option Addr) (c0 : Nat) (zs : List Int) (m1 : sh68.M) (a2 : Option Addr) (c2 : Nat) (xs : List sh70.M) (W : World) (h0 : Bs W a0 zs) (n0 : (a0 = none → c0 = 0) ∧ zs.length ≤ c0) (o1 : sh68.ok W m1)
    (o2 : SlOk sh70 W a2 c2 xs) (l2 : xs.length ≤ 140737488351232) (u0 : zs.length ≤ 140737488351232) :
    Calls Tryz.prog 19 #[.slice a0 zs.length c0, .agg (sh68.cs m1).toArray, .slice a2 xs.length c2] W fun e w' => e = .returned (.bool true) ∧ Below W.heap.size W w' :=
  wpackets_walk a0 c0 zs m1.1 m1.2 a2 c2 xs W h0 n0 o2 l2 u0 (bounds_i64 o1.1) (bounds_i64 o1.2)

set_option maxRecDepth 10000

theorem wp_buildSliceTo1 {o : Oper} {a : Act} {w : World} {K : Act → World → Prop} {Q : Exit → Act → World → Prop} (t e : TypeId) (len : Nat) (parts : Array (Nat × Operand)) (ho : o.op = .buildSlice t len parts)
    (hu : Tryz.prog.underlying t = some (.slice e)) (cells : Array Value) (hf : Tryz.prog.builtSlice e len (parts.map fun (i, x) => (i, a.eval x)).toList = some cells)
    (h : K (a.put o.dst (.slice (some ⟨w.heap.size, 0, none⟩) len len)) (w.alloc (.cells cells e))) : o.wp Tryz.prog a w K Q := by
  unfold Program.builtSlice at hf
  cases hie : Tryz.prog.info? e with
  | none => simp [hie] at hf
  | some ie =>
    simp only [hie] at hf
    cases hz : ie.zero with
    | none => simp [hz] at hf
    | some z =>
      simp only [hz] at hf
      by_cases hc : len * ie.size > 2 ^ 24 ∨ len * ie.size = 0
      · simp [hc] at hf
      · rw [if_neg hc] at hf
        exact wp_buildSlice t e len parts ho cells ie z hu hie hz (fun h' => hc (Or.inl h')) (fun h' => hc (Or.inr h')) hf h

theorem flat_at {α : Type} (cs : α → List Value) (n : Nat) : ∀ (xs : List α) (i : Nat) (x : α), (∀ y ∈ xs, (cs y).length = n) → xs[i]? = some x → ∀ j v, (cs x)[j]? = some v → (xs.flatMap cs)[i * n + j]? = some v
  | [], i, x, _, h, _, _, _ => by simp at h
  | y :: r, 0, x, hl, h, j, v, hv => by
    simp at h
    subst h
    have hj := (List.getElem?_eq_some_iff.1 hv).1
    rw [List.flatMap_cons, Nat.zero_mul, Nat.zero_add, List.getElem?_append_left hj]
    exact hv
  | y :: r, i + 1, x, hl, h, j, v, hv => by
    have ih := flat_at cs n r i x (fun z hz => hl z (List.mem_cons_of_mem _ hz)) (by simpa using h) j v hv
    have hy := hl y List.mem_cons_self
    have e : (i + 1) * n + j = (cs y).length + (i * n + j) := by rw [hy, Nat.add_mul]; omega
    rw [List.flatMap_cons, e, List.getElem?_append_right (Nat.le_add_right _ _), Nat.add_sub_cancel_left]
    exact ih

theorem slok_block {s : Sh} {w : World} {b : Nat} {t : TypeId} {xs : List s.M} (h : w.heap[b]? = some (.cells (xs.flatMap s.cs).toArray t (0, 0))) (ok : ∀ x ∈ xs, s.ok w x) (hl : xs.length ≤ maxLen) : SlOk s w (some ⟨b, 0, none⟩) xs.length xs := by
  refine ⟨⟨(fun e => by cases e), Nat.le_refl _, hl⟩, .inr ⟨b, 0, rfl, fun i x hi j v hv => ?_⟩, ok⟩
  have := flat_at s.cs s.n xs i x (fun y hy => s.len (ok y hy)) hi j v hv
  rw [Nat.zero_add, Go.cell_of_row w b _ _ _ _ h]
  simpa using this

/-- The five deeds. -/
def hm2 : sh46.M := ((2 : Int), (sh46.dflt : Int × _).2)

def dA : sh70.M := (false, (0 : Int), hm2)

def dB (k : Int) : sh70.M := (true, k, sh46.dflt)

def dos : List sh70.M := [dA, dA, dA, dB 2, dB 255]

theorem hm2_cs : sh46.cs hm2 = hz.set 0 (.int .u8 2) := by kernel_rfl

theorem dA_built : Tryz.prog.built 70 [(2, .agg (hz.set 0 (.int .u8 2)).toArray)] = some (sh70.cs dA).toArray := by kernel_rfl

theorem dB2_built : Tryz.prog.built 70 [(0, .bool true), (1, .int .u8 2)] = some (sh70.cs (dB 2)).toArray := by kernel_rfl

theorem dB255_built : Tryz.prog.built 70 [(0, .bool true), (1, .int .u8 255)] = some (sh70.cs (dB 255)).toArray := by kernel_rfl

theorem two_built : Tryz.prog.built 68 [] = some #[.int .i64 0, .int .i64 0] := by kernel_rfl

theorem dos_built : Tryz.prog.builtSlice 70 5 [(0, .agg (sh70.cs dA).toArray), (1, .agg (sh70.cs dA).toArray), (2, .agg (sh70.cs dA).toArray), (3, .agg (sh70.cs (dB 2)).toArray), (4, .agg (sh70.cs (dB 255)).toArray)] = some (dos.flatMap sh70.cs).toArray := by kernel_rfl

theorem hm_ok (k : Int) (h : (Lit.int .u8 k).wf = true) (w : World) : sh46.ok w ((k, (sh46.dflt : Int × _).2) : Int × _) := by
  refine And.intro h ?_
  repeat' (first | exact trivial | exact rfl | apply And.intro)

theorem dos_ok (w : World) : ∀ x ∈ dos, sh70.ok w x := by
  intro x hx
  simp only [dos, List.mem_cons, List.not_mem_nil, or_false] at hx
  rcases hx with rfl | rfl | rfl | rfl | rfl
  · exact ⟨trivial, rfl, hm_ok 2 rfl w⟩
  · exact ⟨trivial, rfl, hm_ok 2 rfl w⟩
  · exact ⟨trivial, rfl, hm_ok 2 rfl w⟩
  · exact ⟨trivial, rfl, hm_ok 0 rfl w⟩
  · exact ⟨trivial, rfl, hm_ok 0 rfl w⟩

end Go.Proofs.YtednmdkjhiihcaaGreat
