/- The contracts of tag.Bytes, tag.Read. -/
import Derived.Test.YtbdfhhaoeekhhaaTa
namespace Go.Proofs.Ytbdfhhaoeekhhaa
open Go.ChangeShapes Go.WideShapes Go.ChangeAt Go.RowKit

set_option maxHeartbeats 400000 in
theorem lbytes_ok (p i t : Int) (a : Option Addr) (n c : Nat) (w : World) (h : Tg p i t) (hp : p ≤ 7) (hi : i ≤ 4095) (hn : n ≤ 2044) :
    Calls Try.prog 9 #[.agg (tgC p i t).toArray, .slice a n c] w fun e w' => ∃ v, e = .returned (.tuple #[v, .int .i64 0]) ∧ w'.ownsRow w.heap.size 5 1 v 4 ((tgB p i t).map (Value.int .u8)) ∧ Below w.heap.size w w' := by
  have HCK : Hid (∀ w : World, Calls Try.prog 11 #[.agg (tgC p i t).toArray] w fun e w' => e = .returned (.int .i64 0) ∧ Below w.heap.size w w') := Hid.mk' (fun w => by
    have := lcheck_any p i t w h
    unfold tgE at this
    rw [if_pos ⟨hp, hi⟩] at this
    exact this)
  obtain ⟨p0, p1, i0, i1, t0, t1⟩ := h
  have hor := or13 p i p0 hp i0 hi
  unfold tgC at *
  obtain ⟨Z, HZ⟩ : ∃ Z, Hid ((List.replicate 4 (0 : Int)).map (Value.int .u8) = Z) := ⟨_, rfl⟩
  have hmk : ∀ u : World, (Instr.makeSlice 25 (.int .i64 4) (.int .i64 4)).run Try.prog u = .ok (.slice (some ⟨u.heap.size, 0, none⟩) 4 4) (u.alloc (.cells Z.toArray 5)) := by
    rw [← HZ.out]; exact make_bytes 4 (by omega)
  go_enter Try.func9, Try.ntmps9
  go_wp2_with fail
  refine (HCK.out _).mono ?_
  rintro e w2 ⟨rfl, b2⟩
  have R1 := heap_alloc_new w (.cells #[.int .u8 p, .int .u16 i, .int .u16 t] 24)
  have B1 : Below w.heap.size w (w.alloc (.cells #[.int .u8 p, .int .u16 i, .int .u16 t] 24)) := (Below.refl _ _).alloc (Nat.le_refl _) _
  have B2 : Hid (Below w.heap.size w w2) := B1.trans (b2.mono B1.size)
  have R2 : Hid (w2.heap[w.heap.size]? = some (.cells #[.int .u8 p, .int .u16 i, .int .u16 t] 24 (0, 0))) := (b2.block _ (Array.getElem?_eq_some_iff.1 R1).1).trans R1
  have CE : Hid (∀ w' : World, w'.heap[w.heap.size]? = some (.cells #[.int .u8 p, .int .u16 i, .int .u16 t] 24 (0, 0)) → w'.cell? ⟨w.heap.size, 0, none⟩ = some (.int .u8 p) ∧ w'.cell? ⟨w.heap.size, 1, none⟩ = some (.int .u16 i) ∧ w'.cell? ⟨w.heap.size, 2, none⟩ = some (.int .u16 t)) := Hid.mk' (fun w' hh => by
    refine ⟨?_, ?_, ?_⟩ <;> exact cell_of_row w' _ _ _ _ _ hh)
  obtain ⟨c0, c1, c2⟩ := CE.out _ R2.out
  have hlt0 : w.heap.size < w2.heap.size := (Array.getElem?_eq_some_iff.1 R2.out).1
  have hne0 : ¬ w.heap.size = w2.heap.size := by omega
  clear b2 R1 B1
  go_wp2_with fail
  clear hlt0 hne0
  obtain ⟨w3, hw3⟩ : ∃ w3, w3 = w2.alloc (.cells Z.toArray 5) := ⟨_, rfl⟩
  rw [← hw3]
  have B3 : Hid (Below w.heap.size w w3) := by rw [hw3]; exact B2.out.alloc B2.out.size _
  have hlt : Hid (w.heap.size < w2.heap.size) := Hid.mk' (Array.getElem?_eq_some_iff.1 R2.out).1
  have R3 : Hid (w3.heap[w.heap.size]? = some (.cells #[.int .u8 p, .int .u16 i, .int .u16 t] 24 (0, 0))) := by rw [hw3]; exact (Below.heap_alloc _ _ _ hlt.out).trans R2.out
  have X3 : Hid (w3.heap[w2.heap.size]? = some (.cells Z.toArray 5 (0, 0))) := by rw [hw3]; exact heap_alloc_new w2 _
  clear hw3 c0 c1 c2 R2
  refine (put16_any w2.heap.size 4 0 (p * 8192 + i) Z w3 X3.out (by rw [← HZ.out]; simp) (by omega) (by omega) (by omega) (by omega)).mono ?_
  rintro e w4 ⟨rfl, x4, k4⟩
  have X4 := Hid.mk' x4
  have R4 : Hid (w4.heap[w.heap.size]? = some (.cells #[.int .u8 p, .int .u16 i, .int .u16 t] 24 (0, 0))) := (k4.block w.heap.size (Array.getElem?_eq_some_iff.1 R3.out).1 (by have := hlt.out; omega)).trans R3.out
  have B4 : Hid (Below w.heap.size w w4) := B3.out.trans (k4.below B3.out.size (fun k hk => by have := hlt.out; omega))
  obtain ⟨c0, c1, c2⟩ := CE.out _ R4.out
  clear x4 k4 R3 B3 X3
  go_wp2_with fail
  refine (put16_any w2.heap.size 4 2 t _ w4 X4.out (by rw [← HZ.out]; simp) (by omega) (by omega) (by omega) (by omega)).mono ?_
  rintro e w5 ⟨rfl, x5, k5⟩
  have B5 : Hid (Below w.heap.size w w5) := B4.out.trans (k5.below B4.out.size (fun k hk => by have := hlt.out; omega))
  have O5 : Hid (w5.ownsRow w.heap.size 5 1 (.slice (some ⟨w2.heap.size, 0, none⟩) 4 4) 4 ((tgB p i t).map (Value.int .u8))) := Hid.mk' (by
    refine own_block ?_ (by have := hlt.out; omega) (by simp [tgB]) (by omega)
    rw [x5, ← HZ.out]; rfl)
  clear x5 k5 c0 c1 c2 X4 R4 B4
  go_wp2_with fail
  go_ret2
  exact ⟨_, rfl, O5.out, B5.out⟩

set_option maxHeartbeats 400000 in
theorem lbytes_bad (p i t : Int) (a : Option Addr) (n c : Nat) (w : World) (h : Tg p i t) (hp : ¬ (p ≤ 7 ∧ i ≤ 4095)) :
    Calls Try.prog 9 #[.agg (tgC p i t).toArray, .slice a n c] w fun e w' => e = .returned (.tuple #[.slice none 0 0, .int .i64 60]) ∧ Below w.heap.size w w' := by
  have HCK : Hid (∀ w : World, Calls Try.prog 11 #[.agg (tgC p i t).toArray] w fun e w' => e = .returned (.int .i64 60) ∧ Below w.heap.size w w') := Hid.mk' (fun w => by
    have := lcheck_any p i t w h
    unfold tgE at this
    rw [if_neg hp] at this
    exact this)
  clear h hp
  unfold tgC at *
  go_enter Try.func9, Try.ntmps9
  go_wp2_with fail
  refine (HCK.out _).mono ?_
  rintro e w2 ⟨rfl, b2⟩
  have B1 : Below w.heap.size w (w.alloc (.cells #[.int .u8 p, .int .u16 i, .int .u16 t] 24)) := (Below.refl _ _).alloc (Nat.le_refl _) _
  have B2 : Hid (Below w.heap.size w w2) := B1.trans (b2.mono B1.size)
  clear b2 B1
  go_wp2_with fail
  go_ret2
  exact ⟨rfl, B2.out⟩

set_option maxHeartbeats 400000 in
theorem lbytes_no (p i t : Int) (a : Option Addr) (n c : Nat) (w : World) (h : Tg p i t) (hp : p ≤ 7) (hi : i ≤ 4095) (hn : ¬ n ≤ 2044) (hl : n ≤ 140737488355328) :
    Calls Try.prog 9 #[.agg (tgC p i t).toArray, .slice a n c] w fun e w' => e = .returned (.tuple #[.slice none 0 0, .int .i64 5]) ∧ Below w.heap.size w w' := by
  have HCK : Hid (∀ w : World, Calls Try.prog 11 #[.agg (tgC p i t).toArray] w fun e w' => e = .returned (.int .i64 0) ∧ Below w.heap.size w w') := Hid.mk' (fun w => by
    have := lcheck_any p i t w h
    unfold tgE at this
    rw [if_pos ⟨hp, hi⟩] at this
    exact this)
  clear h hp hi
  unfold tgC at *
  go_enter Try.func9, Try.ntmps9
  go_wp2_with fail
  refine (HCK.out _).mono ?_
  rintro e w2 ⟨rfl, b2⟩
  have B1 : Below w.heap.size w (w.alloc (.cells #[.int .u8 p, .int .u16 i, .int .u16 t] 24)) := (Below.refl _ _).alloc (Nat.le_refl _) _
  have B2 : Hid (Below w.heap.size w w2) := B1.trans (b2.mono B1.size)
  clear b2 B1
  go_wp2_with fail
  go_ret2
  exact ⟨rfl, B2.out⟩

/-- Cells of a header that is none. -/
def hd0 : List Value := tgC 0 0 0

/-- The numbers that bytes begin with. -/
def rdM (zs : List Int) : Int := zs.getD 0 0 * 256 + zs.getD 1 0
def rdT (zs : List Int) : Int := zs.getD 2 0 * 256 + zs.getD 3 0

set_option maxHeartbeats 400000 in
theorem lread_short (a : Option Addr) (n c : Nat) (w : World) (hn : n < 4) :
    Calls Try.prog 17 #[.slice a n c] w fun e w' => e = .returned (.tuple #[.agg hd0.toArray, .int .i64 6]) ∧ Below w.heap.size w w' := by
  go_enter Try.func17, Try.ntmps17
  go_wp2_with fail
  refine ret_cell_tmp rfl w.heap.size 24 _ (0, 0) _ rfl (heap_alloc_new w _) Try.underlying24 rfl info_hd rfl ?_
  exact ⟨rfl, (Below.refl _ _).alloc (Nat.le_refl _) _⟩

theorem and12 (V : Int) (h0 : 0 ≤ V) (h1 : V ≤ 65535) : bits .and .u16 V 4095 = V % 4096 := by
  rw [u16_and _ _ (by omega) (by omega) (by omega) (by omega)]
  have h := Nat.and_two_pow_sub_one_eq_mod V.toNat 12
  have e : (4095 : Int).toNat = 2 ^ 12 - 1 := by decide
  rw [e, h]
  omega

theorem and_bit12 (V : Int) (h0 : 0 ≤ V) (h1 : V ≤ 65535) : bits .and .u16 V 4096 = V / 4096 % 2 * 4096 := by
  rw [u16_and _ _ (by omega) (by omega) (by omega) (by omega)]
  have e : (4096 : Int).toNat = 2 ^ 12 := by decide
  have h : V.toNat &&& 2 ^ 12 = (V.toNat / 2 ^ 12 % 2) * 2 ^ 12 := by
    rw [← Nat.toNat_testBit]
    apply Nat.eq_of_testBit_eq
    intro j
    rw [Nat.testBit_and, Nat.testBit_two_pow]
    by_cases hj : 12 = j
    · subst hj
      cases hb : V.toNat.testBit 12
      · simp
      · show _ = (1 * 2 ^ 12).testBit 12
        rw [Nat.one_mul, Nat.testBit_two_pow]
        simp
    · cases hb : V.toNat.testBit 12
      · simp [hj]
      · show _ = (1 * 2 ^ 12).testBit j
        rw [Nat.one_mul, Nat.testBit_two_pow]
        simp [hj]
  rw [e, h]
  omega

theorem rdM_bd {zs : List Int} (h : Bytes zs) : 0 ≤ rdM zs ∧ rdM zs ≤ 65535 := by
  have h0 := h.getD 0
  have h1 := h.getD 1
  unfold rdM; omega
theorem rdT_bd {zs : List Int} (h : Bytes zs) : 0 ≤ rdT zs ∧ rdT zs ≤ 65535 := by
  have h0 := h.getD 2
  have h1 := h.getD 3
  unfold rdT; omega

set_option maxHeartbeats 400000 in
theorem lread_bad (b off : Nat) (n c : Nat) (zs : List Int) (w : World) (hz : zs.length = n) (hB : Bs w (some ⟨b, off, none⟩) zs) (hn : 4 ≤ n) (hm : ¬ rdM zs / 4096 % 2 = 0) :
    Calls Try.prog 17 #[.slice (some ⟨b, off, none⟩) n c] w fun e w' => e = .returned (.tuple #[.agg hd0.toArray, .int .i64 60]) ∧ Below w.heap.size w w' := by
  have hln : n ≤ 140737488355328 := by rw [← hz]; exact hB.len
  obtain ⟨m0, m1⟩ := rdM_bd hB.bytes
  have hand := and_bit12 _ m0 m1
  rw [show rdM zs / 4096 % 2 = 1 by omega, Int.one_mul] at hand
  have HB := Hid.mk' hB
  have HN := Hid.mk' hz
  clear hB hz hm
  go_enter Try.func17, Try.ntmps17
  go_wp2_with fail
  have b1 : Below w.heap.size w (w.alloc (.cells #[.int .u8 0, .int .u16 0, .int .u16 0] 24)) := (Below.refl _ _).alloc (Nat.le_refl _) _
  have key := get16_any b off n c 0 zs _ HN.out (HB.out.below b1) (by omega)
  refine key.mono ?_
  rw [show zs.getD 0 0 * 256 + zs.getD (0 + 1) 0 = rdM zs from rfl]
  rintro e w2 ⟨rfl, d2⟩
  have R2 := heap_alloc_new w (.cells #[.int .u8 0, .int .u16 0, .int .u16 0] 24)
  rw [← d2.heap] at R2
  have r2 := Hid.mk' R2
  have B2 := Hid.mk' (b1.trans (d2.below _))
  have S2 : Hid (w2.heap.size = w.heap.size + 1) := Hid.mk' (by rw [d2.heap]; simp)
  obtain ⟨V, HV⟩ : ∃ V, Hid (rdM zs = V) := ⟨_, rfl⟩
  rw [HV.out] at m0 m1 hand ⊢
  have c0 : w2.cell? ⟨w.heap.size, 0, none⟩ = some (.int .u8 0) := cell_of_row w2 _ _ _ _ _ r2.out
  have c1 : w2.cell? ⟨w.heap.size, 1, none⟩ = some (.int .u16 0) := cell_of_row w2 _ _ _ _ _ r2.out
  have c2 : w2.cell? ⟨w.heap.size, 2, none⟩ = some (.int .u16 0) := cell_of_row w2 _ _ _ _ _ r2.out
  have f0 : w2.frozen? ⟨w.heap.size, 0, none⟩ = false := frozen_of_row w2 _ _ _ _ r2.out
  have f1 : w2.frozen? ⟨w.heap.size, 1, none⟩ = false := frozen_of_row w2 _ _ _ _ r2.out
  have f2 : w2.frozen? ⟨w.heap.size, 2, none⟩ = false := frozen_of_row w2 _ _ _ _ r2.out
  clear key b1 d2 R2
  go_wp2_with fail
  have R5 : Hid ((w2.setCells w.heap.size 0 hd0).heap[w.heap.size]? = some (.cells hd0.toArray 24 (0, 0))) := heap_whole (L := hd0) r2.out rfl
  have B5 : Hid (Below w.heap.size w (w2.setCells w.heap.size 0 hd0)) := B2.out.trans (((Kept.refl (fun k => k = w.heap.size) w2).setCells w.heap.size 0 hd0 (fun _ => rfl)).below B2.out.size (fun k hk => by omega))
  refine ret_cell_tmp rfl w.heap.size 24 hd0 (0, 0) _ rfl R5.out Try.underlying24 rfl info_hd rfl ?_
  exact ⟨rfl, B5.out⟩

set_option maxHeartbeats 400000 in
theorem lread_ok (b off : Nat) (n c : Nat) (zs : List Int) (w : World) (hz : zs.length = n) (hB : Bs w (some ⟨b, off, none⟩) zs) (hn : 4 ≤ n) (hm : rdM zs / 4096 % 2 = 0) :
    Calls Try.prog 17 #[.slice (some ⟨b, off, none⟩) n c] w fun e w' => e = .returned (.tuple #[.agg (tgC (rdM zs / 8192) (rdM zs % 4096) (rdT zs)).toArray, .int .i64 0]) ∧ Below w.heap.size w w' := by
  have hln : n ≤ 140737488355328 := by rw [← hz]; exact hB.len
  obtain ⟨m0, m1⟩ := rdM_bd hB.bytes
  obtain ⟨t0, t1⟩ := rdT_bd hB.bytes
  have hand := and_bit12 _ m0 m1
  have hand2 := and12 _ m0 m1
  rw [hm, Int.zero_mul] at hand
  have HB := Hid.mk' hB
  have HN := Hid.mk' hz
  clear hB hz hm
  obtain ⟨RES, HRES⟩ : ∃ RES, Hid (tgC (rdM zs / 8192) (rdM zs % 4096) (rdT zs) = RES) := ⟨_, rfl⟩
  rw [HRES.out]
  go_enter Try.func17, Try.ntmps17
  go_wp2_with fail
  have b1 : Below w.heap.size w (w.alloc (.cells #[.int .u8 0, .int .u16 0, .int .u16 0] 24)) := (Below.refl _ _).alloc (Nat.le_refl _) _
  have key := get16_any b off n c 0 zs _ HN.out (HB.out.below b1) (by omega)
  refine key.mono ?_
  rw [show zs.getD 0 0 * 256 + zs.getD (0 + 1) 0 = rdM zs from rfl]
  rintro e w2 ⟨rfl, d2⟩
  have R2 := heap_alloc_new w (.cells #[.int .u8 0, .int .u16 0, .int .u16 0] 24)
  rw [← d2.heap] at R2
  have r2 := Hid.mk' R2
  have B2 := Hid.mk' (b1.trans (d2.below _))
  obtain ⟨V, HV⟩ : ∃ V, Hid (rdM zs = V) := ⟨_, rfl⟩
  rw [HV.out] at m0 m1 hand hand2 HRES ⊢
  clear key b1 d2 R2
  go_wp2_with fail
  have key := get16_any b off n c 2 zs w2 HN.out (HB.out.below B2.out) (by omega)
  refine key.mono ?_
  rw [show zs.getD 2 0 * 256 + zs.getD (2 + 1) 0 = rdT zs from rfl]
  rintro e w3 ⟨rfl, d3⟩
  have R3 := r2.out
  rw [← d3.heap] at R3
  have r3 := Hid.mk' R3
  have B3 := Hid.mk' (B2.out.trans (d3.below _))
  obtain ⟨T, HT⟩ : ∃ T, Hid (rdT zs = T) := ⟨_, rfl⟩
  rw [HT.out] at t0 t1 HRES ⊢
  clear key d3 R3 B2 r2
  have c0 : w3.cell? ⟨w.heap.size, 0, none⟩ = some (.int .u8 0) := cell_of_row w3 _ _ _ _ _ r3.out
  have c1 : w3.cell? ⟨w.heap.size, 1, none⟩ = some (.int .u16 0) := cell_of_row w3 _ _ _ _ _ r3.out
  have c2 : w3.cell? ⟨w.heap.size, 2, none⟩ = some (.int .u16 0) := cell_of_row w3 _ _ _ _ _ r3.out
  have f0 : w3.frozen? ⟨w.heap.size, 0, none⟩ = false := frozen_of_row w3 _ _ _ _ r3.out
  have f1 : w3.frozen? ⟨w.heap.size, 1, none⟩ = false := frozen_of_row w3 _ _ _ _ r3.out
  have f2 : w3.frozen? ⟨w.heap.size, 2, none⟩ = false := frozen_of_row w3 _ _ _ _ r3.out
  go_wp2_with fail
  have HX : Hid (((w3.setCell ⟨w.heap.size, 0, none⟩ (.int .u8 (V / 8192))).setCell ⟨w.heap.size, 1, none⟩ (.int .u16 (V % 4096))).setCell ⟨w.heap.size, 2, none⟩ (.int .u16 T) = w3.setCells w.heap.size 0 RES) := Hid.mk' (by rw [← HRES.out]; rfl)
  rw [HX.out]
  have R5 : Hid ((w3.setCells w.heap.size 0 RES).heap[w.heap.size]? = some (.cells RES.toArray 24 (0, 0))) := heap_whole (L := hd0) r3.out (by rw [← HRES.out]; rfl)
  have B5 : Hid (Below w.heap.size w (w3.setCells w.heap.size 0 RES)) := B3.out.trans (((Kept.refl (fun k => k = w.heap.size) w3).setCells w.heap.size 0 RES (fun _ => rfl)).below B3.out.size (fun k hk => by omega))
  refine ret_cell_tmp rfl w.heap.size 24 RES (0, 0) _ rfl R5.out Try.underlying24 rfl (by rw [← HRES.out]; exact info_hd) rfl ?_
  exact ⟨rfl, B5.out⟩
end Go.Proofs.Ytbdfhhaoeekhhaa
