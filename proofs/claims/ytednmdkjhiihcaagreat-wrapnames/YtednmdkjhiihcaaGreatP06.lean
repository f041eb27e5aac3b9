/- Headers of the kind 06: the program's calls and the document's, in one form for all inputs, and the mathematics between them. -/
import Derived.Test.YtednmdkjhiihcaaGreatGa
import Derived.Deep.RegionHeld3
import Derived.Test.YtednmdkjhiihcaaGreatGc
import Derived.Test.YtednmdkjhiihcaaGreatSp
namespace Go.Proofs.YtednmdkjhiihcaaGreat.K06
open Go.ChangeShapes Go.WideShapes Go.ChangeAt Go.RowKit

/-- k bytes of a number, the highest one first. -/
def numB : Nat → Int → List Int
  | 0, _ => []
  | k + 1, v => numB k (v / 256) ++ [v % 256]

theorem numB_length : ∀ (k : Nat) (v : Int), (numB k v).length = k
  | 0, _ => rfl
  | k + 1, v => by simp [numB, numB_length k]

theorem numB_bytes : ∀ (k : Nat) (v : Int), Bytes (numB k v)
  | 0, _ => fun z hz => by simp [numB] at hz
  | k + 1, v => bytes_append (numB_bytes k _) (fun z hz => by simp at hz; omega)

/-- So many bytes from a place on, as a number. -/
def valV (B : List Int) (x : Nat) : Nat → Int
  | 0 => 0
  | k + 1 => valV B x k * 256 + B.getD (x + k) 0

theorem valV_bd {B : List Int} (h : Bytes B) (x : Nat) : ∀ k : Nat, 0 ≤ valV B x k ∧ valV B x k < 256 ^ k
  | 0 => by simp [valV]
  | k + 1 => by
    have ih := valV_bd h x k
    have hb := h.getD (x + k)
    simp only [valV]
    rw [Int.pow_succ]
    omega

theorem pow256 {k : Nat} (h : k ≤ 4) : (256 : Int) ^ k ≤ 4294967296 := by
  match k, h with
  | 0, _ => decide
  | 1, _ => decide
  | 2, _ => decide
  | 3, _ => decide
  | 4, _ => decide

set_option maxHeartbeats 400000 in
theorem number_any (v : Int) (k : Nat) (w : World) (hv : 0 ≤ v) (hv' : v ≤ 4294967296) (hk : k ≤ 16) :
    Calls Tryz.prog 168 #[.int .i64 v, .int .i64 k] w fun e w' => ∃ u, e = .returned u ∧ w'.ownsRow w.heap.size 5 1 u k ((numB k v).map (Value.int .u8)) ∧ Below w.heap.size w w' := by
  have hmk := make_bytes k (by omega)
  obtain ⟨Z, HZ⟩ : ∃ Z, Hid ((List.replicate k (0 : Int)).map (Value.int .u8) = Z) := ⟨_, rfl⟩
  rw [HZ.out] at hmk
  go_enter Tryz.func168, Tryz.ntmps168
  go_wp2_with fail
  obtain ⟨W1, hW1⟩ : ∃ W1, W1 = w.alloc (.cells Z.toArray 5) := ⟨_, rfl⟩
  rw [← hW1]
  have R1 : Hid (W1.heap[w.heap.size]? = some (.cells Z.toArray 5 (0, 0))) := by rw [hW1]; exact heap_alloc_new w _
  have B1 : Hid (Below w.heap.size w W1) := by rw [hW1]; exact (Below.refl _ _).alloc (Nat.le_refl _) _
  clear hW1 hmk
  go_loopw [0, 6] (fun x i wr => ∃ (m : Nat) (y : Int) (tl : List Int), m ≤ k ∧ i = .int .i64 ((m : Int) - 1) ∧ x = .int .i64 y ∧ 0 ≤ y ∧ y ≤ 4294967296 ∧ Hid (numB k v = numB m y ++ tl) ∧ Hid (wr.heap[w.heap.size]? = some (.cells ((List.replicate m (0 : Int) ++ tl).map (Value.int .u8)).toArray 5 (0, 0))) ∧ Hid (Below w.heap.size w wr)) (fun _ i _ => ((intOf i) + 1).toNat)
  case atStart => exact ⟨k, v, [], Nat.le_refl _, by go_num, rfl, hv, hv', Hid.mk' (by simp), Hid.mk' (by rw [List.append_nil, HZ.out]; exact R1.out), B1⟩
  case round =>
    obtain ⟨m, y, tl, hm, rfl, rfl, hy, hy', HN, HR, HB⟩ := hrel
    match m, HN, HR, hm with
    | 0, HN, HR, hm =>
      have HO : Hid (wr.ownsRow w.heap.size 5 1 (.slice (some ⟨w.heap.size, 0, none⟩) k k) k ((numB k v).map (Value.int .u8))) := by
        refine own_block ?_ (Nat.le_refl _) (by rw [List.length_map, numB_length]) (by omega)
        rw [HR.out, HN.out]; rfl
      go_wp2_with fail
      go_ret
      exact ⟨_, rfl, HO.out, HB.out⟩
    | m + 1, HN, HR, hm =>
      have f0 : wr.frozen? ⟨w.heap.size, m, none⟩ = false := frozen_of_row wr _ m _ _ HR.out
      have c0 : wr.cell? ⟨w.heap.size, m, none⟩ = some (.int .u8 0) := by
        rw [cell_of_row wr _ m _ _ _ HR.out, List.getElem?_toArray, List.getElem?_map, List.getElem?_append_left (by simp), List.getElem?_replicate]
        simp
      go_wp2_with fail
      go_roundw
      case rel =>
        refine ⟨m, y / 256, y % 256 :: tl, by omega, rfl, rfl, by omega, by omega, Hid.mk' ?_, Hid.mk' ?_, (HB.out.setCell (p := ⟨w.heap.size, m, none⟩) (Nat.le_refl _) _ : Below _ _ _)⟩
        · rw [HN.out, numB, List.append_assoc]; rfl
        · rw [Go.heap_setCell_same _ _ m _ _ _ HR.out]
          congr 2
          apply Array.toList_inj.1
          rw [Array.toList_setIfInBounds, ← List.map_set, List.replicate_succ', List.append_assoc, List.set_append_right _ _ (by simp)]
          simp
      case measure => simp [intOf]

set_option maxHeartbeats 400000 in
theorem value_any (b off n c x k : Nat) (zs : List Int) (w : World) (hz : zs.length = n) (hB : Bs w (some ⟨b, off, none⟩) zs) (hk : k ≤ 4) (hx : x + k ≤ n) :
    Calls Tryz.prog 180 #[.slice (some ⟨b, off, none⟩) n c, .int .i64 x, .int .i64 k] w fun e w' => e = .returned (.int .i64 (valV zs x k)) ∧ w = w' := by
  have hln : n ≤ 140737488355328 := by rw [← hz]; exact hB.len
  have HB := Hid.mk' hB
  have HN := Hid.mk' hz
  clear hB hz
  go_enter Tryz.func180, Tryz.ntmps180
  go_wp2_with fail
  go_loop [7, 8] (fun v i => ∃ j : Nat, j ≤ k ∧ i = .int .i64 j ∧ v = .int .i64 (valV zs x j)) (fun _ i => k - (intOf i).toNat)
  case atStart => exact ⟨0, Nat.zero_le _, rfl, rfl⟩
  case round =>
    obtain ⟨j, hj, rfl, rfl⟩ := hrel
    by_cases hlt : j < k
    · have hsp : (j : Int) < (k : Int) := by omega
      have cc : w.cell? ⟨b, off + (x + j), none⟩ = some (.int .u8 (zs.getD (x + j) 0)) := by
        rcases HB.out.lies with h0 | ⟨b', off', e, hc⟩
        · rw [HN.out] at h0; omega
        · cases e; exact hc (x + j) (by rw [HN.out]; omega)
      have hb := HB.out.bytes.getD (x + j)
      have hv := valV_bd HB.out.bytes x j
      have hp := pow256 (k := j) (by omega)
      obtain ⟨y, HY⟩ : ∃ y, Hid (zs.getD (x + j) 0 = y) := ⟨_, rfl⟩
      obtain ⟨V, HV⟩ : ∃ V, Hid (valV zs x j = V) := ⟨_, rfl⟩
      rw [HY.out] at cc hb
      rw [HV.out] at hv ⊢
      have v0 : 0 ≤ V := hv.1
      have v1 : V ≤ 4294967296 := by omega
      have y0 := hb.1
      have y1 := hb.2
      clear hb hv hp
      have hin : (x : Int) + (j : Int) < (n : Int) := by omega
      go_wp2_with fail
      go_round
      case rel => exact ⟨j + 1, hlt, by go_num, by rw [valV, HV.out, HY.out]⟩
      case measure => simp [intOf]; omega
    · obtain rfl : j = k := by omega
      go_wp2_with fail
      go_ret
      exact ⟨rfl, rfl⟩

/-- A header's cells: Prio, Id, Type. -/
def tgC (p i t : Int) : List Value := [.int .u8 p, .int .u16 i, .int .u16 t]

/-- A header's bytes. -/
def tgB (p i t : Int) : List Int := [(p * 8192 + i) / 256, (p * 8192 + i) % 256, t / 256, t % 256]

/-- Check's answer. -/
def tgE (p i : Int) : Int := if p ≤ 7 ∧ i ≤ 4095 then 0 else 60

/-- A header's numbers, as their types have them. -/
structure Tg (p i t : Int) : Prop where
  p0 : 0 ≤ p
  p1 : p ≤ 255
  i0 : 0 ≤ i
  i1 : i ≤ 65535
  t0 : 0 ≤ t
  t1 : t ≤ 65535

theorem info_hd : (Tryz.prog.info? 33).map (·.size) = some 3 := by kernel_rfl

theorem or16 (V b : Int) (h0 : 0 ≤ V) (h1 : V ≤ 255) (b0 : 0 ≤ b) (b1 : b ≤ 255) : bits .or .u16 (V * 256) b = V * 256 + b := by
  rw [u16_or _ _ (by omega) (by omega) (by omega) (by omega)]
  have h := Nat.two_pow_add_eq_or_of_lt (i := 8) (b := b.toNat) (by omega) V.toNat
  have e2 : (V * 256).toNat = 2 ^ 8 * V.toNat := by omega
  rw [e2, ← h]
  omega

theorem or13 (V b : Int) (h0 : 0 ≤ V) (h1 : V ≤ 7) (b0 : 0 ≤ b) (b1 : b ≤ 4095) : bits .or .u16 (V * 8192) b = V * 8192 + b := by
  rw [u16_or _ _ (by omega) (by omega) (by omega) (by omega)]
  have h := Nat.two_pow_add_eq_or_of_lt (i := 13) (b := b.toNat) (by omega) V.toNat
  have e2 : (V * 8192).toNat = 2 ^ 13 * V.toNat := by omega
  rw [e2, ← h]
  omega

set_option maxHeartbeats 400000 in
theorem lcheck_any (p i t : Int) (w : World) (h : Tg p i t) : Calls Tryz.prog 86 #[.agg (tgC p i t).toArray] w fun e w' => e = .returned (.int .i64 (tgE p i)) ∧ Below w.heap.size w w' := by
  obtain ⟨p0, p1, i0, i1, t0, t1⟩ := h
  unfold tgC tgE
  by_cases hp : p ≤ 7
  · by_cases hi : i ≤ 4095
    · rw [if_pos ⟨hp, hi⟩]
      go_enter Tryz.func86, Tryz.ntmps86
      go_wp2_with fail
      go_ret
      exact ⟨rfl, (Below.refl _ _).alloc (Nat.le_refl _) _⟩
    · rw [if_neg (fun e => hi e.2)]
      go_enter Tryz.func86, Tryz.ntmps86
      go_wp2_with fail
      go_ret
      exact ⟨rfl, (Below.refl _ _).alloc (Nat.le_refl _) _⟩
  · rw [if_neg (fun e => hp e.1)]
    go_enter Tryz.func86, Tryz.ntmps86
    go_wp2_with fail
    go_ret
    exact ⟨rfl, (Below.refl _ _).alloc (Nat.le_refl _) _⟩

theorem lsize_any (w : World) : Calls Tryz.prog 67 #[] w fun e w' => e = .returned (.int .i64 4) ∧ w = w' := by
  go_enter Tryz.func67, Tryz.ntmps67
  go_wp2_with fail
  go_ret
  exact ⟨rfl, rfl⟩

set_option maxHeartbeats 400000 in
theorem get16_any (b off n c x : Nat) (zs : List Int) (w : World) (hz : zs.length = n) (hB : Bs w (some ⟨b, off, none⟩) zs) (hx : x + 2 ≤ n) :
    Calls Tryz.prog 125 #[.slice (some ⟨b, off, none⟩) n c, .int .i64 x] w fun e w' => e = .returned (.int .u16 (zs.getD x 0 * 256 + zs.getD (x + 1) 0)) ∧ Dr w w' := by
  have hln : n ≤ 140737488355328 := by rw [← hz]; exact hB.len
  have hx0 : (x : Int) < (n : Int) := by omega
  have hx1 : (x : Int) + 1 < (n : Int) := by omega
  have cc : ∀ i, i < n → w.cell? ⟨b, off + i, none⟩ = some (.int .u8 (zs.getD i 0)) := by
    intro i hi
    rcases hB.lies with h0 | ⟨b', off', e, hc⟩
    · omega
    · cases e; exact hc i (by omega)
  have c0 := cc x (by omega)
  have c1 := cc (x + 1) (by omega)
  have k0 := hB.bytes.getD x
  have k1 := hB.bytes.getD (x + 1)
  clear cc hB hz
  generalize zs.getD x 0 = u at *
  generalize zs.getD (x + 1) 0 = v at *
  obtain ⟨u0, u1⟩ := k0
  obtain ⟨v0, v1⟩ := k1
  have hor := or16 u v u0 u1 v0 v1
  go_enter Tryz.func125, Tryz.ntmps125
  go_wp2_with fail
  go_quiet (fail)
  go_wp2_with fail
  go_ret
  exact ⟨rfl, ⟨_, rfl⟩⟩

set_option maxHeartbeats 400000 in
theorem put16_any (g m x : Nat) (v : Int) (Z : List Value) (w : World) (hg : w.heap[g]? = some (.cells Z.toArray 5 (0, 0))) (hl : Z.length = m) (hx : x + 2 ≤ m) (hm : m ≤ 1000000) (v0 : 0 ≤ v) (v1 : v ≤ 65535) :
    Calls Tryz.prog 143 #[.slice (some ⟨g, 0, none⟩) m m, .int .i64 x, .int .u16 v] w fun e w' => e = .returned (.tuple #[]) ∧ w'.heap[g]? = some (.cells ((Z.set x (.int .u8 (v / 256))).set (x + 1) (.int .u8 (v % 256))).toArray 5 (0, 0)) ∧ Kept (fun k => k = g) w w' := by
  have hx0 : (x : Int) < (m : Int) := by omega
  have hx1 : (x : Int) + 1 < (m : Int) := by omega
  obtain ⟨y0, c0⟩ : ∃ y, w.cell? ⟨g, x, none⟩ = some y := ⟨_, by rw [cell_of_row w _ x _ _ _ hg, List.getElem?_toArray, List.getElem?_eq_getElem (by omega)]⟩
  obtain ⟨y1, c1⟩ : ∃ y, w.cell? ⟨g, x + 1, none⟩ = some y := ⟨_, by rw [cell_of_row w _ (x + 1) _ _ _ hg, List.getElem?_toArray, List.getElem?_eq_getElem (by omega)]⟩
  have f0 : w.frozen? ⟨g, x, none⟩ = false := frozen_of_row w _ x _ _ hg
  have f1 : w.frozen? ⟨g, x + 1, none⟩ = false := frozen_of_row w _ (x + 1) _ _ hg
  have HG := Hid.mk' hg
  clear hg
  go_enter Tryz.func143, Tryz.ntmps143
  go_wp2_with fail
  have h1 : Hid (((w.setCell ⟨g, x, none⟩ (.int .u8 (v / 256))).setCell ⟨g, x + 1, none⟩ (.int .u8 (v % 256))).heap[g]? = some (.cells ((Z.set x (.int .u8 (v / 256))).set (x + 1) (.int .u8 (v % 256))).toArray 5 (0, 0))) := Hid.mk' (by
    rw [Go.heap_setCell_same _ _ (x + 1) _ _ _ (Go.heap_setCell_same _ _ x _ _ _ HG.out)]; simp)
  have h2 : Hid (Kept (fun k => k = g) w ((w.setCell ⟨g, x, none⟩ (.int .u8 (v / 256))).setCell ⟨g, x + 1, none⟩ (.int .u8 (v % 256)))) := Hid.mk' (((Kept.refl (fun k => k = g) w).setCell (p := ⟨g, x, none⟩) (fun _ => rfl) _).setCell (p := ⟨g, x + 1, none⟩) (fun _ => rfl) _)
  go_end0
  exact ⟨rfl, h1.out, h2.out⟩

set_option maxHeartbeats 400000 in
theorem lbytes_ok (p i t : Int) (a : Option Addr) (n c : Nat) (w : World) (h : Tg p i t) (hp : p ≤ 7) (hi : i ≤ 4095) (hn : n ≤ 2044) :
    Calls Tryz.prog 87 #[.agg (tgC p i t).toArray, .slice a n c] w fun e w' => ∃ v, e = .returned (.tuple #[v, .int .i64 0]) ∧ w'.ownsRow w.heap.size 5 1 v 4 ((tgB p i t).map (Value.int .u8)) ∧ Below w.heap.size w w' := by
  have HCK : Hid (∀ w : World, Calls Tryz.prog 86 #[.agg (tgC p i t).toArray] w fun e w' => e = .returned (.int .i64 0) ∧ Below w.heap.size w w') := Hid.mk' (fun w => by
    have := lcheck_any p i t w h
    unfold tgE at this
    rw [if_pos ⟨hp, hi⟩] at this
    exact this)
  obtain ⟨p0, p1, i0, i1, t0, t1⟩ := h
  have hor := or13 p i p0 hp i0 hi
  unfold tgC at *
  obtain ⟨Z, HZ⟩ : ∃ Z, Hid ((List.replicate 4 (0 : Int)).map (Value.int .u8) = Z) := ⟨_, rfl⟩
  have hmk : ∀ u : World, (Instr.makeSlice 22 (.int .i64 4) (.int .i64 4)).run Tryz.prog u = .ok (.slice (some ⟨u.heap.size, 0, none⟩) 4 4) (u.alloc (.cells Z.toArray 5)) := by
    rw [← HZ.out]; exact make_bytes 4 (by omega)
  go_enter Tryz.func87, Tryz.ntmps87
  go_wp2_with fail
  refine (HCK.out _).mono ?_
  rintro e w2 ⟨rfl, b2⟩
  have R1 := heap_alloc_new w (.cells #[.int .u8 p, .int .u16 i, .int .u16 t] 33)
  have B1 : Below w.heap.size w (w.alloc (.cells #[.int .u8 p, .int .u16 i, .int .u16 t] 33)) := (Below.refl _ _).alloc (Nat.le_refl _) _
  have B2 : Hid (Below w.heap.size w w2) := B1.trans (b2.mono B1.size)
  have R2 : Hid (w2.heap[w.heap.size]? = some (.cells #[.int .u8 p, .int .u16 i, .int .u16 t] 33 (0, 0))) := (b2.block _ (Array.getElem?_eq_some_iff.1 R1).1).trans R1
  have CE : Hid (∀ w' : World, w'.heap[w.heap.size]? = some (.cells #[.int .u8 p, .int .u16 i, .int .u16 t] 33 (0, 0)) → w'.cell? ⟨w.heap.size, 0, none⟩ = some (.int .u8 p) ∧ w'.cell? ⟨w.heap.size, 1, none⟩ = some (.int .u16 i) ∧ w'.cell? ⟨w.heap.size, 2, none⟩ = some (.int .u16 t)) := Hid.mk' (fun w' hh => by
    refine ⟨?_, ?_, ?_⟩ <;> exact cell_of_row w' _ _ _ _ _ hh)
  obtain ⟨c0, c1, c2⟩ := CE.out _ R2.out
  have hlt0 : w.heap.size < w2.heap.size := (Array.getElem?_eq_some_iff.1 R2.out).1
  have hne0 : ¬ w.heap.size = w2.heap.size := by omega
  clear b2 R1 B1
  go_wp2_with fail
  clear hlt0 hne0
  obtain ⟨w3, hw3⟩ : ∃ w3, w3 = w2.alloc (.cells Z.toArray 5) := ⟨_, rfl⟩
  rw [← hw3]
  have B3 : Hid (Below w.heap.size w w3) := by rw [hw3]; exact B2.out.alloc B2.out.size _
  have hlt : Hid (w.heap.size < w2.heap.size) := Hid.mk' (Array.getElem?_eq_some_iff.1 R2.out).1
  have R3 : Hid (w3.heap[w.heap.size]? = some (.cells #[.int .u8 p, .int .u16 i, .int .u16 t] 33 (0, 0))) := by rw [hw3]; exact (Below.heap_alloc _ _ _ hlt.out).trans R2.out
  have X3 : Hid (w3.heap[w2.heap.size]? = some (.cells Z.toArray 5 (0, 0))) := by rw [hw3]; exact heap_alloc_new w2 _
  clear hw3 c0 c1 c2 R2
  refine (put16_any w2.heap.size 4 0 (p * 8192 + i) Z w3 X3.out (by rw [← HZ.out]; simp) (by omega) (by omega) (by omega) (by omega)).mono ?_
  rintro e w4 ⟨rfl, x4, k4⟩
  have X4 := Hid.mk' x4
  have R4 : Hid (w4.heap[w.heap.size]? = some (.cells #[.int .u8 p, .int .u16 i, .int .u16 t] 33 (0, 0))) := (k4.block w.heap.size (Array.getElem?_eq_some_iff.1 R3.out).1 (by have := hlt.out; omega)).trans R3.out
  have B4 : Hid (Below w.heap.size w w4) := B3.out.trans (k4.below B3.out.size (fun k hk => by have := hlt.out; omega))
  obtain ⟨c0, c1, c2⟩ := CE.out _ R4.out
  clear x4 k4 R3 B3 X3
  go_wp2_with fail
  refine (put16_any w2.heap.size 4 2 t _ w4 X4.out (by rw [← HZ.out]; simp) (by omega) (by omega) (by omega) (by omega)).mono ?_
  rintro e w5 ⟨rfl, x5, k5⟩
  have B5 : Hid (Below w.heap.size w w5) := B4.out.trans (k5.below B4.out.size (fun k hk => by have := hlt.out; omega))
  have O5 : Hid (w5.ownsRow w.heap.size 5 1 (.slice (some ⟨w2.heap.size, 0, none⟩) 4 4) 4 ((tgB p i t).map (Value.int .u8))) := Hid.mk' (by
    refine own_block ?_ (by have := hlt.out; omega) (by simp [tgB]) (by omega)
    rw [x5, ← HZ.out]; rfl)
  clear x5 k5 c0 c1 c2 X4 R4 B4
  go_wp2_with fail
  go_ret2
  exact ⟨_, rfl, O5.out, B5.out⟩

set_option maxHeartbeats 400000 in
theorem lbytes_bad (p i t : Int) (a : Option Addr) (n c : Nat) (w : World) (h : Tg p i t) (hp : ¬ (p ≤ 7 ∧ i ≤ 4095)) :
    Calls Tryz.prog 87 #[.agg (tgC p i t).toArray, .slice a n c] w fun e w' => e = .returned (.tuple #[.slice none 0 0, .int .i64 60]) ∧ Below w.heap.size w w' := by
  have HCK : Hid (∀ w : World, Calls Tryz.prog 86 #[.agg (tgC p i t).toArray] w fun e w' => e = .returned (.int .i64 60) ∧ Below w.heap.size w w') := Hid.mk' (fun w => by
    have := lcheck_any p i t w h
    unfold tgE at this
    rw [if_neg hp] at this
    exact this)
  clear h hp
  unfold tgC at *
  go_enter Tryz.func87, Tryz.ntmps87
  go_wp2_with fail
  refine (HCK.out _).mono ?_
  rintro e w2 ⟨rfl, b2⟩
  have B1 : Below w.heap.size w (w.alloc (.cells #[.int .u8 p, .int .u16 i, .int .u16 t] 33)) := (Below.refl _ _).alloc (Nat.le_refl _) _
  have B2 : Hid (Below w.heap.size w w2) := B1.trans (b2.mono B1.size)
  clear b2 B1
  go_wp2_with fail
  go_ret2
  exact ⟨rfl, B2.out⟩

set_option maxHeartbeats 400000 in
theorem lbytes_no (p i t : Int) (a : Option Addr) (n c : Nat) (w : World) (h : Tg p i t) (hp : p ≤ 7) (hi : i ≤ 4095) (hn : ¬ n ≤ 2044) (hl : n ≤ 140737488355328) :
    Calls Tryz.prog 87 #[.agg (tgC p i t).toArray, .slice a n c] w fun e w' => e = .returned (.tuple #[.slice none 0 0, .int .i64 5]) ∧ Below w.heap.size w w' := by
  have HCK : Hid (∀ w : World, Calls Tryz.prog 86 #[.agg (tgC p i t).toArray] w fun e w' => e = .returned (.int .i64 0) ∧ Below w.heap.size w w') := Hid.mk' (fun w => by
    have := lcheck_any p i t w h
    unfold tgE at this
    rw [if_pos ⟨hp, hi⟩] at this
    exact this)
  clear h hp hi
  unfold tgC at *
  go_enter Tryz.func87, Tryz.ntmps87
  go_wp2_with fail
  refine (HCK.out _).mono ?_
  rintro e w2 ⟨rfl, b2⟩
  have B1 : Below w.heap.size w (w.alloc (.cells #[.int .u8 p, .int .u16 i, .int .u16 t] 33)) := (Below.refl _ _).alloc (Nat.le_refl _) _
  have B2 : Hid (Below w.heap.size w w2) := B1.trans (b2.mono B1.size)
  clear b2 B1
  go_wp2_with fail
  go_ret2
  exact ⟨rfl, B2.out⟩

/-- Cells of a header that is none. -/
def hd0 : List Value := tgC 0 0 0

/-- The numbers that bytes begin with. -/
def rdM (zs : List Int) : Int := zs.getD 0 0 * 256 + zs.getD 1 0

def rdT (zs : List Int) : Int := zs.getD 2 0 * 256 + zs.getD 3 0

set_option maxHeartbeats 400000 in
theorem lread_short (a : Option Addr) (n c : Nat) (w : World) (hn : n < 4) :
    Calls Tryz.prog 66 #[.slice a n c] w fun e w' => e = .returned (.tuple #[.agg hd0.toArray, .int .i64 6]) ∧ Below w.heap.size w w' := by
  go_enter Tryz.func66, Tryz.ntmps66
  go_wp2_with fail
  refine ret_cell_tmp rfl w.heap.size 33 _ (0, 0) _ rfl (heap_alloc_new w _) Tryz.underlying33 rfl info_hd rfl ?_
  exact ⟨rfl, (Below.refl _ _).alloc (Nat.le_refl _) _⟩

theorem and12 (V : Int) (h0 : 0 ≤ V) (h1 : V ≤ 65535) : bits .and .u16 V 4095 = V % 4096 := by
  rw [u16_and _ _ (by omega) (by omega) (by omega) (by omega)]
  have h := Nat.and_two_pow_sub_one_eq_mod V.toNat 12
  have e : (4095 : Int).toNat = 2 ^ 12 - 1 := by decide
  rw [e, h]
  omega

theorem and_bit12 (V : Int) (h0 : 0 ≤ V) (h1 : V ≤ 65535) : bits .and .u16 V 4096 = V / 4096 % 2 * 4096 := by
  rw [u16_and _ _ (by omega) (by omega) (by omega) (by omega)]
  have e : (4096 : Int).toNat = 2 ^ 12 := by decide
  have h : V.toNat &&& 2 ^ 12 = (V.toNat / 2 ^ 12 % 2) * 2 ^ 12 := by
    rw [← Nat.toNat_testBit]
    apply Nat.eq_of_testBit_eq
    intro j
    rw [Nat.testBit_and, Nat.testBit_two_pow]
    by_cases hj : 12 = j
    · subst hj
      cases hb : V.toNat.testBit 12
      · simp
      · show _ = (1 * 2 ^ 12).testBit 12
        rw [Nat.one_mul, Nat.testBit_two_pow]
        simp
    · cases hb : V.toNat.testBit 12
      · simp [hj]
      · show _ = (1 * 2 ^ 12).testBit j
        rw [Nat.one_mul, Nat.testBit_two_pow]
        simp [hj]
  rw [e, h]
  omega

theorem rdM_bd {zs : List Int} (h : Bytes zs) : 0 ≤ rdM zs ∧ rdM zs ≤ 65535 := by
  have h0 := h.getD 0
  have h1 := h.getD 1
  unfold rdM; omega

theorem rdT_bd {zs : List Int} (h : Bytes zs) : 0 ≤ rdT zs ∧ rdT zs ≤ 65535 := by
  have h0 := h.getD 2
  have h1 := h.getD 3
  unfold rdT; omega

set_option maxHeartbeats 400000 in
theorem lread_bad (b off : Nat) (n c : Nat) (zs : List Int) (w : World) (hz : zs.length = n) (hB : Bs w (some ⟨b, off, none⟩) zs) (hn : 4 ≤ n) (hm : ¬ rdM zs / 4096 % 2 = 0) :
    Calls Tryz.prog 66 #[.slice (some ⟨b, off, none⟩) n c] w fun e w' => e = .returned (.tuple #[.agg hd0.toArray, .int .i64 60]) ∧ Below w.heap.size w w' := by
  have hln : n ≤ 140737488355328 := by rw [← hz]; exact hB.len
  obtain ⟨m0, m1⟩ := rdM_bd hB.bytes
  have hand := and_bit12 _ m0 m1
  rw [show rdM zs / 4096 % 2 = 1 by omega, Int.one_mul] at hand
  have HB := Hid.mk' hB
  have HN := Hid.mk' hz
  clear hB hz hm
  go_enter Tryz.func66, Tryz.ntmps66
  go_wp2_with fail
  have b1 : Below w.heap.size w (w.alloc (.cells #[.int .u8 0, .int .u16 0, .int .u16 0] 33)) := (Below.refl _ _).alloc (Nat.le_refl _) _
  have key := get16_any b off n c 0 zs _ HN.out (HB.out.below b1) (by omega)
  refine key.mono ?_
  rw [show zs.getD 0 0 * 256 + zs.getD (0 + 1) 0 = rdM zs from rfl]
  rintro e w2 ⟨rfl, d2⟩
  have R2 := heap_alloc_new w (.cells #[.int .u8 0, .int .u16 0, .int .u16 0] 33)
  rw [← d2.heap] at R2
  have r2 := Hid.mk' R2
  have B2 := Hid.mk' (b1.trans (d2.below _))
  have S2 : Hid (w2.heap.size = w.heap.size + 1) := Hid.mk' (by rw [d2.heap]; simp)
  obtain ⟨V, HV⟩ : ∃ V, Hid (rdM zs = V) := ⟨_, rfl⟩
  rw [HV.out] at m0 m1 hand ⊢
  have c0 : w2.cell? ⟨w.heap.size, 0, none⟩ = some (.int .u8 0) := cell_of_row w2 _ _ _ _ _ r2.out
  have c1 : w2.cell? ⟨w.heap.size, 1, none⟩ = some (.int .u16 0) := cell_of_row w2 _ _ _ _ _ r2.out
  have c2 : w2.cell? ⟨w.heap.size, 2, none⟩ = some (.int .u16 0) := cell_of_row w2 _ _ _ _ _ r2.out
  have f0 : w2.frozen? ⟨w.heap.size, 0, none⟩ = false := frozen_of_row w2 _ _ _ _ r2.out
  have f1 : w2.frozen? ⟨w.heap.size, 1, none⟩ = false := frozen_of_row w2 _ _ _ _ r2.out
  have f2 : w2.frozen? ⟨w.heap.size, 2, none⟩ = false := frozen_of_row w2 _ _ _ _ r2.out
  clear key b1 d2 R2
  go_wp2_with fail
  have R5 : Hid ((w2.setCells w.heap.size 0 hd0).heap[w.heap.size]? = some (.cells hd0.toArray 33 (0, 0))) := heap_whole (L := hd0) r2.out rfl
  have B5 : Hid (Below w.heap.size w (w2.setCells w.heap.size 0 hd0)) := B2.out.trans (((Kept.refl (fun k => k = w.heap.size) w2).setCells w.heap.size 0 hd0 (fun _ => rfl)).below B2.out.size (fun k hk => by omega))
  refine ret_cell_tmp rfl w.heap.size 33 hd0 (0, 0) _ rfl R5.out Tryz.underlying33 rfl info_hd rfl ?_
  exact ⟨rfl, B5.out⟩

set_option maxHeartbeats 400000 in
theorem lread_ok (b off : Nat) (n c : Nat) (zs : List Int) (w : World) (hz : zs.length = n) (hB : Bs w (some ⟨b, off, none⟩) zs) (hn : 4 ≤ n) (hm : rdM zs / 4096 % 2 = 0) :
    Calls Tryz.prog 66 #[.slice (some ⟨b, off, none⟩) n c] w fun e w' => e = .returned (.tuple #[.agg (tgC (rdM zs / 8192) (rdM zs % 4096) (rdT zs)).toArray, .int .i64 0]) ∧ Below w.heap.size w w' := by
  have hln : n ≤ 140737488355328 := by rw [← hz]; exact hB.len
  obtain ⟨m0, m1⟩ := rdM_bd hB.bytes
  obtain ⟨t0, t1⟩ := rdT_bd hB.bytes
  have hand := and_bit12 _ m0 m1
  have hand2 := and12 _ m0 m1
  rw [hm, Int.zero_mul] at hand
  have HB := Hid.mk' hB
  have HN := Hid.mk' hz
  clear hB hz hm
  obtain ⟨RES, HRES⟩ : ∃ RES, Hid (tgC (rdM zs / 8192) (rdM zs % 4096) (rdT zs) = RES) := ⟨_, rfl⟩
  rw [HRES.out]
  go_enter Tryz.func66, Tryz.ntmps66
  go_wp2_with fail
  have b1 : Below w.heap.size w (w.alloc (.cells #[.int .u8 0, .int .u16 0, .int .u16 0] 33)) := (Below.refl _ _).alloc (Nat.le_refl _) _
  have key := get16_any b off n c 0 zs _ HN.out (HB.out.below b1) (by omega)
  refine key.mono ?_
  rw [show zs.getD 0 0 * 256 + zs.getD (0 + 1) 0 = rdM zs from rfl]
  rintro e w2 ⟨rfl, d2⟩
  have R2 := heap_alloc_new w (.cells #[.int .u8 0, .int .u16 0, .int .u16 0] 33)
  rw [← d2.heap] at R2
  have r2 := Hid.mk' R2
  have B2 := Hid.mk' (b1.trans (d2.below _))
  obtain ⟨V, HV⟩ : ∃ V, Hid (rdM zs = V) := ⟨_, rfl⟩
  rw [HV.out] at m0 m1 hand hand2 HRES ⊢
  clear key b1 d2 R2
  go_wp2_with fail
  have key := get16_any b off n c 2 zs w2 HN.out (HB.out.below B2.out) (by omega)
  refine key.mono ?_
  rw [show zs.getD 2 0 * 256 + zs.getD (2 + 1) 0 = rdT zs from rfl]
  rintro e w3 ⟨rfl, d3⟩
  have R3 := r2.out
  rw [← d3.heap] at R3
  have r3 := Hid.mk' R3
  have B3 := Hid.mk' (B2.out.trans (d3.below _))
  obtain ⟨T, HT⟩ : ∃ T, Hid (rdT zs = T) := ⟨_, rfl⟩
  rw [HT.out] at t0 t1 HRES ⊢
  clear key d3 R3 B2 r2
  have c0 : w3.cell? ⟨w.heap.size, 0, none⟩ = some (.int .u8 0) := cell_of_row w3 _ _ _ _ _ r3.out
  have c1 : w3.cell? ⟨w.heap.size, 1, none⟩ = some (.int .u16 0) := cell_of_row w3 _ _ _ _ _ r3.out
  have c2 : w3.cell? ⟨w.heap.size, 2, none⟩ = some (.int .u16 0) := cell_of_row w3 _ _ _ _ _ r3.out
  have f0 : w3.frozen? ⟨w.heap.size, 0, none⟩ = false := frozen_of_row w3 _ _ _ _ r3.out
  have f1 : w3.frozen? ⟨w.heap.size, 1, none⟩ = false := frozen_of_row w3 _ _ _ _ r3.out
  have f2 : w3.frozen? ⟨w.heap.size, 2, none⟩ = false := frozen_of_row w3 _ _ _ _ r3.out
  go_wp2_with fail
  have HX : Hid (((w3.setCell ⟨w.heap.size, 0, none⟩ (.int .u8 (V / 8192))).setCell ⟨w.heap.size, 1, none⟩ (.int .u16 (V % 4096))).setCell ⟨w.heap.size, 2, none⟩ (.int .u16 T) = w3.setCells w.heap.size 0 RES) := Hid.mk' (by rw [← HRES.out]; rfl)
  rw [HX.out]
  have R5 : Hid ((w3.setCells w.heap.size 0 RES).heap[w.heap.size]? = some (.cells RES.toArray 33 (0, 0))) := heap_whole (L := hd0) r3.out (by rw [← HRES.out]; rfl)
  have B5 : Hid (Below w.heap.size w (w3.setCells w.heap.size 0 RES)) := B3.out.trans (((Kept.refl (fun k => k = w.heap.size) w3).setCells w.heap.size 0 RES (fun _ => rfl)).below B3.out.size (fun k hk => by omega))
  refine ret_cell_tmp rfl w.heap.size 33 RES (0, 0) _ rfl R5.out Tryz.underlying33 rfl (by rw [← HRES.out]; exact info_hd) rfl ?_
  exact ⟨rfl, B5.out⟩

set_option maxHeartbeats 400000 in
theorem rcheck_any (p i t : Int) (w : World) (h : Tg p i t) : Calls Tryz.prog 57 #[.agg (tgC p i t).toArray] w fun e w' => e = .returned (.int .i64 (tgE p i)) ∧ Below w.heap.size w w' := by
  obtain ⟨p0, p1, i0, i1, t0, t1⟩ := h
  unfold tgC tgE
  by_cases hp : p ≤ 7
  · by_cases hi : i ≤ 4095
    · rw [if_pos ⟨hp, hi⟩]
      go_enter Tryz.func57, Tryz.ntmps57
      go_wp2_with fail
      go_ret
      exact ⟨rfl, (Below.refl _ _).alloc (Nat.le_refl _) _⟩
    · rw [if_neg (fun e => hi e.2)]
      go_enter Tryz.func57, Tryz.ntmps57
      go_wp2_with fail
      go_ret
      exact ⟨rfl, (Below.refl _ _).alloc (Nat.le_refl _) _⟩
  · rw [if_neg (fun e => hp e.1)]
    go_enter Tryz.func57, Tryz.ntmps57
    go_wp2_with fail
    go_ret
    exact ⟨rfl, (Below.refl _ _).alloc (Nat.le_refl _) _⟩

theorem numB_two (t : Int) (h0 : 0 ≤ t) (h1 : t ≤ 65535) : numB 2 t = [t / 256, t % 256] := by
  simp [numB]; omega

theorem Kept_block {w w' : World} {g : Nat} {o : Obj} {row : Option Nat} (h : w.heap[g]? = some o) (hg : w.grownBy w' row) (hne : row ≠ some g) : w'.heap[g]? = some o :=
  (hg.block g (Array.getElem?_eq_some_iff.1 h).1 (fun e => hne e.symm)).trans h

set_option maxHeartbeats 400000 in
theorem rbytes_bad (p i t : Int) (a : Option Addr) (n c : Nat) (w : World) (h : Tg p i t) (hp : ¬ (p ≤ 7 ∧ i ≤ 4095)) :
    Calls Tryz.prog 113 #[.agg (tgC p i t).toArray, .slice a n c] w fun e w' => e = .returned (.tuple #[.slice none 0 0, .int .i64 60]) ∧ Below w.heap.size w w' := by
  have HCK : Hid (∀ w : World, Calls Tryz.prog 57 #[.agg (tgC p i t).toArray] w fun e w' => e = .returned (.int .i64 60) ∧ Below w.heap.size w w') := Hid.mk' (fun w => by
    have := rcheck_any p i t w h
    unfold tgE at this
    rw [if_neg hp] at this
    exact this)
  clear h hp
  unfold tgC at *
  go_enter Tryz.func113, Tryz.ntmps113
  go_wp2_with fail
  refine (HCK.out _).mono ?_
  rintro e w2 ⟨rfl, b2⟩
  have B1 : Below w.heap.size w (w.alloc (.cells #[.int .u8 p, .int .u16 i, .int .u16 t] 33)) := (Below.refl _ _).alloc (Nat.le_refl _) _
  have B2 : Hid (Below w.heap.size w w2) := B1.trans (b2.mono B1.size)
  clear b2 B1
  go_wp2_with fail
  go_ret2
  exact ⟨rfl, B2.out⟩

set_option maxHeartbeats 400000 in
theorem rbytes_no (p i t : Int) (a : Option Addr) (n c : Nat) (w : World) (h : Tg p i t) (hp : p ≤ 7) (hi : i ≤ 4095) (hn : ¬ n ≤ 2044) (hl : n ≤ 140737488355328) :
    Calls Tryz.prog 113 #[.agg (tgC p i t).toArray, .slice a n c] w fun e w' => e = .returned (.tuple #[.slice none 0 0, .int .i64 5]) ∧ Below w.heap.size w w' := by
  have HCK : Hid (∀ w : World, Calls Tryz.prog 57 #[.agg (tgC p i t).toArray] w fun e w' => e = .returned (.int .i64 0) ∧ Below w.heap.size w w') := Hid.mk' (fun w => by
    have := rcheck_any p i t w h
    unfold tgE at this
    rw [if_pos ⟨hp, hi⟩] at this
    exact this)
  clear h hp hi
  unfold tgC at *
  go_enter Tryz.func113, Tryz.ntmps113
  go_wp2_with fail
  refine (HCK.out _).mono ?_
  rintro e w2 ⟨rfl, b2⟩
  have B1 : Below w.heap.size w (w.alloc (.cells #[.int .u8 p, .int .u16 i, .int .u16 t] 33)) := (Below.refl _ _).alloc (Nat.le_refl _) _
  have B2 : Hid (Below w.heap.size w w2) := B1.trans (b2.mono B1.size)
  clear b2 B1
  go_wp2_with fail
  go_ret2
  exact ⟨rfl, B2.out⟩

set_option maxHeartbeats 1000000 in
theorem rbytes_ok (p i t : Int) (a : Option Addr) (n c : Nat) (w : World) (h : Tg p i t) (hp : p ≤ 7) (hi : i ≤ 4095) (hn : n ≤ 2044) :
    Calls Tryz.prog 113 #[.agg (tgC p i t).toArray, .slice a n c] w fun e w' => ∃ v, e = .returned (.tuple #[v, .int .i64 0]) ∧ w'.ownsRow w.heap.size 5 1 v 4 ((tgB p i t).map (Value.int .u8)) ∧ Below w.heap.size w w' := by
  have HCK : Hid (∀ w : World, Calls Tryz.prog 57 #[.agg (tgC p i t).toArray] w fun e w' => e = .returned (.int .i64 0) ∧ Below w.heap.size w w') := Hid.mk' (fun w => by
    have := rcheck_any p i t w h
    unfold tgE at this
    rw [if_pos ⟨hp, hi⟩] at this
    exact this)
  obtain ⟨p0, p1, i0, i1, t0, t1⟩ := h
  unfold tgC at *
  have CE : Hid (∀ w' : World, w'.heap[w.heap.size]? = some (.cells #[.int .u8 p, .int .u16 i, .int .u16 t] 33 (0, 0)) → w'.cell? ⟨w.heap.size, 0, none⟩ = some (.int .u8 p) ∧ w'.cell? ⟨w.heap.size, 1, none⟩ = some (.int .u16 i) ∧ w'.cell? ⟨w.heap.size, 2, none⟩ = some (.int .u16 t)) := Hid.mk' (fun w' hh => by
    refine ⟨?_, ?_, ?_⟩ <;> exact cell_of_row w' _ _ _ _ _ hh)
  go_enter Tryz.func113, Tryz.ntmps113
  go_wp2_with fail
  refine (HCK.out _).mono ?_
  rintro e w2 ⟨rfl, b2⟩
  have R1 := heap_alloc_new w (.cells #[.int .u8 p, .int .u16 i, .int .u16 t] 33)
  have B1 : Below w.heap.size w (w.alloc (.cells #[.int .u8 p, .int .u16 i, .int .u16 t] 33)) := (Below.refl _ _).alloc (Nat.le_refl _) _
  have B2 : Hid (Below w.heap.size w w2) := B1.trans (b2.mono B1.size)
  have R2 : Hid (w2.heap[w.heap.size]? = some (.cells #[.int .u8 p, .int .u16 i, .int .u16 t] 33 (0, 0))) := (b2.block _ (Array.getElem?_eq_some_iff.1 R1).1).trans R1
  obtain ⟨c0, c1, c2⟩ := CE.out _ R2.out
  clear b2 R1 B1
  go_wp2_with fail
  refine (number_any (p * 8192 + i) 2 w2 (by omega) (by omega) (by omega)).mono ?_
  rintro e w3 ⟨u3, rfl, hown, b3⟩
  obtain ⟨a3, c3, rfl, s3, -⟩ := bs_own (by rw [numB_length]; exact hown) (numB_bytes 2 (p * 8192 + i)) (by rw [numB_length]; omega)
  rw [numB_length] at *
  have S3 := Hid.mk' s3
  have B3 : Hid (Below w.heap.size w w3) := B2.out.trans (b3.mono B2.out.size)
  have R3 : Hid (w3.heap[w.heap.size]? = some (.cells #[.int .u8 p, .int .u16 i, .int .u16 t] 33 (0, 0))) := (b3.block _ (Array.getElem?_eq_some_iff.1 R2.out).1).trans R2.out
  clear hown b3 s3 c0 c1 c2 R2 B2
  go_wp2_with (at_builtin; refine wpList_app_own rfl _ _ rfl w3.heap.size (.slice none 0 0) 0 [] rfl (World.ownsRow_nil _ _ _ _) a3 c3 2 (numB 2 (p * 8192 + i)) rfl (numB_length 2 _) S3.out (by omega) (Nat.le_refl _) ?_; intro v4 w4 hown hgrow hpl; have R4 : Hid (w4.heap[w.heap.size]? = some (.cells #[.int .u8 p, .int .u16 i, .int .u16 t] 33 (0, 0))) := (Kept_block R3.out hgrow (by simp [Value.ownBlock])); have B4 : Hid (Below w.heap.size w w4) := (B3.out.grown hgrow B3.out.size (by intro k hk; simp [Value.ownBlock] at hk)); have S4 := Hid.mk' hgrow.size; have O4 := Hid.mk' hown; obtain ⟨c0, c1, c2⟩ := CE.out _ R4.out; clear hown hgrow hpl)
  refine (number_any t 2 w4 t0 (by omega) (by omega)).mono ?_
  rintro e w5 ⟨u5, rfl, hown, b5⟩
  obtain ⟨a5, c5, rfl, s5, -⟩ := bs_own (by rw [numB_length]; exact hown) (numB_bytes 2 t) (by rw [numB_length]; omega)
  rw [numB_length] at *
  have S5 := Hid.mk' s5
  have O5 := Hid.mk' (Kept.owns O4.out (Kept.of_below (S := fun _ => False) b5) (fun _ _ h => h))
  have B5 : Hid (Below w.heap.size w w5) := B4.out.trans (b5.mono B4.out.size)
  have T5 := Hid.mk' (Nat.le_trans S4.out b5.size)
  clear hown b5 s5 c0 c1 c2
  go_wp2_with (at_builtin; refine wpList_app_own rfl _ _ rfl w3.heap.size v4 (0 + 2) _ rfl O5.out a5 c5 2 (numB 2 t) rfl (numB_length 2 t) S5.out (by omega) T5.out ?_; intro v6 w6 hown hgrow hpl; have B6 : Hid (Below w.heap.size w w6) := (B5.out.grown hgrow B5.out.size (by intro k hk; exact Nat.le_trans B3.out.size (O5.out.lt k hk).1)); have O6 := Hid.mk' hown; clear hown hgrow hpl)
  go_ret2
  refine ⟨_, rfl, ?_, B6.out⟩
  have h6 := ownsRow_base O6.out B3.out.size
  rw [numB_two t t0 t1, numB_two (p * 8192 + i) (by omega) (by omega)] at h6
  simpa [tgB] using h6

set_option maxHeartbeats 400000 in
theorem rread_short (a : Option Addr) (n c : Nat) (w : World) (hn : n < 4) :
    Calls Tryz.prog 120 #[.slice a n c] w fun e w' => e = .returned (.tuple #[.agg hd0.toArray, .int .i64 6]) ∧ Below w.heap.size w w' := by
  go_enter Tryz.func120, Tryz.ntmps120
  go_wp2_with fail
  refine ret_cell_tmp rfl w.heap.size 33 _ (0, 0) _ rfl (heap_alloc2_old w _ _) Tryz.underlying33 rfl info_hd rfl ?_
  exact ⟨rfl, ((Below.refl _ _).alloc (Nat.le_refl _) _).alloc (by simp) _⟩

/-- The first byte's bit is the number's. -/
theorem bit_first {zs : List Int} (h : Bytes zs) : rdM zs / 4096 % 2 = zs.getD 0 0 / 16 % 2 := by
  have h0 := h.getD 0
  have h1 := h.getD 1
  unfold rdM; omega

set_option maxHeartbeats 400000 in
theorem rread_bad (b off : Nat) (n c : Nat) (zs : List Int) (w : World) (hz : zs.length = n) (hB : Bs w (some ⟨b, off, none⟩) zs) (hn : 4 ≤ n) (hm : ¬ rdM zs / 4096 % 2 = 0) :
    Calls Tryz.prog 120 #[.slice (some ⟨b, off, none⟩) n c] w fun e w' => e = .returned (.tuple #[.agg hd0.toArray, .int .i64 60]) ∧ Below w.heap.size w w' := by
  have hln : n ≤ 140737488355328 := by rw [← hz]; exact hB.len
  rw [bit_first hB.bytes] at hm
  have cc : w.cell? ⟨b, off, none⟩ = some (.int .u8 (zs.getD 0 0)) := by
    rcases hB.lies with h0 | ⟨b', off', e, hc⟩
    · omega
    · cases e; exact hc 0 (by omega)
  have k0 := hB.bytes.getD 0
  have hlt := lt_of_cell cc
  clear hB hz
  generalize zs.getD 0 0 = u at *
  obtain ⟨u0, u1⟩ := k0
  have hm1 : u / 16 % 2 = 1 := by omega
  have hlt' : b < w.heap.size := hlt
  have hne : ¬ b = w.heap.size := by omega
  have hne1 : ¬ b = w.heap.size + 1 := by omega
  go_enter Tryz.func120, Tryz.ntmps120
  go_wp2_with fail
  refine ret_cell_tmp rfl w.heap.size 33 _ (0, 0) _ rfl (heap_alloc2_old w _ _) Tryz.underlying33 rfl info_hd rfl ?_
  exact ⟨rfl, ((Below.refl _ _).alloc (Nat.le_refl _) _).alloc (by simp) _⟩

set_option maxHeartbeats 1000000 in
theorem rread_ok (b off : Nat) (n c : Nat) (zs : List Int) (w : World) (hz : zs.length = n) (hB : Bs w (some ⟨b, off, none⟩) zs) (hn : 4 ≤ n) (hm : rdM zs / 4096 % 2 = 0) :
    Calls Tryz.prog 120 #[.slice (some ⟨b, off, none⟩) n c] w fun e w' => e = .returned (.tuple #[.agg (tgC (rdM zs / 8192) (rdM zs % 4096) (rdT zs)).toArray, .int .i64 0]) ∧ Below w.heap.size w w' := by
  have hln : n ≤ 140737488355328 := by rw [← hz]; exact hB.len
  obtain ⟨m0, m1⟩ := rdM_bd hB.bytes
  obtain ⟨t0, t1⟩ := rdT_bd hB.bytes
  rw [bit_first hB.bytes] at hm
  have cc : w.cell? ⟨b, off, none⟩ = some (.int .u8 (zs.getD 0 0)) := by
    rcases hB.lies with h0 | ⟨b', off', e, hc⟩
    · omega
    · cases e; exact hc 0 (by omega)
  have k0 := hB.bytes.getD 0
  have hlt := lt_of_cell cc
  have hpr : Hid (zs.getD 0 0 / 32 = rdM zs / 8192) := Hid.mk' (by have := hB.bytes.getD 1; unfold rdM; omega)
  have KV : Hid (∀ w' : World, Below w.heap.size w w' → (Calls Tryz.prog 180 #[.slice (some ⟨b, off, none⟩) n c, .int .i64 0, .int .i64 2] w' fun e w'' => e = .returned (.int .i64 (rdM zs)) ∧ w' = w'') ∧ (Calls Tryz.prog 180 #[.slice (some ⟨b, off, none⟩) n c, .int .i64 2, .int .i64 2] w' fun e w'' => e = .returned (.int .i64 (rdT zs)) ∧ w' = w'')) := Hid.mk' (fun w' hb => by
    have h0 := value_any b off n c 0 2 zs w' hz (hB.below hb) (by omega) (by omega)
    have h2 := value_any b off n c 2 2 zs w' hz (hB.below hb) (by omega) (by omega)
    rw [show valV zs 0 2 = rdM zs by simp [valV, rdM]] at h0
    rw [show valV zs 2 2 = rdT zs by simp [valV, rdT]] at h2
    exact ⟨h0, h2⟩)
  clear hB hz
  obtain ⟨RES, HRES⟩ : ∃ RES, Hid (tgC (rdM zs / 8192) (rdM zs % 4096) (rdT zs) = RES) := ⟨_, rfl⟩
  rw [HRES.out]
  rw [← hpr.out] at HRES
  obtain ⟨V, HV⟩ : ∃ V, Hid (rdM zs = V) := ⟨_, rfl⟩
  obtain ⟨T, HT⟩ : ∃ T, Hid (rdT zs = T) := ⟨_, rfl⟩
  rw [HV.out] at m0 m1 HRES KV
  rw [HT.out] at t0 t1 HRES KV
  clear hpr
  generalize zs.getD 0 0 = u at *
  obtain ⟨u0, u1⟩ := k0
  have hlt' : b < w.heap.size := hlt
  have hne : ¬ b = w.heap.size := by omega
  have hne1 : ¬ b = w.heap.size + 1 := by omega
  go_enter Tryz.func120, Tryz.ntmps120
  go_wp2_with fail
  obtain ⟨W1, hW1⟩ : ∃ W1, W1 = (w.alloc (.cells #[.int .u8 0, .int .u16 0, .int .u16 0] 33)).alloc (.cells #[.int .u8 0, .int .u16 0, .int .u16 0] 33) := ⟨_, rfl⟩
  rw [← hW1]
  have B1 : Hid (Below w.heap.size w W1) := by rw [hW1]; exact ((Below.refl _ _).alloc (Nat.le_refl _) _).alloc (by simp) _
  have R1 : Hid (W1.heap[w.heap.size]? = some (.cells #[.int .u8 0, .int .u16 0, .int .u16 0] 33 (0, 0))) := by rw [hW1]; exact heap_alloc2_old w _ _
  have d1 : W1.cell? ⟨b, off, none⟩ = some (.int .u8 u) := (Kept.of_below (S := fun _ => False) B1.out).cell cc (fun h => h)
  have BA : Hid (Below w.heap.size w (W1.alloc (.cells #[.int .u8 0, .int .u16 0, .int .u16 0] 33)).drew) := (B1.out.alloc B1.out.size _).drew
  have BD : Hid (Below w.heap.size w W1.drew) := B1.out.drew
  have e1 : IntKind.u8.wrap (u.tdiv 32) = u / 32 := by rw [Int.tdiv_eq_ediv_of_nonneg u0]; rw [IntKind.wrap_u8]; omega
  have e2 : V.tmod 4096 = V % 4096 := Int.tmod_eq_emod_of_nonneg m0
  have e3 : IntKind.u16.wrap (V % 4096) = V % 4096 := by rw [IntKind.wrap_u16]; omega
  have e4 : IntKind.u16.wrap T = T := by rw [IntKind.wrap_u16]; omega
  have hltW : b < W1.heap.size := lt_of_cell d1
  have hneW : ¬ b = W1.heap.size := by omega
  have SZ : Hid (w.heap.size < W1.heap.size) := Hid.mk' (Array.getElem?_eq_some_iff.1 R1.out).1
  clear hW1 cc hlt hlt' hne hne1
  have h0n : (0 : Int) < (n : Int) := by omega
  have h0n' : 0 < n := by omega
  go_region_held3 (fun w' => w'.cell? ⟨b, off, none⟩ = some (.int .u8 u)) (go_keep) (first | (go_at_call_of 180 (Value.int IntKind.i64 0); refine (KV.out _ (by first | exact BD.out | exact BA.out)).1.mono ?_; rintro e w5 ⟨rfl, rfl⟩) | (go_at_call 180; refine (KV.out _ (by first | exact BD.out | exact BA.out)).2.mono ?_; rintro e w5 ⟨rfl, rfl⟩))
  all_goals
    obtain ⟨W2, hW2⟩ : ∃ W2, W2 = (W1.alloc (.cells #[.int .u8 (u / 32), .int .u16 (V % 4096), .int .u16 T] 33)).drew := ⟨_, rfl⟩
    rw [← hW2]
    have R2 : Hid (W2.heap[w.heap.size]? = some (.cells #[.int .u8 0, .int .u16 0, .int .u16 0] 33 (0, 0))) := by rw [hW2]; exact (Below.heap_alloc W1 _ _ SZ.out).trans R1.out
    have Q2 : Hid (W2.heap[W1.heap.size]? = some (.cells #[.int .u8 (u / 32), .int .u16 (V % 4096), .int .u16 T] 33 (0, 0))) := by rw [hW2]; exact heap_alloc_new W1 _
    have B2 : Hid (Below w.heap.size w W2) := by rw [hW2]; exact (B1.out.alloc B1.out.size _).drew
    clear hW2 R1 B1 d1 hltW hneW
    have q0 : W2.cell? ⟨W1.heap.size, 0, none⟩ = some (.int .u8 (u / 32)) := cell_of_row W2 _ _ _ _ _ Q2.out
    have q1 : W2.cell? ⟨W1.heap.size, 1, none⟩ = some (.int .u16 (V % 4096)) := cell_of_row W2 _ _ _ _ _ Q2.out
    have q2 : W2.cell? ⟨W1.heap.size, 2, none⟩ = some (.int .u16 T) := cell_of_row W2 _ _ _ _ _ Q2.out
    have c0 : W2.cell? ⟨w.heap.size, 0, none⟩ = some (.int .u8 0) := cell_of_row W2 _ _ _ _ _ R2.out
    have c1 : W2.cell? ⟨w.heap.size, 1, none⟩ = some (.int .u16 0) := cell_of_row W2 _ _ _ _ _ R2.out
    have c2 : W2.cell? ⟨w.heap.size, 2, none⟩ = some (.int .u16 0) := cell_of_row W2 _ _ _ _ _ R2.out
    have f0 : W2.frozen? ⟨w.heap.size, 0, none⟩ = false := frozen_of_row W2 _ _ _ _ R2.out
    have f1 : W2.frozen? ⟨w.heap.size, 1, none⟩ = false := frozen_of_row W2 _ _ _ _ R2.out
    have f2 : W2.frozen? ⟨w.heap.size, 2, none⟩ = false := frozen_of_row W2 _ _ _ _ R2.out
    go_wp2_with fail
    have HX : Hid (((W2.setCell ⟨w.heap.size, 0, none⟩ (.int .u8 (u / 32))).setCell ⟨w.heap.size, 1, none⟩ (.int .u16 (V % 4096))).setCell ⟨w.heap.size, 2, none⟩ (.int .u16 T) = W2.setCells w.heap.size 0 RES) := Hid.mk' (by rw [← HRES.out]; rfl)
    rw [HX.out]
    have R5 : Hid ((W2.setCells w.heap.size 0 RES).heap[w.heap.size]? = some (.cells RES.toArray 33 (0, 0))) := heap_whole (L := hd0) R2.out (by rw [← HRES.out]; rfl)
    have B5 : Hid (Below w.heap.size w (W2.setCells w.heap.size 0 RES)) := B2.out.trans (((Kept.refl (fun k => k = w.heap.size) W2).setCells w.heap.size 0 RES (fun _ => rfl)).below B2.out.size (fun k hk => by omega))
    refine ret_cell_tmp rfl w.heap.size 33 RES (0, 0) _ rfl R5.out Tryz.underlying33 rfl (by rw [← HRES.out]; exact info_hd) rfl ?_
    exact ⟨rfl, B5.out⟩

theorem wf_u8 {z : Int} (h0 : 0 ≤ z) (h1 : z ≤ 255) : (Lit.int .u8 z).wf = true := by
  have e0 : IntKind.u8.min = 0 := by decide
  have e1 : IntKind.u8.max = 255 := by decide
  simp [Lit.wf, e0, e1]; omega

theorem wf_u16 {z : Int} (h0 : 0 ≤ z) (h1 : z ≤ 65535) : (Lit.int .u16 z).wf = true := by
  have e0 : IntKind.u16.min = 0 := by decide
  have e1 : IntKind.u16.max = 65535 := by decide
  simp [Lit.wf, e0, e1]; omega

theorem kl_tg {p i t : Int} (h : Tg p i t) : Tryz.prog.keyLits 3 33 (tgC p i t) = some ([([Value.int .u8 p], [Lit.int .u8 p]), ([Value.int .u16 i], [Lit.int .u16 i]), ([Value.int .u16 t], [Lit.int .u16 t])].map (·.2)).flatten := by
  refine kl_struct (d := 2) Tryz.underlying33 (by kernel_rfl) _ _ (by simp [tgC]) (by kernel_rfl) rfl (fun j f q hf hq => ?_)
  match j, hf, hq with
  | 0, hf, hq =>
    cases hf; cases hq
    exact ⟨rfl, by kernel_rfl, kl_int Tryz.underlying5 1 p (wf_u8 h.p0 h.p1)⟩
  | 1, hf, hq =>
    cases hf; cases hq
    exact ⟨rfl, by kernel_rfl, kl_int Tryz.underlying29 1 i (wf_u16 h.i0 h.i1)⟩
  | 2, hf, hq =>
    cases hf; cases hq
    exact ⟨rfl, by kernel_rfl, kl_int Tryz.underlying29 1 t (wf_u16 h.t0 h.t1)⟩
  | j + 3, hf, hq => simp at hq

/-- Cells that are a header's. -/
def Hd (L : List Value) : Prop := ∃ p i t, L = tgC p i t ∧ Tg p i t

theorem hd_len {L : List Value} (h : Hd L) : L.length = 3 := by obtain ⟨p, i, t, rfl, _⟩ := h; rfl

theorem hd_one {L : List Value} (h : Hd L) : L.toArray.all (·.oneCell') = true := by
  obtain ⟨p, i, t, rfl, _⟩ := h
  refine all_oneCell_toArray (fun v hv => ?_)
  simp only [tgC, List.mem_cons, List.not_mem_nil, or_false] at hv
  rcases hv with rfl | rfl | rfl <;> rfl

theorem hd_eq {L : List Value} (h : Hd L) (w : World) : (Op.equalIn 10000 33 (.agg L.toArray) (.agg L.toArray)).run Tryz.prog w = .ok true w := by
  obtain ⟨p, i, t, rfl, h⟩ := h
  exact equal_same 3 (by omega) (by kernel_rfl) (by simp only [Value.formed, Tryz.underlying33]; kernel_rfl) 3 (kl_tg h) w

theorem hd_0 : Hd hd0 := ⟨0, 0, 0, rfl, by omega, by omega, by omega, by omega, by omega, by omega⟩

/-- Check's answer, of cells. -/
def ckE : List Value → Int
  | [.int _ p, .int _ i, .int _ _] => tgE p i
  | _ => 0

/-- A header's bytes, of cells. -/
def hdB : List Value → List Int
  | [.int _ p, .int _ i, .int _ t] => tgB p i t
  | _ => []

/-- Bytes' answer. -/
def byE (L : List Value) (ys : List Int) : Int := if ckE L = 0 then (if ys.length ≤ 2044 then 0 else 5) else ckE L

def byB (L : List Value) (ys : List Int) : List Int := if byE L ys = 0 then hdB L else []

/-- Read's answer. -/
def rdE (zs : List Int) : Int := if zs.length < 4 then 6 else if rdM zs / 4096 % 2 = 0 then 0 else 60

def rdL (zs : List Int) : List Value := if rdE zs = 0 then tgC (rdM zs / 8192) (rdM zs % 4096) (rdT zs) else hd0

theorem h_check (L : List Value) (w : World) (h : Hd L) : Calls Tryz.prog 86 #[.agg L.toArray] w fun e w' => e = .returned (.int .i64 (ckE L)) ∧ Below w.heap.size w w' := by
  obtain ⟨p, i, t, rfl, h⟩ := h
  exact lcheck_any p i t w h

theorem h_rcheck (L : List Value) (w : World) (h : Hd L) : Calls Tryz.prog 57 #[.agg L.toArray] w fun e w' => e = .returned (.int .i64 (ckE L)) ∧ Below w.heap.size w w' := by
  obtain ⟨p, i, t, rfl, h⟩ := h
  exact rcheck_any p i t w h

theorem h_bytes (L : List Value) (a : Option Addr) (n c : Nat) (ys : List Int) (w : World) (h : Hd L) (hy : ys.length = n) (hB : Bs w a ys) :
    Calls Tryz.prog 87 #[.agg L.toArray, .slice a n c] w fun e w' => ∃ v, e = .returned (.tuple #[v, .int .i64 (byE L ys)]) ∧ w'.ownsRow w.heap.size 5 1 v (byB L ys).length ((byB L ys).map (Value.int .u8)) ∧ Below w.heap.size w w' := by
  have hl := hB.len
  obtain ⟨p, i, t, rfl, h⟩ := h
  rw [hy] at hl
  by_cases hc : p ≤ 7 ∧ i ≤ 4095
  · have e0 : ckE (tgC p i t) = 0 := by show tgE p i = 0; unfold tgE; rw [if_pos hc]
    by_cases hn : n ≤ 2044
    · have e1 : byE (tgC p i t) ys = 0 := by unfold byE; rw [if_pos e0, hy, if_pos hn]
      unfold byB
      rw [e1, if_pos rfl]
      exact lbytes_ok p i t a n c w h hc.1 hc.2 hn
    · have e1 : byE (tgC p i t) ys = 5 := by unfold byE; rw [if_pos e0, hy, if_neg hn]
      unfold byB
      rw [e1, if_neg (by omega)]
      refine (lbytes_no p i t a n c w h hc.1 hc.2 hn hl).mono ?_
      rintro e w' ⟨rfl, b⟩
      exact ⟨_, rfl, World.ownsRow_nil _ _ _ _, b⟩
  · have e0 : ckE (tgC p i t) = 60 := by show tgE p i = 60; unfold tgE; rw [if_neg hc]
    have e1 : byE (tgC p i t) ys = 60 := by unfold byE; rw [e0, if_neg (by omega)]
    unfold byB
    rw [e1, if_neg (by omega)]
    refine (lbytes_bad p i t a n c w h hc).mono ?_
    rintro e w' ⟨rfl, b⟩
    exact ⟨_, rfl, World.ownsRow_nil _ _ _ _, b⟩

theorem h_rbytes (L : List Value) (a : Option Addr) (n c : Nat) (ys : List Int) (w : World) (h : Hd L) (hy : ys.length = n) (hB : Bs w a ys) :
    Calls Tryz.prog 113 #[.agg L.toArray, .slice a n c] w fun e w' => ∃ v, e = .returned (.tuple #[v, .int .i64 (byE L ys)]) ∧ w'.ownsRow w.heap.size 5 1 v (byB L ys).length ((byB L ys).map (Value.int .u8)) ∧ Below w.heap.size w w' := by
  have hl := hB.len
  obtain ⟨p, i, t, rfl, h⟩ := h
  rw [hy] at hl
  by_cases hc : p ≤ 7 ∧ i ≤ 4095
  · have e0 : ckE (tgC p i t) = 0 := by show tgE p i = 0; unfold tgE; rw [if_pos hc]
    by_cases hn : n ≤ 2044
    · have e1 : byE (tgC p i t) ys = 0 := by unfold byE; rw [if_pos e0, hy, if_pos hn]
      unfold byB
      rw [e1, if_pos rfl]
      exact rbytes_ok p i t a n c w h hc.1 hc.2 hn
    · have e1 : byE (tgC p i t) ys = 5 := by unfold byE; rw [if_pos e0, hy, if_neg hn]
      unfold byB
      rw [e1, if_neg (by omega)]
      refine (rbytes_no p i t a n c w h hc.1 hc.2 hn hl).mono ?_
      rintro e w' ⟨rfl, b⟩
      exact ⟨_, rfl, World.ownsRow_nil _ _ _ _, b⟩
  · have e0 : ckE (tgC p i t) = 60 := by show tgE p i = 60; unfold tgE; rw [if_neg hc]
    have e1 : byE (tgC p i t) ys = 60 := by unfold byE; rw [e0, if_neg (by omega)]
    unfold byB
    rw [e1, if_neg (by omega)]
    refine (rbytes_bad p i t a n c w h hc).mono ?_
    rintro e w' ⟨rfl, b⟩
    exact ⟨_, rfl, World.ownsRow_nil _ _ _ _, b⟩

theorem bs_some {w : World} {a : Option Addr} {zs : List Int} (h : Bs w a zs) (hp : 0 < zs.length) : ∃ b off, a = some ⟨b, off, none⟩ := by
  rcases h.lies with h0 | ⟨b, off, e, _⟩
  · omega
  · exact ⟨b, off, e⟩

theorem h_read (a : Option Addr) (n c : Nat) (zs : List Int) (w : World) (hz : zs.length = n) (hB : Bs w a zs) (_hc : n ≤ c) :
    Calls Tryz.prog 66 #[.slice a n c] w fun e w' => e = .returned (.tuple #[.agg (rdL zs).toArray, .int .i64 (rdE zs)]) ∧ Below w.heap.size w w' := by
  by_cases hn : n < 4
  · have e1 : rdE zs = 6 := by unfold rdE; rw [hz, if_pos hn]
    unfold rdL
    rw [e1, if_neg (by omega)]
    exact lread_short a n c w hn
  · obtain ⟨b, off, rfl⟩ := bs_some hB (by omega)
    by_cases hm : rdM zs / 4096 % 2 = 0
    · have e1 : rdE zs = 0 := by unfold rdE; rw [hz, if_neg hn, if_pos hm]
      unfold rdL
      rw [e1, if_pos rfl]
      exact lread_ok b off n c zs w hz hB (by omega) hm
    · have e1 : rdE zs = 60 := by unfold rdE; rw [hz, if_neg hn, if_neg hm]
      unfold rdL
      rw [e1, if_neg (by omega)]
      exact lread_bad b off n c zs w hz hB (by omega) hm

theorem h_rread (a : Option Addr) (n c : Nat) (zs : List Int) (w : World) (hz : zs.length = n) (hB : Bs w a zs) (_hc : n ≤ c) :
    Calls Tryz.prog 120 #[.slice a n c] w fun e w' => e = .returned (.tuple #[.agg (rdL zs).toArray, .int .i64 (rdE zs)]) ∧ Below w.heap.size w w' := by
  by_cases hn : n < 4
  · have e1 : rdE zs = 6 := by unfold rdE; rw [hz, if_pos hn]
    unfold rdL
    rw [e1, if_neg (by omega)]
    exact rread_short a n c w hn
  · obtain ⟨b, off, rfl⟩ := bs_some hB (by omega)
    by_cases hm : rdM zs / 4096 % 2 = 0
    · have e1 : rdE zs = 0 := by unfold rdE; rw [hz, if_neg hn, if_pos hm]
      unfold rdL
      rw [e1, if_pos rfl]
      exact rread_ok b off n c zs w hz hB (by omega) hm
    · have e1 : rdE zs = 60 := by unfold rdE; rw [hz, if_neg hn, if_neg hm]
      unfold rdL
      rw [e1, if_neg (by omega)]
      exact rread_bad b off n c zs w hz hB (by omega) hm

theorem hd_rd {zs : List Int} (h : Bytes zs) : Hd (rdL zs) := by
  unfold rdL
  obtain ⟨m0, m1⟩ := rdM_bd h
  obtain ⟨t0, t1⟩ := rdT_bd h
  split
  · exact ⟨_, _, _, rfl, by omega, by omega, by omega, by omega, t0, t1⟩
  · exact hd_0

theorem tgE_le {p i : Int} (h : tgE p i = 0) : p ≤ 7 ∧ i ≤ 4095 := by
  unfold tgE at h
  split at h
  · assumption
  · omega

theorem byE_zero {L : List Value} {ys : List Int} (h : byE L ys = 0) : ckE L = 0 ∧ ys.length ≤ 2044 := by
  unfold byE at h
  split at h
  · split at h
    · exact ⟨by assumption, by assumption⟩
    · omega
  · contradiction

theorem byB_bytes {L : List Value} {ys : List Int} (h : Hd L) (_hy : Bytes ys) : Bytes (byB L ys) := by
  unfold byB
  split
  · rename_i he
    obtain ⟨p, i, t, rfl, h⟩ := h
    obtain ⟨p1, i1⟩ := tgE_le (byE_zero he).1
    obtain ⟨p0, -, i0, -, t0, t1⟩ := h
    intro z hz
    simp [hdB, tgC, tgB] at hz
    rcases hz with rfl | rfl | rfl | rfl <;> omega
  · intro z hz; simp at hz

theorem byB_le {L : List Value} {ys : List Int} (h : Hd L) : (byB L ys).length ≤ 4 := by
  obtain ⟨p, i, t, rfl, h⟩ := h
  unfold byB
  split <;> simp [hdB, tgC, tgB]

theorem m_back {L : List Value} {ys : List Int} (h : Hd L) (_hy : Bytes ys) (he : byE L ys = 0) : (byB L ys).length = 4 ∧ rdL (byB L ys ++ ys) = L ∧ rdE (byB L ys ++ ys) = 0 ∧ ckE L = 0 := by
  have hc := (byE_zero he).1
  obtain ⟨p, i, t, rfl, h⟩ := h
  obtain ⟨p1, i1⟩ := tgE_le hc
  obtain ⟨p0, -, i0, -, t0, t1⟩ := h
  have e : byB (tgC p i t) ys = tgB p i t := by unfold byB; rw [if_pos he]; rfl
  have eM : rdM (tgB p i t ++ ys) = p * 8192 + i := by simp [rdM, tgB]; omega
  have eT : rdT (tgB p i t ++ ys) = t := by simp [rdT, tgB]; omega
  have eE : rdE (tgB p i t ++ ys) = 0 := by
    unfold rdE
    rw [if_neg (by simp [tgB]), eM, if_pos (by omega)]
  rw [e]
  refine ⟨rfl, ?_, eE, hc⟩
  unfold rdL
  rw [if_pos eE, eM, eT]
  congr 1 <;> omega

theorem m_no {L : List Value} {ys : List Int} (he : ¬ byE L ys = 0) (hc : ckE L = 0) : ¬ ys.length ≤ 2044 := by
  intro hl
  apply he
  unfold byE
  rw [if_pos hc, if_pos hl]

theorem m_none {zs : List Int} (h : ¬ rdE zs = 0) : rdL zs = hd0 := by unfold rdL; rw [if_neg h]

theorem m_short {zs : List Int} (h : zs.length < 4) : rdE zs = 6 := by unfold rdE; rw [if_pos h]

theorem m_again {zs : List Int} (hb : Bytes zs) (he : rdE zs = 0) (hl : zs.length ≤ 2048) : 4 ≤ zs.length ∧ byE (rdL zs) (zs.drop 4) = 0 ∧ byB (rdL zs) (zs.drop 4) = zs.take 4 := by
  have h4 : 4 ≤ zs.length := by
    unfold rdE at he
    split at he
    · omega
    · omega
  have hm : rdM zs / 4096 % 2 = 0 := by
    unfold rdE at he
    rw [if_neg (by omega)] at he
    split at he
    · assumption
    · omega
  obtain ⟨m0, m1⟩ := rdM_bd hb
  have e0 : rdL zs = tgC (rdM zs / 8192) (rdM zs % 4096) (rdT zs) := by unfold rdL; rw [if_pos he]
  have e1 : byE (rdL zs) (zs.drop 4) = 0 := by
    rw [e0]
    unfold byE
    have : ckE (tgC (rdM zs / 8192) (rdM zs % 4096) (rdT zs)) = 0 := by show tgE _ _ = 0; unfold tgE; rw [if_pos (by omega)]
    rw [if_pos this, if_pos (by rw [List.length_drop]; omega)]
  refine ⟨h4, e1, ?_⟩
  unfold byB
  rw [if_pos e1, e0]
  show tgB _ _ _ = _
  match zs, hb, h4 with
  | z0 :: z1 :: z2 :: z3 :: r, hb, _ =>
    have k0 := hb z0 (by simp)
    have k1 := hb z1 (by simp)
    have k2 := hb z2 (by simp)
    have k3 := hb z3 (by simp)
    simp [rdM] at hm
    simp [tgB, rdM, rdT]
    omega

theorem m_first {xs zs : List Int} (hx : 4 ≤ xs.length) (hz : 4 ≤ zs.length) (h : xs.take 4 = zs.take 4) : rdL xs = rdL zs ∧ rdE xs = rdE zs := by
  have g : ∀ k, k < 4 → xs.getD k 0 = zs.getD k 0 := by
    intro k hk
    have e1 : xs.getD k 0 = (xs.take 4).getD k 0 := by rw [List.getD_eq_getElem?_getD, List.getD_eq_getElem?_getD, List.getElem?_take_of_lt hk]
    have e2 : zs.getD k 0 = (zs.take 4).getD k 0 := by rw [List.getD_eq_getElem?_getD, List.getD_eq_getElem?_getD, List.getElem?_take_of_lt hk]
    rw [e1, e2, h]
  have eM : rdM xs = rdM zs := by unfold rdM; rw [g 0 (by omega), g 1 (by omega)]
  have eT : rdT xs = rdT zs := by unfold rdT; rw [g 2 (by omega), g 3 (by omega)]
  have eE : rdE xs = rdE zs := by unfold rdE; rw [if_neg (show ¬ xs.length < 4 by omega), if_neg (show ¬ zs.length < 4 by omega), eM]
  exact ⟨by unfold rdL; rw [eE, eM, eT], eE⟩

def uL : List Value := tgC 5 291 34525

def uY : List Int := []

def uB : List Int := [161, 35, 134, 221]

theorem hd_u : Hd uL := ⟨5, 291, 34525, rfl, by omega, by omega, by omega, by omega, by omega, by omega⟩

theorem uY_bytes : Bytes uY := fun z hz => by simp [uY] at hz

theorem by_u : byE uL uY = 0 ∧ byB uL uY = uB := by decide

def badL : List Value := tgC 8 0 0

theorem hd_bad : Hd badL := ⟨8, 0, 0, rfl, by omega, by omega, by omega, by omega, by omega, by omega⟩

theorem ck_bad : ckE badL = 60 := by decide

/-- A header that came in. -/
theorem hd_open (W : World) (m : sh33.M) (o : sh33.ok W m) : Hd (sh33.cs m) := by
  obtain ⟨p, i, t⟩ := m
  obtain ⟨kp, ki, kt⟩ := o
  exact ⟨p, i, t, rfl, (bounds_u8 kp).1, (bounds_u8 kp).2, (bounds_u16 ki).1, (bounds_u16 ki).2, (bounds_u16 kt).1, (bounds_u16 kt).2⟩

end Go.Proofs.YtednmdkjhiihcaaGreat.K06
