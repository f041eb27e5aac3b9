/- Headers of the kind 05: the program's calls and the document's, in one form for all inputs, and the mathematics between them. -/
import Derived.Test.YtednmdkjhiihcaaGreatGa
import Derived.Test.YtednmdkjhiihcaaGreatGc
namespace Go.Proofs.YtednmdkjhiihcaaGreat.K05
open Go.ChangeShapes Go.WideShapes Go.ChangeAt Go.RowKit

/-- k bytes of a number, the highest one first. -/
def numB : Nat → Int → List Int
  | 0, _ => []
  | k + 1, v => numB k (v / 256) ++ [v % 256]

theorem numB_length : ∀ (k : Nat) (v : Int), (numB k v).length = k
  | 0, _ => rfl
  | k + 1, v => by simp [numB, numB_length k]

theorem numB_bytes : ∀ (k : Nat) (v : Int), Bytes (numB k v)
  | 0, _ => fun z hz => by simp [numB] at hz
  | k + 1, v => bytes_append (numB_bytes k _) (fun z hz => by simp at hz; omega)

/-- So many bytes from a place on, as a number. -/
def valV (B : List Int) (x : Nat) : Nat → Int
  | 0 => 0
  | k + 1 => valV B x k * 256 + B.getD (x + k) 0

theorem valV_bd {B : List Int} (h : Bytes B) (x : Nat) : ∀ k : Nat, 0 ≤ valV B x k ∧ valV B x k < 256 ^ k
  | 0 => by simp [valV]
  | k + 1 => by
    have ih := valV_bd h x k
    have hb := h.getD (x + k)
    simp only [valV]
    rw [Int.pow_succ]
    omega

theorem pow256 {k : Nat} (h : k ≤ 4) : (256 : Int) ^ k ≤ 4294967296 := by
  match k, h with
  | 0, _ => decide
  | 1, _ => decide
  | 2, _ => decide
  | 3, _ => decide
  | 4, _ => decide

set_option maxHeartbeats 400000 in
theorem number_any (v : Int) (k : Nat) (w : World) (hv : 0 ≤ v) (hv' : v ≤ 4294967296) (hk : k ≤ 16) :
    Calls Tryz.prog 167 #[.int .i64 v, .int .i64 k] w fun e w' => ∃ u, e = .returned u ∧ w'.ownsRow w.heap.size 5 1 u k ((numB k v).map (Value.int .u8)) ∧ Below w.heap.size w w' := by
  have hmk := make_bytes k (by omega)
  obtain ⟨Z, HZ⟩ : ∃ Z, Hid ((List.replicate k (0 : Int)).map (Value.int .u8) = Z) := ⟨_, rfl⟩
  rw [HZ.out] at hmk
  go_enter Tryz.func167, Tryz.ntmps167
  go_wp2_with fail
  obtain ⟨W1, hW1⟩ : ∃ W1, W1 = w.alloc (.cells Z.toArray 5) := ⟨_, rfl⟩
  rw [← hW1]
  have R1 : Hid (W1.heap[w.heap.size]? = some (.cells Z.toArray 5 (0, 0))) := by rw [hW1]; exact heap_alloc_new w _
  have B1 : Hid (Below w.heap.size w W1) := by rw [hW1]; exact (Below.refl _ _).alloc (Nat.le_refl _) _
  clear hW1 hmk
  go_loopw [0, 6] (fun x i wr => ∃ (m : Nat) (y : Int) (tl : List Int), m ≤ k ∧ i = .int .i64 ((m : Int) - 1) ∧ x = .int .i64 y ∧ 0 ≤ y ∧ y ≤ 4294967296 ∧ Hid (numB k v = numB m y ++ tl) ∧ Hid (wr.heap[w.heap.size]? = some (.cells ((List.replicate m (0 : Int) ++ tl).map (Value.int .u8)).toArray 5 (0, 0))) ∧ Hid (Below w.heap.size w wr)) (fun _ i _ => ((intOf i) + 1).toNat)
  case atStart => exact ⟨k, v, [], Nat.le_refl _, by go_num, rfl, hv, hv', Hid.mk' (by simp), Hid.mk' (by rw [List.append_nil, HZ.out]; exact R1.out), B1⟩
  case round =>
    obtain ⟨m, y, tl, hm, rfl, rfl, hy, hy', HN, HR, HB⟩ := hrel
    match m, HN, HR, hm with
    | 0, HN, HR, hm =>
      have HO : Hid (wr.ownsRow w.heap.size 5 1 (.slice (some ⟨w.heap.size, 0, none⟩) k k) k ((numB k v).map (Value.int .u8))) := by
        refine own_block ?_ (Nat.le_refl _) (by rw [List.length_map, numB_length]) (by omega)
        rw [HR.out, HN.out]; rfl
      go_wp2_with fail
      go_ret
      exact ⟨_, rfl, HO.out, HB.out⟩
    | m + 1, HN, HR, hm =>
      have f0 : wr.frozen? ⟨w.heap.size, m, none⟩ = false := frozen_of_row wr _ m _ _ HR.out
      have c0 : wr.cell? ⟨w.heap.size, m, none⟩ = some (.int .u8 0) := by
        rw [cell_of_row wr _ m _ _ _ HR.out, List.getElem?_toArray, List.getElem?_map, List.getElem?_append_left (by simp), List.getElem?_replicate]
        simp
      go_wp2_with fail
      go_roundw
      case rel =>
        refine ⟨m, y / 256, y % 256 :: tl, by omega, rfl, rfl, by omega, by omega, Hid.mk' ?_, Hid.mk' ?_, (HB.out.setCell (p := ⟨w.heap.size, m, none⟩) (Nat.le_refl _) _ : Below _ _ _)⟩
        · rw [HN.out, numB, List.append_assoc]; rfl
        · rw [Go.heap_setCell_same _ _ m _ _ _ HR.out]
          congr 2
          apply Array.toList_inj.1
          rw [Array.toList_setIfInBounds, ← List.map_set, List.replicate_succ', List.append_assoc, List.set_append_right _ _ (by simp)]
          simp
      case measure => simp [intOf]

set_option maxHeartbeats 400000 in
theorem value_any (b off n c x k : Nat) (zs : List Int) (w : World) (hz : zs.length = n) (hB : Bs w (some ⟨b, off, none⟩) zs) (hk : k ≤ 4) (hx : x + k ≤ n) :
    Calls Tryz.prog 179 #[.slice (some ⟨b, off, none⟩) n c, .int .i64 x, .int .i64 k] w fun e w' => e = .returned (.int .i64 (valV zs x k)) ∧ w = w' := by
  have hln : n ≤ 140737488355328 := by rw [← hz]; exact hB.len
  have HB := Hid.mk' hB
  have HN := Hid.mk' hz
  clear hB hz
  go_enter Tryz.func179, Tryz.ntmps179
  go_wp2_with fail
  go_loop [7, 8] (fun v i => ∃ j : Nat, j ≤ k ∧ i = .int .i64 j ∧ v = .int .i64 (valV zs x j)) (fun _ i => k - (intOf i).toNat)
  case atStart => exact ⟨0, Nat.zero_le _, rfl, rfl⟩
  case round =>
    obtain ⟨j, hj, rfl, rfl⟩ := hrel
    by_cases hlt : j < k
    · have hsp : (j : Int) < (k : Int) := by omega
      have cc : w.cell? ⟨b, off + (x + j), none⟩ = some (.int .u8 (zs.getD (x + j) 0)) := by
        rcases HB.out.lies with h0 | ⟨b', off', e, hc⟩
        · rw [HN.out] at h0; omega
        · cases e; exact hc (x + j) (by rw [HN.out]; omega)
      have hb := HB.out.bytes.getD (x + j)
      have hv := valV_bd HB.out.bytes x j
      have hp := pow256 (k := j) (by omega)
      obtain ⟨y, HY⟩ : ∃ y, Hid (zs.getD (x + j) 0 = y) := ⟨_, rfl⟩
      obtain ⟨V, HV⟩ : ∃ V, Hid (valV zs x j = V) := ⟨_, rfl⟩
      rw [HY.out] at cc hb
      rw [HV.out] at hv ⊢
      have v0 : 0 ≤ V := hv.1
      have v1 : V ≤ 4294967296 := by omega
      have y0 := hb.1
      have y1 := hb.2
      clear hb hv hp
      have hin : (x : Int) + (j : Int) < (n : Int) := by omega
      go_wp2_with fail
      go_round
      case rel => exact ⟨j + 1, hlt, by go_num, by rw [valV, HV.out, HY.out]⟩
      case measure => simp [intOf]; omega
    · obtain rfl : j = k := by omega
      go_wp2_with fail
      go_ret
      exact ⟨rfl, rfl⟩

/-- A header's cells: Dst, Src, Type. -/
def lkC (d s : List Int) (t : Int) : List Value := d.map (Value.int .u8) ++ (s.map (Value.int .u8) ++ [.int .u16 t])

/-- A header's bytes. -/
def lkB (d s : List Int) (t : Int) : List Int := d ++ (s ++ [t / 256, t % 256])

/-- A header as it may be. -/
structure Lk (d s : List Int) (t : Int) : Prop where
  dl : d.length = 6
  sl : s.length = 6
  db : Bytes d
  sb : Bytes s
  t0 : 0 ≤ t
  t1 : t ≤ 65535

theorem lkC_length {d s : List Int} {t : Int} (h : Lk d s t) : (lkC d s t).length = 13 := by
  unfold lkC; simp [h.dl, h.sl]

theorem lkC_cell {d s : List Int} {t : Int} (h : Lk d s t) : (lkC d s t)[12]? = some (.int .u16 t) := by
  unfold lkC
  rw [List.getElem?_append_right (by simp [h.dl]), List.getElem?_append_right (by simp [h.dl, h.sl])]
  simp [h.dl, h.sl]

theorem lkC_one (d s : List Int) (t : Int) : (lkC d s t).toArray.all (·.oneCell') = true := by
  refine all_oneCell_toArray (fun v hv => ?_)
  unfold lkC at hv
  simp only [List.mem_append, List.mem_map, List.mem_singleton] at hv
  rcases hv with ⟨z, _, rfl⟩ | ⟨z, _, rfl⟩ | rfl <;> rfl

/-- The three parts of a header's row of bytes, written one behind the other. -/
theorem lk_row {d s : List Int} {t : Int} (h : Lk d s t) (u v : Value) (hu : u = .int .u8 (t / 256)) (hv : v = .int .u8 (t % 256)) :
    ((put (put ((List.replicate 14 (0 : Int)).map (Value.int .u8)) 0 (d.map (Value.int .u8))) 6 (s.map (Value.int .u8))).set 12 u).set 13 v = (lkB d s t).map (Value.int .u8) := by
  have e1 : put ((List.replicate 14 (0 : Int)).map (Value.int .u8)) 0 (d.map (Value.int .u8)) = d.map (Value.int .u8) ++ ((List.replicate 6 (0 : Int)).map (Value.int .u8) ++ (List.replicate 2 (0 : Int)).map (Value.int .u8)) :=
    put_head ((List.replicate 6 (0 : Int)).map (Value.int .u8)) _ _ (by simp [h.dl])
  rw [e1, put_mid _ _ _ _ 6 (by simp [h.dl]) (by simp [h.sl])]
  have e2 : ∀ (X : List Value) (a b : Value), X.length = 12 → ((X ++ [a, b]).set 12 u).set 13 v = X ++ [u, v] := by
    intro X a b hX
    rw [List.set_append_right _ _ (by omega), hX, List.set_append_right _ _ (by omega), hX]
    rfl
  rw [← List.append_assoc]
  have := e2 (d.map (Value.int .u8) ++ s.map (Value.int .u8)) (.int .u8 0) (.int .u8 0) (by simp [h.dl, h.sl])
  rw [show (List.replicate 2 (0 : Int)).map (Value.int .u8) = [.int .u8 0, .int .u8 0] from rfl, this, hu, hv]
  unfold lkB
  simp

set_option maxHeartbeats 400000 in
theorem lbytes_ok (d s : List Int) (t : Int) (a : Option Addr) (n c : Nat) (w : World) (h : Lk d s t) (hn : n ≤ 2034) :
    Calls Tryz.prog 82 #[.agg (lkC d s t).toArray, .slice a n c] w fun e w' => ∃ v, e = .returned (.tuple #[v, .int .i64 0]) ∧ w'.ownsRow w.heap.size 5 1 v 14 ((lkB d s t).map (Value.int .u8)) ∧ Below w.heap.size w w' := by
  obtain ⟨L, HL⟩ : ∃ L, Hid (lkC d s t = L) := ⟨_, rfl⟩
  rw [HL.out]
  obtain ⟨Z, HZ⟩ : ∃ Z, Hid ((List.replicate 14 (0 : Int)).map (Value.int .u8) = Z) := ⟨_, rfl⟩
  have hmk : ∀ u : World, (Instr.makeSlice 22 (.int .i64 14) (.int .i64 14)).run Tryz.prog u = .ok (.slice (some ⟨u.heap.size, 0, none⟩) 14 14) (u.alloc (.cells Z.toArray 5)) := by
    rw [← HZ.out]; exact make_bytes 14 (by omega)
  have t0 := h.t0
  have t1 := h.t1
  have H := Hid.mk' h
  clear h
  go_enter Tryz.func82, Tryz.ntmps82
  go_wp2_with fail
  obtain ⟨W2, hW2⟩ : ∃ W2, W2 = (w.alloc (.cells L.toArray 31)).alloc (.cells Z.toArray 5) := ⟨_, rfl⟩
  rw [← hW2]
  have X1 : Hid (W2.heap[w.heap.size]? = some (.cells L.toArray 31 (0, 0))) := by rw [hW2]; exact heap_alloc2_old w _ _
  have X2 : Hid (W2.heap[w.heap.size + 1]? = some (.cells Z.toArray 5 (0, 0))) := by rw [hW2]; exact heap_alloc2_new w _ _
  have B2 : Hid (Below w.heap.size w W2) := by rw [hW2]; exact ((Below.refl _ _).alloc (Nat.le_refl _) _).alloc (by simp) _
  clear hW2 hmk
  have Y1 : Hid (Bs W2.drew (some ⟨w.heap.size, 0, none⟩) d) := by
    refine bs_block (A := []) (D := s.map (Value.int .u8) ++ [.int .u16 t]) (t := 31) ?_ 0 rfl H.out.db (by rw [H.out.dl]; omega)
    show W2.heap[w.heap.size]? = _
    rw [X1.out, ← HL.out]; rfl
  have hzl : Hid (Z.length = 14) := Hid.mk' (by rw [← HZ.out]; simp)
  go_region_law (refine step_copy rfl _ _ rfl (w.heap.size + 1) 0 6 14 6 (some ⟨w.heap.size, 0, none⟩) rfl rfl d Z 5 X2.out Y1.out H.out.dl (by rw [hzl.out]; omega) ?_; intro w3 hg3 hk3; have X3 := Hid.mk' hg3; have K3 := Hid.mk' hk3; clear hg3 hk3)
  go_wp2_with fail
  have x1 : w3.heap[w.heap.size]? = some (.cells L.toArray 31 (0, 0)) := (K3.out.block w.heap.size (by have := (Array.getElem?_eq_some_iff.1 X1.out).1; exact this) (by omega)).trans X1.out
  have X1 := Hid.mk' x1
  have B3 : Hid (Below w.heap.size w w3) := B2.out.drew.trans (K3.out.below B2.out.size (fun k hk => by omega))
  clear x1 K3 B2 Y1 X2
  have Y1 : Hid (Bs w3.drew (some ⟨w.heap.size, 6, none⟩) s) := by
    refine bs_block (A := d.map (Value.int .u8)) (D := [.int .u16 t]) (t := 31) ?_ 6 (by simp [H.out.dl]) H.out.sb (by rw [H.out.sl]; omega)
    show w3.heap[w.heap.size]? = _
    rw [X1.out, ← HL.out]; rfl
  obtain ⟨Z3, HZ3⟩ : ∃ Z3, Hid (put Z 0 (d.map (Value.int .u8)) = Z3) := ⟨_, rfl⟩
  rw [HZ3.out] at X3
  have hz3 : Hid (Z3.length = 14) := Hid.mk' (by rw [← HZ3.out, put_length _ _ _ (by rw [List.length_map, H.out.dl, hzl.out]; omega), hzl.out])
  go_region_law (refine step_copy rfl _ _ rfl (w.heap.size + 1) 6 6 8 6 (some ⟨w.heap.size, 6, none⟩) rfl rfl s Z3 5 X3.out Y1.out H.out.sl (by rw [hz3.out]; omega) ?_; intro w4 hg4 hk4; have X4 := Hid.mk' hg4; have K4 := Hid.mk' hk4; clear hg4 hk4)
  have x1 : w4.heap[w.heap.size]? = some (.cells L.toArray 31 (0, 0)) := (K4.out.block w.heap.size (by have := (Array.getElem?_eq_some_iff.1 X1.out).1; exact this) (by omega)).trans X1.out
  have B4 : Hid (Below w.heap.size w w4) := B3.out.drew.trans (K4.out.below B3.out.size (fun k hk => by omega))
  have c1 : w4.cell? ⟨w.heap.size, 12, none⟩ = some (.int .u16 t) := by
    rw [cell_of_row w4 _ 12 _ _ _ x1, ← HL.out, List.getElem?_toArray]; exact lkC_cell H.out
  obtain ⟨Z4, HZ4⟩ : ∃ Z4, Hid (put Z3 6 (s.map (Value.int .u8)) = Z4) := ⟨_, rfl⟩
  rw [HZ4.out] at X4
  have hz4 : Hid (Z4.length = 14) := Hid.mk' (by rw [← HZ4.out, put_length _ _ _ (by rw [List.length_map, H.out.sl, hz3.out]; omega), hz3.out])
  obtain ⟨u12, c2⟩ : ∃ u, w4.cell? ⟨w.heap.size + 1, 12, none⟩ = some u := ⟨_, by rw [cell_of_row w4 _ 12 _ _ _ X4.out, List.getElem?_toArray, List.getElem?_eq_getElem (by rw [hz4.out]; omega)]⟩
  obtain ⟨u13, c3⟩ : ∃ u, w4.cell? ⟨w.heap.size + 1, 13, none⟩ = some u := ⟨_, by rw [cell_of_row w4 _ 13 _ _ _ X4.out, List.getElem?_toArray, List.getElem?_eq_getElem (by rw [hz4.out]; omega)]⟩
  have f2 : w4.frozen? ⟨w.heap.size + 1, 12, none⟩ = false := frozen_of_row w4 _ 12 _ _ X4.out
  have f3 : w4.frozen? ⟨w.heap.size + 1, 13, none⟩ = false := frozen_of_row w4 _ 13 _ _ X4.out
  clear x1 K4 B3 Y1 X3
  go_wp2_with fail
  have HR : Hid (((w4.setCell ⟨w.heap.size + 1, 12, none⟩ (.int .u8 (t / 256))).setCell ⟨w.heap.size + 1, 13, none⟩ (.int .u8 (t % 256))).ownsRow w.heap.size 5 1 (.slice (some ⟨w.heap.size + 1, 0, none⟩) 14 14) 14 ((lkB d s t).map (Value.int .u8))) := by
    refine own_block ?_ (by omega) (by simp [lkB, H.out.dl, H.out.sl]) (by omega)
    rw [Go.heap_setCell_same _ _ 13 _ _ _ (Go.heap_setCell_same _ _ 12 _ _ _ X4.out)]
    rw [← lk_row H.out _ _ rfl rfl, HZ.out, HZ3.out, HZ4.out]
    simp
  have HB : Hid (Below w.heap.size w ((w4.setCell ⟨w.heap.size + 1, 12, none⟩ (.int .u8 (t / 256))).setCell ⟨w.heap.size + 1, 13, none⟩ (.int .u8 (t % 256)))) :=
    (B4.out.setCell (p := ⟨w.heap.size + 1, 12, none⟩) (by simp) _).setCell (p := ⟨w.heap.size + 1, 13, none⟩) (by simp) _
  go_ret2
  exact ⟨_, rfl, HR.out, HB.out⟩

set_option maxHeartbeats 400000 in
theorem lbytes_no (L : List Value) (a : Option Addr) (n c : Nat) (w : World) (hn : ¬ n ≤ 2034) (hl : n ≤ 140737488355328) :
    Calls Tryz.prog 82 #[.agg L.toArray, .slice a n c] w fun e w' => e = .returned (.tuple #[.slice none 0 0, .int .i64 5]) ∧ Below w.heap.size w w' := by
  go_enter Tryz.func82, Tryz.ntmps82
  go_wp2_with fail
  go_ret2
  exact ⟨rfl, (Below.refl _ _).alloc (Nat.le_refl _) _⟩

theorem lcheck_any (L : List Value) (w : World) : Calls Tryz.prog 81 #[.agg L.toArray] w fun e w' => e = .returned (.int .i64 0) ∧ Below w.heap.size w w' := by
  go_enter Tryz.func81, Tryz.ntmps81
  go_wp2_with fail
  go_ret
  exact ⟨rfl, (Below.refl _ _).alloc (Nat.le_refl _) _⟩

theorem lsize_any (w : World) : Calls Tryz.prog 64 #[] w fun e w' => e = .returned (.int .i64 14) ∧ w = w' := by
  go_enter Tryz.func64, Tryz.ntmps64
  go_wp2_with fail
  go_ret
  exact ⟨rfl, rfl⟩

/-- A header's cells that are none. -/
def lk0 : List Value := lkC (List.replicate 6 0) (List.replicate 6 0) 0

/-- The header that bytes begin with. -/
def rdD (zs : List Int) : List Int := zs.take 6

def rdS (zs : List Int) : List Int := (zs.drop 6).take 6

def rdT (zs : List Int) : Int := zs.getD 12 0 * 256 + zs.getD 13 0

theorem lk_of {zs : List Int} (hb : Bytes zs) (hl : 14 ≤ zs.length) : Lk (rdD zs) (rdS zs) (rdT zs) := by
  have h1 := hb.getD 12
  have h2 := hb.getD 13
  refine ⟨by simp [rdD]; omega, by simp [rdS]; omega, fun z hz => hb z (List.mem_of_mem_take hz), fun z hz => hb z (List.mem_of_mem_drop (List.mem_of_mem_take hz)), ?_, ?_⟩ <;> unfold rdT <;> omega

theorem lkB_length {d s : List Int} {t : Int} (h : Lk d s t) : (lkB d s t).length = 14 := by
  simp [lkB, h.dl, h.sl]

theorem lkB_bytes {d s : List Int} {t : Int} (h : Lk d s t) : Bytes (lkB d s t) := by
  have h0 := h.t0
  have h1 := h.t1
  refine bytes_append h.db (bytes_append h.sb ?_)
  intro z hz
  simp at hz
  omega

/-- A header is read again from its bytes, whatever stands behind them. -/
theorem rd_lkB {d s : List Int} {t : Int} (h : Lk d s t) (ys : List Int) : rdD (lkB d s t ++ ys) = d ∧ rdS (lkB d s t ++ ys) = s ∧ rdT (lkB d s t ++ ys) = t := by
  have h0 := h.t0
  have h1 := h.t1
  have e : lkB d s t ++ ys = d ++ (s ++ (t / 256 :: t % 256 :: ys)) := by simp [lkB]
  rw [e]
  refine ⟨?_, ?_, ?_⟩
  · unfold rdD; rw [← h.dl, List.take_left]
  · unfold rdS
    rw [show (6 : Nat) = d.length from h.dl.symm, List.drop_left, h.dl, ← h.sl, List.take_left]
  · unfold rdT
    have g : ∀ k, (d ++ (s ++ (t / 256 :: t % 256 :: ys))).getD (12 + k) 0 = (t / 256 :: t % 256 :: ys).getD k 0 := by
      intro k
      rw [List.getD_eq_getElem?_getD, List.getD_eq_getElem?_getD, List.getElem?_append_right (by rw [h.dl]; omega), List.getElem?_append_right (by rw [h.dl, h.sl]; omega), h.dl, h.sl]
      congr 2; omega
    have g0 := g 0
    have g1 := g 1
    simp only [Nat.add_zero, List.getD_cons_zero, List.getD_cons_succ] at g0 g1
    rw [g0, g1]; omega

/-- What is read is written just so. -/
theorem lkB_rd {zs : List Int} (hb : Bytes zs) (hl : 14 ≤ zs.length) : lkB (rdD zs) (rdS zs) (rdT zs) = zs.take 14 := by
  have b1 := hb.getD 12
  have b2 := hb.getD 13
  have e : zs.take 14 = zs.take 6 ++ ((zs.drop 6).take 6 ++ ((zs.drop 12).take 2)) := by
    have e1 : zs.take (6 + 8) = zs.take 6 ++ (zs.drop 6).take 8 := List.take_add
    have e2 : (zs.drop 6).take (6 + 2) = (zs.drop 6).take 6 ++ ((zs.drop 6).drop 6).take 2 := List.take_add
    rw [e1, e2, List.drop_drop]
  have e3 : (zs.drop 12).take 2 = [zs.getD 12 0, zs.getD 13 0] := by
    apply List.ext_getElem?
    intro i
    match i with
    | 0 =>
      rw [List.getElem?_take_of_lt (by omega), List.getElem?_drop]
      show zs[12]? = some (zs.getD 12 0)
      rw [List.getD_eq_getElem?_getD, List.getElem?_eq_getElem (by omega)]; rfl
    | 1 =>
      rw [List.getElem?_take_of_lt (by omega), List.getElem?_drop]
      show zs[13]? = some (zs.getD 13 0)
      rw [List.getD_eq_getElem?_getD, List.getElem?_eq_getElem (by omega)]; rfl
    | i + 2 => rw [List.getElem?_eq_none (by rw [List.length_take]; omega)]; rfl
  rw [e, e3]
  unfold lkB rdD rdS rdT
  congr 4 <;> omega

theorem rd_take {zs : List Int} (k : Nat) (h : 14 ≤ k) : rdD (zs.take k) = rdD zs ∧ rdS (zs.take k) = rdS zs ∧ rdT (zs.take k) = rdT zs := by
  refine ⟨?_, ?_, ?_⟩
  · unfold rdD; rw [List.take_take, Nat.min_eq_left (by omega)]
  · unfold rdS; rw [List.drop_take, List.take_take, Nat.min_eq_left (by omega)]
  · unfold rdT; rw [List.getD_eq_getElem?_getD, List.getElem?_take_of_lt (by omega), List.getD_eq_getElem?_getD, List.getElem?_take_of_lt (by omega)]; simp only [List.getD_eq_getElem?_getD]

theorem or16 (V b : Int) (h0 : 0 ≤ V) (h1 : V ≤ 255) (b0 : 0 ≤ b) (b1 : b ≤ 255) : bits .or .u16 (V * 256) b = V * 256 + b := by
  rw [u16_or _ _ (by omega) (by omega) (by omega) (by omega)]
  have h := Nat.two_pow_add_eq_or_of_lt (i := 8) (b := b.toNat) (by omega) V.toNat
  have e2 : (V * 256).toNat = 2 ^ 8 * V.toNat := by omega
  rw [e2, ← h]
  omega

theorem info_lk : (Tryz.prog.info? 31).map (·.size) = some 13 := by kernel_rfl

set_option maxHeartbeats 400000 in
theorem lread_no (a : Option Addr) (n c : Nat) (w : World) (hn : n < 14) :
    Calls Tryz.prog 63 #[.slice a n c] w fun e w' => e = .returned (.tuple #[.agg lk0.toArray, .int .i64 6]) ∧ Below w.heap.size w w' := by
  go_enter Tryz.func63, Tryz.ntmps63
  go_wp2_with fail
  refine ret_cell_tmp rfl w.heap.size 31 _ (0, 0) _ rfl (heap_alloc_new w _) Tryz.underlying31 rfl info_lk rfl ?_
  exact ⟨rfl, (Below.refl _ _).alloc (Nat.le_refl _) _⟩

set_option maxHeartbeats 400000 in
theorem lread_ok (b off : Nat) (n c : Nat) (zs : List Int) (w : World) (hz : zs.length = n) (hB : Bs w (some ⟨b, off, none⟩) zs) (hn : 14 ≤ n) (hc : n ≤ c) :
    Calls Tryz.prog 63 #[.slice (some ⟨b, off, none⟩) n c] w fun e w' => e = .returned (.tuple #[.agg (lkC (rdD zs) (rdS zs) (rdT zs)).toArray, .int .i64 0]) ∧ Below w.heap.size w w' := by
  obtain ⟨RES, HRES⟩ : ∃ RES, Hid (lkC (rdD zs) (rdS zs) (rdT zs) = RES) := ⟨_, rfl⟩
  rw [HRES.out]
  obtain ⟨Z, HZ⟩ : ∃ Z : Array Value, Hid (#[.int .u8 0, .int .u8 0, .int .u8 0, .int .u8 0, .int .u8 0, .int .u8 0, .int .u8 0, .int .u8 0, .int .u8 0, .int .u8 0, .int .u8 0, .int .u8 0, .int .u16 0] = Z) := ⟨_, rfl⟩
  have hsp : (12 : Int) < (n : Int) := by omega
  have hsp1 : (13 : Int) < (n : Int) := by omega
  have hc6 : (6 : Int) ≤ (c : Int) := by omega
  have hc12 : (12 : Int) ≤ (c : Int) := by omega
  have hln : n ≤ 140737488355328 := by rw [← hz]; exact hB.len
  have HB := Hid.mk' hB
  have HN := Hid.mk' hz
  clear hB hz
  go_enter Tryz.func63, Tryz.ntmps63
  go_wp2_with fail
  rw [HZ.out]
  obtain ⟨W1, hW1⟩ : ∃ W1, W1 = w.alloc (.cells Z 31) := ⟨_, rfl⟩
  rw [← hW1]
  have B1 : Hid (Below w.heap.size w W1) := by rw [hW1]; exact (Below.refl _ _).alloc (Nat.le_refl _) _
  have S1 : Hid (W1.heap.size = w.heap.size + 1) := by rw [hW1]; exact (by simp : (w.alloc (.cells Z 31)).heap.size = w.heap.size + 1)
  have R1 : Hid (W1.heap[w.heap.size]? = some (.cells Z 31 (0, 0))) := by rw [hW1]; exact heap_alloc_new w _
  clear hW1
  have cc : ∀ i, i < n → W1.cell? ⟨b, off + i, none⟩ = some (.int .u8 (zs.getD i 0)) := by
    intro i hi
    rcases (HB.out.below B1.out).lies with h0 | ⟨b', off', e, hc⟩
    · rw [HN.out] at h0; omega
    · cases e; exact hc i (by rw [HN.out]; exact hi)
  have c12 := cc 12 (by omega)
  have c13 := cc 13 (by omega)
  have b12 := HB.out.bytes.getD 12
  have b13 := HB.out.bytes.getD 13
  clear cc
  obtain ⟨x, HX⟩ : ∃ x, Hid (zs.getD 12 0 = x) := ⟨_, rfl⟩
  obtain ⟨y, HY⟩ : ∃ y, Hid (zs.getD 13 0 = y) := ⟨_, rfl⟩
  rw [HX.out] at b12 c12
  rw [HY.out] at b13 c13
  obtain ⟨b120, b121⟩ := b12
  obtain ⟨b130, b131⟩ := b13
  have hlt : b < W1.heap.size := lt_of_cell c12
  have hne : ¬ b = W1.heap.size := by omega
  go_region
  have hor : bits .or .u16 (x * 256) y = x * 256 + y := or16 x y (by omega) (by omega) (by omega) (by omega)
  rw [hor]
  have t0 : 0 ≤ x * 256 + y := by omega
  have t1 : x * 256 + y ≤ 65535 := by omega
  clear hor c12 c13
  obtain ⟨T, HT⟩ : ∃ T, Hid (x * 256 + y = T) := ⟨_, rfl⟩
  rw [HT.out] at t0 t1 ⊢
  obtain ⟨W2, hW2⟩ : ∃ W2, W2 = (W1.alloc (.cells #[.int .u8 0, .int .u8 0, .int .u8 0, .int .u8 0, .int .u8 0, .int .u8 0, .int .u8 0, .int .u8 0, .int .u8 0, .int .u8 0, .int .u8 0, .int .u8 0, .int .u16 T] 31)).drew := ⟨_, rfl⟩
  rw [← hW2]
  have R2 : Hid (W2.heap[w.heap.size]? = some (.cells Z 31 (0, 0))) := by
    rw [hW2]
    exact (Below.heap_alloc W1 _ _ (by have := S1.out; omega)).trans R1.out
  have Q2 : Hid (W2.heap[W1.heap.size]? = some (.cells (lkC (List.replicate 6 0) (List.replicate 6 0) T).toArray 31 (0, 0))) := by
    rw [hW2]; exact heap_alloc_new W1 _
  have B2 : Hid (Below w.heap.size w W2) := by
    rw [hW2]
    exact (B1.out.alloc (by have := S1.out; omega) _).drew
  clear hW2 R1 B1
  go_wp2_with fail
  have Y2 : Hid (Bs W2.drew (some ⟨b, off, none⟩) (zs.take 6)) := ((HB.out.below B2.out).below ((Below.refl _ _).drew)).take 6 (by rw [HN.out]; omega)
  have hl6 : Hid ((zs.take 6).length = 6) := Hid.mk' (by rw [List.length_take, HN.out]; omega)
  go_region_law (refine step_copy rfl _ _ rfl W1.heap.size 0 6 6 c (some ⟨b, off, none⟩) rfl rfl (zs.take 6) _ 31 Q2.out Y2.out hl6.out (by simp [lkC]) ?_; intro w3 hg3 hk3; have Q3 := Hid.mk' hg3; have K3 := Hid.mk' hk3; clear hg3 hk3)
  have R3 : Hid (w3.heap[w.heap.size]? = some (.cells Z 31 (0, 0))) := (K3.out.block w.heap.size (by have := (Array.getElem?_eq_some_iff.1 R2.out).1; exact this) (by have := S1.out; omega)).trans R2.out
  have B3 : Hid (Below w.heap.size w w3) := B2.out.drew.trans (K3.out.below B2.out.size (fun k hk => by have := S1.out; omega))
  rw [show put (lkC (List.replicate 6 0) (List.replicate 6 0) T) 0 ((zs.take 6).map (Value.int .u8)) = lkC (zs.take 6) (List.replicate 6 0) T from put_head _ _ _ (by simpa using hl6.out)] at Q3
  clear K3 R2 Q2 B2 Y2
  go_wp2_with fail
  have Y3 : Hid (Bs w3.drew (some ⟨b, off + 6, none⟩) ((zs.drop 6).take 6)) := (((HB.out.below B3.out).below ((Below.refl _ _).drew)).drop 6).take 6 (by rw [List.length_drop, HN.out]; omega)
  have hl12 : Hid (((zs.drop 6).take 6).length = 6) := Hid.mk' (by rw [List.length_take, List.length_drop, HN.out]; omega)
  have hne6 : ¬ c = 6 := by omega
  have hlq : Hid ((lkC (zs.take 6) (List.replicate 6 0) T).length = 13) := Hid.mk' (by unfold lkC; simp only [List.length_append, List.length_map, hl6.out, List.length_replicate]; rfl)
  go_region_law (refine step_copy rfl _ _ rfl W1.heap.size 6 6 6 (c - 6) (some ⟨b, off + 6, none⟩) rfl rfl ((zs.drop 6).take 6) _ 31 Q3.out Y3.out hl12.out (by rw [hlq.out]; omega) ?_; intro w4 hg4 hk4; have Q4 := Hid.mk' hg4; have K4 := Hid.mk' hk4; clear hg4 hk4)
  have R4 : Hid (w4.heap[w.heap.size]? = some (.cells Z 31 (0, 0))) := (K4.out.block w.heap.size (by have := (Array.getElem?_eq_some_iff.1 R3.out).1; exact this) (by have := S1.out; omega)).trans R3.out
  have B4 : Hid (Below w.heap.size w w4) := B3.out.drew.trans (K4.out.below B3.out.size (fun k hk => by have := S1.out; omega))
  rw [show put (lkC (zs.take 6) (List.replicate 6 0) T) 6 (((zs.drop 6).take 6).map (Value.int .u8)) = lkC (zs.take 6) ((zs.drop 6).take 6) T from put_mid _ _ _ _ 6 (by simpa using hl6.out.symm) (by simpa using hl12.out)] at Q4
  have hlc : Hid ((lkC (zs.take 6) ((zs.drop 6).take 6) T).length = 13) := Hid.mk' (by unfold lkC; simp only [List.length_append, List.length_map, hl6.out, hl12.out]; rfl)
  clear K4 R3 Q3 B3 Y3
  have hone : Hid ((lkC (zs.take 6) ((zs.drop 6).take 6) T).toArray.all (·.oneCell') = true) := lkC_one _ _ _
  have HLR : Hid (lkC (zs.take 6) ((zs.drop 6).take 6) T = RES) := Hid.mk' (by rw [← HRES.out]; unfold rdD rdS rdT; rw [HX.out, HY.out, HT.out])
  rw [HLR.out] at hlc hone Q4
  have hz13 : Hid (w4.there w.heap.size 0 RES.toArray.size) := by
    have e : RES.toArray.size = Z.toList.length := by rw [← HZ.out]; simpa using hlc.out
    rw [e]
    exact there_block (by simpa using R4.out)
  go_wp2_with (first | refine wpList_store_mid rfl 31 _ _ rfl w.heap.size 0 RES.toArray rfl rfl hz13.out (by rw [List.size_toArray, hlc.out]; exact info_lk) hone.out ?_ | refine wpList_load_mid rfl 31 _ rfl W1.heap.size 0 rfl RES _ (range_block Q4.out) Tryz.underlying31 rfl (by rw [hlc.out]; exact info_lk) ?_)
  have R5 : Hid ((w4.setCells w.heap.size 0 RES).heap[w.heap.size]? = some (.cells RES.toArray 31 (0, 0))) :=
    heap_whole (L := Z.toList) (by simpa using R4.out) (by rw [← HZ.out]; simpa using hlc.out.symm)
  have B5 : Hid (Below w.heap.size w (w4.setCells w.heap.size 0 RES)) := B4.out.trans (((Kept.refl (fun k => k = w.heap.size) w4).setCells w.heap.size 0 RES (fun _ => rfl)).below B4.out.size (fun k hk => by omega))
  refine ret_cell_tmp rfl w.heap.size 31 RES (0, 0) _ rfl R5.out Tryz.underlying31 rfl (by rw [hlc.out]; exact info_lk) rfl ?_
  exact ⟨rfl, B5.out⟩

theorem rcheck_any (L : List Value) (w : World) : Calls Tryz.prog 166 #[.agg L.toArray] w fun e w' => e = .returned (.int .i64 0) ∧ Below w.heap.size w w' := by
  go_enter Tryz.func166, Tryz.ntmps166
  go_wp2_with fail
  go_ret
  exact ⟨rfl, (Below.refl _ _).alloc (Nat.le_refl _) _⟩

theorem numB_two (t : Int) (h0 : 0 ≤ t) (h1 : t ≤ 65535) : numB 2 t = [t / 256, t % 256] := by
  simp [numB]; omega

set_option maxHeartbeats 400000 in
theorem rbytes_no (d s : List Int) (t : Int) (a : Option Addr) (n c : Nat) (w : World) (h : Lk d s t) (hn : ¬ n ≤ 2034) (hl : n ≤ 140737488355328) :
    Calls Tryz.prog 112 #[.agg (lkC d s t).toArray, .slice a n c] w fun e w' => e = .returned (.tuple #[.slice none 0 0, .int .i64 5]) ∧ Below w.heap.size w w' := by
  have hlc := Hid.mk' (lkC_length h)
  obtain ⟨L, HL⟩ : ∃ L, Hid (lkC d s t = L) := ⟨_, rfl⟩
  rw [HL.out] at hlc ⊢
  obtain ⟨W1, hW1⟩ : ∃ W1, W1 = w.alloc (.cells L.toArray 31) := ⟨_, rfl⟩
  have R1 : Hid (W1.heap[w.heap.size]? = some (.cells L.toArray 31 (0, 0))) := by rw [hW1]; exact heap_alloc_new w _
  have B1 : Hid (Below w.heap.size w W1) := by rw [hW1]; exact (Below.refl _ _).alloc (Nat.le_refl _) _
  have HW := Hid.mk' hW1.symm
  clear h hW1
  go_enter Tryz.func112, Tryz.ntmps112
  go_wp2_with (first | (go_at_call 166; rw [HW.out]; refine (rcheck_any L W1).mono ?_; rintro e w2 ⟨rfl, b2⟩; have B2 : Hid (Below w.heap.size w w2) := (B1.out.trans (b2.mono B1.out.size)); clear b2) | refine wpList_load_mid rfl 31 _ rfl w.heap.size 0 rfl L _ (by rw [HW.out]; exact range_block R1.out) Tryz.underlying31 rfl (by rw [hlc.out]; exact info_lk) ?_)
  go_ret2
  exact ⟨rfl, B2.out⟩

theorem Kept_block {w w' : World} {g : Nat} {o : Obj} {row : Option Nat} (h : w.heap[g]? = some o) (hg : w.grownBy w' row) (hne : row ≠ some g) : w'.heap[g]? = some o :=
  (hg.block g (Array.getElem?_eq_some_iff.1 h).1 (fun e => hne e.symm)).trans h

set_option maxHeartbeats 1000000 in
theorem rbytes_ok (d s : List Int) (t : Int) (a : Option Addr) (n c : Nat) (w : World) (h : Lk d s t) (hn : n ≤ 2034) :
    Calls Tryz.prog 112 #[.agg (lkC d s t).toArray, .slice a n c] w fun e w' => ∃ v, e = .returned (.tuple #[v, .int .i64 0]) ∧ w'.ownsRow w.heap.size 5 1 v 14 ((lkB d s t).map (Value.int .u8)) ∧ Below w.heap.size w w' := by
  have hlc := Hid.mk' (lkC_length h)
  obtain ⟨L, HL⟩ : ∃ L, Hid (lkC d s t = L) := ⟨_, rfl⟩
  rw [HL.out] at hlc ⊢
  obtain ⟨W1, hW1⟩ : ∃ W1, W1 = w.alloc (.cells L.toArray 31) := ⟨_, rfl⟩
  have R1 : Hid (W1.heap[w.heap.size]? = some (.cells L.toArray 31 (0, 0))) := by rw [hW1]; exact heap_alloc_new w _
  have B1 : Hid (Below w.heap.size w W1) := by rw [hW1]; exact (Below.refl _ _).alloc (Nat.le_refl _) _
  have HW := Hid.mk' hW1.symm
  have t0 := h.t0
  have t1 := h.t1
  have H := Hid.mk' h
  have bd : ∀ w' : World, w'.heap[w.heap.size]? = some (.cells L.toArray 31 (0, 0)) → Bs w' (some ⟨w.heap.size, 0, none⟩) d := fun w' hh =>
    bs_block (A := []) (D := s.map (Value.int .u8) ++ [.int .u16 t]) (t := 31) (by rw [hh, ← HL.out]; rfl) 0 rfl H.out.db (by rw [H.out.dl]; omega)
  have bs : ∀ w' : World, w'.heap[w.heap.size]? = some (.cells L.toArray 31 (0, 0)) → Bs w' (some ⟨w.heap.size, 6, none⟩) s := fun w' hh =>
    bs_block (A := d.map (Value.int .u8)) (D := [.int .u16 t]) (t := 31) (by rw [hh, ← HL.out]; rfl) 6 (by simp [H.out.dl]) H.out.sb (by rw [H.out.sl]; omega)
  have BD := Hid.mk' bd
  have BSS := Hid.mk' bs
  clear h hW1 bd bs
  go_enter Tryz.func112, Tryz.ntmps112
  go_wp2_with (first | (go_at_call 166; rw [HW.out]; refine (rcheck_any L W1).mono ?_; rintro e w2 ⟨rfl, b2⟩; have B2 : Hid (Below w.heap.size w w2) := (B1.out.trans (b2.mono B1.out.size)); have R2 : Hid (w2.heap[w.heap.size]? = some (.cells L.toArray 31 (0, 0))) := ((b2.block _ (Array.getElem?_eq_some_iff.1 R1.out).1).trans R1.out); clear b2) | (at_builtin; refine wpList_app_own rfl _ _ rfl w2.heap.size v3 (0 + 6) _ rfl O3.out (some ⟨w.heap.size, 6, none⟩) 6 6 s rfl H.out.sl (BSS.out _ R3.out) (by omega) (Nat.le_of_lt_succ (Nat.lt_succ_of_le S3.out)) ?_; intro v4 w4 hown hgrow hpl; have R4 : Hid (w4.heap[w.heap.size]? = some (.cells L.toArray 31 (0, 0))) := (Kept_block R3.out hgrow (fun e => by have h1 := (O3.out.lt _ e).1; have h2 := (Array.getElem?_eq_some_iff.1 R2.out).1; omega)); have c12 : w4.cell? ⟨w.heap.size, 12, none⟩ = some (.int .u16 t) := (by rw [cell_of_row w4 _ 12 _ _ _ R4.out, ← HL.out, List.getElem?_toArray]; exact lkC_cell H.out); have B4 : Hid (Below w.heap.size w w4) := (B3.out.grown hgrow B3.out.size (by intro k hk; exact Nat.le_trans B2.out.size (O3.out.lt k hk).1)); have S4 := Hid.mk' (Nat.le_trans S3.out hgrow.size); have O4 := Hid.mk' hown; clear hown hgrow hpl) | (at_builtin; refine wpList_app_own rfl _ _ rfl w2.heap.size (.slice none 0 0) 0 [] rfl (World.ownsRow_nil _ _ _ _) (some ⟨w.heap.size, 0, none⟩) 6 6 d rfl H.out.dl (BD.out _ R2.out) (by omega) (Nat.le_refl _) ?_; intro v3 w3 hown hgrow hpl; have R3 : Hid (w3.heap[w.heap.size]? = some (.cells L.toArray 31 (0, 0))) := (Kept_block R2.out hgrow (by simp [Value.ownBlock])); have B3 : Hid (Below w.heap.size w w3) := (B2.out.grown hgrow B2.out.size (by intro k hk; simp [Value.ownBlock] at hk)); have S3 := Hid.mk' hgrow.size; have O3 := Hid.mk' hown; clear hown hgrow hpl) | refine wpList_load_mid rfl 31 _ rfl w.heap.size 0 rfl L _ (by rw [HW.out]; exact range_block R1.out) Tryz.underlying31 rfl (by rw [hlc.out]; exact info_lk) ?_)
  refine (number_any t 2 w4 t0 (by omega) (by omega)).mono ?_
  rintro e w5 ⟨u5, rfl, hown, b5⟩
  obtain ⟨a5, c5, rfl, s5, -⟩ := bs_own (by rw [numB_length]; exact hown) (numB_bytes 2 t) (by rw [numB_length]; omega)
  rw [numB_length] at *
  have S5 := Hid.mk' s5
  have O5 := Hid.mk' (Kept.owns O4.out (Kept.of_below (S := fun _ => False) b5) (fun _ _ h => h))
  have B5 : Hid (Below w.heap.size w w5) := B4.out.trans (b5.mono B4.out.size)
  have T5 := Hid.mk' (Nat.le_trans S4.out b5.size)
  clear hown b5 s5 c12
  go_wp2_with (at_builtin; refine wpList_app_own rfl _ _ rfl w2.heap.size v4 (0 + 6 + 6) _ rfl O5.out a5 c5 2 (numB 2 t) rfl (numB_length 2 t) S5.out (by omega) T5.out ?_; intro v6 w6 hown hgrow hpl; have B6 : Hid (Below w.heap.size w w6) := (B5.out.grown hgrow B5.out.size (by intro k hk; exact Nat.le_trans B2.out.size (O5.out.lt k hk).1)); have O6 := Hid.mk' hown; clear hown hgrow hpl)
  go_ret2
  refine ⟨_, rfl, ?_, B6.out⟩
  have h6 := ownsRow_base O6.out B2.out.size
  rw [numB_two t t0 t1] at h6
  simpa [lkB] using h6

set_option maxHeartbeats 400000 in
theorem rread_no (a : Option Addr) (n c : Nat) (w : World) (hn : n < 14) :
    Calls Tryz.prog 118 #[.slice a n c] w fun e w' => e = .returned (.tuple #[.agg lk0.toArray, .int .i64 6]) ∧ Below w.heap.size w w' := by
  go_enter Tryz.func118, Tryz.ntmps118
  go_wp2_with fail
  refine ret_cell_tmp rfl w.heap.size 31 _ (0, 0) _ rfl (heap_alloc2_old w _ _) Tryz.underlying31 rfl info_lk rfl ?_
  exact ⟨rfl, ((Below.refl _ _).alloc (Nat.le_refl _) _).alloc (by simp) _⟩

theorem lkC_setD (d s : List Int) (t : Int) (i : Nat) (x : Int) (h : i < d.length) : (lkC d s t).set i (.int .u8 x) = lkC (d.set i x) s t := by
  unfold lkC
  rw [List.set_append_left _ _ (by simpa using h), List.map_set]

theorem lkC_setS (d s : List Int) (t : Int) (i : Nat) (x : Int) (h : i < s.length) : (lkC d s t).set (d.length + i) (.int .u8 x) = lkC d (s.set i x) t := by
  unfold lkC
  rw [List.set_append_right _ _ (by simp), List.length_map, Nat.add_sub_cancel_left, List.set_append_left _ _ (by simpa using h), List.map_set]

theorem lkC_setT (d s : List Int) (t u : Int) : (lkC d s t).set (d.length + s.length) (.int .u16 u) = lkC d s u := by
  unfold lkC
  rw [List.set_append_right _ _ (by simp), List.length_map, Nat.add_sub_cancel_left, List.set_append_right _ _ (by simp), List.length_map, Nat.sub_self]
  rfl

/-- The first i of six bytes are there, the others are 0. -/
def half (zs : List Int) (i : Nat) : List Int := zs.take i ++ List.replicate (6 - i) 0

theorem half_length {zs : List Int} {i : Nat} (h : 6 ≤ zs.length) (hi : i ≤ 6) : (half zs i).length = 6 := by
  unfold half; simp; omega

theorem half_succ {zs : List Int} {i : Nat} (h : 6 ≤ zs.length) (hi : i < 6) : (half zs i).set i (zs.getD i 0) = half zs (i + 1) := by
  unfold half
  have e : (zs.take i).length = i := by simp; omega
  rw [List.set_append_right _ _ (by omega), e, Nat.sub_self, List.take_succ_eq_append_getElem (by omega), show 6 - i = (6 - (i + 1)) + 1 by omega, List.replicate_succ, List.set_cons_zero, List.append_assoc]
  rw [List.getD_eq_getElem?_getD, List.getElem?_eq_getElem (by omega)]; rfl

set_option maxHeartbeats 1000000 in
theorem rread_ok (b off : Nat) (n c : Nat) (zs : List Int) (w : World) (hz : zs.length = n) (hB : Bs w (some ⟨b, off, none⟩) zs) (hn : 14 ≤ n) :
    Calls Tryz.prog 118 #[.slice (some ⟨b, off, none⟩) n c] w fun e w' => e = .returned (.tuple #[.agg (lkC (rdD zs) (rdS zs) (rdT zs)).toArray, .int .i64 0]) ∧ Below w.heap.size w w' := by
  obtain ⟨RES, HRES⟩ : ∃ RES, Hid (lkC (rdD zs) (rdS zs) (rdT zs) = RES) := ⟨_, rfl⟩
  rw [HRES.out]
  obtain ⟨Z, HZ⟩ : ∃ Z : List Value, Hid ([.int .u8 0, .int .u8 0, .int .u8 0, .int .u8 0, .int .u8 0, .int .u8 0, .int .u8 0, .int .u8 0, .int .u8 0, .int .u8 0, .int .u8 0, .int .u8 0, .int .u16 0] = Z) := ⟨_, rfl⟩
  have hln : n ≤ 140737488355328 := by rw [← hz]; exact hB.len
  have HB := Hid.mk' hB
  have HN := Hid.mk' hz
  have hbl : b < w.heap.size := by
    rcases hB.lies with h0 | ⟨b', off', e, hc⟩
    · omega
    · cases e; exact lt_of_cell (hc 0 (by omega))
  clear hB hz
  go_enter Tryz.func118, Tryz.ntmps118
  go_wp2_with fail
  rw [HZ.out]
  obtain ⟨W1, hW1⟩ : ∃ W1, W1 = ((w.alloc (.cells Z.toArray 31)).alloc (.cells Z.toArray 31)).alloc (.cells Z.toArray 31) := ⟨_, rfl⟩
  rw [← hW1]
  have B1 : Hid (Below w.heap.size w W1) := by rw [hW1]; exact (((Below.refl _ _).alloc (Nat.le_refl _) _).alloc (by simp) _).alloc (by simp; omega) _
  have R1 : Hid (W1.heap[w.heap.size]? = some (.cells Z.toArray 31 (0, 0))) := by rw [hW1]; exact (Below.heap_alloc _ _ _ (by simp; omega)).trans (heap_alloc2_old w _ _)
  have Q1 : Hid (W1.heap[w.heap.size + 2]? = some (.cells Z.toArray 31 (0, 0))) := by
    rw [hW1]
    have := heap_alloc_new ((w.alloc (.cells Z.toArray 31)).alloc (.cells Z.toArray 31)) (.cells Z.toArray 31)
    rw [show ((w.alloc (.cells Z.toArray 31)).alloc (.cells Z.toArray 31)).heap.size = w.heap.size + 2 by simp] at this
    exact this
  clear hW1
  go_loopw [6] (fun i wr => ∃ k : Nat, k ≤ 6 ∧ i = .int .i64 k ∧ Hid (wr.heap[w.heap.size + 2]? = some (.cells (lkC (half zs k) (half (zs.drop 6) k) 0).toArray 31 (0, 0))) ∧ Hid (wr.heap[w.heap.size]? = some (.cells Z.toArray 31 (0, 0))) ∧ Hid (Below w.heap.size w wr)) (fun i _ => 6 - (intOf i).toNat)
  case atStart => exact ⟨0, Nat.zero_le _, rfl, Hid.mk' (by rw [Q1.out, ← HZ.out]; rfl), R1, B1⟩
  case round =>
    obtain ⟨k, hk, rfl, Q2, R2, B2⟩ := hrel
    clear Q1 R1 B1
    have cc : ∀ i, i < n → wr.cell? ⟨b, off + i, none⟩ = some (.int .u8 (zs.getD i 0)) := by
      intro i hi
      rcases (HB.out.below B2.out).lies with h0 | ⟨b', off', e, hc⟩
      · rw [HN.out] at h0; omega
      · cases e; exact hc i (by rw [HN.out]; exact hi)
    by_cases hlt : k < 6
    · have hsp : (k : Int) < 6 := by omega
      have hk1 : (k : Int) < (n : Int) := by omega
      have hk2 : 6 + (k : Int) < (n : Int) := by omega
      have d0 := cc k (by omega)
      have d1 := cc (6 + k) (by omega)
      have hll : Hid ((lkC (half zs k) (half (zs.drop 6) k) 0).length = 13) := Hid.mk' (by unfold lkC; simp [half_length (show 6 ≤ zs.length by rw [HN.out]; omega) hk, half_length (zs := zs.drop 6) (by rw [List.length_drop, HN.out]; omega) hk])
      have f0 : wr.frozen? ⟨w.heap.size + 2, k, none⟩ = false := frozen_of_row wr _ _ _ _ Q2.out
      have f1 : wr.frozen? ⟨w.heap.size + 2, 6 + k, none⟩ = false := frozen_of_row wr _ _ _ _ Q2.out
      obtain ⟨u0, e0⟩ : ∃ u, wr.cell? ⟨w.heap.size + 2, k, none⟩ = some u := ⟨_, by rw [cell_of_row wr _ k _ _ _ Q2.out, List.getElem?_toArray, List.getElem?_eq_getElem (by rw [hll.out]; omega)]⟩
      obtain ⟨u1, e1⟩ : ∃ u, wr.cell? ⟨w.heap.size + 2, 6 + k, none⟩ = some u := ⟨_, by rw [cell_of_row wr _ (6 + k) _ _ _ Q2.out, List.getElem?_toArray, List.getElem?_eq_getElem (by rw [hll.out]; omega)]⟩
      have hbne : ¬ w.heap.size + 2 = b := by omega
      obtain ⟨x, HX⟩ : ∃ x, Hid (zs.getD k 0 = x) := ⟨_, rfl⟩
      obtain ⟨y, HY⟩ : ∃ y, Hid (zs.getD (6 + k) 0 = y) := ⟨_, rfl⟩
      rw [HX.out] at d0
      rw [HY.out] at d1
      clear cc
      go_wp2_with fail
      go_roundw
      case rel =>
        have h6 : 6 ≤ zs.length := by rw [HN.out]; omega
        have h6' : 6 ≤ (zs.drop 6).length := by rw [List.length_drop, HN.out]; omega
        refine ⟨k + 1, hlt, by go_num, Hid.mk' ?_, Hid.mk' ?_, Hid.mk' ?_⟩
        · rw [Go.heap_setCell_same _ _ (6 + k) _ _ _ (Go.heap_setCell_same _ _ k _ _ _ Q2.out)]
          rw [List.setIfInBounds_toArray, List.setIfInBounds_toArray, lkC_setD _ _ _ _ _ (by rw [half_length h6 hk]; exact hlt)]
          rw [show 6 + k = ((half zs k).set k x).length + k by rw [List.length_set, half_length h6 hk], lkC_setS _ _ _ _ _ (by rw [half_length h6' hk]; exact hlt)]
          rw [← HX.out, ← HY.out, half_succ h6 hlt]
          rw [show zs.getD (6 + k) 0 = (zs.drop 6).getD k 0 by simp only [List.getD_eq_getElem?_getD, List.getElem?_drop], half_succ h6' hlt]
        · rw [Go.heap_setCell_other _ _ _ _ (by simp; omega), Go.heap_setCell_other _ _ _ _ (by simp; omega)]; exact R2.out
        · exact (B2.out.setCell (p := ⟨w.heap.size + 1 + 1, k, none⟩) (by simp; omega) _).setCell (p := ⟨w.heap.size + 1 + 1, 6 + k, none⟩) (by simp; omega) _
      case measure => simp [intOf]; omega
    · obtain rfl : k = 6 := by omega
      have hE : Hid (half zs 6 = rdD zs ∧ half (zs.drop 6) 6 = rdS zs) := Hid.mk' (by unfold half rdD rdS; simp)
      rw [hE.out.1, hE.out.2] at Q2
      have hL : Lk (rdD zs) (rdS zs) (rdT zs) := lk_of HB.out.bytes (by rw [HN.out]; exact hn)
      have t0 := hL.t0
      have t1 := hL.t1
      have HV : Hid (valV zs 12 2 = rdT zs) := Hid.mk' (by simp [valV, rdT])
      obtain ⟨T, HT⟩ : ∃ T, Hid (rdT zs = T) := ⟨_, rfl⟩
      rw [HT.out] at HV t0 t1 HRES
      have hlc : Hid (RES.length = 13) := Hid.mk' (by rw [← HRES.out, ← HT.out]; exact lkC_length hL)
      have f0 : wr.frozen? ⟨w.heap.size + 2, 12, none⟩ = false := frozen_of_row wr _ _ _ _ Q2.out
      obtain ⟨u0, e0⟩ : ∃ u, wr.cell? ⟨w.heap.size + 2, 12, none⟩ = some u := ⟨_, by rw [cell_of_row wr _ 12 _ _ _ Q2.out, List.getElem?_toArray, List.getElem?_eq_getElem (by unfold lkC; simp [hL.dl, hL.sl])]⟩
      have Q5 : Hid ((wr.setCell ⟨w.heap.size + 2, 12, none⟩ (.int .u16 T)).heap[w.heap.size + 2]? = some (.cells RES.toArray 31 (0, 0))) := Hid.mk' (by
        rw [Go.heap_setCell_same _ _ 12 _ _ _ Q2.out, List.setIfInBounds_toArray, ← HRES.out]
        have := lkC_setT (rdD zs) (rdS zs) 0 T
        rw [hL.dl, hL.sl] at this
        rw [this])
      have R5 : Hid ((wr.setCell ⟨w.heap.size + 2, 12, none⟩ (.int .u16 T)).heap[w.heap.size]? = some (.cells Z.toArray 31 (0, 0))) := Hid.mk' (by
        rw [Go.heap_setCell_other _ _ _ _ (by simp)]; exact R2.out)
      have B5 : Hid (Below w.heap.size w (wr.setCell ⟨w.heap.size + 2, 12, none⟩ (.int .u16 T))) := B2.out.setCell (p := ⟨w.heap.size + 2, 12, none⟩) (by simp) _
      have hone : Hid (RES.toArray.all (·.oneCell') = true) := Hid.mk' (by rw [← HRES.out]; exact lkC_one _ _ _)
      have hzl : Hid (Z.length = RES.length) := Hid.mk' (by rw [hlc.out, ← HZ.out]; rfl)
      have hth : Hid ((wr.setCell ⟨w.heap.size + 2, 12, none⟩ (.int .u16 T)).there w.heap.size 0 RES.toArray.size) := Hid.mk' (by
        have e : RES.toArray.size = Z.length := by rw [hzl.out]; exact List.size_toArray
        rw [e]; exact there_block R5.out)
      have hle : Hid (12 + 2 ≤ n) := Hid.mk' (by omega)
      clear cc hL
      go_wp2_with (first | (go_at_call 179; refine (value_any b off n c 12 2 zs wr HN.out (HB.out.below B2.out) (by omega) hle.out).mono ?_; rw [HV.out]; rintro e w5 ⟨rfl, rfl⟩) | refine wpList_store_mid rfl 31 _ _ rfl w.heap.size 0 RES.toArray rfl rfl hth.out (by rw [List.size_toArray, hlc.out]; exact info_lk) hone.out ?_ | refine wpList_load_mid rfl 31 _ rfl (w.heap.size + 1 + 1) 0 rfl RES _ (range_block Q5.out) Tryz.underlying31 rfl (by rw [hlc.out]; exact info_lk) ?_)
      have R6 : Hid (((wr.setCell ⟨w.heap.size + 2, 12, none⟩ (.int .u16 T)).setCells w.heap.size 0 RES).heap[w.heap.size]? = some (.cells RES.toArray 31 (0, 0))) := heap_whole R5.out hzl.out
      have B6 : Hid (Below w.heap.size w ((wr.setCell ⟨w.heap.size + 2, 12, none⟩ (.int .u16 T)).setCells w.heap.size 0 RES)) := B5.out.trans (((Kept.refl (fun k => k = w.heap.size) _).setCells w.heap.size 0 RES (fun _ => rfl)).below B5.out.size (fun k hk => by omega))
      refine ret_cell_tmp rfl w.heap.size 31 RES (0, 0) _ rfl R6.out Tryz.underlying31 rfl (by rw [hlc.out]; exact info_lk) rfl ?_
      exact ⟨rfl, B6.out⟩

theorem wf_u8 {z : Int} (h0 : 0 ≤ z) (h1 : z ≤ 255) : (Lit.int .u8 z).wf = true := by
  have e0 : IntKind.u8.min = 0 := by decide
  have e1 : IntKind.u8.max = 255 := by decide
  simp [Lit.wf, e0, e1]; omega

theorem wf_u16 {z : Int} (h0 : 0 ≤ z) (h1 : z ≤ 65535) : (Lit.int .u16 z).wf = true := by
  have e0 : IntKind.u16.min = 0 := by decide
  have e1 : IntKind.u16.max = 65535 := by decide
  simp [Lit.wf, e0, e1]; omega

theorem kl_bytes {t : TypeId} {n : Nat} (hu : Tryz.prog.underlying t = some (.array n 5)) (hc : Tryz.prog.cellsOf t = n) (D : Nat) (zs : List Int) (hl : zs.length = n) (h : Bytes zs) : Tryz.prog.keyLits (D + 2) t (zs.map (Value.int .u8)) = some (zs.map (Lit.int .u8)) :=
  kl_arr hu Tryz.underlying5 hc (by kernel_rfl) D zs hl (fun z hz => wf_u8 (h z hz).1 (h z hz).2)

theorem kl_lk {d s : List Int} {t : Int} (h : Lk d s t) : Tryz.prog.keyLits 3 31 (lkC d s t) = some ([(d.map (Value.int .u8), d.map (Lit.int .u8)), (s.map (Value.int .u8), s.map (Lit.int .u8)), ([Value.int .u16 t], [Lit.int .u16 t])].map (·.2)).flatten := by
  refine kl_struct (d := 2) Tryz.underlying31 (by kernel_rfl) _ _ (by simp [lkC]) ?_ rfl (fun i f p hf hp => ?_)
  · rw [lkC_length h]; kernel_rfl
  · have hd := h.dl
    have hs := h.sl
    match i, hf, hp with
    | 0, hf, hp =>
      cases hf; cases hp
      exact ⟨rfl, by rw [List.length_map, hd]; kernel_rfl, kl_bytes Tryz.underlying28 (by kernel_rfl) 0 d hd h.db⟩
    | 1, hf, hp =>
      cases hf; cases hp
      exact ⟨by simp [hd], by rw [List.length_map, hs]; kernel_rfl, kl_bytes Tryz.underlying28 (by kernel_rfl) 0 s hs h.sb⟩
    | 2, hf, hp =>
      cases hf; cases hp
      exact ⟨by simp [hd, hs], by kernel_rfl, kl_int Tryz.underlying29 1 t (wf_u16 h.t0 h.t1)⟩
    | i + 3, hf, hp => simp at hp

theorem eq_lk {d s : List Int} {t : Int} (h : Lk d s t) (w : World) : (Op.equalIn 10000 31 (.agg (lkC d s t).toArray) (.agg (lkC d s t).toArray)).run Tryz.prog w = .ok true w :=
  equal_same 3 (by omega) (by kernel_rfl) (by
    simp only [Value.formed, Tryz.underlying31, List.size_toArray, lkC_length h]; kernel_rfl) 3 (kl_lk h) w

/-- The chapter's header. -/
def uD : List Int := [1, 2, 3, 4, 5, 6]

def uS : List Int := [17, 18, 19, 20, 21, 22]

theorem lk_u : Lk uD uS 2048 := ⟨rfl, rfl, by intro z hz; simp [uD] at hz; omega, by intro z hz; simp [uS] at hz; omega, by omega, by omega⟩

/-- A row of the call's own that there is, as bytes that can be read. -/
theorem own_block_bs {w : World} {base g n c : Nat} {t : TypeId} {zs : List Int} (h : w.ownsRow base t 1 (.slice (some ⟨g, 0, none⟩) n c) n (zs.map (Value.int .u8))) (hb : Bytes zs) (hl : zs.length ≤ 140737488355328) : Bs w (some ⟨g, 0, none⟩) zs := by
  have hn : n = zs.length := by have := h.1; simpa using this.symm
  subst hn
  obtain ⟨a, c', e, hB, -⟩ := bs_own h hb hl
  cases e
  exact hB

theorem lk_0 : Lk (List.replicate 6 0) (List.replicate 6 0) 0 := ⟨rfl, rfl, by intro z hz; simp at hz; omega, by intro z hz; simp at hz; omega, by omega, by omega⟩

/-- What is read of bytes: the header's cells, and the error. -/
def rdL (zs : List Int) : List Value := if 14 ≤ zs.length then lkC (rdD zs) (rdS zs) (rdT zs) else lk0

def rdE (zs : List Int) : Int := if 14 ≤ zs.length then 0 else 6

theorem rdL_length {zs : List Int} (h : Bytes zs) : (rdL zs).length = 13 := by
  unfold rdL; split
  · rename_i hl; exact lkC_length (lk_of h hl)
  · rfl

theorem rdL_one (zs : List Int) : (rdL zs).toArray.all (·.oneCell') = true := by
  unfold rdL; split
  · exact lkC_one _ _ _
  · exact lkC_one _ _ _

theorem rdL_eq {zs : List Int} (h : Bytes zs) (w : World) : (Op.equalIn 10000 31 (.agg (rdL zs).toArray) (.agg (rdL zs).toArray)).run Tryz.prog w = .ok true w := by
  unfold rdL; split
  · rename_i hl; exact eq_lk (lk_of h hl) w
  · exact eq_lk lk_0 w

theorem bs_some {w : World} {a : Option Addr} {zs : List Int} (h : Bs w a zs) (hp : 0 < zs.length) : ∃ b off, a = some ⟨b, off, none⟩ := by
  rcases h.lies with h0 | ⟨b, off, e, _⟩
  · omega
  · exact ⟨b, off, e⟩

theorem lread_any (a : Option Addr) (n c : Nat) (zs : List Int) (w : World) (hz : zs.length = n) (hB : Bs w a zs) (hc : n ≤ c) :
    Calls Tryz.prog 63 #[.slice a n c] w fun e w' => e = .returned (.tuple #[.agg (rdL zs).toArray, .int .i64 (rdE zs)]) ∧ Below w.heap.size w w' := by
  unfold rdL rdE
  rw [hz]
  by_cases hn : 14 ≤ n
  · obtain ⟨b, off, rfl⟩ := bs_some hB (by omega)
    rw [if_pos hn, if_pos hn]
    exact lread_ok b off n c zs w hz hB hn hc
  · rw [if_neg hn, if_neg hn]
    exact lread_no a n c w (by omega)

theorem rread_any (a : Option Addr) (n c : Nat) (zs : List Int) (w : World) (hz : zs.length = n) (hB : Bs w a zs) :
    Calls Tryz.prog 118 #[.slice a n c] w fun e w' => e = .returned (.tuple #[.agg (rdL zs).toArray, .int .i64 (rdE zs)]) ∧ Below w.heap.size w w' := by
  unfold rdL rdE
  rw [hz]
  by_cases hn : 14 ≤ n
  · obtain ⟨b, off, rfl⟩ := bs_some hB (by omega)
    rw [if_pos hn, if_pos hn]
    exact rread_ok b off n c zs w hz hB hn
  · rw [if_neg hn, if_neg hn]
    exact rread_no a n c w (by omega)

/-- A header's bytes ahead of n bytes, and the error. -/
def byB (n : Nat) (d s : List Int) (t : Int) : List Int := if n ≤ 2034 then lkB d s t else []

def byE (n : Nat) : Int := if n ≤ 2034 then 0 else 5

theorem byB_bytes (n : Nat) {d s : List Int} {t : Int} (h : Lk d s t) : Bytes (byB n d s t) := by
  unfold byB; split
  · exact lkB_bytes h
  · exact fun z hz => by simp at hz

theorem byB_length (n : Nat) {d s : List Int} {t : Int} (h : Lk d s t) : (byB n d s t).length ≤ 14 := by
  unfold byB; split
  · rw [lkB_length h]; omega
  · simp

theorem lbytes_any (d s : List Int) (t : Int) (a : Option Addr) (n c : Nat) (w : World) (h : Lk d s t) (hl : n ≤ 140737488355328) :
    Calls Tryz.prog 82 #[.agg (lkC d s t).toArray, .slice a n c] w fun e w' => ∃ v, e = .returned (.tuple #[v, .int .i64 (byE n)]) ∧ w'.ownsRow w.heap.size 5 1 v (byB n d s t).length ((byB n d s t).map (Value.int .u8)) ∧ Below w.heap.size w w' := by
  unfold byB byE
  by_cases hn : n ≤ 2034
  · simp only [if_pos hn, lkB_length h]
    exact lbytes_ok d s t a n c w h hn
  · simp only [if_neg hn]
    refine (lbytes_no (lkC d s t) a n c w hn hl).mono ?_
    rintro e w' ⟨rfl, b⟩
    exact ⟨_, rfl, World.ownsRow_nil _ _ _ _, b⟩

theorem rbytes_any (d s : List Int) (t : Int) (a : Option Addr) (n c : Nat) (w : World) (h : Lk d s t) (hl : n ≤ 140737488355328) :
    Calls Tryz.prog 112 #[.agg (lkC d s t).toArray, .slice a n c] w fun e w' => ∃ v, e = .returned (.tuple #[v, .int .i64 (byE n)]) ∧ w'.ownsRow w.heap.size 5 1 v (byB n d s t).length ((byB n d s t).map (Value.int .u8)) ∧ Below w.heap.size w w' := by
  unfold byB byE
  by_cases hn : n ≤ 2034
  · simp only [if_pos hn, lkB_length h]
    exact rbytes_ok d s t a n c w h hn
  · simp only [if_neg hn]
    refine (rbytes_no d s t a n c w h hn hl).mono ?_
    rintro e w' ⟨rfl, b⟩
    exact ⟨_, rfl, World.ownsRow_nil _ _ _ _, b⟩

/-- A row of the call's own: as bytes that can be read, with its length and room. -/
theorem own_bs {w : World} {base n : Nat} {t : TypeId} {v : Value} {zs : List Int} (h : w.ownsRow base t 1 v n (zs.map (Value.int .u8))) (hn : zs.length = n) (hb : Bytes zs) (hl : zs.length ≤ 140737488355328) :
    ∃ a c, v = .slice a n c ∧ Bs w a zs ∧ n ≤ c ∧ (a = none → c = 0) := by
  subst hn
  obtain ⟨a, c, rfl, hB, h0⟩ := bs_own h hb hl
  refine ⟨a, c, rfl, hB, ?_, h0⟩
  rcases h.2 with ⟨e, h⟩ | ⟨g, cap, cur, e, _, _, h, _⟩
  · omega
  · simp only [Value.slice.injEq] at e; omega

end Go.Proofs.YtednmdkjhiihcaaGreat.K05
