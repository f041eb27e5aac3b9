/- The contracts of link.Bytes, link.Check, link.Size. -/
import Derived.Test.YthpgicgpoekmeaaGa
namespace Go.Proofs.Ythpgicgpoekmeaa
open Go.ChangeShapes Go.WideShapes Go.ChangeAt Go.RowKit

/-- A header's cells: Dst, Src, Type. -/
def lkC (d s : List Int) (t : Int) : List Value := d.map (Value.int .u8) ++ (s.map (Value.int .u8) ++ [.int .u16 t])
/-- A header's bytes. -/
def lkB (d s : List Int) (t : Int) : List Int := d ++ (s ++ [t / 256, t % 256])

/-- A header as it may be. -/
structure Lk (d s : List Int) (t : Int) : Prop where
  dl : d.length = 6
  sl : s.length = 6
  db : Bytes d
  sb : Bytes s
  t0 : 0 ≤ t
  t1 : t ≤ 65535

theorem lkC_length {d s : List Int} {t : Int} (h : Lk d s t) : (lkC d s t).length = 13 := by
  unfold lkC; simp [h.dl, h.sl]
theorem lkC_cell {d s : List Int} {t : Int} (h : Lk d s t) : (lkC d s t)[12]? = some (.int .u16 t) := by
  unfold lkC
  rw [List.getElem?_append_right (by simp [h.dl]), List.getElem?_append_right (by simp [h.dl, h.sl])]
  simp [h.dl, h.sl]

theorem lkC_one (d s : List Int) (t : Int) : (lkC d s t).toArray.all (·.oneCell') = true := by
  refine all_oneCell_toArray (fun v hv => ?_)
  unfold lkC at hv
  simp only [List.mem_append, List.mem_map, List.mem_singleton] at hv
  rcases hv with ⟨z, _, rfl⟩ | ⟨z, _, rfl⟩ | rfl <;> rfl

/-- The three parts of a header's row of bytes, written one behind the other. -/
theorem lk_row {d s : List Int} {t : Int} (h : Lk d s t) (u v : Value) (hu : u = .int .u8 (t / 256)) (hv : v = .int .u8 (t % 256)) :
    ((put (put ((List.replicate 14 (0 : Int)).map (Value.int .u8)) 0 (d.map (Value.int .u8))) 6 (s.map (Value.int .u8))).set 12 u).set 13 v = (lkB d s t).map (Value.int .u8) := by
  have e1 : put ((List.replicate 14 (0 : Int)).map (Value.int .u8)) 0 (d.map (Value.int .u8)) = d.map (Value.int .u8) ++ ((List.replicate 6 (0 : Int)).map (Value.int .u8) ++ (List.replicate 2 (0 : Int)).map (Value.int .u8)) :=
    put_head ((List.replicate 6 (0 : Int)).map (Value.int .u8)) _ _ (by simp [h.dl])
  rw [e1, put_mid _ _ _ _ 6 (by simp [h.dl]) (by simp [h.sl])]
  have e2 : ∀ (X : List Value) (a b : Value), X.length = 12 → ((X ++ [a, b]).set 12 u).set 13 v = X ++ [u, v] := by
    intro X a b hX
    rw [List.set_append_right _ _ (by omega), hX, List.set_append_right _ _ (by omega), hX]
    rfl
  rw [← List.append_assoc]
  have := e2 (d.map (Value.int .u8) ++ s.map (Value.int .u8)) (.int .u8 0) (.int .u8 0) (by simp [h.dl, h.sl])
  rw [show (List.replicate 2 (0 : Int)).map (Value.int .u8) = [.int .u8 0, .int .u8 0] from rfl, this, hu, hv]
  unfold lkB
  simp

set_option maxHeartbeats 400000 in
theorem lbytes_ok (d s : List Int) (t : Int) (a : Option Addr) (n c : Nat) (w : World) (h : Lk d s t) (hn : n ≤ 2034) :
    Calls Try.prog 9 #[.agg (lkC d s t).toArray, .slice a n c] w fun e w' => ∃ v, e = .returned (.tuple #[v, .int .i64 0]) ∧ w'.ownsRow w.heap.size 5 1 v 14 ((lkB d s t).map (Value.int .u8)) ∧ Below w.heap.size w w' := by
  obtain ⟨L, HL⟩ : ∃ L, Hid (lkC d s t = L) := ⟨_, rfl⟩
  rw [HL.out]
  obtain ⟨Z, HZ⟩ : ∃ Z, Hid ((List.replicate 14 (0 : Int)).map (Value.int .u8) = Z) := ⟨_, rfl⟩
  have hmk : ∀ u : World, (Instr.makeSlice 26 (.int .i64 14) (.int .i64 14)).run Try.prog u = .ok (.slice (some ⟨u.heap.size, 0, none⟩) 14 14) (u.alloc (.cells Z.toArray 5)) := by
    rw [← HZ.out]; exact make_bytes 14 (by omega)
  have t0 := h.t0
  have t1 := h.t1
  have H := Hid.mk' h
  clear h
  go_enter Try.func9, Try.ntmps9
  go_wp2_with fail
  obtain ⟨W2, hW2⟩ : ∃ W2, W2 = (w.alloc (.cells L.toArray 25)).alloc (.cells Z.toArray 5) := ⟨_, rfl⟩
  rw [← hW2]
  have X1 : Hid (W2.heap[w.heap.size]? = some (.cells L.toArray 25 (0, 0))) := by rw [hW2]; exact heap_alloc2_old w _ _
  have X2 : Hid (W2.heap[w.heap.size + 1]? = some (.cells Z.toArray 5 (0, 0))) := by rw [hW2]; exact heap_alloc2_new w _ _
  have B2 : Hid (Below w.heap.size w W2) := by rw [hW2]; exact ((Below.refl _ _).alloc (Nat.le_refl _) _).alloc (by simp) _
  clear hW2 hmk
  have Y1 : Hid (Bs W2.drew (some ⟨w.heap.size, 0, none⟩) d) := by
    refine bs_block (A := []) (D := s.map (Value.int .u8) ++ [.int .u16 t]) (t := 25) ?_ 0 rfl H.out.db (by rw [H.out.dl]; omega)
    show W2.heap[w.heap.size]? = _
    rw [X1.out, ← HL.out]; rfl
  have hzl : Hid (Z.length = 14) := Hid.mk' (by rw [← HZ.out]; simp)
  go_region_law (refine step_copy rfl _ _ rfl (w.heap.size + 1) 0 6 14 6 (some ⟨w.heap.size, 0, none⟩) rfl rfl d Z 5 X2.out Y1.out H.out.dl (by rw [hzl.out]; omega) ?_; intro w3 hg3 hk3; have X3 := Hid.mk' hg3; have K3 := Hid.mk' hk3; clear hg3 hk3)
  go_wp2_with fail
  have x1 : w3.heap[w.heap.size]? = some (.cells L.toArray 25 (0, 0)) := (K3.out.block w.heap.size (by have := (Array.getElem?_eq_some_iff.1 X1.out).1; exact this) (by omega)).trans X1.out
  have X1 := Hid.mk' x1
  have B3 : Hid (Below w.heap.size w w3) := B2.out.drew.trans (K3.out.below B2.out.size (fun k hk => by omega))
  clear x1 K3 B2 Y1 X2
  have Y1 : Hid (Bs w3.drew (some ⟨w.heap.size, 6, none⟩) s) := by
    refine bs_block (A := d.map (Value.int .u8)) (D := [.int .u16 t]) (t := 25) ?_ 6 (by simp [H.out.dl]) H.out.sb (by rw [H.out.sl]; omega)
    show w3.heap[w.heap.size]? = _
    rw [X1.out, ← HL.out]; rfl
  obtain ⟨Z3, HZ3⟩ : ∃ Z3, Hid (put Z 0 (d.map (Value.int .u8)) = Z3) := ⟨_, rfl⟩
  rw [HZ3.out] at X3
  have hz3 : Hid (Z3.length = 14) := Hid.mk' (by rw [← HZ3.out, put_length _ _ _ (by rw [List.length_map, H.out.dl, hzl.out]; omega), hzl.out])
  go_region_law (refine step_copy rfl _ _ rfl (w.heap.size + 1) 6 6 8 6 (some ⟨w.heap.size, 6, none⟩) rfl rfl s Z3 5 X3.out Y1.out H.out.sl (by rw [hz3.out]; omega) ?_; intro w4 hg4 hk4; have X4 := Hid.mk' hg4; have K4 := Hid.mk' hk4; clear hg4 hk4)
  have x1 : w4.heap[w.heap.size]? = some (.cells L.toArray 25 (0, 0)) := (K4.out.block w.heap.size (by have := (Array.getElem?_eq_some_iff.1 X1.out).1; exact this) (by omega)).trans X1.out
  have B4 : Hid (Below w.heap.size w w4) := B3.out.drew.trans (K4.out.below B3.out.size (fun k hk => by omega))
  have c1 : w4.cell? ⟨w.heap.size, 12, none⟩ = some (.int .u16 t) := by
    rw [cell_of_row w4 _ 12 _ _ _ x1, ← HL.out, List.getElem?_toArray]; exact lkC_cell H.out
  obtain ⟨Z4, HZ4⟩ : ∃ Z4, Hid (put Z3 6 (s.map (Value.int .u8)) = Z4) := ⟨_, rfl⟩
  rw [HZ4.out] at X4
  have hz4 : Hid (Z4.length = 14) := Hid.mk' (by rw [← HZ4.out, put_length _ _ _ (by rw [List.length_map, H.out.sl, hz3.out]; omega), hz3.out])
  obtain ⟨u12, c2⟩ : ∃ u, w4.cell? ⟨w.heap.size + 1, 12, none⟩ = some u := ⟨_, by rw [cell_of_row w4 _ 12 _ _ _ X4.out, List.getElem?_toArray, List.getElem?_eq_getElem (by rw [hz4.out]; omega)]⟩
  obtain ⟨u13, c3⟩ : ∃ u, w4.cell? ⟨w.heap.size + 1, 13, none⟩ = some u := ⟨_, by rw [cell_of_row w4 _ 13 _ _ _ X4.out, List.getElem?_toArray, List.getElem?_eq_getElem (by rw [hz4.out]; omega)]⟩
  have f2 : w4.frozen? ⟨w.heap.size + 1, 12, none⟩ = false := frozen_of_row w4 _ 12 _ _ X4.out
  have f3 : w4.frozen? ⟨w.heap.size + 1, 13, none⟩ = false := frozen_of_row w4 _ 13 _ _ X4.out
  clear x1 K4 B3 Y1 X3
  go_wp2_with fail
  have HR : Hid (((w4.setCell ⟨w.heap.size + 1, 12, none⟩ (.int .u8 (t / 256))).setCell ⟨w.heap.size + 1, 13, none⟩ (.int .u8 (t % 256))).ownsRow w.heap.size 5 1 (.slice (some ⟨w.heap.size + 1, 0, none⟩) 14 14) 14 ((lkB d s t).map (Value.int .u8))) := by
    refine own_block ?_ (by omega) (by simp [lkB, H.out.dl, H.out.sl]) (by omega)
    rw [Go.heap_setCell_same _ _ 13 _ _ _ (Go.heap_setCell_same _ _ 12 _ _ _ X4.out)]
    rw [← lk_row H.out _ _ rfl rfl, HZ.out, HZ3.out, HZ4.out]
    simp
  have HB : Hid (Below w.heap.size w ((w4.setCell ⟨w.heap.size + 1, 12, none⟩ (.int .u8 (t / 256))).setCell ⟨w.heap.size + 1, 13, none⟩ (.int .u8 (t % 256)))) :=
    (B4.out.setCell (p := ⟨w.heap.size + 1, 12, none⟩) (by simp) _).setCell (p := ⟨w.heap.size + 1, 13, none⟩) (by simp) _
  go_ret2
  exact ⟨_, rfl, HR.out, HB.out⟩

set_option maxHeartbeats 400000 in
theorem lbytes_no (L : List Value) (a : Option Addr) (n c : Nat) (w : World) (hn : ¬ n ≤ 2034) (hl : n ≤ 140737488355328) :
    Calls Try.prog 9 #[.agg L.toArray, .slice a n c] w fun e w' => e = .returned (.tuple #[.slice none 0 0, .int .i64 5]) ∧ Below w.heap.size w w' := by
  go_enter Try.func9, Try.ntmps9
  go_wp2_with fail
  go_ret2
  exact ⟨rfl, (Below.refl _ _).alloc (Nat.le_refl _) _⟩

theorem lcheck_any (L : List Value) (w : World) : Calls Try.prog 11 #[.agg L.toArray] w fun e w' => e = .returned (.int .i64 0) ∧ Below w.heap.size w w' := by
  go_enter Try.func11, Try.ntmps11
  go_wp2_with fail
  go_ret
  exact ⟨rfl, (Below.refl _ _).alloc (Nat.le_refl _) _⟩

theorem lsize_any (w : World) : Calls Try.prog 13 #[] w fun e w' => e = .returned (.int .i64 14) ∧ w = w' := by
  go_enter Try.func13, Try.ntmps13
  go_wp2_with fail
  go_ret
  exact ⟨rfl, rfl⟩

/-- A header's cells that are none. -/
def lk0 : List Value := lkC (List.replicate 6 0) (List.replicate 6 0) 0

/-- The header that bytes begin with. -/
def rdD (zs : List Int) : List Int := zs.take 6
def rdS (zs : List Int) : List Int := (zs.drop 6).take 6
def rdT (zs : List Int) : Int := zs.getD 12 0 * 256 + zs.getD 13 0

theorem lk_of {zs : List Int} (hb : Bytes zs) (hl : 14 ≤ zs.length) : Lk (rdD zs) (rdS zs) (rdT zs) := by
  have h1 := hb.getD 12
  have h2 := hb.getD 13
  refine ⟨by simp [rdD]; omega, by simp [rdS]; omega, fun z hz => hb z (List.mem_of_mem_take hz), fun z hz => hb z (List.mem_of_mem_drop (List.mem_of_mem_take hz)), ?_, ?_⟩ <;> unfold rdT <;> omega

theorem lkB_length {d s : List Int} {t : Int} (h : Lk d s t) : (lkB d s t).length = 14 := by
  simp [lkB, h.dl, h.sl]

theorem lkB_bytes {d s : List Int} {t : Int} (h : Lk d s t) : Bytes (lkB d s t) := by
  have h0 := h.t0
  have h1 := h.t1
  refine bytes_append h.db (bytes_append h.sb ?_)
  intro z hz
  simp at hz
  omega

/-- A header is read again from its bytes, whatever stands behind them. -/
theorem rd_lkB {d s : List Int} {t : Int} (h : Lk d s t) (ys : List Int) : rdD (lkB d s t ++ ys) = d ∧ rdS (lkB d s t ++ ys) = s ∧ rdT (lkB d s t ++ ys) = t := by
  have h0 := h.t0
  have h1 := h.t1
  have e : lkB d s t ++ ys = d ++ (s ++ (t / 256 :: t % 256 :: ys)) := by simp [lkB]
  rw [e]
  refine ⟨?_, ?_, ?_⟩
  · unfold rdD; rw [← h.dl, List.take_left]
  · unfold rdS
    rw [show (6 : Nat) = d.length from h.dl.symm, List.drop_left, h.dl, ← h.sl, List.take_left]
  · unfold rdT
    have g : ∀ k, (d ++ (s ++ (t / 256 :: t % 256 :: ys))).getD (12 + k) 0 = (t / 256 :: t % 256 :: ys).getD k 0 := by
      intro k
      rw [List.getD_eq_getElem?_getD, List.getD_eq_getElem?_getD, List.getElem?_append_right (by rw [h.dl]; omega), List.getElem?_append_right (by rw [h.dl, h.sl]; omega), h.dl, h.sl]
      congr 2; omega
    have g0 := g 0
    have g1 := g 1
    simp only [Nat.add_zero, List.getD_cons_zero, List.getD_cons_succ] at g0 g1
    rw [g0, g1]; omega

/-- What is read is written just so. -/
theorem lkB_rd {zs : List Int} (hb : Bytes zs) (hl : 14 ≤ zs.length) : lkB (rdD zs) (rdS zs) (rdT zs) = zs.take 14 := by
  have b1 := hb.getD 12
  have b2 := hb.getD 13
  have e : zs.take 14 = zs.take 6 ++ ((zs.drop 6).take 6 ++ ((zs.drop 12).take 2)) := by
    have e1 : zs.take (6 + 8) = zs.take 6 ++ (zs.drop 6).take 8 := List.take_add
    have e2 : (zs.drop 6).take (6 + 2) = (zs.drop 6).take 6 ++ ((zs.drop 6).drop 6).take 2 := List.take_add
    rw [e1, e2, List.drop_drop]
  have e3 : (zs.drop 12).take 2 = [zs.getD 12 0, zs.getD 13 0] := by
    apply List.ext_getElem?
    intro i
    match i with
    | 0 =>
      rw [List.getElem?_take_of_lt (by omega), List.getElem?_drop]
      show zs[12]? = some (zs.getD 12 0)
      rw [List.getD_eq_getElem?_getD, List.getElem?_eq_getElem (by omega)]; rfl
    | 1 =>
      rw [List.getElem?_take_of_lt (by omega), List.getElem?_drop]
      show zs[13]? = some (zs.getD 13 0)
      rw [List.getD_eq_getElem?_getD, List.getElem?_eq_getElem (by omega)]; rfl
    | i + 2 => rw [List.getElem?_eq_none (by rw [List.length_take]; omega)]; rfl
  rw [e, e3]
  unfold lkB rdD rdS rdT
  congr 4 <;> omega

theorem rd_take {zs : List Int} (k : Nat) (h : 14 ≤ k) : rdD (zs.take k) = rdD zs ∧ rdS (zs.take k) = rdS zs ∧ rdT (zs.take k) = rdT zs := by
  refine ⟨?_, ?_, ?_⟩
  · unfold rdD; rw [List.take_take, Nat.min_eq_left (by omega)]
  · unfold rdS; rw [List.drop_take, List.take_take, Nat.min_eq_left (by omega)]
  · unfold rdT; rw [List.getD_eq_getElem?_getD, List.getElem?_take_of_lt (by omega), List.getD_eq_getElem?_getD, List.getElem?_take_of_lt (by omega)]; simp only [List.getD_eq_getElem?_getD]
end Go.Proofs.Ythpgicgpoekmeaa
