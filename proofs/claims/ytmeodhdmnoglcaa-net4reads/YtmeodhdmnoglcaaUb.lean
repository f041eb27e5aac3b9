/- The contract of net4.Bytes. -/
import Derived.Test.YtmeodhdmnoglcaaUa
namespace Go.Proofs.Ytmeodhdmnoglcaa
open Go.ChangeShapes Go.WideShapes Go.ChangeAt Go.RowKit

theorem n4B_length {o l p i : Int} {s d : List Int} (h : N4 o l p i s d) (m f : Int) : (n4B o l p i s d m f).length = 20 := by
  unfold n4B; simp [h.sl, h.dl]
theorem n4B_bytes {o l p i : Int} {s d : List Int} (h : N4 o l p i s d) {m f : Int} (m0 : 0 ≤ m) (m1 : m ≤ 2028) (f0 : 0 ≤ f) (f1 : f ≤ 65535) : Bytes (n4B o l p i s d m f) := by
  obtain ⟨o0, o1, l0, l1, p0, p1, i0, i1, sl, dl, sb, db⟩ := h
  unfold n4B
  refine bytes_append ?_ (bytes_append sb db)
  intro z hz
  simp at hz
  rcases hz with rfl | rfl | rfl | rfl | rfl | rfl | rfl | rfl | rfl | rfl | rfl <;> omega
theorem zf_n4B {o l p i : Int} {s d : List Int} (h : N4 o l p i s d) {m : Int} : zf (n4B o l p i s d m 0) = n4B o l p i s d m 0 := by
  unfold zf
  rw [List.take_of_length_le (by rw [n4B_length h]; omega)]
  simp [n4B]
theorem n4F_bd (o l p i : Int) (s d : List Int) (m : Int) : 0 ≤ n4F o l p i s d m ∧ n4F o l p i s d m ≤ 65535 := by
  have := su_range (n4B o l p i s d m 0) 20
  unfold n4F; omega

set_option maxHeartbeats 400000 in
theorem lbytes_no (L : List Value) (a : Option Addr) (n c : Nat) (w : World) (hn : ¬ n ≤ 2028) (hl : n ≤ 140737488355328) :
    Calls Try.prog 9 #[.agg L.toArray, .slice a n c] w fun e w' => e = .returned (.tuple #[.slice none 0 0, .int .i64 5]) ∧ Below w.heap.size w w' := by
  go_enter Try.func9, Try.ntmps9
  go_wp2_with fail
  go_ret2
  exact ⟨rfl, (Below.refl _ _).alloc (Nat.le_refl _) _⟩

set_option maxHeartbeats 1000000 in
theorem lbytes_ok (o l p i : Int) (s d : List Int) (a : Option Addr) (n c : Nat) (w : World) (h : N4 o l p i s d) (hn : n ≤ 2028) :
    Calls Try.prog 9 #[.agg (n4C o l p i s d).toArray, .slice a n c] w fun e w' => ∃ v, e = .returned (.tuple #[v, .int .i64 0]) ∧ w'.ownsRow w.heap.size 5 1 v 20 ((n4B o l p i s d n (n4F o l p i s d n)).map (Value.int .u8)) ∧ Below w.heap.size w w' := by
  obtain ⟨L, HL⟩ : ∃ L, Hid (n4C o l p i s d = L) := ⟨_, rfl⟩
  rw [HL.out]
  have CE : Hid (∀ w' : World, w'.heap[w.heap.size]? = some (.cells L.toArray 25 (0, 0)) → w'.cell? ⟨w.heap.size, 0, none⟩ = some (.int .u8 o) ∧ w'.cell? ⟨w.heap.size, 1, none⟩ = some (.int .u8 l) ∧ w'.cell? ⟨w.heap.size, 2, none⟩ = some (.int .u8 p) ∧ w'.cell? ⟨w.heap.size, 3, none⟩ = some (.int .u16 i)) := Hid.mk' (fun w' hh => by
    rw [← HL.out] at hh
    refine ⟨?_, ?_, ?_, ?_⟩ <;> exact cell_of_row w' _ _ _ _ _ hh)
  have hmk : ∀ u : World, (Instr.makeSlice 26 (.int .i64 20) (.int .i64 20)).run Try.prog u = .ok (.slice (some ⟨u.heap.size, 0, none⟩) 20 20) (u.alloc (.cells #[.int .u8 0, .int .u8 0, .int .u8 0, .int .u8 0, .int .u8 0, .int .u8 0, .int .u8 0, .int .u8 0, .int .u8 0, .int .u8 0, .int .u8 0, .int .u8 0, .int .u8 0, .int .u8 0, .int .u8 0, .int .u8 0, .int .u8 0, .int .u8 0, .int .u8 0, .int .u8 0] 5)) := make_bytes 20 (by omega)
  have i0 := h.i0
  have i1 := h.i1
  have H := Hid.mk' h
  have g0 : L[0]? = some (.int .u8 o) := by rw [← HL.out]; rfl
  have g1 : L.toArray[0]? = some (.int .u8 o) := by rw [← HL.out]; rfl
  clear h
  go_enter Try.func9, Try.ntmps9
  go_wp2_with fail
  obtain ⟨W2, hW2⟩ : ∃ W2, W2 = (w.alloc (.cells L.toArray 25)).alloc (.cells #[.int .u8 69, .int .u8 o, .int .u8 0, .int .u8 0, .int .u8 0, .int .u8 0, .int .u8 0, .int .u8 0, .int .u8 0, .int .u8 0, .int .u8 0, .int .u8 0, .int .u8 0, .int .u8 0, .int .u8 0, .int .u8 0, .int .u8 0, .int .u8 0, .int .u8 0, .int .u8 0] 5) := ⟨_, rfl⟩
  rw [← hW2]
  have X1 : Hid (W2.heap[w.heap.size]? = some (.cells L.toArray 25 (0, 0))) := by rw [hW2]; exact heap_alloc2_old w _ _
  have X2 : Hid (W2.heap[w.heap.size + 1]? = some (.cells ([.int .u8 69, .int .u8 o, .int .u8 0, .int .u8 0, .int .u8 0, .int .u8 0, .int .u8 0, .int .u8 0, .int .u8 0, .int .u8 0, .int .u8 0, .int .u8 0, .int .u8 0, .int .u8 0, .int .u8 0, .int .u8 0, .int .u8 0, .int .u8 0, .int .u8 0, .int .u8 0] : List Value).toArray 5 (0, 0))) := by rw [hW2]; exact heap_alloc2_new w _ _
  have B2 : Hid (Below w.heap.size w W2) := by rw [hW2]; exact ((Below.refl _ _).alloc (Nat.le_refl _) _).alloc (by simp) _
  clear hW2 hmk g0 g1
  refine (put16_any (w.heap.size + 1) 20 2 (20 + (n : Int)) _ 5 W2 X2.out rfl (by omega) (by omega) (by omega) (by omega)).mono ?_
  rintro e w3 ⟨rfl, x3, k3⟩
  have X3 : Hid (w3.heap[w.heap.size + 1]? = some (.cells ([.int .u8 69, .int .u8 o, .int .u8 ((20 + (n : Int)) / 256), .int .u8 ((20 + (n : Int)) % 256), .int .u8 0, .int .u8 0, .int .u8 0, .int .u8 0, .int .u8 0, .int .u8 0, .int .u8 0, .int .u8 0, .int .u8 0, .int .u8 0, .int .u8 0, .int .u8 0, .int .u8 0, .int .u8 0, .int .u8 0, .int .u8 0] : List Value).toArray 5 (0, 0))) := Hid.mk' x3
  have Y3 : Hid (w3.heap[w.heap.size]? = some (.cells L.toArray 25 (0, 0))) := (k3.block w.heap.size (Array.getElem?_eq_some_iff.1 X1.out).1 (by omega)).trans X1.out
  have B3 : Hid (Below w.heap.size w w3) := B2.out.trans (k3.below B2.out.size (fun k hk => by omega))
  obtain ⟨c0, c1, c2, c3⟩ := CE.out _ Y3.out
  clear x3 k3 X1 X2 B2
  go_wp2_with fail
  refine (put16_any (w.heap.size + 1) 20 4 i _ 5 w3 X3.out rfl (by omega) (by omega) i0 i1).mono ?_
  rintro e w4 ⟨rfl, x4, k4⟩
  have X4 : Hid (w4.heap[w.heap.size + 1]? = some (.cells ([.int .u8 69, .int .u8 o, .int .u8 ((20 + (n : Int)) / 256), .int .u8 ((20 + (n : Int)) % 256), .int .u8 (i / 256), .int .u8 (i % 256), .int .u8 0, .int .u8 0, .int .u8 0, .int .u8 0, .int .u8 0, .int .u8 0, .int .u8 0, .int .u8 0, .int .u8 0, .int .u8 0, .int .u8 0, .int .u8 0, .int .u8 0, .int .u8 0] : List Value).toArray 5 (0, 0))) := Hid.mk' x4
  have Y4 : Hid (w4.heap[w.heap.size]? = some (.cells L.toArray 25 (0, 0))) := (k4.block w.heap.size (Array.getElem?_eq_some_iff.1 Y3.out).1 (by omega)).trans Y3.out
  have B4 : Hid (Below w.heap.size w w4) := B3.out.trans (k4.below B3.out.size (fun k hk => by omega))
  clear c0 c1 c2 c3
  obtain ⟨c0, c1, c2, c3⟩ := CE.out _ Y4.out
  have d8 : w4.cell? ⟨w.heap.size + 1, 8, none⟩ = some (.int .u8 0) := cell_of_row w4 _ _ _ _ _ X4.out
  have d9 : w4.cell? ⟨w.heap.size + 1, 9, none⟩ = some (.int .u8 0) := cell_of_row w4 _ _ _ _ _ X4.out
  have f8 : w4.frozen? ⟨w.heap.size + 1, 8, none⟩ = false := frozen_of_row w4 _ _ _ _ X4.out
  have f9 : w4.frozen? ⟨w.heap.size + 1, 9, none⟩ = false := frozen_of_row w4 _ _ _ _ X4.out
  clear x4 k4 X3 Y3 B3
  go_wp2_with fail
  obtain ⟨w5, hw5⟩ : ∃ w5, w5 = (w4.setCell ⟨w.heap.size + 1, 8, none⟩ (.int .u8 l)).setCell ⟨w.heap.size + 1, 9, none⟩ (.int .u8 p) := ⟨_, rfl⟩
  rw [← hw5]
  have k5 : Kept (fun k => k = w.heap.size + 1) w4 w5 := by rw [hw5]; exact ((Kept.refl (fun k => k = w.heap.size + 1) w4).setCell (p := ⟨w.heap.size + 1, 8, none⟩) (fun _ => rfl) _).setCell (p := ⟨w.heap.size + 1, 9, none⟩) (fun _ => rfl) _
  have X5 : Hid (w5.heap[w.heap.size + 1]? = some (.cells ([.int .u8 69, .int .u8 o, .int .u8 ((20 + (n : Int)) / 256), .int .u8 ((20 + (n : Int)) % 256), .int .u8 (i / 256), .int .u8 (i % 256), .int .u8 0, .int .u8 0, .int .u8 l, .int .u8 p, .int .u8 0, .int .u8 0] ++ ([.int .u8 0, .int .u8 0, .int .u8 0, .int .u8 0] ++ [.int .u8 0, .int .u8 0, .int .u8 0, .int .u8 0]) : List Value).toArray 5 (0, 0))) := Hid.mk' (by
    rw [hw5, Go.heap_setCell_same _ _ 9 _ _ _ (Go.heap_setCell_same _ _ 8 _ _ _ X4.out)]; rfl)
  have Y5 : Hid (w5.heap[w.heap.size]? = some (.cells L.toArray 25 (0, 0))) := (k5.block w.heap.size (Array.getElem?_eq_some_iff.1 Y4.out).1 (by omega)).trans Y4.out
  have B5 : Hid (Below w.heap.size w w5) := B4.out.trans (k5.below B4.out.size (fun k hk => by omega))
  clear hw5 k5 c0 c1 c2 c3 d8 d9 f8 f9 X4 Y4 B4
  obtain ⟨PR, HPR⟩ : ∃ PR : List Value, Hid ([.int .u8 69, .int .u8 o, .int .u8 ((20 + (n : Int)) / 256), .int .u8 ((20 + (n : Int)) % 256), .int .u8 (i / 256), .int .u8 (i % 256), .int .u8 0, .int .u8 0, .int .u8 l, .int .u8 p, .int .u8 0, .int .u8 0] = PR) := ⟨_, rfl⟩
  obtain ⟨Q4, HQ4⟩ : ∃ Q4 : List Value, Hid ([.int .u8 0, .int .u8 0, .int .u8 0, .int .u8 0] = Q4) := ⟨_, rfl⟩
  rw [HPR.out, HQ4.out] at X5
  have hql : Hid (Q4.length = 4) := Hid.mk' (by rw [← HQ4.out]; rfl)
  have hpl : Hid (PR.length = 12) := Hid.mk' (by rw [← HPR.out]; rfl)
  have T5 : Hid (Bs w5.drew (some ⟨w.heap.size, 4, none⟩) s) := by
    refine bs_block (A := [.int .u8 o, .int .u8 l, .int .u8 p, .int .u16 i]) (D := d.map (Value.int .u8)) (t := 25) ?_ 4 rfl H.out.sb (by rw [H.out.sl]; omega)
    show w5.heap[w.heap.size]? = _
    rw [Y5.out, ← HL.out]; rfl
  go_region_law (refine step_copy rfl _ _ rfl (w.heap.size + 1) 12 4 8 4 (some ⟨w.heap.size, 4, none⟩) rfl rfl s _ 5 X5.out T5.out H.out.sl (by simp [hpl.out, hql.out]) ?_; intro w6 hg6 hk6; have X6 := Hid.mk' hg6; have K6 := Hid.mk' hk6; clear hg6 hk6)
  have Y6 : Hid (w6.heap[w.heap.size]? = some (.cells L.toArray 25 (0, 0))) := (K6.out.block w.heap.size (by have := (Array.getElem?_eq_some_iff.1 Y5.out).1; exact this) (by omega)).trans Y5.out
  have B6 : Hid (Below w.heap.size w w6) := B5.out.drew.trans (K6.out.below B5.out.size (fun k hk => by omega))
  rw [put_mid _ _ _ _ 12 hpl.out.symm (by simp [H.out.sl, hql.out])] at X6
  clear K6 X5 Y5 B5 T5
  go_wp2_with fail
  have T6 : Hid (Bs w6.drew (some ⟨w.heap.size, 8, none⟩) d) := by
    refine bs_block (A := [.int .u8 o, .int .u8 l, .int .u8 p, .int .u16 i] ++ s.map (Value.int .u8)) (D := []) (t := 25) ?_ 8 (by simp [H.out.sl]) H.out.db (by rw [H.out.dl]; omega)
    show w6.heap[w.heap.size]? = _
    rw [Y6.out, ← HL.out]; simp [n4C]
  rw [← List.append_nil Q4, ← List.append_assoc] at X6
  go_region_law (refine step_copy rfl _ _ rfl (w.heap.size + 1) 16 4 4 4 (some ⟨w.heap.size, 8, none⟩) rfl rfl d _ 5 X6.out T6.out H.out.dl (by simp [hpl.out, hql.out, H.out.sl]) ?_; intro w7 hg7 hk7; have X7 := Hid.mk' hg7; have K7 := Hid.mk' hk7; clear hg7 hk7)
  have B7 : Hid (Below w.heap.size w w7) := B6.out.drew.trans (K7.out.below B6.out.size (fun k hk => by omega))
  rw [put_mid _ _ _ _ 16 (by simp [hpl.out, H.out.sl]) (by simp [H.out.dl, hql.out]), List.append_nil, List.append_assoc] at X7
  clear K7 X6 Y6 B6 T6
  have EB : Hid (PR ++ (s.map (Value.int .u8) ++ d.map (Value.int .u8)) = (n4B o l p i s d n 0).map (Value.int .u8)) := Hid.mk' (by rw [← HPR.out]; simp [n4B])
  rw [EB.out] at X7
  have hB0 : Hid (Bytes (n4B o l p i s d n 0)) := Hid.mk' (n4B_bytes H.out (by omega) (by omega) (by omega) (by omega))
  have hL0 : Hid ((n4B o l p i s d n 0).length = 20) := Hid.mk' (n4B_length H.out _ _)
  have S7 : Hid (Bs w7 (some ⟨w.heap.size + 1, 0, none⟩) (n4B o l p i s d n 0)) := Hid.mk' (bs_block (A := []) (D := []) (t := 5) (by rw [X7.out]; simp) 0 rfl hB0.out (by rw [hL0.out]; omega))
  go_wp2_with fail
  have key := fieldOf_any (some ⟨w.heap.size + 1, 0, none⟩) 20 20 (n4B o l p i s d n 0) w7 hL0.out S7.out (by omega)
  rw [zf_n4B H.out] at key
  refine key.mono ?_
  rintro e w8 ⟨rfl, b8⟩
  have X8 : Hid (w8.heap[w.heap.size + 1]? = some (.cells ((n4B o l p i s d n 0).map (Value.int .u8)).toArray 5 (0, 0))) := (b8.block _ (Array.getElem?_eq_some_iff.1 X7.out).1).trans X7.out
  have B8 : Hid (Below w.heap.size w w8) := B7.out.trans (b8.mono B7.out.size)
  clear key b8 X7 B7 S7
  go_wp2_with fail
  have hF := su_range (n4B o l p i s d n 0) 20
  refine (put16_any (w.heap.size + 1) 20 10 _ _ 5 w8 X8.out (by rw [List.length_map]; exact hL0.out) (by omega) (by omega) (by omega) (by omega)).mono ?_
  rintro e w9 ⟨rfl, x9, k9⟩
  have B9 : Hid (Below w.heap.size w w9) := B8.out.trans (k9.below B8.out.size (fun k hk => by omega))
  have O9 : Hid (w9.ownsRow w.heap.size 5 1 (.slice (some ⟨w.heap.size + 1, 0, none⟩) 20 20) 20 ((n4B o l p i s d n (n4F o l p i s d n)).map (Value.int .u8))) := Hid.mk' (by
    refine own_block ?_ (by omega) (by rw [List.length_map, n4B_length H.out]) (by omega)
    rw [x9]; simp [n4B, n4F])
  clear x9 k9 X8 B8 hF
  go_wp2_with fail
  go_ret2
  exact ⟨_, rfl, O9.out, B9.out⟩
end Go.Proofs.Ytmeodhdmnoglcaa
