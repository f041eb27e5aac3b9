/- The contract of net6.Bytes. -/
import Derived.Test.YtidlgbidffldoaaVa
namespace Go.Proofs.Ytidlgbidffldoaa
open Go.ChangeShapes Go.WideShapes Go.ChangeAt Go.RowKit

theorem n6B_length {cl fl nx hp : Int} {s d : List Int} (h : N6 cl fl nx hp s d) (m : Int) : (n6B cl fl nx hp s d m).length = 40 := by
  unfold n6B; simp [h.sl, h.dl]
theorem n6M_bd {cl fl nx hp : Int} {s d : List Int} (h : N6 cl fl nx hp s d) (hf : fl ≤ 1048575) : 1610612736 ≤ n6M cl fl ∧ n6M cl fl ≤ 1879048191 := by
  obtain ⟨c0, c1, f0, f1, x0, x1, h0, h1, sl, dl, sb, db⟩ := h
  unfold n6M; omega
theorem n6B_bytes {cl fl nx hp : Int} {s d : List Int} (h : N6 cl fl nx hp s d) (hf : fl ≤ 1048575) {m : Int} (m0 : 0 ≤ m) (m1 : m ≤ 65535) : Bytes (n6B cl fl nx hp s d m) := by
  have hM := n6M_bd h hf
  obtain ⟨c0, c1, f0, f1, x0, x1, h0, h1, sl, dl, sb, db⟩ := h
  unfold n6B
  generalize n6M cl fl = M at *
  refine bytes_append ?_ (bytes_append sb db)
  intro z hz
  simp at hz
  rcases hz with rfl | rfl | rfl | rfl | rfl | rfl | rfl | rfl <;> omega

set_option maxHeartbeats 400000 in
theorem lbytes_bad (L : List Value) (fl : Int) (a : Option Addr) (n c : Nat) (w : World) (hlc : L.length = 36) (hL : L[1]? = some (.int .u32 fl)) (hf : ¬ fl ≤ 1048575) :
    Calls Try.prog 9 #[.agg L.toArray, .slice a n c] w fun e w' => e = .returned (.tuple #[.slice none 0 0, .int .i64 80]) ∧ Below w.heap.size w w' := by
  have hlc := Hid.mk' hlc
  have HCK : Hid (∀ u : World, Calls Try.prog 11 #[.agg L.toArray] u fun e w' => e = .returned (.int .i64 80) ∧ Below u.heap.size u w') := Hid.mk' (fun u => by
    have := lcheck_any L fl u hL
    unfold n6E at this
    rw [if_neg hf] at this
    exact this)
  clear hL hf
  obtain ⟨W1, hW1⟩ : ∃ W1, W1 = w.alloc (.cells L.toArray 25) := ⟨_, rfl⟩
  have R1 : Hid (W1.heap[w.heap.size]? = some (.cells L.toArray 25 (0, 0))) := by rw [hW1]; exact heap_alloc_new w _
  have B1 : Hid (Below w.heap.size w W1) := by rw [hW1]; exact (Below.refl _ _).alloc (Nat.le_refl _) _
  have HW := Hid.mk' hW1.symm
  clear hW1
  go_enter Try.func9, Try.ntmps9
  go_wp2_with (first | (go_at_call 11; rw [HW.out]; refine (HCK.out W1).mono ?_; rintro e w2 ⟨rfl, b2⟩; have B2 : Hid (Below w.heap.size w w2) := (B1.out.trans (b2.mono B1.out.size)); clear b2) | refine wpList_load_mid rfl 25 _ rfl w.heap.size 0 rfl L _ (by rw [HW.out]; exact range_block R1.out) Try.underlying25 rfl (by rw [hlc.out]; exact info_hd) ?_)
  go_ret2
  exact ⟨rfl, B2.out⟩

set_option maxHeartbeats 400000 in
theorem lbytes_no (L : List Value) (fl : Int) (a : Option Addr) (n c : Nat) (w : World) (hlc : L.length = 36) (hL : L[1]? = some (.int .u32 fl)) (hf : fl ≤ 1048575) (hn : ¬ n ≤ 2008) (hl : n ≤ 140737488355328) :
    Calls Try.prog 9 #[.agg L.toArray, .slice a n c] w fun e w' => e = .returned (.tuple #[.slice none 0 0, .int .i64 5]) ∧ Below w.heap.size w w' := by
  have hlc := Hid.mk' hlc
  have HCK : Hid (∀ u : World, Calls Try.prog 11 #[.agg L.toArray] u fun e w' => e = .returned (.int .i64 0) ∧ Below u.heap.size u w') := Hid.mk' (fun u => by
    have := lcheck_any L fl u hL
    unfold n6E at this
    rw [if_pos hf] at this
    exact this)
  clear hL hf
  obtain ⟨W1, hW1⟩ : ∃ W1, W1 = w.alloc (.cells L.toArray 25) := ⟨_, rfl⟩
  have R1 : Hid (W1.heap[w.heap.size]? = some (.cells L.toArray 25 (0, 0))) := by rw [hW1]; exact heap_alloc_new w _
  have B1 : Hid (Below w.heap.size w W1) := by rw [hW1]; exact (Below.refl _ _).alloc (Nat.le_refl _) _
  have HW := Hid.mk' hW1.symm
  clear hW1
  go_enter Try.func9, Try.ntmps9
  go_wp2_with (first | (go_at_call 11; rw [HW.out]; refine (HCK.out W1).mono ?_; rintro e w2 ⟨rfl, b2⟩; have B2 : Hid (Below w.heap.size w w2) := (B1.out.trans (b2.mono B1.out.size)); clear b2) | refine wpList_load_mid rfl 25 _ rfl w.heap.size 0 rfl L _ (by rw [HW.out]; exact range_block R1.out) Try.underlying25 rfl (by rw [hlc.out]; exact info_hd) ?_)
  go_ret2
  exact ⟨rfl, B2.out⟩

set_option maxHeartbeats 1000000 in
theorem lbytes_ok (cl fl nx hp : Int) (s d : List Int) (a : Option Addr) (n c : Nat) (w : World) (h : N6 cl fl nx hp s d) (hf : fl ≤ 1048575) (hn : n ≤ 2008) :
    Calls Try.prog 9 #[.agg (n6C cl fl nx hp s d).toArray, .slice a n c] w fun e w' => ∃ v, e = .returned (.tuple #[v, .int .i64 0]) ∧ w'.ownsRow w.heap.size 5 1 v 40 ((n6B cl fl nx hp s d n).map (Value.int .u8)) ∧ Below w.heap.size w w' := by
  have hlc := Hid.mk' (n6C_length h)
  have HCK : Hid (∀ u : World, Calls Try.prog 11 #[.agg (n6C cl fl nx hp s d).toArray] u fun e w' => e = .returned (.int .i64 0) ∧ Below u.heap.size u w') := Hid.mk' (fun u => by
    have := lcheck_any (n6C cl fl nx hp s d) fl u rfl
    unfold n6E at this
    rw [if_pos hf] at this
    exact this)
  obtain ⟨L, HL⟩ : ∃ L, Hid (n6C cl fl nx hp s d = L) := ⟨_, rfl⟩
  rw [HL.out] at hlc HCK ⊢
  have CE : Hid (∀ w' : World, w'.heap[w.heap.size]? = some (.cells L.toArray 25 (0, 0)) → w'.cell? ⟨w.heap.size, 0, none⟩ = some (.int .u8 cl) ∧ w'.cell? ⟨w.heap.size, 1, none⟩ = some (.int .u32 fl) ∧ w'.cell? ⟨w.heap.size, 2, none⟩ = some (.int .u8 nx) ∧ w'.cell? ⟨w.heap.size, 3, none⟩ = some (.int .u8 hp)) := Hid.mk' (fun w' hh => by
    rw [← HL.out] at hh
    refine ⟨?_, ?_, ?_, ?_⟩ <;> exact cell_of_row w' _ _ _ _ _ hh)
  obtain ⟨Z, HZ⟩ : ∃ Z, Hid ((List.replicate 40 (0 : Int)).map (Value.int .u8) = Z) := ⟨_, rfl⟩
  have hmk : ∀ u : World, (Instr.makeSlice 26 (.int .i64 40) (.int .i64 40)).run Try.prog u = .ok (.slice (some ⟨u.heap.size, 0, none⟩) 40 40) (u.alloc (.cells Z.toArray 5)) := by
    rw [← HZ.out]; exact make_bytes 40 (by omega)
  have c0 := h.c0
  have c1 := h.c1
  have f0 := h.f0
  have H := Hid.mk' h
  have hor1 := or28 cl c0 c1
  have hor2 := or20 cl fl c0 c1 f0 hf
  have hM := Hid.mk' (n6M_bd h hf)
  obtain ⟨W1, hW1⟩ : ∃ W1, W1 = w.alloc (.cells L.toArray 25) := ⟨_, rfl⟩
  have R1 : Hid (W1.heap[w.heap.size]? = some (.cells L.toArray 25 (0, 0))) := by rw [hW1]; exact heap_alloc_new w _
  have B1 : Hid (Below w.heap.size w W1) := by rw [hW1]; exact (Below.refl _ _).alloc (Nat.le_refl _) _
  have HW := Hid.mk' hW1.symm
  clear h hW1
  go_enter Try.func9, Try.ntmps9
  go_wp2_with (first | (go_at_call 11; rw [HW.out]; refine (HCK.out W1).mono ?_; rintro e w2 ⟨rfl, b2⟩; have B2 : Hid (Below w.heap.size w w2) := (B1.out.trans (b2.mono B1.out.size)); have R2 : Hid (w2.heap[w.heap.size]? = some (.cells L.toArray 25 (0, 0))) := ((b2.block _ (Array.getElem?_eq_some_iff.1 R1.out).1).trans R1.out); obtain ⟨d0, d1, d2, d3⟩ := CE.out _ R2.out; have hlt0 : w.heap.size < w2.heap.size := (Array.getElem?_eq_some_iff.1 R2.out).1; have hne0 : ¬ w.heap.size = w2.heap.size := (by omega); clear b2) | refine wpList_load_mid rfl 25 _ rfl w.heap.size 0 rfl L _ (by rw [HW.out]; exact range_block R1.out) Try.underlying25 rfl (by rw [hlc.out]; exact info_hd) ?_)
  clear hlt0 hne0
  obtain ⟨w3, hw3⟩ : ∃ w3, w3 = w2.alloc (.cells Z.toArray 5) := ⟨_, rfl⟩
  rw [← hw3]
  have hlt : Hid (w.heap.size < w2.heap.size) := Hid.mk' (Array.getElem?_eq_some_iff.1 R2.out).1
  have B3 : Hid (Below w.heap.size w w3) := by rw [hw3]; exact B2.out.alloc B2.out.size _
  have R3 : Hid (w3.heap[w.heap.size]? = some (.cells L.toArray 25 (0, 0))) := by rw [hw3]; exact (Below.heap_alloc _ _ _ hlt.out).trans R2.out
  have X3 : Hid (w3.heap[w2.heap.size]? = some (.cells Z.toArray 5 (0, 0))) := by rw [hw3]; exact heap_alloc_new w2 _
  have HZL : Hid (Z.length = 40) := Hid.mk' (by rw [← HZ.out]; simp)
  clear hw3 d0 d1 d2 d3 R2
  refine (put32_any w2.heap.size 40 0 (1610612736 + cl * 1048576 + fl) Z 5 w3 X3.out HZL.out (by omega) (by omega) (by omega) (by omega)).mono ?_
  rintro e w4 ⟨rfl, x4, k4⟩
  have X4 := Hid.mk' x4
  have R4 : Hid (w4.heap[w.heap.size]? = some (.cells L.toArray 25 (0, 0))) := (k4.block w.heap.size (Array.getElem?_eq_some_iff.1 R3.out).1 (by have := hlt.out; omega)).trans R3.out
  have B4 : Hid (Below w.heap.size w w4) := B3.out.trans (k4.below B3.out.size (fun k hk => by have := hlt.out; omega))
  clear x4 k4 R3 B3 X3
  go_wp2_with fail
  refine (put16_any w2.heap.size 40 4 (n : Int) _ 5 w4 X4.out (by simp only [List.length_set]; exact HZL.out) (by omega) (by omega) (by omega) (by omega)).mono ?_
  rintro e w5 ⟨rfl, x5, k5⟩
  have X5 := Hid.mk' x5
  have R5 : Hid (w5.heap[w.heap.size]? = some (.cells L.toArray 25 (0, 0))) := (k5.block w.heap.size (Array.getElem?_eq_some_iff.1 R4.out).1 (by have := hlt.out; omega)).trans R4.out
  have B5 : Hid (Below w.heap.size w w5) := B4.out.trans (k5.below B4.out.size (fun k hk => by have := hlt.out; omega))
  obtain ⟨d0, d1, d2, d3⟩ := CE.out _ R5.out
  have e6 : w5.cell? ⟨w2.heap.size, 6, none⟩ = some (.int .u8 0) := by
    rw [cell_of_row w5 _ _ _ _ _ X5.out, ← HZ.out]; rfl
  have e7 : w5.cell? ⟨w2.heap.size, 7, none⟩ = some (.int .u8 0) := by
    rw [cell_of_row w5 _ _ _ _ _ X5.out, ← HZ.out]; rfl
  have g6 : w5.frozen? ⟨w2.heap.size, 6, none⟩ = false := frozen_of_row w5 _ _ _ _ X5.out
  have g7 : w5.frozen? ⟨w2.heap.size, 7, none⟩ = false := frozen_of_row w5 _ _ _ _ X5.out
  have hne2 : ¬ w2.heap.size = w.heap.size := by have := hlt.out; omega
  have hne3 : ¬ w.heap.size = w2.heap.size := by have := hlt.out; omega
  clear x5 k5 R4 B4 X4
  go_wp2_with fail
  obtain ⟨w6, hw6⟩ : ∃ w6, w6 = (w5.setCell ⟨w2.heap.size, 6, none⟩ (.int .u8 nx)).setCell ⟨w2.heap.size, 7, none⟩ (.int .u8 hp) := ⟨_, rfl⟩
  rw [← hw6]
  have k6 : Kept (fun k => k = w2.heap.size) w5 w6 := by rw [hw6]; exact ((Kept.refl (fun k => k = w2.heap.size) w5).setCell (p := ⟨w2.heap.size, 6, none⟩) (fun _ => rfl) _).setCell (p := ⟨w2.heap.size, 7, none⟩) (fun _ => rfl) _
  obtain ⟨Q, HQ⟩ : ∃ Q : List Value, Hid ((List.replicate 16 (0 : Int)).map (Value.int .u8) = Q) := ⟨_, rfl⟩
  obtain ⟨PR, HPR⟩ : ∃ PR : List Value, Hid ([.int .u8 (n6M cl fl / 65536 / 256), .int .u8 (n6M cl fl / 65536 % 256), .int .u8 (n6M cl fl % 65536 / 256), .int .u8 (n6M cl fl % 65536 % 256), .int .u8 ((n : Int) / 256), .int .u8 ((n : Int) % 256), .int .u8 nx, .int .u8 hp] = PR) := ⟨_, rfl⟩
  have X6 : Hid (w6.heap[w2.heap.size]? = some (.cells (PR ++ (Q ++ Q)).toArray 5 (0, 0))) := Hid.mk' (by
    rw [hw6, Go.heap_setCell_same _ _ 7 _ _ _ (Go.heap_setCell_same _ _ 6 _ _ _ X5.out), ← HPR.out, ← HQ.out, ← HZ.out]; rfl)
  have R6 : Hid (w6.heap[w.heap.size]? = some (.cells L.toArray 25 (0, 0))) := (k6.block w.heap.size (Array.getElem?_eq_some_iff.1 R5.out).1 (by have := hlt.out; omega)).trans R5.out
  have B6 : Hid (Below w.heap.size w w6) := B5.out.trans (k6.below B5.out.size (fun k hk => by have := hlt.out; omega))
  clear hw6 k6 d0 d1 d2 d3 e6 e7 g6 g7 X5 R5 B5 hne2 hne3 hmk hor1 hor2
  have hql : Hid (Q.length = 16) := Hid.mk' (by rw [← HQ.out]; simp)
  have hpl : Hid (PR.length = 8) := Hid.mk' (by rw [← HPR.out]; rfl)
  have T6 : Hid (Bs w6.drew (some ⟨w.heap.size, 4, none⟩) s) := by
    refine bs_block (A := [.int .u8 cl, .int .u32 fl, .int .u8 nx, .int .u8 hp]) (D := d.map (Value.int .u8)) (t := 25) ?_ 4 rfl H.out.sb (by rw [H.out.sl]; omega)
    show w6.heap[w.heap.size]? = _
    rw [R6.out, ← HL.out]; rfl
  go_region_law (refine step_copy rfl _ _ rfl w2.heap.size 8 16 32 16 (some ⟨w.heap.size, 4, none⟩) rfl rfl s _ 5 X6.out T6.out H.out.sl (by simp [hpl.out, hql.out]) ?_; intro w7 hg7 hk7; have X7 := Hid.mk' hg7; have K7 := Hid.mk' hk7; clear hg7 hk7)
  have R7 : Hid (w7.heap[w.heap.size]? = some (.cells L.toArray 25 (0, 0))) := (K7.out.block w.heap.size (by have := (Array.getElem?_eq_some_iff.1 R6.out).1; exact this) (by have := hlt.out; omega)).trans R6.out
  have B7 : Hid (Below w.heap.size w w7) := B6.out.drew.trans (K7.out.below B6.out.size (fun k hk => by have := hlt.out; omega))
  rw [put_mid _ _ _ _ 8 hpl.out.symm (by simp [H.out.sl, hql.out])] at X7
  clear K7 X6 R6 B6 T6
  go_wp2_with fail
  have T7 : Hid (Bs w7.drew (some ⟨w.heap.size, 20, none⟩) d) := by
    refine bs_block (A := [.int .u8 cl, .int .u32 fl, .int .u8 nx, .int .u8 hp] ++ s.map (Value.int .u8)) (D := []) (t := 25) ?_ 20 (by simp [H.out.sl]) H.out.db (by rw [H.out.dl]; omega)
    show w7.heap[w.heap.size]? = _
    rw [R7.out, ← HL.out]; simp [n6C]
  rw [← List.append_nil Q, ← List.append_assoc] at X7
  go_region_law (refine step_copy rfl _ _ rfl w2.heap.size 24 16 16 16 (some ⟨w.heap.size, 20, none⟩) rfl rfl d _ 5 X7.out T7.out H.out.dl (by simp [hpl.out, hql.out, H.out.sl]) ?_; intro w8 hg8 hk8; have X8 := Hid.mk' hg8; have K8 := Hid.mk' hk8; clear hg8 hk8)
  have B8 : Hid (Below w.heap.size w w8) := B7.out.drew.trans (K8.out.below B7.out.size (fun k hk => by have := hlt.out; omega))
  rw [put_mid _ _ _ _ 24 (by simp [hpl.out, H.out.sl]) (by simp [H.out.dl, hql.out]), List.append_nil, List.append_assoc] at X8
  clear K8 X7 R7 B7 T7
  have EB : Hid (PR ++ (s.map (Value.int .u8) ++ d.map (Value.int .u8)) = (n6B cl fl nx hp s d n).map (Value.int .u8)) := Hid.mk' (by rw [← HPR.out]; simp [n6B])
  rw [EB.out] at X8
  have O8 : Hid (w8.ownsRow w.heap.size 5 1 (.slice (some ⟨w2.heap.size, 0, none⟩) 40 40) 40 ((n6B cl fl nx hp s d n).map (Value.int .u8))) := Hid.mk' (own_block X8.out (Nat.le_of_lt hlt.out) (by rw [List.length_map, n6B_length H.out]) (by omega))
  clear X8
  go_wp2_with fail
  go_ret2
  exact ⟨_, rfl, O8.out, B8.out⟩
end Go.Proofs.Ytidlgbidffldoaa
