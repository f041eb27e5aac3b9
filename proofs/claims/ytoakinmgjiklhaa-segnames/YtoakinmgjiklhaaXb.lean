/- The contract of seg.Bytes. -/
import Derived.Test.YtoakinmgjiklhaaXa
namespace Go.Proofs.Ytoakinmgjiklhaa
open Go.ChangeShapes Go.WideShapes Go.ChangeAt Go.RowKit

theorem sgB_length (sp dp sq ak fl wn f : Int) : (sgB sp dp sq ak fl wn f).length = 20 := rfl
theorem sgB_bytes {sp dp sq ak fl wn f : Int} (h : Sg sp dp sq ak fl wn) (f0 : 0 ≤ f) (f1 : f ≤ 65535) : Bytes (sgB sp dp sq ak fl wn f) := by
  obtain ⟨s0, s1, d0, d1, q0, q1, a0, a1, l0, l1, w0, w1⟩ := h
  intro z hz
  simp [sgB] at hz
  rcases hz with rfl | rfl | rfl | rfl | rfl | rfl | rfl | rfl | rfl | rfl | rfl | rfl | rfl | rfl | rfl | rfl | rfl | rfl | rfl <;> omega
theorem zf_sgB (sp dp sq ak fl wn f : Int) (ys : List Int) : zf (sgB sp dp sq ak fl wn f ++ ys) = sgB sp dp sq ak fl wn 0 ++ ys := rfl
theorem sgF_bd (sp dp sq ak fl wn : Int) (ys : List Int) : 0 ≤ sgF sp dp sq ak fl wn ys ∧ sgF sp dp sq ak fl wn ys ≤ 65535 := by
  have := su_range (sgB sp dp sq ak fl wn 0 ++ ys) (20 + ys.length)
  unfold sgF; omega

set_option maxHeartbeats 400000 in
theorem lbytes_bad (L : List Value) (fl : Int) (a : Option Addr) (n c : Nat) (w : World) (hlc : L.length = 6) (hL : L[4]? = some (.int .u8 fl)) (hf : ¬ fl ≤ 63) :
    Calls Try.prog 9 #[.agg L.toArray, .slice a n c] w fun e w' => e = .returned (.tuple #[.slice none 0 0, .int .i64 90]) ∧ Below w.heap.size w w' := by
  have hlc := Hid.mk' hlc
  have HCK : Hid (∀ u : World, Calls Try.prog 11 #[.agg L.toArray] u fun e w' => e = .returned (.int .i64 90) ∧ Below u.heap.size u w') := Hid.mk' (fun u => by
    have := lcheck_any L fl u hL
    unfold sgE at this
    rw [if_neg hf] at this
    exact this)
  clear hL hf
  obtain ⟨W1, hW1⟩ : ∃ W1, W1 = w.alloc (.cells L.toArray 25) := ⟨_, rfl⟩
  have R1 : Hid (W1.heap[w.heap.size]? = some (.cells L.toArray 25 (0, 0))) := by rw [hW1]; exact heap_alloc_new w _
  have B1 : Hid (Below w.heap.size w W1) := by rw [hW1]; exact (Below.refl _ _).alloc (Nat.le_refl _) _
  have HW := Hid.mk' hW1.symm
  clear hW1
  go_enter Try.func9, Try.ntmps9
  go_wp2_with (first | (go_at_call 11; rw [HW.out]; refine (HCK.out W1).mono ?_; rintro e w2 ⟨rfl, b2⟩; have B2 : Hid (Below w.heap.size w w2) := (B1.out.trans (b2.mono B1.out.size)); clear b2) | refine wpList_load_mid rfl 25 _ rfl w.heap.size 0 rfl L _ (by rw [HW.out]; exact range_block R1.out) Try.underlying25 rfl (by rw [hlc.out]; exact info_hd) ?_)
  go_ret2
  exact ⟨rfl, B2.out⟩

set_option maxHeartbeats 400000 in
theorem lbytes_no (L : List Value) (fl : Int) (a : Option Addr) (n c : Nat) (w : World) (hlc : L.length = 6) (hL : L[4]? = some (.int .u8 fl)) (hf : fl ≤ 63) (hn : ¬ n ≤ 2028) (hl : n ≤ 140737488355328) :
    Calls Try.prog 9 #[.agg L.toArray, .slice a n c] w fun e w' => e = .returned (.tuple #[.slice none 0 0, .int .i64 5]) ∧ Below w.heap.size w w' := by
  have hlc := Hid.mk' hlc
  have HCK : Hid (∀ u : World, Calls Try.prog 11 #[.agg L.toArray] u fun e w' => e = .returned (.int .i64 0) ∧ Below u.heap.size u w') := Hid.mk' (fun u => by
    have := lcheck_any L fl u hL
    unfold sgE at this
    rw [if_pos hf] at this
    exact this)
  clear hL hf
  obtain ⟨W1, hW1⟩ : ∃ W1, W1 = w.alloc (.cells L.toArray 25) := ⟨_, rfl⟩
  have R1 : Hid (W1.heap[w.heap.size]? = some (.cells L.toArray 25 (0, 0))) := by rw [hW1]; exact heap_alloc_new w _
  have B1 : Hid (Below w.heap.size w W1) := by rw [hW1]; exact (Below.refl _ _).alloc (Nat.le_refl _) _
  have HW := Hid.mk' hW1.symm
  clear hW1
  go_enter Try.func9, Try.ntmps9
  go_wp2_with (first | (go_at_call 11; rw [HW.out]; refine (HCK.out W1).mono ?_; rintro e w2 ⟨rfl, b2⟩; have B2 : Hid (Below w.heap.size w w2) := (B1.out.trans (b2.mono B1.out.size)); clear b2) | refine wpList_load_mid rfl 25 _ rfl w.heap.size 0 rfl L _ (by rw [HW.out]; exact range_block R1.out) Try.underlying25 rfl (by rw [hlc.out]; exact info_hd) ?_)
  go_ret2
  exact ⟨rfl, B2.out⟩

/-- What lies in memory while Bytes goes on: the header's box, the row that is written. -/
structure SbJ (w : World) (L : List Value) (g : Nat) (X : List Value) (u : World) : Prop where
  box : u.heap[w.heap.size]? = some (.cells L.toArray 25 (0, 0))
  row : u.heap[g]? = some (.cells X.toArray 5 (0, 0))
  old : Below w.heap.size w u
  lt : w.heap.size < g
theorem SbJ.put {w u u' : World} {L X X' : List Value} {g : Nat} (h : SbJ w L g X u) (x : u'.heap[g]? = some (.cells X'.toArray 5 (0, 0))) (k : Kept (fun j => j = g) u u') : SbJ w L g X' u' :=
  ⟨(k.block w.heap.size (Array.getElem?_eq_some_iff.1 h.box).1 (by have := h.lt; omega)).trans h.box, x, h.old.trans (k.below h.old.size (fun j hj => by have := h.lt; omega)), h.lt⟩
theorem SbJ.dr {w u u' : World} {L X : List Value} {g : Nat} (h : SbJ w L g X u) (d : Dr u u') : SbJ w L g X u' :=
  ⟨by rw [d.heap]; exact h.box, by rw [d.heap]; exact h.row, h.old.trans (d.below _), h.lt⟩

set_option maxHeartbeats 1000000 in
theorem lbytes_ok (sp dp sq ak fl wn : Int) (a : Option Addr) (n c : Nat) (ys : List Int) (w : World) (h : Sg sp dp sq ak fl wn) (hf : fl ≤ 63) (hn : n ≤ 2028) (hy : ys.length = n) (hY : Bs w a ys) :
    Calls Try.prog 9 #[.agg (sgC sp dp sq ak fl wn).toArray, .slice a n c] w fun e w' => ∃ v, e = .returned (.tuple #[v, .int .i64 0]) ∧ w'.ownsRow w.heap.size 5 1 v 20 ((sgB sp dp sq ak fl wn (sgF sp dp sq ak fl wn ys)).map (Value.int .u8)) ∧ Below w.heap.size w w' := by
  have hlc : Hid ((sgC sp dp sq ak fl wn).length = 6) := Hid.mk' rfl
  have HCK : Hid (∀ u : World, Calls Try.prog 11 #[.agg (sgC sp dp sq ak fl wn).toArray] u fun e w' => e = .returned (.int .i64 0) ∧ Below u.heap.size u w') := Hid.mk' (fun u => by
    have := lcheck_any (sgC sp dp sq ak fl wn) fl u rfl
    unfold sgE at this
    rw [if_pos hf] at this
    exact this)
  obtain ⟨L, HL⟩ : ∃ L, Hid (sgC sp dp sq ak fl wn = L) := ⟨_, rfl⟩
  rw [HL.out] at hlc HCK ⊢
  have CE : Hid (∀ w' : World, w'.heap[w.heap.size]? = some (.cells L.toArray 25 (0, 0)) → w'.cell? ⟨w.heap.size, 0, none⟩ = some (.int .u16 sp) ∧ w'.cell? ⟨w.heap.size, 1, none⟩ = some (.int .u16 dp) ∧ w'.cell? ⟨w.heap.size, 2, none⟩ = some (.int .u32 sq) ∧ w'.cell? ⟨w.heap.size, 3, none⟩ = some (.int .u32 ak) ∧ w'.cell? ⟨w.heap.size, 4, none⟩ = some (.int .u8 fl) ∧ w'.cell? ⟨w.heap.size, 5, none⟩ = some (.int .u16 wn)) := Hid.mk' (fun w' hh => by
    rw [← HL.out] at hh
    refine ⟨?_, ?_, ?_, ?_, ?_, ?_⟩ <;> exact cell_of_row w' _ _ _ _ _ hh)
  obtain ⟨Z, HZ⟩ : ∃ Z, Hid ((List.replicate 20 (0 : Int)).map (Value.int .u8) = Z) := ⟨_, rfl⟩
  have hmk : ∀ u : World, (Instr.makeSlice 26 (.int .i64 20) (.int .i64 20)).run Try.prog u = .ok (.slice (some ⟨u.heap.size, 0, none⟩) 20 20) (u.alloc (.cells Z.toArray 5)) := by
    rw [← HZ.out]; exact make_bytes 20 (by omega)
  have HZL : Hid (Z.length = 20) := Hid.mk' (by rw [← HZ.out]; simp)
  have hF := sgF_bd sp dp sq ak fl wn ys
  have HFE : Hid (65535 - su (zf (sgB sp dp sq ak fl wn 0 ++ ys)) (20 + n) = sgF sp dp sq ak fl wn ys) := Hid.mk' (by rw [zf_sgB, ← hy]; rfl)
  have HSB : Hid (Bytes (sgB sp dp sq ak fl wn 0)) := Hid.mk' (sgB_bytes h (by omega) (by omega))
  obtain ⟨F, HF⟩ : ∃ F, Hid (sgF sp dp sq ak fl wn ys = F) := ⟨_, rfl⟩
  rw [HF.out] at HFE hF ⊢
  obtain ⟨F0, F1⟩ := hF
  obtain ⟨s0, s1, d0, d1, q0, q1, a0, a1, l0, l1, w0, w1⟩ := h
  have hor := or12 fl l0 hf
  have h80 : Hid ((20480 + fl) / 256 = 80) := Hid.mk' (by omega)
  have hfl : Hid ((20480 + fl) % 256 = fl) := Hid.mk' (by omega)
  have HY := Hid.mk' hY
  have HN := Hid.mk' hy
  clear hY hy
  obtain ⟨W1, hW1⟩ : ∃ W1, W1 = w.alloc (.cells L.toArray 25) := ⟨_, rfl⟩
  have R1 : Hid (W1.heap[w.heap.size]? = some (.cells L.toArray 25 (0, 0))) := by rw [hW1]; exact heap_alloc_new w _
  have B1 : Hid (Below w.heap.size w W1) := by rw [hW1]; exact (Below.refl _ _).alloc (Nat.le_refl _) _
  have HW := Hid.mk' hW1.symm
  clear hW1
  go_enter Try.func9, Try.ntmps9
  go_wp2_with (first | (go_at_call 11; rw [HW.out]; refine (HCK.out W1).mono ?_; rintro e w2 ⟨rfl, b2⟩; have B2 : Hid (Below w.heap.size w w2) := (B1.out.trans (b2.mono B1.out.size)); have R2 : Hid (w2.heap[w.heap.size]? = some (.cells L.toArray 25 (0, 0))) := ((b2.block _ (Array.getElem?_eq_some_iff.1 R1.out).1).trans R1.out); obtain ⟨e0, e1, e2, e3, e4, e5⟩ := CE.out _ R2.out; have hlt0 : w.heap.size < w2.heap.size := (Array.getElem?_eq_some_iff.1 R2.out).1; have hne0 : ¬ w.heap.size = w2.heap.size := (by omega); clear b2) | refine wpList_load_mid rfl 25 _ rfl w.heap.size 0 rfl L _ (by rw [HW.out]; exact range_block R1.out) Try.underlying25 rfl (by rw [hlc.out]; exact info_hd) ?_)
  obtain ⟨w3, hw3⟩ : ∃ w3, w3 = w2.alloc (.cells Z.toArray 5) := ⟨_, rfl⟩
  rw [← hw3]
  have J3 : Hid (SbJ w L w2.heap.size Z w3) := Hid.mk' (by rw [hw3]; exact ⟨(Below.heap_alloc _ _ _ hlt0).trans R2.out, heap_alloc_new w2 _, B2.out.alloc B2.out.size _, hlt0⟩)
  clear hw3 e0 e1 e2 e3 e4 e5 R2 B2 R1 B1 HW hlt0 hne0 hmk
  obtain ⟨g, HG⟩ : ∃ g, Hid (w2.heap.size = g) := ⟨_, rfl⟩
  rw [HG.out] at J3 ⊢
  refine (put16_any g 20 0 sp _ 5 w3 J3.out.row (by first | exact HZL.out | (simp only [List.length_set]; exact HZL.out)) (by omega) (by omega) (by omega) (by omega)).mono ?_
  rintro e w4 ⟨rfl, x4, k4⟩
  have J4 := Hid.mk' (J3.out.put x4 k4)
  obtain ⟨e0, e1, e2, e3, e4, e5⟩ := CE.out _ J4.out.box
  clear x4 k4 J3
  go_wp2_with fail
  clear e0 e1 e2 e3 e4 e5
  refine (put16_any g 20 2 dp _ 5 w4 J4.out.row (by first | exact HZL.out | (simp only [List.length_set]; exact HZL.out)) (by omega) (by omega) (by omega) (by omega)).mono ?_
  rintro e w5 ⟨rfl, x5, k5⟩
  have J5 := Hid.mk' (J4.out.put x5 k5)
  obtain ⟨e0, e1, e2, e3, e4, e5⟩ := CE.out _ J5.out.box
  clear x5 k5 J4
  go_wp2_with fail
  clear e0 e1 e2 e3 e4 e5
  refine (put32_any g 20 4 sq _ 5 w5 J5.out.row (by first | exact HZL.out | (simp only [List.length_set]; exact HZL.out)) (by omega) (by omega) (by omega) (by omega)).mono ?_
  rintro e w6 ⟨rfl, x6, k6⟩
  have J6 := Hid.mk' (J5.out.put x6 k6)
  obtain ⟨e0, e1, e2, e3, e4, e5⟩ := CE.out _ J6.out.box
  clear x6 k6 J5
  go_wp2_with fail
  clear e0 e1 e2 e3 e4 e5
  refine (put32_any g 20 8 ak _ 5 w6 J6.out.row (by first | exact HZL.out | (simp only [List.length_set]; exact HZL.out)) (by omega) (by omega) (by omega) (by omega)).mono ?_
  rintro e w7 ⟨rfl, x7, k7⟩
  have J7 := Hid.mk' (J6.out.put x7 k7)
  obtain ⟨e0, e1, e2, e3, e4, e5⟩ := CE.out _ J7.out.box
  clear x7 k7 J6
  go_wp2_with fail
  clear e0 e1 e2 e3 e4 e5
  refine (put16_any g 20 12 (20480 + fl) _ 5 w7 J7.out.row (by first | exact HZL.out | (simp only [List.length_set]; exact HZL.out)) (by omega) (by omega) (by omega) (by omega)).mono ?_
  rintro e w8 ⟨rfl, x8, k8⟩
  have J8 := Hid.mk' (J7.out.put x8 k8)
  obtain ⟨e0, e1, e2, e3, e4, e5⟩ := CE.out _ J8.out.box
  clear x8 k8 J7
  go_wp2_with fail
  clear e0 e1 e2 e3 e4 e5
  refine (put16_any g 20 14 wn _ 5 w8 J8.out.row (by first | exact HZL.out | (simp only [List.length_set]; exact HZL.out)) (by omega) (by omega) (by omega) (by omega)).mono ?_
  rintro e w9 ⟨rfl, x9, k9⟩
  have J9 := Hid.mk' (J8.out.put x9 k9)
  obtain ⟨e0, e1, e2, e3, e4, e5⟩ := CE.out _ J9.out.box
  clear x9 k9 J8
  go_wp2_with fail
  clear e0 e1 e2 e3 e4 e5
  have X9 : Hid (w9.heap[g]? = some (.cells ((sgB sp dp sq ak fl wn 0).map (Value.int .u8)).toArray 5 (0, 0))) := Hid.mk' (by
    rw [J9.out.row, ← HZ.out, h80.out, hfl.out]; rfl)
  have J10 : Hid (SbJ w L g ((sgB sp dp sq ak fl wn 0).map (Value.int .u8)) w9) := Hid.mk' ⟨J9.out.box, X9.out, J9.out.old, J9.out.lt⟩
  have S10 : Hid (Bs w9 (some ⟨g, 0, none⟩) (sgB sp dp sq ak fl wn 0)) := Hid.mk' (bs_block (A := []) (D := []) (t := 5) (by rw [X9.out]; simp) 0 rfl HSB.out (by rw [sgB_length]; omega))
  clear J9 X9
  have key := fieldOf_any g 0 20 a n c (sgB sp dp sq ak fl wn 0) ys w9 rfl HN.out S10.out (HY.out.below J10.out.old) (by omega)
  rw [HFE.out] at key
  refine key.mono ?_
  rintro e w11 ⟨rfl, d11⟩
  have J11 := Hid.mk' (J10.out.dr d11)
  clear key d11 J10 S10
  go_wp2_with fail
  refine (put16_any g 20 16 F _ 5 w11 J11.out.row (by rw [List.length_map]; rfl) (by omega) (by omega) F0 F1).mono ?_
  rintro e w12 ⟨rfl, x12, k12⟩
  have J12 := Hid.mk' (J11.out.put x12 k12)
  have O12 : Hid (w12.ownsRow w.heap.size 5 1 (.slice (some ⟨g, 0, none⟩) 20 20) 20 ((sgB sp dp sq ak fl wn F).map (Value.int .u8))) := Hid.mk' (by
    refine own_block ?_ (Nat.le_of_lt J12.out.lt) (by rw [List.length_map]; rfl) (by omega)
    rw [x12]; rfl)
  have B12 := Hid.mk' J12.out.old
  clear x12 k12 J11 J12
  go_wp2_with fail
  go_ret2
  exact ⟨_, rfl, O12.out, B12.out⟩
end Go.Proofs.Ytoakinmgjiklhaa
