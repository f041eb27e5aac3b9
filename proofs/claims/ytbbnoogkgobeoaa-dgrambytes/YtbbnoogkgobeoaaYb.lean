/- The contract of dgram.Bytes. -/
import Derived.Test.YtbbnoogkgobeoaaYa
namespace Go.Proofs.Ytbbnoogkgobeoaa
open Go.ChangeShapes Go.WideShapes Go.ChangeAt Go.RowKit

theorem dgB_length (sp dp m f : Int) : (dgB sp dp m f).length = 8 := rfl
theorem dgB_bytes {sp dp m f : Int} (h : Dg sp dp) (m0 : 0 ≤ m) (m1 : m ≤ 65527) (f0 : 0 ≤ f) (f1 : f ≤ 65535) : Bytes (dgB sp dp m f) := by
  obtain ⟨s0, s1, d0, d1⟩ := h
  intro z hz
  simp [dgB] at hz
  rcases hz with rfl | rfl | rfl | rfl | rfl | rfl | rfl | rfl <;> omega
theorem zf_dgB (sp dp m f : Int) (ys : List Int) : zf (dgB sp dp m f ++ ys) = dgB sp dp m 0 ++ ys := rfl
theorem dgF_bd (sp dp : Int) (ys : List Int) : 0 ≤ dgF sp dp ys ∧ dgF sp dp ys ≤ 65535 := by
  have := su_range (dgB sp dp ys.length 0 ++ ys) (8 + ys.length)
  exact fd_bd this.1 this.2

set_option maxHeartbeats 400000 in
theorem lbytes_no (L : List Value) (a : Option Addr) (n c : Nat) (w : World) (hlc : L.length = 2) (hn : ¬ n ≤ 2040) (hl : n ≤ 140737488355328) :
    Calls Try.prog 9 #[.agg L.toArray, .slice a n c] w fun e w' => e = .returned (.tuple #[.slice none 0 0, .int .i64 5]) ∧ Below w.heap.size w w' := by
  have hlc := Hid.mk' hlc
  obtain ⟨W1, hW1⟩ : ∃ W1, W1 = w.alloc (.cells L.toArray 24) := ⟨_, rfl⟩
  have B1 : Hid (Below w.heap.size w W1) := by rw [hW1]; exact (Below.refl _ _).alloc (Nat.le_refl _) _
  have HW := Hid.mk' hW1.symm
  clear hW1
  go_enter Try.func9, Try.ntmps9
  go_wp2_with fail
  go_ret2
  exact ⟨rfl, by rw [HW.out]; exact B1.out⟩

/-- What lies in memory while Bytes goes on: the header's box, the row that is written. -/
structure SbJ (w : World) (L : List Value) (g : Nat) (X : List Value) (u : World) : Prop where
  box : u.heap[w.heap.size]? = some (.cells L.toArray 24 (0, 0))
  row : u.heap[g]? = some (.cells X.toArray 5 (0, 0))
  old : Below w.heap.size w u
  lt : w.heap.size < g
theorem SbJ.put {w u u' : World} {L X X' : List Value} {g : Nat} (h : SbJ w L g X u) (x : u'.heap[g]? = some (.cells X'.toArray 5 (0, 0))) (k : Kept (fun j => j = g) u u') : SbJ w L g X' u' :=
  ⟨(k.block w.heap.size (Array.getElem?_eq_some_iff.1 h.box).1 (by have := h.lt; omega)).trans h.box, x, h.old.trans (k.below h.old.size (fun j hj => by have := h.lt; omega)), h.lt⟩
theorem SbJ.dr {w u u' : World} {L X : List Value} {g : Nat} (h : SbJ w L g X u) (d : Dr u u') : SbJ w L g X u' :=
  ⟨by rw [d.heap]; exact h.box, by rw [d.heap]; exact h.row, h.old.trans (d.below _), h.lt⟩

set_option maxHeartbeats 1000000 in
theorem lbytes_ok (sp dp : Int) (a : Option Addr) (n c : Nat) (ys : List Int) (w : World) (h : Dg sp dp) (hn : n ≤ 2040) (hy : ys.length = n) (hY : Bs w a ys) :
    Calls Try.prog 9 #[.agg (dgC sp dp).toArray, .slice a n c] w fun e w' => ∃ v, e = .returned (.tuple #[v, .int .i64 0]) ∧ w'.ownsRow w.heap.size 5 1 v 8 ((dgB sp dp ys.length (dgF sp dp ys)).map (Value.int .u8)) ∧ Below w.heap.size w w' := by
  obtain ⟨L, HL⟩ : ∃ L, Hid (dgC sp dp = L) := ⟨_, rfl⟩
  rw [HL.out]
  have CE : Hid (∀ w' : World, w'.heap[w.heap.size]? = some (.cells L.toArray 24 (0, 0)) → w'.cell? ⟨w.heap.size, 0, none⟩ = some (.int .u16 sp) ∧ w'.cell? ⟨w.heap.size, 1, none⟩ = some (.int .u16 dp)) := Hid.mk' (fun w' hh => by
    rw [← HL.out] at hh
    refine ⟨?_, ?_⟩ <;> exact cell_of_row w' _ _ _ _ _ hh)
  obtain ⟨Z, HZ⟩ : ∃ Z, Hid ((List.replicate 8 (0 : Int)).map (Value.int .u8) = Z) := ⟨_, rfl⟩
  have hmk : ∀ u : World, (Instr.makeSlice 25 (.int .i64 8) (.int .i64 8)).run Try.prog u = .ok (.slice (some ⟨u.heap.size, 0, none⟩) 8 8) (u.alloc (.cells Z.toArray 5)) := by
    rw [← HZ.out]; exact make_bytes 8 (by omega)
  have HZL : Hid (Z.length = 8) := Hid.mk' (by rw [← HZ.out]; simp)
  have hF := dgF_bd sp dp ys
  have HFE : Hid (fd (su (zf (dgB sp dp n 0 ++ ys)) (8 + n)) = dgF sp dp ys) := Hid.mk' (by rw [zf_dgB, ← hy]; rfl)
  have HSB : Hid (Bytes (dgB sp dp n 0)) := Hid.mk' (dgB_bytes h (by omega) (by omega) (by omega) (by omega))
  obtain ⟨F, HF⟩ : ∃ F, Hid (dgF sp dp ys = F) := ⟨_, rfl⟩
  rw [HF.out] at HFE hF ⊢
  rw [hy]
  obtain ⟨F0, F1⟩ := hF
  obtain ⟨s0, s1, d0, d1⟩ := h
  have HY := Hid.mk' hY
  have HN := Hid.mk' hy
  clear hY hy
  obtain ⟨W1, hW1⟩ : ∃ W1, W1 = w.alloc (.cells L.toArray 24) := ⟨_, rfl⟩
  have R1 : Hid (W1.heap[w.heap.size]? = some (.cells L.toArray 24 (0, 0))) := by rw [hW1]; exact heap_alloc_new w _
  have B1 : Hid (Below w.heap.size w W1) := by rw [hW1]; exact (Below.refl _ _).alloc (Nat.le_refl _) _
  have HSZ : w.heap.size < W1.heap.size := (Array.getElem?_eq_some_iff.1 R1.out).1
  have HW := Hid.mk' hW1.symm
  have hbig : IntKind.u16.wrap (8 + (n : Int)) = 8 + (n : Int) := by rw [IntKind.wrap_u16]; omega
  have L0 : L[0]? = some (.int .u16 sp) := by rw [← HL.out]; rfl
  have L0' : L.toArray[0]? = some (.int .u16 sp) := by rw [← HL.out]; rfl
  clear hW1
  go_enter Try.func9, Try.ntmps9
  go_wp2_with fail
  rw [HW.out]
  obtain ⟨w3, hw3⟩ : ∃ w3, w3 = W1.alloc (.cells Z.toArray 5) := ⟨_, rfl⟩
  rw [← hw3]
  have HE1 : Hid (w.heap.size + 1 = W1.heap.size) := Hid.mk' (by rw [← HW.out]; simp)
  rw [HE1.out]
  have J3 : Hid (SbJ w L W1.heap.size Z w3) := Hid.mk' (by rw [hw3]; exact ⟨(Below.heap_alloc _ _ _ HSZ).trans R1.out, heap_alloc_new W1 _, B1.out.alloc B1.out.size _, HSZ⟩)
  clear hw3 R1 B1 hmk L0 L0' HE1 HSZ
  obtain ⟨g, HG⟩ : ∃ g, Hid (W1.heap.size = g) := ⟨_, rfl⟩
  rw [HG.out] at J3 ⊢
  refine (put16_any g 8 0 sp _ 5 w3 J3.out.row (by first | exact HZL.out | (simp only [List.length_set]; exact HZL.out)) (by omega) (by omega) (by omega) (by omega)).mono ?_
  rintro e w4 ⟨rfl, x4, k4⟩
  have J4 := Hid.mk' (J3.out.put x4 k4)
  obtain ⟨e0, e1⟩ := CE.out _ J4.out.box
  clear x4 k4 J3
  go_wp2_with fail
  clear e0 e1
  refine (put16_any g 8 2 dp _ 5 w4 J4.out.row (by first | exact HZL.out | (simp only [List.length_set]; exact HZL.out)) (by omega) (by omega) (by omega) (by omega)).mono ?_
  rintro e w5 ⟨rfl, x5, k5⟩
  have J5 := Hid.mk' (J4.out.put x5 k5)
  obtain ⟨e0, e1⟩ := CE.out _ J5.out.box
  clear x5 k5 J4
  go_wp2_with fail
  clear e0 e1
  refine (put16_any g 8 4 (8 + (n : Int)) _ 5 w5 J5.out.row (by first | exact HZL.out | (simp only [List.length_set]; exact HZL.out)) (by omega) (by omega) (by omega) (by omega)).mono ?_
  rintro e w6 ⟨rfl, x6, k6⟩
  have J6 := Hid.mk' (J5.out.put x6 k6)
  obtain ⟨e0, e1⟩ := CE.out _ J6.out.box
  clear x6 k6 J5
  go_wp2_with fail
  clear e0 e1
  have X9 : Hid (w6.heap[g]? = some (.cells ((dgB sp dp n 0).map (Value.int .u8)).toArray 5 (0, 0))) := Hid.mk' (by
    rw [J6.out.row, ← HZ.out]; rfl)
  have J10 : Hid (SbJ w L g ((dgB sp dp n 0).map (Value.int .u8)) w6) := Hid.mk' ⟨J6.out.box, X9.out, J6.out.old, J6.out.lt⟩
  have S10 : Hid (Bs w6 (some ⟨g, 0, none⟩) (dgB sp dp n 0)) := Hid.mk' (bs_block (A := []) (D := []) (t := 5) (by rw [X9.out]; simp) 0 rfl HSB.out (by rw [dgB_length]; omega))
  clear J6 X9
  have key := fieldOf_any g 0 8 a n c (dgB sp dp n 0) ys w6 rfl HN.out S10.out (HY.out.below J10.out.old) (by omega)
  rw [HFE.out] at key
  refine key.mono ?_
  rintro e w11 ⟨rfl, d11⟩
  have J11 := Hid.mk' (J10.out.dr d11)
  clear key d11 J10 S10
  go_wp2_with fail
  refine (put16_any g 8 6 F _ 5 w11 J11.out.row (by rw [List.length_map]; rfl) (by omega) (by omega) F0 F1).mono ?_
  rintro e w12 ⟨rfl, x12, k12⟩
  have J12 := Hid.mk' (J11.out.put x12 k12)
  have O12 : Hid (w12.ownsRow w.heap.size 5 1 (.slice (some ⟨g, 0, none⟩) 8 8) 8 ((dgB sp dp n F).map (Value.int .u8))) := Hid.mk' (by
    refine own_block ?_ (Nat.le_of_lt J12.out.lt) (by rw [List.length_map]; rfl) (by omega)
    rw [x12]; rfl)
  have B12 := Hid.mk' J12.out.old
  clear x12 k12 J11 J12
  go_wp2_with fail
  go_ret2
  exact ⟨_, rfl, O12.out, B12.out⟩
end Go.Proofs.Ytbbnoogkgobeoaa
