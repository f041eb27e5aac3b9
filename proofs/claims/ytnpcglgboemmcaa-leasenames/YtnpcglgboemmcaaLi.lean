/- The contract of the statements' own 'awake': the chapter's window and book come out; nothing that was there is written. -/
import Derived.Test.YtnpcglgboemmcaaLh
namespace Go.Proofs.Ytnpcglgboemmcaa
open Go.ChangeShapes Go.WideShapes Go.ChangeAt Go.RowKit

/-- A byte is put into a block of bytes. -/
theorem Buf.set {w : World} {g : Nat} {zs : List Int} (h : Buf w g zs) (i : Nat) (hi : i < zs.length) (z : Int) (h0 : 0 ≤ z) (h1 : z ≤ 255) : Buf (w.setCell ⟨g, i, none⟩ (.int .u8 z)) g (zs.set i z) := by
  refine ⟨by simpa using h.len, bytes_set h.bytes i z h0 h1, fun j hj => ?_, fun j => by rw [World.frozen?_setCell]; exact h.free j⟩
  rw [List.length_set] at hj
  by_cases e : i = j
  · subst e
    rw [World.cell?_setCell_same _ _ _ (h.cell i hi)]
    simp [hi]
  · rw [World.cell?_setCell_other _ _ _ _ (by simp), h.cell j hj]
    simp [List.getD, e]

theorem BookIs.apart {w : World} {p : Nat} {a : Option Addr} {n c nx : Nat} {ov : Value} {L : List Loan} (h : BookIs w p a n c nx ov L) {k : Nat} (hk : k < p) : ¬ bookS p ov k := by
  rintro (rfl | e)
  · omega
  · have := (h.row.lt k e).1; omega

/-- A book that is made anew. -/
theorem bookIs_new (w : World) (a : Option Addr) (n c : Nat) (hn : n ≤ 140737488355328) (hc : n ≤ c) : BookIs (w.alloc (.cells #[.bool true, .slice a n c, .int .i64 0, .slice none 0 0] 59)) w.heap.size a n c 0 (.slice none 0 0) [] :=
  ⟨Go.heap_alloc_new w _, World.ownsRow_nil _ _ _ _, Nat.zero_le _, by omega, by simp, hn, hc⟩

theorem buf_lit (w : World) : Buf (w.alloc (.cells #[.int .u8 0, .int .u8 1, .int .u8 2, .int .u8 3, .int .u8 4, .int .u8 5] 5)) w.heap.size [0, 1, 2, 3, 4, 5] := by
  refine ⟨by simp, by unfold Bytes; simp, fun i hi => ?_, fun i => World.frozen?_alloc_at (hn := rfl) ..⟩
  rw [World.cell?_alloc_new]
  match i, hi with
  | 0, _ => rfl
  | 1, _ => rfl
  | 2, _ => rfl
  | 3, _ => rfl
  | 4, _ => rfl
  | 5, _ => rfl

theorem awake_mid (w w1 w5 : World) (v5 : Value) {e : TypeId} {o : Obj} {xs : List Value} {x0 : Value} (hown : w5.ownsRow ((w1.setCell ⟨w.heap.size, 2, none⟩ (.int .u8 9)).alloc o).heap.size e 1 v5 4 (x0 :: xs)) (hgr : ((w1.setCell ⟨w.heap.size, 2, none⟩ (.int .u8 9)).alloc o).grownBy w5 none)
    (hW : Below w.heap.size w (w1.setCell ⟨w.heap.size, 2, none⟩ (.int .u8 9))) (hB : Buf (w1.setCell ⟨w.heap.size, 2, none⟩ (.int .u8 9)) w.heap.size [0, 1, 9, 3, 4, 5]) (hS : w.heap.size < (w1.setCell ⟨w.heap.size, 2, none⟩ (.int .u8 9)).heap.size) (hsz : (w1.setCell ⟨w.heap.size, 2, none⟩ (.int .u8 9)).heap.size = w1.heap.size) :
    ∃ g5 c5, v5 = .slice (some ⟨g5, 0, none⟩) 4 c5 ∧ w1.heap.size < g5 ∧ w5.cell? ⟨g5, 0, none⟩ = some x0 ∧ w5.frozen? ⟨g5, 0, none⟩ = false ∧ Hid (Below w.heap.size w w5) ∧ Hid (Buf w5 w.heap.size [0, 1, 9, 3, 4, 5]) ∧ w.heap.size < w5.heap.size := by
  have hown' := hown
  rcases hown.2 with ⟨_, h0⟩ | ⟨g5, c5, cur, rfl, hg, _⟩
  · omega
  have hb : Below (w1.setCell ⟨w.heap.size, 2, none⟩ (.int .u8 9)).heap.size (w1.setCell ⟨w.heap.size, 2, none⟩ (.int .u8 9)) w5 := ((Below.refl _ _).alloc (Nat.le_refl _) o).grown hgr (by simp) (by simp)
  refine ⟨g5, c5, rfl, ?_, hown'.cellAt 0 (by omega), hown'.frozenAt 0, hW.trans (hb.mono (by omega)), hB.below hS hb, ?_⟩
  · simp [hsz] at hg; omega
  · have := hb.size; omega

set_option maxHeartbeats 2000000 in
theorem awake_any (w : World) :
    Calls Try.prog 11 #[] w fun e w' => e = .returned (.bool true) ∧ Below w.heap.size w w' := by
  obtain ⟨i0, hif, hz0, hz1, hz2⟩ := info_parts info_u8
  have HB0 := Hid.mk' (buf_lit w)
  have HW0 : Hid (Below w.heap.size w (w.alloc (.cells #[.int .u8 0, .int .u8 1, .int .u8 2, .int .u8 3, .int .u8 4, .int .u8 5] 5))) := (Below.refl _ _).alloc (Nat.le_refl _) _
  go_enter Try.func11, Try.ntmps11
  go_wp2_with fail
  refine (lend_some ⟨w.heap.size, 0, none⟩ 6 6 2 3 _ (by omega) (by omega) (by omega) (by omega)).mono ?_
  rintro e w1 ⟨rfl, b1⟩
  rw [addr_add, Nat.zero_add]
  have HW1 : Hid (Below w.heap.size w w1) := HW0.out.trans (b1.mono (by simp))
  have HB1 : Hid (Buf w1 w.heap.size [0, 1, 2, 3, 4, 5]) := HB0.out.below (by simp) b1
  have hs1 : w.heap.size < w1.heap.size := by have := b1.size; simp at this; omega
  have c2 : w1.cell? ⟨w.heap.size, 2, none⟩ = some (.int .u8 2) := HB1.out.cell 2 (by simp)
  have c3 : w1.cell? ⟨w.heap.size, 3, none⟩ = some (.int .u8 3) := HB1.out.cell 3 (by simp)
  have c4 : w1.cell? ⟨w.heap.size, 4, none⟩ = some (.int .u8 4) := HB1.out.cell 4 (by simp)
  have f2 : w1.frozen? ⟨w.heap.size, 2, none⟩ = false := HB1.out.free 2
  have HB2 : Hid (Buf (w1.setCell ⟨w.heap.size, 2, none⟩ (.int .u8 9)) w.heap.size [0, 1, 9, 3, 4, 5]) := HB1.out.set 2 (by simp) 9 (by omega) (by omega)
  have HW2 : Hid (Below w.heap.size w (w1.setCell ⟨w.heap.size, 2, none⟩ (.int .u8 9))) := HW1.out.setCell (Nat.le_refl _) _
  have HS2 : Hid (w.heap.size < (w1.setCell ⟨w.heap.size, 2, none⟩ (.int .u8 9)).heap.size) := by show _ < _; simpa [World.setCell] using hs1
  have hsz : (w1.setCell ⟨w.heap.size, 2, none⟩ (.int .u8 9)).heap.size = w1.heap.size := by simp [World.setCell]
  have HN7 : Hid (∀ j u, [Value.int .u8 7][j]? = some u → ((w1.setCell ⟨w.heap.size, 2, none⟩ (.int .u8 9)).alloc (.cells #[.int .u8 7] 5)).cell? ((⟨w1.heap.size, 0, none⟩ : Addr).add j) = some u) := by
    have := cell_one_laid (w1.setCell ⟨w.heap.size, 2, none⟩ (.int .u8 9)) (.int .u8 7) 5
    rwa [hsz] at this
  have HO7 : Hid (∀ b, (some (⟨w.heap.size, 2, none⟩ : Addr)) = some b → ∀ j u, [Value.int .u8 9, .int .u8 3, .int .u8 4][j]? = some u → ((w1.setCell ⟨w.heap.size, 2, none⟩ (.int .u8 9)).alloc (.cells #[.int .u8 7] 5)).cell? (b.add j) = some u) := by
    intro b hb j u hj
    cases hb
    rw [addr_add, World.cell?_alloc_past (hn := HS2.out)]
    match j, hj with
    | 0, hj => rw [HB2.out.cell 2 (by simp)]; simpa using hj
    | 1, hj => rw [HB2.out.cell 3 (by simp)]; simpa using hj
    | 2, hj => rw [HB2.out.cell 4 (by simp)]; simpa using hj
  have HSZ := Hid.mk' hsz
  clear b1 HB0 HW0 hsz
  go_wp2_with (at_builtin; refine wpList_append_grows _ rfl _ _ 22 rfl 5 i0 (.int .u8 0) 1 1 Try.underlying22 hif hz0 hz1 hz2 rfl (by decide) (some ⟨w.heap.size, 2, none⟩) 3 3 [.int .u8 9, .int .u8 3, .int .u8 4] rfl (by simp) rfl HO7.out ⟨w1.heap.size, 0, none⟩ 1 1 [.int .u8 7] rfl rfl HN7.out (by intro u hu; simp at hu; subst hu; rfl) (by omega) (by unfold maxLen; omega) (by omega) ?_; intro v5 w5 hown5 hgr5; obtain ⟨g5, c5, rfl, hg5, d5, k5, B5, f5, s5⟩ := awake_mid w w1 w5 v5 hown5 hgr5 HW2.out HB2.out HS2.out HSZ.out; clear hown5 hgr5)
  have B6 : Below w.heap.size w (w5.setCell ⟨g5, 0, none⟩ (.int .u8 8)) := B5.out.setCell (by show w.heap.size ≤ g5; omega) _
  have F6 : Buf (w5.setCell ⟨g5, 0, none⟩ (.int .u8 8)) w.heap.size [0, 1, 9, 3, 4, 5] := f5.out.kept s5 ((Kept.refl (fun k => k = g5) _).setCell (fun _ => rfl) _) (by omega)
  have S6 : w.heap.size < (w5.setCell ⟨g5, 0, none⟩ (.int .u8 8)).heap.size := by simpa [World.setCell] using s5
  clear B5 f5 s5 d5 k5 HB2 HW2 HS2 HN7 HO7 HSZ HB1 HW1 c2 c3 c4 f2
  generalize w5.setCell ⟨g5, 0, none⟩ (.int .u8 8) = w6 at *
  refine (new_any (some ⟨w.heap.size, 0, none⟩) 6 6 w6).mono ?_
  rintro e w7 ⟨rfl, hw7⟩
  have K7 : BookIs w7 w6.heap.size (some ⟨w.heap.size, 0, none⟩) 6 6 0 (.slice none 0 0) [] := by rw [hw7]; exact bookIs_new w6 _ 6 6 (by omega) (by omega)
  have B7 : Below w.heap.size w w7 := by rw [hw7]; exact B6.alloc B6.size _
  have F7 : Buf w7 w.heap.size [0, 1, 9, 3, 4, 5] := by rw [hw7]; exact F6.below S6 ((Below.refl _ _).alloc (Nat.le_refl _) _)
  clear hw7 B6 F6
  generalize w6.heap.size = p at *
  have HK7 := Hid.mk' K7
  have HB7 := Hid.mk' B7
  have HF7 := Hid.mk' F7
  clear K7 B7 F7
  go_wp2_with fail
  refine (blend_yes p (some ⟨w.heap.size, 0, none⟩) 6 6 0 (.slice none 0 0) [] 0 2 w7 HK7.out (by omega) (by omega) (by simp) (by simp)).mono ?_
  rintro e w8 ⟨rfl, ov8, k8, t8, o8⟩
  have B8 : Below w.heap.size w w8 := HB7.out.trans (t8.below HB7.out.size (fun k hk => HK7.out.apart (by omega)))
  have F8 : Buf w8 w.heap.size [0, 1, 9, 3, 4, 5] := HF7.out.kept (by have := HK7.out.lt; omega) t8 (HK7.out.apart (by omega))
  have HK8 : Hid (BookIs w8 p (some ⟨w.heap.size, 0, none⟩) 6 6 1 ov8 [(0, 0, 2)]) := k8
  have HB8 := Hid.mk' B8
  have HF8 := Hid.mk' F8
  clear k8 B8 F8 t8 o8 HK7 HB7 HF7
  go_wp2_with fail
  refine (blend_busy p (some ⟨w.heap.size, 0, none⟩) 6 6 1 ov8 _ 1 1 w8 HK8.out (by omega) (by simp) (by simp; decide +kernel)).mono ?_
  rintro e w9 ⟨rfl, b9⟩
  have HB9 : Hid (Below w.heap.size w w9) := HB8.out.trans (b9.mono HB8.out.size)
  have HK9 := Hid.mk' (HK8.out.below b9)
  have HF9 : Hid (Buf w9 w.heap.size [0, 1, 9, 3, 4, 5]) := HF8.out.below (by have := HK8.out.lt; omega) b9
  have HS9 : Hid (w.heap.size < w9.heap.size) := by have := HK9.out.lt; show _ < _; omega
  clear b9 HB8 HK8 HF8
  go_wp2_with fail
  have FL : Buf (w9.alloc (.cells #[.int .u8 0, .int .u8 1, .int .u8 9, .int .u8 3, .int .u8 4, .int .u8 5] 5)) w.heap.size [0, 1, 9, 3, 4, 5] := HF9.out.below HS9.out ((Below.refl _ _).alloc (Nat.le_refl _) _)
  refine (eq_at _ _ 6 6 6 6 [0, 1, 9, 3, 4, 5] [0, 1, 9, 3, 4, 5] _ rfl rfl FL.bs (bs_new w9 [0, 1, 9, 3, 4, 5] 5 (by unfold Bytes; simp) (by simp))).mono ?_
  rintro e w10 ⟨rfl, d10⟩
  rw [show decide (([0, 1, 9, 3, 4, 5] : List Int) = [0, 1, 9, 3, 4, 5]) = true from by simp]
  have b10 : Below w9.heap.size w9 w10 := ((Below.refl _ _).alloc (Nat.le_refl _) _).trans (d10.below _)
  have HB10 : Hid (Below w.heap.size w w10) := HB9.out.trans (b10.mono HB9.out.size)
  have HK10 := Hid.mk' (HK9.out.below b10)
  clear FL d10 b10 HB9 HK9 HF9 HS9
  go_wp2_with fail
  refine (back_yes p _ 6 6 1 ov8 [(0, 0, 2)] 0 w10 HK10.out 0 (0, 0, 2) rfl rfl (by intro j l hj; omega)).mono ?_
  rintro e w11 ⟨rfl, ov11, k11, t11, _⟩
  have HB11 : Hid (Below w.heap.size w w11) := HB10.out.trans (t11.below HB10.out.size (fun k hk => HK10.out.apart (by omega)))
  have HK11 : Hid (BookIs w11 p (some ⟨w.heap.size, 0, none⟩) 6 6 1 ov11 []) := k11
  clear k11 t11 HB10 HK10
  go_wp2_with fail
  refine (back_no p _ 6 6 1 ov11 [] 0 w11 HK11.out (by simp)).mono ?_
  rintro e w12 ⟨rfl, b12⟩
  have HB12 : Below w.heap.size w w12 := HB11.out.trans (b12.mono HB11.out.size)
  clear b12 HB11 HK11
  go_wp2_with fail
  go_ret
  exact ⟨rfl, HB12⟩
end Go.Proofs.Ytnpcglgboemmcaa
