/- The contracts of the document's own Check, Size, Bytes for net4. -/
import Derived.Test.YtmeodhdmnoglcaaUc
import Derived.Test.YtmeodhdmnoglcaaGb
namespace Go.Proofs.Ytmeodhdmnoglcaa
open Go.ChangeShapes Go.WideShapes Go.ChangeAt Go.RowKit

theorem rcheck_any (L : List Value) (w : World) : Calls Try.prog 12 #[.agg L.toArray] w fun e w' => e = .returned (.int .i64 0) ∧ Below w.heap.size w w' := by
  go_enter Try.func12, Try.ntmps12
  go_wp2_with fail
  go_ret
  exact ⟨rfl, (Below.refl _ _).alloc (Nat.le_refl _) _⟩

theorem rsize_any (w : World) : Calls Try.prog 14 #[] w fun e w' => e = .returned (.int .i64 20) ∧ w = w' := by
  go_enter Try.func14, Try.ntmps14
  go_wp2_with fail
  go_ret
  exact ⟨rfl, rfl⟩

theorem numB_two (t : Int) (h0 : 0 ≤ t) (h1 : t ≤ 65535) : numB 2 t = [t / 256, t % 256] := by
  simp [numB]; omega

theorem Kept_block {w w' : World} {g : Nat} {o : Obj} {row : Option Nat} (h : w.heap[g]? = some o) (hg : w.grownBy w' row) (hne : row ≠ some g) : w'.heap[g]? = some o :=
  (hg.block g (Array.getElem?_eq_some_iff.1 h).1 (fun e => hne e.symm)).trans h

set_option maxHeartbeats 400000 in
theorem rbytes_no (L : List Value) (a : Option Addr) (n c : Nat) (w : World) (hlc : L.length = 12) (hn : ¬ n ≤ 2028) (hl : n ≤ 140737488355328) :
    Calls Try.prog 10 #[.agg L.toArray, .slice a n c] w fun e w' => e = .returned (.tuple #[.slice none 0 0, .int .i64 5]) ∧ Below w.heap.size w w' := by
  have hlc := Hid.mk' hlc
  obtain ⟨W1, hW1⟩ : ∃ W1, W1 = w.alloc (.cells L.toArray 25) := ⟨_, rfl⟩
  have R1 : Hid (W1.heap[w.heap.size]? = some (.cells L.toArray 25 (0, 0))) := by rw [hW1]; exact heap_alloc_new w _
  have B1 : Hid (Below w.heap.size w W1) := by rw [hW1]; exact (Below.refl _ _).alloc (Nat.le_refl _) _
  have HW := Hid.mk' hW1.symm
  clear hW1
  go_enter Try.func10, Try.ntmps10
  go_wp2_with (first | (go_at_call 12; rw [HW.out]; refine (rcheck_any L W1).mono ?_; rintro e w2 ⟨rfl, b2⟩; have B2 : Hid (Below w.heap.size w w2) := (B1.out.trans (b2.mono B1.out.size)); clear b2) | refine wpList_load_mid rfl 25 _ rfl w.heap.size 0 rfl L _ (by rw [HW.out]; exact range_block R1.out) Try.underlying25 rfl (by rw [hlc.out]; exact info_hd) ?_)
  go_ret2
  exact ⟨rfl, B2.out⟩

/-- What lies in memory while the document's Bytes goes on: the header's box, the row that is appended to. -/
structure RbJ (w : World) (L : List Value) (B : Nat) (v : Value) (k : Nat) (xs : List Int) (u : World) : Prop where
  box : u.heap[w.heap.size]? = some (.cells L.toArray 25 (0, 0))
  own : u.ownsRow B 5 1 v k (xs.map (Value.int .u8))
  old : Below w.heap.size w u
  sz : B ≤ u.heap.size
  lt : w.heap.size < B
theorem RbJ.below {w u u' : World} {L : List Value} {B : Nat} {v : Value} {k : Nat} {xs : List Int} (h : RbJ w L B v k xs u) (b : Below u.heap.size u u') : RbJ w L B v k xs u' :=
  ⟨(b.block _ (Array.getElem?_eq_some_iff.1 h.box).1).trans h.box, Kept.owns h.own (Kept.of_below (S := fun _ => False) b) (fun _ _ h => h), h.old.trans (b.mono h.old.size), Nat.le_trans h.sz b.size, h.lt⟩
theorem RbJ.app {w u u' : World} {L : List Value} {B : Nat} {v v' : Value} {k m : Nat} {xs ys : List Int} (h : RbJ w L B v k xs u) (o : u'.ownsRow B 5 1 v' (k + m) (xs.map (Value.int .u8) ++ ys.map (Value.int .u8))) (g : u.grownBy u' v.ownBlock) : RbJ w L B v' (k + m) (xs ++ ys) u' :=
  ⟨Kept_block h.box g (fun e => by have h1 := (h.own.lt _ e).1; have h2 := h.lt; omega), by rw [List.map_append]; exact o, h.old.grown g h.old.size (fun j hj => Nat.le_trans (Nat.le_of_lt h.lt) (h.own.lt j hj).1), Nat.le_trans h.sz g.size, h.lt⟩

/-- A row of the call's own that there is, as bytes that can be read. -/
theorem bs_row_g {w : World} {base g n c : Nat} {t : TypeId} {zs : List Int} (h : w.ownsRow base t 1 (.slice (some ⟨g, 0, none⟩) n c) n (zs.map (Value.int .u8))) (hb : Bytes zs) (hl : zs.length ≤ 140737488355328) : Bs w (some ⟨g, 0, none⟩) zs := by
  have hn : n = zs.length := by have := h.1; simpa using this.symm
  subst hn
  obtain ⟨a, c', e, hB, -⟩ := bs_own h hb hl
  cases e
  exact hB

set_option maxHeartbeats 2000000 in
theorem rbytes_ok (o l p i : Int) (s d : List Int) (a : Option Addr) (n c : Nat) (w : World) (h : N4 o l p i s d) (hn : n ≤ 2028) :
    Calls Try.prog 10 #[.agg (n4C o l p i s d).toArray, .slice a n c] w fun e w' => ∃ v, e = .returned (.tuple #[v, .int .i64 0]) ∧ w'.ownsRow w.heap.size 5 1 v 20 ((n4B o l p i s d n (n4F o l p i s d n)).map (Value.int .u8)) ∧ Below w.heap.size w w' := by
  have hlc := Hid.mk' (n4C_length h)
  obtain ⟨L, HL⟩ : ∃ L, Hid (n4C o l p i s d = L) := ⟨_, rfl⟩
  rw [HL.out] at hlc ⊢
  obtain ⟨F, HF⟩ : ∃ F, Hid (n4F o l p i s d n = F) := ⟨_, rfl⟩
  rw [HF.out]
  obtain ⟨W1, hW1⟩ : ∃ W1, W1 = w.alloc (.cells L.toArray 25) := ⟨_, rfl⟩
  have R1 : Hid (W1.heap[w.heap.size]? = some (.cells L.toArray 25 (0, 0))) := by rw [hW1]; exact heap_alloc_new w _
  have B1 : Hid (Below w.heap.size w W1) := by rw [hW1]; exact (Below.refl _ _).alloc (Nat.le_refl _) _
  have HW := Hid.mk' hW1.symm
  have i0 := h.i0
  have i1 := h.i1
  have H := Hid.mk' h
  have CE : Hid (∀ w' : World, w'.heap[w.heap.size]? = some (.cells L.toArray 25 (0, 0)) → w'.cell? ⟨w.heap.size, 0, none⟩ = some (.int .u8 o) ∧ w'.cell? ⟨w.heap.size, 1, none⟩ = some (.int .u8 l) ∧ w'.cell? ⟨w.heap.size, 2, none⟩ = some (.int .u8 p) ∧ w'.cell? ⟨w.heap.size, 3, none⟩ = some (.int .u16 i)) := Hid.mk' (fun w' hh => by
    rw [← HL.out] at hh
    refine ⟨?_, ?_, ?_, ?_⟩ <;> exact cell_of_row w' _ _ _ _ _ hh)
  have BSR : Hid (∀ w' : World, w'.heap[w.heap.size]? = some (.cells L.toArray 25 (0, 0)) → Bs w' (some ⟨w.heap.size, 4, none⟩) s ∧ Bs w' (some ⟨w.heap.size, 8, none⟩) d) := Hid.mk' (fun w' hh => by
    constructor
    · refine bs_block (A := [.int .u8 o, .int .u8 l, .int .u8 p, .int .u16 i]) (D := d.map (Value.int .u8)) (t := 25) ?_ 4 rfl H.out.sb (by rw [H.out.sl]; omega)
      rw [hh, ← HL.out]; rfl
    · refine bs_block (A := [.int .u8 o, .int .u8 l, .int .u8 p, .int .u16 i] ++ s.map (Value.int .u8)) (D := []) (t := 25) ?_ 8 (by simp [H.out.sl]) H.out.db (by rw [H.out.dl]; omega)
      rw [hh, ← HL.out]; simp [n4C])
  have Y1 : Hid (Bytes [69, o]) := Hid.mk' (by intro z hz; simp at hz; have := H.out.o0; have := H.out.o1; omega)
  have Y2 : Hid (Bytes [0, 0, l, p, 0, 0]) := Hid.mk' (by intro z hz; simp at hz; have := H.out.l0; have := H.out.l1; have := H.out.p0; have := H.out.p1; omega)
  clear h hW1
  go_enter Try.func10, Try.ntmps10
  go_wp2_with (first | (go_at_call 12; rw [HW.out]; refine (rcheck_any L W1).mono ?_; rintro e w2 ⟨rfl, b2⟩; have B2 : Hid (Below w.heap.size w w2) := (B1.out.trans (b2.mono B1.out.size)); have R2 : Hid (w2.heap[w.heap.size]? = some (.cells L.toArray 25 (0, 0))) := ((b2.block _ (Array.getElem?_eq_some_iff.1 R1.out).1).trans R1.out); obtain ⟨c0, c1, c2, c3⟩ := CE.out _ R2.out; clear b2) | (at_builtin; refine wpList_app_own rfl _ _ rfl w2.heap.size (.slice none 0 0) 0 [] rfl (World.ownsRow_nil _ _ _ _) (some ⟨w2.heap.size, 0, none⟩) 2 2 [69, o] rfl rfl (bs_new w2 [69, o] 5 Y1.out (by simp)) (by omega) (by simp) ?_; intro v4 w4 hown hgrow hpl; have J4 : Hid (RbJ w L w2.heap.size v4 2 [69, o] w4) := Hid.mk' (have hlt := (Array.getElem?_eq_some_iff.1 R2.out).1; have hA : Below w2.heap.size w2 (w2.alloc (.cells ([69, o].map (Value.int .u8)).toArray 5)) := (Below.refl _ _).alloc (Nat.le_refl _) _; ⟨Kept_block ((hA.block _ hlt).trans R2.out) hgrow (by simp [Value.ownBlock]), hown, (B2.out.trans (hA.mono B2.out.size)).grown hgrow (Nat.le_trans B2.out.size hA.size) (by intro k hk; simp [Value.ownBlock] at hk), Nat.le_trans hA.size hgrow.size, hlt⟩); clear hown hgrow hpl c0 c1 c2 c3) | refine wpList_load_mid rfl 25 _ rfl w.heap.size 0 rfl L _ (by rw [HW.out]; exact range_block R1.out) Try.underlying25 rfl (by rw [hlc.out]; exact info_hd) ?_)
  refine (number_any (20 + (n : Int)) 2 w4 (by omega) (by omega) (by omega)).mono ?_
  rintro e w5 ⟨u5, rfl, hown, b5⟩
  obtain ⟨a5, c5, rfl, s5, -⟩ := bs_own (by rw [numB_length]; exact hown) (numB_bytes 2 (20 + (n : Int))) (by rw [numB_length]; omega)
  rw [numB_length] at *
  have S5 := Hid.mk' s5
  have J5 := Hid.mk' (J4.out.below b5)
  clear hown b5 s5 J4
  go_wp2_with (at_builtin; refine wpList_app_own rfl _ _ rfl w2.heap.size v4 2 _ rfl J5.out.own a5 c5 2 (numB 2 (20 + (n : Int))) rfl (numB_length 2 _) S5.out (by omega) J5.out.sz ?_; intro v6 w6 hown hgrow hpl; have J6 := Hid.mk' (J5.out.app hown hgrow); obtain ⟨c0, c1, c2, c3⟩ := CE.out _ J6.out.box; clear hown hgrow hpl)
  refine (number_any i 2 w6 i0 (by omega) (by omega)).mono ?_
  rintro e w7 ⟨u7, rfl, hown, b7⟩
  obtain ⟨a7, c7, rfl, s7, -⟩ := bs_own (by rw [numB_length]; exact hown) (numB_bytes 2 i) (by rw [numB_length]; omega)
  rw [numB_length] at *
  have S7 := Hid.mk' s7
  have J7 := Hid.mk' (J6.out.below b7)
  clear hown b7 s7 J6 J5 S5 c0 c1 c2 c3
  go_wp2_with (first | (at_builtin; refine wpList_app_own rfl _ _ rfl w2.heap.size v6 (2 + 2) _ rfl J7.out.own a7 c7 2 (numB 2 i) rfl (numB_length 2 _) S7.out (by omega) J7.out.sz ?_; intro v8 w8 hown hgrow hpl; have J8 := Hid.mk' (J7.out.app hown hgrow); obtain ⟨c0, c1, c2, c3⟩ := CE.out _ J8.out.box; clear hown hgrow hpl) | (at_builtin; have J8' := Hid.mk' (J8.out.below ((Below.refl w8.heap.size w8).alloc (Nat.le_refl _) (.cells ([0, 0, l, p, 0, 0].map (Value.int .u8)).toArray 5))); refine wpList_app_own rfl _ _ rfl w2.heap.size v8 (2 + 2 + 2) _ rfl J8'.out.own (some ⟨w8.heap.size, 0, none⟩) 6 6 [0, 0, l, p, 0, 0] rfl rfl (bs_new w8 [0, 0, l, p, 0, 0] 5 Y2.out (by simp)) (by omega) J8'.out.sz ?_; intro v9 w9 hown hgrow hpl; have J9 := Hid.mk' (J8'.out.app hown hgrow); clear hown hgrow hpl c0 c1 c2 c3) | (at_builtin; refine wpList_app_own rfl _ _ rfl w2.heap.size v9 (2 + 2 + 2 + 6) _ rfl J9.out.own (some ⟨w.heap.size, 4, none⟩) 4 4 s rfl H.out.sl (BSR.out _ J9.out.box).1 (by omega) J9.out.sz ?_; intro v10 w10 hown hgrow hpl; have J10 := Hid.mk' (J9.out.app hown hgrow); clear hown hgrow hpl) | (at_builtin; refine wpList_app_own rfl _ _ rfl w2.heap.size v10 (2 + 2 + 2 + 6 + 4) _ rfl J10.out.own (some ⟨w.heap.size, 8, none⟩) 4 4 d rfl H.out.dl (BSR.out _ J10.out.box).2 (by omega) J10.out.sz ?_; intro v11 w11 hown hgrow hpl; have J11 := Hid.mk' (J10.out.app hown hgrow); clear hown hgrow hpl))
  have EB : Hid ([69, o] ++ numB 2 (20 + (n : Int)) ++ numB 2 i ++ [0, 0, l, p, 0, 0] ++ s ++ d = n4B o l p i s d n 0) := Hid.mk' (by rw [numB_two _ (by omega) (by omega), numB_two i i0 i1]; simp [n4B])
  rw [EB.out] at J11
  have hB0 : Hid (Bytes (n4B o l p i s d n 0)) := Hid.mk' (n4B_bytes H.out (by omega) (by omega) (by omega) (by omega))
  have hL0 : Hid ((n4B o l p i s d n 0).length = 20) := Hid.mk' (n4B_length H.out _ _)
  clear J7 J8 J8' J9 J10 S7
  have J12 : Hid (RbJ w L w2.heap.size v11 20 (n4B o l p i s d n 0) w11) := J11
  clear J11
  obtain ⟨g, cg, rfl, hcg⟩ := own_some J12.out.own (by omega)
  have hgl := (J12.out.own.lt g rfl).1
  have S12 : Hid (Bs w11 (some ⟨g, 0, none⟩) (n4B o l p i s d n 0)) := Hid.mk' (by
    exact bs_row_g J12.out.own hB0.out (by rw [hL0.out]; omega))
  have key := reffield_any (some ⟨g, 0, none⟩) cg (n4B o l p i s d n 0) w11 S12.out
  rw [hL0.out] at key
  have hF := n4F_bd o l p i s d n
  have HFE : Hid (65535 - su (n4B o l p i s d n 0) 20 = n4F o l p i s d n) := Hid.mk' rfl
  rw [HFE.out] at key
  rw [HF.out] at key hF
  obtain ⟨f0, f1⟩ := hF
  have O0 := Hid.mk' J12.out.own
  have O1 := Hid.mk' (O0.out.stored 10 (.int .u8 (F / 256))).1
  have O2 := Hid.mk' (O1.out.stored 11 (.int .u8 (F % 256))).1
  have d10 : w11.cell? ⟨g, 10, none⟩ = some (.int .u8 0) := by rw [O0.out.cellAt 10 (by omega)]; rfl
  have d11 : w11.cell? ⟨g, 11, none⟩ = some (.int .u8 0) := by rw [O0.out.cellAt 11 (by omega)]; rfl
  have f10 := O0.out.frozenAt 10
  have f11 := O0.out.frozenAt 11
  have HGL := Hid.mk' (Nat.le_trans (Nat.le_of_lt J12.out.lt) hgl)
  have B12 : Hid (Below w.heap.size w ((w11.setCell ⟨g, 10, none⟩ (.int .u8 (F / 256))).setCell ⟨g, 11, none⟩ (.int .u8 (F % 256)))) := Hid.mk' ((J12.out.old.setCell (p := ⟨g, 10, none⟩) HGL.out _).setCell (p := ⟨g, 11, none⟩) HGL.out _)
  have HE : Hid ((((n4B o l p i s d n 0).map (Value.int .u8)).set 10 (.int .u8 (F / 256))).set 11 (.int .u8 (F % 256)) = (n4B o l p i s d n F).map (Value.int .u8)) := Hid.mk' (by simp [n4B])
  have HO := Hid.mk' (ownsRow_base O2.out (Nat.le_of_lt J12.out.lt))
  rw [HE.out] at HO
  have HBO : Hid (w.heap.size ≤ w2.heap.size) := Hid.mk' B2.out.size
  clear hgl hcg O1 O2
  refine key.mono ?_
  rintro e w13 ⟨rfl, rfl⟩
  go_wp2_with fail
  go_ret2
  exact ⟨_, rfl, HO.out, B12.out⟩
end Go.Proofs.Ytmeodhdmnoglcaa
