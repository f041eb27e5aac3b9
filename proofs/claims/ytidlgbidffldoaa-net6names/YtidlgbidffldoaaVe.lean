/- The contracts of the document's own Check, Size, Bytes for net6. -/
import Derived.Test.YtidlgbidffldoaaVd
import Derived.Test.YtidlgbidffldoaaGb
namespace Go.Proofs.Ytidlgbidffldoaa
open Go.ChangeShapes Go.WideShapes Go.ChangeAt Go.RowKit

theorem rcheck_any (L : List Value) (fl : Int) (w : World) (hL : L[1]? = some (.int .u32 fl)) : Calls Try.prog 12 #[.agg L.toArray] w fun e w' => e = .returned (.int .i64 (n6E fl)) ∧ Below w.heap.size w w' := by
  have hL' : L.toArray[1]? = some (.int .u32 fl) := by rw [List.getElem?_toArray]; exact hL
  unfold n6E
  by_cases h : fl ≤ 1048575
  · rw [if_pos h]
    have h' : ¬ 1048576 ≤ fl := by omega
    go_enter Try.func12, Try.ntmps12
    go_wp2_with fail
    go_ret
    exact ⟨rfl, (Below.refl _ _).alloc (Nat.le_refl _) _⟩
  · rw [if_neg h]
    have h' : 1048576 ≤ fl := by omega
    go_enter Try.func12, Try.ntmps12
    go_wp2_with fail
    go_ret
    exact ⟨rfl, (Below.refl _ _).alloc (Nat.le_refl _) _⟩

theorem rsize_any (w : World) : Calls Try.prog 14 #[] w fun e w' => e = .returned (.int .i64 40) ∧ w = w' := by
  go_enter Try.func14, Try.ntmps14
  go_wp2_with fail
  go_ret
  exact ⟨rfl, rfl⟩

theorem numB_two (t : Int) (h0 : 0 ≤ t) (h1 : t ≤ 65535) : numB 2 t = [t / 256, t % 256] := by
  simp [numB]; omega
theorem numB_four (t : Int) (h0 : 0 ≤ t) (h1 : t ≤ 4294967295) : numB 4 t = [t / 65536 / 256, t / 65536 % 256, t % 65536 / 256, t % 65536 % 256] := by
  simp [numB]; omega

theorem Kept_block {w w' : World} {g : Nat} {o : Obj} {row : Option Nat} (h : w.heap[g]? = some o) (hg : w.grownBy w' row) (hne : row ≠ some g) : w'.heap[g]? = some o :=
  (hg.block g (Array.getElem?_eq_some_iff.1 h).1 (fun e => hne e.symm)).trans h

set_option maxHeartbeats 400000 in
theorem rbytes_bad (L : List Value) (fl : Int) (a : Option Addr) (n c : Nat) (w : World) (hlc : L.length = 36) (hL : L[1]? = some (.int .u32 fl)) (hf : ¬ fl ≤ 1048575) :
    Calls Try.prog 10 #[.agg L.toArray, .slice a n c] w fun e w' => e = .returned (.tuple #[.slice none 0 0, .int .i64 80]) ∧ Below w.heap.size w w' := by
  have hlc := Hid.mk' hlc
  have HCK : Hid (∀ u : World, Calls Try.prog 12 #[.agg L.toArray] u fun e w' => e = .returned (.int .i64 80) ∧ Below u.heap.size u w') := Hid.mk' (fun u => by
    have := rcheck_any L fl u hL
    unfold n6E at this
    rw [if_neg hf] at this
    exact this)
  clear hL hf
  obtain ⟨W1, hW1⟩ : ∃ W1, W1 = w.alloc (.cells L.toArray 25) := ⟨_, rfl⟩
  have R1 : Hid (W1.heap[w.heap.size]? = some (.cells L.toArray 25 (0, 0))) := by rw [hW1]; exact heap_alloc_new w _
  have B1 : Hid (Below w.heap.size w W1) := by rw [hW1]; exact (Below.refl _ _).alloc (Nat.le_refl _) _
  have HW := Hid.mk' hW1.symm
  clear hW1
  go_enter Try.func10, Try.ntmps10
  go_wp2_with (first | (go_at_call 12; rw [HW.out]; refine (HCK.out W1).mono ?_; rintro e w2 ⟨rfl, b2⟩; have B2 : Hid (Below w.heap.size w w2) := (B1.out.trans (b2.mono B1.out.size)); clear b2) | refine wpList_load_mid rfl 25 _ rfl w.heap.size 0 rfl L _ (by rw [HW.out]; exact range_block R1.out) Try.underlying25 rfl (by rw [hlc.out]; exact info_hd) ?_)
  go_ret2
  exact ⟨rfl, B2.out⟩

set_option maxHeartbeats 400000 in
theorem rbytes_no (L : List Value) (fl : Int) (a : Option Addr) (n c : Nat) (w : World) (hlc : L.length = 36) (hL : L[1]? = some (.int .u32 fl)) (hf : fl ≤ 1048575) (hn : ¬ n ≤ 2008) (hl : n ≤ 140737488355328) :
    Calls Try.prog 10 #[.agg L.toArray, .slice a n c] w fun e w' => e = .returned (.tuple #[.slice none 0 0, .int .i64 5]) ∧ Below w.heap.size w w' := by
  have hlc := Hid.mk' hlc
  have HCK : Hid (∀ u : World, Calls Try.prog 12 #[.agg L.toArray] u fun e w' => e = .returned (.int .i64 0) ∧ Below u.heap.size u w') := Hid.mk' (fun u => by
    have := rcheck_any L fl u hL
    unfold n6E at this
    rw [if_pos hf] at this
    exact this)
  clear hL hf
  obtain ⟨W1, hW1⟩ : ∃ W1, W1 = w.alloc (.cells L.toArray 25) := ⟨_, rfl⟩
  have R1 : Hid (W1.heap[w.heap.size]? = some (.cells L.toArray 25 (0, 0))) := by rw [hW1]; exact heap_alloc_new w _
  have B1 : Hid (Below w.heap.size w W1) := by rw [hW1]; exact (Below.refl _ _).alloc (Nat.le_refl _) _
  have HW := Hid.mk' hW1.symm
  clear hW1
  go_enter Try.func10, Try.ntmps10
  go_wp2_with (first | (go_at_call 12; rw [HW.out]; refine (HCK.out W1).mono ?_; rintro e w2 ⟨rfl, b2⟩; have B2 : Hid (Below w.heap.size w w2) := (B1.out.trans (b2.mono B1.out.size)); clear b2) | refine wpList_load_mid rfl 25 _ rfl w.heap.size 0 rfl L _ (by rw [HW.out]; exact range_block R1.out) Try.underlying25 rfl (by rw [hlc.out]; exact info_hd) ?_)
  go_ret2
  exact ⟨rfl, B2.out⟩

/-- What lies in memory while the document's Bytes goes on: the header's box, the row that is appended to. -/
structure RbJ (w : World) (L : List Value) (B : Nat) (v : Value) (k : Nat) (xs : List Int) (u : World) : Prop where
  box : u.heap[w.heap.size]? = some (.cells L.toArray 25 (0, 0))
  own : u.ownsRow B 5 1 v k (xs.map (Value.int .u8))
  old : Below w.heap.size w u
  sz : B ≤ u.heap.size
  lt : w.heap.size < B
theorem RbJ.below {w u u' : World} {L : List Value} {B : Nat} {v : Value} {k : Nat} {xs : List Int} (h : RbJ w L B v k xs u) (b : Below u.heap.size u u') : RbJ w L B v k xs u' :=
  ⟨(b.block _ (Array.getElem?_eq_some_iff.1 h.box).1).trans h.box, Kept.owns h.own (Kept.of_below (S := fun _ => False) b) (fun _ _ h => h), h.old.trans (b.mono h.old.size), Nat.le_trans h.sz b.size, h.lt⟩
theorem RbJ.app {w u u' : World} {L : List Value} {B : Nat} {v v' : Value} {k m : Nat} {xs ys : List Int} (h : RbJ w L B v k xs u) (o : u'.ownsRow B 5 1 v' (k + m) (xs.map (Value.int .u8) ++ ys.map (Value.int .u8))) (g : u.grownBy u' v.ownBlock) : RbJ w L B v' (k + m) (xs ++ ys) u' :=
  ⟨Kept_block h.box g (fun e => by have h1 := (h.own.lt _ e).1; have h2 := h.lt; omega), by rw [List.map_append]; exact o, h.old.grown g h.old.size (fun j hj => Nat.le_trans (Nat.le_of_lt h.lt) (h.own.lt j hj).1), Nat.le_trans h.sz g.size, h.lt⟩

set_option maxHeartbeats 2000000 in
theorem rbytes_ok (cl fl nx hp : Int) (s d : List Int) (a : Option Addr) (n c : Nat) (w : World) (h : N6 cl fl nx hp s d) (hf : fl ≤ 1048575) (hn : n ≤ 2008) :
    Calls Try.prog 10 #[.agg (n6C cl fl nx hp s d).toArray, .slice a n c] w fun e w' => ∃ v, e = .returned (.tuple #[v, .int .i64 0]) ∧ w'.ownsRow w.heap.size 5 1 v 40 ((n6B cl fl nx hp s d n).map (Value.int .u8)) ∧ Below w.heap.size w w' := by
  have hlc := Hid.mk' (n6C_length h)
  have HCK : Hid (∀ u : World, Calls Try.prog 12 #[.agg (n6C cl fl nx hp s d).toArray] u fun e w' => e = .returned (.int .i64 0) ∧ Below u.heap.size u w') := Hid.mk' (fun u => by
    have := rcheck_any (n6C cl fl nx hp s d) fl u rfl
    unfold n6E at this
    rw [if_pos hf] at this
    exact this)
  obtain ⟨L, HL⟩ : ∃ L, Hid (n6C cl fl nx hp s d = L) := ⟨_, rfl⟩
  rw [HL.out] at hlc HCK ⊢
  obtain ⟨W1, hW1⟩ : ∃ W1, W1 = w.alloc (.cells L.toArray 25) := ⟨_, rfl⟩
  have R1 : Hid (W1.heap[w.heap.size]? = some (.cells L.toArray 25 (0, 0))) := by rw [hW1]; exact heap_alloc_new w _
  have B1 : Hid (Below w.heap.size w W1) := by rw [hW1]; exact (Below.refl _ _).alloc (Nat.le_refl _) _
  have HW := Hid.mk' hW1.symm
  have c0 := h.c0
  have c1 := h.c1
  have f0 := h.f0
  have H := Hid.mk' h
  have hM := n6M_bd h hf
  have CE : Hid (∀ w' : World, w'.heap[w.heap.size]? = some (.cells L.toArray 25 (0, 0)) → w'.cell? ⟨w.heap.size, 0, none⟩ = some (.int .u8 cl) ∧ w'.cell? ⟨w.heap.size, 1, none⟩ = some (.int .u32 fl) ∧ w'.cell? ⟨w.heap.size, 2, none⟩ = some (.int .u8 nx) ∧ w'.cell? ⟨w.heap.size, 3, none⟩ = some (.int .u8 hp)) := Hid.mk' (fun w' hh => by
    rw [← HL.out] at hh
    refine ⟨?_, ?_, ?_, ?_⟩ <;> exact cell_of_row w' _ _ _ _ _ hh)
  have BSR : Hid (∀ w' : World, w'.heap[w.heap.size]? = some (.cells L.toArray 25 (0, 0)) → Bs w' (some ⟨w.heap.size, 4, none⟩) s ∧ Bs w' (some ⟨w.heap.size, 20, none⟩) d) := Hid.mk' (fun w' hh => by
    constructor
    · refine bs_block (A := [.int .u8 cl, .int .u32 fl, .int .u8 nx, .int .u8 hp]) (D := d.map (Value.int .u8)) (t := 25) ?_ 4 rfl H.out.sb (by rw [H.out.sl]; omega)
      rw [hh, ← HL.out]; rfl
    · refine bs_block (A := [.int .u8 cl, .int .u32 fl, .int .u8 nx, .int .u8 hp] ++ s.map (Value.int .u8)) (D := []) (t := 25) ?_ 20 (by simp [H.out.sl]) H.out.db (by rw [H.out.dl]; omega)
      rw [hh, ← HL.out]; simp [n6C])
  have Y2 : Hid (Bytes [nx, hp]) := Hid.mk' (by intro z hz; simp at hz; have := H.out.x0; have := H.out.x1; have := H.out.h0; have := H.out.h1; omega)
  clear h hW1
  unfold n6M at hM
  go_enter Try.func10, Try.ntmps10
  go_wp2_with (first | (go_at_call 12; rw [HW.out]; refine (HCK.out W1).mono ?_; rintro e w2 ⟨rfl, b2⟩; have B2 : Hid (Below w.heap.size w w2) := (B1.out.trans (b2.mono B1.out.size)); have R2 : Hid (w2.heap[w.heap.size]? = some (.cells L.toArray 25 (0, 0))) := ((b2.block _ (Array.getElem?_eq_some_iff.1 R1.out).1).trans R1.out); obtain ⟨d0, d1, d2, d3⟩ := CE.out _ R2.out; clear b2) | refine wpList_load_mid rfl 25 _ rfl w.heap.size 0 rfl L _ (by rw [HW.out]; exact range_block R1.out) Try.underlying25 rfl (by rw [hlc.out]; exact info_hd) ?_)
  have J2 : Hid (RbJ w L w2.heap.size (.slice none 0 0) 0 [] w2) := Hid.mk' ⟨R2.out, World.ownsRow_nil _ _ _ _, B2.out, Nat.le_refl _, (Array.getElem?_eq_some_iff.1 R2.out).1⟩
  refine (number_any (1610612736 + cl * 1048576 + fl) 4 w2 (by omega) (by omega) (by omega)).mono ?_
  rintro e w5 ⟨u5, rfl, hown, b5⟩
  obtain ⟨a5, c5, rfl, s5, -⟩ := bs_own (by rw [numB_length]; exact hown) (numB_bytes 4 (1610612736 + cl * 1048576 + fl)) (by rw [numB_length]; omega)
  rw [numB_length] at *
  have S5 := Hid.mk' s5
  have J5 := Hid.mk' (J2.out.below b5)
  clear hown b5 s5 J2 d0 d1 d2 d3
  go_wp2_with (at_builtin; refine wpList_app_own rfl _ _ rfl w2.heap.size (.slice none 0 0) 0 _ rfl J5.out.own a5 c5 4 (numB 4 (1610612736 + cl * 1048576 + fl)) rfl (numB_length 4 _) S5.out (by omega) J5.out.sz ?_; intro v6 w6 hown hgrow hpl; have J6 := Hid.mk' (J5.out.app hown hgrow); clear hown hgrow hpl)
  refine (number_any (n : Int) 2 w6 (by omega) (by omega) (by omega)).mono ?_
  rintro e w7 ⟨u7, rfl, hown, b7⟩
  obtain ⟨a7, c7, rfl, s7, -⟩ := bs_own (by rw [numB_length]; exact hown) (numB_bytes 2 (n : Int)) (by rw [numB_length]; omega)
  rw [numB_length] at *
  have S7 := Hid.mk' s7
  have J7 := Hid.mk' (J6.out.below b7)
  clear hown b7 s7 J6 J5 S5
  go_wp2_with (first | (at_builtin; refine wpList_app_own rfl _ _ rfl w2.heap.size v6 (0 + 4) _ rfl J7.out.own a7 c7 2 (numB 2 (n : Int)) rfl (numB_length 2 _) S7.out (by omega) J7.out.sz ?_; intro v8 w8 hown hgrow hpl; have J8 := Hid.mk' (J7.out.app hown hgrow); obtain ⟨d0, d1, d2, d3⟩ := CE.out _ J8.out.box; clear hown hgrow hpl) | (at_builtin; have J8' := Hid.mk' (J8.out.below ((Below.refl w8.heap.size w8).alloc (Nat.le_refl _) (.cells ([nx, hp].map (Value.int .u8)).toArray 5))); refine wpList_app_own rfl _ _ rfl w2.heap.size v8 (0 + 4 + 2) _ rfl J8'.out.own (some ⟨w8.heap.size, 0, none⟩) 2 2 [nx, hp] rfl rfl (bs_new w8 [nx, hp] 5 Y2.out (by simp)) (by omega) J8'.out.sz ?_; intro v9 w9 hown hgrow hpl; have J9 := Hid.mk' (J8'.out.app hown hgrow); clear hown hgrow hpl d0 d1 d2 d3) | (at_builtin; refine wpList_app_own rfl _ _ rfl w2.heap.size v9 (0 + 4 + 2 + 2) _ rfl J9.out.own (some ⟨w.heap.size, 4, none⟩) 16 16 s rfl H.out.sl (BSR.out _ J9.out.box).1 (by omega) J9.out.sz ?_; intro v10 w10 hown hgrow hpl; have J10 := Hid.mk' (J9.out.app hown hgrow); clear hown hgrow hpl) | (at_builtin; refine wpList_app_own rfl _ _ rfl w2.heap.size v10 (0 + 4 + 2 + 2 + 16) _ rfl J10.out.own (some ⟨w.heap.size, 20, none⟩) 16 16 d rfl H.out.dl (BSR.out _ J10.out.box).2 (by omega) J10.out.sz ?_; intro v11 w11 hown hgrow hpl; have J11 := Hid.mk' (J10.out.app hown hgrow); clear hown hgrow hpl))
  have EB : Hid ([] ++ numB 4 (1610612736 + cl * 1048576 + fl) ++ numB 2 (n : Int) ++ [nx, hp] ++ s ++ d = n6B cl fl nx hp s d n) := Hid.mk' (by rw [numB_two _ (by omega) (by omega), numB_four _ (by omega) (by omega)]; simp [n6B, n6M])
  rw [EB.out] at J11
  have HO := Hid.mk' (ownsRow_base J11.out.own (Nat.le_of_lt J11.out.lt))
  have BO := Hid.mk' J11.out.old
  clear J7 J8 J8' J9 J10 S7 J11
  go_ret2
  exact ⟨_, rfl, HO.out, BO.out⟩
end Go.Proofs.Ytidlgbidffldoaa
