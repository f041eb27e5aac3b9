/- The contracts of layAnew, wipe, Head. -/
import Derived.Test.YtbinedhgjmfceaaPc
namespace Go.Proofs.Ytbinedhgjmfceaa
open Go.ChangeShapes Go.WideShapes Go.ChangeAt Go.RowKit

set_option maxHeartbeats 400000 in
theorem anew_any (p g : Nat) (A B D : List Int) (m : Nat) (x y : Nat) (w : World) (h : PkIs w p g A B D m) (hx : 64 + x + B.length + (64 + y) ≤ 2560) :
    Calls Try.prog 54 #[.pointer (some ⟨p, 0, none⟩), .int .i64 x, .int .i64 y] w fun e w' => e = .returned (.tuple #[]) ∧ PkIs w' p w.heap.size (List.replicate (64 + x) 0) B (List.replicate (64 + y) 0) m ∧ Kept (fun k => k = p) w w' := by
  have H := Hid.mk' h
  clear h
  have hb : B.length ≤ 2560 := by omega
  go_enter Try.func54, Try.ntmps54
  go_wp2_with fail
  refine (data_any p g A B D m w H.out).mono ?_
  rintro e w1 ⟨rfl, d1⟩
  have D1 := Hid.mk' d1
  have key := lay_any p (64 + x) (64 + y) (some ⟨g, pO A B, none⟩) B.length B w1 _ _ _ m (H.out.dr d1).raw.box (H.out.dr d1).bs (fun q hq => .inl (by cases hq; have := H.out.lt; show g ≠ p; omega)) hx H.out.most H.out.mvs
  rw [show w1.heap = w.heap from d1.heap] at key
  rw [show ((64 + x : Nat) : Int) = 64 + (x : Int) by omega, show ((64 + y : Nat) : Int) = 64 + (y : Int) by omega] at key
  clear d1
  go_wp2_with fail
  refine key.mono ?_
  rintro e w2 ⟨rfl, hP, hK⟩
  have K2 : Kept (fun k => k = p) w w2 := (Kept.of_below (D1.out.below _)).trans hK
  clear hK key
  go_wp2_with fail
  go_end0
  exact ⟨rfl, hP, K2⟩

theorem zero_u8 (w : World) : (zeroValue 5).run Try.prog w = .ok (.int .u8 0) w := by kernel_rfl

set_option maxHeartbeats 400000 in
theorem wipe_no (p : Nat) (x n : Int) (w : World) (hn : n ≤ 0) :
    Calls Try.prog 55 #[.pointer (some ⟨p, 0, none⟩), .int .i64 x, .int .i64 n] w fun e w' => e = .returned (.tuple #[]) ∧ w = w' := by
  go_enter Try.func55, Try.ntmps55
  go_wp2_with fail
  go_end0
  exact ⟨rfl, rfl⟩

set_option maxHeartbeats 1000000 in
theorem wipe_yes (p g N x k : Nat) (w : World) (cur : Array Value) (c0 : w.cell? ⟨p, 0, none⟩ = some (.slice (some ⟨g, 0, none⟩) N N)) (hg : w.heap[g]? = some (.cells cur 5 (0, 0))) (hN : N ≤ 4096) (hs : cur.size = N) (hk : 0 < k) (hx : x + k ≤ N) :
    Calls Try.prog 55 #[.pointer (some ⟨p, 0, none⟩), .int .i64 x, .int .i64 k] w fun e w' => e = .returned (.tuple #[]) ∧ w' = w.setCells g x (List.replicate k (.int .u8 0)) := by
  have hcl : ∀ (c : Nat) ty, (Builtin.clear_ #[22] ty #[.slice (some ⟨g, x, none⟩) k c]).run Try.prog w = .ok (.tuple #[]) (w.setCells g x (List.replicate k (.int .u8 0))) := by
    intro c ty
    refine Go.Lib.run_clear_slice w _ _ ty (.int .u8 0) Try.underlying22 zero_u8 rfl rfl g x k c hk (fun j hj => ?_) (fun j _ => frozen_of_row w g _ _ _ hg)
    rw [cell_of_row w g (x + j) _ _ _ hg, Array.getElem?_eq_getElem (by omega)]; rfl
  have HG := Hid.mk' hg
  clear hg hs
  have e1 : ((x : Int) + (k : Int)).toNat - x = k := by omega
  have e2 : ¬ N = x := by omega
  go_enter Try.func55, Try.ntmps55
  go_wp2_with fail
  go_end0
  exact ⟨rfl, rfl⟩

/-- What Head makes of the bytes, of the moves, of the room. -/
def hB (n : Int) (B : List Int) : List Int := if mayE B.length n = 0 then (if 0 ≤ n then List.replicate n.toNat 0 ++ B else B.drop (-n).toNat) else B
def mM (b : Nat) (n : Int) (m : Nat) : Nat := if mayE b n = 0 then m + 1 else m
def hA (b : Nat) (n : Int) (a : Nat) : Nat := if mayE b n = 0 then (if n > a then 64 else (a - n).toNat) else a
def hD (b : Nat) (n : Int) (a d : Nat) : Nat := if mayE b n = 0 then (if n > a then 64 else d) else d

/-- What is told of a packet behind Head or Tail. -/
def Moved (w w' : World) (p g : Nat) (B : List Int) (a d m : Nat) : Prop := ∃ g' A' D', PkIs w' p g' A' B D' m ∧ A'.length = a ∧ D'.length = d ∧ Kept (pkS p g) w w' ∧ (g' = g ∨ w.heap.size ≤ g')

theorem PkIs.cells {w : World} {p g : Nat} {A B D : List Int} {m : Nat} (h : PkIs w p g A B D m) :
    w.cell? ⟨p, 0, none⟩ = some (.slice (some ⟨g, 0, none⟩) (A.length + B.length + D.length) (A.length + B.length + D.length)) ∧ w.cell? ⟨p, 1, none⟩ = some (.int .i64 (A.length : Int)) ∧ w.cell? ⟨p, 2, none⟩ = some (.int .i64 ((A.length : Int) + (B.length : Int))) ∧ w.cell? ⟨p, 3, none⟩ = some (.int .i64 m) ∧
    w.frozen? ⟨p, 1, none⟩ = false ∧ w.frozen? ⟨p, 2, none⟩ = false ∧ w.frozen? ⟨p, 3, none⟩ = false := by
  obtain ⟨c0, c1, c2, c3, fz⟩ := h.raw.cell
  exact ⟨c0, c1, by rw [c2]; simp, c3, fz 1, fz 2, fz 3⟩

/-- The beginning is moved back: bytes go. -/
theorem PkIs.headNeg {w : World} {p g : Nat} {A B D : List Int} {m : Nat} (h : PkIs w p g A B D m) (k : Nat) (hk : k ≤ B.length) (hm : m + 1 ≤ 100000) :
    PkIs ((w.setCell ⟨p, 1, none⟩ (.int .i64 ((A.length : Int) + k))).setCell ⟨p, 3, none⟩ (.int .i64 ((m : Int) + 1))) p g (A ++ B.take k) (B.drop k) D (m + 1) := by
  have hlt := h.lt
  have e1 : (A ++ B.take k).length = A.length + k := by rw [List.length_append, List.length_take]; omega
  have e2 : (B.drop k).length = B.length - k := List.length_drop
  have e3 : A ++ B.take k ++ (B.drop k ++ D) = A ++ (B ++ D) := by rw [List.append_assoc, ← List.append_assoc (B.take k), List.take_append_drop]
  have hall := h.all
  have hmost := h.most
  refine ⟨⟨?_, by omega, by omega, by omega⟩, ?_, hlt, by rw [e3]; exact h.bytes, by omega, by omega, hm⟩
  · rw [Go.heap_setCell_same _ p 3 _ _ _ (Go.heap_setCell_same _ p 1 _ _ _ h.raw.box), e1, e2]
    rw [show A.length + k + (B.length - k) + D.length = A.length + B.length + D.length by omega, show A.length + k + (B.length - k) = A.length + B.length by omega]
    simp
  · rw [Below.heap_setCell _ _ _ _ (by show g ≠ p; omega), Below.heap_setCell _ _ _ _ (by show g ≠ p; omega), e3]
    exact h.row

/-- The beginning is moved forth: noughts come. -/
theorem PkIs.headPos {w : World} {p g : Nat} {A B D : List Int} {m : Nat} (h : PkIs w p g A B D m) (k : Nat) (hk : k ≤ A.length) (hb : B.length + k ≤ 2048) (hm : m + 1 ≤ 100000) :
    PkIs (((w.setCell ⟨p, 1, none⟩ (.int .i64 ((A.length : Int) - k))).setCells g (A.length - k) (List.replicate k (.int .u8 0))).setCell ⟨p, 3, none⟩ (.int .i64 ((m : Int) + 1))) p g (A.take (A.length - k)) (List.replicate k 0 ++ B) D (m + 1) := by
  have hlt := h.lt
  have e1 : (A.take (A.length - k)).length = A.length - k := by rw [List.length_take]; omega
  have e2 : (List.replicate k (0 : Int) ++ B).length = k + B.length := by rw [List.length_append, List.length_replicate]
  have hall := h.all
  have hmost := h.most
  have hne : g ≠ p := by omega
  have hg1 : (w.setCell ⟨p, 1, none⟩ (.int .i64 ((A.length : Int) - k))).heap[g]? = some (.cells ((A ++ (B ++ D)).map (Value.int .u8)).toArray 5 (0, 0)) := by
    rw [Below.heap_setCell _ _ _ _ hne]; exact h.row
  have hp1 := Go.heap_setCell_same w p 1 _ _ (.int .i64 ((A.length : Int) - k)) h.raw.box
  refine ⟨⟨?_, by omega, by omega, by omega⟩, ?_, hlt, Bytes.of3 (h.bytes.mid.1.take _) (bytes_append (Bytes.zeros _) h.bytes.mid.2.1) h.bytes.mid.2.2, by omega, by omega, hm⟩
  · rw [Go.heap_setCell_same _ p 3 _ _ _ ((heap_setCells_other (fun e => hne e.symm) _ _ _ (Array.getElem?_eq_some_iff.1 hp1).1).trans hp1), e1, e2]
    rw [show A.length - k + (k + B.length) + D.length = A.length + B.length + D.length by omega, show A.length - k + (k + B.length) = A.length + B.length by omega, show ((A.length - k : Nat) : Int) = (A.length : Int) - k by omega]
    simp
  · rw [Below.heap_setCell _ _ _ _ hne, heap_setCells _ _ _ _ _ _ hg1 (by simp; omega)]
    congr 3
    simp only [List.length_replicate, List.map_append, List.append_assoc, List.map_replicate]
    rw [List.take_append_of_le_length (by simp), show A.length - k + k = A.length by omega, List.drop_left' (by simp), List.map_take]

theorem may_zero {b : Nat} {n : Int} : mayE b n = 0 ↔ n ≤ 2048 - (b : Int) ∧ -(b : Int) ≤ n := by
  unfold mayE
  constructor
  · intro h
    by_cases h1 : n > 2048 - (b : Int)
    · rw [if_pos h1] at h; omega
    · rw [if_neg h1] at h
      by_cases h2 : n < -(b : Int)
      · rw [if_pos h2] at h; omega
      · omega
  · intro h
    rw [if_neg (by omega), if_neg (by omega)]

theorem Kept.pk {w w' : World} {p g : Nat} (h : Kept (fun k => k = p) w w') : Kept (pkS p g) w w' := h.mono (fun _ _ e => .inl e)

set_option maxHeartbeats 1000000 in
theorem head_any (p g : Nat) (A B D : List Int) (m : Nat) (n : Int) (w : World) (h : PkIs w p g A B D m) (hm : m + 1 ≤ 100000) :
    Calls Try.prog 33 #[.pointer (some ⟨p, 0, none⟩), .int .i64 n] w fun e w' => e = .returned (.int .i64 (mayE B.length n)) ∧ Moved w w' p g (hB n B) (hA B.length n A.length) (hD B.length n A.length D.length) (mM B.length n m) := by
  by_cases he : mayE B.length n = 0
  · have hb := may_zero.1 he
    unfold hB hA hD mM
    rw [if_pos he, if_pos he, if_pos he, if_pos he]
    have key := may_any p g A B D m n w h
    rw [he] at key ⊢
    have hall := h.all
    have hmost := h.most
    have H := Hid.mk' h
    clear h he
    by_cases hn : 0 < n
    · obtain ⟨k, rfl⟩ : ∃ k : Nat, n = k := ⟨n.toNat, by omega⟩
      rw [if_pos (by omega : (0 : Int) ≤ (k : Int))]
      by_cases hroom : (k : Int) > A.length
      · rw [if_pos hroom, if_pos hroom]
        go_enter Try.func33, Try.ntmps33
        go_wp2_with fail
        refine key.mono ?_
        rintro e w1 ⟨rfl, d1⟩
        have H1 := Hid.mk' (H.out.dr d1)
        have D1 := Hid.mk' d1
        obtain ⟨c0, c1, c2, c3, f1, f2, f3⟩ := H1.out.cells
        clear key d1
        go_wp2_with fail
        refine (anew_any p g A B D m k 0 w1 H1.out (by omega)).mono ?_
        rintro e w2 ⟨rfl, hP2, hK2⟩
        have H2 := Hid.mk' hP2
        have KK2 := Hid.mk' hK2
        have hsz : w1.heap.size = w.heap.size := by rw [D1.out.heap]
        have HSZ := Hid.mk' hsz
        clear c0 c1 c2 c3 f1 f2 f3 hP2 hK2 hsz
        obtain ⟨A2, hA2⟩ : ∃ A2, A2 = List.replicate (64 + k) (0 : Int) := ⟨_, rfl⟩
        rw [← hA2] at H2
        have hl2 : A2.length ≤ 64 + k := by rw [hA2]; simp
        have hl2' : 64 + k ≤ A2.length := by rw [hA2]; simp
        clear hA2
        obtain ⟨g2, hg2⟩ : ∃ g2, g2 = w1.heap.size := ⟨_, rfl⟩
        rw [← hg2] at H2
        have HG2 := Hid.mk' hg2
        clear hg2
        obtain ⟨D2, hD2⟩ : ∃ D2, D2 = List.replicate (64 + 0) (0 : Int) := ⟨_, rfl⟩
        rw [← hD2] at H2
        have hl3 : D2.length ≤ 64 := by rw [hD2]; simp
        have hl3' : 64 ≤ D2.length := by rw [hD2]; simp
        clear hD2
        obtain ⟨c0, c1, c2, c3, f1, f2, f3⟩ := H2.out.cells
        have HF := Hid.mk' (H2.out.headPos k (by omega) (by omega) hm)
        have hrow2 := H2.out.row
        have hgp : ¬ g2 = p := by have := H2.out.lt; omega
        have hgp' : ¬ p = g2 := by have := H2.out.lt; omega
        have hm' : m ≤ 100000 := H2.out.mvs
        obtain ⟨W3, hW3⟩ : ∃ W3, W3 = w2.setCell ⟨p, 1, none⟩ (.int .i64 ((A2.length : Int) - k)) := ⟨_, rfl⟩
        have k3 : Kept (pkS p g) w W3 := by rw [hW3]; exact ((Kept.of_below (D1.out.below _)).trans KK2.out.pk).setCell (p := ⟨p, 1, none⟩) (fun _ => .inl rfl) _
        have q0 : W3.cell? ⟨p, 0, none⟩ = some (.slice (some ⟨g2, 0, none⟩) (A2.length + B.length + D2.length) (A2.length + B.length + D2.length)) := by rw [hW3, World.cell?_setCell_other _ _ _ _ (by simp)]; exact c0
        have q1 : W3.cell? ⟨p, 1, none⟩ = some (.int .i64 ((A2.length : Int) - k)) := by rw [hW3]; exact World.cell?_setCell_same _ _ _ c1
        have q3 : W3.cell? ⟨p, 3, none⟩ = some (.int .i64 m) := by rw [hW3, World.cell?_setCell_other _ _ _ _ (by simp)]; exact c3
        have f3' : W3.frozen? ⟨p, 3, none⟩ = false := by rw [hW3, World.frozen?_setCell]; exact f3
        have row3 : W3.heap[g2]? = some (.cells ((A2 ++ (B ++ D2)).map (Value.int .u8)).toArray 5 (0, 0)) := by rw [hW3, Below.heap_setCell _ _ _ _ hgp]; exact hrow2
        have wkey := wipe_yes p g2 (A2.length + B.length + D2.length) (A2.length - k) k W3 _ q0 row3 (by omega) (by simp; omega) (by omega) (by omega)
        rw [show ((A2.length - k : Nat) : Int) = (A2.length : Int) - k by omega] at wkey
        have q3' : (W3.setCells g2 (A2.length - k) (List.replicate k (.int .u8 0))).cell? ⟨p, 3, none⟩ = some (.int .i64 m) := by
          rw [World.cell?_of_block (w := W3) (heap_setCells_other hgp' _ _ _ (lt_of_cell q3))]; exact q3
        have f3'' : (W3.setCells g2 (A2.length - k) (List.replicate k (.int .u8 0))).frozen? ⟨p, 3, none⟩ = false := by
          rw [World.frozen?_of_block (w := W3) (a := ⟨p, 3, none⟩) (heap_setCells_other hgp' _ _ _ (lt_of_cell q3))]; exact f3'
        have HK : Hid (Kept (pkS p g) w ((W3.setCells g2 (A2.length - k) (List.replicate k (.int .u8 0))).setCell ⟨p, 3, none⟩ (.int .i64 ((m : Int) + 1)))) := (k3.setCells _ _ _ (fun h => absurd h (by rw [HG2.out, HSZ.out]; exact Nat.lt_irrefl _))).setCell (p := ⟨p, 3, none⟩) (fun _ => .inl rfl) _
        rw [← hW3] at HF
        have HW3 := Hid.mk' hW3
        clear hW3 k3 q0 q1 q3 f3' row3 hrow2 c0 c2 c3 f2 f3
        go_wp2_with fail
        rw [← HW3.out]
        refine wkey.mono ?_
        rintro e w4 ⟨rfl, hw4⟩
        rw [← hw4] at q3' f3'' HF HK
        clear hw4 wkey HW3 c1 f1
        go_wp2_with fail
        go_ret
        exact ⟨rfl, g2, _, _, HF.out, by rw [List.length_take]; omega, by omega, HK.out, .inr (by rw [HG2.out, HSZ.out]; exact Nat.le_refl _)⟩
      · rw [if_neg hroom, if_neg hroom]
        go_enter Try.func33, Try.ntmps33
        go_wp2_with fail
        refine key.mono ?_
        rintro e w2 ⟨rfl, d1⟩
        have H2 := Hid.mk' (H.out.dr d1)
        have KK1 : Hid (Kept (pkS p g) w w2) := Kept.of_below (d1.below _)
        clear key d1
        obtain ⟨c0, c1, c2, c3, f1, f2, f3⟩ := H2.out.cells
        have HF := Hid.mk' (H2.out.headPos k (by omega) (by omega) hm)
        have hrow2 := H2.out.row
        have hgp : ¬ g = p := by have := H2.out.lt; omega
        have hgp' : ¬ p = g := by have := H2.out.lt; omega
        have hm' : m ≤ 100000 := H2.out.mvs
        obtain ⟨W3, hW3⟩ : ∃ W3, W3 = w2.setCell ⟨p, 1, none⟩ (.int .i64 ((A.length : Int) - k)) := ⟨_, rfl⟩
        have k3 : Kept (pkS p g) w W3 := by rw [hW3]; exact (KK1.out).setCell (p := ⟨p, 1, none⟩) (fun _ => .inl rfl) _
        have q0 : W3.cell? ⟨p, 0, none⟩ = some (.slice (some ⟨g, 0, none⟩) (A.length + B.length + D.length) (A.length + B.length + D.length)) := by rw [hW3, World.cell?_setCell_other _ _ _ _ (by simp)]; exact c0
        have q1 : W3.cell? ⟨p, 1, none⟩ = some (.int .i64 ((A.length : Int) - k)) := by rw [hW3]; exact World.cell?_setCell_same _ _ _ c1
        have q3 : W3.cell? ⟨p, 3, none⟩ = some (.int .i64 m) := by rw [hW3, World.cell?_setCell_other _ _ _ _ (by simp)]; exact c3
        have f3' : W3.frozen? ⟨p, 3, none⟩ = false := by rw [hW3, World.frozen?_setCell]; exact f3
        have row3 : W3.heap[g]? = some (.cells ((A ++ (B ++ D)).map (Value.int .u8)).toArray 5 (0, 0)) := by rw [hW3, Below.heap_setCell _ _ _ _ hgp]; exact hrow2
        have wkey := wipe_yes p g (A.length + B.length + D.length) (A.length - k) k W3 _ q0 row3 (by omega) (by simp; omega) (by omega) (by omega)
        rw [show ((A.length - k : Nat) : Int) = (A.length : Int) - k by omega] at wkey
        have q3' : (W3.setCells g (A.length - k) (List.replicate k (.int .u8 0))).cell? ⟨p, 3, none⟩ = some (.int .i64 m) := by
          rw [World.cell?_of_block (w := W3) (heap_setCells_other hgp' _ _ _ (lt_of_cell q3))]; exact q3
        have f3'' : (W3.setCells g (A.length - k) (List.replicate k (.int .u8 0))).frozen? ⟨p, 3, none⟩ = false := by
          rw [World.frozen?_of_block (w := W3) (a := ⟨p, 3, none⟩) (heap_setCells_other hgp' _ _ _ (lt_of_cell q3))]; exact f3'
        have HK : Hid (Kept (pkS p g) w ((W3.setCells g (A.length - k) (List.replicate k (.int .u8 0))).setCell ⟨p, 3, none⟩ (.int .i64 ((m : Int) + 1)))) := (k3.setCells _ _ _ (fun _ => .inr rfl)).setCell (p := ⟨p, 3, none⟩) (fun _ => .inl rfl) _
        rw [← hW3] at HF
        have HW3 := Hid.mk' hW3
        clear hW3 k3 q0 q1 q3 f3' row3 hrow2 c0 c2 c3 f2 f3
        go_wp2_with fail
        rw [← HW3.out]
        refine wkey.mono ?_
        rintro e w4 ⟨rfl, hw4⟩
        rw [← hw4] at q3' f3'' HF HK
        clear hw4 wkey HW3 c1 f1
        go_wp2_with fail
        go_ret
        exact ⟨rfl, g, _, _, HF.out, by rw [List.length_take]; omega, rfl, HK.out, .inl rfl⟩
    · obtain ⟨k, rfl⟩ : ∃ k : Nat, n = -(k : Int) := ⟨(-n).toNat, by omega⟩
      have hroom : ¬ (-(k : Int) > A.length) := by omega
      rw [if_neg hroom, if_neg hroom]
      have hBeq : (if 0 ≤ -(k : Int) then List.replicate (-(k : Int)).toNat 0 ++ B else B.drop (-(-(k : Int))).toNat) = B.drop k := by
        by_cases hk : k = 0
        · subst hk; simp
        · rw [if_neg (by omega), show (-(-(k : Int))).toNat = k by omega]
      rw [hBeq]
      clear hBeq
      go_enter Try.func33, Try.ntmps33
      go_wp2_with fail
      refine key.mono ?_
      rintro e w2 ⟨rfl, d1⟩
      have H2 := Hid.mk' (H.out.dr d1)
      have KK1 : Hid (Kept (pkS p g) w w2) := Kept.of_below (d1.below _)
      clear key d1
      obtain ⟨c0, c1, c2, c3, f1, f2, f3⟩ := H2.out.cells
      have hm' : m ≤ 100000 := H2.out.mvs
      have HF := Hid.mk' (H2.out.headNeg k (by omega) hm)
      have HK : Hid (Kept (pkS p g) w ((w2.setCell ⟨p, 1, none⟩ (.int .i64 ((A.length : Int) + k))).setCell ⟨p, 3, none⟩ (.int .i64 ((m : Int) + 1)))) := (KK1.out.setCell (p := ⟨p, 1, none⟩) (fun _ => .inl rfl) _).setCell (p := ⟨p, 3, none⟩) (fun _ => .inl rfl) _
      go_wp2_with fail
      refine (wipe_no p _ (-(k : Int)) _ (by omega)).mono ?_
      rintro e w3 ⟨rfl, rfl⟩
      go_wp2_with fail
      go_ret
      exact ⟨rfl, g, _, _, HF.out, by rw [List.length_append, List.length_take]; omega, rfl, HK.out, .inl rfl⟩
  · unfold hB hA hD mM
    rw [if_neg he, if_neg he, if_neg he, if_neg he]
    have key := may_any p g A B D m n w h
    have HE := Hid.mk' he
    have hne : (mayE B.length n != 0) = true := by simpa using he
    clear he
    generalize mayE B.length n = E at *
    have H := Hid.mk' h
    clear h
    go_enter Try.func33, Try.ntmps33
    go_wp2_with fail
    refine key.mono ?_
    rintro e w1 ⟨rfl, d1⟩
    clear key
    go_wp2_with fail
    go_ret
    exact ⟨rfl, g, A, D, H.out.dr d1, rfl, rfl, Kept.of_below (d1.below _), .inl rfl⟩
end Go.Proofs.Ytbinedhgjmfceaa
