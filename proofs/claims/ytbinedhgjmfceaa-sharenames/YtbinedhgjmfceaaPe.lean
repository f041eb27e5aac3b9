/- The contract of Tail. -/
import Derived.Test.YtbinedhgjmfceaaPd
namespace Go.Proofs.Ytbinedhgjmfceaa
open Go.ChangeShapes Go.WideShapes Go.ChangeAt Go.RowKit

/-- What Tail makes of the bytes and of the room. -/
def tB (n : Int) (B : List Int) : List Int := if mayE B.length n = 0 then (if 0 ≤ n then B ++ List.replicate n.toNat 0 else B.take ((B.length : Int) + n).toNat) else B
def tA (b : Nat) (n : Int) (a d : Nat) : Nat := if mayE b n = 0 then (if n > d then 64 else a) else a
def tD (b : Nat) (n : Int) (d : Nat) : Nat := if mayE b n = 0 then (if n > d then 64 else (d - n).toNat) else d

/-- The end is moved back: bytes go. -/
theorem PkIs.tailNeg {w : World} {p g : Nat} {A B D : List Int} {m : Nat} (h : PkIs w p g A B D m) (k : Nat) (hk : k ≤ B.length) (hm : m + 1 ≤ 100000) :
    PkIs ((w.setCell ⟨p, 2, none⟩ (.int .i64 ((A.length : Int) + B.length - k))).setCell ⟨p, 3, none⟩ (.int .i64 ((m : Int) + 1))) p g A (B.take (B.length - k)) (B.drop (B.length - k) ++ D) (m + 1) := by
  have hlt := h.lt
  have e1 : (B.take (B.length - k)).length = B.length - k := by rw [List.length_take]; omega
  have e2 : (B.drop (B.length - k) ++ D).length = k + D.length := by rw [List.length_append, List.length_drop]; omega
  have e3 : A ++ (B.take (B.length - k) ++ (B.drop (B.length - k) ++ D)) = A ++ (B ++ D) := by rw [← List.append_assoc (B.take _), List.take_append_drop]
  have hall := h.all
  have hmost := h.most
  refine ⟨⟨?_, by omega, by omega, by omega⟩, ?_, hlt, by rw [e3]; exact h.bytes, by omega, by omega, hm⟩
  · rw [Go.heap_setCell_same _ p 3 _ _ _ (Go.heap_setCell_same _ p 2 _ _ _ h.raw.box), e1, e2]
    rw [show A.length + (B.length - k) + (k + D.length) = A.length + B.length + D.length by omega, show ((A.length + (B.length - k) : Nat) : Int) = (A.length : Int) + B.length - k by omega]
    simp
  · rw [Below.heap_setCell _ _ _ _ (by show g ≠ p; omega), Below.heap_setCell _ _ _ _ (by show g ≠ p; omega), e3]
    exact h.row

/-- The end is moved forth: noughts come. -/
theorem PkIs.tailPos {w : World} {p g : Nat} {A B D : List Int} {m : Nat} (h : PkIs w p g A B D m) (k : Nat) (hk : k ≤ D.length) (hb : B.length + k ≤ 2048) (hm : m + 1 ≤ 100000) :
    PkIs (((w.setCells g (A.length + B.length) (List.replicate k (.int .u8 0))).setCell ⟨p, 2, none⟩ (.int .i64 ((A.length : Int) + B.length + k))).setCell ⟨p, 3, none⟩ (.int .i64 ((m : Int) + 1))) p g A (B ++ List.replicate k 0) (D.drop k) (m + 1) := by
  have hlt := h.lt
  have e1 : (D.drop k).length = D.length - k := List.length_drop
  have e2 : (B ++ List.replicate k (0 : Int)).length = B.length + k := by rw [List.length_append, List.length_replicate]
  have hall := h.all
  have hmost := h.most
  have hne : g ≠ p := by omega
  have hp1 : (w.setCells g (A.length + B.length) (List.replicate k (.int .u8 0))).heap[p]? = _ := (heap_setCells_other (fun e => hne e.symm) _ _ _ h.raw.lt).trans h.raw.box
  refine ⟨⟨?_, by omega, by omega, by omega⟩, ?_, hlt, Bytes.of3 h.bytes.mid.1 (bytes_append h.bytes.mid.2.1 (Bytes.zeros _)) (h.bytes.mid.2.2.drop _), by omega, by omega, hm⟩
  · rw [Go.heap_setCell_same _ p 3 _ _ _ (Go.heap_setCell_same _ p 2 _ _ _ hp1), e1, e2]
    rw [show A.length + (B.length + k) + (D.length - k) = A.length + B.length + D.length by omega, show ((A.length + (B.length + k) : Nat) : Int) = (A.length : Int) + B.length + k by omega]
    simp
  · rw [Below.heap_setCell _ _ _ _ hne, Below.heap_setCell _ _ _ _ hne, heap_setCells _ _ _ _ _ _ h.row (by simp; omega)]
    congr 3
    have e5 : ((A ++ (B ++ D)).map (Value.int .u8)) = (A ++ B).map (Value.int .u8) ++ D.map (Value.int .u8) := by rw [← List.append_assoc, List.map_append]
    simp only [List.length_replicate]
    rw [e5, List.take_left' (by simp), ← List.drop_drop, List.drop_left' (by simp)]
    simp

set_option maxHeartbeats 1000000 in
theorem tail_any (p g : Nat) (A B D : List Int) (m : Nat) (n : Int) (w : World) (h : PkIs w p g A B D m) (hm : m + 1 ≤ 100000) :
    Calls Try.prog 35 #[.pointer (some ⟨p, 0, none⟩), .int .i64 n] w fun e w' => e = .returned (.int .i64 (mayE B.length n)) ∧ Moved w w' p g (tB n B) (tA B.length n A.length D.length) (tD B.length n D.length) (mM B.length n m) := by
  by_cases he : mayE B.length n = 0
  · have hb := may_zero.1 he
    unfold tB tA tD mM
    rw [if_pos he, if_pos he, if_pos he, if_pos he]
    have key := may_any p g A B D m n w h
    rw [he] at key ⊢
    have hall := h.all
    have hmost := h.most
    have H := Hid.mk' h
    clear h he
    by_cases hn : 0 < n
    · obtain ⟨k, rfl⟩ : ∃ k : Nat, n = k := ⟨n.toNat, by omega⟩
      rw [if_pos (by omega : (0 : Int) ≤ (k : Int))]
      by_cases hroom : (k : Int) > D.length
      · rw [if_pos hroom, if_pos hroom]
        go_enter Try.func35, Try.ntmps35
        go_wp2_with fail
        refine key.mono ?_
        rintro e w0 ⟨rfl, d0⟩
        have H0 := Hid.mk' (H.out.dr d0)
        have D0 := Hid.mk' d0
        obtain ⟨c0, c1, c2, c3, f1, f2, f3⟩ := H0.out.cells
        clear key d0
        go_wp2_with fail
        go_quiet (fail)
        have D1 : Hid (Dr w (w0.drewN nq)) := D0.out.more nq
        have H1 : Hid (PkIs (w0.drewN nq) p g A B D m) := H0.out.dr ⟨nq, rfl⟩
        generalize w0.drewN nq = w1 at *
        clear H0 D0
        go_wp2_with fail
        refine (anew_any p g A B D m 0 k w1 H1.out (by omega)).mono ?_
        rintro e w2 ⟨rfl, hP2, hK2⟩
        have H2 := Hid.mk' hP2
        have KK2 := Hid.mk' hK2
        have hsz : w1.heap.size = w.heap.size := by rw [D1.out.heap]
        have HSZ := Hid.mk' hsz
        clear c0 c1 c2 c3 f1 f2 f3 hP2 hK2 hsz
        obtain ⟨A2, hA2⟩ : ∃ A2, A2 = List.replicate (64 + 0) (0 : Int) := ⟨_, rfl⟩
        rw [← hA2] at H2
        have hl2 : A2.length ≤ 64 := by rw [hA2]; simp
        have hl2' : 64 ≤ A2.length := by rw [hA2]; simp
        clear hA2
        obtain ⟨g2, hg2⟩ : ∃ g2, g2 = w1.heap.size := ⟨_, rfl⟩
        rw [← hg2] at H2
        have HG2 := Hid.mk' hg2
        clear hg2
        obtain ⟨D2, hD2⟩ : ∃ D2, D2 = List.replicate (64 + k) (0 : Int) := ⟨_, rfl⟩
        rw [← hD2] at H2
        have hl3 : D2.length ≤ 64 + k := by rw [hD2]; simp
        have hl3' : 64 + k ≤ D2.length := by rw [hD2]; simp
        clear hD2
        obtain ⟨c0, c1, c2, c3, f1, f2, f3⟩ := H2.out.cells
        have HF := Hid.mk' (H2.out.tailPos k (by omega) (by omega) hm)
        have hrow2 := H2.out.row
        have hgp : ¬ g2 = p := by have := H2.out.lt; omega
        have hgp' : ¬ p = g2 := by have := H2.out.lt; omega
        have hm' : m ≤ 100000 := H2.out.mvs
        have wkey := wipe_yes p g2 (A2.length + B.length + D2.length) (A2.length + B.length) k w2 _ c0 hrow2 (by omega) (by simp; omega) (by omega) (by omega)
        rw [show ((A2.length + B.length : Nat) : Int) = (A2.length : Int) + B.length by omega] at wkey
        obtain ⟨W3, hW3⟩ : ∃ W3, W3 = w2.setCells g2 (A2.length + B.length) (List.replicate k (.int .u8 0)) := ⟨_, rfl⟩
        have hblk : W3.heap[p]? = w2.heap[p]? := by rw [hW3]; exact heap_setCells_other hgp' _ _ _ (lt_of_cell c2)
        have q2 : W3.cell? ⟨p, 2, none⟩ = some (.int .i64 ((A2.length : Int) + B.length)) := (World.cell?_of_block (w := w2) hblk).trans c2
        have q3 : W3.cell? ⟨p, 3, none⟩ = some (.int .i64 m) := (World.cell?_of_block (w := w2) hblk).trans c3
        have g2' : W3.frozen? ⟨p, 2, none⟩ = false := (World.frozen?_of_block (w := w2) (a := ⟨p, 2, none⟩) hblk).trans f2
        have g3' : W3.frozen? ⟨p, 3, none⟩ = false := (World.frozen?_of_block (w := w2) (a := ⟨p, 3, none⟩) hblk).trans f3
        have k3 : Kept (pkS p g) w W3 := by rw [hW3]; exact ((Kept.of_below (D1.out.below _)).trans KK2.out.pk).setCells _ _ _ (fun h => absurd h (by rw [HG2.out, HSZ.out]; exact Nat.lt_irrefl _))
        have HK : Hid (Kept (pkS p g) w ((W3.setCell ⟨p, 2, none⟩ (.int .i64 ((A2.length : Int) + B.length + k))).setCell ⟨p, 3, none⟩ (.int .i64 ((m : Int) + 1)))) := (k3.setCell (p := ⟨p, 2, none⟩) (fun _ => .inl rfl) _).setCell (p := ⟨p, 3, none⟩) (fun _ => .inl rfl) _
        rw [← hW3] at HF wkey
        clear hW3 hblk k3 hrow2 c0 c3 f1 f2 f3
        go_wp2_with fail
        refine wkey.mono ?_
        rintro e w4 ⟨rfl, hw4⟩
        rw [← hw4] at q2 q3 g2' g3' HF HK
        clear hw4 wkey c1 c2
        go_wp2_with fail
        go_ret
        exact ⟨rfl, g2, _, _, HF.out, by omega, by rw [List.length_drop]; omega, HK.out, .inr (by rw [HG2.out, HSZ.out]; exact Nat.le_refl _)⟩
      · rw [if_neg hroom, if_neg hroom]
        go_enter Try.func35, Try.ntmps35
        go_wp2_with fail
        refine key.mono ?_
        rintro e w0 ⟨rfl, d0⟩
        have H0 := Hid.mk' (H.out.dr d0)
        have D0 := Hid.mk' d0
        obtain ⟨c0, c1, c2, c3, f1, f2, f3⟩ := H0.out.cells
        clear key d0
        go_wp2_with fail
        go_quiet (fail)
        have D1 : Hid (Dr w (w0.drewN nq)) := D0.out.more nq
        have H2 : Hid (PkIs (w0.drewN nq) p g A B D m) := H0.out.dr ⟨nq, rfl⟩
        generalize w0.drewN nq = w2 at *
        clear H0 D0 c0 c1 c2 c3 f1 f2 f3
        have KK1 : Hid (Kept (pkS p g) w w2) := Kept.of_below (D1.out.below _)
        obtain ⟨c0, c1, c2, c3, f1, f2, f3⟩ := H2.out.cells
        have HF := Hid.mk' (H2.out.tailPos k (by omega) (by omega) hm)
        have hrow2 := H2.out.row
        have hgp : ¬ g = p := by have := H2.out.lt; omega
        have hgp' : ¬ p = g := by have := H2.out.lt; omega
        have hm' : m ≤ 100000 := H2.out.mvs
        have wkey := wipe_yes p g (A.length + B.length + D.length) (A.length + B.length) k w2 _ c0 hrow2 (by omega) (by simp; omega) (by omega) (by omega)
        rw [show ((A.length + B.length : Nat) : Int) = (A.length : Int) + B.length by omega] at wkey
        obtain ⟨W3, hW3⟩ : ∃ W3, W3 = w2.setCells g (A.length + B.length) (List.replicate k (.int .u8 0)) := ⟨_, rfl⟩
        have hblk : W3.heap[p]? = w2.heap[p]? := by rw [hW3]; exact heap_setCells_other hgp' _ _ _ (lt_of_cell c2)
        have q2 : W3.cell? ⟨p, 2, none⟩ = some (.int .i64 ((A.length : Int) + B.length)) := (World.cell?_of_block (w := w2) hblk).trans c2
        have q3 : W3.cell? ⟨p, 3, none⟩ = some (.int .i64 m) := (World.cell?_of_block (w := w2) hblk).trans c3
        have g2' : W3.frozen? ⟨p, 2, none⟩ = false := (World.frozen?_of_block (w := w2) (a := ⟨p, 2, none⟩) hblk).trans f2
        have g3' : W3.frozen? ⟨p, 3, none⟩ = false := (World.frozen?_of_block (w := w2) (a := ⟨p, 3, none⟩) hblk).trans f3
        have k3 : Kept (pkS p g) w W3 := by rw [hW3]; exact (KK1.out).setCells _ _ _ (fun _ => .inr rfl)
        have HK : Hid (Kept (pkS p g) w ((W3.setCell ⟨p, 2, none⟩ (.int .i64 ((A.length : Int) + B.length + k))).setCell ⟨p, 3, none⟩ (.int .i64 ((m : Int) + 1)))) := (k3.setCell (p := ⟨p, 2, none⟩) (fun _ => .inl rfl) _).setCell (p := ⟨p, 3, none⟩) (fun _ => .inl rfl) _
        rw [← hW3] at HF wkey
        clear hW3 hblk k3 hrow2 c0 c3 f1 f2 f3
        go_wp2_with fail
        refine wkey.mono ?_
        rintro e w4 ⟨rfl, hw4⟩
        rw [← hw4] at q2 q3 g2' g3' HF HK
        clear hw4 wkey c1 c2
        go_wp2_with fail
        go_ret
        exact ⟨rfl, g, _, _, HF.out, rfl, by rw [List.length_drop]; omega, HK.out, .inl rfl⟩
    · obtain ⟨k, rfl⟩ : ∃ k : Nat, n = -(k : Int) := ⟨(-n).toNat, by omega⟩
      have hroom : ¬ (-(k : Int) > D.length) := by omega
      rw [if_neg hroom, if_neg hroom]
      have hBeq : (if 0 ≤ -(k : Int) then B ++ List.replicate (-(k : Int)).toNat 0 else B.take ((B.length : Int) + -(k : Int)).toNat) = B.take (B.length - k) := by
        by_cases hk : k = 0
        · subst hk; simp
        · rw [if_neg (by omega), show ((B.length : Int) + -(k : Int)).toNat = B.length - k by omega]
      rw [hBeq]
      clear hBeq
      go_enter Try.func35, Try.ntmps35
      go_wp2_with fail
      refine key.mono ?_
      rintro e w0 ⟨rfl, d0⟩
      have H0 := Hid.mk' (H.out.dr d0)
      have D0 := Hid.mk' d0
      obtain ⟨c0, c1, c2, c3, f1, f2, f3⟩ := H0.out.cells
      clear key d0
      go_wp2_with fail
      go_quiet (fail)
      have D1 : Hid (Dr w (w0.drewN nq)) := D0.out.more nq
      have H2 : Hid (PkIs (w0.drewN nq) p g A B D m) := H0.out.dr ⟨nq, rfl⟩
      generalize w0.drewN nq = w2 at *
      clear H0 D0 c0 c1 c2 c3 f1 f2 f3
      have KK1 : Hid (Kept (pkS p g) w w2) := Kept.of_below (D1.out.below _)
      obtain ⟨c0, c1, c2, c3, f1, f2, f3⟩ := H2.out.cells
      have hm' : m ≤ 100000 := H2.out.mvs
      have HF := Hid.mk' (H2.out.tailNeg k (by omega) hm)
      have HK : Hid (Kept (pkS p g) w ((w2.setCell ⟨p, 2, none⟩ (.int .i64 ((A.length : Int) + B.length - k))).setCell ⟨p, 3, none⟩ (.int .i64 ((m : Int) + 1)))) := (KK1.out.setCell (p := ⟨p, 2, none⟩) (fun _ => .inl rfl) _).setCell (p := ⟨p, 3, none⟩) (fun _ => .inl rfl) _
      have hsub : (A.length : Int) + B.length + -(k : Int) = (A.length : Int) + B.length - k := by omega
      rw [← hsub] at HF HK
      clear hsub
      go_wp2_with fail
      refine (wipe_no p _ (-(k : Int)) _ (by omega)).mono ?_
      rintro e w3 ⟨rfl, rfl⟩
      go_wp2_with fail
      go_ret
      exact ⟨rfl, g, _, _, HF.out, rfl, by rw [List.length_append, List.length_drop]; omega, HK.out, .inl rfl⟩
  · unfold tB tA tD mM
    rw [if_neg he, if_neg he, if_neg he, if_neg he]
    have key := may_any p g A B D m n w h
    have HE := Hid.mk' he
    have hne : (mayE B.length n != 0) = true := by simpa using he
    clear he
    generalize mayE B.length n = E at *
    have H := Hid.mk' h
    clear h
    go_enter Try.func35, Try.ntmps35
    go_wp2_with fail
    refine key.mono ?_
    rintro e w1 ⟨rfl, d1⟩
    clear key
    go_wp2_with fail
    go_ret
    exact ⟨rfl, g, A, D, H.out.dr d1, rfl, rfl, Kept.of_below (d1.below _), .inl rfl⟩
end Go.Proofs.Ytbinedhgjmfceaa
