/- The walk of InsnUses. -/
import Derived.Test.YtmiiddkpmfiocaaIm
import Derived.Test.YtmiiddkpmfiocaaIj
namespace Go.Proofs.Ytmiiddkpmfiocaa
open Go.ChangeShapes Go.WideShapes Go.ChangeAt Go.RowKit
set_option maxRecDepth 10000

theorem rdL_len (b : Bool) (p d s i : Int) : (rdL b p d s i).length ≤ 3 := by
  unfold rdL
  cases b
  · simp
  · rw [if_pos rfl]
    unfold rdN
    split
    · simp
    · split
      · rw [List.length_take]; simp; omega
      · split
        · split
          · have := (two_len d s).1; omega
          · simp
        · split <;> simp

theorem Iw.setCell {w : World} {base : Nat} {v : Value} {zs : List Int} (h : Iw w base v zs) (g o : Nat) (u : Value) (hg : g < base) : Iw (w.setCell ⟨g, o, none⟩ u) base v zs := by
  obtain ⟨a, c, rfl, hl⟩ := h.lies
  refine ⟨a, c, rfl, ?_⟩
  rcases hl with h0 | ⟨k, off, rfl, h1, h2, h3, h4⟩
  · exact .inl h0
  · refine .inr ⟨k, off, rfl, h1, by simpa [World.setCell] using h2, h3, fun j hj => ?_⟩
    obtain ⟨e1, e2⟩ := h4 j hj
    refine ⟨?_, by rw [World.frozen?_setCell]; exact e2⟩
    rw [World.cell?_setCell_other _ _ _ _ (by simp <;> omega)]
    exact e1

/-- A row that may be written: its cells are there, and not frozen. -/
def Wr (w : World) (g o n : Nat) : Prop := ∀ k, k < n → (∃ x, w.cell? ⟨g, o + k, none⟩ = some x) ∧ w.frozen? ⟨g, o + k, none⟩ = false
theorem Wr.set {w : World} {g o n : Nat} (h : Wr w g o n) (j : Nat) (hj : j < n) (u : Value) : Wr (w.setCell ⟨g, o + j, none⟩ u) g o n := by
  intro k hk
  obtain ⟨⟨x, h1⟩, h2⟩ := h k hk
  refine ⟨?_, by rw [World.frozen?_setCell]; exact h2⟩
  by_cases e : k = j
  · subst e; exact ⟨u, World.cell?_setCell_same _ _ _ h1⟩
  · exact ⟨x, by rw [World.cell?_setCell_other _ _ _ _ (by simp <;> omega)]; exact h1⟩

set_option maxHeartbeats 4000000 in
theorem uses_ints (p d s o i : Int) (W : World) (h : InB p d s o i) : Calls Try.prog 5 #[insV p d s o i] W fun e w' => e = .returned (.bool true) ∧ Below W.heap.size W w' := by
  have e := may_same p d s o i h.d0 h.s0
  have K1 := fun u => reads_any p d s o i u h
  have K2 := fun u => rreads_any p d s o i u h
  have K3 := fun u => writes_any p d s o i u h
  have K4 := fun u => rwrites_any p d s o i u h
  rw [← e] at K2 K4
  have hL := rdL_len (mayB p d s o i) p d s i
  generalize mayB p d s o i = b at *
  generalize rdL b p d s i = L at *
  generalize wrN b p d = N at *
  generalize wrB b p = B at *
  have K1 := Hid.mk' K1
  have K2 := Hid.mk' K2
  have K3 := Hid.mk' K3
  have K4 := Hid.mk' K4
  clear e h
  obtain ⟨n, hn⟩ : ∃ n, Hid (L.length = n) := ⟨_, Hid.mk' rfl⟩
  have hnl : n ≤ 3 := by rw [← hn.out]; exact hL
  have HL := Hid.mk' (show L.length ≤ 1000 by omega)
  clear hL
  go_enter Try.func5, Try.ntmps5
  go_wp2_with fail
  obtain ⟨W1, hW1⟩ : ∃ W1, Hid (W.alloc (.cells #[.int .u8 p, .int .u8 d, .int .u8 s, .int .i16 o, .int .i32 i] 24) = W1) := ⟨_, Hid.mk' rfl⟩
  have bW : Below W1.heap.size (W.alloc (.cells #[.int .u8 p, .int .u8 d, .int .u8 s, .int .i16 o, .int .i32 i] 24)) W1 := by rw [hW1.out]; exact Below.refl _ _
  have bW' : Below (W.alloc (.cells #[.int .u8 p, .int .u8 d, .int .u8 s, .int .i16 o, .int .i32 i] 24)).heap.size (W.alloc (.cells #[.int .u8 p, .int .u8 d, .int .u8 s, .int .i16 o, .int .i32 i] 24)) W1 := by rw [hW1.out]; exact Below.refl _ _
  obtain ⟨B1, c0, c1, c2, c3, c4⟩ := cells5 bW'
  have h1 : W.heap.size < W1.heap.size := by rw [← hW1.out]; simp
  clear bW bW'
  rw [hW1.out]
  clear hW1
  have CO : Hid (∀ u, Below W1.heap.size W1 u → u.cell? ⟨W.heap.size, 0, none⟩ = some (.int .u8 p) ∧ u.cell? ⟨W.heap.size, 1, none⟩ = some (.int .u8 d) ∧ u.cell? ⟨W.heap.size, 2, none⟩ = some (.int .u8 s) ∧ u.cell? ⟨W.heap.size, 3, none⟩ = some (.int .i16 o) ∧ u.cell? ⟨W.heap.size, 4, none⟩ = some (.int .i32 i)) := Hid.mk' (fun u hb =>
    ⟨(hb.cell (p := ⟨W.heap.size, 0, none⟩) h1).trans c0, (hb.cell (p := ⟨W.heap.size, 1, none⟩) h1).trans c1, (hb.cell (p := ⟨W.heap.size, 2, none⟩) h1).trans c2, (hb.cell (p := ⟨W.heap.size, 3, none⟩) h1).trans c3, (hb.cell (p := ⟨W.heap.size, 4, none⟩) h1).trans c4⟩)
  have B1 := Hid.mk' B1
  go_region_held3 (fun w' => w'.cell? ⟨W.heap.size, 0, none⟩ = some (.int .u8 p) ∧ w'.cell? ⟨W.heap.size, 1, none⟩ = some (.int .u8 d) ∧ w'.cell? ⟨W.heap.size, 2, none⟩ = some (.int .u8 s) ∧ w'.cell? ⟨W.heap.size, 3, none⟩ = some (.int .i16 o) ∧ w'.cell? ⟨W.heap.size, 4, none⟩ = some (.int .i32 i)) (go_keep) (first
    | (go_at_call 16; refine (K1.out W1.drew).mono ?_; rintro e w2 ⟨va, rfl, Ia0, b2⟩; have Ia := Hid.mk' Ia0; have J2 := Hid.mk' (((Below.refl W1.heap.size W1).drew).trans b2); have r2 := CO.out _ J2.out; clear b2 Ia0)
    | (go_at_call 16; refine (K1.out w2).mono ?_; rintro e w3 ⟨vb, rfl, Ib0, b3⟩; have Ib := Hid.mk' Ib0; have Ja := Hid.mk' (Ia.out.below b3); have hs3 := b3.size; have J3 := Hid.mk' (J2.out.trans (b3.mono J2.out.size)); have r3 := CO.out _ J3.out; clear b3 Ib0))
  have r3 := CO.out _ J3.out
  obtain ⟨c0, c1, c2, c3, c4⟩ := r3
  have hs1 := J3.out.size
  go_wp2_with fail
  refine (K2.out w3).mono ?_
  rintro e w4 ⟨vw, rfl, Iw4, b4⟩
  have J4 := Hid.mk' (J3.out.trans (b4.mono hs1))
  have Ja4 := Hid.mk' (Ja.out.below b4)
  have Ib4 := Hid.mk' (Ib.out.below b4)
  have Iw4 := Hid.mk' Iw4
  have hs4 := b4.size
  obtain ⟨c0, c1, c2, c3, c4⟩ := CO.out _ J4.out
  clear b4 J3 Ja Ib
  go_wp2_with fail
  refine (K3.out w4).mono ?_
  rintro e w5 ⟨rfl, b5⟩
  have J5 := Hid.mk' (J4.out.trans (b5.mono (by omega)))
  have Ja5 := Hid.mk' (Ja4.out.below b5)
  have Ib5 := Hid.mk' (Ib4.out.below b5)
  have Iw5 := Hid.mk' (Iw4.out.below b5)
  have hs5 := b5.size
  obtain ⟨c0, c1, c2, c3, c4⟩ := CO.out _ J5.out
  clear b5 J4 Ja4 Ib4 Iw4
  go_wp2_with fail
  refine (K4.out w5).mono ?_
  rintro e w6 ⟨rfl, b6⟩
  have J6 := Hid.mk' (J5.out.trans (b6.mono (by omega)))
  have Ja6 := Hid.mk' (Ja5.out.below b6)
  have Ib6 := Hid.mk' (Ib5.out.below b6)
  have Iw6 := Hid.mk' (Iw5.out.below b6)
  have hs6 := b6.size
  clear b6 J5 Ja5 Ib5 Iw5
  have hs2 := J2.out.size
  have HA : ∃ a ca, va = .slice a n ca ∧ (n = 0 ∨ ∃ g o, a = some ⟨g, o, none⟩ ∧ W1.heap.size ≤ g ∧ g < w2.heap.size ∧ Hid (Wr w6 g o n)) := by
    obtain ⟨a, ca, rfl, hl⟩ := Ia.out.lies
    refine ⟨a, ca, by rw [hn.out], ?_⟩
    rcases hl with h0 | ⟨g, o, rfl, g1, g2, g3, g4⟩
    · exact .inl (by rw [← hn.out, h0]; rfl)
    · refine .inr ⟨g, o, rfl, g1, g2, Hid.mk' (fun k hk => ?_)⟩
      obtain ⟨a', c', ee, hl⟩ := Ja6.out.lies
      cases ee
      rcases hl with h0 | ⟨g', o', ee, g1, g2, g3, g4⟩
      · rw [h0] at hn; have := hn.out; simp at this; omega
      · cases ee
        have := g4 k (by simpa [hn.out] using hk)
        exact ⟨⟨_, this.1⟩, this.2⟩
  obtain ⟨a, ca, rfl, HA⟩ := HA
  go_wp2_with fail
  refine (eqi_any w6 _ _ _ vw L Ja6.out Iw6.out HL.out).mono ?_
  rintro e w7 ⟨rfl, b7⟩
  have J7 := Hid.mk' (J6.out.trans (b7.mono (by omega)))
  have Ib7 := Hid.mk' (Ib6.out.below b7)
  have Iw7 := Hid.mk' (Iw6.out.below b7)
  have HA7 : n = 0 ∨ ∃ g o, a = some ⟨g, o, none⟩ ∧ W1.heap.size ≤ g ∧ g < w2.heap.size ∧ Hid (Wr w7 g o n) := by
    rcases HA with h0 | ⟨g, o, rfl, g1, g2, g3⟩
    · exact .inl h0
    · refine .inr ⟨g, o, rfl, g1, g2, Hid.mk' (fun k hk => ?_)⟩
      obtain ⟨⟨x, e1⟩, e2⟩ := g3.out k hk
      exact ⟨⟨x, (b7.cell (p := ⟨g, o + k, none⟩) (by simp; omega)).trans e1⟩, (b7.frozen (p := ⟨g, o + k, none⟩) (by simp; omega)).trans e2⟩
  have hs7 := b7.size
  clear b7 J6 Ja6 Ib6 Iw6 HA c0 c1 c2 c3 c4
  rcases HA7 with h0 | ⟨g, o, rfl, g1, g2, HW⟩
  · subst h0
    go_wp2_with fail
    refine wp_loop_rounds 1 ?_
    rw [rounds_succ]
    go_wp2_with fail
    refine (eqi_any w7 _ _ vb vw L Ib7.out Iw7.out HL.out).mono ?_
    rintro e w8 ⟨rfl, b8⟩
    go_wp2_with fail
    refine (works_any w8).mono ?_
    rintro e w9 ⟨rfl, b9⟩
    go_wp2_with fail
    go_ret
    exact ⟨rfl, B1.out.trans ((J7.out.trans ((b8.trans (b9.mono b8.size)).mono (by omega))).mono (by omega))⟩
  · go_wp2_with fail
    go_loopw [10] (fun i wr => ∃ k : Nat, k ≤ n ∧ i = .int .i64 k ∧ Hid (Wr wr g o n) ∧ Hid (Iw wr w2.heap.size vb L) ∧ Hid (Iw wr w3.heap.size vw L) ∧ Hid (Below W1.heap.size W1 wr)) (fun i _ => n - (intOf i).toNat)
    case atStart => exact ⟨0, Nat.zero_le _, rfl, HW, Ib7, Iw7, J7⟩
    case round =>
      obtain ⟨k, hk, rfl, HR, HB, HC, HJ⟩ := hrel
      by_cases hlt : k < n
      · obtain ⟨⟨x, e1⟩, e2⟩ := HR.out k hlt
        have hsp : (k : Int) < (n : Int) := by omega
        go_wp2_with fail
        go_roundw
        case rel => exact ⟨k + 1, hlt, by go_num, Hid.mk' (HR.out.set k hlt _), Hid.mk' (HB.out.setCell g (o + k) _ g2), Hid.mk' (HC.out.setCell g (o + k) _ (by omega)), Hid.mk' (HJ.out.setCell (p := ⟨g, o + k, none⟩) g1 _)⟩
        case measure => simp [intOf]; omega
      · have hsp : ¬ (k : Int) < (n : Int) := by omega
        go_wp2_with fail
        refine (eqi_any wr _ _ vb vw L HB.out HC.out HL.out).mono ?_
        rintro e w8 ⟨rfl, b8⟩
        go_wp2_with fail
        refine (works_any w8).mono ?_
        rintro e w9 ⟨rfl, b9⟩
        go_wp2_with fail
        go_ret
        have := HJ.out.size
        exact ⟨rfl, B1.out.trans ((HJ.out.trans ((b8.trans (b9.mono b8.size)).mono (by omega))).mono (by omega))⟩

theorem walkInsnUses (m0 : sh24.M) (W : World) (o0 : sh24.ok W m0) : Calls Try.prog 5 #[.agg (sh24.cs m0).toArray] W fun e w' => e = .returned (.bool true) ∧ Below W.heap.size W w' := by
  obtain ⟨p, d, s, o, i⟩ := m0
  exact uses_ints p d s o i W (inB_of o0)
end Go.Proofs.Ytmiiddkpmfiocaa
