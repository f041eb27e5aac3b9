/- The document's Shown. -/
import Derived.Test.YtagnaefpkgekmaaCh
import Derived.Test.YtagnaefpkgekmaaCl
namespace Go.Proofs.Ytagnaefpkgekmaa
open Go.ChangeShapes Go.WideShapes Go.ChangeAt Go.RowKit Go.Maps Go.Sort Go.Shelf
set_option maxRecDepth 10000

/-- Two values in boxes, a third one in a box of its own. -/
structure V3 (w W : World) (a b : Vl) (q : Nat) (p : Vl) : Prop where
  two : V2 w W a b
  lt : q < W.heap.size
  p3 : W.cell? ⟨q, 3, none⟩ = some (.int .i64 p.id)
  p4 : W.cell? ⟨q, 4, none⟩ = some (.int .i64 p.off)
theorem V3.below {w W W' : World} {a b p : Vl} {q : Nat} (h : V3 w W a b q p) (hb : Below W.heap.size W W') : V3 w W' a b q p :=
  ⟨h.two.below hb, Nat.lt_of_lt_of_le h.lt hb.size, (hb.cell h.lt).trans h.p3, (hb.cell h.lt).trans h.p4⟩

/-- A box of five cells. -/
def Bx5 (W : World) (q : Nat) (t : TypeId) (x : Vl) : Prop := W.heap[q]? = some (.cells #[.int .u8 x.k, .int .u64 x.mi, .int .u64 x.ma, .int .i64 x.id, .int .i64 x.off] t (0, 0))
theorem bx5_new (w : World) (t : TypeId) (x : Vl) : Bx5 (w.alloc (.cells #[.int .u8 x.k, .int .u64 x.mi, .int .u64 x.ma, .int .i64 x.id, .int .i64 x.off] t)) w.heap.size t x := World.alloc_heap_new w _
theorem Bx5.below {W W' : World} {q : Nat} {t : TypeId} {x : Vl} (h : Bx5 W q t x) (hb : Below W.heap.size W W') : Bx5 W' q t x := (hb.block q (Array.getElem?_eq_some_iff.1 h).1).trans h
theorem Bx5.lt {W : World} {q : Nat} {t : TypeId} {x : Vl} (h : Bx5 W q t x) : q < W.heap.size := (Array.getElem?_eq_some_iff.1 h).1
theorem Bx5.cell {W : World} {q : Nat} {t : TypeId} {x : Vl} (h : Bx5 W q t x) (i : Nat) : W.cell? ⟨q, i, none⟩ = #[Value.int .u8 x.k, .int .u64 x.mi, .int .u64 x.ma, .int .i64 x.id, .int .i64 x.off][i]? := Go.cell_of_row W q i _ _ _ h
theorem Bx5.frozen {W : World} {q : Nat} {t : TypeId} {x : Vl} (h : Bx5 W q t x) (i : Nat) : W.frozen? ⟨q, i, none⟩ = false := by simp [World.frozen?, show W.heap[q]? = _ from h]

theorem V2.kept {S : Nat → Prop} {w W W' : World} {a b : Vl} (h : V2 w W a b) (hk : Kept S W W') (h0 : ∀ j, j ≤ w.heap.size + 1 → ¬ S j) : V2 w W' a b := by
  have hs := h.size
  have f : ∀ {p : Addr} {v : Value}, p.block ≤ w.heap.size + 1 → W.cell? p = some v → W'.cell? p = some v := fun hp hc => hk.cell hc (h0 _ hp)
  exact ⟨h.old.trans (hk.below h.old.size (fun j hj => h0 j (by omega))), Nat.lt_of_lt_of_le hs hk.size, f (Nat.le_succ _) h.a0, f (Nat.le_succ _) h.a1, f (Nat.le_succ _) h.a2, f (Nat.le_succ _) h.a3, f (Nat.le_succ _) h.a4, f (Nat.le_refl _) h.b0, f (Nat.le_refl _) h.b1, f (Nat.le_refl _) h.b2, f (Nat.le_refl _) h.b3, f (Nat.le_refl _) h.b4⟩
/-- The third box is written over. -/
theorem v3_set {w W : World} {a b : Vl} {q : Nat} {t : TypeId} {x : Vl} (h : V2 w W a b) (hq : w.heap.size + 1 < q) (hx : Bx5 W q t x) (y : Vl) :
    V3 w (W.setCells q 0 [.int .u8 y.k, .int .u64 y.mi, .int .u64 y.ma, .int .i64 y.id, .int .i64 y.off]) a b q y := by
  have e := heap_setCells q t [.int .u8 y.k, .int .u64 y.mi, .int .u64 y.ma, .int .i64 y.id, .int .i64 y.off] 0 W _ hx (by simp)
  have e5 : Bx5 (W.setCells q 0 [.int .u8 y.k, .int .u64 y.mi, .int .u64 y.ma, .int .i64 y.id, .int .i64 y.off]) q t y := by
    unfold Bx5
    rw [e]
    simp
  have hk : Kept (fun j => j = q) W (W.setCells q 0 [.int .u8 y.k, .int .u64 y.mi, .int .u64 y.ma, .int .i64 y.id, .int .i64 y.off]) := Kept.setCells (Kept.refl _ _) q 0 _ (fun _ => rfl)
  exact ⟨h.kept hk (fun j hj e => by omega), e5.lt, e5.cell 3, e5.cell 4⟩
theorem v3_of {w W : World} {a b : Vl} {q : Nat} {t : TypeId} {x : Vl} (h : V2 w W a b) (hx : Bx5 W q t x) : V3 w W a b q x := ⟨h, hx.lt, hx.cell 3, hx.cell 4⟩

set_option maxHeartbeats 4000000 in
theorem rshown_any (v : Value) (l : List Kn) (op : Int) (yes : Bool) (a b : Vl) (w : World) (h : Ks w v l) (h0 : 0 ≤ op) (h1 : op ≤ 255) (ha : a.In) (hb : b.In) :
    Calls Try.prog 27 #[v, .int .u8 op, .bool yes, a.v, b.v] w fun e w' => Ans w w' e (shN l op yes a b) ∧ Below w.heap.size w w' := by
  have KC := fun u hu => rcheck_any v l u hu
  have HV := Hid.mk' h
  have KPA := fun u => rpointer_any a u ha
  have KPB := fun u => rpointer_any b u hb
  have KEA := fun u => rend_any a u ha
  have KEB := fun u => rend_any b u hb
  have KPR := fun id n u hu => rprove_any v l id n u hu
  have KT := fun u hu ho => table_any v l u hu ho
  have HPA := Hid.mk' (isPt_iff a)
  have HPB := Hid.mk' (isPt_iff b)
  have HPE := Hid.mk' (@pt_en a)
  have HPF := Hid.mk' (@pt_en b)
  have HOC := Hid.mk' (@or_cases op)
  have HOI : Hid (isOr op = (decide (29 ≤ op) && decide (op ≤ 32))) := Hid.mk' rfl
  have HSA : Hid (saN l op yes true a = if sayN op yes true = 0 then (nf (byN l), 0) else pvN l a.id (a.off + sayN op yes true - 1)) := Hid.mk' rfl
  have HSB : Hid (saN l op yes false b = if sayN op yes false = 0 then (nf (byN l), 0) else pvN l b.id (b.off + sayN op yes false - 1)) := Hid.mk' rfl
  have HV2 := fun u => v2_new u a b 39 39
  have HN5 := fun u => bx5_new u 39 a
  have HFN : Hid (ckN l = 0 → okF (-1) l = true) := Hid.mk' (fun e => (ck_fn e).1)
  obtain ⟨R, hR⟩ : ∃ R, Hid (shN l op yes a b = R) := ⟨_, rfl⟩
  have HR : Hid (R = if ckN l = 0 then (if isOr op = true then
    (if isPt a = true then (if isEn b = true then saN l op yes true a else ([], 171))
     else if isEn a = true then (if isPt b = true then saN l op yes false b else ([], 171)) else ([], 171)) else ([], 2)) else ([], ckN l)) := Hid.mk' (by rw [← hR.out]; rfl)
  rw [hR.out]
  clear hR h
  generalize ckN l = E at *
  generalize isPt a = PA at *
  generalize isPt b = PB at *
  generalize isEn a = EA at *
  generalize isEn b = EB at *
  generalize isOr op = OR at *
  generalize saN l op yes true a = SA at *
  generalize saN l op yes false b = SB at *
  obtain ⟨k, mi, ma, id, vo⟩ := a
  obtain ⟨k', mi', ma', id', vo'⟩ := b
  obtain ⟨⟨k0, k1⟩, ⟨m0, m1⟩, ⟨n0, n1⟩, ⟨i0, i1⟩, ⟨v0, v1⟩⟩ := ha
  obtain ⟨⟨p0, p1⟩, ⟨q0, q1⟩, ⟨r0, r1⟩, ⟨s0, s1⟩, ⟨t0, t1⟩⟩ := hb
  simp only at k0 k1 m0 m1 n0 n1 i0 i1 v0 v1 p0 p1 q0 q1 r0 r1 s0 s1 t0 t1 HPA HPB HV2 HN5 HSA HSB
  have KPA : ∀ u, Calls Try.prog 45 #[.agg #[.int .u8 k, .int .u64 mi, .int .u64 ma, .int .i64 id, .int .i64 vo]] u fun e w' => e = .returned (.bool PA) ∧ Below u.heap.size u w' := KPA
  have KPB : ∀ u, Calls Try.prog 45 #[.agg #[.int .u8 k', .int .u64 mi', .int .u64 ma', .int .i64 id', .int .i64 vo']] u fun e w' => e = .returned (.bool PB) ∧ Below u.heap.size u w' := KPB
  have KEA : ∀ u, Calls Try.prog 51 #[.agg #[.int .u8 k, .int .u64 mi, .int .u64 ma, .int .i64 id, .int .i64 vo]] u fun e w' => e = .returned (.bool EA) ∧ Below u.heap.size u w' := KEA
  have KEB : ∀ u, Calls Try.prog 51 #[.agg #[.int .u8 k', .int .u64 mi', .int .u64 ma', .int .i64 id', .int .i64 vo']] u fun e w' => e = .returned (.bool EB) ∧ Below u.heap.size u w' := KEB
  unfold Vl.v
  simp only
  go_enter Try.func27, Try.ntmps27
  go_wp2_with fail
  have J0 := Hid.mk' (HV2 w)
  clear HV2
  refine (KC _ (HV.out.below J0.out.old)).mono ?_
  rintro e w1 ⟨rfl, b1⟩
  have J1 := Hid.mk' (J0.out.below b1)
  clear b1 KC J0
  by_cases hE : E = 0
  · subst hE
    cases OR with
    | false =>
      have HRE : Hid (R = ([], 2)) := Hid.mk' (by rw [HR.out]; simp)
      have hno : ¬ (29 ≤ op ∧ op ≤ 32) := by
        intro q
        have := HOI.out
        rw [decide_eq_true q.1, decide_eq_true q.2] at this
        cases this
      by_cases g1 : op < 29
      · go_wp2_with fail
        go_ret2
        rw [HRE.out]
        exact ⟨ans_none _ _ _, J1.out.old⟩
      · have g2 : 32 < op := by omega
        go_wp2_with fail
        go_ret2
        rw [HRE.out]
        exact ⟨ans_none _ _ _, J1.out.old⟩
    | true =>
      have hop := HOC.out (by trivial)
      have HOP := Hid.mk' hop
      have g1 : ¬ op < 29 := by omega
      have g2 : ¬ 32 < op := by omega
      have HOK := Hid.mk' (HFN.out (by trivial))
      clear hop HOC HOI HFN
      have x0 := J1.out.a0
      have x1 := J1.out.a1
      have x2 := J1.out.a2
      have x3 := J1.out.a3
      have x4 := J1.out.a4
      have y0 := J1.out.b0
      have y1 := J1.out.b1
      have y2 := J1.out.b2
      have y3 := J1.out.b3
      have y4 := J1.out.b4
      have hsz1 := J1.out.size
      go_wp2_with fail
      have N0 := Hid.mk' (HN5 w1)
      have J2 := Hid.mk' (J1.out.below ((Below.refl _ _).alloc (Nat.le_refl _) (.cells #[.int .u8 k, .int .u64 mi, .int .u64 ma, .int .i64 id, .int .i64 vo] 39)))
      obtain ⟨q, hq⟩ : ∃ q, Hid (w1.heap.size = q) := ⟨_, rfl⟩
      have HQ : Hid (w.heap.size + 1 < q) := Hid.mk' (by rw [← hq.out]; exact hsz1)
      rw [hq.out] at N0
      refine (KPB _).mono ?_
      rintro e w2 ⟨rfl, b2⟩
      rw [hq.out]
      have J3 := Hid.mk' (J2.out.below b2)
      have N3 := Hid.mk' (N0.out.below b2)
      clear b2 x0 x1 x2 x3 x4 y0 y1 y2 y3 y4 J1 J2 N0 HN5 hsz1
      cases PB with
      | true =>
        have f0 := N3.out.cell 0
        have f1 := N3.out.cell 1
        have f2 := N3.out.cell 2
        have f3 := N3.out.cell 3
        have f4 := N3.out.cell 4
        have g3 := N3.out.frozen 0
        have g4 := N3.out.frozen 1
        have g5 := N3.out.frozen 2
        have g6 := N3.out.frozen 3
        have g7 := N3.out.frozen 4
        simp at f0 f1 f2 f3 f4
        have x0 := J3.out.a0
        have x1 := J3.out.a1
        have x2 := J3.out.a2
        have x3 := J3.out.a3
        have x4 := J3.out.a4
        have y0 := J3.out.b0
        have y1 := J3.out.b1
        have y2 := J3.out.b2
        have y3 := J3.out.b3
        have y4 := J3.out.b4
        have hpe := HPF.out (by trivial)
        subst hpe
        have hqw : ¬ q = w.heap.size := by have := HQ.out; omega
        have hqw1 : ¬ q = w.heap.size + 1 := by have := HQ.out; omega
        have hqw' : ¬ w.heap.size = q := by have := HQ.out; omega
        have hqw1' : ¬ w.heap.size + 1 = q := by have := HQ.out; omega
        have J4 := Hid.mk' (v3_set J3.out HQ.out N3.out ⟨k', mi', ma', id', vo'⟩)
        go_wp2_with fail
        refine (KPA _).mono ?_
        rintro e w3 ⟨rfl, bw3⟩
        have J5 := Hid.mk' (J4.out.below bw3)
        clear bw3
        clear f0 f1 f2 f3 f4 g3 g4 g5 g6 g7 x0 x1 x2 x3 x4 y0 y1 y2 y3 y4 hqw hqw1 hqw' hqw1' J3 J4 N3
        cases PA with
        | true =>
          have hpa := HPE.out (by trivial)
          subst hpa
          have x0 := J5.out.two.b0
          have x1 := J5.out.two.b1
          have x2 := J5.out.two.b2
          have x3 := J5.out.two.b3
          have x4 := J5.out.two.b4
          go_wp2_with fail
          refine (KEB _).mono ?_
          rintro e w4 ⟨rfl, bw4⟩
          have J6 := Hid.mk' (J5.out.below bw4)
          clear bw4
          clear x0 x1 x2 x3 x4
          have x0 := J6.out.two.a0
          have x1 := J6.out.two.a1
          have x2 := J6.out.two.a2
          have x3 := J6.out.two.a3
          have x4 := J6.out.two.a4
          go_wp2_with fail
          refine (KEA _).mono ?_
          rintro e w5 ⟨rfl, bw5⟩
          have J8 := Hid.mk' (J6.out.below bw5)
          clear bw5
          clear x0 x1 x2 x3 x4
          have HRF : Hid (R = ([], 171)) := Hid.mk' (by rw [HR.out]; simp)
          go_wp2_with fail
          go_ret2
          rw [HRF.out]
          exact ⟨ans_none _ _ _, J8.out.two.old⟩
        | false =>
          have x0 := J5.out.two.a0
          have x1 := J5.out.two.a1
          have x2 := J5.out.two.a2
          have x3 := J5.out.two.a3
          have x4 := J5.out.two.a4
          go_wp2_with fail
          refine (KEA _).mono ?_
          rintro e w4 ⟨rfl, bw4⟩
          have J6 := Hid.mk' (J5.out.below bw4)
          clear bw4
          clear x0 x1 x2 x3 x4
          cases EA with
          | false =>
            have HRF : Hid (R = ([], 171)) := Hid.mk' (by rw [HR.out]; simp)
            go_wp2_with fail
            go_ret2
            rw [HRF.out]
            exact ⟨ans_none _ _ _, J6.out.two.old⟩
          | true =>
            have x0 := J6.out.two.b0
            have x1 := J6.out.two.b1
            have x2 := J6.out.two.b2
            have x3 := J6.out.two.b3
            have x4 := J6.out.two.b4
            go_wp2_with fail
            refine (KPB _).mono ?_
            rintro e w5 ⟨rfl, bw5⟩
            have J8 := Hid.mk' (J6.out.below bw5)
            clear bw5
            clear x0 x1 x2 x3 x4
            obtain ⟨-, hid, hv0, hv1, -, -⟩ := HPB.out.1 (by trivial)
            have HRF : Hid (R = SB) := Hid.mk' (by rw [HR.out]; simp)
            have z0 := J8.out.two.a0
            have z1 := J8.out.two.a1
            have z2 := J8.out.two.a2
            have z3 := J8.out.two.a3
            have z4 := J8.out.two.a4
            go_wp2_with fail
            refine (KPA _).mono ?_
            rintro e w7 ⟨rfl, b7⟩
            have J7 := Hid.mk' (J8.out.below b7)
            clear b7 z0 z1 z2 z3 z4
            have KSY := fun u => says_any op yes false u HOP.out
            obtain ⟨hs0, hs2⟩ := sayN_val HOP.out yes false
            obtain ⟨SY, hSY⟩ : ∃ SY, sayN op yes false = SY := ⟨_, rfl⟩
            rw [hSY] at KSY hs0 hs2 HSB
            clear hSY
            have z3 := J7.out.p3
            have z4 := J7.out.p4
            have B7 := Hid.mk' J7.out.two.old
            by_cases hz : SY = 0
            · have HRG : Hid (R = (nf (byN l), 0)) := Hid.mk' (by rw [HRF.out, HSB.out, if_pos hz])
              have KT7 := KT w7 (HV.out.below B7.out) HOK.out
              go_wp2_with (first
                | (go_at_call 52; refine (KSY _).mono ?_; rintro e u ⟨rfl, rfl⟩)
                | (go_at_call 41; refine KT7.mono ?_; rintro e w8 ⟨⟨vt, rfl, hT⟩, b8⟩; have HT := Hid.mk' hT; have B8 : Hid (Below w.heap.size w w8) := Hid.mk' (B7.out.trans (b8.mono B7.out.size)); clear b8 hT)
                | (go_at_call 42; refine (of_any _ _ _ _ HT.out (fn_by HOK.out)).mono ?_; rintro e w9 ⟨⟨vr, rfl, hrow⟩, b9⟩; have HRW := Hid.mk' hrow; have B9 : Hid (Below w.heap.size w w9) := Hid.mk' (B8.out.trans (b9.mono B8.out.size)); clear hrow b9))
              go_ret2
              rw [HRG.out]
              exact ⟨⟨_, rfl, ownsRow_base HRW.out B8.out.size⟩, B9.out⟩
            · have HRG : Hid (R = pvN l id' (vo' + SY - 1)) := Hid.mk' (by rw [HRF.out, HSB.out, if_neg hz])
              have KP7 := KPR id' (vo' + SY - 1) w7 (HV.out.below B7.out)
              go_wp2_with (first
                | (go_at_call 52; refine (KSY _).mono ?_; rintro e u ⟨rfl, rfl⟩)
                | (go_at_call 15; refine KP7.mono ?_; rintro e w8 ⟨⟨vr, rfl, hrow⟩, b8⟩; have HRW := Hid.mk' hrow; have B8 : Hid (Below w.heap.size w w8) := Hid.mk' (B7.out.trans (b8.mono B7.out.size)); clear hrow b8))
              go_ret2
              rw [HRG.out]
              exact ⟨⟨_, rfl, ownsRow_base HRW.out B7.out.size⟩, B8.out⟩
      | false =>
        have J5 := Hid.mk' (v3_of J3.out N3.out)
        have x0 := J5.out.two.a0
        have x1 := J5.out.two.a1
        have x2 := J5.out.two.a2
        have x3 := J5.out.two.a3
        have x4 := J5.out.two.a4
        go_wp2_with fail
        refine (KPA _).mono ?_
        rintro e w3 ⟨rfl, bw3⟩
        have J6 := Hid.mk' (J5.out.below bw3)
        clear bw3
        clear x0 x1 x2 x3 x4 J3 N3 J5
        cases PA with
        | true =>
          have hpa := HPE.out (by trivial)
          subst hpa
          have x0 := J6.out.two.b0
          have x1 := J6.out.two.b1
          have x2 := J6.out.two.b2
          have x3 := J6.out.two.b3
          have x4 := J6.out.two.b4
          go_wp2_with fail
          refine (KEB _).mono ?_
          rintro e w4 ⟨rfl, bw4⟩
          have J8 := Hid.mk' (J6.out.below bw4)
          clear bw4
          clear x0 x1 x2 x3 x4
          cases EB with
          | false =>
            have x0 := J8.out.two.a0
            have x1 := J8.out.two.a1
            have x2 := J8.out.two.a2
            have x3 := J8.out.two.a3
            have x4 := J8.out.two.a4
            go_wp2_with fail
            refine (KEA _).mono ?_
            rintro e w5 ⟨rfl, bw5⟩
            have J9 := Hid.mk' (J8.out.below bw5)
            clear bw5
            clear x0 x1 x2 x3 x4
            have HRF : Hid (R = ([], 171)) := Hid.mk' (by rw [HR.out]; simp)
            go_wp2_with fail
            go_ret2
            rw [HRF.out]
            exact ⟨ans_none _ _ _, J9.out.two.old⟩
          | true =>
            obtain ⟨-, hid, hv0, hv1, -, -⟩ := HPA.out.1 (by trivial)
            have HRF : Hid (R = SA) := Hid.mk' (by rw [HR.out]; simp)
            have z0 := J8.out.two.a0
            have z1 := J8.out.two.a1
            have z2 := J8.out.two.a2
            have z3 := J8.out.two.a3
            have z4 := J8.out.two.a4
            go_wp2_with fail
            refine (KPA _).mono ?_
            rintro e w7 ⟨rfl, b7⟩
            have J7 := Hid.mk' (J8.out.below b7)
            clear b7 z0 z1 z2 z3 z4
            have KSY := fun u => says_any op yes true u HOP.out
            obtain ⟨hs0, hs2⟩ := sayN_val HOP.out yes true
            obtain ⟨SY, hSY⟩ : ∃ SY, sayN op yes true = SY := ⟨_, rfl⟩
            rw [hSY] at KSY hs0 hs2 HSA
            clear hSY
            have z3 := J7.out.p3
            have z4 := J7.out.p4
            have B7 := Hid.mk' J7.out.two.old
            by_cases hz : SY = 0
            · have HRG : Hid (R = (nf (byN l), 0)) := Hid.mk' (by rw [HRF.out, HSA.out, if_pos hz])
              have KT7 := KT w7 (HV.out.below B7.out) HOK.out
              go_wp2_with (first
                | (go_at_call 52; refine (KSY _).mono ?_; rintro e u ⟨rfl, rfl⟩)
                | (go_at_call 41; refine KT7.mono ?_; rintro e w8 ⟨⟨vt, rfl, hT⟩, b8⟩; have HT := Hid.mk' hT; have B8 : Hid (Below w.heap.size w w8) := Hid.mk' (B7.out.trans (b8.mono B7.out.size)); clear b8 hT)
                | (go_at_call 42; refine (of_any _ _ _ _ HT.out (fn_by HOK.out)).mono ?_; rintro e w9 ⟨⟨vr, rfl, hrow⟩, b9⟩; have HRW := Hid.mk' hrow; have B9 : Hid (Below w.heap.size w w9) := Hid.mk' (B8.out.trans (b9.mono B8.out.size)); clear hrow b9))
              go_ret2
              rw [HRG.out]
              exact ⟨⟨_, rfl, ownsRow_base HRW.out B8.out.size⟩, B9.out⟩
            · have HRG : Hid (R = pvN l id (vo + SY - 1)) := Hid.mk' (by rw [HRF.out, HSA.out, if_neg hz])
              have KP7 := KPR id (vo + SY - 1) w7 (HV.out.below B7.out)
              go_wp2_with (first
                | (go_at_call 52; refine (KSY _).mono ?_; rintro e u ⟨rfl, rfl⟩)
                | (go_at_call 15; refine KP7.mono ?_; rintro e w8 ⟨⟨vr, rfl, hrow⟩, b8⟩; have HRW := Hid.mk' hrow; have B8 : Hid (Below w.heap.size w w8) := Hid.mk' (B7.out.trans (b8.mono B7.out.size)); clear hrow b8))
              go_ret2
              rw [HRG.out]
              exact ⟨⟨_, rfl, ownsRow_base HRW.out B7.out.size⟩, B8.out⟩
        | false =>
          have x0 := J6.out.two.a0
          have x1 := J6.out.two.a1
          have x2 := J6.out.two.a2
          have x3 := J6.out.two.a3
          have x4 := J6.out.two.a4
          go_wp2_with fail
          refine (KEA _).mono ?_
          rintro e w4 ⟨rfl, bw4⟩
          have J8 := Hid.mk' (J6.out.below bw4)
          clear bw4
          clear x0 x1 x2 x3 x4
          cases EA with
          | false =>
            have HRF : Hid (R = ([], 171)) := Hid.mk' (by rw [HR.out]; simp)
            go_wp2_with fail
            go_ret2
            rw [HRF.out]
            exact ⟨ans_none _ _ _, J8.out.two.old⟩
          | true =>
            have x0 := J8.out.two.b0
            have x1 := J8.out.two.b1
            have x2 := J8.out.two.b2
            have x3 := J8.out.two.b3
            have x4 := J8.out.two.b4
            go_wp2_with fail
            refine (KPB _).mono ?_
            rintro e w5 ⟨rfl, bw5⟩
            have J9 := Hid.mk' (J8.out.below bw5)
            clear bw5
            clear x0 x1 x2 x3 x4
            have HRF : Hid (R = ([], 171)) := Hid.mk' (by rw [HR.out]; simp)
            go_wp2_with fail
            go_ret2
            rw [HRF.out]
            exact ⟨ans_none _ _ _, J9.out.two.old⟩
  · have HRE : Hid (R = ([], E)) := Hid.mk' (by rw [HR.out, if_neg hE])
    go_wp2_with fail
    go_ret2
    rw [HRE.out]
    exact ⟨ans_none _ _ _, J1.out.old⟩
end Go.Proofs.Ytagnaefpkgekmaa
