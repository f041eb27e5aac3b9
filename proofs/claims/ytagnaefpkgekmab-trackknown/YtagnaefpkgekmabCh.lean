/- The contract of Shown. -/
import Derived.Test.YtagnaefpkgekmabCg
namespace Go.Proofs.Ytagnaefpkgekmab
open Go.ChangeShapes Go.WideShapes Go.ChangeAt Go.RowKit Go.Maps Go.Sort Go.Shelf
set_option maxRecDepth 10000

/-- What is known behind a comparison of a pointer (first, or not) and the end. -/
def saN (l : List Kn) (op : Int) (yes first : Bool) (p : Vl) : List Kn × Int :=
  if sayN op yes first = 0 then (nf (byN l), 0) else pvN l p.id (p.off + sayN op yes first - 1)
def shN (l : List Kn) (op : Int) (yes : Bool) (a b : Vl) : List Kn × Int :=
  if ckN l = 0 then (if isOr op = true then
    (if isPt a = true then (if isEn b = true then saN l op yes true a else ([], 171))
     else if isEn a = true then (if isPt b = true then saN l op yes false b else ([], 171)) else ([], 171)) else ([], 2)) else ([], ckN l)

theorem pr_zero {l : List Kn} (h : ckN l = 0) {id : Int} (hi : isId id = true) : pvN l id 0 = (nf (byN l), 0) := by
  unfold pvN
  rw [if_pos h, if_pos hi, if_neg (by omega)]
  have hf := fn_by (ck_fn h).1
  have e : ∀ z, pvF (byN l) id 0 z = byN l z := fun z => by
    unfold pvF upd
    split
    · rename_i e; subst e
      have := hf.low z
      omega
    · rfl
  rw [nf_congr e]
/-- What the program proves of it, is that. -/
theorem sa_first {l : List Kn} (h : ckN l = 0) {op : Int} (ho : op = 29 ∨ op = 30 ∨ op = 31 ∨ op = 32) (yes : Bool) {p : Vl} (hp : isId p.id = true) :
    pvN l p.id (swN (if yes = true then op else ctN op) p.off) = saN l op yes true p := by
  have h0 := pr_zero h hp
  unfold saN
  rcases ho with rfl | rfl | rfl | rfl <;> cases yes <;> simp [sayN, ctN, swN, h0] <;> congr 1 <;> omega
theorem sa_second {l : List Kn} (h : ckN l = 0) {op : Int} (ho : op = 29 ∨ op = 30 ∨ op = 31 ∨ op = 32) (yes : Bool) {p : Vl} (hp : isId p.id = true) :
    pvN l p.id (swN (tnN (if yes = true then op else ctN op)) p.off) = saN l op yes false p := by
  have h0 := pr_zero h hp
  unfold saN
  rcases ho with rfl | rfl | rfl | rfl <;> cases yes <;> simp [sayN, ctN, tnN, swN, h0] <;> congr 1 <;> omega

/-- Two values in boxes, at the heap's end. -/
structure V2 (w W : World) (a b : Vl) : Prop where
  old : Below w.heap.size w W
  size : w.heap.size + 1 < W.heap.size
  a0 : W.cell? ⟨w.heap.size, 0, none⟩ = some (.int .u8 a.k)
  a1 : W.cell? ⟨w.heap.size, 1, none⟩ = some (.int .u64 a.mi)
  a2 : W.cell? ⟨w.heap.size, 2, none⟩ = some (.int .u64 a.ma)
  a3 : W.cell? ⟨w.heap.size, 3, none⟩ = some (.int .i64 a.id)
  a4 : W.cell? ⟨w.heap.size, 4, none⟩ = some (.int .i64 a.off)
  b0 : W.cell? ⟨w.heap.size + 1, 0, none⟩ = some (.int .u8 b.k)
  b1 : W.cell? ⟨w.heap.size + 1, 1, none⟩ = some (.int .u64 b.mi)
  b2 : W.cell? ⟨w.heap.size + 1, 2, none⟩ = some (.int .u64 b.ma)
  b3 : W.cell? ⟨w.heap.size + 1, 3, none⟩ = some (.int .i64 b.id)
  b4 : W.cell? ⟨w.heap.size + 1, 4, none⟩ = some (.int .i64 b.off)
theorem V2.below {w W W' : World} {a b : Vl} (h : V2 w W a b) (hb : Below W.heap.size W W') : V2 w W' a b := by
  have hs := h.size
  have f : ∀ {p : Addr} {v : Value}, W.cell? p = some v → W'.cell? p = some v := fun hc => (hb.cell (lt_of_cell hc)).trans hc
  exact ⟨h.old.trans (hb.mono h.old.size), Nat.lt_of_lt_of_le hs hb.size, f h.a0, f h.a1, f h.a2, f h.a3, f h.a4, f h.b0, f h.b1, f h.b2, f h.b3, f h.b4⟩
theorem v2_new (w : World) (a b : Vl) (t t' : TypeId) : V2 w ((w.alloc (.cells #[.int .u8 a.k, .int .u64 a.mi, .int .u64 a.ma, .int .i64 a.id, .int .i64 a.off] t)).alloc (.cells #[.int .u8 b.k, .int .u64 b.mi, .int .u64 b.ma, .int .i64 b.id, .int .i64 b.off] t')) a b := by
  have hb : Below (w.heap.size + 1) (w.alloc (.cells #[.int .u8 a.k, .int .u64 a.mi, .int .u64 a.ma, .int .i64 a.id, .int .i64 a.off] t)) ((w.alloc (.cells #[.int .u8 a.k, .int .u64 a.mi, .int .u64 a.ma, .int .i64 a.id, .int .i64 a.off] t)).alloc (.cells #[.int .u8 b.k, .int .u64 b.mi, .int .u64 b.ma, .int .i64 b.id, .int .i64 b.off] t')) := (Below.refl _ _).alloc (by simp) _
  have f : ∀ {i : Nat}, ((w.alloc (.cells #[.int .u8 a.k, .int .u64 a.mi, .int .u64 a.ma, .int .i64 a.id, .int .i64 a.off] t)).alloc (.cells #[.int .u8 b.k, .int .u64 b.mi, .int .u64 b.ma, .int .i64 b.id, .int .i64 b.off] t')).cell? ⟨w.heap.size, i, none⟩ = (w.alloc (.cells #[.int .u8 a.k, .int .u64 a.mi, .int .u64 a.ma, .int .i64 a.id, .int .i64 a.off] t)).cell? ⟨w.heap.size, i, none⟩ := fun {i} => hb.cell (p := ⟨w.heap.size, i, none⟩) (by simp)
  have g : ∀ {i : Nat}, ((w.alloc (.cells #[.int .u8 a.k, .int .u64 a.mi, .int .u64 a.ma, .int .i64 a.id, .int .i64 a.off] t)).alloc (.cells #[.int .u8 b.k, .int .u64 b.mi, .int .u64 b.ma, .int .i64 b.id, .int .i64 b.off] t')).cell? ⟨w.heap.size + 1, i, none⟩ = #[.int .u8 b.k, .int .u64 b.mi, .int .u64 b.ma, .int .i64 b.id, .int .i64 b.off][i]? := fun {i} => by
    have := World.cell?_alloc_new (w.alloc (.cells #[.int .u8 a.k, .int .u64 a.mi, .int .u64 a.ma, .int .i64 a.id, .int .i64 a.off] t)) #[.int .u8 b.k, .int .u64 b.mi, .int .u64 b.ma, .int .i64 b.id, .int .i64 b.off] t' i
    rw [World.size_alloc] at this
    exact this
  refine ⟨((Below.refl _ w).alloc (Nat.le_refl _) _).alloc (by simp) _, by simp, ?_, ?_, ?_, ?_, ?_, ?_, ?_, ?_, ?_, ?_⟩
  · rw [f, World.cell?_alloc_new]; rfl
  · rw [f, World.cell?_alloc_new]; rfl
  · rw [f, World.cell?_alloc_new]; rfl
  · rw [f, World.cell?_alloc_new]; rfl
  · rw [f, World.cell?_alloc_new]; rfl
  · rw [g]; rfl
  · rw [g]; rfl
  · rw [g]; rfl
  · rw [g]; rfl
  · rw [g]; rfl

set_option maxHeartbeats 4000000 in
theorem shown_any (v : Value) (l : List Kn) (op : Int) (yes : Bool) (a b : Vl) (w : World) (h : Ks w v l) (h0 : 0 ≤ op) (h1 : op ≤ 255) (ha : a.In) (hb : b.In) :
    Calls Try.prog 12 #[v, .int .u8 op, .bool yes, a.v, b.v] w fun e w' => Ans w w' e (shN l op yes a b) ∧ Below w.heap.size w w' := by
  have KC := fun u hu => check_any v l u hu
  have HV := Hid.mk' h
  have KPA := fun u => ispacket_any a u ha
  have KPB := fun u => ispacket_any b u hb
  have KEA := fun u => isend_any a u ha
  have KEB := fun u => isend_any b u hb
  have KO := fun u => isorder_any op u h0 h1
  have KPR := fun id n u hu (hi : In64 id) => prove_any v l id n u hu hi
  have HPA := Hid.mk' (isPt_iff a)
  have HPB := Hid.mk' (isPt_iff b)
  have HPE := Hid.mk' (@pt_en a)
  have HSF := Hid.mk' (fun (h : ckN l = 0) (ho : op = 29 ∨ op = 30 ∨ op = 31 ∨ op = 32) (hp : isId a.id = true) => sa_first h ho yes hp)
  have HSS := Hid.mk' (fun (h : ckN l = 0) (ho : op = 29 ∨ op = 30 ∨ op = 31 ∨ op = 32) (hp : isId b.id = true) => sa_second h ho yes hp)
  have HOC := Hid.mk' (@or_cases op)
  have HV2 := fun u => v2_new u a b 38 38
  obtain ⟨R, hR⟩ : ∃ R, Hid (shN l op yes a b = R) := ⟨_, rfl⟩
  have HR : Hid (R = if ckN l = 0 then (if isOr op = true then
    (if isPt a = true then (if isEn b = true then saN l op yes true a else ([], 171))
     else if isEn a = true then (if isPt b = true then saN l op yes false b else ([], 171)) else ([], 171)) else ([], 2)) else ([], ckN l)) := Hid.mk' (by rw [← hR.out]; rfl)
  rw [hR.out]
  clear hR h
  generalize ckN l = E at *
  generalize isPt a = PA at *
  generalize isPt b = PB at *
  generalize isEn a = EA at *
  generalize isEn b = EB at *
  generalize isOr op = OR at *
  generalize saN l op yes true a = SA at *
  generalize saN l op yes false b = SB at *
  obtain ⟨k, mi, ma, id, vo⟩ := a
  obtain ⟨k', mi', ma', id', vo'⟩ := b
  obtain ⟨⟨k0, k1⟩, ⟨m0, m1⟩, ⟨n0, n1⟩, ⟨i0, i1⟩, ⟨v0, v1⟩⟩ := ha
  obtain ⟨⟨p0, p1⟩, ⟨q0, q1⟩, ⟨r0, r1⟩, ⟨s0, s1⟩, ⟨t0, t1⟩⟩ := hb
  simp only at k0 k1 m0 m1 n0 n1 i0 i1 v0 v1 p0 p1 q0 q1 r0 r1 s0 s1 t0 t1 HPA HPB HV2 HSF HSS
  have KPA : ∀ u, Calls Try.prog 20 #[.agg #[.int .u8 k, .int .u64 mi, .int .u64 ma, .int .i64 id, .int .i64 vo]] u fun e w' => e = .returned (.bool PA) ∧ Below u.heap.size u w' := KPA
  have KPB : ∀ u, Calls Try.prog 20 #[.agg #[.int .u8 k', .int .u64 mi', .int .u64 ma', .int .i64 id', .int .i64 vo']] u fun e w' => e = .returned (.bool PB) ∧ Below u.heap.size u w' := KPB
  have KEA : ∀ u, Calls Try.prog 23 #[.agg #[.int .u8 k, .int .u64 mi, .int .u64 ma, .int .i64 id, .int .i64 vo]] u fun e w' => e = .returned (.bool EA) ∧ Below u.heap.size u w' := KEA
  have KEB : ∀ u, Calls Try.prog 23 #[.agg #[.int .u8 k', .int .u64 mi', .int .u64 ma', .int .i64 id', .int .i64 vo']] u fun e w' => e = .returned (.bool EB) ∧ Below u.heap.size u w' := KEB
  unfold Vl.v
  simp only
  go_enter Try.func12, Try.ntmps12
  go_wp2_with fail
  have J0 := Hid.mk' (HV2 w)
  clear HV2
  refine (KC _ (HV.out.below J0.out.old)).mono ?_
  rintro e w1 ⟨rfl, b1⟩
  have J1 := Hid.mk' (J0.out.below b1)
  clear b1 KC J0
  by_cases hE : E = 0
  · subst hE
    go_wp2_with fail
    refine (KO _).mono ?_
    rintro e w2 ⟨rfl, rfl⟩
    cases OR with
    | false =>
      have HRE : Hid (R = ([], 2)) := Hid.mk' (by rw [HR.out]; simp)
      go_wp2_with fail
      go_ret2
      rw [HRE.out]
      exact ⟨ans_none _ _ _, J1.out.old⟩
    | true =>
      have hop := HOC.out rfl
      have HOP := Hid.mk' hop
      obtain ⟨OP, hOP⟩ : ∃ OP, (if yes = true then op else ctN op) = OP := ⟨_, rfl⟩
      rw [hOP] at HSF HSS
      have HOP2 : Hid (OP = 29 ∨ OP = 30 ∨ OP = 31 ∨ OP = 32) := Hid.mk' (by
        rw [← hOP]
        rcases hop with rfl | rfl | rfl | rfl <;> cases yes <;> simp [ctN])
      have HRE := Hid.mk' HR.out
      clear HR HOC KO
      go_upto_if 22 with fail
      go_cut [1] from 23 (fun o wx => o = .int .u8 OP ∧ w1 = wx)
      case first =>
        cases yes with
        | true =>
          simp at hOP
          subst hOP
          go_wp2_with fail
          go_meet
          exact ⟨rfl, rfl⟩
        | false =>
          simp at hOP
          go_wp2_with fail
          refine (contrary_any op _ HOP.out).mono ?_
          rintro e w2 ⟨rfl, rfl⟩
          rw [hOP]
          go_wp2_with fail
          go_meet
          exact ⟨rfl, rfl⟩
      case rest =>
        obtain ⟨rfl, rfl⟩ := hcut
        have HV1 : Hid (∀ u, Below w.heap.size w u → Ks u v l) := Hid.mk' (fun u hu => HV.out.below hu)
        have x0 := J1.out.a0
        have x1 := J1.out.a1
        have x2 := J1.out.a2
        have x3 := J1.out.a3
        have x4 := J1.out.a4
        go_wp2_with fail
        refine (KPA _).mono ?_
        rintro e w2 ⟨rfl, b2⟩
        have J2 := Hid.mk' (J1.out.below b2)
        clear b2 x0 x1 x2 x3 x4
        cases PA with
        | true =>
          have y0 := J2.out.b0
          have y1 := J2.out.b1
          have y2 := J2.out.b2
          have y3 := J2.out.b3
          have y4 := J2.out.b4
          go_wp2_with fail
          refine (KEB _).mono ?_
          rintro e w3 ⟨rfl, b3⟩
          have J3 := Hid.mk' (J2.out.below b3)
          clear b3 y0 y1 y2 y3 y4 J2
          obtain ⟨-, hid, hv0, hv1, -, -⟩ := HPA.out.1 (by trivial)
          cases EB with
          | true =>
            have HRF : Hid (R = pvN l id (swN OP vo)) := Hid.mk' (by rw [HRE.out, HSF.out (by trivial) HOP.out (by unfold isId; simp; omega)]; simp)
            have x3 := J3.out.a3
            have x4 := J3.out.a4
            have KSW := fun u => shows_any OP vo u HOP2.out hv0 hv1
            obtain ⟨SW, hSW⟩ : ∃ SW, swN OP vo = SW := ⟨_, rfl⟩
            rw [hSW] at HRF KSW
            have KQ := fun u hu => KPR id SW u hu ⟨i0, i1⟩
            have hsz3 := J3.out.size
            have HV3 : Hid (∀ m, Ks (w3.drewN m) v l) := Hid.mk' (fun m => HV1.out _ (J3.out.old.trans (Dr.below ⟨m, rfl⟩ _)))
            clear hSW
            go_wp2_with fail
            go_region_held3 (fun w' => w'.cell? ⟨w.heap.size, 3, none⟩ = some (.int .i64 id) ∧ w'.cell? ⟨w.heap.size, 4, none⟩ = some (.int .i64 vo)) (go_keep) (first
              | (go_at_call 24; refine (KSW _).mono ?_; rintro e w4 ⟨rfl, rfl⟩)
              | (go_at_call 6; refine (KQ _ (HV3.out 1)).mono ?_; rintro e w5 ⟨⟨vr, rfl, hrow⟩, b5⟩; have e3 := (b5.cell (p := ⟨w.heap.size, 3, none⟩) (Nat.lt_of_succ_lt hsz3)).trans x3; have e4 := (b5.cell (p := ⟨w.heap.size, 4, none⟩) (Nat.lt_of_succ_lt hsz3)).trans x4; have HRW := Hid.mk' hrow; have B5 : Hid (Below w.heap.size w w5) := Hid.mk' (J3.out.old.trans ((Dr.below (a := w3) ⟨1, rfl⟩ _).trans (b5.mono J3.out.old.size))); clear b5 hrow))
            go_wp2_with fail
            go_ret2
            rw [HRF.out]
            exact ⟨⟨_, rfl, ownsRow_base HRW.out J3.out.old.size⟩, B5.out⟩
          | false =>
            have hea := HPE.out (by trivial)
            have x0 := J3.out.a0
            have x1 := J3.out.a1
            have x2 := J3.out.a2
            have x3 := J3.out.a3
            have x4 := J3.out.a4
            go_wp2_with fail
            refine (KEA _).mono ?_
            rintro e w4 ⟨rfl, b4⟩
            have J4 := Hid.mk' (J3.out.below b4)
            clear b4
            rw [hea]
            have HRF : Hid (R = ([], 171)) := Hid.mk' (by rw [HRE.out]; simp)
            go_wp2_with fail
            go_ret2
            rw [HRF.out]
            exact ⟨ans_none _ _ _, J4.out.old⟩
        | false =>
          have x0 := J2.out.a0
          have x1 := J2.out.a1
          have x2 := J2.out.a2
          have x3 := J2.out.a3
          have x4 := J2.out.a4
          go_wp2_with fail
          refine (KEA _).mono ?_
          rintro e w3 ⟨rfl, b3⟩
          have J3 := Hid.mk' (J2.out.below b3)
          clear b3 x0 x1 x2 x3 x4 J2
          cases EA with
          | false =>
            have HRF : Hid (R = ([], 171)) := Hid.mk' (by rw [HRE.out]; simp)
            go_wp2_with fail
            go_ret2
            rw [HRF.out]
            exact ⟨ans_none _ _ _, J3.out.old⟩
          | true =>
            have y0 := J3.out.b0
            have y1 := J3.out.b1
            have y2 := J3.out.b2
            have y3 := J3.out.b3
            have y4 := J3.out.b4
            go_wp2_with fail
            refine (KPB _).mono ?_
            rintro e w4 ⟨rfl, b4⟩
            have J4 := Hid.mk' (J3.out.below b4)
            clear b4 y0 y1 y2 y3 y4 J3
            cases PB with
            | false =>
              have HRF : Hid (R = ([], 171)) := Hid.mk' (by rw [HRE.out]; simp)
              go_wp2_with fail
              go_ret2
              rw [HRF.out]
              exact ⟨ans_none _ _ _, J4.out.old⟩
            | true =>
              obtain ⟨-, hid, hv0, hv1, -, -⟩ := HPB.out.1 (by trivial)
              have HRF : Hid (R = pvN l id' (swN (tnN OP) vo')) := Hid.mk' (by rw [HRE.out, HSS.out (by trivial) HOP.out (by unfold isId; simp; omega)]; simp)
              have x3 := J4.out.b3
              have x4 := J4.out.b4
              have KTN := fun u => turned_any OP u HOP2.out
              have hTO : tnN OP = 29 ∨ tnN OP = 30 ∨ tnN OP = 31 ∨ tnN OP = 32 := by
                rcases HOP2.out with rfl | rfl | rfl | rfl <;> simp [tnN]
              obtain ⟨TO, hTN⟩ : ∃ TO, tnN OP = TO := ⟨_, rfl⟩
              rw [hTN] at HRF KTN hTO
              have KSW := fun u => shows_any TO vo' u hTO hv0 hv1
              obtain ⟨SW, hSW⟩ : ∃ SW, swN TO vo' = SW := ⟨_, rfl⟩
              rw [hSW] at HRF KSW
              have KQ := fun u hu => KPR id' SW u hu ⟨s0, s1⟩
              have hsz3 := J4.out.size
              have HV3 : Hid (∀ m, Ks (w4.drewN m) v l) := Hid.mk' (fun m => HV1.out _ (J4.out.old.trans (Dr.below ⟨m, rfl⟩ _)))
              clear hSW hTN hTO
              go_wp2_with fail
              go_region_held3 (fun w' => w'.cell? ⟨w.heap.size + 1, 3, none⟩ = some (.int .i64 id') ∧ w'.cell? ⟨w.heap.size + 1, 4, none⟩ = some (.int .i64 vo')) (go_keep) (first
                | (go_at_call 25; refine (KTN _).mono ?_; rintro e w5 ⟨rfl, rfl⟩)
                | (go_at_call 24; refine (KSW _).mono ?_; rintro e w5 ⟨rfl, rfl⟩)
                | (go_at_call 6; refine (KQ _ (HV3.out 1)).mono ?_; rintro e w5 ⟨⟨vr, rfl, hrow⟩, b5⟩; have e3 := (b5.cell (p := ⟨w.heap.size + 1, 3, none⟩) hsz3).trans x3; have e4 := (b5.cell (p := ⟨w.heap.size + 1, 4, none⟩) hsz3).trans x4; have HRW := Hid.mk' hrow; have B5 : Hid (Below w.heap.size w w5) := Hid.mk' (J4.out.old.trans ((Dr.below (a := w4) ⟨1, rfl⟩ _).trans (b5.mono J4.out.old.size))); clear b5 hrow))
              go_wp2_with fail
              go_ret2
              rw [HRF.out]
              exact ⟨⟨_, rfl, ownsRow_base HRW.out J4.out.old.size⟩, B5.out⟩
  · have HRE : Hid (R = ([], E)) := Hid.mk' (by rw [HR.out, if_neg hE])
    go_wp2_with fail
    go_ret2
    rw [HRE.out]
    exact ⟨ans_none _ _ _, J1.out.old⟩
end Go.Proofs.Ytagnaefpkgekmab
