/- The walk of FlowEnds. -/
import Derived.Test.YtffjddabjjcjpaaFl
import Derived.Test.YtffjddabjjcjpaaFn
import Derived.Deep.CutBlock
import Derived.Laws.MakeOwn
namespace Go.Proofs.Ytffjddabjjcjpaa
open Go.ChangeShapes Go.WideShapes Go.ChangeAt Go.RowKit
set_option maxRecDepth 10000
variable {L : List Q5}

theorem jump_sub {x t : Nat} (h3 : opA L x ≠ 33) (hxt : x < t) (ht : top (stk L t) ≤ x) : ∀ q, q ∈ stk L t → q ∈ stk L x := by
  intro q hq
  have h33 := (stk_lt hq).2
  have hne : q ≠ x := fun e => h3 (by rw [← e]; exact h33)
  have hle : q ≤ x := by
    cases hs : stk L t with
    | nil => rw [hs] at hq; simp at hq
    | cons r u =>
      rw [hs] at hq ht
      have hr : (r : Int) ≤ x := ht
      have hd := stk_dec (L := L) t
      rw [hs] at hd
      rcases List.mem_cons.1 hq with rfl | hq
      · omega
      · have := (List.pairwise_cons.1 hd).1 q hq
        omega
  exact stk_back hq (by omega) (by omega)

/-- The counts of the loops that are open. -/
structure FeJ (gl n : Nat) (L : List Q5) (lf : Nat → Nat) (y : Nat) (Z : List Int) (w : World) : Prop where
  row : w.heap[gl]? = some (.cells (intC Z).toArray 3 (0, 0))
  len : Z.length = n
  ok : ∀ q ∈ stk L y, Z[q]? = some (lf q : Int) ∧ 1 ≤ lf q ∧ lf q ≤ imN L q
theorem FeJ.same {gl n y y' : Nat} {lf : Nat → Nat} {Z : List Int} {w : World} (h : FeJ gl n L lf y Z w) (hs : ∀ q, q ∈ stk L y' → q ∈ stk L y) : FeJ gl n L lf y' Z w :=
  ⟨h.row, h.len, fun q hq => h.ok q (hs q hq)⟩
theorem FeJ.kept {gl n y : Nat} {lf : Nat → Nat} {Z : List Int} {w w' : World} (h : FeJ gl n L lf y Z w) (hb : Below w.heap.size w w') : FeJ gl n L lf y Z w' :=
  ⟨by rw [hb.block gl (Array.getElem?_eq_some_iff.1 h.row).1]; exact h.row, h.len, h.ok⟩

/-- What is answered of a run's step. -/
structure StepOk (L : List Q5) (gl n x : Nat) (lf : Nat → Nat) (ys : List Int) (w4 : World) (pk y : Nat) (lf' : Nat → Nat) (Z' : List Int) (wx : World) : Prop where
  at' : ys[pk]? = some (y : Int)
  lt : y < n
  left : leftN L lf' y + 1 ≤ leftN L lf x
  kept : Kept (fun j => j = gl) w4 wx
  row : FeJ gl n L lf' y Z' wx

theorem info_intE : (Try.prog.info? 3).map (fun i => (i.zero, i.size, i.bytes)) = some (some (.int .i64 0), 1, 8) := by kernel_rfl

/-- A list of whole numbers in memory, at hand. -/
theorem iw_atE {w : World} {base : Nat} {v : Value} {zs : List Int} (h : Iw w base v zs) : ∃ a c, v = .slice a zs.length c ∧ (zs.length = 0 ∨ ∃ b off, a = some ⟨b, off, none⟩ ∧ b < w.heap.size ∧ base ≤ b ∧ ∀ (k : Nat) (y : Int), zs[k]? = some y → w.cell? ⟨b, off + k, none⟩ = some (.int .i64 y)) := by
  obtain ⟨a, c, rfl, hl⟩ := h.lies
  refine ⟨a, c, rfl, ?_⟩
  rcases hl with h0 | ⟨b, off, rfl, h1, h2, h3, h4⟩
  · exact .inl (by rw [h0]; rfl)
  · refine .inr ⟨b, off, rfl, h2, h1, fun k y hy => ?_⟩
    have hk := (List.getElem?_eq_some_iff.1 hy).1
    have := (h4 k (by simpa using hk)).1
    rw [this]
    have e : zs[k] = y := (List.getElem?_eq_some_iff.1 hy).2
    simp [hk, e]

/-- The bits. -/
def Bits (w : World) (a : Option Addr) (n : Nat) : Prop := n = 0 ∨ ∃ b off, a = some ⟨b, off, none⟩ ∧ b < w.heap.size ∧ ∀ j, j < n → ∃ v, w.cell? ⟨b, off + j, none⟩ = some (.bool v)

set_option maxHeartbeats 8000000 in
theorem flowends_any (v : Value) (ba : Option Addr) (bn bc : Nat) (W : World) (hv : Cd W v L) (hbits : Bits W ba bn) :
    Calls Try.prog 4 #[v, .slice ba bn bc] W fun e w' => e = .returned (.bool true) ∧ Below W.heap.size W w' := by
  obtain ⟨iI, hi, hz0, hz1, hz2⟩ := info_parts info_intE
  have HV := Hid.mk' hv
  have HBits := Hid.mk' hbits
  obtain ⟨a, c, rfl, hc, hl⟩ := hv.lies
  clear hv hbits
  obtain ⟨E, hE⟩ : ∃ E, Hid ((ckF L).2 = E) := ⟨_, Hid.mk' rfl⟩
  obtain ⟨P, hP⟩ : ∃ P, (ckF L).1 = P := ⟨_, rfl⟩
  obtain ⟨n, hn⟩ : ∃ n, L.length = n := ⟨_, rfl⟩
  rw [hn] at hc HV ⊢
  have KCh : Hid (∀ u, Below W.heap.size W u → Calls Try.prog 14 #[.slice a n c] u fun e w' => e = .returned (.tuple #[.int .i64 P, .int .i64 E]) ∧ Below u.heap.size u w') := Hid.mk' (fun u hu => by
    have := check_f _ u (HV.out.below hu)
    rw [hE.out, hP] at this
    exact this)
  have KSt : Hid (∀ u, Below W.heap.size W u → Calls Try.prog 15 #[.slice a n c] u fun e w' => e = .returned (.tuple #[.int .i64 (stN L), .int .i64 E]) ∧ Below u.heap.size u w') := Hid.mk' (fun u hu => by
    have := steps_f _ u (HV.out.below hu)
    rw [hE.out] at this
    exact this)
  have KNx : Hid (∀ (x : Int) (u : World), Below W.heap.size W u → -9223372036854775808 ≤ x → x ≤ 9223372036854775807 → Calls Try.prog 9 #[.slice a n c, .int .i64 x] u fun e w' => (∃ r, e = .returned (.tuple #[r, .int .i64 (nxE L x)]) ∧ Iw w' u.heap.size r (nxV L x)) ∧ Below u.heap.size u w') := Hid.mk' (fun x u hu => next_f _ x u (HV.out.below hu))
  clear hP
  go_enter Try.func4, Try.ntmps4
  go_wp2_with fail
  refine (works_any _).mono ?_
  rintro e w1 ⟨rfl, b1⟩
  have B1 := Hid.mk' b1
  clear b1
  go_wp2_with fail
  refine (KCh.out _ B1.out).mono ?_
  rintro e w2 ⟨rfl, b2⟩
  have B2 := Hid.mk' (B1.out.trans (b2.mono B1.out.size))
  clear b2 KCh B1
  by_cases hE0 : E = 0
  · have HG : Hid (Good L) := Hid.mk' (good_of (by rw [hE.out, hE0]))
    have hn256 : n ≤ 256 := by rw [← hn]; exact HG.out.len
    have hn0 : 0 < n := by rw [← hn]; exact HG.out.pos
    have HL := Hid.mk' hn
    rcases hl with h0 | ⟨b, off, rfl, hC⟩
    · rw [h0] at hn; simp at hn; omega
    have HNE : Hid (∀ k : Nat, k < n → nxE L k = 0 ∧ nxV L k = nxF L k) := Hid.mk' (fun k hk => by
      have h1 : nxE L k = 0 := by
        unfold nxE
        rw [hE.out, if_pos hE0, if_neg (by rw [hn]; omega)]
      refine ⟨h1, ?_⟩
      unfold nxV
      rw [if_pos h1]; rfl)
    have eST : stN L = spN L L.length := by unfold stN; rw [hE.out, hE0]; rfl
    rw [eST, ← left_start HG.out (fun _ => 0)] at KSt
    obtain ⟨M, hM⟩ : ∃ M, Hid (leftN L (fun _ => 0) 0 = M) := ⟨_, Hid.mk' rfl⟩
    rw [hM.out] at KSt
    have hM1 : M ≤ 4096 * n := by
      have h1 := left_start HG.out (fun _ => 0)
      rw [hM.out] at h1
      have h2 := (spN_bd HG.out (k := L.length) (Nat.le_refl _)).2
      rw [← h1, HL.out] at h2
      omega
    have HC := Hid.mk' hC
    clear hC hn eST
    subst hE0
    go_wp2_with fail
    refine (KSt.out _ B2.out).mono ?_
    rintro e w3 ⟨rfl, b3⟩
    have B3 := Hid.mk' (B2.out.trans (b3.mono B2.out.size))
    clear b3 KSt B2
    have hsp : ¬ (256 : Int) < (n : Int) := by omega
    go_wp2_with (refine wpList_make_full _ rfl _ _ 24 rfl W.heap.size 3 iI (.int .i64 0) 1 Try.underlying24 hi hz0 hz1 .i64 .i64 n n n rfl rfl rfl rfl (by rw [hz2]; omega) (by unfold maxLen; omega) B3.out.size ?_; intro w5 hown5 hgr5; have HO5 := Hid.mk' hown5; have HG5 := Hid.mk' hgr5; clear hown5 hgr5)
    -- THE LOOP
    obtain ⟨gl, hgl⟩ : ∃ gl, gl = w3.heap.size := ⟨_, rfl⟩
    have B5 : Hid (Below W.heap.size W w5) := Hid.mk' (B3.out.trans ⟨HG5.out.os, HG5.out.tape, HG5.out.output, HG5.out.size, fun k hk => HG5.out.block k (by have := B3.out.size; omega) (by simp)⟩)
    have R5 : Hid (FeJ gl n L (fun _ => 0) 0 (List.replicate n 0) w5) := Hid.mk' ⟨by
        rcases HO5.out.2 with ⟨-, h0⟩ | ⟨g, cap, cur, e, hgb, hg, h1, h2, h3, h4⟩
        · omega
        · simp only [Value.slice.injEq, Option.some.injEq, Addr.mk.injEq, and_true] at e
          obtain ⟨e1, e2, e3⟩ := e
          rw [hgl, e1, hg]
          have e4 : cur.toList = intC (List.replicate n 0) := by
            rw [show (Value.int IntKind.i64 0).cells = #[.int .i64 0] from rfl, toList_madeCells_one, Nat.mul_one, List.take_of_length_le (by simp; omega)] at h4
            rw [h4]; simp [intC]
          rw [← e4, Array.toArray_toList], by simp, fun q hq => by simp [stk] at hq⟩
    have hglW : W.heap.size ≤ gl := by have := B3.out.size; omega
    rw [← hgl]
    clear HO5 HG5 B3 hgl
    go_loopw [9, 10, 11] (fun a0 b0 s0 wr => ∃ (x bt st : Nat) (Z : List Int) (lf : Nat → Nat), x < n ∧ a0 = .int .i64 x ∧ b0 = .int .i64 bt ∧ s0 = .int .i64 st ∧ bt ≤ st ∧ st ≤ 20000 ∧ Hid (st + leftN L lf x ≤ M) ∧ Hid (FeJ gl n L lf x Z wr) ∧ Hid (Below W.heap.size W wr)) (fun _ _ s0 _ => 20001 - (intOf s0).toNat)
    case atStart => exact ⟨0, 0, 0, _, _, hn0, rfl, rfl, rfl, Nat.le_refl _, Nat.zero_le _, Hid.mk' (by rw [hM.out]; omega), R5, B5⟩
    case round =>

      obtain ⟨x, bt, st, Z, lf, hx, rfl, rfl, rfl, hbt, hst, hleft, hR, hB⟩ := hrel
      have hxn : (x : Int) < (n : Int) := by omega
      have h1 := left_one (L := L) (lf := lf) (x := x) (by rw [HL.out]; exact hx)
      have hlt := hleft.out
      have hgt : ¬ (M : Int) < (st : Int) + 1 := by omega
      clear h1 hlt
      obtain ⟨p, d, s, o, i, hq, q1, q2, q3⟩ := at_get (L := L) (k := x) (by rw [HL.out]; exact hx)
      obtain ⟨c0, -, -, -, c4⟩ := (HC.out.below hB.out) x p d s o i hq
      have hin := HV.out.inb x p d s o i hq
      obtain ⟨i0, i1⟩ : -2147483648 ≤ i ∧ i ≤ 2147483647 := ⟨hin.i0, hin.i1⟩
      have C0 := Hid.mk' (And.intro c0 c4)
      have Q1 := Hid.mk' q1
      have Q3 := Hid.mk' q3
      have hwr : IntKind.i64.wrap i = i := by rw [IntKind.wrap_i64]; omega
      have hto : toA L x = x + 1 + o := by unfold toA; rw [q2]
      have HO := Hid.mk' q2
      clear hin hq q1 q2 q3
      by_cases hp36 : p = 36
      · subst hp36
        go_wp2_with fail
        go_ret
        exact ⟨rfl, hB.out⟩
      have K := KNx.out x wr hB.out (by omega) (by omega)
      rw [(HNE.out x hx).1, (HNE.out x hx).2] at K
      have EY : Hid (nxF L x = if p = 22 then [(x : Int) + 1 + o] else if isJ p then (if o = 0 then [(x : Int) + 1] else [(x : Int) + 1, (x : Int) + 1 + o]) else if p = 34 ∧ 1 < imA L (top (stk L x)).toNat then [top (stk L x) + 1, (x : Int) + 1] else [(x : Int) + 1]) := Hid.mk' (by
        unfold nxF; rw [hto, Q1.out, HO.out, if_neg hp36])
      have HMore : Hid (x + 1 < n) := Hid.mk' (by have := HG.out.more (k := x) (by rw [HL.out]; exact hx) (by rw [Q1.out]; exact hp36); rw [HL.out] at this; exact this)
      clear hto
      obtain ⟨ys, hys⟩ : ∃ ys, nxF L x = ys := ⟨_, rfl⟩
      rw [hys] at K EY
      have hyl : ys.length ≤ 2 := by rw [← hys]; exact nxF_len x
      have hy1 : 1 ≤ ys.length := by
        rw [EY.out]
        split
        · simp
        split
        · split <;> simp
        split <;> simp
      clear hys
      go_wp2_with fail
      refine K.mono ?_
      rintro e w4 ⟨⟨rv, rfl, hI⟩, b4⟩
      have B4 := Hid.mk' (hB.out.trans (b4.mono hB.out.size))
      have R4 := Hid.mk' (hR.out.kept b4)
      have hglr := (Array.getElem?_eq_some_iff.1 hR.out.row).1
      have c0 := (b4.cell (lt_of_cell C0.out.1)).trans C0.out.1
      have c4 := (b4.cell (lt_of_cell C0.out.2)).trans C0.out.2
      obtain ⟨ia, ic, rfl, hy⟩ := iw_atE hI
      obtain ⟨q, hqq⟩ : ∃ q, ys.length = q := ⟨_, rfl⟩
      have HQ := Hid.mk' hqq
      rw [hqq] at hy hyl hy1 ⊢
      clear b4 K hI hqq hB hR C0
      rcases hy with h0 | ⟨ib, io, rfl, hib, hibb, hyc⟩
      · omega
      have higl : Hid (ib ≠ gl) := Hid.mk' (by omega)
      have HYC := Hid.mk' hyc
      have hq1 : ¬ (q : Int) < 1 := by omega
      have hq2 : ¬ (2 : Int) < (q : Int) := by omega
      clear hyc
      have SZ : Hid ((intC Z).length = n) := Hid.mk' (by rw [intC_length]; exact R4.out.len)
      have JK : Hid (isJ p = true → ∃ t : Nat, (x : Int) + 1 + o = t ∧ x < t ∧ t < n ∧ top (stk L t) ≤ x ∧ 0 ≤ o) := Hid.mk' (fun h => by
        obtain ⟨t, t1, t2, t3, t4, t5, t6⟩ := HG.out.jump (k := x) (by rw [HL.out]; exact hx) (by rw [Q1.out]; exact h)
        rw [HL.out] at t3
        unfold toA at t1
        rw [HO.out] at t1 t5
        exact ⟨t, t1, t2, t3, t4, t5⟩)
      have HXL : Hid (x < L.length) := Hid.mk' (by rw [HL.out]; exact hx)
      go_upto_block 2 with fail
      go_cut [10, 14, 15] from 69 to 133 (fun s10 s14 s15 wx => ∃ (bt' pk y : Nat) (lf' : Nat → Nat) (Z' : List Int), s10 = .int .i64 bt' ∧ s14 = .int .i64 pk ∧ bt' ≤ bt + 1 ∧ pk < q ∧ Hid (StepOk L gl n x lf ys w4 pk y lf' Z' wx))
      case first =>
        as_aux_lemma =>
        clear HV KNx HNE hE
        by_cases hp33 : p = 33
        · subst hp33
          have hj : ¬ isJ 33 = true := by decide
          have ey : ys = [(x : Int) + 1] := by rw [EY.out, if_neg (by decide), if_neg hj, if_neg (by simp)]
          have himm := HG.out.imm (k := x + 1) (r := x) (by rw [HL.out]; omega) (by rw [stk_rep Q1.out]; exact List.mem_cons_self)
          go_wp2_with (refine wpList_store_at rfl _ _ rfl gl x i 3 (intC Z) rfl rfl R4.out.row (by rw [SZ.out]; exact hx) ?_; intro w6 h6 k6 s6)
          go_meet
          refine ⟨bt, 0, x + 1, fun u => if u = x then imN L x else lf u, Z.set x i, rfl, rfl, by omega, by omega, Hid.mk' ⟨by rw [ey]; simp, HMore.out, ?_, k6, by rw [intC_set] at h6; exact h6, by rw [List.length_set]; exact R4.out.len, ?_⟩⟩
          · exact left_step HXL.out (step_rep Q1.out (by unfold imN; omega) (fun u hu => if_neg hu) (if_pos rfl))
          · intro u hu
            rw [stk_rep Q1.out] at hu
            by_cases hux : u = x
            · subst hux
              rw [if_pos rfl, List.getElem?_set_self (by rw [R4.out.len]; exact hx)]
              refine ⟨?_, by unfold imN; omega, Nat.le_refl _⟩
              have : ((imN L u : Nat) : Int) = i := by unfold imN; rw [Q3.out]; rw [Q3.out] at himm; omega
              rw [this]
            · rw [if_neg hux, List.getElem?_set_ne (fun e => hux e.symm)]
              rcases List.mem_cons.1 hu with h | h
              · exact absurd h hux
              · exact R4.out.ok u h
        by_cases hp34 : p = 34
        · subst hp34
          obtain ⟨r, hr⟩ := HG.out.end' HXL.out Q1.out
          have hs := top_mem hr
          have hm : r ∈ stk L x := by rw [hs]; exact List.mem_cons_self
          have hrx := (stk_lt hm).1
          obtain ⟨z1, z2, z3⟩ := R4.out.ok r hm
          have himm := HG.out.imm (k := x) (r := r) (Nat.le_of_lt HXL.out) hm
          obtain ⟨p', d', s', o', i', hq', -, -, q3'⟩ := at_get (L := L) (k := r) (by rw [HL.out]; omega)
          have hj : ¬ isJ 34 = true := by decide
          have EY' := EY.out
          rw [hr, show ((r : Nat) : Int).toNat = r from rfl, q3', if_neg (by decide), if_neg hj] at EY'
          have HIM : Hid ((imN L r : Int) = i') := Hid.mk' (by unfold imN; omega)
          have hstk : Hid (stk L (x + 1) = stk L r) := Hid.mk' (by rw [stk_end Q1.out, hs]; rfl)
          by_cases hi1 : 1 < i'
          · rw [if_pos ⟨by trivial, hi1⟩] at EY'
            have hq : q = 2 := by rw [← HQ.out, EY']; rfl
            subst hq
            have y0 := HYC.out 0 ((r : Int) + 1) (by rw [EY']; rfl)
            have y1 := HYC.out 1 ((x : Int) + 1) (by rw [EY']; rfl)
            have y0 : w4.cell? ⟨ib, io, none⟩ = some (.int .i64 ((r : Int) + 1)) := y0
            have zc : w4.cell? ⟨gl, r, none⟩ = some (.int .i64 (lf r)) := by
              rw [cell_of_row w4 gl r _ _ _ R4.out.row, List.getElem?_toArray]
              simp [intC, z1]
            have hrn : (r : Int) < (n : Int) := by omega
            have hr0 : ¬ (r : Int) < 0 := by omega
            have hrn' : ¬ (n : Int) ≤ (r : Int) := by omega
            have hlb : (lf r : Int) ≤ 16 := by have := HIM.out; omega
            obtain ⟨v, hv⟩ : ∃ v : Nat, lf r = v + 1 := ⟨lf r - 1, by omega⟩
            rw [hv] at zc z1 hlb
            have hv16 : (v : Int) ≤ 16 := by omega
            have hvv : ((v + 1 : Nat) : Int) - 1 = (v : Int) := by omega
            have Z1 := Hid.mk' z1
            have EYH := Hid.mk' EY'
            clear q3' hq' z1 EY' hs
            by_cases hv0 : v = 0
            · subst hv0
              go_wp2_with (refine wpList_store_at rfl _ _ rfl gl r 0 3 (intC Z) rfl rfl R4.out.row (by rw [SZ.out]; omega) ?_; intro w6 h6 k6 s6; have zc6 : w6.cell? ⟨gl, r, none⟩ = some (.int .i64 0) := by { rw [cell_of_row w6 gl r _ _ _ h6, List.getElem?_toArray, List.getElem?_set_self (by rw [SZ.out]; omega)] })
              go_meet
              refine ⟨bt, 1, x + 1, lf, Z.set r 0, rfl, rfl, by omega, by omega, Hid.mk' ⟨by rw [EYH.out]; simp, HMore.out, ?_, k6, by rw [intC_set] at h6; exact h6, by rw [List.length_set]; exact R4.out.len, ?_⟩⟩
              · exact left_step HXL.out (step_done Q1.out hr HXL.out (by omega) (fun _ _ => rfl))
              · intro u hu
                rw [hstk.out] at hu
                have hur : u ≠ r := fun e => by have := (stk_lt hu).1; omega
                rw [List.getElem?_set_ne (fun e => hur e.symm)]
                exact R4.out.ok u (stk_trans hm hu)
            · have hv0' : ¬ (v : Int) = 0 := by omega
              go_wp2_with (refine wpList_store_at rfl _ _ rfl gl r v 3 (intC Z) rfl rfl R4.out.row (by rw [SZ.out]; omega) ?_; intro w6 h6 k6 s6; have zc6 : w6.cell? ⟨gl, r, none⟩ = some (.int .i64 v) := by { rw [cell_of_row w6 gl r _ _ _ h6, List.getElem?_toArray, List.getElem?_set_self (by rw [SZ.out]; omega)] })
              go_meet
              refine ⟨bt, 0, r + 1, fun u => if u = r then lf r - 1 else lf u, Z.set r v, rfl, rfl, by omega, by omega, Hid.mk' ⟨by rw [EYH.out]; simp, by omega, ?_, k6, by rw [intC_set] at h6; exact h6, by rw [List.length_set]; exact R4.out.len, ?_⟩⟩
              · exact left_step HXL.out (step_again Q1.out hr HXL.out (by omega) (fun u hu => if_neg hu) (if_pos rfl))
              · intro u hu
                rw [stk_rep (stk_lt hm).2] at hu
                by_cases hur : u = r
                · subst hur
                  rw [if_pos rfl, List.getElem?_set_self (by rw [R4.out.len]; omega)]
                  refine ⟨?_, by omega, by omega⟩
                  rw [hv]; simp
                · rw [if_neg hur, List.getElem?_set_ne (fun e => hur e.symm)]
                  rcases List.mem_cons.1 hu with h | h
                  · exact absurd h hur
                  · exact R4.out.ok u (stk_trans hm h)
          · rw [if_neg (fun h => hi1 h.2)] at EY'
            have hq : q = 1 := by rw [← HQ.out, EY']; rfl
            subst hq
            have y0 := HYC.out 0 ((x : Int) + 1) (by rw [EY']; rfl)
            have y0 : w4.cell? ⟨ib, io, none⟩ = some (.int .i64 ((x : Int) + 1)) := y0
            have EYH := Hid.mk' EY'
            have hl1 : Hid (lf r = 1) := Hid.mk' (by have := HIM.out; omega)
            have hxn' : ¬ (n : Int) ≤ (x : Int) := by omega
            have hx0 : ¬ (x : Int) < 0 := by omega
            clear q3' hq' z1 EY' hs
            go_wp2_with fail
            go_meet
            refine ⟨bt, 0, x + 1, lf, Z, rfl, rfl, by omega, by omega, Hid.mk' ⟨by rw [EYH.out]; simp, HMore.out, ?_, Kept.refl _ _, R4.out.same (fun u hu => ?_)⟩⟩
            · exact left_step HXL.out (step_done Q1.out hr HXL.out hl1.out (fun _ _ => rfl))
            · rw [hstk.out] at hu
              exact stk_trans hm hu
        have hnext : Hid (StepOk L gl n x lf [(x : Int) + 1] w4 0 (x + 1) lf Z w4) := Hid.mk' ⟨by simp, HMore.out, left_step HXL.out (step_next (by rw [Q1.out]; exact hp33) (by rw [Q1.out]; exact hp34)), Kept.refl _ _, R4.out.same (fun u hu => by rw [stk_else (by rw [Q1.out]; exact hp33) (by rw [Q1.out]; exact hp34)] at hu; exact hu)⟩
        by_cases hjp : isJ p = true
        · obtain ⟨t, t1, t2, t3, t4, t5⟩ := JK.out hjp
          have hjump : Hid (leftN L lf t + 1 ≤ leftN L lf x ∧ FeJ gl n L lf t Z w4) := Hid.mk' ⟨left_step HXL.out (step_jump (by rw [Q1.out]; exact hp33) t2 t4), R4.out.same (jump_sub (by rw [Q1.out]; exact hp33) t2 t4)⟩
          have EY' := EY.out
          rw [t1, if_pos hjp] at EY'
          by_cases h22 : p = 22
          · rw [if_pos h22] at EY'
            have hq : q = 1 := by rw [← HQ.out, EY']; rfl
            subst hq
            have EYH := Hid.mk' EY'
            clear EY' t1
            go_wp2_with fail
            go_meet
            exact ⟨bt, 0, t, lf, Z, rfl, rfl, by omega, by omega, Hid.mk' ⟨by rw [EYH.out]; simp, t3, hjump.out.1, Kept.refl _ _, hjump.out.2⟩⟩
          · rw [if_neg h22] at EY'
            by_cases ho : o = 0
            · rw [if_pos ho] at EY'
              have hq : q = 1 := by rw [← HQ.out, EY']; rfl
              subst hq
              have EYH := Hid.mk' EY'
              clear EY' t1
              go_wp2_with fail
              go_meet
              exact ⟨bt, 0, x + 1, lf, Z, rfl, rfl, by omega, by omega, Hid.mk' (by rw [EYH.out]; exact hnext.out)⟩
            · rw [if_neg ho] at EY'
              have hq : q = 2 := by rw [← HQ.out, EY']; rfl
              subst hq
              have EYH := Hid.mk' EY'
              have hbtb : (bt : Int) ≤ 20000 := by omega
              clear EY' t1
              have S0 : Hid (StepOk L gl n x lf ys w4 0 (x + 1) lf Z w4) := Hid.mk' ⟨by rw [EYH.out]; simp, hnext.out.lt, hnext.out.left, hnext.out.kept, hnext.out.row⟩
              have S1 : Hid (StepOk L gl n x lf ys w4 1 t lf Z w4) := Hid.mk' ⟨by rw [EYH.out]; simp, t3, hjump.out.1, Kept.refl _ _, hjump.out.2⟩
              by_cases hbb : bt < bn
              · have hbb' : (bt : Int) < (bn : Int) := by omega
                rcases HBits.out with h0 | ⟨bb, bo, rfl, hbl, hbc⟩
                · omega
                obtain ⟨bv, hbv⟩ := hbc bt hbb
                have hb4 := (B4.out.cell (p := ⟨bb, bo + bt, none⟩) hbl).trans hbv
                clear hbc hbv
                cases bv with
                | true =>
                  go_wp2_with fail
                  go_meet
                  exact ⟨bt + 1, 1, t, lf, Z, by go_num, rfl, by omega, by omega, S1⟩
                | false =>
                  go_wp2_with fail
                  go_meet
                  exact ⟨bt + 1, 0, x + 1, lf, Z, by go_num, rfl, by omega, by omega, S0⟩
              · have hbb' : ¬ (bt : Int) < (bn : Int) := by omega
                go_wp2_with fail
                go_meet
                exact ⟨bt + 1, 0, x + 1, lf, Z, by go_num, rfl, by omega, by omega, S0⟩
        · have EY' := EY.out
          have h22 : ¬ p = 22 := fun e => hjp (by rw [e]; decide)
          rw [if_neg h22, if_neg hjp, if_neg (fun h => hp34 h.1)] at EY'
          have hq : q = 1 := by rw [← HQ.out, EY']; rfl
          subst hq
          have EYH := Hid.mk' EY'
          clear EY'
          go_wp2_with fail
          go_meet
          exact ⟨bt, 0, x + 1, lf, Z, rfl, rfl, by omega, by omega, Hid.mk' (by rw [EYH.out]; exact hnext.out)⟩
      case rest =>
        obtain ⟨bt', pk, y, lf', Z', rfl, rfl, hb', hpk, hS⟩ := hcut
        have hpk' : (pk : Int) < (q : Int) := by omega
        have y5 := hS.out.kept.cell (HYC.out pk y hS.out.at') (show ¬ ib = gl from higl.out)
        have hyn := hS.out.lt
        have hy0 : ¬ (y : Int) < 0 := by omega
        have hyn' : ¬ (n : Int) ≤ (y : Int) := by omega
        have B6 : Hid (Below W.heap.size W wc) := Hid.mk' (B4.out.trans (hS.out.kept.below B4.out.size (fun j hj e => by omega)))
        by_cases hst2 : (20000 : Int) < (st : Int) + 1
        · go_wp2_with fail
          go_ret
          exact ⟨ret_bool (by first | rfl | simp [hst2]), B6.out⟩
        · go_wp2_with fail
          go_roundw
          case rel => exact ⟨y, bt', st + 1, Z', lf', hyn, rfl, rfl, by go_num, by omega, by omega, Hid.mk' (by have := hleft.out; have := hS.out.left; omega), Hid.mk' hS.out.row, B6⟩
          case measure => simp [intOf]; omega
  · go_wp2_with fail
    go_ret
    exact ⟨rfl, B2.out⟩

theorem walkFlowEnds (a : Option Addr) (c : Nat) (xs : List sh37.M) (ba : Option Addr) (bc : Nat) (bs : List sh4.M) (W : World) (o0 : SlOk sh37 W a c xs) (_l0 : xs.length ≤ 140737488351232) (o1 : SlOk sh4 W ba bc bs) (_l1 : bs.length ≤ 140737488351232) :
    Calls Try.prog 4 #[.slice a xs.length c, .slice ba bs.length bc] W fun e w' => e = .returned (.bool true) ∧ Below W.heap.size W w' := by
  refine flowends_any _ ba bs.length bc W (cd_open a c xs W o0) ?_
  rcases o1.2.1 with h0 | ⟨b, off, rfl, hc⟩
  · exact .inl h0
  · rcases Nat.eq_zero_or_pos bs.length with h0 | h0
    · exact .inl h0
    · have key : ∀ j, j < bs.length → ∃ v, W.cell? ⟨b, off + j, none⟩ = some (.bool v) := by
        intro j hj
        refine ⟨bs[j], ?_⟩
        have := hc j bs[j] (List.getElem?_eq_getElem hj) 0 (.bool bs[j]) rfl
        simpa [sh4, shBool] using this
      obtain ⟨v, hv⟩ := key 0 h0
      exact .inr ⟨b, off, rfl, lt_of_cell hv, key⟩
end Go.Proofs.Ytffjddabjjcjpaa
