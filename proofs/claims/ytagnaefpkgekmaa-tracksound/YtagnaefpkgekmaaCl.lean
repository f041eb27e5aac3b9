/- The document's Prove, Forget, Join. -/
import Derived.Test.YtagnaefpkgekmaaCk
import Derived.Test.YtagnaefpkgekmaaCe
namespace Go.Proofs.Ytagnaefpkgekmaa
open Go.ChangeShapes Go.WideShapes Go.ChangeAt Go.RowKit Go.Maps Go.Sort Go.Shelf
set_option maxRecDepth 10000

set_option maxHeartbeats 2000000 in
theorem rprove_any (v : Value) (l : List Kn) (id n : Int) (w : World) (h : Ks w v l) : Calls Try.prog 15 #[v, .int .i64 id, .int .i64 n] w fun e w' => Ans w w' e (pvN l id n) ∧ Below w.heap.size w w' := by
  have KP := rcheck_any v l w h
  have HV := Hid.mk' h
  clear h
  have KT := fun u hu ho => table_any v l u hu ho
  have HC : Hid (ckN l = 0 → okF (-1) l = true) := Hid.mk' (fun e => (ck_fn e).1)
  obtain ⟨R, hR⟩ : ∃ R, Hid (pvN l id n = R) := ⟨_, rfl⟩
  have HR : Hid (R = if ckN l = 0 then (if isId id = true then (if n < 0 then ([], 2) else (nf (pvF (byN l) id n), 0)) else ([], 2)) else ([], ckN l)) := Hid.mk' (by rw [← hR.out]; rfl)
  rw [hR.out]
  clear hR
  generalize ckN l = E at *
  go_enter Try.func15, Try.ntmps15
  go_wp2_with fail
  refine KP.mono ?_
  rintro e w1 ⟨rfl, b1⟩
  have B1 := Hid.mk' b1
  clear b1 KP
  by_cases hE : E = 0
  · subst hE
    have HOK := Hid.mk' (HC.out rfl)
    have HF := Hid.mk' (fn_by HOK.out)
    clear HC
    have KI := fun u => rid_any id u
    by_cases g1 : isId id = true
    · obtain ⟨q0, q1⟩ := (isId_iff id).1 g1
      rw [g1] at KI
      by_cases g2 : n < 0
      · have HRE : Hid (R = ([], 2)) := Hid.mk' (by rw [HR.out, if_pos rfl, if_pos g1, if_pos g2])
        go_wp2_with (go_at_call 36; refine (KI _).mono ?_; rintro e u ⟨rfl, rfl⟩)
        go_ret2
        rw [HRE.out]
        exact ⟨ans_none _ _ _, B1.out⟩
      · have HRE : Hid (R = (nf (pvF (byN l) id n), 0)) := Hid.mk' (by rw [HR.out, if_pos rfl, if_pos g1, if_neg g2])
        obtain ⟨i, rfl⟩ : ∃ i : Nat, id = (i : Int) := ⟨id.toNat, by omega⟩
        have hi257 : i < 257 := by omega
        have hi257' : (i : Int) < 257 := by omega
        have hlow := HF.out.low i
        have hhigh := HF.out.high i
        have KT1 := KT w1 (HV.out.below B1.out) HOK.out
        go_wp2_with (first
          | (go_at_call 36; refine (KI _).mono ?_; rintro e u ⟨rfl, rfl⟩)
          | (go_at_call 41; refine KT1.mono ?_; rintro e w2 ⟨⟨vt, rfl, hT⟩, b2⟩; obtain ⟨g, c, rfl, hgl, hgb⟩ := hT.slc; have HT := Hid.mk' hT; have B2 : Hid (Below w.heap.size w w2) := Hid.mk' (B1.out.trans (b2.mono B1.out.size)); have HGB : Hid (w.heap.size ≤ g) := Hid.mk' (Nat.le_trans B1.out.size hgb); obtain ⟨e0, e1⟩ := hT.at hi257; clear b2 hgb hT))
        obtain ⟨M, hM⟩ : ∃ M, max (byN l i) (min n 2048) = M := ⟨_, rfl⟩
        rw [hM]
        have T3 : Hid (To (w2.setCell ⟨g, i, none⟩ (.int .i64 M)) w1.heap.size (.slice (some ⟨g, 0, none⟩) 257 c) (pvF (byN l) i n)) := Hid.mk' (by
          have := HT.out.set i M
          unfold pvF
          rw [hM]
          exact this)
        have F3 : Hid (Fn (pvF (byN l) i n)) := Hid.mk' (by unfold pvF; rw [hM]; exact HF.out.upd ⟨q0, q1⟩ (by omega) (by omega))
        have B3 : Hid (Below w.heap.size w (w2.setCell ⟨g, i, none⟩ (.int .i64 M))) := Hid.mk' (by
          have h1 : Kept (fun j => j = g) w (w2.setCell ⟨g, i, none⟩ (.int .i64 M)) := Kept.setCell (S := fun j => j = g) (p := ⟨g, i, none⟩) ⟨B2.out.os, B2.out.tape, B2.out.output, B2.out.size, fun j hj _ => B2.out.block j hj⟩ (fun _ => rfl) _
          exact h1.below (Nat.le_refl _) (fun j hj e => by have := HGB.out; omega))
        refine (of_any _ _ _ _ T3.out F3.out).mono ?_
        rintro e w4 ⟨⟨vr, rfl, hrow⟩, b4⟩
        have HRW := Hid.mk' hrow
        have B4 : Hid (Below w.heap.size w w4) := Hid.mk' (B3.out.trans (b4.mono B3.out.size))
        clear hrow b4
        go_wp2_with fail
        go_ret2
        rw [HRE.out]
        exact ⟨⟨_, rfl, ownsRow_base HRW.out B3.out.size⟩, B4.out⟩
    · have g1' : isId id = false := by simpa using g1
      rw [g1'] at KI
      have HRE : Hid (R = ([], 2)) := Hid.mk' (by rw [HR.out, if_pos rfl, if_neg g1])
      go_wp2_with (go_at_call 36; refine (KI _).mono ?_; rintro e u ⟨rfl, rfl⟩)
      go_ret2
      rw [HRE.out]
      exact ⟨ans_none _ _ _, B1.out⟩
  · have HRE : Hid (R = ([], E)) := Hid.mk' (by rw [HR.out, if_neg hE])
    go_wp2_with fail
    go_ret2
    rw [HRE.out]
    exact ⟨ans_none _ _ _, B1.out⟩

set_option maxHeartbeats 2000000 in
theorem rforget_any (v : Value) (l : List Kn) (id : Int) (w : World) (h : Ks w v l) : Calls Try.prog 19 #[v, .int .i64 id] w fun e w' => Ans w w' e (fgN l id) ∧ Below w.heap.size w w' := by
  have KP := rcheck_any v l w h
  have HV := Hid.mk' h
  clear h
  have KT := fun u hu ho => table_any v l u hu ho
  have HC : Hid (ckN l = 0 → okF (-1) l = true) := Hid.mk' (fun e => (ck_fn e).1)
  obtain ⟨R, hR⟩ : ∃ R, Hid (fgN l id = R) := ⟨_, rfl⟩
  have HR : Hid (R = if ckN l = 0 then (if isId id = true then (nf (upd (byN l) id 0), 0) else ([], 2)) else ([], ckN l)) := Hid.mk' (by rw [← hR.out]; rfl)
  rw [hR.out]
  clear hR
  generalize ckN l = E at *
  go_enter Try.func19, Try.ntmps19
  go_wp2_with fail
  refine KP.mono ?_
  rintro e w1 ⟨rfl, b1⟩
  have B1 := Hid.mk' b1
  clear b1 KP
  by_cases hE : E = 0
  · subst hE
    have HOK := Hid.mk' (HC.out rfl)
    have HF := Hid.mk' (fn_by HOK.out)
    clear HC
    have KI := fun u => rid_any id u
    by_cases g1 : isId id = true
    · obtain ⟨q0, q1⟩ := (isId_iff id).1 g1
      rw [g1] at KI
      have HRE : Hid (R = (nf (upd (byN l) id 0), 0)) := Hid.mk' (by rw [HR.out, if_pos rfl, if_pos g1])
      obtain ⟨i, rfl⟩ : ∃ i : Nat, id = (i : Int) := ⟨id.toNat, by omega⟩
      have hi257 : i < 257 := by omega
      have hi257' : (i : Int) < 257 := by omega
      have KT1 := KT w1 (HV.out.below B1.out) HOK.out
      go_wp2_with (first
        | (go_at_call 36; refine (KI _).mono ?_; rintro e u ⟨rfl, rfl⟩)
        | (go_at_call 41; refine KT1.mono ?_; rintro e w2 ⟨⟨vt, rfl, hT⟩, b2⟩; obtain ⟨g, c, rfl, hgl, hgb⟩ := hT.slc; have HT := Hid.mk' hT; have B2 : Hid (Below w.heap.size w w2) := Hid.mk' (B1.out.trans (b2.mono B1.out.size)); have HGB : Hid (w.heap.size ≤ g) := Hid.mk' (Nat.le_trans B1.out.size hgb); obtain ⟨e0, e1⟩ := hT.at hi257; clear b2 hgb hT))
      have T3 : Hid (To (w2.setCell ⟨g, i, none⟩ (.int .i64 0)) w1.heap.size (.slice (some ⟨g, 0, none⟩) 257 c) (upd (byN l) i 0)) := Hid.mk' (HT.out.set i 0)
      have F3 : Hid (Fn (upd (byN l) i 0)) := Hid.mk' (HF.out.upd ⟨q0, q1⟩ (by omega) (by omega))
      have B3 : Hid (Below w.heap.size w (w2.setCell ⟨g, i, none⟩ (.int .i64 0))) := Hid.mk' (by
        have h1 : Kept (fun j => j = g) w (w2.setCell ⟨g, i, none⟩ (.int .i64 0)) := Kept.setCell (S := fun j => j = g) (p := ⟨g, i, none⟩) ⟨B2.out.os, B2.out.tape, B2.out.output, B2.out.size, fun j hj _ => B2.out.block j hj⟩ (fun _ => rfl) _
        exact h1.below (Nat.le_refl _) (fun j hj e => by have := HGB.out; omega))
      refine (of_any _ _ _ _ T3.out F3.out).mono ?_
      rintro e w4 ⟨⟨vr, rfl, hrow⟩, b4⟩
      have HRW := Hid.mk' hrow
      have B4 : Hid (Below w.heap.size w w4) := Hid.mk' (B3.out.trans (b4.mono B3.out.size))
      clear hrow b4
      go_wp2_with fail
      go_ret2
      rw [HRE.out]
      exact ⟨⟨_, rfl, ownsRow_base HRW.out B3.out.size⟩, B4.out⟩
    · have g1' : isId id = false := by simpa using g1
      rw [g1'] at KI
      have HRE : Hid (R = ([], 2)) := Hid.mk' (by rw [HR.out, if_pos rfl, if_neg g1])
      go_wp2_with (go_at_call 36; refine (KI _).mono ?_; rintro e u ⟨rfl, rfl⟩)
      go_ret2
      rw [HRE.out]
      exact ⟨ans_none _ _ _, B1.out⟩
  · have HRE : Hid (R = ([], E)) := Hid.mk' (by rw [HR.out, if_neg hE])
    go_wp2_with fail
    go_ret2
    rw [HRE.out]
    exact ⟨ans_none _ _ _, B1.out⟩

/-- What of the table has been joined. -/
def jnT (a b : List Kn) (k : Nat) (z : Int) : Int := if z < k then jnF a b z else byN a z
theorem jnT_zero {a b : List Kn} (ha : okF (-1) a = true) (hb : okF (-1) b = true) (z : Int) : jnT a b 0 z = byN a z := by
  unfold jnT
  by_cases h : z < ((0 : Nat) : Int)
  · rw [if_pos h]
    have h1 : byN a z = 0 := by
      by_cases e : byN a z = 0
      · exact e
      · have := (fn_by ha).out z e; omega
    have := (fn_by hb).low z
    unfold jnF
    omega
  · rw [if_neg h]
theorem jnT_step (a b : List Kn) (k : Nat) (z : Int) : jnT a b (k + 1) z = upd (jnT a b k) k (min (jnT a b k k) (byN b k)) z := by
  unfold jnT upd
  have e1 : ¬ (k : Int) < (k : Nat) := by omega
  rw [if_neg e1]
  by_cases e : z = (k : Int)
  · subst e
    rw [if_pos (by omega), if_pos rfl]; rfl
  · rw [if_neg e]
    show _ = if z < ((k : Nat) : Int) then jnF a b z else byN a z
    by_cases h : z < (k : Nat)
    · rw [if_pos h, if_pos (by omega)]
    · rw [if_neg h, if_neg (by omega)]
theorem jnT_all {a b : List Kn} (ha : okF (-1) a = true) (hb : okF (-1) b = true) (z : Int) : jnF a b z = jnT a b 257 z := by
  unfold jnT
  by_cases h : z < ((257 : Nat) : Int)
  · rw [if_pos h]
  · rw [if_neg h]
    have h1 : byN a z = 0 := by
      by_cases e : byN a z = 0
      · exact e
      · have := (fn_by ha).out z e; omega
    have := (fn_by hb).low z
    unfold jnF
    omega
theorem fn_join {a b : List Kn} (ha : okF (-1) a = true) (hb : okF (-1) b = true) : Fn (jnF a b) := by
  have h1 := fn_by ha
  have h2 := fn_by hb
  refine ⟨fun z hz => h1.out z (fun e => hz ?_), fun z => ?_, fun z => ?_⟩ <;> unfold jnF
  · have := h2.low z; omega
  · have := h1.low z; have := h2.low z; omega
  · have := h1.high z; omega

set_option maxHeartbeats 2000000 in
theorem rjoin_any (va vb : Value) (la lb : List Kn) (w : World) (ha : Ks w va la) (hb : Ks w vb lb) : Calls Try.prog 23 #[va, vb] w fun e w' => Ans w w' e (jnN la lb) ∧ Below w.heap.size w w' := by
  have KP := rcheck_any va la w ha
  have KQ := fun u hu => rcheck_any vb lb u hu
  have KT := fun u hu ho => table_any va la u hu ho
  have KB := fun z u hu => rbytes_any vb lb z u hu
  have HVA := Hid.mk' ha
  have HVB := Hid.mk' hb
  clear ha hb
  have HCA : Hid (ckN la = 0 → okF (-1) la = true) := Hid.mk' (fun e => (ck_fn e).1)
  have HCB : Hid (ckN lb = 0 → okF (-1) lb = true) := Hid.mk' (fun e => (ck_fn e).1)
  obtain ⟨R, hR⟩ : ∃ R, Hid (jnN la lb = R) := ⟨_, rfl⟩
  have HR : Hid (R = if ckN la = 0 then (if ckN lb = 0 then (nf (jnF la lb), 0) else ([], ckN lb)) else ([], ckN la)) := Hid.mk' (by rw [← hR.out]; rfl)
  rw [hR.out]
  clear hR
  generalize ckN la = E at *
  generalize ckN lb = G at *
  go_enter Try.func23, Try.ntmps23
  go_wp2_with fail
  refine KP.mono ?_
  rintro e w1 ⟨rfl, b1⟩
  have B1 := Hid.mk' b1
  clear b1 KP
  by_cases hE : E = 0
  · subst hE
    have HOKA := Hid.mk' (HCA.out rfl)
    clear HCA
    have KQ1 := KQ w1 (HVB.out.below B1.out)
    go_wp2_with fail
    refine KQ1.mono ?_
    rintro e w2 ⟨rfl, b2⟩
    have B2 : Hid (Below w.heap.size w w2) := Hid.mk' (B1.out.trans (b2.mono B1.out.size))
    clear b2 KQ KQ1
    by_cases hG : G = 0
    · subst hG
      have HOKB := Hid.mk' (HCB.out rfl)
      have HFB := Hid.mk' (fn_by HOKB.out)
      clear HCB
      have HRE : Hid (R = (nf (jnF la lb), 0)) := Hid.mk' (by rw [HR.out]; simp)
      have KT1 := KT w2 (HVA.out.below B2.out) HOKA.out
      go_wp2_with fail
      refine KT1.mono ?_
      rintro e w3 ⟨⟨vt, rfl, hT⟩, b3⟩
      obtain ⟨g, c, rfl, hgl, hgb⟩ := hT.slc
      have B3 : Hid (Below w.heap.size w w3) := Hid.mk' (B2.out.trans (b3.mono B2.out.size))
      have HGB : Hid (w.heap.size ≤ g) := Hid.mk' (Nat.le_trans B2.out.size hgb)
      have T0 : Hid (To w3 w2.heap.size (.slice (some ⟨g, 0, none⟩) 257 c) (jnT la lb 0)) := Hid.mk' (hT.ext (fun z => jnT_zero HOKA.out HOKB.out z))
      have HG3 : Hid (g < w3.heap.size) := hgl
      clear hT b3 hgb hgl KT KT1
      go_wp2_with fail
      go_loopw [8] (fun r wr => ∃ k : Nat, r = .int .i64 k ∧ k ≤ 257 ∧ Hid (To wr w2.heap.size (.slice (some ⟨g, 0, none⟩) 257 c) (jnT la lb k)) ∧ Hid (Below w.heap.size w wr)) (fun r _ => ((257 : Int) - iv r).toNat)
      case atStart => exact ⟨0, rfl, by omega, T0, B3⟩
      case round =>
        clear T0 B3
        obtain ⟨k, rfl, hk, hT, hB⟩ := hrel
        by_cases hkn : k < 257
        · have hlk : (k : Int) < 257 := by omega
          obtain ⟨e0, e1⟩ := hT.out.at hkn
          have HT5 : Hid (∀ M, min (jnT la lb k k) (byN lb k) = M → To ((wr.setCell ⟨g, k, none⟩ (.int .i64 M)).drew) w2.heap.size (.slice (some ⟨g, 0, none⟩) 257 c) (jnT la lb (k + 1))) := Hid.mk' (fun M hM => by
            refine World.ownsRow.drew ((hT.out.set k M).ext (fun z => ?_))
            rw [jnT_step, hM])
          have B5 : Hid (∀ M, Below w.heap.size w ((wr.setCell ⟨g, k, none⟩ (.int .i64 M)).drew)) := Hid.mk' (fun M => by
            have h1 : Kept (fun j => j = g) w (wr.setCell ⟨g, k, none⟩ (.int .i64 M)) := Kept.setCell (S := fun j => j = g) (p := ⟨g, k, none⟩) ⟨hB.out.os, hB.out.tape, hB.out.output, hB.out.size, fun j hj _ => hB.out.block j hj⟩ (fun _ => rfl) _
            exact h1.drew.below (Nat.le_refl _) (fun j hj e => by have := HGB.out; omega))
          have KBk : ∀ m, Calls Try.prog 13 #[vb, .int .i64 k] (wr.drewN m) fun e w' => e = .returned (.int .i64 (byN lb k)) ∧ wr.drewN m = w' := fun m => KB k _ ((HVB.out.below hB.out).below (Dr.below ⟨m, rfl⟩ _))
          generalize jnT la lb k (k : Int) = V at *
          generalize byN lb (k : Int) = Y at *
          obtain ⟨M, hM⟩ : ∃ M, min V Y = M := ⟨_, rfl⟩
          have T5 := Hid.mk' (HT5.out M hM)
          have B6 := Hid.mk' (B5.out M)
          clear HT5 B5
          go_wp2_with fail
          go_region_with (go_at_call 13; refine (KBk 1).mono ?_; rintro e w5 ⟨rfl, rfl⟩)
          all_goals
            go_wp2_with fail
            go_roundw
            case rel => exact ⟨k + 1, by go_num, hkn, T5, B6⟩
            case measure => simp [iv]; omega
        · have hlk : ¬ (k : Int) < 257 := by omega
          have hkn : k = 257 := by omega
          subst hkn
          have PF : Hid (To wr w2.heap.size (.slice (some ⟨g, 0, none⟩) 257 c) (jnF la lb)) := Hid.mk' (hT.out.ext (fun z => jnT_all HOKA.out HOKB.out z))
          go_wp2_with fail
          refine (of_any _ _ _ _ PF.out (fn_join HOKA.out HOKB.out)).mono ?_
          rintro e w4 ⟨⟨vr, rfl, hrow⟩, b4⟩
          have HRW := Hid.mk' hrow
          have B4 : Hid (Below w.heap.size w w4) := Hid.mk' (hB.out.trans (b4.mono hB.out.size))
          clear hrow b4
          go_wp2_with fail
          go_ret2
          rw [HRE.out]
          exact ⟨⟨_, rfl, ownsRow_base HRW.out hB.out.size⟩, B4.out⟩
    · have HRE : Hid (R = ([], G)) := Hid.mk' (by rw [HR.out]; simp [hG])
      go_wp2_with fail
      go_ret2
      rw [HRE.out]
      exact ⟨ans_none _ _ _, B2.out⟩
  · have HRE : Hid (R = ([], E)) := Hid.mk' (by rw [HR.out, if_neg hE])
    go_wp2_with fail
    go_ret2
    rw [HRE.out]
    exact ⟨ans_none _ _ _, B1.out⟩
end Go.Proofs.Ytagnaefpkgekmaa
