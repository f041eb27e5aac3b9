/- The contracts of Prove, Forget, Join. -/
import Derived.Test.YtagnaefpkgekmabCd
namespace Go.Proofs.Ytagnaefpkgekmab
open Go.ChangeShapes Go.WideShapes Go.ChangeAt Go.RowKit Go.Maps Go.Sort Go.Shelf
set_option maxRecDepth 10000

/-- What a call answers: a list and an error. -/
def Ans (w w' : World) (e : Ending) (r : List Kn × Int) : Prop := ∃ v, e = .returned (.tuple #[v, .int .i64 r.2]) ∧ w'.ownsRow w.heap.size 27 2 v r.1.length (knC r.1)
theorem ans_none (w w' : World) (er : Int) : Ans w w' (.returned (.tuple #[.slice none 0 0, .int .i64 er])) ([], er) := ⟨_, rfl, World.ownsRow_nil _ _ _ _⟩
def pvF (f : Int → Int) (id n : Int) : Int → Int := upd f id (max (f id) (min n 2048))
def pvN (l : List Kn) (id n : Int) : List Kn × Int := if ckN l = 0 then (if isId id = true then (if n < 0 then ([], 2) else (nf (pvF (byN l) id n), 0)) else ([], 2)) else ([], ckN l)
def fgN (l : List Kn) (id : Int) : List Kn × Int := if ckN l = 0 then (if isId id = true then (nf (upd (byN l) id 0), 0) else ([], 2)) else ([], ckN l)
def jnF (a b : List Kn) (z : Int) : Int := min (byN a z) (byN b z)
def jnN (a b : List Kn) : List Kn × Int := if ckN a = 0 then (if ckN b = 0 then (nf (jnF a b), 0) else ([], ckN b)) else ([], ckN a)

theorem isId_iff (n : Int) : isId n = true ↔ 0 ≤ n ∧ n ≤ 256 := by unfold isId; simp

set_option maxHeartbeats 2000000 in
theorem prove_any (v : Value) (l : List Kn) (id n : Int) (w : World) (h : Ks w v l) (hid : In64 id) : Calls Try.prog 6 #[v, .int .i64 id, .int .i64 n] w fun e w' => Ans w w' e (pvN l id n) ∧ Below w.heap.size w w' := by
  have KP := proofof_any v l w h
  clear h
  have HC : Hid (ckN l = 0 → Fn (byN l)) := Hid.mk' (fun e => fn_by (by
    unfold ckN at e
    by_cases h1 : 257 < l.length
    · rw [if_pos h1] at e; cases e
    · rw [if_neg h1] at e
      by_cases h2 : okF (-1) l = true
      · exact h2
      · rw [if_neg h2] at e; cases e))
  obtain ⟨R, hR⟩ : ∃ R, Hid (pvN l id n = R) := ⟨_, rfl⟩
  have HR : Hid (R = if ckN l = 0 then (if isId id = true then (if n < 0 then ([], 2) else (nf (pvF (byN l) id n), 0)) else ([], 2)) else ([], ckN l)) := Hid.mk' (by rw [← hR.out]; rfl)
  rw [hR.out]
  clear hR
  generalize ckN l = E at *
  go_enter Try.func6, Try.ntmps6
  go_wp2_with fail
  refine KP.mono ?_
  rintro e w1 ⟨⟨m, rfl, hm⟩, b1⟩
  have B1 := Hid.mk' b1
  have HM := Hid.mk' hm
  clear b1 hm KP
  by_cases hE : E = 0
  · subst hE
    obtain ⟨b, rfl, hwb, hP⟩ := HM.out rfl
    have HP := Hid.mk' hP
    have hf := HC.out rfl
    have HF := Hid.mk' hf
    clear HM hP HC hf
    have KI := fun u => ispointer_any id u
    by_cases g1 : isId id = true
    · obtain ⟨q0, q1⟩ := (isId_iff id).1 g1
      rw [g1] at KI
      by_cases g2 : n < 0
      · have HRE : Hid (R = ([], 2)) := Hid.mk' (by rw [HR.out, if_pos rfl, if_pos g1, if_pos g2])
        go_wp2_with (go_at_call 16; refine (KI _).mono ?_; rintro e u ⟨rfl, rfl⟩)
        go_ret2
        rw [HRE.out]
        exact ⟨ans_none _ _ _, B1.out⟩
      · have HRE : Hid (R = (nf (pvF (byN l) id n), 0)) := Hid.mk' (by rw [HR.out, if_pos rfl, if_pos g1, if_neg g2])
        obtain ⟨D, ho, hs, hf⟩ := HP.out
        have HO := Hid.mk' ho
        have HS := Hid.mk' (hs id (WalkArith.wf_i64 hid)).1
        clear ho hs hf
        go_wp2_with (first
          | (go_at_call 16; refine (KI _).mono ?_; rintro e u ⟨rfl, rfl⟩)
          | (at_lookup; refine wpList_lookup_own_int _ rfl _ _ 48 rfl 3 3 .i64 lawI Try.underlying48 Try.underlying3 (zeroI _) b 257 D rfl HO.out _ _ rfl (key_i id hid) ?_; intro c2 hat hwc; have HC2 : Hid (c2 = byN l id) := Hid.mk' (lit_inj (HS.out.symm.trans hat)); clear hat hwc))
        have hbd : 0 ≤ c2 ∧ c2 ≤ 2048 := by
          have h1 := HF.out.low id
          have h2 := HF.out.high id
          rw [← HC2.out] at h1 h2
          exact ⟨h1, h2⟩
        obtain ⟨M, hM⟩ : ∃ M, max c2 (min n 2048) = M := ⟨_, rfl⟩
        have hM0 : 0 ≤ M := by omega
        have hM1 : M ≤ 2048 := by omega
        have HM : Hid (max (byN l id) (min n 2048) = M) := Hid.mk' (by rw [← HC2.out]; exact hM)
        rw [hM]
        clear hM hbd
        refine (put_any b (byN l) id M _ HP.out ⟨q0, q1⟩ hM0 hM1).mono ?_
        rintro e w2 ⟨rfl, hP2, hg2⟩
        have HP2 := Hid.mk' hP2
        have HG2 := Hid.mk' hg2
        have HWB : Hid (w.heap.size ≤ b) := Hid.mk' hwb
        clear hP2 hg2
        have B2 : Hid (Below w.heap.size w w2) := Hid.mk' (B1.out.grown HG2.out B1.out.size (fun j e => by cases e; exact HWB.out))
        go_wp2_with fail
        refine (list_any b _ _ HP2.out).mono ?_
        rintro e w3 ⟨⟨vr, rfl, hrow⟩, b3⟩
        have HRW := Hid.mk' hrow
        have B3 : Hid (Below w.heap.size w w3) := Hid.mk' (B2.out.trans (b3.mono B2.out.size))
        clear hrow b3
        go_wp2_with fail
        go_ret2
        rw [HRE.out]
        refine ⟨⟨_, rfl, ?_⟩, B3.out⟩
        have h1 := ownsRow_base HRW.out B2.out.size
        have e1 : pvF (byN l) id n = upd (byN l) id M := by unfold pvF; rw [HM.out]
        rw [e1]
        exact h1
    · have g1' : isId id = false := by simpa using g1
      rw [g1'] at KI
      have HRE : Hid (R = ([], 2)) := Hid.mk' (by rw [HR.out, if_pos rfl, if_neg g1])
      go_wp2_with (go_at_call 16; refine (KI _).mono ?_; rintro e u ⟨rfl, rfl⟩)
      go_ret2
      rw [HRE.out]
      exact ⟨ans_none _ _ _, B1.out⟩
  · have HRE : Hid (R = ([], E)) := Hid.mk' (by rw [HR.out, if_neg hE])
    clear HM
    go_wp2_with fail
    go_ret2
    rw [HRE.out]
    exact ⟨ans_none _ _ _, B1.out⟩

theorem ck_fn {l : List Kn} (h : ckN l = 0) : okF (-1) l = true ∧ l.length ≤ 257 := by
  unfold ckN at h
  by_cases h1 : 257 < l.length
  · rw [if_pos h1] at h; cases h
  · rw [if_neg h1] at h
    by_cases h2 : okF (-1) l = true
    · exact ⟨h2, by omega⟩
    · rw [if_neg h2] at h; cases h

set_option maxHeartbeats 2000000 in
theorem forget_any (v : Value) (l : List Kn) (id : Int) (w : World) (h : Ks w v l) (hid : In64 id) : Calls Try.prog 7 #[v, .int .i64 id] w fun e w' => Ans w w' e (fgN l id) ∧ Below w.heap.size w w' := by
  have KP := proofof_any v l w h
  clear h
  have HC : Hid (ckN l = 0 → Fn (byN l)) := Hid.mk' (fun e => fn_by (ck_fn e).1)
  obtain ⟨R, hR⟩ : ∃ R, Hid (fgN l id = R) := ⟨_, rfl⟩
  have HR : Hid (R = if ckN l = 0 then (if isId id = true then (nf (upd (byN l) id 0), 0) else ([], 2)) else ([], ckN l)) := Hid.mk' (by rw [← hR.out]; rfl)
  rw [hR.out]
  clear hR
  generalize ckN l = E at *
  go_enter Try.func7, Try.ntmps7
  go_wp2_with fail
  refine KP.mono ?_
  rintro e w1 ⟨⟨m, rfl, hm⟩, b1⟩
  have B1 := Hid.mk' b1
  have HM := Hid.mk' hm
  clear b1 hm KP
  by_cases hE : E = 0
  · subst hE
    obtain ⟨b, rfl, hwb, hP⟩ := HM.out rfl
    have hf := HC.out rfl
    have HF := Hid.mk' hf
    have KI := fun u => ispointer_any id u
    have HWB : Hid (w.heap.size ≤ b) := Hid.mk' hwb
    have HP := Hid.mk' hP
    clear HM hP HC hf hwb
    by_cases g1 : isId id = true
    · obtain ⟨q0, q1⟩ := (isId_iff id).1 g1
      rw [g1] at KI
      have HRE : Hid (R = (nf (upd (byN l) id 0), 0)) := Hid.mk' (by rw [HR.out, if_pos rfl, if_pos g1])
      obtain ⟨D, ho, hs, hf⟩ := HP.out
      have HO := Hid.mk' ho
      have HS := Hid.mk' hs
      clear ho hs hf
      go_wp2_with (first
        | (go_at_call 16; refine (KI _).mono ?_; rintro e u ⟨rfl, rfl⟩)
        | (at_delete; refine wpList_delete_own _ rfl _ _ 48 3 rfl 3 lawI Try.underlying48 _ b 257 D rfl HO.out _ _ rfl (key_i id hid) ?_; intro w2 hown2 hturn2; have HP2 : Hid (Pm w2 b (upd (byN l) id 0)) := Hid.mk' (Pm.mk' hown2 (HS.out.del id) (HF.out.upd ⟨q0, q1⟩ (by omega) (by omega))); have HG2 := Hid.mk' hturn2.grown; clear hown2 hturn2))
      have B2 : Hid (Below w.heap.size w w2) := Hid.mk' (B1.out.grown HG2.out B1.out.size (fun j e => by cases e; exact HWB.out))
      refine (list_any b _ _ HP2.out).mono ?_
      rintro e w3 ⟨⟨vr, rfl, hrow⟩, b3⟩
      have HRW := Hid.mk' hrow
      have B3 : Hid (Below w.heap.size w w3) := Hid.mk' (B2.out.trans (b3.mono B2.out.size))
      clear hrow b3
      go_wp2_with fail
      go_ret2
      rw [HRE.out]
      exact ⟨⟨_, rfl, ownsRow_base HRW.out B2.out.size⟩, B3.out⟩
    · have g1' : isId id = false := by simpa using g1
      rw [g1'] at KI
      have HRE : Hid (R = ([], 2)) := Hid.mk' (by rw [HR.out, if_pos rfl, if_neg g1])
      go_wp2_with (go_at_call 16; refine (KI _).mono ?_; rintro e u ⟨rfl, rfl⟩)
      go_ret2
      rw [HRE.out]
      exact ⟨ans_none _ _ _, B1.out⟩
  · have HRE : Hid (R = ([], E)) := Hid.mk' (by rw [HR.out, if_neg hE])
    clear HM
    go_wp2_with fail
    go_ret2
    rw [HRE.out]
    exact ⟨ans_none _ _ _, B1.out⟩

/-- What of the first list has been joined. -/
def jnU (a b : List Kn) (k : Nat) (z : Int) : Int := if hasN (a.take k) z = true then min (byN a z) (byN b z) else byN a z
theorem jnU_zero (a b : List Kn) (z : Int) : jnU a b 0 z = byN a z := by unfold jnU; rw [List.take_zero]; rfl
theorem jnU_step {a b : List Kn} (ha : okF (-1) a = true) {k : Nat} (hk : k < a.length) (z : Int) : jnU a b (k + 1) z = upd (jnU a b k) (idA a k) (min (bA a k) (byN b (idA a k))) z := by
  unfold jnU upd
  rw [take_get hk, has_append, has_one]
  by_cases e : z = idA a k
  · subst e
    have h1 : byN a (idA a k) = bA a k := by
      have h2 := by_append (a.take k) (a.drop k) (idA a k)
      rw [List.take_append_drop, ok_fresh ha hk, drop_get hk] at h2
      rw [h2]
      simp [byN]
    simp [h1]
  · have e' : ¬ idA a k = z := fun h => e h.symm
    rw [if_neg e]
    simp [e']
theorem jnU_all {a b : List Kn} (hb : okF (-1) b = true) {k : Nat} (hk : a.length ≤ k) (z : Int) : jnF a b z = jnU a b k z := by
  unfold jnU jnF
  rw [List.take_of_length_le hk]
  by_cases h : hasN a z = true
  · rw [if_pos h]
  · have h' : hasN a z = false := by simpa using h
    rw [if_neg h, by_of_not a z h']
    have := (fn_by hb).low z
    omega

set_option maxHeartbeats 2000000 in
theorem join_any (va vb : Value) (la lb : List Kn) (w : World) (ha : Ks w va la) (hb : Ks w vb lb) : Calls Try.prog 26 #[va, vb] w fun e w' => Ans w w' e (jnN la lb) ∧ Below w.heap.size w w' := by
  have KP := proofof_any va la w ha
  have KQ := fun u hu => proofof_any vb lb u hu
  have HVB := Hid.mk' hb
  obtain ⟨a, c, rfl, hl⟩ := ha.lies
  have hlen := ha.len
  have HB := Hid.mk' ha.inb
  have HL := Hid.mk' hl
  clear ha hl hb
  have HCA : Hid (ckN la = 0 → okF (-1) la = true ∧ la.length ≤ 257) := Hid.mk' ck_fn
  have HCB : Hid (ckN lb = 0 → okF (-1) lb = true ∧ lb.length ≤ 257) := Hid.mk' ck_fn
  obtain ⟨R, hR⟩ : ∃ R, Hid (jnN la lb = R) := ⟨_, rfl⟩
  have HR : Hid (R = if ckN la = 0 then (if ckN lb = 0 then (nf (jnF la lb), 0) else ([], ckN lb)) else ([], ckN la)) := Hid.mk' (by rw [← hR.out]; rfl)
  rw [hR.out]
  clear hR
  generalize ckN la = E at *
  generalize ckN lb = G at *
  obtain ⟨n, hn⟩ : ∃ n, la.length = n := ⟨_, rfl⟩
  rw [hn] at hlen KP HCA ⊢
  have HN := Hid.mk' hn
  clear hn
  go_enter Try.func26, Try.ntmps26
  go_wp2_with fail
  refine KP.mono ?_
  rintro e w1 ⟨⟨m, rfl, hm⟩, b1⟩
  have B1 := Hid.mk' b1
  have HM := Hid.mk' hm
  clear b1 hm KP
  by_cases hE : E = 0
  · subst hE
    obtain ⟨b, rfl, hwb, hP⟩ := HM.out rfl
    obtain ⟨hoka, hlen2⟩ := HCA.out rfl
    have HOKA := Hid.mk' hoka
    have HWB : Hid (w.heap.size ≤ b) := Hid.mk' hwb
    have HP := Hid.mk' hP
    clear HM hP HCA hoka hwb
    have KQ1 := KQ w1 (HVB.out.below B1.out)
    go_wp2_with fail
    refine KQ1.mono ?_
    rintro e w2 ⟨⟨m2, rfl, hm2⟩, b2⟩
    have B2 : Hid (Below w.heap.size w w2) := Hid.mk' (B1.out.trans (b2.mono B1.out.size))
    have HPA2 : Hid (Pm w2 b (byN la)) := Hid.mk' (HP.out.below b2)
    have HM2 := Hid.mk' hm2
    have HBL : Hid (b < w1.heap.size) := Hid.mk' HP.out.lt
    clear b2 hm2 KQ KQ1
    by_cases hG : G = 0
    · subst hG
      obtain ⟨b2, rfl, hwb2, hP2⟩ := HM2.out rfl
      obtain ⟨hokb, -⟩ := HCB.out rfl
      have HOKB := Hid.mk' hokb
      have HNE : Hid (b2 ≠ b) := Hid.mk' (by have := HBL.out; omega)
      have HPB2 := Hid.mk' hP2
      have HRE : Hid (R = (nf (jnF la lb), 0)) := Hid.mk' (by rw [HR.out]; simp)
      clear HM2 hP2 HCB hokb hwb2
      have J0 : Hid (Pm w2 b (jnU la lb 0)) := Hid.mk' (HPA2.out.ext (jnU_zero la lb))
      go_wp2_with fail
      go_loopw [29] (fun r wr => ∃ k : Nat, r = .int .i64 k ∧ k ≤ n ∧ Hid (Pm wr b (jnU la lb k)) ∧ Hid (Pm wr b2 (byN lb)) ∧ Hid (Below w.heap.size w wr)) (fun r _ => ((n : Int) - iv r).toNat)
      case atStart => exact ⟨0, rfl, Nat.zero_le _, J0, HPB2, B2⟩
      case round =>
        clear J0 HPB2 B2 HPA2
        obtain ⟨k, rfl, hk, hJ, hQ, hB⟩ := hrel
        by_cases hkn : k < n
        · obtain ⟨b3, off, ea, hbl, c0, c1, i0, i1⟩ := lkn_at HL.out HB.out (show k < la.length by rw [HN.out]; exact hkn)
          subst ea
          have hblt : b3 < wr.heap.size := Nat.lt_of_lt_of_le hbl hB.out.size
          have d0 := (hB.out.cell (p := ⟨b3, off + k * 2, none⟩) hbl).trans c0
          have d1 := (hB.out.cell (p := ⟨b3, off + k * 2 + 1, none⟩) hbl).trans c1
          have HT := Hid.mk' (fun z => jnU_step HOKA.out (b := lb) (k := k) (by rw [HN.out]; exact hkn) z)
          have HA := Hid.mk' (ok_at HOKA.out (k := k) (by rw [HN.out]; exact hkn))
          clear c0 c1 hbl
          generalize idA la k = I at *
          generalize bA la k = N at *
          have hlk : (k : Int) < (n : Int) := by omega
          obtain ⟨D, ho, hs, hf⟩ := hQ.out
          have HO := Hid.mk' (World.ownsMap.alloc ho (.cells #[.int .i64 I, .int .i64 N] 27))
          have HS := Hid.mk' (hs I (WalkArith.wf_i64 i0)).1
          have HFB := Hid.mk' hf
          have HJA : Hid (Pm (wr.alloc (.cells #[.int .i64 I, .int .i64 N] 27)) b (jnU la lb k)) := Hid.mk' (hJ.out.below ((Below.refl _ _).alloc (Nat.le_refl _) _))
          have HQA : Hid (Pm (wr.alloc (.cells #[.int .i64 I, .int .i64 N] 27)) b2 (byN lb)) := Hid.mk' (hQ.out.below ((Below.refl _ _).alloc (Nat.le_refl _) _))
          have HBA : Hid (Below w.heap.size w (wr.alloc (.cells #[.int .i64 I, .int .i64 N] 27))) := Hid.mk' (hB.out.alloc hB.out.size _)
          clear ho hs hf
          go_wp2_with (first
            | (at_lookup; refine wpList_lookup_own_int _ rfl _ _ 48 rfl 3 3 .i64 lawI Try.underlying48 Try.underlying3 (zeroI _) b2 257 D rfl HO.out _ _ rfl (key_i I i0) ?_; intro c2 hat hwc; have HC2 : Hid (c2 = byN lb I) := Hid.mk' (lit_inj (HS.out.symm.trans hat)); clear hat hwc))
          have hbd : 0 ≤ c2 ∧ c2 ≤ 2048 := by
            have h1 := HFB.out.low I
            have h2 := HFB.out.high I
            rw [← HC2.out] at h1 h2
            exact ⟨h1, h2⟩
          obtain ⟨M, hM⟩ : ∃ M, min N c2 = M := ⟨_, rfl⟩
          have hN1 := HA.out.2.1
          have hM0 : 0 ≤ M := by omega
          have hM1 : M ≤ 2048 := by omega
          have HM3 : Hid (min N (byN lb I) = M) := Hid.mk' (by rw [← HC2.out]; exact hM)
          rw [hM]
          clear hM hbd hN1
          refine (put_any b _ I M _ HJA.out HA.out.1 hM0 hM1).mono ?_
          rintro e w4 ⟨rfl, hP4, hg4⟩
          have J4 : Hid (Pm w4 b (jnU la lb (k + 1))) := Hid.mk' (hP4.ext (fun z => by rw [HT.out z, HM3.out]))
          have Q4 : Hid (Pm w4 b2 (byN lb)) := Hid.mk' (HQA.out.grown hg4 (fun e => HNE.out (by cases e; rfl)))
          have B4 : Hid (Below w.heap.size w w4) := Hid.mk' (HBA.out.grown hg4 HBA.out.size (fun j e => by cases e; exact HWB.out))
          clear hP4 hg4 HJA HQA HBA HO
          go_wp2_with fail
          go_roundw
          case rel => exact ⟨k + 1, by go_num, hkn, J4, Q4, B4⟩
          case measure => simp [iv]; omega
        · have hlk : ¬ (k : Int) < (n : Int) := by omega
          have hkn : k = n := by omega
          have PF : Hid (Pm wr b (jnF la lb)) := Hid.mk' (hJ.out.ext (fun z => jnU_all HOKB.out (by rw [HN.out]; omega) z))
          go_wp2_with fail
          refine (list_any b _ _ PF.out).mono ?_
          rintro e w3 ⟨⟨vr, rfl, hrow⟩, b3⟩
          have HRW := Hid.mk' hrow
          have B3 : Hid (Below w.heap.size w w3) := Hid.mk' (hB.out.trans (b3.mono hB.out.size))
          clear hrow b3
          go_wp2_with fail
          go_ret2
          rw [HRE.out]
          exact ⟨⟨_, rfl, ownsRow_base HRW.out hB.out.size⟩, B3.out⟩
    · have HRE : Hid (R = ([], G)) := Hid.mk' (by rw [HR.out]; simp [hG])
      clear HM2
      go_wp2_with fail
      go_ret2
      rw [HRE.out]
      exact ⟨ans_none _ _ _, B2.out⟩
  · have HRE : Hid (R = ([], E)) := Hid.mk' (by rw [HR.out, if_neg hE])
    clear HM
    go_wp2_with fail
    go_ret2
    rw [HRE.out]
    exact ⟨ans_none _ _ _, B1.out⟩
end Go.Proofs.Ytagnaefpkgekmab
