/- A region that draws its order, whatever the order is: each operation's value meets its own word, that holds on while blocks are only laid; it leans on the words of those alone that the order puts ahead of it. -/
import Derived.Test.YtffjddabjjcjpaaBw
import Derived.Orders
import Derived.KernelRfl
namespace Go.Proofs.Ytffjddabjjcjpaa
open Go.ChangeShapes Go.WideShapes Go.ChangeAt Go.RowKit

/-- The order puts those of a list ahead of an operation. -/
def aheadB (o : Oper) (l : List Nat) : Bool := l.all fun j => o.after.any fun e => Region.binds .any e && e.on == j
/-- No guard; a slot of its own below n; what is ahead has a lesser number; the order puts ahead what is said. -/
def freeB (n : Nat) (D : List (List Nat)) (ops : Array Oper) : Bool :=
  decide (D.length = ops.size) && ((ops.toList.map (·.dst)).all fun d => match d with | some k => decide (k < n) | none => false) && decide ((ops.toList.map (·.dst)).Nodup)
  && (List.range ops.size).all fun i => match ops[i]? with
    | some o => o.guard.isNone && (o.after.all fun e => !(Region.binds .any e) || decide (e.on < i)) && aheadB o (D.getD i [])
    | none => false

/-- What is known in the middle of the region. -/
structure Mid (ops : Array Oper) (Φ : Nat → Value → World → Prop) (a0 : Act) (w0 : World) (listed : Array Bool) (a : Act) (w : World) : Prop where
  size : listed.size = ops.size
  tmps : a.tmps.size = a0.tmps.size
  defers : a.defers = a0.defers
  old : Below w0.heap.size w0 w
  done : ∀ (i : Nat) (o : Oper) (d : Nat), listed[i]? = some true → ops[i]? = some o → o.dst = some d → Φ i (a.tmps.getD d undef) w
  rest : ∀ t : Nat, (∀ (i : Nat) (o : Oper), ops[i]? = some o → o.dst ≠ some t) → a.tmps.getD t undef = a0.tmps.getD t undef

theorem freeB_at {n : Nat} {D : List (List Nat)} {ops : Array Oper} (h : freeB n D ops = true) {i : Nat} {o : Oper} (ho : ops[i]? = some o) :
    o.guard = none ∧ (∃ d, o.dst = some d ∧ d < n) ∧ (∀ e ∈ o.after, Region.binds .any e = true → e.on < i) ∧ ∀ j ∈ D.getD i [], ∃ e ∈ o.after, Region.binds .any e = true ∧ e.on = j := by
  unfold freeB at h
  simp only [Bool.and_eq_true] at h
  obtain ⟨⟨⟨h1, h2⟩, h3⟩, h4⟩ := h
  obtain ⟨hi, hoi⟩ := Array.getElem?_eq_some_iff.1 ho
  have h5 := List.all_eq_true.1 h4 i (List.mem_range.2 hi)
  rw [ho] at h5
  simp only [Bool.and_eq_true] at h5
  obtain ⟨⟨h6, h7⟩, h8⟩ := h5
  have h9 := List.all_eq_true.1 h2 o.dst (List.mem_map.2 ⟨o, by rw [← hoi]; simp, rfl⟩)
  refine ⟨by simpa using h6, ?_, fun e he hbd => ?_, fun j hj => ?_⟩
  · cases hd : o.dst with
    | none => rw [hd] at h9; simp at h9
    | some d => rw [hd] at h9; exact ⟨d, rfl, by simpa using h9⟩
  · have := Array.all_eq_true_iff_forall_mem.1 h7 e he
    rw [hbd] at this
    simpa using this
  · have := List.all_eq_true.1 h8 j hj
    rw [Array.any_eq_true] at this
    obtain ⟨k, hk, h10⟩ := this
    simp only [Bool.and_eq_true, beq_iff_eq] at h10
    exact ⟨o.after[k], Array.getElem_mem hk, h10.1, h10.2⟩

theorem freeB_inj {n : Nat} {D : List (List Nat)} {ops : Array Oper} (h : freeB n D ops = true) {i j : Nat} {o o' : Oper} {d : Nat} (ho : ops[i]? = some o) (ho' : ops[j]? = some o') (hd : o.dst = some d) (hd' : o'.dst = some d) : i = j := by
  unfold freeB at h
  simp only [Bool.and_eq_true] at h
  have hn := of_decide_eq_true h.1.2
  have e1 : (ops.toList.map (·.dst))[i]? = some (some d) := by simp [ho, hd]
  have e2 : (ops.toList.map (·.dst))[j]? = some (some d) := by simp [ho', hd']
  obtain ⟨l1, g1⟩ := List.getElem?_eq_some_iff.1 e1
  obtain ⟨l2, g2⟩ := List.getElem?_eq_some_iff.1 e2
  by_cases c : i = j
  · exact c
  · exfalso
    have hp := List.pairwise_iff_getElem.1 hn
    rcases Nat.lt_or_gt_of_ne c with c | c
    · exact hp i j l1 l2 c (by rw [g1, g2])
    · exact hp j i l2 l1 c (by rw [g2, g1])

theorem wpAny_free {P : Program} {ops : Array Oper} {Q : Exit → Act → World → Prop} (D : List (List Nat)) (Φ : Nat → Value → World → Prop) (a0 : Act) (w0 : World)
    (hfree : freeB a0.tmps.size D ops = true) (hmono : ∀ i v w w', Φ i v w → Below w.heap.size w w' → Φ i v w')
    (hstep : ∀ (i : Nat) (o : Oper) (a : Act) (w : World) (K : Act → World → Prop), ops[i]? = some o → Below w0.heap.size w0 w → (∀ j ∈ D.getD i [], ∀ (oj : Oper) (d : Nat), ops[j]? = some oj → oj.dst = some d → Φ j (a.tmps.getD d undef) w) →
      (∀ t : Nat, (∀ (j : Nat) (oj : Oper), ops[j]? = some oj → oj.dst ≠ some t) → a.tmps.getD t undef = a0.tmps.getD t undef) → (∀ v w', Φ i v w' → Below w.heap.size w w' → K (a.put o.dst v) w') → o.wp P a w K Q)
    (hQ : ∀ a w, a.tmps.size = a0.tmps.size → a.defers = a0.defers → Below w0.heap.size w0 w → (∀ (i : Nat) (o : Oper) (d : Nat), ops[i]? = some o → o.dst = some d → Φ i (a.tmps.getD d undef) w) →
      (∀ t : Nat, (∀ (i : Nat) (o : Oper), ops[i]? = some o → o.dst ≠ some t) → a.tmps.getD t undef = a0.tmps.getD t undef) → Q .normal a w) :
    wpAny P .any ops Q ops.size (Array.replicate ops.size false) a0 w0 := by
  have key : ∀ (fuel : Nat) (listed : Array Bool) (a : Act) (w : World), Mid ops Φ a0 w0 listed a w → (listed.toList.count false) = fuel → wpAny P .any ops Q fuel listed a w := by
    intro fuel
    induction fuel with
    | zero =>
      intro listed a w hm hc
      have hall : ∀ i, i < ops.size → listed[i]? = some true := by
        intro i hi
        have hl : i < listed.size := by rw [hm.size]; exact hi
        rw [Array.getElem?_eq_getElem hl]
        cases hb : listed[i] with
        | true => rfl
        | false =>
          have : false ∈ listed.toList := by rw [← hb]; simp
          have := List.count_pos_iff.2 this
          omega
      refine ⟨?_, hQ a w hm.tmps hm.defers hm.old (fun i o d ho hd => hm.done i o d (hall i (Array.getElem?_eq_some_iff.1 ho).1) ho hd) hm.rest⟩
      unfold Region.ready
      rw [List.filter_eq_nil_iff]
      intro i hi
      have := hall i (List.mem_range.1 hi)
      simp [Array.getD_eq_getD_getElem?, this]
    | succ fuel ih =>
      intro listed a w hm hc
      constructor
      · intro hnil
        exfalso
        -- the least that is not listed is ready
        have hex : ∃ i, i < ops.size ∧ listed[i]? = some false := by
          have : false ∈ listed.toList := List.count_pos_iff.1 (by omega)
          obtain ⟨i, hi⟩ := List.getElem?_of_mem this
          rw [Array.getElem?_toList] at hi
          exact ⟨i, by rw [← hm.size]; exact (Array.getElem?_eq_some_iff.1 hi).1, hi⟩
        obtain ⟨m, hm1, hm2⟩ : ∃ m, (m < ops.size ∧ listed[m]? = some false) ∧ ∀ j, j < m → ¬ (j < ops.size ∧ listed[j]? = some false) := by
          obtain ⟨i, hi⟩ := hex
          induction i using Nat.strongRecOn with
          | ind i ihh =>
            by_cases c : ∃ j, j < i ∧ (j < ops.size ∧ listed[j]? = some false)
            · obtain ⟨j, hj, hj2⟩ := c
              exact ihh j hj hj2
            · exact ⟨i, hi, fun j hj h => c ⟨j, hj, h⟩⟩
        have hmem : m ∈ Region.ready .any ops listed := by
          unfold Region.ready
          rw [List.mem_filter]
          refine ⟨List.mem_range.2 hm1.1, ?_⟩
          have ho : ops[m]? = some ops[m] := Array.getElem?_eq_getElem hm1.1
          obtain ⟨-, -, h3, -⟩ := freeB_at hfree ho
          rw [ho]
          simp only [Array.getD_eq_getD_getElem?, hm1.2, Option.getD_some, Bool.not_false, Bool.true_and, Option.map_some]
          refine Array.all_eq_true_iff_forall_mem.2 (fun e he => ?_)
          by_cases hbd : Region.binds .any e = true
          case neg => simp [Bool.eq_false_iff.2 hbd]
          have h5 := h3 e he hbd
          have h6 : listed[e.on]? = some true := by
            have hl : e.on < listed.size := by rw [hm.size]; omega
            rw [Array.getElem?_eq_getElem hl]
            cases hb : listed[e.on] with
            | true => rfl
            | false => exact absurd ⟨by omega, by rw [Array.getElem?_eq_getElem hl, hb]⟩ (hm2 e.on h5)
          rw [h6]
          simp
        rw [hnil] at hmem
        simp at hmem
      · intro i hi
        unfold Region.ready at hi
        rw [List.mem_filter] at hi
        obtain ⟨h1, h2⟩ := hi
        have hi1 := List.mem_range.1 h1
        have ho : ops[i]? = some ops[i] := Array.getElem?_eq_getElem hi1
        rw [ho] at h2
        simp only [Bool.and_eq_true, Option.map_some, Option.getD_some] at h2
        obtain ⟨h3, h4⟩ := h2
        have hli : listed[i]? = some false := by
          have hl : i < listed.size := by rw [hm.size]; exact hi1
          rw [Array.getElem?_eq_getElem hl]
          cases hb : listed[i] with
          | false => rfl
          | true => simp [Array.getD_eq_getD_getElem?, Array.getElem?_eq_getElem hl, hb] at h3
        obtain ⟨g1, ⟨d, g2, g3⟩, g4, g5⟩ := freeB_at hfree ho
        have hw : Region.wanted ops[i] (yielded ops a.tmps) = true := by simp [Region.wanted, g1]
        unfold wpOp
        rw [ho]
        simp only [hw, if_true]
        left
        refine hstep i _ a w _ ho hm.old (fun j hj oj dj hoj hdj => ?_) hm.rest (fun v w' hv hb => ?_)
        · obtain ⟨e, he, hbe, hon⟩ := g5 j hj
          have h5 := Array.all_eq_true_iff_forall_mem.1 h4 e he
          rw [hbe, hon] at h5
          have h6 : listed[j]? = some true := by
            cases hlj : listed[j]? with
            | none => simp [Array.getD_eq_getD_getElem?, hlj] at h5
            | some b => simp [Array.getD_eq_getD_getElem?, hlj] at h5; rw [h5]
          exact hm.done j oj dj h6 hoj hdj
        · rw [g2]
          refine ih _ _ _ ⟨by simp [hm.size], by simp [Act.put, hm.tmps], by simp [Act.put, hm.defers], hm.old.trans (hb.mono hm.old.size), ?_, ?_⟩ ?_
          · intro k ok dk hk hok hdk
            by_cases c : i = k
            · subst c
              rw [ho] at hok
              cases hok
              rw [g2] at hdk
              cases hdk
              simp only [Act.put, Array.getD_eq_getD_getElem?]
              rw [Array.getElem?_setIfInBounds_self_of_lt (by rw [hm.tmps]; exact g3)]
              exact hv
            · have hk' : listed[k]? = some true := by
                rw [Array.getElem?_setIfInBounds_ne c] at hk; exact hk
              have hne : d ≠ dk := fun e => c (freeB_inj hfree ho hok g2 (by rw [e]; exact hdk))
              have := hm.done k ok dk hk' hok hdk
              simp only [Act.put, Array.getD_eq_getD_getElem?]
              rw [Array.getElem?_setIfInBounds_ne hne, ← Array.getD_eq_getD_getElem?]
              exact hmono _ _ _ _ this hb
          · intro t ht
            have hne : d ≠ t := fun e => ht i _ ho (by rw [g2, e])
            simp only [Act.put, Array.getD_eq_getD_getElem?]
            rw [Array.getElem?_setIfInBounds_ne hne, ← Array.getD_eq_getD_getElem?, ← Array.getD_eq_getD_getElem?]
            exact hm.rest t ht
          · have hil : i < listed.toList.length := by simp [hm.size]; exact hi1
            have e1 : listed.toList[i] = false := by
              have := (Array.getElem?_eq_some_iff.1 hli).2
              simpa using this
            rw [Array.toList_setIfInBounds, List.count_set hil, e1]
            simp at hc ⊢
            omega
  refine key _ _ _ _ ⟨by simp, rfl, rfl, Below.refl _ _, fun i o d hl => ?_, fun _ _ => rfl⟩ (by simp)
  rw [Array.getElem?_replicate] at hl
  split at hl <;> simp at hl
end Go.Proofs.Ytffjddabjjcjpaa
