/- FlowKnown's two further regions, whatever their order. -/
import Derived.Test.YtffjddabjjcjpaaKc7
namespace Go.Proofs.Ytffjddabjjcjpaa
open Go.ChangeShapes Go.WideShapes Go.ChangeAt Go.RowKit Go.Great
set_option maxRecDepth 20000

def P8 : List Q5 := [(33, 0, 0, 0, 16), (33, 0, 0, 0, 16), (33, 0, 0, 0, 16), (1, 0, 0, 0, 1), (34, 0, 0, 0, 0), (34, 0, 0, 0, 0), (34, 0, 0, 0, 0), (36, 0, 0, 0, 0)]
def P9 : List Q5 := [(33, 0, 0, 0, 1), (34, 0, 0, 0, 0), (36, 0, 0, 0, 0)]
theorem st8 : stN P8 = 8738 ∧ (ckF P8).2 = 0 := by decide
theorem nx9 : nxE P9 1 = 0 ∧ nxV P9 1 = [2] := by decide

variable {g1 g2 g3 gm : Nat}

/-- An operation's step, whatever the words are. -/
def StG (Φ : Nat → Value → World → Prop) (D : List (List Nat)) (ds : Nat → Nat) (g1 g2 g3 gm : Nat) (B : Nat) (i : Nat) (op : Op) : Prop := ∀ (o : Oper) (a : Act) (w : World) (K : Act → World → Prop) (Q : Exit → Act → World → Prop), o.op = op → Env g1 g2 g3 gm (fun t => a.tmps.getD t undef) w → B ≤ w.heap.size →
  (∀ j ∈ D.getD i [], Φ j (a.tmps.getD (ds j) undef) w) → (∀ v w', Φ i v w' → Below w.heap.size w w' → K (a.put o.dst v) w') → o.wp Try.prog a w K Q

theorem sg_load1 {Φ : Nat → Value → World → Prop} {D : List (List Nat)} {ds : Nat → Nat} {B : Nat} (i : Nat) (hk : ∀ w, Φ i (insQ eQ) w) : StG Φ D ds g1 g2 g3 gm B i (.load 37 (.tmp 1)) := fun _ _ w _ _ ho he _ _ hK =>
  wp_load_mid 37 (.tmp 1) ho g1 0 he.t1 (q5C eQ) _ he.c1 Try.underlying37 rfl ins_size (hK _ _ (hk w) (Below.refl _ _))
theorem sg_load2 {Φ : Nat → Value → World → Prop} {D : List (List Nat)} {ds : Nat → Nat} {B : Nat} (i : Nat) (hk : ∀ w, Φ i (insQ xQ) w) : StG Φ D ds g1 g2 g3 gm B i (.load 37 (.tmp 2)) := fun _ _ w _ _ ho he _ _ hK =>
  wp_load_mid 37 (.tmp 2) ho g2 0 he.t2 (q5C xQ) _ he.c2 Try.underlying37 rfl ins_size (hK _ _ (hk w) (Below.refl _ _))
theorem sg_load3 {Φ : Nat → Value → World → Prop} {D : List (List Nat)} {ds : Nat → Nat} {B : Nat} (i : Nat) (hk : ∀ w, Φ i (insQ sQ) w) : StG Φ D ds g1 g2 g3 gm B i (.load 37 (.tmp 3)) := fun _ _ w _ _ ho he _ _ hK =>
  wp_load_mid 37 (.tmp 3) ho g3 0 he.t3 (q5C sQ) _ he.c3 Try.underlying37 rfl ins_size (hK _ _ (hk w) (Below.refl _ _))
theorem sg_rep {Φ : Nat → Value → World → Prop} {D : List (List Nat)} {ds : Nat → Nat} {B : Nat} (i : Nat) (z : Int) (ts : Array TypeId) (hk : ∀ w, Φ i (insQ (33, 0, 0, 0, z)) w) : StG Φ D ds g1 g2 g3 gm B i (.call { callee := .value (.func 18), args := #[.const (.int .i32 z)], argTypes := ts }) := fun o a w K Q ho he hB hd hK => by
  have hr := run_rep z w
  have hrun : (execOp a.eval o).run Try.prog w = .ok (.enter 18 #[.int .i32 z]) w := by
    unfold execOp
    simp only [ho]
    go_simp
  unfold Oper.wp
  rw [hrun, Oper.upon_enter]
  refine (rep_is z w).mono ?_
  rintro e w' ⟨rfl, hb⟩
  exact hK _ _ (hk w') hb

theorem sg_build {Φ : Nat → Value → World → Prop} {D : List (List Nat)} {ds : Nat → Nat} {B : Nat} (i n : Nat) (L : List Q5) (parts : Array (Nat × Operand)) (hn : L.length = n) (hin : L.all inT = true) (hk : ∀ v w, Cd w v L → Φ i v w)
    (hb : Try.prog.builtSlice 37 n (L.zipIdx.map fun x => (x.2, insQ x.1)) = some (q5L L).toArray)
    (hp : ∀ (a : Act) (w : World), (∀ j ∈ D.getD i [], Φ j (a.tmps.getD (ds j) undef) w) → (parts.map fun (i, x) => (i, a.eval x)).toList = L.zipIdx.map fun x => (x.2, insQ x.1)) :
    StG Φ D ds g1 g2 g3 gm B i (.buildSlice 22 n parts) := fun o a w K Q ho he hB hd hK => by
  have hf := hb
  rw [← hp a w hd] at hf
  unfold Program.builtSlice at hf
  cases hie : Try.prog.info? 37 with
  | none => simp [hie] at hf
  | some ie =>
    simp only [hie] at hf
    cases hz : ie.zero with
    | none => simp [hz] at hf
    | some z =>
      simp only [hz] at hf
      by_cases hc : n * ie.size > 2 ^ 24 ∨ n * ie.size = 0
      · simp [hc] at hf
      · rw [if_neg hc] at hf
        refine wp_buildSlice 22 37 n parts ho _ ie z Try.underlying22 hie hz (fun h' => hc (Or.inl h')) (fun h' => hc (Or.inr h')) hf ?_
        refine hK _ _ (hk _ _ ?_) ((Below.refl _ _).alloc (Nat.le_refl _) _)
        have := cd_new w L 37 hin
        rw [hn] at this
        exact this

theorem rgn_any (Φ : Nat → Value → World → Prop) (D : List (List Nat)) (ds : Nat → Nat) (OL : List Op) (m : Nat) (g1 g2 g3 gm : Nat) (ops : Array Oper) (Q : Exit → Act → World → Prop) (a0 : Act) (w0 : World)
    (hmono : ∀ i v w w', Φ i v w → Below w.heap.size w w' → Φ i v w')
    (hall : ∀ p ∈ OL.zipIdx, StG Φ D ds g1 g2 g3 gm w0.heap.size p.2 p.1)
    (hop : ops.toList.map (·.op) = OL) (hds : ops.toList.map (·.dst) = (List.range m).map (fun j => some (ds j))) (hlow : ∀ t : Nat, t ≤ 8 → ∀ j, j < m → ds j ≠ t)
    (hsz : ops.size = m) (hN : a0.tmps.size = 280) (hfree : freeB 280 D ops = true) (he : Env g1 g2 g3 gm (fun t => a0.tmps.getD t undef) w0)
    (hQ : ∀ a w, a.tmps.size = a0.tmps.size → a.defers = a0.defers → Below w0.heap.size w0 w → (∀ j, j < m → Φ j (a.tmps.getD (ds j) undef) w) → (∀ t : Nat, (∀ j, j < m → ds j ≠ t) → a.tmps.getD t undef = a0.tmps.getD t undef) → Q .normal a w) :
    wpAny Try.prog .any ops Q ops.size (Array.replicate ops.size false) a0 w0 := by
  have hd1 : ∀ (i : Nat) (o : Oper), ops[i]? = some o → o.dst = some (ds i) := by
    intro i o ho
    have hi : i < m := by rw [← hsz]; exact (Array.getElem?_eq_some_iff.1 ho).1
    have e : (ops.toList.map (·.dst))[i]? = some o.dst := by simp [ho]
    rw [hds] at e
    simp [hi] at e
    exact e.symm
  have hno : ∀ t : Nat, (∀ j, j < m → ds j ≠ t) → ∀ (i : Nat) (o : Oper), ops[i]? = some o → o.dst ≠ some t := by
    intro t ht i o ho e
    rw [hd1 i o ho] at e
    exact ht i (by rw [← hsz]; exact (Array.getElem?_eq_some_iff.1 ho).1) (Option.some.inj e)
  refine wpAny_free D Φ a0 w0 (by rw [hN]; exact hfree) hmono ?_ ?_
  · intro i o a w K ho hb hdep hrest hK
    have e : (ops.toList.map (·.op))[i]? = some o.op := by simp [ho]
    rw [hop] at e
    have hmem : (o.op, i) ∈ OL.zipIdx := by
      rw [List.mem_zipIdx_iff_getElem?]
      exact e
    refine hall (o.op, i) hmem o a w K Q rfl ⟨?_, ?_, ?_, ?_, range_below he.c1 hb, range_below he.c2 hb, range_below he.c3 hb, he.lm.below hb⟩ hb.size (fun j hj => ?_) hK
    · exact (hrest 1 (hno 1 (hlow 1 (by omega)))).trans he.t1
    · exact (hrest 2 (hno 2 (hlow 2 (by omega)))).trans he.t2
    · exact (hrest 3 (hno 3 (hlow 3 (by omega)))).trans he.t3
    · exact (hrest 4 (hno 4 (hlow 4 (by omega)))).trans he.t4
    · obtain ⟨-, -, g4, g5⟩ := freeB_at hfree ho
      obtain ⟨e', he', hbd, hon⟩ := g5 j hj
      have hi : i < ops.size := (Array.getElem?_eq_some_iff.1 ho).1
      have hjs : j < ops.size := by have := g4 e' he' hbd; rw [hon] at this; omega
      have hoj : ops[j]? = some ops[j] := Array.getElem?_eq_getElem hjs
      exact hdep j hj _ _ hoj (hd1 j _ hoj)
  · intro a w h1 h2 h3 h4 h5
    refine hQ a w h1 h2 h3 (fun j hj => ?_) (fun t ht => h5 t (hno t ht))
    have hoj : ops[j]? = some ops[j] := Array.getElem?_eq_getElem (by omega)
    exact h4 j _ _ hoj (hd1 j _ hoj)

def ds8 (j : Nat) : Nat := [201, 202, 203, 204, 205, 206, 207, 208, 209, 210, 200, 211, 212, 18, 19].getD j 300
def D8 : List (List Nat) := [[], [], [], [], [], [], [], [], [0, 1, 2, 3, 4, 5, 6, 7], [8], [9], [10], [10], [11], [12]]
def ph8 (i : Nat) (v : Value) (w : World) : Prop := if i < 8 then v = insQ (P8.getD i default) else if i = 8 then Cd w v P8 else if i = 9 ∨ i = 10 then v = .tuple #[.int .i64 8738, .int .i64 0] else if i = 11 ∨ i = 13 then v = .int .i64 8738 else v = .int .i64 0
theorem ph8_mono (i : Nat) (v : Value) (w w' : World) (h : ph8 i v w) (b : Below w.heap.size w w') : ph8 i v w' := by
  unfold ph8 at h ⊢
  split
  · rename_i c; rw [if_pos c] at h; exact h
  · rename_i c; rw [if_neg c] at h
    split
    · rename_i c2; rw [if_pos c2] at h; exact h.below b
    · rename_i c2; rw [if_neg c2] at h; exact h

theorem st8_0 {B : Nat} : StG ph8 D8 ds8 g1 g2 g3 gm B 0 (Op.call { callee := Callee.value (Operand.func 18), args := #[Operand.const (Value.int IntKind.i32 16)], argTypes := #[21] }) := sg_rep 0 16 _ (fun _ => rfl)
theorem st8_1 {B : Nat} : StG ph8 D8 ds8 g1 g2 g3 gm B 1 (Op.call { callee := Callee.value (Operand.func 18), args := #[Operand.const (Value.int IntKind.i32 16)], argTypes := #[21] }) := sg_rep 1 16 _ (fun _ => rfl)
theorem st8_2 {B : Nat} : StG ph8 D8 ds8 g1 g2 g3 gm B 2 (Op.call { callee := Callee.value (Operand.func 18), args := #[Operand.const (Value.int IntKind.i32 16)], argTypes := #[21] }) := sg_rep 2 16 _ (fun _ => rfl)
theorem st8_3 {B : Nat} : StG ph8 D8 ds8 g1 g2 g3 gm B 3 (Op.load 37 (Operand.tmp 3)) := sg_load3 3 (fun _ => rfl)
theorem st8_4 {B : Nat} : StG ph8 D8 ds8 g1 g2 g3 gm B 4 (Op.load 37 (Operand.tmp 1)) := sg_load1 4 (fun _ => rfl)
theorem st8_5 {B : Nat} : StG ph8 D8 ds8 g1 g2 g3 gm B 5 (Op.load 37 (Operand.tmp 1)) := sg_load1 5 (fun _ => rfl)
theorem st8_6 {B : Nat} : StG ph8 D8 ds8 g1 g2 g3 gm B 6 (Op.load 37 (Operand.tmp 1)) := sg_load1 6 (fun _ => rfl)
theorem st8_7 {B : Nat} : StG ph8 D8 ds8 g1 g2 g3 gm B 7 (Op.load 37 (Operand.tmp 2)) := sg_load2 7 (fun _ => rfl)
theorem st8_8 {B : Nat} : StG ph8 D8 ds8 g1 g2 g3 gm B 8 (Op.buildSlice 22 8 #[(0, Operand.tmp 201), (1, Operand.tmp 202), (2, Operand.tmp 203), (3, Operand.tmp 204), (4, Operand.tmp 205), (5, Operand.tmp 206), (6, Operand.tmp 207), (7, Operand.tmp 208)]) := sg_build 8 8 P8 _ rfl (by decide) (fun v w h => h) (by kernel_rfl) (fun a _ hd => by { have h0 : a.eval (.tmp 201) = insQ (P8.getD 0 default) := hd 0 (by decide); have h1 : a.eval (.tmp 202) = insQ (P8.getD 1 default) := hd 1 (by decide); have h2 : a.eval (.tmp 203) = insQ (P8.getD 2 default) := hd 2 (by decide); have h3 : a.eval (.tmp 204) = insQ (P8.getD 3 default) := hd 3 (by decide); have h4 : a.eval (.tmp 205) = insQ (P8.getD 4 default) := hd 4 (by decide); have h5 : a.eval (.tmp 206) = insQ (P8.getD 5 default) := hd 5 (by decide); have h6 : a.eval (.tmp 207) = insQ (P8.getD 6 default) := hd 6 (by decide); have h7 : a.eval (.tmp 208) = insQ (P8.getD 7 default) := hd 7 (by decide); simp only [List.map_toArray, List.map_cons, List.map_nil, h0, h1, h2, h3, h4, h5, h6, h7]; rfl })
theorem st8_9 {B : Nat} : StG ph8 D8 ds8 g1 g2 g3 gm B 9 (Op.call { callee := Callee.value (Operand.func 15), args := #[Operand.tmp 209], argTypes := #[22] }) := fun o a w K Q ho he hB hd hK => by
  have hv : Cd w (a.tmps.getD 209 undef) P8 := hd 8 (by decide)
  rw [Array.getD_eq_getD_getElem?] at hv
  have hr : ∀ v, (callFunc 15 #[v]).run Try.prog w = .ok (.enter 15 #[v]) w := fun v => by go_simp
  have hrun : (execOp a.eval o).run Try.prog w = .ok (.enter 15 #[a.tmps[209]?.getD undef]) w := by
    have hr1 := hr (a.tmps[209]?.getD undef)
    unfold execOp
    simp only [ho]
    go_simp
  have hc := steps_f _ w hv
  rw [st8.1, st8.2] at hc
  unfold Oper.wp
  rw [hrun, Oper.upon_enter]
  refine hc.mono ?_
  rintro e w' ⟨rfl, hb⟩
  exact hK _ _ rfl hb
theorem st8_10 {B : Nat} : StG ph8 D8 ds8 g1 g2 g3 gm B 10 (Op.move (Operand.tmp 210)) := fun o a w K Q ho he hB hd hK => by
  have hv : a.eval (.tmp 210) = (.tuple #[.int .i64 8738, .int .i64 0]) := hd 9 (by decide)
  refine wp_value (w' := w) (.tuple #[.int .i64 8738, .int .i64 0]) ?_ (hK _ _ rfl (Below.refl _ _))
  unfold execOp
  simp only [ho, hv]
  first | rfl | go_simp
theorem st8_11 {B : Nat} : StG ph8 D8 ds8 g1 g2 g3 gm B 11 (Op.extract (Operand.tmp 200) 0) := fun o a w K Q ho he hB hd hK => by
  have hv : a.eval (.tmp 200) = (.tuple #[.int .i64 8738, .int .i64 0]) := hd 10 (by decide)
  refine wp_value (w' := w) (.int .i64 8738) ?_ (hK _ _ rfl (Below.refl _ _))
  unfold execOp
  simp only [ho, hv]
  first | rfl | go_simp
theorem st8_12 {B : Nat} : StG ph8 D8 ds8 g1 g2 g3 gm B 12 (Op.extract (Operand.tmp 200) 1) := fun o a w K Q ho he hB hd hK => by
  have hv : a.eval (.tmp 200) = (.tuple #[.int .i64 8738, .int .i64 0]) := hd 10 (by decide)
  refine wp_value (w' := w) (.int .i64 0) ?_ (hK _ _ rfl (Below.refl _ _))
  unfold execOp
  simp only [ho, hv]
  first | rfl | go_simp
theorem st8_13 {B : Nat} : StG ph8 D8 ds8 g1 g2 g3 gm B 13 (Op.assign (Operand.tmp 211)) := fun o a w K Q ho he hB hd hK => by
  have hv : a.eval (.tmp 211) = (.int .i64 8738) := hd 11 (by decide)
  refine wp_value (w' := w) (.int .i64 8738) ?_ (hK _ _ rfl (Below.refl _ _))
  unfold execOp
  simp only [ho, hv]
  first | rfl | go_simp
theorem st8_14 {B : Nat} : StG ph8 D8 ds8 g1 g2 g3 gm B 14 (Op.assign (Operand.tmp 212)) := fun o a w K Q ho he hB hd hK => by
  have hv : a.eval (.tmp 212) = (.int .i64 0) := hd 12 (by decide)
  refine wp_value (w' := w) (.int .i64 0) ?_ (hK _ _ rfl (Below.refl _ _))
  unfold execOp
  simp only [ho, hv]
  first | rfl | go_simp
def OL8 : List Op := [Op.call { callee := Callee.value (Operand.func 18), args := #[Operand.const (Value.int IntKind.i32 16)], argTypes := #[21] }, Op.call { callee := Callee.value (Operand.func 18), args := #[Operand.const (Value.int IntKind.i32 16)], argTypes := #[21] }, Op.call { callee := Callee.value (Operand.func 18), args := #[Operand.const (Value.int IntKind.i32 16)], argTypes := #[21] }, Op.load 37 (Operand.tmp 3), Op.load 37 (Operand.tmp 1), Op.load 37 (Operand.tmp 1), Op.load 37 (Operand.tmp 1), Op.load 37 (Operand.tmp 2), Op.buildSlice 22 8 #[(0, Operand.tmp 201), (1, Operand.tmp 202), (2, Operand.tmp 203), (3, Operand.tmp 204), (4, Operand.tmp 205), (5, Operand.tmp 206), (6, Operand.tmp 207), (7, Operand.tmp 208)], Op.call { callee := Callee.value (Operand.func 15), args := #[Operand.tmp 209], argTypes := #[22] }, Op.move (Operand.tmp 210), Op.extract (Operand.tmp 200) 0, Op.extract (Operand.tmp 200) 1, Op.assign (Operand.tmp 211), Op.assign (Operand.tmp 212)]
theorem all8 {B : Nat} : ∀ p ∈ OL8.zipIdx, StG ph8 D8 ds8 g1 g2 g3 gm B p.2 p.1 := by
  refine List.forall_mem_cons.2 ⟨st8_0, ?_⟩
  refine List.forall_mem_cons.2 ⟨st8_1, ?_⟩
  refine List.forall_mem_cons.2 ⟨st8_2, ?_⟩
  refine List.forall_mem_cons.2 ⟨st8_3, ?_⟩
  refine List.forall_mem_cons.2 ⟨st8_4, ?_⟩
  refine List.forall_mem_cons.2 ⟨st8_5, ?_⟩
  refine List.forall_mem_cons.2 ⟨st8_6, ?_⟩
  refine List.forall_mem_cons.2 ⟨st8_7, ?_⟩
  refine List.forall_mem_cons.2 ⟨st8_8, ?_⟩
  refine List.forall_mem_cons.2 ⟨st8_9, ?_⟩
  refine List.forall_mem_cons.2 ⟨st8_10, ?_⟩
  refine List.forall_mem_cons.2 ⟨st8_11, ?_⟩
  refine List.forall_mem_cons.2 ⟨st8_12, ?_⟩
  refine List.forall_mem_cons.2 ⟨st8_13, ?_⟩
  refine List.forall_mem_cons.2 ⟨st8_14, ?_⟩
  exact fun p hp => by cases hp

def ds9 (j : Nat) : Nat := [214, 215, 216, 217, 218, 213, 219, 220, 20, 21].getD j 300
def D9 : List (List Nat) := [[], [], [], [0, 1, 2], [3], [4], [5], [5], [6], [7]]
def ph9 (B : Nat) (i : Nat) (v : Value) (w : World) : Prop := if i < 3 then v = insQ (P9.getD i default) else if i = 3 then Cd w v P9 else if i = 4 ∨ i = 5 then (∃ r, v = .tuple #[r, .int .i64 0] ∧ Iw w B r [2]) else if i = 6 ∨ i = 8 then Iw w B v [2] else v = .int .i64 0
theorem ph9_mono (B i : Nat) (v : Value) (w w' : World) (h : ph9 B i v w) (b : Below w.heap.size w w') : ph9 B i v w' := by
  unfold ph9 at h ⊢
  split
  · rename_i c; rw [if_pos c] at h; exact h
  · rename_i c; rw [if_neg c] at h
    split
    · rename_i c2; rw [if_pos c2] at h; exact h.below b
    · rename_i c2; rw [if_neg c2] at h
      split
      · rename_i c3; rw [if_pos c3] at h
        obtain ⟨r, e, hI⟩ := h
        exact ⟨r, e, hI.below b⟩
      · rename_i c3; rw [if_neg c3] at h
        split
        · rename_i c4; rw [if_pos c4] at h; exact h.below b
        · rename_i c4; rw [if_neg c4] at h; exact h

theorem st9_0 {B : Nat} : StG (ph9 B) D9 ds9 g1 g2 g3 gm B 0 (Op.call { callee := Callee.value (Operand.func 18), args := #[Operand.const (Value.int IntKind.i32 1)], argTypes := #[21] }) := sg_rep 0 1 _ (fun _ => rfl)
theorem st9_1 {B : Nat} : StG (ph9 B) D9 ds9 g1 g2 g3 gm B 1 (Op.load 37 (Operand.tmp 1)) := sg_load1 1 (fun _ => rfl)
theorem st9_2 {B : Nat} : StG (ph9 B) D9 ds9 g1 g2 g3 gm B 2 (Op.load 37 (Operand.tmp 2)) := sg_load2 2 (fun _ => rfl)
theorem st9_3 {B : Nat} : StG (ph9 B) D9 ds9 g1 g2 g3 gm B 3 (Op.buildSlice 22 3 #[(0, Operand.tmp 214), (1, Operand.tmp 215), (2, Operand.tmp 216)]) := sg_build 3 3 P9 _ rfl (by decide) (fun v w h => h) (by kernel_rfl) (fun a _ hd => by { have h0 : a.eval (.tmp 214) = insQ (P9.getD 0 default) := hd 0 (by decide); have h1 : a.eval (.tmp 215) = insQ (P9.getD 1 default) := hd 1 (by decide); have h2 : a.eval (.tmp 216) = insQ (P9.getD 2 default) := hd 2 (by decide); simp only [List.map_toArray, List.map_cons, List.map_nil, h0, h1, h2]; rfl })
theorem st9_4 {B : Nat} : StG (ph9 B) D9 ds9 g1 g2 g3 gm B 4 (Op.call { callee := Callee.value (Operand.func 9), args := #[Operand.tmp 217, Operand.const (Value.int IntKind.i64 1)], argTypes := #[22, 3] }) := fun o a w K Q ho he hB hd hK => by
  have hv : Cd w (a.tmps.getD 217 undef) P9 := hd 3 (by decide)
  rw [Array.getD_eq_getD_getElem?] at hv
  have hr : ∀ v, (callFunc 9 #[v, .int .i64 1]).run Try.prog w = .ok (.enter 9 #[v, .int .i64 1]) w := fun v => by go_simp
  have hrun : (execOp a.eval o).run Try.prog w = .ok (.enter 9 #[a.tmps[217]?.getD undef, .int .i64 1]) w := by
    have hr1 := hr (a.tmps[217]?.getD undef)
    unfold execOp
    simp only [ho]
    go_simp
  have hc := next_f _ 1 w hv (by decide) (by decide)
  rw [nx9.1, nx9.2] at hc
  unfold Oper.wp
  rw [hrun, Oper.upon_enter]
  refine hc.mono ?_
  rintro e w' ⟨⟨r, rfl, hI⟩, hb⟩
  exact hK _ _ ⟨r, rfl, hI.base hB⟩ hb
theorem st9_5 {B : Nat} : StG (ph9 B) D9 ds9 g1 g2 g3 gm B 5 (Op.move (Operand.tmp 218)) := fun o a w K Q ho he hB hd hK => by
  obtain ⟨r, hv, hI⟩ := (show ∃ r, a.eval (.tmp 218) = .tuple #[r, .int .i64 0] ∧ Iw w B r [2] from hd 4 (by decide))
  refine wp_value (w' := w) (.tuple #[r, .int .i64 0]) ?_ (hK _ _ ⟨r, rfl, hI⟩ (Below.refl _ _))
  unfold execOp
  simp only [ho, hv]
  first | rfl | go_simp
theorem st9_6 {B : Nat} : StG (ph9 B) D9 ds9 g1 g2 g3 gm B 6 (Op.extract (Operand.tmp 213) 0) := fun o a w K Q ho he hB hd hK => by
  obtain ⟨r, hv, hI⟩ := (show ∃ r, a.eval (.tmp 213) = .tuple #[r, .int .i64 0] ∧ Iw w B r [2] from hd 5 (by decide))
  refine wp_value (w' := w) r ?_ (hK _ _ hI (Below.refl _ _))
  unfold execOp
  simp only [ho, hv]
  first | rfl | go_simp
theorem st9_7 {B : Nat} : StG (ph9 B) D9 ds9 g1 g2 g3 gm B 7 (Op.extract (Operand.tmp 213) 1) := fun o a w K Q ho he hB hd hK => by
  obtain ⟨r, hv, hI⟩ := (show ∃ r, a.eval (.tmp 213) = .tuple #[r, .int .i64 0] ∧ Iw w B r [2] from hd 5 (by decide))
  refine wp_value (w' := w) (.int .i64 0) ?_ (hK _ _ rfl (Below.refl _ _))
  unfold execOp
  simp only [ho, hv]
  first | rfl | go_simp
theorem st9_8 {B : Nat} : StG (ph9 B) D9 ds9 g1 g2 g3 gm B 8 (Op.assign (Operand.tmp 219)) := fun o a w K Q ho he hB hd hK => by
  have hI : Iw w B (a.eval (.tmp 219)) [2] := hd 6 (by decide)
  refine wp_value (w' := w) (a.eval (.tmp 219)) ?_ (hK _ _ hI (Below.refl _ _))
  unfold execOp
  simp only [ho]
  first | rfl | go_simp
theorem st9_9 {B : Nat} : StG (ph9 B) D9 ds9 g1 g2 g3 gm B 9 (Op.assign (Operand.tmp 220)) := fun o a w K Q ho he hB hd hK => by
  have hv : a.eval (.tmp 220) = (.int .i64 0) := hd 7 (by decide)
  refine wp_value (w' := w) (.int .i64 0) ?_ (hK _ _ rfl (Below.refl _ _))
  unfold execOp
  simp only [ho, hv]
  first | rfl | go_simp
def OL9 : List Op := [Op.call { callee := Callee.value (Operand.func 18), args := #[Operand.const (Value.int IntKind.i32 1)], argTypes := #[21] }, Op.load 37 (Operand.tmp 1), Op.load 37 (Operand.tmp 2), Op.buildSlice 22 3 #[(0, Operand.tmp 214), (1, Operand.tmp 215), (2, Operand.tmp 216)], Op.call { callee := Callee.value (Operand.func 9), args := #[Operand.tmp 217, Operand.const (Value.int IntKind.i64 1)], argTypes := #[22, 3] }, Op.move (Operand.tmp 218), Op.extract (Operand.tmp 213) 0, Op.extract (Operand.tmp 213) 1, Op.assign (Operand.tmp 219), Op.assign (Operand.tmp 220)]
theorem all9 {B : Nat} : ∀ p ∈ OL9.zipIdx, StG (ph9 B) D9 ds9 g1 g2 g3 gm B p.2 p.1 := by
  refine List.forall_mem_cons.2 ⟨st9_0, ?_⟩
  refine List.forall_mem_cons.2 ⟨st9_1, ?_⟩
  refine List.forall_mem_cons.2 ⟨st9_2, ?_⟩
  refine List.forall_mem_cons.2 ⟨st9_3, ?_⟩
  refine List.forall_mem_cons.2 ⟨st9_4, ?_⟩
  refine List.forall_mem_cons.2 ⟨st9_5, ?_⟩
  refine List.forall_mem_cons.2 ⟨st9_6, ?_⟩
  refine List.forall_mem_cons.2 ⟨st9_7, ?_⟩
  refine List.forall_mem_cons.2 ⟨st9_8, ?_⟩
  refine List.forall_mem_cons.2 ⟨st9_9, ?_⟩
  exact fun p hp => by cases hp

end Go.Proofs.Ytffjddabjjcjpaa
