/- FlowKnown's programs; the region that lays them, in whatever order. -/
import Derived.Test.YtffjddabjjcjpaaFk
import Derived.Test.YtffjddabjjcjpaaBo
import Derived.Great.BuildSlice
import Derived.Great.Walk
namespace Go.Proofs.Ytffjddabjjcjpaa
open Go.ChangeShapes Go.WideShapes Go.ChangeAt Go.RowKit Go.Great
set_option maxRecDepth 20000

def xQ : Q5 := (36, 0, 0, 0, 0)
def eQ : Q5 := (34, 0, 0, 0, 0)
def sQ : Q5 := (1, 0, 0, 0, 1)
def cdK : List (List Q5) := [[], List.replicate 257 xQ, [(36, 0, 0, 0, 0), (0, 0, 0, 0, 0)], [(34, 0, 0, 0, 0), (36, 0, 0, 0, 0)], [(33, 0, 0, 0, 2), (36, 0, 0, 0, 0)], [(1, 0, 0, 0, 1)], [(22, 0, 0, 0, 0), (22, 0, 0, 0, 0), (36, 0, 0, 0, 0)], [(22, 0, 0, 1, 0), (36, 0, 0, 0, 0)], [(22, 0, 0, 1, 0), (33, 0, 0, 0, 2), (34, 0, 0, 0, 0), (36, 0, 0, 0, 0)], [(33, 0, 0, 0, 2), (22, 0, 0, 0, 0), (34, 0, 0, 0, 0), (36, 0, 0, 0, 0)], [(33, 0, 0, 0, 2), (22, 0, 0, 1, 0), (34, 0, 0, 0, 0), (36, 0, 0, 0, 0)], [(33, 0, 0, 0, 2), (33, 0, 0, 0, 2), (33, 0, 0, 0, 2), (33, 0, 0, 0, 2), (34, 0, 0, 0, 0), (34, 0, 0, 0, 0), (34, 0, 0, 0, 0), (34, 0, 0, 0, 0), (36, 0, 0, 0, 0)], [(33, 0, 0, 0, 2), (36, 0, 0, 0, 0), (34, 0, 0, 0, 0), (36, 0, 0, 0, 0)], List.replicate 256 xQ, [(33, 0, 0, 0, 1), (34, 0, 0, 0, 0), (34, 0, 0, 0, 0), (36, 0, 0, 0, 0)], [(33, 0, 0, 0, 2), (34, 0, 0, 0, 0)], [(33, 0, 0, 0, 2), (22, 0, 0, 2, 0), (33, 0, 0, 0, 2), (34, 0, 0, 0, 0), (34, 0, 0, 0, 0), (36, 0, 0, 0, 0)], [(22, 0, 0, 0, 0), (33, 0, 0, 0, 2), (34, 0, 0, 0, 0), (36, 0, 0, 0, 0)], [(36, 0, 0, 0, 0), (22, 0, 0, 0, 0)], [(34, 0, 0, 0, 0), (0, 0, 0, 0, 0), (36, 0, 0, 0, 0)]]
def insQ (q : Q5) : Value := .agg (q5C q).toArray

def kn7 : List (Nat × Q5 × Nat) := [(1, default, 1), (0, (36, 0, 0, 0, 0), 0), (0, (0, 0, 0, 0, 0), 0), (1, default, 2), (0, (34, 0, 0, 0, 0), 0), (0, (36, 0, 0, 0, 0), 0), (1, default, 3), (0, (33, 0, 0, 0, 2), 0), (0, (36, 0, 0, 0, 0), 0), (1, default, 4), (0, (1, 0, 0, 0, 1), 0), (1, default, 5), (0, (22, 0, 0, 0, 0), 0), (0, (22, 0, 0, 0, 0), 0), (0, (36, 0, 0, 0, 0), 0), (1, default, 6), (0, (22, 0, 0, 1, 0), 0), (0, (36, 0, 0, 0, 0), 0), (1, default, 7), (0, (22, 0, 0, 1, 0), 0), (0, (33, 0, 0, 0, 2), 0), (0, (34, 0, 0, 0, 0), 0), (0, (36, 0, 0, 0, 0), 0), (1, default, 8), (0, (33, 0, 0, 0, 2), 0), (0, (22, 0, 0, 0, 0), 0), (0, (34, 0, 0, 0, 0), 0), (0, (36, 0, 0, 0, 0), 0), (1, default, 9), (0, (33, 0, 0, 0, 2), 0), (0, (22, 0, 0, 1, 0), 0), (0, (34, 0, 0, 0, 0), 0), (0, (36, 0, 0, 0, 0), 0), (1, default, 10), (0, (33, 0, 0, 0, 2), 0), (0, (33, 0, 0, 0, 2), 0), (0, (33, 0, 0, 0, 2), 0), (0, (33, 0, 0, 0, 2), 0), (0, (34, 0, 0, 0, 0), 0), (0, (34, 0, 0, 0, 0), 0), (0, (34, 0, 0, 0, 0), 0), (0, (34, 0, 0, 0, 0), 0), (0, (36, 0, 0, 0, 0), 0), (1, default, 11), (0, (33, 0, 0, 0, 2), 0), (0, (36, 0, 0, 0, 0), 0), (0, (34, 0, 0, 0, 0), 0), (0, (36, 0, 0, 0, 0), 0), (1, default, 12), (2, default, 0), (1, default, 13), (0, (33, 0, 0, 0, 1), 0), (0, (34, 0, 0, 0, 0), 0), (0, (34, 0, 0, 0, 0), 0), (0, (36, 0, 0, 0, 0), 0), (1, default, 14), (0, (33, 0, 0, 0, 2), 0), (0, (34, 0, 0, 0, 0), 0), (1, default, 15), (0, (33, 0, 0, 0, 2), 0), (0, (22, 0, 0, 2, 0), 0), (0, (33, 0, 0, 0, 2), 0), (0, (34, 0, 0, 0, 0), 0), (0, (34, 0, 0, 0, 0), 0), (0, (36, 0, 0, 0, 0), 0), (1, default, 16), (0, (22, 0, 0, 0, 0), 0), (0, (33, 0, 0, 0, 2), 0), (0, (34, 0, 0, 0, 0), 0), (0, (36, 0, 0, 0, 0), 0), (1, default, 17), (0, (36, 0, 0, 0, 0), 0), (0, (22, 0, 0, 0, 0), 0), (1, default, 18), (0, (34, 0, 0, 0, 0), 0), (0, (0, 0, 0, 0, 0), 0), (0, (36, 0, 0, 0, 0), 0), (1, default, 19), (3, default, 0), (3, default, 0)]

def D7 : List (List Nat) := [[], [], [], [1, 2], [], [], [4, 5], [], [], [7, 8], [], [10], [], [], [], [12, 13, 14], [], [], [16, 17], [], [], [], [], [19, 20, 21, 22], [], [], [], [], [24, 25, 26, 27], [], [], [], [], [29, 30, 31, 32], [], [], [], [], [], [], [], [], [], [34, 35, 36, 37, 38, 39, 40, 41, 42], [], [], [], [], [44, 45, 46, 47], [], [49], [], [], [], [], [51, 52, 53, 54], [], [], [56, 57], [], [], [], [], [], [], [59, 60, 61, 62, 63, 64], [], [], [], [], [66, 67, 68, 69], [], [], [71, 72], [], [], [], [74, 75, 76], [0, 3, 6, 9, 11, 15, 18, 23, 28, 33, 43, 48, 50, 55, 58, 65, 70, 73, 77], [78]]

def ph7 (gm : Nat) (i : Nat) (v : Value) (w : World) : Prop := match kn7.getD i (3, default, 0) with
  | (0, q, _) => v = insQ q
  | (1, _, c) => Cd w v (cdK.getD c [])
  | (2, _, _) => v = .slice (some ⟨gm, 0, none⟩) 257 257
  | _ => ∃ g, v = .slice (some ⟨g, 0, none⟩) 20 20 ∧ ∀ k, k < 20 → ∃ u, w.cell? ⟨g, k, none⟩ = some u ∧ Cd w u (cdK.getD k [])
def ds7 (j : Nat) : Nat := if j = 79 then 6 else 42 + j

theorem ph7_mono (gm i : Nat) (v : Value) (w w' : World) (h : ph7 gm i v w) (b : Below w.heap.size w w') : ph7 gm i v w' := by
  unfold ph7 at h ⊢
  split
  · rename_i e; rw [e] at h; exact h
  · rename_i e; rw [e] at h; exact h.below b
  · rename_i e; rw [e] at h; exact h
  · rename_i e1 e2 e3
    split at h
    · rename_i e; exact absurd e (e1 _ _)
    · rename_i e; exact absurd e (e2 _ _)
    · rename_i e; exact absurd e (e3 _ _)
    · obtain ⟨g, rfl, hc⟩ := h
      exact ⟨g, rfl, fun k hk => by
        obtain ⟨u, h1, h2⟩ := hc k hk
        exact ⟨u, (b.cell (lt_of_cell h1)).trans h1, h2.below b⟩⟩

/-- What stands ahead of the region. -/
structure Env (g1 g2 g3 gm : Nat) (T : Nat → Value) (w : World) : Prop where
  t1 : T 1 = .pointer (some ⟨g1, 0, none⟩)
  t2 : T 2 = .pointer (some ⟨g2, 0, none⟩)
  t3 : T 3 = .pointer (some ⟨g3, 0, none⟩)
  t4 : T 4 = .slice (some ⟨gm, 0, none⟩) 257 257
  c1 : w.rangeAt g1 0 (q5C eQ)
  c2 : w.rangeAt g2 0 (q5C xQ)
  c3 : w.rangeAt g3 0 (q5C sQ)
  lm : Lie w gm 0 (List.replicate 257 xQ)

theorem range_below {w w' : World} {g : Nat} {cs : List Value} (h : w.rangeAt g 0 cs) (b : Below w.heap.size w w') : w'.rangeAt g 0 cs := fun j v hv => (b.cell (lt_of_cell (h j v hv))).trans (h j v hv)

/-- An operation's step. -/
def St7 (g1 g2 g3 gm : Nat) (i : Nat) (op : Op) : Prop := ∀ (o : Oper) (a : Act) (w : World) (K : Act → World → Prop) (Q : Exit → Act → World → Prop), o.op = op → Env g1 g2 g3 gm (fun t => a.tmps.getD t undef) w →
  (∀ j ∈ D7.getD i [], ph7 gm j (a.tmps.getD (ds7 j) undef) w) → (∀ v w', ph7 gm i v w' → Below w.heap.size w w' → K (a.put o.dst v) w') → o.wp Try.prog a w K Q

variable {g1 g2 g3 gm : Nat}

theorem st_load1 (i : Nat) (hk : kn7.getD i (3, default, 0) = (0, eQ, 0)) : St7 g1 g2 g3 gm i (.load 37 (.tmp 1)) := fun o a w K Q ho he hd hK =>
  wp_load_mid 37 (.tmp 1) ho g1 0 he.t1 (q5C eQ) _ he.c1 Try.underlying37 rfl ins_size (hK _ _ (by unfold ph7; rw [hk]; rfl) (Below.refl _ _))
theorem st_load2 (i : Nat) (hk : kn7.getD i (3, default, 0) = (0, xQ, 0)) : St7 g1 g2 g3 gm i (.load 37 (.tmp 2)) := fun o a w K Q ho he hd hK =>
  wp_load_mid 37 (.tmp 2) ho g2 0 he.t2 (q5C xQ) _ he.c2 Try.underlying37 rfl ins_size (hK _ _ (by unfold ph7; rw [hk]; rfl) (Below.refl _ _))
theorem st_load3 (i : Nat) (hk : kn7.getD i (3, default, 0) = (0, sQ, 0)) : St7 g1 g2 g3 gm i (.load 37 (.tmp 3)) := fun o a w K Q ho he hd hK =>
  wp_load_mid 37 (.tmp 3) ho g3 0 he.t3 (q5C sQ) _ he.c3 Try.underlying37 rfl ins_size (hK _ _ (by unfold ph7; rw [hk]; rfl) (Below.refl _ _))

theorem st_call (i f : Nat) (k : IntKind) (z : Int) (q : Q5) (ts : Array TypeId) (hk : kn7.getD i (3, default, 0) = (0, q, 0))
    (hr : ∀ w, (callFunc f #[.int k z]).run Try.prog w = .ok (.enter f #[.int k z]) w)
    (hc : ∀ w, Calls Try.prog f #[.int k z] w fun e w' => e = .returned (insQ q) ∧ Below w.heap.size w w') : St7 g1 g2 g3 gm i (.call { callee := .value (.func f), args := #[.const (.int k z)], argTypes := ts }) := fun o a w K Q ho he hd hK => by
  have hrun : (execOp a.eval o).run Try.prog w = .ok (.enter f #[.int k z]) w := by
    unfold execOp
    simp only [ho]
    go_simp
  unfold Oper.wp
  rw [hrun, Oper.upon_enter]
  refine (hc w).mono ?_
  rintro e w' ⟨rfl, hb⟩
  exact hK _ _ (by unfold ph7; rw [hk]; rfl) hb

theorem jump_is (z : Int) (w : World) : Calls Try.prog 19 #[.int .i16 z] w fun e w' => e = .returned (insV 22 0 0 z 0) ∧ Below w.heap.size w w' := by
  have HK : Hid (∀ ob, Below w.heap.size w (w.alloc ob)) := fun ob => (Below.refl _ _).alloc (Nat.le_refl _) _
  go_enter Try.func19, Try.ntmps19
  go_wp2_with fail
  refine ret_cell_one rfl w.heap.size 37 [.int .u8 22, .int .u8 0, .int .u8 0, .int .i16 z, .int .i32 0] (0, 0) _ rfl (heap_alloc_new w _) Try.underlying37 rfl ins_size rfl ?_
  exact ⟨rfl, HK.out _⟩

/-- A slice literal of programs' instructions. -/
theorem st_build (i c n : Nat) (parts : Array (Nat × Operand)) (hk : kn7.getD i (3, default, 0) = (1, default, c)) (hn : (cdK.getD c []).length = n) (hin : (cdK.getD c []).all inT = true)
    (hb : Try.prog.builtSlice 37 n ((cdK.getD c []).zipIdx.map fun x => (x.2, insQ x.1)) = some (q5L (cdK.getD c [])).toArray)
    (hp : ∀ (a : Act) (w : World), (∀ j ∈ D7.getD i [], ph7 gm j (a.tmps.getD (ds7 j) undef) w) → (parts.map fun (i, x) => (i, a.eval x)).toList = (cdK.getD c []).zipIdx.map fun x => (x.2, insQ x.1)) :
    St7 g1 g2 g3 gm i (.buildSlice 22 n parts) := fun o a w K Q ho he hd hK => by
  have hf := hb
  rw [← hp a w hd] at hf
  unfold Program.builtSlice at hf
  cases hie : Try.prog.info? 37 with
  | none => simp [hie] at hf
  | some ie =>
    simp only [hie] at hf
    cases hz : ie.zero with
    | none => simp [hz] at hf
    | some z =>
      simp only [hz] at hf
      by_cases hc : n * ie.size > 2 ^ 24 ∨ n * ie.size = 0
      · simp [hc] at hf
      · rw [if_neg hc] at hf
        refine wp_buildSlice 22 37 n parts ho _ ie z Try.underlying22 hie hz (fun h' => hc (Or.inl h')) (fun h' => hc (Or.inr h')) hf ?_
        refine hK _ _ ?_ ((Below.refl _ _).alloc (Nat.le_refl _) _)
        unfold ph7
        rw [hk]
        have := cd_new w (cdK.getD c []) 37 hin
        rw [hn] at this
        exact this

theorem val7 {a : Act} {w : World} {i j : Nat} {q : Q5} (hd : ∀ j ∈ D7.getD i [], ph7 gm j (a.tmps.getD (ds7 j) undef) w) (hj : j ∈ D7.getD i []) (hk : kn7.getD j (3, default, 0) = (0, q, 0)) : a.eval (.tmp (ds7 j)) = insQ q := by
  have := hd j hj
  unfold ph7 at this
  rw [hk] at this
  exact this


theorem run_op (z : Int) (w : World) : (callFunc 17 #[.int .u8 z]).run Try.prog w = .ok (.enter 17 #[.int .u8 z]) w := by go_simp
theorem run_rep (z : Int) (w : World) : (callFunc 18 #[.int .i32 z]).run Try.prog w = .ok (.enter 18 #[.int .i32 z]) w := by go_simp
theorem run_jump (z : Int) (w : World) : (callFunc 19 #[.int .i16 z]).run Try.prog w = .ok (.enter 19 #[.int .i16 z]) w := by go_simp

theorem cd_many (w : World) (n : Nat) (hl : Lie w gm 0 (List.replicate 257 xQ)) (hn : n ≤ 257) : Cd w (.slice (some ⟨gm, 0, none⟩) n 257) (List.replicate n xQ) := by
  refine ⟨⟨_, 257, by rw [List.length_replicate], by rw [List.length_replicate]; exact hn, .inr ⟨gm, 0, rfl, fun k p d s o i hk => hl k p d s o i ?_⟩⟩, fun k p d s o i hk => ?_⟩
  · rw [List.getElem?_replicate] at hk ⊢
    split at hk
    · rw [if_pos (by omega)]; exact hk
    · cases hk
  · rw [List.getElem?_replicate] at hk
    split at hk
    · cases hk
      constructor <;> decide
    · cases hk

theorem wp_value {P : Program} {o : Oper} {a : Act} {w w' : World} {K : Act → World → Prop} {Q : Exit → Act → World → Prop} (v : Value) (hrun : (execOp a.eval o).run P w = .ok (.value v) w') (h : K (a.put o.dst v) w') : o.wp P a w K Q := by
  unfold Oper.wp
  rw [hrun, Oper.upon_value]
  exact h
end Go.Proofs.Ytffjddabjjcjpaa
