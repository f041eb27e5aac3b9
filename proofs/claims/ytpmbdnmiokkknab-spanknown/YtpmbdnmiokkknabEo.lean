/- The walk of SpanKnown. -/
import Derived.Test.YtpmbdnmiokkknabDy
import Derived.Deep.CutBlock
import Derived.Deep.CutRange
import Derived.Great.BuildSlice
import Derived.Great.Walk
namespace Go.Proofs.Ytpmbdnmiokkknab
open Go.ChangeShapes Go.WideShapes Go.ChangeAt Go.RowKit
set_option maxRecDepth 100000
set_option linter.unusedVariables false

def opsL : List Int := [4, 3, 3, 5, 5, 5, 7, 7, 7, 9, 10, 11, 10, 12, 12, 13, 5, 7, 11, 10, 4]
def asL : List (Int × Int) := [(1, 5), (1, 5), (0, 5), (10, 20), (1, 5), (1, 5), (2, 3), (9223372036854775808, 9223372036854775808), (9223372036854775808, 9223372036854775809), (0, 300), (4, 9), (4, 9), (5, 5), (1, 3), (1, 2), (5, 17), (3, 3), (0, 18446744073709551615), (0, 18446744073709551615), (0, 0), (0, 18446744073709551615)]
def bsL : List (Int × Int) := [(10, 20), (18446744073709551615, 18446744073709551615), (18446744073709551615, 18446744073709551615), (1, 5), (10, 20), (5, 6), (4, 5), (2, 2), (2, 2), (255, 255), (1, 2), (1, 2), (2, 2), (4, 4), (63, 63), (2, 2), (4, 4), (0, 0), (1, 1), (0, 1), (0, 0)]
def waL : List (Int × Int) := [(11, 25), (0, 4), (0, 18446744073709551615), (5, 19), (18446744073709551597, 18446744073709551611), (0, 18446744073709551615), (8, 15), (0, 0), (0, 18446744073709551615), (0, 255), (4, 15), (0, 15), (7, 7), (16, 48), (0, 18446744073709551615), (1, 4), (18446744073709551615, 18446744073709551615), (0, 0), (0, 18446744073709551615), (0, 1), (0, 18446744073709551615)]
def spC (p : Int × Int) : List Value := [.int .u64 p.1, .int .u64 p.2]
def spL (l : List (Int × Int)) : List Value := l.flatMap spC
/-- Rows that were laid, one behind another. -/
structure Kn (W u : World) (bs : List (Nat × List Value × TypeId)) : Prop where
  old : Below W.heap.size W u
  blk : ∀ x ∈ bs, u.heap[x.1]? = some (.cells x.2.1.toArray x.2.2 (0, 0))
theorem Kn.below {W u u' : World} {bs : List (Nat × List Value × TypeId)} (h : Kn W u bs) (k : Below u.heap.size u u') : Kn W u' bs :=
  ⟨h.old.trans (k.mono h.old.size), fun x hx => (k.block _ (Array.getElem?_eq_some_iff.1 (h.blk x hx)).1).trans (h.blk x hx)⟩
theorem Kn.add {W u : World} {bs : List (Nat × List Value × TypeId)} (h : Kn W u bs) (L : List Value) (t : TypeId) : Kn W (u.alloc (.cells L.toArray t (0, 0))) ((u.heap.size, L, t) :: bs) :=
  ⟨h.old.trans ((bl1 u _).mono h.old.size), fun x hx => by
    rcases List.mem_cons.1 hx with rfl | hx
    · exact heap_alloc_new u _
    · exact (h.below (bl1 u _)).blk x hx⟩
theorem Kn.nil (W : World) : Kn W W [] := ⟨Below.refl _ _, fun x hx => by simp at hx⟩
def u8L (l : List Int) : List Value := l.map (Value.int .u8)
theorem as_built : Try.prog.builtSlice 24 21 [(0, spV (1, 5)), (1, spV (1, 5)), (2, spV (0, 5)), (3, spV (10, 20)), (4, spV (1, 5)), (5, spV (1, 5)), (6, spV (2, 3)), (7, spV (9223372036854775808, 9223372036854775808)), (8, spV (9223372036854775808, 9223372036854775809)), (9, spV (0, 300)), (10, spV (4, 9)), (11, spV (4, 9)), (12, spV (5, 5)), (13, spV (1, 3)), (14, spV (1, 2)), (15, spV (5, 17)), (16, spV (3, 3)), (17, spV (0, 18446744073709551615)), (18, spV (0, 18446744073709551615)), (19, spV (0, 0)), (20, spV (0, 18446744073709551615))] = some (spL asL).toArray := by kernel_rfl
theorem bs_built : Try.prog.builtSlice 24 21 [(0, spV (10, 20)), (1, spV (18446744073709551615, 18446744073709551615)), (2, spV (18446744073709551615, 18446744073709551615)), (3, spV (1, 5)), (4, spV (10, 20)), (5, spV (5, 6)), (6, spV (4, 5)), (7, spV (2, 2)), (8, spV (2, 2)), (9, spV (255, 255)), (10, spV (1, 2)), (11, spV (1, 2)), (12, spV (2, 2)), (13, spV (4, 4)), (14, spV (63, 63)), (15, spV (2, 2)), (16, spV (4, 4)), (17, spV (0, 0)), (18, spV (1, 1)), (19, spV (0, 1)), (20, spV (0, 0))] = some (spL bsL).toArray := by kernel_rfl
theorem wa_built : Try.prog.builtSlice 24 21 [(0, spV (11, 25)), (1, spV (0, 4)), (2, spV (0, 18446744073709551615)), (3, spV (5, 19)), (4, spV (18446744073709551597, 18446744073709551611)), (5, spV (0, 18446744073709551615)), (6, spV (8, 15)), (7, spV (0, 0)), (8, spV (0, 18446744073709551615)), (9, spV (0, 255)), (10, spV (4, 15)), (11, spV (0, 15)), (12, spV (7, 7)), (13, spV (16, 48)), (14, spV (0, 18446744073709551615)), (15, spV (1, 4)), (16, spV (18446744073709551615, 18446744073709551615)), (17, spV (0, 0)), (18, spV (0, 18446744073709551615)), (19, spV (0, 1)), (20, spV (0, 18446744073709551615))] = some (spL waL).toArray := by kernel_rfl

/-- A call of to with two numbers, as a step; nothing of the frame is opened. -/
theorem wpList_to {ops : Array Oper} {rest : List Oper} {o : Oper} {a : Act} {w : World} {Q : Exit → Act → World → Prop} (hg : o.guard = none) (d : Option Tmp) (hd : o.dst = d) (x y : Int) (ts : Array TypeId)
    (ho : o.op = .call { callee := .value (.func 7), args := #[.const (.int .u64 x), .const (.int .u64 y)], argTypes := ts })
    (h : ∀ w', Below w.heap.size w w' → wpList Try.prog ops Q rest (a.put d (spV (x, y))) w') : wpList Try.prog ops Q (o :: rest) a w := by
  refine wpList_plain hg fun K hK => ?_
  have hrun : (execOp a.eval o).run Try.prog w = .ok (.enter 7 #[.int .u64 x, .int .u64 y]) w := by
    unfold execOp
    simp only [ho]
    go_simp
  unfold Oper.wp
  rw [hrun, Oper.upon_enter]
  refine (to_any x y w).mono ?_
  rintro e w' ⟨rfl, hb⟩
  subst hd
  exact hK _ _ (h w' hb)
theorem ops_built : Try.prog.builtSlice 5 21 [(0, .int .u8 4), (1, .int .u8 3), (2, .int .u8 3), (3, .int .u8 5), (4, .int .u8 5), (5, .int .u8 5), (6, .int .u8 7), (7, .int .u8 7), (8, .int .u8 7), (9, .int .u8 9), (10, .int .u8 10), (11, .int .u8 11), (12, .int .u8 10), (13, .int .u8 12), (14, .int .u8 12), (15, .int .u8 13), (16, .int .u8 5), (17, .int .u8 7), (18, .int .u8 11), (19, .int .u8 10), (20, .int .u8 4)] = some (u8L opsL).toArray := by kernel_rfl
/-- The cells of a slice literal, by the list of its parts. -/
theorem built_of {t : TypeId} {n : Nat} {parts : Array (Nat × Operand)} {a : Act} {L : List (Nat × Value)} {c : Array Value} (h : Try.prog.builtSlice t n L = some c)
    (hp : (parts.toList.map fun (i, x) => (i, a.eval x)) = L) : Try.prog.builtSlice t n (parts.map fun (i, x) => (i, a.eval x)).toList = some c := by
  rw [Array.toList_map, hp]; exact h

theorem cell_of {u : World} {b : Nat} {L : List Value} {t : TypeId} (h : u.heap[b]? = some (.cells L.toArray t (0, 0))) {k : Nat} {v : Value} (hv : L[k]? = some v) : u.cell? ⟨b, k, none⟩ = some v := by
  simp [World.cell?, h, hv]
theorem spL_at : ∀ (L : List (Int × Int)) (k : Nat) (p : Int × Int), L[k]? = some p → (spL L)[k * 2]? = some (.int .u64 p.1) ∧ (spL L)[k * 2 + 1]? = some (.int .u64 p.2)
  | [], k, p, h => by simp at h
  | q :: L, 0, p, h => by
    simp at h; subst h
    exact ⟨rfl, rfl⟩
  | q :: L, k + 1, p, h => by
    have ih := spL_at L k p (by simpa using h)
    have e : spL (q :: L) = Value.int .u64 q.1 :: Value.int .u64 q.2 :: spL L := rfl
    rw [e, show (k + 1) * 2 = k * 2 + 1 + 1 by omega]
    exact ih
def okB (p : Int × Int) : Bool := decide (0 ≤ p.1) && decide (p.1 ≤ 18446744073709551615) && decide (0 ≤ p.2) && decide (p.2 ≤ 18446744073709551615)
def rowB (o : Int) (a b w : Int × Int) : Bool := okB a && okB b && decide (doS o a.1 a.2 b.1 b.2 = w) && decide (doE o a.1 a.2 b.1 b.2 = 0)
theorem rows_ok : ∀ k, k < 21 → rowB (opsL.getD k 0) (asL.getD k (0, 0)) (bsL.getD k (0, 0)) (waL.getD k (0, 0)) = true := by decide
theorem u4_of {a b : Int × Int} (h : okB a = true) (h' : okB b = true) : U4 a.1 a.2 b.1 b.2 := by
  unfold okB at h h'
  simp only [Bool.and_eq_true, decide_eq_true_eq] at h h'
  constructor <;> omega
theorem kn_at (k : Nat) (h : k < 21) : ∃ o al ah bl bh wl wh : Int, opsL[k]? = some o ∧ asL[k]? = some (al, ah) ∧ bsL[k]? = some (bl, bh) ∧ waL[k]? = some (wl, wh) ∧
    ∀ u : World, Calls Try.prog 9 #[.int .u8 o, spV (al, ah), spV (bl, bh)] u fun e w' => e = .returned (.tuple #[spV (wl, wh), .int .i64 0]) ∧ Below u.heap.size u w' := by
  have ha := rows_ok k h
  have h1 : opsL[k]? = some (opsL.getD k 0) := by
    rw [List.getD_eq_getElem?_getD]; have : k < opsL.length := h; simp [this]
  have h2 : asL[k]? = some (asL.getD k (0, 0)) := by
    rw [List.getD_eq_getElem?_getD]; have : k < asL.length := h; simp [this]
  have h3 : bsL[k]? = some (bsL.getD k (0, 0)) := by
    rw [List.getD_eq_getElem?_getD]; have : k < bsL.length := h; simp [this]
  have h4 : waL[k]? = some (waL.getD k (0, 0)) := by
    rw [List.getD_eq_getElem?_getD]; have : k < waL.length := h; simp [this]
  unfold rowB at ha
  simp only [Bool.and_eq_true, decide_eq_true_eq] at ha
  obtain ⟨⟨⟨k1, k2⟩, k3⟩, k4⟩ := ha
  refine ⟨_, _, _, _, _, _, _, h1, h2, h3, h4, fun u => ?_⟩
  have e := do_any (opsL.getD k 0) (asL.getD k (0, 0)).1 (asL.getD k (0, 0)).2 (bsL.getD k (0, 0)).1 (bsL.getD k (0, 0)).2 u (u4_of k1 k2)
  rw [k3, k4] at e
  exact e
/-- The four rows, in whatever world. -/
structure Rows (u : World) (g1 g2 g3 g4 : Nat) (k : Nat) (o al ah bl bh wl wh : Int) : Prop where
  c0 : u.cell? ⟨g1, k, none⟩ = some (.int .u8 o)
  c1 : u.cell? ⟨g2, k * 2, none⟩ = some (.int .u64 al)
  c2 : u.cell? ⟨g2, k * 2 + 1, none⟩ = some (.int .u64 ah)
  c3 : u.cell? ⟨g3, k * 2, none⟩ = some (.int .u64 bl)
  c4 : u.cell? ⟨g3, k * 2 + 1, none⟩ = some (.int .u64 bh)
  c5 : u.cell? ⟨g4, k * 2, none⟩ = some (.int .u64 wl)
  c6 : u.cell? ⟨g4, k * 2 + 1, none⟩ = some (.int .u64 wh)
theorem Kn.rows {W u : World} {g1 g2 g3 g4 : Nat} {t1 t2 t3 t4 : TypeId} (h : Kn W u [(g4, spL waL, t4), (g3, spL bsL, t3), (g2, spL asL, t2), (g1, u8L opsL, t1)]) {k : Nat} {o al ah bl bh wl wh : Int}
    (h1 : opsL[k]? = some o) (h2 : asL[k]? = some (al, ah)) (h3 : bsL[k]? = some (bl, bh)) (h4 : waL[k]? = some (wl, wh)) : Rows u g1 g2 g3 g4 k o al ah bl bh wl wh := by
  have b4 := h.blk (g4, spL waL, t4) (by simp)
  have b3 := h.blk (g3, spL bsL, t3) (by simp)
  have b2 := h.blk (g2, spL asL, t2) (by simp)
  have b1 := h.blk (g1, u8L opsL, t1) (by simp)
  have e1 : (u8L opsL)[k]? = some (.int .u8 o) := by
    show (opsL.map (Value.int .u8))[k]? = _
    rw [List.getElem?_map, h1]; rfl
  exact ⟨cell_of b1 e1, cell_of b2 (spL_at _ _ _ h2).1, cell_of b2 (spL_at _ _ _ h2).2, cell_of b3 (spL_at _ _ _ h3).1, cell_of b3 (spL_at _ _ _ h3).2, cell_of b4 (spL_at _ _ _ h4).1, cell_of b4 (spL_at _ _ _ h4).2⟩

theorem spne_same (x y : Int) (u : World) : Sem.run Try.prog (binOp .neq 24 (.agg #[.int .u64 x, .int .u64 y]) (.agg #[.int .u64 x, .int .u64 y])) u = .ok (.bool false) u := by
  have h := sp_ne x y x y u
  simpa using h
theorem speq_same (x y : Int) (u : World) : Sem.run Try.prog (binOp .eql 24 (.agg #[.int .u64 x, .int .u64 y]) (.agg #[.int .u64 x, .int .u64 y])) u = .ok (.bool true) u := by
  have h := sp_eq x y x y u
  simpa using h
theorem kd11 (u : World) : Calls Try.prog 9 #[.int .u8 13, spV (5, 5), spV (64, 64)] u fun e w' => e = .returned (.tuple #[spV (0, 0), .int .i64 2]) ∧ Below u.heap.size u w' := by
  have h := do_any 13 5 5 64 64 u (by constructor <;> decide)
  rw [show doS 13 5 5 64 64 = (0, 0) by decide, show doE 13 5 5 64 64 = 2 by decide] at h
  exact h
theorem kd12 (u : World) : Calls Try.prog 9 #[.int .u8 2, spV (5, 5), spV (4, 4)] u fun e w' => e = .returned (.tuple #[spV (0, 0), .int .i64 2]) ∧ Below u.heap.size u w' := by
  have h := do_any 2 5 5 4 4 u (by constructor <;> decide)
  rw [show doS 2 5 5 4 4 = (0, 0) by decide, show doE 2 5 5 4 4 = 2 by decide] at h
  exact h
theorem kd13 (u : World) : Calls Try.prog 9 #[.int .u8 12, spV (5, 5), spV (1, 2)] u fun e w' => e = .returned (.tuple #[spV (0, 0), .int .i64 2]) ∧ Below u.heap.size u w' := by
  have h := do_any 12 5 5 1 2 u (by constructor <;> decide)
  rw [show doS 12 5 5 1 2 = (0, 0) by decide, show doE 12 5 5 1 2 = 2 by decide] at h
  exact h
theorem kd14 (u : World) : Calls Try.prog 9 #[.int .u8 4, spV (5, 4), spV (1, 2)] u fun e w' => e = .returned (.tuple #[spV (0, 0), .int .i64 150]) ∧ Below u.heap.size u w' := by
  have h := do_any 4 5 4 1 2 u (by constructor <;> decide)
  rw [show doS 4 5 4 1 2 = (0, 0) by decide, show doE 4 5 4 1 2 = 150 by decide] at h
  exact h
theorem kd15 (u : World) : Calls Try.prog 9 #[.int .u8 13, spV (5, 5), spV (2, 1)] u fun e w' => e = .returned (.tuple #[spV (0, 0), .int .i64 150]) ∧ Below u.heap.size u w' := by
  have h := do_any 13 5 5 2 1 u (by constructor <;> decide)
  rw [show doS 13 5 5 2 1 = (0, 0) by decide, show doE 13 5 5 2 1 = 150 by decide] at h
  exact h
theorem kc16 (u : World) : Calls Try.prog 10 #[.int .u8 22, .bool true, spV (5, 4), spV (1, 2)] u fun e w' => e = .returned (.tuple #[spV (0, 0), spV (0, 0), .bool false, .int .i64 2]) ∧ Below u.heap.size u w' := by
  have h := pcut_any 22 true 5 4 1 2 u (by constructor <;> decide)
  rw [show ctX 22 true 5 4 1 2 = (0, 0) by decide, show ctY 22 true 5 4 1 2 = (0, 0) by decide, show ctC 22 true 5 4 1 2 = false by decide, show ctE 22 5 4 1 2 = 2 by decide] at h
  exact h
theorem kc19 (u : World) : Calls Try.prog 10 #[.int .u8 29, .bool false, spV (0, 9), spV (5, 5)] u fun e w' => e = .returned (.tuple #[spV (5, 9), spV (5, 5), .bool true, .int .i64 0]) ∧ Below u.heap.size u w' := by
  have h := pcut_any 29 false 0 9 5 5 u (by constructor <;> decide)
  rw [show ctX 29 false 0 9 5 5 = (5, 9) by decide, show ctY 29 false 0 9 5 5 = (5, 5) by decide, show ctC 29 false 0 9 5 5 = true by decide, show ctE 29 0 9 5 5 = 0 by decide] at h
  exact h
theorem kc20 (u : World) : Calls Try.prog 10 #[.int .u8 27, .bool true, spV (0, 9), spV (5, 20)] u fun e w' => e = .returned (.tuple #[spV (5, 9), spV (5, 9), .bool true, .int .i64 0]) ∧ Below u.heap.size u w' := by
  have h := pcut_any 27 true 0 9 5 20 u (by constructor <;> decide)
  rw [show ctX 27 true 0 9 5 20 = (5, 9) by decide, show ctY 27 true 0 9 5 20 = (5, 9) by decide, show ctC 27 true 0 9 5 20 = true by decide, show ctE 27 0 9 5 20 = 0 by decide] at h
  exact h
theorem kc21 (u : World) : Calls Try.prog 10 #[.int .u8 28, .bool true, spV (0, 9), spV (9, 9)] u fun e w' => e = .returned (.tuple #[spV (0, 8), spV (9, 9), .bool true, .int .i64 0]) ∧ Below u.heap.size u w' := by
  have h := pcut_any 28 true 0 9 9 9 u (by constructor <;> decide)
  rw [show ctX 28 true 0 9 9 9 = (0, 8) by decide, show ctY 28 true 0 9 9 9 = (9, 9) by decide, show ctC 28 true 0 9 9 9 = true by decide, show ctE 28 0 9 9 9 = 0 by decide] at h
  exact h
theorem kc22 (u : World) : Calls Try.prog 10 #[.int .u8 28, .bool true, spV (3, 3), spV (3, 3)] u fun e w' => e = .returned (.tuple #[spV (0, 0), spV (0, 0), .bool false, .int .i64 0]) ∧ Below u.heap.size u w' := by
  have h := pcut_any 28 true 3 3 3 3 u (by constructor <;> decide)
  rw [show ctX 28 true 3 3 3 3 = (0, 0) by decide, show ctY 28 true 3 3 3 3 = (0, 0) by decide, show ctC 28 true 3 3 3 3 = false by decide, show ctE 28 3 3 3 3 = 0 by decide] at h
  exact h
theorem kc23 (u : World) : Calls Try.prog 10 #[.int .u8 23, .bool false, spV (0, 9), spV (0, 0)] u fun e w' => e = .returned (.tuple #[spV (1, 9), spV (0, 0), .bool true, .int .i64 0]) ∧ Below u.heap.size u w' := by
  have h := pcut_any 23 false 0 9 0 0 u (by constructor <;> decide)
  rw [show ctX 23 false 0 9 0 0 = (1, 9) by decide, show ctY 23 false 0 9 0 0 = (0, 0) by decide, show ctC 23 false 0 9 0 0 = true by decide, show ctE 23 0 9 0 0 = 0 by decide] at h
  exact h
theorem kc24 (u : World) : Calls Try.prog 10 #[.int .u8 31, .bool true, spV (0, 18446744073709551615), spV (18446744073709551615, 18446744073709551615)] u fun e w' => e = .returned (.tuple #[spV (0, 0), spV (0, 0), .bool false, .int .i64 0]) ∧ Below u.heap.size u w' := by
  have h := pcut_any 31 true 0 18446744073709551615 18446744073709551615 18446744073709551615 u (by constructor <;> decide)
  rw [show ctX 31 true 0 18446744073709551615 18446744073709551615 18446744073709551615 = (0, 0) by decide, show ctY 31 true 0 18446744073709551615 18446744073709551615 18446744073709551615 = (0, 0) by decide, show ctC 31 true 0 18446744073709551615 18446744073709551615 18446744073709551615 = false by decide, show ctE 31 0 18446744073709551615 18446744073709551615 18446744073709551615 = 0 by decide] at h
  exact h
theorem kc25 (u : World) : Calls Try.prog 10 #[.int .u8 30, .bool true, spV (0, 18446744073709551615), spV (0, 0)] u fun e w' => e = .returned (.tuple #[spV (0, 0), spV (0, 0), .bool true, .int .i64 0]) ∧ Below u.heap.size u w' := by
  have h := pcut_any 30 true 0 18446744073709551615 0 0 u (by constructor <;> decide)
  rw [show ctX 30 true 0 18446744073709551615 0 0 = (0, 0) by decide, show ctY 30 true 0 18446744073709551615 0 0 = (0, 0) by decide, show ctC 30 true 0 18446744073709551615 0 0 = true by decide, show ctE 30 0 18446744073709551615 0 0 = 0 by decide] at h
  exact h
theorem km17 (u : World) : Calls Try.prog 12 #[.int .u8 33, .int .u64 1, .int .u64 1] u fun e w' => e = .returned (.tuple #[.bool false, .int .i64 2]) ∧ u = w' := by
  have h := compare_any 33 1 1 u
  rw [show cmB 33 1 1 = false by decide, show cmE 33 = 2 by decide] at h
  exact h
theorem Kn.add2 {W u : World} {bs : List (Nat × List Value × TypeId)} (h : Kn W u bs) (a b c d : Int) : Kn W ((u.alloc (spO a b)).alloc (spO c d)) ((u.heap.size + 1, [.int .u64 c, .int .u64 d], 24) :: (u.heap.size, [.int .u64 a, .int .u64 b], 24) :: bs) := by
  have k := (h.add [.int .u64 a, .int .u64 b] 24).add [.int .u64 c, .int .u64 d] 24
  rw [show (u.alloc (.cells [Value.int .u64 a, Value.int .u64 b].toArray 24 (0, 0))).heap.size = u.heap.size + 1 by simp] at k
  exact k
theorem Kn.box {W u : World} {bs : List (Nat × List Value × TypeId)} (h : Kn W u bs) {g : Nat} {l m : Int} (hm : (g, [Value.int .u64 l, Value.int .u64 m], 24) ∈ bs) : Box u g l m := ⟨h.blk _ hm⟩
/-- The boxes that are compared at the end. -/
structure Fin10 (u : World) (g1 g2 g3 g4 g5 : Nat) : Prop where
  a1 : Box u g1 5 9
  b1 : Box u (g1 + 1) 5 5
  a2 : Box u g2 5 9
  b2 : Box u (g2 + 1) 5 9
  a3 : Box u g3 0 8
  b3 : Box u (g3 + 1) 9 9
  a4 : Box u g4 1 9
  b4 : Box u (g4 + 1) 0 0
  a5 : Box u g5 0 0
  b5 : Box u (g5 + 1) 0 0
theorem Kn.fin {W u : World} {t : TypeId} {g1 g2 g3 g4 g5 : Nat} (h : Kn W u [(g5 + 1, [.int .u64 0, .int .u64 0], 24), (g5, [.int .u64 0, .int .u64 0], 24), (g4 + 1, [.int .u64 0, .int .u64 0], 24), (g4, [.int .u64 1, .int .u64 9], 24),
    (g3 + 1, [.int .u64 9, .int .u64 9], 24), (g3, [.int .u64 0, .int .u64 8], 24), (g2 + 1, [.int .u64 5, .int .u64 9], 24), (g2, [.int .u64 5, .int .u64 9], 24), (g1 + 1, [.int .u64 5, .int .u64 5], 24), (g1, [.int .u64 5, .int .u64 9], 24)]) : Fin10 u g1 g2 g3 g4 g5 :=
  ⟨h.box (by simp), h.box (by simp), h.box (by simp), h.box (by simp), h.box (by simp), h.box (by simp), h.box (by simp), h.box (by simp), h.box (by simp), h.box (by simp)⟩
theorem kck54 (u : World) : Calls Try.prog 6 #[spV (5, 4)] u fun e w' => e = .returned (.int .i64 150) ∧ Below u.heap.size u w' := by
  have h := check_any 5 4 u
  rw [show ckS 5 4 = 150 by decide] at h
  exact h
theorem kck44 (u : World) : Calls Try.prog 6 #[spV (4, 4)] u fun e w' => e = .returned (.int .i64 0) ∧ Below u.heap.size u w' := by
  have h := check_any 4 4 u
  rw [show ckS 4 4 = 0 by decide] at h
  exact h
theorem khas (u : World) : Calls Try.prog 13 #[spV (5, 4), .int .u64 5] u fun e w' => e = .returned (.bool false) ∧ Below u.heap.size u w' := by
  have h := has_any 5 4 5 u
  rw [show hasB 5 4 5 = false by decide] at h
  exact h
end Go.Proofs.Ytpmbdnmiokkknab
