/- What the last region of WrapNames wants: builds in a region that draws; a block of deeds as an argument. -/
import Derived.Test.YtednmdkjhiihcaaGreatRa
import Derived.Test.YtednmdkjhiihcaaGreatGd
import Derived.Test.YtednmdkjhiihcaaGreatQ2
import Derived.Test.YtednmdkjhiihcaaGreatSq
import Derived.Great.BuildSlice
import Derived.Great.Walk
import Derived.Laws.Tables
namespace Go.Proofs.YtednmdkjhiihcaaGreat
open Go.ChangeShapes Go.WideShapes Go.ChangeAt Go.RowKit
set_option maxRecDepth 10000

theorem wp_buildSliceTo1 {o : Oper} {a : Act} {w : World} {K : Act → World → Prop} {Q : Exit → Act → World → Prop} (t e : TypeId) (len : Nat) (parts : Array (Nat × Operand)) (ho : o.op = .buildSlice t len parts)
    (hu : Tryz.prog.underlying t = some (.slice e)) (cells : Array Value) (hf : Tryz.prog.builtSlice e len (parts.map fun (i, x) => (i, a.eval x)).toList = some cells)
    (h : K (a.put o.dst (.slice (some ⟨w.heap.size, 0, none⟩) len len)) (w.alloc (.cells cells e))) : o.wp Tryz.prog a w K Q := by
  unfold Program.builtSlice at hf
  cases hie : Tryz.prog.info? e with
  | none => simp [hie] at hf
  | some ie =>
    simp only [hie] at hf
    cases hz : ie.zero with
    | none => simp [hz] at hf
    | some z =>
      simp only [hz] at hf
      by_cases hc : len * ie.size > 2 ^ 24 ∨ len * ie.size = 0
      · simp [hc] at hf
      · rw [if_neg hc] at hf
        exact wp_buildSlice t e len parts ho cells ie z hu hie hz (fun h' => hc (Or.inl h')) (fun h' => hc (Or.inr h')) hf h

theorem flat_at {α : Type} (cs : α → List Value) (n : Nat) : ∀ (xs : List α) (i : Nat) (x : α), (∀ y ∈ xs, (cs y).length = n) → xs[i]? = some x → ∀ j v, (cs x)[j]? = some v → (xs.flatMap cs)[i * n + j]? = some v
  | [], i, x, _, h, _, _, _ => by simp at h
  | y :: r, 0, x, hl, h, j, v, hv => by
    simp at h
    subst h
    have hj := (List.getElem?_eq_some_iff.1 hv).1
    rw [List.flatMap_cons, Nat.zero_mul, Nat.zero_add, List.getElem?_append_left hj]
    exact hv
  | y :: r, i + 1, x, hl, h, j, v, hv => by
    have ih := flat_at cs n r i x (fun z hz => hl z (List.mem_cons_of_mem _ hz)) (by simpa using h) j v hv
    have hy := hl y List.mem_cons_self
    have e : (i + 1) * n + j = (cs y).length + (i * n + j) := by rw [hy, Nat.add_mul]; omega
    rw [List.flatMap_cons, e, List.getElem?_append_right (Nat.le_add_right _ _), Nat.add_sub_cancel_left]
    exact ih

theorem slok_block {s : Sh} {w : World} {b : Nat} {t : TypeId} {xs : List s.M} (h : w.heap[b]? = some (.cells (xs.flatMap s.cs).toArray t (0, 0))) (ok : ∀ x ∈ xs, s.ok w x) (hl : xs.length ≤ maxLen) : SlOk s w (some ⟨b, 0, none⟩) xs.length xs := by
  refine ⟨⟨(fun e => by cases e), Nat.le_refl _, hl⟩, .inr ⟨b, 0, rfl, fun i x hi j v hv => ?_⟩, ok⟩
  have := flat_at s.cs s.n xs i x (fun y hy => s.len (ok y hy)) hi j v hv
  rw [Nat.zero_add, Go.cell_of_row w b _ _ _ _ h]
  simpa using this

/-- The five deeds. -/
def hm2 : sh46.M := ((2 : Int), (sh46.dflt : Int × _).2)
def dA : sh70.M := (false, (0 : Int), hm2)
def dB (k : Int) : sh70.M := (true, k, sh46.dflt)
def dos : List sh70.M := [dA, dA, dA, dB 2, dB 255]

theorem hm2_cs : sh46.cs hm2 = hz.set 0 (.int .u8 2) := by kernel_rfl
theorem dA_built : Tryz.prog.built 70 [(2, .agg (hz.set 0 (.int .u8 2)).toArray)] = some (sh70.cs dA).toArray := by kernel_rfl
theorem dB2_built : Tryz.prog.built 70 [(0, .bool true), (1, .int .u8 2)] = some (sh70.cs (dB 2)).toArray := by kernel_rfl
theorem dB255_built : Tryz.prog.built 70 [(0, .bool true), (1, .int .u8 255)] = some (sh70.cs (dB 255)).toArray := by kernel_rfl
theorem two_built : Tryz.prog.built 68 [] = some #[.int .i64 0, .int .i64 0] := by kernel_rfl
theorem dos_built : Tryz.prog.builtSlice 70 5 [(0, .agg (sh70.cs dA).toArray), (1, .agg (sh70.cs dA).toArray), (2, .agg (sh70.cs dA).toArray), (3, .agg (sh70.cs (dB 2)).toArray), (4, .agg (sh70.cs (dB 255)).toArray)] = some (dos.flatMap sh70.cs).toArray := by kernel_rfl

theorem hm_ok (k : Int) (h : (Lit.int .u8 k).wf = true) (w : World) : sh46.ok w ((k, (sh46.dflt : Int × _).2) : Int × _) := by
  refine And.intro h ?_
  repeat' (first | exact trivial | exact rfl | apply And.intro)
theorem dos_ok (w : World) : ∀ x ∈ dos, sh70.ok w x := by
  intro x hx
  simp only [dos, List.mem_cons, List.not_mem_nil, or_false] at hx
  rcases hx with rfl | rfl | rfl | rfl | rfl
  · exact ⟨trivial, rfl, hm_ok 2 rfl w⟩
  · exact ⟨trivial, rfl, hm_ok 2 rfl w⟩
  · exact ⟨trivial, rfl, hm_ok 2 rfl w⟩
  · exact ⟨trivial, rfl, hm_ok 0 rfl w⟩
  · exact ⟨trivial, rfl, hm_ok 0 rfl w⟩
end Go.Proofs.YtednmdkjhiihcaaGreat
