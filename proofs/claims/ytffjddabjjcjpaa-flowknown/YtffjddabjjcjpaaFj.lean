/- Programs that the laws lay themselves; the law's works. -/
import Derived.Test.YtffjddabjjcjpaaFi
import Derived.Test.YtffjddabjjcjpaaIh
namespace Go.Proofs.Ytffjddabjjcjpaa
open Go.ChangeShapes Go.WideShapes Go.ChangeAt Go.RowKit
set_option maxRecDepth 10000

def q5C (q : Q5) : List Value := [.int .u8 q.1, .int .u8 q.2.1, .int .u8 q.2.2.1, .int .i16 q.2.2.2.1, .int .i32 q.2.2.2.2]
def q5L (L : List Q5) : List Value := L.flatMap q5C

theorem q5L_at : ∀ (L : List Q5) (k : Nat) (q : Q5), L[k]? = some q → (q5L L)[k * 5]? = some (.int .u8 q.1) ∧ (q5L L)[k * 5 + 1]? = some (.int .u8 q.2.1) ∧ (q5L L)[k * 5 + 2]? = some (.int .u8 q.2.2.1) ∧ (q5L L)[k * 5 + 3]? = some (.int .i16 q.2.2.2.1) ∧ (q5L L)[k * 5 + 4]? = some (.int .i32 q.2.2.2.2)
  | [], k, q, h => by simp at h
  | x :: r, 0, q, h => by
    simp at h
    subst h
    exact ⟨rfl, rfl, rfl, rfl, rfl⟩
  | x :: r, k + 1, q, h => by
    have ih := q5L_at r k q (by simpa using h)
    have e : ∀ j, (q5L (x :: r))[(k + 1) * 5 + j]? = (q5L r)[k * 5 + j]? := fun j => by
      show (q5C x ++ q5L r)[(k + 1) * 5 + j]? = _
      rw [List.getElem?_append_right (by simp [q5C]; omega)]
      congr 1
      simp [q5C]; omega
    have e0 := e 0
    rw [Nat.add_zero, Nat.add_zero] at e0
    rw [e0, e 1, e 2, e 3, e 4]
    exact ih

def inT (q : Q5) : Bool := decide (0 ≤ q.1 ∧ q.1 ≤ 255 ∧ 0 ≤ q.2.1 ∧ q.2.1 ≤ 255 ∧ 0 ≤ q.2.2.1 ∧ q.2.2.1 ≤ 255 ∧ -32768 ≤ q.2.2.2.1 ∧ q.2.2.2.1 ≤ 32767 ∧ -2147483648 ≤ q.2.2.2.2 ∧ q.2.2.2.2 ≤ 2147483647)
theorem inbL_of {L : List Q5} (h : L.all inT = true) : InbL L := by
  intro k p d s o i hk
  have := List.all_eq_true.1 h _ (List.mem_of_getElem? hk)
  have := of_decide_eq_true this
  simp only [] at this
  constructor <;> omega

/-- A row of instructions that was laid just now. -/
theorem lie_new (w : World) (L : List Q5) (t : TypeId) : Lie (w.alloc (.cells (q5L L).toArray t)) w.heap.size 0 L := by
  intro k p d s o i hk
  obtain ⟨a0, a1, a2, a3, a4⟩ := q5L_at L k _ hk
  have e : ∀ j, (w.alloc (.cells (q5L L).toArray t)).cell? ⟨w.heap.size, 0 + k * 5 + j, none⟩ = (q5L L)[k * 5 + j]? := fun j => by
    rw [World.cell?_alloc_new, Nat.zero_add, List.getElem?_toArray]
  have e0 := e 0
  rw [Nat.add_zero, Nat.add_zero] at e0
  rw [e0, e 1, e 2, e 3, e 4]
  exact ⟨a0, a1, a2, a3, a4⟩
theorem cd_new (w : World) (L : List Q5) (t : TypeId) (h : L.all inT = true) : Cd (w.alloc (.cells (q5L L).toArray t)) (.slice (some ⟨w.heap.size, 0, none⟩) L.length L.length) L :=
  ⟨⟨_, _, rfl, Nat.le_refl _, .inr ⟨_, _, rfl, lie_new w L t⟩⟩, inbL_of h⟩

theorem ins_size : (Try.prog.info? 37).map (·.size) = some 5 := by kernel_rfl

theorem op_is (p : Int) (w : World) : Calls Try.prog 17 #[.int .u8 p] w fun e w' => e = .returned (insV p 0 0 0 0) ∧ Below w.heap.size w w' := by
  have HK : Hid (∀ ob, Below w.heap.size w (w.alloc ob)) := fun ob => (Below.refl _ _).alloc (Nat.le_refl _) _
  go_enter Try.func17, Try.ntmps17
  go_wp2_with fail
  refine ret_cell_one rfl w.heap.size 37 [.int .u8 p, .int .u8 0, .int .u8 0, .int .i16 0, .int .i32 0] (0, 0) _ rfl (heap_alloc_new w _) Try.underlying37 rfl ins_size rfl ?_
  exact ⟨rfl, HK.out _⟩
theorem rep_is (n : Int) (w : World) : Calls Try.prog 18 #[.int .i32 n] w fun e w' => e = .returned (insV 33 0 0 0 n) ∧ Below w.heap.size w w' := by
  have HK : Hid (∀ ob, Below w.heap.size w (w.alloc ob)) := fun ob => (Below.refl _ _).alloc (Nat.le_refl _) _
  go_enter Try.func18, Try.ntmps18
  go_wp2_with fail
  refine ret_cell_one rfl w.heap.size 37 [.int .u8 33, .int .u8 0, .int .u8 0, .int .i16 0, .int .i32 n] (0, 0) _ rfl (heap_alloc_new w _) Try.underlying37 rfl ins_size rfl ?_
  exact ⟨rfl, HK.out _⟩

def L3 : List Q5 := [(33, 0, 0, 0, 3), (1, 0, 0, 0, 1), (23, 0, 0, 1, 1), (1, 0, 0, 0, 2), (34, 0, 0, 0, 0), (36, 0, 0, 0, 0)]

theorem three_is (w : World) : Calls Try.prog 20 #[] w fun e w' => (∃ v, e = .returned v ∧ Cd w' v L3) ∧ Below w.heap.size w w' := by
  go_enter Try.func20, Try.ntmps20
  go_wp2_with fail
  refine (rep_is 3 _).mono ?_
  rintro e w1 ⟨rfl, b1⟩
  go_wp2_with fail
  refine (op_is 34 _).mono ?_
  rintro e w2 ⟨rfl, b2⟩
  go_wp2_with fail
  refine (op_is 36 _).mono ?_
  rintro e w3 ⟨rfl, b3⟩
  have B3 := Hid.mk' (b1.trans ((b2.mono b1.size).trans (b3.mono (Nat.le_trans b1.size b2.size))))
  clear b1 b2 b3
  go_wp2_with fail
  go_ret
  exact ⟨⟨_, rfl, cd_new w3 L3 37 (by decide)⟩, B3.out.alloc B3.out.size _⟩
end Go.Proofs.Ytffjddabjjcjpaa
