/- Handles of package share in memory (Hd, Cm, Bad); contracts of its calls, handle by handle. -/
import Derived.Test.YtbinedhgjmfceaaPg
namespace Go.Proofs.Ytbinedhgjmfceaa
open Go.ChangeShapes Go.WideShapes Go.ChangeAt Go.RowKit

/-- A handle at block s that points at the struct at block c. -/
def Hd (w : World) (s c : Nat) : Prop := w.heap[s]? = some (.cells #[.pointer (some ⟨c, 0, none⟩), .bool false] 59 (0, 0))
/-- A handle that was given up. -/
def Gn (w : World) (s : Nat) : Prop := w.heap[s]? = some (.cells #[.pointer none, .bool true] 59 (0, 0))
/-- The struct at block c: the packet at block p, n handles. -/
def Cm (w : World) (c p n : Nat) : Prop := w.heap[c]? = some (.cells #[.pointer (some ⟨p, 0, none⟩), .int .i64 n] 73 (0, 0))
/-- A handle that is none, or was given up, and the error that tells it. -/
def Bad (w : World) (v : Value) (E : Int) : Prop :=
  (E = 1 ∧ (v = .pointer none ∨ ∃ s, v = .pointer (some ⟨s, 0, none⟩) ∧ w.heap[s]? = some (.cells #[.pointer none, .bool false] 59 (0, 0)))) ∨ (E = 40 ∧ ∃ s, v = .pointer (some ⟨s, 0, none⟩) ∧ Gn w s)

theorem Hd.cells {w : World} {s c : Nat} (h : Hd w s c) : w.cell? ⟨s, 0, none⟩ = some (.pointer (some ⟨c, 0, none⟩)) ∧ w.cell? ⟨s, 1, none⟩ = some (.bool false) ∧ w.frozen? ⟨s, 0, none⟩ = false ∧ w.frozen? ⟨s, 1, none⟩ = false ∧ s < w.heap.size :=
  ⟨cell_of_row w s 0 _ _ _ h, cell_of_row w s 1 _ _ _ h, frozen_of_row w s 0 _ _ h, frozen_of_row w s 1 _ _ h, (Array.getElem?_eq_some_iff.1 h).1⟩
theorem Cm.cells {w : World} {c p n : Nat} (h : Cm w c p n) : w.cell? ⟨c, 0, none⟩ = some (.pointer (some ⟨p, 0, none⟩)) ∧ w.cell? ⟨c, 1, none⟩ = some (.int .i64 n) ∧ w.frozen? ⟨c, 0, none⟩ = false ∧ w.frozen? ⟨c, 1, none⟩ = false ∧ c < w.heap.size :=
  ⟨cell_of_row w c 0 _ _ _ h, cell_of_row w c 1 _ _ _ h, frozen_of_row w c 0 _ _ h, frozen_of_row w c 1 _ _ h, (Array.getElem?_eq_some_iff.1 h).1⟩
theorem hd_cm_ne {w : World} {s c c' p n : Nat} (h : Hd w s c') (k : Cm w c p n) : s ≠ c := by
  intro e; subst e; unfold Hd at h; unfold Cm at k; rw [h] at k
  simp only [Option.some.injEq, Obj.cells.injEq] at k; exact absurd k.2.1 (by decide)

set_option maxHeartbeats 400000 in
theorem standing_ok (s c : Nat) (w : World) (h : Hd w s c) :
    Calls Try.prog 42 #[.pointer (some ⟨s, 0, none⟩)] w fun e w' => e = .returned (.int .i64 0) ∧ w = w' := by
  obtain ⟨h0, h1, -, -, -⟩ := h.cells
  clear h
  go_enter Try.func42, Try.ntmps42
  go_wp2_with fail
  go_ret
  exact ⟨rfl, rfl⟩

set_option maxHeartbeats 400000 in
theorem standing_bad (v : Value) (E : Int) (w : World) (h : Bad w v E) :
    Calls Try.prog 42 #[v] w fun e w' => e = .returned (.int .i64 E) ∧ w = w' := by
  rcases h with ⟨rfl, rfl | ⟨s, rfl, h⟩⟩ | ⟨rfl, s, rfl, h⟩
  · go_enter Try.func42, Try.ntmps42
    go_wp2_with fail
    go_ret
    exact ⟨rfl, rfl⟩
  · have h0 : w.cell? ⟨s, 0, none⟩ = some (.pointer none) := cell_of_row w s 0 _ _ _ h
    have h1 : w.cell? ⟨s, 1, none⟩ = some (.bool false) := cell_of_row w s 1 _ _ _ h
    clear h
    go_enter Try.func42, Try.ntmps42
    go_wp2_with fail
    go_ret
    exact ⟨rfl, rfl⟩
  · have h1 : w.cell? ⟨s, 1, none⟩ = some (.bool true) := cell_of_row w s 1 _ _ _ h
    clear h
    go_enter Try.func42, Try.ntmps42
    go_wp2_with fail
    go_ret
    exact ⟨rfl, rfl⟩

theorem Bad.ne {w : World} {v : Value} {E : Int} (h : Bad w v E) : E = 1 ∨ E = 40 := by
  rcases h with ⟨rfl, _⟩ | ⟨rfl, _⟩
  · exact .inl rfl
  · exact .inr rfl

set_option maxHeartbeats 400000 in
theorem clone_bad (v : Value) (E : Int) (w : World) (h : Bad w v E) :
    Calls Try.prog 15 #[v] w fun e w' => e = .returned (.tuple #[.pointer none, .int .i64 E]) ∧ w = w' := by
  have key := standing_bad v E w h
  rcases h.ne with rfl | rfl
  all_goals
    clear h
    go_enter Try.func15, Try.ntmps15
    go_wp2_with fail
    refine key.mono ?_
    rintro e w1 ⟨rfl, rfl⟩
    go_wp2_with fail
    go_ret2
    exact ⟨rfl, rfl⟩
set_option maxHeartbeats 400000 in
theorem free_bad (v : Value) (E : Int) (w : World) (h : Bad w v E) :
    Calls Try.prog 19 #[v] w fun e w' => e = .returned (.int .i64 E) ∧ w = w' := by
  have key := standing_bad v E w h
  rcases h.ne with rfl | rfl
  all_goals
    clear h
    go_enter Try.func19, Try.ntmps19
    go_wp2_with fail
    refine key.mono ?_
    rintro e w1 ⟨rfl, rfl⟩
    go_wp2_with fail
    go_ret
    exact ⟨rfl, rfl⟩
set_option maxHeartbeats 400000 in
theorem count_bad (v : Value) (E : Int) (w : World) (h : Bad w v E) :
    Calls Try.prog 21 #[v] w fun e w' => e = .returned (.int .i64 0) ∧ w = w' := by
  have key := standing_bad v E w h
  rcases h.ne with rfl | rfl
  all_goals
    clear h
    go_enter Try.func21, Try.ntmps21
    go_wp2_with fail
    refine key.mono ?_
    rintro e w1 ⟨rfl, rfl⟩
    go_wp2_with fail
    go_ret
    exact ⟨rfl, rfl⟩
set_option maxHeartbeats 400000 in
theorem slen_bad (v : Value) (E : Int) (w : World) (h : Bad w v E) :
    Calls Try.prog 24 #[v] w fun e w' => e = .returned (.int .i64 0) ∧ w = w' := by
  have key := standing_bad v E w h
  rcases h.ne with rfl | rfl
  all_goals
    clear h
    go_enter Try.func24, Try.ntmps24
    go_wp2_with fail
    refine key.mono ?_
    rintro e w1 ⟨rfl, rfl⟩
    go_wp2_with fail
    go_ret
    exact ⟨rfl, rfl⟩
set_option maxHeartbeats 400000 in
theorem sbytes_bad (v : Value) (E : Int) (w : World) (h : Bad w v E) :
    Calls Try.prog 18 #[v] w fun e w' => e = .returned (.slice none 0 0) ∧ w = w' := by
  have key := standing_bad v E w h
  rcases h.ne with rfl | rfl
  all_goals
    clear h
    go_enter Try.func18, Try.ntmps18
    go_wp2_with fail
    refine key.mono ?_
    rintro e w1 ⟨rfl, rfl⟩
    go_wp2_with fail
    go_ret
    exact ⟨rfl, rfl⟩
set_option maxHeartbeats 400000 in
theorem sown_bad (v : Value) (E : Int) (w : World) (h : Bad w v E) :
    Calls Try.prog 22 #[v] w fun e w' => e = .returned (.tuple #[.pointer none, .int .i64 E]) ∧ w = w' := by
  have key := standing_bad v E w h
  rcases h.ne with rfl | rfl
  all_goals
    clear h
    go_enter Try.func22, Try.ntmps22
    go_wp2_with fail
    refine key.mono ?_
    rintro e w1 ⟨rfl, rfl⟩
    go_wp2_with fail
    go_ret2
    exact ⟨rfl, rfl⟩
set_option maxHeartbeats 400000 in
theorem sload_bad (v : Value) (E x k : Int) (w : World) (h : Bad w v E) :
    Calls Try.prog 23 #[v, .int .i64 x, .int .i64 k] w fun e w' => e = .returned (.tuple #[.int .u64 0, .int .i64 E]) ∧ w = w' := by
  have key := standing_bad v E w h
  rcases h.ne with rfl | rfl
  all_goals
    clear h
    go_enter Try.func23, Try.ntmps23
    go_wp2_with fail
    refine key.mono ?_
    rintro e w1 ⟨rfl, rfl⟩
    go_wp2_with fail
    go_ret2
    exact ⟨rfl, rfl⟩
set_option maxHeartbeats 400000 in
theorem sstore_bad (v : Value) (E x k y : Int) (w : World) (h : Bad w v E) :
    Calls Try.prog 20 #[v, .int .i64 x, .int .i64 k, .int .u64 y] w fun e w' => e = .returned (.int .i64 E) ∧ w = w' := by
  have key := sload_bad v E x k w h
  rcases h.ne with rfl | rfl
  all_goals
    clear h
    go_enter Try.func20, Try.ntmps20
    go_wp2_with fail
    refine key.mono ?_
    rintro e w1 ⟨rfl, rfl⟩
    go_wp2_with fail
    go_ret
    exact ⟨rfl, rfl⟩

set_option maxHeartbeats 400000 in
theorem slay_long (a : Option Addr) (n c : Nat) (w : World) (hl : n ≤ 140737488355328) (h : 2048 < n) :
    Calls Try.prog 41 #[.slice a n c] w fun e w' => e = .returned (.tuple #[.pointer none, .int .i64 5]) ∧ w = w' := by
  go_enter Try.func41, Try.ntmps41
  go_wp2_with fail
  refine (new_long a n c 64 64 w hl h).mono ?_
  rintro e w1 ⟨rfl, rfl⟩
  go_wp2_with fail
  go_ret2
  exact ⟨rfl, rfl⟩

/-- Where the bytes lie is known. -/
theorem Bs.old {w : World} {a : Option Addr} {zs : List Int} (hB : Bs w a zs) : ∀ b, a = some b → b.block < w.heap.size ∨ zs.length = 0 := by
  intro b hb
  rcases hB.lies with h0 | ⟨b', off, e, hc⟩
  · exact .inr h0
  · by_cases h0 : zs.length = 0
    · exact .inr h0
    · rw [hb] at e; cases e
      exact .inl (lt_of_cell (hc 0 (by omega)))

set_option maxHeartbeats 400000 in
theorem slay_ok (a : Option Addr) (n c : Nat) (zs : List Int) (w : World) (hn : zs.length = n) (hB : Bs w a zs) (h : n ≤ 2048) :
    Calls Try.prog 41 #[.slice a n c] w fun e w' => ∃ x, e = .returned (.tuple #[.pointer (some ⟨x, 0, none⟩), .int .i64 0]) ∧ w.heap.size ≤ x ∧ Cm w' x w.heap.size 1 ∧ PkIs w' w.heap.size (w.heap.size + 1) (List.replicate 64 0) zs (List.replicate 64 0) 0 ∧ Below w.heap.size w w' := by
  subst hn
  have key := new_ok a c zs 64 64 w hB h (by omega) (by omega) hB.old
  clear hB
  go_enter Try.func41, Try.ntmps41
  go_wp2_with fail
  refine key.mono ?_
  rintro e w1 ⟨rfl, hp, hb⟩
  have HP := Hid.mk' hp
  have HB := Hid.mk' hb
  clear hp hb key
  obtain ⟨N, hN⟩ : ∃ N, N = w.heap.size := ⟨_, rfl⟩
  have HN := Hid.mk' hN
  rw [← hN]
  clear hN
  go_wp2_with fail
  go_ret2
  rw [HN.out]
  exact ⟨w1.heap.size, rfl, HB.out.size, Go.heap_alloc_new w1 _, HP.out.below ((Below.refl _ _).alloc (Nat.le_refl _) _), HB.out.alloc HB.out.size _⟩

set_option maxHeartbeats 400000 in
theorem snew_long (a : Option Addr) (n c : Nat) (w : World) (hl : n ≤ 140737488355328) (h : 2048 < n) :
    Calls Try.prog 12 #[.slice a n c] w fun e w' => e = .returned (.tuple #[.pointer none, .int .i64 5]) ∧ w = w' := by
  go_enter Try.func12, Try.ntmps12
  go_wp2_with fail
  refine (slay_long a n c w hl h).mono ?_
  rintro e w1 ⟨rfl, rfl⟩
  go_wp2_with fail
  go_ret2
  exact ⟨rfl, rfl⟩

set_option maxHeartbeats 400000 in
theorem snew_ok (a : Option Addr) (n c : Nat) (zs : List Int) (w : World) (hn : zs.length = n) (hB : Bs w a zs) (h : n ≤ 2048) :
    Calls Try.prog 12 #[.slice a n c] w fun e w' => ∃ s x p g, e = .returned (.tuple #[.pointer (some ⟨s, 0, none⟩), .int .i64 0]) ∧ w.heap.size ≤ s ∧ w.heap.size ≤ x ∧ w.heap.size ≤ p ∧ w.heap.size ≤ g ∧ Hd w' s x ∧ Cm w' x p 1 ∧ PkIs w' p g (List.replicate 64 0) zs (List.replicate 64 0) 0 ∧ Below w.heap.size w w' := by
  have key := slay_ok a n c zs w hn hB h
  clear hB
  go_enter Try.func12, Try.ntmps12
  go_wp2_with fail
  refine key.mono ?_
  rintro e w1 ⟨x, rfl, h1, h2, h3, h4⟩
  have HX : Hid (w.heap.size ≤ x ∧ Cm w1 x w.heap.size 1 ∧ PkIs w1 w.heap.size (w.heap.size + 1) (List.replicate 64 0) zs (List.replicate 64 0) 0 ∧ Below w.heap.size w w1) := ⟨h1, h2, h3, h4⟩
  clear h1 h2 h3 h4 key
  go_wp2_with fail
  go_ret2
  obtain ⟨h1, h2, h3, h4⟩ := HX.out
  have ba : Below w1.heap.size w1 (w1.alloc (.cells #[.pointer (some ⟨x, 0, none⟩), .bool false] 59)) := (Below.refl _ _).alloc (Nat.le_refl _) _
  refine ⟨w1.heap.size, x, w.heap.size, w.heap.size + 1, rfl, h4.size, h1, Nat.le_refl _, by omega, Go.heap_alloc_new w1 _, ?_, h3.below ba, h4.trans (ba.mono h4.size)⟩
  have := ba.block x h2.cells.2.2.2.2
  unfold Cm at h2 ⊢
  rw [this]; exact h2
end Go.Proofs.Ytbinedhgjmfceaa
