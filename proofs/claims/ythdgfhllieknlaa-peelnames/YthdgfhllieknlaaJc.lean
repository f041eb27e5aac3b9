/- Which kind comes next, of a head: the program's call and the document's. -/
import Derived.Test.YthdgfhllieknlaaJb
namespace Go.Proofs.Ythdgfhllieknlaa
open Go.ChangeShapes Go.WideShapes Go.ChangeAt Go.RowKit
set_option maxRecDepth 10000

set_option maxHeartbeats 1000000 in
theorem next_any (H : List Value) (w : World) (h : Hh H) : Calls Try.prog 16 #[.agg H.toArray] w fun e w' => e = .returned (.tuple #[.int .u8 (nx H), .bool (!(nx H == 0))]) ∧ Below w.heap.size w w' := by
  obtain ⟨⟨a0, k0, k1⟩, ⟨a1, p0, p1⟩, ⟨a2, q0, q1⟩, ⟨a3, r0, r1⟩, ⟨a4, s0, s1⟩⟩ := hh_cells h
  have hB : Below w.heap.size w (w.alloc (.cells H.toArray 48)) := (Below.refl _ _).alloc (Nat.le_refl _) _
  have A0 : H.toArray[0]? = some (.int .u8 (num H 0)) := by simpa using a0
  have A1 : H.toArray[13]? = some (.int .u16 (num H 13)) := by simpa using a1
  have A2 : H.toArray[16]? = some (.int .u16 (num H 16)) := by simpa using a2
  have A3 : H.toArray[19]? = some (.int .u8 (num H 19)) := by simpa using a3
  have A4 : H.toArray[31]? = some (.int .u8 (num H 31)) := by simpa using a4
  obtain ⟨n, HN⟩ : ∃ n, Hid (nx H = n) := ⟨_, rfl⟩
  rw [HN.out]
  obtain ⟨k, HK⟩ : ∃ k, Hid (num H 0 = k) := ⟨_, rfl⟩
  obtain ⟨p, HP⟩ : ∃ p, Hid (num H 13 = p) := ⟨_, rfl⟩
  obtain ⟨q, HQ⟩ : ∃ q, Hid (num H 16 = q) := ⟨_, rfl⟩
  obtain ⟨r, HR⟩ : ∃ r, Hid (num H 19 = r) := ⟨_, rfl⟩
  obtain ⟨s, HS⟩ : ∃ s, Hid (num H 31 = s) := ⟨_, rfl⟩
  rw [HK.out] at a0 A0 k0 k1
  rw [HP.out] at a1 A1 p0 p1
  rw [HQ.out] at a2 A2 q0 q1
  rw [HR.out] at a3 A3 r0 r1
  rw [HS.out] at a4 A4 s0 s1
  have e : n = if k = 1 then nT p else if k = 2 then nT q else if k = 3 then nP r else if k = 4 then nP s else 0 := by
    rw [← HN.out, ← HK.out, ← HP.out, ← HQ.out, ← HR.out, ← HS.out]; rfl
  clear HN HK HP HQ HR HS h
  by_cases e1 : k = 1
  · subst e1
    rw [if_pos rfl] at e
    subst e
    go_enter Try.func16, Try.ntmps16
    go_wp2_with fail
    refine (type_any p _ p0 p1).mono ?_
    rintro e w1 ⟨rfl, rfl⟩
    go_wp2
    go_ret2
    exact ⟨rfl, hB⟩
  rw [if_neg e1] at e
  by_cases e2 : k = 2
  · subst e2
    rw [if_pos rfl] at e
    subst e
    go_enter Try.func16, Try.ntmps16
    go_wp2_with fail
    refine (type_any q _ q0 q1).mono ?_
    rintro e w1 ⟨rfl, rfl⟩
    go_wp2
    go_ret2
    exact ⟨rfl, hB⟩
  rw [if_neg e2] at e
  by_cases e3 : k = 3
  · subst e3
    rw [if_pos rfl] at e
    subst e
    go_enter Try.func16, Try.ntmps16
    go_wp2_with fail
    refine (proto_any r _ r0 r1).mono ?_
    rintro e w1 ⟨rfl, rfl⟩
    go_wp2
    go_ret2
    exact ⟨rfl, hB⟩
  rw [if_neg e3] at e
  by_cases e4 : k = 4
  · subst e4
    rw [if_pos rfl] at e
    subst e
    go_enter Try.func16, Try.ntmps16
    go_wp2_with fail
    refine (proto_any s _ s0 s1).mono ?_
    rintro e w1 ⟨rfl, rfl⟩
    go_wp2
    go_ret2
    exact ⟨rfl, hB⟩
  rw [if_neg e4] at e
  subst e
  go_enter Try.func16, Try.ntmps16
  go_wp2
  go_ret2
  exact ⟨rfl, hB⟩

set_option maxHeartbeats 2000000 in
/-- The document's. -/
theorem rnext_any (H : List Value) (w : World) (h : Hh H) : Calls Try.prog 17 #[.agg H.toArray] w fun e w' => e = .returned (.tuple #[.int .u8 (nx H), .bool (!(nx H == 0))]) ∧ Below w.heap.size w w' := by
  obtain ⟨⟨a0, k0, k1⟩, ⟨a1, p0, p1⟩, ⟨a2, q0, q1⟩, ⟨a3, r0, r1⟩, ⟨a4, s0, s1⟩⟩ := hh_cells h
  have hB : Below w.heap.size w (w.alloc (.cells H.toArray 48)) := (Below.refl _ _).alloc (Nat.le_refl _) _
  have A0 : H.toArray[0]? = some (.int .u8 (num H 0)) := by simpa using a0
  have A1 : H.toArray[13]? = some (.int .u16 (num H 13)) := by simpa using a1
  have A2 : H.toArray[16]? = some (.int .u16 (num H 16)) := by simpa using a2
  have A3 : H.toArray[19]? = some (.int .u8 (num H 19)) := by simpa using a3
  have A4 : H.toArray[31]? = some (.int .u8 (num H 31)) := by simpa using a4
  obtain ⟨n, HN⟩ : ∃ n, Hid (nx H = n) := ⟨_, rfl⟩
  rw [HN.out]
  obtain ⟨k, HK⟩ : ∃ k, Hid (num H 0 = k) := ⟨_, rfl⟩
  obtain ⟨p, HP⟩ : ∃ p, Hid (num H 13 = p) := ⟨_, rfl⟩
  obtain ⟨q, HQ⟩ : ∃ q, Hid (num H 16 = q) := ⟨_, rfl⟩
  obtain ⟨r, HR⟩ : ∃ r, Hid (num H 19 = r) := ⟨_, rfl⟩
  obtain ⟨s, HS⟩ : ∃ s, Hid (num H 31 = s) := ⟨_, rfl⟩
  rw [HK.out] at a0 A0 k0 k1
  rw [HP.out] at a1 A1 p0 p1
  rw [HQ.out] at a2 A2 q0 q1
  rw [HR.out] at a3 A3 r0 r1
  rw [HS.out] at a4 A4 s0 s1
  have e : n = if k = 1 then nT p else if k = 2 then nT q else if k = 3 then nP r else if k = 4 then nP s else 0 := by
    rw [← HN.out, ← HK.out, ← HP.out, ← HQ.out, ← HR.out, ← HS.out]; rfl
  clear HN HK HP HQ HR HS h
  by_cases e1 : k = 1
  · subst e1
    rw [if_pos rfl] at e
    subst e
    by_cases f0 : p = 33024
    · subst f0
      go_enter Try.func17, Try.ntmps17
      go_wp2
      go_ret2
      exact ⟨rfl, hB⟩
    by_cases f1 : p = 2048
    · subst f1
      go_enter Try.func17, Try.ntmps17
      go_wp2
      go_ret2
      exact ⟨rfl, hB⟩
    by_cases f2 : p = 34525
    · subst f2
      go_enter Try.func17, Try.ntmps17
      go_wp2
      go_ret2
      exact ⟨rfl, hB⟩
    have e : nT p = 0 := by unfold nT; rw [if_neg f0, if_neg f1, if_neg f2]
    rw [e]
    go_enter Try.func17, Try.ntmps17
    go_wp2
    go_ret2
    exact ⟨rfl, hB⟩
  rw [if_neg e1] at e
  by_cases e2 : k = 2
  · subst e2
    rw [if_pos rfl] at e
    subst e
    by_cases f0 : q = 33024
    · subst f0
      go_enter Try.func17, Try.ntmps17
      go_wp2
      go_ret2
      exact ⟨rfl, hB⟩
    by_cases f1 : q = 2048
    · subst f1
      go_enter Try.func17, Try.ntmps17
      go_wp2
      go_ret2
      exact ⟨rfl, hB⟩
    by_cases f2 : q = 34525
    · subst f2
      go_enter Try.func17, Try.ntmps17
      go_wp2
      go_ret2
      exact ⟨rfl, hB⟩
    have e : nT q = 0 := by unfold nT; rw [if_neg f0, if_neg f1, if_neg f2]
    rw [e]
    go_enter Try.func17, Try.ntmps17
    go_wp2
    go_ret2
    exact ⟨rfl, hB⟩
  rw [if_neg e2] at e
  by_cases e3 : k = 3
  · subst e3
    rw [if_pos rfl] at e
    subst e
    by_cases f0 : r = 6
    · subst f0
      go_enter Try.func17, Try.ntmps17
      go_wp2
      go_ret2
      exact ⟨rfl, hB⟩
    by_cases f1 : r = 17
    · subst f1
      go_enter Try.func17, Try.ntmps17
      go_wp2
      go_ret2
      exact ⟨rfl, hB⟩
    have e : nP r = 0 := by unfold nP; rw [if_neg f0, if_neg f1]
    rw [e]
    go_enter Try.func17, Try.ntmps17
    go_wp2
    go_ret2
    exact ⟨rfl, hB⟩
  rw [if_neg e3] at e
  by_cases e4 : k = 4
  · subst e4
    rw [if_pos rfl] at e
    subst e
    by_cases f0 : s = 6
    · subst f0
      go_enter Try.func17, Try.ntmps17
      go_wp2
      go_ret2
      exact ⟨rfl, hB⟩
    by_cases f1 : s = 17
    · subst f1
      go_enter Try.func17, Try.ntmps17
      go_wp2
      go_ret2
      exact ⟨rfl, hB⟩
    have e : nP s = 0 := by unfold nP; rw [if_neg f0, if_neg f1]
    rw [e]
    go_enter Try.func17, Try.ntmps17
    go_wp2
    go_ret2
    exact ⟨rfl, hB⟩
  rw [if_neg e4] at e
  subst e
  go_enter Try.func17, Try.ntmps17
  go_wp2
  go_ret2
  exact ⟨rfl, hB⟩
end Go.Proofs.Ythdgfhllieknlaa
