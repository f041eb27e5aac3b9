/- Values, comparisons (mathematics); the contracts of isPacket, isEnd, isOrder, contrary, turned, shows. -/
import Derived.Test.YtagnaefpkgekmabCe
import Derived.Laws.StructEq
namespace Go.Proofs.Ytagnaefpkgekmab
open Go.ChangeShapes Go.WideShapes Go.ChangeAt Go.RowKit Go.Maps Go.Sort Go.Shelf
set_option maxRecDepth 10000

/-- A value: its kind, its span, its number, its place. -/
structure Vl where
  k : Int
  mi : Int
  ma : Int
  id : Int
  off : Int
def Vl.v (x : Vl) : Value := .agg #[.int .u8 x.k, .int .u64 x.mi, .int .u64 x.ma, .int .i64 x.id, .int .i64 x.off]
structure Vl.In (x : Vl) : Prop where
  k : 0 ≤ x.k ∧ x.k ≤ 255
  mi : 0 ≤ x.mi ∧ x.mi ≤ 18446744073709551615
  ma : 0 ≤ x.ma ∧ x.ma ≤ 18446744073709551615
  id : In64 x.id
  off : In64 x.off
def isPt (x : Vl) : Bool := decide (x.k = 2) && (isId x.id && (decide (0 ≤ x.off) && (decide (x.off ≤ 2048) && (decide (x.mi = 0) && decide (x.ma = 0)))))
def isEn (x : Vl) : Bool := decide (x.k = 3) && (decide (x.mi = 0) && (decide (x.ma = 0) && (decide (x.id = 0) && decide (x.off = 0))))
def isOr (op : Int) : Bool := decide (29 ≤ op) && decide (op ≤ 32)
def ctN (op : Int) : Int := if op = 29 then 32 else if op = 30 then 31 else if op = 31 then 30 else 29
def tnN (op : Int) : Int := if op = 29 then 31 else if op = 30 then 32 else if op = 31 then 29 else 30
def swN (op off : Int) : Int := if op = 29 then off + 1 else if op = 30 then off else 0
/-- What a comparison says of a pointer (first or not) and the end. -/
def sayN (op : Int) (yes first : Bool) : Int :=
  if op = 29 then (if first = yes then (if yes then 2 else 1) else 0)
  else if op = 30 then (if first = yes then (if yes then 1 else 2) else 0)
  else if op = 31 then (if first = yes then 0 else (if yes then 2 else 1))
  else (if first = yes then 0 else (if yes then 1 else 2))
theorem isPt_iff (x : Vl) : isPt x = true ↔ x.k = 2 ∧ (0 ≤ x.id ∧ x.id ≤ 256) ∧ 0 ≤ x.off ∧ x.off ≤ 2048 ∧ x.mi = 0 ∧ x.ma = 0 := by
  unfold isPt isId; simp
theorem isEn_iff (x : Vl) : isEn x = true ↔ x.k = 3 ∧ x.mi = 0 ∧ x.ma = 0 ∧ x.id = 0 ∧ x.off = 0 := by
  unfold isEn; simp
theorem pt_en {x : Vl} (h : isPt x = true) : isEn x = false := by
  cases e : isEn x
  · rfl
  · have := (isPt_iff x).1 h; have := (isEn_iff x).1 e; omega

/-- The five cells of a value that was boxed just now. -/
theorem cells5 (w : World) (x : Vl) (t : TypeId) : (w.alloc (.cells #[.int .u8 x.k, .int .u64 x.mi, .int .u64 x.ma, .int .i64 x.id, .int .i64 x.off] t)).cell? ⟨w.heap.size, 3, none⟩ = some (.int .i64 x.id) := World.cell?_alloc_new _ _ _ _

set_option maxHeartbeats 1000000 in
theorem ispacket_any (x : Vl) (w : World) (h : x.In) : Calls Try.prog 20 #[x.v] w fun e w' => e = .returned (.bool (isPt x)) ∧ Below w.heap.size w w' := by
  obtain ⟨⟨k0, k1⟩, ⟨m0, m1⟩, ⟨n0, n1⟩, ⟨i0, i1⟩, ⟨o0, o1⟩⟩ := h
  obtain ⟨P, hP⟩ : ∃ P, Hid (isPt x = P) := ⟨_, rfl⟩
  rw [hP.out]
  obtain ⟨k, mi, ma, id, off⟩ := x
  have HP : Hid (P = (decide (k = 2) && (isId id && (decide (0 ≤ off) && (decide (off ≤ 2048) && (decide (mi = 0) && decide (ma = 0))))))) := Hid.mk' (by rw [← hP.out]; rfl)
  clear hP
  simp only at k0 k1 m0 m1 n0 n1 i0 i1 o0 o1
  have HK : Hid (Below w.heap.size w (w.alloc (.cells #[.int .u8 k, .int .u64 mi, .int .u64 ma, .int .i64 id, .int .i64 off] 38))) := (Below.refl _ _).alloc (Nat.le_refl _) _
  have KI := fun u => ispointer_any id u
  unfold Vl.v
  simp only
  go_enter Try.func20, Try.ntmps20
  by_cases g1 : k = 2
  · by_cases g2 : isId id = true
    · rw [g2] at KI
      by_cases g3 : 0 ≤ off
      · by_cases g4 : off ≤ 2048
        · by_cases g5 : mi = 0
          · by_cases g6 : ma = 0
            · have HE : Hid (P = true) := Hid.mk' (by rw [HP.out]; simp [g1, g2, g3, g4, g5, g6])
              subst g1 g5 g6
              go_wp2_with (go_at_call 16; refine (KI _).mono ?_; rintro e u ⟨rfl, rfl⟩)
              go_ret
              exact ⟨ret_bool HE.out.symm, HK.out⟩
            · have HE : Hid (P = false) := Hid.mk' (by rw [HP.out]; simp [g6])
              subst g1 g5
              go_wp2_with (go_at_call 16; refine (KI _).mono ?_; rintro e u ⟨rfl, rfl⟩)
              go_ret
              exact ⟨ret_bool HE.out.symm, HK.out⟩
          · have HE : Hid (P = false) := Hid.mk' (by rw [HP.out]; simp [g5])
            subst g1
            go_wp2_with (go_at_call 16; refine (KI _).mono ?_; rintro e u ⟨rfl, rfl⟩)
            all_goals
              go_ret
              exact ⟨ret_bool HE.out.symm, HK.out⟩
        · have HE : Hid (P = false) := Hid.mk' (by rw [HP.out]; simp [g4])
          subst g1
          go_wp2_with (go_at_call 16; refine (KI _).mono ?_; rintro e u ⟨rfl, rfl⟩)
          go_ret
          exact ⟨ret_bool HE.out.symm, HK.out⟩
      · have HE : Hid (P = false) := Hid.mk' (by rw [HP.out]; simp [g3])
        subst g1
        go_wp2_with (go_at_call 16; refine (KI _).mono ?_; rintro e u ⟨rfl, rfl⟩)
        go_ret
        exact ⟨ret_bool HE.out.symm, HK.out⟩
    · have g2' : isId id = false := by simpa using g2
      rw [g2'] at KI
      have HE : Hid (P = false) := Hid.mk' (by rw [HP.out, g2']; simp)
      subst g1
      go_wp2_with (go_at_call 16; refine (KI _).mono ?_; rintro e u ⟨rfl, rfl⟩)
      go_ret
      exact ⟨ret_bool HE.out.symm, HK.out⟩
  · have HE : Hid (P = false) := Hid.mk' (by rw [HP.out]; simp [g1])
    go_wp2_with fail
    go_ret
    exact ⟨ret_bool HE.out.symm, HK.out⟩

set_option maxHeartbeats 1000000 in
theorem isend_any (x : Vl) (w : World) (h : x.In) : Calls Try.prog 23 #[x.v] w fun e w' => e = .returned (.bool (isEn x)) ∧ Below w.heap.size w w' := by
  obtain ⟨⟨k0, k1⟩, ⟨m0, m1⟩, ⟨n0, n1⟩, ⟨i0, i1⟩, ⟨o0, o1⟩⟩ := h
  obtain ⟨P, hP⟩ : ∃ P, Hid (isEn x = P) := ⟨_, rfl⟩
  rw [hP.out]
  obtain ⟨k, mi, ma, id, off⟩ := x
  have HP : Hid (P = (decide (k = 3) && (decide (mi = 0) && (decide (ma = 0) && (decide (id = 0) && decide (off = 0)))))) := Hid.mk' (by rw [← hP.out]; rfl)
  clear hP
  simp only at k0 k1 m0 m1 n0 n1 i0 i1 o0 o1
  unfold Vl.v
  simp only
  go_enter Try.func23, Try.ntmps23
  go_wp2_with fail
  all_goals
    go_ret
    refine ⟨ret_bool ?_, (Below.refl _ _).alloc (Nat.le_refl _) _⟩
    rw [HP.out]
    first | rfl | (simp [*]; done) | (rw [Bool.eq_iff_iff]; simp; omega)

theorem isorder_any (op : Int) (w : World) (h0 : 0 ≤ op) (h1 : op ≤ 255) : Calls Try.prog 21 #[.int .u8 op] w fun e w' => e = .returned (.bool (isOr op)) ∧ w = w' := by
  have e : op = 29 ∨ op = 30 ∨ op = 31 ∨ op = 32 ∨ (op ≠ 29 ∧ op ≠ 30 ∧ op ≠ 31 ∧ op ≠ 32) := by omega
  rcases e with rfl | rfl | rfl | rfl | ⟨e1, e2, e3, e4⟩
  iterate 4
    · go_enter Try.func21, Try.ntmps21
      go_wp2_with fail
      go_ret
      exact ⟨rfl, rfl⟩
  · have HE : Hid (isOr op = false) := Hid.mk' (by unfold isOr; rw [Bool.eq_false_iff]; simp; omega)
    go_enter Try.func21, Try.ntmps21
    go_wp2_with fail
    go_ret
    exact ⟨ret_bool HE.out.symm, rfl⟩

theorem or_cases {op : Int} (h : isOr op = true) : op = 29 ∨ op = 30 ∨ op = 31 ∨ op = 32 := by
  unfold isOr at h; simp at h; omega

theorem contrary_any (op : Int) (w : World) (h : op = 29 ∨ op = 30 ∨ op = 31 ∨ op = 32) : Calls Try.prog 22 #[.int .u8 op] w fun e w' => e = .returned (.int .u8 (ctN op)) ∧ w = w' := by
  rcases h with rfl | rfl | rfl | rfl
  all_goals
    go_enter Try.func22, Try.ntmps22
    go_wp2_with fail
    go_ret
    exact ⟨rfl, rfl⟩
theorem turned_any (op : Int) (w : World) (h : op = 29 ∨ op = 30 ∨ op = 31 ∨ op = 32) : Calls Try.prog 25 #[.int .u8 op] w fun e w' => e = .returned (.int .u8 (tnN op)) ∧ w = w' := by
  rcases h with rfl | rfl | rfl | rfl
  all_goals
    go_enter Try.func25, Try.ntmps25
    go_wp2_with fail
    go_ret
    exact ⟨rfl, rfl⟩
theorem shows_any (op off : Int) (w : World) (h : op = 29 ∨ op = 30 ∨ op = 31 ∨ op = 32) (h0 : 0 ≤ off) (h1 : off ≤ 2048) : Calls Try.prog 24 #[.int .u8 op, .int .i64 off] w fun e w' => e = .returned (.int .i64 (swN op off)) ∧ w = w' := by
  rcases h with rfl | rfl | rfl | rfl
  all_goals
    go_enter Try.func24, Try.ntmps24
    go_wp2_with fail
    go_ret
    exact ⟨rfl, rfl⟩
end Go.Proofs.Ytagnaefpkgekmab
