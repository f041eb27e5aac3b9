/- Instructions in memory (Lie), the nest in memory (Ns); the contracts of isJump, target, depth, rounds. -/
import Derived.Test.YtffjddabjjcjpaaFb
import Derived.Test.YtffjddabjjcjpaaIb
import Derived.OwnWalk
namespace Go.Proofs.Ytffjddabjjcjpaa
open Go.ChangeShapes Go.WideShapes Go.ChangeAt Go.RowKit
set_option maxRecDepth 10000

def InbL (L : List Q5) : Prop := ∀ (k : Nat) (p d s o i : Int), L[k]? = some (p, d, s, o, i) → InB p d s o i
/-- Instructions lie from a place on. -/
def Lie (w : World) (b off : Nat) (L : List Q5) : Prop := ∀ (k : Nat) (p d s o i : Int), L[k]? = some (p, d, s, o, i) →
  w.cell? ⟨b, off + k * 5, none⟩ = some (.int .u8 p) ∧ w.cell? ⟨b, off + k * 5 + 1, none⟩ = some (.int .u8 d) ∧ w.cell? ⟨b, off + k * 5 + 2, none⟩ = some (.int .u8 s) ∧ w.cell? ⟨b, off + k * 5 + 3, none⟩ = some (.int .i16 o) ∧ w.cell? ⟨b, off + k * 5 + 4, none⟩ = some (.int .i32 i)

theorem Lie.below {w w' : World} {b off : Nat} {L : List Q5} (h : Lie w b off L) (hb : Below w.heap.size w w') : Lie w' b off L := by
  intro k p d s o i hk
  obtain ⟨h0, h1, h2, h3, h4⟩ := h k p d s o i hk
  exact ⟨(hb.cell (lt_of_cell h0)).trans h0, (hb.cell (lt_of_cell h1)).trans h1, (hb.cell (lt_of_cell h2)).trans h2, (hb.cell (lt_of_cell h3)).trans h3, (hb.cell (lt_of_cell h4)).trans h4⟩

/-- What stands at a place. -/
theorem at_get {L : List Q5} {k : Nat} (hk : k < L.length) : ∃ p d s o i, L[k]? = some (p, d, s, o, i) ∧ opA L k = p ∧ ofA L k = o ∧ imA L k = i := by
  obtain ⟨⟨p, d, s, o, i⟩, h⟩ : ∃ q, L[k]? = some q := ⟨_, List.getElem?_eq_getElem hk⟩
  refine ⟨p, d, s, o, i, h, ?_, ?_, ?_⟩
  · simp [opA, List.getD_eq_getElem?_getD, h]
  · simp [ofA, List.getD_eq_getElem?_getD, h]
  · simp [imA, List.getD_eq_getElem?_getD, h]

/-- The nest lies in a block. -/
def Ns (w : World) (g : Nat) (L : List Q5) (n : Nat) : Prop := ∀ j, j < n → w.cell? ⟨g, j, none⟩ = some (.int .i64 (top (stk L j))) ∧ w.cell? ⟨g, 256 + j, none⟩ = some (.int .i64 (enN L n j))
theorem Ns.below {w w' : World} {g n : Nat} {L : List Q5} (h : Ns w g L n) (hb : Below w.heap.size w w') : Ns w' g L n := fun j hj =>
  ⟨(hb.cell (lt_of_cell (h j hj).1)).trans (h j hj).1, (hb.cell (lt_of_cell (h j hj).2)).trans (h j hj).2⟩

def isJ (p : Int) : Bool := decide (22 ≤ p) && decide (p ≤ 32)

theorem isjump_any (p d s o i : Int) (w : World) : Calls Try.prog 23 #[insV p d s o i] w fun e w' => e = .returned (.bool (isJ p)) ∧ Below w.heap.size w w' := by
  have HK : Hid (Below w.heap.size w (w.alloc (.cells #[.int .u8 p, .int .u8 d, .int .u8 s, .int .i16 o, .int .i32 i] 37))) := (Below.refl _ _).alloc (Nat.le_refl _) _
  go_enter Try.func23, Try.ntmps23
  go_wp2_with fail
  all_goals
    go_ret
    refine ⟨ret_bool ?_, HK.out⟩
    first | rfl | (simp [isJ, *]; done) | (rw [Bool.eq_iff_iff]; simp [isJ]; omega)

theorem target_any (at' p d s o i : Int) (w : World) (a0 : 0 ≤ at') (a1 : at' ≤ 1000000) (o0 : -32768 ≤ o) (o1 : o ≤ 32767) : Calls Try.prog 22 #[.int .i64 at', insV p d s o i] w fun e w' => e = .returned (.int .i64 (at' + 1 + o)) ∧ Below w.heap.size w w' := by
  have HK : Hid (Below w.heap.size w (w.alloc (.cells #[.int .u8 p, .int .u8 d, .int .u8 s, .int .i16 o, .int .i32 i] 37))) := (Below.refl _ _).alloc (Nat.le_refl _) _
  go_enter Try.func22, Try.ntmps22
  go_wp2_with fail
  go_ret
  exact ⟨ret_int (by first | rfl | omega), HK.out⟩

variable {L : List Q5}

set_option maxHeartbeats 1000000 in
theorem depth_any (g n at' : Nat) (w : World) (hN : Ns w g L n) (hn : n ≤ 256) (ha : at' < n) :
    Calls Try.prog 29 #[.pointer (some ⟨g, 0, none⟩), .int .i64 at'] w fun e w' => e = .returned (.int .i64 (stk L at').length) ∧ w = w' := by
  have HN := Hid.mk' hN
  have c0 := (hN at' ha).1
  clear hN
  have hl := stk_len (L := L) at'
  have ha' : (at' : Int) < 256 := by omega
  obtain ⟨D, hD⟩ : ∃ D, Hid ((stk L at').length = D) := ⟨_, Hid.mk' rfl⟩
  rw [hD.out] at hl ⊢
  obtain ⟨r0, hr0⟩ : ∃ r0, Hid (top (stk L at') = r0) := ⟨_, Hid.mk' rfl⟩
  rw [hr0.out] at c0
  go_enter Try.func29, Try.ntmps29
  go_wp2_with fail
  go_loopw [5, 6] (fun d r wr => ∃ (x m : Nat) (t : Int), x < n ∧ d = .int .i64 m ∧ r = .int .i64 t ∧ m ≤ D ∧ Hid (top (stk L x) = t ∧ m + (stk L x).length = D) ∧ wr = w) (fun _ r _ => (intOf r + 1).toNat)
  case atStart => exact ⟨at', 0, r0, ha, rfl, rfl, Nat.zero_le _, Hid.mk' ⟨hr0.out, by rw [hD.out]; omega⟩, rfl⟩
  case round =>
    obtain ⟨x, m, t, hx, rfl, rfl, hm, ht, rfl⟩ := hrel
    rcases top_cases (L := L) x with ⟨e1, e2⟩ | ⟨r, h1, h2, h3, h4⟩
    · have et : t = -1 := by rw [← ht.out.1, e2]
      have em : m = D := by have := ht.out.2; rw [e1] at this; simpa using this
      subst et em
      clear e1 e2 ht
      go_wp2_with fail
      go_ret
      exact ⟨rfl, rfl⟩
    · have et : t = (r : Int) := by rw [← ht.out.1, h4]
      subst et
      have em := ht.out.2
      rw [h3] at em
      have em' : Hid (m + 1 + (stk L r).length = D) := Hid.mk' (by simp at em; omega)
      have hm' : m + 1 ≤ D := by simp at em; omega
      have cr := (HN.out r (by omega)).1
      obtain ⟨t', ht'⟩ : ∃ t', Hid (top (stk L r) = t') := ⟨_, Hid.mk' rfl⟩
      rw [ht'.out] at cr
      have hne : ¬ (r : Int) = -1 := by omega
      have hr : (r : Int) < 256 := by omega
      have tl : t' < r := by
        rcases top_cases (L := L) r with ⟨f1, f2⟩ | ⟨r2, f1, f2, f3, f4⟩
        · rw [← ht'.out, f2]; omega
        · rw [← ht'.out, f4]; omega
      clear em h3 h4 ht
      go_wp2_with fail
      go_roundw
      case rel => exact ⟨r, m + 1, t', by omega, by go_num, rfl, hm', Hid.mk' ⟨ht'.out, em'.out⟩, by trivial⟩
      case measure => simp [intOf]; omega

/-- The product of what the OpReps say. -/
def pdS (L : List Q5) : List Nat → Int
  | [] => 1
  | r :: t => imA L r * pdS L t

theorem pdS_pos {l : List Nat} (h : ∀ r ∈ l, 1 ≤ imA L r) : 1 ≤ pdS L l := by
  induction l with
  | nil => exact Int.le_refl _
  | cons r t ih =>
    have h1 := h r List.mem_cons_self
    have h2 := ih (fun x hx => h x (List.mem_cons_of_mem _ hx))
    show 1 ≤ imA L r * pdS L t
    have := Int.mul_le_mul h1 h2 (by omega) (by omega)
    omega

theorem pdS_le {l : List Nat} (h : ∀ r ∈ l, 1 ≤ imA L r ∧ imA L r ≤ 16) : pdS L l ≤ 16 ^ l.length := by
  induction l with
  | nil => exact Int.le_refl _
  | cons r t ih =>
    have h1 := h r List.mem_cons_self
    have h2 := ih (fun x hx => h x (List.mem_cons_of_mem _ hx))
    have h3 := pdS_pos (l := t) (fun x hx => (h x (List.mem_cons_of_mem _ hx)).1)
    show imA L r * pdS L t ≤ 16 ^ (t.length + 1)
    have := Int.mul_le_mul h1.2 h2 (by omega) (by omega)
    rw [Int.pow_succ, Int.mul_comm (16 ^ t.length)]
    exact this

theorem pdS_le3 {l : List Nat} (h : ∀ r ∈ l, 1 ≤ imA L r ∧ imA L r ≤ 16) (hl : l.length ≤ 3) : pdS L l ≤ 4096 := by
  have h1 := pdS_le h
  generalize pdS L l = P at *
  generalize l.length = m at *
  have : m = 0 ∨ m = 1 ∨ m = 2 ∨ m = 3 := by omega
  have e0 : (16 : Int) ^ 0 = 1 := by decide
  have e1 : (16 : Int) ^ 1 = 16 := by decide
  have e2 : (16 : Int) ^ 2 = 256 := by decide
  have e3 : (16 : Int) ^ 3 = 4096 := by decide
  rcases this with rfl | rfl | rfl | rfl <;> omega

set_option maxHeartbeats 1000000 in
theorem rounds_any (g b off c n at' : Nat) (w : World) (hL : L.length = n) (hN : Ns w g L n) (hC : Lie w b off L) (hn : n ≤ 256) (ha : at' < n) (h16 : ∀ r ∈ stk L at', 1 ≤ imA L r ∧ imA L r ≤ 16) (h3 : (stk L at').length ≤ 3) :
    Calls Try.prog 28 #[.pointer (some ⟨g, 0, none⟩), .slice (some ⟨b, off, none⟩) n c, .int .i64 at'] w fun e w' => e = .returned (.int .i64 (pdS L (stk L at'))) ∧ w = w' := by
  have HN := Hid.mk' hN
  have c0 := (hN at' ha).1
  clear hN
  have ha' : (at' : Int) < 256 := by omega
  have H16 := Hid.mk' h16
  have P3 := pdS_le3 h16 h3
  have HM : Hid (∀ r ∈ stk L at', r ∈ stk L at') := fun r hr => hr
  clear h3 h16
  obtain ⟨P, hP⟩ : ∃ P, Hid (pdS L (stk L at') = P) := ⟨_, Hid.mk' rfl⟩
  rw [hP.out] at P3 ⊢
  obtain ⟨r0, hr0⟩ : ∃ r0, Hid (top (stk L at') = r0) := ⟨_, Hid.mk' rfl⟩
  rw [hr0.out] at c0
  go_enter Try.func28, Try.ntmps28
  go_wp2_with fail
  go_loopw [7, 8] (fun d r wr => ∃ (x : Nat) (m t : Int), x < n ∧ d = .int .i64 m ∧ r = .int .i64 t ∧ 1 ≤ m ∧ Hid (top (stk L x) = t ∧ m * pdS L (stk L x) = P ∧ ∀ r ∈ stk L x, r ∈ stk L at') ∧ wr = w) (fun _ r _ => (intOf r + 1).toNat)
  case atStart => exact ⟨at', 1, r0, ha, rfl, rfl, Int.le_refl _, Hid.mk' ⟨hr0.out, by rw [hP.out]; omega, HM.out⟩, rfl⟩
  case round =>
    obtain ⟨x, m, t, hx, rfl, rfl, hm, ht, rfl⟩ := hrel
    rcases top_cases (L := L) x with ⟨e1, e2⟩ | ⟨r, h1, h2, h3, h4⟩
    · have et : t = -1 := by rw [← ht.out.1, e2]
      have em : m = P := by have := ht.out.2.1; rw [e1] at this; simpa [pdS] using this
      subst et em
      clear e1 e2 ht
      go_wp2_with fail
      go_ret
      exact ⟨rfl, rfl⟩
    · have et : t = (r : Int) := by rw [← ht.out.1, h4]
      subst et
      have em := ht.out.2.1
      have hsub := ht.out.2.2
      rw [h3] at em hsub
      have hin : r ∈ stk L at' := hsub r List.mem_cons_self
      have b16 := H16.out r hin
      have hsub' : Hid (∀ q ∈ stk L r, q ∈ stk L at') := Hid.mk' (fun q hq => hsub q (List.mem_cons_of_mem _ hq))
      have hpos := pdS_pos (L := L) (l := stk L r) (fun q hq => (H16.out q (hsub'.out q hq)).1)
      have em' : Hid ((m * imA L r) * pdS L (stk L r) = P) := Hid.mk' (by rw [Int.mul_assoc]; exact em)
      have hmi : 1 ≤ m * imA L r := by
        have := Int.mul_le_mul hm b16.1 (by omega) (by omega); omega
      have hmu : m * imA L r ≤ 4096 := by
        have h5 := em'.out
        have := Int.mul_le_mul (Int.le_refl (m * imA L r)) hpos (by omega) (by omega)
        omega
      obtain ⟨p, d, s, o, i, hq, q1, q2, q3⟩ := at_get (L := L) (k := r) (by omega)
      obtain ⟨-, -, -, -, c4⟩ := hC r p d s o i hq
      rw [q3] at hmi hmu em' b16
      have cr := (HN.out r (by omega)).1
      obtain ⟨t', ht'⟩ : ∃ t', Hid (top (stk L r) = t') := ⟨_, Hid.mk' rfl⟩
      rw [ht'.out] at cr
      have hne : ¬ (r : Int) = -1 := by omega
      have hr : (r : Int) < 256 := by omega
      have hrn : (r : Int) < n := by omega
      have tl : t' < r := by
        rcases top_cases (L := L) r with ⟨f1, f2⟩ | ⟨r2, f1, f2, f3, f4⟩
        · rw [← ht'.out, f2]; omega
        · rw [← ht'.out, f4]; omega
      clear em h3 h4 ht hpos hsub hin q1 q2 q3 hq
      go_wp2_with fail
      go_roundw
      case rel => exact ⟨r, m * i, t', by omega, by first | rfl | go_num, rfl, hmi, Hid.mk' ⟨ht'.out, em'.out, hsub'.out⟩, by trivial⟩
      case measure => simp [intOf]; omega
end Go.Proofs.Ytffjddabjjcjpaa
