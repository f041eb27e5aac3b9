/- The map of the operations' names; Op and Name of the program. -/
import Derived.Test.YtmiiddkpmfiocabIa
import Derived.Test.YtmiiddkpmfiocabBw
import Derived.Maps.OwnSet
import Derived.Maps.RangeWalk
import Derived.Maps.Views
import Derived.Maps.AppendAt
namespace Go.Proofs.Ytmiiddkpmfiocab
open Go.ChangeShapes Go.WideShapes Go.ChangeAt Go.RowKit Go.Maps
set_option maxRecDepth 10000

/-- The names by their numbers, the last one first. -/
def opL : List (List UInt8 × Nat) := [([101, 120, 105, 116], 36), ([99, 97, 108, 108], 35), ([101, 110, 100], 34), ([114, 101, 112], 33), ([106, 103, 101], 32), ([106, 103, 116], 31), ([106, 108, 101], 30), ([106, 108, 116], 29), ([106, 110, 101], 28), ([106, 101, 113], 27), ([106, 103, 101, 105], 26), ([106, 108, 116, 105], 25), ([106, 110, 101, 105], 24), ([106, 101, 113, 105], 23), ([106, 117, 109, 112], 22), ([103, 101, 116], 21), ([112, 117, 116], 20), ([115, 116], 19), ([108, 100], 18), ([112, 111, 114, 116], 17), ([108, 101, 110], 16), ([116, 97, 105, 108], 15), ([100, 97, 116, 97], 14), ([115, 104, 114, 105], 13), ([115, 104, 108, 105], 12), ([120, 111, 114], 11), ([111, 114], 10), ([97, 110, 100], 9), ([97, 110, 100, 105], 8), ([109, 117, 108], 7), ([109, 117, 108, 105], 6), ([115, 117, 98], 5), ([97, 100, 100], 4), ([97, 100, 100, 105], 3), ([109, 111, 118], 2), ([115, 101, 116], 1)]
/-- The names, by number; of 0 the empty text. -/
def nmL : List (List UInt8) := [[], [115, 101, 116], [109, 111, 118], [97, 100, 100, 105], [97, 100, 100], [115, 117, 98], [109, 117, 108, 105], [109, 117, 108], [97, 110, 100, 105], [97, 110, 100], [111, 114], [120, 111, 114], [115, 104, 108, 105], [115, 104, 114, 105], [100, 97, 116, 97], [116, 97, 105, 108], [108, 101, 110], [112, 111, 114, 116], [108, 100], [115, 116], [112, 117, 116], [103, 101, 116], [106, 117, 109, 112], [106, 101, 113, 105], [106, 110, 101, 105], [106, 108, 116, 105], [106, 103, 101, 105], [106, 101, 113], [106, 110, 101], [106, 108, 116], [106, 108, 101], [106, 103, 116], [106, 103, 101], [114, 101, 112], [101, 110, 100], [99, 97, 108, 108], [101, 120, 105, 116]]

/-- Is there one? -/
def isN (n : Nat) : Bool := !(n == 0)

def opR : List (List UInt8 × Nat) → List UInt8 → Nat
  | [], _ => 0
  | (k, v) :: r, l => if l = k then v else opR r l
/-- The number of a name, or 0. -/
def opN (l : List UInt8) : Nat := opR opL l
/-- The name of a number, or the empty text. -/
def nmN (p : Int) : List UInt8 := nmL.getD p.toNat []

theorem opR_mem (l : List UInt8) : ∀ L : List (List UInt8 × Nat), opR L l ≠ 0 → (l, opR L l) ∈ L
  | [], h => absurd rfl h
  | (k, v) :: r, h => by
    unfold opR at h ⊢
    by_cases e : l = k
    · rw [if_pos e, e]; exact List.mem_cons_self
    · rw [if_neg e] at h ⊢; exact List.mem_cons_of_mem _ (opR_mem l r h)

theorem opL_all : ∀ q ∈ opL, 1 ≤ q.2 ∧ q.2 ≤ 36 ∧ nmL[q.2]? = some q.1 := by decide
theorem nmL_all : ∀ i, i < 37 → 1 ≤ i → opN (nmL.getD i []) = i := by decide
theorem nmL_len : nmL.length = 37 := by decide

theorem opN_bounds (l : List UInt8) : opN l ≤ 36 := by
  by_cases h : opN l = 0
  · omega
  · exact (opL_all _ (opR_mem l opL h)).2.1

/-- A name's number leads back. -/
theorem opN_name (l : List UInt8) (h : opN l ≠ 0) : nmL[opN l]? = some l := (opL_all _ (opR_mem l opL h)).2.2
theorem name_opN (i : Nat) (h1 : 1 ≤ i) (h2 : i ≤ 36) : opN (nmL.getD i []) = i := nmL_all i (by omega) h1

section
variable {H : Type}
def putD : List (List UInt8 × Nat) → DataW H
  | [] => .map []
  | (k, v) :: r => (putD r).put (.string k) (.lit (.int .u8 (v : Int)))

theorem putD_map : ∀ L : List (List UInt8 × Nat), IsMap (putD (H := H) L)
  | [] => isMap_empty
  | (_, _) :: r => (putD_map r).put _ _

theorem lawK : Keyed Try.prog 9 := string_keyed Try.underlying9
theorem key_string (l : List UInt8) (h : l.length ≤ maxLen) : WideAt.IsKeyLit (.string l) :=
  lawK.key (WideMaps.keyOf_string_mk Try.underlying9 (s := ⟨l.toArray⟩) h)

theorem putD_at (l : List UInt8) : ∀ L : List (List UInt8 × Nat), (∀ q ∈ L, q.1.length ≤ 8 ∧ q.2 ≠ 0) →
    has (putD (H := H) L) (.string l) = isN (opR L l) ∧ (putD (H := H) L).atKey (.string l) (.lit (.int .u8 0)) = .lit (.int .u8 (opR L l : Nat))
  | [], _ => ⟨rfl, rfl⟩
  | (k, v) :: r, h => by
    have h0 := h (k, v) List.mem_cons_self
    obtain ⟨i1, i2⟩ := putD_at l r (fun q hq => h q (List.mem_cons_of_mem _ hq))
    have hk : WideAt.IsKeyLit (.string k) := key_string k (by unfold maxLen; have := h0.1; simp at this; omega)
    unfold opR putD
    by_cases e : l = k
    · subst e
      rw [if_pos rfl]
      refine ⟨?_, atKey_put_same (putD_map r) hk _ _⟩
      rw [has_put_same (putD_map r) hk]
      have := h0.2
      simp at this
      simp [isN, this]
    · have hne : Lit.string l ≠ .string k := fun e' => e (by injection e')
      rw [if_neg e, has_put_other hne, atKey_put_other hne]
      exact ⟨i1, i2⟩
end

theorem opL_short : ∀ q ∈ opL, q.1.length ≤ 8 ∧ q.2 ≠ 0 := by decide

theorem zeroU8 (w : World) : (zeroValue 5).run Try.prog w = .ok (.int .u8 0) w := by kernel_rfl

theorem wpList_insert_own {H : Type} {P : Program} (w : World) {ops : Array Oper} {rest : List Oper} {o : Oper} {a : Act} {Q : Exit → Act → World → Prop}
    (hg : o.guard = none) (m x v : Operand) (t : TypeId) (hop : o.op = Op.insert t m x v)
    (k e : TypeId) (K : Keyed P k) (ht : P.underlying t = some (.map k e)) (R : Value → Option (DataW H × List MemPlace)) (b n : Nat) (D : DataW H)
    (hm : a.eval m = .map (some b)) (hown : w.ownsMap P k R b n D) (hn : n < maxLen) (key val : Value) (kl : Lit) (hx : a.eval x = key) (hv : a.eval v = val) (hkey : keyOf P k key = some kl)
    (d : DataW H) (ps : List MemPlace) (hval : R val = some (d, ps)) (W0 : World) (hg0 : W0.grownBy w (some b))
    (hK : ∀ w', w'.ownsMap P k R b (n + 1) (D.put kl d) → W0.grownBy w' (some b) → wpList P ops Q rest (a.put o.dst undef) w') :
    wpList P ops Q (o :: rest) a w := by
  refine wpList_plain hg fun K' hK' => ?_
  obtain ⟨w', hrun, r1, r2⟩ := hown.update K ht hn hkey hval
  unfold Oper.wp
  simp [execOp, hop, hm, hx, hv, hrun, Result.andThen]
  exact hK' _ _ (hK w' r1 (hg0.trans r2))

set_option maxHeartbeats 2000000 in
theorem ops_any {H : Type} (w : World) : Calls Try.prog 20 #[] w fun e w' => e = .returned (.map (some w.heap.size)) ∧ w'.ownsMap Try.prog 9 (plainElem (H := H) Try.prog 5) w.heap.size 36 (putD opL) ∧ Below w.heap.size w w' := by
  have hmm := @run_makeMap Try.prog
  go_enter Try.func20, Try.ntmps20
  have hown1 : (w.alloc (.map #[] 0)).ownsMap Try.prog 9 (plainElem (H := H) Try.prog 5) w.heap.size 0 (.map []) := World.ownsMap_made _ _ _ _
  have hgrow1 := World.grownBy.refl (w.alloc (.map #[] 0)) (some w.heap.size)
  go_wp2_with (first | (refine wpList_insert_own _ rfl _ _ _ 54 rfl 9 5 lawK Try.underlying54 _ w.heap.size _ _ rfl hown1 (by unfold maxLen; omega) _ _ _ rfl rfl (WideMaps.keyOf_string_mk Try.underlying9 (by decide)) _ [] (plainElem_int Try.underlying5 (by decide)) (w.alloc (.map #[] 0)) hgrow1 ?_; clear hown1 hgrow1; intro w1 hown1 hgrow1))
  go_ret
  have hb0 : Below w.heap.size w (w.alloc (.map #[] 0)) := (Below.refl _ _).alloc (Nat.le_refl _) _
  exact ⟨rfl, hown1.mono (by decide), hb0.grown hgrow1 hb0.size (fun j hj => by cases hj; exact Nat.le_refl _)⟩

theorem key_inv {key : Value} {kl : Lit} (h : keyOf Try.prog 9 key = some kl) : ∃ s, key = .string s := by
  cases key <;> simp [keyOf, Try.underlying9, mapKey] at h
  exact ⟨_, rfl⟩

theorem str_mk (s : ByteArray) : s = ⟨s.data.toList.toArray⟩ := by cases s; simp

set_option maxHeartbeats 1000000 in
theorem op_any (s : ByteArray) (w : World) (hs : s.size ≤ maxLen) : Calls Try.prog 10 #[.string s] w fun e w' => e = .returned (.tuple #[.int .u8 (opN s.data.toList : Nat), .bool (isN (opN s.data.toList))]) ∧ Below w.heap.size w w' := by
  obtain ⟨g1, g2⟩ := putD_at (H := Unit) s.data.toList opL opL_short
  have G1 := Hid.mk' g1
  have G2 := Hid.mk' g2
  clear g1 g2
  go_enter Try.func10, Try.ntmps10
  go_wp2_with fail
  refine (ops_any (H := Unit) _).mono ?_
  rintro e w1 ⟨rfl, hown1, hb1⟩
  go_wp2_with (first | (at_lookup; refine wpList_lookup_own_ok_int _ rfl _ _ 54 rfl 9 5 .u8 lawK Try.underlying54 Try.underlying5 (zeroU8 _) w.heap.size 36 _ rfl hown1 _ _ rfl (WideMaps.keyOf_string_mk Try.underlying9 hs) ?_; intro c hat hwc; have HC : Hid (c = (opN s.data.toList : Nat)) := Hid.mk' (by rw [G2.out] at hat; injection hat with h1; injection h1 with h2 h3; exact h3.symm); clear hat hwc; rw [G1.out]))
  go_ret2
  exact ⟨by rw [HC.out]; rfl, hb1⟩

theorem nmN_out (p : Int) (h : ¬ (1 ≤ p ∧ p ≤ 36)) (h0 : 0 ≤ p) : nmN p = [] := by
  unfold nmN
  by_cases e : p = 0
  · subst e; rfl
  · rw [List.getD_eq_getElem?_getD, List.getElem?_eq_none (by rw [nmL_len]; omega)]; rfl

set_option maxHeartbeats 1000000 in
theorem name_any (p : Int) (w : World) (p0 : 0 ≤ p) (p1 : p ≤ 255) : Calls Try.prog 11 #[.int .u8 p] w fun e w' => e = .returned (.string ⟨(nmN p).toArray⟩) ∧ Below w.heap.size w w' := by
  have HP : Hid (∀ l : List UInt8, opN l = p.toNat → 1 ≤ p → p ≤ 36 → nmN p = l) := Hid.mk' (fun l h h1 h2 => by
    have := opN_name l (by omega)
    rw [h] at this
    unfold nmN
    rw [List.getD_eq_getElem?_getD, this]; rfl)
  have HN : Hid (1 ≤ p → p ≤ 36 → opN (nmN p) = p.toNat) := Hid.mk' (fun h1 h2 => name_opN p.toNat (by omega) (by omega))
  have HO : Hid (¬ (1 ≤ p ∧ p ≤ 36) → nmN p = []) := Hid.mk' (fun h => nmN_out p h p0)
  go_enter Try.func11, Try.ntmps11
  go_wp2_with fail
  refine (ops_any (H := Unit) _).mono ?_
  rintro e w1 ⟨rfl, hown1, hb1⟩
  go_wp2_with (first
    | (at_range; refine wpList_range_own _ rfl _ 54 rfl 9 5 lawK Try.underlying54 _ w.heap.size 36 _ rfl hown1 ?_; intro w2 hrg2 hg2 hs2))
  go_frame
  have hwr : Hid (w.heap.size ≤ w1.heap.size) := Hid.mk' hb1.size
  have hb2 : Below w.heap.size w w2 := hb1.grown hg2 hb1.size (fun k h => by cases h)
  go_loopw [3, 4] (fun _ _ wr => ∃ (left : Lit → Bool) (cnt : Nat), wr.ranges Try.prog 9 (plainElem (H := Unit) Try.prog 5) w.heap.size w1.heap.size 36 (putD opL) left cnt ∧ Hid (1 ≤ p → p ≤ 36 → left (.string (nmN p)) = true) ∧ Below w.heap.size w wr) (fun _ _ wr => wr.rangeLeft w.heap.size w1.heap.size)
  case atStart =>
    refine ⟨_, _, hrg2, Hid.mk' (fun h1 h2 => ?_), hb2⟩
    have e := (putD_at (H := Unit) (nmN p) opL opL_short).1
    rw [e]
    have e2 : opR opL (nmN p) = p.toNat := HN.out h1 h2
    rw [e2]
    simp [isN]; omega
  case round =>
    obtain ⟨left, cnt, hrg, HL, hb⟩ := hrel
    go_wp2_with (first
      | (at_next; refine wpList_next_ranges _ rfl _ rfl 9 lawK _ Value.string (Value.int .u8) (fun key kl h => key_inv h) (fun v y h => by obtain ⟨c, rfl, _⟩ := plainElem_int_inv Try.underlying5 h; exact ⟨c, rfl⟩) w.heap.size w1.heap.size 36 _ _ _ rfl hrg ?_ ?_))
    · intro _ hl0
      go_wp2_with fail
      go_ret
      have hz : nmN p = [] := HO.out (fun h => by have := HL.out h.1 h.2; rw [hl0] at this; cases this)
      exact ⟨congrArg (fun z => Ending.returned (.string ⟨List.toArray z⟩)) hz.symm, hb⟩
    · intro x c kl yd yp w3 cnt3 hkx hlx hyc hat hrg3 hlt hg3 hs3 hen
      have hkl : kl = .string x.data.toList := by
        simp [keyOf, Try.underlying9, mapKey] at hkx
        exact hkx.2.symm
      subst hkl
      obtain ⟨c', ec, ey, hwc⟩ := plainElem_int_inv Try.underlying5 hyc
      cases ec
      cases ey
      have hhas := has_true_of_atKey hat
      have g := putD_at (H := Unit) x.data.toList opL opL_short
      rw [g.1] at hhas
      have hc : c = (opN x.data.toList : Nat) := by
        have h1 := hat (.lit (.int .u8 0))
        rw [g.2] at h1
        injection h1 with h1; injection h1 with h2 h3; exact h3.symm
      have h0 : opN x.data.toList ≠ 0 := fun e => by
        have : opR opL x.data.toList = 0 := e
        rw [this] at hhas; cases hhas
      have hle := opN_bounds x.data.toList
      have HX : Hid (c = p → nmN p = x.data.toList) := Hid.mk' (fun e => HP.out _ (by omega) (by omega) (by omega))
      have HY : Hid (c ≠ p → 1 ≤ p → p ≤ 36 → nmN p ≠ x.data.toList) := Hid.mk' (fun e h1 h2 h3 => by
        have := HN.out h1 h2
        rw [h3] at this
        omega)
      have hb3 := hb.grown hg3 hb.size (fun k h => by cases h; exact hwr.out)
      clear g hhas hc h0 hle hat hkx hyc hwc hg3
      by_cases e : c = p
      · subst e
        go_wp2_with fail
        go_ret
        refine ⟨?_, hb3⟩
        rw [HX.out (by first | rfl | trivial)]
        exact congrArg (fun z => Ending.returned (.string z)) (str_mk x)
      · go_wp2_with fail
        go_roundw
        case rel =>
          refine ⟨_, cnt3, hrg3, Hid.mk' (fun h1 h2 => ?_), hb3⟩
          have := HY.out e h1 h2
          show (left _ && !_) = true
          rw [HL.out h1 h2, sameKey_ne (fun h => this (by injection h))]
          rfl
        case measure => rw [hrg3.left_eq, hrg.left_eq]; exact hlt
end Go.Proofs.Ytmiiddkpmfiocab
