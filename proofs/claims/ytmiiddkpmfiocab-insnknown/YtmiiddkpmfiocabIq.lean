/- The walk of InsnKnown. -/
import Derived.Test.YtmiiddkpmfiocabIl
import Derived.Laws.StructEq
import Derived.Deep.CutBlock
import Derived.Deep.RegionWith
namespace Go.Proofs.Ytmiiddkpmfiocab
open Go.ChangeShapes Go.WideShapes Go.ChangeAt Go.RowKit
set_option maxRecDepth 20000

abbrev Q5 := Int × Int × Int × Int × Int
def goodQ : List Q5 := [(1, 3, 0, 0, -1), (22, 0, 0, 255, 0), (33, 0, 0, 0, 16), (35, 0, 0, 0, 23), (36, 0, 0, 0, 0), (19, 1, 2, -32768, 8)]
def goodW : List Int := [85568397215006719, 1585268164051075072, 2377900603251621904, 2522015791327477783, 2594073385365405696, 1374301573789777928]
def wrongQ : List Q5 := [(1, 10, 0, 0, 1), (2, 0, 0, 0, 1), (12, 0, 0, 0, 64), (13, 0, 0, 0, -1), (18, 0, 0, 0, 3), (18, 0, 0, 0, 0), (20, 0, 0, 8, 0), (21, 0, 0, -1, 0), (22, 0, 0, -1, 0), (22, 0, 0, 256, 0), (33, 0, 0, 0, 0), (33, 0, 0, 0, 17), (35, 0, 0, 0, 9), (35, 0, 0, 0, 15), (35, 0, 0, 0, 24), (35, 0, 0, 0, 0), (0, 0, 0, 0, 0), (37, 0, 0, 0, 0), (255, 0, 0, 0, 0), (36, 1, 0, 0, 0), (14, 0, 1, 0, 0), (20, 1, 0, 0, 0), (23, 0, 1, 0, 0), (27, 0, 0, 0, 1), (4, 0, 0, 1, 0), (2, 0, 16, 0, 0)]
def badW : List Int := [72057598332895232, 72339069014638592, 0, 117093590311632896, 18446744073709551615, 1585268168346042368]

def q5C (q : Q5) : List Value := [.int .u8 q.1, .int .u8 q.2.1, .int .u8 q.2.2.1, .int .i16 q.2.2.2.1, .int .i32 q.2.2.2.2]
def q5L (L : List Q5) : List Value := L.flatMap q5C

theorem q5L_at : ∀ (L : List Q5) (k : Nat) (q : Q5), L[k]? = some q → (q5L L)[k * 5]? = some (.int .u8 q.1) ∧ (q5L L)[k * 5 + 1]? = some (.int .u8 q.2.1) ∧ (q5L L)[k * 5 + 2]? = some (.int .u8 q.2.2.1) ∧ (q5L L)[k * 5 + 3]? = some (.int .i16 q.2.2.2.1) ∧ (q5L L)[k * 5 + 4]? = some (.int .i32 q.2.2.2.2)
  | [], k, q, h => by simp at h
  | x :: r, 0, q, h => by
    simp at h
    subst h
    exact ⟨rfl, rfl, rfl, rfl, rfl⟩
  | x :: r, k + 1, q, h => by
    have ih := q5L_at r k q (by simpa using h)
    have e : ∀ j, (q5L (x :: r))[(k + 1) * 5 + j]? = (q5L r)[k * 5 + j]? := fun j => by
      show (q5C x ++ q5L r)[(k + 1) * 5 + j]? = _
      rw [List.getElem?_append_right (by simp [q5C]; omega)]
      congr 1
      simp [q5C]; omega
    have e0 := e 0
    rw [Nat.add_zero, Nat.add_zero] at e0
    rw [e0, e 1, e 2, e 3, e 4]
    exact ih

/-- An instruction's bounds, as a test. -/
def inT (q : Q5) : Bool := decide (0 ≤ q.1 ∧ q.1 ≤ 255 ∧ 0 ≤ q.2.1 ∧ q.2.1 ≤ 255 ∧ 0 ≤ q.2.2.1 ∧ q.2.2.1 ≤ 255 ∧ -32768 ≤ q.2.2.2.1 ∧ q.2.2.2.1 ≤ 32767 ∧ -2147483648 ≤ q.2.2.2.2 ∧ q.2.2.2.2 ≤ 2147483647)
theorem inT_ok {q : Q5} (h : inT q = true) : InB q.1 q.2.1 q.2.2.1 q.2.2.2.1 q.2.2.2.2 := by
  have := of_decide_eq_true h
  constructor <;> omega
theorem good_all : ∀ k, k < 6 → (inT (goodQ.getD k default) && mayB (goodQ.getD k default).1 (goodQ.getD k default).2.1 (goodQ.getD k default).2.2.1 (goodQ.getD k default).2.2.2.1 (goodQ.getD k default).2.2.2.2
    && decide (wordN (goodQ.getD k default).1 (goodQ.getD k default).2.1 (goodQ.getD k default).2.2.1 (goodQ.getD k default).2.2.2.1 (goodQ.getD k default).2.2.2.2 = goodW.getD k 0)) = true := by decide
theorem wrong_all : ∀ k, k < 26 → (inT (wrongQ.getD k default) && !mayB (wrongQ.getD k default).1 (wrongQ.getD k default).2.1 (wrongQ.getD k default).2.2.1 (wrongQ.getD k default).2.2.2.1 (wrongQ.getD k default).2.2.2.2) = true := by decide
theorem bad_all : ∀ k, k < 6 → (decide (0 ≤ badW.getD k 0 ∧ badW.getD k 0 ≤ 18446744073709551615) && !mayB (wP (badW.getD k 0)) (wD (badW.getD k 0)) (wS (badW.getD k 0)) (wO (badW.getD k 0)) (wI (badW.getD k 0))) = true := by decide

/-- All that is asked of one that may be. -/
theorem good_at (k : Nat) (h : k < 6) : ∃ p d s o i v : Int, goodQ[k]? = some (p, d, s, o, i) ∧ goodW.getD k 0 = v ∧
    (∀ u : World, Calls Try.prog 4 #[insV p d s o i] u fun e w' => e = .returned (.tuple #[.int .u64 v, .int .i64 0]) ∧ Below u.heap.size u w') ∧
    (∀ u : World, Calls Try.prog 5 #[.int .u64 v] u fun e w' => e = .returned (.tuple #[insV p d s o i, .int .i64 0]) ∧ Below u.heap.size u w') := by
  have ha := good_all k h
  have hq : goodQ[k]? = some (goodQ.getD k default) := by
    rw [List.getD_eq_getElem?_getD]
    have : k < goodQ.length := h
    simp [this]
  obtain ⟨⟨p, d, s, o, i⟩, hQ⟩ : ∃ q : Q5, goodQ.getD k default = q := ⟨_, rfl⟩
  rw [hQ] at ha hq
  simp only [Bool.and_eq_true, decide_eq_true_eq] at ha
  obtain ⟨⟨h1, h2⟩, h3⟩ := ha
  have hin : InB p d s o i := inT_ok h1
  refine ⟨p, d, s, o, i, _, hq, rfl, fun u => ?_, fun u => ?_⟩
  · have e := enc_any p d s o i u hin
    rw [h2, h3] at e
    exact e
  · rw [← h3]
    obtain ⟨k1, k2⟩ := (show d ≤ 9 ∧ s ≤ 9 by
      have hm := h2
      rw [may_same p d s o i hin.d0 hin.s0] at hm
      exact ⟨(may_ds hm).2.2.1, (may_ds hm).2.2.2⟩)
    obtain ⟨b0, b1⟩ := word_bounds hin (by omega) (by omega)
    obtain ⟨e0, e1, e2, e3, e4⟩ := fields_word hin (by omega) (by omega)
    have hd := dec_any (wordN p d s o i) u b0 (by omega)
    unfold decV at hd
    rw [e0, e1, e2, e3, e4, h2] at hd
    exact hd

theorem wrong_at (k : Nat) (h : k < 26) : ∃ p d s o i : Int, wrongQ[k]? = some (p, d, s, o, i) ∧
    (∀ u : World, Calls Try.prog 4 #[insV p d s o i] u fun e w' => e = .returned (.tuple #[.int .u64 0, .int .i64 130]) ∧ Below u.heap.size u w') ∧
    (∀ u : World, Calls Try.prog 6 #[insV p d s o i] u fun e w' => e = .returned (.tuple #[.int .i64 0, .bool false]) ∧ Below u.heap.size u w') ∧
    (∀ u : World, Calls Try.prog 7 #[insV p d s o i] u fun e w' => e = .returned (.int .i64 130) ∧ Below u.heap.size u w') ∧
    (∀ u : World, Calls Try.prog 8 #[insV p d s o i] u fun e w' => (∃ a c, e = .returned (.slice a 0 c)) ∧ Below u.heap.size u w') := by
  have ha := wrong_all k h
  have hq : wrongQ[k]? = some (wrongQ.getD k default) := by
    rw [List.getD_eq_getElem?_getD]
    have : k < wrongQ.length := h
    simp [this]
  obtain ⟨⟨p, d, s, o, i⟩, hQ⟩ : ∃ q : Q5, wrongQ.getD k default = q := ⟨_, rfl⟩
  rw [hQ] at ha hq
  simp only [Bool.and_eq_true, Bool.not_eq_true'] at ha
  obtain ⟨h1, h2⟩ := ha
  have hin : InB p d s o i := inT_ok h1
  refine ⟨p, d, s, o, i, hq, fun u => ?_, fun u => ?_, fun u => ?_, fun u => ?_⟩
  · have e := enc_any p d s o i u hin
    rw [h2] at e
    exact e
  · have e := writes_any p d s o i u hin
    rw [h2] at e
    exact e
  · have e := check_any p d s o i u hin
    rw [h2] at e
    exact e
  · have e := reads_any p d s o i u hin
    rw [h2] at e
    refine e.mono ?_
    rintro e w' ⟨v, rfl, I, b⟩
    obtain ⟨a, c, rfl, -⟩ := I.lies
    exact ⟨⟨a, c, rfl⟩, b⟩

theorem bad_at (k : Nat) (h : k < 6) : ∃ v : Int, badW.getD k 0 = v ∧ (∀ u : World, Calls Try.prog 5 #[.int .u64 v] u fun e w' => e = .returned (.tuple #[insV 0 0 0 0 0, .int .i64 130]) ∧ Below u.heap.size u w') := by
  have ha := bad_all k h
  refine ⟨_, rfl, fun u => ?_⟩
  simp only [Bool.and_eq_true, Bool.not_eq_true', decide_eq_true_eq] at ha
  obtain ⟨⟨h0, h1⟩, h2⟩ := ha
  have e := dec_any (badW.getD k 0) u h0 h1
  rw [h2] at e
  exact e

theorem name_short : ∀ k, k < 256 → (nmN (Int.ofNat k)).length ≤ 8 := by
  intro k hk
  by_cases h : k < 37
  · have : ∀ k, k < 37 → (nmL.getD k []).length ≤ 8 := by decide
    exact this k h
  · rw [nmN_out _ (by simp; omega) (by simp)]; simp

theorem names_back (k : Nat) (h : k < 256) (u : World) : Calls Try.prog 10 #[.string ⟨(nmN k).toArray⟩] u fun e w' => (∃ c b, e = .returned (.tuple #[.int .u8 c, .bool b]) ∧ b = (decide ((1 : Int) ≤ k) && decide ((k : Int) ≤ 36)) ∧ (b = true → c = k)) ∧ Below u.heap.size u w' := by
  have hs := name_short k h
  refine (op_any ⟨(nmN k).toArray⟩ u (by
    have : (nmN (k : Int)).length ≤ 8 := hs
    show (nmN (k : Int)).toArray.size ≤ maxLen
    unfold maxLen; simp; omega)).mono ?_
  rintro e w' ⟨rfl, b⟩
  refine ⟨⟨_, _, rfl, ?_, ?_⟩, b⟩
  · show isN (opN (nmN (k : Int)).toArray.toList) = _
    by_cases hk : 1 ≤ k ∧ k ≤ 36
    · have e : opN (nmN (k : Int)) = k := name_opN k hk.1 hk.2
      have e1 : decide ((1 : Int) ≤ k) = true := decide_eq_true (by omega)
      have e2 : decide ((k : Int) ≤ 36) = true := decide_eq_true (by omega)
      rw [show (nmN (k : Int)).toArray.toList = nmN (k : Int) from rfl, e, e1, e2]
      simp [isN]; omega
    · have e : nmN (k : Int) = [] := nmN_out _ (by omega) (by omega)
      rw [e]
      have : (decide ((1 : Int) ≤ k) && decide ((k : Int) ≤ 36)) = false := by
        rw [Bool.eq_false_iff]; simp; omega
      rw [this]; rfl
  · intro hb
    have hb' : isN (opN (nmN (k : Int))) = true := hb
    by_cases hk : 1 ≤ k ∧ k ≤ 36
    · have e : opN (nmN (k : Int)) = k := name_opN k hk.1 hk.2
      show ((opN (nmN (k : Int)) : Nat) : Int) = k
      rw [e]
    · have e : nmN (k : Int) = [] := nmN_out _ (by omega) (by omega)
      rw [e] at hb'
      cases hb'

theorem read_at (p d s o i : Int) (L : List Int) (h : inT (p, d, s, o, i) = true) (e : rdL (mayB p d s o i) p d s i = L) (u : World) : Calls Try.prog 8 #[insV p d s o i] u fun e w' => ∃ v, e = .returned v ∧ Iw w' u.heap.size v L ∧ Below u.heap.size u w' := by
  have := reads_any p d s o i u (inT_ok h)
  rw [e] at this
  exact this

set_option maxHeartbeats 8000000 in
theorem walkInsnKnown (W : World) : Calls Try.prog 3 #[] W fun e w' => e = .returned (.bool true) ∧ Below W.heap.size W w' := by
  go_enter Try.func3, Try.ntmps3
  go_upto_block 0 with fail
  generalize hw2 : (W.alloc (.cells #[.int .u64 85568397215006719, .int .u64 1585268164051075072, .int .u64 2377900603251621904, .int .u64 2522015791327477783, .int .u64 2594073385365405696, .int .u64 1374301573789777928] 22)).alloc (.cells #[.int .u8 1, .int .u8 3, .int .u8 0, .int .i16 0, .int .i32 (-1), .int .u8 22, .int .u8 0, .int .u8 0, .int .i16 255, .int .i32 0, .int .u8 33, .int .u8 0, .int .u8 0, .int .i16 0, .int .i32 16, .int .u8 35, .int .u8 0, .int .u8 0, .int .i16 0, .int .i32 23, .int .u8 36, .int .u8 0, .int .u8 0, .int .i16 0, .int .i32 0, .int .u8 19, .int .u8 1, .int .u8 2, .int .i16 (-32768), .int .i32 8] 26) = w2
  have hA := (Below.refl W.heap.size W).alloc (Nat.le_refl _) (.cells (goodW.map (Value.int .u64)).toArray 22)
  have hBw : Below (W.alloc (.cells (goodW.map (Value.int .u64)).toArray 22)).heap.size (W.alloc (.cells (goodW.map (Value.int .u64)).toArray 22)) w2 := by
    rw [← hw2]; exact (Below.refl _ _).alloc (Nat.le_refl _) _
  have hs2 : w2.heap.size = W.heap.size + 2 := by rw [← hw2]; simp
  have HW : Hid (∀ k, k < 6 → w2.cell? ⟨W.heap.size, k, none⟩ = some (.int .u64 (goodW.getD k 0))) := Hid.mk' (fun k hk => by
    refine (hBw.cell (p := ⟨W.heap.size, k, none⟩) (by simp)).trans ?_
    rw [World.cell?_alloc_new]
    have : k < goodW.length := hk
    simp [this])
  have HC : Hid (∀ k q, goodQ[k]? = some q → w2.cell? ⟨W.heap.size + 1, k * 5, none⟩ = some (.int .u8 q.1) ∧ w2.cell? ⟨W.heap.size + 1, k * 5 + 1, none⟩ = some (.int .u8 q.2.1) ∧ w2.cell? ⟨W.heap.size + 1, k * 5 + 2, none⟩ = some (.int .u8 q.2.2.1) ∧ w2.cell? ⟨W.heap.size + 1, k * 5 + 3, none⟩ = some (.int .i16 q.2.2.2.1) ∧ w2.cell? ⟨W.heap.size + 1, k * 5 + 4, none⟩ = some (.int .i32 q.2.2.2.2)) := Hid.mk' (fun k q hq => by
    have e : ∀ j, w2.cell? ⟨W.heap.size + 1, j, none⟩ = (q5L goodQ)[j]? := fun j => by
      rw [← hw2]
      have e1 : W.heap.size + 1 = (W.alloc (.cells (goodW.map (Value.int .u64)).toArray 22)).heap.size := by simp
      rw [e1]
      refine (World.cell?_alloc_new _ _ _ _).trans ?_
      show (q5L goodQ).toArray[j]? = _
      simp
    rw [e, e, e, e, e]
    exact q5L_at _ _ _ hq)
  have B2 : Hid (Below W.heap.size W w2) := Hid.mk' (hA.trans (hBw.mono (by simp)))
  clear hA hBw hw2
  go_cut [1, 2] from 3 (fun _ _ wx => Hid (Below w2.heap.size w2 wx))
  case first =>
    as_aux_lemma =>
      go_wp2_with fail
      go_loopw [3] (fun i wr => ∃ k : Nat, k ≤ 6 ∧ i = .int .i64 k ∧ Hid (Below w2.heap.size w2 wr)) (fun i _ => 6 - (intOf i).toNat)
      case atStart => exact ⟨0, Nat.zero_le _, rfl, Hid.mk' (Below.refl _ _)⟩
      case round =>
        obtain ⟨k, hk, rfl, HB⟩ := hrel
        by_cases hlt : k < 6
        · obtain ⟨p, d, s, o, i, v, hq, hv, KE, KD⟩ := good_at k hlt
          have CO : Hid (∀ u, Below w2.heap.size w2 u → u.cell? ⟨W.heap.size, k, none⟩ = some (.int .u64 v) ∧ u.cell? ⟨W.heap.size + 1, k * 5, none⟩ = some (.int .u8 p) ∧ u.cell? ⟨W.heap.size + 1, k * 5 + 1, none⟩ = some (.int .u8 d) ∧ u.cell? ⟨W.heap.size + 1, k * 5 + 2, none⟩ = some (.int .u8 s) ∧ u.cell? ⟨W.heap.size + 1, k * 5 + 3, none⟩ = some (.int .i16 o) ∧ u.cell? ⟨W.heap.size + 1, k * 5 + 4, none⟩ = some (.int .i32 i)) := Hid.mk' (fun u hb => by
            obtain ⟨a0, a1, a2, a3, a4⟩ := HC.out k _ hq
            have a5 := HW.out k hlt
            rw [hv] at a5
            exact ⟨(hb.cell (p := ⟨W.heap.size, k, none⟩) (by simp; omega)).trans a5, (hb.cell (p := ⟨W.heap.size + 1, k * 5, none⟩) (by simp; omega)).trans a0, (hb.cell (p := ⟨W.heap.size + 1, k * 5 + 1, none⟩) (by simp; omega)).trans a1, (hb.cell (p := ⟨W.heap.size + 1, k * 5 + 2, none⟩) (by simp; omega)).trans a2, (hb.cell (p := ⟨W.heap.size + 1, k * 5 + 3, none⟩) (by simp; omega)).trans a3, (hb.cell (p := ⟨W.heap.size + 1, k * 5 + 4, none⟩) (by simp; omega)).trans a4⟩)
          have KE := Hid.mk' KE
          have KD := Hid.mk' KD
          clear hq hv
          have hsp : (k : Int) < 6 := by omega
          obtain ⟨c5, c0, c1, c2, c3, c4⟩ := CO.out _ HB.out
          go_wp2_with fail
          refine (KE.out _).mono ?_
          rintro e wa ⟨rfl, ba⟩
          have hsr := HB.out.size
          have Ja := Hid.mk' (HB.out.trans (ba.mono hsr))
          obtain ⟨c5, c0, c1, c2, c3, c4⟩ := CO.out _ Ja.out
          have hsa := Ja.out.size
          clear ba
          go_wp2_with fail
          refine (KD.out _).mono ?_
          rintro e wb ⟨rfl, bb⟩
          have Jb := Hid.mk' (Ja.out.trans (bb.mono hsa))
          obtain ⟨c5, c0, c1, c2, c3, c4⟩ := CO.out _ Jb.out
          have hsb := Jb.out.size
          have hx : W.heap.size < wb.heap.size := by omega
          have hy : W.heap.size + 1 < wb.heap.size := by omega
          have hx' : ¬ W.heap.size = wb.heap.size := by omega
          have hy' : ¬ W.heap.size + 1 = wb.heap.size := by omega
          clear bb
          go_wp2_with fail
          go_quiet (fail)
          go_wp2_with fail
          go_roundw
          case rel => exact ⟨k + 1, hlt, by go_num, Hid.mk' ((Jb.out.alloc hsb _).trans (Dr.below ⟨_, rfl⟩ _))⟩
          case measure => simp [intOf]; omega
        · have hsp : ¬ (k : Int) < 6 := by omega
          go_wp2_with fail
          go_meet
          exact HB
  case rest =>
  have B3 : Hid (Below W.heap.size W wc) := Hid.mk' (B2.out.trans (hcut.out.mono (by omega)))
  obtain ⟨w3, hw3⟩ : ∃ w3, w3 = wc := ⟨_, rfl⟩
  subst hw3
  clear hcut B2 HC HW hs2
  go_upto_block 2 with fail
  generalize hw4 : w3.alloc (.cells #[.int .u8 1, .int .u8 10, .int .u8 0, .int .i16 0, .int .i32 1, .int .u8 2, .int .u8 0, .int .u8 0, .int .i16 0, .int .i32 1, .int .u8 12, .int .u8 0, .int .u8 0, .int .i16 0, .int .i32 64, .int .u8 13, .int .u8 0, .int .u8 0, .int .i16 0, .int .i32 (-1), .int .u8 18, .int .u8 0, .int .u8 0, .int .i16 0, .int .i32 3, .int .u8 18, .int .u8 0, .int .u8 0, .int .i16 0, .int .i32 0, .int .u8 20, .int .u8 0, .int .u8 0, .int .i16 8, .int .i32 0, .int .u8 21, .int .u8 0, .int .u8 0, .int .i16 (-1), .int .i32 0, .int .u8 22, .int .u8 0, .int .u8 0, .int .i16 (-1), .int .i32 0, .int .u8 22, .int .u8 0, .int .u8 0, .int .i16 256, .int .i32 0, .int .u8 33, .int .u8 0, .int .u8 0, .int .i16 0, .int .i32 0, .int .u8 33, .int .u8 0, .int .u8 0, .int .i16 0, .int .i32 17, .int .u8 35, .int .u8 0, .int .u8 0, .int .i16 0, .int .i32 9, .int .u8 35, .int .u8 0, .int .u8 0, .int .i16 0, .int .i32 15, .int .u8 35, .int .u8 0, .int .u8 0, .int .i16 0, .int .i32 24, .int .u8 35, .int .u8 0, .int .u8 0, .int .i16 0, .int .i32 0, .int .u8 0, .int .u8 0, .int .u8 0, .int .i16 0, .int .i32 0, .int .u8 37, .int .u8 0, .int .u8 0, .int .i16 0, .int .i32 0, .int .u8 255, .int .u8 0, .int .u8 0, .int .i16 0, .int .i32 0, .int .u8 36, .int .u8 1, .int .u8 0, .int .i16 0, .int .i32 0, .int .u8 14, .int .u8 0, .int .u8 1, .int .i16 0, .int .i32 0, .int .u8 20, .int .u8 1, .int .u8 0, .int .i16 0, .int .i32 0, .int .u8 23, .int .u8 0, .int .u8 1, .int .i16 0, .int .i32 0, .int .u8 27, .int .u8 0, .int .u8 0, .int .i16 0, .int .i32 1, .int .u8 4, .int .u8 0, .int .u8 0, .int .i16 1, .int .i32 0, .int .u8 2, .int .u8 0, .int .u8 16, .int .i16 0, .int .i32 0] 26) = w4
  have b34 : Below w3.heap.size w3 w4 := by rw [← hw4]; exact (Below.refl _ _).alloc (Nat.le_refl _) _
  have hs4 : w4.heap.size = w3.heap.size + 1 := by rw [← hw4]; simp
  have HC : Hid (∀ k q, wrongQ[k]? = some q → w4.cell? ⟨w3.heap.size, k * 5, none⟩ = some (.int .u8 q.1) ∧ w4.cell? ⟨w3.heap.size, k * 5 + 1, none⟩ = some (.int .u8 q.2.1) ∧ w4.cell? ⟨w3.heap.size, k * 5 + 2, none⟩ = some (.int .u8 q.2.2.1) ∧ w4.cell? ⟨w3.heap.size, k * 5 + 3, none⟩ = some (.int .i16 q.2.2.2.1) ∧ w4.cell? ⟨w3.heap.size, k * 5 + 4, none⟩ = some (.int .i32 q.2.2.2.2)) := Hid.mk' (fun k q hq => by
    have e : ∀ j, w4.cell? ⟨w3.heap.size, j, none⟩ = (q5L wrongQ)[j]? := fun j => by
      rw [← hw4]
      refine (World.cell?_alloc_new _ _ _ _).trans ?_
      show (q5L wrongQ).toArray[j]? = _
      simp
    rw [e, e, e, e, e]
    exact q5L_at _ _ _ hq)
  have B4 : Hid (Below W.heap.size W w4) := Hid.mk' (B3.out.trans (b34.mono B3.out.size))
  clear b34 hw4
  go_cut [1] from 2 (fun _ wx => Hid (Below w4.heap.size w4 wx))
  case first =>
    as_aux_lemma =>
      go_wp2_with fail
      go_loopw [9] (fun i wr => ∃ k : Nat, k ≤ 26 ∧ i = .int .i64 k ∧ Hid (Below w4.heap.size w4 wr)) (fun i _ => 26 - (intOf i).toNat)
      case atStart => exact ⟨0, Nat.zero_le _, rfl, Hid.mk' (Below.refl _ _)⟩
      case round =>
        obtain ⟨k, hk, rfl, HB⟩ := hrel
        by_cases hlt : k < 26
        · obtain ⟨p, d, s, o, i, hq, KE, KW, KC, KR⟩ := wrong_at k hlt
          have CO : Hid (∀ u, Below w4.heap.size w4 u → u.cell? ⟨w3.heap.size, k * 5, none⟩ = some (.int .u8 p) ∧ u.cell? ⟨w3.heap.size, k * 5 + 1, none⟩ = some (.int .u8 d) ∧ u.cell? ⟨w3.heap.size, k * 5 + 2, none⟩ = some (.int .u8 s) ∧ u.cell? ⟨w3.heap.size, k * 5 + 3, none⟩ = some (.int .i16 o) ∧ u.cell? ⟨w3.heap.size, k * 5 + 4, none⟩ = some (.int .i32 i)) := Hid.mk' (fun u hb => by
            obtain ⟨a0, a1, a2, a3, a4⟩ := HC.out k _ hq
            exact ⟨(hb.cell (p := ⟨w3.heap.size, k * 5, none⟩) (by simp; omega)).trans a0, (hb.cell (p := ⟨w3.heap.size, k * 5 + 1, none⟩) (by simp; omega)).trans a1, (hb.cell (p := ⟨w3.heap.size, k * 5 + 2, none⟩) (by simp; omega)).trans a2, (hb.cell (p := ⟨w3.heap.size, k * 5 + 3, none⟩) (by simp; omega)).trans a3, (hb.cell (p := ⟨w3.heap.size, k * 5 + 4, none⟩) (by simp; omega)).trans a4⟩)
          have KE := Hid.mk' KE
          have KW := Hid.mk' KW
          have KC := Hid.mk' KC
          have KR := Hid.mk' KR
          clear hq
          have hsp : (k : Int) < 26 := by omega
          obtain ⟨c0, c1, c2, c3, c4⟩ := CO.out _ HB.out
          have hsr := HB.out.size
          go_wp2_with fail
          refine (KE.out _).mono ?_
          rintro e wa ⟨rfl, ba⟩
          have Ja := Hid.mk' (HB.out.trans (ba.mono hsr))
          obtain ⟨c0, c1, c2, c3, c4⟩ := CO.out _ Ja.out
          have hsa := Ja.out.size
          clear ba
          go_wp2_with fail
          refine (KW.out _).mono ?_
          rintro e wb ⟨rfl, bb⟩
          have Jb := Hid.mk' (Ja.out.trans (bb.mono hsa))
          obtain ⟨c0, c1, c2, c3, c4⟩ := CO.out _ Jb.out
          have hsb := Jb.out.size
          clear bb
          go_wp2_with fail
          refine (KC.out _).mono ?_
          rintro e wd ⟨rfl, bd⟩
          have Jd := Hid.mk' (Jb.out.trans (bd.mono hsb))
          obtain ⟨c0, c1, c2, c3, c4⟩ := CO.out _ Jd.out
          have hsd := Jd.out.size
          clear bd
          go_wp2_with fail
          refine (KR.out _).mono ?_
          rintro e wf ⟨⟨ra, rc, rfl⟩, bf⟩
          have Jf := Hid.mk' (Jd.out.trans (bf.mono hsd))
          clear bf
          go_wp2_with fail
          go_roundw
          case rel => exact ⟨k + 1, hlt, by go_num, Jf⟩
          case measure => simp [intOf]; omega
        · have hsp : ¬ (k : Int) < 26 := by omega
          go_wp2_with fail
          go_meet
          exact HB
  case rest =>
  have B5 : Hid (Below W.heap.size W wc) := Hid.mk' (B4.out.trans (hcut.out.mono (by have := B3.out.size; omega)))
  obtain ⟨w5, hw5⟩ : ∃ w5, w5 = wc := ⟨_, rfl⟩
  subst hw5
  clear hcut B3 B4 HC hs4
  go_upto_block 4 with fail
  generalize hw6 : w5.alloc (.cells #[.int .u64 72057598332895232, .int .u64 72339069014638592, .int .u64 0, .int .u64 117093590311632896, .int .u64 18446744073709551615, .int .u64 1585268168346042368] 22) = w6
  have b56 : Below w5.heap.size w5 w6 := by rw [← hw6]; exact (Below.refl _ _).alloc (Nat.le_refl _) _
  have hs6 : w6.heap.size = w5.heap.size + 1 := by rw [← hw6]; simp
  have HW : Hid (∀ k, k < 6 → w6.cell? ⟨w5.heap.size, k, none⟩ = some (.int .u64 (badW.getD k 0))) := Hid.mk' (fun k hk => by
    rw [← hw6]
    refine (World.cell?_alloc_new _ _ _ _).trans ?_
    show (badW.map (Value.int .u64)).toArray[k]? = _
    have : k < badW.length := hk
    simp [this])
  have B6 : Hid (Below W.heap.size W w6) := Hid.mk' (B5.out.trans (b56.mono B5.out.size))
  clear b56 hw6
  go_cut [1] from 2 (fun _ wx => Hid (Below w6.heap.size w6 wx))
  case first =>
    as_aux_lemma =>
      go_wp2_with fail
      go_loopw [15] (fun i wr => ∃ k : Nat, k ≤ 6 ∧ i = .int .i64 k ∧ Hid (Below w6.heap.size w6 wr)) (fun i _ => 6 - (intOf i).toNat)
      case atStart => exact ⟨0, Nat.zero_le _, rfl, Hid.mk' (Below.refl _ _)⟩
      case round =>
        obtain ⟨k, hk, rfl, HB⟩ := hrel
        by_cases hlt : k < 6
        · obtain ⟨v, hv, KD⟩ := bad_at k hlt
          have c0 := (HB.out.cell (p := ⟨w5.heap.size, k, none⟩) (by simp; omega)).trans (HW.out k hlt)
          rw [hv] at c0
          have KD := Hid.mk' KD
          clear hv
          have hsp : (k : Int) < 6 := by omega
          have hsr := HB.out.size
          go_wp2_with fail
          refine (KD.out _).mono ?_
          rintro e wa ⟨rfl, ba⟩
          have Ja := Hid.mk' (HB.out.trans (ba.mono hsr))
          have hsa := Ja.out.size
          clear ba
          go_wp2_with fail
          go_roundw
          case rel => exact ⟨k + 1, hlt, by go_num, Hid.mk' (Ja.out.alloc hsa _)⟩
          case measure => simp [intOf]; omega
        · have hsp : ¬ (k : Int) < 6 := by omega
          go_wp2_with fail
          go_meet
          exact HB
  case rest =>
  have B7 : Hid (Below W.heap.size W wc) := Hid.mk' (B6.out.trans (hcut.out.mono (by have := B5.out.size; omega)))
  obtain ⟨w7, hw7⟩ : ∃ w7, w7 = wc := ⟨_, rfl⟩
  subst hw7
  clear hcut B5 B6 HW hs6
  go_upto_region 25 with fail
  go_cut [1, 18] from 2 (fun _ s18 wx => s18 = .bool true ∧ Hid (Below W.heap.size W wx))
  case first =>
    as_aux_lemma =>
      go_wp2_with fail
      refine (read_at 5 4 4 0 0 [4] (by decide) (by decide) _).mono ?_
      rintro e x0 ⟨v0, rfl, I0, b0⟩
      have J0 := Hid.mk' (B7.out.trans (b0.mono B7.out.size))
      clear b0
      go_wp2_with fail
      refine (eqi_any _ _ x0.heap.size v0 _ [4] (I0.below ((Below.refl _ _).alloc (Nat.le_refl _) _)) (Iw.lit x0 [4] 3 1 (by simp) (by simp)) (by simp)).mono ?_
      rintro e y0 ⟨rfl, c0⟩
      have K0 := Hid.mk' ((J0.out.alloc J0.out.size _).trans (c0.mono (by have := J0.out.size; simp; omega)))
      clear c0 I0 J0
      go_wp2_with fail
      refine (read_at 19 2 1 0 1 [1, 2] (by decide) (by decide) _).mono ?_
      rintro e x1 ⟨v1, rfl, I1, b1⟩
      have J1 := Hid.mk' (K0.out.trans (b1.mono K0.out.size))
      clear b1
      go_wp2_with fail
      refine (eqi_any _ _ x1.heap.size v1 _ [1, 2] (I1.below ((Below.refl _ _).alloc (Nat.le_refl _) _)) (Iw.lit x1 [1, 2] 3 2 (by simp) (by simp)) (by simp)).mono ?_
      rintro e y1 ⟨rfl, c1⟩
      have K1 := Hid.mk' ((J1.out.alloc J1.out.size _).trans (c1.mono (by have := J1.out.size; simp; omega)))
      clear c1 I1 J1
      go_wp2_with fail
      refine (read_at 35 0 0 0 3 [1] (by decide) (by decide) _).mono ?_
      rintro e x2 ⟨v2, rfl, I2, b2⟩
      have J2 := Hid.mk' (K1.out.trans (b2.mono K1.out.size))
      clear b2
      go_wp2_with fail
      refine (eqi_any _ _ x2.heap.size v2 _ [1] (I2.below ((Below.refl _ _).alloc (Nat.le_refl _) _)) (Iw.lit x2 [1] 3 1 (by simp) (by simp)) (by simp)).mono ?_
      rintro e y2 ⟨rfl, c2⟩
      have K2 := Hid.mk' ((J2.out.alloc J2.out.size _).trans (c2.mono (by have := J2.out.size; simp; omega)))
      clear c2 I2 J2
      go_wp2_with fail
      refine (read_at 35 0 0 0 20 [1, 2, 3] (by decide) (by decide) _).mono ?_
      rintro e x3 ⟨v3, rfl, I3, b3⟩
      have J3 := Hid.mk' (K2.out.trans (b3.mono K2.out.size))
      clear b3
      go_wp2_with fail
      refine (eqi_any _ _ x3.heap.size v3 _ [1, 2, 3] (I3.below ((Below.refl _ _).alloc (Nat.le_refl _) _)) (Iw.lit x3 [1, 2, 3] 3 3 (by simp) (by simp)) (by simp)).mono ?_
      rintro e y3 ⟨rfl, c3⟩
      have K3 := Hid.mk' ((J3.out.alloc J3.out.size _).trans (c3.mono (by have := J3.out.size; simp; omega)))
      clear c3 I3 J3
      go_wp2_with fail
      refine (read_at 36 0 0 0 0 [0] (by decide) (by decide) _).mono ?_
      rintro e x4 ⟨v4, rfl, I4, b4⟩
      have J4 := Hid.mk' (K3.out.trans (b4.mono K3.out.size))
      clear b4
      go_wp2_with fail
      refine (eqi_any _ _ x4.heap.size v4 _ [0] (I4.below ((Below.refl _ _).alloc (Nat.le_refl _) _)) (Iw.lit x4 [0] 3 1 (by simp) (by simp)) (by simp)).mono ?_
      rintro e y4 ⟨rfl, c4⟩
      have K4 := Hid.mk' ((J4.out.alloc J4.out.size _).trans (c4.mono (by have := J4.out.size; simp; omega)))
      clear c4 I4 J4
      go_wp2_with fail
      refine (read_at 21 5 0 0 0 [] (by decide) (by decide) _).mono ?_
      rintro e x5 ⟨v5, rfl, I5, b5⟩
      have J5 := Hid.mk' (K4.out.trans (b5.mono K4.out.size))
      obtain ⟨a5, c5, rfl, -⟩ := I5.lies
      clear b5 I5
      go_wp2_with fail
      go_meet
      exact ⟨rfl, J5⟩
  case rest =>
  obtain ⟨rfl, B8⟩ := hcut
  obtain ⟨w8, hw8⟩ : ∃ w8, w8 = wc := ⟨_, rfl⟩
  subst hw8
  clear B7
  go_upto_block 6 with fail
  go_cut [1, 18] from 19 (fun _ s18 wx => s18 = .bool true ∧ Hid (Below W.heap.size W wx))
  case first =>
    as_aux_lemma =>
      go_wp2_with fail
      go_loopw [19] (fun i wr => ∃ k : Nat, k ≤ 256 ∧ i = .int .i64 k ∧ Hid (Below W.heap.size W wr)) (fun i _ => 256 - (intOf i).toNat)
      case atStart => exact ⟨0, Nat.zero_le _, rfl, B8⟩
      case round =>
        obtain ⟨k, hk, rfl, HB⟩ := hrel
        by_cases hlt : k < 256
        · have hsp : (k : Int) < 256 := by omega
          have hk0 : (0 : Int) ≤ k := by omega
          have KN := Hid.mk' (fun u => name_any k u (by omega) (by omega))
          have KO := Hid.mk' (fun u => names_back k hlt u)
          have hsr := HB.out.size
          generalize (⟨(nmN (k : Int)).toArray⟩ : ByteArray) = NN at *
          go_wp2_with fail
          refine (KN.out _).mono ?_
          rintro e wa ⟨rfl, ba⟩
          have Ja := Hid.mk' (HB.out.trans (ba.mono hsr))
          have hsa := Ja.out.size
          clear ba
          go_wp2_with fail
          refine (KO.out _).mono ?_
          rintro e wb ⟨⟨c, b, rfl, hb1, hb2⟩, bb⟩
          have Jb := Hid.mk' (Ja.out.trans (bb.mono hsa))
          clear bb KN KO
          by_cases hin : 1 ≤ k ∧ k ≤ 36
          · have f1 : decide ((1 : Int) ≤ k) = true := decide_eq_true (by omega)
            have f2 : decide ((k : Int) ≤ 36) = true := decide_eq_true (by omega)
            have hb : b = true := by rw [hb1, f1, f2]; rfl
            have hc := hb2 hb
            subst hb hc
            clear hb1 hb2
            go_wp2_with fail
            go_roundw
            case rel => exact ⟨k + 1, hlt, by go_num, Jb⟩
            case measure => simp [intOf]; omega
          · have hb : b = false := by
              rw [hb1, Bool.eq_false_iff]; simp; omega
            subst hb
            clear hb1 hb2
            by_cases h0 : k = 0
            · subst h0
              go_wp2_with fail
              go_roundw
              case rel => exact ⟨1, hlt, by go_num, Jb⟩
              case measure => simp [intOf]
            · have f1 : (1 : Int) ≤ k := by omega
              have f2 : ¬ (k : Int) ≤ 36 := by omega
              go_wp2_with fail
              go_roundw
              case rel => exact ⟨k + 1, hlt, by go_num, Jb⟩
              case measure => simp [intOf]; omega
        · have hsp : ¬ (k : Int) < 256 := by omega
          go_wp2_with fail
          go_meet
          exact ⟨rfl, HB⟩
  case rest =>
  obtain ⟨rfl, B9⟩ := hcut
  obtain ⟨w9, hw9⟩ : ∃ w9, w9 = wc := ⟨_, rfl⟩
  subst hw9
  clear B8
  have O1 : ∀ u : World, Calls Try.prog 10 #[.string ⟨#[74, 103, 116]⟩] u fun e w' => e = .returned (.tuple #[.int .u8 0, .bool false]) ∧ Below u.heap.size u w' := fun u => op_any ⟨#[74, 103, 116]⟩ u (by decide)
  have O2 : ∀ u : World, Calls Try.prog 10 #[.string ⟨#[]⟩] u fun e w' => e = .returned (.tuple #[.int .u8 0, .bool false]) ∧ Below u.heap.size u w' := fun u => op_any ⟨#[]⟩ u (by decide)
  have hs9 := B9.out.size
  go_wp2_with fail
  refine (O1 _).mono ?_
  rintro e wa ⟨rfl, ba⟩
  have Ja := Hid.mk' (B9.out.trans (ba.mono hs9))
  have hsa := Ja.out.size
  clear ba
  go_wp2_with fail
  refine (O2 _).mono ?_
  rintro e wb ⟨rfl, bb⟩
  have Jb := Hid.mk' (Ja.out.trans (bb.mono hsa))
  have hsb := Jb.out.size
  clear bb
  go_wp2_with fail
  refine (works_any _).mono ?_
  rintro e wd ⟨rfl, bd⟩
  go_wp2_with fail
  go_ret
  exact ⟨rfl, Jb.out.trans (bd.mono hsb)⟩
end Go.Proofs.Ytmiiddkpmfiocab
