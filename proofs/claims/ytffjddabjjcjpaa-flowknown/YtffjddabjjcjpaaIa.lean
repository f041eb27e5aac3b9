/- Mathematics of instructions: which may be (the program's bits, the document's rows), their words, what they read and write. -/
import Derived.Test.YtffjddabjjcjpaaBa
namespace Go.Proofs.Ytffjddabjjcjpaa
open Go.ChangeShapes Go.WideShapes Go.ChangeAt Go.RowKit
set_option maxRecDepth 10000

/-- The bounds of an instruction's five numbers. -/
structure InB (p d s o i : Int) : Prop where
  p0 : 0 ≤ p
  p1 : p ≤ 255
  d0 : 0 ≤ d
  d1 : d ≤ 255
  s0 : 0 ≤ s
  s1 : s ≤ 255
  o0 : -32768 ≤ o
  o1 : o ≤ 32767
  i0 : -2147483648 ≤ i
  i1 : i ≤ 2147483647

/-- The program's bits of an operation. -/
def useN (p : Int) : Nat :=
  if p = 1 then 66 else if p = 2 then 6 else if p = 3 ∨ p = 6 ∨ p = 8 then 67
  else if p = 4 ∨ p = 5 ∨ p = 7 ∨ p = 9 ∨ p = 10 ∨ p = 11 then 7
  else if p = 12 ∨ p = 13 then 131 else if p = 14 ∨ p = 15 ∨ p = 16 ∨ p = 17 then 2
  else if p = 18 then 270 else if p = 19 then 269 else if p = 20 then 20 else if p = 21 then 18
  else if p = 22 then 32 else if p = 23 ∨ p = 24 ∨ p = 25 ∨ p = 26 then 97
  else if p = 27 ∨ p = 28 ∨ p = 29 ∨ p = 30 ∨ p = 31 ∨ p = 32 then 37
  else if p = 33 then 512 else if p = 35 then 1024 else 0

/-- The document's row of an operation, as bytes. -/
def rowN (p : Int) : List UInt8 :=
  if p = 1 ∨ p = 3 ∨ p = 6 ∨ p = 8 then [100, 105]
  else if p = 2 ∨ p = 4 ∨ p = 5 ∨ p = 7 ∨ p = 9 ∨ p = 10 ∨ p = 11 then [100, 115]
  else if p = 12 ∨ p = 13 then [100, 98] else if p = 14 ∨ p = 15 ∨ p = 16 ∨ p = 17 then [100]
  else if p = 18 ∨ p = 19 then [100, 115, 111, 119] else if p = 20 then [115, 112] else if p = 21 then [100, 112]
  else if p = 22 then [106] else if p = 23 ∨ p = 24 ∨ p = 25 ∨ p = 26 then [100, 106, 105]
  else if p = 27 ∨ p = 28 ∨ p = 29 ∨ p = 30 ∨ p = 31 ∨ p = 32 then [100, 115, 106]
  else if p = 33 then [114] else if p = 34 ∨ p = 36 then [] else if p = 35 then [99] else []
def okN (p : Int) : Bool := decide (1 ≤ p ∧ p ≤ 36)

/-- The classes of operations: the program's bits and the document's row at each. -/
theorem classes (p : Int) : (useN p, rowN p, okN p) ∈ ([(66, [100, 105], true), (67, [100, 105], true), (6, [100, 115], true), (7, [100, 115], true), (131, [100, 98], true), (2, [100], true),
    (270, [100, 115, 111, 119], true), (269, [100, 115, 111, 119], true), (20, [115, 112], true), (18, [100, 112], true), (32, [106], true), (97, [100, 106, 105], true), (37, [100, 115, 106], true),
    (512, [114], true), (0, [], true), (1024, [99], true), (0, [], false)] : List (Nat × List UInt8 × Bool)) := by
  by_cases h : 1 ≤ p ∧ p ≤ 36
  · obtain ⟨h1, h2⟩ := h
    have : p = 1 ∨ p = 2 ∨ p = 3 ∨ p = 4 ∨ p = 5 ∨ p = 6 ∨ p = 7 ∨ p = 8 ∨ p = 9 ∨ p = 10 ∨ p = 11 ∨ p = 12 ∨ p = 13 ∨ p = 14 ∨ p = 15 ∨ p = 16 ∨ p = 17 ∨ p = 18 ∨ p = 19 ∨ p = 20 ∨ p = 21 ∨ p = 22 ∨ p = 23 ∨ p = 24 ∨ p = 25 ∨ p = 26 ∨ p = 27 ∨ p = 28 ∨ p = 29 ∨ p = 30 ∨ p = 31 ∨ p = 32 ∨ p = 33 ∨ p = 34 ∨ p = 35 ∨ p = 36 := by omega
    rcases this with rfl | rfl | rfl | rfl | rfl | rfl | rfl | rfl | rfl | rfl | rfl | rfl | rfl | rfl | rfl | rfl | rfl | rfl | rfl | rfl | rfl | rfl | rfl | rfl | rfl | rfl | rfl | rfl | rfl | rfl | rfl | rfl | rfl | rfl | rfl | rfl <;> decide
  · have e : (useN p, rowN p, okN p) = (0, [], false) := by
      have h3 : okN p = false := by unfold okN; exact decide_eq_false h
      have h1 : useN p = 0 := by
        unfold useN
        repeat (rw [if_neg (by omega)])
      have h2 : rowN p = [] := by
        unfold rowN
        repeat (rw [if_neg (by omega)])
      rw [h1, h2, h3]
    rw [e]
    decide

theorem useN_lt (p : Int) : useN p < 2048 := by
  have := classes p
  generalize useN p = u at *
  generalize rowN p = r at *
  generalize okN p = k at *
  simp only [List.mem_cons, Prod.mk.injEq, List.not_mem_nil, or_false] at this
  omega

/-- May a register be? -/
def rmB (n : Nat) (r : Int) : Bool := if n = 0 then decide (r = 0) else decide (r < 10)
/-- May an Off be? -/
def omB (u : Nat) (o : Int) : Bool :=
  if u &&& 8 ≠ 0 then true else if u &&& 16 ≠ 0 then decide (0 ≤ o) && decide (o < 8) else if u &&& 32 ≠ 0 then decide (0 ≤ o) && decide (o ≤ 255) else decide (o = 0)
/-- May an Imm be? -/
def imB (u : Nat) (i : Int) : Bool :=
  if u &&& 64 ≠ 0 then true else if u &&& 128 ≠ 0 then decide (0 ≤ i) && decide (i ≤ 63)
  else if u &&& 256 ≠ 0 then decide (i = 1) || decide (i = 2) || decide (i = 4) || decide (i = 8)
  else if u &&& 512 ≠ 0 then decide (1 ≤ i) && decide (i ≤ 16)
  else if u &&& 1024 ≠ 0 then (decide (1 ≤ i) && decide (i ≤ 8)) || (decide (16 ≤ i) && decide (i ≤ 23)) else decide (i = 0)
/-- The program: may an instruction be? -/
def mayB (p d s o i : Int) : Bool := okN p && (rmB (useN p &&& 3) d && rmB (useN p &&& 4) s && omB (useN p) o && imB (useN p) i)

/-- Does a row name a thing? -/
def hasB (l : List UInt8) (c : Int) : Bool := l.any fun b => decide ((b.toNat : Int) = c)
/-- The document: an Off, an Imm. -/
def offR (l : List UInt8) (o : Int) : Bool := if hasB l 111 then true else if hasB l 112 then decide (0 ≤ o) && decide (o ≤ 7) else if hasB l 106 then decide (0 ≤ o) && decide (o ≤ 255) else decide (o = 0)
def immR (l : List UInt8) (i : Int) : Bool :=
  if hasB l 105 then true else if hasB l 98 then decide (0 ≤ i) && decide (i ≤ 63)
  else if hasB l 119 then decide (i = 1) || decide (i = 2) || decide (i = 4) || decide (i = 8)
  else if hasB l 114 then decide (1 ≤ i) && decide (i ≤ 16)
  else if hasB l 99 then (decide (1 ≤ i) && decide (i ≤ 8)) || (decide (16 ≤ i) && decide (i ≤ 23)) else decide (i = 0)
def mayR (p d s o i : Int) : Bool :=
  okN p && decide (d ≤ 9) && decide (s ≤ 9) && (decide (d ≤ 0) || hasB (rowN p) 100) && (decide (s ≤ 0) || hasB (rowN p) 115) && offR (rowN p) o && immR (rowN p) i

theorem may_same (p d s o i : Int) (d0 : 0 ≤ d) (s0 : 0 ≤ s) : mayB p d s o i = mayR p d s o i := by
  have hc := classes p
  unfold mayB mayR
  generalize useN p = u at *
  generalize rowN p = r at *
  generalize okN p = k at *
  have hd : decide (d = 0) = (decide (d ≤ 9) && decide (d ≤ 0)) := by rw [Bool.eq_iff_iff]; simp; omega
  have hs : decide (s = 0) = (decide (s ≤ 9) && decide (s ≤ 0)) := by rw [Bool.eq_iff_iff]; simp; omega
  have hd' : decide (d < 10) = decide (d ≤ 9) := by rw [Bool.eq_iff_iff]; simp; omega
  have hs' : decide (s < 10) = decide (s ≤ 9) := by rw [Bool.eq_iff_iff]; simp; omega
  have ho : decide (o < 8) = decide (o ≤ 7) := by rw [Bool.eq_iff_iff]; simp; omega
  simp only [List.mem_cons, Prod.mk.injEq, List.not_mem_nil, or_false] at hc
  rcases hc with ⟨rfl, rfl, rfl⟩ | ⟨rfl, rfl, rfl⟩ | ⟨rfl, rfl, rfl⟩ | ⟨rfl, rfl, rfl⟩ | ⟨rfl, rfl, rfl⟩ | ⟨rfl, rfl, rfl⟩ | ⟨rfl, rfl, rfl⟩ | ⟨rfl, rfl, rfl⟩ | ⟨rfl, rfl, rfl⟩ | ⟨rfl, rfl, rfl⟩ | ⟨rfl, rfl, rfl⟩ | ⟨rfl, rfl, rfl⟩ | ⟨rfl, rfl, rfl⟩ | ⟨rfl, rfl, rfl⟩ | ⟨rfl, rfl, rfl⟩ | ⟨rfl, rfl, rfl⟩ | ⟨rfl, rfl, rfl⟩
  all_goals simp [rmB, omB, imB, offR, immR, hasB, hd, hs, hd', hs', ho]
  all_goals (cases decide (d ≤ 9) <;> cases decide (d ≤ 0) <;> cases decide (s ≤ 9) <;> cases decide (s ≤ 0) <;> simp)

theorem may_ds {p d s o i : Int} (h : mayR p d s o i = true) : 1 ≤ p ∧ p ≤ 36 ∧ d ≤ 9 ∧ s ≤ 9 := by
  unfold mayR okN at h
  simp only [Bool.and_eq_true, decide_eq_true_eq] at h
  omega

/-- The word of an instruction. -/
def wordN (p d s o i : Int) : Int := p * 72057594037927936 + d * 4503599627370496 + s * 281474976710656 + o % 65536 * 4294967296 + i % 4294967296

/-- A word's fields. -/
def wP (w : Int) : Int := w / 72057594037927936
def wD (w : Int) : Int := w / 4503599627370496 % 16
def wS (w : Int) : Int := w / 281474976710656 % 16
def wO (w : Int) : Int := IntKind.i16.wrap (w / 4294967296)
def wI (w : Int) : Int := IntKind.i32.wrap w

theorem wrap_i16' (n : Int) : IntKind.i16.wrap n = (n + 32768) % 65536 - 32768 := by
  simp [IntKind.wrap, IntKind.bits, IntKind.signed]
  split <;> omega
theorem wrap_i32' (n : Int) : IntKind.i32.wrap n = (n + 2147483648) % 4294967296 - 2147483648 := by
  simp [IntKind.wrap, IntKind.bits, IntKind.signed]
  split <;> omega

theorem word_bounds {p d s o i : Int} (h : InB p d s o i) (hd : d ≤ 15) (hs : s ≤ 15) : 0 ≤ wordN p d s o i ∧ wordN p d s o i < 18446744073709551616 := by
  obtain ⟨p0, p1, d0, d1, s0, s1, o0, o1, i0, i1⟩ := h
  unfold wordN
  omega

theorem fields_bounds {w : Int} (h0 : 0 ≤ w) (h1 : w < 18446744073709551616) : InB (wP w) (wD w) (wS w) (wO w) (wI w) := by
  unfold wP wD wS wO wI
  rw [wrap_i16', wrap_i32']
  constructor <;> omega

/-- There and back. -/
theorem fields_word {p d s o i : Int} (h : InB p d s o i) (hd : d ≤ 15) (hs : s ≤ 15) : wP (wordN p d s o i) = p ∧ wD (wordN p d s o i) = d ∧ wS (wordN p d s o i) = s ∧ wO (wordN p d s o i) = o ∧ wI (wordN p d s o i) = i := by
  obtain ⟨p0, p1, d0, d1, s0, s1, o0, o1, i0, i1⟩ := h
  unfold wP wD wS wO wI
  rw [wrap_i16', wrap_i32']
  unfold wordN
  refine ⟨?_, ?_, ?_, ?_, ?_⟩ <;> omega

theorem word_fields (w : Int) : wordN (wP w) (wD w) (wS w) (wO w) (wI w) = w := by
  unfold wordN wP wD wS wO wI
  rw [wrap_i16', wrap_i32']
  omega

end Go.Proofs.Ytffjddabjjcjpaa
