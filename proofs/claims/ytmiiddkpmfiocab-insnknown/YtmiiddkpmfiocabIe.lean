/- The contracts of Encode and Decode: the program's and the document's. -/
import Derived.Test.YtmiiddkpmfiocabId
import Derived.Laws.BitsLemmas
import Derived.BigRegion
namespace Go.Proofs.Ytmiiddkpmfiocab
open Go.ChangeShapes Go.WideShapes Go.ChangeAt Go.RowKit
set_option maxRecDepth 10000

/-- A number, where an instruction may be; else nought. -/
def encN (b : Bool) (v : Int) : Int := if b then v else 0

theorem wraps_u64' (n : Int) (h0 : 0 ≤ n) (h1 : n < 2 ^ 64) : IntKind.u64.wrap n = n := by
  simp [IntKind.wrap, IntKind.bits, IntKind.signed]
  omega

theorem or_word (p d s o i : Int) (h : InB p d s o i) (hd : d ≤ 9) (hs : s ≤ 9) :
    bits .or .u64 (bits .or .u64 (bits .or .u64 (bits .or .u64 (p * 72057594037927936) (d * 4503599627370496)) (s * 281474976710656)) (o % 65536 * 4294967296)) (i % 4294967296) = wordN p d s o i := by
  obtain ⟨p0, p1, d0, d1, s0, s1, o0, o1, i0, i1⟩ := h
  rw [bits_join .u64 64 (by decide) wraps_u64' 56 (p * 72057594037927936) (d * 4503599627370496) (by omega) (by omega) (by omega) (by omega) (by omega) (by omega)]
  rw [bits_join .u64 64 (by decide) wraps_u64' 52 _ (s * 281474976710656) (by omega) (by omega) (by omega) (by omega) (by omega) (by omega)]
  rw [bits_join .u64 64 (by decide) wraps_u64' 48 _ (o % 65536 * 4294967296) (by omega) (by omega) (by omega) (by omega) (by omega) (by omega)]
  rw [bits_join .u64 64 (by decide) wraps_u64' 32 _ (i % 4294967296) (by omega) (by omega) (by omega) (by omega) (by omega) (by omega)]
  rfl

set_option maxHeartbeats 1000000 in
theorem enc_any (p d s o i : Int) (w : World) (h : InB p d s o i) :
    Calls Try.prog 4 #[insV p d s o i] w fun e w' => e = .returned (.tuple #[.int .u64 (encN (mayB p d s o i) (wordN p d s o i)), .int .i64 (ckN (mayB p d s o i))]) ∧ Below w.heap.size w w' := by
  have HC := fun u => check_any p d s o i u h
  have hds : mayB p d s o i = true → d ≤ 9 ∧ s ≤ 9 := fun e => by
    rw [may_same p d s o i h.d0 h.s0] at e
    exact ⟨(may_ds e).2.2.1, (may_ds e).2.2.2⟩
  have HW : Hid (mayB p d s o i = true → bits .or .u64 (bits .or .u64 (bits .or .u64 (bits .or .u64 (p * 72057594037927936) (d * 4503599627370496)) (s * 281474976710656)) (o % 65536 * 4294967296)) (i % 4294967296) = wordN p d s o i) := Hid.mk' (fun e => or_word p d s o i h (hds e).1 (hds e).2)
  obtain ⟨p0, p1, d0, d1, s0, s1, o0, o1, i0, i1⟩ := h
  generalize mayB p d s o i = b at *
  generalize wordN p d s o i = W at *
  go_enter Try.func4, Try.ntmps4
  go_wp2_with fail
  refine (HC _).mono ?_
  rintro e w' ⟨rfl, hb⟩
  cases b with
  | false =>
    have e1 : ckN false = 130 := rfl
    rw [e1]
    go_wp2_with fail
    go_ret2
    exact ⟨rfl, ((Below.refl _ _).alloc (Nat.le_refl _) _).trans (hb.mono (by simp))⟩
  | true =>
    have e1 : ckN true = 0 := rfl
    rw [e1]
    obtain ⟨hd, hs⟩ := hds rfl
    have hW := HW.out rfl
    have KB : Hid (Below w.heap.size w w') := Hid.mk' (((Below.refl _ _).alloc (Nat.le_refl _) _).trans (hb.mono (by simp)))
    have c0 := (hb.cell (p := ⟨w.heap.size, 0, none⟩) (by simp)).trans (World.cell?_alloc_new _ _ _ _)
    have c1 := (hb.cell (p := ⟨w.heap.size, 1, none⟩) (by simp)).trans (World.cell?_alloc_new _ _ _ _)
    have c2 := (hb.cell (p := ⟨w.heap.size, 2, none⟩) (by simp)).trans (World.cell?_alloc_new _ _ _ _)
    have c3 := (hb.cell (p := ⟨w.heap.size, 3, none⟩) (by simp)).trans (World.cell?_alloc_new _ _ _ _)
    have c4 := (hb.cell (p := ⟨w.heap.size, 4, none⟩) (by simp)).trans (World.cell?_alloc_new _ _ _ _)
    simp at c0 c1 c2 c3 c4
    clear hb
    go_wp2_with fail
    go_quiet (fail)
    have hwr : IntKind.u16.wrap o = o % 65536 := IntKind.wrap_u16 o
    have ho0 : 0 ≤ o % 65536 := by omega
    have ho1 : o % 65536 ≤ 65535 := by omega
    have hi0 : 0 ≤ i % 4294967296 := by omega
    have hi1 : i % 4294967296 ≤ 4294967295 := by omega
    rw [hwr]
    clear hwr
    go_wp2_with fail
    go_ret2
    exact ⟨rfl, KB.out.trans (Dr.below ⟨_, rfl⟩ _)⟩



theorem five (w1 : World) (B n : Nat) (u0 u1 u2 u3 u4 x0 x1 x2 x3 x4 : Value) (hB : n ≤ B) (c0 : w1.cell? ⟨B, 0, none⟩ = some u0) (c1 : w1.cell? ⟨B, 1, none⟩ = some u1) (c2 : w1.cell? ⟨B, 2, none⟩ = some u2)
    (c3 : w1.cell? ⟨B, 3, none⟩ = some u3) (c4 : w1.cell? ⟨B, 4, none⟩ = some u4) :
    (((((w1.setCell ⟨B, 0, none⟩ x0).setCell ⟨B, 1, none⟩ x1).setCell ⟨B, 2, none⟩ x2).setCell ⟨B, 3, none⟩ x3).setCell ⟨B, 4, none⟩ x4).cell? ⟨B, 0, none⟩ = some x0 ∧ (((((w1.setCell ⟨B, 0, none⟩ x0).setCell ⟨B, 1, none⟩ x1).setCell ⟨B, 2, none⟩ x2).setCell ⟨B, 3, none⟩ x3).setCell ⟨B, 4, none⟩ x4).cell? ⟨B, 1, none⟩ = some x1 ∧ (((((w1.setCell ⟨B, 0, none⟩ x0).setCell ⟨B, 1, none⟩ x1).setCell ⟨B, 2, none⟩ x2).setCell ⟨B, 3, none⟩ x3).setCell ⟨B, 4, none⟩ x4).cell? ⟨B, 2, none⟩ = some x2 ∧ (((((w1.setCell ⟨B, 0, none⟩ x0).setCell ⟨B, 1, none⟩ x1).setCell ⟨B, 2, none⟩ x2).setCell ⟨B, 3, none⟩ x3).setCell ⟨B, 4, none⟩ x4).cell? ⟨B, 3, none⟩ = some x3 ∧ (((((w1.setCell ⟨B, 0, none⟩ x0).setCell ⟨B, 1, none⟩ x1).setCell ⟨B, 2, none⟩ x2).setCell ⟨B, 3, none⟩ x3).setCell ⟨B, 4, none⟩ x4).cell? ⟨B, 4, none⟩ = some x4 ∧ Below n w1 (((((w1.setCell ⟨B, 0, none⟩ x0).setCell ⟨B, 1, none⟩ x1).setCell ⟨B, 2, none⟩ x2).setCell ⟨B, 3, none⟩ x3).setCell ⟨B, 4, none⟩ x4) := by
  have same : ∀ (w : World) (k : Nat) (u x : Value), w.cell? ⟨B, k, none⟩ = some u → (w.setCell ⟨B, k, none⟩ x).cell? ⟨B, k, none⟩ = some x := fun w k u x h => World.cell?_setCell_same _ _ _ h
  have oth : ∀ (w : World) (k j : Nat) (u x : Value), k ≠ j → w.cell? ⟨B, k, none⟩ = some u → (w.setCell ⟨B, j, none⟩ x).cell? ⟨B, k, none⟩ = some u := fun w k j u x hn h => by
    rw [World.cell?_setCell_other _ _ _ _ (by simp)]; exact h
  refine ⟨?_, ?_, ?_, ?_, ?_, ?_⟩
  · exact oth _ 0 4 _ _ (by decide) (oth _ 0 3 _ _ (by decide) (oth _ 0 2 _ _ (by decide) (oth _ 0 1 _ _ (by decide) (same _ 0 _ _ c0))))
  · exact oth _ 1 4 _ _ (by decide) (oth _ 1 3 _ _ (by decide) (oth _ 1 2 _ _ (by decide) (same _ 1 _ _ (oth _ 1 0 _ _ (by decide) c1))))
  · exact oth _ 2 4 _ _ (by decide) (oth _ 2 3 _ _ (by decide) (same _ 2 _ _ (oth _ 2 1 _ _ (by decide) (oth _ 2 0 _ _ (by decide) c2))))
  · exact oth _ 3 4 _ _ (by decide) (same _ 3 _ _ (oth _ 3 2 _ _ (by decide) (oth _ 3 1 _ _ (by decide) (oth _ 3 0 _ _ (by decide) c3))))
  · exact same _ 4 _ _ (oth _ 4 3 _ _ (by decide) (oth _ 4 2 _ _ (by decide) (oth _ 4 1 _ _ (by decide) (oth _ 4 0 _ _ (by decide) c4))))
  · exact (((((Below.refl _ _).setCell hB _).setCell hB _).setCell hB _).setCell hB _).setCell hB _

/-- The instruction of a word, or none: as its cells. -/
abbrev decV (b : Bool) (w : Int) : Value := insV (encN b (wP w)) (encN b (wD w)) (encN b (wS w)) (encN b (wO w)) (encN b (wI w))

theorem and15 (x : Int) (h0 : 0 ≤ x) (h1 : x < 18446744073709551616) : bits .and .u64 x 15 = x % 16 := by
  obtain ⟨a, rfl⟩ := Int.eq_ofNat_of_zero_le h0
  have := u64_and_nat a 15 (by omega) (by omega)
  rw [nat_mask4] at this
  simpa using this

set_option maxHeartbeats 1000000 in
theorem dec_any (v : Int) (w : World) (v0 : 0 ≤ v) (v1 : v ≤ 18446744073709551615) :
    Calls Try.prog 5 #[.int .u64 v] w fun e w' => e = .returned (.tuple #[decV (mayB (wP v) (wD v) (wS v) (wO v) (wI v)) v, .int .i64 (ckN (mayB (wP v) (wD v) (wS v) (wO v) (wI v)))]) ∧ Below w.heap.size w w' := by
  unfold decV
  have hF := fields_bounds v0 (by omega : v < 18446744073709551616)
  have HC := fun u => check_any (wP v) (wD v) (wS v) (wO v) (wI v) u hF
  have f0 : v / 72057594037927936 = wP v := rfl
  have f1 : bits .and .u64 (v / 4503599627370496) 15 = wD v := and15 _ (by omega) (by omega)
  have f2 : bits .and .u64 (v / 281474976710656) 15 = wS v := and15 _ (by omega) (by omega)
  have f3 : IntKind.i16.wrap (v / 4294967296) = wO v := rfl
  have f4 : IntKind.i32.wrap v = wI v := rfl
  obtain ⟨p0, p1, d0, d1, s0, s1, o0, o1, i0, i1⟩ := hF
  generalize mayB (wP v) (wD v) (wS v) (wO v) (wI v) = b at *
  generalize wP v = p at *
  generalize wD v = d at *
  generalize wS v = s at *
  generalize wO v = o at *
  generalize wI v = i at *
  go_enter Try.func5, Try.ntmps5
  go_wp2_with fail
  refine (HC _).mono ?_
  rintro e w1 ⟨rfl, hb⟩
  have KB : Hid (Below w.heap.size w w1) := Hid.mk' ((((Below.refl _ _).alloc (Nat.le_refl _) _).alloc (by simp) _).trans (hb.mono (by simp; omega)))
  have c0 := hb.cell (p := ⟨w.heap.size, 0, none⟩) (by simp; omega)
  have c1 := hb.cell (p := ⟨w.heap.size, 1, none⟩) (by simp; omega)
  have c2 := hb.cell (p := ⟨w.heap.size, 2, none⟩) (by simp; omega)
  have c3 := hb.cell (p := ⟨w.heap.size, 3, none⟩) (by simp; omega)
  have c4 := hb.cell (p := ⟨w.heap.size, 4, none⟩) (by simp; omega)
  have k0 := hb.cell (p := ⟨w.heap.size + 1, 0, none⟩) (by simp)
  have k1 := hb.cell (p := ⟨w.heap.size + 1, 1, none⟩) (by simp)
  have k2 := hb.cell (p := ⟨w.heap.size + 1, 2, none⟩) (by simp)
  have k3 := hb.cell (p := ⟨w.heap.size + 1, 3, none⟩) (by simp)
  have k4 := hb.cell (p := ⟨w.heap.size + 1, 4, none⟩) (by simp)
  have q0 := hb.frozen (p := ⟨w.heap.size, 0, none⟩) (by simp; omega)
  have q1 := hb.frozen (p := ⟨w.heap.size, 1, none⟩) (by simp; omega)
  have q2 := hb.frozen (p := ⟨w.heap.size, 2, none⟩) (by simp; omega)
  have q3 := hb.frozen (p := ⟨w.heap.size, 3, none⟩) (by simp; omega)
  have q4 := hb.frozen (p := ⟨w.heap.size, 4, none⟩) (by simp; omega)
  simp at c0 c1 c2 c3 c4 k0 k1 k2 k3 k4 q0 q1 q2 q3 q4
  clear hb
  cases b with
  | false =>
    have e1 : ckN false = 130 := rfl
    rw [e1]
    go_wp2_with fail
    obtain ⟨e0, e1', e2, e3, e4, hb2⟩ := five w1 w.heap.size w.heap.size _ _ _ _ _ (.int .u8 0) (.int .u8 0) (.int .u8 0) (.int .i16 0) (.int .i32 0) (Nat.le_refl _) c0 c1 c2 c3 c4
    generalize (((((w1.setCell ⟨w.heap.size, 0, none⟩ (.int .u8 0)).setCell ⟨w.heap.size, 1, none⟩ (.int .u8 0)).setCell ⟨w.heap.size, 2, none⟩ (.int .u8 0)).setCell ⟨w.heap.size, 3, none⟩ (.int .i16 0)).setCell ⟨w.heap.size, 4, none⟩ (.int .i32 0)) = w2 at *
    have KB2 : Below w.heap.size w w2 := KB.out.trans hb2
    exact bodyPost_ret (v := .tuple #[insV 0 0 0 0 0, .int .i64 130]) (by simp [results, Try.results5, go_sem, e0, e1', e2, e3, e4]) rfl ⟨rfl, KB2⟩
  | true =>
    have e1 : ckN true = 0 := rfl
    rw [e1]
    go_wp2_with fail
    obtain ⟨e0, e1', e2, e3, e4, hb2⟩ := five w1 w.heap.size w.heap.size _ _ _ _ _ (.int .u8 p) (.int .u8 d) (.int .u8 s) (.int .i16 o) (.int .i32 i) (Nat.le_refl _) c0 c1 c2 c3 c4
    generalize (((((w1.setCell ⟨w.heap.size, 0, none⟩ (.int .u8 p)).setCell ⟨w.heap.size, 1, none⟩ (.int .u8 d)).setCell ⟨w.heap.size, 2, none⟩ (.int .u8 s)).setCell ⟨w.heap.size, 3, none⟩ (.int .i16 o)).setCell ⟨w.heap.size, 4, none⟩ (.int .i32 i)) = w2 at *
    have KB2 : Below w.heap.size w w2 := KB.out.trans hb2
    exact bodyPost_ret (v := .tuple #[insV p d s o i, .int .i64 0]) (by simp [results, Try.results5, go_sem, e0, e1', e2, e3, e4]) rfl ⟨rfl, KB2⟩

end Go.Proofs.Ytmiiddkpmfiocab
