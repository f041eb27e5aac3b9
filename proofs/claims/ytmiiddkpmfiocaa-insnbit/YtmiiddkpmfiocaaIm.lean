/- The walks of InsnWords, InsnReads, InsnNames. -/
import Derived.Test.YtmiiddkpmfiocaaIl
import Derived.Test.YtmiiddkpmfiocaaIk
import Derived.Test.YtmiiddkpmfiocaaSp
import Derived.Deep.RegionHeld3
namespace Go.Proofs.Ytmiiddkpmfiocaa
open Go.ChangeShapes Go.WideShapes Go.ChangeAt Go.RowKit
set_option maxRecDepth 10000

theorem inB_of {W : World} {p d s o i : Int} (h : sh24.ok W (p, d, s, o, i)) : InB p d s o i := by
  obtain ⟨h1, h2, h3, h4, h5⟩ := h
  have a1 := bounds_u8 h1
  have a2 := bounds_u8 h2
  have a3 := bounds_u8 h3
  have a4 : -32768 ≤ o ∧ o ≤ 32767 := bounds_i16 h4
  have a5 : -2147483648 ≤ i ∧ i ≤ 2147483647 := bounds_i32 h5
  exact ⟨a1.1, a1.2, a2.1, a2.2, a3.1, a3.2, a4.1, a4.2, a5.1, a5.2⟩

set_option maxHeartbeats 2000000 in
theorem words_ints (p d s o i : Int) (W : World) (h : InB p d s o i) : Calls Try.prog 3 #[insV p d s o i] W fun e w' => e = .returned (.bool true) ∧ Below W.heap.size W w' := by
  have e := may_same p d s o i h.d0 h.s0
  have K1 := fun u => enc_any p d s o i u h
  have K2 := fun u => renc_any p d s o i u h
  have K3 := fun u => check_any p d s o i u h
  have K4 := fun u => rcheck_any p d s o i u h
  rw [← e] at K2 K4
  generalize mayB p d s o i = b at *
  generalize encN b (wordN p d s o i) = E at *
  generalize ckN b = C at *
  have K1 := Hid.mk' K1
  have K2 := Hid.mk' K2
  have K3 := Hid.mk' K3
  have K4 := Hid.mk' K4
  clear e h
  go_enter Try.func3, Try.ntmps3
  go_wp2_with fail
  refine (K1.out _).mono ?_
  rintro e w1 ⟨rfl, b1⟩
  obtain ⟨B1, c0, c1, c2, c3, c4⟩ := cells5 b1
  have h1 : W.heap.size < w1.heap.size := by have := b1.size; simp at this; omega
  clear b1
  go_wp2_with fail
  refine (K2.out _).mono ?_
  rintro e w2 ⟨rfl, b2⟩
  have c0 := (b2.cell (p := ⟨W.heap.size, 0, none⟩) h1).trans c0
  have c1 := (b2.cell (p := ⟨W.heap.size, 1, none⟩) h1).trans c1
  have c2 := (b2.cell (p := ⟨W.heap.size, 2, none⟩) h1).trans c2
  have c3 := (b2.cell (p := ⟨W.heap.size, 3, none⟩) h1).trans c3
  have c4 := (b2.cell (p := ⟨W.heap.size, 4, none⟩) h1).trans c4
  have h2 : W.heap.size < w2.heap.size := by have := b2.size; omega
  have B2 := B1.trans (b2.mono (by omega))
  clear b2 B1
  go_wp2_with fail
  have CO : Hid (∀ u, Below w2.heap.size w2 u → u.cell? ⟨W.heap.size, 0, none⟩ = some (.int .u8 p) ∧ u.cell? ⟨W.heap.size, 1, none⟩ = some (.int .u8 d) ∧ u.cell? ⟨W.heap.size, 2, none⟩ = some (.int .u8 s) ∧ u.cell? ⟨W.heap.size, 3, none⟩ = some (.int .i16 o) ∧ u.cell? ⟨W.heap.size, 4, none⟩ = some (.int .i32 i)) := Hid.mk' (fun u hb =>
    ⟨(hb.cell (p := ⟨W.heap.size, 0, none⟩) h2).trans c0, (hb.cell (p := ⟨W.heap.size, 1, none⟩) h2).trans c1, (hb.cell (p := ⟨W.heap.size, 2, none⟩) h2).trans c2, (hb.cell (p := ⟨W.heap.size, 3, none⟩) h2).trans c3, (hb.cell (p := ⟨W.heap.size, 4, none⟩) h2).trans c4⟩)
  have B2 := Hid.mk' B2
  go_region_held3 (fun w' => w'.cell? ⟨W.heap.size, 0, none⟩ = some (.int .u8 p) ∧ w'.cell? ⟨W.heap.size, 1, none⟩ = some (.int .u8 d) ∧ w'.cell? ⟨W.heap.size, 2, none⟩ = some (.int .u8 s) ∧ w'.cell? ⟨W.heap.size, 3, none⟩ = some (.int .i16 o) ∧ w'.cell? ⟨W.heap.size, 4, none⟩ = some (.int .i32 i)) (go_keep) (first
    | (go_at_call 11; refine (K3.out w2.drew).mono ?_; rintro e w3 ⟨rfl, b3⟩; have J3 := Hid.mk' (((Below.refl w2.heap.size w2).drew).trans b3); have r3 := CO.out _ J3.out; clear b3)
    | (go_at_call 12; refine (K4.out w3).mono ?_; rintro e w4 ⟨rfl, b4⟩; have J4 := Hid.mk' (J3.out.trans (b4.mono J3.out.size)); have r4 := CO.out _ J4.out; clear b4)
    | (go_at_call 13; refine (works_any w4).mono ?_; rintro e w5 ⟨rfl, b5⟩; have J5 := Hid.mk' (J4.out.trans (b5.mono J4.out.size)); have r5 := CO.out _ J5.out; clear b5))
  all_goals
    go_wp2_with fail
    go_ret
    exact ⟨rfl, B2.out.trans (J5.out.mono (by omega))⟩

theorem walkInsnWords (m0 : sh24.M) (W : World) (o0 : sh24.ok W m0) : Calls Try.prog 3 #[.agg (sh24.cs m0).toArray] W fun e w' => e = .returned (.bool true) ∧ Below W.heap.size W w' := by
  obtain ⟨p, d, s, o, i⟩ := m0
  exact words_ints p d s o i W (inB_of o0)

set_option maxHeartbeats 2000000 in
theorem walkInsnReads (v : Int) (W : World) (hv : (Lit.int .u64 v).wf = true) : Calls Try.prog 4 #[.int .u64 v] W fun e w' => e = .returned (.bool true) ∧ Below W.heap.size W w' := by
  have hb := bounds_u64 hv
  obtain ⟨v0, v1⟩ := hb
  have e := may_same (wP v) (wD v) (wS v) (wO v) (wI v) (fields_bounds v0 (by omega : v < 18446744073709551616)).d0 (fields_bounds v0 (by omega : v < 18446744073709551616)).s0
  have K1 := fun u => dec_any v u v0 (by omega)
  have K2 := fun u => rdec_any v u v0 (by omega)
  rw [← e] at K2
  clear e hv
  generalize mayB (wP v) (wD v) (wS v) (wO v) (wI v) = b at *
  unfold decV at K1 K2
  generalize encN b (wP v) = a0 at *
  generalize encN b (wD v) = a1 at *
  generalize encN b (wS v) = a2 at *
  generalize encN b (wO v) = a3 at *
  generalize encN b (wI v) = a4 at *
  generalize ckN b = C at *
  have K1 := Hid.mk' K1
  have K2 := Hid.mk' K2
  go_enter Try.func4, Try.ntmps4
  go_wp2_with fail
  refine (K1.out _).mono ?_
  rintro e w1 ⟨rfl, b1⟩
  go_wp2_with fail
  refine (K2.out _).mono ?_
  rintro e w2 ⟨rfl, b2⟩
  obtain ⟨B2, c0, c1, c2, c3, c4⟩ := cells5 b2
  have h2 : w1.heap.size < w2.heap.size := by have := b2.size; simp at this; omega
  have hs := b1.size
  have B2' := Hid.mk' (b1.trans (B2.mono hs))
  clear b1 b2 B2
  have hne : ¬ w1.heap.size = w2.heap.size := by omega
  go_wp2_with fail
  refine (works_any _).mono ?_
  rintro e w3 ⟨rfl, b3⟩
  go_wp2_with fail
  go_ret
  exact ⟨rfl, (B2'.out.alloc (by omega) _).trans (b3.mono (by simp; omega))⟩

set_option maxHeartbeats 2000000 in
theorem walkInsnNames (p : Int) (s : ByteArray) (W : World) (hp : (Lit.int .u8 p).wf = true) (hs : s.size ≤ maxLen) : Calls Try.prog 6 #[.int .u8 p, .string s] W fun e w' => e = .returned (.bool true) ∧ Below W.heap.size W w' := by
  obtain ⟨p0, p1⟩ := bounds_u8 hp
  have K1 := Hid.mk' (fun u => op_any s u hs)
  have K2 := Hid.mk' (fun u => rop_any s u)
  have K3 := Hid.mk' (fun u => name_any p u p0 p1)
  have K4 := Hid.mk' (fun u => rname_any p u p0 p1)
  clear hp hs
  generalize ((opN s.data.toList : Nat) : Int) = A at *
  generalize isN (opN s.data.toList) = B at *
  generalize (⟨(nmN p).toArray⟩ : ByteArray) = N at *
  go_enter Try.func6, Try.ntmps6
  go_wp2_with fail
  refine (K1.out _).mono ?_
  rintro e w1 ⟨rfl, b1⟩
  go_wp2_with fail
  refine (K2.out _).mono ?_
  rintro e w2 ⟨rfl, b2⟩
  have B2 := b1.trans (b2.mono b1.size)
  clear b1 b2
  go_wp2_with fail
  refine (K3.out _).mono ?_
  rintro e w3 ⟨rfl, b3⟩
  have B3 := B2.trans (b3.mono B2.size)
  clear b3 B2
  go_wp2_with fail
  refine (K4.out _).mono ?_
  rintro e w4 ⟨rfl, b4⟩
  have B4 := B3.trans (b4.mono B3.size)
  clear b4 B3
  go_wp2_with fail
  refine (works_any _).mono ?_
  rintro e w5 ⟨rfl, b5⟩
  go_wp2_with fail
  go_ret
  exact ⟨rfl, B4.trans (b5.mono B4.size)⟩
end Go.Proofs.Ytmiiddkpmfiocaa
