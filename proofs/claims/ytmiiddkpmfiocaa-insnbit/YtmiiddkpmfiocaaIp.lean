/- The walk of InsnBit. -/
import Derived.Test.YtmiiddkpmfiocaaIo
import Derived.Test.YtmiiddkpmfiocaaIn
import Derived.Test.YtmiiddkpmfiocaaBi
namespace Go.Proofs.Ytmiiddkpmfiocaa
open Go.ChangeShapes Go.WideShapes Go.ChangeAt Go.RowKit
set_option maxRecDepth 10000

/-- A list of registers, rising. -/
def Rise (L : List Int) : Prop := L.length ≤ 3 ∧ (∀ k, k < L.length → 0 ≤ L.getD k 0 ∧ L.getD k 0 ≤ 9) ∧ ∀ k, k + 1 < L.length → L.getD k 0 < L.getD (k + 1) 0

theorem rise_nil : Rise [] := ⟨by simp, fun k h => by simp at h, fun k h => by simp at h⟩
theorem rise_one (a : Int) (h0 : 0 ≤ a) (h1 : a ≤ 9) : Rise [a] := by
  refine ⟨by simp, fun k h => ?_, fun k h => by simp at h⟩
  match k, h with
  | 0, _ => exact ⟨h0, h1⟩
theorem rise_two (a b : Int) (h0 : 0 ≤ a) (h : a < b) (h1 : b ≤ 9) : Rise [a, b] := by
  refine ⟨by simp, fun k hk => ?_, fun k hk => ?_⟩
  · match k, hk with
    | 0, _ => exact ⟨h0, show a ≤ 9 by omega⟩
    | 1, _ => exact ⟨show 0 ≤ b by omega, h1⟩
  · match k, hk with
    | 0, _ => exact h

theorem rise_rd (p d s o i : Int) (h : mayB p d s o i = true) (hb : InB p d s o i) : Rise (rdN p d s i) := by
  obtain ⟨d9, s9⟩ := may_ds' hb h
  obtain ⟨p0, p1, d0, d1, s0, s1, o0, o1, i0, i1⟩ := hb
  unfold rdN
  split
  · exact rise_one 0 (by omega) (by omega)
  · split
    · rcases argN_is i with e | e | e
      · rw [e]; exact rise_one 1 (by omega) (by omega)
      · rw [e]; exact rise_two 1 2 (by omega) (by omega) (by omega)
      · rw [e]
        refine ⟨by decide, fun k hk => ?_, fun k hk => ?_⟩
        · match k, hk with
          | 0, _ => decide
          | 1, _ => decide
          | 2, _ => decide
        · match k, hk with
          | 0, _ => decide
          | 1, _ => decide
    · split
      · split
        · unfold two
          split
          · exact rise_two d s d0 (by assumption) s9
          · split
            · exact rise_one d d0 d9
            · exact rise_two s d s0 (by omega) d9
        · exact rise_one d d0 d9
      · split
        · exact rise_one s s0 s9
        · exact rise_nil

theorem wr_ok (p d s o i : Int) (h : mayB p d s o i = true) (hb : InB p d s o i) : 0 ≤ wrN true p d ∧ wrN true p d ≤ 9 ∧ (wrB true p = false → wrN true p d = 0) := by
  obtain ⟨d9, s9⟩ := may_ds' hb h
  obtain ⟨p0, p1, d0, d1, s0, s1, o0, o1, i0, i1⟩ := hb
  unfold wrN wrB
  by_cases e : p ≤ 18 ∨ p = 21
  · rcases e with e | e <;> simp [e] <;> omega
  · have e1 : ¬ p ≤ 18 := by omega
    have e2 : ¬ p = 21 := by omega
    simp [e1, e2]

theorem xor_bit (E : Int) (r : Nat) (h0 : 0 ≤ E) (h1 : E ≤ 18446744073709551615) (hr : r < 64) :
    0 ≤ bits .xor .u64 E (IntKind.u64.wrap (2 ^ r)) ∧ bits .xor .u64 E (IntKind.u64.wrap (2 ^ r)) ≤ 18446744073709551615 ∧ E ≠ bits .xor .u64 E (IntKind.u64.wrap (2 ^ r)) := by
  obtain ⟨a, rfl⟩ := Int.eq_ofNat_of_zero_le h0
  have hp : 2 ^ r < 2 ^ 64 := Nat.pow_lt_pow_right (by omega) hr
  have hp0 : 0 < 2 ^ r := Nat.pow_pos (by omega)
  have hw : IntKind.u64.wrap (2 ^ r) = ((2 ^ r : Nat) : Int) := by
    have : ((2 : Int) ^ r) = ((2 ^ r : Nat) : Int) := by simp
    rw [this]
    exact wraps_u64' _ (by omega) (by exact_mod_cast hp)
  rw [hw, u64_xor_nat a (2 ^ r) (by omega) hp]
  have hx : a ^^^ 2 ^ r < 2 ^ 64 := Nat.xor_lt_two_pow (by omega) hp
  refine ⟨by omega, by omega, fun e => ?_⟩
  have e' : a = a ^^^ 2 ^ r := by exact_mod_cast e
  have e2 : a ^^^ a = a ^^^ (a ^^^ 2 ^ r) := by rw [← e']
  rw [Nat.xor_self, ← Nat.xor_assoc, Nat.xor_self, Nat.zero_xor] at e2
  omega

set_option maxHeartbeats 4000000 in
theorem bit_ints (p d s o i bit : Int) (W : World) (h : InB p d s o i) (v0 : -9223372036854775808 ≤ bit) (v1 : bit ≤ 9223372036854775807) :
    Calls Try.prog 8 #[insV p d s o i, .int .i64 bit] W fun e w' => e = .returned (.bool true) ∧ Below W.heap.size W w' := by
  have K1 := Hid.mk' (fun u => enc_any p d s o i u h)
  have K2 := Hid.mk' (fun u => reads_any p d s o i u h)
  have K3 := Hid.mk' (fun u => writes_any p d s o i u h)
  have HWD : Hid (mayB p d s o i = true → 0 ≤ wordN p d s o i ∧ wordN p d s o i ≤ 18446744073709551615) := Hid.mk' (fun e => by
    obtain ⟨h1, h2⟩ := may_ds' h e
    have := word_bounds h (by omega) (by omega)
    omega)
  have HRI : Hid (mayB p d s o i = true → Rise (rdL (mayB p d s o i) p d s i)) := Hid.mk' (fun e => by
    rw [e]; exact rise_rd p d s o i e h)
  have HWR : Hid (mayB p d s o i = true → 0 ≤ wrN (mayB p d s o i) p d ∧ wrN (mayB p d s o i) p d ≤ 9 ∧ (wrB (mayB p d s o i) p = false → wrN (mayB p d s o i) p d = 0)) := Hid.mk' (fun e => by
    rw [e]; exact wr_ok p d s o i e h)
  have HNE : Hid (∀ Y, 0 ≤ Y → Y ≤ 18446744073709551615 → wordN p d s o i ≠ Y → wP Y = p → wD Y = d → wS Y = s → wO Y = o → wI Y = i → False) := Hid.mk' (fun Y _ _ hn e0 e1 e2 e3 e4 => by
    refine hn ?_
    have := word_fields Y
    rw [e0, e1, e2, e3, e4] at this
    exact this)
  generalize mayB p d s o i = b at *
  generalize wordN p d s o i = E at *
  go_enter Try.func8, Try.ntmps8
  go_wp2_with fail
  refine (works_any _).mono ?_
  rintro e w1 ⟨rfl, b1⟩
  obtain ⟨B1, c0, c1, c2, c3, c4⟩ := cells5 b1
  have h1 : W.heap.size < w1.heap.size := by have := b1.size; simp at this; omega
  clear b1
  have CO : Hid (∀ u, Below w1.heap.size w1 u → u.cell? ⟨W.heap.size, 0, none⟩ = some (.int .u8 p) ∧ u.cell? ⟨W.heap.size, 1, none⟩ = some (.int .u8 d) ∧ u.cell? ⟨W.heap.size, 2, none⟩ = some (.int .u8 s) ∧ u.cell? ⟨W.heap.size, 3, none⟩ = some (.int .i16 o) ∧ u.cell? ⟨W.heap.size, 4, none⟩ = some (.int .i32 i)) := Hid.mk' (fun u hb =>
    ⟨(hb.cell (p := ⟨W.heap.size, 0, none⟩) h1).trans c0, (hb.cell (p := ⟨W.heap.size, 1, none⟩) h1).trans c1, (hb.cell (p := ⟨W.heap.size, 2, none⟩) h1).trans c2, (hb.cell (p := ⟨W.heap.size, 3, none⟩) h1).trans c3, (hb.cell (p := ⟨W.heap.size, 4, none⟩) h1).trans c4⟩)
  have B1 := Hid.mk' B1
  go_wp2_with fail
  refine (K1.out _).mono ?_
  rintro e w2 ⟨rfl, b2⟩
  have J2 := Hid.mk' b2
  have hs2 := b2.size
  obtain ⟨c0, c1, c2, c3, c4⟩ := CO.out _ J2.out
  clear b2
  cases b with
  | false =>
    have e1 : ckN false = 130 := rfl
    have e2 : encN false E = 0 := rfl
    rw [e1, e2]
    go_wp2_with fail
    refine (K2.out _).mono ?_
    rintro e w3 ⟨v3, rfl, I3, b3⟩
    obtain ⟨a3, c3, rfl, -⟩ := I3.lies
    have e3 : rdL false p d s i = [] := rfl
    rw [e3]
    go_wp2_with fail
    go_ret
    exact ⟨rfl, B1.out.trans ((J2.out.trans (b3.mono hs2)).mono (by omega))⟩
  | true =>
    have e1 : ckN true = 0 := rfl
    have e2 : encN true E = E := rfl
    rw [e1, e2]
    obtain ⟨w0, w9⟩ := HWD.out (by first | rfl | trivial)
    go_wp2_with fail
    refine (bring_any bit 64 _ (by omega) (by omega) v0 v1).mono ?_
    rintro e w3 ⟨⟨r, hr, rfl⟩, rfl⟩
    have hr' : (r : Int) < 64 := by omega
    have hr0 : (0 : Int) ≤ r := by omega
    go_wp2_with fail
    obtain ⟨y0, y9, yne⟩ := xor_bit E r w0 w9 hr
    generalize bits .xor .u64 E (IntKind.u64.wrap (2 ^ r)) = Y at *
    have K5 := fun u => dec_any Y u y0 y9
    have HNE' : Hid (wP Y = p → wD Y = d → wS Y = s → wO Y = o → wI Y = i → False) := Hid.mk' (HNE.out Y y0 y9 yne)
    clear HNE
    unfold decV at K5
    generalize mayB (wP Y) (wD Y) (wS Y) (wO Y) (wI Y) = b3 at *
    generalize wP Y = q0 at *
    generalize wD Y = q1 at *
    generalize wS Y = q2 at *
    generalize wO Y = q3 at *
    generalize wI Y = q4 at *
    refine (K5 _).mono ?_
    rintro e w4 ⟨rfl, b4⟩
    clear K5
    have J4 := Hid.mk' (J2.out.trans (b4.mono hs2))
    have hs4 := b4.size
    obtain ⟨c0, c1, c2, c3, c4⟩ := CO.out _ J4.out
    have hx4 : W.heap.size < w4.heap.size := by omega
    have hx4' : ¬ W.heap.size = w4.heap.size := by omega
    clear b4
    go_upto_region 7 with fail
    go_cut [0, 58] from 13 (fun _ s58 wx => s58 = .bool false ∧ Hid (Below w1.heap.size w1 wx))
    case first =>
      have J4' := fun cs => Hid.mk' (J4.out.alloc (by have := J4.out.size; omega) (.cells cs 24))
      cases b3 with
      | false =>
        have e1 : ckN false = 130 := rfl
        have e2 : ∀ x, encN false x = 0 := fun _ => rfl
        rw [e1]
        simp only [e2]
        go_wp2_with fail
        go_meet
        exact ⟨rfl, J4' _⟩
      | true =>
        have e2 : ∀ x, encN true x = x := fun _ => rfl
        rw [e1]
        simp only [e2]
        go_wp2_with fail
        all_goals
          go_meet
          first
            | exact ⟨rfl, J4' _⟩
            | exact (HNE'.out (by first | rfl | assumption | exact eq_of_beq (by assumption) | exact (eq_of_beq (by assumption)).symm) (by first | rfl | assumption | exact eq_of_beq (by assumption) | exact (eq_of_beq (by assumption)).symm) (by first | rfl | assumption | exact eq_of_beq (by assumption) | exact (eq_of_beq (by assumption)).symm) (by first | rfl | assumption | exact eq_of_beq (by assumption) | exact (eq_of_beq (by assumption)).symm) (by first | rfl | assumption | exact eq_of_beq (by assumption) | exact (eq_of_beq (by assumption)).symm)).elim
    case rest =>
    obtain ⟨rfl, J5⟩ := hcut
    obtain ⟨w5, hw5⟩ : ∃ w5, w5 = wc := ⟨_, rfl⟩
    subst hw5
    clear c0 c1 c2 c3 c4 J4 J2 HNE'
    obtain ⟨c0, c1, c2, c3, c4⟩ := CO.out _ J5.out
    have hs5 := J5.out.size
    have HR := HRI.out (by first | rfl | trivial)
    have HW := HWR.out (by first | rfl | trivial)
    clear HRI HWR HWD K1
    generalize rdL true p d s i = L at *
    generalize wrN true p d = N at *
    generalize wrB true p = B at *
    have K3 := Hid.mk' K3.out
    go_wp2_with fail
    refine (K2.out _).mono ?_
    rintro e w6 ⟨v6, rfl, I6, b6⟩
    have J6 := Hid.mk' (J5.out.trans (b6.mono hs5))
    clear b6 K2
    obtain ⟨a6, ca, rfl, hl⟩ := I6.lies
    obtain ⟨HR1, HR2, HR3⟩ := HR
    have I6 := Hid.mk' I6
    obtain ⟨n, hn⟩ : ∃ n, Hid (L.length = n) := ⟨_, Hid.mk' rfl⟩
    rw [hn.out] at HR1 HR2 HR3 I6 ⊢
    have HR2 := Hid.mk' HR2
    have HR3 := Hid.mk' HR3
    obtain ⟨n0, n9, nz⟩ := HW
    have nz := Hid.mk' nz
    have hz0 : Hid (L = [] → n = 0) := Hid.mk' (fun e => by rw [← hn.out, e]; rfl)
    have END : ∀ wx : World, Hid (Below w1.heap.size w1 wx) → Hid (Below W.heap.size W wx) := fun wx hx => Hid.mk' (B1.out.trans (hx.out.mono (by omega)))
    have hn3 : (n : Int) ≤ 3 := by omega
    rcases hl with hl | ⟨g, off, rfl, -⟩
    · have hn0 := hz0.out hl
      subst hn0
      obtain ⟨c0, c1, c2, c3, c4⟩ := CO.out _ J6.out
      go_wp2_with fail
      refine wp_loop_rounds 1 ?_
      rw [rounds_succ]
      go_wp2_with fail
      refine (K3.out _).mono ?_
      rintro e w7 ⟨rfl, b7⟩
      have J7 := Hid.mk' (J6.out.trans (b7.mono (by have := J6.out.size; omega)))
      cases B with
      | true =>
        go_wp2_with fail
        go_ret
        exact ⟨rfl, (END _ J7).out⟩
      | false =>
        have hN := nz.out rfl
        subst hN
        go_wp2_with fail
        go_ret
        exact ⟨rfl, (END _ J7).out⟩
    · have C1 : Hid (∀ k, k < n → w6.cell? ⟨g, off + k, none⟩ = some (.int .i64 (L.getD k 0))) := Hid.mk' (fun k hk => by
        have hh := I6.out; rw [← hn.out] at hh; exact hh.at k (by rw [hn.out]; exact hk))
      clear I6 hz0
      go_wp2_with fail
      go_loopw [10] (fun i wr => ∃ k : Nat, k ≤ n ∧ i = .int .i64 k ∧ Hid (Dr w6 wr)) (fun i _ => n - (intOf i).toNat)
      case atStart => exact ⟨0, Nat.zero_le _, rfl, Hid.mk' (Dr.refl _)⟩
      case round =>
        obtain ⟨k, hk, rfl, HD⟩ := hrel
        by_cases hlt : k < n
        · have d1 := (HD.out.cell _).trans (C1.out k hlt)
          obtain ⟨x0, x9⟩ := HR2.out k hlt
          have hsp : (k : Int) < (n : Int) := by omega
          by_cases hk0 : k = 0
          · subst hk0
            rw [Nat.add_zero] at d1
            generalize L.getD 0 0 = x at *
            have f1 : decide (x < 0) = false := decide_eq_false (by omega)
            have f2 : decide (9 < x) = false := decide_eq_false (by omega)
            go_wp2_with fail
            go_quiet (fail)
            go_wp2_with fail
            go_roundw
            case rel => exact ⟨1, hlt, by go_num, Hid.mk' (HD.out.more _)⟩
            case measure => simp [intOf]; omega
          · obtain ⟨j, rfl⟩ : ∃ j, k = j + 1 := ⟨k - 1, by omega⟩
            have d2 := (HD.out.cell _).trans (C1.out j (by omega))
            have hlt2 := HR3.out j hlt
            generalize L.getD (j + 1) 0 = x at *
            generalize L.getD j 0 = y at *
            have f1 : decide (x < 0) = false := decide_eq_false (by omega)
            have f2 : decide (9 < x) = false := decide_eq_false (by omega)
            have f3 : decide (x ≤ y) = false := decide_eq_false (by omega)
            have f4 : (0 : Int) < (j : Int) + 1 := by omega
            have f5 : decide ((0 : Int) < (j : Int) + 1) = true := decide_eq_true f4
            go_wp2_with fail
            go_quiet (fail)
            go_wp2_with fail
            go_roundw
            case rel => exact ⟨j + 1 + 1, hlt, by go_num, Hid.mk' (HD.out.more _)⟩
            case measure => simp [intOf]; omega
        · have hsp : ¬ (k : Int) < (n : Int) := by omega
          have J7' := Hid.mk' (J6.out.trans (HD.out.below _))
          obtain ⟨c0, c1, c2, c3, c4⟩ := CO.out _ J7'.out
          go_wp2_with fail
          refine (K3.out _).mono ?_
          rintro e w7 ⟨rfl, b7⟩
          have J7 := Hid.mk' (J7'.out.trans (b7.mono (by have := J7'.out.size; omega)))
          cases B with
          | true =>
            go_wp2_with fail
            go_ret
            exact ⟨rfl, (END _ J7).out⟩
          | false =>
            have hN := nz.out rfl
            subst hN
            go_wp2_with fail
            go_ret
            exact ⟨rfl, (END _ J7).out⟩

theorem walkInsnBit (m0 : sh24.M) (bit : Int) (W : World) (o0 : sh24.ok W m0) (hb : (Lit.int .i64 bit).wf = true) : Calls Try.prog 8 #[.agg (sh24.cs m0).toArray, .int .i64 bit] W fun e w' => e = .returned (.bool true) ∧ Below W.heap.size W w' := by
  obtain ⟨p, d, s, o, i⟩ := m0
  obtain ⟨v0, v1⟩ := bounds_i64 hb
  exact bit_ints p d s o i bit W (inB_of o0) v0 v1
end Go.Proofs.Ytmiiddkpmfiocaa
