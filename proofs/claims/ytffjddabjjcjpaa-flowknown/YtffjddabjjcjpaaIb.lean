/- The contracts of insn.useOf, registerMayBe, offMayBe, immMayBe, Check. -/
import Derived.Test.YtffjddabjjcjpaaIa
import Derived.Test.YtffjddabjjcjpaaBw
namespace Go.Proofs.Ytffjddabjjcjpaa
open Go.ChangeShapes Go.WideShapes Go.ChangeAt Go.RowKit
set_option maxRecDepth 10000

set_option maxHeartbeats 1000000 in
theorem use_any (p : Int) (w : World) (p0 : 0 ≤ p) (p1 : p ≤ 255) : Calls Try.prog 36 #[.int .u8 p] w fun e w' => e = .returned (.int .u16 (useN p : Nat)) ∧ w' = w := by
  go_enter Try.func36, Try.ntmps36
  go_wp2_with fail
  all_goals
    go_ret
    refine ⟨ret_int ?_, rfl⟩
    simp only [beq_iff_eq, beq_eq_false_iff_ne, ne_eq] at *
    first | (subst_vars; rfl) | (unfold useN; simp [*])

theorem reg_any (n : Nat) (r : Int) (w : World) (hn : n < 2048) : Calls Try.prog 37 #[.int .u16 (n : Int), .int .u8 r] w fun e w' => e = .returned (.bool (rmB n r)) ∧ w' = w := by
  go_enter Try.func37, Try.ntmps37
  by_cases h : n = 0
  · subst h
    go_wp2_with fail
    go_ret
    exact ⟨ret_bool (by rw [Bool.eq_iff_iff]; simp [rmB]), rfl⟩
  · have h' : ¬ (n : Int) = 0 := by omega
    go_wp2_with fail
    go_ret
    exact ⟨ret_bool (by rw [Bool.eq_iff_iff]; simp [rmB, h]), rfl⟩

theorem and16 (u m : Nat) (hu : u < 2048) (hm : m < 2048) : bits .and .u16 (u : Int) (m : Int) = ((u &&& m : Nat) : Int) := u16_and_nat u m (by omega) (by omega)

set_option maxHeartbeats 1000000 in
theorem off_any (u : Nat) (o : Int) (w : World) (hu : u < 2048) (o0 : -32768 ≤ o) (o1 : o ≤ 32767) : Calls Try.prog 38 #[.int .u16 (u : Int), .int .i16 o] w fun e w' => e = .returned (.bool (omB u o)) ∧ w' = w := by
  have h8 : bits .and .u16 (u : Int) 8 = ((u &&& 8 : Nat) : Int) := and16 u 8 hu (by omega)
  have h16 : bits .and .u16 (u : Int) 16 = ((u &&& 16 : Nat) : Int) := and16 u 16 hu (by omega)
  have h32 : bits .and .u16 (u : Int) 32 = ((u &&& 32 : Nat) : Int) := and16 u 32 hu (by omega)
  unfold omB
  generalize u &&& 8 = a at *
  generalize u &&& 16 = b at *
  generalize u &&& 32 = c at *
  go_enter Try.func38, Try.ntmps38
  by_cases ha : a = 0
  · by_cases hb : b = 0
    · by_cases hc : c = 0
      · subst ha hb hc
        go_wp2_with fail
        all_goals
          go_ret
          exact ⟨ret_bool (by first | rfl | (rw [Bool.eq_iff_iff]; simp [*]; done) | (rw [Bool.eq_iff_iff]; simp [*]; omega)), rfl⟩
      · have hc' : ¬ (c : Int) = 0 := by omega
        subst ha hb
        go_wp2_with fail
        all_goals
          go_ret
          exact ⟨ret_bool (by first | rfl | (rw [Bool.eq_iff_iff]; simp [*]; done) | (rw [Bool.eq_iff_iff]; simp [*]; omega)), rfl⟩
    · have hb' : ¬ (b : Int) = 0 := by omega
      subst ha
      go_wp2_with fail
      all_goals
        go_ret
        exact ⟨ret_bool (by first | rfl | (rw [Bool.eq_iff_iff]; simp [*]; done) | (rw [Bool.eq_iff_iff]; simp [*]; omega)), rfl⟩
  · have ha' : ¬ (a : Int) = 0 := by omega
    go_wp2_with fail
    all_goals
      go_ret
      exact ⟨ret_bool (by first | rfl | (rw [Bool.eq_iff_iff]; simp [*]; done) | (rw [Bool.eq_iff_iff]; simp [*]; omega)), rfl⟩

set_option maxHeartbeats 1000000 in
theorem imm_any (u : Nat) (i : Int) (w : World) (hu : u < 2048) (i0 : -2147483648 ≤ i) (i1 : i ≤ 2147483647) : Calls Try.prog 39 #[.int .u16 (u : Int), .int .i32 i] w fun e w' => e = .returned (.bool (imB u i)) ∧ w' = w := by
  have h64 : bits .and .u16 (u : Int) 64 = ((u &&& 64 : Nat) : Int) := and16 u 64 hu (by omega)
  have h128 : bits .and .u16 (u : Int) 128 = ((u &&& 128 : Nat) : Int) := and16 u 128 hu (by omega)
  have h256 : bits .and .u16 (u : Int) 256 = ((u &&& 256 : Nat) : Int) := and16 u 256 hu (by omega)
  have h512 : bits .and .u16 (u : Int) 512 = ((u &&& 512 : Nat) : Int) := and16 u 512 hu (by omega)
  have h1024 : bits .and .u16 (u : Int) 1024 = ((u &&& 1024 : Nat) : Int) := and16 u 1024 hu (by omega)
  unfold imB
  generalize u &&& 64 = a at *
  generalize u &&& 128 = b at *
  generalize u &&& 256 = c at *
  generalize u &&& 512 = d at *
  generalize u &&& 1024 = f at *
  go_enter Try.func39, Try.ntmps39
  by_cases ha : a = 0
  · subst ha
    by_cases hb : b = 0
    · subst hb
      by_cases hc : c = 0
      · subst hc
        by_cases hd : d = 0
        · subst hd
          by_cases hf : f = 0
          · subst hf
            go_wp2_with fail
            all_goals
              go_ret
              exact ⟨ret_bool (by first | rfl | (rw [Bool.eq_iff_iff]; simp [*]; done) | (rw [Bool.eq_iff_iff]; simp [*]; omega)), rfl⟩
          · have hf' : ¬ (f : Int) = 0 := by omega
            go_wp2_with fail
            all_goals
              go_ret
              exact ⟨ret_bool (by first | rfl | (rw [Bool.eq_iff_iff]; simp [*]; done) | (rw [Bool.eq_iff_iff]; simp [*]; omega)), rfl⟩
        · have hd' : ¬ (d : Int) = 0 := by omega
          go_wp2_with fail
          all_goals
            go_ret
            exact ⟨ret_bool (by first | rfl | (rw [Bool.eq_iff_iff]; simp [*]; done) | (rw [Bool.eq_iff_iff]; simp [*]; omega)), rfl⟩
      · have hc' : ¬ (c : Int) = 0 := by omega
        go_wp2_with fail
        all_goals
          go_ret
          exact ⟨ret_bool (by first | rfl | (rw [Bool.eq_iff_iff]; simp [*]; done) | (rw [Bool.eq_iff_iff]; simp [*]; omega)), rfl⟩
    · have hb' : ¬ (b : Int) = 0 := by omega
      go_wp2_with fail
      all_goals
        go_ret
        exact ⟨ret_bool (by first | rfl | (rw [Bool.eq_iff_iff]; simp [*]; done) | (rw [Bool.eq_iff_iff]; simp [*]; omega)), rfl⟩
  · have ha' : ¬ (a : Int) = 0 := by omega
    go_wp2_with fail
    all_goals
      go_ret
      exact ⟨ret_bool (by first | rfl | (rw [Bool.eq_iff_iff]; simp [*]; done) | (rw [Bool.eq_iff_iff]; simp [*]; omega)), rfl⟩

/-- An instruction as its cells. -/
abbrev insV (p d s o i : Int) : Value := .agg #[.int .u8 p, .int .u8 d, .int .u8 s, .int .i16 o, .int .i32 i]
/-- What Check answers. -/
def ckN (b : Bool) : Int := if b then 0 else 130

set_option maxHeartbeats 1000000 in
theorem check_any (p d s o i : Int) (w : World) (h : InB p d s o i) :
    Calls Try.prog 30 #[insV p d s o i] w fun e w' => e = .returned (.int .i64 (ckN (mayB p d s o i))) ∧ Below w.heap.size w w' := by
  obtain ⟨p0, p1, d0, d1, s0, s1, o0, o1, i0, i1⟩ := h
  have HK : Hid (Below w.heap.size w (w.alloc (.cells #[.int .u8 p, .int .u8 d, .int .u8 s, .int .i16 o, .int .i32 i] 37))) := (Below.refl _ _).alloc (Nat.le_refl _) _
  have hu := useN_lt p
  have h3 : bits .and .u16 (useN p : Int) 3 = ((useN p &&& 3 : Nat) : Int) := and16 _ 3 hu (by omega)
  have h4 : bits .and .u16 (useN p : Int) 4 = ((useN p &&& 4 : Nat) : Int) := and16 _ 4 hu (by omega)
  have m3 : useN p &&& 3 < 2048 := Nat.lt_of_le_of_lt Nat.and_le_left hu
  have m4 : useN p &&& 4 < 2048 := Nat.lt_of_le_of_lt Nat.and_le_left hu
  have HU := fun u => use_any p u p0 p1
  have HE : Hid (mayB p d s o i = (okN p && (rmB (useN p &&& 3) d && rmB (useN p &&& 4) s && omB (useN p) o && imB (useN p) i))) := Hid.mk' rfl
  have H3 := Hid.mk' h3
  have H4 := Hid.mk' h4
  clear h3 h4
  generalize useN p = u at *
  generalize u &&& 3 = n3 at *
  generalize u &&& 4 = n4 at *
  go_enter Try.func30, Try.ntmps30
  by_cases hp : 1 ≤ p ∧ p ≤ 36
  · obtain ⟨q1, q2⟩ := hp
    have hok : Hid (okN p = true) := Hid.mk' (by unfold okN; exact decide_eq_true ⟨q1, q2⟩)
    go_wp2_with fail
    refine (HU _).mono ?_
    rintro e w' ⟨rfl, rfl⟩
    have h3 := H3.out
    have h4 := H4.out
    go_wp2_with (first
      | (go_at_call 37; refine (reg_any _ _ _ (by assumption)).mono ?_; rintro e w' ⟨rfl, rfl⟩)
      | (go_at_call 38; refine (off_any _ o _ hu o0 o1).mono ?_; rintro e w' ⟨rfl, rfl⟩)
      | (go_at_call 39; refine (imm_any _ i _ hu i0 i1).mono ?_; rintro e w' ⟨rfl, rfl⟩))
    all_goals
      go_ret
      refine ⟨ret_int ?_, HK.out⟩
      rw [HE.out, hok.out]
      simp_all [ckN]
  · have hok : Hid (okN p = false) := Hid.mk' (by unfold okN; exact decide_eq_false hp)
    have hp' : p < 1 ∨ 36 < p := by omega
    rcases hp' with hp' | hp'
    all_goals
      go_wp2_with fail
      go_ret
      refine ⟨ret_int ?_, HK.out⟩
      rw [HE.out, hok.out]
      rfl
end Go.Proofs.Ytffjddabjjcjpaa
