/- The contracts of the document's off, imm, Check. -/
import Derived.Test.YtffjddabjjcjpaaIb
import Derived.Test.YtffjddabjjcjpaaIc
namespace Go.Proofs.Ytffjddabjjcjpaa
open Go.ChangeShapes Go.WideShapes Go.ChangeAt Go.RowKit
set_option maxRecDepth 10000

set_option maxHeartbeats 1000000 in
theorem roff_any (s : ByteArray) (o : Int) (w : World) (hs : s.size ≤ 1000) : Calls Try.prog 42 #[.string s, .int .i64 o] w fun e w' => e = .returned (.bool (offR s.data.toList o)) ∧ w' = w := by
  have H1 := fun u => has_any s 111 u hs
  have H2 := fun u => has_any s 112 u hs
  have H3 := fun u => has_any s 106 u hs
  have HE : Hid (offR s.data.toList o = if hasB s.data.toList 111 then true else if hasB s.data.toList 112 then decide (0 ≤ o) && decide (o ≤ 7) else if hasB s.data.toList 106 then decide (0 ≤ o) && decide (o ≤ 255) else decide (o = 0)) := Hid.mk' rfl
  generalize hasB s.data.toList 111 = a at *
  generalize hasB s.data.toList 112 = b at *
  generalize hasB s.data.toList 106 = c at *
  go_enter Try.func42, Try.ntmps42
  cases a with
  | true =>
    go_wp2_with (go_at_call 41; refine (H1 _).mono ?_; rintro e w' ⟨rfl, rfl⟩)
    go_ret
    exact ⟨ret_bool HE.out.symm, rfl⟩
  | false =>
    cases b with
    | true =>
      go_wp2_with fail
      refine (H1 _).mono ?_
      rintro e w' ⟨rfl, rfl⟩
      go_wp2_with fail
      refine (H2 _).mono ?_
      rintro e w' ⟨rfl, rfl⟩
      go_wp2_with (go_at_call 46; refine (within_any _ _ _ _).mono ?_; rintro e w' ⟨rfl, rfl⟩)
      go_ret
      exact ⟨ret_bool HE.out.symm, rfl⟩
    | false =>
      cases c with
      | true =>
        go_wp2_with fail
        refine (H1 _).mono ?_
        rintro e w' ⟨rfl, rfl⟩
        go_wp2_with fail
        refine (H2 _).mono ?_
        rintro e w' ⟨rfl, rfl⟩
        go_wp2_with fail
        refine (H3 _).mono ?_
        rintro e w' ⟨rfl, rfl⟩
        go_wp2_with (go_at_call 46; refine (within_any _ _ _ _).mono ?_; rintro e w' ⟨rfl, rfl⟩)
        go_ret
        exact ⟨ret_bool HE.out.symm, rfl⟩
      | false =>
        go_wp2_with fail
        refine (H1 _).mono ?_
        rintro e w' ⟨rfl, rfl⟩
        go_wp2_with fail
        refine (H2 _).mono ?_
        rintro e w' ⟨rfl, rfl⟩
        go_wp2_with fail
        refine (H3 _).mono ?_
        rintro e w' ⟨rfl, rfl⟩
        go_wp2_with fail
        go_ret
        refine ⟨ret_bool (Eq.trans ?_ HE.out.symm), rfl⟩
        rw [Bool.eq_iff_iff]; simp

set_option maxHeartbeats 2000000 in
theorem rimm_any (s : ByteArray) (i : Int) (w : World) (hs : s.size ≤ 1000) : Calls Try.prog 43 #[.string s, .int .i64 i] w fun e w' => e = .returned (.bool (immR s.data.toList i)) ∧ w' = w := by
  have H1 := fun u => has_any s 105 u hs
  have H2 := fun u => has_any s 98 u hs
  have H3 := fun u => has_any s 119 u hs
  have H4 := fun u => has_any s 114 u hs
  have H5 := fun u => has_any s 99 u hs
  have HE : Hid (immR s.data.toList i = if hasB s.data.toList 105 then true else if hasB s.data.toList 98 then decide (0 ≤ i) && decide (i ≤ 63)
    else if hasB s.data.toList 119 then decide (i = 1) || decide (i = 2) || decide (i = 4) || decide (i = 8)
    else if hasB s.data.toList 114 then decide (1 ≤ i) && decide (i ≤ 16)
    else if hasB s.data.toList 99 then (decide (1 ≤ i) && decide (i ≤ 8)) || (decide (16 ≤ i) && decide (i ≤ 23)) else decide (i = 0)) := Hid.mk' rfl
  generalize hasB s.data.toList 105 = a at *
  generalize hasB s.data.toList 98 = b at *
  generalize hasB s.data.toList 119 = c at *
  generalize hasB s.data.toList 114 = d at *
  generalize hasB s.data.toList 99 = f at *
  go_enter Try.func43, Try.ntmps43
  go_wp2_with fail
  refine (H1 _).mono ?_
  rintro e w' ⟨rfl, rfl⟩
  cases a with
  | true =>
    go_wp2_with fail
    go_ret
    exact ⟨ret_bool HE.out.symm, rfl⟩
  | false =>
    go_wp2_with fail
    refine (H2 _).mono ?_
    rintro e w' ⟨rfl, rfl⟩
    cases b with
    | true =>
      go_wp2_with (go_at_call 46; refine (within_any _ _ _ _).mono ?_; rintro e w' ⟨rfl, rfl⟩)
      go_ret
      exact ⟨ret_bool HE.out.symm, rfl⟩
    | false =>
      go_wp2_with fail
      refine (H3 _).mono ?_
      rintro e w' ⟨rfl, rfl⟩
      cases c with
      | true =>
        go_wp2_with fail
        all_goals
          go_ret
          refine ⟨ret_bool (Eq.trans ?_ HE.out.symm), rfl⟩
          first | rfl | (rw [Bool.eq_iff_iff]; simp [*]; done) | (rw [Bool.eq_iff_iff]; simp [*]; omega)
      | false =>
        go_wp2_with fail
        refine (H4 _).mono ?_
        rintro e w' ⟨rfl, rfl⟩
        cases d with
        | true =>
          go_wp2_with (go_at_call 46; refine (within_any _ _ _ _).mono ?_; rintro e w' ⟨rfl, rfl⟩)
          go_ret
          exact ⟨ret_bool HE.out.symm, rfl⟩
        | false =>
          go_wp2_with fail
          refine (H5 _).mono ?_
          rintro e w' ⟨rfl, rfl⟩
          cases f with
          | true =>
            obtain ⟨t, ht⟩ : ∃ t, Hid ((decide (1 ≤ i) && decide (i ≤ 8)) = t) := ⟨_, Hid.mk' rfl⟩
            have W1 : ∀ u : World, Calls Try.prog 46 #[.int .i64 i, .int .i64 1, .int .i64 8] u fun e w' => e = .returned (.bool t) ∧ w' = u := by
              rw [← ht.out]; exact fun u => within_any i 1 8 u
            rw [ht.out] at HE
            cases t with
            | true =>
              go_wp2_with fail
              refine (W1 _).mono ?_
              rintro e w' ⟨rfl, rfl⟩
              go_wp2_with fail
              go_ret
              exact ⟨ret_bool HE.out.symm, rfl⟩
            | false =>
              go_wp2_with fail
              refine (W1 _).mono ?_
              rintro e w' ⟨rfl, rfl⟩
              go_wp2_with fail
              refine (within_any _ _ _ _).mono ?_
              rintro e w' ⟨rfl, rfl⟩
              go_wp2_with fail
              go_ret
              exact ⟨ret_bool HE.out.symm, rfl⟩
          | false =>
            go_wp2_with fail
            go_ret
            refine ⟨ret_bool (Eq.trans ?_ HE.out.symm), rfl⟩
            rw [Bool.eq_iff_iff]; simp

theorem rowN_len (p : Int) : (rowN p).length ≤ 4 := by
  have := classes p
  generalize useN p = u at *
  generalize rowN p = r at *
  generalize okN p = k at *
  simp only [List.mem_cons, Prod.mk.injEq, List.not_mem_nil, or_false] at this
  rcases this with ⟨_, rfl, _⟩ | ⟨_, rfl, _⟩ | ⟨_, rfl, _⟩ | ⟨_, rfl, _⟩ | ⟨_, rfl, _⟩ | ⟨_, rfl, _⟩ | ⟨_, rfl, _⟩ | ⟨_, rfl, _⟩ | ⟨_, rfl, _⟩ | ⟨_, rfl, _⟩ | ⟨_, rfl, _⟩ | ⟨_, rfl, _⟩ | ⟨_, rfl, _⟩ | ⟨_, rfl, _⟩ | ⟨_, rfl, _⟩ | ⟨_, rfl, _⟩ | ⟨_, rfl, _⟩ <;> decide

set_option maxHeartbeats 2000000 in
theorem rcheck_any (p d s o i : Int) (w : World) (h : InB p d s o i) :
    Calls Try.prog 33 #[insV p d s o i] w fun e w' => e = .returned (.int .i64 (ckN (mayR p d s o i))) ∧ Below w.heap.size w w' := by
  obtain ⟨p0, p1, d0, d1, s0, s1, o0, o1, i0, i1⟩ := h
  have HK : Hid (Below w.heap.size w (w.alloc (.cells #[.int .u8 p, .int .u8 d, .int .u8 s, .int .i16 o, .int .i32 i] 37))) := (Below.refl _ _).alloc (Nat.le_refl _) _
  have HR := fun u => row_any p u p0 p1
  obtain ⟨R, hR⟩ : ∃ R : ByteArray, R = ⟨(rowN p).toArray⟩ := ⟨_, rfl⟩
  have hRl : R.data.toList = rowN p := by rw [hR]
  have hRs : R.size ≤ 1000 := by
    have := rowN_len p
    have e : R.size = (rowN p).length := by rw [hR]; rfl
    omega
  rw [← hR] at HR
  have HE : Hid (mayR p d s o i = (okN p && decide (d ≤ 9) && decide (s ≤ 9) && (decide (d ≤ 0) || hasB R.data.toList 100) && (decide (s ≤ 0) || hasB R.data.toList 115) && offR R.data.toList o && immR R.data.toList i)) := Hid.mk' (by rw [hRl]; rfl)
  have H1 := fun u => has_any R 100 u hRs
  have H2 := fun u => has_any R 115 u hRs
  have H3 := fun u => roff_any R o u hRs
  have H4 := fun u => rimm_any R i u hRs
  clear hRl hR hRs
  generalize hasB R.data.toList 100 = a at *
  generalize hasB R.data.toList 115 = b at *
  generalize offR R.data.toList o = c at *
  generalize immR R.data.toList i = f at *
  generalize okN p = k at *
  go_enter Try.func33, Try.ntmps33
  go_wp2_with fail
  refine (HR _).mono ?_
  rintro e w' ⟨rfl, rfl⟩
  cases k with
  | false =>
    go_wp2_with fail
    go_ret
    exact ⟨ret_int (by rw [HE.out]; simp [ckN]), HK.out⟩
  | true =>
    by_cases h1 : 9 < d
    · have e1 := Hid.mk' (decide_eq_false (show ¬ d ≤ 9 by omega))
      go_wp2_with fail
      go_ret
      refine ⟨ret_int ?_, HK.out⟩
      rw [HE.out]
      simp [ckN, e1.out]
    have e1 := Hid.mk' (decide_eq_true (show d ≤ 9 by omega))
    by_cases h2 : 9 < s
    · have e2 := Hid.mk' (decide_eq_false (show ¬ s ≤ 9 by omega))
      go_wp2_with fail
      go_ret
      refine ⟨ret_int ?_, HK.out⟩
      rw [HE.out]
      simp [ckN, e1.out, e2.out]
    have e2 := Hid.mk' (decide_eq_true (show s ≤ 9 by omega))
    have hd : d ≤ 0 ∨ (0 < d ∧ a = true) ∨ (0 < d ∧ a = false) := by cases a <;> simp <;> omega
    have hs : s ≤ 0 ∨ (0 < s ∧ b = true) ∨ (0 < s ∧ b = false) := by cases b <;> simp <;> omega
    rcases hd with h3 | ⟨h3, rfl⟩ | ⟨h3, rfl⟩
    · have e3 := Hid.mk' (decide_eq_true h3)
      rcases hs with h4 | ⟨h4, rfl⟩ | ⟨h4, rfl⟩
      · have e4 := Hid.mk' (decide_eq_true h4)
        cases c with
        | false =>
          go_wp2_with fail
          refine (H3 _).mono ?_
          rintro e w' ⟨rfl, rfl⟩
          go_wp2_with fail
          go_ret
          refine ⟨ret_int ?_, HK.out⟩
          rw [HE.out]
          simp [ckN]
        | true =>
          cases f with
          | false =>
            go_wp2_with fail
            refine (H3 _).mono ?_
            rintro e w' ⟨rfl, rfl⟩
            go_wp2_with fail
            refine (H4 _).mono ?_
            rintro e w' ⟨rfl, rfl⟩
            go_wp2_with fail
            go_ret
            refine ⟨ret_int ?_, HK.out⟩
            rw [HE.out]
            simp [ckN]
          | true =>
            go_wp2_with fail
            refine (H3 _).mono ?_
            rintro e w' ⟨rfl, rfl⟩
            go_wp2_with fail
            refine (H4 _).mono ?_
            rintro e w' ⟨rfl, rfl⟩
            go_wp2_with fail
            go_ret
            refine ⟨ret_int ?_, HK.out⟩
            rw [HE.out]
            simp [ckN, e1.out, e2.out, e3.out, e4.out]
      · cases c with
        | false =>
          go_wp2_with fail
          refine (H2 _).mono ?_
          rintro e w' ⟨rfl, rfl⟩
          go_wp2_with fail
          refine (H3 _).mono ?_
          rintro e w' ⟨rfl, rfl⟩
          go_wp2_with fail
          go_ret
          refine ⟨ret_int ?_, HK.out⟩
          rw [HE.out]
          simp [ckN]
        | true =>
          cases f with
          | false =>
            go_wp2_with fail
            refine (H2 _).mono ?_
            rintro e w' ⟨rfl, rfl⟩
            go_wp2_with fail
            refine (H3 _).mono ?_
            rintro e w' ⟨rfl, rfl⟩
            go_wp2_with fail
            refine (H4 _).mono ?_
            rintro e w' ⟨rfl, rfl⟩
            go_wp2_with fail
            go_ret
            refine ⟨ret_int ?_, HK.out⟩
            rw [HE.out]
            simp [ckN]
          | true =>
            go_wp2_with fail
            refine (H2 _).mono ?_
            rintro e w' ⟨rfl, rfl⟩
            go_wp2_with fail
            refine (H3 _).mono ?_
            rintro e w' ⟨rfl, rfl⟩
            go_wp2_with fail
            refine (H4 _).mono ?_
            rintro e w' ⟨rfl, rfl⟩
            go_wp2_with fail
            go_ret
            refine ⟨ret_int ?_, HK.out⟩
            rw [HE.out]
            simp [ckN, e1.out, e2.out, e3.out]
      · have e4 := Hid.mk' (decide_eq_false (show ¬ s ≤ 0 by omega))
        go_wp2_with fail
        refine (H2 _).mono ?_
        rintro e w' ⟨rfl, rfl⟩
        go_wp2_with fail
        go_ret
        refine ⟨ret_int ?_, HK.out⟩
        rw [HE.out]
        simp [ckN, e1.out, e2.out, e3.out, e4.out]
    · rcases hs with h4 | ⟨h4, rfl⟩ | ⟨h4, rfl⟩
      · have e4 := Hid.mk' (decide_eq_true h4)
        cases c with
        | false =>
          go_wp2_with fail
          refine (H1 _).mono ?_
          rintro e w' ⟨rfl, rfl⟩
          go_wp2_with fail
          refine (H3 _).mono ?_
          rintro e w' ⟨rfl, rfl⟩
          go_wp2_with fail
          go_ret
          refine ⟨ret_int ?_, HK.out⟩
          rw [HE.out]
          simp [ckN]
        | true =>
          cases f with
          | false =>
            go_wp2_with fail
            refine (H1 _).mono ?_
            rintro e w' ⟨rfl, rfl⟩
            go_wp2_with fail
            refine (H3 _).mono ?_
            rintro e w' ⟨rfl, rfl⟩
            go_wp2_with fail
            refine (H4 _).mono ?_
            rintro e w' ⟨rfl, rfl⟩
            go_wp2_with fail
            go_ret
            refine ⟨ret_int ?_, HK.out⟩
            rw [HE.out]
            simp [ckN]
          | true =>
            go_wp2_with fail
            refine (H1 _).mono ?_
            rintro e w' ⟨rfl, rfl⟩
            go_wp2_with fail
            refine (H3 _).mono ?_
            rintro e w' ⟨rfl, rfl⟩
            go_wp2_with fail
            refine (H4 _).mono ?_
            rintro e w' ⟨rfl, rfl⟩
            go_wp2_with fail
            go_ret
            refine ⟨ret_int ?_, HK.out⟩
            rw [HE.out]
            simp [ckN, e1.out, e2.out, e4.out]
      · cases c with
        | false =>
          go_wp2_with fail
          refine (H1 _).mono ?_
          rintro e w' ⟨rfl, rfl⟩
          go_wp2_with fail
          refine (H2 _).mono ?_
          rintro e w' ⟨rfl, rfl⟩
          go_wp2_with fail
          refine (H3 _).mono ?_
          rintro e w' ⟨rfl, rfl⟩
          go_wp2_with fail
          go_ret
          refine ⟨ret_int ?_, HK.out⟩
          rw [HE.out]
          simp [ckN]
        | true =>
          cases f with
          | false =>
            go_wp2_with fail
            refine (H1 _).mono ?_
            rintro e w' ⟨rfl, rfl⟩
            go_wp2_with fail
            refine (H2 _).mono ?_
            rintro e w' ⟨rfl, rfl⟩
            go_wp2_with fail
            refine (H3 _).mono ?_
            rintro e w' ⟨rfl, rfl⟩
            go_wp2_with fail
            refine (H4 _).mono ?_
            rintro e w' ⟨rfl, rfl⟩
            go_wp2_with fail
            go_ret
            refine ⟨ret_int ?_, HK.out⟩
            rw [HE.out]
            simp [ckN]
          | true =>
            go_wp2_with fail
            refine (H1 _).mono ?_
            rintro e w' ⟨rfl, rfl⟩
            go_wp2_with fail
            refine (H2 _).mono ?_
            rintro e w' ⟨rfl, rfl⟩
            go_wp2_with fail
            refine (H3 _).mono ?_
            rintro e w' ⟨rfl, rfl⟩
            go_wp2_with fail
            refine (H4 _).mono ?_
            rintro e w' ⟨rfl, rfl⟩
            go_wp2_with fail
            go_ret
            refine ⟨ret_int ?_, HK.out⟩
            rw [HE.out]
            simp [ckN, e1.out, e2.out]
      · have e4 := Hid.mk' (decide_eq_false (show ¬ s ≤ 0 by omega))
        go_wp2_with fail
        refine (H1 _).mono ?_
        rintro e w' ⟨rfl, rfl⟩
        go_wp2_with fail
        refine (H2 _).mono ?_
        rintro e w' ⟨rfl, rfl⟩
        go_wp2_with fail
        go_ret
        refine ⟨ret_int ?_, HK.out⟩
        rw [HE.out]
        simp [ckN, e1.out, e2.out, e4.out]
    · have e3 := Hid.mk' (decide_eq_false (show ¬ d ≤ 0 by omega))
      go_wp2_with fail
      refine (H1 _).mono ?_
      rintro e w' ⟨rfl, rfl⟩
      go_wp2_with fail
      go_ret
      refine ⟨ret_int ?_, HK.out⟩
      rw [HE.out]
      simp [ckN, e1.out, e2.out, e3.out]

end Go.Proofs.Ytffjddabjjcjpaa
