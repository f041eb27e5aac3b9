/- The document's wrong, Check. -/
import Derived.Test.YtffjddabjjcjpaaFs
namespace Go.Proofs.Ytffjddabjjcjpaa
open Go.ChangeShapes Go.WideShapes Go.ChangeAt Go.RowKit
set_option maxRecDepth 10000
variable {L : List Q5}

set_option maxHeartbeats 2000000 in
theorem rwrong_any (b off c n k : Nat) (w : World) (hL : L.length = n) (hC : Lie w b off L) (hB : InbL L) (hn : n ≤ 256) (hk : k < n) (hok : okA L k = true) :
    Calls Try.prog 34 #[.slice (some ⟨b, off, none⟩) n c, .int .i64 k] w fun e w' => e = .returned (.bool (wgN L k)) ∧ Below w.heap.size w w' := by
  obtain ⟨p, d, s, o, i, hq, q1, q2, q3⟩ := at_get (L := L) (k := k) (by omega)
  have hin := hB k p d s o i hq
  have HJ : Hid (isJ p = true → 0 ≤ o ∧ o ≤ 255) := Hid.mk' (fun hj => by rw [← q1] at hj; rw [← q2]; exact ok_jump hok hj)
  obtain ⟨c0, c1, c2, c3, c4⟩ := hC k p d s o i hq
  have HC := Hid.mk' hC
  have HL := Hid.mk' hL
  have Q1 := Hid.mk' q1
  obtain ⟨o0, o1⟩ : -32768 ≤ o ∧ o ≤ 32767 := ⟨hin.o0, hin.o1⟩
  have HW : Hid (∀ u, Below w.heap.size w u → Lie u b off L) := Hid.mk' (fun u hu => HC.out.below hu)
  have HI : Hid (∀ u, Calls Try.prog 26 #[insV p d s o i] u fun e w' => e = .returned (.bool (isJ p)) ∧ Below u.heap.size u w') := Hid.mk' (fun u => rjumps_any p d s o i u)
  have HK : Hid (Below w.heap.size w (w.alloc (.cells #[.int .u8 p, .int .u8 d, .int .u8 s, .int .i16 o, .int .i32 i] 37))) := (Below.refl _ _).alloc (Nat.le_refl _) _
  have HE : Hid (wgN L k = if k + 1 = n then decide (p ≠ 36) else if p = 34 then decide (top (stk L k) = -1) else if p = 33 then decide (enN L n k = -1) || decide (3 ≤ (stk L k).length) else if isJ p then decide ((n : Int) ≤ k + 1 + o) || decide ((k : Int) < top (stk L ((k : Int) + 1 + o).toNat)) else false) := Hid.mk' (by
    unfold wgN toA
    rw [hL, q1, q2])
  have HO : Hid (p = 34 → ∀ u, Below w.heap.size w u → Calls Try.prog 44 #[.slice (some ⟨b, off, none⟩) n c, .int .i64 k] u fun e w' => e = .returned (.bool (decide (top (stk L k) ≠ -1))) ∧ u = w') := Hid.mk' (fun h u hu => opens_any b off c n k u HL.out (HW.out u hu) hn hk (by rw [Q1.out]; exact h))
  have HCl : Hid (p = 33 → ∀ u, Below w.heap.size w u → Calls Try.prog 35 #[.slice (some ⟨b, off, none⟩) n c, .int .i64 k] u fun e w' => e = .returned (.int .i64 (enN L n k)) ∧ u = w') := Hid.mk' (fun h u hu => closes_any b off c n k u HL.out (HW.out u hu) hn hk (by rw [Q1.out]; exact h))
  have HIn : Hid (∀ (x : Nat) u, x ≤ n → Below w.heap.size w u → Calls Try.prog 27 #[.slice (some ⟨b, off, none⟩) n c, .int .i64 x] u fun e w' => (∃ r, e = .returned r ∧ Iw w' u.heap.size r (inL L x)) ∧ Below u.heap.size u w') := Hid.mk' (fun x u hx hu => inside_any b off c n x u HL.out (HW.out u hu) hn hx)
  have hkn : (k : Int) < n := by omega
  clear hC hB hin hok q1 q2 q3 hq hL
  obtain ⟨T, hT⟩ : ∃ T, top (stk L k) = T := ⟨_, rfl⟩
  obtain ⟨E, hE⟩ : ∃ E, Hid (enN L n k = E) := ⟨_, Hid.mk' rfl⟩
  obtain ⟨V, hV⟩ : ∃ V, Hid (wgN L k = V) := ⟨_, Hid.mk' rfl⟩
  rw [hV.out] at HE ⊢
  rw [hT, hE.out] at HE
  rw [hT] at HO
  rw [hE.out] at HCl
  clear hT
  have hlastI : (k : Int) = (n : Int) - 1 ↔ k + 1 = n := by omega
  go_enter Try.func34, Try.ntmps34
  by_cases hp34 : p = 34
  · subst hp34
    have HO' := Hid.mk' (HO.out rfl)
    by_cases hT1 : T = -1
    · have hV1 : V = true := by
        rw [HE.out]
        by_cases c : k + 1 = n
        · rw [if_pos c]; rfl
        · rw [if_neg c]; simp [hT1]
      subst hV1 hT1
      go_wp2_with (go_at_call 44; refine (HO'.out _ HK.out).mono ?_; rintro e w2 ⟨rfl, rfl⟩)
      go_ret
      exact ⟨rfl, HK.out⟩
    · go_wp2_with (go_at_call 44; refine (HO'.out _ HK.out).mono ?_; rintro e w2 ⟨rfl, rfl⟩)
      refine (HI.out _).mono ?_
      rintro e w3 ⟨rfl, b3⟩
      obtain ⟨B3, d0, d1, d2, d3, d4⟩ := cells5 b3
      have B3 := Hid.mk' B3
      clear b3
      rw [show isJ 34 = false from rfl]
      by_cases hlast : k + 1 = n
      · have hV1 : V = true := by rw [HE.out, if_pos hlast]; rfl
        subst hV1 hlast
        go_wp2_with fail
        go_ret
        exact ⟨ret_bool (by first | rfl | simp), B3.out⟩
      · have hV1 : V = false := by rw [HE.out, if_neg hlast]; simp [hT1]
        have h1 : ¬ (k : Int) = (n : Int) - 1 := by omega
        subst hV1
        go_wp2_with fail
        go_ret
        exact ⟨ret_bool (by first | rfl | simp), B3.out⟩
  by_cases hp33 : p = 33
  · subst hp33
    have HC' := Hid.mk' (HCl.out rfl)
    have hElast : k + 1 = n → E = -1 := fun h => by
      rw [← hE.out]
      by_cases c : enN L n k = -1
      · exact c
      · obtain ⟨e', e1, e2, e3, -⟩ := en_some c
        omega
    by_cases hE1 : E = -1
    · have hV1 : V = true := by
        rw [HE.out]
        by_cases c : k + 1 = n
        · rw [if_pos c]; rfl
        · rw [if_neg c]; simp [hE1]
      subst hV1 hE1
      go_wp2_with (go_at_call 35; refine (HC'.out _ HK.out).mono ?_; rintro e w2 ⟨rfl, rfl⟩)
      go_ret
      exact ⟨rfl, HK.out⟩
    · have hE0 : ¬ E < 0 := by
        obtain ⟨e', e1, -⟩ := en_some (L := L) (n := n) (j := k) (by rw [hE.out]; exact hE1)
        rw [hE.out] at e1; omega
      have hlast : ¬ k + 1 = n := fun h => hE1 (hElast h)
      have hV2 : V = decide (3 ≤ (stk L k).length) := by rw [HE.out, if_neg hlast]; simp [hE1]
      have h1 : ¬ (k : Int) = (n : Int) - 1 := by omega
      obtain ⟨D, hD⟩ : ∃ D, Hid ((stk L k).length = D) := ⟨_, Hid.mk' rfl⟩
      rw [hD.out] at hV2
      clear hElast
      by_cases hD3 : 3 ≤ D
      · have hV1 : V = true := by rw [hV2]; simp [hD3]
        have hD3' : (3 : Int) ≤ (D : Int) := by omega
        subst hV1
        clear hV2
        go_wp2_with (first
          | (go_at_call 35; refine (HC'.out _ HK.out).mono ?_; rintro e w2 ⟨rfl, rfl⟩)
          | (go_at_call 27; refine (HIn.out k _ (by omega) HK.out).mono ?_; rintro e w2 ⟨⟨r, rfl, hr⟩, b2⟩; obtain ⟨ra, rc, rfl, -⟩ := iw_list hr; rw [inL_len, hD.out]; obtain ⟨B2, d0, d1, d2, d3, d4⟩ := cells5 b2; have B2 := Hid.mk' B2; clear b2 hr))
        go_ret
        exact ⟨rfl, B2.out⟩
      · have hV1 : V = false := by rw [hV2]; simp [hD3]
        have hD3' : ¬ (3 : Int) ≤ (D : Int) := by omega
        subst hV1
        clear hV2
        go_wp2_with (first
          | (go_at_call 35; refine (HC'.out _ HK.out).mono ?_; rintro e w2 ⟨rfl, rfl⟩)
          | (go_at_call 27; refine (HIn.out k _ (by omega) HK.out).mono ?_; rintro e w2 ⟨⟨r, rfl, hr⟩, b2⟩; obtain ⟨ra, rc, rfl, -⟩ := iw_list hr; rw [inL_len, hD.out]; obtain ⟨B2, d0, d1, d2, d3, d4⟩ := cells5 b2; have B2 := Hid.mk' B2; clear b2 hr))
        refine (HI.out _).mono ?_
        rintro e w3 ⟨rfl, b3⟩
        have l2 : w.heap.size < w2.heap.size := lt_of_cell d0
        have d0 := (b3.cell (p := ⟨w.heap.size, 0, none⟩) l2).trans d0
        have B3 := Hid.mk' (B2.out.trans (b3.mono B2.out.size))
        clear b3
        rw [show isJ 33 = false from rfl]
        go_wp2_with fail
        go_ret
        exact ⟨ret_bool (by first | rfl | simp), B3.out⟩
  · obtain ⟨J, hJ⟩ : ∃ J, Hid (isJ p = J) := ⟨_, Hid.mk' rfl⟩
    rw [hJ.out] at HE HI HJ
    rw [if_neg hp34, if_neg hp33] at HE
    go_wp2_with fail
    refine (HI.out _).mono ?_
    rintro e w3 ⟨rfl, b3⟩
    obtain ⟨B3, d0, d1, d2, d3, d4⟩ := cells5 b3
    have B3 := Hid.mk' B3
    clear b3
    cases J with
    | false =>
      by_cases hlast : k + 1 = n
      · rw [if_pos hlast] at HE
        subst hlast
        by_cases h36 : p = 36
        · have hV1 : V = false := by rw [HE.out]; simp [h36]
          subst hV1 h36
          go_wp2_with fail
          go_ret
          exact ⟨ret_bool (by first | rfl | simp), B3.out⟩
        · have hV1 : V = true := by rw [HE.out]; simp [h36]
          subst hV1
          go_wp2_with fail
          go_ret
          exact ⟨ret_bool (by first | rfl | simp [h36]), B3.out⟩
      · rw [if_neg hlast] at HE
        have hV1 : V = false := HE.out
        have h1 : ¬ (k : Int) = (n : Int) - 1 := by omega
        subst hV1
        go_wp2_with fail
        go_ret
        exact ⟨ret_bool (by first | rfl | simp), B3.out⟩
    | true =>
      obtain ⟨oo0, oo1⟩ := HJ.out rfl
      have HJK : Hid (isJ (opA L k) = true) := Hid.mk' (by rw [Q1.out]; exact hJ.out)
      obtain ⟨t, ht⟩ : ∃ t : Nat, (k : Int) + 1 + o = t := ⟨((k : Int) + 1 + o).toNat, by omega⟩
      have hto : (o : Int) = (t : Int) - k - 1 := by omega
      have hkt : k < t := by omega
      by_cases htn : n ≤ t
      · have hV1 : V = true := by
          rw [HE.out]
          by_cases c : k + 1 = n
          · rw [if_pos c]
            have : p ≠ 36 := fun e => by have := hJ.out; rw [e] at this; simp [isJ] at this
            simp [this]
          · rw [if_neg c, if_pos rfl, ht]
            simp; left; omega
        subst hV1
        have hnt : (n : Int) ≤ (k : Int) + 1 + o := by omega
        clear hto ht
        go_wp2_with fail
        go_ret
        exact ⟨rfl, B3.out⟩
      · have hlast : ¬ k + 1 = n := by omega
        rw [if_neg hlast, if_pos rfl, ht, show ((t : Nat) : Int).toNat = t from rfl] at HE
        have hV2 : V = decide ((k : Int) < top (stk L t)) := by rw [HE.out]; simp; omega
        have hnt : ¬ (n : Int) ≤ (k : Int) + 1 + o := by omega
        have HV2 := Hid.mk' hV2
        have hto' := Hid.mk' ht
        clear hV2 hto ht HE
        go_wp2_with fail
        rw [hto'.out]
        refine (HIn.out k _ (by omega) B3.out).mono ?_
        rintro e w4 ⟨⟨r1, rfl, hr1⟩, b4⟩
        have B4 := Hid.mk' (B3.out.trans (b4.mono B3.out.size))
        have l3 : w.heap.size < w3.heap.size := lt_of_cell d0
        have d0 := (b4.cell (p := ⟨w.heap.size, 0, none⟩) l3).trans d0
        have l4 : w.heap.size < w4.heap.size := lt_of_cell d0
        have M4 := Hid.mk' hr1
        clear b4 hr1
        go_wp2_with fail
        refine (HIn.out t _ (by omega) B4.out).mono ?_
        rintro e w5 ⟨⟨r2, rfl, hr2⟩, b5⟩
        have B5 := Hid.mk' (B4.out.trans (b5.mono B4.out.size))
        have d0 := (b5.cell (p := ⟨w.heap.size, 0, none⟩) l4).trans d0
        have M5 := Hid.mk' (M4.out.below b5)
        have hsub := Hid.mk' (sub_top (L := L) HJK.out hkt)
        have hlen5 : (inL L k).length ≤ 1000 := by rw [inL_len]; have := stk_len (L := L) k; omega
        have KH : Hid (∀ y : Int, Calls Try.prog 45 #[r1, .int .i64 y] w5 fun e w' => e = .returned (.bool (decide (y ∈ inL L k))) ∧ w5 = w') := Hid.mk' (fun y => has_list _ _ _ y w5 M5.out hlen5)
        obtain ⟨ra, rc, rfl, hz⟩ := iw_list hr2
        obtain ⟨q, hq⟩ : ∃ q, Hid ((inL L t).length = q) := ⟨_, Hid.mk' rfl⟩
        rw [hq.out] at hz ⊢
        have HZ := Hid.mk' hz
        have hq1 : q ≤ 1000 := by rw [← hq.out, inL_len]; have := stk_len (L := L) t; omega
        clear b5 hr2 hz hlen5
        go_wp2_with fail
        go_loopw [9] (fun i wr => ∃ j : Nat, j ≤ q ∧ i = .int .i64 j ∧ Hid (∀ m, m < j → ∀ y, (inL L t)[m]? = some y → y ∈ inL L k) ∧ wr = w5) (fun i _ => q - (intOf i).toNat)
        case atStart => exact ⟨0, Nat.zero_le _, rfl, Hid.mk' (fun m hm => by omega), rfl⟩
        case round =>
          obtain ⟨j, hj, rfl, hall, rfl⟩ := hrel
          by_cases hlt : j < q
          · have hlj : (j : Int) < (q : Int) := by omega
            rcases HZ.out with h0 | ⟨ib, io, rfl, hib, hc⟩
            · omega
            obtain ⟨y, hy⟩ : ∃ y, (inL L t)[j]? = some y := ⟨_, List.getElem?_eq_getElem (by rw [hq.out]; exact hlt)⟩
            have e0 := hc j y hy
            have HY := Hid.mk' hy
            have K := Hid.mk' (KH.out y)
            clear hc hy
            by_cases hin : y ∈ inL L k
            · rw [decide_eq_true hin] at K
              go_wp2_with (go_at_call 45; refine K.out.mono ?_; rintro e w6 ⟨rfl, rfl⟩)
              go_roundw
              case rel => exact ⟨j + 1, hlt, by go_num, Hid.mk' (fun m hm y' hy' => by
                  by_cases c : m < j
                  · exact hall.out m c y' hy'
                  · have : m = j := by omega
                    rw [this, HY.out] at hy'
                    cases hy'
                    exact hin), by trivial⟩
              case measure => simp [intOf]; omega
            · rw [decide_eq_false hin] at K
              have hV1 : V = true := by
                rw [HV2.out]
                refine decide_eq_true ?_
                by_cases c : top (stk L t) ≤ k
                · exact absurd (hsub.out.2 c y (List.mem_of_getElem? HY.out)) hin
                · omega
              subst hV1
              go_wp2_with (go_at_call 45; refine K.out.mono ?_; rintro e w6 ⟨rfl, rfl⟩)
              go_ret
              exact ⟨rfl, B5.out⟩
          · have hlj : ¬ (j : Int) < (q : Int) := by omega
            have hjq : j = q := by omega
            have hV1 : V = false := by
              rw [HV2.out]
              have : top (stk L t) ≤ k := hsub.out.1 (fun y hy => by
                obtain ⟨m, hm⟩ := List.getElem?_of_mem hy
                exact hall.out m (by rw [hjq, ← hq.out]; exact (List.getElem?_eq_some_iff.1 hm).1) y hm)
              exact decide_eq_false (by omega)
            have h1 : ¬ (k : Int) = (n : Int) - 1 := by omega
            subst hV1
            go_wp2_with fail
            go_ret
            exact ⟨ret_bool (by first | rfl | simp), B5.out⟩
end Go.Proofs.Ytffjddabjjcjpaa
