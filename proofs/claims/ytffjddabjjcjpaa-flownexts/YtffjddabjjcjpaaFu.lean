/- The document's Check, Next. -/
import Derived.Test.YtffjddabjjcjpaaFt
namespace Go.Proofs.Ytffjddabjjcjpaa
open Go.ChangeShapes Go.WideShapes Go.ChangeAt Go.RowKit
set_option maxRecDepth 10000
variable {L : List Q5}

set_option maxHeartbeats 2000000 in
theorem rcheck_f (v : Value) (w : World) (hv : Cd w v L) :
    Calls Try.prog 25 #[v] w fun e w' => e = .returned (.tuple #[.int .i64 (ckF L).1, .int .i64 (ckF L).2]) ∧ Below w.heap.size w w' := by
  obtain ⟨a, c, rfl, hc, hl⟩ := hv.lies
  have hB := hv.inb
  clear hv
  obtain ⟨n, hn⟩ : ∃ n, L.length = n := ⟨_, rfl⟩
  rw [hn] at hc ⊢
  obtain ⟨K, hK⟩ : ∃ K, Hid (ckF L = K) := ⟨_, rfl⟩
  rw [hK.out]
  go_enter Try.func25, Try.ntmps25
  by_cases h256 : 256 < n
  · have e1 : K = (0, 3) := by rw [← hK.out]; unfold ckF; rw [hn, if_pos h256]
    subst e1
    have hsp : (256 : Int) < (n : Int) := by omega
    go_wp2_with fail
    go_ret2
    exact ⟨rfl, Below.refl _ _⟩
  by_cases hn0 : n = 0
  · have e1 : K = (0, 140) := by rw [← hK.out]; unfold ckF; rw [hn, if_neg h256, if_pos hn0]
    subst e1 hn0
    go_wp2_with fail
    go_ret2
    exact ⟨rfl, Below.refl _ _⟩
  rcases hl with h0 | ⟨b, off, rfl, hC⟩
  · rw [h0] at hn; simp at hn; omega
  have hsp : ¬ (256 : Int) < (n : Int) := by omega
  have hsp0 : ¬ (n : Int) = 0 := by omega
  have HC := Hid.mk' hC
  have HB := Hid.mk' hB
  have HL := Hid.mk' hn
  clear hC hB hn
  go_wp2_with fail
  go_loopw [4] (fun i wr => ∃ k : Nat, k ≤ n ∧ i = .int .i64 k ∧ Hid (∀ j, j < k → okA L j = true) ∧ Hid (Below w.heap.size w wr)) (fun i _ => n - (intOf i).toNat)
  case atStart => exact ⟨0, Nat.zero_le _, rfl, Hid.mk' (fun j hj => by omega), Hid.mk' (Below.refl _ _)⟩
  case round =>
    obtain ⟨k, hk, rfl, hok, hJ⟩ := hrel
    by_cases hlt : k < n
    · obtain ⟨p, d, s, o, i, hq, q1, q2, q3⟩ := at_get (L := L) (k := k) (by rw [HL.out]; exact hlt)
      have hin := HB.out k p d s o i hq
      obtain ⟨c0, c1, c2, c3, c4⟩ := (HC.out.below hJ.out) k p d s o i hq
      have hmay : Hid (okA L k = mayR p d s o i) := Hid.mk' (by unfold okA mayQ; rw [List.getD_eq_getElem?_getD, hq]; exact may_same p d s o i hin.d0 hin.s0)
      have KC : Hid (∀ u, Calls Try.prog 33 #[insV p d s o i] u fun e w' => e = .returned (.int .i64 (ckN (mayR p d s o i))) ∧ Below u.heap.size u w') := Hid.mk' (fun u => rcheck_any p d s o i u hin)
      obtain ⟨B, hBm⟩ : ∃ B, mayR p d s o i = B := ⟨_, rfl⟩
      rw [hBm] at KC hmay
      have hlk : (k : Int) < (n : Int) := by omega
      clear hin hq q1 q2 q3 hBm
      go_wp2_with fail
      refine (KC.out _).mono ?_
      rintro e w3 ⟨rfl, b3⟩
      have J3 := Hid.mk' (hJ.out.trans (b3.mono hJ.out.size))
      clear b3
      cases B with
      | true =>
        rw [show ckN true = 0 from rfl]
        go_wp2_with fail
        go_roundw
        case rel => exact ⟨k + 1, hlt, by go_num, Hid.mk' (fun j hj => by
            by_cases c : j < k
            · exact hok.out j c
            · have : j = k := by omega
              rw [this]; exact hmay.out), J3⟩
        case measure => simp [intOf]; omega
      | false =>
        rw [show ckN false = 130 from rfl]
        have e1 : K = (k, 130) := by rw [← hK.out]; exact ckF_bad (by rw [HL.out]; exact h256) hok.out hmay.out (by rw [HL.out]; exact hlt)
        subst e1
        go_wp2_with fail
        go_ret2
        exact ⟨rfl, J3.out⟩
    · have hlk : ¬ (k : Int) < (n : Int) := by omega
      have hkn : k = n := by omega
      subst hkn
      have HOK := hok
      clear hok
      have KW : Hid (∀ (j : Nat) (u : World), j < k → Below w.heap.size w u → Calls Try.prog 34 #[.slice (some ⟨b, off, none⟩) k c, .int .i64 j] u fun e w' => e = .returned (.bool (wgN L j)) ∧ Below u.heap.size u w') := Hid.mk' (fun j u hj hu => rwrong_any b off c k j u HL.out (HC.out.below hu) HB.out (by omega) hj (HOK.out j hj))
      go_wp2_with fail
      go_loopw [5] (fun i ws => ∃ m : Nat, m ≤ k ∧ i = .int .i64 m ∧ Hid (∀ j, j < m → wgN L j = false) ∧ Hid (Below w.heap.size w ws)) (fun i _ => k - (intOf i).toNat)
      case atStart => exact ⟨0, Nat.zero_le _, rfl, Hid.mk' (fun j hj => by omega), hJ⟩
      case round =>
        clear hJ
        obtain ⟨m, hm, rfl, hwg, hJ⟩ := hrel
        by_cases hlt : m < k
        · have hlm : (m : Int) < (k : Int) := by omega
          have KM := Hid.mk' (KW.out m wr hlt hJ.out)
          obtain ⟨B, hB⟩ : ∃ B, Hid (wgN L m = B) := ⟨_, Hid.mk' rfl⟩
          rw [hB.out] at KM
          go_wp2_with fail
          refine KM.out.mono ?_
          rintro e w9 ⟨rfl, b9⟩
          have J9 := Hid.mk' (hJ.out.trans (b9.mono hJ.out.size))
          clear b9 KM
          cases B with
          | false =>
            go_wp2_with fail
            go_roundw
            case rel => exact ⟨m + 1, hlt, by go_num, Hid.mk' (fun j hj => by
                by_cases c : j < m
                · exact hwg.out j c
                · have : j = m := by omega
                  rw [this]; exact hB.out), J9⟩
            case measure => simp [intOf]; omega
          | true =>
            have e1 : K = (m, 140) := by rw [← hK.out]; exact ckF_wrong (by rw [HL.out]; exact h256) (fun j hj => HOK.out j (by rw [← HL.out]; exact hj)) hwg.out hB.out (by rw [HL.out]; exact hlt)
            subst e1
            go_wp2_with fail
            go_ret2
            exact ⟨rfl, J9.out⟩
        · have hlm : ¬ (m : Int) < (k : Int) := by omega
          have hmk : m = k := by omega
          subst hmk
          have e1 : K = (0, 0) := by rw [← hK.out]; exact ckF_ok (by rw [HL.out]; exact h256) (by rw [HL.out]; exact hn0) (fun j hj => HOK.out j (by rw [← HL.out]; exact hj)) (fun j hj => hwg.out j (by rw [← HL.out]; exact hj))
          subst e1
          go_wp2_with fail
          go_ret2
          exact ⟨rfl, hJ.out⟩

set_option maxHeartbeats 2000000 in
theorem rnext_f (v : Value) (x : Int) (w : World) (hv : Cd w v L) (x0 : -9223372036854775808 ≤ x) (x1 : x ≤ 9223372036854775807) :
    Calls Try.prog 10 #[v, .int .i64 x] w fun e w' => (∃ u, e = .returned (.tuple #[u, .int .i64 (nxE L x)]) ∧ Iw w' w.heap.size u (nxV L x)) ∧ Below w.heap.size w w' := by
  have KL := Hid.mk' (rcheck_f v w hv)
  have HV := Hid.mk' hv
  obtain ⟨a, c, rfl, hc, hl⟩ := hv.lies
  clear hv
  obtain ⟨P, hP⟩ : ∃ P, (ckF L).1 = P := ⟨_, rfl⟩
  obtain ⟨E, hE⟩ : ∃ E, Hid ((ckF L).2 = E) := ⟨_, Hid.mk' rfl⟩
  obtain ⟨n, hn⟩ : ∃ n, L.length = n := ⟨_, rfl⟩
  rw [hP, hE.out, hn] at KL
  have HNE : Hid (nxE L x = if E = 0 then (if x < 0 ∨ (n : Int) ≤ x then 2 else 0) else E) := Hid.mk' (by unfold nxE; rw [hE.out, hn])
  rw [hn]
  rw [hn] at hc
  clear hP
  obtain ⟨X, hX⟩ : ∃ X, Hid (nxE L x = X) := ⟨_, Hid.mk' rfl⟩
  obtain ⟨Y, hY⟩ : ∃ Y, Hid (nxV L x = Y) := ⟨_, Hid.mk' rfl⟩
  rw [hX.out, hY.out]
  rw [hX.out] at HNE
  go_enter Try.func10, Try.ntmps10
  go_wp2_with fail
  refine KL.out.mono ?_
  rintro e w3 ⟨rfl, b3⟩
  have B3 := Hid.mk' b3
  clear b3 KL
  by_cases hE0 : E = 0
  · rw [if_pos hE0] at HNE
    have HG : Hid (Good L) := Hid.mk' (good_of (by rw [hE.out, hE0]))
    have hn256 : n ≤ 256 := by rw [← hn]; exact HG.out.len
    have hn0 : 0 < n := by rw [← hn]; exact HG.out.pos
    have HL := Hid.mk' hn
    rcases hl with h0 | ⟨b, off, rfl, hC⟩
    · rw [h0] at hn; simp at hn; omega
    have HC := Hid.mk' (hC.below B3.out)
    clear hn hC
    subst hE0
    by_cases hx : x < 0 ∨ (n : Int) ≤ x
    · rw [if_pos hx] at HNE
      have e1 : X = 2 := HNE.out
      have e2 : Y = [] := by rw [← hY.out]; unfold nxV; rw [hX.out, e1]; rfl
      subst e1 e2
      go_wp2_with fail
      all_goals first
        | (exfalso; omega)
        | (go_ret2; exact ⟨⟨_, rfl, Iw.nil _ _⟩, B3.out⟩)
    · rw [if_neg hx] at HNE
      have e1 : X = 0 := HNE.out
      subst e1
      obtain ⟨k, rfl⟩ : ∃ k : Nat, x = k := ⟨x.toNat, by omega⟩
      have hk : k < n := by omega
      have hlk : (k : Int) < (n : Int) := by omega
      have eY : Hid (nxF L k = Y) := Hid.mk' (by rw [← hY.out]; unfold nxV; rw [hX.out]; rfl)
      obtain ⟨p, d, s, o, i, hq, q1, q2, q3⟩ := at_get (L := L) (k := k) (by rw [HL.out]; exact hk)
      have hin := HV.out.inb k p d s o i hq
      obtain ⟨o0, o1⟩ : -32768 ≤ o ∧ o ≤ 32767 := ⟨hin.o0, hin.o1⟩
      have HQ := Hid.mk' hq
      have hto : toA L k = k + 1 + o := by unfold toA; rw [q2]
      have EY : Hid (Y = if p = 36 then [] else if p = 22 then [(k : Int) + 1 + o] else if isJ p then (if o = 0 then [(k : Int) + 1] else [(k : Int) + 1, (k : Int) + 1 + o]) else if p = 34 ∧ 1 < imA L (top (stk L k)).toNat then [top (stk L k) + 1, (k : Int) + 1] else [(k : Int) + 1]) := Hid.mk' (by
        rw [← eY.out]; unfold nxF; rw [hto, q1, q2])
      have HEnd : Hid (p = 34 → ∃ r : Nat, top (stk L k) = r) := Hid.mk' (fun h => HG.out.end' (by rw [HL.out]; exact hk) (by rw [q1]; exact h))
      have HI : Hid (∀ u, Calls Try.prog 26 #[insV p d s o i] u fun e w' => e = .returned (.bool (isJ p)) ∧ Below u.heap.size u w') := Hid.mk' (fun u => rjumps_any p d s o i u)
      have HIn : Hid (∀ u, Below w3.heap.size w3 u → Calls Try.prog 27 #[.slice (some ⟨b, off, none⟩) n c, .int .i64 k] u fun e w' => (∃ r, e = .returned r ∧ Iw w' u.heap.size r (inL L k)) ∧ Below u.heap.size u w') := Hid.mk' (fun u hu => inside_any b off c n k u HL.out (HC.out.below hu) hn256 (by omega))
      obtain ⟨c0, c1, c2, c3, c4⟩ := HC.out k p d s o i hq
      have hk0 : ¬ (k : Int) < 0 := by omega
      have hnk : ¬ (n : Int) ≤ (k : Int) := by omega
      clear hin hq q1 q2 q3 hto hx
      by_cases hp36 : p = 36
      · rw [if_pos hp36] at EY
        have e2 : Y = [] := EY.out
        subst hp36 e2
        go_wp2_with fail
        go_ret2
        exact ⟨⟨_, rfl, Iw.nil _ _⟩, B3.out.alloc B3.out.size _⟩
      rw [if_neg hp36] at EY
      by_cases hp22 : p = 22
      · rw [if_pos hp22] at EY
        have e2 : Y = [(k : Int) + 1 + o] := EY.out
        subst hp22 e2
        go_wp2_with fail
        go_ret2
        have hB3s := B3.out.size
        have I := Iw.row (w3.alloc (.cells #[.int .u8 22, .int .u8 d, .int .u8 s, .int .i16 o, .int .i32 i] 37)) [(k : Int) + 1 + o] 3 (by simp)
        rw [World.size_alloc] at I
        refine ⟨⟨_, rfl, I.base (by omega)⟩, ?_⟩
        exact (B3.out.alloc hB3s _).alloc (by simp; omega) _
      rw [if_neg hp22] at EY
      obtain ⟨J, hJ⟩ : ∃ J, isJ p = J := ⟨_, rfl⟩
      rw [hJ] at EY HI
      have HJ : Hid (J = true → 0 ≤ o ∧ o ≤ 255) := Hid.mk' (fun h => by
        have hj : isJ (opA L k) = true := by rw [← h, ← hJ]; unfold opA; rw [List.getD_eq_getElem?_getD, HQ.out]; rfl
        obtain ⟨t, t1, t2, t3, t4, t5, t6⟩ := HG.out.jump (by rw [HL.out]; exact hk) hj
        have ho : ofA L k = o := by unfold ofA; rw [List.getD_eq_getElem?_getD, HQ.out]; rfl
        rw [ho] at t5 t6
        exact ⟨t5, t6⟩)
      have HJp : Hid (J = true → isJ p = true) := Hid.mk' (fun h => by rw [hJ]; exact h)
      clear hJ
      go_wp2_with fail
      refine (HI.out _).mono ?_
      rintro e w5 ⟨rfl, b5⟩
      obtain ⟨B5, d0, d1, d2, d3, d4⟩ := cells5 b5
      have B35 := Hid.mk' B5
      have B5 := Hid.mk' (B3.out.trans (B5.mono B3.out.size))
      have l5 : w3.heap.size < w5.heap.size := lt_of_cell d0
      clear b5
      cases J with
      | true =>
        obtain ⟨o0', o1'⟩ := HJ.out rfl
        rw [if_pos rfl] at EY
        by_cases hz : o = 0
        · rw [if_pos hz] at EY
          have e2 : Y = [(k : Int) + 1] := EY.out
          have hp34 : ¬ p = 34 := fun e => by
            have := HJp.out rfl
            rw [e] at this; simp [isJ] at this
          subst e2 hz
          go_wp2_with fail
          go_ret2
          exact ⟨⟨_, rfl, (Iw.row w5 [(k : Int) + 1] 3 (by simp)).base B5.out.size⟩, B5.out.alloc B5.out.size _⟩
        · rw [if_neg hz] at EY
          have e2 : Y = [(k : Int) + 1, (k : Int) + 1 + o] := EY.out
          have hz' : 0 < o := by omega
          subst e2
          go_wp2_with fail
          go_ret2
          exact ⟨⟨_, rfl, (Iw.row w5 [(k : Int) + 1, (k : Int) + 1 + o] 3 (by simp)).base B5.out.size⟩, B5.out.alloc B5.out.size _⟩
      | false =>
        rw [if_neg (by simp)] at EY
        by_cases hp34 : p = 34
        · obtain ⟨r, hr⟩ := HEnd.out hp34
          rw [hr] at EY
          have hs := top_mem hr
          have hrk : r < k := (stk_lt (L := L) (k := k) (r := r) (by rw [hs]; exact List.mem_cons_self)).1
          obtain ⟨p', d', s', o', i', hq', -, -, q3'⟩ := at_get (L := L) (k := r) (by rw [HL.out]; omega)
          have HC5 := HC.out.below B35.out
          rw [show ((r : Nat) : Int).toNat = r from rfl, q3'] at EY
          subst hp34
          have HQ' := Hid.mk' hq'
          obtain ⟨q, hqn⟩ : ∃ q, (stk L r).length = q := ⟨_, rfl⟩
          have hlast : Hid ((inL L k)[q]? = some (r : Int)) := Hid.mk' (by
            unfold inL
            rw [hs, List.reverse_cons, List.map_append, List.getElem?_append_right (by simp [hqn])]
            simp [hqn])
          have hlen : Hid ((inL L k).length = q + 1) := Hid.mk' (by rw [inL_len, hs, List.length_cons, hqn])
          have hq256 : q ≤ 256 := by have := stk_len (L := L) r; omega
          clear hs hq' q3' hqn
          go_wp2_with fail
          refine (HIn.out _ B35.out).mono ?_
          rintro e w6 ⟨⟨r1, rfl, hr1⟩, b6⟩
          obtain ⟨ra, rc, rfl, hz⟩ := iw_list hr1
          have B6 := Hid.mk' (B5.out.trans (b6.mono B5.out.size))
          rw [hlen.out] at hz ⊢
          rcases hz with h0 | ⟨ib, io, rfl, hib, hcc⟩
          · omega
          have e0 := hcc q _ hlast.out
          obtain ⟨-, -, -, -, e4⟩ := (HC.out.below (B35.out.trans (b6.mono (Nat.le_of_lt l5)))) r p' d' s' o' i' HQ'.out
          have hrn : (r : Int) < (n : Int) := by omega
          clear hcc b6 hr1
          by_cases hi : 1 < i'
          · rw [if_pos ⟨by trivial, hi⟩] at EY
            have e2 : Y = [(r : Int) + 1, (k : Int) + 1] := EY.out
            subst e2
            go_wp2_with fail
            go_ret2
            exact ⟨⟨_, rfl, (Iw.row w6 [(r : Int) + 1, (k : Int) + 1] 3 (by simp)).base B6.out.size⟩, B6.out.alloc B6.out.size _⟩
          · rw [if_neg (fun h => hi h.2)] at EY
            have e2 : Y = [(k : Int) + 1] := EY.out
            subst e2
            go_wp2_with fail
            go_ret2
            exact ⟨⟨_, rfl, (Iw.row w6 [(k : Int) + 1] 3 (by simp)).base B6.out.size⟩, B6.out.alloc B6.out.size _⟩
        · rw [if_neg (fun h => hp34 h.1)] at EY
          have e2 : Y = [(k : Int) + 1] := EY.out
          subst e2
          go_wp2_with fail
          go_ret2
          exact ⟨⟨_, rfl, (Iw.row w5 [(k : Int) + 1] 3 (by simp)).base B5.out.size⟩, B5.out.alloc B5.out.size _⟩
  · rw [if_neg hE0] at HNE
    have e1 : X = E := HNE.out
    have e2 : Y = [] := by rw [← hY.out]; unfold nxV; rw [hX.out, e1, if_neg hE0]
    subst e1 e2
    go_wp2_with fail
    go_ret2
    exact ⟨⟨_, rfl, Iw.nil _ _⟩, B3.out⟩
end Go.Proofs.Ytffjddabjjcjpaa
