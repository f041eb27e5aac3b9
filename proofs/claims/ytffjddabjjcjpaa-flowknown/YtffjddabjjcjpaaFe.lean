/- What is wrong at a place (the program); the contract of wrong. -/
import Derived.Test.YtffjddabjjcjpaaFd
import Derived.Test.YtffjddabjjcjpaaIg
namespace Go.Proofs.Ytffjddabjjcjpaa
open Go.ChangeShapes Go.WideShapes Go.ChangeAt Go.RowKit
set_option maxRecDepth 10000
variable {L : List Q5}

def mayQ (q : Q5) : Bool := mayB q.1 q.2.1 q.2.2.1 q.2.2.2.1 q.2.2.2.2
def okA (L : List Q5) (k : Nat) : Bool := mayQ (L.getD k default)
def toA (L : List Q5) (k : Nat) : Int := k + 1 + ofA L k

theorem jump_off {p d s o i : Int} (h : mayB p d s o i = true) (hj : isJ p = true) : 0 ≤ o ∧ o ≤ 255 := by
  unfold isJ at hj
  simp only [Bool.and_eq_true, decide_eq_true_eq] at hj
  have hp : p = 22 ∨ p = 23 ∨ p = 24 ∨ p = 25 ∨ p = 26 ∨ p = 27 ∨ p = 28 ∨ p = 29 ∨ p = 30 ∨ p = 31 ∨ p = 32 := by omega
  unfold mayB at h
  simp only [Bool.and_eq_true] at h
  have h2 := h.2.1.2
  rcases hp with rfl | rfl | rfl | rfl | rfl | rfl | rfl | rfl | rfl | rfl | rfl <;>
    (simp [omB, useN] at h2; omega)

theorem rep_imm {d s o i : Int} (h : mayB 33 d s o i = true) : 1 ≤ i ∧ i ≤ 16 := by
  unfold mayB at h
  simp only [Bool.and_eq_true] at h
  have h2 := h.2.2
  simp [imB, useN] at h2
  omega

theorem ok_jump {k : Nat} (h : okA L k = true) (hj : isJ (opA L k) = true) : 0 ≤ ofA L k ∧ ofA L k ≤ 255 := jump_off h hj
theorem ok_rep {k : Nat} (h : okA L k = true) (hj : opA L k = 33) : 1 ≤ imA L k ∧ imA L k ≤ 16 := by
  unfold okA mayQ at h
  unfold opA at hj
  rw [hj] at h
  exact rep_imm h

/-- The program: is something wrong at a place? -/
def wgN (L : List Q5) (k : Nat) : Bool :=
  if k + 1 = L.length then decide (opA L k ≠ 36)
  else if opA L k = 34 then decide (top (stk L k) = -1)
  else if opA L k = 33 then decide (enN L L.length k = -1) || decide (3 ≤ (stk L k).length)
  else if isJ (opA L k) then decide ((L.length : Int) ≤ toA L k) || decide ((k : Int) < top (stk L (toA L k).toNat))
  else false

set_option maxHeartbeats 2000000 in
theorem wrong_any (g b off c n k : Nat) (w : World) (hL : L.length = n) (hN : Ns w g L n) (hC : Lie w b off L) (hB : InbL L) (hn : n ≤ 256) (hk : k < n) (hok : okA L k = true) :
    Calls Try.prog 32 #[.pointer (some ⟨g, 0, none⟩), .slice (some ⟨b, off, none⟩) n c, .int .i64 k] w fun e w' => e = .returned (.bool (wgN L k)) ∧ Below w.heap.size w w' := by
  obtain ⟨p, d, s, o, i, hq, q1, q2, q3⟩ := at_get (L := L) (k := k) (by omega)
  have hin := hB k p d s o i hq
  have HJ : Hid (isJ p = true → 0 ≤ o ∧ o ≤ 255) := Hid.mk' (fun hj => by rw [← q1] at hj; rw [← q2]; exact ok_jump hok hj)
  obtain ⟨c0, c1, c2, c3, c4⟩ := hC k p d s o i hq
  have HK : Hid (Below w.heap.size w (w.alloc (.cells #[.int .u8 p, .int .u8 d, .int .u8 s, .int .i16 o, .int .i32 i] 37))) := (Below.refl _ _).alloc (Nat.le_refl _) _
  have HD : Hid (∀ u, Below w.heap.size w u → Calls Try.prog 29 #[.pointer (some ⟨g, 0, none⟩), .int .i64 k] u fun e w' => e = .returned (.int .i64 (stk L k).length) ∧ u = w') := Hid.mk' (fun u hu => depth_any g n k u (hN.below hu) hn hk)
  have HI : Hid (∀ u, Calls Try.prog 23 #[insV p d s o i] u fun e w' => e = .returned (.bool (isJ p)) ∧ Below u.heap.size u w') := Hid.mk' (fun u => isjump_any p d s o i u)
  have HT : Hid (∀ u, Calls Try.prog 22 #[.int .i64 k, insV p d s o i] u fun e w' => e = .returned (.int .i64 ((k : Int) + 1 + o)) ∧ Below u.heap.size u w') := Hid.mk' (fun u => target_any k p d s o i u (by omega) (by omega) hin.o0 hin.o1)
  have HE : Hid (wgN L k = if k + 1 = n then decide (p ≠ 36) else if p = 34 then decide (top (stk L k) = -1) else if p = 33 then decide (enN L n k = -1) || decide (3 ≤ (stk L k).length) else if isJ p then decide ((n : Int) ≤ k + 1 + o) || decide ((k : Int) < top (stk L ((k : Int) + 1 + o).toNat)) else false) := Hid.mk' (by
    unfold wgN toA
    rw [hL, q1, q2])
  have HN := Hid.mk' hN
  have CN := hN k hk
  have hkn : (k : Int) < n := by omega
  have hk256 : (k : Int) < 256 := by omega
  clear hN hC hB hin q1 q2 q3 hq hok
  obtain ⟨D, hD⟩ : ∃ D, (stk L k).length = D := ⟨_, rfl⟩
  obtain ⟨T, hT⟩ : ∃ T, top (stk L k) = T := ⟨_, rfl⟩
  obtain ⟨E, hE⟩ : ∃ E, enN L n k = E := ⟨_, rfl⟩
  rw [hT, hE, hD] at HE
  rw [hD] at HD
  rw [hT, hE] at CN
  obtain ⟨cn1, cn2⟩ := CN
  clear hD hT hE
  have b1 : g < w.heap.size := lt_of_cell cn1
  have cn1' : ∀ ob, (w.alloc ob).cell? ⟨g, k, none⟩ = some (.int .i64 T) := fun ob => (((Below.refl w.heap.size w).alloc (Nat.le_refl _) ob).cell (p := ⟨g, k, none⟩) b1).trans cn1
  have cn2' : ∀ ob, (w.alloc ob).cell? ⟨g, 256 + k, none⟩ = some (.int .i64 E) := fun ob => (((Below.refl w.heap.size w).alloc (Nat.le_refl _) ob).cell (p := ⟨g, 256 + k, none⟩) b1).trans cn2
  go_enter Try.func32, Try.ntmps32
  by_cases hlast : k + 1 = n
  · rw [if_pos hlast] at HE
    subst hlast
    go_wp2_with fail
    all_goals
      go_ret
      refine ⟨ret_bool ?_, HK.out⟩
      rw [HE.out]
      first | rfl | (simp; done) | (rw [Bool.eq_iff_iff]; simp [*]; done) | (rw [Bool.eq_iff_iff]; simp; omega)
  · rw [if_neg hlast] at HE
    have h1 : ¬ (k : Int) = (n : Int) - 1 := by omega
    by_cases hp34 : p = 34
    · rw [if_pos hp34] at HE
      subst hp34
      go_wp2_with fail
      all_goals
        go_ret
        refine ⟨ret_bool ?_, HK.out⟩
        rw [HE.out]
        first | rfl | (simp; done) | (rw [Bool.eq_iff_iff]; simp [*]; done) | (rw [Bool.eq_iff_iff]; simp; omega)
    · rw [if_neg hp34] at HE
      by_cases hp33 : p = 33
      · rw [if_pos hp33] at HE
        subst hp33
        by_cases hE1 : E = -1
        · subst hE1
          go_wp2_with fail
          all_goals
            go_ret
            refine ⟨ret_bool ?_, HK.out⟩
            rw [HE.out]
            first | rfl | (simp; done)
        · go_wp2_with (go_at_call 29; refine (HD.out _ HK.out).mono ?_; rintro e w2 ⟨rfl, rfl⟩)
          all_goals
            go_ret
            refine ⟨ret_bool ?_, HK.out⟩
            rw [HE.out]
            first | rfl | (simp [*]; done) | (rw [Bool.eq_iff_iff]; simp [*]; done) | (rw [Bool.eq_iff_iff]; simp [*]; omega)
      · rw [if_neg hp33] at HE
        obtain ⟨J, hJ⟩ : ∃ J, isJ p = J := ⟨_, rfl⟩
        rw [hJ] at HE HI HJ
        go_wp2_with fail
        refine (HI.out _).mono ?_
        rintro e w2 ⟨rfl, b2⟩
        obtain ⟨B2, d0, d1, d2, d3, d4⟩ := cells5 b2
        have B2 := Hid.mk' B2
        clear b2
        cases J with
        | false =>
          go_wp2_with fail
          go_ret
          refine ⟨ret_bool ?_, B2.out⟩
          rw [HE.out]; rfl
        | true =>
          obtain ⟨o0, o1⟩ := HJ.out rfl
          have hb2 := B2.out.size
          go_wp2_with fail
          refine (HT.out _).mono ?_
          rintro e w3 ⟨rfl, b3⟩
          have B3 := Hid.mk' (B2.out.trans (b3.mono hb2))
          clear b3
          by_cases hto : (n : Int) ≤ (k : Int) + 1 + o
          · go_wp2_with fail
            go_ret
            refine ⟨ret_bool ?_, B3.out⟩
            rw [HE.out]; simp [hto]
          · obtain ⟨t, ht⟩ : ∃ t : Nat, (k : Int) + 1 + o = t := ⟨((k : Int) + 1 + o).toNat, by omega⟩
            have htn : t < n := by omega
            have ct := (B3.out.cell (p := ⟨g, t, none⟩) b1).trans (HN.out t htn).1
            rw [ht] at HE hto ⊢
            rw [show ((t : Nat) : Int).toNat = t from rfl] at HE
            obtain ⟨X, hX⟩ : ∃ X, top (stk L t) = X := ⟨_, rfl⟩
            rw [hX] at HE ct
            clear hX ht
            have ht256 : (t : Int) < 256 := by omega
            have hto' : ¬ ((n : Int) ≤ (t : Int)) := hto
            go_wp2_with fail
            go_ret
            refine ⟨ret_bool ?_, B3.out⟩
            rw [HE.out]
            first | rfl | (simp; done) | (rw [Bool.eq_iff_iff]; simp)
end Go.Proofs.Ytffjddabjjcjpaa
