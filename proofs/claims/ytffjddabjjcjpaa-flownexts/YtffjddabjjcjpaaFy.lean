/- The walk of FlowNexts. -/
import Derived.Test.YtffjddabjjcjpaaFx
import Derived.Test.YtffjddabjjcjpaaFu
import Derived.Deep.CutBlock
namespace Go.Proofs.Ytffjddabjjcjpaa
open Go.ChangeShapes Go.WideShapes Go.ChangeAt Go.RowKit
set_option maxRecDepth 10000
variable {L : List Q5}

set_option maxHeartbeats 4000000 in
theorem flownexts_any (v : Value) (at' : Int) (W : World) (hv : Cd W v L) (hbig : L.length * 12 ≤ 140737488351232) (a0 : -9223372036854775808 ≤ at') (a1 : at' ≤ 9223372036854775807) :
    Calls Try.prog 3 #[v, .int .i64 at'] W fun e w' => e = .returned (.bool true) ∧ Below W.heap.size W w' := by
  have HV := Hid.mk' hv
  obtain ⟨a, c, rfl, hc, hl⟩ := hv.lies
  clear hv hl
  obtain ⟨n, hn⟩ : ∃ n, L.length = n := ⟨_, rfl⟩
  rw [hn] at hc HV hbig ⊢
  have HL := Hid.mk' hn
  clear hn
  have KSp : Hid (Calls Try.prog 8 #[.slice a n c] W fun e w' => (∃ g c, e = .returned (.slice (some ⟨g, 0, none⟩) n c) ∧ n + 3 ≤ c ∧ W.heap.size ≤ g ∧ Lie w' g 0 (L ++ [m5, m5, m5])) ∧ Below W.heap.size W w') := Hid.mk' (by
    have := spare_any _ W HV.out (by rw [HL.out]; exact hbig)
    rw [HL.out] at this
    exact this)
  have KRe : Hid (∀ (x : Int) (u : World), Below W.heap.size W u → -9223372036854775808 ≤ x → x ≤ 9223372036854775807 → Calls Try.prog 10 #[.slice a n c, .int .i64 x] u fun e w' => (∃ r, e = .returned (.tuple #[r, .int .i64 (nxE L x)]) ∧ Iw w' u.heap.size r (nxV L x)) ∧ Below u.heap.size u w') := Hid.mk' (fun x u hu => rnext_f _ x u (HV.out.below hu))
  go_enter Try.func3, Try.ntmps3
  go_wp2_with fail
  refine KSp.out.mono ?_
  rintro e w1 ⟨⟨g, c', rfl, hc', hgW, hX⟩, b1⟩
  have B1 := Hid.mk' b1
  have HX := Hid.mk' hX
  have C1 : Hid (∀ u, Below w1.heap.size w1 u → Cd u (.slice (some ⟨g, 0, none⟩) n c') L) := Hid.mk' (fun u hu => by
    refine ⟨⟨_, c', by rw [HL.out], by rw [HL.out]; omega, .inr ⟨g, 0, rfl, fun k p d s o i hk => ?_⟩⟩, HV.out.inb⟩
    refine (HX.out.below hu) k p d s o i ?_
    rw [List.getElem?_append_left (List.getElem?_eq_some_iff.1 hk).1]; exact hk)
  have KNx : Hid (∀ (x : Int) (u : World), Below w1.heap.size w1 u → -9223372036854775808 ≤ x → x ≤ 9223372036854775807 → Calls Try.prog 9 #[.slice (some ⟨g, 0, none⟩) n c', .int .i64 x] u fun e w' => (∃ r, e = .returned (.tuple #[r, .int .i64 (nxE L x)]) ∧ Iw w' u.heap.size r (nxV L x)) ∧ Below u.heap.size u w') := Hid.mk' (fun x u hu => next_f _ x u (C1.out u hu))
  clear b1 hX KSp
  go_upto_block 0 with fail
  go_cut [] from 15 to 54 (fun wx => Hid (Below w1.heap.size w1 wx))
  case first =>
   as_aux_lemma =>
   go_wp2_with fail
   go_loopw [6] (fun i wr => ∃ z : Int, -1 ≤ z ∧ z ≤ 258 ∧ i = .int .i64 z ∧ Hid (Below w1.heap.size w1 wr)) (fun i _ => (258 - intOf i).toNat)
   case atStart => exact ⟨-1, by omega, by omega, rfl, Hid.mk' (Below.refl _ _)⟩
   case round =>
     obtain ⟨z, hz0, hz1, rfl, hB⟩ := hrel
     -- what stands behind the loop
     by_cases hgo : z < (n : Int) + 1 ∧ z < 258
     · obtain ⟨hg1, hg2⟩ := hgo
       have K := KNx.out z wr hB.out (by omega) (by omega)
       go_wp2_with fail
       refine K.mono ?_
       rintro e w2 ⟨⟨r1, rfl, I1⟩, b2⟩
       have B2 := Hid.mk' (hB.out.trans (b2.mono hB.out.size))
       have K2 := KRe.out z w2 (B1.out.trans (B2.out.mono B1.out.size)) (by omega) (by omega)
       have I1 := Hid.mk' I1
       clear b2 K
       go_wp2_with fail
       refine K2.mono ?_
       rintro e w3 ⟨⟨r2, rfl, I2⟩, b3⟩
       have B3 := Hid.mk' (B2.out.trans (b3.mono B2.out.size))
       have J1 := Hid.mk' (I1.out.below b3)
       have I2 := Hid.mk' I2
       have hlen : (nxV L z).length ≤ 1000 := Nat.le_trans (nxV_len z) (by omega)
       have KE := Hid.mk' (eqi_any w3 _ _ r1 r2 _ J1.out I2.out hlen)
       obtain ⟨E, hE⟩ : ∃ E, nxE L z = E := ⟨_, rfl⟩
       rw [hE]
       clear b3 K2 hlen hE J1 I1 I2
       go_wp2_with fail
       refine KE.out.mono ?_
       rintro e w4 ⟨rfl, b4⟩
       have B4 := Hid.mk' (B3.out.trans (b4.mono B3.out.size))
       clear b4 KE
       by_cases hE0 : E = 0
       · subst hE0
         go_wp2_with fail
         go_roundw
         case rel => exact ⟨z + 1, by omega, by omega, by go_num, B4⟩
         case measure => simp [intOf]; omega
       · by_cases hE2 : E = 2
         · subst hE2
           go_wp2_with fail
           go_roundw
           case rel => exact ⟨z + 1, by omega, by omega, by go_num, B4⟩
           case measure => simp [intOf]; omega
         · have hb1 : (E == 0) = false := by simp [hE0]
           have hb2 : (E == 2) = false := by simp [hE2]
           have hb3 : (E != 0) = true := by simp [hE0]
           have hb4 : (E != 2) = true := by simp [hE2]
           go_wp2_with fail
           go_meet
           exact B4
     · by_cases hg1 : z < (n : Int) + 1
       · have hg2 : ¬ z < 258 := fun h => hgo ⟨hg1, h⟩
         go_wp2_with fail
         go_meet
         exact hB
       · go_wp2_with fail
         go_meet
         exact hB
  case rest =>
    have hB := hcut
    have K := KNx.out at' wc hB.out a0 a1
    go_wp2_with fail
    refine K.mono ?_
    rintro e w2 ⟨⟨r1, rfl, I1⟩, b2⟩
    have B2 := Hid.mk' (hB.out.trans (b2.mono hB.out.size))
    have K2 := KRe.out at' w2 (B1.out.trans (B2.out.mono B1.out.size)) a0 a1
    have I1 := Hid.mk' I1
    clear b2 K
    go_wp2_with fail
    refine K2.mono ?_
    rintro e w3 ⟨⟨r2, rfl, I2⟩, b3⟩
    have B3 := Hid.mk' (B2.out.trans (b3.mono B2.out.size))
    have J1 := Hid.mk' (I1.out.below b3)
    have I2 := Hid.mk' I2
    have hlen : (nxV L at').length ≤ 1000 := Nat.le_trans (nxV_len at') (by omega)
    have KE := Hid.mk' (eqi_any w3 _ _ r1 r2 _ J1.out I2.out hlen)
    obtain ⟨E, hE⟩ : ∃ E, nxE L at' = E := ⟨_, rfl⟩
    rw [hE]
    clear b3 K2 hlen hE J1 I1 I2
    go_wp2_with fail
    refine KE.out.mono ?_
    rintro e w4 ⟨rfl, b4⟩
    have B4 := Hid.mk' (B3.out.trans (b4.mono B3.out.size))
    have KK : Hid (Calls Try.prog 12 #[.slice (some ⟨g, 0, none⟩) n c', .slice a n c] w4 fun e w' => e = .returned (.bool true) ∧ Dr w4 w') := Hid.mk' (by
      have := kept_any g c' _ w4 (HV.out.below (B1.out.trans (B4.out.mono B1.out.size))) (by rw [HL.out]; exact hbig) (HX.out.below B4.out) (by rw [HL.out]; exact hc')
      rw [HL.out] at this
      exact this)
    clear b4 KE
    go_wp2_with fail
    refine KK.out.mono ?_
    rintro e w5 ⟨rfl, d5⟩
    have B5 := Hid.mk' (B4.out.trans (d5.below _))
    clear d5
    go_wp2_with fail
    refine (works_any _).mono ?_
    rintro e w6 ⟨rfl, b6⟩
    have B6 := Hid.mk' (B5.out.trans (b6.mono B5.out.size))
    clear b6
    go_wp2_with fail
    go_ret
    exact ⟨rfl, B1.out.trans (B6.out.mono B1.out.size)⟩

/-- The bytes that a slice takes are within reach. -/
theorem reach_by {H : Type} {ts : List TypeId} {ds : List (DataW H)} (h : (DataW.weightsEach Try.prog ts ds).all (· ≤ reachBytes) = true) {j : Nat} {t e : TypeId} {d : DataW H} {k : Nat} (ht : ts[j]? = some t) (hd : ds[j]? = some d) (hu : Try.prog.underlying t = some (.slice e))
    {α : Type} {xs : List α} (hx : d = .nil ∧ xs = [] ∨ ∃ el sp, d = .slice el sp ∧ el.length = xs.length) (hk : k = xs.length := by rfl) : k * Try.prog.bytesOf e ≤ 140737488351232 := by
  subst hk
  rcases hx with ⟨_, rfl⟩ | ⟨elems, spare, rfl, he⟩
  · simp
  · have h1 := sized_slice h ht hd hu
    rw [reachBytes] at h1
    have h2 : elems.length * Try.prog.bytesOf e ≤ (elems.length + spare.length) * Try.prog.bytesOf e := Nat.mul_le_mul_right _ (Nat.le_add_right _ _)
    rw [← he]
    omega
theorem insn_bytes : Try.prog.bytesOf 37 = 12 := by kernel_rfl

theorem walkFlowNexts (a : Option Addr) (c : Nat) (xs : List sh37.M) (x1 : Int) (W : World) (o0 : SlOk sh37 W a c xs) (l0 : xs.length * Try.prog.bytesOf 37 ≤ 140737488351232) (w1 : (Lit.int .i64 x1).wf = true) :
    Calls Try.prog 3 #[.slice a xs.length c, .int .i64 x1] W fun e w' => e = .returned (.bool true) ∧ Below W.heap.size W w' := by
  rw [insn_bytes] at l0
  exact flownexts_any _ x1 W (cd_open a c xs W o0) l0 (bounds_i64 w1).1 (bounds_i64 w1).2
end Go.Proofs.Ytffjddabjjcjpaa
