/- TrackFinds. -/
import Derived.Test.YtagnaefpkgekmaaCr
import Derived.Test.YtagnaefpkgekmaaBi
namespace Go.Proofs.Ytagnaefpkgekmaa
open Go.ChangeShapes Go.WideShapes Go.ChangeAt Go.RowKit Go.Maps Go.Sort Go.Shelf
set_option maxRecDepth 10000

theorem ck_nf {f : Int → Int} (h : Fn f) : ckN (nf f) = 0 := by
  have := nf_len f
  unfold ckN
  rw [if_neg (by omega), if_pos (nf_ok h)]
theorem finds_list (o : Nat) (ho : o < 2049) : ∃ RL, shN [] 31 false (ptV 0 o) enV = (RL, 0) ∧ ckN RL = 0 ∧ RIn (RL, 0) ∧ byN RL 0 = (o : Int) := by
  have hp : isPt (ptV 0 o) = true := (isPt_iff _).2 ⟨rfl, by show (0 : Int) ≤ 0 ∧ (0 : Int) ≤ 256; omega, by show (0 : Int) ≤ (o : Int); omega, by show (o : Int) ≤ 2048; omega, rfl, rfl⟩
  have hc : ckN [] = 0 := rfl
  have hi : isId (ptV 0 o).id = true := rfl
  have hs : sayN 31 false true = 1 := rfl
  have hn : (ptV 0 o).off + sayN 31 false true - 1 = (o : Int) := by rw [hs]; show (o : Int) + 1 - 1 = o; omega
  have hf : Fn (pvF (byN []) (ptV 0 o).id (o : Int)) := (fn_by (l := []) rfl).upd ((isId_iff _).1 hi) (by show 0 ≤ max (0 : Int) (min (o : Int) 2048); omega) (by show max (0 : Int) (min (o : Int) 2048) ≤ 2048; omega)
  refine ⟨nf (pvF (byN []) (ptV 0 o).id (o : Int)), ?_, ck_nf hf, (show RIn (_, (0 : Int)) from rin_nf hf 0), ?_⟩
  · unfold shN
    rw [if_pos hc, if_pos (by decide), if_pos hp, if_pos (by decide)]
    unfold saN
    rw [hn, hs, if_neg (by decide)]
    unfold pvN
    rw [if_pos hc, if_pos hi, if_neg (by omega)]
  · rw [nf_by hf]
    show (if (0 : Int) = 0 then max (0 : Int) (min (o : Int) 2048) else (0 : Int)) = (o : Int)
    rw [if_pos rfl]; omega
theorem finds_in {RL : List Kn} (h : ckN RL = 0) {o : Nat} (hb : byN RL 0 = (o : Int)) (off at' size : Int) (h0 : 0 ≤ off) (h1 : off ≤ 2048) (hs : 1 ≤ size ∧ size ≤ 8) :
    wiN RL (ptV 0 off) at' size = (decide (-off ≤ at') && decide (at' ≤ (o : Int) - off - size), 0) := by
  have hp : isPt (ptV 0 off) = true := (isPt_iff _).2 ⟨rfl, by show (0 : Int) ≤ 0 ∧ (0 : Int) ≤ 256; omega, h0, h1, rfl, rfl⟩
  unfold wiN
  rw [if_pos h, if_pos hp, if_pos hs]
  show (decide (-off ≤ at') && decide (at' ≤ byN RL 0 - off - size), (0 : Int)) = _
  rw [hb]

set_option maxHeartbeats 8000000 in
theorem finds_any (x0 x1 x2 : Int) (W : World) (h0 : In64 x0) (h1 : In64 x1) (h2 : In64 x2) :
    Calls Try.prog 7 #[.int .i64 x0, .int .i64 x1, .int .i64 x2] W fun e w' => e = .returned (.bool true) ∧ Below W.heap.size W w' := by
  have l0 := brg_lt x0 2049 (by omega)
  have l1 := brg_lt x1 2200 (by omega)
  have l2 := brg_lt x2 8 (by omega)
  have K0 := fun u => brg_any x0 2049 u (by omega) (by omega) h0.1 h0.2
  have K1 := fun u => brg_any x1 2200 u (by omega) (by omega) h1.1 h1.2
  have K2 := fun u => brg_any x2 8 u (by omega) (by omega) h2.1 h2.2
  generalize brg x0 2049 = o at *
  generalize brg x1 2200 = b at *
  generalize brg x2 8 = s at *
  obtain ⟨RL, hRL, hck, hri, hby⟩ := finds_list o l0
  have HRL := Hid.mk' hRL
  have HRI := Hid.mk' hri
  have HW1 := Hid.mk' (finds_in hck hby 0 ((b : Int) - 50) (1 + (s : Int)) (by omega) (by omega) ⟨by omega, by omega⟩)
  have HW2 := Hid.mk' (fun m (h0 : (0 : Int) ≤ m) (h1 : m ≤ 2048) => finds_in hck hby m ((b : Int) - 50 - m) (1 + (s : Int)) h0 h1 ⟨by omega, by omega⟩)
  clear hRL hri hck hby h0 h1 h2
  go_enter Try.func7, Try.ntmps7
  go_wp2_with fail
  refine (works_any W).mono ?_
  rintro e w1 ⟨rfl, b1⟩
  have HB := Hid.mk' b1
  clear b1
  go_wp2_with (first
      | (go_at_call_of 30 (Value.int .i64 2049); refine (K0 _).mono ?_; rintro e u ⟨rfl, rfl⟩)
      | (go_at_call_of 30 (Value.int .i64 2200); refine (K1 _).mono ?_; rintro e u ⟨rfl, rfl⟩)
      | (go_at_call_of 30 (Value.int .i64 8); refine (K2 _).mono ?_; rintro e u ⟨rfl, rfl⟩))
  refine (pointer_any 0 (o : Int) _).mono ?_
  rintro e w2 ⟨rfl, b2⟩
  replace HB := Hid.mk' (HB.out.trans (b2.mono HB.out.size))
  clear b2
  go_wp2_with fail
  refine (end_any _).mono ?_
  rintro e w3 ⟨rfl, b3⟩
  replace HB := Hid.mk' (HB.out.trans (b3.mono HB.out.size))
  clear b3
  have KQ := shown_any (.slice none 0 0) [] 31 false (ptV 0 o) enV w3 (ks_nil _ _ _) (by omega) (by omega) (pt_in _ _ (by unfold In64; omega) (by unfold In64; omega)) en_in
  rw [HRL.out] at KQ
  go_wp2_with fail
  refine (KQ).mono ?_
  rintro e w4 ⟨⟨va, rfl, hrow⟩, b4⟩
  replace HB := Hid.mk' (HB.out.trans (b4.mono HB.out.size))
  have KA := Hid.mk' (own_ks hrow HRI.out.1 (Nat.le_trans HRI.out.2 (by decide)))
  clear hrow KQ
  clear b4
  go_wp2_with fail
  refine (pointer_any 0 0 _).mono ?_
  rintro e w5 ⟨rfl, b5⟩
  replace HB := Hid.mk' (HB.out.trans (b5.mono HB.out.size))
  replace KA := Hid.mk' (KA.out.below b5)
  clear b5
  have KQ := within_any va RL (ptV 0 0) ((b : Int) - 50) (1 + (s : Int)) w5 KA.out (pt_in _ _ (by unfold In64; omega) (by unfold In64; omega)) (by unfold In64; omega) (by unfold In64; omega)
  rw [HW1.out] at KQ
  by_cases hat : (b : Int) - 50 < 0
  · have e1 : (decide (-(0 : Int) ≤ (b : Int) - 50) && decide ((b : Int) - 50 ≤ (o : Int) - 0 - (1 + (s : Int)))) = false := by rw [decide_eq_false (by omega)]; rfl
    rw [e1] at KQ
    clear e1
    have hn0 : ¬ (0 : Int) ≤ (b : Int) - 50 := by omega
    go_wp2_with fail
    refine (KQ).mono ?_
    rintro e w6 ⟨rfl, b6⟩
    replace HB := Hid.mk' (HB.out.trans (b6.mono HB.out.size))
    replace KA := Hid.mk' (KA.out.below b6)
    clear KQ
    clear b6
    go_wp2_with fail
    go_ret
    exact ⟨rfl, HB.out⟩
  · have h0 : (0 : Int) ≤ (b : Int) - 50 := by omega
    obtain ⟨T, hT⟩ : ∃ T : Bool, decide ((b : Int) - 50 + (1 + (s : Int)) ≤ (o : Int)) = T := ⟨_, rfl⟩
    have e1 : (decide (-(0 : Int) ≤ (b : Int) - 50) && decide ((b : Int) - 50 ≤ (o : Int) - 0 - (1 + (s : Int)))) = T := by
      rw [← hT, decide_eq_true (by omega)]
      exact decide_eq_decide.2 ⟨fun h => by omega, fun h => by omega⟩
    rw [e1] at KQ
    obtain ⟨m, hm⟩ : ∃ m, min ((b : Int) - 50) 2048 = m := ⟨_, rfl⟩
    have hm0 : 0 ≤ m := by omega
    have hm1 : m ≤ 2048 := by omega
    have hmb : m ≤ (b : Int) - 50 := by omega
    have HE2 : Hid ((decide (-m ≤ (b : Int) - 50 - m) && decide ((b : Int) - 50 - m ≤ (o : Int) - m - (1 + (s : Int)))) = T) := Hid.mk' (by
      rw [← hT, decide_eq_true (by omega)]
      exact decide_eq_decide.2 ⟨fun h => by omega, fun h => by omega⟩)
    clear e1
    go_wp2_with fail
    refine (KQ).mono ?_
    rintro e w6 ⟨rfl, b6⟩
    replace HB := Hid.mk' (HB.out.trans (b6.mono HB.out.size))
    replace KA := Hid.mk' (KA.out.below b6)
    clear KQ
    clear b6
    go_wp2_with fail
    refine (pointer_any 0 m _).mono ?_
    rintro e w7 ⟨rfl, b7⟩
    replace HB := Hid.mk' (HB.out.trans (b7.mono HB.out.size))
    replace KA := Hid.mk' (KA.out.below b7)
    clear b7
    have KQ := within_any va RL (ptV 0 m) ((b : Int) - 50 - m) (1 + (s : Int)) w7 KA.out (pt_in _ _ (by unfold In64; omega) (by unfold In64; omega)) (by unfold In64; omega) (by unfold In64; omega)
    rw [HW2.out m hm0 hm1, HE2.out] at KQ
    have hTT := hT
    go_wp2_with fail
    refine (KQ).mono ?_
    rintro e w8 ⟨rfl, b8⟩
    replace HB := Hid.mk' (HB.out.trans (b8.mono HB.out.size))
    replace KA := Hid.mk' (KA.out.below b8)
    clear KQ
    clear b8
    go_wp2_with fail
    go_ret
    exact ⟨rfl, HB.out⟩

theorem walkTrackFinds (x0 x1 x2 : Int) (W : World) (w0 : (Lit.int .i64 x0).wf = true) (w1 : (Lit.int .i64 x1).wf = true) (w2 : (Lit.int .i64 x2).wf = true) :
    Calls Try.prog 7 #[.int .i64 x0, .int .i64 x1, .int .i64 x2] W fun e w' => e = .returned (.bool true) ∧ Below W.heap.size W w' :=
  finds_any x0 x1 x2 W (bounds_i64 w0) (bounds_i64 w1) (bounds_i64 w2)
end Go.Proofs.Ytagnaefpkgekmaa
