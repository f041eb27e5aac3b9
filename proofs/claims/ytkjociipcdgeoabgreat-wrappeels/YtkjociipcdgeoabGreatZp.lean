/- The walk of WrapPeels. -/
import Derived.Test.YtkjociipcdgeoabGreatZm
import Derived.Test.YtkjociipcdgeoabGreatRs
namespace Go.Proofs.YtkjociipcdgeoabGreat
open Go.ChangeShapes Go.WideShapes Go.ChangeAt Go.RowKit
set_option maxRecDepth 10000

theorem hb_sl {W : World} {b : Option Addr} {cap : Nat} {xs : List sh46.M} (o1 : SlOk sh46 W b cap xs) : Hb W b (xs.map sh46.cs) := by
  refine ⟨?_, ?_⟩
  · intro H hH
    obtain ⟨m, hm, rfl⟩ := List.mem_map.1 hH
    exact whh_open W m (o1.2.2 m hm)
  · rcases o1.2.1 with h | ⟨y, o, rfl, hc⟩
    · left; simpa using h
    · by_cases hx0 : xs.length = 0
      · left; simpa using hx0
      · right
        refine ⟨y, o, rfl, ?_, ?_⟩
        · obtain ⟨m, hm⟩ : ∃ m, xs[0]? = some m := ⟨_, List.getElem?_eq_getElem (by omega)⟩
          have hl := hh_len (whh_open W m (o1.2.2 m (List.mem_of_getElem? hm)))
          exact lt_of_cell (hc 0 m hm 0 _ (List.getElem?_eq_getElem (by omega)))
        · intro i H hi j v hv
          rw [List.getElem?_map] at hi
          obtain ⟨m, hm, rfl⟩ := Option.map_eq_some_iff.1 hi
          exact hc i m hm j v hv
theorem Hb.take {w : World} {a : Option Addr} {l : List (List Value)} (h : Hb w a l) (k : Nat) : Hb w a (l.take k) := by
  refine ⟨fun H hH => h.ok H (List.mem_of_mem_take hH), ?_⟩
  rcases h.lies with h | ⟨x, o, e, hx, hc⟩
  · left; rw [List.length_take]; omega
  · right
    refine ⟨x, o, e, hx, fun i H hi => hc i H ?_⟩
    rw [List.getElem?_take] at hi
    split at hi
    · exact hi
    · cases hi
/-- The i-th head of a row. -/
theorem Hb.get {w : World} {a : Option Addr} {l : List (List Value)} (h : Hb w a l) {N i : Nat} (hN : l.length = N) (hi : i < N) : ∃ x o, a = some ⟨x, o, none⟩ ∧ ∀ j, j < N → Hh (l.getD j hz) ∧ w.rangeAt x (o + j * 73) (l.getD j hz) ∧ w.cell? ⟨x, o + j * 73, none⟩ = some (.int .u8 (num (l.getD j hz) 0)) := by
  rcases h.lies with h0 | ⟨x, o, e, hx, hc⟩
  · omega
  · refine ⟨x, o, e, fun j hj => ?_⟩
    have hg : l[j]? = some (l.getD j hz) := by rw [List.getD_eq_getElem?_getD, List.getElem?_eq_getElem (by omega)]; rfl
    have hh := h.ok _ (List.mem_of_getElem? hg)
    have hr := hc j _ hg
    obtain ⟨⟨a0, -, -⟩, -⟩ := hh_cells hh
    exact ⟨hh, hr, by simpa using hr 0 _ a0⟩

/-- What lies in memory while WrapPeels goes on: the bytes at hand. -/
structure QJ (W : World) (B n : Nat) (v : Value) (zs : List Int) (w : World) : Prop where
  r : w.ownsRow B 5 1 v n (zs.map (Value.int .u8))
  old : Below W.heap.size W w
theorem QJ.below {W : World} {B n : Nat} {v : Value} {zs : List Int} {w w' : World} (h : QJ W B n v zs w) (b : Below w.heap.size w w') : QJ W B n v zs w' :=
  ⟨Kept.owns h.r (Kept.of_below (S := fun _ => False) b) (fun _ _ h => h), h.old.trans (b.mono h.old.size)⟩

set_option maxHeartbeats 4000000 in
theorem wpeels_walk (a : Option Addr) (n c : Nat) (ys : List Int) (b : Option Addr) (len cap : Nat) (l0 : List (List Value)) (W : World) (hn : ys.length = n) (h0 : Bs W a ys) (hl : l0.length = len) (hcap : len ≤ cap) (hH : Hb W b l0) :
    Calls Tryz.prog 3 #[.slice a n c, .slice b len cap] W fun e w' => e = .returned (.bool true) ∧ Below W.heap.size W w' := by
  have H0 := Hid.mk' h0
  have HN := Hid.mk' hn
  have HH0 := Hid.mk' hH
  have HL0 := Hid.mk' hl
  have hln : n ≤ 140737488355328 := by rw [← hn]; exact h0.len
  clear h0 hn hH hl
  go_enter Tryz.func3, Tryz.ntmps3
  go_wp2_with fail
  refine (wawake W).mono ?_
  rintro e w1 ⟨rfl, b1⟩
  have B1 := Hid.mk' b1
  clear b1
  go_upto_if 23 with fail
  go_cut [1] from 26 (fun s1 wx => ∃ (N : Nat) (l : List (List Value)), s1 = .slice b N cap ∧ N ≤ 8 ∧ Hid (l.length = N) ∧ Hid (Hb W b l) ∧ w1 = wx)
  case first =>
    by_cases hlong : 8 < len
    · have hc0 : ¬ cap = 0 := by omega
      have hc8 : 8 ≤ cap := by omega
      obtain ⟨ad, rfl⟩ : ∃ ad, b = some ad := by
        rcases HH0.out.lies with h | ⟨b, off, e, _⟩
        · have := HL0.out; omega
        · exact ⟨_, e⟩
      have HT := Hid.mk' (HH0.out.take 8)
      have HTL : Hid ((l0.take 8).length = 8) := Hid.mk' (by rw [List.length_take, HL0.out]; omega)
      go_wp2_with fail
      go_meet
      exact ⟨8, l0.take 8, by simp, by omega, HTL, HT, rfl⟩
    · go_wp2_with fail
      go_meet
      exact ⟨len, l0, rfl, by omega, HL0, HH0, rfl⟩
  case rest =>
  obtain ⟨N, l, rfl, h8, HL, HHb, rfl⟩ := hcut
  clear HH0 HL0 hcap
  have HS := Hid.mk' (stack_any a n c ys b N cap l w1 HN.out (H0.out.below B1.out) HL.out (HHb.out.below B1.out))
  have OKL := Hid.mk' HHb.out.ok
  by_cases he : skE l ys = 0
  · have e0 : (stP l ys).1 = 0 := by have h := he; unfold skE at h; rwa [if_pos (by rw [HL.out]; exact h8)] at h
    have eB : skB l ys = (stP l ys).2 := by unfold skB; rw [if_pos he]
    rw [eB, he] at HS
    have E0 := Hid.mk' e0
    have BB := Hid.mk' (stP_bytes l ys OKL.out H0.out.bytes)
    have BL : (stP l ys).2.length ≤ 140737488355328 := by
      rcases stP_len l ys OKL.out H0.out.bytes with h | ⟨-, h⟩
      · omega
      · rw [h, HN.out]; exact hln
    obtain ⟨BY, HBY⟩ : ∃ BY, Hid ((stP l ys).2 = BY) := ⟨_, rfl⟩
    rw [HBY.out] at HS BB BL
    obtain ⟨nb, HNB⟩ : ∃ nb, Hid (BY.length = nb) := ⟨_, rfl⟩
    rw [HNB.out] at HS BL
    clear e0 eB he
    go_upto_region 8 with (go_at_call 6; refine HS.out.mono ?_; rintro e w2 ⟨v, rfl, own, b2⟩; obtain ⟨a2, c2, rfl, s2, hc2, hn2⟩ := K05.own_bs own HNB.out BB.out (by rw [HNB.out]; omega))
    have Q2 : Hid (QJ W w1.heap.size nb (.slice a2 nb c2) BY w2) := Hid.mk' ⟨own, B1.out.trans (b2.mono B1.out.size)⟩
    have HN2 := Hid.mk' hn2
    clear own b2 s2 hn2 HS
    go_cut [7] from 37 to 46 (fun s7 wx => s7 = .bool (toldB l 0) ∧ w2 = wx)
    case first =>
      rcases Nat.eq_zero_or_pos N with hN0 | hN0
      · subst hN0
        have hb0 := Hid.mk' (show toldB l 0 = false by unfold toldB; rw [HL.out]; rfl)
        go_wp2_with fail
        go_meet
        exact ⟨by rw [hb0.out], rfl⟩
      · obtain ⟨x, o, rfl, hg⟩ := (HHb.out.below Q2.out.old).get HL.out hN0
        have cc := (hg 0 hN0).2.2
        have hb0 := Hid.mk' (show toldB l 0 = (num (l.getD 0 hz) 0 == 1) by unfold toldB; rw [HL.out, decide_eq_true hN0]; rfl)
        rw [show o + 0 * 73 = o by omega] at cc
        clear hg
        generalize num (l.getD 0 hz) 0 = kk at cc hb0
        go_wp2_with fail
        go_meet
        exact ⟨by rw [hb0.out], rfl⟩
    case rest =>
    obtain ⟨rfl, rfl⟩ := hcut
    go_wp2_with fail
    go_loopg [7, 8] N (fun f s7 s8 wr => ∃ i : Nat, s8 = .int .i64 i ∧ s7 = .bool (toldB l i) ∧ i ≤ N ∧ N - i ≤ f ∧ Hid (QJ W w1.heap.size nb (.slice a2 nb c2) BY wr))
    case atStart => exact ⟨0, rfl, rfl, by omega, by omega, Q2⟩
    case round =>
      clear Q2
      obtain ⟨i, rfl, rfl, hi, hf, HQ⟩ := hrel
      by_cases hlt : i < N
      · obtain ⟨x, o, rfl, hg⟩ := HHb.out.get HL.out hlt
        have hB : Below W.heap.size W wr := HQ.out.old
        obtain ⟨x', o', e', hg'⟩ := (HHb.out.below hB).get HL.out hlt
        cases e'
        obtain ⟨hh, hr, -⟩ := hg' i hlt
        have RG := Hid.mk' hr
        have HNX := Hid.mk' (next_any _ wr hh)
        have hh73 := Hid.mk' (hh_len hh)
        have HV : Hid (toldB l (i + 1) = (toldB l i && ((!(nx (l.getD i hz) == 0)) == decide (i + 1 < N)) && ((nx (l.getD i hz) == 0) || (nx (l.getD i hz) == num (l.getD (i + 1) hz) 0)))) := Hid.mk' (by rw [← HL.out]; rfl)
        have HC : Hid (i + 1 < N → ∀ u, Below W.heap.size W u → u.cell? ⟨x, o + (i + 1) * 73, none⟩ = some (.int .u8 (num (l.getD (i + 1) hz) 0))) := Hid.mk' (fun h u hu => by
          obtain ⟨x', o', e', hg'⟩ := (HHb.out.below hu).get HL.out hlt
          cases e'
          exact (hg' (i + 1) h).2.2)
        clear hg hg' hr hh hB
        obtain ⟨T, hT⟩ : ∃ T, toldB l i = T := ⟨_, rfl⟩
        obtain ⟨H, hH⟩ : ∃ H, l.getD i hz = H := ⟨_, rfl⟩
        rw [hT] at HV ⊢
        rw [hH] at HV RG HNX hh73
        obtain ⟨X, hX⟩ : ∃ X, nx H = X := ⟨_, rfl⟩
        obtain ⟨Y, hY⟩ : ∃ Y, num (l.getD (i + 1) hz) 0 = Y := ⟨_, rfl⟩
        rw [hX, hY] at HV
        rw [hX] at HNX
        rw [hY] at HC
        clear hT hH hX hY
        cases T with
        | false =>
          rw [Bool.false_and, Bool.false_and] at HV
          go_wp2_with (first
            | refine wpList_load_mid rfl 46 _ rfl x (o + i * 73) rfl H _ RG.out Tryz.underlying46 rfl (by rw [hh73.out]; exact info_hh) ?_
            | (go_at_call 7; refine HNX.out.mono ?_; rintro e w3 ⟨rfl, b3⟩; have Q3 := Hid.mk' (HQ.out.below b3); clear b3))
          go_roundg (N - (i + 1))
          case measure => omega
          case rel => exact ⟨i + 1, by go_num, by rw [HV.out], by omega, by omega, Q3⟩
        | true =>
          rw [Bool.true_and] at HV
          by_cases hd : i + 1 < N
          · have hdi : (i : Int) + 1 < (N : Int) := by omega
            have hdd := decide_eq_true hdi
            rw [decide_eq_true hd] at HV
            by_cases hx0 : X = 0
            · subst hx0
              go_wp2_with (first
                | refine wpList_load_mid rfl 46 _ rfl x (o + i * 73) rfl H _ RG.out Tryz.underlying46 rfl (by rw [hh73.out]; exact info_hh) ?_
                | (go_at_call 7; refine HNX.out.mono ?_; rintro e w3 ⟨rfl, b3⟩; have Q3 := Hid.mk' (HQ.out.below b3); clear b3))
              go_roundg (N - (i + 1))
              case measure => omega
              case rel => exact ⟨i + 1, by go_num, by rw [HV.out]; rfl, by omega, by omega, Q3⟩
            · have hxb : (X == 0) = false := by simp; exact hx0
              rw [hxb] at HNX HV
              go_wp2_with (first
                | refine wpList_load_mid rfl 46 _ rfl x (o + i * 73) rfl H _ RG.out Tryz.underlying46 rfl (by rw [hh73.out]; exact info_hh) ?_
                | (go_at_call 7; refine HNX.out.mono ?_; rintro e w3 ⟨rfl, b3⟩; have Q3 := Hid.mk' (HQ.out.below b3); clear b3; have cc := HC.out hd _ Q3.out.old))
              go_roundg (N - (i + 1))
              case measure => omega
              case rel => exact ⟨i + 1, by go_num, by rw [HV.out]; simp, by omega, by omega, Q3⟩
          · have hdi : ¬ (i : Int) + 1 < (N : Int) := by omega
            have hdd := decide_eq_false hdi
            rw [decide_eq_false hd] at HV
            by_cases hx0 : X = 0
            · subst hx0
              go_wp2_with (first
                | refine wpList_load_mid rfl 46 _ rfl x (o + i * 73) rfl H _ RG.out Tryz.underlying46 rfl (by rw [hh73.out]; exact info_hh) ?_
                | (go_at_call 7; refine HNX.out.mono ?_; rintro e w3 ⟨rfl, b3⟩; have Q3 := Hid.mk' (HQ.out.below b3); clear b3))
              go_roundg (N - (i + 1))
              case measure => omega
              case rel => exact ⟨i + 1, by go_num, by rw [HV.out]; rfl, by omega, by omega, Q3⟩
            · have hxb : (X == 0) = false := by simp; exact hx0
              rw [hxb] at HNX HV
              go_wp2_with (first
                | refine wpList_load_mid rfl 46 _ rfl x (o + i * 73) rfl H _ RG.out Tryz.underlying46 rfl (by rw [hh73.out]; exact info_hh) ?_
                | (go_at_call 7; refine HNX.out.mono ?_; rintro e w3 ⟨rfl, b3⟩; have Q3 := Hid.mk' (HQ.out.below b3); clear b3))
              go_roundg (N - (i + 1))
              case measure => omega
              case rel => exact ⟨i + 1, by go_num, by rw [HV.out]; simp, by omega, by omega, Q3⟩
      · obtain rfl : i = N := by omega
        clear hf hi hlt
        obtain ⟨T, hT⟩ : ∃ T, toldB l i = T := ⟨_, rfl⟩
        rw [hT]
        go_upto_if 85 with fail
        go_cut [14] from 86 (fun s14 wx => Hid (QJ W w1.heap.size nb (.slice a2 nb c2) BY wx))
        case first =>
          cases T with
          | false =>
            clear hT
            go_wp2_with fail
            go_meet
            exact HQ
          | true =>
            obtain ⟨p1, p2, p3, -, p4⟩ := told_says OKL.out H0.out.bytes E0.out (by rw [HL.out]; exact h8) (by rw [HL.out]; exact hT)
            rw [HBY.out] at p1 p2
            rw [HL.out] at p4
            have hi8 : i ≤ 140737488351232 := by omega
            have P6 := peel_any a2 nb c2 BY wr HNB.out (bs_ro HQ.out.r HNB.out BB.out (by rw [HNB.out]; exact BL)) HN2.out hc2
            unfold plT at P6
            rw [p1, p2, p3, show (toHs l).length = i by rw [← HL.out]; exact List.length_map _, HN.out] at P6
            have HP6 := Hid.mk' P6
            have EQY : Hid (∀ (u : World) (x y : Option Addr) (cx cy : Nat), Bs u x ys → Bs u y ys → Calls Tryz.prog 9 #[.slice x n cx, .slice y n cy] u fun e w' => e = .returned (.bool true) ∧ Dr u w') := Hid.mk' (fun u x y cx cy h1 h2 => by have := eq_at x y n n cx cy ys ys u HN.out HN.out h1 h2; rwa [show decide (ys = ys) = true by simp] at this)
            clear P6 p1 p2 p3 hT
            go_wp2_with (first
              | (go_at_call 8; refine HP6.out.mono ?_; rintro e0 w6 ⟨va, vr, rfl, h6⟩
                 obtain ⟨gq, ck, rfl, hck⟩ := own_some (h6.get (i := 0) rfl) p4
                 obtain ⟨ar, cr, rfl, SR, -, -⟩ := K05.own_bs (h6.get (i := 1) rfl) HN.out H0.out.bytes (by rw [HN.out]; exact hln)
                 have LK6 := hb_own (h6.get (i := 0) rfl) HL.out OKL.out
                 have Q6 := HQ.out.below h6.old)
              | (go_at_call 9; refine (EQY.out w6 ar a cr c SR (H0.out.below Q6.old)).mono ?_; rintro e0 w7 ⟨rfl, d7⟩))
            have LK := Hid.mk' (LK6.below (d7.below _))
            have Q7 := Hid.mk' (Q6.below (d7.below _))
            have LB := Hid.mk' (HHb.out.below Q7.out.old)
            clear d7 LK6 Q6 SR h6 HP6 EQY
            go_loopg [14] i (fun f s14 wy => ∃ j : Nat, s14 = .int .i64 j ∧ j ≤ i ∧ i - j ≤ f ∧ Hid (Dr w7 wy))
            case atStart => exact ⟨0, rfl, by omega, by omega, Dr.refl _⟩
            case round =>
              obtain ⟨j, rfl, hj, hf, HD⟩ := hrel
              by_cases hlt : j < i
              · obtain ⟨x, o, rfl, hg2⟩ := LB.out.get HL.out hlt
                obtain ⟨g', o', e', hg1⟩ := LK.out.get HL.out hlt
                cases e'
                obtain ⟨hhH, R1, -⟩ := hg1 j hlt
                obtain ⟨-, R2, -⟩ := hg2 j hlt
                obtain ⟨H, hH⟩ : ∃ H, l.getD j hz = H := ⟨_, rfl⟩
                rw [hH] at hhH R1 R2
                rw [Nat.zero_add] at R1
                have hh73 := Hid.mk' (hh_len hhH)
                have hne := neq_same (t := 46) (L := H) (hh_eq hhH)
                have S1 : wr.drew.rangeAt gq (j * 73) H := fun k v hv => ((HD.out.more 1).cell _).trans (R1 k v hv)
                have S2 : wr.drew.rangeAt x (o + j * 73) H := fun k v hv => ((HD.out.more 1).cell _).trans (R2 k v hv)
                have RR := Hid.mk' (And.intro S1 S2)
                clear R1 R2 S1 S2 hg1 hg2 hhH hH
                go_wp2_with fail
                refine wp_region_held_drew (S := fun u => u.rangeAt gq (j * 73) H ∧ u.rangeAt x (o + j * 73) H) (by kernel_rfl) RR.out (fun hHeld => ?_)
                change wpAnyH _ _ _ _ _ 9 #[false, false, false, false, false, false, false, false, false] _ _
                refine held_take 0 113 (.slice (some ⟨gq, 0, none⟩) i ck) rfl rfl (by kernel_rfl) (by kernel_rfl) (by kernel_rfl) (fun _ _ _ h => h) (Or.inl ⟨by rfl, fun u hu => ?_⟩) hHeld ?_
                · go_simp
                simp only [Act.put, List.setIfInBounds_toArray, List.set_cons_zero, List.set_cons_succ]
                refine held_take 1 114 (.int .i64 j) rfl rfl (by kernel_rfl) (by kernel_rfl) (by kernel_rfl) (fun _ _ _ h => h) (Or.inl ⟨by rfl, fun u hu => ?_⟩) hHeld ?_
                · go_simp
                simp only [Act.put, List.setIfInBounds_toArray, List.set_cons_zero, List.set_cons_succ]
                refine held_take 2 115 (.pointer (some ⟨gq, j * 73, none⟩)) rfl rfl (by kernel_rfl) (by kernel_rfl) (by kernel_rfl) (fun _ _ _ h => h) (Or.inl ⟨by rfl, fun u hu => ?_⟩) hHeld ?_
                · go_simp
                simp only [Act.put, List.setIfInBounds_toArray, List.set_cons_zero, List.set_cons_succ]
                refine held_take 3 116 (.agg H.toArray) rfl rfl (by kernel_rfl) (by kernel_rfl) (by kernel_rfl) (fun _ _ _ h => h) (yieldsIf_load_mid (by rfl) 46 _ rfl gq (j * 73) rfl H _ (fun u hu => hu.1) Tryz.underlying46 rfl (by rw [hh73.out]; exact info_hh)) hHeld ?_
                simp only [Act.put, List.setIfInBounds_toArray, List.set_cons_zero, List.set_cons_succ]
                refine held_take 4 117 (.slice (some ⟨x, o, none⟩) i cap) rfl rfl (by kernel_rfl) (by kernel_rfl) (by kernel_rfl) (fun _ _ _ h => h) (Or.inl ⟨by rfl, fun u hu => ?_⟩) hHeld ?_
                · go_simp
                simp only [Act.put, List.setIfInBounds_toArray, List.set_cons_zero, List.set_cons_succ]
                refine held_take 5 118 (.int .i64 j) rfl rfl (by kernel_rfl) (by kernel_rfl) (by kernel_rfl) (fun _ _ _ h => h) (Or.inl ⟨by rfl, fun u hu => ?_⟩) hHeld ?_
                · go_simp
                simp only [Act.put, List.setIfInBounds_toArray, List.set_cons_zero, List.set_cons_succ]
                refine held_take 6 119 (.pointer (some ⟨x, o + j * 73, none⟩)) rfl rfl (by kernel_rfl) (by kernel_rfl) (by kernel_rfl) (fun _ _ _ h => h) (Or.inl ⟨by rfl, fun u hu => ?_⟩) hHeld ?_
                · go_simp
                simp only [Act.put, List.setIfInBounds_toArray, List.set_cons_zero, List.set_cons_succ]
                refine held_take 7 120 (.agg H.toArray) rfl rfl (by kernel_rfl) (by kernel_rfl) (by kernel_rfl) (fun _ _ _ h => h) (yieldsIf_load_mid (by rfl) 46 _ rfl x (o + j * 73) rfl H _ (fun u hu => hu.2) Tryz.underlying46 rfl (by rw [hh73.out]; exact info_hh)) hHeld ?_
                simp only [Act.put, List.setIfInBounds_toArray, List.set_cons_zero, List.set_cons_succ]
                refine held_take 8 121 (.bool false) rfl rfl (by kernel_rfl) (by kernel_rfl) (by kernel_rfl) (fun _ _ _ h => h) (Or.inl ⟨by rfl, fun u hu => ?_⟩) hHeld ?_
                · go_simp
                simp only [Act.put, List.setIfInBounds_toArray, List.set_cons_zero, List.set_cons_succ]
                refine wpAnyH_done (by kernel_rfl) ?_ _
                have HD2 : Hid (Dr w7 wr.drew) := Hid.mk' (HD.out.more 1)
                clear HD RR hHeld
                go_wp2_with fail
                go_roundg (i - (j + 1))
                case measure => omega
                case rel => exact ⟨j + 1, by go_num, by omega, by omega, HD2⟩
              · go_wp2_with fail
                go_meet
                exact Hid.mk' (Q7.out.below (HD.out.below _))
        case rest =>
        have Q8 : Hid (QJ W W.heap.size nb (.slice a2 nb c2) BY wc) := Hid.mk' ⟨ownsRow_base hcut.out.r B1.out.size, hcut.out.old⟩
        clear hcut HQ
        go_wp2_with fail
        go_loopg [5, 15] i (fun f s5 s15 wr => ∃ (j : Nat) (aq : Option Addr) (nq cq : Nat) (zq : List Int), s15 = .int .i64 j ∧ s5 = .slice aq nq cq ∧ j ≤ i ∧ i - j ≤ f ∧ nq ≤ cq ∧ nq ≤ 140737488355328 ∧ Hid (zq.length = nq) ∧ Hid ((stP (l.drop j) ys).2 = zq) ∧ Hid (QJ W W.heap.size nq (.slice aq nq cq) zq wr))
        case atStart => exact ⟨0, a2, nb, c2, BY, rfl, rfl, by omega, by omega, hc2, BL, HNB, by rw [List.drop_zero]; exact HBY, Q8⟩
        case round =>
          clear Q8
          obtain ⟨j, aq, nq, cq, zq, rfl, rfl, hj, hf, hcq, hlq, HZQ, HST, HQ⟩ := hrel
          by_cases hlt : j < i
          · obtain ⟨x, o, rfl, hg⟩ := (HHb.out.below HQ.out.old).get HL.out hlt
            obtain ⟨hh, -, cc⟩ := hg j hlt
            have hgD : l[j]? = some (l.getD j hz) := by rw [List.getD_eq_getElem?_getD, List.getElem?_eq_getElem (by rw [HL.out]; exact hlt)]; rfl
            obtain ⟨q1, q2, q3, q4, q5⟩ := stP_pop OKL.out H0.out.bytes E0.out hgD
            obtain ⟨⟨-, k0, k1⟩, -⟩ := hh_cells hh
            rw [HST.out] at q1 q2 q3 q4 q5
            have HPP := pop_any (num (l.getD j hz) 0) aq nq cq zq wr k0 k1 HZQ.out (bs_ro HQ.out.r HZQ.out q4 (by rw [HZQ.out]; exact hlq)) hcq
            rw [q1, q2, q3] at HPP
            have HB2 : Hid (Bytes (stP (l.drop (j + 1)) ys).2) := Hid.mk' (stP_bytes _ ys (fun J hJ => OKL.out J (List.mem_of_mem_drop hJ)) H0.out.bytes)
            have hl2 : (stP (l.drop (j + 1)) ys).2.length ≤ 140737488355328 := by
              rcases stP_len (l.drop (j + 1)) ys (fun J hJ => OKL.out J (List.mem_of_mem_drop hJ)) H0.out.bytes with h | ⟨-, h⟩
              · omega
              · rw [h, HN.out]; exact hln
            have HRG : Hid (∀ u, Below W.heap.size W u → u.rangeAt x (o + j * 73) (l.getD j hz)) := Hid.mk' (fun u hu => by
              obtain ⟨x', o', e', hg'⟩ := (HHb.out.below hu).get HL.out hlt
              cases e'
              exact (hg' j hlt).2.1)
            obtain ⟨zr, hzr⟩ : ∃ zr, Hid ((stP (l.drop (j + 1)) ys).2 = zr) := ⟨_, rfl⟩
            rw [hzr.out] at HPP HB2 hl2
            obtain ⟨nr, hnr⟩ : ∃ nr, Hid (zr.length = nr) := ⟨_, rfl⟩
            rw [hnr.out] at HPP hl2
            have HP := Hid.mk' HPP
            have hh73 := Hid.mk' (hh_len hh)
            have hh1 := Hid.mk' (hh_one hh)
            have hne := neq_same (t := 46) (L := l.getD j hz) (hh_eq hh)
            clear q1 q2 q3 q4 q5 HPP hg hgD hh
            generalize l.getD j hz = H at *
            generalize num H 0 = kd at *
            go_upto_region 27 with (first
              | refine wpList_store_new rfl 46 _ _ rfl _ hz H (by rfl) (by rfl) (by rw [hh73.out, hz_len]) (by rw [hh73.out]; exact info_hh) hh1.out ?_
              | (go_at_call 10; refine HP.out.mono ?_; rintro e w3 ⟨v3, rfl, own3, b3⟩; obtain ⟨a3, c3, rfl, s3, hc3, -⟩ := K05.own_bs own3 hnr.out HB2.out (by rw [hnr.out]; exact hl2)))
            have b4 : Below w3.heap.size w3 (w3.alloc (.cells H.toArray 46)) := (Below.refl _ _).alloc (Nat.le_refl _) _
            have R4 : (w3.alloc (.cells H.toArray 46)).heap[w3.heap.size]? = some (.cells H.toArray 46 (0, 0)) := heap_alloc_new w3 _
            have Q4 : Hid (QJ W W.heap.size nr (.slice a3 nr c3) zr (w3.alloc (.cells H.toArray 46))) := Hid.mk' (QJ.below ⟨ownsRow_base own3 HQ.out.old.size, HQ.out.old.trans (b3.mono HQ.out.old.size)⟩ b4)
            clear own3 s3 b3 b4 HP
            generalize (w3.alloc (.cells H.toArray 46)) = w4 at R4 Q4 ⊢
            generalize w3.heap.size = g at R4 ⊢
            have RR : Hid (w4.drew.heap[g]? = some (.cells H.toArray 46 (0, 0)) ∧ w4.drew.rangeAt x (o + j * 73) H) := Hid.mk' ⟨R4, HRG.out _ Q4.out.old.drew⟩
            clear R4 cc
            refine wp_region_held_drew (S := fun u => u.heap[g]? = some (.cells H.toArray 46 (0, 0)) ∧ u.rangeAt x (o + j * 73) H) (by kernel_rfl) RR.out (fun hHeld => ?_)
            change wpAnyH _ _ _ _ _ 10 #[false, false, false, false, false, false, false, false, false, false] _ _
            refine held_take 0 139 (.int .i64 0) rfl rfl (by kernel_rfl) (by kernel_rfl) (by kernel_rfl) (fun _ _ _ h => h) (Or.inl ⟨by rfl, fun u hu => ?_⟩) hHeld ?_
            · go_simp
            simp only [Act.put, List.setIfInBounds_toArray, List.set_cons_zero, List.set_cons_succ]
            refine held_take 1 140 (.bool false) rfl rfl (by kernel_rfl) (by kernel_rfl) (by kernel_rfl) (fun _ _ _ h => h) (Or.inl ⟨by rfl, fun u hu => ?_⟩) hHeld ?_
            · go_simp
            simp only [Act.put, List.setIfInBounds_toArray, List.set_cons_zero, List.set_cons_succ]
            refine held_take 2 141 (.bool false) rfl rfl (by kernel_rfl) (by kernel_rfl) (by kernel_rfl) (fun _ _ _ h => h) (Or.inl ⟨by rfl, fun u hu => ?_⟩) hHeld ?_
            · go_simp
            simp only [Act.put, List.setIfInBounds_toArray, List.set_cons_zero, List.set_cons_succ]
            refine held_take 3 142 (.agg H.toArray) rfl rfl (by kernel_rfl) (by kernel_rfl) (by kernel_rfl) (fun _ _ _ h => h) (yieldsIf_load_mid (by rfl) 46 _ rfl g 0 rfl H _ (fun u hu => range_block hu.1) Tryz.underlying46 rfl (by rw [hh73.out]; exact info_hh)) hHeld ?_
            simp only [Act.put, List.setIfInBounds_toArray, List.set_cons_zero, List.set_cons_succ]
            refine held_take 4 143 (.slice (some ⟨x, o, none⟩) i cap) rfl rfl (by kernel_rfl) (by kernel_rfl) (by kernel_rfl) (fun _ _ _ h => h) (Or.inl ⟨by rfl, fun u hu => ?_⟩) hHeld ?_
            · go_simp
            simp only [Act.put, List.setIfInBounds_toArray, List.set_cons_zero, List.set_cons_succ]
            refine held_take 5 144 (.int .i64 j) rfl rfl (by kernel_rfl) (by kernel_rfl) (by kernel_rfl) (fun _ _ _ h => h) (Or.inl ⟨by rfl, fun u hu => ?_⟩) hHeld ?_
            · go_simp
            simp only [Act.put, List.setIfInBounds_toArray, List.set_cons_zero, List.set_cons_succ]
            refine held_take 6 145 (.pointer (some ⟨x, o + j * 73, none⟩)) rfl rfl (by kernel_rfl) (by kernel_rfl) (by kernel_rfl) (fun _ _ _ h => h) (Or.inl ⟨by rfl, fun u hu => ?_⟩) hHeld ?_
            · go_simp
            simp only [Act.put, List.setIfInBounds_toArray, List.set_cons_zero, List.set_cons_succ]
            refine held_take 7 146 (.agg H.toArray) rfl rfl (by kernel_rfl) (by kernel_rfl) (by kernel_rfl) (fun _ _ _ h => h) (yieldsIf_load_mid (by rfl) 46 _ rfl x (o + j * 73) rfl H _ (fun u hu => hu.2) Tryz.underlying46 rfl (by rw [hh73.out]; exact info_hh)) hHeld ?_
            simp only [Act.put, List.setIfInBounds_toArray, List.set_cons_zero, List.set_cons_succ]
            refine held_take 8 147 (.bool false) rfl rfl (by kernel_rfl) (by kernel_rfl) (by kernel_rfl) (fun _ _ _ h => h) (Or.inl ⟨by rfl, fun u hu => ?_⟩) hHeld ?_
            · go_simp
            simp only [Act.put, List.setIfInBounds_toArray, List.set_cons_zero, List.set_cons_succ]
            refine held_take 9 148 (.bool false) rfl rfl (by kernel_rfl) (by kernel_rfl) (by kernel_rfl) (fun _ _ _ h => h) (Or.inl ⟨by rfl, fun u hu => ?_⟩) hHeld ?_
            · go_simp
            simp only [Act.put, List.setIfInBounds_toArray, List.set_cons_zero, List.set_cons_succ]
            refine wpAnyH_done (by kernel_rfl) ?_ _
            have Q5 := Hid.mk' (Q4.out.below ((Below.refl w4.heap.size w4).drew))
            clear Q4 RR hHeld hne
            go_wp2_with fail
            go_roundg (i - (j + 1))
            case measure => omega
            case rel => exact ⟨j + 1, a3, nr, c3, zr, by go_num, rfl, by omega, by omega, hc3, hl2, hnr, hzr, Q5⟩
          · obtain rfl : j = i := by omega
            have hz2 : ys = zq := by rw [← HST.out, ← HL.out, List.drop_length]; rfl
            subst hz2
            obtain rfl : nq = n := by rw [← HZQ.out]; exact HN.out
            have EQY := Hid.mk' (eq_at aq a nq nq cq c ys ys wr HN.out HN.out (bs_ro HQ.out.r HN.out H0.out.bytes H0.out.len) (H0.out.below HQ.out.old))
            have hyy : decide (ys = ys) = true := by simp
            rw [hyy] at EQY
            clear hyy
            go_wp2_with (go_at_call 9; refine EQY.out.mono ?_; rintro e0 w7 ⟨rfl, d7⟩)
            go_ret
            exact ⟨rfl, (HQ.out.below (d7.below _)).old⟩
  · have eB : skB l ys = [] := by unfold skB; rw [if_neg he]
    obtain ⟨E, hE⟩ : ∃ E, skE l ys = E := ⟨_, rfl⟩
    rw [eB, hE] at HS
    rw [hE] at he
    have hed : decide (E = 0) = false := by simp; exact he
    have heb : (E == 0) = false := by simp; exact he
    clear hE eB
    go_wp2_with (go_at_call 6; refine HS.out.mono ?_; rintro e w2 ⟨v, rfl, own, b2⟩; obtain ⟨a2, c2, rfl⟩ := own_slice own)
    go_ret
    exact ⟨by simp, B1.out.trans (b2.mono B1.out.size)⟩

theorem walkWrapPeels (a : Option Addr) (c : Nat) (zs : List Int) (b : Option Addr) (cap : Nat) (xs : List sh46.M) (W : World) (h0 : Bs W a zs) (_n0 : (a = none → c = 0) ∧ zs.length ≤ c) (o1 : SlOk sh46 W b cap xs) (_l1 : xs.length ≤ 140737488351232) :
    Calls Tryz.prog 3 #[.slice a zs.length c, .slice b xs.length cap] W fun e w' => e = .returned (.bool true) ∧ Below W.heap.size W w' :=
  wpeels_walk a zs.length c zs b xs.length cap (xs.map sh46.cs) W rfl h0 (by simp) o1.1.2.1 (hb_sl o1)
end Go.Proofs.YtkjociipcdgeoabGreat
