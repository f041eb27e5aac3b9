/- The walk of the statement LeaseBooks. -/
import Derived.Test.YtnpcglgboemmcaaLs
import Derived.Deep.CutRange
import Derived.Deep.CutBlock
namespace Go.Proofs.Ytnpcglgboemmcaa
open Go.ChangeShapes Go.WideShapes Go.ChangeAt Go.RowKit

theorem BookIs.slt {w : World} {p : Nat} {a : Option Addr} {n c nx : Nat} {ov : Value} {L : List Loan} (h : BookIs w p a n c nx ov L) {k : Nat} (hk : bookS p ov k) : k < w.heap.size := by
  rcases hk with rfl | e
  · exact h.lt
  · exact (h.row.lt k e).2

theorem bookS_none {p k : Nat} (h : bookS p (.slice none 0 0) k) : k = p := by
  rcases h with h | h
  · exact h
  · simp [Value.ownBlock] at h
theorem refS_none {p k : Nat} (h : refS p (.slice none 0 0) (.slice none 0 0) k) : k = p := by
  rcases h with h | h | h
  · exact h
  · simp [Value.ownBlock] at h
  · simp [Value.ownBlock] at h

theorem Kept.undrew {S : Nat → Prop} {w w' : World} (h : Kept S w.drew w') : Kept S w w' := ⟨h.os, h.tape, h.output, h.size, h.block⟩

theorem back_drew (p : Nat) (a : Option Addr) (n c nx : Nat) (ov : Value) (L : List Loan) (id : Int) (w : World) (h : BookIs w p a n c nx ov L) :
    Calls Try.prog 16 #[.pointer (some ⟨p, 0, none⟩), .int .i64 id] w.drew fun e w' => e = .returned (.int .i64 (backE L id)) ∧ ∃ ov', BookIs w' p a n c nx ov' (backL L id) ∧ Kept (bookS p ov) w w' ∧ ov'.ownBlock = ov.ownBlock :=
  (back_any p a n c nx ov L id w.drew (h.below ((Below.refl _ _).drew))).mono fun _ _ ⟨h1, ov', h2, h3, h4⟩ => ⟨h1, ov', h2, h3.undrew, h4⟩

/-- What stands at the head of LeaseBooks' loop. -/
structure Bk (W wr : World) (zs : List Int) (n ci gi p q : Nat) (ai : Option Addr) (R : List Rg) (F : List Bool) : Prop where
  old : Below W.heap.size W wr
  both : ∃ ov av iv, BookIs wr p ai n ci R.length ov (live 0 R F) ∧ RefIs wr q n av iv R F ∧ (∀ k, bookS p ov k → ¬ refS q av iv k)
  inp : 0 < n → Buf wr gi zs ∧ ai = some ⟨gi, 0, none⟩ ∧ W.heap.size ≤ gi ∧ gi < p
  lt : W.heap.size ≤ p ∧ p < q

theorem Bk.below {W wr w' : World} {zs : List Int} {n ci gi p q : Nat} {ai : Option Addr} {R : List Rg} {F : List Bool} (h : Bk W wr zs n ci gi p q ai R F) (b : Below wr.heap.size wr w') : Bk W w' zs n ci gi p q ai R F := by
  obtain ⟨h1, ⟨ov, av, iv, hB, hR, hd⟩, h3, h4⟩ := h
  refine ⟨h1.trans (b.mono h1.size), ⟨ov, av, iv, hB.below b, hR.below b, hd⟩, fun h0 => ?_, h4⟩
  obtain ⟨k1, k2, k3, k4⟩ := h3 h0
  exact ⟨k1.below (by have := hB.lt; omega) b, k2, k3, k4⟩

theorem Bk.bs {W wr : World} {zs : List Int} {n ci gi p q : Nat} {ai : Option Addr} {R : List Rg} {F : List Bool} (h : Bk W wr zs n ci gi p q ai R F) (hn : zs.length = n) (hb : Bytes zs) : Bs wr ai zs := by
  by_cases h0 : 0 < n
  · obtain ⟨k1, k2, _⟩ := h.inp h0
    rw [k2]; exact k1.bs
  · exact ⟨by omega, hb, .inl (by omega)⟩

/-- What both books may have written, one behind the other. -/
theorem Bk.step {W wr w1 w2 : World} {zs : List Int} {n ci gi p q : Nat} {ai : Option Addr} {R R' : List Rg} {F F' : List Bool} {ov av iv ov' av' iv' : Value} (h : Bk W wr zs n ci gi p q ai R F) (hB : BookIs wr p ai n ci R.length ov (live 0 R F)) (hR : RefIs wr q n av iv R F) (hd : ∀ k, bookS p ov k → ¬ refS q av iv k)
    (k1 : Kept (bookS p ov) wr w1) (b1 : BookIs w1 p ai n ci R'.length ov' (live 0 R' F')) (o1 : ov'.ownBlock = ov.ownBlock ∨ ∃ g, ov'.ownBlock = some g ∧ wr.heap.size ≤ g)
    (k2 : Kept (refS q av iv) w1 w2) (b2 : RefIs w2 q n av' iv' R' F') (o2 : av'.ownBlock = av.ownBlock ∨ ∃ g, av'.ownBlock = some g ∧ w1.heap.size ≤ g) (o3 : iv'.ownBlock = iv.ownBlock ∨ ∃ g, iv'.ownBlock = some g ∧ w1.heap.size ≤ g) :
    Bk W w2 zs n ci gi p q ai R' F' := by
  have hd1 : ∀ k, bookS p ov' k → ¬ refS q av iv k := by
    intro k hk hr
    rcases hk with rfl | e
    · exact hd _ (.inl rfl) hr
    · rcases o1 with o1 | ⟨g, e1, e2⟩
      · exact hd k (.inr (o1 ▸ e)) hr
      · rw [e] at e1; cases e1
        have := hR.slt hr
        omega
  have hd2 : ∀ k, bookS p ov' k → ¬ refS q av' iv' k := by
    intro k hk hr
    have hk1 := b1.slt hk
    rcases hr with rfl | e | e
    · exact hd1 _ hk (.inl rfl)
    · rcases o2 with o2 | ⟨g, e1, e2⟩
      · exact hd1 k hk (.inr (.inl (o2 ▸ e)))
      · rw [e] at e1; cases e1; omega
    · rcases o3 with o3 | ⟨g, e1, e2⟩
      · exact hd1 k hk (.inr (.inr (o3 ▸ e)))
      · rw [e] at e1; cases e1; omega
  have hp := h.lt
  refine ⟨?_, ⟨ov', av', iv', b1.kept k2 hd1, b2, hd2⟩, fun h0 => ?_, hp⟩
  · have c1 : Below W.heap.size W w1 := h.old.trans (k1.below h.old.size (fun k hk => hB.apart (by omega)))
    exact c1.trans (k2.below c1.size (fun k hk => hR.above (by omega)))
  · obtain ⟨m1, m2, m3, m4⟩ := h.inp h0
    have g1 : gi < wr.heap.size := by have := hB.lt; omega
    exact ⟨(m1.kept g1 k1 (hB.apart m4)).kept (Nat.lt_of_lt_of_le g1 k1.size) k2 (hR.above (by omega)), m2, m3, m4⟩

theorem over_gen {wr : World} {zs : List Int} {n ci gi : Nat} {ai : Option Addr} (x y : Nat) (hin : 0 < n → Buf wr gi zs ∧ ai = some ⟨gi, 0, none⟩) (hbs : Bs wr ai zs) (hn : zs.length = n) (hc : n ≤ ci) (ha : ai = none → ci = 0) (hxy : x + y ≤ n) (hbig : n ≤ 140737488351300) :
    Calls Try.prog 12 #[.slice ai n ci, .slice (winA ai x y) y y, .agg #[.int .i64 x, .int .i64 y]] wr fun e w' => e = .returned (.bool true) ∧ Below wr.heap.size wr w' := by
  by_cases hy : y = 0
  · subst hy
    exact over_none ai n ci x zs wr hbs hn hc ha (by omega) hbig
  · obtain ⟨h1, rfl⟩ := hin (by omega)
    have : winA (some ⟨gi, 0, none⟩) x y = some ⟨gi, x, none⟩ := by simp [winA, hy, addr_add]
    rw [this]
    exact over_some gi n ci x y zs wr h1 hn hc hxy (by omega) hbig

set_option maxHeartbeats 4000000 in
set_option maxRecDepth 100000 in
theorem books_any (a0 : Option Addr) (c0 : Nat) (zs : List Int) (a1 : Option Addr) (c1 : Nat) (xs : List DoM) (W : World) (h0 : Bs W a0 zs) (n0 : (a0 = none → c0 = 0) ∧ zs.length ≤ c0) (o1 : SlOk sh40 W a1 c1 xs) (l1 : xs.length ≤ 140737488351232) (hbig : zs.length ≤ 140737488351232) :
    Calls Try.prog 4 #[.slice a0 zs.length c0, .slice a1 xs.length c1] W fun e w' => e = .returned (.bool true) ∧ Below W.heap.size W w' := by
  have HB := Hid.mk' h0
  have HA0 := Hid.mk' n0.1
  have HO := Hid.mk' o1
  clear h0 n0 o1
  obtain ⟨n, hn⟩ : ∃ n, n = zs.length := ⟨_, rfl⟩
  obtain ⟨ln, hln⟩ : ∃ n, n = xs.length := ⟨_, rfl⟩
  rw [← hn] at hbig ⊢
  rw [← hln] at l1 ⊢
  have HN := Hid.mk' hn.symm
  have HLN := Hid.mk' hln.symm
  clear hn hln
  go_enter Try.func4, Try.ntmps4
  go_wp2_with fail
  refine (copy_at a0 n c0 zs W HN.out HB.out HA0.out).mono ?_
  rintro e w1 ⟨v1, rfl, hown1, b1⟩
  obtain ⟨ai, ci, gi, hv1, hci, hai, hin⟩ : ∃ ai ci gi, v1 = .slice ai n ci ∧ n ≤ ci ∧ (ai = none → ci = 0) ∧ (0 < n → Buf w1 gi zs ∧ ai = some ⟨gi, 0, none⟩ ∧ W.heap.size ≤ gi ∧ gi < w1.heap.size) := by
    have hown1' := hown1
    rcases hown1.2 with ⟨rfl, h⟩ | ⟨g, cap, cur, rfl, hg, _, hc, _⟩
    · exact ⟨none, 0, 0, by rw [h], by omega, fun _ => rfl, fun h' => by omega⟩
    · exact ⟨_, cap, g, rfl, hc, (fun e => by cases e), fun _ => ⟨buf_own hown1' HB.out.bytes HB.out.len, rfl, hg, (hown1'.lt g rfl).2⟩⟩
  subst hv1
  have HIN := Hid.mk' hin
  have HAI := Hid.mk' hai
  have HB1 := Hid.mk' b1
  clear hown1 hin hai b1
  go_wp2_with fail
  refine (new_any ai n ci w1).mono ?_
  rintro e w2 ⟨rfl, hw2⟩
  have HW2 := Hid.mk' hw2
  clear hw2
  go_wp2_with fail
  refine (refnew_any a0 n c0 w2).mono ?_
  rintro e w3 ⟨rfl, hw3⟩
  have HI : Bk W w3 zs n ci gi w1.heap.size w2.heap.size ai [] [] := by
    have hw2 := HW2.out
    have hs2 : w2.heap.size = w1.heap.size + 1 := by rw [hw2]; simp
    have b12 : Below w1.heap.size w1 w2 := by rw [hw2]; exact (Below.refl _ _).alloc (Nat.le_refl _) _
    have b23 : Below w2.heap.size w2 w3 := by rw [hw3]; exact (Below.refl _ _).alloc (Nat.le_refl _) _
    have k2 : BookIs w2 w1.heap.size ai n ci 0 (.slice none 0 0) [] := by rw [hw2]; exact bookIs_new w1 ai n ci (by omega) hci
    refine ⟨(HB1.out.trans (b12.mono HB1.out.size)).trans (b23.mono (by have := HB1.out.size; omega)), ⟨_, _, _, k2.below b23, by rw [hw3]; exact refIs_new w2 n (by omega), ?_⟩, fun h => ?_, ⟨HB1.out.size, by omega⟩⟩
    · intro k hk hr
      have e1 := bookS_none hk
      have e2 := refS_none hr
      omega
    · obtain ⟨k1, k2, k3, k4⟩ := HIN.out h
      exact ⟨(k1.below k4 b12).below (by omega) b23, k2, k3, k4⟩
  clear HW2 hw3 HIN HB1
  generalize w2.heap.size = q at *
  generalize w1.heap.size = p at *
  have HI0 := Hid.mk' HI
  clear HI
  go_wp2_with fail
  go_loopg [8] 200 (fun g s8 wr => ∃ (k : Nat) (R : List Rg) (F : List Bool), s8 = .int .i64 k ∧ k ≤ 200 ∧ k ≤ ln ∧ 200 - k ≤ g ∧ R.length ≤ k ∧ Hid (Bk W wr zs n ci gi p q ai R F))
  case atStart => exact ⟨0, [], [], rfl, by omega, by omega, by omega, by simp, HI0⟩
  case round =>
    clear HI0
    obtain ⟨k, R, F, rfl, hk1, hk2, hg, hRk, hI⟩ := hrel
    by_cases hlt : k < ln ∧ k < 200
    · obtain ⟨hlt1, hlt2⟩ := hlt
      have hsp : (k : Int) < (ln : Int) := by omega
      have hsp2 : (k : Int) < 200 := by omega
      obtain ⟨b, off, bk, id, x, y, ha, hxk, q0, q1, q2, q3, hbl, hid, hx, hy⟩ := do_cells HO.out k (by rw [HLN.out]; exact hlt1)
      subst ha
      have d0 := (hI.out.old.cell (p := ⟨b, off + k * 4, none⟩) hbl).trans q0
      have d1 := (hI.out.old.cell (p := ⟨b, off + k * 4 + 1, none⟩) hbl).trans q1
      have d2 := (hI.out.old.cell (p := ⟨b, off + k * 4 + 2, none⟩) hbl).trans q2
      have d3 := (hI.out.old.cell (p := ⟨b, off + k * 4 + 3, none⟩) hbl).trans q3
      obtain ⟨ov, av, iv, hB, hR, hd⟩ := hI.out.both
      have HBK := Hid.mk' hB
      have HRF := Hid.mk' hR
      have HDJ := Hid.mk' hd
      have HQ : Hid (W.cell? ⟨b, off + k * 4 + 1, none⟩ = some (.int .i64 id) ∧ W.cell? ⟨b, off + k * 4 + 2, none⟩ = some (.int .i64 x) ∧ W.cell? ⟨b, off + k * 4 + 3, none⟩ = some (.int .i64 y)) := ⟨q1, q2, q3⟩
      clear q0 q1 q2 q3 hxk hB hR hd
      go_upto_if 39 with fail
      go_cut [] from 25 to 131 (fun wx => ∃ (R' : List Rg) (F' : List Bool), R'.length ≤ k + 1 ∧ Hid (Bk W wx zs n ci gi p q ai R' F'))
      case first =>
        cases bk with
        | true =>
          go_wp2_with fail
          have hE := both_back R F id HRF.out.len
          have HE := Hid.mk' hE
          have hee : ((if isOut F id then (0 : Int) else 22) != (if isOut F id then 0 else 22)) = false := by simp
          clear hE
          have cB := back_drew p ai n ci R.length ov (live 0 R F) id wr HBK.out
          rw [HE.out.1, HE.out.2] at cB
          have cR := refback_any q n av iv R F id
          generalize (if isOut F id then (0 : Int) else 22) = E at cB cR hee
          go_region_with (first | (go_at_call 16; refine cB.mono ?_; rintro e w5 ⟨rfl, ov5, hB5, hK5, hO5⟩; have dd1 := ((hI.out.old.trans (hK5.below hI.out.old.size (fun k hk => HBK.out.apart (by have := hI.out.lt; omega)))).cell (p := ⟨b, off + k * 4 + 1, none⟩) hbl).trans HQ.out.1; have HB5 := Hid.mk' hB5; have HK5 := Hid.mk' hK5; have HO5 := Hid.mk' hO5; clear hB5 hK5 hO5) | (go_at_call 17; refine (cR _ (HRF.out.kept HK5.out (fun i hi hs => HDJ.out i hs hi))).mono ?_; rintro e w6 ⟨rfl, hR6, hK6⟩; have HR6 := Hid.mk' hR6; have HK6 := Hid.mk' hK6; clear hR6 hK6))
          all_goals
            have HN' : Hid (Bk W w6 zs n ci gi p q ai R (if isOut F id then F.set id.toNat false else F)) := hI.out.step HBK.out HRF.out HDJ.out HK5.out HB5.out (.inl HO5.out) HK6.out HR6.out (.inl rfl) (.inl rfl)
            clear HB5 HK5 HO5 HR6 HK6 dd1
            go_wp2_with fail
            go_meet
            exact ⟨R, _, by omega, HN'⟩
        | false =>
          by_cases hin : inB x y n = true
          · have hin' := hin
            simp only [inB, decide_eq_true_eq] at hin'
            obtain ⟨px, rfl⟩ : ∃ t : Nat, x = t := ⟨x.toNat, by omega⟩
            obtain ⟨py, rfl⟩ : ∃ t : Nat, y = t := ⟨y.toNat, by omega⟩
            have hpq : px + py ≤ n := by omega
            clear hin hin'
            have hNA : 0 < n → ai ≠ none := fun h => by rw [(hI.out.inp h).2.1]; simp
            have HNA := Hid.mk' hNA
            clear hNA
            by_cases hbz : rbusy R F px py = true
            · have hb1 : ((live 0 R F).any fun l => mt l.2.1 l.2.2 px py) = true := by rw [live_any]; exact hbz
              have HBZ := Hid.mk' hbz
              have HB1 := Hid.mk' hb1
              clear hbz hb1
              go_wp2_with fail
              refine (blend_busy p ai n ci R.length ov (live 0 R F) px py wr HBK.out hpq HNA.out HB1.out).mono ?_
              rintro e w5 ⟨rfl, b5⟩
              have I5 := Hid.mk' (hI.out.below b5)
              have R5 := Hid.mk' (HRF.out.below b5)
              have dd2 := (I5.out.old.cell (p := ⟨b, off + k * 4 + 2, none⟩) hbl).trans HQ.out.2.1
              have dd3 := (I5.out.old.cell (p := ⟨b, off + k * 4 + 3, none⟩) hbl).trans HQ.out.2.2
              clear b5
              go_wp2_with fail
              refine (reflend_in q n av iv R F px py w5 R5.out (by omega) hpq).mono ?_
              rintro e w6 (⟨_, rfl, b6⟩ | ⟨hc, _⟩)
              · have I6 : Hid (Bk W w6 zs n ci gi p q ai R F) := I5.out.below b6
                clear b6 I5 R5 dd2 dd3
                go_wp2_with fail
                go_meet
                exact ⟨R, F, by omega, I6⟩
              · rw [HBZ.out] at hc; cases hc
            · have hbz : rbusy R F px py = false := by simpa using hbz
              have hb1 : ((live 0 R F).any fun l => mt l.2.1 l.2.2 px py) = false := by rw [live_any]; exact hbz
              have HBZ := Hid.mk' hbz
              have HB1 := Hid.mk' hb1
              clear hbz hb1
              have hee : ((R.length : Int) != (R.length : Int)) = false := by simp
              go_wp2_with fail
              refine (blend_yes p ai n ci R.length ov (live 0 R F) px py wr HBK.out (by omega) hpq HNA.out HB1.out).mono ?_
              rintro e w5 ⟨rfl, ov5, hB5, hK5, hO5⟩
              have HB5 : Hid (BookIs w5 p ai n ci (R ++ [((px : Int), (py : Int))]).length ov5 (live 0 (R ++ [((px : Int), (py : Int))]) (F ++ [true]))) := by
                rw [live_snoc R F 0 _ HRF.out.len, List.length_append, Nat.zero_add]; exact hB5
              have HK5 := Hid.mk' hK5
              have HO5 := Hid.mk' hO5
              have o5 : Below W.heap.size W w5 := hI.out.old.trans (hK5.below hI.out.old.size (fun k hk => HBK.out.apart (by have := hI.out.lt; omega)))
              have dd2 := (o5.cell (p := ⟨b, off + k * 4 + 2, none⟩) hbl).trans HQ.out.2.1
              have dd3 := (o5.cell (p := ⟨b, off + k * 4 + 3, none⟩) hbl).trans HQ.out.2.2
              clear hB5 hK5 hO5 o5
              go_wp2_with fail
              refine (reflend_in q n av iv R F px py w5 (HRF.out.kept HK5.out (fun i hi hs => HDJ.out i hs hi)) (by omega) hpq).mono ?_
              rintro e w6 (⟨hc, _⟩ | ⟨_, rfl, av6, iv6, hR6, hK6, hA6, hI6⟩)
              · rw [HBZ.out] at hc; cases hc
              · have I6 : Hid (Bk W w6 zs n ci gi p q ai (R ++ [((px : Int), (py : Int))]) (F ++ [true])) := hI.out.step HBK.out HRF.out HDJ.out HK5.out HB5.out HO5.out hK6 hR6 hA6 hI6
                have ee2 := (I6.out.old.cell (p := ⟨b, off + k * 4 + 2, none⟩) hbl).trans HQ.out.2.1
                have ee3 := (I6.out.old.cell (p := ⟨b, off + k * 4 + 3, none⟩) hbl).trans HQ.out.2.2
                clear hR6 hK6 hA6 hI6 HB5 HK5 HO5 dd2 dd3
                go_wp2_with fail
                refine (over_gen (gi := gi) px py (fun h => ⟨(I6.out.inp h).1, (I6.out.inp h).2.1⟩) (I6.out.bs HN.out HB.out.bytes) HN.out hci HAI.out hpq (by omega)).mono ?_
                rintro e w7 ⟨rfl, b7⟩
                have I7 : Hid (Bk W w7 zs n ci gi p q ai (R ++ [((px : Int), (py : Int))]) (F ++ [true])) := I6.out.below b7
                clear b7 I6 ee2 ee3
                go_wp2_with fail
                go_meet
                exact ⟨_, _, by simp; omega, I7⟩
          · have hin : inB x y n = false := by simpa using hin
            have HIN := Hid.mk' hin
            clear hin
            go_wp2_with fail
            refine (blend_out p ai n ci R.length ov (live 0 R F) x y wr HBK.out hx.1 hx.2 hy.1 hy.2 HIN.out).mono ?_
            rintro e w5 ⟨rfl, b5⟩
            have I5 := Hid.mk' (hI.out.below b5)
            have R5 := Hid.mk' (HRF.out.below b5)
            have dd2 := (I5.out.old.cell (p := ⟨b, off + k * 4 + 2, none⟩) hbl).trans HQ.out.2.1
            have dd3 := (I5.out.old.cell (p := ⟨b, off + k * 4 + 3, none⟩) hbl).trans HQ.out.2.2
            clear b5
            go_wp2_with fail
            refine (reflend_out q n av iv R F x y w5 R5.out hx.1 hx.2 hy.1 hy.2 HIN.out).mono ?_
            rintro e w6 ⟨rfl, b6⟩
            have I6 : Hid (Bk W w6 zs n ci gi p q ai R F) := I5.out.below b6
            clear b6 I5 R5 dd2 dd3
            go_wp2_with fail
            go_meet
            exact ⟨R, F, by omega, I6⟩
      case rest =>
        clear hI HBK HRF HDJ HQ d0 d1 d2 d3
        obtain ⟨R', F', hRk', hI'⟩ := hcut
        obtain ⟨ov', av', iv', hB', hR', _⟩ := hI'.out.both
        have HB' := Hid.mk' hB'
        have HR' := Hid.mk' hR'
        clear hB' hR'
        have hlo : (live 0 R' F').length = (outs R' F').length := by rw [← rgs_length, live_outs]
        have hol : (outs R' F').length ≤ 1000 := Nat.le_trans (outs_le _ _) (by omega)
        have cO := fun w h => out_any p ai n ci R'.length ov' (live 0 R' F') w h
        rw [live_outs, hlo] at cO
        have CO := Hid.mk' cO
        clear cO hlo
        obtain ⟨S, hS⟩ : ∃ S, S = outs R' F' := ⟨_, rfl⟩
        obtain ⟨sl, hsl⟩ : ∃ sl, sl = S.length := ⟨_, rfl⟩
        rw [← hS, ← hsl] at CO
        rw [← hS, ← hsl] at hol
        have HS := Hid.mk' hS
        have HSL := Hid.mk' hsl.symm
        clear hS hsl
        go_wp2_with fail
        refine (CO.out wc HB'.out).mono ?_
        rintro e w5 ⟨v5, rfl, hown5, b5⟩
        obtain ⟨a5, c5, rfl⟩ := own_slice hown5
        have HO5 := Hid.mk' hown5
        have HL5 := Hid.mk' b5
        clear hown5 b5
        go_wp2_with fail
        refine (CO.out w5 (HB'.out.below HL5.out)).mono ?_
        rintro e w6 ⟨v6, rfl, hown6, b6⟩
        obtain ⟨a6, c6, rfl⟩ := own_slice hown6
        have HO6 := Hid.mk' hown6
        have HL6 := Hid.mk' b6
        clear hown6 b6
        have hb56 : Hid (Below wc.heap.size wc w6) := HL5.out.trans (HL6.out.mono HL5.out.size)
        go_wp2_with fail
        refine (refout_any q n av' iv' R' F' w6 (HR'.out.below hb56.out)).mono ?_
        rw [← HS.out, HSL.out]
        rintro e w7 ⟨v7, rfl, hown7, b7⟩
        obtain ⟨a7, c7, rfl⟩ := own_slice hown7
        have HO57 : Hid (w7.ownsRow wc.heap.size 24 2 (.slice a5 sl c5) sl (rcells S)) := Kept.owns (Kept.owns HO5.out (Kept.of_below (S := fun _ => False) HL6.out) (fun _ _ h => h)) (Kept.of_below (S := fun _ => False) b7) (fun _ _ h => h)
        have HO67 : Hid (w7.ownsRow w5.heap.size 24 2 (.slice a6 sl c6) sl (rcells S)) := Kept.owns HO6.out (Kept.of_below (S := fun _ => False) b7) (fun _ _ h => h)
        have HB7 : Hid (Below wc.heap.size wc w7) := hb56.out.trans (b7.mono (hb56.out.size))
        have HO7 := Hid.mk' hown7
        have HG5 : Hid (∀ g, (Value.slice a5 sl c5).ownBlock = some g → g < w5.heap.size) := fun g hg => (HO5.out.lt g hg).2
        clear b7 hown7 hb56 HL5 HL6 HO5 HO6
        go_wp2_with fail
        refine (same_any a5 a7 sl sl c5 c7 S S w7 HSL.out HSL.out hol hol (rs_own HO57.out) (rs_own HO7.out)).mono ?_
        rintro e w8 ⟨rfl, d8⟩
        rw [show decide (S = S) = true from by simp]
        have HO58 : Hid (w8.ownsRow wc.heap.size 24 2 (.slice a5 sl c5) sl (rcells S)) := Kept.owns HO57.out (Kept.of_below (S := fun _ => False) (d8.below _)) (fun _ _ h => h)
        have HO68 : Hid (w8.ownsRow w5.heap.size 24 2 (.slice a6 sl c6) sl (rcells S)) := Kept.owns HO67.out (Kept.of_below (S := fun _ => False) (d8.below _)) (fun _ _ h => h)
        have HB8 : Hid (Below wc.heap.size wc w8) := HB7.out.trans (d8.below _)
        clear d8 HO57 HO67 HB7 HO7
        go_wp2_with fail
        go_loopg [16] sl (fun g s16 wr3 => ∃ m : Nat, s16 = .int .i64 m ∧ m ≤ sl ∧ sl - m ≤ g ∧ Hid (∃ X, wr3.ownsRow wc.heap.size 24 2 (.slice a5 sl c5) sl X) ∧ Hid (wr3.ownsRow w5.heap.size 24 2 (.slice a6 sl c6) sl (rcells S)) ∧ Hid (Below wc.heap.size wc wr3))
        case atStart => exact ⟨0, rfl, by omega, by omega, ⟨_, HO58.out⟩, HO68, HB8⟩
        case round =>
          clear HO58 HO68 HB8
          obtain ⟨m, rfl, hm1, hm2, hx5, hx6, hb⟩ := hrel
          by_cases hms : m < sl
          · obtain ⟨X, hX⟩ := hx5.out
            obtain ⟨gx, hgx⟩ : ∃ g, a5 = some ⟨g, 0, none⟩ := by
              rcases hX.2 with ⟨_, h2⟩ | ⟨g, cap, cur, h, _⟩
              · omega
              · simp at h; exact ⟨g, h.1⟩
            subst hgx
            have hXl := hX.1
            obtain ⟨u0, hu0⟩ : ∃ u, wr.cell? ⟨gx, m * 2, none⟩ = some u := ⟨_, (hX.cellAt (m * 2) (by omega)).trans (List.getElem?_eq_getElem (by omega))⟩
            have hfz := hX.frozenAt (m * 2)
            have h5' : Hid (∃ X, (wr.setCell ⟨gx, m * 2, none⟩ (.int .i64 (-9))).ownsRow wc.heap.size 24 2 (.slice (some ⟨gx, 0, none⟩) sl c5) sl X) := ⟨_, (hX.stored (m * 2) (.int .i64 (-9))).1⟩
            have hgw : wc.heap.size ≤ gx := (hX.lt gx rfl).1
            have h6' : Hid ((wr.setCell ⟨gx, m * 2, none⟩ (.int .i64 (-9))).ownsRow w5.heap.size 24 2 (.slice a6 sl c6) sl (rcells S)) := by
              refine Kept.owns hx6.out ((Kept.refl (fun k => k = gx) wr).setCell (fun _ => rfl) _) (fun g hg e => ?_)
              have h1 := (hx6.out.lt g hg).1
              have h2 := HG5.out gx rfl
              omega
            have hb' : Hid (Below wc.heap.size wc (wr.setCell ⟨gx, m * 2, none⟩ (.int .i64 (-9)))) := hb.out.setCell hgw _
            have hsp3 : (m : Int) < (sl : Int) := by omega
            clear hXl
            go_wp2_with fail
            go_roundg (sl - (m + 1))
            case measure => omega
            case rel => exact ⟨m + 1, by go_num, by omega, by omega, h5', h6', hb'⟩
          · go_wp2_with fail
            refine (refout_any q n av' iv' R' F' wr (HR'.out.below hb.out)).mono ?_
            rw [← HS.out, HSL.out]
            rintro e w9 ⟨v9, rfl, hown9, b9⟩
            obtain ⟨a9, c9, rfl⟩ := own_slice hown9
            have HX9 : Hid (Rs w9 a6 S) := rs_own (Kept.owns hx6.out (Kept.of_below (S := fun _ => False) b9) (fun _ _ h => h))
            have HY9 : Hid (Rs w9 a9 S) := rs_own hown9
            have HB9 : Hid (Below wc.heap.size wc w9) := hb.out.trans (b9.mono hb.out.size)
            clear hown9 b9 hx5 hx6 hb
            go_wp2_with fail
            refine (same_any a6 a9 sl sl c6 c9 S S w9 HSL.out HSL.out hol hol HX9.out HY9.out).mono ?_
            rintro e w10 ⟨rfl, d10⟩
            rw [show decide (S = S) = true from by simp]
            have I10 : Hid (Bk W w10 zs n ci gi p q ai R' F') := hI'.out.below (HB9.out.trans (d10.below _))
            clear d10 HX9 HY9 HB9
            go_wp2_with fail
            go_roundg (200 - (k + 1))
            case measure => omega
            case rel => exact ⟨k + 1, R', F', by go_num, by omega, by omega, by omega, by omega, I10⟩
    · have HBS := Hid.mk' (hI.out.bs HN.out HB.out.bytes)
      have HOL := Hid.mk' hI.out.old
      clear hI
      go_wp2_with fail
      all_goals
        refine (eq_at ai a0 n n ci c0 zs zs _ HN.out HN.out HBS.out (HB.out.below HOL.out)).mono ?_
        rintro e w5 ⟨rfl, d5⟩
        rw [show decide (zs = zs) = true from by simp]
        have b5 : Below W.heap.size W w5 := HOL.out.trans (d5.below _)
        clear d5
        go_wp2_with fail
        refine (awake_any w5).mono ?_
        rintro e w6 ⟨rfl, b6⟩
        have b7 : Below W.heap.size W w6 := b5.trans (b6.mono b5.size)
        clear b6 b5
        go_wp2_with fail
        go_ret
        exact ⟨rfl, b7⟩

theorem walkLeaseBooks (a0 : Option Addr) (c0 : Nat) (zs : List Int) (a1 : Option Addr) (c1 : Nat) (xs : List sh40.M) (W : World) (h0 : Bs W a0 zs) (n0 : (a0 = none → c0 = 0) ∧ zs.length ≤ c0) (o1 : SlOk sh40 W a1 c1 xs) (l1 : xs.length ≤ 140737488351232) (hbig : zs.length ≤ 140737488351232) :
    Calls Try.prog 4 #[.slice a0 zs.length c0, .slice a1 xs.length c1] W fun e w' => e = .returned (.bool true) ∧ Below W.heap.size W w' :=
  books_any a0 c0 zs a1 c1 xs W h0 n0 o1 l1 hbig
end Go.Proofs.Ytnpcglgboemmcaa
