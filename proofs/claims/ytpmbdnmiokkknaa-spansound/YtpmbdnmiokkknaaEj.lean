/- The walk of SpanSound. -/
import Derived.Test.YtpmbdnmiokkknaaEg
import Derived.Test.YtpmbdnmiokkknaaEi
namespace Go.Proofs.Ytpmbdnmiokkknaa
open Go.ChangeShapes Go.WideShapes Go.ChangeAt Go.RowKit
set_option maxRecDepth 10000
set_option linter.unusedVariables false

theorem Tw.far {w u : World} {al ah bl bh x y : Int} (h : Tw w u al ah bl bh x y) (g : Nat) (a b : Int) (hg : g ≠ w.heap.size) (hl : w.heap.size ≤ g) : Tw w ((u.setCell ⟨g, 0, none⟩ (.int .u64 a)).setCell ⟨g, 1, none⟩ (.int .u64 b)) al ah bl bh x y := by
  refine ⟨below_set2 h.old hl _ _, ?_⟩
  rw [Below.heap_setCell _ ⟨g, 1, none⟩ _ w.heap.size (fun e => hg e.symm), Below.heap_setCell _ ⟨g, 0, none⟩ _ w.heap.size (fun e => hg e.symm)]
  exact h.blk

/-- All that a round asks: the sum of the spans, that of the numbers, and that it has it. -/
theorem sound_round (o al ah cl ch x kk : Int) (h : U4 al ah cl ch) (ho : 3 ≤ o ∧ o ≤ 13) (ha : al ≤ x ∧ x ≤ ah) (hb : cl ≤ kk ∧ kk ≤ ch) (hs : (o = 12 ∨ o = 13) → cl = ch ∧ cl ≤ 63) :
    ∃ S1 S2 N M : Int,
      (∀ u, Calls Try.prog 22 #[.int .u8 o, spV (al, ah), spV (cl, ch)] u fun e w' => e = .returned (.tuple #[spV (S1, S2), .int .i64 0]) ∧ Below u.heap.size u w') ∧
      (∀ u, Calls Try.prog 22 #[.int .u8 o, spV (x, x), spV (cl, cl)] u fun e w' => e = .returned (.tuple #[spV (N, N), .int .i64 0]) ∧ Below u.heap.size u w') ∧
      (∀ u, Calls Try.prog 29 #[.int .u8 o, .int .u64 x, .int .u64 cl] u fun e w' => e = .returned (.int .u64 N) ∧ u = w') ∧
      (∀ u, Calls Try.prog 29 #[.int .u8 o, .int .u64 x, .int .u64 kk] u fun e w' => e = .returned (.int .u64 M) ∧ u = w') ∧
      (∀ u, Calls Try.prog 15 #[spV (S1, S2), .int .u64 M] u fun e w' => e = .returned (.bool true) ∧ Below u.heap.size u w') ∧
      (∀ u, Calls Try.prog 13 #[spV (S1, S2)] u fun e w' => e = .returned (.int .i64 0) ∧ Below u.heap.size u w') := by
  obtain ⟨e1, e2, e3⟩ := so_in o al ah cl ch x kk ho h ha hb hs
  obtain ⟨f1, f2⟩ := so_one o x cl ho (fun k => ⟨h.b0, (hs k).2⟩)
  have hx : U4 x x cl cl := ⟨by have := h.a0; omega, by have := h.a3; omega, by have := h.a0; omega, by have := h.a3; omega, h.b0, h.b1, h.b0, h.b1⟩
  refine ⟨(doS o al ah cl ch).1, (doS o al ah cl ch).2, nuN o x cl, nuN o x kk, fun u => ?_, fun u => ?_, fun u => ?_, fun u => ?_, fun u => ?_, fun u => ?_⟩
  · have := do_any o al ah cl ch u h
    rw [e1] at this
    exact this
  · have := do_any o x x cl cl u hx
    rw [f1, f2] at this
    exact this
  · exact number_any o x cl u ho h.b0
  · exact number_any o x kk u ho (by have := h.b0; omega)
  · have := has_any (doS o al ah cl ch).1 (doS o al ah cl ch).2 (nuN o x kk) u
    rw [e2] at this
    exact this
  · have := check_any (doS o al ah cl ch).1 (doS o al ah cl ch).2 u
    rw [e3] at this
    exact this

set_option maxHeartbeats 2000000 in
theorem sounds_ints (al ah bl bh x y : Int) (W : World) (h : U4 al ah bl bh) (x0 : 0 ≤ x) (x1 : x ≤ 18446744073709551615) (y0 : 0 ≤ y) (y1 : y ≤ 18446744073709551615) :
    Calls Try.prog 7 #[twV al ah bl bh x y] W fun e w' => e = .returned (.bool true) ∧ Below W.heap.size W w' := by
  by_cases h1 : al ≤ ah
  · have e1 := ckS_0 h1
    by_cases h2 : bl ≤ bh
    · have e2 := ckS_0 h2
      have I1 := Hid.mk' (fun u => inside_any al ah x u h.a0 h.a3 h1 x0 x1)
      have I2 := Hid.mk' (fun u => inside_any bl bh y u h.b0 h.b3 h2 y0 y1)
      have HU := Hid.mk' h
      have HPQ := Hid.mk' (And.intro (inN_in h.a0 h.a3 h1 x0 x1) (inN_in h.b0 h.b3 h2 y0 y1))
      clear h h1 h2 x0 x1 y0 y1
      generalize inN al ah x = p at *
      generalize inN bl bh y = q at *
      go_enter Try.func7, Try.ntmps7
      go_wp2_with fail
      refine (works_any _).mono ?_
      rintro e w1 ⟨rfl, hb⟩
      have X := (Tw.new W al ah bl bh x y).below hb
      obtain ⟨c0, c1, c2, c3, c4, c5⟩ := X.cells
      have X := Hid.mk' X
      clear hb
      go_wp2_with fail
      refine (check_any _ _ _).mono ?_
      rintro e w2 ⟨rfl, hb⟩
      rw [e1]
      have X := X.out.below hb
      clear c0 c1 c2 c3 c4 c5
      obtain ⟨c0, c1, c2, c3, c4, c5⟩ := X.cells
      have X := Hid.mk' X
      clear hb
      go_wp2_with fail
      refine (check_any _ _ _).mono ?_
      rintro e w3 ⟨rfl, hb⟩
      rw [e2]
      have X := X.out.below hb
      clear c0 c1 c2 c3 c4 c5
      obtain ⟨c0, c1, c2, c3, c4, c5⟩ := X.cells
      have X := Hid.mk' X
      clear hb
      go_wp2_with fail
      go_region_held3 (fun w' => w'.cell? ⟨W.heap.size, 0, none⟩ = some (.int .u64 al) ∧ w'.cell? ⟨W.heap.size, 1, none⟩ = some (.int .u64 ah) ∧ w'.cell? ⟨W.heap.size, 2, none⟩ = some (.int .u64 bl) ∧ w'.cell? ⟨W.heap.size, 3, none⟩ = some (.int .u64 bh) ∧ w'.cell? ⟨W.heap.size, 4, none⟩ = some (.int .u64 x) ∧ w'.cell? ⟨W.heap.size, 5, none⟩ = some (.int .u64 y)) (go_keep) (first
        | (go_at_call 28; have hh := X4; refine (I2.out w4).mono ?_; rintro e w5 ⟨rfl, hb⟩; have X5 := X4.out.below hb; obtain ⟨e0, e1', e2', e3, e4, e5⟩ := X5.cells; have X5 := Hid.mk' X5; clear hb hh)
        | (go_at_call 28; refine (I1.out w3.drew).mono ?_; rintro e w4 ⟨rfl, hb⟩; have X4 := X.out.below (((Below.refl w3.heap.size w3).drew).trans hb); obtain ⟨d0, d1, d2, d3, d4, d5⟩ := X4.cells; have X4 := Hid.mk' X4; clear hb))
      all_goals
        go_wp2_with fail
        clear c0 c1 c2 c3 c4 c5 d0 d1 d2 d3 d4 d5 e0 e1 e2 e3 e4 e5 e1' e2' I1 I2 X X4
        go_loopw [7] (fun i wr => ∃ k : Nat, 3 ≤ k ∧ k ≤ 14 ∧ i = .int .u8 k ∧ Hid (Tw W wr al ah bl bh x y)) (fun i _ => 14 - (intOf i).toNat)
        case atStart => exact ⟨3, by omega, by omega, rfl, X5⟩
        case round =>
          obtain ⟨k, hk1, hk2, rfl, HX⟩ := hrel
          clear X5
          by_cases hlt : k ≤ 13
          · have hlk : (k : Int) ≤ 13 := by omega
            have hlg : (3 : Int) ≤ k := by omega
            by_cases h12 : k = 12
            · subst h12
              obtain ⟨m, hm⟩ : ∃ m, m = q % 64 := ⟨_, rfl⟩
              have q0 : 0 ≤ q := by have := HPQ.out.2.1; have := HU.out.b0; omega
              have m0 : 0 ≤ m := by omega
              have m1 : m ≤ 63 := by omega
              have ht : q.tmod 64 = m := by rw [hm]; exact Int.tmod_eq_emod_of_nonneg q0
              have ht2 : q % 64 = m := hm.symm
              clear hm
              obtain ⟨S1, S2, N, M, k1, k2, k3, k4, k5, k6⟩ := sound_round 12 al ah m m p m ⟨HU.out.a0, HU.out.a1, HU.out.a2, HU.out.a3, m0, by omega, m0, by omega⟩ (by decide) HPQ.out.1 ⟨Int.le_refl _, Int.le_refl _⟩ (fun _ => ⟨rfl, m1⟩)
              have K1 := Hid.mk' k1
              have K2 := Hid.mk' k2
              have K3 := Hid.mk' k3
              have K4 := Hid.mk' k4
              have K5 := Hid.mk' k5
              have K6 := Hid.mk' k6
              clear k1 k2 k3 k4 k5 k6
              have X := HX.out
              obtain ⟨c0, c1, c2, c3, c4, c5⟩ := X.cells
              have l0 : W.heap.size < wr.heap.size := X.lt
              have X := Hid.mk' X
              go_wp2_with fail
              refine (one_any m _).mono ?_
              rintro e w0 ⟨rfl, hb⟩
              have B8 := (Box.new wr bl bh rfl).below hb
              have X := X.out.below ((bl1 wr (spO bl bh)).trans (hb.mono (bl1 wr (spO bl bh)).size))
              clear hb c0 c1 c2 c3 c4 c5
              obtain ⟨c0, c1, c2, c3, c4, c5⟩ := X.cells
              have b0 := B8.c0
              have b1 := B8.c1
              have b2 := B8.fz 0
              have b3 := B8.fz 1
              have hn1 : ¬ (wr.heap.size = W.heap.size) := by omega
              have hn2 : ¬ (W.heap.size = wr.heap.size) := by omega
              have B8 := Hid.mk' B8
              have X := Hid.mk' (X.far wr.heap.size m m hn1 (by omega))
              go_wp2_with fail
              refine (K1.out _).mono ?_
              rintro e w1 ⟨rfl, hb⟩
              have B8 := Hid.mk' ((B8.out.set m m).below hb)
              have X := Hid.mk' (X.out.below hb)
              clear hb c0 c1 c2 c3 c4 c5 l0 b0 b1 b2 b3 hn1 hn2
              go_wp2_with fail
              have B9 : Hid (Box (w1.alloc (spO S1 S2)) w1.heap.size S1 S2) := Hid.mk' (Box.new w1 S1 S2 rfl)
              have B8 := Hid.mk' (B8.out.below (bl1 w1 (spO S1 S2)))
              have X := Hid.mk' (X.out.below (bl1 w1 (spO S1 S2)))
              obtain ⟨v0, hv⟩ : ∃ v0, v0 = w1.alloc (spO S1 S2) := ⟨_, rfl⟩
              rw [← hv] at B9 B8 X ⊢
              clear hv
              obtain ⟨g9, hg9⟩ : ∃ g9, g9 = w1.heap.size := ⟨_, rfl⟩
              rw [← hg9] at B9 ⊢
              clear hg9
              obtain ⟨g8, hg8⟩ : ∃ g8, g8 = wr.heap.size := ⟨_, rfl⟩
              rw [← hg8] at B8 ⊢
              clear hg8
              go_cut [11, 12] from 69 to 78 (fun s11 s12 wc => ∃ g : Nat, s11 = .pointer (some ⟨g, 0, none⟩) ∧ s12 = .int .i64 0 ∧ Hid (Below v0.heap.size v0 wc ∧ Box wc g N N))
              case first =>
                as_aux_lemma =>
                  refine wp_region_held_drew (S := fun u => Below v0.heap.size v0 u) (by kernel_rfl) ((Below.refl v0.heap.size v0).drew) (fun hHeld => ?_)
                  change wpAnyH _ _ _ _ _ 13 #[false, false, false, false, false, false, false, false, false, false, false, false, false] _ _
                  have HB8 : Hid (∀ u, Below v0.heap.size v0 u → u.cell? ⟨g8, 0, none⟩ = some (.int .u64 m)) := Hid.mk' (fun u hu => (B8.out.below hu).c0)
                  obtain ⟨vs, hvs⟩ : ∃ vs, vs = v0.drew := ⟨_, rfl⟩
                  change wpAnyH _ _ _ _ _ _ _ _ v0.drew
                  rw [← hvs] at hHeld ⊢
                  have Svs := Hid.mk' hHeld
                  clear hvs
                  refine held_take 0 70 (.int .u8 12) rfl rfl (by kernel_rfl) (by kernel_rfl) (by kernel_rfl) (fun _ _ _ h => h) (Or.inl ⟨by rfl, fun u hu => ?_⟩) Svs.out ?_
                  · go_simp
                  simp only [Act.put, List.setIfInBounds_toArray, List.set_cons_zero, List.set_cons_succ]
                  refine held_take 1 71 (.int .u64 p) rfl rfl (by kernel_rfl) (by kernel_rfl) (by kernel_rfl) (fun _ _ _ h => h) (Or.inl ⟨by rfl, fun u hu => ?_⟩) Svs.out ?_
                  · go_simp
                  simp only [Act.put, List.setIfInBounds_toArray, List.set_cons_zero, List.set_cons_succ]
                  refine held_take 3 73 (.pointer (some ⟨g8, 0, none⟩)) rfl rfl (by kernel_rfl) (by kernel_rfl) (by kernel_rfl) (fun _ _ _ h => h) (Or.inl ⟨by rfl, fun u hu => ?_⟩) Svs.out ?_
                  · go_simp
                  simp only [Act.put, List.setIfInBounds_toArray, List.set_cons_zero, List.set_cons_succ]
                  refine held_take 4 74 (.int .u64 m) rfl rfl (by kernel_rfl) (by kernel_rfl) (by kernel_rfl) (fun _ _ _ h => h) (Or.inl ⟨by rfl, fun u hu => ?_⟩) Svs.out ?_
                  · have q0 := HB8.out u hu
                    go_simp
                  simp only [Act.put, List.setIfInBounds_toArray, List.set_cons_zero, List.set_cons_succ]
                  refine wpAnyH_ready (rs := [2, 10]) (by kernel_rfl) (by simp) (AllReadyH.cons rfl (fun K hK => ?_) (AllReadyH.cons rfl (fun K hK => ?_) (AllReadyH.nil)))
                  · go_simp
                    go_wp2_with (first | (go_at_call 9; refine (one_any p vs).mono ?_; rintro e v1 ⟨rfl, hb⟩))
                    have Sv1 := Hid.mk' (Svs.out.trans (hb.mono Svs.out.size))
                    clear hb
                    refine hK.out _ _ Sv1.out (fun _ => ?_)
                    clear hK K
                    try simp only [List.setIfInBounds_toArray, List.set_cons_zero, List.set_cons_succ]
                    refine wpAnyH_ready (rs := [5, 10]) (by kernel_rfl) (by simp) (AllReadyH.cons rfl (fun K hK => ?_) (AllReadyH.cons rfl (fun K hK => ?_) (AllReadyH.nil)))
                    · go_simp
                      go_wp2_with (first | (go_at_call 9; refine (one_any m v1).mono ?_; rintro e v2 ⟨rfl, hb⟩))
                      have Sv2 := Hid.mk' (Sv1.out.trans (hb.mono Sv1.out.size))
                      clear hb
                      refine hK.out _ _ Sv2.out (fun _ => ?_)
                      clear hK K
                      try simp only [List.setIfInBounds_toArray, List.set_cons_zero, List.set_cons_succ]
                      refine wpAnyH_ready (rs := [6, 10]) (by kernel_rfl) (by simp) (AllReadyH.cons rfl (fun K hK => ?_) (AllReadyH.cons rfl (fun K hK => ?_) (AllReadyH.nil)))
                      · go_simp
                        go_wp2_with (first | (go_at_call 22; refine (K2.out v2).mono ?_; rintro e v3 ⟨rfl, hb⟩))
                        have Sv3 := Hid.mk' (Sv2.out.trans (hb.mono Sv2.out.size))
                        clear hb
                        refine hK.out _ _ Sv3.out (fun _ => ?_)
                        clear hK K
                        try simp only [List.setIfInBounds_toArray, List.set_cons_zero, List.set_cons_succ]
                        refine held_take 7 69 (.tuple #[spV (N, N), .int .i64 0]) rfl rfl (by kernel_rfl) (by kernel_rfl) (by kernel_rfl) (fun _ _ _ h => h) (Or.inl ⟨by rfl, fun u hu => ?_⟩) Sv3.out ?_
                        · go_simp
                        simp only [Act.put, List.setIfInBounds_toArray, List.set_cons_zero, List.set_cons_succ]
                        refine held_take 8 77 (spV (N, N)) rfl rfl (by kernel_rfl) (by kernel_rfl) (by kernel_rfl) (fun _ _ _ h => h) (Or.inl ⟨by rfl, fun u hu => ?_⟩) Sv3.out ?_
                        · go_simp
                        simp only [Act.put, List.setIfInBounds_toArray, List.set_cons_zero, List.set_cons_succ]
                        refine held_take 9 78 (.int .i64 0) rfl rfl (by kernel_rfl) (by kernel_rfl) (by kernel_rfl) (fun _ _ _ h => h) (Or.inl ⟨by rfl, fun u hu => ?_⟩) Sv3.out ?_
                        · go_simp
                        simp only [Act.put, List.setIfInBounds_toArray, List.set_cons_zero, List.set_cons_succ]
                        refine wpAnyH_ready (rs := [10]) (by kernel_rfl) (by simp) (AllReadyH.cons rfl (fun K hK => ?_) (AllReadyH.nil))
                        · go_simp
                          have Sv4 := Hid.mk' (Sv3.out.trans ((bl1 v3 (spO 0 0)).mono Sv3.out.size))
                          refine hK.out _ _ Sv4.out (fun _ => ?_)
                          clear hK K
                          try simp only [List.setIfInBounds_toArray, List.set_cons_zero, List.set_cons_succ]
                          obtain ⟨g4, Hg4⟩ : ∃ g4, g4 = v3.heap.size := ⟨_, rfl⟩
                          have Bg4v4 : Hid (Box (v3.alloc (spO 0 0)) g4 0 0) := Hid.mk' (Box.new v3 0 0 Hg4)
                          have Gg4 : Hid (v0.heap.size ≤ g4) := Hid.mk' (by rw [Hg4]; exact Sv3.out.size)
                          rw [← Hg4]
                          obtain ⟨v4, Hv4⟩ : ∃ v4, v4 = v3.alloc (spO 0 0) := ⟨_, rfl⟩
                          change wpAnyH _ _ _ _ _ _ _ _ (v3.alloc (spO 0 0))
                          rw [← Hv4] at Sv4 Bg4v4 ⊢
                          clear Hv4 Hg4
                          have a0 := Bg4v4.out.c0
                          have a1 := Bg4v4.out.c1
                          have a2 := Bg4v4.out.fz 0
                          have a3 := Bg4v4.out.fz 1
                          have Z1 := Hid.mk' (below_set2 Sv4.out Gg4.out (.int .u64 N) (.int .u64 N))
                          have A1 := Hid.mk' (Bg4v4.out.set N N)
                          refine held_one 11 (by kernel_rfl) rfl (fun K hK => ?_)
                          go_simp
                          refine hK.out _ _ Z1.out (fun _ => ?_)
                          clear hK K
                          try simp only [List.setIfInBounds_toArray, List.set_cons_zero, List.set_cons_succ]
                          refine held_take 12 12 (.int .i64 0) rfl rfl (by kernel_rfl) (by kernel_rfl) (by kernel_rfl) (fun _ _ _ h => h) (Or.inl ⟨by rfl, fun u hu => ?_⟩) Z1.out ?_
                          · go_simp
                          simp only [Act.put, List.setIfInBounds_toArray, List.set_cons_zero, List.set_cons_succ]
                          refine wpAnyH_done (by kernel_rfl) ?_ _
                          go_wp2_with fail
                          go_meet
                          exact ⟨g4, rfl, rfl, Hid.mk' ⟨Z1.out, A1.out⟩⟩
                      · go_simp
                        have Sv5 := Hid.mk' (Sv2.out.trans ((bl1 v2 (spO 0 0)).mono Sv2.out.size))
                        refine hK.out _ _ Sv5.out (fun _ => ?_)
                        clear hK K
                        try simp only [List.setIfInBounds_toArray, List.set_cons_zero, List.set_cons_succ]
                        obtain ⟨g5, Hg5⟩ : ∃ g5, g5 = v2.heap.size := ⟨_, rfl⟩
                        have Bg5v5 : Hid (Box (v2.alloc (spO 0 0)) g5 0 0) := Hid.mk' (Box.new v2 0 0 Hg5)
                        have Gg5 : Hid (v0.heap.size ≤ g5) := Hid.mk' (by rw [Hg5]; exact Sv2.out.size)
                        rw [← Hg5]
                        obtain ⟨v5, Hv5⟩ : ∃ v5, v5 = v2.alloc (spO 0 0) := ⟨_, rfl⟩
                        change wpAnyH _ _ _ _ _ _ _ _ (v2.alloc (spO 0 0))
                        rw [← Hv5] at Sv5 Bg5v5 ⊢
                        clear Hv5 Hg5
                        refine wpAnyH_ready (rs := [6]) (by kernel_rfl) (by simp) (AllReadyH.cons rfl (fun K hK => ?_) (AllReadyH.nil))
                        · go_simp
                          go_wp2_with (first | (go_at_call 22; refine (K2.out v5).mono ?_; rintro e v6 ⟨rfl, hb⟩))
                          have Sv6 := Hid.mk' (Sv5.out.trans (hb.mono Sv5.out.size))
                          have Bg5v6 := Hid.mk' (Bg5v5.out.below hb)
                          clear hb
                          refine hK.out _ _ Sv6.out (fun _ => ?_)
                          clear hK K
                          try simp only [List.setIfInBounds_toArray, List.set_cons_zero, List.set_cons_succ]
                          refine held_take 7 69 (.tuple #[spV (N, N), .int .i64 0]) rfl rfl (by kernel_rfl) (by kernel_rfl) (by kernel_rfl) (fun _ _ _ h => h) (Or.inl ⟨by rfl, fun u hu => ?_⟩) Sv6.out ?_
                          · go_simp
                          simp only [Act.put, List.setIfInBounds_toArray, List.set_cons_zero, List.set_cons_succ]
                          refine held_take 8 77 (spV (N, N)) rfl rfl (by kernel_rfl) (by kernel_rfl) (by kernel_rfl) (fun _ _ _ h => h) (Or.inl ⟨by rfl, fun u hu => ?_⟩) Sv6.out ?_
                          · go_simp
                          simp only [Act.put, List.setIfInBounds_toArray, List.set_cons_zero, List.set_cons_succ]
                          refine held_take 9 78 (.int .i64 0) rfl rfl (by kernel_rfl) (by kernel_rfl) (by kernel_rfl) (fun _ _ _ h => h) (Or.inl ⟨by rfl, fun u hu => ?_⟩) Sv6.out ?_
                          · go_simp
                          simp only [Act.put, List.setIfInBounds_toArray, List.set_cons_zero, List.set_cons_succ]
                          have a0 := Bg5v6.out.c0
                          have a1 := Bg5v6.out.c1
                          have a2 := Bg5v6.out.fz 0
                          have a3 := Bg5v6.out.fz 1
                          have Z1 := Hid.mk' (below_set2 Sv6.out Gg5.out (.int .u64 N) (.int .u64 N))
                          have A1 := Hid.mk' (Bg5v6.out.set N N)
                          refine held_one 11 (by kernel_rfl) rfl (fun K hK => ?_)
                          go_simp
                          refine hK.out _ _ Z1.out (fun _ => ?_)
                          clear hK K
                          try simp only [List.setIfInBounds_toArray, List.set_cons_zero, List.set_cons_succ]
                          refine held_take 12 12 (.int .i64 0) rfl rfl (by kernel_rfl) (by kernel_rfl) (by kernel_rfl) (fun _ _ _ h => h) (Or.inl ⟨by rfl, fun u hu => ?_⟩) Z1.out ?_
                          · go_simp
                          simp only [Act.put, List.setIfInBounds_toArray, List.set_cons_zero, List.set_cons_succ]
                          refine wpAnyH_done (by kernel_rfl) ?_ _
                          go_wp2_with fail
                          go_meet
                          exact ⟨g5, rfl, rfl, Hid.mk' ⟨Z1.out, A1.out⟩⟩
                    · go_simp
                      have Sv7 := Hid.mk' (Sv1.out.trans ((bl1 v1 (spO 0 0)).mono Sv1.out.size))
                      refine hK.out _ _ Sv7.out (fun _ => ?_)
                      clear hK K
                      try simp only [List.setIfInBounds_toArray, List.set_cons_zero, List.set_cons_succ]
                      obtain ⟨g7, Hg7⟩ : ∃ g7, g7 = v1.heap.size := ⟨_, rfl⟩
                      have Bg7v7 : Hid (Box (v1.alloc (spO 0 0)) g7 0 0) := Hid.mk' (Box.new v1 0 0 Hg7)
                      have Gg7 : Hid (v0.heap.size ≤ g7) := Hid.mk' (by rw [Hg7]; exact Sv1.out.size)
                      rw [← Hg7]
                      obtain ⟨v7, Hv7⟩ : ∃ v7, v7 = v1.alloc (spO 0 0) := ⟨_, rfl⟩
                      change wpAnyH _ _ _ _ _ _ _ _ (v1.alloc (spO 0 0))
                      rw [← Hv7] at Sv7 Bg7v7 ⊢
                      clear Hv7 Hg7
                      refine wpAnyH_ready (rs := [5]) (by kernel_rfl) (by simp) (AllReadyH.cons rfl (fun K hK => ?_) (AllReadyH.nil))
                      · go_simp
                        go_wp2_with (first | (go_at_call 9; refine (one_any m v7).mono ?_; rintro e v8 ⟨rfl, hb⟩))
                        have Sv8 := Hid.mk' (Sv7.out.trans (hb.mono Sv7.out.size))
                        have Bg7v8 := Hid.mk' (Bg7v7.out.below hb)
                        clear hb
                        refine hK.out _ _ Sv8.out (fun _ => ?_)
                        clear hK K
                        try simp only [List.setIfInBounds_toArray, List.set_cons_zero, List.set_cons_succ]
                        refine wpAnyH_ready (rs := [6]) (by kernel_rfl) (by simp) (AllReadyH.cons rfl (fun K hK => ?_) (AllReadyH.nil))
                        · go_simp
                          go_wp2_with (first | (go_at_call 22; refine (K2.out v8).mono ?_; rintro e v9 ⟨rfl, hb⟩))
                          have Sv9 := Hid.mk' (Sv8.out.trans (hb.mono Sv8.out.size))
                          have Bg7v9 := Hid.mk' (Bg7v8.out.below hb)
                          clear hb
                          refine hK.out _ _ Sv9.out (fun _ => ?_)
                          clear hK K
                          try simp only [List.setIfInBounds_toArray, List.set_cons_zero, List.set_cons_succ]
                          refine held_take 7 69 (.tuple #[spV (N, N), .int .i64 0]) rfl rfl (by kernel_rfl) (by kernel_rfl) (by kernel_rfl) (fun _ _ _ h => h) (Or.inl ⟨by rfl, fun u hu => ?_⟩) Sv9.out ?_
                          · go_simp
                          simp only [Act.put, List.setIfInBounds_toArray, List.set_cons_zero, List.set_cons_succ]
                          refine held_take 8 77 (spV (N, N)) rfl rfl (by kernel_rfl) (by kernel_rfl) (by kernel_rfl) (fun _ _ _ h => h) (Or.inl ⟨by rfl, fun u hu => ?_⟩) Sv9.out ?_
                          · go_simp
                          simp only [Act.put, List.setIfInBounds_toArray, List.set_cons_zero, List.set_cons_succ]
                          refine held_take 9 78 (.int .i64 0) rfl rfl (by kernel_rfl) (by kernel_rfl) (by kernel_rfl) (fun _ _ _ h => h) (Or.inl ⟨by rfl, fun u hu => ?_⟩) Sv9.out ?_
                          · go_simp
                          simp only [Act.put, List.setIfInBounds_toArray, List.set_cons_zero, List.set_cons_succ]
                          have a0 := Bg7v9.out.c0
                          have a1 := Bg7v9.out.c1
                          have a2 := Bg7v9.out.fz 0
                          have a3 := Bg7v9.out.fz 1
                          have Z1 := Hid.mk' (below_set2 Sv9.out Gg7.out (.int .u64 N) (.int .u64 N))
                          have A1 := Hid.mk' (Bg7v9.out.set N N)
                          refine held_one 11 (by kernel_rfl) rfl (fun K hK => ?_)
                          go_simp
                          refine hK.out _ _ Z1.out (fun _ => ?_)
                          clear hK K
                          try simp only [List.setIfInBounds_toArray, List.set_cons_zero, List.set_cons_succ]
                          refine held_take 12 12 (.int .i64 0) rfl rfl (by kernel_rfl) (by kernel_rfl) (by kernel_rfl) (fun _ _ _ h => h) (Or.inl ⟨by rfl, fun u hu => ?_⟩) Z1.out ?_
                          · go_simp
                          simp only [Act.put, List.setIfInBounds_toArray, List.set_cons_zero, List.set_cons_succ]
                          refine wpAnyH_done (by kernel_rfl) ?_ _
                          go_wp2_with fail
                          go_meet
                          exact ⟨g7, rfl, rfl, Hid.mk' ⟨Z1.out, A1.out⟩⟩
                  · go_simp
                    have Sv10 := Hid.mk' (Svs.out.trans ((bl1 vs (spO 0 0)).mono Svs.out.size))
                    refine hK.out _ _ Sv10.out (fun _ => ?_)
                    clear hK K
                    try simp only [List.setIfInBounds_toArray, List.set_cons_zero, List.set_cons_succ]
                    obtain ⟨g10, Hg10⟩ : ∃ g10, g10 = vs.heap.size := ⟨_, rfl⟩
                    have Bg10v10 : Hid (Box (vs.alloc (spO 0 0)) g10 0 0) := Hid.mk' (Box.new vs 0 0 Hg10)
                    have Gg10 : Hid (v0.heap.size ≤ g10) := Hid.mk' (by rw [Hg10]; exact Svs.out.size)
                    rw [← Hg10]
                    obtain ⟨v10, Hv10⟩ : ∃ v10, v10 = vs.alloc (spO 0 0) := ⟨_, rfl⟩
                    change wpAnyH _ _ _ _ _ _ _ _ (vs.alloc (spO 0 0))
                    rw [← Hv10] at Sv10 Bg10v10 ⊢
                    clear Hv10 Hg10
                    refine wpAnyH_ready (rs := [2]) (by kernel_rfl) (by simp) (AllReadyH.cons rfl (fun K hK => ?_) (AllReadyH.nil))
                    · go_simp
                      go_wp2_with (first | (go_at_call 9; refine (one_any p v10).mono ?_; rintro e v11 ⟨rfl, hb⟩))
                      have Sv11 := Hid.mk' (Sv10.out.trans (hb.mono Sv10.out.size))
                      have Bg10v11 := Hid.mk' (Bg10v10.out.below hb)
                      clear hb
                      refine hK.out _ _ Sv11.out (fun _ => ?_)
                      clear hK K
                      try simp only [List.setIfInBounds_toArray, List.set_cons_zero, List.set_cons_succ]
                      refine wpAnyH_ready (rs := [5]) (by kernel_rfl) (by simp) (AllReadyH.cons rfl (fun K hK => ?_) (AllReadyH.nil))
                      · go_simp
                        go_wp2_with (first | (go_at_call 9; refine (one_any m v11).mono ?_; rintro e v12 ⟨rfl, hb⟩))
                        have Sv12 := Hid.mk' (Sv11.out.trans (hb.mono Sv11.out.size))
                        have Bg10v12 := Hid.mk' (Bg10v11.out.below hb)
                        clear hb
                        refine hK.out _ _ Sv12.out (fun _ => ?_)
                        clear hK K
                        try simp only [List.setIfInBounds_toArray, List.set_cons_zero, List.set_cons_succ]
                        refine wpAnyH_ready (rs := [6]) (by kernel_rfl) (by simp) (AllReadyH.cons rfl (fun K hK => ?_) (AllReadyH.nil))
                        · go_simp
                          go_wp2_with (first | (go_at_call 22; refine (K2.out v12).mono ?_; rintro e v13 ⟨rfl, hb⟩))
                          have Sv13 := Hid.mk' (Sv12.out.trans (hb.mono Sv12.out.size))
                          have Bg10v13 := Hid.mk' (Bg10v12.out.below hb)
                          clear hb
                          refine hK.out _ _ Sv13.out (fun _ => ?_)
                          clear hK K
                          try simp only [List.setIfInBounds_toArray, List.set_cons_zero, List.set_cons_succ]
                          refine held_take 7 69 (.tuple #[spV (N, N), .int .i64 0]) rfl rfl (by kernel_rfl) (by kernel_rfl) (by kernel_rfl) (fun _ _ _ h => h) (Or.inl ⟨by rfl, fun u hu => ?_⟩) Sv13.out ?_
                          · go_simp
                          simp only [Act.put, List.setIfInBounds_toArray, List.set_cons_zero, List.set_cons_succ]
                          refine held_take 8 77 (spV (N, N)) rfl rfl (by kernel_rfl) (by kernel_rfl) (by kernel_rfl) (fun _ _ _ h => h) (Or.inl ⟨by rfl, fun u hu => ?_⟩) Sv13.out ?_
                          · go_simp
                          simp only [Act.put, List.setIfInBounds_toArray, List.set_cons_zero, List.set_cons_succ]
                          refine held_take 9 78 (.int .i64 0) rfl rfl (by kernel_rfl) (by kernel_rfl) (by kernel_rfl) (fun _ _ _ h => h) (Or.inl ⟨by rfl, fun u hu => ?_⟩) Sv13.out ?_
                          · go_simp
                          simp only [Act.put, List.setIfInBounds_toArray, List.set_cons_zero, List.set_cons_succ]
                          have a0 := Bg10v13.out.c0
                          have a1 := Bg10v13.out.c1
                          have a2 := Bg10v13.out.fz 0
                          have a3 := Bg10v13.out.fz 1
                          have Z1 := Hid.mk' (below_set2 Sv13.out Gg10.out (.int .u64 N) (.int .u64 N))
                          have A1 := Hid.mk' (Bg10v13.out.set N N)
                          refine held_one 11 (by kernel_rfl) rfl (fun K hK => ?_)
                          go_simp
                          refine hK.out _ _ Z1.out (fun _ => ?_)
                          clear hK K
                          try simp only [List.setIfInBounds_toArray, List.set_cons_zero, List.set_cons_succ]
                          refine held_take 12 12 (.int .i64 0) rfl rfl (by kernel_rfl) (by kernel_rfl) (by kernel_rfl) (fun _ _ _ h => h) (Or.inl ⟨by rfl, fun u hu => ?_⟩) Z1.out ?_
                          · go_simp
                          simp only [Act.put, List.setIfInBounds_toArray, List.set_cons_zero, List.set_cons_succ]
                          refine wpAnyH_done (by kernel_rfl) ?_ _
                          go_wp2_with fail
                          go_meet
                          exact ⟨g10, rfl, rfl, Hid.mk' ⟨Z1.out, A1.out⟩⟩
              case rest =>
                obtain ⟨g, rfl, rfl, HM⟩ := hcut
                obtain ⟨m1, m2⟩ := HM.out
                have B8 := B8.out.below m1
                have B9 := B9.out.below m1
                have X := Hid.mk' (X.out.below m1)
                have g0 := m2.c0
                have g1 := m2.c1
                have h0 := B8.c0
                have B8 := Hid.mk' B8
                have B9 := Hid.mk' B9
                have BG := Hid.mk' m2
                clear HM m1 m2
                have hne := fun u => sp_nes N N u
                go_wp2_with fail
                go_region_held3 (fun w' => w'.cell? ⟨g, 0, none⟩ = some (.int .u64 N) ∧ w'.cell? ⟨g, 1, none⟩ = some (.int .u64 N) ∧ w'.cell? ⟨g8, 0, none⟩ = some (.int .u64 m)) (go_keep) (first
                  | (go_at_call 29; refine (K3.out wc.drew).mono ?_; rintro e x0 ⟨rfl, rfl⟩)
                  | (go_at_call 9; refine (one_any N wc.drew).mono ?_; rintro e x1 ⟨rfl, hb⟩; have hb := ((Below.refl wc.heap.size wc).drew).trans hb; have B8x := Hid.mk' (B8.out.below hb); have B9x := Hid.mk' (B9.out.below hb); have BGx := Hid.mk' (BG.out.below hb); have Xx := Hid.mk' (X.out.below hb); have s0 := BGx.out.c0; have s1 := BGx.out.c1; have s2 := B8x.out.c0; clear hb))
                all_goals
                  have t0 := B9x.out.c0
                  have t1 := B9x.out.c1
                  go_wp2_with fail
                  go_region_held3 (fun w' => w'.cell? ⟨g9, 0, none⟩ = some (.int .u64 S1) ∧ w'.cell? ⟨g9, 1, none⟩ = some (.int .u64 S2)) (go_keep) (first
                    | (go_at_call 29; refine (K4.out x1.drew).mono ?_; rintro e x2 ⟨rfl, rfl⟩)
                    | (go_at_call 15; refine (K5.out x1.drew).mono ?_; rintro e x3 ⟨rfl, hb⟩; have hb := ((Below.refl x1.heap.size x1).drew).trans hb; have B9y := Hid.mk' (B9x.out.below hb); have Xy := Hid.mk' (Xx.out.below hb); have t2 := B9y.out.c0; have t3 := B9y.out.c1; clear hb)
                    | (go_at_call 13; refine (K6.out x3).mono ?_; rintro e x4 ⟨rfl, hb⟩; have B9z := Hid.mk' (B9y.out.below hb); have Xz := Hid.mk' (Xy.out.below hb); have t4 := B9z.out.c0; have t5 := B9z.out.c1; clear hb))
                  all_goals
                    go_wp2_with fail
                    go_roundw
                    case rel => exact ⟨13, by omega, by omega, by go_num, Xz⟩
                    case measure => simp [intOf]
            · have n12 : ((k : Int) == 12) = false := by simp; omega
              by_cases h13 : k = 13
              · subst h13
                obtain ⟨m, hm⟩ : ∃ m, m = q % 64 := ⟨_, rfl⟩
                have q0 : 0 ≤ q := by have := HPQ.out.2.1; have := HU.out.b0; omega
                have m0 : 0 ≤ m := by omega
                have m1 : m ≤ 63 := by omega
                have ht : q.tmod 64 = m := by rw [hm]; exact Int.tmod_eq_emod_of_nonneg q0
                have ht2 : q % 64 = m := hm.symm
                clear hm
                obtain ⟨S1, S2, N, M, k1, k2, k3, k4, k5, k6⟩ := sound_round 13 al ah m m p m ⟨HU.out.a0, HU.out.a1, HU.out.a2, HU.out.a3, m0, by omega, m0, by omega⟩ (by decide) HPQ.out.1 ⟨Int.le_refl _, Int.le_refl _⟩ (fun _ => ⟨rfl, m1⟩)
                have K1 := Hid.mk' k1
                have K2 := Hid.mk' k2
                have K3 := Hid.mk' k3
                have K4 := Hid.mk' k4
                have K5 := Hid.mk' k5
                have K6 := Hid.mk' k6
                clear k1 k2 k3 k4 k5 k6
                have X := HX.out
                obtain ⟨c0, c1, c2, c3, c4, c5⟩ := X.cells
                have l0 : W.heap.size < wr.heap.size := X.lt
                have X := Hid.mk' X
                go_wp2_with fail
                refine (one_any m _).mono ?_
                rintro e w0 ⟨rfl, hb⟩
                have B8 := (Box.new wr bl bh rfl).below hb
                have X := X.out.below ((bl1 wr (spO bl bh)).trans (hb.mono (bl1 wr (spO bl bh)).size))
                clear hb c0 c1 c2 c3 c4 c5
                obtain ⟨c0, c1, c2, c3, c4, c5⟩ := X.cells
                have b0 := B8.c0
                have b1 := B8.c1
                have b2 := B8.fz 0
                have b3 := B8.fz 1
                have hn1 : ¬ (wr.heap.size = W.heap.size) := by omega
                have hn2 : ¬ (W.heap.size = wr.heap.size) := by omega
                have B8 := Hid.mk' B8
                have X := Hid.mk' (X.far wr.heap.size m m hn1 (by omega))
                go_wp2_with fail
                refine (K1.out _).mono ?_
                rintro e w1 ⟨rfl, hb⟩
                have B8 := Hid.mk' ((B8.out.set m m).below hb)
                have X := Hid.mk' (X.out.below hb)
                clear hb c0 c1 c2 c3 c4 c5 l0 b0 b1 b2 b3 hn1 hn2
                go_wp2_with fail
                have B9 : Hid (Box (w1.alloc (spO S1 S2)) w1.heap.size S1 S2) := Hid.mk' (Box.new w1 S1 S2 rfl)
                have B8 := Hid.mk' (B8.out.below (bl1 w1 (spO S1 S2)))
                have X := Hid.mk' (X.out.below (bl1 w1 (spO S1 S2)))
                obtain ⟨v0, hv⟩ : ∃ v0, v0 = w1.alloc (spO S1 S2) := ⟨_, rfl⟩
                rw [← hv] at B9 B8 X ⊢
                clear hv
                obtain ⟨g9, hg9⟩ : ∃ g9, g9 = w1.heap.size := ⟨_, rfl⟩
                rw [← hg9] at B9 ⊢
                clear hg9
                obtain ⟨g8, hg8⟩ : ∃ g8, g8 = wr.heap.size := ⟨_, rfl⟩
                rw [← hg8] at B8 ⊢
                clear hg8
                go_cut [11, 12] from 69 to 78 (fun s11 s12 wc => ∃ g : Nat, s11 = .pointer (some ⟨g, 0, none⟩) ∧ s12 = .int .i64 0 ∧ Hid (Below v0.heap.size v0 wc ∧ Box wc g N N))
                case first =>
                  as_aux_lemma =>
                    refine wp_region_held_drew (S := fun u => Below v0.heap.size v0 u) (by kernel_rfl) ((Below.refl v0.heap.size v0).drew) (fun hHeld => ?_)
                    change wpAnyH _ _ _ _ _ 13 #[false, false, false, false, false, false, false, false, false, false, false, false, false] _ _
                    have HB8 : Hid (∀ u, Below v0.heap.size v0 u → u.cell? ⟨g8, 0, none⟩ = some (.int .u64 m)) := Hid.mk' (fun u hu => (B8.out.below hu).c0)
                    obtain ⟨vs, hvs⟩ : ∃ vs, vs = v0.drew := ⟨_, rfl⟩
                    change wpAnyH _ _ _ _ _ _ _ _ v0.drew
                    rw [← hvs] at hHeld ⊢
                    have Svs := Hid.mk' hHeld
                    clear hvs
                    refine held_take 0 70 (.int .u8 13) rfl rfl (by kernel_rfl) (by kernel_rfl) (by kernel_rfl) (fun _ _ _ h => h) (Or.inl ⟨by rfl, fun u hu => ?_⟩) Svs.out ?_
                    · go_simp
                    simp only [Act.put, List.setIfInBounds_toArray, List.set_cons_zero, List.set_cons_succ]
                    refine held_take 1 71 (.int .u64 p) rfl rfl (by kernel_rfl) (by kernel_rfl) (by kernel_rfl) (fun _ _ _ h => h) (Or.inl ⟨by rfl, fun u hu => ?_⟩) Svs.out ?_
                    · go_simp
                    simp only [Act.put, List.setIfInBounds_toArray, List.set_cons_zero, List.set_cons_succ]
                    refine held_take 3 73 (.pointer (some ⟨g8, 0, none⟩)) rfl rfl (by kernel_rfl) (by kernel_rfl) (by kernel_rfl) (fun _ _ _ h => h) (Or.inl ⟨by rfl, fun u hu => ?_⟩) Svs.out ?_
                    · go_simp
                    simp only [Act.put, List.setIfInBounds_toArray, List.set_cons_zero, List.set_cons_succ]
                    refine held_take 4 74 (.int .u64 m) rfl rfl (by kernel_rfl) (by kernel_rfl) (by kernel_rfl) (fun _ _ _ h => h) (Or.inl ⟨by rfl, fun u hu => ?_⟩) Svs.out ?_
                    · have q0 := HB8.out u hu
                      go_simp
                    simp only [Act.put, List.setIfInBounds_toArray, List.set_cons_zero, List.set_cons_succ]
                    refine wpAnyH_ready (rs := [2, 10]) (by kernel_rfl) (by simp) (AllReadyH.cons rfl (fun K hK => ?_) (AllReadyH.cons rfl (fun K hK => ?_) (AllReadyH.nil)))
                    · go_simp
                      go_wp2_with (first | (go_at_call 9; refine (one_any p vs).mono ?_; rintro e v1 ⟨rfl, hb⟩))
                      have Sv1 := Hid.mk' (Svs.out.trans (hb.mono Svs.out.size))
                      clear hb
                      refine hK.out _ _ Sv1.out (fun _ => ?_)
                      clear hK K
                      try simp only [List.setIfInBounds_toArray, List.set_cons_zero, List.set_cons_succ]
                      refine wpAnyH_ready (rs := [5, 10]) (by kernel_rfl) (by simp) (AllReadyH.cons rfl (fun K hK => ?_) (AllReadyH.cons rfl (fun K hK => ?_) (AllReadyH.nil)))
                      · go_simp
                        go_wp2_with (first | (go_at_call 9; refine (one_any m v1).mono ?_; rintro e v2 ⟨rfl, hb⟩))
                        have Sv2 := Hid.mk' (Sv1.out.trans (hb.mono Sv1.out.size))
                        clear hb
                        refine hK.out _ _ Sv2.out (fun _ => ?_)
                        clear hK K
                        try simp only [List.setIfInBounds_toArray, List.set_cons_zero, List.set_cons_succ]
                        refine wpAnyH_ready (rs := [6, 10]) (by kernel_rfl) (by simp) (AllReadyH.cons rfl (fun K hK => ?_) (AllReadyH.cons rfl (fun K hK => ?_) (AllReadyH.nil)))
                        · go_simp
                          go_wp2_with (first | (go_at_call 22; refine (K2.out v2).mono ?_; rintro e v3 ⟨rfl, hb⟩))
                          have Sv3 := Hid.mk' (Sv2.out.trans (hb.mono Sv2.out.size))
                          clear hb
                          refine hK.out _ _ Sv3.out (fun _ => ?_)
                          clear hK K
                          try simp only [List.setIfInBounds_toArray, List.set_cons_zero, List.set_cons_succ]
                          refine held_take 7 69 (.tuple #[spV (N, N), .int .i64 0]) rfl rfl (by kernel_rfl) (by kernel_rfl) (by kernel_rfl) (fun _ _ _ h => h) (Or.inl ⟨by rfl, fun u hu => ?_⟩) Sv3.out ?_
                          · go_simp
                          simp only [Act.put, List.setIfInBounds_toArray, List.set_cons_zero, List.set_cons_succ]
                          refine held_take 8 77 (spV (N, N)) rfl rfl (by kernel_rfl) (by kernel_rfl) (by kernel_rfl) (fun _ _ _ h => h) (Or.inl ⟨by rfl, fun u hu => ?_⟩) Sv3.out ?_
                          · go_simp
                          simp only [Act.put, List.setIfInBounds_toArray, List.set_cons_zero, List.set_cons_succ]
                          refine held_take 9 78 (.int .i64 0) rfl rfl (by kernel_rfl) (by kernel_rfl) (by kernel_rfl) (fun _ _ _ h => h) (Or.inl ⟨by rfl, fun u hu => ?_⟩) Sv3.out ?_
                          · go_simp
                          simp only [Act.put, List.setIfInBounds_toArray, List.set_cons_zero, List.set_cons_succ]
                          refine wpAnyH_ready (rs := [10]) (by kernel_rfl) (by simp) (AllReadyH.cons rfl (fun K hK => ?_) (AllReadyH.nil))
                          · go_simp
                            have Sv4 := Hid.mk' (Sv3.out.trans ((bl1 v3 (spO 0 0)).mono Sv3.out.size))
                            refine hK.out _ _ Sv4.out (fun _ => ?_)
                            clear hK K
                            try simp only [List.setIfInBounds_toArray, List.set_cons_zero, List.set_cons_succ]
                            obtain ⟨g4, Hg4⟩ : ∃ g4, g4 = v3.heap.size := ⟨_, rfl⟩
                            have Bg4v4 : Hid (Box (v3.alloc (spO 0 0)) g4 0 0) := Hid.mk' (Box.new v3 0 0 Hg4)
                            have Gg4 : Hid (v0.heap.size ≤ g4) := Hid.mk' (by rw [Hg4]; exact Sv3.out.size)
                            rw [← Hg4]
                            obtain ⟨v4, Hv4⟩ : ∃ v4, v4 = v3.alloc (spO 0 0) := ⟨_, rfl⟩
                            change wpAnyH _ _ _ _ _ _ _ _ (v3.alloc (spO 0 0))
                            rw [← Hv4] at Sv4 Bg4v4 ⊢
                            clear Hv4 Hg4
                            have a0 := Bg4v4.out.c0
                            have a1 := Bg4v4.out.c1
                            have a2 := Bg4v4.out.fz 0
                            have a3 := Bg4v4.out.fz 1
                            have Z1 := Hid.mk' (below_set2 Sv4.out Gg4.out (.int .u64 N) (.int .u64 N))
                            have A1 := Hid.mk' (Bg4v4.out.set N N)
                            refine held_one 11 (by kernel_rfl) rfl (fun K hK => ?_)
                            go_simp
                            refine hK.out _ _ Z1.out (fun _ => ?_)
                            clear hK K
                            try simp only [List.setIfInBounds_toArray, List.set_cons_zero, List.set_cons_succ]
                            refine held_take 12 12 (.int .i64 0) rfl rfl (by kernel_rfl) (by kernel_rfl) (by kernel_rfl) (fun _ _ _ h => h) (Or.inl ⟨by rfl, fun u hu => ?_⟩) Z1.out ?_
                            · go_simp
                            simp only [Act.put, List.setIfInBounds_toArray, List.set_cons_zero, List.set_cons_succ]
                            refine wpAnyH_done (by kernel_rfl) ?_ _
                            go_wp2_with fail
                            go_meet
                            exact ⟨g4, rfl, rfl, Hid.mk' ⟨Z1.out, A1.out⟩⟩
                        · go_simp
                          have Sv5 := Hid.mk' (Sv2.out.trans ((bl1 v2 (spO 0 0)).mono Sv2.out.size))
                          refine hK.out _ _ Sv5.out (fun _ => ?_)
                          clear hK K
                          try simp only [List.setIfInBounds_toArray, List.set_cons_zero, List.set_cons_succ]
                          obtain ⟨g5, Hg5⟩ : ∃ g5, g5 = v2.heap.size := ⟨_, rfl⟩
                          have Bg5v5 : Hid (Box (v2.alloc (spO 0 0)) g5 0 0) := Hid.mk' (Box.new v2 0 0 Hg5)
                          have Gg5 : Hid (v0.heap.size ≤ g5) := Hid.mk' (by rw [Hg5]; exact Sv2.out.size)
                          rw [← Hg5]
                          obtain ⟨v5, Hv5⟩ : ∃ v5, v5 = v2.alloc (spO 0 0) := ⟨_, rfl⟩
                          change wpAnyH _ _ _ _ _ _ _ _ (v2.alloc (spO 0 0))
                          rw [← Hv5] at Sv5 Bg5v5 ⊢
                          clear Hv5 Hg5
                          refine wpAnyH_ready (rs := [6]) (by kernel_rfl) (by simp) (AllReadyH.cons rfl (fun K hK => ?_) (AllReadyH.nil))
                          · go_simp
                            go_wp2_with (first | (go_at_call 22; refine (K2.out v5).mono ?_; rintro e v6 ⟨rfl, hb⟩))
                            have Sv6 := Hid.mk' (Sv5.out.trans (hb.mono Sv5.out.size))
                            have Bg5v6 := Hid.mk' (Bg5v5.out.below hb)
                            clear hb
                            refine hK.out _ _ Sv6.out (fun _ => ?_)
                            clear hK K
                            try simp only [List.setIfInBounds_toArray, List.set_cons_zero, List.set_cons_succ]
                            refine held_take 7 69 (.tuple #[spV (N, N), .int .i64 0]) rfl rfl (by kernel_rfl) (by kernel_rfl) (by kernel_rfl) (fun _ _ _ h => h) (Or.inl ⟨by rfl, fun u hu => ?_⟩) Sv6.out ?_
                            · go_simp
                            simp only [Act.put, List.setIfInBounds_toArray, List.set_cons_zero, List.set_cons_succ]
                            refine held_take 8 77 (spV (N, N)) rfl rfl (by kernel_rfl) (by kernel_rfl) (by kernel_rfl) (fun _ _ _ h => h) (Or.inl ⟨by rfl, fun u hu => ?_⟩) Sv6.out ?_
                            · go_simp
                            simp only [Act.put, List.setIfInBounds_toArray, List.set_cons_zero, List.set_cons_succ]
                            refine held_take 9 78 (.int .i64 0) rfl rfl (by kernel_rfl) (by kernel_rfl) (by kernel_rfl) (fun _ _ _ h => h) (Or.inl ⟨by rfl, fun u hu => ?_⟩) Sv6.out ?_
                            · go_simp
                            simp only [Act.put, List.setIfInBounds_toArray, List.set_cons_zero, List.set_cons_succ]
                            have a0 := Bg5v6.out.c0
                            have a1 := Bg5v6.out.c1
                            have a2 := Bg5v6.out.fz 0
                            have a3 := Bg5v6.out.fz 1
                            have Z1 := Hid.mk' (below_set2 Sv6.out Gg5.out (.int .u64 N) (.int .u64 N))
                            have A1 := Hid.mk' (Bg5v6.out.set N N)
                            refine held_one 11 (by kernel_rfl) rfl (fun K hK => ?_)
                            go_simp
                            refine hK.out _ _ Z1.out (fun _ => ?_)
                            clear hK K
                            try simp only [List.setIfInBounds_toArray, List.set_cons_zero, List.set_cons_succ]
                            refine held_take 12 12 (.int .i64 0) rfl rfl (by kernel_rfl) (by kernel_rfl) (by kernel_rfl) (fun _ _ _ h => h) (Or.inl ⟨by rfl, fun u hu => ?_⟩) Z1.out ?_
                            · go_simp
                            simp only [Act.put, List.setIfInBounds_toArray, List.set_cons_zero, List.set_cons_succ]
                            refine wpAnyH_done (by kernel_rfl) ?_ _
                            go_wp2_with fail
                            go_meet
                            exact ⟨g5, rfl, rfl, Hid.mk' ⟨Z1.out, A1.out⟩⟩
                      · go_simp
                        have Sv7 := Hid.mk' (Sv1.out.trans ((bl1 v1 (spO 0 0)).mono Sv1.out.size))
                        refine hK.out _ _ Sv7.out (fun _ => ?_)
                        clear hK K
                        try simp only [List.setIfInBounds_toArray, List.set_cons_zero, List.set_cons_succ]
                        obtain ⟨g7, Hg7⟩ : ∃ g7, g7 = v1.heap.size := ⟨_, rfl⟩
                        have Bg7v7 : Hid (Box (v1.alloc (spO 0 0)) g7 0 0) := Hid.mk' (Box.new v1 0 0 Hg7)
                        have Gg7 : Hid (v0.heap.size ≤ g7) := Hid.mk' (by rw [Hg7]; exact Sv1.out.size)
                        rw [← Hg7]
                        obtain ⟨v7, Hv7⟩ : ∃ v7, v7 = v1.alloc (spO 0 0) := ⟨_, rfl⟩
                        change wpAnyH _ _ _ _ _ _ _ _ (v1.alloc (spO 0 0))
                        rw [← Hv7] at Sv7 Bg7v7 ⊢
                        clear Hv7 Hg7
                        refine wpAnyH_ready (rs := [5]) (by kernel_rfl) (by simp) (AllReadyH.cons rfl (fun K hK => ?_) (AllReadyH.nil))
                        · go_simp
                          go_wp2_with (first | (go_at_call 9; refine (one_any m v7).mono ?_; rintro e v8 ⟨rfl, hb⟩))
                          have Sv8 := Hid.mk' (Sv7.out.trans (hb.mono Sv7.out.size))
                          have Bg7v8 := Hid.mk' (Bg7v7.out.below hb)
                          clear hb
                          refine hK.out _ _ Sv8.out (fun _ => ?_)
                          clear hK K
                          try simp only [List.setIfInBounds_toArray, List.set_cons_zero, List.set_cons_succ]
                          refine wpAnyH_ready (rs := [6]) (by kernel_rfl) (by simp) (AllReadyH.cons rfl (fun K hK => ?_) (AllReadyH.nil))
                          · go_simp
                            go_wp2_with (first | (go_at_call 22; refine (K2.out v8).mono ?_; rintro e v9 ⟨rfl, hb⟩))
                            have Sv9 := Hid.mk' (Sv8.out.trans (hb.mono Sv8.out.size))
                            have Bg7v9 := Hid.mk' (Bg7v8.out.below hb)
                            clear hb
                            refine hK.out _ _ Sv9.out (fun _ => ?_)
                            clear hK K
                            try simp only [List.setIfInBounds_toArray, List.set_cons_zero, List.set_cons_succ]
                            refine held_take 7 69 (.tuple #[spV (N, N), .int .i64 0]) rfl rfl (by kernel_rfl) (by kernel_rfl) (by kernel_rfl) (fun _ _ _ h => h) (Or.inl ⟨by rfl, fun u hu => ?_⟩) Sv9.out ?_
                            · go_simp
                            simp only [Act.put, List.setIfInBounds_toArray, List.set_cons_zero, List.set_cons_succ]
                            refine held_take 8 77 (spV (N, N)) rfl rfl (by kernel_rfl) (by kernel_rfl) (by kernel_rfl) (fun _ _ _ h => h) (Or.inl ⟨by rfl, fun u hu => ?_⟩) Sv9.out ?_
                            · go_simp
                            simp only [Act.put, List.setIfInBounds_toArray, List.set_cons_zero, List.set_cons_succ]
                            refine held_take 9 78 (.int .i64 0) rfl rfl (by kernel_rfl) (by kernel_rfl) (by kernel_rfl) (fun _ _ _ h => h) (Or.inl ⟨by rfl, fun u hu => ?_⟩) Sv9.out ?_
                            · go_simp
                            simp only [Act.put, List.setIfInBounds_toArray, List.set_cons_zero, List.set_cons_succ]
                            have a0 := Bg7v9.out.c0
                            have a1 := Bg7v9.out.c1
                            have a2 := Bg7v9.out.fz 0
                            have a3 := Bg7v9.out.fz 1
                            have Z1 := Hid.mk' (below_set2 Sv9.out Gg7.out (.int .u64 N) (.int .u64 N))
                            have A1 := Hid.mk' (Bg7v9.out.set N N)
                            refine held_one 11 (by kernel_rfl) rfl (fun K hK => ?_)
                            go_simp
                            refine hK.out _ _ Z1.out (fun _ => ?_)
                            clear hK K
                            try simp only [List.setIfInBounds_toArray, List.set_cons_zero, List.set_cons_succ]
                            refine held_take 12 12 (.int .i64 0) rfl rfl (by kernel_rfl) (by kernel_rfl) (by kernel_rfl) (fun _ _ _ h => h) (Or.inl ⟨by rfl, fun u hu => ?_⟩) Z1.out ?_
                            · go_simp
                            simp only [Act.put, List.setIfInBounds_toArray, List.set_cons_zero, List.set_cons_succ]
                            refine wpAnyH_done (by kernel_rfl) ?_ _
                            go_wp2_with fail
                            go_meet
                            exact ⟨g7, rfl, rfl, Hid.mk' ⟨Z1.out, A1.out⟩⟩
                    · go_simp
                      have Sv10 := Hid.mk' (Svs.out.trans ((bl1 vs (spO 0 0)).mono Svs.out.size))
                      refine hK.out _ _ Sv10.out (fun _ => ?_)
                      clear hK K
                      try simp only [List.setIfInBounds_toArray, List.set_cons_zero, List.set_cons_succ]
                      obtain ⟨g10, Hg10⟩ : ∃ g10, g10 = vs.heap.size := ⟨_, rfl⟩
                      have Bg10v10 : Hid (Box (vs.alloc (spO 0 0)) g10 0 0) := Hid.mk' (Box.new vs 0 0 Hg10)
                      have Gg10 : Hid (v0.heap.size ≤ g10) := Hid.mk' (by rw [Hg10]; exact Svs.out.size)
                      rw [← Hg10]
                      obtain ⟨v10, Hv10⟩ : ∃ v10, v10 = vs.alloc (spO 0 0) := ⟨_, rfl⟩
                      change wpAnyH _ _ _ _ _ _ _ _ (vs.alloc (spO 0 0))
                      rw [← Hv10] at Sv10 Bg10v10 ⊢
                      clear Hv10 Hg10
                      refine wpAnyH_ready (rs := [2]) (by kernel_rfl) (by simp) (AllReadyH.cons rfl (fun K hK => ?_) (AllReadyH.nil))
                      · go_simp
                        go_wp2_with (first | (go_at_call 9; refine (one_any p v10).mono ?_; rintro e v11 ⟨rfl, hb⟩))
                        have Sv11 := Hid.mk' (Sv10.out.trans (hb.mono Sv10.out.size))
                        have Bg10v11 := Hid.mk' (Bg10v10.out.below hb)
                        clear hb
                        refine hK.out _ _ Sv11.out (fun _ => ?_)
                        clear hK K
                        try simp only [List.setIfInBounds_toArray, List.set_cons_zero, List.set_cons_succ]
                        refine wpAnyH_ready (rs := [5]) (by kernel_rfl) (by simp) (AllReadyH.cons rfl (fun K hK => ?_) (AllReadyH.nil))
                        · go_simp
                          go_wp2_with (first | (go_at_call 9; refine (one_any m v11).mono ?_; rintro e v12 ⟨rfl, hb⟩))
                          have Sv12 := Hid.mk' (Sv11.out.trans (hb.mono Sv11.out.size))
                          have Bg10v12 := Hid.mk' (Bg10v11.out.below hb)
                          clear hb
                          refine hK.out _ _ Sv12.out (fun _ => ?_)
                          clear hK K
                          try simp only [List.setIfInBounds_toArray, List.set_cons_zero, List.set_cons_succ]
                          refine wpAnyH_ready (rs := [6]) (by kernel_rfl) (by simp) (AllReadyH.cons rfl (fun K hK => ?_) (AllReadyH.nil))
                          · go_simp
                            go_wp2_with (first | (go_at_call 22; refine (K2.out v12).mono ?_; rintro e v13 ⟨rfl, hb⟩))
                            have Sv13 := Hid.mk' (Sv12.out.trans (hb.mono Sv12.out.size))
                            have Bg10v13 := Hid.mk' (Bg10v12.out.below hb)
                            clear hb
                            refine hK.out _ _ Sv13.out (fun _ => ?_)
                            clear hK K
                            try simp only [List.setIfInBounds_toArray, List.set_cons_zero, List.set_cons_succ]
                            refine held_take 7 69 (.tuple #[spV (N, N), .int .i64 0]) rfl rfl (by kernel_rfl) (by kernel_rfl) (by kernel_rfl) (fun _ _ _ h => h) (Or.inl ⟨by rfl, fun u hu => ?_⟩) Sv13.out ?_
                            · go_simp
                            simp only [Act.put, List.setIfInBounds_toArray, List.set_cons_zero, List.set_cons_succ]
                            refine held_take 8 77 (spV (N, N)) rfl rfl (by kernel_rfl) (by kernel_rfl) (by kernel_rfl) (fun _ _ _ h => h) (Or.inl ⟨by rfl, fun u hu => ?_⟩) Sv13.out ?_
                            · go_simp
                            simp only [Act.put, List.setIfInBounds_toArray, List.set_cons_zero, List.set_cons_succ]
                            refine held_take 9 78 (.int .i64 0) rfl rfl (by kernel_rfl) (by kernel_rfl) (by kernel_rfl) (fun _ _ _ h => h) (Or.inl ⟨by rfl, fun u hu => ?_⟩) Sv13.out ?_
                            · go_simp
                            simp only [Act.put, List.setIfInBounds_toArray, List.set_cons_zero, List.set_cons_succ]
                            have a0 := Bg10v13.out.c0
                            have a1 := Bg10v13.out.c1
                            have a2 := Bg10v13.out.fz 0
                            have a3 := Bg10v13.out.fz 1
                            have Z1 := Hid.mk' (below_set2 Sv13.out Gg10.out (.int .u64 N) (.int .u64 N))
                            have A1 := Hid.mk' (Bg10v13.out.set N N)
                            refine held_one 11 (by kernel_rfl) rfl (fun K hK => ?_)
                            go_simp
                            refine hK.out _ _ Z1.out (fun _ => ?_)
                            clear hK K
                            try simp only [List.setIfInBounds_toArray, List.set_cons_zero, List.set_cons_succ]
                            refine held_take 12 12 (.int .i64 0) rfl rfl (by kernel_rfl) (by kernel_rfl) (by kernel_rfl) (fun _ _ _ h => h) (Or.inl ⟨by rfl, fun u hu => ?_⟩) Z1.out ?_
                            · go_simp
                            simp only [Act.put, List.setIfInBounds_toArray, List.set_cons_zero, List.set_cons_succ]
                            refine wpAnyH_done (by kernel_rfl) ?_ _
                            go_wp2_with fail
                            go_meet
                            exact ⟨g10, rfl, rfl, Hid.mk' ⟨Z1.out, A1.out⟩⟩
                case rest =>
                  obtain ⟨g, rfl, rfl, HM⟩ := hcut
                  obtain ⟨m1, m2⟩ := HM.out
                  have B8 := B8.out.below m1
                  have B9 := B9.out.below m1
                  have X := Hid.mk' (X.out.below m1)
                  have g0 := m2.c0
                  have g1 := m2.c1
                  have h0 := B8.c0
                  have B8 := Hid.mk' B8
                  have B9 := Hid.mk' B9
                  have BG := Hid.mk' m2
                  clear HM m1 m2
                  have hne := fun u => sp_nes N N u
                  go_wp2_with fail
                  go_region_held3 (fun w' => w'.cell? ⟨g, 0, none⟩ = some (.int .u64 N) ∧ w'.cell? ⟨g, 1, none⟩ = some (.int .u64 N) ∧ w'.cell? ⟨g8, 0, none⟩ = some (.int .u64 m)) (go_keep) (first
                    | (go_at_call 29; refine (K3.out wc.drew).mono ?_; rintro e x0 ⟨rfl, rfl⟩)
                    | (go_at_call 9; refine (one_any N wc.drew).mono ?_; rintro e x1 ⟨rfl, hb⟩; have hb := ((Below.refl wc.heap.size wc).drew).trans hb; have B8x := Hid.mk' (B8.out.below hb); have B9x := Hid.mk' (B9.out.below hb); have BGx := Hid.mk' (BG.out.below hb); have Xx := Hid.mk' (X.out.below hb); have s0 := BGx.out.c0; have s1 := BGx.out.c1; have s2 := B8x.out.c0; clear hb))
                  all_goals
                    have t0 := B9x.out.c0
                    have t1 := B9x.out.c1
                    go_wp2_with fail
                    go_region_held3 (fun w' => w'.cell? ⟨g9, 0, none⟩ = some (.int .u64 S1) ∧ w'.cell? ⟨g9, 1, none⟩ = some (.int .u64 S2)) (go_keep) (first
                      | (go_at_call 29; refine (K4.out x1.drew).mono ?_; rintro e x2 ⟨rfl, rfl⟩)
                      | (go_at_call 15; refine (K5.out x1.drew).mono ?_; rintro e x3 ⟨rfl, hb⟩; have hb := ((Below.refl x1.heap.size x1).drew).trans hb; have B9y := Hid.mk' (B9x.out.below hb); have Xy := Hid.mk' (Xx.out.below hb); have t2 := B9y.out.c0; have t3 := B9y.out.c1; clear hb)
                      | (go_at_call 13; refine (K6.out x3).mono ?_; rintro e x4 ⟨rfl, hb⟩; have B9z := Hid.mk' (B9y.out.below hb); have Xz := Hid.mk' (Xy.out.below hb); have t4 := B9z.out.c0; have t5 := B9z.out.c1; clear hb))
                    all_goals
                      go_wp2_with fail
                      go_roundw
                      case rel => exact ⟨14, by omega, by omega, by go_num, Xz⟩
                      case measure => simp [intOf]
              · have n13 : ((k : Int) == 13) = false := by simp; omega
                obtain ⟨S1, S2, N, M, k1, k2, k3, k4, k5, k6⟩ := sound_round k al ah bl bh p q HU.out ⟨hlg, hlk⟩ HPQ.out.1 HPQ.out.2 (fun e => absurd e (by omega))
                have K1 := Hid.mk' k1
                have K2 := Hid.mk' k2
                have K3 := Hid.mk' k3
                have K4 := Hid.mk' k4
                have K5 := Hid.mk' k5
                have K6 := Hid.mk' k6
                clear k1 k2 k3 k4 k5 k6
                have X := HX.out
                obtain ⟨c0, c1, c2, c3, c4, c5⟩ := X.cells
                have l0 : W.heap.size < wr.heap.size := X.lt
                have X := Hid.mk' X
                go_wp2_with fail
                refine (K1.out _).mono ?_
                rintro e w1 ⟨rfl, hb⟩
                have B8 := Hid.mk' ((Box.new wr bl bh rfl).below hb)
                have X := Hid.mk' (X.out.below ((bl1 wr (spO bl bh)).trans (hb.mono (bl1 wr (spO bl bh)).size)))
                clear hb c0 c1 c2 c3 c4 c5 l0
                go_wp2_with fail
                have B9 : Hid (Box (w1.alloc (spO S1 S2)) w1.heap.size S1 S2) := Hid.mk' (Box.new w1 S1 S2 rfl)
                have B8 := Hid.mk' (B8.out.below (bl1 w1 (spO S1 S2)))
                have X := Hid.mk' (X.out.below (bl1 w1 (spO S1 S2)))
                obtain ⟨v0, hv⟩ : ∃ v0, v0 = w1.alloc (spO S1 S2) := ⟨_, rfl⟩
                rw [← hv] at B9 B8 X ⊢
                clear hv
                obtain ⟨g9, hg9⟩ : ∃ g9, g9 = w1.heap.size := ⟨_, rfl⟩
                rw [← hg9] at B9 ⊢
                clear hg9
                obtain ⟨g8, hg8⟩ : ∃ g8, g8 = wr.heap.size := ⟨_, rfl⟩
                rw [← hg8] at B8 ⊢
                clear hg8
                go_cut [11, 12] from 69 to 78 (fun s11 s12 wc => ∃ g : Nat, s11 = .pointer (some ⟨g, 0, none⟩) ∧ s12 = .int .i64 0 ∧ Hid (Below v0.heap.size v0 wc ∧ Box wc g N N))
                case first =>
                  as_aux_lemma =>
                    refine wp_region_held_drew (S := fun u => Below v0.heap.size v0 u) (by kernel_rfl) ((Below.refl v0.heap.size v0).drew) (fun hHeld => ?_)
                    change wpAnyH _ _ _ _ _ 13 #[false, false, false, false, false, false, false, false, false, false, false, false, false] _ _
                    have HB8 : Hid (∀ u, Below v0.heap.size v0 u → u.cell? ⟨g8, 0, none⟩ = some (.int .u64 bl)) := Hid.mk' (fun u hu => (B8.out.below hu).c0)
                    obtain ⟨vs, hvs⟩ : ∃ vs, vs = v0.drew := ⟨_, rfl⟩
                    change wpAnyH _ _ _ _ _ _ _ _ v0.drew
                    rw [← hvs] at hHeld ⊢
                    have Svs := Hid.mk' hHeld
                    clear hvs
                    refine held_take 0 70 (.int .u8 (k : Int)) rfl rfl (by kernel_rfl) (by kernel_rfl) (by kernel_rfl) (fun _ _ _ h => h) (Or.inl ⟨by rfl, fun u hu => ?_⟩) Svs.out ?_
                    · go_simp
                    simp only [Act.put, List.setIfInBounds_toArray, List.set_cons_zero, List.set_cons_succ]
                    refine held_take 1 71 (.int .u64 p) rfl rfl (by kernel_rfl) (by kernel_rfl) (by kernel_rfl) (fun _ _ _ h => h) (Or.inl ⟨by rfl, fun u hu => ?_⟩) Svs.out ?_
                    · go_simp
                    simp only [Act.put, List.setIfInBounds_toArray, List.set_cons_zero, List.set_cons_succ]
                    refine held_take 3 73 (.pointer (some ⟨g8, 0, none⟩)) rfl rfl (by kernel_rfl) (by kernel_rfl) (by kernel_rfl) (fun _ _ _ h => h) (Or.inl ⟨by rfl, fun u hu => ?_⟩) Svs.out ?_
                    · go_simp
                    simp only [Act.put, List.setIfInBounds_toArray, List.set_cons_zero, List.set_cons_succ]
                    refine held_take 4 74 (.int .u64 bl) rfl rfl (by kernel_rfl) (by kernel_rfl) (by kernel_rfl) (fun _ _ _ h => h) (Or.inl ⟨by rfl, fun u hu => ?_⟩) Svs.out ?_
                    · have q0 := HB8.out u hu
                      go_simp
                    simp only [Act.put, List.setIfInBounds_toArray, List.set_cons_zero, List.set_cons_succ]
                    refine wpAnyH_ready (rs := [2, 10]) (by kernel_rfl) (by simp) (AllReadyH.cons rfl (fun K hK => ?_) (AllReadyH.cons rfl (fun K hK => ?_) (AllReadyH.nil)))
                    · go_simp
                      go_wp2_with (first | (go_at_call 9; refine (one_any p vs).mono ?_; rintro e v1 ⟨rfl, hb⟩))
                      have Sv1 := Hid.mk' (Svs.out.trans (hb.mono Svs.out.size))
                      clear hb
                      refine hK.out _ _ Sv1.out (fun _ => ?_)
                      clear hK K
                      try simp only [List.setIfInBounds_toArray, List.set_cons_zero, List.set_cons_succ]
                      refine wpAnyH_ready (rs := [5, 10]) (by kernel_rfl) (by simp) (AllReadyH.cons rfl (fun K hK => ?_) (AllReadyH.cons rfl (fun K hK => ?_) (AllReadyH.nil)))
                      · go_simp
                        go_wp2_with (first | (go_at_call 9; refine (one_any bl v1).mono ?_; rintro e v2 ⟨rfl, hb⟩))
                        have Sv2 := Hid.mk' (Sv1.out.trans (hb.mono Sv1.out.size))
                        clear hb
                        refine hK.out _ _ Sv2.out (fun _ => ?_)
                        clear hK K
                        try simp only [List.setIfInBounds_toArray, List.set_cons_zero, List.set_cons_succ]
                        refine wpAnyH_ready (rs := [6, 10]) (by kernel_rfl) (by simp) (AllReadyH.cons rfl (fun K hK => ?_) (AllReadyH.cons rfl (fun K hK => ?_) (AllReadyH.nil)))
                        · go_simp
                          go_wp2_with (first | (go_at_call 22; refine (K2.out v2).mono ?_; rintro e v3 ⟨rfl, hb⟩))
                          have Sv3 := Hid.mk' (Sv2.out.trans (hb.mono Sv2.out.size))
                          clear hb
                          refine hK.out _ _ Sv3.out (fun _ => ?_)
                          clear hK K
                          try simp only [List.setIfInBounds_toArray, List.set_cons_zero, List.set_cons_succ]
                          refine held_take 7 69 (.tuple #[spV (N, N), .int .i64 0]) rfl rfl (by kernel_rfl) (by kernel_rfl) (by kernel_rfl) (fun _ _ _ h => h) (Or.inl ⟨by rfl, fun u hu => ?_⟩) Sv3.out ?_
                          · go_simp
                          simp only [Act.put, List.setIfInBounds_toArray, List.set_cons_zero, List.set_cons_succ]
                          refine held_take 8 77 (spV (N, N)) rfl rfl (by kernel_rfl) (by kernel_rfl) (by kernel_rfl) (fun _ _ _ h => h) (Or.inl ⟨by rfl, fun u hu => ?_⟩) Sv3.out ?_
                          · go_simp
                          simp only [Act.put, List.setIfInBounds_toArray, List.set_cons_zero, List.set_cons_succ]
                          refine held_take 9 78 (.int .i64 0) rfl rfl (by kernel_rfl) (by kernel_rfl) (by kernel_rfl) (fun _ _ _ h => h) (Or.inl ⟨by rfl, fun u hu => ?_⟩) Sv3.out ?_
                          · go_simp
                          simp only [Act.put, List.setIfInBounds_toArray, List.set_cons_zero, List.set_cons_succ]
                          refine wpAnyH_ready (rs := [10]) (by kernel_rfl) (by simp) (AllReadyH.cons rfl (fun K hK => ?_) (AllReadyH.nil))
                          · go_simp
                            have Sv4 := Hid.mk' (Sv3.out.trans ((bl1 v3 (spO 0 0)).mono Sv3.out.size))
                            refine hK.out _ _ Sv4.out (fun _ => ?_)
                            clear hK K
                            try simp only [List.setIfInBounds_toArray, List.set_cons_zero, List.set_cons_succ]
                            obtain ⟨g4, Hg4⟩ : ∃ g4, g4 = v3.heap.size := ⟨_, rfl⟩
                            have Bg4v4 : Hid (Box (v3.alloc (spO 0 0)) g4 0 0) := Hid.mk' (Box.new v3 0 0 Hg4)
                            have Gg4 : Hid (v0.heap.size ≤ g4) := Hid.mk' (by rw [Hg4]; exact Sv3.out.size)
                            rw [← Hg4]
                            obtain ⟨v4, Hv4⟩ : ∃ v4, v4 = v3.alloc (spO 0 0) := ⟨_, rfl⟩
                            change wpAnyH _ _ _ _ _ _ _ _ (v3.alloc (spO 0 0))
                            rw [← Hv4] at Sv4 Bg4v4 ⊢
                            clear Hv4 Hg4
                            have a0 := Bg4v4.out.c0
                            have a1 := Bg4v4.out.c1
                            have a2 := Bg4v4.out.fz 0
                            have a3 := Bg4v4.out.fz 1
                            have Z1 := Hid.mk' (below_set2 Sv4.out Gg4.out (.int .u64 N) (.int .u64 N))
                            have A1 := Hid.mk' (Bg4v4.out.set N N)
                            refine held_one 11 (by kernel_rfl) rfl (fun K hK => ?_)
                            go_simp
                            refine hK.out _ _ Z1.out (fun _ => ?_)
                            clear hK K
                            try simp only [List.setIfInBounds_toArray, List.set_cons_zero, List.set_cons_succ]
                            refine held_take 12 12 (.int .i64 0) rfl rfl (by kernel_rfl) (by kernel_rfl) (by kernel_rfl) (fun _ _ _ h => h) (Or.inl ⟨by rfl, fun u hu => ?_⟩) Z1.out ?_
                            · go_simp
                            simp only [Act.put, List.setIfInBounds_toArray, List.set_cons_zero, List.set_cons_succ]
                            refine wpAnyH_done (by kernel_rfl) ?_ _
                            go_wp2_with fail
                            go_meet
                            exact ⟨g4, rfl, rfl, Hid.mk' ⟨Z1.out, A1.out⟩⟩
                        · go_simp
                          have Sv5 := Hid.mk' (Sv2.out.trans ((bl1 v2 (spO 0 0)).mono Sv2.out.size))
                          refine hK.out _ _ Sv5.out (fun _ => ?_)
                          clear hK K
                          try simp only [List.setIfInBounds_toArray, List.set_cons_zero, List.set_cons_succ]
                          obtain ⟨g5, Hg5⟩ : ∃ g5, g5 = v2.heap.size := ⟨_, rfl⟩
                          have Bg5v5 : Hid (Box (v2.alloc (spO 0 0)) g5 0 0) := Hid.mk' (Box.new v2 0 0 Hg5)
                          have Gg5 : Hid (v0.heap.size ≤ g5) := Hid.mk' (by rw [Hg5]; exact Sv2.out.size)
                          rw [← Hg5]
                          obtain ⟨v5, Hv5⟩ : ∃ v5, v5 = v2.alloc (spO 0 0) := ⟨_, rfl⟩
                          change wpAnyH _ _ _ _ _ _ _ _ (v2.alloc (spO 0 0))
                          rw [← Hv5] at Sv5 Bg5v5 ⊢
                          clear Hv5 Hg5
                          refine wpAnyH_ready (rs := [6]) (by kernel_rfl) (by simp) (AllReadyH.cons rfl (fun K hK => ?_) (AllReadyH.nil))
                          · go_simp
                            go_wp2_with (first | (go_at_call 22; refine (K2.out v5).mono ?_; rintro e v6 ⟨rfl, hb⟩))
                            have Sv6 := Hid.mk' (Sv5.out.trans (hb.mono Sv5.out.size))
                            have Bg5v6 := Hid.mk' (Bg5v5.out.below hb)
                            clear hb
                            refine hK.out _ _ Sv6.out (fun _ => ?_)
                            clear hK K
                            try simp only [List.setIfInBounds_toArray, List.set_cons_zero, List.set_cons_succ]
                            refine held_take 7 69 (.tuple #[spV (N, N), .int .i64 0]) rfl rfl (by kernel_rfl) (by kernel_rfl) (by kernel_rfl) (fun _ _ _ h => h) (Or.inl ⟨by rfl, fun u hu => ?_⟩) Sv6.out ?_
                            · go_simp
                            simp only [Act.put, List.setIfInBounds_toArray, List.set_cons_zero, List.set_cons_succ]
                            refine held_take 8 77 (spV (N, N)) rfl rfl (by kernel_rfl) (by kernel_rfl) (by kernel_rfl) (fun _ _ _ h => h) (Or.inl ⟨by rfl, fun u hu => ?_⟩) Sv6.out ?_
                            · go_simp
                            simp only [Act.put, List.setIfInBounds_toArray, List.set_cons_zero, List.set_cons_succ]
                            refine held_take 9 78 (.int .i64 0) rfl rfl (by kernel_rfl) (by kernel_rfl) (by kernel_rfl) (fun _ _ _ h => h) (Or.inl ⟨by rfl, fun u hu => ?_⟩) Sv6.out ?_
                            · go_simp
                            simp only [Act.put, List.setIfInBounds_toArray, List.set_cons_zero, List.set_cons_succ]
                            have a0 := Bg5v6.out.c0
                            have a1 := Bg5v6.out.c1
                            have a2 := Bg5v6.out.fz 0
                            have a3 := Bg5v6.out.fz 1
                            have Z1 := Hid.mk' (below_set2 Sv6.out Gg5.out (.int .u64 N) (.int .u64 N))
                            have A1 := Hid.mk' (Bg5v6.out.set N N)
                            refine held_one 11 (by kernel_rfl) rfl (fun K hK => ?_)
                            go_simp
                            refine hK.out _ _ Z1.out (fun _ => ?_)
                            clear hK K
                            try simp only [List.setIfInBounds_toArray, List.set_cons_zero, List.set_cons_succ]
                            refine held_take 12 12 (.int .i64 0) rfl rfl (by kernel_rfl) (by kernel_rfl) (by kernel_rfl) (fun _ _ _ h => h) (Or.inl ⟨by rfl, fun u hu => ?_⟩) Z1.out ?_
                            · go_simp
                            simp only [Act.put, List.setIfInBounds_toArray, List.set_cons_zero, List.set_cons_succ]
                            refine wpAnyH_done (by kernel_rfl) ?_ _
                            go_wp2_with fail
                            go_meet
                            exact ⟨g5, rfl, rfl, Hid.mk' ⟨Z1.out, A1.out⟩⟩
                      · go_simp
                        have Sv7 := Hid.mk' (Sv1.out.trans ((bl1 v1 (spO 0 0)).mono Sv1.out.size))
                        refine hK.out _ _ Sv7.out (fun _ => ?_)
                        clear hK K
                        try simp only [List.setIfInBounds_toArray, List.set_cons_zero, List.set_cons_succ]
                        obtain ⟨g7, Hg7⟩ : ∃ g7, g7 = v1.heap.size := ⟨_, rfl⟩
                        have Bg7v7 : Hid (Box (v1.alloc (spO 0 0)) g7 0 0) := Hid.mk' (Box.new v1 0 0 Hg7)
                        have Gg7 : Hid (v0.heap.size ≤ g7) := Hid.mk' (by rw [Hg7]; exact Sv1.out.size)
                        rw [← Hg7]
                        obtain ⟨v7, Hv7⟩ : ∃ v7, v7 = v1.alloc (spO 0 0) := ⟨_, rfl⟩
                        change wpAnyH _ _ _ _ _ _ _ _ (v1.alloc (spO 0 0))
                        rw [← Hv7] at Sv7 Bg7v7 ⊢
                        clear Hv7 Hg7
                        refine wpAnyH_ready (rs := [5]) (by kernel_rfl) (by simp) (AllReadyH.cons rfl (fun K hK => ?_) (AllReadyH.nil))
                        · go_simp
                          go_wp2_with (first | (go_at_call 9; refine (one_any bl v7).mono ?_; rintro e v8 ⟨rfl, hb⟩))
                          have Sv8 := Hid.mk' (Sv7.out.trans (hb.mono Sv7.out.size))
                          have Bg7v8 := Hid.mk' (Bg7v7.out.below hb)
                          clear hb
                          refine hK.out _ _ Sv8.out (fun _ => ?_)
                          clear hK K
                          try simp only [List.setIfInBounds_toArray, List.set_cons_zero, List.set_cons_succ]
                          refine wpAnyH_ready (rs := [6]) (by kernel_rfl) (by simp) (AllReadyH.cons rfl (fun K hK => ?_) (AllReadyH.nil))
                          · go_simp
                            go_wp2_with (first | (go_at_call 22; refine (K2.out v8).mono ?_; rintro e v9 ⟨rfl, hb⟩))
                            have Sv9 := Hid.mk' (Sv8.out.trans (hb.mono Sv8.out.size))
                            have Bg7v9 := Hid.mk' (Bg7v8.out.below hb)
                            clear hb
                            refine hK.out _ _ Sv9.out (fun _ => ?_)
                            clear hK K
                            try simp only [List.setIfInBounds_toArray, List.set_cons_zero, List.set_cons_succ]
                            refine held_take 7 69 (.tuple #[spV (N, N), .int .i64 0]) rfl rfl (by kernel_rfl) (by kernel_rfl) (by kernel_rfl) (fun _ _ _ h => h) (Or.inl ⟨by rfl, fun u hu => ?_⟩) Sv9.out ?_
                            · go_simp
                            simp only [Act.put, List.setIfInBounds_toArray, List.set_cons_zero, List.set_cons_succ]
                            refine held_take 8 77 (spV (N, N)) rfl rfl (by kernel_rfl) (by kernel_rfl) (by kernel_rfl) (fun _ _ _ h => h) (Or.inl ⟨by rfl, fun u hu => ?_⟩) Sv9.out ?_
                            · go_simp
                            simp only [Act.put, List.setIfInBounds_toArray, List.set_cons_zero, List.set_cons_succ]
                            refine held_take 9 78 (.int .i64 0) rfl rfl (by kernel_rfl) (by kernel_rfl) (by kernel_rfl) (fun _ _ _ h => h) (Or.inl ⟨by rfl, fun u hu => ?_⟩) Sv9.out ?_
                            · go_simp
                            simp only [Act.put, List.setIfInBounds_toArray, List.set_cons_zero, List.set_cons_succ]
                            have a0 := Bg7v9.out.c0
                            have a1 := Bg7v9.out.c1
                            have a2 := Bg7v9.out.fz 0
                            have a3 := Bg7v9.out.fz 1
                            have Z1 := Hid.mk' (below_set2 Sv9.out Gg7.out (.int .u64 N) (.int .u64 N))
                            have A1 := Hid.mk' (Bg7v9.out.set N N)
                            refine held_one 11 (by kernel_rfl) rfl (fun K hK => ?_)
                            go_simp
                            refine hK.out _ _ Z1.out (fun _ => ?_)
                            clear hK K
                            try simp only [List.setIfInBounds_toArray, List.set_cons_zero, List.set_cons_succ]
                            refine held_take 12 12 (.int .i64 0) rfl rfl (by kernel_rfl) (by kernel_rfl) (by kernel_rfl) (fun _ _ _ h => h) (Or.inl ⟨by rfl, fun u hu => ?_⟩) Z1.out ?_
                            · go_simp
                            simp only [Act.put, List.setIfInBounds_toArray, List.set_cons_zero, List.set_cons_succ]
                            refine wpAnyH_done (by kernel_rfl) ?_ _
                            go_wp2_with fail
                            go_meet
                            exact ⟨g7, rfl, rfl, Hid.mk' ⟨Z1.out, A1.out⟩⟩
                    · go_simp
                      have Sv10 := Hid.mk' (Svs.out.trans ((bl1 vs (spO 0 0)).mono Svs.out.size))
                      refine hK.out _ _ Sv10.out (fun _ => ?_)
                      clear hK K
                      try simp only [List.setIfInBounds_toArray, List.set_cons_zero, List.set_cons_succ]
                      obtain ⟨g10, Hg10⟩ : ∃ g10, g10 = vs.heap.size := ⟨_, rfl⟩
                      have Bg10v10 : Hid (Box (vs.alloc (spO 0 0)) g10 0 0) := Hid.mk' (Box.new vs 0 0 Hg10)
                      have Gg10 : Hid (v0.heap.size ≤ g10) := Hid.mk' (by rw [Hg10]; exact Svs.out.size)
                      rw [← Hg10]
                      obtain ⟨v10, Hv10⟩ : ∃ v10, v10 = vs.alloc (spO 0 0) := ⟨_, rfl⟩
                      change wpAnyH _ _ _ _ _ _ _ _ (vs.alloc (spO 0 0))
                      rw [← Hv10] at Sv10 Bg10v10 ⊢
                      clear Hv10 Hg10
                      refine wpAnyH_ready (rs := [2]) (by kernel_rfl) (by simp) (AllReadyH.cons rfl (fun K hK => ?_) (AllReadyH.nil))
                      · go_simp
                        go_wp2_with (first | (go_at_call 9; refine (one_any p v10).mono ?_; rintro e v11 ⟨rfl, hb⟩))
                        have Sv11 := Hid.mk' (Sv10.out.trans (hb.mono Sv10.out.size))
                        have Bg10v11 := Hid.mk' (Bg10v10.out.below hb)
                        clear hb
                        refine hK.out _ _ Sv11.out (fun _ => ?_)
                        clear hK K
                        try simp only [List.setIfInBounds_toArray, List.set_cons_zero, List.set_cons_succ]
                        refine wpAnyH_ready (rs := [5]) (by kernel_rfl) (by simp) (AllReadyH.cons rfl (fun K hK => ?_) (AllReadyH.nil))
                        · go_simp
                          go_wp2_with (first | (go_at_call 9; refine (one_any bl v11).mono ?_; rintro e v12 ⟨rfl, hb⟩))
                          have Sv12 := Hid.mk' (Sv11.out.trans (hb.mono Sv11.out.size))
                          have Bg10v12 := Hid.mk' (Bg10v11.out.below hb)
                          clear hb
                          refine hK.out _ _ Sv12.out (fun _ => ?_)
                          clear hK K
                          try simp only [List.setIfInBounds_toArray, List.set_cons_zero, List.set_cons_succ]
                          refine wpAnyH_ready (rs := [6]) (by kernel_rfl) (by simp) (AllReadyH.cons rfl (fun K hK => ?_) (AllReadyH.nil))
                          · go_simp
                            go_wp2_with (first | (go_at_call 22; refine (K2.out v12).mono ?_; rintro e v13 ⟨rfl, hb⟩))
                            have Sv13 := Hid.mk' (Sv12.out.trans (hb.mono Sv12.out.size))
                            have Bg10v13 := Hid.mk' (Bg10v12.out.below hb)
                            clear hb
                            refine hK.out _ _ Sv13.out (fun _ => ?_)
                            clear hK K
                            try simp only [List.setIfInBounds_toArray, List.set_cons_zero, List.set_cons_succ]
                            refine held_take 7 69 (.tuple #[spV (N, N), .int .i64 0]) rfl rfl (by kernel_rfl) (by kernel_rfl) (by kernel_rfl) (fun _ _ _ h => h) (Or.inl ⟨by rfl, fun u hu => ?_⟩) Sv13.out ?_
                            · go_simp
                            simp only [Act.put, List.setIfInBounds_toArray, List.set_cons_zero, List.set_cons_succ]
                            refine held_take 8 77 (spV (N, N)) rfl rfl (by kernel_rfl) (by kernel_rfl) (by kernel_rfl) (fun _ _ _ h => h) (Or.inl ⟨by rfl, fun u hu => ?_⟩) Sv13.out ?_
                            · go_simp
                            simp only [Act.put, List.setIfInBounds_toArray, List.set_cons_zero, List.set_cons_succ]
                            refine held_take 9 78 (.int .i64 0) rfl rfl (by kernel_rfl) (by kernel_rfl) (by kernel_rfl) (fun _ _ _ h => h) (Or.inl ⟨by rfl, fun u hu => ?_⟩) Sv13.out ?_
                            · go_simp
                            simp only [Act.put, List.setIfInBounds_toArray, List.set_cons_zero, List.set_cons_succ]
                            have a0 := Bg10v13.out.c0
                            have a1 := Bg10v13.out.c1
                            have a2 := Bg10v13.out.fz 0
                            have a3 := Bg10v13.out.fz 1
                            have Z1 := Hid.mk' (below_set2 Sv13.out Gg10.out (.int .u64 N) (.int .u64 N))
                            have A1 := Hid.mk' (Bg10v13.out.set N N)
                            refine held_one 11 (by kernel_rfl) rfl (fun K hK => ?_)
                            go_simp
                            refine hK.out _ _ Z1.out (fun _ => ?_)
                            clear hK K
                            try simp only [List.setIfInBounds_toArray, List.set_cons_zero, List.set_cons_succ]
                            refine held_take 12 12 (.int .i64 0) rfl rfl (by kernel_rfl) (by kernel_rfl) (by kernel_rfl) (fun _ _ _ h => h) (Or.inl ⟨by rfl, fun u hu => ?_⟩) Z1.out ?_
                            · go_simp
                            simp only [Act.put, List.setIfInBounds_toArray, List.set_cons_zero, List.set_cons_succ]
                            refine wpAnyH_done (by kernel_rfl) ?_ _
                            go_wp2_with fail
                            go_meet
                            exact ⟨g10, rfl, rfl, Hid.mk' ⟨Z1.out, A1.out⟩⟩
                case rest =>
                  obtain ⟨g, rfl, rfl, HM⟩ := hcut
                  obtain ⟨m1, m2⟩ := HM.out
                  have B8 := B8.out.below m1
                  have B9 := B9.out.below m1
                  have X := Hid.mk' (X.out.below m1)
                  have g0 := m2.c0
                  have g1 := m2.c1
                  have h0 := B8.c0
                  have B8 := Hid.mk' B8
                  have B9 := Hid.mk' B9
                  have BG := Hid.mk' m2
                  clear HM m1 m2
                  have hne := fun u => sp_nes N N u
                  go_wp2_with fail
                  go_region_held3 (fun w' => w'.cell? ⟨g, 0, none⟩ = some (.int .u64 N) ∧ w'.cell? ⟨g, 1, none⟩ = some (.int .u64 N) ∧ w'.cell? ⟨g8, 0, none⟩ = some (.int .u64 bl)) (go_keep) (first
                    | (go_at_call 29; refine (K3.out wc.drew).mono ?_; rintro e x0 ⟨rfl, rfl⟩)
                    | (go_at_call 9; refine (one_any N wc.drew).mono ?_; rintro e x1 ⟨rfl, hb⟩; have hb := ((Below.refl wc.heap.size wc).drew).trans hb; have B8x := Hid.mk' (B8.out.below hb); have B9x := Hid.mk' (B9.out.below hb); have BGx := Hid.mk' (BG.out.below hb); have Xx := Hid.mk' (X.out.below hb); have s0 := BGx.out.c0; have s1 := BGx.out.c1; have s2 := B8x.out.c0; clear hb))
                  all_goals
                    have t0 := B9x.out.c0
                    have t1 := B9x.out.c1
                    go_wp2_with fail
                    go_region_held3 (fun w' => w'.cell? ⟨g9, 0, none⟩ = some (.int .u64 S1) ∧ w'.cell? ⟨g9, 1, none⟩ = some (.int .u64 S2)) (go_keep) (first
                      | (go_at_call 29; refine (K4.out x1.drew).mono ?_; rintro e x2 ⟨rfl, rfl⟩)
                      | (go_at_call 15; refine (K5.out x1.drew).mono ?_; rintro e x3 ⟨rfl, hb⟩; have hb := ((Below.refl x1.heap.size x1).drew).trans hb; have B9y := Hid.mk' (B9x.out.below hb); have Xy := Hid.mk' (Xx.out.below hb); have t2 := B9y.out.c0; have t3 := B9y.out.c1; clear hb)
                      | (go_at_call 13; refine (K6.out x3).mono ?_; rintro e x4 ⟨rfl, hb⟩; have B9z := Hid.mk' (B9y.out.below hb); have Xz := Hid.mk' (Xy.out.below hb); have t4 := B9z.out.c0; have t5 := B9z.out.c1; clear hb))
                    all_goals
                      go_wp2_with fail
                      go_roundw
                      case rel => exact ⟨k + 1, by omega, by omega, by go_num, Xz⟩
                      case measure => simp [intOf]; omega
          · have hlk : ¬ (k : Int) ≤ 13 := by omega
            go_wp2_with fail
            go_ret
            exact ⟨rfl, HX.out.old⟩
    · have e2 := ckS_1 h2
      have HC : Hid (∀ u, Calls Try.prog 22 #[.int .u8 4, spV (al, ah), spV (bl, bh)] u fun e w' => e = .returned (.tuple #[spV (0, 0), .int .i64 150]) ∧ Below u.heap.size u w') := Hid.mk' (fun u => by
        have := do_any 4 al ah bl bh u h
        have e : doE 4 al ah bl bh = 150 := by rw [doE_0 (by decide), if_neg (fun k => h2 k.2)]
        rw [doS_1 (by omega), e] at this
        exact this)
      clear h h1 h2 x0 x1 y0 y1
      go_enter Try.func7, Try.ntmps7
      go_wp2_with fail
      refine (works_any _).mono ?_
      rintro e w1 ⟨rfl, hb⟩
      have X := (Tw.new W al ah bl bh x y).below hb
      obtain ⟨c0, c1, c2, c3, c4, c5⟩ := X.cells
      have X := Hid.mk' X
      clear hb
      go_wp2_with fail
      refine (check_any _ _ _).mono ?_
      rintro e w2 ⟨rfl, hb⟩
      rw [e1]
      have X := X.out.below hb
      clear c0 c1 c2 c3 c4 c5
      obtain ⟨c0, c1, c2, c3, c4, c5⟩ := X.cells
      have X := Hid.mk' X
      clear hb
      go_wp2_with fail
      refine (check_any _ _ _).mono ?_
      rintro e w3 ⟨rfl, hb⟩
      rw [e2]
      have X := X.out.below hb
      clear c0 c1 c2 c3 c4 c5
      obtain ⟨c0, c1, c2, c3, c4, c5⟩ := X.cells
      have X := Hid.mk' X
      clear hb
      go_wp2_with fail
      refine (HC.out _).mono ?_
      rintro e w4 ⟨rfl, hb⟩
      have B := Hid.mk' (X.out.old.trans (hb.mono X.out.old.size))
      clear hb
      go_wp2_with fail
      go_ret
      exact ⟨rfl, B.out.trans ((bl1 w4 (spO 0 0)).mono B.out.size)⟩
  · have e1 := ckS_1 h1
    have HC : Hid (∀ u, Calls Try.prog 22 #[.int .u8 4, spV (al, ah), spV (bl, bh)] u fun e w' => e = .returned (.tuple #[spV (0, 0), .int .i64 150]) ∧ Below u.heap.size u w') := Hid.mk' (fun u => by
      have := do_any 4 al ah bl bh u h
      have e : doE 4 al ah bl bh = 150 := by rw [doE_0 (by decide), if_neg (fun k => h1 k.1)]
      rw [doS_1 (by omega), e] at this
      exact this)
    clear h h1 x0 x1 y0 y1
    go_enter Try.func7, Try.ntmps7
    go_wp2_with fail
    refine (works_any _).mono ?_
    rintro e w1 ⟨rfl, hb⟩
    have X := (Tw.new W al ah bl bh x y).below hb
    obtain ⟨c0, c1, c2, c3, c4, c5⟩ := X.cells
    have X := Hid.mk' X
    clear hb
    go_wp2_with fail
    refine (check_any _ _ _).mono ?_
    rintro e w2 ⟨rfl, hb⟩
    rw [e1]
    have X := X.out.below hb
    clear c0 c1 c2 c3 c4 c5
    obtain ⟨c0, c1, c2, c3, c4, c5⟩ := X.cells
    have X := Hid.mk' X
    clear hb
    go_wp2_with fail
    refine (HC.out _).mono ?_
    rintro e w4 ⟨rfl, hb⟩
    have B := Hid.mk' (X.out.old.trans (hb.mono X.out.old.size))
    clear hb
    go_wp2_with fail
    go_ret
    exact ⟨rfl, B.out.trans ((bl1 w4 (spO 0 0)).mono B.out.size)⟩

theorem walkSpanSound (m0 : sh43.M) (W : World) (o0 : sh43.ok W m0) : Calls Try.prog 7 #[.agg (sh43.cs m0).toArray] W fun e w' => e = .returned (.bool true) ∧ Below W.heap.size W w' := by
  obtain ⟨⟨al, ah⟩, ⟨bl, bh⟩, x, y⟩ := m0
  obtain ⟨h, x0, x1, y0, y1⟩ := two_of o0
  exact sounds_ints al ah bl bh x y W h x0 x1 y0 y1
end Go.Proofs.Ytpmbdnmiokkknaa
