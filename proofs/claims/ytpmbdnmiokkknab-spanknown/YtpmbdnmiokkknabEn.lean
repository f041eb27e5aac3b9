/- The walk of SpanKnown. -/
import Derived.Test.YtpmbdnmiokkknabEo
namespace Go.Proofs.Ytpmbdnmiokkknab
open Go.ChangeShapes Go.WideShapes Go.ChangeAt Go.RowKit
set_option maxRecDepth 100000
set_option linter.unusedVariables false

set_option maxHeartbeats 4000000 in
theorem walkSpanKnown (W : World) : Calls Try.prog 4 #[] W fun e w' => e = .returned (.bool true) ∧ Below W.heap.size W w' := by
  have Z2 := Hid.mk' as_built
  have Z3 := Hid.mk' bs_built
  have Z4 := Hid.mk' wa_built
  go_enter Try.func4, Try.ntmps4
  have Z1 := Hid.mk' ops_built
  go_upto_region 1 with fail
  go_step
  refine Great.wpList_buildSliceTo rfl 38 5 21 #[(0, .const (.int .u8 4)), (1, .const (.int .u8 3)), (2, .const (.int .u8 3)), (3, .const (.int .u8 5)), (4, .const (.int .u8 5)), (5, .const (.int .u8 5)), (6, .const (.int .u8 7)), (7, .const (.int .u8 7)), (8, .const (.int .u8 7)), (9, .const (.int .u8 9)), (10, .const (.int .u8 10)), (11, .const (.int .u8 11)), (12, .const (.int .u8 10)), (13, .const (.int .u8 12)), (14, .const (.int .u8 12)), (15, .const (.int .u8 13)), (16, .const (.int .u8 5)), (17, .const (.int .u8 7)), (18, .const (.int .u8 11)), (19, .const (.int .u8 10)), (20, .const (.int .u8 4))] rfl W.heap.size rfl (some 54) rfl Try.underlying38 (u8L opsL).toArray (built_of Z1.out rfl) ?_
  have K := Hid.mk' ((Kn.nil W).add (u8L opsL) 5)
  go_upto_region 2 with fail
  go_step
  iterate 20 (refine wpList_to rfl _ rfl _ _ _ rfl (fun wN hb => ?_); have K := Hid.mk' (K.out.below hb); clear hb)
  refine wpList_to rfl _ rfl _ _ _ rfl (fun w2 hb => ?_)
  have K := Hid.mk' (K.out.below hb)
  clear hb
  simp only [Act.put, List.setIfInBounds_toArray, List.set_cons_zero, List.set_cons_succ]
  refine Great.wpList_buildSliceTo rfl 39 24 21 #[(0, .tmp 55), (1, .tmp 56), (2, .tmp 57), (3, .tmp 58), (4, .tmp 59), (5, .tmp 60), (6, .tmp 61), (7, .tmp 62), (8, .tmp 63), (9, .tmp 64), (10, .tmp 65), (11, .tmp 66), (12, .tmp 67), (13, .tmp 68), (14, .tmp 69), (15, .tmp 70), (16, .tmp 71), (17, .tmp 72), (18, .tmp 73), (19, .tmp 74), (20, .tmp 75)] rfl _ rfl (some 76) rfl Try.underlying39 (spL asL).toArray (built_of Z2.out rfl) ?_
  have K := Hid.mk' (K.out.add (spL asL) 24)
  go_upto_region 3 with fail
  go_step
  iterate 20 (refine wpList_to rfl _ rfl _ _ _ rfl (fun wN hb => ?_); have K := Hid.mk' (K.out.below hb); clear hb)
  refine wpList_to rfl _ rfl _ _ _ rfl (fun w3 hb => ?_)
  have K := Hid.mk' (K.out.below hb)
  clear hb
  simp only [Act.put, List.setIfInBounds_toArray, List.set_cons_zero, List.set_cons_succ]
  refine Great.wpList_buildSliceTo rfl 39 24 21 #[(0, .tmp 77), (1, .tmp 78), (2, .tmp 79), (3, .tmp 80), (4, .tmp 81), (5, .tmp 82), (6, .tmp 83), (7, .tmp 84), (8, .tmp 85), (9, .tmp 86), (10, .tmp 87), (11, .tmp 88), (12, .tmp 89), (13, .tmp 90), (14, .tmp 91), (15, .tmp 92), (16, .tmp 93), (17, .tmp 94), (18, .tmp 95), (19, .tmp 96), (20, .tmp 97)] rfl _ rfl (some 98) rfl Try.underlying39 (spL bsL).toArray (built_of Z3.out rfl) ?_
  have K := Hid.mk' (K.out.add (spL bsL) 24)
  go_upto_region 4 with fail
  go_step
  iterate 20 (refine wpList_to rfl _ rfl _ _ _ rfl (fun wN hb => ?_); have K := Hid.mk' (K.out.below hb); clear hb)
  refine wpList_to rfl _ rfl _ _ _ rfl (fun w4 hb => ?_)
  have K := Hid.mk' (K.out.below hb)
  clear hb
  simp only [Act.put, List.setIfInBounds_toArray, List.set_cons_zero, List.set_cons_succ]
  refine Great.wpList_buildSliceTo rfl 39 24 21 #[(0, .tmp 99), (1, .tmp 100), (2, .tmp 101), (3, .tmp 102), (4, .tmp 103), (5, .tmp 104), (6, .tmp 105), (7, .tmp 106), (8, .tmp 107), (9, .tmp 108), (10, .tmp 109), (11, .tmp 110), (12, .tmp 111), (13, .tmp 112), (14, .tmp 113), (15, .tmp 114), (16, .tmp 115), (17, .tmp 116), (18, .tmp 117), (19, .tmp 118), (20, .tmp 119)] rfl _ rfl (some 120) rfl Try.underlying39 (spL waL).toArray (built_of Z4.out rfl) ?_
  have K := Hid.mk' (K.out.add (spL waL) 24)
  go_upto_block 0 with fail
  go_step
  go_loopw [5] (fun i wr => ∃ k : Nat, k ≤ 21 ∧ i = .int .i64 k ∧ Hid (Kn W wr [(_, spL waL, 24), (_, spL bsL, 24), (_, spL asL, 24), (W.heap.size, u8L opsL, 5)])) (fun i _ => 21 - (intOf i).toNat)
  case atStart => exact ⟨0, Nat.zero_le _, rfl, K⟩
  case round =>
    clear K Z1 Z2 Z3 Z4
    obtain ⟨k, hk, rfl, HB⟩ := hrel
    by_cases hlt : k < 21
    · obtain ⟨o, al, ah, bl, bh, wl, wh, h1, h2, h3, h4, KD⟩ := kn_at k hlt
      have RW := Hid.mk' (fun u (hb : Below wr.heap.size wr u) => (HB.out.below hb).rows h1 h2 h3 h4)
      have KD := Hid.mk' KD
      clear h1 h2 h3 h4
      have hsp : (k : Int) < 21 := by omega
      go_wp2_with fail
      refine wp_region_held_drew (S := fun w' => Below wr.heap.size wr w') (by kernel_rfl) ((Below.refl _ _).drew) (fun hHeld => ?_)
      change wpAnyH _ _ _ _ _ 19 #[false, false, false, false, false, false, false, false, false, false, false, false, false, false, false, false, false, false, false] _ _
      have L0 := Hid.mk' ((Below.refl wr.heap.size wr).drew)
      obtain ⟨x0, Hx⟩ : ∃ x, x = wr.drew := ⟨_, rfl⟩
      change wpAnyH _ _ _ _ _ _ _ _ wr.drew
      rw [← Hx] at L0 ⊢
      clear Hx hHeld
      have hHeld := L0.out
      refine held_take 0 128 (.slice (some { block := W.heap.size, off := 0 }) 21 21) rfl rfl (by kernel_rfl) (by kernel_rfl) (by kernel_rfl) (fun _ _ _ h => h) (Or.inl ⟨by rfl, fun u hu => ?_⟩) hHeld ?_
      · go_simp
      simp only [Act.put, List.setIfInBounds_toArray, List.set_cons_zero, List.set_cons_succ]
      refine held_take 1 129 (.int .i64 (k : Int)) rfl rfl (by kernel_rfl) (by kernel_rfl) (by kernel_rfl) (fun _ _ _ h => h) (Or.inl ⟨by rfl, fun u hu => ?_⟩) hHeld ?_
      · go_simp
      simp only [Act.put, List.setIfInBounds_toArray, List.set_cons_zero, List.set_cons_succ]
      refine held_take 2 130 (.pointer (some { block := W.heap.size, off := k })) rfl rfl (by kernel_rfl) (by kernel_rfl) (by kernel_rfl) (fun _ _ _ h => h) (Or.inl ⟨by rfl, fun u hu => ?_⟩) hHeld ?_
      · have hs := hsp; go_simp
      simp only [Act.put, List.setIfInBounds_toArray, List.set_cons_zero, List.set_cons_succ]
      refine held_take 3 131 (.int .u8 o) rfl rfl (by kernel_rfl) (by kernel_rfl) (by kernel_rfl) (fun _ _ _ h => h) (Or.inl ⟨by rfl, fun u hu => ?_⟩) hHeld ?_
      · have R := RW.out u hu; have q0 := R.c0; have q1 := R.c1; have q2 := R.c2; have q3 := R.c3; have q4 := R.c4; clear R; go_simp
      simp only [Act.put, List.setIfInBounds_toArray, List.set_cons_zero, List.set_cons_succ]
      refine held_take 4 132 (.slice (some { block := w2.heap.size, off := 0 }) 21 21) rfl rfl (by kernel_rfl) (by kernel_rfl) (by kernel_rfl) (fun _ _ _ h => h) (Or.inl ⟨by rfl, fun u hu => ?_⟩) hHeld ?_
      · go_simp
      simp only [Act.put, List.setIfInBounds_toArray, List.set_cons_zero, List.set_cons_succ]
      refine held_take 5 133 (.int .i64 (k : Int)) rfl rfl (by kernel_rfl) (by kernel_rfl) (by kernel_rfl) (fun _ _ _ h => h) (Or.inl ⟨by rfl, fun u hu => ?_⟩) hHeld ?_
      · go_simp
      simp only [Act.put, List.setIfInBounds_toArray, List.set_cons_zero, List.set_cons_succ]
      refine held_take 6 134 (.pointer (some { block := w2.heap.size, off := k * 2 })) rfl rfl (by kernel_rfl) (by kernel_rfl) (by kernel_rfl) (fun _ _ _ h => h) (Or.inl ⟨by rfl, fun u hu => ?_⟩) hHeld ?_
      · go_simp
      simp only [Act.put, List.setIfInBounds_toArray, List.set_cons_zero, List.set_cons_succ]
      refine held_take 7 135 (spV (al, ah)) rfl rfl (by kernel_rfl) (by kernel_rfl) (by kernel_rfl) (fun _ _ _ h => h) (Or.inl ⟨by rfl, fun u hu => ?_⟩) hHeld ?_
      · have R := RW.out u hu; have q0 := R.c0; have q1 := R.c1; have q2 := R.c2; have q3 := R.c3; have q4 := R.c4; clear R; go_simp
      simp only [Act.put, List.setIfInBounds_toArray, List.set_cons_zero, List.set_cons_succ]
      refine held_take 8 136 (.slice (some { block := w3.heap.size, off := 0 }) 21 21) rfl rfl (by kernel_rfl) (by kernel_rfl) (by kernel_rfl) (fun _ _ _ h => h) (Or.inl ⟨by rfl, fun u hu => ?_⟩) hHeld ?_
      · go_simp
      simp only [Act.put, List.setIfInBounds_toArray, List.set_cons_zero, List.set_cons_succ]
      refine held_take 9 137 (.int .i64 (k : Int)) rfl rfl (by kernel_rfl) (by kernel_rfl) (by kernel_rfl) (fun _ _ _ h => h) (Or.inl ⟨by rfl, fun u hu => ?_⟩) hHeld ?_
      · go_simp
      simp only [Act.put, List.setIfInBounds_toArray, List.set_cons_zero, List.set_cons_succ]
      refine held_take 10 138 (.pointer (some { block := w3.heap.size, off := k * 2 })) rfl rfl (by kernel_rfl) (by kernel_rfl) (by kernel_rfl) (fun _ _ _ h => h) (Or.inl ⟨by rfl, fun u hu => ?_⟩) hHeld ?_
      · go_simp
      simp only [Act.put, List.setIfInBounds_toArray, List.set_cons_zero, List.set_cons_succ]
      refine held_take 11 139 (spV (bl, bh)) rfl rfl (by kernel_rfl) (by kernel_rfl) (by kernel_rfl) (fun _ _ _ h => h) (Or.inl ⟨by rfl, fun u hu => ?_⟩) hHeld ?_
      · have R := RW.out u hu; have q0 := R.c0; have q1 := R.c1; have q2 := R.c2; have q3 := R.c3; have q4 := R.c4; clear R; go_simp
      simp only [Act.put, List.setIfInBounds_toArray, List.set_cons_zero, List.set_cons_succ]
      refine wpAnyH_ready (rs := [12, 16]) (by kernel_rfl) (by simp) (AllReadyH.cons rfl (fun K' hK => ?_) (AllReadyH.cons rfl (fun K' hK => ?_) (AllReadyH.nil)))
      · go_simp
        go_wp2_with (first | (go_at_call 9; refine (KD.out _).mono ?_; rintro e x1 ⟨rfl, hb⟩))
        have L1 := Hid.mk' (L0.out.trans (hb.mono L0.out.size))
        clear hb
        refine hK.out _ _ L1.out (fun hHeld => ?_)
        clear hK K'
        try simp only [List.setIfInBounds_toArray, List.set_cons_zero, List.set_cons_succ]
        refine held_take 13 127 (.tuple #[spV (wl, wh), .int .i64 0]) rfl rfl (by kernel_rfl) (by kernel_rfl) (by kernel_rfl) (fun _ _ _ h => h) (Or.inl ⟨by rfl, fun u hu => ?_⟩) L1.out ?_
        · go_simp
        simp only [Act.put, List.setIfInBounds_toArray, List.set_cons_zero, List.set_cons_succ]
        refine held_take 14 141 (spV (wl, wh)) rfl rfl (by kernel_rfl) (by kernel_rfl) (by kernel_rfl) (fun _ _ _ h => h) (Or.inl ⟨by rfl, fun u hu => ?_⟩) L1.out ?_
        · go_simp
        simp only [Act.put, List.setIfInBounds_toArray, List.set_cons_zero, List.set_cons_succ]
        refine held_take 15 142 (.int .i64 0) rfl rfl (by kernel_rfl) (by kernel_rfl) (by kernel_rfl) (fun _ _ _ h => h) (Or.inl ⟨by rfl, fun u hu => ?_⟩) L1.out ?_
        · go_simp
        simp only [Act.put, List.setIfInBounds_toArray, List.set_cons_zero, List.set_cons_succ]
        refine held_one 16 (by kernel_rfl) rfl (fun K' hK => ?_)
        go_simp
        have L2 := Hid.mk' (L1.out.trans ((bl1 (x1) (spO 0 0)).mono L1.out.size))
        refine hK.out _ _ L2.out (fun hHeld => ?_)
        clear hK K'
        try simp only [List.setIfInBounds_toArray, List.set_cons_zero, List.set_cons_succ]
        have hq : wr.heap.size ≤ (x1).heap.size := L1.out.size
        have BX := Hid.mk' (Box.new (x1) 0 0 rfl)
        obtain ⟨q, Hq⟩ : ∃ q, q = (x1).heap.size := ⟨_, rfl⟩
        rw [← Hq] at BX hq ⊢
        obtain ⟨x2, Hx⟩ : ∃ x, x = (x1).alloc (spO 0 0) := ⟨_, rfl⟩
        change wpAnyH _ _ _ _ _ _ _ _ ((x1).alloc (spO 0 0))
        rw [← Hx] at BX L2 ⊢
        clear Hx Hq
        have a0 := BX.out.c0
        have a1 := BX.out.c1
        have a2 := BX.out.fz 0
        have a3 := BX.out.fz 1
        refine held_one 17 (by kernel_rfl) rfl (fun K' hK => ?_)
        go_simp
        have L3 := Hid.mk' (below_set2 L2.out hq (.int .u64 wl) (.int .u64 wh))
        refine hK.out _ _ L3.out (fun hHeld => ?_)
        clear hK K'
        try simp only [List.setIfInBounds_toArray, List.set_cons_zero, List.set_cons_succ]
        have BX := Hid.mk' (BX.out.set wl wh)
        clear a0 a1 a2 a3
        obtain ⟨x3, Hx⟩ : ∃ x, x = (x2.setCell ⟨q, 0, none⟩ (.int .u64 wl)).setCell ⟨q, 1, none⟩ (.int .u64 wh) := ⟨_, rfl⟩
        change wpAnyH _ _ _ _ _ _ _ _ ((x2.setCell ⟨q, 0, none⟩ (.int .u64 wl)).setCell ⟨q, 1, none⟩ (.int .u64 wh))
        rw [← Hx] at BX L3 ⊢
        clear Hx
        refine held_take 18 7 (.int .i64 0) rfl rfl (by kernel_rfl) (by kernel_rfl) (by kernel_rfl) (fun _ _ _ h => h) (Or.inl ⟨by rfl, fun u hu => ?_⟩) L3.out ?_
        · go_simp
        simp only [Act.put, List.setIfInBounds_toArray, List.set_cons_zero, List.set_cons_succ]
        refine wpAnyH_done (by kernel_rfl) ?_ _
        go_wp2_with fail
        refine wp_region_held_drew (S := fun w' => Below x3.heap.size x3 w') (by kernel_rfl) ((Below.refl _ _).drew) (fun hHeld => ?_)
        change wpAnyH _ _ _ _ _ 10 #[false, false, false, false, false, false, false, false, false, false] _ _
        have L9 := Hid.mk' (L3.out.trans (((Below.refl x3.heap.size x3).drew).mono L3.out.size))
        refine held_take 0 143 (.int .i64 0) rfl rfl (by kernel_rfl) (by kernel_rfl) (by kernel_rfl) (fun _ _ _ h => h) (Or.inl ⟨by rfl, fun u hu => ?_⟩) hHeld ?_
        · go_simp
        simp only [Act.put, List.setIfInBounds_toArray, List.set_cons_zero, List.set_cons_succ]
        refine held_take 1 144 (.bool false) rfl rfl (by kernel_rfl) (by kernel_rfl) (by kernel_rfl) (fun _ _ _ h => h) (Or.inl ⟨by rfl, fun u hu => ?_⟩) hHeld ?_
        · go_simp
        simp only [Act.put, List.setIfInBounds_toArray, List.set_cons_zero, List.set_cons_succ]
        refine held_take 2 145 (.bool false) rfl rfl (by kernel_rfl) (by kernel_rfl) (by kernel_rfl) (fun _ _ _ h => h) (Or.inl ⟨by rfl, fun u hu => ?_⟩) hHeld ?_
        · go_simp
        simp only [Act.put, List.setIfInBounds_toArray, List.set_cons_zero, List.set_cons_succ]
        refine held_take 3 146 (spV (wl, wh)) rfl rfl (by kernel_rfl) (by kernel_rfl) (by kernel_rfl) (fun _ _ _ h => h) (Or.inl ⟨by rfl, fun u hu => ?_⟩) hHeld ?_
        · have BB := BX.out.below hu; have q7 := BB.c0; have q8 := BB.c1; clear BB; go_simp
        simp only [Act.put, List.setIfInBounds_toArray, List.set_cons_zero, List.set_cons_succ]
        refine held_take 4 147 (.slice (some { block := w4.heap.size, off := 0 }) 21 21) rfl rfl (by kernel_rfl) (by kernel_rfl) (by kernel_rfl) (fun _ _ _ h => h) (Or.inl ⟨by rfl, fun u hu => ?_⟩) hHeld ?_
        · go_simp
        simp only [Act.put, List.setIfInBounds_toArray, List.set_cons_zero, List.set_cons_succ]
        refine held_take 5 148 (.int .i64 (k : Int)) rfl rfl (by kernel_rfl) (by kernel_rfl) (by kernel_rfl) (fun _ _ _ h => h) (Or.inl ⟨by rfl, fun u hu => ?_⟩) hHeld ?_
        · go_simp
        simp only [Act.put, List.setIfInBounds_toArray, List.set_cons_zero, List.set_cons_succ]
        refine held_take 6 149 (.pointer (some { block := w4.heap.size, off := k * 2 })) rfl rfl (by kernel_rfl) (by kernel_rfl) (by kernel_rfl) (fun _ _ _ h => h) (Or.inl ⟨by rfl, fun u hu => ?_⟩) hHeld ?_
        · go_simp
        simp only [Act.put, List.setIfInBounds_toArray, List.set_cons_zero, List.set_cons_succ]
        refine held_take 7 150 (spV (wl, wh)) rfl rfl (by kernel_rfl) (by kernel_rfl) (by kernel_rfl) (fun _ _ _ h => h) (Or.inl ⟨by rfl, fun u hu => ?_⟩) hHeld ?_
        · have R := RW.out u (L3.out.trans (hu.mono L3.out.size)); have q5 := R.c5; have q6 := R.c6; clear R; go_simp
        simp only [Act.put, List.setIfInBounds_toArray, List.set_cons_zero, List.set_cons_succ]
        refine held_take 8 151 (.bool false) rfl rfl (by kernel_rfl) (by kernel_rfl) (by kernel_rfl) (fun _ _ _ h => h) (Or.inl ⟨by rfl, fun u hu => ?_⟩) hHeld ?_
        · have hne := spne_same wl wh u; go_simp
        simp only [Act.put, List.setIfInBounds_toArray, List.set_cons_zero, List.set_cons_succ]
        refine held_take 9 152 (.bool false) rfl rfl (by kernel_rfl) (by kernel_rfl) (by kernel_rfl) (fun _ _ _ h => h) (Or.inl ⟨by rfl, fun u hu => ?_⟩) hHeld ?_
        · go_simp
        simp only [Act.put, List.setIfInBounds_toArray, List.set_cons_zero, List.set_cons_succ]
        refine wpAnyH_done (by kernel_rfl) ?_ _
        go_wp2_with fail
        go_roundw
        case rel => exact ⟨k + 1, hlt, by go_num, Hid.mk' (HB.out.below L9.out)⟩
        case measure => simp [intOf]; omega
      · go_simp
        have L1 := Hid.mk' (L0.out.trans ((bl1 (x0) (spO 0 0)).mono L0.out.size))
        refine hK.out _ _ L1.out (fun hHeld => ?_)
        clear hK K'
        try simp only [List.setIfInBounds_toArray, List.set_cons_zero, List.set_cons_succ]
        have hq : wr.heap.size ≤ (x0).heap.size := L0.out.size
        have BX := Hid.mk' (Box.new (x0) 0 0 rfl)
        obtain ⟨q, Hq⟩ : ∃ q, q = (x0).heap.size := ⟨_, rfl⟩
        rw [← Hq] at BX hq ⊢
        obtain ⟨x1, Hx⟩ : ∃ x, x = (x0).alloc (spO 0 0) := ⟨_, rfl⟩
        change wpAnyH _ _ _ _ _ _ _ _ ((x0).alloc (spO 0 0))
        rw [← Hx] at BX L1 ⊢
        clear Hx Hq
        refine held_one 12 (by kernel_rfl) rfl (fun K' hK => ?_)
        go_simp
        go_wp2_with (first | (go_at_call 9; refine (KD.out _).mono ?_; rintro e x2 ⟨rfl, hb⟩))
        have L2 := Hid.mk' (L1.out.trans (hb.mono L1.out.size))
        have BX := Hid.mk' (BX.out.below hb)
        clear hb
        refine hK.out _ _ L2.out (fun hHeld => ?_)
        clear hK K'
        try simp only [List.setIfInBounds_toArray, List.set_cons_zero, List.set_cons_succ]
        refine held_take 13 127 (.tuple #[spV (wl, wh), .int .i64 0]) rfl rfl (by kernel_rfl) (by kernel_rfl) (by kernel_rfl) (fun _ _ _ h => h) (Or.inl ⟨by rfl, fun u hu => ?_⟩) L2.out ?_
        · go_simp
        simp only [Act.put, List.setIfInBounds_toArray, List.set_cons_zero, List.set_cons_succ]
        refine held_take 14 141 (spV (wl, wh)) rfl rfl (by kernel_rfl) (by kernel_rfl) (by kernel_rfl) (fun _ _ _ h => h) (Or.inl ⟨by rfl, fun u hu => ?_⟩) L2.out ?_
        · go_simp
        simp only [Act.put, List.setIfInBounds_toArray, List.set_cons_zero, List.set_cons_succ]
        refine held_take 15 142 (.int .i64 0) rfl rfl (by kernel_rfl) (by kernel_rfl) (by kernel_rfl) (fun _ _ _ h => h) (Or.inl ⟨by rfl, fun u hu => ?_⟩) L2.out ?_
        · go_simp
        simp only [Act.put, List.setIfInBounds_toArray, List.set_cons_zero, List.set_cons_succ]
        have a0 := BX.out.c0
        have a1 := BX.out.c1
        have a2 := BX.out.fz 0
        have a3 := BX.out.fz 1
        refine held_one 17 (by kernel_rfl) rfl (fun K' hK => ?_)
        go_simp
        have L3 := Hid.mk' (below_set2 L2.out hq (.int .u64 wl) (.int .u64 wh))
        refine hK.out _ _ L3.out (fun hHeld => ?_)
        clear hK K'
        try simp only [List.setIfInBounds_toArray, List.set_cons_zero, List.set_cons_succ]
        have BX := Hid.mk' (BX.out.set wl wh)
        clear a0 a1 a2 a3
        obtain ⟨x3, Hx⟩ : ∃ x, x = (x2.setCell ⟨q, 0, none⟩ (.int .u64 wl)).setCell ⟨q, 1, none⟩ (.int .u64 wh) := ⟨_, rfl⟩
        change wpAnyH _ _ _ _ _ _ _ _ ((x2.setCell ⟨q, 0, none⟩ (.int .u64 wl)).setCell ⟨q, 1, none⟩ (.int .u64 wh))
        rw [← Hx] at BX L3 ⊢
        clear Hx
        refine held_take 18 7 (.int .i64 0) rfl rfl (by kernel_rfl) (by kernel_rfl) (by kernel_rfl) (fun _ _ _ h => h) (Or.inl ⟨by rfl, fun u hu => ?_⟩) L3.out ?_
        · go_simp
        simp only [Act.put, List.setIfInBounds_toArray, List.set_cons_zero, List.set_cons_succ]
        refine wpAnyH_done (by kernel_rfl) ?_ _
        go_wp2_with fail
        refine wp_region_held_drew (S := fun w' => Below x3.heap.size x3 w') (by kernel_rfl) ((Below.refl _ _).drew) (fun hHeld => ?_)
        change wpAnyH _ _ _ _ _ 10 #[false, false, false, false, false, false, false, false, false, false] _ _
        have L9 := Hid.mk' (L3.out.trans (((Below.refl x3.heap.size x3).drew).mono L3.out.size))
        refine held_take 0 143 (.int .i64 0) rfl rfl (by kernel_rfl) (by kernel_rfl) (by kernel_rfl) (fun _ _ _ h => h) (Or.inl ⟨by rfl, fun u hu => ?_⟩) hHeld ?_
        · go_simp
        simp only [Act.put, List.setIfInBounds_toArray, List.set_cons_zero, List.set_cons_succ]
        refine held_take 1 144 (.bool false) rfl rfl (by kernel_rfl) (by kernel_rfl) (by kernel_rfl) (fun _ _ _ h => h) (Or.inl ⟨by rfl, fun u hu => ?_⟩) hHeld ?_
        · go_simp
        simp only [Act.put, List.setIfInBounds_toArray, List.set_cons_zero, List.set_cons_succ]
        refine held_take 2 145 (.bool false) rfl rfl (by kernel_rfl) (by kernel_rfl) (by kernel_rfl) (fun _ _ _ h => h) (Or.inl ⟨by rfl, fun u hu => ?_⟩) hHeld ?_
        · go_simp
        simp only [Act.put, List.setIfInBounds_toArray, List.set_cons_zero, List.set_cons_succ]
        refine held_take 3 146 (spV (wl, wh)) rfl rfl (by kernel_rfl) (by kernel_rfl) (by kernel_rfl) (fun _ _ _ h => h) (Or.inl ⟨by rfl, fun u hu => ?_⟩) hHeld ?_
        · have BB := BX.out.below hu; have q7 := BB.c0; have q8 := BB.c1; clear BB; go_simp
        simp only [Act.put, List.setIfInBounds_toArray, List.set_cons_zero, List.set_cons_succ]
        refine held_take 4 147 (.slice (some { block := w4.heap.size, off := 0 }) 21 21) rfl rfl (by kernel_rfl) (by kernel_rfl) (by kernel_rfl) (fun _ _ _ h => h) (Or.inl ⟨by rfl, fun u hu => ?_⟩) hHeld ?_
        · go_simp
        simp only [Act.put, List.setIfInBounds_toArray, List.set_cons_zero, List.set_cons_succ]
        refine held_take 5 148 (.int .i64 (k : Int)) rfl rfl (by kernel_rfl) (by kernel_rfl) (by kernel_rfl) (fun _ _ _ h => h) (Or.inl ⟨by rfl, fun u hu => ?_⟩) hHeld ?_
        · go_simp
        simp only [Act.put, List.setIfInBounds_toArray, List.set_cons_zero, List.set_cons_succ]
        refine held_take 6 149 (.pointer (some { block := w4.heap.size, off := k * 2 })) rfl rfl (by kernel_rfl) (by kernel_rfl) (by kernel_rfl) (fun _ _ _ h => h) (Or.inl ⟨by rfl, fun u hu => ?_⟩) hHeld ?_
        · go_simp
        simp only [Act.put, List.setIfInBounds_toArray, List.set_cons_zero, List.set_cons_succ]
        refine held_take 7 150 (spV (wl, wh)) rfl rfl (by kernel_rfl) (by kernel_rfl) (by kernel_rfl) (fun _ _ _ h => h) (Or.inl ⟨by rfl, fun u hu => ?_⟩) hHeld ?_
        · have R := RW.out u (L3.out.trans (hu.mono L3.out.size)); have q5 := R.c5; have q6 := R.c6; clear R; go_simp
        simp only [Act.put, List.setIfInBounds_toArray, List.set_cons_zero, List.set_cons_succ]
        refine held_take 8 151 (.bool false) rfl rfl (by kernel_rfl) (by kernel_rfl) (by kernel_rfl) (fun _ _ _ h => h) (Or.inl ⟨by rfl, fun u hu => ?_⟩) hHeld ?_
        · have hne := spne_same wl wh u; go_simp
        simp only [Act.put, List.setIfInBounds_toArray, List.set_cons_zero, List.set_cons_succ]
        refine held_take 9 152 (.bool false) rfl rfl (by kernel_rfl) (by kernel_rfl) (by kernel_rfl) (fun _ _ _ h => h) (Or.inl ⟨by rfl, fun u hu => ?_⟩) hHeld ?_
        · go_simp
        simp only [Act.put, List.setIfInBounds_toArray, List.set_cons_zero, List.set_cons_succ]
        refine wpAnyH_done (by kernel_rfl) ?_ _
        go_wp2_with fail
        go_roundw
        case rel => exact ⟨k + 1, hlt, by go_num, Hid.mk' (HB.out.below L9.out)⟩
        case measure => simp [intOf]; omega
    · have hsp : ¬ (k : Int) < 21 := by omega
      go_upto_region 11 with fail
      have K : Hid (Kn W wr []) := Hid.mk' ⟨HB.out.old, fun x hx => by simp at hx⟩
      clear HB
      go_upto_region 11 with fail
      go_step
      refine wpList_to rfl _ rfl _ _ _ rfl (fun wN hb => ?_)
      have K := Hid.mk' (K.out.below hb)
      clear hb
      refine wpList_to rfl _ rfl _ _ _ rfl (fun wN hb => ?_)
      have K := Hid.mk' (K.out.below hb)
      clear hb
      simp only [Act.put, List.setIfInBounds_toArray, List.set_cons_zero, List.set_cons_succ]
      go_upto_region 12 with (first | (go_at_call 9; refine (kd11 _).mono ?_; rintro e x11 ⟨rfl, hb⟩; have K := Hid.mk' (K.out.below hb); clear hb))
      have K := Hid.mk' (K.out.below (bl1 x11 (spO 0 0)))
      go_upto_region 12 with fail
      go_step
      refine wpList_to rfl _ rfl _ _ _ rfl (fun wN hb => ?_)
      have K := Hid.mk' (K.out.below hb)
      clear hb
      refine wpList_to rfl _ rfl _ _ _ rfl (fun wN hb => ?_)
      have K := Hid.mk' (K.out.below hb)
      clear hb
      simp only [Act.put, List.setIfInBounds_toArray, List.set_cons_zero, List.set_cons_succ]
      go_upto_region 13 with (first | (go_at_call 9; refine (kd12 _).mono ?_; rintro e x12 ⟨rfl, hb⟩; have K := Hid.mk' (K.out.below hb); clear hb))
      have K := Hid.mk' (K.out.below (bl1 x12 (spO 0 0)))
      go_upto_region 13 with fail
      go_step
      refine wpList_to rfl _ rfl _ _ _ rfl (fun wN hb => ?_)
      have K := Hid.mk' (K.out.below hb)
      clear hb
      refine wpList_to rfl _ rfl _ _ _ rfl (fun wN hb => ?_)
      have K := Hid.mk' (K.out.below hb)
      clear hb
      simp only [Act.put, List.setIfInBounds_toArray, List.set_cons_zero, List.set_cons_succ]
      go_upto_region 14 with (first | (go_at_call 9; refine (kd13 _).mono ?_; rintro e x13 ⟨rfl, hb⟩; have K := Hid.mk' (K.out.below hb); clear hb))
      have K := Hid.mk' (K.out.below (bl1 x13 (spO 0 0)))
      go_upto_region 14 with fail
      go_step
      refine wpList_to rfl _ rfl _ _ _ rfl (fun wN hb => ?_)
      have K := Hid.mk' (K.out.below hb)
      clear hb
      refine wpList_to rfl _ rfl _ _ _ rfl (fun wN hb => ?_)
      have K := Hid.mk' (K.out.below hb)
      clear hb
      simp only [Act.put, List.setIfInBounds_toArray, List.set_cons_zero, List.set_cons_succ]
      go_upto_region 15 with (first | (go_at_call 9; refine (kd14 _).mono ?_; rintro e x14 ⟨rfl, hb⟩; have K := Hid.mk' (K.out.below hb); clear hb))
      have K := Hid.mk' (K.out.below (bl1 x14 (spO 0 0)))
      go_upto_region 15 with fail
      go_step
      refine wpList_to rfl _ rfl _ _ _ rfl (fun wN hb => ?_)
      have K := Hid.mk' (K.out.below hb)
      clear hb
      refine wpList_to rfl _ rfl _ _ _ rfl (fun wN hb => ?_)
      have K := Hid.mk' (K.out.below hb)
      clear hb
      simp only [Act.put, List.setIfInBounds_toArray, List.set_cons_zero, List.set_cons_succ]
      go_upto_region 16 with (first | (go_at_call 9; refine (kd15 _).mono ?_; rintro e x15 ⟨rfl, hb⟩; have K := Hid.mk' (K.out.below hb); clear hb))
      have K := Hid.mk' (K.out.below (bl1 x15 (spO 0 0)))
      go_upto_region 16 with fail
      go_step
      refine wpList_to rfl _ rfl _ _ _ rfl (fun wN hb => ?_)
      have K := Hid.mk' (K.out.below hb)
      clear hb
      refine wpList_to rfl _ rfl _ _ _ rfl (fun wN hb => ?_)
      have K := Hid.mk' (K.out.below hb)
      clear hb
      simp only [Act.put, List.setIfInBounds_toArray, List.set_cons_zero, List.set_cons_succ]
      go_upto_region 17 with (first | (go_at_call 10; refine (kc16 _).mono ?_; rintro e x16 ⟨rfl, hb⟩; have K := Hid.mk' (K.out.below hb); clear hb))
      have K := Hid.mk' (K.out.below (bl2 x16 (spO 0 0) (spO 0 0)))
      go_upto_region 17 with fail
      go_step
      go_upto_region 18 with (first | (go_at_call 12; refine (km17 _).mono ?_; rintro e x17 ⟨rfl, hb⟩; subst hb))
      go_upto_region 19 with fail
      go_upto_region 19 with fail
      go_step
      refine wpList_to rfl _ rfl _ _ _ rfl (fun wN hb => ?_)
      have K := Hid.mk' (K.out.below hb)
      clear hb
      refine wpList_to rfl _ rfl _ _ _ rfl (fun wN hb => ?_)
      have K := Hid.mk' (K.out.below hb)
      clear hb
      simp only [Act.put, List.setIfInBounds_toArray, List.set_cons_zero, List.set_cons_succ]
      go_upto_region 20 with (first | (go_at_call 10; refine (kc19 _).mono ?_; rintro e x19 ⟨rfl, hb⟩; have K := Hid.mk' (K.out.below hb); clear hb))
      have K := Hid.mk' (K.out.add2 5 9 5 5)
      go_upto_region 20 with fail
      go_step
      refine wpList_to rfl _ rfl _ _ _ rfl (fun wN hb => ?_)
      have K := Hid.mk' (K.out.below hb)
      clear hb
      refine wpList_to rfl _ rfl _ _ _ rfl (fun wN hb => ?_)
      have K := Hid.mk' (K.out.below hb)
      clear hb
      simp only [Act.put, List.setIfInBounds_toArray, List.set_cons_zero, List.set_cons_succ]
      go_upto_region 21 with (first | (go_at_call 10; refine (kc20 _).mono ?_; rintro e x20 ⟨rfl, hb⟩; have K := Hid.mk' (K.out.below hb); clear hb))
      have K := Hid.mk' (K.out.add2 5 9 5 9)
      go_upto_region 21 with fail
      go_step
      refine wpList_to rfl _ rfl _ _ _ rfl (fun wN hb => ?_)
      have K := Hid.mk' (K.out.below hb)
      clear hb
      refine wpList_to rfl _ rfl _ _ _ rfl (fun wN hb => ?_)
      have K := Hid.mk' (K.out.below hb)
      clear hb
      simp only [Act.put, List.setIfInBounds_toArray, List.set_cons_zero, List.set_cons_succ]
      go_upto_region 22 with (first | (go_at_call 10; refine (kc21 _).mono ?_; rintro e x21 ⟨rfl, hb⟩; have K := Hid.mk' (K.out.below hb); clear hb))
      have K := Hid.mk' (K.out.add2 0 8 9 9)
      go_upto_region 22 with fail
      go_step
      refine wpList_to rfl _ rfl _ _ _ rfl (fun wN hb => ?_)
      have K := Hid.mk' (K.out.below hb)
      clear hb
      refine wpList_to rfl _ rfl _ _ _ rfl (fun wN hb => ?_)
      have K := Hid.mk' (K.out.below hb)
      clear hb
      simp only [Act.put, List.setIfInBounds_toArray, List.set_cons_zero, List.set_cons_succ]
      go_upto_region 23 with (first | (go_at_call 10; refine (kc22 _).mono ?_; rintro e x22 ⟨rfl, hb⟩; have K := Hid.mk' (K.out.below hb); clear hb))
      have K := Hid.mk' (K.out.below (bl2 x22 (spO 0 0) (spO 0 0)))
      go_upto_region 23 with fail
      go_step
      refine wpList_to rfl _ rfl _ _ _ rfl (fun wN hb => ?_)
      have K := Hid.mk' (K.out.below hb)
      clear hb
      refine wpList_to rfl _ rfl _ _ _ rfl (fun wN hb => ?_)
      have K := Hid.mk' (K.out.below hb)
      clear hb
      simp only [Act.put, List.setIfInBounds_toArray, List.set_cons_zero, List.set_cons_succ]
      go_upto_region 24 with (first | (go_at_call 10; refine (kc23 _).mono ?_; rintro e x23 ⟨rfl, hb⟩; have K := Hid.mk' (K.out.below hb); clear hb))
      have K := Hid.mk' (K.out.add2 1 9 0 0)
      go_upto_region 24 with fail
      go_step
      refine wpList_to rfl _ rfl _ _ _ rfl (fun wN hb => ?_)
      have K := Hid.mk' (K.out.below hb)
      clear hb
      refine wpList_to rfl _ rfl _ _ _ rfl (fun wN hb => ?_)
      have K := Hid.mk' (K.out.below hb)
      clear hb
      simp only [Act.put, List.setIfInBounds_toArray, List.set_cons_zero, List.set_cons_succ]
      go_upto_region 25 with (first | (go_at_call 10; refine (kc24 _).mono ?_; rintro e x24 ⟨rfl, hb⟩; have K := Hid.mk' (K.out.below hb); clear hb))
      have K := Hid.mk' (K.out.below (bl2 x24 (spO 0 0) (spO 0 0)))
      go_upto_region 25 with fail
      go_step
      refine wpList_to rfl _ rfl _ _ _ rfl (fun wN hb => ?_)
      have K := Hid.mk' (K.out.below hb)
      clear hb
      refine wpList_to rfl _ rfl _ _ _ rfl (fun wN hb => ?_)
      have K := Hid.mk' (K.out.below hb)
      clear hb
      simp only [Act.put, List.setIfInBounds_toArray, List.set_cons_zero, List.set_cons_succ]
      go_upto_region 26 with (first | (go_at_call 10; refine (kc25 _).mono ?_; rintro e x25 ⟨rfl, hb⟩; have K := Hid.mk' (K.out.below hb); clear hb))
      have K := Hid.mk' (K.out.add2 0 0 0 0)
      have HF := Hid.mk' (fun u (hb : Below _ _ u) => (K.out.below hb).fin (t := 0))
      obtain ⟨y, Hy⟩ : ∃ y, y = (x25.alloc (spO 0 0)).alloc (spO 0 0) := ⟨_, rfl⟩
      have K := Hid.mk' K.out.old
      rw [← Hy] at HF K ⊢
      clear Hy
      refine wp_region_held_drew (S := fun w' => Below y.heap.size y w') (by kernel_rfl) ((Below.refl _ _).drew) (fun hHeld => ?_)
      change wpAnyH _ _ _ _ _ 72 #[false, false, false, false, false, false, false, false, false, false, false, false, false, false, false, false, false, false, false, false, false, false, false, false, false, false, false, false, false, false, false, false, false, false, false, false, false, false, false, false, false, false, false, false, false, false, false, false, false, false, false, false, false, false, false, false, false, false, false, false, false, false, false, false, false, false, false, false, false, false, false, false] _ _
      refine held_take 0 277 (spV (5, 9)) rfl rfl (by kernel_rfl) (by kernel_rfl) (by kernel_rfl) (fun _ _ _ h => h) (Or.inl ⟨by rfl, fun u hu => ?_⟩) hHeld ?_
      · have R := (HF.out u hu).a1; have q0 := R.c0; have q1 := R.c1; clear R; go_simp
      simp only [Act.put, List.setIfInBounds_toArray, List.set_cons_zero, List.set_cons_succ]
      refine held_one 1 (by kernel_rfl) rfl (fun K' hK => ?_)
      go_simp
      go_wp2_with (first | (go_at_call 7; refine (to_any _ _ _).mono ?_; rintro e v1 ⟨rfl, hb⟩; have Lv1 := Hid.mk' (hHeld.trans (hb.mono hHeld.size)); clear hb hHeld))
      refine hK.out _ _ Lv1.out (fun hHeld => ?_)
      clear hK K' Lv1
      try simp only [List.setIfInBounds_toArray, List.set_cons_zero, List.set_cons_succ]
      refine held_take 2 279 (.bool true) rfl rfl (by kernel_rfl) (by kernel_rfl) (by kernel_rfl) (fun _ _ _ h => h) (Or.inl ⟨by rfl, fun u hu => ?_⟩) hHeld ?_
      · have q := speq_same 5 9 u; go_simp
      simp only [Act.put, List.setIfInBounds_toArray, List.set_cons_zero, List.set_cons_succ]
      refine held_take 3 280 (.bool true) rfl rfl (by kernel_rfl) (by kernel_rfl) (by kernel_rfl) (fun _ _ _ h => h) (Or.inl ⟨by rfl, fun u hu => ?_⟩) hHeld ?_
      · go_simp
      simp only [Act.put, List.setIfInBounds_toArray, List.set_cons_zero, List.set_cons_succ]
      refine held_take 4 281 (spV (5, 5)) rfl rfl (by kernel_rfl) (by kernel_rfl) (by kernel_rfl) (fun _ _ _ h => h) (Or.inl ⟨by rfl, fun u hu => ?_⟩) hHeld ?_
      · have R := (HF.out u hu).b1; have q0 := R.c0; have q1 := R.c1; clear R; go_simp
      simp only [Act.put, List.setIfInBounds_toArray, List.set_cons_zero, List.set_cons_succ]
      refine held_one 5 (by kernel_rfl) rfl (fun K' hK => ?_)
      go_simp
      go_wp2_with (first | (go_at_call 7; refine (to_any _ _ _).mono ?_; rintro e v2 ⟨rfl, hb⟩; have Lv2 := Hid.mk' (hHeld.trans (hb.mono hHeld.size)); clear hb hHeld))
      refine hK.out _ _ Lv2.out (fun hHeld => ?_)
      clear hK K' Lv2
      try simp only [List.setIfInBounds_toArray, List.set_cons_zero, List.set_cons_succ]
      refine held_take 6 283 (.bool true) rfl rfl (by kernel_rfl) (by kernel_rfl) (by kernel_rfl) (fun _ _ _ h => h) (Or.inl ⟨by rfl, fun u hu => ?_⟩) hHeld ?_
      · have q := speq_same 5 5 u; go_simp
      simp only [Act.put, List.setIfInBounds_toArray, List.set_cons_zero, List.set_cons_succ]
      refine held_take 7 284 (.bool true) rfl rfl (by kernel_rfl) (by kernel_rfl) (by kernel_rfl) (fun _ _ _ h => h) (Or.inl ⟨by rfl, fun u hu => ?_⟩) hHeld ?_
      · go_simp
      simp only [Act.put, List.setIfInBounds_toArray, List.set_cons_zero, List.set_cons_succ]
      refine held_take 8 285 (.bool true) rfl rfl (by kernel_rfl) (by kernel_rfl) (by kernel_rfl) (fun _ _ _ h => h) (Or.inl ⟨by rfl, fun u hu => ?_⟩) hHeld ?_
      · go_simp
      simp only [Act.put, List.setIfInBounds_toArray, List.set_cons_zero, List.set_cons_succ]
      refine held_take 9 286 (.bool true) rfl rfl (by kernel_rfl) (by kernel_rfl) (by kernel_rfl) (fun _ _ _ h => h) (Or.inl ⟨by rfl, fun u hu => ?_⟩) hHeld ?_
      · go_simp
      simp only [Act.put, List.setIfInBounds_toArray, List.set_cons_zero, List.set_cons_succ]
      refine held_take 10 287 (.bool true) rfl rfl (by kernel_rfl) (by kernel_rfl) (by kernel_rfl) (fun _ _ _ h => h) (Or.inl ⟨by rfl, fun u hu => ?_⟩) hHeld ?_
      · go_simp
      simp only [Act.put, List.setIfInBounds_toArray, List.set_cons_zero, List.set_cons_succ]
      refine held_take 11 288 (.bool true) rfl rfl (by kernel_rfl) (by kernel_rfl) (by kernel_rfl) (fun _ _ _ h => h) (Or.inl ⟨by rfl, fun u hu => ?_⟩) hHeld ?_
      · go_simp
      simp only [Act.put, List.setIfInBounds_toArray, List.set_cons_zero, List.set_cons_succ]
      refine held_take 12 289 (spV (5, 9)) rfl rfl (by kernel_rfl) (by kernel_rfl) (by kernel_rfl) (fun _ _ _ h => h) (Or.inl ⟨by rfl, fun u hu => ?_⟩) hHeld ?_
      · have R := (HF.out u hu).a2; have q0 := R.c0; have q1 := R.c1; clear R; go_simp
      simp only [Act.put, List.setIfInBounds_toArray, List.set_cons_zero, List.set_cons_succ]
      refine held_one 13 (by kernel_rfl) rfl (fun K' hK => ?_)
      go_simp
      go_wp2_with (first | (go_at_call 7; refine (to_any _ _ _).mono ?_; rintro e v3 ⟨rfl, hb⟩; have Lv3 := Hid.mk' (hHeld.trans (hb.mono hHeld.size)); clear hb hHeld))
      refine hK.out _ _ Lv3.out (fun hHeld => ?_)
      clear hK K' Lv3
      try simp only [List.setIfInBounds_toArray, List.set_cons_zero, List.set_cons_succ]
      refine held_take 14 291 (.bool true) rfl rfl (by kernel_rfl) (by kernel_rfl) (by kernel_rfl) (fun _ _ _ h => h) (Or.inl ⟨by rfl, fun u hu => ?_⟩) hHeld ?_
      · have q := speq_same 5 9 u; go_simp
      simp only [Act.put, List.setIfInBounds_toArray, List.set_cons_zero, List.set_cons_succ]
      refine held_take 15 292 (.bool true) rfl rfl (by kernel_rfl) (by kernel_rfl) (by kernel_rfl) (fun _ _ _ h => h) (Or.inl ⟨by rfl, fun u hu => ?_⟩) hHeld ?_
      · go_simp
      simp only [Act.put, List.setIfInBounds_toArray, List.set_cons_zero, List.set_cons_succ]
      refine held_take 16 293 (.bool true) rfl rfl (by kernel_rfl) (by kernel_rfl) (by kernel_rfl) (fun _ _ _ h => h) (Or.inl ⟨by rfl, fun u hu => ?_⟩) hHeld ?_
      · go_simp
      simp only [Act.put, List.setIfInBounds_toArray, List.set_cons_zero, List.set_cons_succ]
      refine held_take 17 294 (spV (5, 9)) rfl rfl (by kernel_rfl) (by kernel_rfl) (by kernel_rfl) (fun _ _ _ h => h) (Or.inl ⟨by rfl, fun u hu => ?_⟩) hHeld ?_
      · have R := (HF.out u hu).b2; have q0 := R.c0; have q1 := R.c1; clear R; go_simp
      simp only [Act.put, List.setIfInBounds_toArray, List.set_cons_zero, List.set_cons_succ]
      refine held_one 18 (by kernel_rfl) rfl (fun K' hK => ?_)
      go_simp
      go_wp2_with (first | (go_at_call 7; refine (to_any _ _ _).mono ?_; rintro e v4 ⟨rfl, hb⟩; have Lv4 := Hid.mk' (hHeld.trans (hb.mono hHeld.size)); clear hb hHeld))
      refine hK.out _ _ Lv4.out (fun hHeld => ?_)
      clear hK K' Lv4
      try simp only [List.setIfInBounds_toArray, List.set_cons_zero, List.set_cons_succ]
      refine held_take 19 296 (.bool true) rfl rfl (by kernel_rfl) (by kernel_rfl) (by kernel_rfl) (fun _ _ _ h => h) (Or.inl ⟨by rfl, fun u hu => ?_⟩) hHeld ?_
      · have q := speq_same 5 9 u; go_simp
      simp only [Act.put, List.setIfInBounds_toArray, List.set_cons_zero, List.set_cons_succ]
      refine held_take 20 297 (.bool true) rfl rfl (by kernel_rfl) (by kernel_rfl) (by kernel_rfl) (fun _ _ _ h => h) (Or.inl ⟨by rfl, fun u hu => ?_⟩) hHeld ?_
      · go_simp
      simp only [Act.put, List.setIfInBounds_toArray, List.set_cons_zero, List.set_cons_succ]
      refine held_take 21 298 (.bool true) rfl rfl (by kernel_rfl) (by kernel_rfl) (by kernel_rfl) (fun _ _ _ h => h) (Or.inl ⟨by rfl, fun u hu => ?_⟩) hHeld ?_
      · go_simp
      simp only [Act.put, List.setIfInBounds_toArray, List.set_cons_zero, List.set_cons_succ]
      refine held_take 22 299 (.bool true) rfl rfl (by kernel_rfl) (by kernel_rfl) (by kernel_rfl) (fun _ _ _ h => h) (Or.inl ⟨by rfl, fun u hu => ?_⟩) hHeld ?_
      · go_simp
      simp only [Act.put, List.setIfInBounds_toArray, List.set_cons_zero, List.set_cons_succ]
      refine held_take 23 300 (.bool true) rfl rfl (by kernel_rfl) (by kernel_rfl) (by kernel_rfl) (fun _ _ _ h => h) (Or.inl ⟨by rfl, fun u hu => ?_⟩) hHeld ?_
      · go_simp
      simp only [Act.put, List.setIfInBounds_toArray, List.set_cons_zero, List.set_cons_succ]
      refine held_take 24 301 (.bool true) rfl rfl (by kernel_rfl) (by kernel_rfl) (by kernel_rfl) (fun _ _ _ h => h) (Or.inl ⟨by rfl, fun u hu => ?_⟩) hHeld ?_
      · go_simp
      simp only [Act.put, List.setIfInBounds_toArray, List.set_cons_zero, List.set_cons_succ]
      refine held_take 25 302 (spV (0, 8)) rfl rfl (by kernel_rfl) (by kernel_rfl) (by kernel_rfl) (fun _ _ _ h => h) (Or.inl ⟨by rfl, fun u hu => ?_⟩) hHeld ?_
      · have R := (HF.out u hu).a3; have q0 := R.c0; have q1 := R.c1; clear R; go_simp
      simp only [Act.put, List.setIfInBounds_toArray, List.set_cons_zero, List.set_cons_succ]
      refine held_one 26 (by kernel_rfl) rfl (fun K' hK => ?_)
      go_simp
      go_wp2_with (first | (go_at_call 7; refine (to_any _ _ _).mono ?_; rintro e v5 ⟨rfl, hb⟩; have Lv5 := Hid.mk' (hHeld.trans (hb.mono hHeld.size)); clear hb hHeld))
      refine hK.out _ _ Lv5.out (fun hHeld => ?_)
      clear hK K' Lv5
      try simp only [List.setIfInBounds_toArray, List.set_cons_zero, List.set_cons_succ]
      refine held_take 27 304 (.bool true) rfl rfl (by kernel_rfl) (by kernel_rfl) (by kernel_rfl) (fun _ _ _ h => h) (Or.inl ⟨by rfl, fun u hu => ?_⟩) hHeld ?_
      · have q := speq_same 0 8 u; go_simp
      simp only [Act.put, List.setIfInBounds_toArray, List.set_cons_zero, List.set_cons_succ]
      refine held_take 28 305 (.bool true) rfl rfl (by kernel_rfl) (by kernel_rfl) (by kernel_rfl) (fun _ _ _ h => h) (Or.inl ⟨by rfl, fun u hu => ?_⟩) hHeld ?_
      · go_simp
      simp only [Act.put, List.setIfInBounds_toArray, List.set_cons_zero, List.set_cons_succ]
      refine held_take 29 306 (.bool true) rfl rfl (by kernel_rfl) (by kernel_rfl) (by kernel_rfl) (fun _ _ _ h => h) (Or.inl ⟨by rfl, fun u hu => ?_⟩) hHeld ?_
      · go_simp
      simp only [Act.put, List.setIfInBounds_toArray, List.set_cons_zero, List.set_cons_succ]
      refine held_take 30 307 (spV (9, 9)) rfl rfl (by kernel_rfl) (by kernel_rfl) (by kernel_rfl) (fun _ _ _ h => h) (Or.inl ⟨by rfl, fun u hu => ?_⟩) hHeld ?_
      · have R := (HF.out u hu).b3; have q0 := R.c0; have q1 := R.c1; clear R; go_simp
      simp only [Act.put, List.setIfInBounds_toArray, List.set_cons_zero, List.set_cons_succ]
      refine held_one 31 (by kernel_rfl) rfl (fun K' hK => ?_)
      go_simp
      go_wp2_with (first | (go_at_call 7; refine (to_any _ _ _).mono ?_; rintro e v6 ⟨rfl, hb⟩; have Lv6 := Hid.mk' (hHeld.trans (hb.mono hHeld.size)); clear hb hHeld))
      refine hK.out _ _ Lv6.out (fun hHeld => ?_)
      clear hK K' Lv6
      try simp only [List.setIfInBounds_toArray, List.set_cons_zero, List.set_cons_succ]
      refine held_take 32 309 (.bool true) rfl rfl (by kernel_rfl) (by kernel_rfl) (by kernel_rfl) (fun _ _ _ h => h) (Or.inl ⟨by rfl, fun u hu => ?_⟩) hHeld ?_
      · have q := speq_same 9 9 u; go_simp
      simp only [Act.put, List.setIfInBounds_toArray, List.set_cons_zero, List.set_cons_succ]
      refine held_take 33 310 (.bool true) rfl rfl (by kernel_rfl) (by kernel_rfl) (by kernel_rfl) (fun _ _ _ h => h) (Or.inl ⟨by rfl, fun u hu => ?_⟩) hHeld ?_
      · go_simp
      simp only [Act.put, List.setIfInBounds_toArray, List.set_cons_zero, List.set_cons_succ]
      refine held_take 34 311 (.bool true) rfl rfl (by kernel_rfl) (by kernel_rfl) (by kernel_rfl) (fun _ _ _ h => h) (Or.inl ⟨by rfl, fun u hu => ?_⟩) hHeld ?_
      · go_simp
      simp only [Act.put, List.setIfInBounds_toArray, List.set_cons_zero, List.set_cons_succ]
      refine held_take 35 312 (.bool true) rfl rfl (by kernel_rfl) (by kernel_rfl) (by kernel_rfl) (fun _ _ _ h => h) (Or.inl ⟨by rfl, fun u hu => ?_⟩) hHeld ?_
      · go_simp
      simp only [Act.put, List.setIfInBounds_toArray, List.set_cons_zero, List.set_cons_succ]
      refine held_take 36 313 (.bool true) rfl rfl (by kernel_rfl) (by kernel_rfl) (by kernel_rfl) (fun _ _ _ h => h) (Or.inl ⟨by rfl, fun u hu => ?_⟩) hHeld ?_
      · go_simp
      simp only [Act.put, List.setIfInBounds_toArray, List.set_cons_zero, List.set_cons_succ]
      refine held_take 37 314 (.bool true) rfl rfl (by kernel_rfl) (by kernel_rfl) (by kernel_rfl) (fun _ _ _ h => h) (Or.inl ⟨by rfl, fun u hu => ?_⟩) hHeld ?_
      · go_simp
      simp only [Act.put, List.setIfInBounds_toArray, List.set_cons_zero, List.set_cons_succ]
      refine held_take 38 315 (.bool false) rfl rfl (by kernel_rfl) (by kernel_rfl) (by kernel_rfl) (fun _ _ _ h => h) (Or.inl ⟨by rfl, fun u hu => ?_⟩) hHeld ?_
      · go_simp
      simp only [Act.put, List.setIfInBounds_toArray, List.set_cons_zero, List.set_cons_succ]
      refine held_take 39 316 (.bool true) rfl rfl (by kernel_rfl) (by kernel_rfl) (by kernel_rfl) (fun _ _ _ h => h) (Or.inl ⟨by rfl, fun u hu => ?_⟩) hHeld ?_
      · go_simp
      simp only [Act.put, List.setIfInBounds_toArray, List.set_cons_zero, List.set_cons_succ]
      refine held_take 40 317 (.bool true) rfl rfl (by kernel_rfl) (by kernel_rfl) (by kernel_rfl) (fun _ _ _ h => h) (Or.inl ⟨by rfl, fun u hu => ?_⟩) hHeld ?_
      · go_simp
      simp only [Act.put, List.setIfInBounds_toArray, List.set_cons_zero, List.set_cons_succ]
      refine held_take 41 318 (.bool true) rfl rfl (by kernel_rfl) (by kernel_rfl) (by kernel_rfl) (fun _ _ _ h => h) (Or.inl ⟨by rfl, fun u hu => ?_⟩) hHeld ?_
      · go_simp
      simp only [Act.put, List.setIfInBounds_toArray, List.set_cons_zero, List.set_cons_succ]
      refine held_take 42 319 (spV (1, 9)) rfl rfl (by kernel_rfl) (by kernel_rfl) (by kernel_rfl) (fun _ _ _ h => h) (Or.inl ⟨by rfl, fun u hu => ?_⟩) hHeld ?_
      · have R := (HF.out u hu).a4; have q0 := R.c0; have q1 := R.c1; clear R; go_simp
      simp only [Act.put, List.setIfInBounds_toArray, List.set_cons_zero, List.set_cons_succ]
      refine held_one 43 (by kernel_rfl) rfl (fun K' hK => ?_)
      go_simp
      go_wp2_with (first | (go_at_call 7; refine (to_any _ _ _).mono ?_; rintro e v7 ⟨rfl, hb⟩; have Lv7 := Hid.mk' (hHeld.trans (hb.mono hHeld.size)); clear hb hHeld))
      refine hK.out _ _ Lv7.out (fun hHeld => ?_)
      clear hK K' Lv7
      try simp only [List.setIfInBounds_toArray, List.set_cons_zero, List.set_cons_succ]
      refine held_take 44 321 (.bool true) rfl rfl (by kernel_rfl) (by kernel_rfl) (by kernel_rfl) (fun _ _ _ h => h) (Or.inl ⟨by rfl, fun u hu => ?_⟩) hHeld ?_
      · have q := speq_same 1 9 u; go_simp
      simp only [Act.put, List.setIfInBounds_toArray, List.set_cons_zero, List.set_cons_succ]
      refine held_take 45 322 (.bool true) rfl rfl (by kernel_rfl) (by kernel_rfl) (by kernel_rfl) (fun _ _ _ h => h) (Or.inl ⟨by rfl, fun u hu => ?_⟩) hHeld ?_
      · go_simp
      simp only [Act.put, List.setIfInBounds_toArray, List.set_cons_zero, List.set_cons_succ]
      refine held_take 46 323 (.bool true) rfl rfl (by kernel_rfl) (by kernel_rfl) (by kernel_rfl) (fun _ _ _ h => h) (Or.inl ⟨by rfl, fun u hu => ?_⟩) hHeld ?_
      · go_simp
      simp only [Act.put, List.setIfInBounds_toArray, List.set_cons_zero, List.set_cons_succ]
      refine held_take 47 324 (spV (0, 0)) rfl rfl (by kernel_rfl) (by kernel_rfl) (by kernel_rfl) (fun _ _ _ h => h) (Or.inl ⟨by rfl, fun u hu => ?_⟩) hHeld ?_
      · have R := (HF.out u hu).b4; have q0 := R.c0; have q1 := R.c1; clear R; go_simp
      simp only [Act.put, List.setIfInBounds_toArray, List.set_cons_zero, List.set_cons_succ]
      refine held_one 48 (by kernel_rfl) rfl (fun K' hK => ?_)
      go_simp
      go_wp2_with (first | (go_at_call 7; refine (to_any _ _ _).mono ?_; rintro e v8 ⟨rfl, hb⟩; have Lv8 := Hid.mk' (hHeld.trans (hb.mono hHeld.size)); clear hb hHeld))
      refine hK.out _ _ Lv8.out (fun hHeld => ?_)
      clear hK K' Lv8
      try simp only [List.setIfInBounds_toArray, List.set_cons_zero, List.set_cons_succ]
      refine held_take 49 326 (.bool true) rfl rfl (by kernel_rfl) (by kernel_rfl) (by kernel_rfl) (fun _ _ _ h => h) (Or.inl ⟨by rfl, fun u hu => ?_⟩) hHeld ?_
      · have q := speq_same 0 0 u; go_simp
      simp only [Act.put, List.setIfInBounds_toArray, List.set_cons_zero, List.set_cons_succ]
      refine held_take 50 327 (.bool true) rfl rfl (by kernel_rfl) (by kernel_rfl) (by kernel_rfl) (fun _ _ _ h => h) (Or.inl ⟨by rfl, fun u hu => ?_⟩) hHeld ?_
      · go_simp
      simp only [Act.put, List.setIfInBounds_toArray, List.set_cons_zero, List.set_cons_succ]
      refine held_take 51 328 (.bool true) rfl rfl (by kernel_rfl) (by kernel_rfl) (by kernel_rfl) (fun _ _ _ h => h) (Or.inl ⟨by rfl, fun u hu => ?_⟩) hHeld ?_
      · go_simp
      simp only [Act.put, List.setIfInBounds_toArray, List.set_cons_zero, List.set_cons_succ]
      refine held_take 52 329 (.bool true) rfl rfl (by kernel_rfl) (by kernel_rfl) (by kernel_rfl) (fun _ _ _ h => h) (Or.inl ⟨by rfl, fun u hu => ?_⟩) hHeld ?_
      · go_simp
      simp only [Act.put, List.setIfInBounds_toArray, List.set_cons_zero, List.set_cons_succ]
      refine held_take 53 330 (.bool true) rfl rfl (by kernel_rfl) (by kernel_rfl) (by kernel_rfl) (fun _ _ _ h => h) (Or.inl ⟨by rfl, fun u hu => ?_⟩) hHeld ?_
      · go_simp
      simp only [Act.put, List.setIfInBounds_toArray, List.set_cons_zero, List.set_cons_succ]
      refine held_take 54 331 (.bool true) rfl rfl (by kernel_rfl) (by kernel_rfl) (by kernel_rfl) (fun _ _ _ h => h) (Or.inl ⟨by rfl, fun u hu => ?_⟩) hHeld ?_
      · go_simp
      simp only [Act.put, List.setIfInBounds_toArray, List.set_cons_zero, List.set_cons_succ]
      refine held_take 55 332 (.bool false) rfl rfl (by kernel_rfl) (by kernel_rfl) (by kernel_rfl) (fun _ _ _ h => h) (Or.inl ⟨by rfl, fun u hu => ?_⟩) hHeld ?_
      · go_simp
      simp only [Act.put, List.setIfInBounds_toArray, List.set_cons_zero, List.set_cons_succ]
      refine held_take 56 333 (.bool true) rfl rfl (by kernel_rfl) (by kernel_rfl) (by kernel_rfl) (fun _ _ _ h => h) (Or.inl ⟨by rfl, fun u hu => ?_⟩) hHeld ?_
      · go_simp
      simp only [Act.put, List.setIfInBounds_toArray, List.set_cons_zero, List.set_cons_succ]
      refine held_take 57 334 (.bool true) rfl rfl (by kernel_rfl) (by kernel_rfl) (by kernel_rfl) (fun _ _ _ h => h) (Or.inl ⟨by rfl, fun u hu => ?_⟩) hHeld ?_
      · go_simp
      simp only [Act.put, List.setIfInBounds_toArray, List.set_cons_zero, List.set_cons_succ]
      refine held_take 58 335 (.bool true) rfl rfl (by kernel_rfl) (by kernel_rfl) (by kernel_rfl) (fun _ _ _ h => h) (Or.inl ⟨by rfl, fun u hu => ?_⟩) hHeld ?_
      · go_simp
      simp only [Act.put, List.setIfInBounds_toArray, List.set_cons_zero, List.set_cons_succ]
      refine held_take 59 336 (spV (0, 0)) rfl rfl (by kernel_rfl) (by kernel_rfl) (by kernel_rfl) (fun _ _ _ h => h) (Or.inl ⟨by rfl, fun u hu => ?_⟩) hHeld ?_
      · have R := (HF.out u hu).a5; have q0 := R.c0; have q1 := R.c1; clear R; go_simp
      simp only [Act.put, List.setIfInBounds_toArray, List.set_cons_zero, List.set_cons_succ]
      refine held_one 60 (by kernel_rfl) rfl (fun K' hK => ?_)
      go_simp
      go_wp2_with (first | (go_at_call 7; refine (to_any _ _ _).mono ?_; rintro e v9 ⟨rfl, hb⟩; have Lv9 := Hid.mk' (hHeld.trans (hb.mono hHeld.size)); clear hb hHeld))
      refine hK.out _ _ Lv9.out (fun hHeld => ?_)
      clear hK K' Lv9
      try simp only [List.setIfInBounds_toArray, List.set_cons_zero, List.set_cons_succ]
      refine held_take 61 338 (.bool true) rfl rfl (by kernel_rfl) (by kernel_rfl) (by kernel_rfl) (fun _ _ _ h => h) (Or.inl ⟨by rfl, fun u hu => ?_⟩) hHeld ?_
      · have q := speq_same 0 0 u; go_simp
      simp only [Act.put, List.setIfInBounds_toArray, List.set_cons_zero, List.set_cons_succ]
      refine held_take 62 339 (.bool true) rfl rfl (by kernel_rfl) (by kernel_rfl) (by kernel_rfl) (fun _ _ _ h => h) (Or.inl ⟨by rfl, fun u hu => ?_⟩) hHeld ?_
      · go_simp
      simp only [Act.put, List.setIfInBounds_toArray, List.set_cons_zero, List.set_cons_succ]
      refine held_take 63 340 (.bool true) rfl rfl (by kernel_rfl) (by kernel_rfl) (by kernel_rfl) (fun _ _ _ h => h) (Or.inl ⟨by rfl, fun u hu => ?_⟩) hHeld ?_
      · go_simp
      simp only [Act.put, List.setIfInBounds_toArray, List.set_cons_zero, List.set_cons_succ]
      refine held_take 64 341 (spV (0, 0)) rfl rfl (by kernel_rfl) (by kernel_rfl) (by kernel_rfl) (fun _ _ _ h => h) (Or.inl ⟨by rfl, fun u hu => ?_⟩) hHeld ?_
      · have R := (HF.out u hu).b5; have q0 := R.c0; have q1 := R.c1; clear R; go_simp
      simp only [Act.put, List.setIfInBounds_toArray, List.set_cons_zero, List.set_cons_succ]
      refine held_one 65 (by kernel_rfl) rfl (fun K' hK => ?_)
      go_simp
      go_wp2_with (first | (go_at_call 7; refine (to_any _ _ _).mono ?_; rintro e v10 ⟨rfl, hb⟩; have Lv10 := Hid.mk' (hHeld.trans (hb.mono hHeld.size)); clear hb hHeld))
      refine hK.out _ _ Lv10.out (fun hHeld => ?_)
      clear hK K' Lv10
      try simp only [List.setIfInBounds_toArray, List.set_cons_zero, List.set_cons_succ]
      refine held_take 66 343 (.bool true) rfl rfl (by kernel_rfl) (by kernel_rfl) (by kernel_rfl) (fun _ _ _ h => h) (Or.inl ⟨by rfl, fun u hu => ?_⟩) hHeld ?_
      · have q := speq_same 0 0 u; go_simp
      simp only [Act.put, List.setIfInBounds_toArray, List.set_cons_zero, List.set_cons_succ]
      refine held_take 67 344 (.bool true) rfl rfl (by kernel_rfl) (by kernel_rfl) (by kernel_rfl) (fun _ _ _ h => h) (Or.inl ⟨by rfl, fun u hu => ?_⟩) hHeld ?_
      · go_simp
      simp only [Act.put, List.setIfInBounds_toArray, List.set_cons_zero, List.set_cons_succ]
      refine held_take 68 345 (.bool true) rfl rfl (by kernel_rfl) (by kernel_rfl) (by kernel_rfl) (fun _ _ _ h => h) (Or.inl ⟨by rfl, fun u hu => ?_⟩) hHeld ?_
      · go_simp
      simp only [Act.put, List.setIfInBounds_toArray, List.set_cons_zero, List.set_cons_succ]
      refine held_take 69 346 (.bool true) rfl rfl (by kernel_rfl) (by kernel_rfl) (by kernel_rfl) (fun _ _ _ h => h) (Or.inl ⟨by rfl, fun u hu => ?_⟩) hHeld ?_
      · go_simp
      simp only [Act.put, List.setIfInBounds_toArray, List.set_cons_zero, List.set_cons_succ]
      refine held_take 70 347 (.bool true) rfl rfl (by kernel_rfl) (by kernel_rfl) (by kernel_rfl) (fun _ _ _ h => h) (Or.inl ⟨by rfl, fun u hu => ?_⟩) hHeld ?_
      · go_simp
      simp only [Act.put, List.setIfInBounds_toArray, List.set_cons_zero, List.set_cons_succ]
      refine held_take 71 53 (.bool true) rfl rfl (by kernel_rfl) (by kernel_rfl) (by kernel_rfl) (fun _ _ _ h => h) (Or.inl ⟨by rfl, fun u hu => ?_⟩) hHeld ?_
      · go_simp
      simp only [Act.put, List.setIfInBounds_toArray, List.set_cons_zero, List.set_cons_succ]
      have K := Hid.mk' (K.out.trans (hHeld.mono K.out.size))
      refine wpAnyH_done (by kernel_rfl) ?_ _
      clear HF
      go_wp2_with (first | (go_at_call 5; refine (works_any _).mono ?_; rintro e vN ⟨rfl, hb⟩; have K := Hid.mk' (K.out.trans (hb.mono K.out.size)); clear hb) | (go_at_call 7; refine (to_any _ _ _).mono ?_; rintro e vN ⟨rfl, hb⟩; have K := Hid.mk' (K.out.trans (hb.mono K.out.size)); clear hb) | (go_at_call 6; refine (kck54 _).mono ?_; rintro e vN ⟨rfl, hb⟩; have K := Hid.mk' (K.out.trans (hb.mono K.out.size)); clear hb) | (go_at_call 6; refine (kck44 _).mono ?_; rintro e vN ⟨rfl, hb⟩; have K := Hid.mk' (K.out.trans (hb.mono K.out.size)); clear hb) | (go_at_call 13; refine (khas _).mono ?_; rintro e vN ⟨rfl, hb⟩; have K := Hid.mk' (K.out.trans (hb.mono K.out.size)); clear hb))
      go_ret
      exact ⟨rfl, K.out⟩
end Go.Proofs.Ytpmbdnmiokkknab
