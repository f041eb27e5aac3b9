/- The walk of LinkBack. -/
import Derived.Test.YthpgicgpoekmeaaKg
namespace Go.Proofs.Ythpgicgpoekmeaa
open Go.ChangeShapes Go.WideShapes Go.ChangeAt Go.RowKit

set_option maxHeartbeats 2000000 in
theorem linkBack_any (d s : List Int) (t : Int) (a : Option Addr) (m c : Nat) (ys : List Int) (a' : Option Addr) (n c' : Nat) (zs : List Int) (W : World) (h : Lk d s t) (hm : ys.length = m) (h0 : Bs W a ys) (hn : zs.length = n) (h1 : Bs W a' zs) (hcn : n ≤ c') :
    Calls Try.prog 5 #[.agg (lkC d s t).toArray, .slice a m c, .slice a' n c'] W fun e w' => e = .returned (.bool true) ∧ Below W.heap.size W w' := by
  have H0 := Hid.mk' h0
  have H1 := Hid.mk' h1
  have HM := Hid.mk' hm
  have HN := Hid.mk' hn
  have HCN := Hid.mk' hcn
  have HLK := Hid.mk' h
  have hlm : m ≤ 140737488355328 := by rw [← hm]; exact h0.len
  have hln : n ≤ 140737488355328 := by rw [← hn]; exact h1.len
  have hlc := Hid.mk' (lkC_length h)
  have hone := Hid.mk' (lkC_one d s t)
  have HEQ := Hid.mk' (eq_lk h)
  obtain ⟨L, HL⟩ : ∃ L, Hid (lkC d s t = L) := ⟨_, rfl⟩
  rw [HL.out] at hlc hone HEQ ⊢
  have hneq := neq_same (t := 25) (L := L) HEQ.out
  have hlc2 := Hid.mk' (rdL_length h1.bytes)
  have hone2 := Hid.mk' (rdL_one zs)
  have heq0 : ∀ w, (binOp .eql 25 (.agg lk0.toArray) (.agg #[.int .u8 0, .int .u8 0, .int .u8 0, .int .u8 0, .int .u8 0, .int .u8 0, .int .u8 0, .int .u8 0, .int .u8 0, .int .u8 0, .int .u8 0, .int .u8 0, .int .u16 0])).run Try.prog w = .ok (.bool true) w := eql_same (t := 25) (L := lk0) (eq_lk lk_0)
  obtain ⟨L2, HL2⟩ : ∃ L2, Hid (rdL zs = L2) := ⟨_, rfl⟩
  rw [HL2.out] at hlc2 hone2
  obtain ⟨E2, HE2⟩ : ∃ E2, Hid (rdE zs = E2) := ⟨_, rfl⟩
  have hcases : (n < 14 ∧ L2 = lk0 ∧ E2 = 6) ∨ (14 ≤ n ∧ E2 = 0 ∧ 2048 < n) ∨ (14 ≤ n ∧ E2 = 0 ∧ n ≤ 2048) := by
    rw [← HL2.out, ← HE2.out]
    unfold rdL rdE
    rw [hn]
    by_cases h14 : 14 ≤ n
    · rw [if_pos h14, if_pos h14]; omega
    · rw [if_neg h14, if_neg h14]; exact .inl ⟨by omega, rfl, rfl⟩
  have HCS := Hid.mk' hcases
  clear hcases
  have KEYL : Hid (∀ (a9 : Option Addr) (c9 : Nat) (w9 : World), 14 ≤ n → n ≤ 2048 → Calls Try.prog 9 #[.agg L2.toArray, .slice a9 (n - 14) c9] w9 fun e w' => ∃ v, e = .returned (.tuple #[v, .int .i64 0]) ∧ w'.ownsRow w9.heap.size 5 1 v 14 ((zs.take 14).map (Value.int .u8)) ∧ Below w9.heap.size w9 w') := Hid.mk' (fun a9 c9 w9 h14 h48 => by
    have hk := lk_of h1.bytes (show 14 ≤ zs.length by rw [hn]; exact h14)
    have := lbytes_ok _ _ _ a9 (n - 14) c9 w9 hk (by omega)
    rw [lkB_rd h1.bytes (by rw [hn]; exact h14)] at this
    rw [← HL2.out]
    unfold rdL
    rw [if_pos (by rw [hn]; exact h14)]
    exact this)
  clear h h0 h1 hm hn hcn
  obtain ⟨W1, hW1⟩ : ∃ W1, W1 = W.alloc (.cells L.toArray 25) := ⟨_, rfl⟩
  have R1 : Hid (W1.heap[W.heap.size]? = some (.cells L.toArray 25 (0, 0))) := by rw [hW1]; exact heap_alloc_new W _
  have B1 : Hid (Below W.heap.size W W1) := by rw [hW1]; exact (Below.refl _ _).alloc (Nat.le_refl _) _
  have HW := Hid.mk' hW1.symm
  clear hW1
  go_enter Try.func5, Try.ntmps5
  go_wp2_with fail
  rw [HW.out]
  refine (awake_any W1).mono ?_
  rintro e w2 ⟨rfl, b2⟩
  have B2 : Hid (Below W.heap.size W w2) := B1.out.trans (b2.mono B1.out.size)
  have R2 : Hid (w2.heap[W.heap.size]? = some (.cells L.toArray 25 (0, 0))) := (b2.block _ (Array.getElem?_eq_some_iff.1 R1.out).1).trans R1.out
  clear b2 R1 B1
  go_wp2_with (first | refine wpList_load_mid rfl 25 _ rfl W.heap.size 0 rfl L _ (range_block R2.out) Try.underlying25 rfl (by rw [hlc.out]; exact info_lk) ?_)
  by_cases hm34 : m ≤ 2034
  · have key := lbytes_ok d s t a m c w2 HLK.out hm34
    rw [HL.out] at key
    refine key.mono ?_
    rintro e w3 ⟨v3, rfl, hown, b3⟩
    obtain ⟨a3, c3, rfl, s3, -, -⟩ := own_bs hown (lkB_length HLK.out) (lkB_bytes HLK.out) (by rw [lkB_length HLK.out]; omega)
    have S3 := Hid.mk' s3
    have B3 : Hid (Below W.heap.size W w3) := B2.out.trans (b3.mono B2.out.size)
    have R3 : Hid (w3.heap[W.heap.size]? = some (.cells L.toArray 25 (0, 0))) := (b3.block _ (Array.getElem?_eq_some_iff.1 R2.out).1).trans R2.out
    clear hown b3 s3 key B2 R2
    go_wp2_with fail
    refine (join_any a3 a c3 c 14 m (lkB d s t) ys w3 (lkB_length HLK.out) HM.out S3.out (H0.out.below B3.out) (by omega)).mono ?_
    rintro e w4 ⟨v4, rfl, hown, b4⟩
    have hjl : (lkB d s t ++ ys).length = 14 + m := by rw [List.length_append, lkB_length HLK.out, HM.out]
    obtain ⟨a4, c4, rfl, s4, hc4, -⟩ := own_bs hown hjl (bytes_append (lkB_bytes HLK.out) H0.out.bytes) (by rw [hjl]; omega)
    have S4 := Hid.mk' s4
    have HC4 := Hid.mk' hc4
    have HJL := Hid.mk' hjl
    have B4 : Hid (Below W.heap.size W w4) := B3.out.trans (b4.mono B3.out.size)
    have R4 : Hid (w4.heap[W.heap.size]? = some (.cells L.toArray 25 (0, 0))) := (b4.block _ (Array.getElem?_eq_some_iff.1 R3.out).1).trans R3.out
    clear hown b4 s4 hc4 hjl B3 R3 S3
    go_wp2_with fail
    have key := lread_any a4 (14 + m) c4 (lkB d s t ++ ys) w4 HJL.out S4.out HC4.out
    rw [show rdL (lkB d s t ++ ys) = L by unfold rdL; rw [HJL.out, if_pos (by omega), (rd_lkB HLK.out ys).1, (rd_lkB HLK.out ys).2.1, (rd_lkB HLK.out ys).2.2]; exact HL.out, show rdE (lkB d s t ++ ys) = 0 by unfold rdE; rw [HJL.out, if_pos (by omega)]] at key
    refine key.mono ?_
    rintro e w5 ⟨rfl, b5⟩
    have B5 : Hid (Below W.heap.size W w5) := B4.out.trans (b5.mono B4.out.size)
    have R5 : Hid (w5.heap[W.heap.size]? = some (.cells L.toArray 25 (0, 0))) := (b5.block _ (Array.getElem?_eq_some_iff.1 R4.out).1).trans R4.out
    clear key b5 B4 R4 S4
    have b6 : Below w5.heap.size w5 (w5.alloc (.cells L.toArray 25)) := (Below.refl _ _).alloc (Nat.le_refl _) _
    have B6 : Hid (Below W.heap.size W (w5.alloc (.cells L.toArray 25))) := B5.out.trans (b6.mono B5.out.size)
    have R6 : Hid ((w5.alloc (.cells L.toArray 25)).heap[W.heap.size]? = some (.cells L.toArray 25 (0, 0))) := (b6.block _ (Array.getElem?_eq_some_iff.1 R5.out).1).trans R5.out
    clear b6 B5 R5
    go_wp2_with (first | (go_at_call 11; refine (lcheck_any L _).mono ?_; rintro e w7 ⟨rfl, b7⟩; have B7 : Hid (Below W.heap.size W w7) := (B6.out.trans (b7.mono B6.out.size)); clear b7 B6 R6) | refine wpList_store_new rfl 25 _ _ rfl _ _ L rfl rfl (by rw [hlc.out]; rfl) (by rw [hlc.out]; exact info_lk) hone.out ?_ | refine wpList_load_midG (by rfl) 25 _ rfl W.heap.size 0 rfl L _ (range_block R6.out) Try.underlying25 rfl (by rw [hlc.out]; exact info_lk) ?_ | refine wpList_load_midG (by rfl) 25 _ rfl w5.heap.size 0 rfl L _ (range_block (heap_alloc_new w5 _)) Try.underlying25 rfl (by rw [hlc.out]; exact info_lk) ?_)
    have key := lread_any a' n c' zs w7 HN.out (H1.out.below B7.out) HCN.out
    rw [HL2.out, HE2.out] at key
    refine key.mono ?_
    rintro e w8 ⟨rfl, b8⟩
    have B8 : Hid (Below W.heap.size W w8) := B7.out.trans (b8.mono B7.out.size)
    clear key b8 B7
    rcases HCS.out with ⟨hn14, hL2, hE2⟩ | ⟨hn14, hE2, hn48⟩ | ⟨hn14, hE2, hn48⟩
    · subst hL2 hE2
      have B9 : Hid (Below W.heap.size W (w8.alloc (.cells lk0.toArray 25))) := B8.out.alloc B8.out.size _
      go_wp2_with (first | refine wpList_store_new rfl 25 _ _ rfl _ _ lk0 rfl rfl rfl info_lk hone2.out ?_ | refine wpList_load_midG (by rfl) 25 _ rfl w8.heap.size 0 rfl lk0 _ (range_block (heap_alloc_new w8 _)) Try.underlying25 rfl info_lk ?_)
      go_ret
      exact ⟨rfl, B9.out⟩
    · subst hE2
      have hsp : (2048 : Int) < (n : Int) := by omega
      have B9 : Hid (Below W.heap.size W (w8.alloc (.cells L2.toArray 25))) := B8.out.alloc B8.out.size _
      go_wp2_with (first | refine wpList_store_new rfl 25 _ _ rfl _ _ L2 rfl rfl (by rw [hlc2.out]; rfl) (by rw [hlc2.out]; exact info_lk) hone2.out ?_)
      go_ret
      exact ⟨rfl, B9.out⟩
    · subst hE2
      have hsp : ¬ (2048 : Int) < (n : Int) := by omega
      have hspd : decide ((2048 : Int) < (n : Int)) = false := by simp; omega
      have hc14 : (14 : Int) ≤ (n : Int) := by omega
      have hcn : (n : Int) ≤ (c' : Int) := by have := HCN.out; omega
      have hcc : (14 : Int) ≤ (c' : Int) := by omega
      go_wp2_with (first | refine wpList_store_new rfl 25 _ _ rfl _ _ L2 rfl rfl (by rw [hlc2.out]; rfl) (by rw [hlc2.out]; exact info_lk) hone2.out ?_)
      obtain ⟨w9, hw9⟩ : ∃ w9, w9 = w8.alloc (.cells L2.toArray 25) := ⟨_, rfl⟩
      rw [← hw9]
      have R9 : Hid (w9.heap[w8.heap.size]? = some (.cells L2.toArray 25 (0, 0))) := by rw [hw9]; exact heap_alloc_new w8 _
      have B9 : Hid (Below W.heap.size W w9) := by rw [hw9]; exact B8.out.alloc B8.out.size _
      clear hw9 B8
      obtain ⟨x0, x1, x2, x3, x4, x5, x6, x7, x8, x9, x10, x11, x12, hLx⟩ := thirteen L2 hlc2.out
      subst hLx
      have CE : w9.cell? ⟨w8.heap.size, 0, none⟩ = some x0 ∧ w9.cell? ⟨w8.heap.size, 1, none⟩ = some x1 ∧ w9.cell? ⟨w8.heap.size, 2, none⟩ = some x2 ∧ w9.cell? ⟨w8.heap.size, 3, none⟩ = some x3 ∧ w9.cell? ⟨w8.heap.size, 4, none⟩ = some x4 ∧ w9.cell? ⟨w8.heap.size, 5, none⟩ = some x5 ∧ w9.cell? ⟨w8.heap.size, 6, none⟩ = some x6 ∧ w9.cell? ⟨w8.heap.size, 7, none⟩ = some x7 ∧ w9.cell? ⟨w8.heap.size, 8, none⟩ = some x8 ∧ w9.cell? ⟨w8.heap.size, 9, none⟩ = some x9 ∧ w9.cell? ⟨w8.heap.size, 10, none⟩ = some x10 ∧ w9.cell? ⟨w8.heap.size, 11, none⟩ = some x11 ∧ w9.cell? ⟨w8.heap.size, 12, none⟩ = some x12 := by
        refine ⟨?_, ?_, ?_, ?_, ?_, ?_, ?_, ?_, ?_, ?_, ?_, ?_, ?_⟩ <;> exact cell_of_row w9 _ _ _ _ _ R9.out
      obtain ⟨pb, po, ha'⟩ := bs_some H1.out (by rw [HN.out]; omega)
      subst ha'
      have HT14 : Hid ((zs.take 14).length = 14) := Hid.mk' (by rw [List.length_take, HN.out]; omega)
      have HBT : Hid (Bytes (zs.take 14)) := Hid.mk' (fun z hz => H1.out.bytes z (List.mem_of_mem_take hz))
      obtain ⟨A0, hA0⟩ : ∃ A0 : Addr, (if c' = 14 then some (⟨pb, po, none⟩ : Addr) else some ⟨pb, po + 14, none⟩) = some A0 := by split <;> exact ⟨_, rfl⟩
      obtain ⟨q0, q1, q2, q3, q4, q5, q6, q7, q8, q9, q10, q11, q12⟩ := CE
      go_region_with (go_at_call 9; refine (KEYL.out _ _ _ hn14 hn48).mono ?_; rintro e w10 ⟨v10, rfl, hown, b10⟩; obtain ⟨a10, c10, rfl, s10, -, -⟩ := own_bs hown HT14.out (HBT.out) (by rw [HT14.out]; omega); have S10 := Hid.mk' s10; have B10 : Hid (Below W.heap.size W w10) := (B9.out.trans ((((Below.refl w9.heap.size w9).drew).trans b10).mono B9.out.size)); clear hown b10 s10)
      all_goals
        clear q0 q1 q2 q3 q4 q5 q6 q7 q8 q9 q10 q11 q12 hA0
        go_wp2_with fail
        refine (eq_at a10 (some ⟨pb, po, none⟩) 14 14 c10 c' (zs.take 14) (zs.take 14) w10 HT14.out HT14.out S10.out ((H1.out.below B10.out).take 14 (by rw [HN.out]; omega))).mono ?_
        rw [decide_eq_true (rfl : zs.take 14 = zs.take 14)]
        rintro e w11 ⟨rfl, d11⟩
        have B11 : Hid (Below W.heap.size W w11) := B10.out.trans (d11.below _)
        clear d11
        go_wp2_with fail
        go_ret
        exact ⟨rfl, B11.out⟩
  · have hmd : decide ((m : Int) ≤ 2034) = false := by simp; omega
    have hmn : ¬ (m : Int) ≤ 2034 := by omega
    refine (lbytes_no L a m c w2 hm34 hlm).mono ?_
    rintro e w3 ⟨rfl, b3⟩
    have B6 : Hid (Below W.heap.size W w3) := B2.out.trans (b3.mono B2.out.size)
    have R6 : Hid (w3.heap[W.heap.size]? = some (.cells L.toArray 25 (0, 0))) := (b3.block _ (Array.getElem?_eq_some_iff.1 R2.out).1).trans R2.out
    clear b3 B2 R2
    go_wp2_with (first | (go_at_call 11; refine (lcheck_any L _).mono ?_; rintro e w7 ⟨rfl, b7⟩; have B7 : Hid (Below W.heap.size W w7) := (B6.out.trans (b7.mono B6.out.size)); clear b7 B6 R6) | refine wpList_load_mid rfl 25 _ rfl W.heap.size 0 rfl L _ (range_block R6.out) Try.underlying25 rfl (by rw [hlc.out]; exact info_lk) ?_)
    have key := lread_any a' n c' zs w7 HN.out (H1.out.below B7.out) HCN.out
    rw [HL2.out, HE2.out] at key
    refine key.mono ?_
    rintro e w8 ⟨rfl, b8⟩
    have B8 : Hid (Below W.heap.size W w8) := B7.out.trans (b8.mono B7.out.size)
    clear key b8 B7
    rcases HCS.out with ⟨hn14, hL2, hE2⟩ | ⟨hn14, hE2, hn48⟩ | ⟨hn14, hE2, hn48⟩
    · subst hL2 hE2
      have B9 : Hid (Below W.heap.size W (w8.alloc (.cells lk0.toArray 25))) := B8.out.alloc B8.out.size _
      go_wp2_with (first | refine wpList_store_new rfl 25 _ _ rfl _ _ lk0 rfl rfl rfl info_lk hone2.out ?_ | refine wpList_load_midG (by rfl) 25 _ rfl w8.heap.size 0 rfl lk0 _ (range_block (heap_alloc_new w8 _)) Try.underlying25 rfl info_lk ?_)
      go_ret
      exact ⟨rfl, B9.out⟩
    · subst hE2
      have hsp : (2048 : Int) < (n : Int) := by omega
      have B9 : Hid (Below W.heap.size W (w8.alloc (.cells L2.toArray 25))) := B8.out.alloc B8.out.size _
      go_wp2_with (first | refine wpList_store_new rfl 25 _ _ rfl _ _ L2 rfl rfl (by rw [hlc2.out]; rfl) (by rw [hlc2.out]; exact info_lk) hone2.out ?_)
      go_ret
      exact ⟨rfl, B9.out⟩
    · subst hE2
      have hsp : ¬ (2048 : Int) < (n : Int) := by omega
      have hspd : decide ((2048 : Int) < (n : Int)) = false := by simp; omega
      have hc14 : (14 : Int) ≤ (n : Int) := by omega
      have hcn : (n : Int) ≤ (c' : Int) := by have := HCN.out; omega
      have hcc : (14 : Int) ≤ (c' : Int) := by omega
      go_wp2_with (first | refine wpList_store_new rfl 25 _ _ rfl _ _ L2 rfl rfl (by rw [hlc2.out]; rfl) (by rw [hlc2.out]; exact info_lk) hone2.out ?_)
      obtain ⟨w9, hw9⟩ : ∃ w9, w9 = w8.alloc (.cells L2.toArray 25) := ⟨_, rfl⟩
      rw [← hw9]
      have R9 : Hid (w9.heap[w8.heap.size]? = some (.cells L2.toArray 25 (0, 0))) := by rw [hw9]; exact heap_alloc_new w8 _
      have B9 : Hid (Below W.heap.size W w9) := by rw [hw9]; exact B8.out.alloc B8.out.size _
      clear hw9 B8
      obtain ⟨x0, x1, x2, x3, x4, x5, x6, x7, x8, x9, x10, x11, x12, hLx⟩ := thirteen L2 hlc2.out
      subst hLx
      have CE : w9.cell? ⟨w8.heap.size, 0, none⟩ = some x0 ∧ w9.cell? ⟨w8.heap.size, 1, none⟩ = some x1 ∧ w9.cell? ⟨w8.heap.size, 2, none⟩ = some x2 ∧ w9.cell? ⟨w8.heap.size, 3, none⟩ = some x3 ∧ w9.cell? ⟨w8.heap.size, 4, none⟩ = some x4 ∧ w9.cell? ⟨w8.heap.size, 5, none⟩ = some x5 ∧ w9.cell? ⟨w8.heap.size, 6, none⟩ = some x6 ∧ w9.cell? ⟨w8.heap.size, 7, none⟩ = some x7 ∧ w9.cell? ⟨w8.heap.size, 8, none⟩ = some x8 ∧ w9.cell? ⟨w8.heap.size, 9, none⟩ = some x9 ∧ w9.cell? ⟨w8.heap.size, 10, none⟩ = some x10 ∧ w9.cell? ⟨w8.heap.size, 11, none⟩ = some x11 ∧ w9.cell? ⟨w8.heap.size, 12, none⟩ = some x12 := by
        refine ⟨?_, ?_, ?_, ?_, ?_, ?_, ?_, ?_, ?_, ?_, ?_, ?_, ?_⟩ <;> exact cell_of_row w9 _ _ _ _ _ R9.out
      obtain ⟨pb, po, ha'⟩ := bs_some H1.out (by rw [HN.out]; omega)
      subst ha'
      have HT14 : Hid ((zs.take 14).length = 14) := Hid.mk' (by rw [List.length_take, HN.out]; omega)
      have HBT : Hid (Bytes (zs.take 14)) := Hid.mk' (fun z hz => H1.out.bytes z (List.mem_of_mem_take hz))
      obtain ⟨A0, hA0⟩ : ∃ A0 : Addr, (if c' = 14 then some (⟨pb, po, none⟩ : Addr) else some ⟨pb, po + 14, none⟩) = some A0 := by split <;> exact ⟨_, rfl⟩
      obtain ⟨q0, q1, q2, q3, q4, q5, q6, q7, q8, q9, q10, q11, q12⟩ := CE
      go_region_with (go_at_call 9; refine (KEYL.out _ _ _ hn14 hn48).mono ?_; rintro e w10 ⟨v10, rfl, hown, b10⟩; obtain ⟨a10, c10, rfl, s10, -, -⟩ := own_bs hown HT14.out (HBT.out) (by rw [HT14.out]; omega); have S10 := Hid.mk' s10; have B10 : Hid (Below W.heap.size W w10) := (B9.out.trans ((((Below.refl w9.heap.size w9).drew).trans b10).mono B9.out.size)); clear hown b10 s10)
      all_goals
        clear q0 q1 q2 q3 q4 q5 q6 q7 q8 q9 q10 q11 q12 hA0
        go_wp2_with fail
        refine (eq_at a10 (some ⟨pb, po, none⟩) 14 14 c10 c' (zs.take 14) (zs.take 14) w10 HT14.out HT14.out S10.out ((H1.out.below B10.out).take 14 (by rw [HN.out]; omega))).mono ?_
        rw [decide_eq_true (rfl : zs.take 14 = zs.take 14)]
        rintro e w11 ⟨rfl, d11⟩
        have B11 : Hid (Below W.heap.size W w11) := B10.out.trans (d11.below _)
        clear d11
        go_wp2_with fail
        go_ret
        exact ⟨rfl, B11.out⟩

theorem walkLinkBack (m0 : sh25.M) (a : Option Addr) (c : Nat) (ys : List Int) (a' : Option Addr) (c' : Nat) (zs : List Int) (W : World) (o0 : sh25.ok W m0) (h1 : Bs W a ys) (_n1 : (a = none → c = 0) ∧ ys.length ≤ c) (h2 : Bs W a' zs) (n2 : (a' = none → c' = 0) ∧ zs.length ≤ c') :
    Calls Try.prog 5 #[.agg (sh25.cs m0).toArray, .slice a ys.length c, .slice a' zs.length c'] W fun e w' => e = .returned (.bool true) ∧ Below W.heap.size W w' := by
  obtain ⟨d, s, t, e, h⟩ := lk_open W m0 o0
  rw [e]
  exact linkBack_any d s t a ys.length c ys a' zs.length c' zs W h rfl h1 rfl h2 n2.2
end Go.Proofs.Ythpgicgpoekmeaa
