/- The walk of DgramBack. (Made by a generator: its last part stands three times.) -/
import Derived.Test.YtbbnoogkgobeoaaNd
namespace Go.Proofs.Ytbbnoogkgobeoaa
open Go.ChangeShapes Go.WideShapes Go.ChangeAt Go.RowKit

set_option maxHeartbeats 2000000 in
theorem back_any (L : List Value) (a : Option Addr) (m c : Nat) (ys : List Int) (a' : Option Addr) (n c' : Nat) (zs : List Int) (W : World) (h : Hd L) (hm : ys.length = m) (h0 : Bs W a ys) (hn : zs.length = n) (h1 : Bs W a' zs) (hcn : n ≤ c') :
    Calls Try.prog 5 #[.agg L.toArray, .slice a m c, .slice a' n c'] W fun e w' => e = .returned (.bool true) ∧ Below W.heap.size W w' := by
  have H0 := Hid.mk' h0
  have H1 := Hid.mk' h1
  have HM := Hid.mk' hm
  have HN := Hid.mk' hn
  have HCN := Hid.mk' hcn
  have HLK := Hid.mk' h
  have hlm : m ≤ 140737488355328 := by rw [← hm]; exact h0.len
  have hln : n ≤ 140737488355328 := by rw [← hn]; exact h1.len
  have hlc := Hid.mk' (hd_len h)
  have hone := Hid.mk' (hd_one h)
  have HEQ := Hid.mk' (hd_eq h)
  have hneq := neq_same (t := 24) (L := L) HEQ.out
  have hlc2 := Hid.mk' (hd_len (hd_rd h1.bytes))
  have hone2 := Hid.mk' (hd_one (hd_rd h1.bytes))
  have hlc0 := Hid.mk' (hd_len hd_0)
  have heq0 : ∀ w, (binOp .eql 24 (.agg hd0.toArray) (.agg #[.int .u16 0, .int .u16 0])).run Try.prog w = .ok (.bool true) w := eql_same (t := 24) (L := hd0) (hd_eq hd_0)
  have HAG : Hid (rdE zs = 0 → n ≤ 2048 → 8 ≤ n ∧ byE (rdL zs) (zs.drop 8) = 0 ∧ byB (rdL zs) (zs.drop 8) = zs.take 8) := Hid.mk' (fun he hl => by
    have := m_again h1.bytes he (by rw [hn]; exact hl)
    rw [hn] at this
    exact this)
  have HNO : Hid (¬ rdE zs = 0 → rdL zs = hd0) := Hid.mk' m_none
  have HRD : Hid (Hd (rdL zs)) := Hid.mk' (hd_rd h1.bytes)
  obtain ⟨L2, HL2⟩ : ∃ L2, Hid (rdL zs = L2) := ⟨_, rfl⟩
  rw [HL2.out] at hlc2 hone2 HAG HNO HRD
  obtain ⟨E2, HE2⟩ : ∃ E2, Hid (rdE zs = E2) := ⟨_, rfl⟩
  rw [HE2.out] at HAG HNO
  have HBK : Hid (byE L ys = 0 → (byB L ys).length = 8 ∧ rdL (byB L ys ++ ys) = L ∧ rdE (byB L ys ++ ys) = 0 ∧ ckE L = 0) := Hid.mk' (m_back h h0.bytes)
  have HNB : Hid (¬ byE L ys = 0 → ckE L = 0 → ¬ m ≤ 2040) := Hid.mk' (fun he hc => by rw [← hm]; exact m_no he hc)
  have HBB : Hid (Bytes (byB L ys)) := Hid.mk' (byB_bytes h h0.bytes)
  have HBL : Hid ((byB L ys).length ≤ 8) := Hid.mk' (byB_le h)
  have HRM : Hid (byE L ys = 0 → m ≤ 2040) := Hid.mk' (fun he => by rw [← hm]; exact (byE_zero he).2)
  obtain ⟨E, HE⟩ : ∃ E, Hid (byE L ys = E) := ⟨_, rfl⟩
  obtain ⟨CK, HCK⟩ : ∃ CK, Hid (ckE L = CK) := ⟨_, rfl⟩
  obtain ⟨BY, HBY⟩ : ∃ BY, Hid (byB L ys = BY) := ⟨_, rfl⟩
  rw [HE.out, HBY.out, HCK.out] at HBK
  rw [HE.out, HCK.out] at HNB
  rw [HBY.out] at HBB HBL
  rw [HE.out] at HRM
  have KC : Hid (∀ w : World, Calls Try.prog 11 #[.agg L.toArray] w fun e w' => e = .returned (.int .i64 CK) ∧ Below w.heap.size w w') := Hid.mk' (fun w => by
    have h1 := h_check L w h
    rw [HCK.out] at h1
    exact h1)
  have KB : Hid (∀ w : World, Bs w a ys → Calls Try.prog 9 #[.agg L.toArray, .slice a m c] w fun e w' => ∃ v, e = .returned (.tuple #[v, .int .i64 E]) ∧ w'.ownsRow w.heap.size 5 1 v BY.length (BY.map (Value.int .u8)) ∧ Below w.heap.size w w') := Hid.mk' (fun w hb => by
    have h1 := h_bytes L a m c ys w h hm hb
    rw [HE.out, HBY.out] at h1
    exact h1)
  clear h h0 h1 hm hn hcn
  obtain ⟨W1, hW1⟩ : ∃ W1, W1 = W.alloc (.cells L.toArray 24) := ⟨_, rfl⟩
  have R1 : Hid (W1.heap[W.heap.size]? = some (.cells L.toArray 24 (0, 0))) := by rw [hW1]; exact heap_alloc_new W _
  have B1 : Hid (Below W.heap.size W W1) := by rw [hW1]; exact (Below.refl _ _).alloc (Nat.le_refl _) _
  have HW := Hid.mk' hW1.symm
  clear hW1
  go_enter Try.func5, Try.ntmps5
  go_wp2_with fail
  rw [HW.out]
  refine (awake_any W1).mono ?_
  rintro e w2 ⟨rfl, b2⟩
  have B2 : Hid (Below W.heap.size W w2) := B1.out.trans (b2.mono B1.out.size)
  have R2 : Hid (w2.heap[W.heap.size]? = some (.cells L.toArray 24 (0, 0))) := (b2.block _ (Array.getElem?_eq_some_iff.1 R1.out).1).trans R1.out
  clear b2 R1 B1
  go_wp2_with (first | refine wpList_load_mid rfl 24 _ rfl W.heap.size 0 rfl L _ (range_block R2.out) Try.underlying24 rfl (by rw [hlc.out]; exact info_hd) ?_)
  refine (KB.out w2 (H0.out.below B2.out)).mono ?_
  rintro e w3 ⟨v3, rfl, hown, b3⟩
  obtain ⟨a3, c3, rfl, s3, -, -⟩ := own_bs hown rfl HBB.out (by have := HBL.out; omega)
  have S3 := Hid.mk' s3
  have B3 : Hid (Below W.heap.size W w3) := B2.out.trans (b3.mono B2.out.size)
  have R3 : Hid (w3.heap[W.heap.size]? = some (.cells L.toArray 24 (0, 0))) := (b3.block _ (Array.getElem?_eq_some_iff.1 R2.out).1).trans R2.out
  clear hown b3 s3 B2 R2
  by_cases hE : E = 0
  · obtain ⟨k1, k2, k3, k4⟩ := HBK.out hE
    have K1 := Hid.mk' k1
    have K2 := Hid.mk' k2
    have K3 := Hid.mk' k3
    have hm44 := HRM.out hE
    subst hE k4
    rw [k1]
    clear k1 k2 k3
    go_wp2_with fail
    refine (join_any a3 a c3 c 8 m BY ys w3 K1.out HM.out S3.out (H0.out.below B3.out) (by omega)).mono ?_
    rintro e w4 ⟨v4, rfl, hown, b4⟩
    have hjl : (BY ++ ys).length = 8 + m := by rw [List.length_append, K1.out, HM.out]
    obtain ⟨a4, c4, rfl, s4, hc4, -⟩ := own_bs hown hjl (bytes_append HBB.out H0.out.bytes) (by rw [hjl]; omega)
    have S4 := Hid.mk' s4
    have HC4 := Hid.mk' hc4
    have HJL := Hid.mk' hjl
    have B4 : Hid (Below W.heap.size W w4) := B3.out.trans (b4.mono B3.out.size)
    have R4 : Hid (w4.heap[W.heap.size]? = some (.cells L.toArray 24 (0, 0))) := (b4.block _ (Array.getElem?_eq_some_iff.1 R3.out).1).trans R3.out
    clear hown b4 s4 hc4 hjl B3 R3 S3
    go_wp2_with fail
    have key := h_read a4 (8 + m) c4 (BY ++ ys) w4 HJL.out S4.out HC4.out
    rw [K2.out, K3.out] at key
    refine key.mono ?_
    rintro e w5 ⟨rfl, b5⟩
    have B5 : Hid (Below W.heap.size W w5) := B4.out.trans (b5.mono B4.out.size)
    have R5 : Hid (w5.heap[W.heap.size]? = some (.cells L.toArray 24 (0, 0))) := (b5.block _ (Array.getElem?_eq_some_iff.1 R4.out).1).trans R4.out
    clear key b5 B4 R4 S4
    have b6 : Below w5.heap.size w5 (w5.alloc (.cells L.toArray 24)) := (Below.refl _ _).alloc (Nat.le_refl _) _
    have B6 : Hid (Below W.heap.size W (w5.alloc (.cells L.toArray 24))) := B5.out.trans (b6.mono B5.out.size)
    have R6 : Hid ((w5.alloc (.cells L.toArray 24)).heap[W.heap.size]? = some (.cells L.toArray 24 (0, 0))) := (b6.block _ (Array.getElem?_eq_some_iff.1 R5.out).1).trans R5.out
    clear b6 B5 R5
    go_wp2_with (first | (go_at_call 11; refine (KC.out _).mono ?_; rintro e w7 ⟨rfl, b7⟩; have B7 : Hid (Below W.heap.size W w7) := (B6.out.trans (b7.mono B6.out.size)); clear b7 B6 R6) | refine wpList_store_new rfl 24 _ _ rfl _ _ L rfl rfl (by rw [hlc.out]; rfl) (by rw [hlc.out]; exact info_hd) hone.out ?_ | refine wpList_load_midG (by rfl) 24 _ rfl W.heap.size 0 rfl L _ (range_block R6.out) Try.underlying24 rfl (by rw [hlc.out]; exact info_hd) ?_ | refine wpList_load_midG (by rfl) 24 _ rfl w5.heap.size 0 rfl L _ (range_block (heap_alloc_new w5 _)) Try.underlying24 rfl (by rw [hlc.out]; exact info_hd) ?_)
    have key := h_read a' n c' zs w7 HN.out (H1.out.below B7.out) HCN.out
    rw [HL2.out, HE2.out] at key
    refine key.mono ?_
    rintro e w8 ⟨rfl, b8⟩
    have B8 : Hid (Below W.heap.size W w8) := B7.out.trans (b8.mono B7.out.size)
    clear key b8 B7
    by_cases hE2 : E2 = 0
    · subst hE2
      by_cases hn48 : n ≤ 2048
      · obtain ⟨hnS, g1, g2⟩ := HAG.out rfl hn48
        have hsp : ¬ (2048 : Int) < (n : Int) := by omega
        have hspd : decide ((2048 : Int) < (n : Int)) = false := by simp; omega
        have hcS : (8 : Int) ≤ (n : Int) := by omega
        have hcn : (n : Int) ≤ (c' : Int) := by have := HCN.out; omega
        have hcc : (8 : Int) ≤ (c' : Int) := by omega
        go_wp2_with (first | refine wpList_store_new rfl 24 _ _ rfl _ _ L2 rfl rfl (by rw [hlc2.out]; rfl) (by rw [hlc2.out]; exact info_hd) hone2.out ?_)
        obtain ⟨w9, hw9⟩ : ∃ w9, w9 = w8.alloc (.cells L2.toArray 24) := ⟨_, rfl⟩
        rw [← hw9]
        have R9 : Hid (w9.heap[w8.heap.size]? = some (.cells L2.toArray 24 (0, 0))) := by rw [hw9]; exact heap_alloc_new w8 _
        have B9 : Hid (Below W.heap.size W w9) := by rw [hw9]; exact B8.out.alloc B8.out.size _
        clear hw9 B8
        obtain ⟨pb, po, ha'⟩ := bs_some H1.out (by rw [HN.out]; omega)
        subst ha'
        have HTS : Hid ((zs.take 8).length = 8) := Hid.mk' (by rw [List.length_take, HN.out]; omega)
        have HBT : Hid (Bytes (zs.take 8)) := Hid.mk' (fun z hz => H1.out.bytes z (List.mem_of_mem_take hz))
        obtain ⟨A0, hA0⟩ : ∃ A0 : Addr, (if c' = 8 then some (⟨pb, po, none⟩ : Addr) else some ⟨pb, po + 8, none⟩) = some A0 := by split <;> exact ⟨_, rfl⟩
        have SD : Hid (Bs w9.drew (some A0) (zs.drop 8)) := Hid.mk' (by
          rw [← hA0]
          have hb := (H1.out.below B9.out.drew).drop 8
          split
          · rename_i hq
            have : zs.drop 8 = [] := List.drop_eq_nil_of_le (by rw [HN.out]; omega)
            rw [this]
            exact bs_nil _ _
          · exact hb)
        have KEYL : Hid (∀ c9 : Nat, Calls Try.prog 9 #[.agg L2.toArray, .slice (some A0) (n - 8) c9] w9.drew fun e w' => ∃ v, e = .returned (.tuple #[v, .int .i64 0]) ∧ w'.ownsRow w9.drew.heap.size 5 1 v 8 ((zs.take 8).map (Value.int .u8)) ∧ Below w9.drew.heap.size w9.drew w') := Hid.mk' (fun c9 => by
          have h1 := h_bytes L2 (some A0) (n - 8) c9 (zs.drop 8) w9.drew HRD.out (by rw [List.length_drop, HN.out]) SD.out
          rw [g1, g2, HTS.out] at h1
          exact h1)
        obtain ⟨x0, x1, hLx⟩ := cells_of L2 hlc2.out
        subst hLx
        have CE : w9.cell? ⟨w8.heap.size, 0, none⟩ = some x0 ∧ w9.cell? ⟨w8.heap.size, 1, none⟩ = some x1 := by
          refine ⟨?_, ?_⟩ <;> exact cell_of_row w9 _ _ _ _ _ R9.out
        obtain ⟨q0, q1⟩ := CE
        clear g1 g2
        go_region_with (go_at_call 9; refine (KEYL.out _).mono ?_; rintro e w10 ⟨v10, rfl, hown, b10⟩; obtain ⟨a10, c10, rfl, s10, -, -⟩ := own_bs hown HTS.out (HBT.out) (by rw [HTS.out]; omega); have S10 := Hid.mk' s10; have B10 : Hid (Below W.heap.size W w10) := (B9.out.trans ((((Below.refl w9.heap.size w9).drew).trans b10).mono B9.out.size)); clear hown b10 s10)
        all_goals
          clear q0 q1 hA0
          go_wp2_with fail
          refine (eq_at a10 (some ⟨pb, po, none⟩) 8 8 c10 c' (zs.take 8) (zs.take 8) w10 HTS.out HTS.out S10.out ((H1.out.below B10.out).take 8 (by rw [HN.out]; omega))).mono ?_
          rw [decide_eq_true (rfl : zs.take 8 = zs.take 8)]
          rintro e w11 ⟨rfl, d11⟩
          have B11 : Hid (Below W.heap.size W w11) := B10.out.trans (d11.below _)
          clear d11
          go_wp2_with fail
          go_ret
          exact ⟨rfl, B11.out⟩
      · have hsp : (2048 : Int) < (n : Int) := by omega
        have B9 : Hid (Below W.heap.size W (w8.alloc (.cells L2.toArray 24))) := B8.out.alloc B8.out.size _
        go_wp2_with (first | refine wpList_store_new rfl 24 _ _ rfl _ _ L2 rfl rfl (by rw [hlc2.out]; rfl) (by rw [hlc2.out]; exact info_hd) hone2.out ?_)
        go_ret
        exact ⟨rfl, B9.out⟩
    · have hL2 := HNO.out hE2
      subst hL2
      have hed : decide (E2 = 0) = false := by simp; exact hE2
      have heb : (E2 == 0) = false := by simp; exact hE2
      have B9 : Hid (Below W.heap.size W (w8.alloc (.cells hd0.toArray 24))) := B8.out.alloc B8.out.size _
      go_wp2_with (first | refine wpList_store_new rfl 24 _ _ rfl _ _ hd0 rfl rfl rfl info_hd hone2.out ?_ | (refine wpList_load_midG ?_ 24 _ rfl w8.heap.size 0 rfl hd0 _ (range_block (heap_alloc_new w8 _)) Try.underlying24 rfl info_hd ?_; focus (first | rfl | (rw [heb]; rfl))))
      go_ret
      exact ⟨rfl, B9.out⟩
  · by_cases hCK : CK = 0
    · have hmn := HNB.out hE hCK
      subst hCK
      have hmi : ¬ (m : Int) ≤ 2040 := by omega
      have hmd : decide ((m : Int) ≤ 2040) = false := by simp; omega
      go_wp2_with (first | (go_at_call 11; refine (KC.out _).mono ?_; rintro e w7 ⟨rfl, b7⟩; have B7 : Hid (Below W.heap.size W w7) := (B3.out.trans (b7.mono B3.out.size)); clear b7 B3 R3) | refine wpList_load_mid rfl 24 _ rfl W.heap.size 0 rfl L _ (range_block R3.out) Try.underlying24 rfl (by rw [hlc.out]; exact info_hd) ?_)
      have key := h_read a' n c' zs w7 HN.out (H1.out.below B7.out) HCN.out
      rw [HL2.out, HE2.out] at key
      refine key.mono ?_
      rintro e w8 ⟨rfl, b8⟩
      have B8 : Hid (Below W.heap.size W w8) := B7.out.trans (b8.mono B7.out.size)
      clear key b8 B7
      by_cases hE2 : E2 = 0
      · subst hE2
        by_cases hn48 : n ≤ 2048
        · obtain ⟨hnS, g1, g2⟩ := HAG.out rfl hn48
          have hsp : ¬ (2048 : Int) < (n : Int) := by omega
          have hspd : decide ((2048 : Int) < (n : Int)) = false := by simp; omega
          have hcS : (8 : Int) ≤ (n : Int) := by omega
          have hcn : (n : Int) ≤ (c' : Int) := by have := HCN.out; omega
          have hcc : (8 : Int) ≤ (c' : Int) := by omega
          go_wp2_with (first | refine wpList_store_new rfl 24 _ _ rfl _ _ L2 rfl rfl (by rw [hlc2.out]; rfl) (by rw [hlc2.out]; exact info_hd) hone2.out ?_)
          obtain ⟨w9, hw9⟩ : ∃ w9, w9 = w8.alloc (.cells L2.toArray 24) := ⟨_, rfl⟩
          rw [← hw9]
          have R9 : Hid (w9.heap[w8.heap.size]? = some (.cells L2.toArray 24 (0, 0))) := by rw [hw9]; exact heap_alloc_new w8 _
          have B9 : Hid (Below W.heap.size W w9) := by rw [hw9]; exact B8.out.alloc B8.out.size _
          clear hw9 B8
          obtain ⟨pb, po, ha'⟩ := bs_some H1.out (by rw [HN.out]; omega)
          subst ha'
          have HTS : Hid ((zs.take 8).length = 8) := Hid.mk' (by rw [List.length_take, HN.out]; omega)
          have HBT : Hid (Bytes (zs.take 8)) := Hid.mk' (fun z hz => H1.out.bytes z (List.mem_of_mem_take hz))
          obtain ⟨A0, hA0⟩ : ∃ A0 : Addr, (if c' = 8 then some (⟨pb, po, none⟩ : Addr) else some ⟨pb, po + 8, none⟩) = some A0 := by split <;> exact ⟨_, rfl⟩
          have SD : Hid (Bs w9.drew (some A0) (zs.drop 8)) := Hid.mk' (by
            rw [← hA0]
            have hb := (H1.out.below B9.out.drew).drop 8
            split
            · rename_i hq
              have : zs.drop 8 = [] := List.drop_eq_nil_of_le (by rw [HN.out]; omega)
              rw [this]
              exact bs_nil _ _
            · exact hb)
          have KEYL : Hid (∀ c9 : Nat, Calls Try.prog 9 #[.agg L2.toArray, .slice (some A0) (n - 8) c9] w9.drew fun e w' => ∃ v, e = .returned (.tuple #[v, .int .i64 0]) ∧ w'.ownsRow w9.drew.heap.size 5 1 v 8 ((zs.take 8).map (Value.int .u8)) ∧ Below w9.drew.heap.size w9.drew w') := Hid.mk' (fun c9 => by
            have h1 := h_bytes L2 (some A0) (n - 8) c9 (zs.drop 8) w9.drew HRD.out (by rw [List.length_drop, HN.out]) SD.out
            rw [g1, g2, HTS.out] at h1
            exact h1)
          obtain ⟨x0, x1, hLx⟩ := cells_of L2 hlc2.out
          subst hLx
          have CE : w9.cell? ⟨w8.heap.size, 0, none⟩ = some x0 ∧ w9.cell? ⟨w8.heap.size, 1, none⟩ = some x1 := by
            refine ⟨?_, ?_⟩ <;> exact cell_of_row w9 _ _ _ _ _ R9.out
          obtain ⟨q0, q1⟩ := CE
          clear g1 g2
          go_region_with (go_at_call 9; refine (KEYL.out _).mono ?_; rintro e w10 ⟨v10, rfl, hown, b10⟩; obtain ⟨a10, c10, rfl, s10, -, -⟩ := own_bs hown HTS.out (HBT.out) (by rw [HTS.out]; omega); have S10 := Hid.mk' s10; have B10 : Hid (Below W.heap.size W w10) := (B9.out.trans ((((Below.refl w9.heap.size w9).drew).trans b10).mono B9.out.size)); clear hown b10 s10)
          all_goals
            clear q0 q1 hA0
            go_wp2_with fail
            refine (eq_at a10 (some ⟨pb, po, none⟩) 8 8 c10 c' (zs.take 8) (zs.take 8) w10 HTS.out HTS.out S10.out ((H1.out.below B10.out).take 8 (by rw [HN.out]; omega))).mono ?_
            rw [decide_eq_true (rfl : zs.take 8 = zs.take 8)]
            rintro e w11 ⟨rfl, d11⟩
            have B11 : Hid (Below W.heap.size W w11) := B10.out.trans (d11.below _)
            clear d11
            go_wp2_with fail
            go_ret
            exact ⟨rfl, B11.out⟩
        · have hsp : (2048 : Int) < (n : Int) := by omega
          have B9 : Hid (Below W.heap.size W (w8.alloc (.cells L2.toArray 24))) := B8.out.alloc B8.out.size _
          go_wp2_with (first | refine wpList_store_new rfl 24 _ _ rfl _ _ L2 rfl rfl (by rw [hlc2.out]; rfl) (by rw [hlc2.out]; exact info_hd) hone2.out ?_)
          go_ret
          exact ⟨rfl, B9.out⟩
      · have hL2 := HNO.out hE2
        subst hL2
        have hed : decide (E2 = 0) = false := by simp; exact hE2
        have heb : (E2 == 0) = false := by simp; exact hE2
        have B9 : Hid (Below W.heap.size W (w8.alloc (.cells hd0.toArray 24))) := B8.out.alloc B8.out.size _
        go_wp2_with (first | refine wpList_store_new rfl 24 _ _ rfl _ _ hd0 rfl rfl rfl info_hd hone2.out ?_ | (refine wpList_load_midG ?_ 24 _ rfl w8.heap.size 0 rfl hd0 _ (range_block (heap_alloc_new w8 _)) Try.underlying24 rfl info_hd ?_; focus (first | rfl | (rw [heb]; rfl))))
        go_ret
        exact ⟨rfl, B9.out⟩
    · have hcd : decide (CK = 0) = false := by simp; exact hCK
      go_wp2_with (first | (go_at_call 11; refine (KC.out _).mono ?_; rintro e w7 ⟨rfl, b7⟩; have B7 : Hid (Below W.heap.size W w7) := (B3.out.trans (b7.mono B3.out.size)); clear b7 B3 R3) | refine wpList_load_mid rfl 24 _ rfl W.heap.size 0 rfl L _ (range_block R3.out) Try.underlying24 rfl (by rw [hlc.out]; exact info_hd) ?_)
      have key := h_read a' n c' zs w7 HN.out (H1.out.below B7.out) HCN.out
      rw [HL2.out, HE2.out] at key
      refine key.mono ?_
      rintro e w8 ⟨rfl, b8⟩
      have B8 : Hid (Below W.heap.size W w8) := B7.out.trans (b8.mono B7.out.size)
      clear key b8 B7
      by_cases hE2 : E2 = 0
      · subst hE2
        by_cases hn48 : n ≤ 2048
        · obtain ⟨hnS, g1, g2⟩ := HAG.out rfl hn48
          have hsp : ¬ (2048 : Int) < (n : Int) := by omega
          have hspd : decide ((2048 : Int) < (n : Int)) = false := by simp; omega
          have hcS : (8 : Int) ≤ (n : Int) := by omega
          have hcn : (n : Int) ≤ (c' : Int) := by have := HCN.out; omega
          have hcc : (8 : Int) ≤ (c' : Int) := by omega
          go_wp2_with (first | refine wpList_store_new rfl 24 _ _ rfl _ _ L2 rfl rfl (by rw [hlc2.out]; rfl) (by rw [hlc2.out]; exact info_hd) hone2.out ?_)
          obtain ⟨w9, hw9⟩ : ∃ w9, w9 = w8.alloc (.cells L2.toArray 24) := ⟨_, rfl⟩
          rw [← hw9]
          have R9 : Hid (w9.heap[w8.heap.size]? = some (.cells L2.toArray 24 (0, 0))) := by rw [hw9]; exact heap_alloc_new w8 _
          have B9 : Hid (Below W.heap.size W w9) := by rw [hw9]; exact B8.out.alloc B8.out.size _
          clear hw9 B8
          obtain ⟨pb, po, ha'⟩ := bs_some H1.out (by rw [HN.out]; omega)
          subst ha'
          have HTS : Hid ((zs.take 8).length = 8) := Hid.mk' (by rw [List.length_take, HN.out]; omega)
          have HBT : Hid (Bytes (zs.take 8)) := Hid.mk' (fun z hz => H1.out.bytes z (List.mem_of_mem_take hz))
          obtain ⟨A0, hA0⟩ : ∃ A0 : Addr, (if c' = 8 then some (⟨pb, po, none⟩ : Addr) else some ⟨pb, po + 8, none⟩) = some A0 := by split <;> exact ⟨_, rfl⟩
          have SD : Hid (Bs w9.drew (some A0) (zs.drop 8)) := Hid.mk' (by
            rw [← hA0]
            have hb := (H1.out.below B9.out.drew).drop 8
            split
            · rename_i hq
              have : zs.drop 8 = [] := List.drop_eq_nil_of_le (by rw [HN.out]; omega)
              rw [this]
              exact bs_nil _ _
            · exact hb)
          have KEYL : Hid (∀ c9 : Nat, Calls Try.prog 9 #[.agg L2.toArray, .slice (some A0) (n - 8) c9] w9.drew fun e w' => ∃ v, e = .returned (.tuple #[v, .int .i64 0]) ∧ w'.ownsRow w9.drew.heap.size 5 1 v 8 ((zs.take 8).map (Value.int .u8)) ∧ Below w9.drew.heap.size w9.drew w') := Hid.mk' (fun c9 => by
            have h1 := h_bytes L2 (some A0) (n - 8) c9 (zs.drop 8) w9.drew HRD.out (by rw [List.length_drop, HN.out]) SD.out
            rw [g1, g2, HTS.out] at h1
            exact h1)
          obtain ⟨x0, x1, hLx⟩ := cells_of L2 hlc2.out
          subst hLx
          have CE : w9.cell? ⟨w8.heap.size, 0, none⟩ = some x0 ∧ w9.cell? ⟨w8.heap.size, 1, none⟩ = some x1 := by
            refine ⟨?_, ?_⟩ <;> exact cell_of_row w9 _ _ _ _ _ R9.out
          obtain ⟨q0, q1⟩ := CE
          clear g1 g2
          go_region_with (go_at_call 9; refine (KEYL.out _).mono ?_; rintro e w10 ⟨v10, rfl, hown, b10⟩; obtain ⟨a10, c10, rfl, s10, -, -⟩ := own_bs hown HTS.out (HBT.out) (by rw [HTS.out]; omega); have S10 := Hid.mk' s10; have B10 : Hid (Below W.heap.size W w10) := (B9.out.trans ((((Below.refl w9.heap.size w9).drew).trans b10).mono B9.out.size)); clear hown b10 s10)
          all_goals
            clear q0 q1 hA0
            go_wp2_with fail
            refine (eq_at a10 (some ⟨pb, po, none⟩) 8 8 c10 c' (zs.take 8) (zs.take 8) w10 HTS.out HTS.out S10.out ((H1.out.below B10.out).take 8 (by rw [HN.out]; omega))).mono ?_
            rw [decide_eq_true (rfl : zs.take 8 = zs.take 8)]
            rintro e w11 ⟨rfl, d11⟩
            have B11 : Hid (Below W.heap.size W w11) := B10.out.trans (d11.below _)
            clear d11
            go_wp2_with fail
            go_ret
            exact ⟨rfl, B11.out⟩
        · have hsp : (2048 : Int) < (n : Int) := by omega
          have B9 : Hid (Below W.heap.size W (w8.alloc (.cells L2.toArray 24))) := B8.out.alloc B8.out.size _
          go_wp2_with (first | refine wpList_store_new rfl 24 _ _ rfl _ _ L2 rfl rfl (by rw [hlc2.out]; rfl) (by rw [hlc2.out]; exact info_hd) hone2.out ?_)
          go_ret
          exact ⟨rfl, B9.out⟩
      · have hL2 := HNO.out hE2
        subst hL2
        have hed : decide (E2 = 0) = false := by simp; exact hE2
        have heb : (E2 == 0) = false := by simp; exact hE2
        have B9 : Hid (Below W.heap.size W (w8.alloc (.cells hd0.toArray 24))) := B8.out.alloc B8.out.size _
        go_wp2_with (first | refine wpList_store_new rfl 24 _ _ rfl _ _ hd0 rfl rfl rfl info_hd hone2.out ?_ | (refine wpList_load_midG ?_ 24 _ rfl w8.heap.size 0 rfl hd0 _ (range_block (heap_alloc_new w8 _)) Try.underlying24 rfl info_hd ?_; focus (first | rfl | (rw [heb]; rfl))))
        go_ret
        exact ⟨rfl, B9.out⟩

theorem walkDgramBack (m0 : sh24.M) (a : Option Addr) (c : Nat) (ys : List Int) (a' : Option Addr) (c' : Nat) (zs : List Int) (W : World) (o0 : sh24.ok W m0) (h1 : Bs W a ys) (_n1 : (a = none → c = 0) ∧ ys.length ≤ c) (h2 : Bs W a' zs) (n2 : (a' = none → c' = 0) ∧ zs.length ≤ c') :
    Calls Try.prog 5 #[.agg (sh24.cs m0).toArray, .slice a ys.length c, .slice a' zs.length c'] W fun e w' => e = .returned (.bool true) ∧ Below W.heap.size W w' :=
  back_any (sh24.cs m0) a ys.length c ys a' zs.length c' zs W (hd_open W m0 o0) rfl h1 rfl h2 n2.2
end Go.Proofs.Ytbbnoogkgobeoaa
