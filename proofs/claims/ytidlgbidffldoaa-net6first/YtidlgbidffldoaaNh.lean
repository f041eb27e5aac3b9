/- The walk of Net6First (as stage 8 has it: what is read hangs on the first bytes, and on how many there are). -/
import Derived.Test.YtidlgbidffldoaaNb
namespace Go.Proofs.Ytidlgbidffldoaa
open Go.ChangeShapes Go.WideShapes Go.ChangeAt Go.RowKit

set_option maxHeartbeats 1000000 in
theorem walkNet6First (a : Option Addr) (c : Nat) (zs : List Int) (by_ : Int) (W : World) (h0 : Bs W a zs) (n0 : (a = none → c = 0) ∧ zs.length ≤ c) (h1 : (Lit.int .u8 by_).wf = true) :
    Calls Try.prog 6 #[.slice a zs.length c, .int .u8 by_] W fun e w' => e = .returned (.bool true) ∧ Below W.heap.size W w' := by
  have H0 := Hid.mk' h0
  have N0 := Hid.mk' n0.1
  have N1 := Hid.mk' n0.2
  have hln := h0.len
  obtain ⟨y0, y1⟩ := bounds_u8 h1
  have hlc := Hid.mk' (hd_len (hd_rd h0.bytes))
  have hone := Hid.mk' (hd_one (hd_rd h0.bytes))
  have HEQ := Hid.mk' (hd_eq (hd_rd h0.bytes))
  obtain ⟨n, HN⟩ : ∃ n, Hid (zs.length = n) := ⟨_, rfl⟩
  rw [HN.out] at hln N1 ⊢
  obtain ⟨L, HL⟩ : ∃ L, Hid (rdL zs = L) := ⟨_, rfl⟩
  rw [HL.out] at hlc hone HEQ
  obtain ⟨E, HE⟩ : ∃ E, Hid (rdE zs = E) := ⟨_, rfl⟩
  clear h0 n0 h1
  have heq := eql_same (t := 25) (L := L) HEQ.out
  have heq0 : ∀ w, (binOp .eql 25 (.agg hd0.toArray) (.agg #[.int .u8 0, .int .u32 0, .int .u8 0, .int .u8 0, .int .u8 0, .int .u8 0, .int .u8 0, .int .u8 0, .int .u8 0, .int .u8 0, .int .u8 0, .int .u8 0, .int .u8 0, .int .u8 0, .int .u8 0, .int .u8 0, .int .u8 0, .int .u8 0, .int .u8 0, .int .u8 0, .int .u8 0, .int .u8 0, .int .u8 0, .int .u8 0, .int .u8 0, .int .u8 0, .int .u8 0, .int .u8 0, .int .u8 0, .int .u8 0, .int .u8 0, .int .u8 0, .int .u8 0, .int .u8 0, .int .u8 0, .int .u8 0])).run Try.prog w = .ok (.bool true) w := eql_same (t := 25) (L := hd0) (hd_eq hd_0)
  go_enter Try.func6, Try.ntmps6
  go_wp2_with fail
  refine (awake_any W).mono ?_
  rintro e w1 ⟨rfl, b1⟩
  have B1 := Hid.mk' b1
  clear b1
  go_wp2_with fail
  have key := h_read a n c zs w1 HN.out (H0.out.below B1.out) N1.out
  rw [HL.out, HE.out] at key
  refine key.mono ?_
  rintro e w2 ⟨rfl, b2⟩
  have B2 : Hid (Below W.heap.size W w2) := B1.out.trans (b2.mono B1.out.size)
  clear key b2 B1
  by_cases hn : n < 40
  · have hL : L = hd0 := by rw [← HL.out]; exact m_none (by rw [m_short (by rw [HN.out]; exact hn)]; omega)
    have hE : E = 6 := by rw [← HE.out]; exact m_short (by rw [HN.out]; exact hn)
    subst hL hE
    have hsp : (n : Int) < 40 := by omega
    have R3 : Hid ((w2.alloc (.cells hd0.toArray 25)).heap[w2.heap.size]? = some (.cells hd0.toArray 25 (0, 0))) := Hid.mk' (heap_alloc_new w2 _)
    have B3 : Hid (Below W.heap.size W (w2.alloc (.cells hd0.toArray 25))) := B2.out.alloc B2.out.size _
    go_wp2_with (first | refine wpList_store_new rfl 25 _ _ rfl _ _ hd0 rfl rfl rfl info_hd hone.out ?_ | refine wpList_load_midG (by rfl) 25 _ rfl w2.heap.size 0 rfl hd0 _ (range_block R3.out) Try.underlying25 rfl info_hd ?_)
    go_ret
    exact ⟨rfl, B3.out⟩
  · have hsp : ¬ (n : Int) < 40 := by omega
    go_wp2_with (first | refine wpList_store_new rfl 25 _ _ rfl _ _ L rfl rfl (by rw [hlc.out]; rfl) (by rw [hlc.out]; exact info_hd) hone.out ?_)
    obtain ⟨w3, hw3⟩ : ∃ w3, w3 = w2.alloc (.cells L.toArray 25) := ⟨_, rfl⟩
    rw [← hw3]
    have b3 : Below w2.heap.size w2 w3 := by rw [hw3]; exact (Below.refl _ _).alloc (Nat.le_refl _) _
    have R3 : Hid (w3.heap[w2.heap.size]? = some (.cells L.toArray 25 (0, 0))) := by rw [hw3]; exact heap_alloc_new w2 _
    have B3 : Hid (Below W.heap.size W w3) := B2.out.trans (b3.mono B2.out.size)
    clear hw3 b3 B2
    refine (copy_at a n c zs _ HN.out (H0.out.below B3.out) N0.out).mono ?_
    rintro e w4 ⟨v, rfl, hown, b4⟩
    obtain ⟨g, c4, rfl, hc4⟩ := own_some hown (by omega)
    have hg3 : w3.heap.size ≤ g := (hown.lt g rfl).1
    have O4 := Hid.mk' hown
    have B4 : Hid (Below W.heap.size W w4) := B3.out.trans (b4.mono B3.out.size)
    have R4 : Hid (w4.heap[w2.heap.size]? = some (.cells L.toArray 25 (0, 0))) := (b4.block _ (Array.getElem?_eq_some_iff.1 R3.out).1).trans R3.out
    have HG : Hid (w2.heap.size < g) := Nat.lt_of_lt_of_le (Array.getElem?_eq_some_iff.1 R3.out).1 hg3
    have HGW : Hid (W.heap.size ≤ g) := Nat.le_trans B3.out.size hg3
    clear hown b4 hg3 R3
    go_wp2_with fail
    go_loopw [8] (fun i wr => ∃ (k : Nat) (ys : List Int), 40 ≤ k ∧ k ≤ n ∧ i = .int .i64 k ∧ Hid (wr.ownsRow w3.heap.size 5 1 (.slice (some ⟨g, 0, none⟩) n c4) n (ys.map (Value.int .u8))) ∧ Hid (ys.take 40 = zs.take 40) ∧ Hid (Bytes ys) ∧ Hid (ys.length = n) ∧ Hid (wr.heap[w2.heap.size]? = some (.cells L.toArray 25 (0, 0))) ∧ Hid (Below W.heap.size W wr)) (fun i _ => n - (intOf i).toNat)
    case atStart => exact ⟨40, zs, by omega, by omega, rfl, O4, rfl, H0.out.bytes, HN, R4, B4⟩
    case round =>
      obtain ⟨k, ys, hkS, hk, rfl, O5, HT, HY, HYL, R5, B5⟩ := hrel
      clear O4 R4 B4
      by_cases hlt : k < n
      · have hsp : (k : Int) < (n : Int) := by omega
        have cc : wr.cell? ⟨g, k, none⟩ = some (.int .u8 (ys.getD k 0)) := by
          rw [O5.out.cellAt k (by simp; omega)]
          simp [HYL.out, hlt]
        have ff := O5.out.frozenAt k
        have hb := HY.out.getD k
        obtain ⟨x, HX⟩ : ∃ x, Hid (ys.getD k 0 = x) := ⟨_, rfl⟩
        rw [HX.out] at cc hb
        obtain ⟨x0, x1⟩ := hb
        have hxr := xor8 x0 x1 y0 y1
        go_wp2_with fail
        go_roundw
        case rel =>
          refine ⟨k + 1, ys.set k (bits .xor .u8 x by_), by omega, by omega, by go_num, Hid.mk' ?_, Hid.mk' ?_, Hid.mk' (bytes_set HY.out k _ hxr.1 hxr.2), Hid.mk' (by rw [List.length_set]; exact HYL.out), Hid.mk' ?_, Hid.mk' ?_⟩
          · rw [List.map_set]; exact (O5.out.stored k _).1
          · rw [List.take_set_of_le hkS]; exact HT.out
          · rw [Go.heap_setCell_other _ _ _ _ (by have := HG.out; show w2.heap.size ≠ g; omega)]; exact R5.out
          · exact B5.out.setCell (p := ⟨g, k, none⟩) HGW.out _
        case measure => simp [intOf]; omega
      · obtain rfl : k = n := by omega
        have hF := m_first (xs := ys) (zs := zs) (by rw [HYL.out]; exact hkS) (by rw [HYL.out, HN.out]) HT.out
        have hL : Hid (rdL ys = L) := Hid.mk' (by rw [← HL.out]; exact hF.1)
        have hE : Hid (rdE ys = E) := Hid.mk' (by rw [← HE.out]; exact hF.2)
        clear hF
        have HC4 := Hid.mk' hc4
        have hc14 : (40 : Int) ≤ (c4 : Int) := by omega
        have hlk : k ≤ 140737488355328 := hln
        have S5 : Hid (Bs wr (some ⟨g, 0, none⟩) ys) := own_block_bs O5.out HY.out (by rw [HYL.out]; exact hln)
        go_wp2_with fail
        have key := h_read (some ⟨g, 0, none⟩) k c4 ys wr HYL.out S5.out HC4.out
        rw [hL.out, hE.out] at key
        refine key.mono ?_
        rintro e w6 ⟨rfl, b6⟩
        have S6 := Hid.mk' (S5.out.below b6)
        have B6 : Hid (Below W.heap.size W w6) := B5.out.trans (b6.mono B5.out.size)
        have R6 : Hid (w6.heap[w2.heap.size]? = some (.cells L.toArray 25 (0, 0))) := (b6.block _ (Array.getElem?_eq_some_iff.1 R5.out).1).trans R5.out
        clear key b6 S5 B5 R5 O5 S6
        have b7 : Below w6.heap.size w6 (w6.alloc (.cells L.toArray 25)) := (Below.refl _ _).alloc (Nat.le_refl _) _
        have B7 : Hid (Below W.heap.size W (w6.alloc (.cells L.toArray 25))) := B6.out.trans (b7.mono B6.out.size)
        have R7 : Hid ((w6.alloc (.cells L.toArray 25)).heap[w2.heap.size]? = some (.cells L.toArray 25 (0, 0))) := (b7.block _ (Array.getElem?_eq_some_iff.1 R6.out).1).trans R6.out
        have heeb : decide (E = E) = true := by simp
        clear b7 B6 R6
        go_wp2_with (first | refine wpList_store_new rfl 25 _ _ rfl _ _ L rfl rfl (by rw [hlc.out]; rfl) (by rw [hlc.out]; exact info_hd) hone.out ?_ | refine wpList_load_mid rfl 25 _ rfl w6.heap.size 0 rfl L _ (range_block (heap_alloc_new w6 _)) Try.underlying25 rfl (by rw [hlc.out]; exact info_hd) ?_ | refine wpList_load_mid rfl 25 _ rfl w2.heap.size 0 rfl L _ (range_block R7.out) Try.underlying25 rfl (by rw [hlc.out]; exact info_hd) ?_)
        go_ret
        exact ⟨rfl, B7.out⟩
end Go.Proofs.Ytidlgbidffldoaa
