/- The walk of DgramTurned (stages 9, 10): one byte of the header or of the payload turned, and the header is not read any more. Of the face it asks m_turned besides, for all bytes. -/
import Derived.Test.YtbbnoogkgobeoaaNe
import Derived.Test.YtbbnoogkgobeoaaBi
namespace Go.Proofs.Ytbbnoogkgobeoaa
open Go.ChangeShapes Go.WideShapes Go.ChangeAt Go.RowKit

/-- A byte that is turned is another one. -/
theorem xor_ne {x y : Int} (h0 : 0 ≤ x) (h1 : x ≤ 255) (h2 : 0 < y) (h3 : y ≤ 255) : ¬ bits .xor .u8 x y = x := by
  rw [u8_xor x y h0 (by omega) (by omega) (by omega)]
  intro e
  have e1 : x.toNat ^^^ y.toNat = x.toNat := by omega
  have e2 : x.toNat ^^^ (x.toNat ^^^ y.toNat) = x.toNat ^^^ x.toNat := by rw [e1]
  rw [← Nat.xor_assoc, Nat.xor_self, Nat.zero_xor] at e2
  omega

set_option maxHeartbeats 2000000 in
theorem turned_any (L : List Value) (a : Option Addr) (m c : Nat) (ys : List Int) (t0 t1 : Int) (W : World) (h : Hd L) (hm : ys.length = m) (h0 : Bs W a ys) (ht0 : -9223372036854775808 ≤ t0) (ht0' : t0 ≤ 9223372036854775807) (ht1 : -9223372036854775808 ≤ t1) (ht1' : t1 ≤ 9223372036854775807) :
    Calls Try.prog 6 #[.agg L.toArray, .slice a m c, .agg #[.int .i64 t0, .int .i64 t1]] W fun e w' => e = .returned (.bool true) ∧ Below W.heap.size W w' := by
  have H0 := Hid.mk' h0
  have HM := Hid.mk' hm
  have hlm : m ≤ 140737488355328 := by rw [← hm]; exact h0.len
  have hlc := Hid.mk' (hd_len h)
  have hlc0 := Hid.mk' (hd_len hd_0)
  have hone0 := Hid.mk' (hd_one hd_0)
  have heq0 : ∀ w, (binOp .eql 24 (.agg hd0.toArray) (.agg #[.int .u16 0, .int .u16 0])).run Try.prog w = .ok (.bool true) w := eql_same (t := 24) (L := hd0) (hd_eq hd_0)
  have HBL : Hid (byE L ys = 0 → (byB L ys).length = 8) := Hid.mk' (fun he => (m_back h h0.bytes he).1)
  have HTU : Hid (byE L ys = 0 → ∀ (k : Nat) (y : Int), k < 8 + m → 0 ≤ y → y ≤ 255 → ¬ y = (byB L ys ++ ys).getD k 0 → ¬ rdE ((byB L ys ++ ys).set k y) = 0) := Hid.mk' (fun he k y hk y0 y1 hne => m_turned h h0.bytes he k (by rw [hm]; exact hk) y y0 y1 hne)
  have HBB : Hid (Bytes (byB L ys)) := Hid.mk' (byB_bytes h h0.bytes)
  have HBE : Hid ((byB L ys).length ≤ 8) := Hid.mk' (byB_le h)
  have HRM : Hid (byE L ys = 0 → m ≤ 2040) := Hid.mk' (fun he => by rw [← hm]; exact (byE_zero he).2)
  obtain ⟨E, HE⟩ : ∃ E, Hid (byE L ys = E) := ⟨_, rfl⟩
  obtain ⟨BY, HBY⟩ : ∃ BY, Hid (byB L ys = BY) := ⟨_, rfl⟩
  rw [HE.out, HBY.out] at HBL HTU
  rw [HBY.out] at HBB HBE
  rw [HE.out] at HRM
  have KB : Hid (∀ w : World, Bs w a ys → Calls Try.prog 9 #[.agg L.toArray, .slice a m c] w fun e w' => ∃ v, e = .returned (.tuple #[v, .int .i64 E]) ∧ w'.ownsRow w.heap.size 5 1 v BY.length (BY.map (Value.int .u8)) ∧ Below w.heap.size w w') := Hid.mk' (fun w hb => by
    have h1 := h_bytes L a m c ys w h hm hb
    rw [HE.out, HBY.out] at h1
    exact h1)
  obtain ⟨D, hD, KD⟩ := bring_fix t1 255 (by omega) (by omega) ht1 ht1'
  have HD := Hid.mk' KD
  clear h h0 hm KD
  obtain ⟨W1, hW1⟩ : ∃ W1, W1 = (W.alloc (.cells L.toArray 24)).alloc (.cells #[.int .i64 t0, .int .i64 t1] 40) := ⟨_, rfl⟩
  have R1 : Hid (W1.heap[W.heap.size]? = some (.cells L.toArray 24 (0, 0))) := by rw [hW1]; exact heap_alloc2_old W _ _
  have Q1 : Hid (W1.heap[W.heap.size + 1]? = some (.cells #[.int .i64 t0, .int .i64 t1] 40 (0, 0))) := by rw [hW1]; exact heap_alloc2_new W _ _
  have B1 : Hid (Below W.heap.size W W1) := by rw [hW1]; exact ((Below.refl _ _).alloc (Nat.le_refl _) _).alloc (by simp) _
  have HW := Hid.mk' hW1.symm
  clear hW1
  go_enter Try.func6, Try.ntmps6
  go_wp2_with fail
  rw [HW.out]
  refine (awake_any W1).mono ?_
  rintro e w2 ⟨rfl, b2⟩
  have B2 : Hid (Below W.heap.size W w2) := B1.out.trans (b2.mono B1.out.size)
  have R2 : Hid (w2.heap[W.heap.size]? = some (.cells L.toArray 24 (0, 0))) := (b2.block _ (Array.getElem?_eq_some_iff.1 R1.out).1).trans R1.out
  have Q2 : Hid (w2.heap[W.heap.size + 1]? = some (.cells #[.int .i64 t0, .int .i64 t1] 40 (0, 0))) := (b2.block _ (Array.getElem?_eq_some_iff.1 Q1.out).1).trans Q1.out
  clear b2 R1 Q1 B1
  go_wp2_with (first | refine wpList_load_mid rfl 24 _ rfl W.heap.size 0 rfl L _ (range_block R2.out) Try.underlying24 rfl (by rw [hlc.out]; exact info_hd) ?_)
  refine (KB.out w2 (H0.out.below B2.out)).mono ?_
  rintro e w3 ⟨v3, rfl, hown, b3⟩
  obtain ⟨a3, c3, rfl, s3, -, -⟩ := own_bs hown rfl HBB.out (by have := HBE.out; omega)
  have S3 := Hid.mk' s3
  have B3 : Hid (Below W.heap.size W w3) := B2.out.trans (b3.mono B2.out.size)
  have Q3 : Hid (w3.heap[W.heap.size + 1]? = some (.cells #[.int .i64 t0, .int .i64 t1] 40 (0, 0))) := (b3.block _ (Array.getElem?_eq_some_iff.1 Q2.out).1).trans Q2.out
  clear hown b3 s3 B2 R2 Q2
  by_cases hE : E = 0
  · have K1 := Hid.mk' (HBL.out hE)
    have hmR := HRM.out hE
    have KT := Hid.mk' (HTU.out hE)
    subst hE
    rw [K1.out]
    obtain ⟨K, hK, KK⟩ := bring_fix t0 (8 + m) (by omega) (by omega) ht0 ht0'
    have HK : Hid (∀ u : World, Calls Try.prog 20 #[.int .i64 t0, .int .i64 (8 + (m : Int))] u fun e w' => e = .returned (.int .i64 K) ∧ u = w') := Hid.mk' (fun u => by
      have h1 := KK u
      rw [show ((8 + m : Nat) : Int) = 8 + (m : Int) by omega] at h1
      exact h1)
    clear KK
    go_wp2_with fail
    refine (join_any a3 a c3 c 8 m BY ys w3 K1.out HM.out S3.out (H0.out.below B3.out) (by omega)).mono ?_
    rintro e w4 ⟨v4, rfl, hown, b4⟩
    obtain ⟨g, c4, rfl, hc4⟩ := own_some hown (by omega)
    have hjl : (BY ++ ys).length = 8 + m := by rw [List.length_append, K1.out, HM.out]
    have hgl : W.heap.size ≤ g := Nat.le_trans B3.out.size (hown.lt g rfl).1
    have HJL := Hid.mk' hjl
    have HC4 := Hid.mk' hc4
    have HJB : Hid (Bytes (BY ++ ys)) := Hid.mk' (bytes_append HBB.out H0.out.bytes)
    have B4 : Hid (Below W.heap.size W w4) := B3.out.trans (b4.mono B3.out.size)
    have Q4 : Hid (w4.heap[W.heap.size + 1]? = some (.cells #[.int .i64 t0, .int .i64 t1] 40 (0, 0))) := (b4.block _ (Array.getElem?_eq_some_iff.1 Q3.out).1).trans Q3.out
    have O4 := Hid.mk' hown
    obtain ⟨JS, HJS⟩ : ∃ JS : List Int, Hid (BY ++ ys = JS) := ⟨BY ++ ys, Hid.mk' rfl⟩
    rw [HJS.out] at HJL HJB O4 KT
    have q0 : w4.cell? ⟨W.heap.size + 1, 0, none⟩ = some (.int .i64 t0) := cell_of_row w4 _ _ _ _ _ Q4.out
    have q1 : w4.cell? ⟨W.heap.size + 1, 1, none⟩ = some (.int .i64 t1) := cell_of_row w4 _ _ _ _ _ Q4.out
    have cc : w4.cell? ⟨g, K, none⟩ = some (.int .u8 (JS.getD K 0)) := by
      rw [O4.out.cellAt K (by omega)]
      have hlt : K < JS.length := by rw [HJL.out]; omega
      simp [hlt]
    have ff := O4.out.frozenAt K
    have hb := HJB.out.getD K
    obtain ⟨x, HX⟩ : ∃ x, Hid (JS.getD K 0 = x) := ⟨_, rfl⟩
    rw [HX.out] at cc hb
    have hxr := xor8 (y := 1 + (D : Int)) hb.1 hb.2 (by omega) (by omega)
    have hxn := xor_ne (y := 1 + (D : Int)) hb.1 hb.2 (by omega) (by omega)
    have hkn : (K : Int) < (8 : Int) + (m : Int) := by omega
    have O5 := Hid.mk' (O4.out.stored K (.int .u8 (bits .xor .u8 x (1 + (D : Int))))).1
    rw [← List.map_set] at O5
    have B5 : Hid (Below W.heap.size W (w4.setCell ⟨g, K, none⟩ (.int .u8 (bits .xor .u8 x (1 + (D : Int)))))) := Hid.mk' (B4.out.setCell (p := ⟨g, K, none⟩) hgl _)
    have HTE : Hid (¬ rdE (JS.set K (bits .xor .u8 x (1 + (D : Int)))) = 0) := Hid.mk' (KT.out K _ hK hxr.1 hxr.2 (by rw [HX.out]; exact hxn))
    have HXR := Hid.mk' hxr
    clear hown b4 hc4 hjl hgl hb hxr hxn Q4 Q3 B3 S3 O4
    go_wp2_with (first | (go_at_call_of 20 (Value.int IntKind.i64 255); refine (HD.out w4).mono ?_; rintro e u ⟨rfl, rfl⟩) | (go_at_call 20; refine (HK.out w4).mono ?_; rintro e u ⟨rfl, rfl⟩))
    clear q0 q1 cc ff
    generalize w4.setCell ⟨g, K, none⟩ (.int .u8 (bits .xor .u8 x (1 + (D : Int)))) = w5 at *
    have key := h_read (some ⟨g, 0, none⟩) (8 + m) c4 (JS.set K (bits .xor .u8 x (1 + (D : Int)))) w5 (by rw [List.length_set]; exact HJL.out) (own_block_bs O5.out (bytes_set HJB.out K _ HXR.out.1 HXR.out.2) (by rw [List.length_set, HJL.out]; omega)) HC4.out
    rw [m_none HTE.out] at key
    obtain ⟨E2, HE2⟩ : ∃ E2, Hid (rdE (JS.set K (bits .xor .u8 x (1 + (D : Int)))) = E2) := ⟨_, rfl⟩
    rw [HE2.out] at key HTE
    refine key.mono ?_
    rintro e w6 ⟨rfl, b6⟩
    have B6 : Hid (Below W.heap.size W w6) := B5.out.trans (b6.mono B5.out.size)
    have hE2 := HTE.out
    have hed : decide (E2 = 0) = false := by simp; exact hE2
    have heb : (E2 == 0) = false := by simp; exact hE2
    have hen : (E2 != 0) = true := by simp; exact hE2
    have B7 : Hid (Below W.heap.size W (w6.alloc (.cells hd0.toArray 24))) := B6.out.alloc B6.out.size _
    clear key b6 B5 O5
    go_wp2_with (first | refine wpList_store_new rfl 24 _ _ rfl _ _ hd0 rfl rfl rfl info_hd hone0.out ?_ | (refine wpList_load_midG ?_ 24 _ rfl w6.heap.size 0 rfl hd0 _ (range_block (heap_alloc_new w6 _)) Try.underlying24 rfl info_hd ?_; focus (first | rfl | (rw [heb]; rfl) | (rw [hen]; rfl))))
    go_ret
    exact ⟨rfl, B7.out⟩
  · have hen : (E != 0) = true := by simp; exact hE
    go_wp2_with fail
    go_ret
    exact ⟨rfl, B3.out⟩

theorem walkDgramTurned (m0 : sh24.M) (a : Option Addr) (c : Nat) (zs : List Int) (m2 : sh40.M) (W : World) (o0 : sh24.ok W m0) (h1 : Bs W a zs) (_n1 : (a = none → c = 0) ∧ zs.length ≤ c) (o2 : sh40.ok W m2) :
    Calls Try.prog 6 #[.agg (sh24.cs m0).toArray, .slice a zs.length c, .agg (sh40.cs m2).toArray] W fun e w' => e = .returned (.bool true) ∧ Below W.heap.size W w' := by
  obtain ⟨t0, t1⟩ := m2
  obtain ⟨k0, k1⟩ := o2
  exact turned_any (sh24.cs m0) a zs.length c zs t0 t1 W (hd_open W m0 o0) rfl h1 (bounds_i64 k0).1 (bounds_i64 k0).2 (bounds_i64 k1).1 (bounds_i64 k1).2
end Go.Proofs.Ytbbnoogkgobeoaa
