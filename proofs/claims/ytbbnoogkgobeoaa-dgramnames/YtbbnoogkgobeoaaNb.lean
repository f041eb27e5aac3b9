/- The walk of DgramReads. -/
import Derived.Test.YtbbnoogkgobeoaaNa
namespace Go.Proofs.Ytbbnoogkgobeoaa
open Go.ChangeShapes Go.WideShapes Go.ChangeAt Go.RowKit

/-- A row of the call's own that there is, as bytes that can be read. -/
theorem own_block_bs {w : World} {base g n c : Nat} {t : TypeId} {zs : List Int} (h : w.ownsRow base t 1 (.slice (some ⟨g, 0, none⟩) n c) n (zs.map (Value.int .u8))) (hb : Bytes zs) (hl : zs.length ≤ 140737488355328) : Bs w (some ⟨g, 0, none⟩) zs := by
  have hn : n = zs.length := by have := h.1; simpa using this.symm
  subst hn
  obtain ⟨a, c', e, hB, -⟩ := bs_own h hb hl
  cases e
  exact hB

theorem xor8 {x y : Int} (h0 : 0 ≤ x) (h1 : x ≤ 255) (h2 : 0 ≤ y) (h3 : y ≤ 255) : 0 ≤ bits .xor .u8 x y ∧ bits .xor .u8 x y ≤ 255 := by
  rw [u8_xor x y h0 (by omega) h2 (by omega)]
  have := Nat.xor_lt_two_pow (x := x.toNat) (y := y.toNat) (n := 8) (by omega) (by omega)
  omega

set_option maxHeartbeats 1000000 in
theorem reads_any (a : Option Addr) (n c : Nat) (zs : List Int) (W : World) (hz : zs.length = n) (h0 : Bs W a zs) (n0 : a = none → c = 0) (hcn : n ≤ c) :
    Calls Try.prog 4 #[.slice a n c] W fun e w' => e = .returned (.bool true) ∧ Below W.heap.size W w' := by
  have H0 := Hid.mk' h0
  have N0 := Hid.mk' n0
  have HCN := Hid.mk' hcn
  have HN := Hid.mk' hz
  have hln : n ≤ 140737488355328 := by rw [← hz]; exact h0.len
  have hlc := Hid.mk' (hd_len (hd_rd h0.bytes))
  have hone := Hid.mk' (hd_one (hd_rd h0.bytes))
  have HEQ := Hid.mk' (hd_eq (hd_rd h0.bytes))
  obtain ⟨L, HL⟩ : ∃ L, Hid (rdL zs = L) := ⟨_, rfl⟩
  rw [HL.out] at hlc hone HEQ
  obtain ⟨E, HE⟩ : ∃ E, Hid (rdE zs = E) := ⟨_, rfl⟩
  clear h0 n0 hcn hz
  go_enter Try.func4, Try.ntmps4
  go_wp2_with fail
  refine (copy_at a n c zs _ HN.out H0.out N0.out).mono ?_
  rintro e w1 ⟨v, rfl, hown, b1⟩
  obtain ⟨a1, c1, rfl, s1, hc1, -⟩ := own_bs hown HN.out H0.out.bytes H0.out.len
  have S1 := Hid.mk' s1
  have B1 := Hid.mk' b1
  have HC1 := Hid.mk' hc1
  clear hown s1 b1 hc1
  go_wp2_with fail
  have key := h_read a1 n c1 zs w1 HN.out S1.out HC1.out
  rw [HL.out, HE.out] at key
  refine key.mono ?_
  rintro e w2 ⟨rfl, b2⟩
  have S2 := Hid.mk' (S1.out.below b2)
  have B2 : Hid (Below W.heap.size W w2) := B1.out.trans (b2.mono B1.out.size)
  clear key b2 S1 B1
  go_wp2_with (first | refine wpList_store_new rfl 24 _ _ rfl _ _ L rfl rfl (by rw [hlc.out]; rfl) (by rw [hlc.out]; exact info_hd) hone.out ?_)
  obtain ⟨w3, hw3⟩ : ∃ w3, w3 = w2.alloc (.cells L.toArray 24) := ⟨_, rfl⟩
  rw [← hw3]
  have b3 : Below w2.heap.size w2 w3 := by rw [hw3]; exact (Below.refl _ _).alloc (Nat.le_refl _) _
  have R3 : Hid (w3.heap[w2.heap.size]? = some (.cells L.toArray 24 (0, 0))) := by rw [hw3]; exact heap_alloc_new w2 _
  have S3 := Hid.mk' (S2.out.below b3)
  have B3 : Hid (Below W.heap.size W w3) := B2.out.trans (b3.mono B2.out.size)
  clear hw3 b3 S2 B2
  have key := h_rread a n c zs w3 HN.out (H0.out.below B3.out) HCN.out
  rw [HL.out, HE.out] at key
  refine key.mono ?_
  rintro e w4 ⟨rfl, b4⟩
  have S4 := Hid.mk' (S3.out.below b4)
  have B4 : Hid (Below W.heap.size W w4) := B3.out.trans (b4.mono B3.out.size)
  have R4 : Hid (w4.heap[w2.heap.size]? = some (.cells L.toArray 24 (0, 0))) := (b4.block _ (Array.getElem?_eq_some_iff.1 R3.out).1).trans R3.out
  clear key b4 S3 B3 R3
  have heq := eql_same (t := 24) (L := L) HEQ.out
  have b5 : Below w4.heap.size w4 (w4.alloc (.cells L.toArray 24)) := (Below.refl _ _).alloc (Nat.le_refl _) _
  have S5 := Hid.mk' (S4.out.below b5)
  have B5 : Hid (Below W.heap.size W (w4.alloc (.cells L.toArray 24))) := B4.out.trans (b5.mono B4.out.size)
  have R5 : Hid ((w4.alloc (.cells L.toArray 24)).heap[w2.heap.size]? = some (.cells L.toArray 24 (0, 0))) := (b5.block _ (Array.getElem?_eq_some_iff.1 R4.out).1).trans R4.out
  clear b5 S4 B4 R4
  go_wp2_with (first | refine wpList_store_new rfl 24 _ _ rfl _ _ L rfl rfl (by rw [hlc.out]; rfl) (by rw [hlc.out]; exact info_hd) hone.out ?_ | refine wpList_load_mid rfl 24 _ rfl w2.heap.size 0 rfl L _ (range_block R5.out) Try.underlying24 rfl (by rw [hlc.out]; exact info_hd) ?_ | refine wpList_load_mid rfl 24 _ rfl w4.heap.size 0 rfl L _ (range_block (heap_alloc_new w4 _)) Try.underlying24 rfl (by rw [hlc.out]; exact info_hd) ?_)
  refine (eq_at a1 a n n c1 c zs zs _ HN.out HN.out S5.out (H0.out.below B5.out)).mono ?_
  rintro e w6 ⟨rfl, d6⟩
  rw [decide_eq_true (rfl : zs = zs)]
  have B6 : Hid (Below W.heap.size W w6) := B5.out.trans (d6.below _)
  clear d6 S5 B5 R5
  go_wp2_with fail
  refine (awake_any w6).mono ?_
  rintro e w7 ⟨rfl, b7⟩
  have B7 : Hid (Below W.heap.size W w7) := B6.out.trans (b7.mono B6.out.size)
  clear b7
  go_wp2_with fail
  go_ret
  exact ⟨rfl, B7.out⟩

theorem walkDgramReads (a : Option Addr) (c : Nat) (zs : List Int) (W : World) (h0 : Bs W a zs) (n0 : (a = none → c = 0) ∧ zs.length ≤ c) :
    Calls Try.prog 4 #[.slice a zs.length c] W fun e w' => e = .returned (.bool true) ∧ Below W.heap.size W w' :=
  reads_any a zs.length c zs W rfl h0 n0.1 n0.2
end Go.Proofs.Ytbbnoogkgobeoaa
