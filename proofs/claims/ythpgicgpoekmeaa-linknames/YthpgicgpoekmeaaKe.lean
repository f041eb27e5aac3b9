/- link's and the document's calls, each in one form for all inputs. -/
import Derived.Test.YthpgicgpoekmeaaKd
namespace Go.Proofs.Ythpgicgpoekmeaa
open Go.ChangeShapes Go.WideShapes Go.ChangeAt Go.RowKit

/-- What is read of bytes: the header's cells, and the error. -/
def rdL (zs : List Int) : List Value := if 14 ≤ zs.length then lkC (rdD zs) (rdS zs) (rdT zs) else lk0
def rdE (zs : List Int) : Int := if 14 ≤ zs.length then 0 else 6

theorem rdL_length {zs : List Int} (h : Bytes zs) : (rdL zs).length = 13 := by
  unfold rdL; split
  · rename_i hl; exact lkC_length (lk_of h hl)
  · rfl
theorem rdL_one (zs : List Int) : (rdL zs).toArray.all (·.oneCell') = true := by
  unfold rdL; split
  · exact lkC_one _ _ _
  · exact lkC_one _ _ _
theorem rdL_eq {zs : List Int} (h : Bytes zs) (w : World) : (Op.equalIn 10000 25 (.agg (rdL zs).toArray) (.agg (rdL zs).toArray)).run Try.prog w = .ok true w := by
  unfold rdL; split
  · rename_i hl; exact eq_lk (lk_of h hl) w
  · exact eq_lk lk_0 w

theorem bs_some {w : World} {a : Option Addr} {zs : List Int} (h : Bs w a zs) (hp : 0 < zs.length) : ∃ b off, a = some ⟨b, off, none⟩ := by
  rcases h.lies with h0 | ⟨b, off, e, _⟩
  · omega
  · exact ⟨b, off, e⟩

theorem lread_any (a : Option Addr) (n c : Nat) (zs : List Int) (w : World) (hz : zs.length = n) (hB : Bs w a zs) (hc : n ≤ c) :
    Calls Try.prog 17 #[.slice a n c] w fun e w' => e = .returned (.tuple #[.agg (rdL zs).toArray, .int .i64 (rdE zs)]) ∧ Below w.heap.size w w' := by
  unfold rdL rdE
  rw [hz]
  by_cases hn : 14 ≤ n
  · obtain ⟨b, off, rfl⟩ := bs_some hB (by omega)
    rw [if_pos hn, if_pos hn]
    exact lread_ok b off n c zs w hz hB hn hc
  · rw [if_neg hn, if_neg hn]
    exact lread_no a n c w (by omega)

theorem rread_any (a : Option Addr) (n c : Nat) (zs : List Int) (w : World) (hz : zs.length = n) (hB : Bs w a zs) :
    Calls Try.prog 18 #[.slice a n c] w fun e w' => e = .returned (.tuple #[.agg (rdL zs).toArray, .int .i64 (rdE zs)]) ∧ Below w.heap.size w w' := by
  unfold rdL rdE
  rw [hz]
  by_cases hn : 14 ≤ n
  · obtain ⟨b, off, rfl⟩ := bs_some hB (by omega)
    rw [if_pos hn, if_pos hn]
    exact rread_ok b off n c zs w hz hB hn
  · rw [if_neg hn, if_neg hn]
    exact rread_no a n c w (by omega)

/-- A header's bytes ahead of n bytes, and the error. -/
def byB (n : Nat) (d s : List Int) (t : Int) : List Int := if n ≤ 2034 then lkB d s t else []
def byE (n : Nat) : Int := if n ≤ 2034 then 0 else 5

theorem byB_bytes (n : Nat) {d s : List Int} {t : Int} (h : Lk d s t) : Bytes (byB n d s t) := by
  unfold byB; split
  · exact lkB_bytes h
  · exact fun z hz => by simp at hz
theorem byB_length (n : Nat) {d s : List Int} {t : Int} (h : Lk d s t) : (byB n d s t).length ≤ 14 := by
  unfold byB; split
  · rw [lkB_length h]; omega
  · simp

theorem lbytes_any (d s : List Int) (t : Int) (a : Option Addr) (n c : Nat) (w : World) (h : Lk d s t) (hl : n ≤ 140737488355328) :
    Calls Try.prog 9 #[.agg (lkC d s t).toArray, .slice a n c] w fun e w' => ∃ v, e = .returned (.tuple #[v, .int .i64 (byE n)]) ∧ w'.ownsRow w.heap.size 5 1 v (byB n d s t).length ((byB n d s t).map (Value.int .u8)) ∧ Below w.heap.size w w' := by
  unfold byB byE
  by_cases hn : n ≤ 2034
  · simp only [if_pos hn, lkB_length h]
    exact lbytes_ok d s t a n c w h hn
  · simp only [if_neg hn]
    refine (lbytes_no (lkC d s t) a n c w hn hl).mono ?_
    rintro e w' ⟨rfl, b⟩
    exact ⟨_, rfl, World.ownsRow_nil _ _ _ _, b⟩

theorem rbytes_any (d s : List Int) (t : Int) (a : Option Addr) (n c : Nat) (w : World) (h : Lk d s t) (hl : n ≤ 140737488355328) :
    Calls Try.prog 10 #[.agg (lkC d s t).toArray, .slice a n c] w fun e w' => ∃ v, e = .returned (.tuple #[v, .int .i64 (byE n)]) ∧ w'.ownsRow w.heap.size 5 1 v (byB n d s t).length ((byB n d s t).map (Value.int .u8)) ∧ Below w.heap.size w w' := by
  unfold byB byE
  by_cases hn : n ≤ 2034
  · simp only [if_pos hn, lkB_length h]
    exact rbytes_ok d s t a n c w h hn
  · simp only [if_neg hn]
    refine (rbytes_no d s t a n c w h hn hl).mono ?_
    rintro e w' ⟨rfl, b⟩
    exact ⟨_, rfl, World.ownsRow_nil _ _ _ _, b⟩

/-- A row of the call's own: as bytes that can be read, with its length and room. -/
theorem own_bs {w : World} {base n : Nat} {t : TypeId} {v : Value} {zs : List Int} (h : w.ownsRow base t 1 v n (zs.map (Value.int .u8))) (hn : zs.length = n) (hb : Bytes zs) (hl : zs.length ≤ 140737488355328) :
    ∃ a c, v = .slice a n c ∧ Bs w a zs ∧ n ≤ c ∧ (a = none → c = 0) := by
  subst hn
  obtain ⟨a, c, rfl, hB, h0⟩ := bs_own h hb hl
  refine ⟨a, c, rfl, hB, ?_, h0⟩
  rcases h.2 with ⟨e, h⟩ | ⟨g, cap, cur, e, _, _, h, _⟩
  · omega
  · simp only [Value.slice.injEq] at e; omega

set_option maxHeartbeats 1000000 in
theorem walkLinkReads (a : Option Addr) (c : Nat) (zs : List Int) (W : World) (h0 : Bs W a zs) (n0 : (a = none → c = 0) ∧ zs.length ≤ c) :
    Calls Try.prog 4 #[.slice a zs.length c] W fun e w' => e = .returned (.bool true) ∧ Below W.heap.size W w' := by
  have H0 := Hid.mk' h0
  have N0 := Hid.mk' n0.1
  have hln := h0.len
  have hlc := Hid.mk' (rdL_length h0.bytes)
  have hone := Hid.mk' (rdL_one zs)
  have HEQ := Hid.mk' (rdL_eq h0.bytes)
  obtain ⟨n, HN⟩ : ∃ n, Hid (zs.length = n) := ⟨_, rfl⟩
  rw [HN.out] at hln ⊢
  obtain ⟨L, HL⟩ : ∃ L, Hid (rdL zs = L) := ⟨_, rfl⟩
  rw [HL.out] at hlc hone HEQ
  obtain ⟨E, HE⟩ : ∃ E, Hid (rdE zs = E) := ⟨_, rfl⟩
  clear h0 n0
  go_enter Try.func4, Try.ntmps4
  go_wp2_with fail
  refine (copy_at a n c zs _ HN.out H0.out N0.out).mono ?_
  rintro e w1 ⟨v, rfl, hown, b1⟩
  obtain ⟨a1, c1, rfl, s1, hc1, -⟩ := own_bs hown HN.out H0.out.bytes H0.out.len
  have S1 := Hid.mk' s1
  have B1 := Hid.mk' b1
  have HC1 := Hid.mk' hc1
  clear hown s1 b1 hc1
  go_wp2_with fail
  have key := lread_any a1 n c1 zs w1 HN.out S1.out HC1.out
  rw [HL.out, HE.out] at key
  refine key.mono ?_
  rintro e w2 ⟨rfl, b2⟩
  have S2 := Hid.mk' (S1.out.below b2)
  have B2 : Hid (Below W.heap.size W w2) := B1.out.trans (b2.mono B1.out.size)
  clear key b2 S1 B1
  go_wp2_with (first | refine wpList_store_new rfl 25 _ _ rfl _ _ L rfl rfl (by rw [hlc.out]; rfl) (by rw [hlc.out]; exact info_lk) hone.out ?_)
  obtain ⟨w3, hw3⟩ : ∃ w3, w3 = w2.alloc (.cells L.toArray 25) := ⟨_, rfl⟩
  rw [← hw3]
  have b3 : Below w2.heap.size w2 w3 := by rw [hw3]; exact (Below.refl _ _).alloc (Nat.le_refl _) _
  have R3 : Hid (w3.heap[w2.heap.size]? = some (.cells L.toArray 25 (0, 0))) := by rw [hw3]; exact heap_alloc_new w2 _
  have S3 := Hid.mk' (S2.out.below b3)
  have B3 : Hid (Below W.heap.size W w3) := B2.out.trans (b3.mono B2.out.size)
  clear hw3 b3 S2 B2
  have key := rread_any a n c zs w3 HN.out (H0.out.below B3.out)
  rw [HL.out, HE.out] at key
  refine key.mono ?_
  rintro e w4 ⟨rfl, b4⟩
  have S4 := Hid.mk' (S3.out.below b4)
  have B4 : Hid (Below W.heap.size W w4) := B3.out.trans (b4.mono B3.out.size)
  have R4 : Hid (w4.heap[w2.heap.size]? = some (.cells L.toArray 25 (0, 0))) := (b4.block _ (Array.getElem?_eq_some_iff.1 R3.out).1).trans R3.out
  clear key b4 S3 B3 R3
  have heq := eql_same (t := 25) (L := L) HEQ.out
  have b5 : Below w4.heap.size w4 (w4.alloc (.cells L.toArray 25)) := (Below.refl _ _).alloc (Nat.le_refl _) _
  have S5 := Hid.mk' (S4.out.below b5)
  have B5 : Hid (Below W.heap.size W (w4.alloc (.cells L.toArray 25))) := B4.out.trans (b5.mono B4.out.size)
  have R5 : Hid ((w4.alloc (.cells L.toArray 25)).heap[w2.heap.size]? = some (.cells L.toArray 25 (0, 0))) := (b5.block _ (Array.getElem?_eq_some_iff.1 R4.out).1).trans R4.out
  clear b5 S4 B4 R4
  go_wp2_with (first | refine wpList_store_new rfl 25 _ _ rfl _ _ L rfl rfl (by rw [hlc.out]; rfl) (by rw [hlc.out]; exact info_lk) hone.out ?_ | refine wpList_load_mid rfl 25 _ rfl w2.heap.size 0 rfl L _ (range_block R5.out) Try.underlying25 rfl (by rw [hlc.out]; exact info_lk) ?_ | refine wpList_load_mid rfl 25 _ rfl w4.heap.size 0 rfl L _ (range_block (heap_alloc_new w4 _)) Try.underlying25 rfl (by rw [hlc.out]; exact info_lk) ?_)
  refine (eq_at a1 a n n c1 c zs zs _ HN.out HN.out S5.out (H0.out.below B5.out)).mono ?_
  rintro e w6 ⟨rfl, d6⟩
  rw [decide_eq_true (rfl : zs = zs)]
  have B6 : Hid (Below W.heap.size W w6) := B5.out.trans (d6.below _)
  clear d6 S5 B5 R5
  go_wp2_with fail
  refine (awake_any w6).mono ?_
  rintro e w7 ⟨rfl, b7⟩
  have B7 : Hid (Below W.heap.size W w7) := B6.out.trans (b7.mono B6.out.size)
  clear b7
  go_wp2_with fail
  go_ret
  exact ⟨rfl, B7.out⟩
end Go.Proofs.Ythpgicgpoekmeaa
