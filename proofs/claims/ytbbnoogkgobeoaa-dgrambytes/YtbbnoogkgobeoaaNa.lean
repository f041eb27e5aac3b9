/- A stage of headers (6 to 10): the statements' awake, over the face that the kind's own text gives (Hd, ckE, byE, byB, rdE, rdL; h_.., m_..; uL, uY, uB). -/
import Derived.Test.YtbbnoogkgobeoaaYf
namespace Go.Proofs.Ytbbnoogkgobeoaa
open Go.ChangeShapes Go.WideShapes Go.ChangeAt Go.RowKit

/-- A row of the call's own: as bytes that can be read, with its length and room. -/
theorem own_bs {w : World} {base n : Nat} {t : TypeId} {v : Value} {zs : List Int} (h : w.ownsRow base t 1 v n (zs.map (Value.int .u8))) (hn : zs.length = n) (hb : Bytes zs) (hl : zs.length ≤ 140737488355328) :
    ∃ a c, v = .slice a n c ∧ Bs w a zs ∧ n ≤ c ∧ (a = none → c = 0) := by
  subst hn
  obtain ⟨a, c, rfl, hB, h0⟩ := bs_own h hb hl
  refine ⟨a, c, rfl, hB, ?_, h0⟩
  rcases h.2 with ⟨e, h⟩ | ⟨g, cap, cur, e, _, _, h, _⟩
  · omega
  · simp only [Value.slice.injEq] at e; omega

theorem uB_len : uB.length = 8 := by rw [← by_u.2]; exact (m_back hd_u uY_bytes by_u.1).1
theorem uB_bytes : Bytes uB := by rw [← by_u.2]; exact byB_bytes hd_u uY_bytes
theorem u_back : rdL (uB ++ uY) = uL ∧ rdE (uB ++ uY) = 0 := by
  obtain ⟨-, h1, h2, -⟩ := m_back hd_u uY_bytes by_u.1
  rw [by_u.2] at h1 h2
  exact ⟨h1, h2⟩
theorem uW_bytes : Bytes (uB ++ uY) := bytes_append uB_bytes uY_bytes

set_option maxHeartbeats 1000000 in
theorem awake_any (w : World) : Calls Try.prog 16 #[] w fun e w' => e = .returned (.bool true) ∧ Below w.heap.size w w' := by
  have HU := Hid.mk' hd_u
  have hlc := Hid.mk' (hd_len hd_u)
  have hone := Hid.mk' (hd_one hd_u)
  have HEQ := Hid.mk' (hd_eq hd_u)
  have hshort : Hid (∀ ys : List Int, rdE (ys.take 7) = 6 ∧ Hd hd0) := Hid.mk' (fun ys => ⟨m_short (by rw [List.length_take]; omega), hd_0⟩)
  have hlc0 := Hid.mk' (hd_len hd_0)
  have hone0 := Hid.mk' (hd_one hd_0)
  have HBY := Hid.mk' by_u
  have HBK := Hid.mk' u_back
  have HUB := Hid.mk' uB_len
  have HBB := Hid.mk' uB_bytes
  have HWB := Hid.mk' uW_bytes
  have KEY := Hid.mk' (usual_any w)
  obtain ⟨L, HL⟩ : ∃ L, Hid (uL = L) := ⟨_, rfl⟩
  obtain ⟨YY, HY⟩ : ∃ YY, Hid (uY = YY) := ⟨_, rfl⟩
  obtain ⟨BB, HB⟩ : ∃ BB, Hid (uB = BB) := ⟨_, rfl⟩
  obtain ⟨L0, HL0⟩ : ∃ L0, Hid (hd0 = L0) := ⟨_, rfl⟩
  have hny : uY.length ≤ 2048 := by decide
  obtain ⟨ny, HNY⟩ : ∃ ny, Hid (uY.length = ny) := ⟨_, rfl⟩
  rw [HNY.out] at hny KEY
  rw [HY.out] at HNY HBY HBK HWB KEY
  rw [HL.out] at HU hlc hone HEQ HBY HBK KEY
  rw [HB.out] at HBY HBK HUB HBB HWB KEY
  rw [HL0.out] at hlc0 hone0
  have heq := eql_same (t := 24) (L := L) HEQ.out
  go_enter Try.func16, Try.ntmps16
  go_wp2_with fail
  refine KEY.out.mono ?_
  rintro e w1 ⟨g, pa, pc, rfl, sy, hpc, hpn, sb, b1⟩
  have SY := Hid.mk' sy
  have SB := Hid.mk' sb
  have B1 := Hid.mk' b1
  clear sy hpc hpn sb b1 KEY
  go_wp2_with (first | refine wpList_store_new rfl 24 _ _ rfl _ _ L rfl rfl (by rw [hlc.out]; rfl) (by rw [hlc.out]; exact info_hd) hone.out ?_ | refine wpList_load_mid rfl 24 _ rfl w1.heap.size 0 rfl L _ (range_block (heap_alloc_new w1 _)) Try.underlying24 rfl (by rw [hlc.out]; exact info_hd) ?_)
  obtain ⟨w2, hw2⟩ : ∃ w2, w2 = w1.alloc (.cells L.toArray 24) := ⟨_, rfl⟩
  rw [← hw2]
  have b2 : Below w1.heap.size w1 w2 := by rw [hw2]; exact (Below.refl _ _).alloc (Nat.le_refl _) _
  have R2 : Hid (w2.heap[w1.heap.size]? = some (.cells L.toArray 24 (0, 0))) := by rw [hw2]; exact heap_alloc_new w1 _
  have B2 : Hid (Below w.heap.size w w2) := B1.out.trans (b2.mono B1.out.size)
  have SY2 := Hid.mk' (SY.out.below b2)
  have SB2 := Hid.mk' (SB.out.below b2)
  clear hw2 b2 SY SB B1
  have key := h_bytes L pa ny pc YY w2 HU.out HNY.out SY2.out
  rw [HBY.out.1, HBY.out.2, HUB.out] at key
  refine key.mono ?_
  rintro e w3 ⟨v3, rfl, hown, b3⟩
  obtain ⟨a3, c3, rfl, s3, -, -⟩ := own_bs hown HUB.out HBB.out (by rw [HUB.out]; omega)
  have T3 := Hid.mk' s3
  have SY3 := Hid.mk' (SY2.out.below b3)
  have SB3 := Hid.mk' (SB2.out.below b3)
  have R3 : Hid (w3.heap[w1.heap.size]? = some (.cells L.toArray 24 (0, 0))) := (b3.block _ (Array.getElem?_eq_some_iff.1 R2.out).1).trans R2.out
  have B3 : Hid (Below w.heap.size w w3) := B2.out.trans (b3.mono B2.out.size)
  clear key hown b3 s3 SY2 SB2 R2 B2
  go_wp2_with fail
  refine (join_any (some ⟨g, 0, none⟩) pa 8 pc 8 ny BB YY w3 HUB.out HNY.out SB3.out SY3.out (by omega)).mono ?_
  rintro e w4 ⟨v4, rfl, hown, b4⟩
  have hjl : (BB ++ YY).length = 8 + ny := by rw [List.length_append, HUB.out, HNY.out]
  obtain ⟨a4, c4, rfl, s4, hc4, -⟩ := own_bs hown hjl HWB.out (by rw [hjl]; omega)
  have U4 := Hid.mk' s4
  have HJL := Hid.mk' hjl
  have HC4 := Hid.mk' hc4
  have SB4 := Hid.mk' (SB3.out.below b4)
  have T4 := Hid.mk' (T3.out.below b4)
  have R4 : Hid (w4.heap[w1.heap.size]? = some (.cells L.toArray 24 (0, 0))) := (b4.block _ (Array.getElem?_eq_some_iff.1 R3.out).1).trans R3.out
  have B4 : Hid (Below w.heap.size w w4) := B3.out.trans (b4.mono B3.out.size)
  clear hown b4 s4 hc4 hjl SY3 SB3 T3 R3 B3
  go_wp2_with fail
  have key := h_read a4 (8 + ny) c4 (BB ++ YY) w4 HJL.out U4.out HC4.out
  rw [HBK.out.1, HBK.out.2] at key
  refine key.mono ?_
  rintro e w5 ⟨rfl, b5⟩
  have SB5 := Hid.mk' (SB4.out.below b5)
  have T5 := Hid.mk' (T4.out.below b5)
  have R5 : Hid (w5.heap[w1.heap.size]? = some (.cells L.toArray 24 (0, 0))) := (b5.block _ (Array.getElem?_eq_some_iff.1 R4.out).1).trans R4.out
  have B5 : Hid (Below w.heap.size w w5) := B4.out.trans (b5.mono B4.out.size)
  clear key b5 SB4 T4 R4 B4 U4
  go_wp2_with (first | refine wpList_store_new rfl 24 _ _ rfl _ _ L rfl rfl (by rw [hlc.out]; rfl) (by rw [hlc.out]; exact info_hd) hone.out ?_)
  obtain ⟨w6, hw6⟩ : ∃ w6, w6 = w5.alloc (.cells L.toArray 24) := ⟨_, rfl⟩
  rw [← hw6]
  have b6 : Below w5.heap.size w5 w6 := by rw [hw6]; exact (Below.refl _ _).alloc (Nat.le_refl _) _
  have Q6 : Hid (w6.heap[w5.heap.size]? = some (.cells L.toArray 24 (0, 0))) := by rw [hw6]; exact heap_alloc_new w5 _
  have SB6 := Hid.mk' (SB5.out.below b6)
  have T6 := Hid.mk' (T5.out.below b6)
  have R6 : Hid (w6.heap[w1.heap.size]? = some (.cells L.toArray 24 (0, 0))) := (b6.block _ (Array.getElem?_eq_some_iff.1 R5.out).1).trans R5.out
  have B6 : Hid (Below w.heap.size w w6) := B5.out.trans (b6.mono B5.out.size)
  clear hw6 b6 SB5 T5 R5 B5
  have key := h_read (some ⟨g, 0, none⟩) 7 8 (BB.take 7) w6 (by rw [List.length_take, HUB.out]; omega) (SB6.out.take 7 (by rw [HUB.out]; omega)) (by omega)
  rw [(hshort.out BB).1, m_none (by rw [(hshort.out BB).1]; omega), HL0.out] at key
  refine key.mono ?_
  rintro e w7 ⟨rfl, b7⟩
  have Q7 : Hid (w7.heap[w5.heap.size]? = some (.cells L.toArray 24 (0, 0))) := (b7.block _ (Array.getElem?_eq_some_iff.1 Q6.out).1).trans Q6.out
  have SB7 := Hid.mk' (SB6.out.below b7)
  have T7 := Hid.mk' (T6.out.below b7)
  have R7 : Hid (w7.heap[w1.heap.size]? = some (.cells L.toArray 24 (0, 0))) := (b7.block _ (Array.getElem?_eq_some_iff.1 R6.out).1).trans R6.out
  have B7 : Hid (Below w.heap.size w w7) := B6.out.trans (b7.mono B6.out.size)
  clear key b7 SB6 T6 R6 B6 Q6
  go_wp2_with (first | refine wpList_store_new rfl 24 _ _ rfl _ _ L0 rfl rfl (by rw [hlc0.out]; rfl) (by rw [hlc0.out]; exact info_hd) hone0.out ?_)
  have b8 : Below w7.heap.size w7 (w7.alloc (.cells L0.toArray 24)) := (Below.refl _ _).alloc (Nat.le_refl _) _
  have B8 : Hid (Below w.heap.size w (w7.alloc (.cells L0.toArray 24))) := B7.out.trans (b8.mono B7.out.size)
  refine (eq_at a3 (some ⟨g, 0, none⟩) 8 8 c3 8 BB BB _ HUB.out HUB.out (T7.out.below b8) (SB7.out.below b8)).mono ?_
  rintro e w9 ⟨rfl, d9⟩
  rw [decide_eq_true (rfl : BB = BB)]
  have Q9 : w9.heap[w5.heap.size]? = some (.cells L.toArray 24 (0, 0)) := by
    rw [d9.heap]; exact (b8.block _ (Array.getElem?_eq_some_iff.1 Q7.out).1).trans Q7.out
  have R9 : w9.heap[w1.heap.size]? = some (.cells L.toArray 24 (0, 0)) := by
    rw [d9.heap]; exact (b8.block _ (Array.getElem?_eq_some_iff.1 R7.out).1).trans R7.out
  have Q9 := Hid.mk' (range_block Q9)
  have R9 := Hid.mk' (range_block R9)
  have B9 : Hid (Below w.heap.size w w9) := B8.out.trans (d9.below _)
  clear b8 B8 d9 Q7 R7 SB7 T7 B7
  go_wp2_with (first | (go_at_call 13; refine (lsize_any w9).mono ?_; rintro e w10 ⟨rfl, rfl⟩) | refine wpList_load_midG (by rfl) 24 _ rfl w5.heap.size 0 rfl L _ Q9.out Try.underlying24 rfl (by rw [hlc.out]; exact info_hd) ?_ | refine wpList_load_midG (by rfl) 24 _ rfl w1.heap.size 0 rfl L _ R9.out Try.underlying24 rfl (by rw [hlc.out]; exact info_hd) ?_)
  go_ret
  exact ⟨rfl, B9.out⟩
end Go.Proofs.Ytbbnoogkgobeoaa
