/- Link headers, compared; the statements' usual and awake. -/
import Derived.Test.YthpgicgpoekmeaaKc
import Derived.Test.YthpgicgpoekmeaaGc
namespace Go.Proofs.Ythpgicgpoekmeaa
open Go.ChangeShapes Go.WideShapes Go.ChangeAt Go.RowKit

theorem wf_u8 {z : Int} (h0 : 0 ≤ z) (h1 : z ≤ 255) : (Lit.int .u8 z).wf = true := by
  have e0 : IntKind.u8.min = 0 := by decide
  have e1 : IntKind.u8.max = 255 := by decide
  simp [Lit.wf, e0, e1]; omega
theorem wf_u16 {z : Int} (h0 : 0 ≤ z) (h1 : z ≤ 65535) : (Lit.int .u16 z).wf = true := by
  have e0 : IntKind.u16.min = 0 := by decide
  have e1 : IntKind.u16.max = 65535 := by decide
  simp [Lit.wf, e0, e1]; omega

theorem kl_bytes {t : TypeId} {n : Nat} (hu : Try.prog.underlying t = some (.array n 5)) (hc : Try.prog.cellsOf t = n) (D : Nat) (zs : List Int) (hl : zs.length = n) (h : Bytes zs) : Try.prog.keyLits (D + 2) t (zs.map (Value.int .u8)) = some (zs.map (Lit.int .u8)) :=
  kl_arr hu Try.underlying5 hc (by kernel_rfl) D zs hl (fun z hz => wf_u8 (h z hz).1 (h z hz).2)

theorem kl_lk {d s : List Int} {t : Int} (h : Lk d s t) : Try.prog.keyLits 3 25 (lkC d s t) = some ([(d.map (Value.int .u8), d.map (Lit.int .u8)), (s.map (Value.int .u8), s.map (Lit.int .u8)), ([Value.int .u16 t], [Lit.int .u16 t])].map (·.2)).flatten := by
  refine kl_struct (d := 2) Try.underlying25 (by kernel_rfl) _ _ (by simp [lkC]) ?_ rfl (fun i f p hf hp => ?_)
  · rw [lkC_length h]; kernel_rfl
  · have hd := h.dl
    have hs := h.sl
    match i, hf, hp with
    | 0, hf, hp =>
      cases hf; cases hp
      exact ⟨rfl, by rw [List.length_map, hd]; kernel_rfl, kl_bytes Try.underlying22 (by kernel_rfl) 0 d hd h.db⟩
    | 1, hf, hp =>
      cases hf; cases hp
      exact ⟨by simp [hd], by rw [List.length_map, hs]; kernel_rfl, kl_bytes Try.underlying22 (by kernel_rfl) 0 s hs h.sb⟩
    | 2, hf, hp =>
      cases hf; cases hp
      exact ⟨by simp [hd, hs], by kernel_rfl, kl_int Try.underlying23 1 t (wf_u16 h.t0 h.t1)⟩
    | i + 3, hf, hp => simp at hp

theorem eq_lk {d s : List Int} {t : Int} (h : Lk d s t) (w : World) : (Op.equalIn 10000 25 (.agg (lkC d s t).toArray) (.agg (lkC d s t).toArray)).run Try.prog w = .ok true w :=
  equal_same 3 (by omega) (by kernel_rfl) (by
    simp only [Value.formed, Try.underlying25, List.size_toArray, lkC_length h]; kernel_rfl) 3 (kl_lk h) w

/-- The chapter's header. -/
def uD : List Int := [1, 2, 3, 4, 5, 6]
def uS : List Int := [17, 18, 19, 20, 21, 22]
theorem lk_u : Lk uD uS 2048 := ⟨rfl, rfl, by intro z hz; simp [uD] at hz; omega, by intro z hz; simp [uS] at hz; omega, by omega, by omega⟩

set_option maxHeartbeats 400000 in
theorem usual_any (w : World) : Calls Try.prog 20 #[] w fun e w' => ∃ g, e = .returned (.tuple #[.agg (lkC uD uS 2048).toArray, .slice none 0 0, .slice (some ⟨g, 0, none⟩) 14 14]) ∧ w'.ownsRow w.heap.size 5 1 (.slice (some ⟨g, 0, none⟩) 14 14) 14 ((lkB uD uS 2048).map (Value.int .u8)) ∧ Below w.heap.size w w' := by
  go_enter Try.func20, Try.ntmps20
  go_wp2_with fail
  refine ret_cell_tmp2 rfl w.heap.size 25 (lkC uD uS 2048) (0, 0) _ rfl (heap_alloc2_old w _ _) Try.underlying25 rfl (by rw [lkC_length lk_u]; exact info_lk) rfl ?_
  exact ⟨w.heap.size + 1, rfl, own_block (heap_alloc2_new w _ _) (by omega) (by rw [List.length_map, lkB_length lk_u]) (by omega), ((Below.refl _ _).alloc (Nat.le_refl _) _).alloc (by simp) _⟩

/-- A row of the call's own that there is, as bytes that can be read. -/
theorem own_block_bs {w : World} {base g n c : Nat} {t : TypeId} {zs : List Int} (h : w.ownsRow base t 1 (.slice (some ⟨g, 0, none⟩) n c) n (zs.map (Value.int .u8))) (hb : Bytes zs) (hl : zs.length ≤ 140737488355328) : Bs w (some ⟨g, 0, none⟩) zs := by
  have hn : n = zs.length := by have := h.1; simpa using this.symm
  subst hn
  obtain ⟨a, c', e, hB, -⟩ := bs_own h hb hl
  cases e
  exact hB

theorem lk_0 : Lk (List.replicate 6 0) (List.replicate 6 0) 0 := ⟨rfl, rfl, by intro z hz; simp at hz; omega, by intro z hz; simp at hz; omega, by omega, by omega⟩

set_option maxHeartbeats 1000000 in
theorem awake_any (w : World) : Calls Try.prog 16 #[] w fun e w' => e = .returned (.bool true) ∧ Below w.heap.size w w' := by
  obtain ⟨L, HL⟩ : ∃ L, Hid (lkC uD uS 2048 = L) := ⟨_, rfl⟩
  have hlc : Hid (L.length = 13) := Hid.mk' (by rw [← HL.out]; exact lkC_length lk_u)
  have hone : Hid (L.toArray.all (·.oneCell') = true) := Hid.mk' (by rw [← HL.out]; exact lkC_one _ _ _)
  have hone0 : Hid (lk0.toArray.all (·.oneCell') = true) := Hid.mk' (lkC_one _ _ _)
  have KEY := Hid.mk' (usual_any w)
  rw [HL.out] at KEY
  go_enter Try.func16, Try.ntmps16
  go_wp2_with fail
  refine KEY.out.mono ?_
  rintro e w1 ⟨g, rfl, hown, b1⟩
  have O1 := Hid.mk' hown
  have B1 := Hid.mk' b1
  clear hown b1
  go_wp2_with (first | refine wpList_store_new rfl 25 _ _ rfl _ _ L rfl rfl (by rw [hlc.out]; rfl) (by rw [hlc.out]; exact info_lk) hone.out ?_ | refine wpList_load_mid rfl 25 _ rfl w1.heap.size 0 rfl L _ (range_block (heap_alloc_new w1 _)) Try.underlying25 rfl (by rw [hlc.out]; exact info_lk) ?_)
  obtain ⟨w2, hw2⟩ : ∃ w2, w2 = w1.alloc (.cells L.toArray 25) := ⟨_, rfl⟩
  rw [← hw2]
  have b2 : Below w1.heap.size w1 w2 := by rw [hw2]; exact (Below.refl _ _).alloc (Nat.le_refl _) _
  have R2 : Hid (w2.heap[w1.heap.size]? = some (.cells L.toArray 25 (0, 0))) := by rw [hw2]; exact heap_alloc_new w1 _
  have B2 : Hid (Below w.heap.size w w2) := B1.out.trans (b2.mono B1.out.size)
  have S2 : Hid (Bs w2 (some ⟨g, 0, none⟩) (lkB uD uS 2048)) := Hid.mk' (by
    have := own_block_bs O1.out (lkB_bytes lk_u) (by rw [lkB_length lk_u]; omega)
    exact this.below b2)
  clear hw2 b2 O1 B1 KEY
  have key := lbytes_ok uD uS 2048 none 0 0 w2 lk_u (by omega)
  rw [HL.out] at key
  refine key.mono ?_
  rintro e w3 ⟨v3, rfl, hown, b3⟩
  obtain ⟨g3, c3, rfl, -⟩ := own_some hown (by omega)
  have S3 : Hid (Bs w3 (some ⟨g, 0, none⟩) (lkB uD uS 2048)) := S2.out.below b3
  have T3 : Hid (Bs w3 (some ⟨g3, 0, none⟩) (lkB uD uS 2048)) := own_block_bs hown (lkB_bytes lk_u) (by rw [lkB_length lk_u]; omega)
  have R3 : Hid (w3.heap[w1.heap.size]? = some (.cells L.toArray 25 (0, 0))) := (b3.block _ (Array.getElem?_eq_some_iff.1 R2.out).1).trans R2.out
  have B3 : Hid (Below w.heap.size w w3) := B2.out.trans (b3.mono B2.out.size)
  clear key hown b3 S2 R2 B2
  go_wp2_with fail
  refine (join_any (some ⟨g, 0, none⟩) none 14 0 14 0 (lkB uD uS 2048) [] w3 (lkB_length lk_u) rfl S3.out (bs_nil _ _) (by omega)).mono ?_
  rintro e w4 ⟨v4, rfl, hown, b4⟩
  obtain ⟨g4, c4, rfl, hc4⟩ := own_some hown (by omega)
  have U4 : Hid (Bs w4 (some ⟨g4, 0, none⟩) (lkB uD uS 2048 ++ [])) := own_block_bs hown (bytes_append (lkB_bytes lk_u) (fun z hz => by simp at hz)) (by rw [List.length_append, lkB_length lk_u]; simp)
  have S4 : Hid (Bs w4 (some ⟨g, 0, none⟩) (lkB uD uS 2048)) := S3.out.below b4
  have T4 : Hid (Bs w4 (some ⟨g3, 0, none⟩) (lkB uD uS 2048)) := T3.out.below b4
  have R4 : Hid (w4.heap[w1.heap.size]? = some (.cells L.toArray 25 (0, 0))) := (b4.block _ (Array.getElem?_eq_some_iff.1 R3.out).1).trans R3.out
  have B4 : Hid (Below w.heap.size w w4) := B3.out.trans (b4.mono B3.out.size)
  clear hown b4 S3 T3 R3 B3
  have HC4 := Hid.mk' hc4
  clear hc4
  go_wp2_with fail
  have key := lread_ok g4 0 14 c4 _ w4 (by rw [List.length_append, lkB_length lk_u]; rfl) U4.out (by omega) HC4.out
  rw [(rd_lkB lk_u []).1, (rd_lkB lk_u []).2.1, (rd_lkB lk_u []).2.2, HL.out] at key
  refine key.mono ?_
  rintro e w5 ⟨rfl, b5⟩
  have S5 : Hid (Bs w5 (some ⟨g, 0, none⟩) (lkB uD uS 2048)) := S4.out.below b5
  have T5 : Hid (Bs w5 (some ⟨g3, 0, none⟩) (lkB uD uS 2048)) := T4.out.below b5
  have R5 : Hid (w5.heap[w1.heap.size]? = some (.cells L.toArray 25 (0, 0))) := (b5.block _ (Array.getElem?_eq_some_iff.1 R4.out).1).trans R4.out
  have B5 : Hid (Below w.heap.size w w5) := B4.out.trans (b5.mono B4.out.size)
  clear key b5 S4 T4 R4 B4 U4
  go_wp2_with (first | refine wpList_store_new rfl 25 _ _ rfl _ _ L rfl rfl (by rw [hlc.out]; rfl) (by rw [hlc.out]; exact info_lk) hone.out ?_)
  obtain ⟨w6, hw6⟩ : ∃ w6, w6 = w5.alloc (.cells L.toArray 25) := ⟨_, rfl⟩
  rw [← hw6]
  have b6 : Below w5.heap.size w5 w6 := by rw [hw6]; exact (Below.refl _ _).alloc (Nat.le_refl _) _
  have Q6 : Hid (w6.heap[w5.heap.size]? = some (.cells L.toArray 25 (0, 0))) := by rw [hw6]; exact heap_alloc_new w5 _
  have S6 : Hid (Bs w6 (some ⟨g, 0, none⟩) (lkB uD uS 2048)) := S5.out.below b6
  have T6 : Hid (Bs w6 (some ⟨g3, 0, none⟩) (lkB uD uS 2048)) := T5.out.below b6
  have R6 : Hid (w6.heap[w1.heap.size]? = some (.cells L.toArray 25 (0, 0))) := (b6.block _ (Array.getElem?_eq_some_iff.1 R5.out).1).trans R5.out
  have B6 : Hid (Below w.heap.size w w6) := B5.out.trans (b6.mono B5.out.size)
  clear hw6 b6 S5 T5 R5 B5
  refine (lread_no (some ⟨g, 0, none⟩) 13 14 w6 (by omega)).mono ?_
  rintro e w7 ⟨rfl, b7⟩
  have Q7 : Hid (w7.heap[w5.heap.size]? = some (.cells L.toArray 25 (0, 0))) := (b7.block _ (Array.getElem?_eq_some_iff.1 Q6.out).1).trans Q6.out
  have S7 : Hid (Bs w7 (some ⟨g, 0, none⟩) (lkB uD uS 2048)) := S6.out.below b7
  have T7 : Hid (Bs w7 (some ⟨g3, 0, none⟩) (lkB uD uS 2048)) := T6.out.below b7
  have R7 : Hid (w7.heap[w1.heap.size]? = some (.cells L.toArray 25 (0, 0))) := (b7.block _ (Array.getElem?_eq_some_iff.1 R6.out).1).trans R6.out
  have B7 : Hid (Below w.heap.size w w7) := B6.out.trans (b7.mono B6.out.size)
  clear b7 S6 T6 R6 B6 Q6
  go_wp2_with (first | refine wpList_store_new rfl 25 _ _ rfl _ _ lk0 rfl rfl rfl info_lk hone0.out ?_)
  have b8 : Below w7.heap.size w7 (w7.alloc (.cells lk0.toArray 25)) := (Below.refl _ _).alloc (Nat.le_refl _) _
  have B8 : Hid (Below w.heap.size w (w7.alloc (.cells lk0.toArray 25))) := B7.out.trans (b8.mono B7.out.size)
  refine (eq_at (some ⟨g3, 0, none⟩) (some ⟨g, 0, none⟩) 14 14 c3 14 (lkB uD uS 2048) (lkB uD uS 2048) _ (lkB_length lk_u) (lkB_length lk_u) (T7.out.below b8) (S7.out.below b8)).mono ?_
  rintro e w9 ⟨rfl, d9⟩
  rw [decide_eq_true (rfl : lkB uD uS 2048 = lkB uD uS 2048)]
  have Q9 : w9.heap[w5.heap.size]? = some (.cells L.toArray 25 (0, 0)) := by
    rw [d9.heap]; exact (b8.block _ (Array.getElem?_eq_some_iff.1 Q7.out).1).trans Q7.out
  have R9 : w9.heap[w1.heap.size]? = some (.cells L.toArray 25 (0, 0)) := by
    rw [d9.heap]; exact (b8.block _ (Array.getElem?_eq_some_iff.1 R7.out).1).trans R7.out
  have Q9 := Hid.mk' (range_block Q9)
  have R9 := Hid.mk' (range_block R9)
  have heq := eql_same (t := 25) (L := L) (by rw [← HL.out]; exact eq_lk lk_u)
  have B9 : Hid (Below w.heap.size w w9) := B8.out.trans (d9.below _)
  clear b8 B8 d9 Q7 R7 S7 T7 B7
  go_wp2_with (first | (go_at_call 13; refine (lsize_any w9).mono ?_; rintro e w10 ⟨rfl, rfl⟩) | refine wpList_load_midG (by rfl) 25 _ rfl w5.heap.size 0 rfl L _ Q9.out Try.underlying25 rfl (by rw [hlc.out]; exact info_lk) ?_ | refine wpList_load_midG (by rfl) 25 _ rfl w1.heap.size 0 rfl L _ R9.out Try.underlying25 rfl (by rw [hlc.out]; exact info_lk) ?_)
  go_ret
  exact ⟨rfl, B9.out⟩
end Go.Proofs.Ythpgicgpoekmeaa
