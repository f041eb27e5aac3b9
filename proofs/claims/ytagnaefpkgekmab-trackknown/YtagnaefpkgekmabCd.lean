/- What is proved, out of the map: the library's keys and sort; the contract of list. -/
import Derived.Test.YtagnaefpkgekmabCc
namespace Go.Proofs.Ytagnaefpkgekmab
open Go.ChangeShapes Go.WideShapes Go.ChangeAt Go.RowKit Go.Maps Go.Sort Go.Shelf
set_option maxRecDepth 10000

/-- slices.Sort's two contracts at this program. -/
theorem sortsK (m : Nat) : AnyZI.SortsIn Try.prog Try.sortedK_ren Fence.wide m :=
  ⟨fun blk off cap ss W hH hblk hsz => callsIn_wide.2 (AnyM.slices_Sort_int Try.sortK blk off cap ss W hH hblk hsz),
   fun p cap W => callsIn_wide.2 (AnyM.slices_Sort_int_none Try.sortK p cap W)⟩

theorem keys_call (mb : Option Nat) (W : World) : Calls Try.prog 28 #[.map mb] W fun e w' => e = .returned (.func (.func 31) #[] #[.pointer (some ⟨W.heap.size, 0, none⟩)]) ∧ w' = W.alloc (.cells #[.map mb] 48) :=
  callsIn_wide.1 (AnyZI.keys_in Try.keysK Fence.wide 5 trivial rfl mb W)

set_option maxHeartbeats 1000000 in
theorem sorted_call (b : Nat) (f : Int → Int) (w : World) (h : Pm w b f) :
    Calls Try.prog 27 #[.func (.func 31) #[] #[.pointer (some ⟨w.heap.size, 0, none⟩)]] (w.alloc (.cells #[.map (some b)] 48)) fun e w' => (∃ v, e = .returned v ∧
      w'.ownsRow w.heap.size 3 1 v (idsOf f).length ((idsOf f).map (Value.int .i64))) ∧ Below w.heap.size w w' := by
  obtain ⟨D, hown, hs, hf⟩ := h
  have hbl := hown.lt
  have hsz : Maps.size D ≤ 257 := by
    rw [says_size hs hf hown lawI Try.underlying3]; exact nf_len f
  have hseq : SeqGives Fence.wide 2 Try.prog 31 #[.pointer (some ⟨w.heap.size, 0, none⟩)] encZ (fun ss => ss.Perm (intKeys D)) (Maps.size D) (w.alloc (.cells #[.map (some b)] 48)) :=
    AnyZI.keys_gives (ρ := Try.keysK_ren) { Try.keysK with } Fence.wide _ trivial rfl (by omega) w.heap.size b 257 D _ (by simp) (by simp) (by
      obtain ⟨es, clock, hb, Ft, hs, hD⟩ := hown
      exact ⟨es, clock, (Below.heap_alloc _ _ b hbl).trans hb, Ft, hs, hD⟩)
  have cS := AnyZI.sorted_in Try.sortedK Fence.wide 5 trivial trivial trivial trivial rfl (by omega) (sortsK _) (enters_of Try.func30 (by kernel_rfl) rfl) 31 #[.pointer (some ⟨w.heap.size, 0, none⟩)] trivial (enters_of Try.func31 (by kernel_rfl) rfl) _ _ (by unfold maxLen; omega) (by omega) _ hseq
  refine (callsIn_wide.1 cS).mono ?_
  rintro e w' ⟨v, ss, rfl, hS, hrow, hnil, hb⟩
  have hso : (ss.mergeSort fun x y => decide (x ≤ y)) = idsOf f := ids_sort hS (says_perm hs hf hown lawI Try.underlying3)
  have hl : ss.length = (idsOf f).length := by rw [← hso, List.length_mergeSort]
  rw [hso, hl] at hrow
  exact ⟨⟨v, rfl, ownsRow_base hrow (by simp)⟩, ((Below.refl _ w).alloc (Nat.le_refl _) _).trans (hb.mono (by simp))⟩

/-- The first pairs. -/
theorem ids_len (f : Int → Int) : (idsOf f).length = (nf f).length := by simp [idsOf]
def prA (f : Int → Int) (ids : List Int) : List Kn := ids.map fun i => (i, f i)
theorem prA_take {f : Int → Int} {ids : List Int} {k : Nat} (h : k < ids.length) : prA f (ids.take (k + 1)) = prA f (ids.take k) ++ [(ids.getD k 0, f (ids.getD k 0))] := by
  unfold prA
  rw [List.take_succ_eq_append_getElem h, List.map_append, List.getD_eq_getElem?_getD, List.getElem?_eq_getElem h]
  rfl
theorem prA_all (f : Int → Int) : prA f (idsOf f) = nf f := ids_map f

theorem lit_inj {a c : Int} (h : (DataW.lit (.int .i64 a) : KD) = .lit (.int .i64 c)) : c = a := by
  injection h with h; injection h with _ h; exact h.symm

set_option maxHeartbeats 2000000 in
theorem list_any (b : Nat) (f : Int → Int) (w : World) (h : Pm w b f) : Calls Try.prog 19 #[.map (some b)] w fun e w' => (∃ v, e = .returned v ∧ w'.ownsRow w.heap.size 27 2 v (nf f).length (knC (nf f))) ∧ Below w.heap.size w w' := by
  obtain ⟨iN, hi1, hi2, hi3, hi4⟩ := known_info
  have hlenN := nf_len f
  have HIL := Hid.mk' (ids_len f)
  have HALL := Hid.mk' (prA_all f)
  have HIN : Hid (∀ x ∈ idsOf f, 0 ≤ x ∧ x ≤ 256) := Hid.mk' (fun x hx => by
    obtain ⟨D, _, _, hf⟩ := h
    exact hf.out x ((ids_mem hf x).1 hx))
  have HFN : Hid (∀ z, 0 ≤ f z ∧ f z ≤ 2048) := Hid.mk' (fun z => by
    obtain ⟨D, _, _, hf⟩ := h
    exact ⟨hf.low z, hf.high z⟩)
  have KS := fun u hu => sorted_call b f u hu
  have HP := Hid.mk' h
  obtain ⟨D, ho, hs, hf⟩ := h
  have hsz := says_size hs hf ho lawI Try.underlying3
  obtain ⟨ids, hids⟩ : ∃ ids, idsOf f = ids := ⟨_, rfl⟩
  obtain ⟨NL, hNL⟩ : ∃ NL, nf f = NL := ⟨_, rfl⟩
  obtain ⟨n, hn⟩ : ∃ n, NL.length = n := ⟨_, rfl⟩
  rw [hids] at HIL HALL HIN KS
  rw [hNL] at HIL HALL hsz hlenN ⊢
  rw [hn] at HIL hsz hlenN ⊢
  clear hids hs hf
  have HL : Hid (ids.length = n) := HIL
  rw [HL.out] at KS
  have HSZ := Hid.mk' hsz
  have HNL := Hid.mk' hNL
  have HN := Hid.mk' hn
  have HO := Hid.mk' ho
  clear hNL hn hsz ho HIL
  go_enter Try.func19, Try.ntmps19
  go_wp2_with (first
    | (at_len; refine wpList_len_own _ rfl _ 48 rfl 3 3 Try.underlying48 _ b 257 D rfl HO.out ?_; rw [HSZ.out])
    | (at_make; refine wpList_make_own _ rfl _ _ 24 rfl w.heap.size 27 iN (.agg #[.int .i64 0, .int .i64 0]) 2 Try.underlying24 hi1 hi2 hi3 _ _ _ n rfl rfl rfl (by rw [hi4]; omega) (by unfold maxLen; omega) (Nat.le_refl _) ?_; intro w1 own1 gr1))
  have B1 : Hid (Below w.heap.size w w1) := Hid.mk' ((Below.refl _ w).grown gr1 (Nat.le_refl _) (fun k e => by cases e))
  have P1 : Hid (Pm w1 b f) := Hid.mk' (HP.out.below B1.out)
  have O1 := Hid.mk' own1
  clear own1 gr1
  refine (keys_call _ _).mono ?_
  rintro e w2 ⟨rfl, rfl⟩
  have K2 := KS w1 P1.out
  go_wp2_with fail
  refine K2.mono ?_
  rintro e w3 ⟨⟨vs, rfl, own3⟩, b3⟩
  have B3 : Hid (Below w1.heap.size w1 w3) := Hid.mk' b3
  have O3 := Hid.mk' own3
  have P3 : Hid (Pm w3 b f) := Hid.mk' (P1.out.below B3.out)
  clear own3 b3 KS K2
  obtain ⟨sa, sc, hvs⟩ := own_slice O3.out
  subst hvs
  obtain ⟨q, hq⟩ : ∃ q, Hid (w1.heap.size = q) := ⟨_, rfl⟩
  have hwq : Hid (w.heap.size ≤ q) := Hid.mk' (by rw [← hq.out]; exact B1.out.size)
  have L3 : Hid (w3.ownsRow w.heap.size 27 2 (.slice (some ⟨w.heap.size, 0, none⟩) 0 n) 0 (knC (prA f (ids.take 0)))) := Hid.mk' (Kept.owns O1.out (Kept.of_below (S := fun _ => False) B3.out) (fun _ _ e => e))
  have A3 : Hid (∀ j, (Value.slice (some ⟨w.heap.size, 0, none⟩) 0 n).ownBlock = some j → (Value.slice sa n sc).ownBlock ≠ some j) := Hid.mk' (fun j hj e => by
    have h1 := (O3.out.lt j e).1
    have h2 := (O1.out.lt j hj).2
    omega)
  have BW : Hid (Below w.heap.size w w3) := Hid.mk' (B1.out.trans (B3.out.mono B1.out.size))
  have Q3 : Hid (w3.ownsRow q 3 1 (.slice sa n sc) n (ids.map (Value.int .i64))) := Hid.mk' (by rw [← hq.out]; exact O3.out)
  clear O1 O3 B3 P1 B1
  go_wp2_with fail
  go_loopw [3, 13] (fun s r wr => ∃ k : Nat, r = .int .i64 k ∧ k ≤ n ∧ Hid (wr.ownsRow w.heap.size 27 2 s k (knC (prA f (ids.take k)))) ∧ Hid (∀ j, s.ownBlock = some j → (Value.slice sa n sc).ownBlock ≠ some j) ∧ Hid (wr.ownsRow q 3 1 (.slice sa n sc) n (ids.map (Value.int .i64))) ∧ Hid (Pm wr b f) ∧ Hid (Below w.heap.size w wr)) (fun _ r _ => ((n : Int) - iv r).toNat)
  case atStart => exact ⟨0, rfl, Nat.zero_le _, L3, A3, Q3, P3, BW⟩
  case round =>
    clear L3 A3 Q3 P3 BW
    obtain ⟨k, rfl, hk, hL, hA, hQ, hP, hB⟩ := hrel
    by_cases hkn : k < n
    · obtain ⟨g, c, hv, hnc⟩ : ∃ g c, Value.slice sa n sc = .slice (some ⟨g, 0, none⟩) n c ∧ n ≤ c := by
        rcases hQ.out.2 with ⟨_, h0⟩ | ⟨g, cap, cur, e, _, _, hc, _⟩
        · omega
        · exact ⟨g, cap, e, hc⟩
      simp only [Value.slice.injEq, true_and] at hv
      obtain ⟨rfl, rfl⟩ := hv
      have hlk : (k : Int) < (n : Int) := by omega
      have d0 : wr.cell? ⟨g, k, none⟩ = some (.int .i64 (ids.getD k 0)) := by
        rw [hQ.out.cellAt k (by omega)]
        simp [HL.out, hkn, List.getD_eq_getElem?_getD]
      have hgl : g < wr.heap.size := (hQ.out.lt g rfl).2
      have HI := Hid.mk' (HIN.out (ids.getD k 0) (by rw [List.getD_eq_getElem?_getD, List.getElem?_eq_getElem (by rw [HL.out]; exact hkn)]; exact List.getElem_mem _))
      have HT := Hid.mk' (prA_take (f := f) (ids := ids) (k := k) (by rw [HL.out]; exact hkn))
      generalize ids.getD k 0 = I at *
      have hin : In64 I := by have := HI.out; unfold In64; omega
      obtain ⟨D2, ho2, hs2, hf2⟩ := hP.out
      have HO2 := Hid.mk' ho2
      have HS2 := Hid.mk' (hs2 I (WalkArith.wf_i64 hin)).1
      clear ho2 hs2 hf2
      go_wp2_with (first
        | (at_lookup; refine wpList_lookup_own_int _ rfl _ _ 48 rfl 3 3 .i64 lawI Try.underlying48 Try.underlying3 (zeroI _) b 257 D2 rfl HO2.out _ _ rfl (key_i I hin) ?_; intro c2 hat hwc; have HC2 : Hid (c2 = f I) := Hid.mk' (lit_inj (HS2.out.symm.trans hat)); clear hat hwc)
        | (at_builtin; refine wpList_append_own2 rfl _ _ 24 rfl w.heap.size 27 iN (.agg #[.int .i64 0, .int .i64 0]) 2 16 Try.underlying24 hi1 hi2 hi3 hi4 rfl (by decide) _ _ _ rfl (hL.out.alloc _) ⟨wr.heap.size, 0, none⟩ 1 1 [.int .i64 I, .int .i64 c2] rfl rfl (by intro j u hj; rw [addr_add, Nat.zero_add, World.cell?_alloc_new, List.getElem?_toArray]; exact hj) (by intro u hu; simp at hu; rcases hu with rfl | rfl <;> rfl) (by unfold maxLen; omega) (by omega) (by have := hB.out.size; simp; omega) ?_; intro v' w5 hown5 hgr5; intro hwh; have HO5 := Hid.mk' hown5; have HG5 := Hid.mk' hgr5; have HW5 := Hid.mk' hwh; clear hown5 hgr5 hwh))
      have HB5 : Hid (∀ j, j < wr.heap.size → (∀ (hj : u3.ownBlock = some j), False) → w5.heap[j]? = wr.heap[j]?) := Hid.mk' (fun j hj hne => by
        rw [HG5.out.block j (by simp; omega) (fun e => hne e.symm)]
        exact Below.heap_alloc _ _ j hj)
      have KS5 : Hid (Kept (fun j => u3.ownBlock = some j) wr w5) := Hid.mk' ⟨HG5.out.os, HG5.out.tape, HG5.out.output, Nat.le_trans (by simp) HG5.out.size, fun j hj hn => HB5.out j hj (fun e => hn e)⟩
      have L5 : Hid (w5.ownsRow w.heap.size 27 2 v' (k + 1) (knC (prA f (ids.take (k + 1))))) := Hid.mk' (by
        rw [HT.out, knC_append, ← HC2.out]
        exact HO5.out)
      have A5 : Hid (∀ j, v'.ownBlock = some j → (Value.slice (some ⟨g, 0, none⟩) n sc).ownBlock ≠ some j) := Hid.mk' (fun j hj e => by
        rcases HW5.out with h1 | ⟨g2, h1, h2⟩
        · exact hA.out j (h1.symm.trans hj) e
        · rw [h1] at hj; cases hj
          simp [Value.ownBlock] at e
          simp at h2
          omega)
      have Q5 : Hid (w5.ownsRow q 3 1 (.slice (some ⟨g, 0, none⟩) n sc) n (ids.map (Value.int .i64))) := Hid.mk' (Kept.owns hQ.out KS5.out (fun j hj e => hA.out j e hj))
      have P5 : Hid (Pm w5 b f) := Hid.mk' ((hP.out.below ((Below.refl _ _).alloc (Nat.le_refl _) _)).grown HG5.out (fun e => by
        have := own_base hL.out b e.symm
        have := HP.out.lt
        omega))
      have B5 : Hid (Below w.heap.size w w5) := Hid.mk' (hB.out.trans (KS5.out.below hB.out.size (fun j hj e => by
        have := own_base hL.out j e
        omega)))
      clear HB5 HO5 HG5 HW5 KS5
      go_roundw
      case rel => exact ⟨k + 1, by go_num, hkn, L5, A5, Q5, P5, B5⟩
      case measure => simp [iv]; omega
    · have hlk : ¬ (k : Int) < (n : Int) := by omega
      have hkn : k = n := by omega
      go_wp2_with fail
      go_ret
      refine ⟨⟨_, rfl, ?_⟩, hB.out⟩
      have := hL.out
      rw [hkn, ← HL.out, List.take_length, HALL.out] at this
      rw [HL.out] at this
      exact this
end Go.Proofs.Ytagnaefpkgekmab
