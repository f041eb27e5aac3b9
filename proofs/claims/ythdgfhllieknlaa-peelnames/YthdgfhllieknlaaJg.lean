/- The packet's headers as the program walks them. -/
import Derived.Test.YthdgfhllieknlaaJf
import Derived.Deep.LoopGhost
import Derived.Deep.CutRange
namespace Go.Proofs.Ythdgfhllieknlaa
open Go.ChangeShapes Go.WideShapes Go.ChangeAt Go.RowKit
set_option maxRecDepth 10000

/-- What is behind the first bytes of a slice. -/
def subA (a : Option Addr) (c M : Nat) : Option Addr := if c = M then a else a.map (fun x => x.add M)
theorem bs_sub {w : World} {a : Option Addr} {zs : List Int} (h : Bs w a zs) (c M : Nat) (hc : zs.length ≤ c) : Bs w (subA a c M) (zs.drop M) := by
  have hl := h.len
  unfold subA
  by_cases e : c = M
  · rw [if_pos e]
    exact ⟨by rw [List.length_drop]; omega, fun z hz => h.bytes z (List.mem_of_mem_drop hz), .inl (by rw [List.length_drop]; omega)⟩
  · rw [if_neg e]
    rcases h.lies with h0 | ⟨b, off, rfl, hc⟩
    · exact ⟨by rw [List.length_drop]; omega, fun z hz => h.bytes z (List.mem_of_mem_drop hz), .inl (by rw [List.length_drop]; omega)⟩
    · rw [Option.map_some, addr_add]
      exact h.drop M

theorem Heap.front {W w : World} {L M : List Thing} (h : Heap W w (L ++ M)) : Heap W w L :=
  ⟨fun T hT => h.all T (List.mem_append_left _ hT), (List.pairwise_append.1 h.apart).1, fun T hT => h.high T (List.mem_append_left _ hT), h.old⟩

/-- Each kind's function. -/
def fr (k : Int) : Nat := if k = 1 then 41 else if k = 2 then 44 else if k = 3 then 47 else if k = 4 then 50 else if k = 5 then 53 else 56

theorem reader_any (k : Int) (h0 : 1 ≤ k) (h1 : k ≤ 6) (a : Option Addr) (n c : Nat) (zs : List Int) (w : World) (hz' : zs.length = n) (hB : Bs w a zs) (hc : n ≤ c) :
    Calls Try.prog (fr k) #[.slice a n c] w fun e w' => e = .returned (.tuple #[.agg (hk k (rL k zs)).toArray, .int .i64 (sz k : Nat), .int .i64 (rE k zs)]) ∧ Below w.heap.size w w' := by
  rcases six h0 h1 with rfl | rfl | rfl | rfl | rfl | rfl
  · exact reader_1 a n c zs w hz' hB hc
  · exact reader_2 a n c zs w hz' hB hc
  · exact reader_3 a n c zs w hz' hB hc
  · exact reader_4 a n c zs w hz' hB hc
  · exact reader_5 a n c zs w hz' hB hc
  · exact reader_6 a n c zs w hz' hB hc

theorem rdF_at (k : Int) (h0 : 1 ≤ k) (h1 : k ≤ 6) : rdF.toArray[k.toNat]? = some (.func (.func (fr k)) #[] #[]) := by
  rcases six h0 h1 with rfl | rfl | rfl | rfl | rfl | rfl <;> rfl

theorem call_fr (k : Int) (h0 : 1 ≤ k) (h1 : k ≤ 6) (args : Array Value) (u : World) : Sem.run Try.prog (callFunc (fr k) args) u = .ok (.enter (fr k) args) u := by
  rcases six h0 h1 with rfl | rfl | rfl | rfl | rfl | rfl
  · exact Try.call41 args u
  · exact Try.call44 args u
  · exact Try.call47 args u
  · exact Try.call50 args u
  · exact Try.call53 args u
  · exact Try.call56 args u

theorem info_found : (Try.prog.info? 71).map (fun i => (i.zero, i.size, i.bytes)) = some (some (.agg (hz ++ [Value.int .i64 0, Value.int .i64 0]).toArray), 75, 120) := by kernel_rfl

/-- A row of cells that was laid just now. -/
theorem cells_laid (w : World) (t : TypeId) (L : List Value) : ∀ (j : Nat) (u : Value), L[j]? = some u → (w.alloc (.cells L.toArray t)).cell? ((⟨w.heap.size, 0, none⟩ : Addr).add j) = some u := by
  intro j u hj
  rw [addr_add, World.cell?_alloc_new, Nat.zero_add, List.getElem?_toArray]
  exact hj

/-- Where the walk stands. -/
structure WkI (zs : List Int) (out : Hs) (k : Int) (m : Bool) : Prop where
  ok : HsOk out
  fits : hTot out ≤ zs.length
  few : out.length ≤ 8
  more : m = true → 1 ≤ k ∧ k ≤ 6 ∧ PE zs = pe (8 - out.length) k out (zs.drop (hTot out))
  done : m = false → PE zs = (0, out)

theorem WkI.first (zs : List Int) : WkI zs [] 1 true := ⟨HsOk.nil, by simp [hTot], by simp, fun _ => ⟨by omega, by omega, by simp [PE, hTot]⟩, fun h => by cases h⟩
theorem WkI.many {zs : List Int} {out : Hs} {k : Int} (h : WkI zs out k true) (he : out.length = 8) : PE zs = (3, []) := by
  rw [(h.more rfl).2.2, he]; rfl
theorem WkI.bad {zs : List Int} {out : Hs} {k : Int} (h : WkI zs out k true) (hl : out.length < 8) (he : ¬ rE k (zs.drop (hTot out)) = 0) : PE zs = (rE k (zs.drop (hTot out)), []) := by
  rw [(h.more rfl).2.2, show 8 - out.length = (7 - out.length) + 1 by omega, pe, if_neg he]
theorem WkI.next {zs : List Int} {out : Hs} {k : Int} (h : WkI zs out k true) (hb : Bytes zs) (hl : out.length < 8) (he : rE k (zs.drop (hTot out)) = 0) :
    WkI zs (out ++ [(k, rL k (zs.drop (hTot out)))]) (nx (hk k (rL k (zs.drop (hTot out))))) (!(nx (hk k (rL k (zs.drop (hTot out)))) == 0)) := by
  obtain ⟨k0, k1, hp⟩ := h.more rfl
  have hlen := rE_len k0 k1 he
  rw [List.length_drop] at hlen
  have hf := h.fits
  have hbd : Bytes (zs.drop (hTot out)) := fun z hz => hb z (List.mem_of_mem_drop hz)
  have t2 : hTot (out ++ [(k, rL k (zs.drop (hTot out)))]) = hTot out + sz k := by rw [hTot_app]; simp [hTot]
  rw [show 8 - out.length = (7 - out.length) + 1 by omega, pe, if_pos he] at hp
  refine ⟨h.ok.push (rL_hd k0 k1 hbd), by rw [t2]; omega, by simp; omega, fun hm => ?_, fun hm => ?_⟩
  · have hn : ¬ nx (hk k (rL k (zs.drop (hTot out)))) = 0 := by simpa using hm
    have hbd := nx_bd (hk k (rL k (zs.drop (hTot out))))
    rw [if_neg hn] at hp
    refine ⟨by omega, by omega, ?_⟩
    rw [hp, t2, List.drop_drop]
    congr 1
    simp
  · have hn : nx (hk k (rL k (zs.drop (hTot out)))) = 0 := by simpa using hm
    rw [if_pos hn] at hp
    exact hp

set_option maxHeartbeats 2000000 in
theorem walk_any (a : Option Addr) (n c : Nat) (zs : List Int) (w : World) (hz' : zs.length = n) (hB : Bs w a zs) (hc : n ≤ c) :
    Calls Try.prog 21 #[.slice a n c] w fun e w' => ∃ v, e = .returned (.tuple #[v, .int .i64 (PE zs).1]) ∧ w'.ownsRow w.heap.size 71 75 v (PE zs).2.length (fC 0 (PE zs).2) ∧ Below w.heap.size w w' := by
  have hln : n ≤ 140737488355328 := by rw [← hz']; exact hB.len
  have HB := Hid.mk' hB
  have HZ := Hid.mk' hz'
  clear hB hz'
  go_enter Try.func21, Try.ntmps21
  go_wp2_with (first | (go_at_call 27; refine (readers_any _).mono ?_; rintro e w1 ⟨rfl, b1⟩) | refine wpList_store_new rfl 80 _ _ rfl _ _ rdF rfl rfl rfl (by kernel_rfl) (by kernel_rfl) ?_)
  obtain ⟨w2, hw2⟩ : ∃ w2, w2 = w1.alloc (.cells rdF.toArray 80) := ⟨_, rfl⟩
  rw [← hw2]
  obtain ⟨g, hg⟩ : ∃ g, g = w1.heap.size := ⟨_, rfl⟩
  rw [← hg]
  have H2 : Hid (Heap w w2 [rowT w.heap.size 71 75 (.slice none 0 0) 0 (fC 0 []), cellsT g rdF.toArray 80]) := by
    subst hg hw2
    refine ((Heap.nil b1).add ((Below.refl _ _).alloc (Nat.le_refl _) _) (cellsT w1.heap.size rdF.toArray 80) (heap_alloc_new w1 _) (fun k hk => ?_)).add (Below.refl _ _) (rowT w.heap.size 71 75 (.slice none 0 0) 0 (fC 0 [])) (World.ownsRow_nil _ _ _ _) (fun k hk => ?_)
    · exact Nat.le_of_eq hk.symm
    · cases hk
  clear hw2 hg b1
  go_loopg [5, 6, 7, 8] 8 (fun f s5 s6 s7 s8 wr => ∃ (out : Hs) (k : Int) (m : Bool), s6 = .int .i64 (hTot out : Nat) ∧ s7 = .int .u8 k ∧ s8 = .bool m ∧ 8 - out.length ≤ f ∧ Hid (WkI zs out k m) ∧ Hid (Heap w wr [rowT w.heap.size 71 75 s5 out.length (fC 0 out), cellsT g rdF.toArray 80]))
  case atStart => exact ⟨[], 1, true, rfl, rfl, rfl, by simp, WkI.first zs, H2⟩
  case round =>
    obtain ⟨out, k, m, rfl, rfl, rfl, hf, HI, HH⟩ := hrel
    have hle := HI.out.few
    have hfits := HI.out.fits
    rw [HZ.out] at hfits
    cases m with
    | false =>
      go_wp2_with fail
      go_ret2
      have hd := HI.out.done rfl
      rw [hd]
      exact ⟨_, rfl, HH.out.get (i := 0) rfl, HH.out.old⟩
    | true =>
      by_cases h8 : out.length = 8
      · have hd := Hid.mk' (HI.out.many h8)
        obtain ⟨sa, sc, hs⟩ := own_slice (HH.out.get (i := 0) rfl)
        rw [h8] at hs
        subst hs
        go_wp2_with fail
        go_ret2
        rw [hd.out]
        exact ⟨_, rfl, World.ownsRow_nil _ _ _ _, HH.out.old⟩
      · obtain ⟨k0, k1, -⟩ := HI.out.more rfl
        obtain ⟨sa, sc, hs⟩ := own_slice (HH.out.get (i := 0) rfl)
        have HS := Hid.mk' hs
        obtain ⟨N, HN⟩ : ∃ N, Hid (out.length = N) := ⟨_, rfl⟩
        obtain ⟨M, HM⟩ : ∃ M, Hid (hTot out = M) := ⟨_, rfl⟩
        rw [HN.out] at hf hle h8 hs HS HH
        rw [HM.out] at hfits
        rw [HM.out]
        subst hs
        obtain ⟨H, HHk⟩ : ∃ H, Hid (hk k (rL k (zs.drop M)) = H) := ⟨_, rfl⟩
        obtain ⟨E, HE⟩ : ∃ E, Hid (rE k (zs.drop M) = E) := ⟨_, rfl⟩
        have KH := Hid.mk' (hk_hh (rL_hd k0 k1 (fun z hz => HB.out.bytes z (List.mem_of_mem_drop hz) : Bytes (zs.drop M))))
        rw [HHk.out] at KH
        have hh73 := Hid.mk' (hh_len KH.out)
        have hh1 := Hid.mk' (hh_one KH.out)
        have hs73 : Hid (H.toArray.size = 73) := Hid.mk' (by rw [List.size_toArray]; exact hh73.out)
        go_upto_region 8 with fail
        go_cut [9, 10, 11] from 13 to 46 (fun s9 s10 s11 wc => ∃ p : Nat, s9 = .pointer (some ⟨p, 0, none⟩) ∧ s10 = .int .i64 (sz k : Nat) ∧ s11 = .int .i64 E ∧ Hid (Heap w wc [rowT w.heap.size 71 75 (.slice sa N sc) N (fC 0 out), cellsT g rdF.toArray 80, cellsT p H.toArray 48]))
        case first =>
          have kn0 : (0 : Int) ≤ k := by omega
          have kn7 : k < 7 := by omega
          refine wp_region_held_drew (S := fun u => Heap w u [rowT w.heap.size 71 75 (.slice sa N sc) N (fC 0 out), cellsT g rdF.toArray 80]) (by kernel_rfl) (HH.out.below ((Below.refl _ _).drew)) (fun hHeld => ?_)
          change wpAnyH _ _ _ _ _ 15 #[false, false, false, false, false, false, false, false, false, false, false, false, false, false, false] _ _
          refine held_take 0 18 (.int .u8 k) rfl rfl (by kernel_rfl) (by kernel_rfl) (by kernel_rfl) (fun _ _ _ h => h) (Or.inl ⟨by rfl, fun u hu => ?_⟩) hHeld ?_
          · go_simp
          simp only [Act.put, List.setIfInBounds_toArray, List.set_cons_zero, List.set_cons_succ]
          refine held_take 1 19 (.pointer (some ⟨g, k.toNat, none⟩)) rfl rfl (by kernel_rfl) (by kernel_rfl) (by kernel_rfl) (fun _ _ _ h => h) (Or.inl ⟨by rfl, fun u hu => ?_⟩) hHeld ?_
          · go_simp
          simp only [Act.put, List.setIfInBounds_toArray, List.set_cons_zero, List.set_cons_succ]
          have HC : Hid (∀ u, Heap w u [rowT w.heap.size 71 75 (.slice sa N sc) N (fC 0 out), cellsT g rdF.toArray 80] → u.cell? ⟨g, k.toNat, none⟩ = some (.func (.func (fr k)) #[] #[])) := Hid.mk' (fun u hu => by
            have hg : u.heap[g]? = some (.cells rdF.toArray 80 (0, 0)) := hu.get (i := 1) rfl
            rw [cell_of_row u g k.toNat _ _ _ hg]; exact rdF_at k k0 k1)
          refine held_take 2 20 (.func (.func (fr k)) #[] #[]) rfl rfl (by kernel_rfl) (by kernel_rfl) (by kernel_rfl) (fun _ _ _ h => h) (Or.inl ⟨by rfl, fun u hu => ?_⟩) hHeld ?_
          · have hcell := HC.out u hu
            go_simp
          simp only [Act.put, List.setIfInBounds_toArray, List.set_cons_zero, List.set_cons_succ]
          refine held_take 3 21 (.slice a n c) rfl rfl (by kernel_rfl) (by kernel_rfl) (by kernel_rfl) (fun _ _ _ h => h) (Or.inl ⟨by rfl, fun u hu => ?_⟩) hHeld ?_
          · go_simp
          simp only [Act.put, List.setIfInBounds_toArray, List.set_cons_zero, List.set_cons_succ]
          refine held_take 4 22 (.int .i64 M) rfl rfl (by kernel_rfl) (by kernel_rfl) (by kernel_rfl) (fun _ _ _ h => h) (Or.inl ⟨by rfl, fun u hu => ?_⟩) hHeld ?_
          · go_simp
          simp only [Act.put, List.setIfInBounds_toArray, List.set_cons_zero, List.set_cons_succ]
          have hMc : M ≤ c := by omega
          have hsub : (if c = M then a else a.map (fun x => x.add M)) = subA a c M := rfl
          have SB : Hid (∀ u, Heap w u [rowT w.heap.size 71 75 (.slice sa N sc) N (fC 0 out), cellsT g rdF.toArray 80] → Bs u (subA a c M) (zs.drop M)) := Hid.mk' (fun u hu => bs_sub (HB.out.below hu.old) c M (by rw [HZ.out]; exact hc))
          obtain ⟨A1, HA1⟩ : ∃ A1, Hid (subA a c M = A1) := ⟨_, rfl⟩
          rw [HA1.out] at hsub SB
          refine held_take 5 23 (.slice A1 (n - M) (c - M)) rfl rfl (by kernel_rfl) (by kernel_rfl) (by kernel_rfl) (fun _ _ _ h => h) (Or.inl ⟨by rfl, fun u hu => ?_⟩) hHeld ?_
          · go_simp
          simp only [Act.put, List.setIfInBounds_toArray, List.set_cons_zero, List.set_cons_succ]
          clear hsub
          have HR : Hid (∀ u, Heap w u [rowT w.heap.size 71 75 (.slice sa N sc) N (fC 0 out), cellsT g rdF.toArray 80] → Calls Try.prog (fr k) #[.slice A1 (n - M) (c - M)] u fun e w' => e = .returned (.tuple #[.agg H.toArray, .int .i64 (sz k : Nat), .int .i64 E]) ∧ Below u.heap.size u w') := Hid.mk' (fun u hu => by
            have := reader_any k k0 k1 A1 (n - M) (c - M) (zs.drop M) u (by rw [List.length_drop, HZ.out]) (SB.out u hu) (by omega)
            rw [HHk.out, HE.out] at this
            exact this)
          have hcf := call_fr k k0 k1
          refine wpAnyH_ready (rs := [6, 11]) (by kernel_rfl) (by simp) (AllReadyH.cons rfl (fun K hK => ?_) (AllReadyH.cons rfl (fun K hK => ?_) AllReadyH.nil))
          · go_simp
            go_wp2_with (refine (HR.out _ hHeld).mono ?_; rintro e w6 ⟨rfl, b6⟩)
            have h6 := hHeld.below b6
            refine hK.out _ _ h6 (fun _ => ?_)
            clear hK K
            try simp only [List.setIfInBounds_toArray, List.set_cons_zero, List.set_cons_succ]
            refine held_take 7 17 (.tuple #[.agg H.toArray, .int .i64 (sz k : Nat), .int .i64 E]) rfl rfl (by kernel_rfl) (by kernel_rfl) (by kernel_rfl) (fun _ _ _ h => h) (Or.inl ⟨by rfl, fun u hu => ?_⟩) h6 ?_
            · go_simp
            simp only [Act.put, List.setIfInBounds_toArray, List.set_cons_zero, List.set_cons_succ]
            refine held_take 8 25 (.agg H.toArray) rfl rfl (by kernel_rfl) (by kernel_rfl) (by kernel_rfl) (fun _ _ _ h => h) (Or.inl ⟨by rfl, fun u hu => ?_⟩) h6 ?_
            · go_simp
            simp only [Act.put, List.setIfInBounds_toArray, List.set_cons_zero, List.set_cons_succ]
            refine held_take 9 26 (.int .i64 (sz k : Nat)) rfl rfl (by kernel_rfl) (by kernel_rfl) (by kernel_rfl) (fun _ _ _ h => h) (Or.inl ⟨by rfl, fun u hu => ?_⟩) h6 ?_
            · go_simp
            simp only [Act.put, List.setIfInBounds_toArray, List.set_cons_zero, List.set_cons_succ]
            refine held_take 10 27 (.int .i64 E) rfl rfl (by kernel_rfl) (by kernel_rfl) (by kernel_rfl) (fun _ _ _ h => h) (Or.inl ⟨by rfl, fun u hu => ?_⟩) h6 ?_
            · go_simp
            simp only [Act.put, List.setIfInBounds_toArray, List.set_cons_zero, List.set_cons_succ]
            refine held_one 11 (by kernel_rfl) rfl (fun K hK => ?_)
            go_simp
            have h7 : Heap w (w6.alloc (.cells H.toArray 48)) ([rowT w.heap.size 71 75 (.slice sa N sc) N (fC 0 out), cellsT g rdF.toArray 80] ++ [cellsT w6.heap.size H.toArray 48]) := h6.push ((Below.refl _ _).alloc (Nat.le_refl _) _) _ (heap_alloc_new w6 _) (fun j hj => Nat.le_of_eq hj.symm)
            refine hK.out _ _ (h6.below ((Below.refl _ _).alloc (Nat.le_refl _) _)) (fun _ => ?_)
            clear hK K
            try simp only [List.setIfInBounds_toArray, List.set_cons_zero, List.set_cons_succ]
            refine held_store_new (w := w6) 12 (by kernel_rfl) rfl rfl rfl 48 _ _ rfl 48 hz H rfl rfl (by rw [hh73.out, hz_len]) (by rw [hh73.out]; exact info_hh) hh1.out (h6.below ((Below.refl _ _).alloc (Nat.le_refl _) _)) ?_
            refine held_take 13 10 (.int .i64 (sz k : Nat)) rfl rfl (by kernel_rfl) (by kernel_rfl) (by kernel_rfl) (fun _ _ _ h => h) (Or.inl ⟨by rfl, fun u hu => ?_⟩) (h6.below ((Below.refl _ _).alloc (Nat.le_refl _) _)) ?_
            · go_simp
            simp only [Act.put, List.setIfInBounds_toArray, List.set_cons_zero, List.set_cons_succ]
            refine held_take 14 11 (.int .i64 E) rfl rfl (by kernel_rfl) (by kernel_rfl) (by kernel_rfl) (fun _ _ _ h => h) (Or.inl ⟨by rfl, fun u hu => ?_⟩) (h6.below ((Below.refl _ _).alloc (Nat.le_refl _) _)) ?_
            · go_simp
            simp only [Act.put, List.setIfInBounds_toArray, List.set_cons_zero, List.set_cons_succ]
            refine wpAnyH_done (by kernel_rfl) ?_ _
            go_wp2_with fail
            go_meet
            exact ⟨w6.heap.size, rfl, rfl, rfl, h7⟩
          · go_simp
            have h6 : Heap w (wr.alloc (.cells hz.toArray 48)).drew ([rowT w.heap.size 71 75 (.slice sa N sc) N (fC 0 out), cellsT g rdF.toArray 80] ++ [cellsT wr.heap.size hz.toArray 48]) := (HH.out.push ((Below.refl _ _).alloc (Nat.le_refl _) _) (cellsT wr.heap.size hz.toArray 48) (heap_alloc_new wr _) (fun j hj => Nat.le_of_eq hj.symm)).below ((Below.refl _ _).drew)
            have h6' : Heap w (wr.alloc (.cells hz.toArray 48)).drew [rowT w.heap.size 71 75 (.slice sa N sc) N (fC 0 out), cellsT g rdF.toArray 80] := (HH.out.below ((Below.refl _ _).alloc (Nat.le_refl _) _)).below ((Below.refl _ _).drew)
            refine hK.out _ _ h6' (fun _ => ?_)
            clear hK K
            try simp only [List.setIfInBounds_toArray, List.set_cons_zero, List.set_cons_succ]
            refine held_one 6 (by kernel_rfl) rfl (fun K hK => ?_)
            go_simp
            go_wp2_with (refine (HR.out _ h6').mono ?_; rintro e w7 ⟨rfl, b7⟩)
            have h7 := h6.below b7
            have h7' := h6'.below b7
            refine hK.out _ _ h7' (fun _ => ?_)
            clear hK K
            try simp only [List.setIfInBounds_toArray, List.set_cons_zero, List.set_cons_succ]
            refine held_take 7 17 (.tuple #[.agg H.toArray, .int .i64 (sz k : Nat), .int .i64 E]) rfl rfl (by kernel_rfl) (by kernel_rfl) (by kernel_rfl) (fun _ _ _ h => h) (Or.inl ⟨by rfl, fun u hu => ?_⟩) h7' ?_
            · go_simp
            simp only [Act.put, List.setIfInBounds_toArray, List.set_cons_zero, List.set_cons_succ]
            refine held_take 8 25 (.agg H.toArray) rfl rfl (by kernel_rfl) (by kernel_rfl) (by kernel_rfl) (fun _ _ _ h => h) (Or.inl ⟨by rfl, fun u hu => ?_⟩) h7' ?_
            · go_simp
            simp only [Act.put, List.setIfInBounds_toArray, List.set_cons_zero, List.set_cons_succ]
            refine held_take 9 26 (.int .i64 (sz k : Nat)) rfl rfl (by kernel_rfl) (by kernel_rfl) (by kernel_rfl) (fun _ _ _ h => h) (Or.inl ⟨by rfl, fun u hu => ?_⟩) h7' ?_
            · go_simp
            simp only [Act.put, List.setIfInBounds_toArray, List.set_cons_zero, List.set_cons_succ]
            refine held_take 10 27 (.int .i64 E) rfl rfl (by kernel_rfl) (by kernel_rfl) (by kernel_rfl) (fun _ _ _ h => h) (Or.inl ⟨by rfl, fun u hu => ?_⟩) h7' ?_
            · go_simp
            simp only [Act.put, List.setIfInBounds_toArray, List.set_cons_zero, List.set_cons_succ]
            refine held_one 12 (by kernel_rfl) rfl (fun K hK => ?_)
            have hbox : w7.heap[wr.heap.size]? = some (.cells hz.toArray 48 (0, 0)) := h7.get (i := 2) rfl
            refine step_store_box rfl rfl 48 _ _ rfl wr.heap.size H rfl rfl (by have := there_block hbox; rw [hz_len] at this; rw [hs73.out]; exact this) (by rw [hh73.out]; exact info_hh) hh1.out ?_
            have h8 : Heap w (w7.setCells wr.heap.size 0 H) ([rowT w.heap.size 71 75 (.slice sa N sc) N (fC 0 out), cellsT g rdF.toArray 80] ++ [cellsT wr.heap.size H.toArray 48]) := h7.stepAt 2 (cellsT wr.heap.size hz.toArray 48) rfl ((Kept.refl (fun j => j = wr.heap.size) w7).setCells wr.heap.size 0 H (fun _ => rfl)) (cellsT wr.heap.size H.toArray 48) (heap_whole (L := hz) hbox (by rw [hz_len, hh73.out])) (fun j hj => .inl hj)
            have h8' : Heap w (w7.setCells wr.heap.size 0 H) [rowT w.heap.size 71 75 (.slice sa N sc) N (fC 0 out), cellsT g rdF.toArray 80] := ⟨fun T hT => h8.all T (List.mem_append_left _ hT), (List.pairwise_append.1 h8.apart).1, fun T hT => h8.high T (List.mem_append_left _ hT), h8.old⟩
            refine hK.out _ _ h8' (fun _ => ?_)
            clear hK K
            try simp only [List.setIfInBounds_toArray, List.set_cons_zero, List.set_cons_succ]
            refine held_take 13 10 (.int .i64 (sz k : Nat)) rfl rfl (by kernel_rfl) (by kernel_rfl) (by kernel_rfl) (fun _ _ _ h => h) (Or.inl ⟨by rfl, fun u hu => ?_⟩) h8' ?_
            · go_simp
            simp only [Act.put, List.setIfInBounds_toArray, List.set_cons_zero, List.set_cons_succ]
            refine held_take 14 11 (.int .i64 E) rfl rfl (by kernel_rfl) (by kernel_rfl) (by kernel_rfl) (fun _ _ _ h => h) (Or.inl ⟨by rfl, fun u hu => ?_⟩) h8' ?_
            · go_simp
            simp only [Act.put, List.setIfInBounds_toArray, List.set_cons_zero, List.set_cons_succ]
            refine wpAnyH_done (by kernel_rfl) ?_ _
            go_wp2_with fail
            go_meet
            exact ⟨wr.heap.size, rfl, rfl, rfl, h8⟩
        case rest =>
          obtain ⟨p, rfl, rfl, rfl, HC⟩ := hcut
          clear HH
          by_cases hE : E = 0
          · have HW : Hid (WkI zs (out ++ [(k, rL k (zs.drop M))]) (nx H) (!(nx H == 0))) := by
              have := HI.out.next HB.out.bytes (by rw [HN.out]; omega) (by rw [HM.out, HE.out]; exact hE)
              rw [HM.out, HHk.out] at this
              exact this
            subst hE
            obtain ⟨s, HSZ⟩ : ∃ s, Hid (sz k = s) := ⟨_, rfl⟩
            rw [HSZ.out]
            have hfit2 : M + s ≤ n := by
              have := HW.out.fits
              rw [hTot_app, HZ.out, HM.out] at this
              simp [hTot, HSZ.out] at this
              exact this
            obtain ⟨F, HF⟩ : ∃ F, Hid (H ++ [Value.int .i64 M, Value.int .i64 s] = F) := ⟨_, rfl⟩
            have hF75 : Hid (F.length = 75) := Hid.mk' (by rw [← HF.out, List.length_append, hh73.out]; rfl)
            have hF1 : Hid (∀ u ∈ F, u.oneCell' = true) := Hid.mk' (by
              rw [← HF.out]; intro u hu
              rcases List.mem_append.1 hu with hu | hu
              · exact hh_mem KH.out u hu
              · simp at hu; rcases hu with rfl | rfl <;> rfl)
            have hbf : Hid (Try.prog.built 71 [(0, .agg H.toArray), (1, .agg #[.int .i64 M, .int .i64 s])] = some F.toArray) := Hid.mk' (by rw [← HF.out]; exact built_found H M s hh73.out)
            have hbs : Hid (Try.prog.builtSlice 71 1 [(0, .agg F.toArray)] = some F.toArray) := Hid.mk' (bslice_f F hF75.out)
            have HFC : Hid (fC 0 (out ++ [(k, rL k (zs.drop M))]) = fC 0 out ++ F) := Hid.mk' (by
              rw [fC_app, ← HF.out, Nat.zero_add, HM.out]
              simp [fC, HHk.out, HSZ.out])
            obtain ⟨i0, hif, hz0, hz1, hz2⟩ := info_parts info_found
            have hzs : (Value.agg (hz ++ [Value.int .i64 0, Value.int .i64 0]).toArray).cells.size = 75 := by rfl
            have INF : Hid (Try.prog.info? 71 = some i0 ∧ i0.zero = some (.agg (hz ++ [Value.int .i64 0, Value.int .i64 0]).toArray) ∧ i0.size = 75 ∧ i0.bytes = 120) := ⟨hif, hz0, hz1, hz2⟩
            clear hif hz0 hz1 hz2
            have RP : Hid (wc.heap[p]? = some (.cells H.toArray 48 (0, 0))) := Hid.mk' (HC.out.get (i := 2) rfl)
            have OWN : Hid (wc.ownsRow w.heap.size 71 75 (.slice sa N sc) N (fC 0 out)) := Hid.mk' (HC.out.get (i := 0) rfl)
            have hws := HC.out.old.size
            go_wp2_with (first
              | refine wpList_load_mid rfl 48 _ rfl p 0 rfl H _ (range_block RP.out) Try.underlying48 rfl (by rw [hh73.out]; exact info_hh) ?_
              | refine wpList_buildTo rfl 71 #[(0, .tmp 32), (1, .tmp 35)] rfl (some 36) rfl F.toArray (by simpa [Act.eval, Act.put] using hbf.out) ?_
              | refine Great.wpList_buildSliceTo rfl 67 71 1 #[(0, .tmp 36)] rfl wc.heap.size rfl (some 37) rfl Try.underlying67 F.toArray (by simpa [Act.eval, Act.put] using hbs.out) ?_
              | (at_builtin; go_loud (refine wpList_append_own2 rfl _ _ 67 rfl w.heap.size 71 i0 (.agg (hz ++ [Value.int .i64 0, Value.int .i64 0]).toArray) 75 120 Try.underlying67 INF.out.1 INF.out.2.1 INF.out.2.2.1 INF.out.2.2.2 hzs (by decide) (.slice sa N sc) N (fC 0 out) rfl (World.ownsRow.alloc OWN.out _) ⟨wc.heap.size, 0, none⟩ 1 1 F rfl (by rw [hF75.out]) (cells_laid wc 71 F) hF1.out (by unfold maxLen; omega) (by omega) (by simp; omega) ?_; intro v' w4 hown4 hgr4 hob4; have H4 := Hid.mk' ((HC.out.below ((Below.refl wc.heap.size wc).alloc (Nat.le_refl _) (.cells F.toArray 71))).grown 0 rfl hown4 hgr4 hob4); have RP4 : Hid (w4.heap[p]? = some (.cells H.toArray 48 (0, 0))) := Hid.mk' (H4.out.get (i := 2) rfl); clear hown4 hgr4 hob4))
              | refine wpList_load_mid rfl 48 _ rfl p 0 rfl H _ (range_block RP4.out) Try.underlying48 rfl (by rw [hh73.out]; exact info_hh) ?_
              | (go_at_call 16; refine (next_any H w4 KH.out).mono ?_; rintro e w5 ⟨rfl, b5⟩; have H5 := Hid.mk' (H4.out.below b5); clear b5))
            go_roundg (8 - (N + 1))
            case measure => omega
            case rel =>
              refine ⟨out ++ [(k, rL k (zs.drop M))], nx H, !(nx H == 0), ?_, rfl, rfl, ?_, HW, ?_⟩
              · rw [hTot_app, HM.out]; simp [hTot, HSZ.out]
              · simp [HN.out]
              · rw [HFC.out, List.length_append, HN.out]
                exact Heap.front (L := [_, _]) (M := [_]) H5.out
          · have hd := Hid.mk' (HI.out.bad (by rw [HN.out]; omega) (by rw [HM.out, HE.out]; exact hE))
            rw [HM.out, HE.out] at hd
            have hEb : (E == 0) = false := by simpa using hE
            go_wp2_with fail
            go_ret2
            rw [hd.out]
            exact ⟨_, rfl, World.ownsRow_nil _ _ _ _, HC.out.old⟩
end Go.Proofs.Ythdgfhllieknlaa
