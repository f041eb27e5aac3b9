/- Several texts in one (Jg Ji Jj Jk Jl Jm). -/
import Derived.Test.YtednmdkjhiihcaaGreatJ2
import Derived.Deep.LoopGhost
import Derived.Deep.CutRange
namespace Go.Proofs.YtednmdkjhiihcaaGreat
open Go.ChangeShapes Go.WideShapes Go.ChangeAt Go.RowKit

set_option maxRecDepth 10000

/-- What is behind the first bytes of a slice. -/
def subA (a : Option Addr) (c M : Nat) : Option Addr := if c = M then a else a.map (fun x => x.add M)

theorem bs_sub {w : World} {a : Option Addr} {zs : List Int} (h : Bs w a zs) (c M : Nat) (hc : zs.length ≤ c) : Bs w (subA a c M) (zs.drop M) := by
  have hl := h.len
  unfold subA
  by_cases e : c = M
  · rw [if_pos e]
    exact ⟨by rw [List.length_drop]; omega, fun z hz => h.bytes z (List.mem_of_mem_drop hz), .inl (by rw [List.length_drop]; omega)⟩
  · rw [if_neg e]
    rcases h.lies with h0 | ⟨b, off, rfl, hc⟩
    · exact ⟨by rw [List.length_drop]; omega, fun z hz => h.bytes z (List.mem_of_mem_drop hz), .inl (by rw [List.length_drop]; omega)⟩
    · rw [Option.map_some, addr_add]
      exact h.drop M

theorem Heap.front {W w : World} {L M : List Thing} (h : Heap W w (L ++ M)) : Heap W w L :=
  ⟨fun T hT => h.all T (List.mem_append_left _ hT), (List.pairwise_append.1 h.apart).1, fun T hT => h.high T (List.mem_append_left _ hT), h.old⟩

/-- Each kind's function. -/
def fr (k : Int) : Nat := if k = 1 then 62 else if k = 2 then 65 else if k = 3 then 68 else if k = 4 then 71 else if k = 5 then 74 else 77

theorem reader_any (k : Int) (h0 : 1 ≤ k) (h1 : k ≤ 6) (a : Option Addr) (n c : Nat) (zs : List Int) (w : World) (hz' : zs.length = n) (hB : Bs w a zs) (hc : n ≤ c) :
    Calls Tryz.prog (fr k) #[.slice a n c] w fun e w' => e = .returned (.tuple #[.agg (hk k (rL k zs)).toArray, .int .i64 (sz k : Nat), .int .i64 (rE k zs)]) ∧ Below w.heap.size w w' := by
  rcases six h0 h1 with rfl | rfl | rfl | rfl | rfl | rfl
  · exact reader_1 a n c zs w hz' hB hc
  · exact reader_2 a n c zs w hz' hB hc
  · exact reader_3 a n c zs w hz' hB hc
  · exact reader_4 a n c zs w hz' hB hc
  · exact reader_5 a n c zs w hz' hB hc
  · exact reader_6 a n c zs w hz' hB hc

theorem rdF_at (k : Int) (h0 : 1 ≤ k) (h1 : k ≤ 6) : rdF.toArray[k.toNat]? = some (.func (.func (fr k)) #[] #[]) := by
  rcases six h0 h1 with rfl | rfl | rfl | rfl | rfl | rfl <;> rfl

theorem call_fr (k : Int) (h0 : 1 ≤ k) (h1 : k ≤ 6) (args : Array Value) (u : World) : Sem.run Tryz.prog (callFunc (fr k) args) u = .ok (.enter (fr k) args) u := by
  rcases six h0 h1 with rfl | rfl | rfl | rfl | rfl | rfl
  · exact Tryz.call62 args u
  · exact Tryz.call65 args u
  · exact Tryz.call68 args u
  · exact Tryz.call71 args u
  · exact Tryz.call74 args u
  · exact Tryz.call77 args u

theorem info_found : (Tryz.prog.info? 89).map (fun i => (i.zero, i.size, i.bytes)) = some (some (.agg (hz ++ [Value.int .i64 0, Value.int .i64 0]).toArray), 75, 120) := by kernel_rfl

/-- A row of cells that was laid just now. -/
theorem cells_laid (w : World) (t : TypeId) (L : List Value) : ∀ (j : Nat) (u : Value), L[j]? = some u → (w.alloc (.cells L.toArray t)).cell? ((⟨w.heap.size, 0, none⟩ : Addr).add j) = some u := by
  intro j u hj
  rw [addr_add, World.cell?_alloc_new, Nat.zero_add, List.getElem?_toArray]
  exact hj

/-- Where the walk stands. -/
structure WkI (zs : List Int) (out : Hs) (k : Int) (m : Bool) : Prop where
  ok : HsOk out
  fits : hTot out ≤ zs.length
  few : out.length ≤ 8
  more : m = true → 1 ≤ k ∧ k ≤ 6 ∧ PE zs = pe (8 - out.length) k out (zs.drop (hTot out))
  done : m = false → PE zs = (0, out)

theorem WkI.first (zs : List Int) : WkI zs [] 1 true := ⟨HsOk.nil, by simp [hTot], by simp, fun _ => ⟨by omega, by omega, by simp [PE, hTot]⟩, fun h => by cases h⟩

theorem WkI.many {zs : List Int} {out : Hs} {k : Int} (h : WkI zs out k true) (he : out.length = 8) : PE zs = (3, []) := by
  rw [(h.more rfl).2.2, he]; rfl

theorem WkI.bad {zs : List Int} {out : Hs} {k : Int} (h : WkI zs out k true) (hl : out.length < 8) (he : ¬ rE k (zs.drop (hTot out)) = 0) : PE zs = (rE k (zs.drop (hTot out)), []) := by
  rw [(h.more rfl).2.2, show 8 - out.length = (7 - out.length) + 1 by omega, pe, if_neg he]

theorem WkI.next {zs : List Int} {out : Hs} {k : Int} (h : WkI zs out k true) (hb : Bytes zs) (hl : out.length < 8) (he : rE k (zs.drop (hTot out)) = 0) :
    WkI zs (out ++ [(k, rL k (zs.drop (hTot out)))]) (nx (hk k (rL k (zs.drop (hTot out))))) (!(nx (hk k (rL k (zs.drop (hTot out)))) == 0)) := by
  obtain ⟨k0, k1, hp⟩ := h.more rfl
  have hlen := rE_len k0 k1 he
  rw [List.length_drop] at hlen
  have hf := h.fits
  have hbd : Bytes (zs.drop (hTot out)) := fun z hz => hb z (List.mem_of_mem_drop hz)
  have t2 : hTot (out ++ [(k, rL k (zs.drop (hTot out)))]) = hTot out + sz k := by rw [hTot_app]; simp [hTot]
  rw [show 8 - out.length = (7 - out.length) + 1 by omega, pe, if_pos he] at hp
  refine ⟨h.ok.push (rL_hd k0 k1 hbd), by rw [t2]; omega, by simp; omega, fun hm => ?_, fun hm => ?_⟩
  · have hn : ¬ nx (hk k (rL k (zs.drop (hTot out)))) = 0 := by simpa using hm
    have hbd := nx_bd (hk k (rL k (zs.drop (hTot out))))
    rw [if_neg hn] at hp
    refine ⟨by omega, by omega, ?_⟩
    rw [hp, t2, List.drop_drop]
    congr 1
    simp
  · have hn : nx (hk k (rL k (zs.drop (hTot out)))) = 0 := by simpa using hm
    rw [if_pos hn] at hp
    exact hp

set_option maxHeartbeats 2000000 in
theorem walk_any (a : Option Addr) (n c : Nat) (zs : List Int) (w : World) (hz' : zs.length = n) (hB : Bs w a zs) (hc : n ≤ c) :
    Calls Tryz.prog 28 #[.slice a n c] w fun e w' => ∃ v, e = .returned (.tuple #[v, .int .i64 (PE zs).1]) ∧ w'.ownsRow w.heap.size 89 75 v (PE zs).2.length (fC 0 (PE zs).2) ∧ Below w.heap.size w w' := by
  have hln : n ≤ 140737488355328 := by rw [← hz']; exact hB.len
  have HB := Hid.mk' hB
  have HZ := Hid.mk' hz'
  clear hB hz'
  go_enter Tryz.func28, Tryz.ntmps28
  go_wp2_with (first | (go_at_call 48; refine (readers_any _).mono ?_; rintro e w1 ⟨rfl, b1⟩) | refine wpList_store_new rfl 109 _ _ rfl _ _ rdF rfl rfl rfl (by kernel_rfl) (by kernel_rfl) ?_)
  obtain ⟨w2, hw2⟩ : ∃ w2, w2 = w1.alloc (.cells rdF.toArray 109) := ⟨_, rfl⟩
  rw [← hw2]
  obtain ⟨g, hg⟩ : ∃ g, g = w1.heap.size := ⟨_, rfl⟩
  rw [← hg]
  have H2 : Hid (Heap w w2 [rowT w.heap.size 89 75 (.slice none 0 0) 0 (fC 0 []), cellsT g rdF.toArray 109]) := by
    subst hg hw2
    refine ((Heap.nil b1).add ((Below.refl _ _).alloc (Nat.le_refl _) _) (cellsT w1.heap.size rdF.toArray 109) (heap_alloc_new w1 _) (fun k hk => ?_)).add (Below.refl _ _) (rowT w.heap.size 89 75 (.slice none 0 0) 0 (fC 0 [])) (World.ownsRow_nil _ _ _ _) (fun k hk => ?_)
    · exact Nat.le_of_eq hk.symm
    · cases hk
  clear hw2 hg b1
  go_loopg [5, 6, 7, 8] 8 (fun f s5 s6 s7 s8 wr => ∃ (out : Hs) (k : Int) (m : Bool), s6 = .int .i64 (hTot out : Nat) ∧ s7 = .int .u8 k ∧ s8 = .bool m ∧ 8 - out.length ≤ f ∧ Hid (WkI zs out k m) ∧ Hid (Heap w wr [rowT w.heap.size 89 75 s5 out.length (fC 0 out), cellsT g rdF.toArray 109]))
  case atStart => exact ⟨[], 1, true, rfl, rfl, rfl, by simp, WkI.first zs, H2⟩
  case round =>
    obtain ⟨out, k, m, rfl, rfl, rfl, hf, HI, HH⟩ := hrel
    have hle := HI.out.few
    have hfits := HI.out.fits
    rw [HZ.out] at hfits
    cases m with
    | false =>
      go_wp2_with fail
      go_ret2
      have hd := HI.out.done rfl
      rw [hd]
      exact ⟨_, rfl, HH.out.get (i := 0) rfl, HH.out.old⟩
    | true =>
      by_cases h8 : out.length = 8
      · have hd := Hid.mk' (HI.out.many h8)
        obtain ⟨sa, sc, hs⟩ := own_slice (HH.out.get (i := 0) rfl)
        rw [h8] at hs
        subst hs
        go_wp2_with fail
        go_ret2
        rw [hd.out]
        exact ⟨_, rfl, World.ownsRow_nil _ _ _ _, HH.out.old⟩
      · obtain ⟨k0, k1, -⟩ := HI.out.more rfl
        obtain ⟨sa, sc, hs⟩ := own_slice (HH.out.get (i := 0) rfl)
        have HS := Hid.mk' hs
        obtain ⟨N, HN⟩ : ∃ N, Hid (out.length = N) := ⟨_, rfl⟩
        obtain ⟨M, HM⟩ : ∃ M, Hid (hTot out = M) := ⟨_, rfl⟩
        rw [HN.out] at hf hle h8 hs HS HH
        rw [HM.out] at hfits
        rw [HM.out]
        subst hs
        obtain ⟨H, HHk⟩ : ∃ H, Hid (hk k (rL k (zs.drop M)) = H) := ⟨_, rfl⟩
        obtain ⟨E, HE⟩ : ∃ E, Hid (rE k (zs.drop M) = E) := ⟨_, rfl⟩
        have KH := Hid.mk' (hk_hh (rL_hd k0 k1 (fun z hz => HB.out.bytes z (List.mem_of_mem_drop hz) : Bytes (zs.drop M))))
        rw [HHk.out] at KH
        have hh73 := Hid.mk' (hh_len KH.out)
        have hh1 := Hid.mk' (hh_one KH.out)
        have hs73 : Hid (H.toArray.size = 73) := Hid.mk' (by rw [List.size_toArray]; exact hh73.out)
        go_upto_region 8 with fail
        go_cut [9, 10, 11] from 13 to 46 (fun s9 s10 s11 wc => ∃ p : Nat, s9 = .pointer (some ⟨p, 0, none⟩) ∧ s10 = .int .i64 (sz k : Nat) ∧ s11 = .int .i64 E ∧ Hid (Heap w wc [rowT w.heap.size 89 75 (.slice sa N sc) N (fC 0 out), cellsT g rdF.toArray 109, cellsT p H.toArray 46]))
        case first =>
          have kn0 : (0 : Int) ≤ k := by omega
          have kn7 : k < 7 := by omega
          refine wp_region_held_drew (S := fun u => Heap w u [rowT w.heap.size 89 75 (.slice sa N sc) N (fC 0 out), cellsT g rdF.toArray 109]) (by kernel_rfl) (HH.out.below ((Below.refl _ _).drew)) (fun hHeld => ?_)
          change wpAnyH _ _ _ _ _ 15 #[false, false, false, false, false, false, false, false, false, false, false, false, false, false, false] _ _
          refine held_take 0 18 (.int .u8 k) rfl rfl (by kernel_rfl) (by kernel_rfl) (by kernel_rfl) (fun _ _ _ h => h) (Or.inl ⟨by rfl, fun u hu => ?_⟩) hHeld ?_
          · go_simp
          simp only [Act.put, List.setIfInBounds_toArray, List.set_cons_zero, List.set_cons_succ]
          refine held_take 1 19 (.pointer (some ⟨g, k.toNat, none⟩)) rfl rfl (by kernel_rfl) (by kernel_rfl) (by kernel_rfl) (fun _ _ _ h => h) (Or.inl ⟨by rfl, fun u hu => ?_⟩) hHeld ?_
          · go_simp
          simp only [Act.put, List.setIfInBounds_toArray, List.set_cons_zero, List.set_cons_succ]
          have HC : Hid (∀ u, Heap w u [rowT w.heap.size 89 75 (.slice sa N sc) N (fC 0 out), cellsT g rdF.toArray 109] → u.cell? ⟨g, k.toNat, none⟩ = some (.func (.func (fr k)) #[] #[])) := Hid.mk' (fun u hu => by
            have hg : u.heap[g]? = some (.cells rdF.toArray 109 (0, 0)) := hu.get (i := 1) rfl
            rw [cell_of_row u g k.toNat _ _ _ hg]; exact rdF_at k k0 k1)
          refine held_take 2 20 (.func (.func (fr k)) #[] #[]) rfl rfl (by kernel_rfl) (by kernel_rfl) (by kernel_rfl) (fun _ _ _ h => h) (Or.inl ⟨by rfl, fun u hu => ?_⟩) hHeld ?_
          · have hcell := HC.out u hu
            go_simp
          simp only [Act.put, List.setIfInBounds_toArray, List.set_cons_zero, List.set_cons_succ]
          refine held_take 3 21 (.slice a n c) rfl rfl (by kernel_rfl) (by kernel_rfl) (by kernel_rfl) (fun _ _ _ h => h) (Or.inl ⟨by rfl, fun u hu => ?_⟩) hHeld ?_
          · go_simp
          simp only [Act.put, List.setIfInBounds_toArray, List.set_cons_zero, List.set_cons_succ]
          refine held_take 4 22 (.int .i64 M) rfl rfl (by kernel_rfl) (by kernel_rfl) (by kernel_rfl) (fun _ _ _ h => h) (Or.inl ⟨by rfl, fun u hu => ?_⟩) hHeld ?_
          · go_simp
          simp only [Act.put, List.setIfInBounds_toArray, List.set_cons_zero, List.set_cons_succ]
          have hMc : M ≤ c := by omega
          have hsub : (if c = M then a else a.map (fun x => x.add M)) = subA a c M := rfl
          have SB : Hid (∀ u, Heap w u [rowT w.heap.size 89 75 (.slice sa N sc) N (fC 0 out), cellsT g rdF.toArray 109] → Bs u (subA a c M) (zs.drop M)) := Hid.mk' (fun u hu => bs_sub (HB.out.below hu.old) c M (by rw [HZ.out]; exact hc))
          obtain ⟨A1, HA1⟩ : ∃ A1, Hid (subA a c M = A1) := ⟨_, rfl⟩
          rw [HA1.out] at hsub SB
          refine held_take 5 23 (.slice A1 (n - M) (c - M)) rfl rfl (by kernel_rfl) (by kernel_rfl) (by kernel_rfl) (fun _ _ _ h => h) (Or.inl ⟨by rfl, fun u hu => ?_⟩) hHeld ?_
          · go_simp
          simp only [Act.put, List.setIfInBounds_toArray, List.set_cons_zero, List.set_cons_succ]
          clear hsub
          have HR : Hid (∀ u, Heap w u [rowT w.heap.size 89 75 (.slice sa N sc) N (fC 0 out), cellsT g rdF.toArray 109] → Calls Tryz.prog (fr k) #[.slice A1 (n - M) (c - M)] u fun e w' => e = .returned (.tuple #[.agg H.toArray, .int .i64 (sz k : Nat), .int .i64 E]) ∧ Below u.heap.size u w') := Hid.mk' (fun u hu => by
            have := reader_any k k0 k1 A1 (n - M) (c - M) (zs.drop M) u (by rw [List.length_drop, HZ.out]) (SB.out u hu) (by omega)
            rw [HHk.out, HE.out] at this
            exact this)
          have hcf := call_fr k k0 k1
          refine wpAnyH_ready (rs := [6, 11]) (by kernel_rfl) (by simp) (AllReadyH.cons rfl (fun K hK => ?_) (AllReadyH.cons rfl (fun K hK => ?_) AllReadyH.nil))
          · go_simp
            go_wp2_with (refine (HR.out _ hHeld).mono ?_; rintro e w6 ⟨rfl, b6⟩)
            have h6 := hHeld.below b6
            refine hK.out _ _ h6 (fun _ => ?_)
            clear hK K
            try simp only [List.setIfInBounds_toArray, List.set_cons_zero, List.set_cons_succ]
            refine held_take 7 17 (.tuple #[.agg H.toArray, .int .i64 (sz k : Nat), .int .i64 E]) rfl rfl (by kernel_rfl) (by kernel_rfl) (by kernel_rfl) (fun _ _ _ h => h) (Or.inl ⟨by rfl, fun u hu => ?_⟩) h6 ?_
            · go_simp
            simp only [Act.put, List.setIfInBounds_toArray, List.set_cons_zero, List.set_cons_succ]
            refine held_take 8 25 (.agg H.toArray) rfl rfl (by kernel_rfl) (by kernel_rfl) (by kernel_rfl) (fun _ _ _ h => h) (Or.inl ⟨by rfl, fun u hu => ?_⟩) h6 ?_
            · go_simp
            simp only [Act.put, List.setIfInBounds_toArray, List.set_cons_zero, List.set_cons_succ]
            refine held_take 9 26 (.int .i64 (sz k : Nat)) rfl rfl (by kernel_rfl) (by kernel_rfl) (by kernel_rfl) (fun _ _ _ h => h) (Or.inl ⟨by rfl, fun u hu => ?_⟩) h6 ?_
            · go_simp
            simp only [Act.put, List.setIfInBounds_toArray, List.set_cons_zero, List.set_cons_succ]
            refine held_take 10 27 (.int .i64 E) rfl rfl (by kernel_rfl) (by kernel_rfl) (by kernel_rfl) (fun _ _ _ h => h) (Or.inl ⟨by rfl, fun u hu => ?_⟩) h6 ?_
            · go_simp
            simp only [Act.put, List.setIfInBounds_toArray, List.set_cons_zero, List.set_cons_succ]
            refine held_one 11 (by kernel_rfl) rfl (fun K hK => ?_)
            go_simp
            have h7 : Heap w (w6.alloc (.cells H.toArray 46)) ([rowT w.heap.size 89 75 (.slice sa N sc) N (fC 0 out), cellsT g rdF.toArray 109] ++ [cellsT w6.heap.size H.toArray 46]) := h6.push ((Below.refl _ _).alloc (Nat.le_refl _) _) _ (heap_alloc_new w6 _) (fun j hj => Nat.le_of_eq hj.symm)
            refine hK.out _ _ (h6.below ((Below.refl _ _).alloc (Nat.le_refl _) _)) (fun _ => ?_)
            clear hK K
            try simp only [List.setIfInBounds_toArray, List.set_cons_zero, List.set_cons_succ]
            refine held_store_new (w := w6) 12 (by kernel_rfl) rfl rfl rfl 46 _ _ rfl 46 hz H rfl rfl (by rw [hh73.out, hz_len]) (by rw [hh73.out]; exact info_hh) hh1.out (h6.below ((Below.refl _ _).alloc (Nat.le_refl _) _)) ?_
            refine held_take 13 10 (.int .i64 (sz k : Nat)) rfl rfl (by kernel_rfl) (by kernel_rfl) (by kernel_rfl) (fun _ _ _ h => h) (Or.inl ⟨by rfl, fun u hu => ?_⟩) (h6.below ((Below.refl _ _).alloc (Nat.le_refl _) _)) ?_
            · go_simp
            simp only [Act.put, List.setIfInBounds_toArray, List.set_cons_zero, List.set_cons_succ]
            refine held_take 14 11 (.int .i64 E) rfl rfl (by kernel_rfl) (by kernel_rfl) (by kernel_rfl) (fun _ _ _ h => h) (Or.inl ⟨by rfl, fun u hu => ?_⟩) (h6.below ((Below.refl _ _).alloc (Nat.le_refl _) _)) ?_
            · go_simp
            simp only [Act.put, List.setIfInBounds_toArray, List.set_cons_zero, List.set_cons_succ]
            refine wpAnyH_done (by kernel_rfl) ?_ _
            go_wp2_with fail
            go_meet
            exact ⟨w6.heap.size, rfl, rfl, rfl, h7⟩
          · go_simp
            have h6 : Heap w (wr.alloc (.cells hz.toArray 46)).drew ([rowT w.heap.size 89 75 (.slice sa N sc) N (fC 0 out), cellsT g rdF.toArray 109] ++ [cellsT wr.heap.size hz.toArray 46]) := (HH.out.push ((Below.refl _ _).alloc (Nat.le_refl _) _) (cellsT wr.heap.size hz.toArray 46) (heap_alloc_new wr _) (fun j hj => Nat.le_of_eq hj.symm)).below ((Below.refl _ _).drew)
            have h6' : Heap w (wr.alloc (.cells hz.toArray 46)).drew [rowT w.heap.size 89 75 (.slice sa N sc) N (fC 0 out), cellsT g rdF.toArray 109] := (HH.out.below ((Below.refl _ _).alloc (Nat.le_refl _) _)).below ((Below.refl _ _).drew)
            refine hK.out _ _ h6' (fun _ => ?_)
            clear hK K
            try simp only [List.setIfInBounds_toArray, List.set_cons_zero, List.set_cons_succ]
            refine held_one 6 (by kernel_rfl) rfl (fun K hK => ?_)
            go_simp
            go_wp2_with (refine (HR.out _ h6').mono ?_; rintro e w7 ⟨rfl, b7⟩)
            have h7 := h6.below b7
            have h7' := h6'.below b7
            refine hK.out _ _ h7' (fun _ => ?_)
            clear hK K
            try simp only [List.setIfInBounds_toArray, List.set_cons_zero, List.set_cons_succ]
            refine held_take 7 17 (.tuple #[.agg H.toArray, .int .i64 (sz k : Nat), .int .i64 E]) rfl rfl (by kernel_rfl) (by kernel_rfl) (by kernel_rfl) (fun _ _ _ h => h) (Or.inl ⟨by rfl, fun u hu => ?_⟩) h7' ?_
            · go_simp
            simp only [Act.put, List.setIfInBounds_toArray, List.set_cons_zero, List.set_cons_succ]
            refine held_take 8 25 (.agg H.toArray) rfl rfl (by kernel_rfl) (by kernel_rfl) (by kernel_rfl) (fun _ _ _ h => h) (Or.inl ⟨by rfl, fun u hu => ?_⟩) h7' ?_
            · go_simp
            simp only [Act.put, List.setIfInBounds_toArray, List.set_cons_zero, List.set_cons_succ]
            refine held_take 9 26 (.int .i64 (sz k : Nat)) rfl rfl (by kernel_rfl) (by kernel_rfl) (by kernel_rfl) (fun _ _ _ h => h) (Or.inl ⟨by rfl, fun u hu => ?_⟩) h7' ?_
            · go_simp
            simp only [Act.put, List.setIfInBounds_toArray, List.set_cons_zero, List.set_cons_succ]
            refine held_take 10 27 (.int .i64 E) rfl rfl (by kernel_rfl) (by kernel_rfl) (by kernel_rfl) (fun _ _ _ h => h) (Or.inl ⟨by rfl, fun u hu => ?_⟩) h7' ?_
            · go_simp
            simp only [Act.put, List.setIfInBounds_toArray, List.set_cons_zero, List.set_cons_succ]
            refine held_one 12 (by kernel_rfl) rfl (fun K hK => ?_)
            have hbox : w7.heap[wr.heap.size]? = some (.cells hz.toArray 46 (0, 0)) := h7.get (i := 2) rfl
            refine step_store_box rfl rfl 46 _ _ rfl wr.heap.size H rfl rfl (by have := there_block hbox; rw [hz_len] at this; rw [hs73.out]; exact this) (by rw [hh73.out]; exact info_hh) hh1.out ?_
            have h8 : Heap w (w7.setCells wr.heap.size 0 H) ([rowT w.heap.size 89 75 (.slice sa N sc) N (fC 0 out), cellsT g rdF.toArray 109] ++ [cellsT wr.heap.size H.toArray 46]) := h7.stepAt 2 (cellsT wr.heap.size hz.toArray 46) rfl ((Kept.refl (fun j => j = wr.heap.size) w7).setCells wr.heap.size 0 H (fun _ => rfl)) (cellsT wr.heap.size H.toArray 46) (heap_whole (L := hz) hbox (by rw [hz_len, hh73.out])) (fun j hj => .inl hj)
            have h8' : Heap w (w7.setCells wr.heap.size 0 H) [rowT w.heap.size 89 75 (.slice sa N sc) N (fC 0 out), cellsT g rdF.toArray 109] := ⟨fun T hT => h8.all T (List.mem_append_left _ hT), (List.pairwise_append.1 h8.apart).1, fun T hT => h8.high T (List.mem_append_left _ hT), h8.old⟩
            refine hK.out _ _ h8' (fun _ => ?_)
            clear hK K
            try simp only [List.setIfInBounds_toArray, List.set_cons_zero, List.set_cons_succ]
            refine held_take 13 10 (.int .i64 (sz k : Nat)) rfl rfl (by kernel_rfl) (by kernel_rfl) (by kernel_rfl) (fun _ _ _ h => h) (Or.inl ⟨by rfl, fun u hu => ?_⟩) h8' ?_
            · go_simp
            simp only [Act.put, List.setIfInBounds_toArray, List.set_cons_zero, List.set_cons_succ]
            refine held_take 14 11 (.int .i64 E) rfl rfl (by kernel_rfl) (by kernel_rfl) (by kernel_rfl) (fun _ _ _ h => h) (Or.inl ⟨by rfl, fun u hu => ?_⟩) h8' ?_
            · go_simp
            simp only [Act.put, List.setIfInBounds_toArray, List.set_cons_zero, List.set_cons_succ]
            refine wpAnyH_done (by kernel_rfl) ?_ _
            go_wp2_with fail
            go_meet
            exact ⟨wr.heap.size, rfl, rfl, rfl, h8⟩
        case rest =>
          obtain ⟨p, rfl, rfl, rfl, HC⟩ := hcut
          clear HH
          by_cases hE : E = 0
          · have HW : Hid (WkI zs (out ++ [(k, rL k (zs.drop M))]) (nx H) (!(nx H == 0))) := by
              have := HI.out.next HB.out.bytes (by rw [HN.out]; omega) (by rw [HM.out, HE.out]; exact hE)
              rw [HM.out, HHk.out] at this
              exact this
            subst hE
            obtain ⟨s, HSZ⟩ : ∃ s, Hid (sz k = s) := ⟨_, rfl⟩
            rw [HSZ.out]
            have hfit2 : M + s ≤ n := by
              have := HW.out.fits
              rw [hTot_app, HZ.out, HM.out] at this
              simp [hTot, HSZ.out] at this
              exact this
            obtain ⟨F, HF⟩ : ∃ F, Hid (H ++ [Value.int .i64 M, Value.int .i64 s] = F) := ⟨_, rfl⟩
            have hF75 : Hid (F.length = 75) := Hid.mk' (by rw [← HF.out, List.length_append, hh73.out]; rfl)
            have hF1 : Hid (∀ u ∈ F, u.oneCell' = true) := Hid.mk' (by
              rw [← HF.out]; intro u hu
              rcases List.mem_append.1 hu with hu | hu
              · exact hh_mem KH.out u hu
              · simp at hu; rcases hu with rfl | rfl <;> rfl)
            have hbf : Hid (Tryz.prog.built 89 [(0, .agg H.toArray), (1, .agg #[.int .i64 M, .int .i64 s])] = some F.toArray) := Hid.mk' (by rw [← HF.out]; exact built_found H M s hh73.out)
            have hbs : Hid (Tryz.prog.builtSlice 89 1 [(0, .agg F.toArray)] = some F.toArray) := Hid.mk' (bslice_f F hF75.out)
            have HFC : Hid (fC 0 (out ++ [(k, rL k (zs.drop M))]) = fC 0 out ++ F) := Hid.mk' (by
              rw [fC_app, ← HF.out, Nat.zero_add, HM.out]
              simp [fC, HHk.out, HSZ.out])
            obtain ⟨i0, hif, hz0, hz1, hz2⟩ := info_parts info_found
            have hzs : (Value.agg (hz ++ [Value.int .i64 0, Value.int .i64 0]).toArray).cells.size = 75 := by rfl
            have INF : Hid (Tryz.prog.info? 89 = some i0 ∧ i0.zero = some (.agg (hz ++ [Value.int .i64 0, Value.int .i64 0]).toArray) ∧ i0.size = 75 ∧ i0.bytes = 120) := ⟨hif, hz0, hz1, hz2⟩
            clear hif hz0 hz1 hz2
            have RP : Hid (wc.heap[p]? = some (.cells H.toArray 46 (0, 0))) := Hid.mk' (HC.out.get (i := 2) rfl)
            have OWN : Hid (wc.ownsRow w.heap.size 89 75 (.slice sa N sc) N (fC 0 out)) := Hid.mk' (HC.out.get (i := 0) rfl)
            have hws := HC.out.old.size
            go_wp2_with (first
              | refine wpList_load_mid rfl 46 _ rfl p 0 rfl H _ (range_block RP.out) Tryz.underlying46 rfl (by rw [hh73.out]; exact info_hh) ?_
              | refine wpList_buildTo rfl 89 #[(0, .tmp 32), (1, .tmp 35)] rfl (some 36) rfl F.toArray (by simpa [Act.eval, Act.put] using hbf.out) ?_
              | refine Great.wpList_buildSliceTo rfl 83 89 1 #[(0, .tmp 36)] rfl wc.heap.size rfl (some 37) rfl Tryz.underlying83 F.toArray (by simpa [Act.eval, Act.put] using hbs.out) ?_
              | (at_builtin; go_loud (refine wpList_append_own2 rfl _ _ 83 rfl w.heap.size 89 i0 (.agg (hz ++ [Value.int .i64 0, Value.int .i64 0]).toArray) 75 120 Tryz.underlying83 INF.out.1 INF.out.2.1 INF.out.2.2.1 INF.out.2.2.2 hzs (by decide) (.slice sa N sc) N (fC 0 out) rfl (World.ownsRow.alloc OWN.out _) ⟨wc.heap.size, 0, none⟩ 1 1 F rfl (by rw [hF75.out]) (cells_laid wc 89 F) hF1.out (by unfold maxLen; omega) (by omega) (by simp; omega) ?_; intro v' w4 hown4 hgr4 hob4; have H4 := Hid.mk' ((HC.out.below ((Below.refl wc.heap.size wc).alloc (Nat.le_refl _) (.cells F.toArray 89))).grown 0 rfl hown4 hgr4 hob4); have RP4 : Hid (w4.heap[p]? = some (.cells H.toArray 46 (0, 0))) := Hid.mk' (H4.out.get (i := 2) rfl); clear hown4 hgr4 hob4))
              | refine wpList_load_mid rfl 46 _ rfl p 0 rfl H _ (range_block RP4.out) Tryz.underlying46 rfl (by rw [hh73.out]; exact info_hh) ?_
              | (go_at_call 7; refine (next_any H w4 KH.out).mono ?_; rintro e w5 ⟨rfl, b5⟩; have H5 := Hid.mk' (H4.out.below b5); clear b5))
            go_roundg (8 - (N + 1))
            case measure => omega
            case rel =>
              refine ⟨out ++ [(k, rL k (zs.drop M))], nx H, !(nx H == 0), ?_, rfl, rfl, ?_, HW, ?_⟩
              · rw [hTot_app, HM.out]; simp [hTot, HSZ.out]
              · simp [HN.out]
              · rw [HFC.out, List.length_append, HN.out]
                exact Heap.front (L := [_, _]) (M := [_]) H5.out
          · have hd := Hid.mk' (HI.out.bad (by rw [HN.out]; omega) (by rw [HM.out, HE.out]; exact hE))
            rw [HM.out, HE.out] at hd
            have hEb : (E == 0) = false := by simpa using hE
            go_wp2_with fail
            go_ret2
            rw [hd.out]
            exact ⟨_, rfl, World.ownsRow_nil _ _ _ _, HC.out.old⟩

set_option maxRecDepth 10000

theorem info_head : (Tryz.prog.info? 46).map (fun i => (i.zero, i.size, i.bytes)) = some (some (.agg hz.toArray), 73, 100) := by kernel_rfl

theorem subA_none {a : Option Addr} {c M : Nat} (h : a = none → c = 0) (hM : M ≤ c) : subA a c M = none → c - M = 0 := by
  intro e
  unfold subA at e
  split at e
  · omega
  · cases a with
    | none => have := h rfl; omega
    | some x => simp at e

/-- What Peel answers: heads and what is behind them. -/
def plT (w : World) (zs : List Int) (va vr : Value) : List Thing := [rowT w.heap.size 46 73 va (PE zs).2.length (hsC (PE zs).2), rowT w.heap.size 5 1 vr (peR zs).length ((peR zs).map (Value.int .u8))]

theorem pl_err {w u : World} {zs : List Int} {E : Int} (h : PE zs = (E, [])) (hE : ¬ E = 0) (b : Below w.heap.size w u) : Heap w u (plT w zs (.slice none 0 0) (.slice none 0 0)) := by
  have hr : peR zs = [] := by unfold peR; rw [h, if_neg hE]
  unfold plT
  rw [hr, h]
  exact ((Heap.nil b).add (Below.refl _ _) (rowT w.heap.size 5 1 (.slice none 0 0) 0 []) (World.ownsRow_nil _ _ _ _) (fun k hk => by cases hk)).add (Below.refl _ _) (rowT w.heap.size 46 73 (.slice none 0 0) 0 (hsC [])) (World.ownsRow_nil _ _ _ _) (fun k hk => by cases hk)

set_option maxRecDepth 10000

theorem range_own {w : World} {base g n c size o : Nat} {e : TypeId} {xs A F B : List Value} (h : w.ownsRow base e size (.slice (some ⟨g, 0, none⟩) n c) n xs) (hx : xs = A ++ (F ++ B)) (hA : A.length = o) : w.rangeAt g o F := by
  intro j v hv
  have hlt := (List.getElem?_eq_some_iff.1 hv).1
  have hl : xs.length = n * size := h.1
  rw [h.cellAt (o + j) (by rw [← hl, hx, List.length_append, List.length_append, hA]; omega), hx, List.getElem?_append_right (by omega), hA, Nat.add_sub_cancel_left, List.getElem?_append_left hlt]
  exact hv

/-- What is found at a place. -/
theorem fC_at (out : Hs) (i : Nat) (k : Int) (L : List Value) (h : out[i]? = some (k, L)) : ∃ B, fC 0 out = fC 0 (out.take i) ++ ((hk k L ++ [Value.int .i64 (hTot (out.take i) : Nat), Value.int .i64 (sz k : Nat)]) ++ B) := by
  obtain ⟨hlt, he⟩ := List.getElem?_eq_some_iff.1 h
  have e : out = out.take i ++ (k, L) :: out.drop (i + 1) := by
    rw [← he, List.getElem_cons_drop hlt, List.take_append_drop]
  refine ⟨fC (hTot (out.take i) + sz k) (out.drop (i + 1)), ?_⟩
  conv => lhs; rw [e]
  rw [fC_app, fC, Nat.zero_add]

theorem HsOk.take {l : Hs} (h : HsOk l) (i : Nat) : HsOk (l.take i) := fun x hx => h x (List.mem_of_mem_take hx)

theorem take_push (out : Hs) (i : Nat) (k : Int) (L : List Value) (h : out[i]? = some (k, L)) : out.take (i + 1) = out.take i ++ [(k, L)] := by
  obtain ⟨hlt, he⟩ := List.getElem?_eq_some_iff.1 h
  rw [List.take_succ_eq_append_getElem hlt, he]

theorem hTot_take (l : Hs) (i : Nat) : hTot (l.take i) ≤ hTot l := by
  have := hTot_app (l.take i) (l.drop i)
  rw [List.take_append_drop] at this
  omega

theorem range_pre {w : World} {g o : Nat} {A B : List Value} (h : w.rangeAt g o (A ++ B)) : w.rangeAt g o A := fun j v hv => h j v (by rw [List.getElem?_append_left (List.getElem?_eq_some_iff.1 hv).1]; exact hv)

theorem info_f75 : (Tryz.prog.info? 89).map (·.size) = some 75 := by kernel_rfl

theorem grown_below {w w' : World} (h : w.grownBy w' none) : Below w.heap.size w w' :=
  ((Kept.refl (fun _ => False) w).grown h (fun k e _ => by cases e)).below (Nat.le_refl _) (fun _ _ h => h)

theorem pe_err : ∀ (n : Nat) (k : Int) (out : Hs) (zs : List Int), ¬ (pe n k out zs).1 = 0 → pe n k out zs = ((pe n k out zs).1, [])
  | 0, _, _, _, _ => rfl
  | n + 1, k, out, zs, h => by
    unfold pe at h ⊢
    by_cases hr : rE k zs = 0
    · rw [if_pos hr] at h ⊢
      by_cases hn : nx (hk k (rL k zs)) = 0
      · rw [if_pos hn] at h; exact absurd rfl h
      · rw [if_neg hn] at h ⊢
        exact pe_err n _ _ _ h
    · rw [if_neg hr]

theorem PE_err {zs : List Int} (h : ¬ (PE zs).1 = 0) : PE zs = ((PE zs).1, []) := pe_err 8 1 [] zs h

set_option maxHeartbeats 2000000 in
theorem peel_any (a : Option Addr) (n c : Nat) (zs : List Int) (w : World) (hz' : zs.length = n) (hB : Bs w a zs) (hn0 : a = none → c = 0) (hc : n ≤ c) :
    Calls Tryz.prog 8 #[.slice a n c] w fun e w' => ∃ va vr, e = .returned (.tuple #[va, vr, .int .i64 (PE zs).1]) ∧ Heap w w' (plT w zs va vr) := by
  have hln : n ≤ 140737488355328 := by rw [← hz']; exact hB.len
  have HB := Hid.mk' hB
  have HZ := Hid.mk' hz'
  have HN0 := Hid.mk' hn0
  have HWK : Hid (Calls Tryz.prog 28 #[.slice a n c] w fun e w' => ∃ v, e = .returned (.tuple #[v, .int .i64 (PE zs).1]) ∧ w'.ownsRow w.heap.size 89 75 v (PE zs).2.length (fC 0 (PE zs).2) ∧ Below w.heap.size w w') := Hid.mk' (walk_any a n c zs w hz' hB hc)
  clear hB hz' hn0
  by_cases hE : (PE zs).1 = 0
  · obtain ⟨ok, fits, one, few⟩ := PE_ok HB.out.bytes hE
    rw [hE] at HWK
    rw [hE]
    unfold plT
    have HR : Hid (peR zs = zs.drop (hTot (PE zs).2)) := Hid.mk' (by unfold peR; rw [if_pos hE])
    rw [HR.out]
    obtain ⟨out, HO⟩ : ∃ out, Hid ((PE zs).2 = out) := ⟨_, rfl⟩
    rw [HO.out] at ok fits one few HWK
    rw [HO.out]
    rw [HZ.out] at fits
    clear HR hE
    have OK := Hid.mk' ok
    clear ok
    obtain ⟨N, HN⟩ : ∃ N, Hid (out.length = N) := ⟨_, rfl⟩
    rw [HN.out] at one few HWK
    rw [HN.out]
    obtain ⟨M, HM⟩ : ∃ M, Hid (hTot out = M) := ⟨_, rfl⟩
    rw [HM.out] at fits
    rw [HM.out]
    have SL : Hid ((zs.drop M).length = n - M) := Hid.mk' (by rw [List.length_drop, HZ.out])
    rw [SL.out]
    obtain ⟨i0, hif, hz0, hz1, hz2⟩ := info_parts info_head
    have hzs : (Value.agg hz.toArray).cells.size = 73 := by rfl
    have INF : Hid (Tryz.prog.info? 46 = some i0 ∧ i0.zero = some (.agg hz.toArray) ∧ i0.size = 73 ∧ i0.bytes = 100) := ⟨hif, hz0, hz1, hz2⟩
    clear hif hz0 hz1 hz2
    go_enter Tryz.func8, Tryz.ntmps8
    go_wp2_with fail
    refine HWK.out.mono ?_
    rintro e w1 ⟨v, rfl, own1, b1⟩
    obtain ⟨gl, cl, rfl, hcl⟩ := own_some own1 (by omega)
    have H1 : Hid (Heap w w1 [rowT w.heap.size 89 75 (.slice (some ⟨gl, 0, none⟩) N cl) N (fC 0 out)]) := Hid.mk' (by
      have h0 := Heap.nil b1
      refine ⟨fun T hT => ?_, ?_, fun T hT k hk => ?_, b1⟩
      · simp at hT; subst hT; exact own1
      · simp
      · simp at hT; subst hT; exact (own1.lt k hk).1)
    have hw1 := b1.size
    clear own1 b1 HWK
    go_wp2_with (at_make; go_loud (refine wpList_make_own _ rfl _ _ 23 rfl w.heap.size 46 i0 (.agg hz.toArray) 73 Tryz.underlying23 INF.out.1 INF.out.2.1 INF.out.2.2.1 _ _ _ N rfl rfl rfl (by rw [INF.out.2.2.2]; omega) (by unfold maxLen; omega) hw1 ?_; intro w2 own2 gr2; have H2 : Hid (Heap w w2 [rowT w.heap.size 89 75 (.slice (some ⟨gl, 0, none⟩) N cl) N (fC 0 out), rowT w.heap.size 46 73 (.slice (some ⟨w1.heap.size, 0, none⟩) 0 N) 0 (hsC (out.take 0))]) := Hid.mk' (H1.out.push (grown_below gr2) (rowT w.heap.size 46 73 (.slice (some ⟨w1.heap.size, 0, none⟩) 0 N) 0 (hsC (out.take 0))) own2 (fun j hj => by simp [rowT, Value.ownBlock] at hj; omega)); clear own2 gr2))
    go_loopg [7, 8, 25] N (fun f s7 s8 s25 wr => ∃ i : Nat, s25 = .int .i64 i ∧ s8 = .int .i64 (hTot (out.take i) : Nat) ∧ i ≤ N ∧ N - i ≤ f ∧ Hid (Heap w wr [rowT w.heap.size 89 75 (.slice (some ⟨gl, 0, none⟩) N cl) N (fC 0 out), rowT w.heap.size 46 73 s7 i (hsC (out.take i))]))
    case atStart => exact ⟨0, rfl, rfl, by omega, by omega, H2⟩
    case round =>
      obtain ⟨i, rfl, rfl, hi, hf, HH⟩ := hrel
      obtain ⟨sa, sc, hs⟩ := own_slice (HH.out.get (i := 1) rfl)
      subst hs
      by_cases hlt : i < N
      · obtain ⟨⟨k, L⟩, hx⟩ : ∃ x, out[i]? = some x := ⟨_, List.getElem?_eq_getElem (by rw [HN.out]; exact hlt)⟩
        have KH := Hid.mk' (hk_hh (OK.out (k, L) (List.mem_of_getElem? hx)))
        obtain ⟨B, hB⟩ := fC_at out i k L hx
        have HTP := Hid.mk' (take_push out i k L hx)
        have hPs := hTot_take out (i + 1)
        rw [HTP.out, hTot_app, HM.out] at hPs
        have HLA : Hid ((fC 0 (out.take i)).length = i * 75) := Hid.mk' (by rw [fC_len _ _ (OK.out.take i), List.length_take, HN.out, Nat.min_eq_left hi])
        obtain ⟨H, HHk⟩ : ∃ H, Hid (hk k L = H) := ⟨_, rfl⟩
        obtain ⟨s, HSZ⟩ : ∃ s, Hid (sz k = s) := ⟨_, rfl⟩
        obtain ⟨P, HP⟩ : ∃ P, Hid (hTot (out.take i) = P) := ⟨_, rfl⟩
        simp only [hTot] at hPs
        rw [HHk.out, HSZ.out, HP.out] at hB
        rw [HSZ.out, HP.out] at hPs
        rw [HP.out]
        rw [HHk.out] at KH
        have hP1 : Hid (hTot (out.take (i + 1)) = P + s) := Hid.mk' (by rw [HTP.out, hTot_app, HP.out]; simp [hTot, HSZ.out])
        have HS1 : Hid (hsC (out.take (i + 1)) = hsC (out.take i) ++ H) := Hid.mk' (by rw [HTP.out, hsC_push, HHk.out])
        obtain ⟨F, HF⟩ : ∃ F, Hid (H ++ [Value.int .i64 P, Value.int .i64 s] = F) := ⟨_, rfl⟩
        rw [HF.out] at hB
        have hh73 := Hid.mk' (hh_len KH.out)
        have hF75 : Hid (F.length = 75) := Hid.mk' (by rw [← HF.out, List.length_append, hh73.out]; rfl)
        have hF1 : Hid (F.toArray.all (·.oneCell') = true) := Hid.mk' (all_oneCell_toArray (by
          rw [← HF.out]; intro u hu
          rcases List.mem_append.1 hu with hu | hu
          · exact hh_mem KH.out u hu
          · simp at hu; rcases hu with rfl | rfl <;> rfl))
        have hhm := Hid.mk' (hh_mem KH.out)
        have RG : Hid (wr.rangeAt gl (i * 75) F) := Hid.mk' (range_own (HH.out.get (i := 0) rfl) hB HLA.out)
        have hbs : Hid (Tryz.prog.builtSlice 46 1 [(0, .agg H.toArray)] = some H.toArray) := Hid.mk' (bslice_1 H hh73.out)
        have H5 : Hid (Heap w (wr.alloc (.cells F.toArray 89)) [rowT w.heap.size 89 75 (.slice (some ⟨gl, 0, none⟩) N cl) N (fC 0 out), rowT w.heap.size 46 73 (.slice sa i sc) i (hsC (out.take i)), cellsT wr.heap.size F.toArray 89]) := HH.out.push ((Below.refl _ _).alloc (Nat.le_refl _) _) (cellsT wr.heap.size F.toArray 89) (heap_alloc_new wr _) (fun j hj => Nat.le_of_eq hj.symm)
        have R5 : Hid ((wr.alloc (.cells F.toArray 89)).rangeAt wr.heap.size 0 H) := Hid.mk' (range_pre (B := [Value.int .i64 P, Value.int .i64 s]) (by rw [HF.out]; exact range_block (heap_alloc_new wr _)))
        have OWN : Hid ((wr.alloc (.cells F.toArray 89)).ownsRow w.heap.size 46 73 (.slice sa i sc) i (hsC (out.take i))) := Hid.mk' (H5.out.get (i := 1) rfl)
        have CL : Hid (∀ (j : Nat) (u : Value), H[j]? = some u → ((wr.alloc (.cells F.toArray 89)).alloc (.cells H.toArray 46)).cell? ((⟨wr.heap.size + 1, 0, none⟩ : Addr).add j) = some u) := Hid.mk' (by
          have := cells_laid (wr.alloc (.cells F.toArray 89)) 46 H
          rwa [show (wr.alloc (.cells F.toArray 89)).heap.size = wr.heap.size + 1 by simp] at this)
        have hws := HH.out.old.size
        clear hB hx
        go_wp2_with (first
          | refine wpList_load_mid rfl 89 _ rfl gl (i * 75) rfl F _ RG.out Tryz.underlying89 rfl (by rw [hF75.out]; exact info_f75) ?_
          | refine wpList_store_new rfl 89 _ _ rfl _ _ F rfl rfl (by rw [hF75.out]; rfl) (by rw [hF75.out]; exact info_f75) hF1.out ?_
          | refine wpList_load_mid rfl 46 _ rfl wr.heap.size 0 rfl H _ R5.out Tryz.underlying46 rfl (by rw [hh73.out]; exact info_hh) ?_
          | refine Great.wpList_buildSliceTo rfl 23 46 1 #[(0, .tmp 31)] rfl (wr.heap.size + 1) (by simp) (some 32) rfl Tryz.underlying23 H.toArray (by simpa [Act.eval, Act.put] using hbs.out) ?_
          | (at_builtin; go_loud (refine wpList_append_own2 rfl _ _ 23 rfl w.heap.size 46 i0 (.agg hz.toArray) 73 100 Tryz.underlying23 INF.out.1 INF.out.2.1 INF.out.2.2.1 INF.out.2.2.2 hzs (by decide) (.slice sa i sc) i (hsC (out.take i)) rfl (World.ownsRow.alloc OWN.out _) ⟨wr.heap.size + 1, 0, none⟩ 1 1 H rfl (by rw [hh73.out]) CL.out hhm.out (by unfold maxLen; omega) (by omega) (by simp; omega) ?_; intro v' w6 hown6 hgr6 hob6; have H6 := Hid.mk' ((H5.out.below ((Below.refl _ _).alloc (Nat.le_refl _) (.cells H.toArray 46))).grown 1 rfl hown6 hgr6 hob6); have hbox : w6.heap[wr.heap.size]? = some (.cells F.toArray 89 (0, 0)) := H6.out.get (i := 2) rfl; have c73 : w6.cell? ⟨wr.heap.size, 73, none⟩ = some (.int .i64 P) := by { rw [cell_of_row w6 wr.heap.size 73 _ _ _ hbox, List.getElem?_toArray, ← HF.out, List.getElem?_append_right (by rw [hh73.out]; omega), hh73.out]; rfl }; have c74 : w6.cell? ⟨wr.heap.size, 74, none⟩ = some (.int .i64 s) := by { rw [cell_of_row w6 wr.heap.size 74 _ _ _ hbox, List.getElem?_toArray, ← HF.out, List.getElem?_append_right (by rw [hh73.out]; omega), hh73.out]; rfl }; clear hown6 hgr6 hob6 hbox)))
        go_roundg (N - (i + 1))
        case measure => omega
        case rel =>
          refine ⟨i + 1, by go_num, ?_, by omega, by omega, ?_⟩
          · rw [hP1.out]; go_num
          · rw [HS1.out]
            exact Heap.front (L := [_, _]) (M := [_]) H6.out
      · have hiN : i = N := by omega
        have HTK : Hid (out.take i = out) := Hid.mk' (List.take_of_length_le (by rw [HN.out]; omega))
        rw [HTK.out] at HH
        rw [HTK.out, HM.out]
        have hMc : M ≤ c := by omega
        have hsub : (if c = M then a else a.map (fun x => x.add M)) = subA a c M := rfl
        have SB : Hid (∀ u, Below w.heap.size w u → Bs u (subA a c M) (zs.drop M)) := Hid.mk' (fun u hu => bs_sub (HB.out.below hu) c M (by rw [HZ.out]; exact hc))
        obtain ⟨A1, HA1⟩ : ∃ A1, Hid (subA a c M = A1) := ⟨_, rfl⟩
        rw [HA1.out] at hsub SB
        subst hiN
        obtain ⟨q, rfl⟩ : ∃ q, n = M + q := ⟨n - M, by omega⟩
        rw [Nat.add_sub_cancel_left] at SL
        have hmk := make_bytes q (by omega)
        have hMq : (M : Int) + (q : Int) - (M : Int) = (q : Int) := by omega
        have hMq' : M + q - M = q := by omega
        obtain ⟨ZB, HZB⟩ : ∃ ZB, Hid ((List.replicate q (0 : Int)).map (Value.int .u8) = ZB) := ⟨_, rfl⟩
        rw [HZB.out] at hmk
        have hZl : Hid (ZB.length = q) := Hid.mk' (by rw [← HZB.out]; simp)
        have B4 : Hid (Below wr.heap.size wr (wr.alloc (.cells ZB.toArray 5))) := Hid.mk' ((Below.refl _ _).alloc (Nat.le_refl _) _)
        have G4 : Hid ((wr.alloc (.cells ZB.toArray 5)).heap[wr.heap.size]? = some (.cells ZB.toArray 5 (0, 0))) := Hid.mk' (heap_alloc_new wr _)
        have S4 : Hid (Bs (wr.alloc (.cells ZB.toArray 5)) A1 (zs.drop M)) := Hid.mk' (SB.out _ (HH.out.below B4.out).old)
        go_wp2_with (first | (refine wpList_copy rfl _ _ rfl wr.heap.size 0 q q (c - M) A1 rfl rfl (zs.drop M) ZB 5 G4.out S4.out SL.out (by rw [hZl.out]; omega) ?_; intro w5 hg5 hk5; have G5 := Hid.mk' hg5; have K5 := Hid.mk' hk5; clear hg5 hk5))
        go_ret3
        rw [put_all _ _ (by rw [hZl.out, List.length_map, SL.out])] at G5
        refine ⟨.slice sa i sc, .slice (some ⟨wr.heap.size, 0, none⟩) q q, rfl, ?_⟩
        rw [Nat.add_sub_cancel_left]
        have h5 := ((HH.out.push B4.out (cellsT wr.heap.size ZB.toArray 5) G4.out (fun j hj => Nat.le_of_eq hj.symm)).stepAt 2 _ rfl K5.out (rowT w.heap.size 5 1 (.slice (some ⟨wr.heap.size, 0, none⟩) q q) q ((zs.drop M).map (Value.int .u8))) ?_ (fun j hj => ?_))
        · exact h5.tail
        · have hY : ((zs.drop M).map (Value.int .u8)).length = q := by rw [List.length_map, SL.out]
          have G := G5.out
          show w5.ownsRow _ _ _ _ _ _
          generalize (zs.drop M).map (Value.int .u8) = YS at hY G ⊢
          exact ⟨by rw [hY, Nat.mul_one], .inr ⟨wr.heap.size, q, YS.toArray, rfl, HH.out.old.size, G, Nat.le_refl _, by unfold maxLen; omega, by simp [hY], by simp [← hY]⟩⟩
        · refine .inl ?_
          have : some wr.heap.size = some j := hj
          simp at this
          exact this.symm
  · have hd := Hid.mk' (PE_err hE)
    obtain ⟨E, HE⟩ : ∃ E, Hid ((PE zs).1 = E) := ⟨_, rfl⟩
    rw [HE.out] at hE HWK hd
    rw [HE.out]
    have hEb : (E == 0) = false := by simpa using hE
    rw [hd.out] at HWK
    go_enter Tryz.func8, Tryz.ntmps8
    go_wp2_with fail
    refine HWK.out.mono ?_
    rintro e w1 ⟨v, rfl, own1, b1⟩
    have HB1 := Hid.mk' b1
    clear own1 b1 HWK
    go_wp2_with fail
    go_ret3
    exact ⟨.slice none 0 0, .slice none 0 0, rfl, pl_err hd.out hE HB1.out⟩

set_option maxRecDepth 10000

/-- Where the first header of a kind stands. -/
def fnd (k : Int) : Nat → Hs → Option Nat
  | _, [] => none
  | n, x :: r => if x.1 = k then some n else fnd k (n + sz x.1) r

def whO (k : Int) : Option Nat → Int × Int × Bool × Int
  | some n => ((n : Int), ((sz k : Nat) : Int), true, 0)
  | none => (0, 0, false, 0)

def wh (zs : List Int) (k : Int) : Int × Int × Bool × Int := if 1 ≤ k ∧ k ≤ 6 then (if (PE zs).1 = 0 then whO k (fnd k 0 (PE zs).2) else (0, 0, false, (PE zs).1)) else (0, 0, false, 120)

def whV (r : Int × Int × Bool × Int) : Value := .tuple #[.agg #[.int .i64 r.1, .int .i64 r.2.1], .bool r.2.2.1, .int .i64 r.2.2.2]

/-- The result's box, and what was there before. -/
structure RJ (w u : World) : Prop where
  box : ∃ x y : Value, u.heap[w.heap.size]? = some (.cells [x, y].toArray 87 (0, 0))
  old : Below w.heap.size w u

theorem RJ.first (w : World) : RJ w (w.alloc (.cells [Value.int .i64 0, Value.int .i64 0].toArray 87)) := ⟨⟨_, _, heap_alloc_new w _⟩, (Below.refl _ _).alloc (Nat.le_refl _) _⟩

theorem RJ.below {w u v : World} (h : RJ w u) (b : Below u.heap.size u v) : RJ w v := by
  obtain ⟨⟨x, y, hb⟩, ho⟩ := h
  exact ⟨⟨x, y, (b.block _ (Array.getElem?_eq_some_iff.1 hb).1).trans hb⟩, ho.trans (b.mono ho.size)⟩

theorem RJ.there {w u : World} (h : RJ w u) : u.there w.heap.size 0 2 := by
  obtain ⟨⟨x, y, hb⟩, ho⟩ := h
  exact there_block hb

theorem RJ.lt {w u : World} (h : RJ w u) : w.heap.size < u.heap.size := by
  obtain ⟨⟨x, y, hb⟩, ho⟩ := h
  exact (Array.getElem?_eq_some_iff.1 hb).1

theorem RJ.done {w u : World} (h : RJ w u) (x y : Value) : (u.setCells w.heap.size 0 [x, y]).heap[w.heap.size]? = some (.cells [x, y].toArray 87 (0, 0)) ∧ Below w.heap.size w (u.setCells w.heap.size 0 [x, y]) := by
  obtain ⟨⟨x', y', hb⟩, ho⟩ := h
  have hk := (Kept.refl (fun k => k = w.heap.size) u).setCells w.heap.size 0 [x, y] (fun _ => rfl)
  exact ⟨heap_whole (L := [x', y']) hb rfl, ho.trans (hk.below ho.size (fun k hk => by omega))⟩

theorem rg_one (x y : Int) : [Value.int .i64 x, Value.int .i64 y].toArray.all (·.oneCell') = true := all_oneCell_toArray (by intro v hv; simp at hv; rcases hv with rfl | rfl <;> rfl)

theorem info_rg : (Tryz.prog.info? 87).map (·.size) = some 2 := by kernel_rfl

/-- Both boxes: the result's and the row of what is found. -/
def wkT (w : World) (x y : Value) (e : TypeId) (size : Nat) (v : Value) (n : Nat) (xs : List Value) : List Thing := [cellsT w.heap.size [x, y].toArray 87, rowT (w.heap.size + 1) e size v n xs]

theorem fnd_at (k : Int) (out : Hs) (i : Nat) (x : Int × List Value) (h : out[i]? = some x) (n : Nat) : fnd k n (out.drop i) = if x.1 = k then some n else fnd k (n + sz x.1) (out.drop (i + 1)) := by
  obtain ⟨hlt, he⟩ := List.getElem?_eq_some_iff.1 h
  rw [← List.getElem_cons_drop hlt, he, fnd]

set_option maxRecDepth 10000

theorem hsC_at (out : Hs) (i : Nat) (k : Int) (L : List Value) (h : out[i]? = some (k, L)) : ∃ B, hsC out = hsC (out.take i) ++ (hk k L ++ B) := by
  obtain ⟨hlt, he⟩ := List.getElem?_eq_some_iff.1 h
  have e : out = out.take i ++ (k, L) :: out.drop (i + 1) := by
    rw [← he, List.getElem_cons_drop hlt, List.take_append_drop]
  refine ⟨hsC (out.drop (i + 1)), ?_⟩
  conv => lhs; rw [e]
  simp [hsC]

/-- A head of a row of heads. -/
theorem head_range {w : World} {base g n c : Nat} {out : Hs} (h : w.ownsRow base 46 73 (.slice (some ⟨g, 0, none⟩) n c) n (hsC out)) (ok : HsOk out) (i : Nat) (k : Int) (L : List Value) (hx : out[i]? = some (k, L)) : w.rangeAt g (i * 73) (hk k L) := by
  obtain ⟨B, hB⟩ := hsC_at out i k L hx
  refine range_own h hB ?_
  rw [hsC_len _ (ok.take i), List.length_take, Nat.min_eq_left (Nat.le_of_lt (List.getElem?_eq_some_iff.1 hx).1)]

theorem head_kind {w : World} {base g n c : Nat} {out : Hs} (h : w.ownsRow base 46 73 (.slice (some ⟨g, 0, none⟩) n c) n (hsC out)) (ok : HsOk out) (i : Nat) (k : Int) (L : List Value) (hx : out[i]? = some (k, L)) : w.cell? ⟨g, i * 73, none⟩ = some (.int .u8 k) := by
  have := head_range h ok i k L hx 0 (.int .u8 k) rfl
  simpa using this

theorem sz_zero {k : Int} (h : ¬ (1 ≤ k ∧ k ≤ 6)) : sz k = 0 := by
  unfold sz
  rw [if_neg (by omega), if_neg (by omega), if_neg (by omega), if_neg (by omega), if_neg (by omega), if_neg (by omega)]

theorem sz_pos {k : Int} (h : 1 ≤ k ∧ k ≤ 6) : 0 < sz k ∧ sz k ≤ 40 := by
  rcases six h.1 h.2 with rfl | rfl | rfl | rfl | rfl | rfl <;> decide

/-- Two rows of the same heads are the same. -/
structure Hrow (w : World) (v : Value) (out : Hs) : Prop where
  own : ∃ base, w.ownsRow base 46 73 v out.length (hsC out)
  ok : HsOk out

set_option maxHeartbeats 2000000 in
theorem same_any (v1 v2 : Value) (out : Hs) (w : World) (few : out.length ≤ 8) (h1 : Hrow w v1 out) (h2 : Hrow w v2 out) : Calls Tryz.prog 41 #[v1, v2] w fun e w' => e = .returned (.bool true) ∧ Dr w w' := by
  obtain ⟨⟨b1, o1⟩, ok⟩ := h1
  obtain ⟨⟨b2, o2⟩, -⟩ := h2
  obtain ⟨a1, c1, e1⟩ := own_slice o1
  obtain ⟨a2, c2, e2⟩ := own_slice o2
  subst e1 e2
  have O1 := Hid.mk' o1
  have O2 := Hid.mk' o2
  have OK := Hid.mk' ok
  clear o1 o2 ok
  obtain ⟨N, HN⟩ : ∃ N, Hid (out.length = N) := ⟨_, rfl⟩
  rw [HN.out] at few O1 O2
  rw [HN.out]
  go_enter Tryz.func41, Tryz.ntmps41
  go_wp2_with fail
  go_loopg [5] N (fun f s5 wr => ∃ i : Nat, s5 = .int .i64 i ∧ i ≤ N ∧ N - i ≤ f ∧ Hid (Dr w wr))
  case atStart => exact ⟨0, rfl, by omega, by omega, Dr.refl _⟩
  case round =>
    obtain ⟨i, rfl, hi, hf, HD⟩ := hrel
    by_cases hlt : i < N
    · obtain ⟨g1, d1, e1, -⟩ := own_some O1.out (by omega)
      obtain ⟨g2, d2, e2, -⟩ := own_some O2.out (by omega)
      cases e1
      cases e2
      obtain ⟨⟨k, L⟩, hx⟩ : ∃ x, out[i]? = some x := ⟨_, List.getElem?_eq_getElem (by rw [HN.out]; exact hlt)⟩
      have KH := Hid.mk' (hk_hh (OK.out (k, L) (List.mem_of_getElem? hx)))
      have R1 := head_range O1.out OK.out i k L hx
      have R2 := head_range O2.out OK.out i k L hx
      obtain ⟨H, HHk⟩ : ∃ H, Hid (hk k L = H) := ⟨_, rfl⟩
      rw [HHk.out] at KH R1 R2
      have hh73 := Hid.mk' (hh_len KH.out)
      have hne := neq_same (t := 46) (L := H) (hh_eq KH.out)
      have S1 : wr.drew.rangeAt g1 (i * 73) H := fun j v hv => ((HD.out.more 1).cell _).trans (R1 j v hv)
      have S2 : wr.drew.rangeAt g2 (i * 73) H := fun j v hv => ((HD.out.more 1).cell _).trans (R2 j v hv)
      have RR := Hid.mk' (And.intro S1 S2)
      clear hx R1 R2 S1 S2
      go_wp2_with fail
      refine wp_region_held_drew (S := fun u => u.rangeAt g1 (i * 73) H ∧ u.rangeAt g2 (i * 73) H) (by kernel_rfl) RR.out (fun hHeld => ?_)
      change wpAnyH _ _ _ _ _ 9 #[false, false, false, false, false, false, false, false, false] _ _
      refine held_take 0 17 (.slice (some ⟨g1, 0, none⟩) N c1) rfl rfl (by kernel_rfl) (by kernel_rfl) (by kernel_rfl) (fun _ _ _ h => h) (Or.inl ⟨by rfl, fun u hu => ?_⟩) hHeld ?_
      · go_simp
      simp only [Act.put, List.setIfInBounds_toArray, List.set_cons_zero, List.set_cons_succ]
      refine held_take 1 18 (.int .i64 i) rfl rfl (by kernel_rfl) (by kernel_rfl) (by kernel_rfl) (fun _ _ _ h => h) (Or.inl ⟨by rfl, fun u hu => ?_⟩) hHeld ?_
      · go_simp
      simp only [Act.put, List.setIfInBounds_toArray, List.set_cons_zero, List.set_cons_succ]
      refine held_take 2 19 (.pointer (some ⟨g1, i * 73, none⟩)) rfl rfl (by kernel_rfl) (by kernel_rfl) (by kernel_rfl) (fun _ _ _ h => h) (Or.inl ⟨by rfl, fun u hu => ?_⟩) hHeld ?_
      · go_simp
      simp only [Act.put, List.setIfInBounds_toArray, List.set_cons_zero, List.set_cons_succ]
      refine held_take 3 20 (.agg H.toArray) rfl rfl (by kernel_rfl) (by kernel_rfl) (by kernel_rfl) (fun _ _ _ h => h) (yieldsIf_load_mid (by rfl) 46 _ rfl g1 (i * 73) rfl H _ (fun u hu => hu.1) Tryz.underlying46 rfl (by rw [hh73.out]; exact info_hh)) hHeld ?_
      simp only [Act.put, List.setIfInBounds_toArray, List.set_cons_zero, List.set_cons_succ]
      refine held_take 4 21 (.slice (some ⟨g2, 0, none⟩) N c2) rfl rfl (by kernel_rfl) (by kernel_rfl) (by kernel_rfl) (fun _ _ _ h => h) (Or.inl ⟨by rfl, fun u hu => ?_⟩) hHeld ?_
      · go_simp
      simp only [Act.put, List.setIfInBounds_toArray, List.set_cons_zero, List.set_cons_succ]
      refine held_take 5 22 (.int .i64 i) rfl rfl (by kernel_rfl) (by kernel_rfl) (by kernel_rfl) (fun _ _ _ h => h) (Or.inl ⟨by rfl, fun u hu => ?_⟩) hHeld ?_
      · go_simp
      simp only [Act.put, List.setIfInBounds_toArray, List.set_cons_zero, List.set_cons_succ]
      refine held_take 6 23 (.pointer (some ⟨g2, i * 73, none⟩)) rfl rfl (by kernel_rfl) (by kernel_rfl) (by kernel_rfl) (fun _ _ _ h => h) (Or.inl ⟨by rfl, fun u hu => ?_⟩) hHeld ?_
      · go_simp
      simp only [Act.put, List.setIfInBounds_toArray, List.set_cons_zero, List.set_cons_succ]
      refine held_take 7 24 (.agg H.toArray) rfl rfl (by kernel_rfl) (by kernel_rfl) (by kernel_rfl) (fun _ _ _ h => h) (yieldsIf_load_mid (by rfl) 46 _ rfl g2 (i * 73) rfl H _ (fun u hu => hu.2) Tryz.underlying46 rfl (by rw [hh73.out]; exact info_hh)) hHeld ?_
      simp only [Act.put, List.setIfInBounds_toArray, List.set_cons_zero, List.set_cons_succ]
      refine held_take 8 25 (.bool false) rfl rfl (by kernel_rfl) (by kernel_rfl) (by kernel_rfl) (fun _ _ _ h => h) (Or.inl ⟨by rfl, fun u hu => ?_⟩) hHeld ?_
      · go_simp
      simp only [Act.put, List.setIfInBounds_toArray, List.set_cons_zero, List.set_cons_succ]
      refine wpAnyH_done (by kernel_rfl) ?_ _
      have HD2 : Hid (Dr w wr.drew) := Hid.mk' (HD.out.more 1)
      clear HD RR hHeld
      go_wp2_with fail
      go_roundg (N - (i + 1))
      case measure => omega
      case rel => exact ⟨i + 1, by go_num, by omega, by omega, HD2⟩
    · go_wp2_with fail
      go_ret
      exact ⟨rfl, HD.out⟩

set_option maxRecDepth 10000

/-- A link header's bytes, of its cells. -/
def lB (L : List Value) (n : Nat) : List Int := K05.byB n ((L.take 6).map K07.un) (((L.drop 6).take 6).map K07.un) (num L 12)

theorem lB_of {d s : List Int} {t : Int} (h : K05.Lk d s t) (n : Nat) : lB (K05.lkC d s t) n = K05.byB n d s t := by
  have hd := h.dl
  have hs := h.sl
  have ld : (d.map (Value.int .u8)).length = 6 := by rw [List.length_map, hd]
  have ls : (s.map (Value.int .u8)).length = 6 := by rw [List.length_map, hs]
  have e1 : (K05.lkC d s t).take 6 = d.map (Value.int .u8) := by unfold K05.lkC; exact List.take_left' ld
  have e2 : ((K05.lkC d s t).drop 6).take 6 = s.map (Value.int .u8) := by unfold K05.lkC; rw [List.drop_left' ld]; exact List.take_left' ls
  unfold lB
  rw [e1, e2, K07.map_un, K07.map_un, num_of (K05.lkC_cell h)]

def bE (k : Int) (L : List Value) (ys : List Int) : Int := if k = 1 then K05.byE ys.length else if k = 2 then K06.byE L ys else if k = 3 then K07.byE L ys else if k = 4 then K08.byE L ys else if k = 5 then K09.byE L ys else K10.byE L ys

def bB (k : Int) (L : List Value) (ys : List Int) : List Int := if k = 1 then lB L ys.length else if k = 2 then K06.byB L ys else if k = 3 then K07.byB L ys else if k = 4 then K08.byB L ys else if k = 5 then K09.byB L ys else K10.byB L ys

/-- Whether a header of a kind may be. -/
def kC (k : Int) (L : List Value) : Int := if k = 2 then K06.ckE L else if k = 4 then K08.ckE L else if k = 5 then K09.ckE L else 0

theorem bE_ok {k : Int} {L : List Value} {ys : List Int} (h : KHd k L) (hc : kC k L = 0) (hl : ys.length + sz k ≤ 2048) : bE k L ys = 0 := by
  rcases six h.1 h.2.1 with rfl | rfl | rfl | rfl | rfl | rfl
  · have hl : ys.length + 14 ≤ 2048 := hl
    show K05.byE ys.length = 0
    unfold K05.byE; rw [if_pos (by omega)]
  · have hl : ys.length + 4 ≤ 2048 := hl
    have hc : K06.ckE L = 0 := hc
    show K06.byE L ys = 0
    unfold K06.byE; rw [if_pos hc, if_pos (by omega)]
  · have hl : ys.length + 20 ≤ 2048 := hl
    show K07.byE L ys = 0
    unfold K07.byE; rw [if_pos (by omega)]
  · have hl : ys.length + 40 ≤ 2048 := hl
    have hc : K08.ckE L = 0 := hc
    show K08.byE L ys = 0
    unfold K08.byE; rw [if_pos hc, if_pos (by omega)]
  · have hl : ys.length + 20 ≤ 2048 := hl
    have hc : K09.ckE L = 0 := hc
    show K09.byE L ys = 0
    unfold K09.byE; rw [if_pos hc, if_pos (by omega)]
  · have hl : ys.length + 8 ≤ 2048 := hl
    show K10.byE L ys = 0
    unfold K10.byE; rw [if_pos (by omega)]

theorem bB_bytes {k : Int} {L : List Value} {ys : List Int} (h : KHd k L) (hy : Bytes ys) : Bytes (bB k L ys) := by
  rcases six h.1 h.2.1 with rfl | rfl | rfl | rfl | rfl | rfl
  · obtain ⟨d, s, t, rfl, hx⟩ := h.2.2.1 rfl
    show Bytes (lB _ _)
    rw [lB_of hx]; exact K05.byB_bytes _ hx
  · exact K06.byB_bytes (h.2.2.2.1 rfl) hy
  · exact K07.byB_bytes (h.2.2.2.2.1 rfl) hy
  · exact K08.byB_bytes (h.2.2.2.2.2.1 rfl) hy
  · exact K09.byB_bytes (h.2.2.2.2.2.2.1 rfl) hy
  · exact K10.byB_bytes (h.2.2.2.2.2.2.2 rfl) hy

theorem bB_le {k : Int} {L : List Value} {ys : List Int} (h : KHd k L) : (bB k L ys).length ≤ 40 := by
  rcases six h.1 h.2.1 with rfl | rfl | rfl | rfl | rfl | rfl
  · obtain ⟨d, s, t, rfl, hx⟩ := h.2.2.1 rfl
    show (lB _ _).length ≤ 40
    rw [lB_of hx]; exact Nat.le_trans (K05.byB_length _ hx) (by omega)
  · exact Nat.le_trans (K06.byB_le (h.2.2.2.1 rfl)) (by omega)
  · exact Nat.le_trans (K07.byB_le (h.2.2.2.2.1 rfl)) (by omega)
  · exact Nat.le_trans (K08.byB_le (h.2.2.2.2.2.1 rfl)) (by omega)
  · exact Nat.le_trans (K09.byB_le (h.2.2.2.2.2.2.1 rfl)) (by omega)
  · exact Nat.le_trans (K10.byB_le (h.2.2.2.2.2.2.2 rfl)) (by omega)

/-- What was put on is read again. -/
theorem b_back {k : Int} {L : List Value} {ys : List Int} (h : KHd k L) (hy : Bytes ys) (he : bE k L ys = 0) : (bB k L ys).length = sz k ∧ rL k (bB k L ys ++ ys) = L ∧ rE k (bB k L ys ++ ys) = 0 := by
  rcases six h.1 h.2.1 with rfl | rfl | rfl | rfl | rfl | rfl
  · obtain ⟨d, s, t, rfl, hx⟩ := h.2.2.1 rfl
    have he : K05.byE ys.length = 0 := he
    have hn : ys.length ≤ 2034 := by unfold K05.byE at he; split at he <;> omega
    have eb : bB 1 (K05.lkC d s t) ys = K05.lkB d s t := by
      show lB _ _ = _
      rw [lB_of hx]; unfold K05.byB; rw [if_pos hn]
    rw [eb]
    have hl := K05.lkB_length hx
    obtain ⟨r1, r2, r3⟩ := K05.rd_lkB hx ys
    refine ⟨hl, ?_, ?_⟩
    · show K05.rdL _ = _
      unfold K05.rdL; rw [if_pos (by rw [List.length_append, hl]; omega), r1, r2, r3]
    · show K05.rdE _ = _
      unfold K05.rdE; rw [if_pos (by rw [List.length_append, hl]; omega)]
  · obtain ⟨h1, h2, h3, -⟩ := K06.m_back (h.2.2.2.1 rfl) hy he
    exact ⟨h1, h2, h3⟩
  · obtain ⟨h1, h2, h3, -⟩ := K07.m_back (h.2.2.2.2.1 rfl) hy he
    exact ⟨h1, h2, h3⟩
  · obtain ⟨h1, h2, h3, -⟩ := K08.m_back (h.2.2.2.2.2.1 rfl) hy he
    exact ⟨h1, h2, h3⟩
  · obtain ⟨h1, h2, h3, -⟩ := K09.m_back (h.2.2.2.2.2.2.1 rfl) hy he
    exact ⟨h1, h2, h3⟩
  · obtain ⟨h1, h2, h3, -⟩ := K10.m_back (h.2.2.2.2.2.2.2 rfl) hy he
    exact ⟨h1, h2, h3⟩

/-- A header's place in its head. -/
theorem hk_part {w : World} {g : Nat} {t : TypeId} {fz : Nat × Nat} {A L B : List Value} (H : List Value) (h : w.heap[g]? = some (.cells H.toArray t fz)) (hH : H = A ++ (L ++ B)) (n : Nat) (hA : A.length = n) : w.rangeAt g n L := by
  intro j v hv
  have hlt := (List.getElem?_eq_some_iff.1 hv).1
  rw [cell_of_row w g (n + j) _ _ _ h, List.getElem?_toArray, hH, List.getElem?_append_right (by omega), hA, Nat.add_sub_cancel_left, List.getElem?_append_left hlt]
  exact hv

/-- Headers put ahead of a payload, the last one first. -/
def wP : Hs → List Int → Option (List Int)
  | [], ys => some ys
  | x :: r, ys => match wP r ys with
    | some p => if bE x.1 x.2 p = 0 then some (bB x.1 x.2 p ++ p) else none
    | none => none

theorem wP_cons {x : Int × List Value} {r : Hs} {ys p : List Int} (h : wP (x :: r) ys = some p) : ∃ q, wP r ys = some q ∧ bE x.1 x.2 q = 0 ∧ p = bB x.1 x.2 q ++ q := by
  unfold wP at h
  split at h
  · rename_i q hq
    split at h
    · rename_i he
      cases h
      exact ⟨q, hq, he, rfl⟩
    · cases h
  · cases h

theorem wP_drop {out : Hs} {ys : List Int} : ∀ (m : Nat) {p : List Int}, wP out ys = some p → ∃ q, wP (out.drop m) ys = some q := by
  intro m
  induction m generalizing out with
  | zero => intro p h; exact ⟨p, by simpa using h⟩
  | succ m ih =>
    intro p h
    cases out with
    | nil => exact ⟨p, by simpa using h⟩
    | cons x r =>
      obtain ⟨q, hq, -, -⟩ := wP_cons h
      simpa using ih hq

end Go.Proofs.YtednmdkjhiihcaaGreat
