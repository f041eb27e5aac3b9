/- The program's Peel. -/
import Derived.Test.YthdgfhllieknlaaJi
namespace Go.Proofs.Ythdgfhllieknlaa
open Go.ChangeShapes Go.WideShapes Go.ChangeAt Go.RowKit
set_option maxRecDepth 10000

theorem range_own {w : World} {base g n c size o : Nat} {e : TypeId} {xs A F B : List Value} (h : w.ownsRow base e size (.slice (some ⟨g, 0, none⟩) n c) n xs) (hx : xs = A ++ (F ++ B)) (hA : A.length = o) : w.rangeAt g o F := by
  intro j v hv
  have hlt := (List.getElem?_eq_some_iff.1 hv).1
  have hl : xs.length = n * size := h.1
  rw [h.cellAt (o + j) (by rw [← hl, hx, List.length_append, List.length_append, hA]; omega), hx, List.getElem?_append_right (by omega), hA, Nat.add_sub_cancel_left, List.getElem?_append_left hlt]
  exact hv

/-- What is found at a place. -/
theorem fC_at (out : Hs) (i : Nat) (k : Int) (L : List Value) (h : out[i]? = some (k, L)) : ∃ B, fC 0 out = fC 0 (out.take i) ++ ((hk k L ++ [Value.int .i64 (hTot (out.take i) : Nat), Value.int .i64 (sz k : Nat)]) ++ B) := by
  obtain ⟨hlt, he⟩ := List.getElem?_eq_some_iff.1 h
  have e : out = out.take i ++ (k, L) :: out.drop (i + 1) := by
    rw [← he, List.getElem_cons_drop hlt, List.take_append_drop]
  refine ⟨fC (hTot (out.take i) + sz k) (out.drop (i + 1)), ?_⟩
  conv => lhs; rw [e]
  rw [fC_app, fC, Nat.zero_add]
theorem HsOk.take {l : Hs} (h : HsOk l) (i : Nat) : HsOk (l.take i) := fun x hx => h x (List.mem_of_mem_take hx)
theorem take_push (out : Hs) (i : Nat) (k : Int) (L : List Value) (h : out[i]? = some (k, L)) : out.take (i + 1) = out.take i ++ [(k, L)] := by
  obtain ⟨hlt, he⟩ := List.getElem?_eq_some_iff.1 h
  rw [List.take_succ_eq_append_getElem hlt, he]

theorem hTot_take (l : Hs) (i : Nat) : hTot (l.take i) ≤ hTot l := by
  have := hTot_app (l.take i) (l.drop i)
  rw [List.take_append_drop] at this
  omega
theorem range_pre {w : World} {g o : Nat} {A B : List Value} (h : w.rangeAt g o (A ++ B)) : w.rangeAt g o A := fun j v hv => h j v (by rw [List.getElem?_append_left (List.getElem?_eq_some_iff.1 hv).1]; exact hv)
theorem info_f75 : (Try.prog.info? 71).map (·.size) = some 75 := by kernel_rfl

theorem grown_below {w w' : World} (h : w.grownBy w' none) : Below w.heap.size w w' :=
  ((Kept.refl (fun _ => False) w).grown h (fun k e _ => by cases e)).below (Nat.le_refl _) (fun _ _ h => h)

theorem pe_err : ∀ (n : Nat) (k : Int) (out : Hs) (zs : List Int), ¬ (pe n k out zs).1 = 0 → pe n k out zs = ((pe n k out zs).1, [])
  | 0, _, _, _, _ => rfl
  | n + 1, k, out, zs, h => by
    unfold pe at h ⊢
    by_cases hr : rE k zs = 0
    · rw [if_pos hr] at h ⊢
      by_cases hn : nx (hk k (rL k zs)) = 0
      · rw [if_pos hn] at h; exact absurd rfl h
      · rw [if_neg hn] at h ⊢
        exact pe_err n _ _ _ h
    · rw [if_neg hr]
theorem PE_err {zs : List Int} (h : ¬ (PE zs).1 = 0) : PE zs = ((PE zs).1, []) := pe_err 8 1 [] zs h

set_option maxHeartbeats 2000000 in
theorem peel_any (a : Option Addr) (n c : Nat) (zs : List Int) (w : World) (hz' : zs.length = n) (hB : Bs w a zs) (hn0 : a = none → c = 0) (hc : n ≤ c) :
    Calls Try.prog 9 #[.slice a n c] w fun e w' => ∃ va vr, e = .returned (.tuple #[va, vr, .int .i64 (PE zs).1]) ∧ Heap w w' (plT w zs va vr) := by
  have hln : n ≤ 140737488355328 := by rw [← hz']; exact hB.len
  have HB := Hid.mk' hB
  have HZ := Hid.mk' hz'
  have HN0 := Hid.mk' hn0
  have HWK : Hid (Calls Try.prog 21 #[.slice a n c] w fun e w' => ∃ v, e = .returned (.tuple #[v, .int .i64 (PE zs).1]) ∧ w'.ownsRow w.heap.size 71 75 v (PE zs).2.length (fC 0 (PE zs).2) ∧ Below w.heap.size w w') := Hid.mk' (walk_any a n c zs w hz' hB hc)
  clear hB hz' hn0
  by_cases hE : (PE zs).1 = 0
  · obtain ⟨ok, fits, one, few⟩ := PE_ok HB.out.bytes hE
    rw [hE] at HWK
    rw [hE]
    unfold plT
    have HR : Hid (peR zs = zs.drop (hTot (PE zs).2)) := Hid.mk' (by unfold peR; rw [if_pos hE])
    rw [HR.out]
    obtain ⟨out, HO⟩ : ∃ out, Hid ((PE zs).2 = out) := ⟨_, rfl⟩
    rw [HO.out] at ok fits one few HWK
    rw [HO.out]
    rw [HZ.out] at fits
    clear HR hE
    have OK := Hid.mk' ok
    clear ok
    obtain ⟨N, HN⟩ : ∃ N, Hid (out.length = N) := ⟨_, rfl⟩
    rw [HN.out] at one few HWK
    rw [HN.out]
    obtain ⟨M, HM⟩ : ∃ M, Hid (hTot out = M) := ⟨_, rfl⟩
    rw [HM.out] at fits
    rw [HM.out]
    have SL : Hid ((zs.drop M).length = n - M) := Hid.mk' (by rw [List.length_drop, HZ.out])
    rw [SL.out]
    obtain ⟨i0, hif, hz0, hz1, hz2⟩ := info_parts info_head
    have hzs : (Value.agg hz.toArray).cells.size = 73 := by rfl
    have INF : Hid (Try.prog.info? 48 = some i0 ∧ i0.zero = some (.agg hz.toArray) ∧ i0.size = 73 ∧ i0.bytes = 100) := ⟨hif, hz0, hz1, hz2⟩
    clear hif hz0 hz1 hz2
    go_enter Try.func9, Try.ntmps9
    go_wp2_with fail
    refine HWK.out.mono ?_
    rintro e w1 ⟨v, rfl, own1, b1⟩
    obtain ⟨gl, cl, rfl, hcl⟩ := own_some own1 (by omega)
    have H1 : Hid (Heap w w1 [rowT w.heap.size 71 75 (.slice (some ⟨gl, 0, none⟩) N cl) N (fC 0 out)]) := Hid.mk' (by
      have h0 := Heap.nil b1
      refine ⟨fun T hT => ?_, ?_, fun T hT k hk => ?_, b1⟩
      · simp at hT; subst hT; exact own1
      · simp
      · simp at hT; subst hT; exact (own1.lt k hk).1)
    have hw1 := b1.size
    clear own1 b1 HWK
    go_wp2_with (at_make; go_loud (refine wpList_make_own _ rfl _ _ 24 rfl w.heap.size 48 i0 (.agg hz.toArray) 73 Try.underlying24 INF.out.1 INF.out.2.1 INF.out.2.2.1 _ _ _ N rfl rfl rfl (by rw [INF.out.2.2.2]; omega) (by unfold maxLen; omega) hw1 ?_; intro w2 own2 gr2; have H2 : Hid (Heap w w2 [rowT w.heap.size 71 75 (.slice (some ⟨gl, 0, none⟩) N cl) N (fC 0 out), rowT w.heap.size 48 73 (.slice (some ⟨w1.heap.size, 0, none⟩) 0 N) 0 (hsC (out.take 0))]) := Hid.mk' (H1.out.push (grown_below gr2) (rowT w.heap.size 48 73 (.slice (some ⟨w1.heap.size, 0, none⟩) 0 N) 0 (hsC (out.take 0))) own2 (fun j hj => by simp [rowT, Value.ownBlock] at hj; omega)); clear own2 gr2))
    go_loopg [7, 8, 25] N (fun f s7 s8 s25 wr => ∃ i : Nat, s25 = .int .i64 i ∧ s8 = .int .i64 (hTot (out.take i) : Nat) ∧ i ≤ N ∧ N - i ≤ f ∧ Hid (Heap w wr [rowT w.heap.size 71 75 (.slice (some ⟨gl, 0, none⟩) N cl) N (fC 0 out), rowT w.heap.size 48 73 s7 i (hsC (out.take i))]))
    case atStart => exact ⟨0, rfl, rfl, by omega, by omega, H2⟩
    case round =>
      obtain ⟨i, rfl, rfl, hi, hf, HH⟩ := hrel
      obtain ⟨sa, sc, hs⟩ := own_slice (HH.out.get (i := 1) rfl)
      subst hs
      by_cases hlt : i < N
      · obtain ⟨⟨k, L⟩, hx⟩ : ∃ x, out[i]? = some x := ⟨_, List.getElem?_eq_getElem (by rw [HN.out]; exact hlt)⟩
        have KH := Hid.mk' (hk_hh (OK.out (k, L) (List.mem_of_getElem? hx)))
        obtain ⟨B, hB⟩ := fC_at out i k L hx
        have HTP := Hid.mk' (take_push out i k L hx)
        have hPs := hTot_take out (i + 1)
        rw [HTP.out, hTot_app, HM.out] at hPs
        have HLA : Hid ((fC 0 (out.take i)).length = i * 75) := Hid.mk' (by rw [fC_len _ _ (OK.out.take i), List.length_take, HN.out, Nat.min_eq_left hi])
        obtain ⟨H, HHk⟩ : ∃ H, Hid (hk k L = H) := ⟨_, rfl⟩
        obtain ⟨s, HSZ⟩ : ∃ s, Hid (sz k = s) := ⟨_, rfl⟩
        obtain ⟨P, HP⟩ : ∃ P, Hid (hTot (out.take i) = P) := ⟨_, rfl⟩
        simp only [hTot] at hPs
        rw [HHk.out, HSZ.out, HP.out] at hB
        rw [HSZ.out, HP.out] at hPs
        rw [HP.out]
        rw [HHk.out] at KH
        have hP1 : Hid (hTot (out.take (i + 1)) = P + s) := Hid.mk' (by rw [HTP.out, hTot_app, HP.out]; simp [hTot, HSZ.out])
        have HS1 : Hid (hsC (out.take (i + 1)) = hsC (out.take i) ++ H) := Hid.mk' (by rw [HTP.out, hsC_push, HHk.out])
        obtain ⟨F, HF⟩ : ∃ F, Hid (H ++ [Value.int .i64 P, Value.int .i64 s] = F) := ⟨_, rfl⟩
        rw [HF.out] at hB
        have hh73 := Hid.mk' (hh_len KH.out)
        have hF75 : Hid (F.length = 75) := Hid.mk' (by rw [← HF.out, List.length_append, hh73.out]; rfl)
        have hF1 : Hid (F.toArray.all (·.oneCell') = true) := Hid.mk' (all_oneCell_toArray (by
          rw [← HF.out]; intro u hu
          rcases List.mem_append.1 hu with hu | hu
          · exact hh_mem KH.out u hu
          · simp at hu; rcases hu with rfl | rfl <;> rfl))
        have hhm := Hid.mk' (hh_mem KH.out)
        have RG : Hid (wr.rangeAt gl (i * 75) F) := Hid.mk' (range_own (HH.out.get (i := 0) rfl) hB HLA.out)
        have hbs : Hid (Try.prog.builtSlice 48 1 [(0, .agg H.toArray)] = some H.toArray) := Hid.mk' (bslice_1 H hh73.out)
        have H5 : Hid (Heap w (wr.alloc (.cells F.toArray 71)) [rowT w.heap.size 71 75 (.slice (some ⟨gl, 0, none⟩) N cl) N (fC 0 out), rowT w.heap.size 48 73 (.slice sa i sc) i (hsC (out.take i)), cellsT wr.heap.size F.toArray 71]) := HH.out.push ((Below.refl _ _).alloc (Nat.le_refl _) _) (cellsT wr.heap.size F.toArray 71) (heap_alloc_new wr _) (fun j hj => Nat.le_of_eq hj.symm)
        have R5 : Hid ((wr.alloc (.cells F.toArray 71)).rangeAt wr.heap.size 0 H) := Hid.mk' (range_pre (B := [Value.int .i64 P, Value.int .i64 s]) (by rw [HF.out]; exact range_block (heap_alloc_new wr _)))
        have OWN : Hid ((wr.alloc (.cells F.toArray 71)).ownsRow w.heap.size 48 73 (.slice sa i sc) i (hsC (out.take i))) := Hid.mk' (H5.out.get (i := 1) rfl)
        have CL : Hid (∀ (j : Nat) (u : Value), H[j]? = some u → ((wr.alloc (.cells F.toArray 71)).alloc (.cells H.toArray 48)).cell? ((⟨wr.heap.size + 1, 0, none⟩ : Addr).add j) = some u) := Hid.mk' (by
          have := cells_laid (wr.alloc (.cells F.toArray 71)) 48 H
          rwa [show (wr.alloc (.cells F.toArray 71)).heap.size = wr.heap.size + 1 by simp] at this)
        have hws := HH.out.old.size
        clear hB hx
        go_wp2_with (first
          | refine wpList_load_mid rfl 71 _ rfl gl (i * 75) rfl F _ RG.out Try.underlying71 rfl (by rw [hF75.out]; exact info_f75) ?_
          | refine wpList_store_new rfl 71 _ _ rfl _ _ F rfl rfl (by rw [hF75.out]; rfl) (by rw [hF75.out]; exact info_f75) hF1.out ?_
          | refine wpList_load_mid rfl 48 _ rfl wr.heap.size 0 rfl H _ R5.out Try.underlying48 rfl (by rw [hh73.out]; exact info_hh) ?_
          | refine Great.wpList_buildSliceTo rfl 24 48 1 #[(0, .tmp 31)] rfl (wr.heap.size + 1) (by simp) (some 32) rfl Try.underlying24 H.toArray (by simpa [Act.eval, Act.put] using hbs.out) ?_
          | (at_builtin; go_loud (refine wpList_append_own2 rfl _ _ 24 rfl w.heap.size 48 i0 (.agg hz.toArray) 73 100 Try.underlying24 INF.out.1 INF.out.2.1 INF.out.2.2.1 INF.out.2.2.2 hzs (by decide) (.slice sa i sc) i (hsC (out.take i)) rfl (World.ownsRow.alloc OWN.out _) ⟨wr.heap.size + 1, 0, none⟩ 1 1 H rfl (by rw [hh73.out]) CL.out hhm.out (by unfold maxLen; omega) (by omega) (by simp; omega) ?_; intro v' w6 hown6 hgr6 hob6; have H6 := Hid.mk' ((H5.out.below ((Below.refl _ _).alloc (Nat.le_refl _) (.cells H.toArray 48))).grown 1 rfl hown6 hgr6 hob6); have hbox : w6.heap[wr.heap.size]? = some (.cells F.toArray 71 (0, 0)) := H6.out.get (i := 2) rfl; have c73 : w6.cell? ⟨wr.heap.size, 73, none⟩ = some (.int .i64 P) := by { rw [cell_of_row w6 wr.heap.size 73 _ _ _ hbox, List.getElem?_toArray, ← HF.out, List.getElem?_append_right (by rw [hh73.out]; omega), hh73.out]; rfl }; have c74 : w6.cell? ⟨wr.heap.size, 74, none⟩ = some (.int .i64 s) := by { rw [cell_of_row w6 wr.heap.size 74 _ _ _ hbox, List.getElem?_toArray, ← HF.out, List.getElem?_append_right (by rw [hh73.out]; omega), hh73.out]; rfl }; clear hown6 hgr6 hob6 hbox)))
        go_roundg (N - (i + 1))
        case measure => omega
        case rel =>
          refine ⟨i + 1, by go_num, ?_, by omega, by omega, ?_⟩
          · rw [hP1.out]; go_num
          · rw [HS1.out]
            exact Heap.front (L := [_, _]) (M := [_]) H6.out
      · have hiN : i = N := by omega
        have HTK : Hid (out.take i = out) := Hid.mk' (List.take_of_length_le (by rw [HN.out]; omega))
        rw [HTK.out] at HH
        rw [HTK.out, HM.out]
        have hMc : M ≤ c := by omega
        have hsub : (if c = M then a else a.map (fun x => x.add M)) = subA a c M := rfl
        have SB : Hid (∀ u, Below w.heap.size w u → Bs u (subA a c M) (zs.drop M)) := Hid.mk' (fun u hu => bs_sub (HB.out.below hu) c M (by rw [HZ.out]; exact hc))
        obtain ⟨A1, HA1⟩ : ∃ A1, Hid (subA a c M = A1) := ⟨_, rfl⟩
        rw [HA1.out] at hsub SB
        subst hiN
        obtain ⟨q, rfl⟩ : ∃ q, n = M + q := ⟨n - M, by omega⟩
        rw [Nat.add_sub_cancel_left] at SL
        have hmk := make_bytes q (by omega)
        have hMq : (M : Int) + (q : Int) - (M : Int) = (q : Int) := by omega
        have hMq' : M + q - M = q := by omega
        obtain ⟨ZB, HZB⟩ : ∃ ZB, Hid ((List.replicate q (0 : Int)).map (Value.int .u8) = ZB) := ⟨_, rfl⟩
        rw [HZB.out] at hmk
        have hZl : Hid (ZB.length = q) := Hid.mk' (by rw [← HZB.out]; simp)
        have B4 : Hid (Below wr.heap.size wr (wr.alloc (.cells ZB.toArray 5))) := Hid.mk' ((Below.refl _ _).alloc (Nat.le_refl _) _)
        have G4 : Hid ((wr.alloc (.cells ZB.toArray 5)).heap[wr.heap.size]? = some (.cells ZB.toArray 5 (0, 0))) := Hid.mk' (heap_alloc_new wr _)
        have S4 : Hid (Bs (wr.alloc (.cells ZB.toArray 5)) A1 (zs.drop M)) := Hid.mk' (SB.out _ (HH.out.below B4.out).old)
        go_wp2_with (first | (refine wpList_copy rfl _ _ rfl wr.heap.size 0 q q (c - M) A1 rfl rfl (zs.drop M) ZB 5 G4.out S4.out SL.out (by rw [hZl.out]; omega) ?_; intro w5 hg5 hk5; have G5 := Hid.mk' hg5; have K5 := Hid.mk' hk5; clear hg5 hk5))
        go_ret3
        rw [put_all _ _ (by rw [hZl.out, List.length_map, SL.out])] at G5
        refine ⟨.slice sa i sc, .slice (some ⟨wr.heap.size, 0, none⟩) q q, rfl, ?_⟩
        rw [Nat.add_sub_cancel_left]
        have h5 := ((HH.out.push B4.out (cellsT wr.heap.size ZB.toArray 5) G4.out (fun j hj => Nat.le_of_eq hj.symm)).stepAt 2 _ rfl K5.out (rowT w.heap.size 5 1 (.slice (some ⟨wr.heap.size, 0, none⟩) q q) q ((zs.drop M).map (Value.int .u8))) ?_ (fun j hj => ?_))
        · exact h5.tail
        · have hY : ((zs.drop M).map (Value.int .u8)).length = q := by rw [List.length_map, SL.out]
          have G := G5.out
          show w5.ownsRow _ _ _ _ _ _
          generalize (zs.drop M).map (Value.int .u8) = YS at hY G ⊢
          exact ⟨by rw [hY, Nat.mul_one], .inr ⟨wr.heap.size, q, YS.toArray, rfl, HH.out.old.size, G, Nat.le_refl _, by unfold maxLen; omega, by simp [hY], by simp [← hY]⟩⟩
        · refine .inl ?_
          have : some wr.heap.size = some j := hj
          simp at this
          exact this.symm
  · have hd := Hid.mk' (PE_err hE)
    obtain ⟨E, HE⟩ : ∃ E, Hid ((PE zs).1 = E) := ⟨_, rfl⟩
    rw [HE.out] at hE HWK hd
    rw [HE.out]
    have hEb : (E == 0) = false := by simpa using hE
    rw [hd.out] at HWK
    go_enter Try.func9, Try.ntmps9
    go_wp2_with fail
    refine HWK.out.mono ?_
    rintro e w1 ⟨v, rfl, own1, b1⟩
    have HB1 := Hid.mk' b1
    clear own1 b1 HWK
    go_wp2_with fail
    go_ret3
    exact ⟨.slice none 0 0, .slice none 0 0, rfl, pl_err hd.out hE HB1.out⟩
end Go.Proofs.Ythdgfhllieknlaa
