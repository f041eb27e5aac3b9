/- The walk of FlowKnown. -/
import Derived.Test.YtffjddabjjcjpaaKf7
import Derived.Laws.MakeOwn
import Derived.Deep.CutBlock
namespace Go.Proofs.Ytffjddabjjcjpaa
open Go.ChangeShapes Go.WideShapes Go.ChangeAt Go.RowKit Go.Great
set_option maxRecDepth 20000

theorem insK_info : ∃ i, Try.prog.info? 37 = some i ∧ i.zero = some (.agg (q5C (0, 0, 0, 0, 0)).toArray) ∧ i.size = 5 ∧ i.bytes = 12 :=
  info_parts (z := .agg (q5C (0, 0, 0, 0, 0)).toArray) (by kernel_rfl)

/-- A block is laid, into a slot said. -/
theorem wpList_alloc_at {ops : Array Oper} {rest : List Oper} {o : Oper} {a : Act} {w : World} {Q : Exit → Act → World → Prop} (d : Nat) (_hd : o.dst = some d) (hgd : o.guard = none) (t : TypeId) (ho : o.op = .alloc t)
    (i : TypeInfo) (zs : Array Value) (hi : Try.prog.info? t = some i) (hz : i.zero = some (.agg zs))
    (h : ∀ w', w'.heap[w.heap.size]? = some (.cells zs t (0, 0)) → Below w.heap.size w w' → wpList Try.prog ops Q rest (a.put o.dst (.pointer (some ⟨w.heap.size, 0, none⟩))) w') : wpList Try.prog ops Q (o :: rest) a w :=
  wpList_alloc_big hgd t ho i zs hi hz (fun w' h1 h2 _ => h w' h1 h2)

theorem q5C_one (q : Q5) : (q5C q).toArray.all (·.oneCell') = true := by simp [q5C, Value.oneCell']

theorem rep_succ (k : Nat) : q5L (List.replicate (k + 1) xQ) = q5L (List.replicate k xQ) ++ q5C xQ := by
  rw [List.replicate_succ']
  simp [q5L]
theorem rep_len (k : Nat) : (q5L (List.replicate k xQ)).length = k * 5 := by
  induction k with
  | zero => rfl
  | succ k ih => rw [rep_succ, List.length_append, ih]; simp [q5C]; omega

/-- A row of instructions in a block. -/
theorem lie_block {w : World} {g : Nat} {t : TypeId} {fr : Nat × Nat} {M : List Q5} (h : w.heap[g]? = some (.cells (q5L M).toArray t fr)) : Lie w g 0 M := by
  intro k p d s o i hk
  obtain ⟨a0, a1, a2, a3, a4⟩ := q5L_at M k _ hk
  have e : ∀ j, w.cell? ⟨g, 0 + j, none⟩ = (q5L M)[j]? := fun j => by rw [Nat.zero_add, cell_of_row w g j _ _ _ h, List.getElem?_toArray]
  exact ⟨(e _).trans a0, by rw [Nat.add_assoc]; exact (e _).trans a1, by rw [Nat.add_assoc]; exact (e _).trans a2, by rw [Nat.add_assoc]; exact (e _).trans a3, by rw [Nat.add_assoc]; exact (e _).trans a4⟩

def PA7 : List Q5 := [(23, 0, 0, 0, 0), (36, 0, 0, 0, 0)]
theorem nxA7 : nxE PA7 0 = 0 ∧ nxV PA7 0 = [1] := by decide
theorem nxB7 : nxE L3 6 = 2 := by decide
theorem nxC7 : nxE L3 5 = 0 ∧ nxV L3 5 = [] := by decide
theorem nextA7 (u : Value) (w : World) (h : Cd w u PA7) : Calls Try.prog 9 #[u, .int .i64 0] w fun e w' => (∃ r, e = .returned (.tuple #[r, .int .i64 0]) ∧ Iw w' w.heap.size r [1]) ∧ Below w.heap.size w w' := by
  have := next_f u 0 w h (by decide) (by decide)
  rw [nxA7.1, nxA7.2] at this
  exact this
theorem nextB7 (u : Value) (w : World) (h : Cd w u L3) : Calls Try.prog 9 #[u, .int .i64 6] w fun e w' => (∃ r, e = .returned (.tuple #[r, .int .i64 2])) ∧ Below w.heap.size w w' := by
  have := next_f u 6 w h (by decide) (by decide)
  rw [nxB7] at this
  exact this.mono (fun e w' ⟨⟨r, h1, _⟩, h2⟩ => ⟨⟨r, h1⟩, h2⟩)
theorem nextC7 (u : Value) (w : World) (h : Cd w u L3) : Calls Try.prog 9 #[u, .int .i64 5] w fun e w' => (∃ a c, e = .returned (.tuple #[.slice a 0 c, .int .i64 0])) ∧ Below w.heap.size w w' := by
  have := next_f u 5 w h (by decide) (by decide)
  rw [nxC7.1, nxC7.2] at this
  refine this.mono ?_
  rintro e w' ⟨⟨r, rfl, hI⟩, hb⟩
  obtain ⟨a, c, rfl, -⟩ := hI.lies
  exact ⟨⟨a, c, rfl⟩, hb⟩
theorem exQ7 : Value.agg (q5C xQ).toArray = .agg #[.int .u8 36, .int .u8 0, .int .u8 0, .int .i16 0, .int .i32 0] := rfl
set_option maxHeartbeats 8000000 in
theorem walkFlowKnown (W : World) : Calls Try.prog 7 #[] W fun e w' => e = .returned (.bool true) ∧ Below W.heap.size W w' := by
  obtain ⟨iN, hiN, hzN, hsN, hbN⟩ := insK_info
  have HiN := Hid.mk' hiN
  have HzN := Hid.mk' hzN
  clear hiN hzN
  go_enter Try.func7, Try.ntmps7
  go_wp2_with fail
  refine (op_is 34 _).mono ?_
  rintro e w1 ⟨rfl, b1⟩
  go_wp2_with fail
  refine (op_is 36 _).mono ?_
  rintro e w2 ⟨rfl, b2⟩
  have B2 := Hid.mk' (b1.trans (b2.mono b1.size))
  clear b1 b2
  go_upto_block 0 with (first
    | (refine wpList_alloc_at 1 rfl rfl 37 rfl iN _ HiN.out HzN.out ?_; intro wA hA bA)
    | (refine wpList_alloc_at 2 rfl rfl 37 rfl iN _ HiN.out HzN.out ?_; intro wB hB bB)
    | (refine wpList_alloc_at 3 rfl rfl 37 rfl iN _ HiN.out HzN.out ?_; intro wC hC bC)
    | (refine wpList_store_over rfl 37 _ _ rfl w2.heap.size 37 (q5C (0, 0, 0, 0, 0)) (q5C eQ) rfl rfl ((bC.block _ (by have := bB.size; have := (Array.getElem?_eq_some_iff.1 hA).1; omega)).trans ((bB.block _ (Array.getElem?_eq_some_iff.1 hA).1).trans hA)) 5 rfl rfl ins_size (q5C_one _) ?_; intro wD hD kD sD0; have sD := Hid.mk' sD0; clear sD0)
    | (refine wpList_store_over rfl 37 _ _ rfl wA.heap.size 37 (q5C (0, 0, 0, 0, 0)) (q5C xQ) rfl rfl (by rw [kD.block wA.heap.size (by have := bC.size; have := (Array.getElem?_eq_some_iff.1 hB).1; omega) (by have := (Array.getElem?_eq_some_iff.1 hA).1; omega), bC.block _ (Array.getElem?_eq_some_iff.1 hB).1]; exact hB) 5 rfl rfl ins_size (q5C_one _) ?_; intro wE hE kE sE0; have sE := Hid.mk' sE0; clear sE0)
    | (refine wpList_store_over rfl 37 _ _ rfl wB.heap.size 37 (q5C (0, 0, 0, 0, 0)) (q5C sQ) rfl rfl (by rw [kE.block wB.heap.size (by rw [sD.out]; exact (Array.getElem?_eq_some_iff.1 hC).1) (by have := (Array.getElem?_eq_some_iff.1 hB).1; omega), kD.block wB.heap.size (Array.getElem?_eq_some_iff.1 hC).1 (by have := (Array.getElem?_eq_some_iff.1 hA).1; have := bB.size; omega)]; exact hC) 5 rfl rfl ins_size (q5C_one _) ?_; intro wF hF kF sF0; have sF := Hid.mk' sF0; clear sF0)
    | (refine wpList_make_full _ rfl _ _ 22 rfl wF.heap.size 37 iN _ 5 Try.underlying22 HiN.out HzN.out hsN .i64 .i64 257 257 257 rfl rfl rfl rfl (by rw [hbN]; omega) (by unfold maxLen; omega) (Nat.le_refl _) ?_; intro wG hownG hgrG; have HG := Hid.mk' hownG; have HH := Hid.mk' hgrG; clear hownG hgrG))
  obtain ⟨g1, hg1⟩ : ∃ g1, w2.heap.size = g1 := ⟨_, rfl⟩
  obtain ⟨g2, hg2⟩ : ∃ g2, wA.heap.size = g2 := ⟨_, rfl⟩
  obtain ⟨g3, hg3⟩ : ∃ g3, wB.heap.size = g3 := ⟨_, rfl⟩
  obtain ⟨gm, hgm⟩ : ∃ gm, wF.heap.size = gm := ⟨_, rfl⟩
  have sD := sD.out
  have sE := sE.out
  have sF := sF.out
  have zA := (Array.getElem?_eq_some_iff.1 hA).1
  have zB := (Array.getElem?_eq_some_iff.1 hB).1
  have zC := (Array.getElem?_eq_some_iff.1 hC).1
  have BG : Hid (Below g1 w2 wG) := Hid.mk' (by
    have h1 : Below g1 w2 wC := by
      rw [← hg1]
      exact bA.trans ((bB.mono (by omega)).trans (bC.mono (by omega)))
    have h2 := h1.trans (kD.below (B := g1) (by omega) (fun j hj e => by omega))
    have h3 := h2.trans (kE.below (B := g1) (by omega) (fun j hj e => by omega))
    have h4 := h3.trans (kF.below (B := g1) (by omega) (fun j hj e => by omega))
    exact h4.trans ⟨HH.out.os, HH.out.tape, HH.out.output, HH.out.size, fun k hk => HH.out.block k (by have := h4.size; omega) (by simp)⟩)
  have EG : Hid (wG.heap[g1]? = some (.cells (q5C eQ).toArray 37 (0, 0)) ∧ wG.heap[g2]? = some (.cells (q5C xQ).toArray 37 (0, 0)) ∧ wG.heap[g3]? = some (.cells (q5C sQ).toArray 37 (0, 0))) := Hid.mk' (by
    rw [HH.out.block g1 (by omega) (by simp), HH.out.block g2 (by omega) (by simp), HH.out.block g3 (by omega) (by simp)]
    refine ⟨?_, ?_, ?_⟩
    · rw [kF.block g1 (by omega) (by omega), kE.block g1 (by omega) (by omega), ← hg1]; exact hD
    · rw [kF.block g2 (by omega) (by omega), ← hg2]; exact hE
    · rw [← hg3]; exact hF)
  have l4 : g3 < gm := by omega
  have l12 : g1 < g2 := by omega
  have l23 : g2 < g3 := by omega
  have hgmG : Hid (∃ C : List Value, wG.heap[gm]? = some (.cells C.toArray 37 (0, 0)) ∧ C.length = 1285) := Hid.mk' (by
    rcases HG.out.2 with ⟨-, h0⟩ | ⟨g, cap, cur, e, hgb, hg, h1, h2, h3, h4⟩
    · omega
    · simp only [Value.slice.injEq, Option.some.injEq, Addr.mk.injEq, and_true] at e
      obtain ⟨e1, e2, e3⟩ := e
      refine ⟨cur.toList, by rw [← hgm, e1, hg], ?_⟩
      simp [h3, ← e3])
  rw [hg1, hg2, hg3, hgm]
  clear HG HH hA hB hC hD hE hF bA bB bC kD kE kF sD sE sF zA zB zC HiN HzN
  go_cut [5] from 32 to 41 (fun s5 wx => Hid (Below g1 w2 wx ∧ (wx.heap[g1]? = some (.cells (q5C eQ).toArray 37 (0, 0)) ∧ wx.heap[g2]? = some (.cells (q5C xQ).toArray 37 (0, 0)) ∧ wx.heap[g3]? = some (.cells (q5C sQ).toArray 37 (0, 0))) ∧ Lie wx gm 0 (List.replicate 257 xQ)))
  case first =>
    as_aux_lemma =>
    go_wp2_with fail
    go_loopw [5] (fun i wr => ∃ k : Nat, k ≤ 257 ∧ i = .int .i64 k ∧ Hid (Kept (fun j => j = gm) wG wr) ∧ Hid (∃ C : List Value, wr.heap[gm]? = some (.cells C.toArray 37 (0, 0)) ∧ C.length = 1285 ∧ C.take (k * 5) = q5L (List.replicate k xQ))) (fun i _ => 257 - (intOf i).toNat)
    case atStart => exact ⟨0, by omega, rfl, Hid.mk' (Kept.refl _ _), Hid.mk' (by
      obtain ⟨C, h1, h2⟩ := hgmG.out
      exact ⟨C, h1, h2, by simp [q5L]⟩)⟩
    case round =>
      obtain ⟨k, hk, rfl, hK, hC⟩ := hrel
      by_cases hlt : k < 257
      · have hlk : (k : Int) < 257 := by omega
        obtain ⟨C, h1, h2, h3⟩ := hC.out
        have x2 : wr.heap[g2]? = some (.cells (q5C xQ).toArray 37 (0, 0)) := by rw [hK.out.block g2 (Array.getElem?_eq_some_iff.1 EG.out.2.1).1 (by omega)]; exact EG.out.2.1
        have X2 := Hid.mk' x2
        have H1 := Hid.mk' h1
        have H2 := Hid.mk' h2
        have H3 := Hid.mk' h3
        clear x2 h1 h2 h3
        obtain ⟨XL, hXL⟩ : ∃ XL : List Value, q5C xQ = XL := ⟨_, rfl⟩
        have hXl : XL.length = 5 := by rw [← hXL]; rfl
        have hX1 : XL.toArray.all (·.oneCell') = true := by rw [← hXL]; exact q5C_one _
        rw [hXL] at X2
        have HXl := Hid.mk' hXl
        have HXL := Hid.mk' hXL
        have HX1 := Hid.mk' hX1
        clear hXL hXl hX1
        have HTh : Hid (wr.there gm (k * 5) XL.toArray.size) := Hid.mk' (fun j hj => ⟨by rw [cell_of_row wr gm _ _ _ _ H1.out, List.getElem?_toArray, List.getElem?_eq_getElem (by rw [List.size_toArray, HXl.out] at hj; rw [H2.out]; omega)]; rfl, frozen_of_row wr gm _ _ _ H1.out⟩)
        have HSz : Hid ((Try.prog.info? 37).map (·.size) = some XL.toArray.size) := Hid.mk' (by rw [List.size_toArray, HXl.out]; exact ins_size)
        have HSET := Hid.mk' (heap_setCells gm 37 XL (k * 5) wr C.toArray H1.out (by rw [List.size_toArray, H2.out, HXl.out]; omega))
        go_wp2_with (first
          | (refine wpList_load_big rfl 37 _ rfl g2 37 XL rfl X2.out _ Try.underlying37 rfl 5 HXl.out ins_size ?_)
          | (refine wpList_store_mid rfl 37 _ _ rfl gm (k * 5) XL.toArray rfl rfl HTh.out HSz.out HX1.out ?_))
        go_roundw
        case rel => exact ⟨k + 1, by omega, by go_num, Hid.mk' (hK.out.setCells gm (k * 5) _ (fun _ => rfl)), Hid.mk' ⟨_, HSET.out, by
            simp only [List.length_append, List.length_take, List.length_drop, HXl.out, H2.out]; omega, by
            rw [rep_succ, ← H3.out, HXL.out]
            show (C.take (k * 5) ++ XL ++ C.drop (k * 5 + XL.length)).take ((k + 1) * 5) = _
            rw [List.take_append_of_le_length (by simp only [List.length_append, List.length_take, HXl.out, H2.out]; omega)]
            exact List.take_of_length_le (by simp only [List.length_append, List.length_take, HXl.out, H2.out]; omega)⟩⟩
        case measure => simp [intOf]; omega
      · have hlk : ¬ (k : Int) < 257 := by omega
        have hk257 : k = 257 := by omega
        subst hk257
        go_wp2_with fail
        go_meet
        obtain ⟨C, h1, h2, h3⟩ := hC.out
        refine Hid.mk' ⟨BG.out.trans (hK.out.below (by have := (Array.getElem?_eq_some_iff.1 EG.out.1).1; omega) (fun j hj e => by omega)), ⟨?_, ?_, ?_⟩, ?_⟩
        · rw [hK.out.block g1 (Array.getElem?_eq_some_iff.1 EG.out.1).1 (by omega)]; exact EG.out.1
        · rw [hK.out.block g2 (Array.getElem?_eq_some_iff.1 EG.out.2.1).1 (by omega)]; exact EG.out.2.1
        · rw [hK.out.block g3 (Array.getElem?_eq_some_iff.1 EG.out.2.2).1 (by omega)]; exact EG.out.2.2
        · rw [List.take_of_length_le (by omega)] at h3
          rw [h3] at h1
          exact lie_block h1
  case rest =>
    obtain ⟨v1, hv1⟩ : ∃ v1, v1 = wc := ⟨_, rfl⟩
    subst hv1
    have HC := hcut
    have BW : Hid (Below W.heap.size W v1) := Hid.mk' (B2.out.trans (HC.out.1.mono (by have := B2.out.size; omega)))
    clear hcut BG EG hgmG B2
    go_upto_region 7 with fail
    go_cut [6] from 42 to 120 (fun s6 wx => Hid (Below v1.heap.size v1 wx ∧ ph7 gm 79 s6 wx))
    case first =>
      as_aux_lemma =>
      refine wp_region_any (by kernel_rfl) (rgn_map (ph7 gm) D7 ds7 OL7 80 g1 g2 g3 gm ix7 _ _ _ _ (ph7_mono gm) all7G low7 ix7_1 ix7_2 (by kernel_rfl) (by kernel_rfl) (by kernel_rfl) (by kernel_rfl) (by kernel_rfl) ?_ ?_)
      · exact ⟨rfl, rfl, rfl, rfl, range_blk HC.out.2.1.1, range_blk HC.out.2.1.2.1, range_blk HC.out.2.1.2.2, HC.out.2.2⟩
      · intro f wx hb hf
        rename_i J K' hJ hK'
        refine hK' _ _ (Met.intro ?_)
        refine hJ _ _ ?_
        repeat apply Exists.intro
        refine ⟨?rel, rfl⟩
        exact Hid.mk' ⟨⟨hb.os, hb.tape, hb.output, hb.size, hb.block⟩, hf 79 (by omega)⟩
    case rest =>
      obtain ⟨v2, hv2⟩ : ∃ v2, v2 = wc := ⟨_, rfl⟩
      subst hv2
      obtain ⟨gc, rfl, hcs⟩ : ∃ g, u6 = .slice (some ⟨g, 0, none⟩) 20 20 ∧ ∀ k, k < 20 → ∃ u, v2.cell? ⟨g, k, none⟩ = some u ∧ Cd v2 u (cdK.getD k []) := hcut.out.2
      have HCS := Hid.mk' hcs
      have E2 : Hid (v2.rangeAt g1 0 (q5C eQ) ∧ v2.rangeAt g2 0 (q5C xQ) ∧ v2.rangeAt g3 0 (q5C sQ) ∧ Lie v2 gm 0 (List.replicate 257 xQ)) := Hid.mk' ⟨range_below (range_blk HC.out.2.1.1) hcut.out.1, range_below (range_blk HC.out.2.1.2.1) hcut.out.1, range_below (range_blk HC.out.2.1.2.2) hcut.out.1, HC.out.2.2.below hcut.out.1⟩
      have B2 : Hid (Below W.heap.size W v2) := Hid.mk' (BW.out.trans (hcut.out.1.mono BW.out.size))
      clear hcs hcut HC BW
      go_upto_block 2 with fail
      obtain ⟨v3, hv3⟩ : ∃ v3, v3 = (v2.alloc (.cells #[.int .i64 0, .int .i64 0, .int .i64 1, .int .i64 0, .int .i64 0, .int .i64 0, .int .i64 0, .int .i64 0, .int .i64 0, .int .i64 0, .int .i64 0, .int .i64 3, .int .i64 0, .int .i64 0, .int .i64 2, .int .i64 1, .int .i64 0, .int .i64 0, .int .i64 1, .int .i64 1] 3)).alloc (.cells #[.int .i64 140, .int .i64 3, .int .i64 130, .int .i64 140, .int .i64 140, .int .i64 140, .int .i64 0, .int .i64 140, .int .i64 140, .int .i64 0, .int .i64 0, .int .i64 140, .int .i64 0, .int .i64 0, .int .i64 140, .int .i64 140, .int .i64 0, .int .i64 0, .int .i64 140, .int .i64 130] 25) := ⟨_, rfl⟩
      have HP : Hid (∀ k, k < 20 → v3.cell? ⟨v2.heap.size, k, none⟩ = some (.int .i64 (pl7.getD k 0 : Nat))) := Hid.mk' (fun k hk => by
        rw [hv3, World.cell?_alloc2_first]
        have h : k < pl7.length := hk
        show (pl7.map fun (n : Nat) => Value.int .i64 (n : Int)).toArray[k]? = _
        simp [h])
      have HE : Hid (∀ k, k < 20 → v3.cell? ⟨v2.heap.size + 1, k, none⟩ = some (.int .i64 (er7.getD k 0))) := Hid.mk' (fun k hk => by
        rw [hv3, World.cell?_alloc2_new]
        have h : k < er7.length := hk
        show (er7.map fun (n : Int) => Value.int .i64 n).toArray[k]? = _
        simp [h])
      have B23 : Below v2.heap.size v2 v3 := by rw [hv3]; exact ((Below.refl _ _).alloc (Nat.le_refl _) _).alloc (by simp) _
      have hs3 : v3.heap.size = v2.heap.size + 2 := by rw [hv3]; simp
      have B3 := Hid.mk' (B2.out.trans (B23.mono B2.out.size))
      have E3 : Hid (v3.rangeAt g1 0 (q5C eQ) ∧ v3.rangeAt g2 0 (q5C xQ) ∧ v3.rangeAt g3 0 (q5C sQ) ∧ Lie v3 gm 0 (List.replicate 257 xQ)) := Hid.mk' ⟨range_below E2.out.1 B23, range_below E2.out.2.1 B23, range_below E2.out.2.2.1 B23, E2.out.2.2.2.below B23⟩
      have CS3 : Hid (∀ k, k < 20 → ∃ u, v3.cell? ⟨gc, k, none⟩ = some u ∧ Cd v3 u (cdK.getD k [])) := Hid.mk' (fun k hk => by
        obtain ⟨u, h1, h2⟩ := HCS.out k hk
        exact ⟨u, (B23.cell (lt_of_cell h1)).trans h1, h2.below B23⟩)
      rw [← hv3]
      clear hv3 B2 E2 HCS B23
      go_wp2_with fail
      go_loopw [9] (fun i wr => ∃ k : Nat, k ≤ 20 ∧ i = .int .i64 k ∧ Hid (Below v3.heap.size v3 wr)) (fun i _ => 20 - (intOf i).toNat)
      case atStart => exact ⟨0, by omega, rfl, Hid.mk' (Below.refl _ _)⟩
      case round =>
        obtain ⟨k, hk, rfl, hB⟩ := hrel
        by_cases hlt : k < 20
        · have hlk : (k : Int) < 20 := by omega
          obtain ⟨u, hu1, hu2⟩ := CS3.out k hlt
          have hck := ck7 k hlt
          have hp1 := HP.out k hlt
          have he1 := HE.out k hlt
          obtain ⟨P, hP⟩ : ∃ P, pl7.getD k 0 = P := ⟨_, rfl⟩
          obtain ⟨E, hE⟩ : ∃ E, er7.getD k 0 = E := ⟨_, rfl⟩
          rw [hP] at hp1
          rw [hE] at he1
          rw [hP, hE] at hck
          have KCk : Hid (∀ w', Below v3.heap.size v3 w' → Calls Try.prog 14 #[u] w' fun e w'' => e = .returned (.tuple #[.int .i64 P, .int .i64 E]) ∧ Below w'.heap.size w' w'') := Hid.mk' (fun w' hw => by
            have := check_f u w' (hu2.below hw)
            rw [hck] at this
            exact this)
          have KLo : Hid (∀ w', Below v3.heap.size v3 w' → Calls Try.prog 16 #[u] w' fun e w'' => (∃ r, e = .returned (.tuple #[r, .int .i64 E])) ∧ Below w'.heap.size w' w'') := Hid.mk' (fun w' hw => by
            have := loops_f u w' (hu2.below hw)
            rw [hck] at this
            refine this.mono ?_
            rintro e w'' ⟨⟨r, rfl, -⟩, hb⟩
            exact ⟨⟨r, rfl⟩, hb⟩)
          have KSt : Hid (∀ w', Below v3.heap.size v3 w' → Calls Try.prog 15 #[u] w' fun e w'' => (∃ s, e = .returned (.tuple #[.int .i64 s, .int .i64 E])) ∧ Below w'.heap.size w' w'') := Hid.mk' (fun w' hw => by
            have := steps_f u w' (hu2.below hw)
            rw [hck] at this
            refine this.mono ?_
            rintro e w'' ⟨rfl, hb⟩
            exact ⟨⟨_, rfl⟩, hb⟩)
          have hnx : nxE (cdK.getD k []) (-1) = if E = 0 then 2 else E := by
            unfold nxE
            rw [hck]
            simp only []
            by_cases c : E = 0
            · rw [if_pos c, if_pos c, if_pos (.inl (by omega))]
            · rw [if_neg c, if_neg c]
          obtain ⟨N, hN⟩ : ∃ N, (if E = 0 then (2 : Int) else E) = N := ⟨_, rfl⟩
          have KNx : Hid (∀ w', Below v3.heap.size v3 w' → Calls Try.prog 9 #[u, .int .i64 (-1)] w' fun e w'' => (∃ r, e = .returned (.tuple #[r, .int .i64 N])) ∧ Below w'.heap.size w' w'') := Hid.mk' (fun w' hw => by
            have := next_f u (-1) w' (hu2.below hw) (by decide) (by decide)
            rw [hnx, hN] at this
            refine this.mono ?_
            rintro e w'' ⟨⟨r, rfl, -⟩, hb⟩
            exact ⟨⟨r, rfl⟩, hb⟩)
          have CU : Hid (∀ w', Below v3.heap.size v3 w' → w'.cell? ⟨gc, k, none⟩ = some u ∧ w'.cell? ⟨v2.heap.size, k, none⟩ = some (.int .i64 P) ∧ w'.cell? ⟨v2.heap.size + 1, k, none⟩ = some (.int .i64 E)) := Hid.mk' (fun w' hw => ⟨(hw.cell (lt_of_cell hu1)).trans hu1, (hw.cell (lt_of_cell hp1)).trans hp1, (hw.cell (lt_of_cell he1)).trans he1⟩)
          clear hu1 hu2 hck hp1 he1 hP hE hnx
          have hbs := hB.out.size
          obtain ⟨x0, x1, x2⟩ := CU.out _ hB.out
          go_wp2_with fail
          refine (KCk.out _ hB.out).mono ?_
          rintro e wa ⟨rfl, ba⟩
          have Ba := Hid.mk' (hB.out.trans (ba.mono hbs))
          clear ba x0 x1 x2
          obtain ⟨x0, x1, x2⟩ := CU.out _ Ba.out
          go_wp2_with fail
          refine (KLo.out _ Ba.out).mono ?_
          rintro e wb ⟨⟨r1, rfl⟩, bb⟩
          have Bb := Hid.mk' (Ba.out.trans (bb.mono Ba.out.size))
          clear bb x0 x1 x2
          obtain ⟨x0, x1, x2⟩ := CU.out _ Bb.out
          go_wp2_with fail
          refine (KNx.out _ Bb.out).mono ?_
          rintro e wd ⟨⟨r2, rfl⟩, bd⟩
          have Bd := Hid.mk' (Bb.out.trans (bd.mono Bb.out.size))
          clear bd x0 x1 x2
          obtain ⟨x0, x1, x2⟩ := CU.out _ Bd.out
          go_wp2_with fail
          refine (KSt.out _ Bd.out).mono ?_
          rintro e we ⟨⟨s1, rfl⟩, be⟩
          have Be := Hid.mk' (Bd.out.trans (be.mono Bd.out.size))
          clear be x0 x1 x2
          by_cases hE0 : E = 0
          · subst hE0
            rw [if_pos rfl] at hN
            subst hN
            go_wp2_with fail
            go_roundw
            case rel => exact ⟨k + 1, by omega, by go_num, Be⟩
            case measure => simp [intOf]; omega
          · have hb1 : (E == 0) = false := by simp [hE0]
            have hb2 : (E != 0) = true := by simp [hE0]
            rw [if_neg hE0] at hN
            subst hN
            go_wp2_with fail
            go_roundw
            case rel => exact ⟨k + 1, by omega, by go_num, Be⟩
            case measure => simp [intOf]; omega
        · have hlk : ¬ (k : Int) < 20 := by omega
          obtain ⟨v4, hv4⟩ : ∃ v4, v4 = wr := ⟨_, rfl⟩
          subst hv4
          have E4 : Hid (v4.rangeAt g1 0 (q5C eQ) ∧ v4.rangeAt g2 0 (q5C xQ) ∧ v4.rangeAt g3 0 (q5C sQ) ∧ Lie v4 gm 0 (List.replicate 257 xQ)) := Hid.mk' ⟨range_below E3.out.1 hB.out, range_below E3.out.2.1 hB.out, range_below E3.out.2.2.1 hB.out, E3.out.2.2.2.below hB.out⟩
          have B4 := Hid.mk' (B3.out.trans (hB.out.mono B3.out.size))
          clear hB E3 CS3 HP HE B3 hs3
          go_upto_region 21 with fail
          go_cut [18, 19] from 200 to 212 (fun s18 s19 wx => s18 = .int .i64 8738 ∧ s19 = .int .i64 0 ∧ Hid (Below v4.heap.size v4 wx))
          case first =>
            as_aux_lemma =>
            refine wp_region_any (by kernel_rfl) (rgn_map ph8 D8 ds8 OL8 15 g1 g2 g3 gm ix8 _ _ _ _ ph8_mono all8 low8 ix8_1 ix8_2 (by kernel_rfl) (by kernel_rfl) (by kernel_rfl) (by kernel_rfl) (by kernel_rfl) ?_ ?_)
            · exact ⟨rfl, rfl, rfl, rfl, E4.out.1, E4.out.2.1, E4.out.2.2.1, E4.out.2.2.2⟩
            · intro f wx hb hf
              rename_i J K' hJ hK'
              refine hK' _ _ (Met.intro ?_)
              refine hJ _ _ ?_
              repeat apply Exists.intro
              refine ⟨?relx, rfl⟩
              exact ⟨hf 13 (by omega), hf 14 (by omega), Hid.mk' ⟨hb.os, hb.tape, hb.output, hb.size, hb.block⟩⟩
          case rest =>
            obtain ⟨v5, hv5⟩ : ∃ v5, v5 = wc := ⟨_, rfl⟩
            subst hv5
            obtain ⟨hs18, hs19, hB5⟩ := hcut
            subst hs18
            subst hs19
            have E5 : Hid (v5.rangeAt g1 0 (q5C eQ) ∧ v5.rangeAt g2 0 (q5C xQ) ∧ v5.rangeAt g3 0 (q5C sQ) ∧ Lie v5 gm 0 (List.replicate 257 xQ)) := Hid.mk' ⟨range_below E4.out.1 hB5.out, range_below E4.out.2.1 hB5.out, range_below E4.out.2.2.1 hB5.out, E4.out.2.2.2.below hB5.out⟩
            have B5 := Hid.mk' (B4.out.trans (hB5.out.mono B4.out.size))
            clear hB5 E4 B4
            go_upto_region 22 with fail
            go_cut [20, 21] from 213 to 220 (fun s20 s21 wx => s21 = .int .i64 0 ∧ Iw wx v5.heap.size s20 [2] ∧ Hid (Below v5.heap.size v5 wx))
            case first =>
              as_aux_lemma =>
              refine wp_region_any (by kernel_rfl) (rgn_map (ph9 v5.heap.size) D9 ds9 OL9 10 g1 g2 g3 gm ix9 _ _ _ _ (ph9_mono _) all9 low9 ix9_1 ix9_2 (by kernel_rfl) (by kernel_rfl) (by kernel_rfl) (by kernel_rfl) (by kernel_rfl) ?_ ?_)
              · exact ⟨rfl, rfl, rfl, rfl, E5.out.1, E5.out.2.1, E5.out.2.2.1, E5.out.2.2.2⟩
              · intro f wx hb hf
                rename_i J K' hJ hK'
                refine hK' _ _ (Met.intro ?_)
                refine hJ _ _ ?_
                repeat apply Exists.intro
                refine ⟨?rely, rfl⟩
                exact ⟨hf 9 (by omega), hf 8 (by omega), Hid.mk' ⟨hb.os, hb.tape, hb.output, hb.size, hb.block⟩⟩
            case rest =>
              obtain ⟨v6, hv6⟩ : ∃ v6, v6 = wc := ⟨_, rfl⟩
              subst hv6
              obtain ⟨hs21, hi20, hB6⟩ := hcut
              subst hs21
              have E6 : Hid (v6.rangeAt g1 0 (q5C eQ) ∧ v6.rangeAt g2 0 (q5C xQ) ∧ v6.rangeAt g3 0 (q5C sQ) ∧ Lie v6 gm 0 (List.replicate 257 xQ)) := Hid.mk' ⟨range_below E5.out.1 hB6.out, range_below E5.out.2.1 hB6.out, range_below E5.out.2.2.1 hB6.out, E5.out.2.2.2.below hB6.out⟩
              have B6 := Hid.mk' (B5.out.trans (hB6.out.mono B5.out.size))
              clear hB6 E5 B5
              go_upto_region 23 with fail
              go_wp2_with (first | (refine wpList_load_mid rfl 37 _ rfl g2 0 rfl (q5C xQ) _ E6.out.2.1 Try.underlying37 rfl ins_size ?_; rw [exQ7]))
              refine (nextA7 _ _ (cd_new v6 PA7 37 (by decide))).mono ?_
              rintro e wa ⟨⟨r22, rfl, hi22⟩, ba⟩
              have h20 := Hid.mk' hi20
              have h22 := Hid.mk' hi22
              have Ba : Hid (Below v6.heap.size v6 wa) := Hid.mk' (((Below.refl _ _).alloc (Nat.le_refl _) _).trans (ba.mono (by simp)))
              clear hi20 hi22 ba
              go_wp2_with fail
              refine (three_is _).mono ?_
              rintro e wb ⟨⟨vb, rfl, hcb⟩, bb⟩
              have Hcb := Hid.mk' hcb
              have Bb := Hid.mk' bb
              clear hcb bb
              go_wp2_with fail
              refine (nextB7 _ _ Hcb.out).mono ?_
              rintro e wd ⟨⟨r24, rfl⟩, bd⟩
              have Bd : Hid (Below wa.heap.size wa wd) := Hid.mk' (Bb.out.trans (bd.mono Bb.out.size))
              clear bd Hcb Bb
              go_wp2_with fail
              refine (three_is _).mono ?_
              rintro e wf ⟨⟨vf, rfl, hcf⟩, bf⟩
              have Hcf := Hid.mk' hcf
              have Bf := Hid.mk' (Bd.out.trans (bf.mono Bd.out.size))
              clear hcf bf Bd
              go_wp2_with fail
              refine (nextC7 _ _ Hcf.out).mono ?_
              rintro e wh ⟨⟨a26, c26, rfl⟩, bh⟩
              have Bh := Hid.mk' (Bf.out.trans (bh.mono Bf.out.size))
              clear bh Hcf Bf
              go_wp2_with fail
              refine (works_any _).mono ?_
              rintro e wi ⟨rfl, bi⟩
              have Bi := Hid.mk' (Bh.out.trans (bi.mono Bh.out.size))
              clear bi Bh
              go_wp2_with fail
              have K20 := Hid.mk' ((h20.out.below (Ba.out.trans (Bi.out.mono Ba.out.size))).below ((Below.refl wi.heap.size wi).alloc (Nat.le_refl _) (.cells ([(2 : Int)].map (Value.int .i64)).toArray 3)))
              refine (eqi_any _ v5.heap.size wi.heap.size _ _ [2] K20.out (Iw.row wi [2] 3 (by simp)) (by simp)).mono ?_
              rintro e wj ⟨rfl, bj⟩
              have bj1 : Below wi.heap.size wi wj := ((Below.refl wi.heap.size wi).alloc (Nat.le_refl _) _).trans (bj.mono (by simp))
              have Bj := Hid.mk' (Bi.out.trans (bj1.mono Bi.out.size))
              clear bj bj1 Bi K20
              go_wp2_with fail
              have K22 := Hid.mk' ((h22.out.below Bj.out).below ((Below.refl wj.heap.size wj).alloc (Nat.le_refl _) (.cells ([(1 : Int)].map (Value.int .i64)).toArray 3)))
              refine (eqi_any _ _ wj.heap.size _ _ [1] K22.out (Iw.row wj [1] 3 (by simp)) (by simp)).mono ?_
              rintro e wk ⟨rfl, bk⟩
              have bk1 : Below wj.heap.size wj wk := ((Below.refl wj.heap.size wj).alloc (Nat.le_refl _) _).trans (bk.mono (by simp))
              have Bk := Hid.mk' (Bj.out.trans (bk1.mono Bj.out.size))
              clear bk bk1 K22
              have Bz := Hid.mk' (B6.out.trans ((Ba.out.trans (Bk.out.mono Ba.out.size)).mono B6.out.size))
              go_wp2_with fail
              go_ret
              exact ⟨rfl, Bz.out⟩
end Go.Proofs.Ytffjddabjjcjpaa
