/- Stage 12: On and Off: a header put on a packet in its own room, and taken off. -/
import Derived.Test.YtednmdkjhiihcaaGreatRi
namespace Go.Proofs.YtednmdkjhiihcaaGreat
open Go.ChangeShapes Go.WideShapes Go.ChangeAt Go.RowKit
set_option maxRecDepth 10000

/-- copy of bytes to a place of a block, where there is more room than bytes. -/
theorem run_copy_big (w : World) (ty : TypeId) (g o N n dc sc : Nat) (a : Option Addr) (zs : List Int) (L : List Value) (t : TypeId) (hg : w.heap[g]? = some (.cells L.toArray t (0, 0))) (hB : Bs w a zs) (hn : zs.length = n) (hN : n ≤ N) (hf : o + n ≤ L.length) :
    (Builtin.copy_ #[22, 22] ty #[.slice (some ⟨g, o, none⟩) N dc, .slice a n sc]).run Tryz.prog w = .ok (goInt n) (w.setCells g o (zs.map (Value.int .u8))) := by
  obtain ⟨i0, hi, hz0, hz1, hz2⟩ := info_parts info_u8
  have hs : (Tryz.prog.info? 5).map (·.size) = some 1 := by rw [hi]; simp [hz1]
  subst hn
  by_cases h0 : zs.length = 0
  · obtain rfl := List.eq_nil_of_length_eq_zero h0
    exact run_copy_none (P := Tryz.prog) w 22 22 ty 5 _ _ N dc 0 sc Tryz.underlying22 hs (Nat.min_eq_left hN)
  · rcases hB.lies with h | ⟨b, off, rfl, hc⟩
    · exact absurd h h0
    · have := run_copy_cells (P := Tryz.prog) w 22 22 ty 5 g o N dc ⟨b, off, none⟩ zs.length sc (zs.map (Value.int .u8)) Tryz.underlying22 hs (by rw [List.length_map]; exact (Nat.min_eq_left hN).symm)
        (fun j v hj => by
          have hlt : j < zs.length := by have := (List.getElem?_eq_some_iff.1 hj).1; simpa using this
          rw [addr_add, hc j hlt]
          simp [hlt] at hj
          simp [hlt, hj])
        (fun j hj => by
          rw [List.length_map] at hj
          rw [cell_of_row w g (o + j) _ _ _ hg, Array.getElem?_eq_getElem (by simp; omega)]; rfl)
        (fun j _ => frozen_of_row w g _ _ _ hg) (fun v hv => by simp at hv; obtain ⟨z, _, rfl⟩ := hv; rfl)
      rw [List.length_map] at this
      exact this
theorem wpList_copy_big {ops : Array Oper} {rest : List Oper} {op : Oper} {a : Act} {w : World} {Q : Exit → Act → World → Prop} (hgd : op.guard = none) (d s : Operand)
    (ho : op.op = .call { callee := .builtin .copy, args := #[d, s], argTypes := #[22, 22] })
    (g o N n dc sc : Nat) (xa : Option Addr) (hd : a.eval d = .slice (some ⟨g, o, none⟩) N dc) (hs : a.eval s = .slice xa n sc) (zs : List Int) (L : List Value) (t : TypeId) (hg : w.heap[g]? = some (.cells L.toArray t (0, 0))) (hB : Bs w xa zs) (hn : zs.length = n) (hN : n ≤ N) (hf : o + n ≤ L.length)
    (h : ∀ w', w'.heap[g]? = some (.cells (put L o (zs.map (Value.int .u8))).toArray t (0, 0)) → Kept (fun k => k = g) w w' → wpList Tryz.prog ops Q rest (a.put op.dst (goInt n)) w') : wpList Tryz.prog ops Q (op :: rest) a w := by
  refine wpList_plain hgd fun K hK => ?_
  have hrun := run_copy_big w op.type g o N n dc sc xa zs L t hg hB hn hN hf
  unfold Oper.wp
  simp [execOp, ho, resolve, invoke, builtin, hd, hs, hrun, Result.andThen]
  exact hK _ _ (h _ (heap_put hg o _ (by rw [List.length_map, hn]; exact hf)) ((Kept.refl (fun k => k = g) w).setCells g o _ (fun _ => rfl)))

/-- A packet's first bytes are written over. -/
theorem pk_front {w w' : World} {p g : Nat} {A Z B D X : List Int} {m : Nat} (h : PkIs w p g A (Z ++ B) D m) (hX : X.length = Z.length) (hb : Bytes X) (hg : w'.heap[g]? = some (.cells (put ((A ++ ((Z ++ B) ++ D)).map (Value.int .u8)) A.length (X.map (Value.int .u8))).toArray 5 (0, 0))) (k : Kept (fun i => i = g) w w') : PkIs w' p g A (X ++ B) D m := by
  have hl : (X ++ B).length = (Z ++ B).length := by rw [List.length_append, List.length_append, hX]
  have hlt := h.lt
  refine ⟨⟨?_, by omega, by omega, by rw [hl]; exact h.raw.big⟩, ?_, hlt, ?_, by rw [hl]; exact h.most, by rw [hl]; exact h.all, h.mvs⟩
  · rw [k.block p h.raw.lt (by omega), hl]
    exact h.raw.box
  · rw [hg, put_map, List.append_assoc, put_mid A Z (B ++ D) X A.length rfl hX]
    simp only [List.append_assoc]
  · obtain ⟨h1, h2, h3⟩ := h.bytes.mid
    exact Bytes.of3 h1 (bytes_append hb (fun z hz => h2 z (List.mem_append_right _ hz))) h3

/-- What is told of a packet behind On or Off. -/
def Mvd (w w' : World) (p g : Nat) (B : List Int) (m : Nat) : Prop := ∃ g' A' D', PkIs w' p g' A' B D' m ∧ Kept (pkS p g) w w' ∧ (g' = g ∨ w.heap.size ≤ g')
def onB (H : List Value) (B : List Int) : List Int := if puE H B = 0 then puB H B else B
def onM (H : List Value) (B : List Int) (m : Nat) : Nat := if puE H B = 0 then m + 1 else m
def ofB (k : Int) (B : List Int) : List Int := if poE k B = 0 then poR k B else B
def ofM (k : Int) (B : List Int) (m : Nat) : Nat := if poE k B = 0 then m + 1 else m

/-- A packet, and a head that was boxed. -/
structure NJ (w : World) (p g : Nat) (A B D : List Int) (m : Nat) (H : List Value) (u : World) : Prop where
  pk : PkIs u p g A B D m
  hd : u.heap[w.heap.size]? = some (.cells H.toArray 46 (0, 0))
  old : Below w.heap.size w u
theorem NJ.below {w : World} {p g : Nat} {A B D : List Int} {m : Nat} {H : List Value} {u v : World} (h : NJ w p g A B D m H u) (b : Below u.heap.size u v) : NJ w p g A B D m H v :=
  ⟨h.pk.below b, (b.block _ (Array.getElem?_eq_some_iff.1 h.hd).1).trans h.hd, h.old.trans (b.mono h.old.size)⟩

set_option maxHeartbeats 2000000 in
theorem on_any (p g : Nat) (A B D : List Int) (m : Nat) (H : List Value) (w : World) (h : PkIs w p g A B D m) (hH : Hh H) (hm : m + 1 ≤ 100000) :
    Calls Tryz.prog 12 #[.pointer (some ⟨p, 0, none⟩), .agg H.toArray] w fun e w' => e = .returned (.int .i64 (puE H B)) ∧ Mvd w w' p g (onB H B) (onM H B m) := by
  have hh73 := Hid.mk' (hh_len hH)
  have b1 : Below w.heap.size w (w.alloc (.cells H.toArray 46)) := (Below.refl _ _).alloc (Nat.le_refl _) _
  have N1 : Hid (NJ w p g A B D m H (w.alloc (.cells H.toArray 46))) := Hid.mk' ⟨h.below b1, heap_alloc_new w _, b1⟩
  have hbb := h.bytes.mid.2.1
  have hplt := Hid.mk' h.raw.lt
  have hglt := Hid.mk' h.glt
  have hmost := h.most
  have HA : Hid (∀ u, NJ w p g A B D m H u → Calls Tryz.prog 32 #[.slice (some ⟨g, pO A B, none⟩) B.length B.length, .agg H.toArray] u fun e w' => ∃ v, e = .returned (.tuple #[v, .int .i64 (puE H B)]) ∧ w'.ownsRow u.heap.size 5 1 v (ahB H B).length ((ahB H B).map (Value.int .u8)) ∧ Below u.heap.size u w') :=
    Hid.mk' (fun u hu => ahead_any H _ B.length B.length B u hH rfl hu.pk.bs)
  have HD : Hid (∀ u, NJ w p g A B D m H u → Calls Tryz.prog 33 #[.pointer (some ⟨p, 0, none⟩)] u fun x w' => x = .returned (.slice (some ⟨g, pO A B, none⟩) B.length B.length) ∧ Dr u w') := Hid.mk' (fun u hu => data_any p g A B D m u hu.pk)
  have Fin : Hid (¬ puE H B = 0 → ∀ u, NJ w p g A B D m H u → Mvd w u p g (onB H B) (onM H B m)) := Hid.mk' (fun he u hu => by
    unfold onB onM; rw [if_neg he, if_neg he]
    exact ⟨g, A, D, hu.pk, Kept.of_below hu.old, .inl rfl⟩)
  have Go1 : Hid (puE H B = 0 → PuOk H B) := Hid.mk' (fun he => pu_ok hH hbb he)
  have Go2 : Hid (puE H B = 0 → ahB H B = bB (num H 0) (pt (num H 0) H) B ∧ onB H B = bB (num H 0) (pt (num H 0) H) B ++ B ∧ onM H B m = m + 1 ∧ Bytes (bB (num H 0) (pt (num H 0) H) B)) := Hid.mk' (fun he => by
    have P := pu_ok hH hbb he
    refine ⟨by unfold ahB; rw [if_pos P.ck], by unfold onB; rw [if_pos he, P.val], by unfold onM; rw [if_pos he], bB_bytes P.kh hbb⟩)
  obtain ⟨n, hn⟩ : ∃ n, Hid (B.length = n) := ⟨_, rfl⟩
  rw [hn.out] at hmost HA HD
  obtain ⟨x, hx⟩ : ∃ x, Hid (pO A B = x) := ⟨_, rfl⟩
  rw [hx.out] at HA HD
  obtain ⟨E, HE⟩ : ∃ E, Hid (puE H B = E) := ⟨_, rfl⟩
  rw [HE.out] at HA Fin Go1 Go2
  rw [HE.out]
  obtain ⟨NB, HNB⟩ : ∃ NB, Hid (onB H B = NB) := ⟨_, rfl⟩
  obtain ⟨NM, HNM⟩ : ∃ NM, Hid (onM H B m = NM) := ⟨_, rfl⟩
  rw [HNB.out, HNM.out] at Fin Go2
  rw [HNB.out, HNM.out]
  clear h hH hbb b1 HNB HNM
  go_enter Tryz.func12, Tryz.ntmps12
  go_wp2_with fail
  refine (wnone_no p g A B D m _ N1.out.pk).mono ?_
  rintro e w2 ⟨rfl, d2⟩
  have N2 := Hid.mk' (N1.out.below (d2.below _))
  clear N1 d2
  go_upto_region 3 with fail
  refine wp_region_held_drew (S := NJ w p g A B D m H) (by kernel_rfl) (N2.out.below ((Below.refl _ _).drew)) (fun hHeld => ?_)
  change wpAnyH _ _ _ _ _ 9 #[false, false, false, false, false, false, false, false, false] _ _
  refine held_take 0 11 (.pointer (some ⟨p, 0, none⟩)) rfl rfl (by kernel_rfl) (by kernel_rfl) (by kernel_rfl) (fun _ _ _ h => h) (Or.inl ⟨by rfl, fun u hu => ?_⟩) hHeld ?_
  · go_simp
  simp only [Act.put, List.setIfInBounds_toArray, List.set_cons_zero, List.set_cons_succ]
  refine held_take 2 13 (.agg H.toArray) rfl rfl (by kernel_rfl) (by kernel_rfl) (by kernel_rfl) (fun _ _ _ h => h) (yieldsIf_load_mid (by rfl) 46 _ rfl w.heap.size 0 rfl H _ (fun u hu => range_block hu.hd) Tryz.underlying46 rfl (by rw [hh73.out]; exact info_hh)) hHeld ?_
  simp only [Act.put, List.setIfInBounds_toArray, List.set_cons_zero, List.set_cons_succ]
  refine held_one 1 (by kernel_rfl) rfl (fun K hK => ?_)
  go_simp
  go_wp2_with (refine (HD.out _ hHeld).mono ?_; rintro e w3 ⟨rfl, d3⟩)
  have h3 := hHeld.below (d3.below _)
  clear d3
  refine hK.out _ _ h3 (fun hHeld => ?_)
  clear hK K
  try simp only [List.setIfInBounds_toArray, List.set_cons_zero, List.set_cons_succ]
  refine held_one 3 (by kernel_rfl) rfl (fun K hK => ?_)
  go_simp
  go_wp2_with (refine (HA.out _ hHeld).mono ?_; rintro e w4 ⟨v4, rfl, own4, b4⟩)
  have O4 := Hid.mk' (ownsRow_base own4 hHeld.old.size)
  have h4 := hHeld.below b4
  clear own4 b4
  refine hK.out _ _ h4 (fun hHeld => ?_)
  clear hK K
  try simp only [List.setIfInBounds_toArray, List.set_cons_zero, List.set_cons_succ]
  refine held_take 4 10 (.tuple #[v4, .int .i64 E]) rfl rfl (by kernel_rfl) (by kernel_rfl) (by kernel_rfl) (fun _ _ _ h => h) (Or.inl ⟨by rfl, fun u hu => ?_⟩) hHeld ?_
  · go_simp
  simp only [Act.put, List.setIfInBounds_toArray, List.set_cons_zero, List.set_cons_succ]
  refine held_take 5 15 v4 rfl rfl (by kernel_rfl) (by kernel_rfl) (by kernel_rfl) (fun _ _ _ h => h) (Or.inl ⟨by rfl, fun u hu => ?_⟩) hHeld ?_
  · go_simp
  simp only [Act.put, List.setIfInBounds_toArray, List.set_cons_zero, List.set_cons_succ]
  refine held_take 6 16 (.int .i64 E) rfl rfl (by kernel_rfl) (by kernel_rfl) (by kernel_rfl) (fun _ _ _ h => h) (Or.inl ⟨by rfl, fun u hu => ?_⟩) hHeld ?_
  · go_simp
  simp only [Act.put, List.setIfInBounds_toArray, List.set_cons_zero, List.set_cons_succ]
  refine held_take 7 5 v4 rfl rfl (by kernel_rfl) (by kernel_rfl) (by kernel_rfl) (fun _ _ _ h => h) (Or.inl ⟨by rfl, fun u hu => ?_⟩) hHeld ?_
  · go_simp
  simp only [Act.put, List.setIfInBounds_toArray, List.set_cons_zero, List.set_cons_succ]
  refine held_take 8 6 (.int .i64 E) rfl rfl (by kernel_rfl) (by kernel_rfl) (by kernel_rfl) (fun _ _ _ h => h) (Or.inl ⟨by rfl, fun u hu => ?_⟩) hHeld ?_
  · go_simp
  simp only [Act.put, List.setIfInBounds_toArray, List.set_cons_zero, List.set_cons_succ]
  refine wpAnyH_done (by kernel_rfl) ?_ _
  have N4 := Hid.mk' hHeld
  clear hHeld HA HD N2
  by_cases he : E = 0
  · have P := Go1.out he
    obtain ⟨e1, e2, e3, hbt⟩ := Go2.out he
    rw [e1] at O4
    have hs := sz_pos ⟨P.k0, P.k1⟩
    have hrm := P.room
    have hlb := P.len
    obtain ⟨BB, HBB⟩ : ∃ BB, Hid (bB (num H 0) (pt (num H 0) H) B = BB) := ⟨_, rfl⟩
    rw [HBB.out] at O4 hlb hbt e2
    have E2 := Hid.mk' e2
    have E3 := Hid.mk' e3
    obtain ⟨q, hq⟩ : ∃ q, q = sz (num H 0) := ⟨_, rfl⟩
    rw [← hq] at hs hrm hlb
    rw [hlb] at O4
    rw [hn.out] at hrm
    have HLB := Hid.mk' hlb
    have hBT := Hid.mk' hbt
    obtain ⟨a4, c4, rfl, s4, hc4, -⟩ := K05.own_bs O4.out HLB.out hBT.out (by rw [HLB.out]; omega)
    have S4 := Hid.mk' s4
    have HHD := Hid.mk' (head_any p g A B D m q _ N4.out.pk hm)
    have hmy : mayE B.length (q : Int) = 0 := may_zero.2 ⟨by rw [hn.out]; omega, by rw [hn.out]; omega⟩
    have hhb : hB (q : Int) B = List.replicate q 0 ++ B := by unfold hB; rw [if_pos hmy, if_pos (by omega)]; simp
    have hmm : mM B.length (q : Int) m = m + 1 := by unfold mM; rw [if_pos hmy]
    rw [hmy, hhb, hmm] at HHD
    clear P e1 e2 e3 HBB hq hlb hbt hmy hhb hmm s4 Go1 Go2 Fin
    subst he
    go_wp2_with fail
    refine HHD.out.mono ?_
    rintro e w6 ⟨rfl, g6, A6, D6, pk6, -, -, k6, hg6⟩
    have PK6 := Hid.mk' pk6
    have K6 := Hid.mk' k6
    have HG6 := Hid.mk' hg6
    have hsz4 := N4.out.old.size
    have S6 : Hid (Bs w6 a4 BB) := Hid.mk' (Kept.bs S4.out k6 (fun b hb => by
      have hb' := (O4.out.lt b.block (by subst hb; simp [Value.ownBlock])).1
      have h1 := hplt.out
      have h2 := hglt.out
      rintro (e | e) <;> omega))
    clear pk6 k6 hg6 HHD S4
    have HDA := Hid.mk' (data_any p g6 A6 (List.replicate q 0 ++ B) D6 (m + 1) w6 PK6.out)
    have hpo : pO A6 (List.replicate q 0 ++ B) = A6.length := by unfold pO; rw [if_neg (by rw [List.length_append, List.length_replicate]; omega)]
    have hll : (List.replicate q (0 : Int) ++ B).length = q + n := by rw [List.length_append, List.length_replicate, hn.out]
    rw [hpo, hll] at HDA
    clear hpo hll
    go_wp2_with fail
    refine HDA.out.mono ?_
    rintro e w7 ⟨rfl, d7⟩
    have PK7 := Hid.mk' (PK6.out.dr d7)
    have S7 : Hid (Bs w7 a4 BB) := Hid.mk' (S6.out.below (d7.below _))
    have K7 : Hid (Kept (pkS p g) w4 w7) := Hid.mk' (K6.out.trans (Kept.of_below (d7.below _)))
    clear d7 PK6 S6 K6 HDA
    go_wp2_with (first | (refine wpList_copy_big rfl _ _ rfl g6 A6.length (q + n) q (q + n) c4 a4 rfl rfl BB ((A6 ++ ((List.replicate q 0 ++ B) ++ D6)).map (Value.int .u8)) 5 PK7.out.row S7.out HLB.out (by omega) (by simp only [List.length_map, List.length_append, List.length_replicate]; omega) ?_; intro w8 hg8 hk8; have PK8 := Hid.mk' (pk_front PK7.out (X := BB) (by rw [HLB.out, List.length_replicate]) hBT.out hg8 hk8); have K8 := Hid.mk' hk8; clear hg8 hk8))
    go_ret
    refine ⟨rfl, g6, A6, D6, by rw [E2.out, E3.out]; exact PK8.out, ?_, ?_⟩
    · have k1 : Kept (pkS p g) w w7 := (Kept.of_below N4.out.old).trans K7.out
      refine k1.then K8.out (fun i hi e => ?_)
      have e : i = g6 := e
      rcases HG6.out with h6 | h6
      · exact .inr (e.trans h6)
      · have := N4.out.old.size
        omega
    · rcases HG6.out with e | e
      · exact .inl e
      · exact .inr (Nat.le_trans N4.out.old.size e)
  · have hed : decide (E = 0) = false := by simp; exact he
    have heb : (E == 0) = false := by simp; exact he
    have FN := Hid.mk' (Fin.out he _ N4.out)
    clear Go1 Go2 Fin
    go_wp2_with fail
    go_ret
    exact ⟨rfl, FN.out⟩
end Go.Proofs.YtednmdkjhiihcaaGreat
