/- Each kind's reader, the program's; the array of readers. -/
import Derived.Test.YthdgfhllieknlaaJd
namespace Go.Proofs.Ythdgfhllieknlaa
open Go.ChangeShapes Go.WideShapes Go.ChangeAt Go.RowKit
set_option maxRecDepth 10000

/-- The result's box, and what was there before. -/
structure HJ (w u : World) : Prop where
  box : ∃ M : List Value, M.length = 73 ∧ u.heap[w.heap.size]? = some (.cells M.toArray 48 (0, 0))
  old : Below w.heap.size w u
theorem HJ.first (w : World) : HJ w (w.alloc (.cells hz.toArray 48)) := ⟨⟨hz, hz_len, heap_alloc_new w _⟩, (Below.refl _ _).alloc (Nat.le_refl _) _⟩
theorem HJ.below {w u v : World} (h : HJ w u) (b : Below u.heap.size u v) : HJ w v := by
  obtain ⟨⟨M, hl, hb⟩, ho⟩ := h
  exact ⟨⟨M, hl, (b.block _ (Array.getElem?_eq_some_iff.1 hb).1).trans hb⟩, ho.trans (b.mono ho.size)⟩
theorem HJ.lt {w u : World} (h : HJ w u) : w.heap.size < u.heap.size := by
  obtain ⟨⟨M, hl, hb⟩, ho⟩ := h
  exact (Array.getElem?_eq_some_iff.1 hb).1
theorem HJ.dr {w u v : World} (h : HJ w u) (d : Dr u v) : HJ w v := h.below (d.below _)
theorem HJ.there {w u : World} (h : HJ w u) : u.there w.heap.size 0 73 := by
  obtain ⟨⟨M, hl, hb⟩, ho⟩ := h
  have := there_block hb
  rw [hl] at this; exact this
theorem HJ.done {w u : World} (h : HJ w u) (M : List Value) (hl : M.length = 73) : (u.setCells w.heap.size 0 M).heap[w.heap.size]? = some (.cells M.toArray 48 (0, 0)) ∧ Below w.heap.size w (u.setCells w.heap.size 0 M) ∧ Kept (fun k => k = w.heap.size) u (u.setCells w.heap.size 0 M) := by
  obtain ⟨⟨N, hn, hb⟩, ho⟩ := h
  have hk := (Kept.refl (fun k => k = w.heap.size) u).setCells w.heap.size 0 M (fun _ => rfl)
  exact ⟨heap_whole (L := N) hb (by rw [hl]; exact hn), ho.trans (hk.below ho.size (fun k hk => by omega)), hk⟩

theorem yieldsIf_build {ops : Array Oper} {S : World → Prop} {op : Oper} {a : Act} (hw : Region.wanted op (yielded ops a.tmps) = true) (t : TypeId) (parts : Array (Nat × Operand)) (ho : op.op = .build t parts) (cells : Array Value)
    (hf : Try.prog.built t (parts.map fun (i, x) => (i, a.eval x)).toList = some cells) : YieldsIf Try.prog ops S op (.agg cells) a :=
  .inl ⟨hw, fun w _ => by
    unfold execOp
    simp only [ho, Sem.run_bind, run_build w t _ cells hf, Result.andThen_ok]
    rfl⟩

set_option maxHeartbeats 1000000 in
theorem reader_1 (a : Option Addr) (n c : Nat) (zs : List Int) (w : World) (hz' : zs.length = n) (hB : Bs w a zs) (hc : n ≤ c) :
    Calls Try.prog 41 #[.slice a n c] w fun e w' => e = .returned (.tuple #[.agg (hk 1 (rL 1 zs)).toArray, .int .i64 (sz 1 : Nat), .int .i64 (rE 1 zs)]) ∧ Below w.heap.size w w' := by
  have KH := Hid.mk' (rL_hd (k := 1) (by omega) (by omega) hB.bytes)
  have J1 := Hid.mk' (HJ.first w)
  have HR : Hid (∀ u, HJ w u → Calls Try.prog 42 #[.slice a n c] u fun e w' => e = .returned (.tuple #[.agg (rL 1 zs).toArray, .int .i64 (rE 1 zs)]) ∧ Below u.heap.size u w') := Hid.mk' (fun u h => K05.lread_any a n c zs u hz' (hB.below h.old) hc)
  obtain ⟨L, HL⟩ : ∃ L, Hid (rL 1 zs = L) := ⟨_, rfl⟩
  obtain ⟨E, HE⟩ : ∃ E, Hid (rE 1 zs = E) := ⟨_, rfl⟩
  rw [HL.out, HE.out]
  rw [HL.out, HE.out] at HR
  rw [HL.out] at KH
  have hlc : Hid (L.length = 13) := Hid.mk' (lhd_len (KH.out.2.2.1 rfl))
  have hone : Hid (L.toArray.all (·.oneCell') = true) := Hid.mk' (lhd_one (KH.out.2.2.1 rfl))
  have HH := Hid.mk' (hk_hh KH.out)
  obtain ⟨H, HHk⟩ : ∃ H, Hid (hk 1 L = H) := ⟨_, rfl⟩
  have hbl : Hid (Try.prog.built 48 [(0, .int .u8 1), (1, .agg L.toArray)] = some H.toArray) := by rw [← HHk.out]; exact built_1 L hlc.out
  rw [HHk.out] at HH
  rw [HHk.out]
  have hh73 := Hid.mk' (hh_len HH.out)
  have hh1 := Hid.mk' (hh_one HH.out)
  have hs73 : Hid (H.toArray.size = 73) := Hid.mk' (by rw [List.size_toArray]; exact hh73.out)
  clear hz' hB hc HL HE KH
  go_enter Try.func41, Try.ntmps41
  go_wp2_with fail
  refine (HR.out _ J1.out).mono ?_
  rintro e w2 ⟨rfl, b2⟩
  have J2 := Hid.mk' (J1.out.below b2)
  clear b2 J1 HR
  go_wp2_with (first | refine wpList_store_new rfl 33 _ _ rfl _ _ L rfl rfl (by rw [hlc.out]; rfl) (by rw [hlc.out]; exact K05.info_lk) hone.out ?_)
  obtain ⟨w3, hw3⟩ : ∃ w3, w3 = w2.alloc (.cells L.toArray 33) := ⟨_, rfl⟩
  rw [← hw3]
  have R3 : Hid (w3.heap[w2.heap.size]? = some (.cells L.toArray 33 (0, 0))) := by rw [hw3]; exact heap_alloc_new w2 _
  have J3 : Hid (HJ w w3) := by rw [hw3]; exact J2.out.below ((Below.refl _ _).alloc (Nat.le_refl _) _)
  clear hw3
  refine wp_region_held_drew (S := fun u => u.heap[w2.heap.size]? = some (.cells L.toArray 33 (0, 0)) ∧ HJ w u) (by kernel_rfl) ⟨R3.out, J3.out.dr ⟨1, rfl⟩⟩ (fun hHeld => ?_)
  change wpAnyH _ _ _ _ _ 7 #[false, false, false, false, false, false, false] _ _
  refine held_take 0 12 (.agg L.toArray) rfl rfl (by kernel_rfl) (by kernel_rfl) (by kernel_rfl) (fun _ _ _ h => h) (yieldsIf_load_mid (by rfl) 33 _ rfl w2.heap.size 0 rfl L _ (fun u hu => range_block hu.1) Try.underlying33 rfl (by rw [hlc.out]; exact K05.info_lk)) hHeld ?_
  simp only [Act.put, List.setIfInBounds_toArray, List.set_cons_zero, List.set_cons_succ]
  refine held_take 1 13 (.agg H.toArray) rfl rfl (by kernel_rfl) (by kernel_rfl) (by kernel_rfl) (fun _ _ _ h => h) (yieldsIf_build (by rfl) 48 #[(0, .const (.int .u8 1)), (1, .tmp 12)] rfl H.toArray ?_) hHeld ?_
  · simpa [Act.eval] using hbl.out
  simp only [Act.put, List.setIfInBounds_toArray, List.set_cons_zero, List.set_cons_succ]
  refine held_take 3 15 (.int .i64 E) rfl rfl (by kernel_rfl) (by kernel_rfl) (by kernel_rfl) (fun _ _ _ h => h) (Or.inl ⟨by rfl, fun u hu => ?_⟩) hHeld ?_
  · go_simp
  simp only [Act.put, List.setIfInBounds_toArray, List.set_cons_zero, List.set_cons_succ]
  refine held_one 2 (by kernel_rfl) rfl (fun K hK => ?_)
  go_simp
  go_wp2_with (first | (go_at_call 43; refine (K05.lsize_any w3.drew).mono ?_; rintro e w8 ⟨rfl, rfl⟩))
  refine hK.out _ _ hHeld (fun _ => ?_)
  clear hK K
  try simp only [List.setIfInBounds_toArray, List.set_cons_zero, List.set_cons_succ]
  refine held_one 4 (by kernel_rfl) rfl (fun K hK => ?_)
  refine step_store_box rfl rfl 48 _ _ rfl w.heap.size H rfl rfl (by rw [hs73.out]; exact hHeld.2.there) (by rw [hh73.out]; exact info_hh) hh1.out ?_
  obtain ⟨D1, D2, D3⟩ := hHeld.2.done H hh73.out
  have hlt := J2.out.lt
  have hne : ¬ w2.heap.size = w.heap.size := by omega
  have hHeld3 : (w3.drew.setCells w.heap.size 0 H).heap[w2.heap.size]? = some (.cells L.toArray 33 (0, 0)) ∧ HJ w (w3.drew.setCells w.heap.size 0 H) := ⟨(D3.block _ (Array.getElem?_eq_some_iff.1 hHeld.1).1 hne).trans hHeld.1, ⟨⟨H, hh73.out, D1⟩, D2⟩⟩
  refine hK.out _ _ hHeld3 (fun _ => ?_)
  clear hK K
  try simp only [List.setIfInBounds_toArray, List.set_cons_zero, List.set_cons_succ]
  refine held_take 5 3 (.int .i64 14) rfl rfl (by kernel_rfl) (by kernel_rfl) (by kernel_rfl) (fun _ _ _ h => h) (Or.inl ⟨by rfl, fun u hu => ?_⟩) hHeld3 ?_
  · go_simp
  simp only [Act.put, List.setIfInBounds_toArray, List.set_cons_zero, List.set_cons_succ]
  refine held_take 6 4 (.int .i64 E) rfl rfl (by kernel_rfl) (by kernel_rfl) (by kernel_rfl) (fun _ _ _ h => h) (Or.inl ⟨by rfl, fun u hu => ?_⟩) hHeld3 ?_
  · go_simp
  simp only [Act.put, List.setIfInBounds_toArray, List.set_cons_zero, List.set_cons_succ]
  refine wpAnyH_done (by kernel_rfl) ?_ _
  go_wp2
  refine ret_cell_tmp2 rfl w.heap.size 48 H (0, 0) _ rfl D1 Try.underlying48 rfl (by rw [hh73.out]; exact info_hh) rfl ?_
  exact ⟨rfl, D2⟩

set_option maxHeartbeats 1000000 in
theorem reader_2 (a : Option Addr) (n c : Nat) (zs : List Int) (w : World) (hz' : zs.length = n) (hB : Bs w a zs) (hc : n ≤ c) :
    Calls Try.prog 44 #[.slice a n c] w fun e w' => e = .returned (.tuple #[.agg (hk 2 (rL 2 zs)).toArray, .int .i64 (sz 2 : Nat), .int .i64 (rE 2 zs)]) ∧ Below w.heap.size w w' := by
  have KH := Hid.mk' (rL_hd (k := 2) (by omega) (by omega) hB.bytes)
  have J1 := Hid.mk' (HJ.first w)
  have HR : Hid (∀ u, HJ w u → Calls Try.prog 45 #[.slice a n c] u fun e w' => e = .returned (.tuple #[.agg (rL 2 zs).toArray, .int .i64 (rE 2 zs)]) ∧ Below u.heap.size u w') := Hid.mk' (fun u h => K06.h_read a n c zs u hz' (hB.below h.old) hc)
  obtain ⟨L, HL⟩ : ∃ L, Hid (rL 2 zs = L) := ⟨_, rfl⟩
  obtain ⟨E, HE⟩ : ∃ E, Hid (rE 2 zs = E) := ⟨_, rfl⟩
  rw [HL.out, HE.out]
  rw [HL.out, HE.out] at HR
  rw [HL.out] at KH
  have hlc : Hid (L.length = 3) := Hid.mk' (K06.hd_len (KH.out.2.2.2.1 rfl))
  have hone : Hid (L.toArray.all (·.oneCell') = true) := Hid.mk' (K06.hd_one (KH.out.2.2.2.1 rfl))
  have HH := Hid.mk' (hk_hh KH.out)
  obtain ⟨H, HHk⟩ : ∃ H, Hid (hk 2 L = H) := ⟨_, rfl⟩
  have hbl : Hid (Try.prog.built 48 [(0, .int .u8 2), (2, .agg L.toArray)] = some H.toArray) := by rw [← HHk.out]; exact built_2 L hlc.out
  rw [HHk.out] at HH
  rw [HHk.out]
  have hh73 := Hid.mk' (hh_len HH.out)
  have hh1 := Hid.mk' (hh_one HH.out)
  have hs73 : Hid (H.toArray.size = 73) := Hid.mk' (by rw [List.size_toArray]; exact hh73.out)
  clear hz' hB hc HL HE KH
  go_enter Try.func44, Try.ntmps44
  go_wp2_with fail
  refine (HR.out _ J1.out).mono ?_
  rintro e w2 ⟨rfl, b2⟩
  have J2 := Hid.mk' (J1.out.below b2)
  clear b2 J1 HR
  go_wp2_with (first | refine wpList_store_new rfl 35 _ _ rfl _ _ L rfl rfl (by rw [hlc.out]; rfl) (by rw [hlc.out]; exact K06.info_hd) hone.out ?_)
  obtain ⟨w3, hw3⟩ : ∃ w3, w3 = w2.alloc (.cells L.toArray 35) := ⟨_, rfl⟩
  rw [← hw3]
  have R3 : Hid (w3.heap[w2.heap.size]? = some (.cells L.toArray 35 (0, 0))) := by rw [hw3]; exact heap_alloc_new w2 _
  have J3 : Hid (HJ w w3) := by rw [hw3]; exact J2.out.below ((Below.refl _ _).alloc (Nat.le_refl _) _)
  clear hw3
  refine wp_region_held_drew (S := fun u => u.heap[w2.heap.size]? = some (.cells L.toArray 35 (0, 0)) ∧ HJ w u) (by kernel_rfl) ⟨R3.out, J3.out.dr ⟨1, rfl⟩⟩ (fun hHeld => ?_)
  change wpAnyH _ _ _ _ _ 7 #[false, false, false, false, false, false, false] _ _
  refine held_take 0 12 (.agg L.toArray) rfl rfl (by kernel_rfl) (by kernel_rfl) (by kernel_rfl) (fun _ _ _ h => h) (yieldsIf_load_mid (by rfl) 35 _ rfl w2.heap.size 0 rfl L _ (fun u hu => range_block hu.1) Try.underlying35 rfl (by rw [hlc.out]; exact K06.info_hd)) hHeld ?_
  simp only [Act.put, List.setIfInBounds_toArray, List.set_cons_zero, List.set_cons_succ]
  refine held_take 1 13 (.agg H.toArray) rfl rfl (by kernel_rfl) (by kernel_rfl) (by kernel_rfl) (fun _ _ _ h => h) (yieldsIf_build (by rfl) 48 #[(0, .const (.int .u8 2)), (2, .tmp 12)] rfl H.toArray ?_) hHeld ?_
  · simpa [Act.eval] using hbl.out
  simp only [Act.put, List.setIfInBounds_toArray, List.set_cons_zero, List.set_cons_succ]
  refine held_take 3 15 (.int .i64 E) rfl rfl (by kernel_rfl) (by kernel_rfl) (by kernel_rfl) (fun _ _ _ h => h) (Or.inl ⟨by rfl, fun u hu => ?_⟩) hHeld ?_
  · go_simp
  simp only [Act.put, List.setIfInBounds_toArray, List.set_cons_zero, List.set_cons_succ]
  refine held_one 2 (by kernel_rfl) rfl (fun K hK => ?_)
  go_simp
  go_wp2_with (first | (go_at_call 46; refine (K06.lsize_any w3.drew).mono ?_; rintro e w8 ⟨rfl, rfl⟩))
  refine hK.out _ _ hHeld (fun _ => ?_)
  clear hK K
  try simp only [List.setIfInBounds_toArray, List.set_cons_zero, List.set_cons_succ]
  refine held_one 4 (by kernel_rfl) rfl (fun K hK => ?_)
  refine step_store_box rfl rfl 48 _ _ rfl w.heap.size H rfl rfl (by rw [hs73.out]; exact hHeld.2.there) (by rw [hh73.out]; exact info_hh) hh1.out ?_
  obtain ⟨D1, D2, D3⟩ := hHeld.2.done H hh73.out
  have hlt := J2.out.lt
  have hne : ¬ w2.heap.size = w.heap.size := by omega
  have hHeld3 : (w3.drew.setCells w.heap.size 0 H).heap[w2.heap.size]? = some (.cells L.toArray 35 (0, 0)) ∧ HJ w (w3.drew.setCells w.heap.size 0 H) := ⟨(D3.block _ (Array.getElem?_eq_some_iff.1 hHeld.1).1 hne).trans hHeld.1, ⟨⟨H, hh73.out, D1⟩, D2⟩⟩
  refine hK.out _ _ hHeld3 (fun _ => ?_)
  clear hK K
  try simp only [List.setIfInBounds_toArray, List.set_cons_zero, List.set_cons_succ]
  refine held_take 5 3 (.int .i64 4) rfl rfl (by kernel_rfl) (by kernel_rfl) (by kernel_rfl) (fun _ _ _ h => h) (Or.inl ⟨by rfl, fun u hu => ?_⟩) hHeld3 ?_
  · go_simp
  simp only [Act.put, List.setIfInBounds_toArray, List.set_cons_zero, List.set_cons_succ]
  refine held_take 6 4 (.int .i64 E) rfl rfl (by kernel_rfl) (by kernel_rfl) (by kernel_rfl) (fun _ _ _ h => h) (Or.inl ⟨by rfl, fun u hu => ?_⟩) hHeld3 ?_
  · go_simp
  simp only [Act.put, List.setIfInBounds_toArray, List.set_cons_zero, List.set_cons_succ]
  refine wpAnyH_done (by kernel_rfl) ?_ _
  go_wp2
  refine ret_cell_tmp2 rfl w.heap.size 48 H (0, 0) _ rfl D1 Try.underlying48 rfl (by rw [hh73.out]; exact info_hh) rfl ?_
  exact ⟨rfl, D2⟩

set_option maxHeartbeats 1000000 in
theorem reader_3 (a : Option Addr) (n c : Nat) (zs : List Int) (w : World) (hz' : zs.length = n) (hB : Bs w a zs) (hc : n ≤ c) :
    Calls Try.prog 47 #[.slice a n c] w fun e w' => e = .returned (.tuple #[.agg (hk 3 (rL 3 zs)).toArray, .int .i64 (sz 3 : Nat), .int .i64 (rE 3 zs)]) ∧ Below w.heap.size w w' := by
  have KH := Hid.mk' (rL_hd (k := 3) (by omega) (by omega) hB.bytes)
  have J1 := Hid.mk' (HJ.first w)
  have HR : Hid (∀ u, HJ w u → Calls Try.prog 48 #[.slice a n c] u fun e w' => e = .returned (.tuple #[.agg (rL 3 zs).toArray, .int .i64 (rE 3 zs)]) ∧ Below u.heap.size u w') := Hid.mk' (fun u h => K07.h_read a n c zs u hz' (hB.below h.old) hc)
  obtain ⟨L, HL⟩ : ∃ L, Hid (rL 3 zs = L) := ⟨_, rfl⟩
  obtain ⟨E, HE⟩ : ∃ E, Hid (rE 3 zs = E) := ⟨_, rfl⟩
  rw [HL.out, HE.out]
  rw [HL.out, HE.out] at HR
  rw [HL.out] at KH
  have hlc : Hid (L.length = 12) := Hid.mk' (K07.hd_len (KH.out.2.2.2.2.1 rfl))
  have hone : Hid (L.toArray.all (·.oneCell') = true) := Hid.mk' (K07.hd_one (KH.out.2.2.2.2.1 rfl))
  have HH := Hid.mk' (hk_hh KH.out)
  obtain ⟨H, HHk⟩ : ∃ H, Hid (hk 3 L = H) := ⟨_, rfl⟩
  have hbl : Hid (Try.prog.built 48 [(0, .int .u8 3), (3, .agg L.toArray)] = some H.toArray) := by rw [← HHk.out]; exact built_3 L hlc.out
  rw [HHk.out] at HH
  rw [HHk.out]
  have hh73 := Hid.mk' (hh_len HH.out)
  have hh1 := Hid.mk' (hh_one HH.out)
  have hs73 : Hid (H.toArray.size = 73) := Hid.mk' (by rw [List.size_toArray]; exact hh73.out)
  clear hz' hB hc HL HE KH
  go_enter Try.func47, Try.ntmps47
  go_wp2_with fail
  refine (HR.out _ J1.out).mono ?_
  rintro e w2 ⟨rfl, b2⟩
  have J2 := Hid.mk' (J1.out.below b2)
  clear b2 J1 HR
  go_wp2_with (first | refine wpList_store_new rfl 38 _ _ rfl _ _ L rfl rfl (by rw [hlc.out]; rfl) (by rw [hlc.out]; exact K07.info_hd) hone.out ?_)
  obtain ⟨w3, hw3⟩ : ∃ w3, w3 = w2.alloc (.cells L.toArray 38) := ⟨_, rfl⟩
  rw [← hw3]
  have R3 : Hid (w3.heap[w2.heap.size]? = some (.cells L.toArray 38 (0, 0))) := by rw [hw3]; exact heap_alloc_new w2 _
  have J3 : Hid (HJ w w3) := by rw [hw3]; exact J2.out.below ((Below.refl _ _).alloc (Nat.le_refl _) _)
  clear hw3
  refine wp_region_held_drew (S := fun u => u.heap[w2.heap.size]? = some (.cells L.toArray 38 (0, 0)) ∧ HJ w u) (by kernel_rfl) ⟨R3.out, J3.out.dr ⟨1, rfl⟩⟩ (fun hHeld => ?_)
  change wpAnyH _ _ _ _ _ 7 #[false, false, false, false, false, false, false] _ _
  refine held_take 0 12 (.agg L.toArray) rfl rfl (by kernel_rfl) (by kernel_rfl) (by kernel_rfl) (fun _ _ _ h => h) (yieldsIf_load_mid (by rfl) 38 _ rfl w2.heap.size 0 rfl L _ (fun u hu => range_block hu.1) Try.underlying38 rfl (by rw [hlc.out]; exact K07.info_hd)) hHeld ?_
  simp only [Act.put, List.setIfInBounds_toArray, List.set_cons_zero, List.set_cons_succ]
  refine held_take 1 13 (.agg H.toArray) rfl rfl (by kernel_rfl) (by kernel_rfl) (by kernel_rfl) (fun _ _ _ h => h) (yieldsIf_build (by rfl) 48 #[(0, .const (.int .u8 3)), (3, .tmp 12)] rfl H.toArray ?_) hHeld ?_
  · simpa [Act.eval] using hbl.out
  simp only [Act.put, List.setIfInBounds_toArray, List.set_cons_zero, List.set_cons_succ]
  refine held_take 3 15 (.int .i64 E) rfl rfl (by kernel_rfl) (by kernel_rfl) (by kernel_rfl) (fun _ _ _ h => h) (Or.inl ⟨by rfl, fun u hu => ?_⟩) hHeld ?_
  · go_simp
  simp only [Act.put, List.setIfInBounds_toArray, List.set_cons_zero, List.set_cons_succ]
  refine held_one 2 (by kernel_rfl) rfl (fun K hK => ?_)
  go_simp
  go_wp2_with (first | (go_at_call 49; refine (K07.lsize_any w3.drew).mono ?_; rintro e w8 ⟨rfl, rfl⟩))
  refine hK.out _ _ hHeld (fun _ => ?_)
  clear hK K
  try simp only [List.setIfInBounds_toArray, List.set_cons_zero, List.set_cons_succ]
  refine held_one 4 (by kernel_rfl) rfl (fun K hK => ?_)
  refine step_store_box rfl rfl 48 _ _ rfl w.heap.size H rfl rfl (by rw [hs73.out]; exact hHeld.2.there) (by rw [hh73.out]; exact info_hh) hh1.out ?_
  obtain ⟨D1, D2, D3⟩ := hHeld.2.done H hh73.out
  have hlt := J2.out.lt
  have hne : ¬ w2.heap.size = w.heap.size := by omega
  have hHeld3 : (w3.drew.setCells w.heap.size 0 H).heap[w2.heap.size]? = some (.cells L.toArray 38 (0, 0)) ∧ HJ w (w3.drew.setCells w.heap.size 0 H) := ⟨(D3.block _ (Array.getElem?_eq_some_iff.1 hHeld.1).1 hne).trans hHeld.1, ⟨⟨H, hh73.out, D1⟩, D2⟩⟩
  refine hK.out _ _ hHeld3 (fun _ => ?_)
  clear hK K
  try simp only [List.setIfInBounds_toArray, List.set_cons_zero, List.set_cons_succ]
  refine held_take 5 3 (.int .i64 20) rfl rfl (by kernel_rfl) (by kernel_rfl) (by kernel_rfl) (fun _ _ _ h => h) (Or.inl ⟨by rfl, fun u hu => ?_⟩) hHeld3 ?_
  · go_simp
  simp only [Act.put, List.setIfInBounds_toArray, List.set_cons_zero, List.set_cons_succ]
  refine held_take 6 4 (.int .i64 E) rfl rfl (by kernel_rfl) (by kernel_rfl) (by kernel_rfl) (fun _ _ _ h => h) (Or.inl ⟨by rfl, fun u hu => ?_⟩) hHeld3 ?_
  · go_simp
  simp only [Act.put, List.setIfInBounds_toArray, List.set_cons_zero, List.set_cons_succ]
  refine wpAnyH_done (by kernel_rfl) ?_ _
  go_wp2
  refine ret_cell_tmp2 rfl w.heap.size 48 H (0, 0) _ rfl D1 Try.underlying48 rfl (by rw [hh73.out]; exact info_hh) rfl ?_
  exact ⟨rfl, D2⟩

set_option maxHeartbeats 1000000 in
theorem reader_4 (a : Option Addr) (n c : Nat) (zs : List Int) (w : World) (hz' : zs.length = n) (hB : Bs w a zs) (hc : n ≤ c) :
    Calls Try.prog 50 #[.slice a n c] w fun e w' => e = .returned (.tuple #[.agg (hk 4 (rL 4 zs)).toArray, .int .i64 (sz 4 : Nat), .int .i64 (rE 4 zs)]) ∧ Below w.heap.size w w' := by
  have KH := Hid.mk' (rL_hd (k := 4) (by omega) (by omega) hB.bytes)
  have J1 := Hid.mk' (HJ.first w)
  have HR : Hid (∀ u, HJ w u → Calls Try.prog 51 #[.slice a n c] u fun e w' => e = .returned (.tuple #[.agg (rL 4 zs).toArray, .int .i64 (rE 4 zs)]) ∧ Below u.heap.size u w') := Hid.mk' (fun u h => K08.h_read a n c zs u hz' (hB.below h.old) hc)
  obtain ⟨L, HL⟩ : ∃ L, Hid (rL 4 zs = L) := ⟨_, rfl⟩
  obtain ⟨E, HE⟩ : ∃ E, Hid (rE 4 zs = E) := ⟨_, rfl⟩
  rw [HL.out, HE.out]
  rw [HL.out, HE.out] at HR
  rw [HL.out] at KH
  have hlc : Hid (L.length = 36) := Hid.mk' (K08.hd_len (KH.out.2.2.2.2.2.1 rfl))
  have hone : Hid (L.toArray.all (·.oneCell') = true) := Hid.mk' (K08.hd_one (KH.out.2.2.2.2.2.1 rfl))
  have HH := Hid.mk' (hk_hh KH.out)
  obtain ⟨H, HHk⟩ : ∃ H, Hid (hk 4 L = H) := ⟨_, rfl⟩
  have hbl : Hid (Try.prog.built 48 [(0, .int .u8 4), (4, .agg L.toArray)] = some H.toArray) := by rw [← HHk.out]; exact built_4 L hlc.out
  rw [HHk.out] at HH
  rw [HHk.out]
  have hh73 := Hid.mk' (hh_len HH.out)
  have hh1 := Hid.mk' (hh_one HH.out)
  have hs73 : Hid (H.toArray.size = 73) := Hid.mk' (by rw [List.size_toArray]; exact hh73.out)
  clear hz' hB hc HL HE KH
  go_enter Try.func50, Try.ntmps50
  go_wp2_with fail
  refine (HR.out _ J1.out).mono ?_
  rintro e w2 ⟨rfl, b2⟩
  have J2 := Hid.mk' (J1.out.below b2)
  clear b2 J1 HR
  go_wp2_with (first | refine wpList_store_new rfl 42 _ _ rfl _ _ L rfl rfl (by rw [hlc.out]; rfl) (by rw [hlc.out]; exact K08.info_hd) hone.out ?_)
  obtain ⟨w3, hw3⟩ : ∃ w3, w3 = w2.alloc (.cells L.toArray 42) := ⟨_, rfl⟩
  rw [← hw3]
  have R3 : Hid (w3.heap[w2.heap.size]? = some (.cells L.toArray 42 (0, 0))) := by rw [hw3]; exact heap_alloc_new w2 _
  have J3 : Hid (HJ w w3) := by rw [hw3]; exact J2.out.below ((Below.refl _ _).alloc (Nat.le_refl _) _)
  clear hw3
  refine wp_region_held_drew (S := fun u => u.heap[w2.heap.size]? = some (.cells L.toArray 42 (0, 0)) ∧ HJ w u) (by kernel_rfl) ⟨R3.out, J3.out.dr ⟨1, rfl⟩⟩ (fun hHeld => ?_)
  change wpAnyH _ _ _ _ _ 7 #[false, false, false, false, false, false, false] _ _
  refine held_take 0 12 (.agg L.toArray) rfl rfl (by kernel_rfl) (by kernel_rfl) (by kernel_rfl) (fun _ _ _ h => h) (yieldsIf_load_mid (by rfl) 42 _ rfl w2.heap.size 0 rfl L _ (fun u hu => range_block hu.1) Try.underlying42 rfl (by rw [hlc.out]; exact K08.info_hd)) hHeld ?_
  simp only [Act.put, List.setIfInBounds_toArray, List.set_cons_zero, List.set_cons_succ]
  refine held_take 1 13 (.agg H.toArray) rfl rfl (by kernel_rfl) (by kernel_rfl) (by kernel_rfl) (fun _ _ _ h => h) (yieldsIf_build (by rfl) 48 #[(0, .const (.int .u8 4)), (4, .tmp 12)] rfl H.toArray ?_) hHeld ?_
  · simpa [Act.eval] using hbl.out
  simp only [Act.put, List.setIfInBounds_toArray, List.set_cons_zero, List.set_cons_succ]
  refine held_take 3 15 (.int .i64 E) rfl rfl (by kernel_rfl) (by kernel_rfl) (by kernel_rfl) (fun _ _ _ h => h) (Or.inl ⟨by rfl, fun u hu => ?_⟩) hHeld ?_
  · go_simp
  simp only [Act.put, List.setIfInBounds_toArray, List.set_cons_zero, List.set_cons_succ]
  refine held_one 2 (by kernel_rfl) rfl (fun K hK => ?_)
  go_simp
  go_wp2_with (first | (go_at_call 52; refine (K08.lsize_any w3.drew).mono ?_; rintro e w8 ⟨rfl, rfl⟩))
  refine hK.out _ _ hHeld (fun _ => ?_)
  clear hK K
  try simp only [List.setIfInBounds_toArray, List.set_cons_zero, List.set_cons_succ]
  refine held_one 4 (by kernel_rfl) rfl (fun K hK => ?_)
  refine step_store_box rfl rfl 48 _ _ rfl w.heap.size H rfl rfl (by rw [hs73.out]; exact hHeld.2.there) (by rw [hh73.out]; exact info_hh) hh1.out ?_
  obtain ⟨D1, D2, D3⟩ := hHeld.2.done H hh73.out
  have hlt := J2.out.lt
  have hne : ¬ w2.heap.size = w.heap.size := by omega
  have hHeld3 : (w3.drew.setCells w.heap.size 0 H).heap[w2.heap.size]? = some (.cells L.toArray 42 (0, 0)) ∧ HJ w (w3.drew.setCells w.heap.size 0 H) := ⟨(D3.block _ (Array.getElem?_eq_some_iff.1 hHeld.1).1 hne).trans hHeld.1, ⟨⟨H, hh73.out, D1⟩, D2⟩⟩
  refine hK.out _ _ hHeld3 (fun _ => ?_)
  clear hK K
  try simp only [List.setIfInBounds_toArray, List.set_cons_zero, List.set_cons_succ]
  refine held_take 5 3 (.int .i64 40) rfl rfl (by kernel_rfl) (by kernel_rfl) (by kernel_rfl) (fun _ _ _ h => h) (Or.inl ⟨by rfl, fun u hu => ?_⟩) hHeld3 ?_
  · go_simp
  simp only [Act.put, List.setIfInBounds_toArray, List.set_cons_zero, List.set_cons_succ]
  refine held_take 6 4 (.int .i64 E) rfl rfl (by kernel_rfl) (by kernel_rfl) (by kernel_rfl) (fun _ _ _ h => h) (Or.inl ⟨by rfl, fun u hu => ?_⟩) hHeld3 ?_
  · go_simp
  simp only [Act.put, List.setIfInBounds_toArray, List.set_cons_zero, List.set_cons_succ]
  refine wpAnyH_done (by kernel_rfl) ?_ _
  go_wp2
  refine ret_cell_tmp2 rfl w.heap.size 48 H (0, 0) _ rfl D1 Try.underlying48 rfl (by rw [hh73.out]; exact info_hh) rfl ?_
  exact ⟨rfl, D2⟩

set_option maxHeartbeats 1000000 in
theorem reader_5 (a : Option Addr) (n c : Nat) (zs : List Int) (w : World) (hz' : zs.length = n) (hB : Bs w a zs) (hc : n ≤ c) :
    Calls Try.prog 53 #[.slice a n c] w fun e w' => e = .returned (.tuple #[.agg (hk 5 (rL 5 zs)).toArray, .int .i64 (sz 5 : Nat), .int .i64 (rE 5 zs)]) ∧ Below w.heap.size w w' := by
  have KH := Hid.mk' (rL_hd (k := 5) (by omega) (by omega) hB.bytes)
  have J1 := Hid.mk' (HJ.first w)
  have HR : Hid (∀ u, HJ w u → Calls Try.prog 54 #[.slice a n c] u fun e w' => e = .returned (.tuple #[.agg (rL 5 zs).toArray, .int .i64 (rE 5 zs)]) ∧ Below u.heap.size u w') := Hid.mk' (fun u h => K09.h_read a n c zs u hz' (hB.below h.old) hc)
  obtain ⟨L, HL⟩ : ∃ L, Hid (rL 5 zs = L) := ⟨_, rfl⟩
  obtain ⟨E, HE⟩ : ∃ E, Hid (rE 5 zs = E) := ⟨_, rfl⟩
  rw [HL.out, HE.out]
  rw [HL.out, HE.out] at HR
  rw [HL.out] at KH
  have hlc : Hid (L.length = 6) := Hid.mk' (K09.hd_len (KH.out.2.2.2.2.2.2.1 rfl))
  have hone : Hid (L.toArray.all (·.oneCell') = true) := Hid.mk' (K09.hd_one (KH.out.2.2.2.2.2.2.1 rfl))
  have HH := Hid.mk' (hk_hh KH.out)
  obtain ⟨H, HHk⟩ : ∃ H, Hid (hk 5 L = H) := ⟨_, rfl⟩
  have hbl : Hid (Try.prog.built 48 [(0, .int .u8 5), (5, .agg L.toArray)] = some H.toArray) := by rw [← HHk.out]; exact built_5 L hlc.out
  rw [HHk.out] at HH
  rw [HHk.out]
  have hh73 := Hid.mk' (hh_len HH.out)
  have hh1 := Hid.mk' (hh_one HH.out)
  have hs73 : Hid (H.toArray.size = 73) := Hid.mk' (by rw [List.size_toArray]; exact hh73.out)
  clear hz' hB hc HL HE KH
  go_enter Try.func53, Try.ntmps53
  go_wp2_with fail
  refine (HR.out _ J1.out).mono ?_
  rintro e w2 ⟨rfl, b2⟩
  have J2 := Hid.mk' (J1.out.below b2)
  clear b2 J1 HR
  go_wp2_with (first | refine wpList_store_new rfl 44 _ _ rfl _ _ L rfl rfl (by rw [hlc.out]; rfl) (by rw [hlc.out]; exact K09.info_hd) hone.out ?_)
  obtain ⟨w3, hw3⟩ : ∃ w3, w3 = w2.alloc (.cells L.toArray 44) := ⟨_, rfl⟩
  rw [← hw3]
  have R3 : Hid (w3.heap[w2.heap.size]? = some (.cells L.toArray 44 (0, 0))) := by rw [hw3]; exact heap_alloc_new w2 _
  have J3 : Hid (HJ w w3) := by rw [hw3]; exact J2.out.below ((Below.refl _ _).alloc (Nat.le_refl _) _)
  clear hw3
  refine wp_region_held_drew (S := fun u => u.heap[w2.heap.size]? = some (.cells L.toArray 44 (0, 0)) ∧ HJ w u) (by kernel_rfl) ⟨R3.out, J3.out.dr ⟨1, rfl⟩⟩ (fun hHeld => ?_)
  change wpAnyH _ _ _ _ _ 7 #[false, false, false, false, false, false, false] _ _
  refine held_take 0 12 (.agg L.toArray) rfl rfl (by kernel_rfl) (by kernel_rfl) (by kernel_rfl) (fun _ _ _ h => h) (yieldsIf_load_mid (by rfl) 44 _ rfl w2.heap.size 0 rfl L _ (fun u hu => range_block hu.1) Try.underlying44 rfl (by rw [hlc.out]; exact K09.info_hd)) hHeld ?_
  simp only [Act.put, List.setIfInBounds_toArray, List.set_cons_zero, List.set_cons_succ]
  refine held_take 1 13 (.agg H.toArray) rfl rfl (by kernel_rfl) (by kernel_rfl) (by kernel_rfl) (fun _ _ _ h => h) (yieldsIf_build (by rfl) 48 #[(0, .const (.int .u8 5)), (5, .tmp 12)] rfl H.toArray ?_) hHeld ?_
  · simpa [Act.eval] using hbl.out
  simp only [Act.put, List.setIfInBounds_toArray, List.set_cons_zero, List.set_cons_succ]
  refine held_take 3 15 (.int .i64 E) rfl rfl (by kernel_rfl) (by kernel_rfl) (by kernel_rfl) (fun _ _ _ h => h) (Or.inl ⟨by rfl, fun u hu => ?_⟩) hHeld ?_
  · go_simp
  simp only [Act.put, List.setIfInBounds_toArray, List.set_cons_zero, List.set_cons_succ]
  refine held_one 2 (by kernel_rfl) rfl (fun K hK => ?_)
  go_simp
  go_wp2_with (first | (go_at_call 55; refine (K09.lsize_any w3.drew).mono ?_; rintro e w8 ⟨rfl, rfl⟩))
  refine hK.out _ _ hHeld (fun _ => ?_)
  clear hK K
  try simp only [List.setIfInBounds_toArray, List.set_cons_zero, List.set_cons_succ]
  refine held_one 4 (by kernel_rfl) rfl (fun K hK => ?_)
  refine step_store_box rfl rfl 48 _ _ rfl w.heap.size H rfl rfl (by rw [hs73.out]; exact hHeld.2.there) (by rw [hh73.out]; exact info_hh) hh1.out ?_
  obtain ⟨D1, D2, D3⟩ := hHeld.2.done H hh73.out
  have hlt := J2.out.lt
  have hne : ¬ w2.heap.size = w.heap.size := by omega
  have hHeld3 : (w3.drew.setCells w.heap.size 0 H).heap[w2.heap.size]? = some (.cells L.toArray 44 (0, 0)) ∧ HJ w (w3.drew.setCells w.heap.size 0 H) := ⟨(D3.block _ (Array.getElem?_eq_some_iff.1 hHeld.1).1 hne).trans hHeld.1, ⟨⟨H, hh73.out, D1⟩, D2⟩⟩
  refine hK.out _ _ hHeld3 (fun _ => ?_)
  clear hK K
  try simp only [List.setIfInBounds_toArray, List.set_cons_zero, List.set_cons_succ]
  refine held_take 5 3 (.int .i64 20) rfl rfl (by kernel_rfl) (by kernel_rfl) (by kernel_rfl) (fun _ _ _ h => h) (Or.inl ⟨by rfl, fun u hu => ?_⟩) hHeld3 ?_
  · go_simp
  simp only [Act.put, List.setIfInBounds_toArray, List.set_cons_zero, List.set_cons_succ]
  refine held_take 6 4 (.int .i64 E) rfl rfl (by kernel_rfl) (by kernel_rfl) (by kernel_rfl) (fun _ _ _ h => h) (Or.inl ⟨by rfl, fun u hu => ?_⟩) hHeld3 ?_
  · go_simp
  simp only [Act.put, List.setIfInBounds_toArray, List.set_cons_zero, List.set_cons_succ]
  refine wpAnyH_done (by kernel_rfl) ?_ _
  go_wp2
  refine ret_cell_tmp2 rfl w.heap.size 48 H (0, 0) _ rfl D1 Try.underlying48 rfl (by rw [hh73.out]; exact info_hh) rfl ?_
  exact ⟨rfl, D2⟩

set_option maxHeartbeats 1000000 in
theorem reader_6 (a : Option Addr) (n c : Nat) (zs : List Int) (w : World) (hz' : zs.length = n) (hB : Bs w a zs) (hc : n ≤ c) :
    Calls Try.prog 56 #[.slice a n c] w fun e w' => e = .returned (.tuple #[.agg (hk 6 (rL 6 zs)).toArray, .int .i64 (sz 6 : Nat), .int .i64 (rE 6 zs)]) ∧ Below w.heap.size w w' := by
  have KH := Hid.mk' (rL_hd (k := 6) (by omega) (by omega) hB.bytes)
  have J1 := Hid.mk' (HJ.first w)
  have HR : Hid (∀ u, HJ w u → Calls Try.prog 57 #[.slice a n c] u fun e w' => e = .returned (.tuple #[.agg (rL 6 zs).toArray, .int .i64 (rE 6 zs)]) ∧ Below u.heap.size u w') := Hid.mk' (fun u h => K10.h_read a n c zs u hz' (hB.below h.old) hc)
  obtain ⟨L, HL⟩ : ∃ L, Hid (rL 6 zs = L) := ⟨_, rfl⟩
  obtain ⟨E, HE⟩ : ∃ E, Hid (rE 6 zs = E) := ⟨_, rfl⟩
  rw [HL.out, HE.out]
  rw [HL.out, HE.out] at HR
  rw [HL.out] at KH
  have hlc : Hid (L.length = 2) := Hid.mk' (K10.hd_len (KH.out.2.2.2.2.2.2.2 rfl))
  have hone : Hid (L.toArray.all (·.oneCell') = true) := Hid.mk' (K10.hd_one (KH.out.2.2.2.2.2.2.2 rfl))
  have HH := Hid.mk' (hk_hh KH.out)
  obtain ⟨H, HHk⟩ : ∃ H, Hid (hk 6 L = H) := ⟨_, rfl⟩
  have hbl : Hid (Try.prog.built 48 [(0, .int .u8 6), (6, .agg L.toArray)] = some H.toArray) := by rw [← HHk.out]; exact built_6 L hlc.out
  rw [HHk.out] at HH
  rw [HHk.out]
  have hh73 := Hid.mk' (hh_len HH.out)
  have hh1 := Hid.mk' (hh_one HH.out)
  have hs73 : Hid (H.toArray.size = 73) := Hid.mk' (by rw [List.size_toArray]; exact hh73.out)
  clear hz' hB hc HL HE KH
  go_enter Try.func56, Try.ntmps56
  go_wp2_with fail
  refine (HR.out _ J1.out).mono ?_
  rintro e w2 ⟨rfl, b2⟩
  have J2 := Hid.mk' (J1.out.below b2)
  clear b2 J1 HR
  go_wp2_with (first | refine wpList_store_new rfl 46 _ _ rfl _ _ L rfl rfl (by rw [hlc.out]; rfl) (by rw [hlc.out]; exact K10.info_hd) hone.out ?_)
  obtain ⟨w3, hw3⟩ : ∃ w3, w3 = w2.alloc (.cells L.toArray 46) := ⟨_, rfl⟩
  rw [← hw3]
  have R3 : Hid (w3.heap[w2.heap.size]? = some (.cells L.toArray 46 (0, 0))) := by rw [hw3]; exact heap_alloc_new w2 _
  have J3 : Hid (HJ w w3) := by rw [hw3]; exact J2.out.below ((Below.refl _ _).alloc (Nat.le_refl _) _)
  clear hw3
  refine wp_region_held_drew (S := fun u => u.heap[w2.heap.size]? = some (.cells L.toArray 46 (0, 0)) ∧ HJ w u) (by kernel_rfl) ⟨R3.out, J3.out.dr ⟨1, rfl⟩⟩ (fun hHeld => ?_)
  change wpAnyH _ _ _ _ _ 7 #[false, false, false, false, false, false, false] _ _
  refine held_take 0 12 (.agg L.toArray) rfl rfl (by kernel_rfl) (by kernel_rfl) (by kernel_rfl) (fun _ _ _ h => h) (yieldsIf_load_mid (by rfl) 46 _ rfl w2.heap.size 0 rfl L _ (fun u hu => range_block hu.1) Try.underlying46 rfl (by rw [hlc.out]; exact K10.info_hd)) hHeld ?_
  simp only [Act.put, List.setIfInBounds_toArray, List.set_cons_zero, List.set_cons_succ]
  refine held_take 1 13 (.agg H.toArray) rfl rfl (by kernel_rfl) (by kernel_rfl) (by kernel_rfl) (fun _ _ _ h => h) (yieldsIf_build (by rfl) 48 #[(0, .const (.int .u8 6)), (6, .tmp 12)] rfl H.toArray ?_) hHeld ?_
  · simpa [Act.eval] using hbl.out
  simp only [Act.put, List.setIfInBounds_toArray, List.set_cons_zero, List.set_cons_succ]
  refine held_take 3 15 (.int .i64 E) rfl rfl (by kernel_rfl) (by kernel_rfl) (by kernel_rfl) (fun _ _ _ h => h) (Or.inl ⟨by rfl, fun u hu => ?_⟩) hHeld ?_
  · go_simp
  simp only [Act.put, List.setIfInBounds_toArray, List.set_cons_zero, List.set_cons_succ]
  refine held_one 2 (by kernel_rfl) rfl (fun K hK => ?_)
  go_simp
  go_wp2_with (first | (go_at_call 58; refine (K10.lsize_any w3.drew).mono ?_; rintro e w8 ⟨rfl, rfl⟩))
  refine hK.out _ _ hHeld (fun _ => ?_)
  clear hK K
  try simp only [List.setIfInBounds_toArray, List.set_cons_zero, List.set_cons_succ]
  refine held_one 4 (by kernel_rfl) rfl (fun K hK => ?_)
  refine step_store_box rfl rfl 48 _ _ rfl w.heap.size H rfl rfl (by rw [hs73.out]; exact hHeld.2.there) (by rw [hh73.out]; exact info_hh) hh1.out ?_
  obtain ⟨D1, D2, D3⟩ := hHeld.2.done H hh73.out
  have hlt := J2.out.lt
  have hne : ¬ w2.heap.size = w.heap.size := by omega
  have hHeld3 : (w3.drew.setCells w.heap.size 0 H).heap[w2.heap.size]? = some (.cells L.toArray 46 (0, 0)) ∧ HJ w (w3.drew.setCells w.heap.size 0 H) := ⟨(D3.block _ (Array.getElem?_eq_some_iff.1 hHeld.1).1 hne).trans hHeld.1, ⟨⟨H, hh73.out, D1⟩, D2⟩⟩
  refine hK.out _ _ hHeld3 (fun _ => ?_)
  clear hK K
  try simp only [List.setIfInBounds_toArray, List.set_cons_zero, List.set_cons_succ]
  refine held_take 5 3 (.int .i64 8) rfl rfl (by kernel_rfl) (by kernel_rfl) (by kernel_rfl) (fun _ _ _ h => h) (Or.inl ⟨by rfl, fun u hu => ?_⟩) hHeld3 ?_
  · go_simp
  simp only [Act.put, List.setIfInBounds_toArray, List.set_cons_zero, List.set_cons_succ]
  refine held_take 6 4 (.int .i64 E) rfl rfl (by kernel_rfl) (by kernel_rfl) (by kernel_rfl) (fun _ _ _ h => h) (Or.inl ⟨by rfl, fun u hu => ?_⟩) hHeld3 ?_
  · go_simp
  simp only [Act.put, List.setIfInBounds_toArray, List.set_cons_zero, List.set_cons_succ]
  refine wpAnyH_done (by kernel_rfl) ?_ _
  go_wp2
  refine ret_cell_tmp2 rfl w.heap.size 48 H (0, 0) _ rfl D1 Try.underlying48 rfl (by rw [hh73.out]; exact info_hh) rfl ?_
  exact ⟨rfl, D2⟩

end Go.Proofs.Ythdgfhllieknlaa
