/- The contract of the document's own Read for dgram. -/
import Derived.Test.YtbbnoogkgobeoaaYd
import Derived.Test.YtbbnoogkgobeoaaBc
import Derived.Deep.RegionHeld3
namespace Go.Proofs.Ytbbnoogkgobeoaa
open Go.ChangeShapes Go.WideShapes Go.ChangeAt Go.RowKit

set_option maxHeartbeats 400000 in
theorem rread_short (a : Option Addr) (n c : Nat) (w : World) (hn : n < 8) :
    Calls Try.prog 18 #[.slice a n c] w fun e w' => e = .returned (.tuple #[.agg hd0.toArray, .int .i64 6]) ∧ Below w.heap.size w w' := by
  go_enter Try.func18, Try.ntmps18
  go_wp2_with fail
  refine ret_cell_tmp rfl w.heap.size 24 hd0 (0, 0) _ rfl (heap_alloc2_old w _ _) Try.underlying24 rfl info_hd rfl ?_
  exact ⟨rfl, ((Below.refl _ _).alloc (Nat.le_refl _) _).alloc (by simp) _⟩

/-- What holds where the document's Read has only looked: the box of its result and the one of none. -/
structure RrJ (w u : World) : Prop where
  box : u.heap[w.heap.size]? = some (.cells hd0.toArray 24 (0, 0))
  non : u.heap[w.heap.size + 1]? = some (.cells hd0.toArray 24 (0, 0))
  old : Below w.heap.size w u
theorem RrJ.first (w : World) : RrJ w ((w.alloc (.cells hd0.toArray 24)).alloc (.cells hd0.toArray 24)) :=
  ⟨heap_alloc2_old w _ _, heap_alloc2_new w _ _, ((Below.refl _ _).alloc (Nat.le_refl _) _).alloc (by simp) _⟩
theorem RrJ.below {w u v : World} (h : RrJ w u) (b : Below u.heap.size u v) : RrJ w v :=
  ⟨(b.block _ (Array.getElem?_eq_some_iff.1 h.box).1).trans h.box, (b.block _ (Array.getElem?_eq_some_iff.1 h.non).1).trans h.non, h.old.trans (b.mono h.old.size)⟩
theorem RrJ.set {w u : World} (h : RrJ w u) {p : Addr} (hp : w.heap.size + 2 ≤ p.block) (x : Value) : RrJ w (u.setCell p x) :=
  ⟨by rw [Go.heap_setCell_other _ _ _ _ (by omega)]; exact h.box, by rw [Go.heap_setCell_other _ _ _ _ (by omega)]; exact h.non, h.old.setCell (p := p) (by omega) _⟩
theorem RrJ.there {w u : World} (h : RrJ w u) : u.there w.heap.size 0 hd0.toArray.size := there_block h.box
theorem RrJ.done {w u : World} (h : RrJ w u) (M : List Value) (hl : M.length = 2) : (u.setCells w.heap.size 0 M).heap[w.heap.size]? = some (.cells M.toArray 24 (0, 0)) ∧ Below w.heap.size w (u.setCells w.heap.size 0 M) :=
  ⟨heap_whole (L := hd0) h.box (by rw [hl]; rfl), h.old.trans (((Kept.refl (fun k => k = w.heap.size) u).setCells w.heap.size 0 M (fun _ => rfl)).below h.old.size (fun k hk => by omega))⟩
theorem RrJ.size {w u : World} (h : RrJ w u) : w.heap.size + 2 ≤ u.heap.size := (Array.getElem?_eq_some_iff.1 h.non).1

set_option maxHeartbeats 1000000 in
theorem rread_bad (b off : Nat) (n c : Nat) (zs : List Int) (w : World) (hz : zs.length = n) (hB : Bs w (some ⟨b, off, none⟩) zs) (hn : 8 ≤ n) (hq : ¬ rdQ zs) :
    Calls Try.prog 18 #[.slice (some ⟨b, off, none⟩) n c] w fun e w' => e = .returned (.tuple #[.agg hd0.toArray, .int .i64 100]) ∧ Below w.heap.size w w' := by
  have hln : n ≤ 140737488355328 := by rw [← hz]; exact hB.len
  have KV : Hid (∀ (u : World) (k : Nat), Below w.heap.size w u → k + 2 ≤ n → Calls Try.prog 28 #[.slice (some ⟨b, off, none⟩) n c, .int .i64 k, .int .i64 2] u fun e u' => e = .returned (.int .i64 (rdV zs k)) ∧ u = u') := Hid.mk' (fun u k h hk => by
    have h0 := value_any b off n c k 2 zs u hz (hB.below h) (by omega) hk
    rw [show valV zs k 2 = rdV zs k by simp [valV, rdV]] at h0
    exact h0)
  unfold rdQ at hq
  rw [hz] at hq
  clear hB hz
  obtain ⟨V4, H4⟩ : ∃ V, Hid (rdV zs 4 = V) := ⟨_, rfl⟩
  rw [H4.out] at hq
  have hqb : (V4 != (n : Int)) = true := by simpa using hq
  go_enter Try.func18, Try.ntmps18
  go_wp2_with fail
  obtain ⟨W2, hW2⟩ : ∃ W2, W2 = (w.alloc (.cells #[.int .u16 0, .int .u16 0] 24)).alloc (.cells #[.int .u16 0, .int .u16 0] 24) := ⟨_, rfl⟩
  rw [← hW2]
  have J2 : Hid (RrJ w W2) := Hid.mk' (by rw [hW2]; exact RrJ.first w)
  clear hW2
  refine (KV.out W2 4 J2.out.old (by omega)).mono ?_
  rw [H4.out]
  rintro e w3 ⟨rfl, rfl⟩
  go_wp2_with (first | refine wpList_store_mid rfl 24 _ _ rfl w.heap.size 0 hd0.toArray rfl rfl J2.out.there info_hd hd0_one ?_ | refine wpList_load_mid rfl 24 _ rfl (w.heap.size + 1) 0 rfl hd0 _ (range_block J2.out.non) Try.underlying24 rfl info_hd ?_)
  refine ret_cell_tmp rfl w.heap.size 24 hd0 (0, 0) _ rfl (J2.out.done hd0 rfl).1 Try.underlying24 rfl info_hd rfl ?_
  exact ⟨rfl, (J2.out.done hd0 rfl).2⟩

set_option maxHeartbeats 1000000 in
theorem rread_sum (b off : Nat) (n c : Nat) (zs : List Int) (w : World) (hz : zs.length = n) (hB : Bs w (some ⟨b, off, none⟩) zs) (hn : 8 ≤ n) (hq : rdQ zs) (hf : ¬ rdV zs 6 = rdF zs) :
    Calls Try.prog 18 #[.slice (some ⟨b, off, none⟩) n c] w fun e w' => e = .returned (.tuple #[.agg hd0.toArray, .int .i64 110]) ∧ Below w.heap.size w w' := by
  have hln : n ≤ 140737488355328 := by rw [← hz]; exact hB.len
  have KV : Hid (∀ (u : World) (k : Nat), Below w.heap.size w u → k + 2 ≤ n → Calls Try.prog 28 #[.slice (some ⟨b, off, none⟩) n c, .int .i64 k, .int .i64 2] u fun e u' => e = .returned (.int .i64 (rdV zs k)) ∧ u = u') := Hid.mk' (fun u k h hk => by
    have h0 := value_any b off n c k 2 zs u hz (hB.below h) (by omega) hk
    rw [show valV zs k 2 = rdV zs k by simp [valV, rdV]] at h0
    exact h0)
  unfold rdQ at hq
  rw [hz] at hq
  have H4 := Hid.mk' hq
  have HB := Hid.mk' hB
  have HN := Hid.mk' hz
  have hF : 0 ≤ rdF zs ∧ rdF zs ≤ 65535 := by
    have := su_range (zf zs) zs.length
    exact fd_bd this.1 this.2
  have HZB : Hid (Bytes (zf zs)) := Hid.mk' (zf_bytes hB.bytes)
  have HZL : Hid ((zf zs).length = n) := Hid.mk' (by rw [zf_length, hz])
  have HFE : Hid (fd (su (zf zs) n) = rdF zs) := Hid.mk' (by unfold rdF; rw [hz])
  clear hB hz hq
  obtain ⟨F, HF⟩ : ∃ F, Hid (rdF zs = F) := ⟨_, rfl⟩
  rw [HF.out] at hf hF HFE
  obtain ⟨f0, f1⟩ := hF
  obtain ⟨V6, H6⟩ : ∃ V, Hid (rdV zs 6 = V) := ⟨_, rfl⟩
  rw [H6.out] at hf
  have hfb : (V6 != F) = true := by simpa using hf
  have hnb : ((n : Int) != (n : Int)) = false := by simp
  have k6 : (6 : Int) < (n : Int) := by omega
  have k7 : (7 : Int) < (n : Int) := by omega
  go_enter Try.func18, Try.ntmps18
  go_wp2_with fail
  obtain ⟨W2, hW2⟩ : ∃ W2, W2 = (w.alloc (.cells #[.int .u16 0, .int .u16 0] 24)).alloc (.cells #[.int .u16 0, .int .u16 0] 24) := ⟨_, rfl⟩
  rw [← hW2]
  have J2 : Hid (RrJ w W2) := Hid.mk' (by rw [hW2]; exact RrJ.first w)
  clear hW2
  refine (KV.out W2 4 J2.out.old (by omega)).mono ?_
  rw [H4.out]
  rintro e w3 ⟨rfl, rfl⟩
  go_wp2_with fail
  refine (copy_at (some ⟨b, off, none⟩) n c zs W2 HN.out (HB.out.below J2.out.old) (fun e => by cases e)).mono ?_
  rintro e w3 ⟨v3, rfl, hown, b3⟩
  obtain ⟨g, cg, rfl, hcg⟩ := own_some hown (by omega)
  have J3 := Hid.mk' (J2.out.below b3)
  have hg2 : w.heap.size + 2 ≤ g := Nat.le_trans J2.out.size (hown.lt g rfl).1
  obtain ⟨u6, d6⟩ : ∃ u, w3.cell? ⟨g, 6, none⟩ = some u := ⟨_, by rw [hown.cellAt 6 (by omega), List.getElem?_eq_getElem (by rw [List.length_map, HN.out]; omega)]⟩
  obtain ⟨u7, d7⟩ : ∃ u, w3.cell? ⟨g, 7, none⟩ = some u := ⟨_, by rw [hown.cellAt 7 (by omega), List.getElem?_eq_getElem (by rw [List.length_map, HN.out]; omega)]⟩
  have f6 := hown.frozenAt 6
  have f7 := hown.frozenAt 7
  have O5 := Hid.mk' (((hown.stored 6 (.int .u8 0)).1).stored 7 (.int .u8 0)).1
  rw [← List.map_set, ← List.map_set] at O5
  have J5 : Hid (RrJ w ((w3.setCell ⟨g, 6, none⟩ (.int .u8 0)).setCell ⟨g, 7, none⟩ (.int .u8 0))) := Hid.mk' ((J3.out.set (p := ⟨g, 6, none⟩) hg2 _).set (p := ⟨g, 7, none⟩) hg2 _)
  clear hown b3 hcg hg2 J2 J3
  go_wp2_with fail
  clear d6 d7 f6 f7
  generalize (w3.setCell ⟨g, 6, none⟩ (.int .u8 0)).setCell ⟨g, 7, none⟩ (.int .u8 0) = w5 at *
  refine (KV.out w5 6 J5.out.old (by omega)).mono ?_
  rw [H6.out]
  rintro e w6 ⟨rfl, rfl⟩
  go_wp2_with fail
  have key := rfield_any (some ⟨g, 0, none⟩) cg (zf zs) w5 (bs_row_g (n := n) O5.out HZB.out (by rw [HZL.out]; exact hln))
  rw [HZL.out, HFE.out] at key
  refine (keep_name key).mono ?_
  rintro e w6 ⟨rfl, rfl⟩
  clear key
  go_wp2_with (first | refine wpList_store_mid rfl 24 _ _ rfl w.heap.size 0 hd0.toArray rfl rfl J5.out.there info_hd hd0_one ?_ | refine wpList_load_mid rfl 24 _ rfl (w.heap.size + 1) 0 rfl hd0 _ (range_block J5.out.non) Try.underlying24 rfl info_hd ?_)
  refine ret_cell_tmp rfl w.heap.size 24 hd0 (0, 0) _ rfl (J5.out.done hd0 rfl).1 Try.underlying24 rfl info_hd rfl ?_
  exact ⟨rfl, (J5.out.done hd0 rfl).2⟩

set_option maxHeartbeats 1000000 in
theorem rread_ok (b off : Nat) (n c : Nat) (zs : List Int) (w : World) (hz : zs.length = n) (hB : Bs w (some ⟨b, off, none⟩) zs) (hn : 8 ≤ n) (hq : rdQ zs) (hf : rdV zs 6 = rdF zs) :
    Calls Try.prog 18 #[.slice (some ⟨b, off, none⟩) n c] w fun e w' => e = .returned (.tuple #[.agg (rdC zs).toArray, .int .i64 0]) ∧ Below w.heap.size w w' := by
  have hln : n ≤ 140737488355328 := by rw [← hz]; exact hB.len
  have KV : Hid (∀ (u : World) (k : Nat), Below w.heap.size w u → k + 2 ≤ n → Calls Try.prog 28 #[.slice (some ⟨b, off, none⟩) n c, .int .i64 k, .int .i64 2] u fun e u' => e = .returned (.int .i64 (rdV zs k)) ∧ u = u') := Hid.mk' (fun u k h hk => by
    have h0 := value_any b off n c k 2 zs u hz (hB.below h) (by omega) hk
    rw [show valV zs k 2 = rdV zs k by simp [valV, rdV]] at h0
    exact h0)
  unfold rdQ at hq
  rw [hz] at hq
  have H4 := Hid.mk' hq
  have HB := Hid.mk' hB
  have HN := Hid.mk' hz
  have hF : 0 ≤ rdF zs ∧ rdF zs ≤ 65535 := by
    have := su_range (zf zs) zs.length
    exact fd_bd this.1 this.2
  have HZB : Hid (Bytes (zf zs)) := Hid.mk' (zf_bytes hB.bytes)
  have HZL : Hid ((zf zs).length = n) := Hid.mk' (by rw [zf_length, hz])
  have HFE : Hid (fd (su (zf zs) n) = rdF zs) := Hid.mk' (by unfold rdF; rw [hz])
  have v0 := rdV_bd hB.bytes 0
  have v2 := rdV_bd hB.bytes 2
  unfold rdC
  obtain ⟨V0, H0⟩ : ∃ V, Hid (rdV zs 0 = V) := ⟨_, rfl⟩
  obtain ⟨V2, H2⟩ : ∃ V, Hid (rdV zs 2 = V) := ⟨_, rfl⟩
  rw [H0.out] at v0 ⊢
  rw [H2.out] at v2 ⊢
  clear hB hz hq
  obtain ⟨F, HF⟩ : ∃ F, Hid (rdF zs = F) := ⟨_, rfl⟩
  rw [HF.out] at hf hF HFE
  obtain ⟨f0, f1⟩ := hF
  have H6 := Hid.mk' hf
  clear hf
  have hfb : (F != F) = false := by simp
  have hnb : ((n : Int) != (n : Int)) = false := by simp
  have k6 : (6 : Int) < (n : Int) := by omega
  have k7 : (7 : Int) < (n : Int) := by omega
  go_enter Try.func18, Try.ntmps18
  go_wp2_with fail
  obtain ⟨W2, hW2⟩ : ∃ W2, W2 = (w.alloc (.cells #[.int .u16 0, .int .u16 0] 24)).alloc (.cells #[.int .u16 0, .int .u16 0] 24) := ⟨_, rfl⟩
  rw [← hW2]
  have J2 : Hid (RrJ w W2) := Hid.mk' (by rw [hW2]; exact RrJ.first w)
  clear hW2
  refine (KV.out W2 4 J2.out.old (by omega)).mono ?_
  rw [H4.out]
  rintro e w3 ⟨rfl, rfl⟩
  go_wp2_with fail
  refine (copy_at (some ⟨b, off, none⟩) n c zs W2 HN.out (HB.out.below J2.out.old) (fun e => by cases e)).mono ?_
  rintro e w3 ⟨v3, rfl, hown, b3⟩
  obtain ⟨g, cg, rfl, hcg⟩ := own_some hown (by omega)
  have J3 := Hid.mk' (J2.out.below b3)
  have hg2 : w.heap.size + 2 ≤ g := Nat.le_trans J2.out.size (hown.lt g rfl).1
  obtain ⟨u6, d6⟩ : ∃ u, w3.cell? ⟨g, 6, none⟩ = some u := ⟨_, by rw [hown.cellAt 6 (by omega), List.getElem?_eq_getElem (by rw [List.length_map, HN.out]; omega)]⟩
  obtain ⟨u7, d7⟩ : ∃ u, w3.cell? ⟨g, 7, none⟩ = some u := ⟨_, by rw [hown.cellAt 7 (by omega), List.getElem?_eq_getElem (by rw [List.length_map, HN.out]; omega)]⟩
  have f6 := hown.frozenAt 6
  have f7 := hown.frozenAt 7
  have O5 := Hid.mk' (((hown.stored 6 (.int .u8 0)).1).stored 7 (.int .u8 0)).1
  rw [← List.map_set, ← List.map_set] at O5
  have J5 : Hid (RrJ w ((w3.setCell ⟨g, 6, none⟩ (.int .u8 0)).setCell ⟨g, 7, none⟩ (.int .u8 0))) := Hid.mk' ((J3.out.set (p := ⟨g, 6, none⟩) hg2 _).set (p := ⟨g, 7, none⟩) hg2 _)
  clear hown b3 hcg hg2 J2 J3
  go_wp2_with fail
  clear d6 d7 f6 f7
  generalize (w3.setCell ⟨g, 6, none⟩ (.int .u8 0)).setCell ⟨g, 7, none⟩ (.int .u8 0) = w5 at *
  refine (KV.out w5 6 J5.out.old (by omega)).mono ?_
  rw [H6.out]
  rintro e w6 ⟨rfl, rfl⟩
  go_wp2_with fail
  have key := rfield_any (some ⟨g, 0, none⟩) cg (zf zs) w5 (bs_row_g (n := n) O5.out HZB.out (by rw [HZL.out]; exact hln))
  rw [HZL.out, HFE.out] at key
  refine (keep_name key).mono ?_
  rintro e w6 ⟨rfl, rfl⟩
  clear key
  have e0 : IntKind.u16.wrap V0 = V0 := by rw [IntKind.wrap_u16]; omega
  have e2 : IntKind.u16.wrap V2 = V2 := by rw [IntKind.wrap_u16]; omega
  clear O5
  have J7 : Hid (RrJ w (w5.alloc (.cells #[.int .u16 V0, .int .u16 V2] 24))) := Hid.mk' (J5.out.below ((Below.refl _ _).alloc (Nat.le_refl _) _))
  have Q7 : Hid ((w5.alloc (.cells #[.int .u16 V0, .int .u16 V2] 24)).heap[w5.heap.size]? = some (.cells (dgC V0 V2).toArray 24 (0, 0))) := Hid.mk' (heap_alloc_new w5 _)
  go_wp2_with fail
  refine (KV.out w5 0 J5.out.old (by omega)).mono ?_
  rw [H0.out]
  rintro e w6 ⟨rfl, rfl⟩
  go_wp2_with fail
  refine (KV.out w5 2 J5.out.old (by omega)).mono ?_
  rw [H2.out]
  rintro e w6 ⟨rfl, rfl⟩
  clear J5
  go_wp2_with (first | refine wpList_store_mid rfl 24 _ _ rfl w.heap.size 0 (dgC V0 V2).toArray rfl rfl J7.out.there info_hd (dgC_one _ _) ?_ | refine wpList_load_mid rfl 24 _ rfl w5.heap.size 0 rfl (dgC V0 V2) _ (range_block Q7.out) Try.underlying24 rfl info_hd ?_)
  refine ret_cell_tmp rfl w.heap.size 24 (dgC V0 V2) (0, 0) _ rfl (J7.out.done _ rfl).1 Try.underlying24 rfl info_hd rfl ?_
  exact ⟨rfl, (J7.out.done _ rfl).2⟩
end Go.Proofs.Ytbbnoogkgobeoaa
