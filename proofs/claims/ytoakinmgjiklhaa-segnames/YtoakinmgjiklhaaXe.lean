/- The contract of the document's own Read for seg. -/
import Derived.Test.YtoakinmgjiklhaaXd
import Derived.Test.YtoakinmgjiklhaaBc
namespace Go.Proofs.Ytoakinmgjiklhaa
open Go.ChangeShapes Go.WideShapes Go.ChangeAt Go.RowKit

set_option maxHeartbeats 400000 in
theorem rread_short (a : Option Addr) (n c : Nat) (w : World) (hn : n < 20) :
    Calls Try.prog 18 #[.slice a n c] w fun e w' => e = .returned (.tuple #[.agg hd0.toArray, .int .i64 6]) ∧ Below w.heap.size w w' := by
  go_enter Try.func18, Try.ntmps18
  go_wp2_with fail
  refine ret_cell_tmp rfl w.heap.size 25 hd0 (0, 0) _ rfl (heap_alloc2_old w _ _) Try.underlying25 rfl info_hd rfl ?_
  exact ⟨rfl, ((Below.refl _ _).alloc (Nat.le_refl _) _).alloc (by simp) _⟩

theorem rdQ_iff {zs : List Int} (h : Bytes zs) : rdQ zs ↔ (zs.getD 12 0 = 80 ∧ zs.getD 13 0 ≤ 63) ∧ zs.getD 18 0 = 0 ∧ zs.getD 19 0 = 0 := by
  have h0 := h.getD 12
  have h1 := h.getD 13
  have h2 := h.getD 18
  have h3 := h.getD 19
  unfold rdQ rdV
  simp only [Nat.reduceAdd]
  omega
theorem valV_4 (zs : List Int) (k : Nat) : valV zs k 4 = rdW zs k := by
  show (((0 * 256 + zs.getD k 0) * 256 + zs.getD (k + 1) 0) * 256 + zs.getD (k + 2) 0) * 256 + zs.getD (k + 3) 0 = (zs.getD k 0 * 256 + zs.getD (k + 1) 0) * 65536 + (zs.getD (k + 2) 0 * 256 + zs.getD (k + 3) 0)
  omega

set_option maxHeartbeats 1000000 in
theorem rread_bad (b off : Nat) (n c : Nat) (zs : List Int) (w : World) (hz : zs.length = n) (hB : Bs w (some ⟨b, off, none⟩) zs) (hn : 20 ≤ n) (hq : ¬ rdQ zs) :
    Calls Try.prog 18 #[.slice (some ⟨b, off, none⟩) n c] w fun e w' => e = .returned (.tuple #[.agg hd0.toArray, .int .i64 90]) ∧ Below w.heap.size w w' := by
  have hln : n ≤ 140737488355328 := by rw [← hz]; exact hB.len
  have CE : Hid (∀ u, Below w.heap.size w u → ∀ k, k < n → u.cell? ⟨b, off + k, none⟩ = some (.int .u8 (zs.getD k 0))) := Hid.mk' (fun u h k hk => by
    rcases (hB.below h).lies with h0 | ⟨b', off', e, hc⟩
    · omega
    · cases e; exact hc k (by omega))
  have c12 := CE.out w (Below.refl _ _) 12 (by omega)
  have c13 := CE.out w (Below.refl _ _) 13 (by omega)
  have c18 := CE.out w (Below.refl _ _) 18 (by omega)
  have c19 := CE.out w (Below.refl _ _) 19 (by omega)
  have hlt := lt_of_cell c12
  have hlt' : b < w.heap.size := hlt
  have hne : ¬ b = w.heap.size := by omega
  have hne1 : ¬ b = w.heap.size + 1 := by omega
  have k12 : (12 : Int) < (n : Int) := by omega
  have k13 : (13 : Int) < (n : Int) := by omega
  have k18 : (18 : Int) < (n : Int) := by omega
  have k19 : (19 : Int) < (n : Int) := by omega
  have B2 : Hid (Below w.heap.size w ((w.alloc (.cells hd0.toArray 25)).alloc (.cells hd0.toArray 25))) := ((Below.refl _ _).alloc (Nat.le_refl _) _).alloc (by simp) _
  rw [rdQ_iff hB.bytes] at hq
  have z13 := hB.bytes.getD 13
  clear hB hz hlt CE
  generalize zs.getD 12 0 = x at *
  generalize zs.getD 13 0 = y at *
  generalize zs.getD 18 0 = z at *
  generalize zs.getD 19 0 = t at *
  by_cases hx : x = 80
  · subst hx
    by_cases hy : 64 ≤ y
    · have hyd : decide (64 ≤ y) = true := by simpa using hy
      go_enter Try.func18, Try.ntmps18
      go_wp2_with fail
      refine ret_cell_tmp rfl w.heap.size 25 hd0 (0, 0) _ rfl (heap_alloc2_old w _ _) Try.underlying25 rfl info_hd rfl ?_
      exact ⟨rfl, B2.out⟩
    · have hyd : decide (64 ≤ y) = false := by simpa using hy
      by_cases h18 : z = 0
      · subst h18
        have h19 : ¬ t = 0 := fun e => hq ⟨⟨rfl, by omega⟩, rfl, e⟩
        have h19b : (t != 0) = true := by simpa using h19
        go_enter Try.func18, Try.ntmps18
        go_wp2_with fail
        refine ret_cell_tmp rfl w.heap.size 25 hd0 (0, 0) _ rfl (heap_alloc2_old w _ _) Try.underlying25 rfl info_hd rfl ?_
        exact ⟨rfl, B2.out⟩
      · have h18b : (z != 0) = true := by simpa using h18
        go_enter Try.func18, Try.ntmps18
        go_wp2_with fail
        refine ret_cell_tmp rfl w.heap.size 25 hd0 (0, 0) _ rfl (heap_alloc2_old w _ _) Try.underlying25 rfl info_hd rfl ?_
        exact ⟨rfl, B2.out⟩
  · have hxb : (x != 80) = true := by simpa using hx
    go_enter Try.func18, Try.ntmps18
    go_wp2_with fail
    refine ret_cell_tmp rfl w.heap.size 25 hd0 (0, 0) _ rfl (heap_alloc2_old w _ _) Try.underlying25 rfl info_hd rfl ?_
    exact ⟨rfl, B2.out⟩

/-- What holds where the document's Read has only looked: the box of its result and the one of none. -/
structure RrJ (w u : World) : Prop where
  box : u.heap[w.heap.size]? = some (.cells hd0.toArray 25 (0, 0))
  non : u.heap[w.heap.size + 1]? = some (.cells hd0.toArray 25 (0, 0))
  old : Below w.heap.size w u
theorem RrJ.first (w : World) : RrJ w ((w.alloc (.cells hd0.toArray 25)).alloc (.cells hd0.toArray 25)) :=
  ⟨heap_alloc2_old w _ _, heap_alloc2_new w _ _, ((Below.refl _ _).alloc (Nat.le_refl _) _).alloc (by simp) _⟩
theorem RrJ.below {w u v : World} (h : RrJ w u) (b : Below u.heap.size u v) : RrJ w v :=
  ⟨(b.block _ (Array.getElem?_eq_some_iff.1 h.box).1).trans h.box, (b.block _ (Array.getElem?_eq_some_iff.1 h.non).1).trans h.non, h.old.trans (b.mono h.old.size)⟩
theorem RrJ.set {w u : World} (h : RrJ w u) {p : Addr} (hp : w.heap.size + 2 ≤ p.block) (x : Value) : RrJ w (u.setCell p x) :=
  ⟨by rw [Go.heap_setCell_other _ _ _ _ (by omega)]; exact h.box, by rw [Go.heap_setCell_other _ _ _ _ (by omega)]; exact h.non, h.old.setCell (p := p) (by omega) _⟩
theorem RrJ.there {w u : World} (h : RrJ w u) : u.there w.heap.size 0 hd0.toArray.size := there_block h.box
theorem RrJ.done {w u : World} (h : RrJ w u) (M : List Value) (hl : M.length = 6) : (u.setCells w.heap.size 0 M).heap[w.heap.size]? = some (.cells M.toArray 25 (0, 0)) ∧ Below w.heap.size w (u.setCells w.heap.size 0 M) :=
  ⟨heap_whole (L := hd0) h.box (by rw [hl]; rfl), h.old.trans (((Kept.refl (fun k => k = w.heap.size) u).setCells w.heap.size 0 M (fun _ => rfl)).below h.old.size (fun k hk => by omega))⟩
theorem RrJ.size {w u : World} (h : RrJ w u) : w.heap.size + 2 ≤ u.heap.size := (Array.getElem?_eq_some_iff.1 h.non).1

set_option maxHeartbeats 1000000 in
theorem rread_sum (b off : Nat) (n c : Nat) (zs : List Int) (w : World) (hz : zs.length = n) (hB : Bs w (some ⟨b, off, none⟩) zs) (hn : 20 ≤ n) (hq : rdQ zs) (hf : ¬ rdV zs 16 = rdF zs) :
    Calls Try.prog 18 #[.slice (some ⟨b, off, none⟩) n c] w fun e w' => e = .returned (.tuple #[.agg hd0.toArray, .int .i64 110]) ∧ Below w.heap.size w w' := by
  have hln : n ≤ 140737488355328 := by rw [← hz]; exact hB.len
  have KV : Hid (∀ (u : World) (k : Nat), Below w.heap.size w u → k + 2 ≤ n → Calls Try.prog 30 #[.slice (some ⟨b, off, none⟩) n c, .int .i64 k, .int .i64 2] u fun e u' => e = .returned (.int .i64 (rdV zs k)) ∧ u = u') := Hid.mk' (fun u k h hk => by
    have h0 := value_any b off n c k 2 zs u hz (hB.below h) (by omega) hk
    rw [show valV zs k 2 = rdV zs k by simp [valV, rdV]] at h0
    exact h0)
  have CE : Hid (∀ u, Below w.heap.size w u → ∀ k, k < n → u.cell? ⟨b, off + k, none⟩ = some (.int .u8 (zs.getD k 0))) := Hid.mk' (fun u h k hk => by
    rcases (hB.below h).lies with h0 | ⟨b', off', e, hc⟩
    · omega
    · cases e; exact hc k (by omega))
  have c12 := CE.out w (Below.refl _ _) 12 (by omega)
  have c13 := CE.out w (Below.refl _ _) 13 (by omega)
  have c18 := CE.out w (Below.refl _ _) 18 (by omega)
  have c19 := CE.out w (Below.refl _ _) 19 (by omega)
  have hlt := lt_of_cell c12
  have hlt' : b < w.heap.size := hlt
  have hne : ¬ b = w.heap.size := by omega
  have hne1 : ¬ b = w.heap.size + 1 := by omega
  have k12 : (12 : Int) < (n : Int) := by omega
  have k13 : (13 : Int) < (n : Int) := by omega
  have k18 : (18 : Int) < (n : Int) := by omega
  have k19 : (19 : Int) < (n : Int) := by omega
  obtain ⟨⟨q12, q13⟩, q18, q19⟩ := (rdQ_iff hB.bytes).1 hq
  rw [q12] at c12
  rw [q18] at c18
  rw [q19] at c19
  have z13 := hB.bytes.getD 13
  have HB := Hid.mk' hB
  have HN := Hid.mk' hz
  have hF : 0 ≤ rdF zs ∧ rdF zs ≤ 65535 := by
    have := su_range (zf zs) zs.length
    unfold rdF; omega
  have HZB : Hid (Bytes (zf zs)) := Hid.mk' (zf_bytes hB.bytes)
  have HZL : Hid ((zf zs).length = n) := Hid.mk' (by rw [zf_length, hz])
  have HFE : Hid (65535 - su (zf zs) n = rdF zs) := Hid.mk' (by unfold rdF; rw [hz])
  clear hB hz hlt q12 q18 q19 hq
  obtain ⟨Y, HY13⟩ : ∃ Y, Hid (zs.getD 13 0 = Y) := ⟨_, rfl⟩
  rw [HY13.out] at c13 q13 z13
  have hy : ¬ 64 ≤ Y := by omega
  have hyd : decide (64 ≤ Y) = false := by simpa using hy
  obtain ⟨F, HF⟩ : ∃ F, Hid (rdF zs = F) := ⟨_, rfl⟩
  rw [HF.out] at hf hF HFE
  obtain ⟨f0, f1⟩ := hF
  obtain ⟨V16, H16⟩ : ∃ V, Hid (rdV zs 16 = V) := ⟨_, rfl⟩
  rw [H16.out] at hf
  have hfb : (V16 != F) = true := by simpa using hf
  have k16 : (16 : Int) < (n : Int) := by omega
  have k17 : (17 : Int) < (n : Int) := by omega
  go_enter Try.func18, Try.ntmps18
  go_wp2_with fail
  obtain ⟨W2, hW2⟩ : ∃ W2, W2 = (w.alloc (.cells #[.int .u16 0, .int .u16 0, .int .u32 0, .int .u32 0, .int .u8 0, .int .u16 0] 25)).alloc (.cells #[.int .u16 0, .int .u16 0, .int .u32 0, .int .u32 0, .int .u8 0, .int .u16 0] 25) := ⟨_, rfl⟩
  rw [← hW2]
  have J2 : Hid (RrJ w W2) := Hid.mk' (by rw [hW2]; exact RrJ.first w)
  clear hW2 c12 c13 c18 c19 hne hne1
  refine (copy_at (some ⟨b, off, none⟩) n c zs W2 HN.out (HB.out.below J2.out.old) (fun e => by cases e)).mono ?_
  rintro e w3 ⟨v3, rfl, hown, b3⟩
  obtain ⟨g, cg, rfl, hcg⟩ := own_some hown (by omega)
  have J3 := Hid.mk' (J2.out.below b3)
  have hg2 : w.heap.size + 2 ≤ g := Nat.le_trans J2.out.size (hown.lt g rfl).1
  obtain ⟨u16, d16⟩ : ∃ u, w3.cell? ⟨g, 16, none⟩ = some u := ⟨_, by rw [hown.cellAt 16 (by omega), List.getElem?_eq_getElem (by rw [List.length_map, HN.out]; omega)]⟩
  obtain ⟨u17, d17⟩ : ∃ u, w3.cell? ⟨g, 17, none⟩ = some u := ⟨_, by rw [hown.cellAt 17 (by omega), List.getElem?_eq_getElem (by rw [List.length_map, HN.out]; omega)]⟩
  have f16 := hown.frozenAt 16
  have f17 := hown.frozenAt 17
  have O5 := Hid.mk' (((hown.stored 16 (.int .u8 0)).1).stored 17 (.int .u8 0)).1
  rw [← List.map_set, ← List.map_set] at O5
  have J5 : Hid (RrJ w ((w3.setCell ⟨g, 16, none⟩ (.int .u8 0)).setCell ⟨g, 17, none⟩ (.int .u8 0))) := Hid.mk' ((J3.out.set (p := ⟨g, 16, none⟩) hg2 _).set (p := ⟨g, 17, none⟩) hg2 _)
  clear hown b3 hcg hg2 J2 J3
  go_wp2_with fail
  clear d16 d17 f16 f17
  generalize (w3.setCell ⟨g, 16, none⟩ (.int .u8 0)).setCell ⟨g, 17, none⟩ (.int .u8 0) = w5 at *
  refine (KV.out w5 16 J5.out.old (by omega)).mono ?_
  rw [H16.out]
  rintro e w6 ⟨rfl, rfl⟩
  go_wp2_with fail
  have key := reffield_any (some ⟨g, 0, none⟩) cg (zf zs) w5 (bs_row_g (n := n) O5.out HZB.out (by rw [HZL.out]; exact hln))
  rw [HZL.out, HFE.out] at key
  refine (keep_name key).mono ?_
  rintro e w6 ⟨rfl, rfl⟩
  clear key
  go_wp2_with (first | refine wpList_store_mid rfl 25 _ _ rfl w.heap.size 0 hd0.toArray rfl rfl J5.out.there info_hd hd0_one ?_ | refine wpList_load_mid rfl 25 _ rfl (w.heap.size + 1) 0 rfl hd0 _ (range_block J5.out.non) Try.underlying25 rfl info_hd ?_)
  refine ret_cell_tmp rfl w.heap.size 25 hd0 (0, 0) _ rfl (J5.out.done hd0 rfl).1 Try.underlying25 rfl info_hd rfl ?_
  exact ⟨rfl, (J5.out.done hd0 rfl).2⟩

set_option maxHeartbeats 1000000 in
theorem rread_ok (b off : Nat) (n c : Nat) (zs : List Int) (w : World) (hz : zs.length = n) (hB : Bs w (some ⟨b, off, none⟩) zs) (hn : 20 ≤ n) (hq : rdQ zs) (hf : rdV zs 16 = rdF zs) :
    Calls Try.prog 18 #[.slice (some ⟨b, off, none⟩) n c] w fun e w' => e = .returned (.tuple #[.agg (rdC zs).toArray, .int .i64 0]) ∧ Below w.heap.size w w' := by
  have hln : n ≤ 140737488355328 := by rw [← hz]; exact hB.len
  have KV : Hid (∀ (u : World) (k : Nat), Below w.heap.size w u → k + 2 ≤ n → Calls Try.prog 30 #[.slice (some ⟨b, off, none⟩) n c, .int .i64 k, .int .i64 2] u fun e u' => e = .returned (.int .i64 (rdV zs k)) ∧ u = u') := Hid.mk' (fun u k h hk => by
    have h0 := value_any b off n c k 2 zs u hz (hB.below h) (by omega) hk
    rw [show valV zs k 2 = rdV zs k by simp [valV, rdV]] at h0
    exact h0)
  have KW : Hid (∀ (u : World) (k : Nat), Below w.heap.size w u → k + 4 ≤ n → Calls Try.prog 30 #[.slice (some ⟨b, off, none⟩) n c, .int .i64 k, .int .i64 4] u fun e u' => e = .returned (.int .i64 (rdW zs k)) ∧ u = u') := Hid.mk' (fun u k h hk => by
    have h0 := value_any b off n c k 4 zs u hz (hB.below h) (by omega) hk
    rw [valV_4] at h0
    exact h0)
  have CE : Hid (∀ u, Below w.heap.size w u → ∀ k, k < n → u.cell? ⟨b, off + k, none⟩ = some (.int .u8 (zs.getD k 0))) := Hid.mk' (fun u h k hk => by
    rcases (hB.below h).lies with h0 | ⟨b', off', e, hc⟩
    · omega
    · cases e; exact hc k (by omega))
  have c12 := CE.out w (Below.refl _ _) 12 (by omega)
  have c13 := CE.out w (Below.refl _ _) 13 (by omega)
  have c18 := CE.out w (Below.refl _ _) 18 (by omega)
  have c19 := CE.out w (Below.refl _ _) 19 (by omega)
  have hlt := lt_of_cell c12
  have hlt' : b < w.heap.size := hlt
  have hne : ¬ b = w.heap.size := by omega
  have hne1 : ¬ b = w.heap.size + 1 := by omega
  have k12 : (12 : Int) < (n : Int) := by omega
  have k13 : (13 : Int) < (n : Int) := by omega
  have k18 : (18 : Int) < (n : Int) := by omega
  have k19 : (19 : Int) < (n : Int) := by omega
  obtain ⟨⟨q12, q13⟩, q18, q19⟩ := (rdQ_iff hB.bytes).1 hq
  rw [q12] at c12
  rw [q18] at c18
  rw [q19] at c19
  have z13 := hB.bytes.getD 13
  have HB := Hid.mk' hB
  have HN := Hid.mk' hz
  have hF : 0 ≤ rdF zs ∧ rdF zs ≤ 65535 := by
    have := su_range (zf zs) zs.length
    unfold rdF; omega
  have HZB : Hid (Bytes (zf zs)) := Hid.mk' (zf_bytes hB.bytes)
  have HZL : Hid ((zf zs).length = n) := Hid.mk' (by rw [zf_length, hz])
  have HFE : Hid (65535 - su (zf zs) n = rdF zs) := Hid.mk' (by unfold rdF; rw [hz])
  have v0 := rdV_bd hB.bytes 0
  have v2 := rdV_bd hB.bytes 2
  have v4 := rdW_bd hB.bytes 4
  have v8 := rdW_bd hB.bytes 8
  have v14 := rdV_bd hB.bytes 14
  have HRE : Hid (rdC zs = sgC (rdV zs 0) (rdV zs 2) (rdW zs 4) (rdW zs 8) (zs.getD 13 0) (rdV zs 14)) := Hid.mk' (by
    unfold rdC
    rw [show rdV zs 12 - 20480 = zs.getD 13 0 by show zs.getD 12 0 * 256 + zs.getD 13 0 - 20480 = _; omega])
  clear hB hz hlt q12 q18 q19 hq
  obtain ⟨Y, HY13⟩ : ∃ Y, Hid (zs.getD 13 0 = Y) := ⟨_, rfl⟩
  rw [HY13.out] at c13 q13 z13
  have hy : ¬ 64 ≤ Y := by omega
  have hyd : decide (64 ≤ Y) = false := by simpa using hy
  obtain ⟨F, HF⟩ : ∃ F, Hid (rdF zs = F) := ⟨_, rfl⟩
  rw [HF.out] at hf hF HFE
  obtain ⟨f0, f1⟩ := hF
  have H16 := Hid.mk' hf
  clear hf
  have hfb : (F != F) = false := by simp
  rw [HRE.out]
  rw [HY13.out] at HRE ⊢
  obtain ⟨V0, H0⟩ : ∃ V, Hid (rdV zs 0 = V) := ⟨_, rfl⟩
  obtain ⟨V2, H2⟩ : ∃ V, Hid (rdV zs 2 = V) := ⟨_, rfl⟩
  obtain ⟨W4, H4⟩ : ∃ V, Hid (rdW zs 4 = V) := ⟨_, rfl⟩
  obtain ⟨W8, H8⟩ : ∃ V, Hid (rdW zs 8 = V) := ⟨_, rfl⟩
  obtain ⟨V14, H14⟩ : ∃ V, Hid (rdV zs 14 = V) := ⟨_, rfl⟩
  rw [H0.out] at v0 ⊢
  rw [H2.out] at v2 ⊢
  rw [H4.out] at v4 ⊢
  rw [H8.out] at v8 ⊢
  rw [H14.out] at v14 ⊢
  clear HRE
  have k16 : (16 : Int) < (n : Int) := by omega
  have k17 : (17 : Int) < (n : Int) := by omega
  go_enter Try.func18, Try.ntmps18
  go_wp2_with fail
  obtain ⟨W2, hW2⟩ : ∃ W2, W2 = (w.alloc (.cells #[.int .u16 0, .int .u16 0, .int .u32 0, .int .u32 0, .int .u8 0, .int .u16 0] 25)).alloc (.cells #[.int .u16 0, .int .u16 0, .int .u32 0, .int .u32 0, .int .u8 0, .int .u16 0] 25) := ⟨_, rfl⟩
  rw [← hW2]
  have J2 : Hid (RrJ w W2) := Hid.mk' (by rw [hW2]; exact RrJ.first w)
  clear hW2 c12 c13 c18 c19 hne hne1
  refine (copy_at (some ⟨b, off, none⟩) n c zs W2 HN.out (HB.out.below J2.out.old) (fun e => by cases e)).mono ?_
  rintro e w3 ⟨v3, rfl, hown, b3⟩
  obtain ⟨g, cg, rfl, hcg⟩ := own_some hown (by omega)
  have J3 := Hid.mk' (J2.out.below b3)
  have hg2 : w.heap.size + 2 ≤ g := Nat.le_trans J2.out.size (hown.lt g rfl).1
  obtain ⟨u16, d16⟩ : ∃ u, w3.cell? ⟨g, 16, none⟩ = some u := ⟨_, by rw [hown.cellAt 16 (by omega), List.getElem?_eq_getElem (by rw [List.length_map, HN.out]; omega)]⟩
  obtain ⟨u17, d17⟩ : ∃ u, w3.cell? ⟨g, 17, none⟩ = some u := ⟨_, by rw [hown.cellAt 17 (by omega), List.getElem?_eq_getElem (by rw [List.length_map, HN.out]; omega)]⟩
  have f16 := hown.frozenAt 16
  have f17 := hown.frozenAt 17
  have O5 := Hid.mk' (((hown.stored 16 (.int .u8 0)).1).stored 17 (.int .u8 0)).1
  rw [← List.map_set, ← List.map_set] at O5
  have J5 : Hid (RrJ w ((w3.setCell ⟨g, 16, none⟩ (.int .u8 0)).setCell ⟨g, 17, none⟩ (.int .u8 0))) := Hid.mk' ((J3.out.set (p := ⟨g, 16, none⟩) hg2 _).set (p := ⟨g, 17, none⟩) hg2 _)
  clear hown b3 hcg hg2 J2 J3
  go_wp2_with fail
  clear d16 d17 f16 f17
  generalize (w3.setCell ⟨g, 16, none⟩ (.int .u8 0)).setCell ⟨g, 17, none⟩ (.int .u8 0) = w5 at *
  refine (KV.out w5 16 J5.out.old (by omega)).mono ?_
  rw [H16.out]
  rintro e w6 ⟨rfl, rfl⟩
  go_wp2_with fail
  have key := reffield_any (some ⟨g, 0, none⟩) cg (zf zs) w5 (bs_row_g (n := n) O5.out HZB.out (by rw [HZL.out]; exact hln))
  rw [HZL.out, HFE.out] at key
  refine (keep_name key).mono ?_
  rintro e w6 ⟨rfl, rfl⟩
  clear key
  go_wp2_with fail
  have q13' := CE.out w5 J5.out.old 13 (by omega)
  rw [HY13.out] at q13'
  have hlt5 : b < w5.heap.size := lt_of_cell q13'
  have hne5 : ¬ b = w5.heap.size := by omega
  have e0 : IntKind.u16.wrap V0 = V0 := by rw [IntKind.wrap_u16]; omega
  have e2 : IntKind.u16.wrap V2 = V2 := by rw [IntKind.wrap_u16]; omega
  have e4 : IntKind.u32.wrap W4 = W4 := by rw [IntKind.wrap_u32]; omega
  have e8 : IntKind.u32.wrap W8 = W8 := by rw [IntKind.wrap_u32]; omega
  have e14 : IntKind.u16.wrap V14 = V14 := by rw [IntKind.wrap_u16]; omega
  have BD : Hid (Below w.heap.size w w5.drew) := J5.out.old.drew
  have BA : Hid (Below w.heap.size w (w5.alloc (.cells hd0.toArray 25)).drew) := (J5.out.old.alloc J5.out.old.size _).drew
  clear O5
  go_region_held3 (fun w' => w'.cell? ⟨b, off + 13, none⟩ = some (.int .u8 Y)) (go_keep) (first | (go_at_call_of 30 (Value.int IntKind.i64 0); refine (KV.out _ 0 (by first | exact BD.out | exact BA.out) (by omega)).mono ?_; rw [H0.out]; rintro e w6 ⟨rfl, rfl⟩) | (go_at_call_of 30 (Value.int IntKind.i64 14); refine (KV.out _ 14 (by first | exact BD.out | exact BA.out) (by omega)).mono ?_; rw [H14.out]; rintro e w6 ⟨rfl, rfl⟩) | (go_at_call_of 30 (Value.int IntKind.i64 8); refine (KW.out _ 8 (by first | exact BD.out | exact BA.out) (by omega)).mono ?_; rw [H8.out]; rintro e w6 ⟨rfl, rfl⟩) | (go_at_call_of 30 (Value.int IntKind.i64 4); refine (KW.out _ 4 (by first | exact BD.out | exact BA.out) (by omega)).mono ?_; rw [H4.out]; rintro e w6 ⟨rfl, rfl⟩) | (go_at_call 30; refine (KV.out _ 2 (by first | exact BD.out | exact BA.out) (by omega)).mono ?_; rw [H2.out]; rintro e w6 ⟨rfl, rfl⟩))
  all_goals
    obtain ⟨W7, hW7⟩ : ∃ W7, W7 = (w5.alloc (.cells #[.int .u16 V0, .int .u16 V2, .int .u32 W4, .int .u32 W8, .int .u8 Y, .int .u16 V14] 25)).drew := ⟨_, rfl⟩
    rw [← hW7]
    have J7 : Hid (RrJ w W7) := Hid.mk' (by rw [hW7]; exact J5.out.below (((Below.refl _ _).alloc (Nat.le_refl _) _).drew))
    have Q7 : Hid (W7.heap[w5.heap.size]? = some (.cells (sgC V0 V2 W4 W8 Y V14).toArray 25 (0, 0))) := Hid.mk' (by rw [hW7]; exact heap_alloc_new w5 _)
    clear hW7 q13' J5 BD BA
    go_wp2_with (first | refine wpList_store_mid rfl 25 _ _ rfl w.heap.size 0 (sgC V0 V2 W4 W8 Y V14).toArray rfl rfl J7.out.there info_hd (sgC_one _ _ _ _ _ _) ?_ | refine wpList_load_mid rfl 25 _ rfl w5.heap.size 0 rfl (sgC V0 V2 W4 W8 Y V14) _ (range_block Q7.out) Try.underlying25 rfl info_hd ?_)
    refine ret_cell_tmp rfl w.heap.size 25 (sgC V0 V2 W4 W8 Y V14) (0, 0) _ rfl (J7.out.done _ rfl).1 Try.underlying25 rfl info_hd rfl ?_
    exact ⟨rfl, (J7.out.done _ rfl).2⟩
end Go.Proofs.Ytoakinmgjiklhaa
