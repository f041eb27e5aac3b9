/- The contract of the document's own Read for net6. -/
import Derived.Test.YtidlgbidffldoaaVe
import Derived.Test.YtidlgbidffldoaaBc
namespace Go.Proofs.Ytidlgbidffldoaa
open Go.ChangeShapes Go.WideShapes Go.ChangeAt Go.RowKit

/-- What holds where the document's Read has only looked: the box of its result and the one of none. -/
structure RrJ (w u : World) : Prop where
  box : u.heap[w.heap.size]? = some (.cells hd0.toArray 25 (0, 0))
  non : u.heap[w.heap.size + 1]? = some (.cells hd0.toArray 25 (0, 0))
  old : Below w.heap.size w u
theorem RrJ.first (w : World) : RrJ w ((w.alloc (.cells hd0.toArray 25)).alloc (.cells hd0.toArray 25)) :=
  ⟨heap_alloc2_old w _ _, heap_alloc2_new w _ _, ((Below.refl _ _).alloc (Nat.le_refl _) _).alloc (by simp) _⟩
theorem RrJ.below {w u v : World} (h : RrJ w u) (b : Below u.heap.size u v) : RrJ w v :=
  ⟨(b.block _ (Array.getElem?_eq_some_iff.1 h.box).1).trans h.box, (b.block _ (Array.getElem?_eq_some_iff.1 h.non).1).trans h.non, h.old.trans (b.mono h.old.size)⟩
theorem RrJ.set {w u : World} (h : RrJ w u) {p : Addr} (hp : w.heap.size + 2 ≤ p.block) (x : Value) : RrJ w (u.setCell p x) :=
  ⟨by rw [Go.heap_setCell_other _ _ _ _ (by omega)]; exact h.box, by rw [Go.heap_setCell_other _ _ _ _ (by omega)]; exact h.non, h.old.setCell (p := p) (by omega) _⟩
theorem RrJ.there {w u : World} (h : RrJ w u) : u.there w.heap.size 0 hd0.toArray.size := there_block h.box
theorem RrJ.done {w u : World} (h : RrJ w u) (M : List Value) (hl : M.length = 36) : (u.setCells w.heap.size 0 M).heap[w.heap.size]? = some (.cells M.toArray 25 (0, 0)) ∧ Below w.heap.size w (u.setCells w.heap.size 0 M) :=
  ⟨heap_whole (L := hd0) h.box (by rw [hl]; rfl), h.old.trans (((Kept.refl (fun k => k = w.heap.size) u).setCells w.heap.size 0 M (fun _ => rfl)).below h.old.size (fun k hk => by omega))⟩
theorem RrJ.size {w u : World} (h : RrJ w u) : w.heap.size + 2 ≤ u.heap.size := (Array.getElem?_eq_some_iff.1 h.non).1

set_option maxHeartbeats 400000 in
theorem rread_short (a : Option Addr) (n c : Nat) (w : World) (hn : n < 40) :
    Calls Try.prog 18 #[.slice a n c] w fun e w' => e = .returned (.tuple #[.agg hd0.toArray, .int .i64 6]) ∧ Below w.heap.size w w' := by
  have J2 := Hid.mk' (RrJ.first w)
  go_enter Try.func18, Try.ntmps18
  go_wp2_with (first | refine wpList_store_mid rfl 25 _ _ rfl w.heap.size 0 hd0.toArray rfl rfl J2.out.there info_hd hd0_one ?_ | refine wpList_load_mid rfl 25 _ rfl (w.heap.size + 1) 0 (by simp [Act.eval]) hd0 _ (range_block J2.out.non) Try.underlying25 rfl info_hd ?_)
  refine ret_cell_tmp rfl w.heap.size 25 hd0 (0, 0) _ rfl (J2.out.done hd0 rfl).1 Try.underlying25 rfl info_hd rfl ?_
  exact ⟨rfl, (J2.out.done hd0 rfl).2⟩

theorem rdW_16 {zs : List Int} (h : Bytes zs) : rdW zs 0 / 268435456 = zs.getD 0 0 / 16 := by
  have h0 := h.getD 0
  have h1 := h.getD 1
  have h2 := h.getD 2
  have h3 := h.getD 3
  unfold rdW rdV
  show ((zs.getD 0 0 * 256 + zs.getD 1 0) * 65536 + (zs.getD 2 0 * 256 + zs.getD 3 0)) / 268435456 = _
  omega
theorem valV_4 (zs : List Int) : valV zs 0 4 = rdW zs 0 := by
  show (((0 * 256 + zs.getD 0 0) * 256 + zs.getD 1 0) * 256 + zs.getD 2 0) * 256 + zs.getD 3 0 = (zs.getD 0 0 * 256 + zs.getD 1 0) * 65536 + (zs.getD 2 0 * 256 + zs.getD 3 0)
  omega

set_option maxHeartbeats 1000000 in
theorem rread_bad (b off : Nat) (n c : Nat) (zs : List Int) (w : World) (hz : zs.length = n) (hB : Bs w (some ⟨b, off, none⟩) zs) (hn : 40 ≤ n) (hq : ¬ rdQ zs) :
    Calls Try.prog 18 #[.slice (some ⟨b, off, none⟩) n c] w fun e w' => e = .returned (.tuple #[.agg hd0.toArray, .int .i64 80]) ∧ Below w.heap.size w w' := by
  have hln : n ≤ 140737488355328 := by rw [← hz]; exact hB.len
  have J2 := Hid.mk' (RrJ.first w)
  have KV : Hid (∀ (u : World) (k : Nat), Below w.heap.size w u → k + 2 ≤ n → Calls Try.prog 26 #[.slice (some ⟨b, off, none⟩) n c, .int .i64 k, .int .i64 2] u fun e u' => e = .returned (.int .i64 (rdV zs k)) ∧ u = u') := Hid.mk' (fun u k h hk => by
    have h0 := value_any b off n c k 2 zs u hz (hB.below h) (by omega) hk
    rw [show valV zs k 2 = rdV zs k by simp [valV, rdV]] at h0
    exact h0)
  have c0 : w.cell? ⟨b, off, none⟩ = some (.int .u8 (zs.getD 0 0)) := by
    rcases hB.lies with h0 | ⟨b', off', e, hc⟩
    · omega
    · cases e; exact hc 0 (by omega)
  have hlt := lt_of_cell c0
  have hlt' : b < w.heap.size := hlt
  have hne : ¬ b = w.heap.size := by omega
  have hne1 : ¬ b = w.heap.size + 1 := by omega
  unfold rdQ at hq
  rw [hz, rdW_16 hB.bytes] at hq
  have z0 := hB.bytes.getD 0
  have v4 := rdV_bd hB.bytes 4
  clear hB hz hlt
  have k0 : (0 : Int) < (n : Int) := by omega
  generalize zs.getD 0 0 = x at *
  obtain ⟨V4, H4⟩ : ∃ V, Hid (rdV zs 4 = V) := ⟨_, rfl⟩
  rw [H4.out] at hq v4
  obtain ⟨z00, z01⟩ := z0
  by_cases hx : x / 16 = 6
  · have h4 : ¬ V4 = (n : Int) - 40 := fun e => hq ⟨hx, e⟩
    have h4b : (V4 != (n : Int) - 40) = true := by simpa using h4
    have hxb : (x / 16 != 6) = false := by simpa using hx
    go_enter Try.func18, Try.ntmps18
    go_wp2_with (first | (go_at_call 26; refine (KV.out _ 4 (by exact J2.out.old) (by omega)).mono ?_; rw [H4.out]; rintro e u ⟨rfl, rfl⟩) | refine wpList_store_mid rfl 25 _ _ rfl w.heap.size 0 hd0.toArray rfl rfl J2.out.there info_hd hd0_one ?_ | refine wpList_load_mid rfl 25 _ rfl (w.heap.size + 1) 0 (by simp [Act.eval]) hd0 _ (range_block J2.out.non) Try.underlying25 rfl info_hd ?_)
    refine ret_cell_tmp rfl w.heap.size 25 hd0 (0, 0) _ rfl (J2.out.done hd0 rfl).1 Try.underlying25 rfl info_hd rfl ?_
    exact ⟨rfl, (J2.out.done hd0 rfl).2⟩
  · have hxb : (x / 16 != 6) = true := by simpa using hx
    go_enter Try.func18, Try.ntmps18
    go_wp2_with (first | refine wpList_store_mid rfl 25 _ _ rfl w.heap.size 0 hd0.toArray rfl rfl J2.out.there info_hd hd0_one ?_ | refine wpList_load_mid rfl 25 _ rfl (w.heap.size + 1) 0 (by simp [Act.eval]) hd0 _ (range_block J2.out.non) Try.underlying25 rfl info_hd ?_)
    refine ret_cell_tmp rfl w.heap.size 25 hd0 (0, 0) _ rfl (J2.out.done hd0 rfl).1 Try.underlying25 rfl info_hd rfl ?_
    exact ⟨rfl, (J2.out.done hd0 rfl).2⟩

theorem n6C_setS (cl fl nx hp : Int) (s d : List Int) (k : Nat) (x : Int) (h : k < s.length) : (n6C cl fl nx hp s d).set (4 + k) (.int .u8 x) = n6C cl fl nx hp (s.set k x) d := by
  unfold n6C
  rw [List.set_append_right _ _ (by simp), show 4 + k - [Value.int .u8 cl, .int .u32 fl, .int .u8 nx, .int .u8 hp].length = k by simp, List.set_append_left _ _ (by simpa using h), List.map_set]
theorem n6C_setD (cl fl nx hp : Int) (s d : List Int) (k : Nat) (x : Int) (h : s.length = 16) : (n6C cl fl nx hp s d).set (20 + k) (.int .u8 x) = n6C cl fl nx hp s (d.set k x) := by
  unfold n6C
  rw [List.set_append_right _ _ (by simp; omega), show 20 + k - [Value.int .u8 cl, .int .u32 fl, .int .u8 nx, .int .u8 hp].length = 16 + k by simp; omega, List.set_append_right _ _ (by simp [h]), show 16 + k - (s.map (Value.int .u8)).length = k by simp [h], List.map_set]

/-- The first i of sixteen bytes are there, the others are 0. -/
def half16 (zs : List Int) (i : Nat) : List Int := zs.take i ++ List.replicate (16 - i) 0
theorem half16_length {zs : List Int} {i : Nat} (h : 16 ≤ zs.length) (hi : i ≤ 16) : (half16 zs i).length = 16 := by
  unfold half16; simp; omega
theorem half16_succ {zs : List Int} {i : Nat} (h : 16 ≤ zs.length) (hi : i < 16) : (half16 zs i).set i (zs.getD i 0) = half16 zs (i + 1) := by
  unfold half16
  have e : (zs.take i).length = i := by simp; omega
  rw [List.set_append_right _ _ (by omega), e, Nat.sub_self, List.take_succ_eq_append_getElem (by omega), show 16 - i = (16 - (i + 1)) + 1 by omega, List.replicate_succ, List.set_cons_zero, List.append_assoc]
  rw [List.getD_eq_getElem?_getD, List.getElem?_eq_getElem (by omega)]; rfl

set_option maxHeartbeats 1000000 in
theorem rread_ok (b off : Nat) (n c : Nat) (zs : List Int) (w : World) (hz : zs.length = n) (hB : Bs w (some ⟨b, off, none⟩) zs) (hn : 40 ≤ n) (hq : rdQ zs) :
    Calls Try.prog 18 #[.slice (some ⟨b, off, none⟩) n c] w fun e w' => e = .returned (.tuple #[.agg (rdC zs).toArray, .int .i64 0]) ∧ Below w.heap.size w w' := by
  obtain ⟨RES, HRES⟩ : ∃ RES, Hid (rdC zs = RES) := ⟨_, rfl⟩
  rw [HRES.out]
  have v0 := rdW_bd hB.bytes 0
  have HN6 := Hid.mk' (n6_of hB.bytes (by rw [hz]; exact hn))
  have hln : n ≤ 140737488355328 := by rw [← hz]; exact hB.len
  have J2 := Hid.mk' (RrJ.first w)
  have KV : Hid (∀ (u : World) (k : Nat), Below w.heap.size w u → k + 2 ≤ n → Calls Try.prog 26 #[.slice (some ⟨b, off, none⟩) n c, .int .i64 k, .int .i64 2] u fun e u' => e = .returned (.int .i64 (rdV zs k)) ∧ u = u') := Hid.mk' (fun u k h hk => by
    have h0 := value_any b off n c k 2 zs u hz (hB.below h) (by omega) hk
    rw [show valV zs k 2 = rdV zs k by simp [valV, rdV]] at h0
    exact h0)
  have KW : Hid (∀ u : World, Below w.heap.size w u → Calls Try.prog 26 #[.slice (some ⟨b, off, none⟩) n c, .int .i64 0, .int .i64 4] u fun e u' => e = .returned (.int .i64 (rdW zs 0)) ∧ u = u') := Hid.mk' (fun u h => by
    have h0 := value_any b off n c 0 4 zs u hz (hB.below h) (by omega) (by omega)
    rw [valV_4] at h0
    exact h0)
  have CE : Hid (∀ u, Below w.heap.size w u → ∀ k, k < n → u.cell? ⟨b, off + k, none⟩ = some (.int .u8 (zs.getD k 0))) := Hid.mk' (fun u h k hk => by
    rcases (hB.below h).lies with h0 | ⟨b', off', e, hc⟩
    · omega
    · cases e; exact hc k (by omega))
  have c0 : w.cell? ⟨b, off, none⟩ = some (.int .u8 (zs.getD 0 0)) := CE.out w (Below.refl _ _) 0 (by omega)
  have hlt := lt_of_cell c0
  have hlt' : b < w.heap.size := hlt
  have hne : ¬ b = w.heap.size := by omega
  have hne1 : ¬ b = w.heap.size + 1 := by omega
  obtain ⟨hx, h4⟩ := hq
  rw [hz] at h4
  rw [rdW_16 hB.bytes] at hx
  have z0 := hB.bytes.getD 0
  have k6 : (6 : Int) < (n : Int) := by omega
  have k7 : (7 : Int) < (n : Int) := by omega
  have k0 : (0 : Int) < (n : Int) := by omega
  have HB := Hid.mk' hB
  have HN := Hid.mk' hz
  have H4 := Hid.mk' h4
  clear hB hz hlt h4
  generalize zs.getD 0 0 = x at *
  obtain ⟨z00, z01⟩ := z0
  have hxb : (x / 16 != 6) = false := by simpa using hx
  have hnb : ((n : Int) - 40 != (n : Int) - 40) = false := by simp
  obtain ⟨M, HM⟩ : ∃ M, Hid (rdW zs 0 = M) := ⟨_, rfl⟩
  rw [HM.out] at v0
  obtain ⟨v00, v01⟩ := v0
  obtain ⟨x6, HX6⟩ : ∃ x, Hid (zs.getD 6 0 = x) := ⟨_, rfl⟩
  obtain ⟨x7, HX7⟩ : ∃ x, Hid (zs.getD 7 0 = x) := ⟨_, rfl⟩
  have hw8 : IntKind.u8.wrap (M / 1048576 % 256) = M / 1048576 % 256 := by rw [IntKind.wrap_u8]; omega
  have ht1 : IntKind.i64.wrap (M.tdiv 1048576) = M / 1048576 := by rw [Int.tdiv_eq_ediv_of_nonneg v00, IntKind.wrap_i64]; omega
  have ht2 : (M / 1048576).tmod 256 = M / 1048576 % 256 := Int.tmod_eq_emod_of_nonneg (by omega)
  have ht3 : M.tmod 1048576 = M % 1048576 := Int.tmod_eq_emod_of_nonneg v00
  have hw32 : IntKind.u32.wrap (M % 1048576) = M % 1048576 := by rw [IntKind.wrap_u32]; omega
  go_enter Try.func18, Try.ntmps18
  go_wp2_with (first | (go_at_call_of 26 (Value.int IntKind.i64 2); refine (KV.out _ 4 (by exact J2.out.old) (by omega)).mono ?_; rw [H4.out]; rintro e u ⟨rfl, rfl⟩) | (go_at_call_of 26 (Value.int IntKind.i64 0); refine (KW.out _ (by exact J2.out.old)).mono ?_; rw [HM.out]; rintro e u ⟨rfl, rfl⟩))
  obtain ⟨W2, hW2⟩ : ∃ W2, W2 = (w.alloc (.cells hd0.toArray 25)).alloc (.cells hd0.toArray 25) := ⟨_, rfl⟩
  change Code.wp _ _ _ _ ((w.alloc (.cells hd0.toArray 25)).alloc (.cells hd0.toArray 25))
  rw [← hW2] at J2 ⊢
  clear hW2 c0 hne hne1 hxb hnb hx
  have q6 := CE.out W2 J2.out.old 6 (by omega)
  have q7 := CE.out W2 J2.out.old 7 (by omega)
  rw [HX6.out] at q6
  rw [HX7.out] at q7
  have hlt5 : b < W2.heap.size := lt_of_cell q6
  have hne5 : ¬ b = W2.heap.size := by omega
  refine wp_region_held_drew (S := fun w' => w'.cell? ⟨b, off + 6, none⟩ = some (.int .u8 x6) ∧ w'.cell? ⟨b, off + 7, none⟩ = some (.int .u8 x7)) (by kernel_rfl) ⟨q6, q7⟩ (fun hHeld => ?_)
  change wpAnyH _ _ _ _ _ 16 #[false, false, false, false, false, false, false, false, false, false, false, false, false, false, false, false] _ _
  refine held_take 0 28 (.int .i64 M) rfl rfl (by kernel_rfl) (by kernel_rfl) (by kernel_rfl) (fun _ _ _ h => h) (Or.inl ⟨by rfl, fun u hu => ?_⟩) hHeld ?_
  · obtain ⟨u6, u7⟩ := hu; go_simp
  simp only [Act.put, List.setIfInBounds_toArray, List.set_cons_zero, List.set_cons_succ]
  refine held_take 1 29 (.int .i64 (M / 1048576)) rfl rfl (by kernel_rfl) (by kernel_rfl) (by kernel_rfl) (fun _ _ _ h => h) (Or.inl ⟨by rfl, fun u hu => ?_⟩) hHeld ?_
  · obtain ⟨u6, u7⟩ := hu; go_simp
  simp only [Act.put, List.setIfInBounds_toArray, List.set_cons_zero, List.set_cons_succ]
  refine held_take 2 30 (.int .i64 (M / 1048576 % 256)) rfl rfl (by kernel_rfl) (by kernel_rfl) (by kernel_rfl) (fun _ _ _ h => h) (Or.inl ⟨by rfl, fun u hu => ?_⟩) hHeld ?_
  · obtain ⟨u6, u7⟩ := hu; go_simp
  simp only [Act.put, List.setIfInBounds_toArray, List.set_cons_zero, List.set_cons_succ]
  refine held_take 3 31 (.int .u8 (M / 1048576 % 256)) rfl rfl (by kernel_rfl) (by kernel_rfl) (by kernel_rfl) (fun _ _ _ h => h) (Or.inl ⟨by rfl, fun u hu => ?_⟩) hHeld ?_
  · obtain ⟨u6, u7⟩ := hu; go_simp
  simp only [Act.put, List.setIfInBounds_toArray, List.set_cons_zero, List.set_cons_succ]
  refine held_take 4 32 (.int .i64 M) rfl rfl (by kernel_rfl) (by kernel_rfl) (by kernel_rfl) (fun _ _ _ h => h) (Or.inl ⟨by rfl, fun u hu => ?_⟩) hHeld ?_
  · obtain ⟨u6, u7⟩ := hu; go_simp
  simp only [Act.put, List.setIfInBounds_toArray, List.set_cons_zero, List.set_cons_succ]
  refine held_take 5 33 (.int .i64 (M % 1048576)) rfl rfl (by kernel_rfl) (by kernel_rfl) (by kernel_rfl) (fun _ _ _ h => h) (Or.inl ⟨by rfl, fun u hu => ?_⟩) hHeld ?_
  · obtain ⟨u6, u7⟩ := hu; go_simp
  simp only [Act.put, List.setIfInBounds_toArray, List.set_cons_zero, List.set_cons_succ]
  refine held_take 6 34 (.int .u32 (M % 1048576)) rfl rfl (by kernel_rfl) (by kernel_rfl) (by kernel_rfl) (fun _ _ _ h => h) (Or.inl ⟨by rfl, fun u hu => ?_⟩) hHeld ?_
  · obtain ⟨u6, u7⟩ := hu; go_simp
  simp only [Act.put, List.setIfInBounds_toArray, List.set_cons_zero, List.set_cons_succ]
  refine held_take 7 35 (.slice (some ⟨b, off, none⟩) n c) rfl rfl (by kernel_rfl) (by kernel_rfl) (by kernel_rfl) (fun _ _ _ h => h) (Or.inl ⟨by rfl, fun u hu => ?_⟩) hHeld ?_
  · obtain ⟨u6, u7⟩ := hu; go_simp
  simp only [Act.put, List.setIfInBounds_toArray, List.set_cons_zero, List.set_cons_succ]
  refine held_take 8 36 (.pointer (some ⟨b, off + 6, none⟩)) rfl rfl (by kernel_rfl) (by kernel_rfl) (by kernel_rfl) (fun _ _ _ h => h) (Or.inl ⟨by rfl, fun u hu => ?_⟩) hHeld ?_
  · obtain ⟨u6, u7⟩ := hu; go_simp
  simp only [Act.put, List.setIfInBounds_toArray, List.set_cons_zero, List.set_cons_succ]
  refine held_take 9 37 (.int .u8 x6) rfl rfl (by kernel_rfl) (by kernel_rfl) (by kernel_rfl) (fun _ _ _ h => h) (Or.inl ⟨by rfl, fun u hu => ?_⟩) hHeld ?_
  · obtain ⟨u6, u7⟩ := hu; go_simp
  simp only [Act.put, List.setIfInBounds_toArray, List.set_cons_zero, List.set_cons_succ]
  refine held_take 10 38 (.slice (some ⟨b, off, none⟩) n c) rfl rfl (by kernel_rfl) (by kernel_rfl) (by kernel_rfl) (fun _ _ _ h => h) (Or.inl ⟨by rfl, fun u hu => ?_⟩) hHeld ?_
  · obtain ⟨u6, u7⟩ := hu; go_simp
  simp only [Act.put, List.setIfInBounds_toArray, List.set_cons_zero, List.set_cons_succ]
  refine held_take 11 39 (.pointer (some ⟨b, off + 7, none⟩)) rfl rfl (by kernel_rfl) (by kernel_rfl) (by kernel_rfl) (fun _ _ _ h => h) (Or.inl ⟨by rfl, fun u hu => ?_⟩) hHeld ?_
  · obtain ⟨u6, u7⟩ := hu; go_simp
  simp only [Act.put, List.setIfInBounds_toArray, List.set_cons_zero, List.set_cons_succ]
  refine held_take 12 40 (.int .u8 x7) rfl rfl (by kernel_rfl) (by kernel_rfl) (by kernel_rfl) (fun _ _ _ h => h) (Or.inl ⟨by rfl, fun u hu => ?_⟩) hHeld ?_
  · obtain ⟨u6, u7⟩ := hu; go_simp
  simp only [Act.put, List.setIfInBounds_toArray, List.set_cons_zero, List.set_cons_succ]
  refine held_take 13 41 (.agg #[.int .u8 (M / 1048576 % 256), .int .u32 (M % 1048576), .int .u8 x6, .int .u8 x7, .int .u8 0, .int .u8 0, .int .u8 0, .int .u8 0, .int .u8 0, .int .u8 0, .int .u8 0, .int .u8 0, .int .u8 0, .int .u8 0, .int .u8 0, .int .u8 0, .int .u8 0, .int .u8 0, .int .u8 0, .int .u8 0, .int .u8 0, .int .u8 0, .int .u8 0, .int .u8 0, .int .u8 0, .int .u8 0, .int .u8 0, .int .u8 0, .int .u8 0, .int .u8 0, .int .u8 0, .int .u8 0, .int .u8 0, .int .u8 0, .int .u8 0, .int .u8 0]) rfl rfl (by kernel_rfl) (by kernel_rfl) (by kernel_rfl) (fun _ _ _ h => h) (Or.inl ⟨by rfl, fun u hu => ?_⟩) hHeld ?_
  · obtain ⟨u6, u7⟩ := hu; go_simp
  simp only [Act.put, List.setIfInBounds_toArray, List.set_cons_zero, List.set_cons_succ]
  refine held_one 14 (by kernel_rfl) rfl (fun K hK => ?_)
  go_simp
  have HA : Hid (∀ L : List Value, (W2.drew.alloc (.cells L.toArray 25)).cell? ⟨b, off + 6, none⟩ = some (.int .u8 x6) ∧ (W2.drew.alloc (.cells L.toArray 25)).cell? ⟨b, off + 7, none⟩ = some (.int .u8 x7)) := Hid.mk' (fun L => ⟨(((Below.refl _ _).alloc (Nat.le_refl _) _).cell (B := W2.drew.heap.size) hlt5).trans hHeld.1, (((Below.refl _ _).alloc (Nat.le_refl _) _).cell (B := W2.drew.heap.size) hlt5).trans hHeld.2⟩)
  refine hK.out _ _ (HA.out hd0) (fun hH2 => ?_)
  clear hK K
  simp only [List.setIfInBounds_toArray, List.set_cons_zero, List.set_cons_succ]
  refine held_store_new (w := W2.drew) 15 (by kernel_rfl) rfl rfl rfl 25 _ _ rfl 25 hd0 [.int .u8 (M / 1048576 % 256), .int .u32 (M % 1048576), .int .u8 x6, .int .u8 x7, .int .u8 0, .int .u8 0, .int .u8 0, .int .u8 0, .int .u8 0, .int .u8 0, .int .u8 0, .int .u8 0, .int .u8 0, .int .u8 0, .int .u8 0, .int .u8 0, .int .u8 0, .int .u8 0, .int .u8 0, .int .u8 0, .int .u8 0, .int .u8 0, .int .u8 0, .int .u8 0, .int .u8 0, .int .u8 0, .int .u8 0, .int .u8 0, .int .u8 0, .int .u8 0, .int .u8 0, .int .u8 0, .int .u8 0, .int .u8 0, .int .u8 0, .int .u8 0] rfl rfl rfl info_hd ?_ (HA.out _) ?_
  · exact n6C_one (M / 1048576 % 256) (M % 1048576) x6 x7 [0, 0, 0, 0, 0, 0, 0, 0, 0, 0, 0, 0, 0, 0, 0, 0] [0, 0, 0, 0, 0, 0, 0, 0, 0, 0, 0, 0, 0, 0, 0, 0]
  refine wpAnyH_done (by kernel_rfl) ?_ _
  obtain ⟨W7, hW7⟩ : ∃ W7, W7 = W2.drew.alloc (.cells ([.int .u8 (M / 1048576 % 256), .int .u32 (M % 1048576), .int .u8 x6, .int .u8 x7, .int .u8 0, .int .u8 0, .int .u8 0, .int .u8 0, .int .u8 0, .int .u8 0, .int .u8 0, .int .u8 0, .int .u8 0, .int .u8 0, .int .u8 0, .int .u8 0, .int .u8 0, .int .u8 0, .int .u8 0, .int .u8 0, .int .u8 0, .int .u8 0, .int .u8 0, .int .u8 0, .int .u8 0, .int .u8 0, .int .u8 0, .int .u8 0, .int .u8 0, .int .u8 0, .int .u8 0, .int .u8 0, .int .u8 0, .int .u8 0, .int .u8 0, .int .u8 0] : List Value).toArray 25) := ⟨_, rfl⟩
  rw [← hW7]
  have J7 : Hid (RrJ w W7) := Hid.mk' (by rw [hW7]; exact J2.out.below (((Below.refl _ _).drew).alloc (Nat.le_refl _) _))
  have Q7 : Hid (W7.heap[W2.heap.size]? = some (.cells (n6C (M / 1048576 % 256) (M % 1048576) x6 x7 (half16 (zs.drop 8) 0) (half16 (zs.drop 24) 0)).toArray 25 (0, 0))) := Hid.mk' (by rw [hW7]; exact heap_alloc_new W2.drew _)
  have SZ : Hid (w.heap.size + 2 ≤ W2.heap.size) := Hid.mk' J2.out.size
  clear hW7 q6 q7 J2 hHeld hH2 HA hw8 hw32 ht1 ht2 ht3
  obtain ⟨A1, HA1⟩ : ∃ A, Hid (M / 1048576 % 256 = A) := ⟨_, rfl⟩
  obtain ⟨A2, HA2⟩ : ∃ A, Hid (M % 1048576 = A) := ⟨_, rfl⟩
  rw [HA1.out, HA2.out] at Q7
  go_wp2_with fail
  go_loopw [7] (fun i wr => ∃ k : Nat, k ≤ 16 ∧ i = .int .i64 k ∧ Hid (wr.heap[W2.heap.size]? = some (.cells (n6C A1 A2 x6 x7 (half16 (zs.drop 8) k) (half16 (zs.drop 24) k)).toArray 25 (0, 0))) ∧ Hid (RrJ w wr)) (fun i _ => 16 - (intOf i).toNat)
  case atStart => exact ⟨0, Nat.zero_le _, rfl, Q7, J7⟩
  case round =>
    obtain ⟨k, hk, rfl, Q8, J8⟩ := hrel
    clear Q7 J7
    have l12 : 16 ≤ (zs.drop 8).length := by rw [List.length_drop, HN.out]; omega
    have l16 : 16 ≤ (zs.drop 24).length := by rw [List.length_drop, HN.out]; omega
    have L12 := Hid.mk' l12
    have L16 := Hid.mk' l16
    have hll : Hid ((n6C A1 A2 x6 x7 (half16 (zs.drop 8) k) (half16 (zs.drop 24) k)).length = 36) := Hid.mk' (by unfold n6C; simp [half16_length l12 hk, half16_length l16 hk])
    clear l12 l16
    by_cases hlt : k < 16
    · have hsp : (k : Int) < 16 := by omega
      have hk1 : 8 + (k : Int) < (n : Int) := by omega
      have hk2 : 24 + (k : Int) < (n : Int) := by omega
      have d0 := CE.out wr J8.out.old (8 + k) (by omega)
      have d1 := CE.out wr J8.out.old (24 + k) (by omega)
      have f0 : wr.frozen? ⟨W2.heap.size, 4 + k, none⟩ = false := frozen_of_row wr _ _ _ _ Q8.out
      have f1 : wr.frozen? ⟨W2.heap.size, 20 + k, none⟩ = false := frozen_of_row wr _ _ _ _ Q8.out
      obtain ⟨u0, e0⟩ : ∃ u, wr.cell? ⟨W2.heap.size, 4 + k, none⟩ = some u := ⟨_, by rw [cell_of_row wr _ (4 + k) _ _ _ Q8.out, List.getElem?_toArray, List.getElem?_eq_getElem (by rw [hll.out]; omega)]⟩
      obtain ⟨u1, e1⟩ : ∃ u, wr.cell? ⟨W2.heap.size, 20 + k, none⟩ = some u := ⟨_, by rw [cell_of_row wr _ (20 + k) _ _ _ Q8.out, List.getElem?_toArray, List.getElem?_eq_getElem (by rw [hll.out]; omega)]⟩
      have hbne : ¬ W2.heap.size = b := by omega
      obtain ⟨x, HX⟩ : ∃ x, Hid (zs.getD (8 + k) 0 = x) := ⟨_, rfl⟩
      obtain ⟨y, HY⟩ : ∃ y, Hid (zs.getD (24 + k) 0 = y) := ⟨_, rfl⟩
      rw [HX.out] at d0
      rw [HY.out] at d1
      go_wp2_with fail
      go_roundw
      case rel =>
        refine ⟨k + 1, hlt, by go_num, Hid.mk' ?_, Hid.mk' ?_⟩
        · rw [Go.heap_setCell_same _ _ (20 + k) _ _ _ (Go.heap_setCell_same _ _ (4 + k) _ _ _ Q8.out)]
          rw [List.setIfInBounds_toArray, List.setIfInBounds_toArray, n6C_setS _ _ _ _ _ _ _ _ (by rw [half16_length L12.out hk]; exact hlt), n6C_setD _ _ _ _ _ _ _ _ (by rw [List.length_set, half16_length L12.out hk])]
          rw [← HX.out, ← HY.out]
          rw [show zs.getD (8 + k) 0 = (zs.drop 8).getD k 0 by simp only [List.getD_eq_getElem?_getD, List.getElem?_drop], show zs.getD (24 + k) 0 = (zs.drop 24).getD k 0 by simp only [List.getD_eq_getElem?_getD, List.getElem?_drop], half16_succ L12.out hlt, half16_succ L16.out hlt]
        · exact (J8.out.set (p := ⟨W2.heap.size, 4 + k, none⟩) SZ.out _).set (p := ⟨W2.heap.size, 20 + k, none⟩) SZ.out _
      case measure => simp [intOf]; omega
    · obtain rfl : k = 16 := by omega
      have HLR : Hid (n6C A1 A2 x6 x7 (half16 (zs.drop 8) 16) (half16 (zs.drop 24) 16) = RES) := Hid.mk' (by rw [← HRES.out, ← HX6.out, ← HX7.out, ← HA1.out, ← HA2.out, ← HM.out]; unfold half16 rdC; simp)
      have hlr : Hid (RES.length = 36) := Hid.mk' (by rw [← HRES.out]; exact n6C_length HN6.out)
      have hone : Hid (RES.toArray.all (·.oneCell') = true) := Hid.mk' (by rw [← HRES.out]; exact n6C_one _ _ _ _ _ _)
      rw [HLR.out] at Q8
      have hth : Hid (wr.there w.heap.size 0 RES.toArray.size) := Hid.mk' (by
        have e : RES.toArray.size = hd0.toArray.size := by rw [List.size_toArray, hlr.out]; rfl
        rw [e]; exact J8.out.there)
      go_wp2_with (first | refine wpList_store_mid rfl 25 _ _ rfl w.heap.size 0 RES.toArray rfl rfl hth.out (by rw [List.size_toArray, hlr.out]; exact info_hd) hone.out ?_ | refine wpList_load_mid rfl 25 _ rfl W2.heap.size 0 rfl RES _ (range_block Q8.out) Try.underlying25 rfl (by rw [hlr.out]; exact info_hd) ?_)
      refine ret_cell_tmp rfl w.heap.size 25 RES (0, 0) _ rfl (J8.out.done RES hlr.out).1 Try.underlying25 rfl (by rw [hlr.out]; exact info_hd) rfl ?_
      exact ⟨rfl, (J8.out.done RES hlr.out).2⟩
end Go.Proofs.Ytidlgbidffldoaa
