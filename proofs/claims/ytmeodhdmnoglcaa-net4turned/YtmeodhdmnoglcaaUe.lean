/- The contract of the document's own Read for net4. -/
import Derived.Test.YtmeodhdmnoglcaaUd
import Derived.Test.YtmeodhdmnoglcaaBc
namespace Go.Proofs.Ytmeodhdmnoglcaa
open Go.ChangeShapes Go.WideShapes Go.ChangeAt Go.RowKit

set_option maxHeartbeats 400000 in
theorem rread_short (a : Option Addr) (n c : Nat) (w : World) (hn : n < 20) :
    Calls Try.prog 18 #[.slice a n c] w fun e w' => e = .returned (.tuple #[.agg hd0.toArray, .int .i64 6]) ∧ Below w.heap.size w w' := by
  go_enter Try.func18, Try.ntmps18
  go_wp2_with fail
  refine ret_cell_tmp rfl w.heap.size 25 hd0 (0, 0) _ rfl (heap_alloc2_old w _ _) Try.underlying25 rfl info_hd rfl ?_
  exact ⟨rfl, ((Below.refl _ _).alloc (Nat.le_refl _) _).alloc (by simp) _⟩

theorem rdV_zero {zs : List Int} (h : Bytes zs) (k : Nat) : rdV zs k = 0 ↔ zs.getD k 0 = 0 ∧ zs.getD (k + 1) 0 = 0 := by
  have h0 := h.getD k
  have h1 := h.getD (k + 1)
  unfold rdV; omega

set_option maxHeartbeats 1000000 in
theorem rread_bad (b off : Nat) (n c : Nat) (zs : List Int) (w : World) (hz : zs.length = n) (hB : Bs w (some ⟨b, off, none⟩) zs) (hn : 20 ≤ n) (hq : ¬ rdQ zs) :
    Calls Try.prog 18 #[.slice (some ⟨b, off, none⟩) n c] w fun e w' => e = .returned (.tuple #[.agg hd0.toArray, .int .i64 70]) ∧ Below w.heap.size w w' := by
  have hln : n ≤ 140737488355328 := by rw [← hz]; exact hB.len
  have KV : Hid (∀ (u : World) (k : Nat), Below w.heap.size w u → k + 2 ≤ n → Calls Try.prog 27 #[.slice (some ⟨b, off, none⟩) n c, .int .i64 k, .int .i64 2] u fun e u' => e = .returned (.int .i64 (rdV zs k)) ∧ u = u') := Hid.mk' (fun u k h hk => by
    have h0 := value_any b off n c k 2 zs u hz (hB.below h) (by omega) hk
    rw [show valV zs k 2 = rdV zs k by simp [valV, rdV]] at h0
    exact h0)
  have CE : Hid (∀ u, Below w.heap.size w u → ∀ k, k < n → u.cell? ⟨b, off + k, none⟩ = some (.int .u8 (zs.getD k 0))) := Hid.mk' (fun u h k hk => by
    rcases (hB.below h).lies with h0 | ⟨b', off', e, hc⟩
    · omega
    · cases e; exact hc k (by omega))
  have B2 : Hid (Below w.heap.size w ((w.alloc (.cells hd0.toArray 25)).alloc (.cells hd0.toArray 25))) := ((Below.refl _ _).alloc (Nat.le_refl _) _).alloc (by simp) _
  have c0 : w.cell? ⟨b, off, none⟩ = some (.int .u8 (zs.getD 0 0)) := CE.out w (Below.refl _ _) 0 (by omega)
  have c6 := CE.out w (Below.refl _ _) 6 (by omega)
  have c7 := CE.out w (Below.refl _ _) 7 (by omega)
  have hlt := lt_of_cell c0
  have hlt' : b < w.heap.size := hlt
  have hne : ¬ b = w.heap.size := by omega
  have hne1 : ¬ b = w.heap.size + 1 := by omega
  unfold rdQ at hq
  rw [hz, rdV_zero hB.bytes 6] at hq
  have z0 := hB.bytes.getD 0
  have z6 := hB.bytes.getD 6
  have z7 := hB.bytes.getD 7
  have v2 := rdV_bd hB.bytes 2
  clear hB hz hlt CE
  have k6 : (6 : Int) < (n : Int) := by omega
  have k7 : (7 : Int) < (n : Int) := by omega
  have k0 : (0 : Int) < (n : Int) := by omega
  generalize zs.getD 0 0 = x at *
  generalize zs.getD 6 0 = y at *
  rw [show 6 + 1 = 7 from rfl] at hq
  generalize zs.getD 7 0 = z at *
  obtain ⟨V2, H2⟩ : ∃ V2, Hid (rdV zs 2 = V2) := ⟨_, rfl⟩
  rw [H2.out] at hq v2
  by_cases hx : x = 69
  · subst hx
    by_cases hy : y = 0
    · subst hy
      by_cases h7 : z = 0
      · subst h7
        have h2 : ¬ V2 = (n : Int) := fun e => hq ⟨rfl, ⟨rfl, rfl⟩, e⟩
        have h2b : (V2 != (n : Int)) = true := by simpa using h2
        go_enter Try.func18, Try.ntmps18
        go_wp2_with (first | (go_at_call 27; refine (KV.out _ 2 (by exact B2.out) (by omega)).mono ?_; rw [H2.out]; rintro e u ⟨rfl, rfl⟩))
        refine ret_cell_tmp rfl w.heap.size 25 hd0 (0, 0) _ rfl (heap_alloc2_old w _ _) Try.underlying25 rfl info_hd rfl ?_
        exact ⟨rfl, B2.out⟩
      · have h7b : (z != 0) = true := by simpa using h7
        go_enter Try.func18, Try.ntmps18
        go_wp2_with (first | (go_at_call 27; refine (KV.out _ 2 (by exact B2.out) (by omega)).mono ?_; rw [H2.out]; rintro e u ⟨rfl, rfl⟩))
        refine ret_cell_tmp rfl w.heap.size 25 hd0 (0, 0) _ rfl (heap_alloc2_old w _ _) Try.underlying25 rfl info_hd rfl ?_
        exact ⟨rfl, B2.out⟩
    · have hyb : (y != 0) = true := by simpa using hy
      go_enter Try.func18, Try.ntmps18
      go_wp2_with (first | (go_at_call 27; refine (KV.out _ 2 (by exact B2.out) (by omega)).mono ?_; rw [H2.out]; rintro e u ⟨rfl, rfl⟩))
      refine ret_cell_tmp rfl w.heap.size 25 hd0 (0, 0) _ rfl (heap_alloc2_old w _ _) Try.underlying25 rfl info_hd rfl ?_
      exact ⟨rfl, B2.out⟩
  · have hxb : (x != 69) = true := by simpa using hx
    go_enter Try.func18, Try.ntmps18
    go_wp2_with (first | (go_at_call 27; refine (KV.out _ 2 (by exact B2.out) (by omega)).mono ?_; rw [H2.out]; rintro e u ⟨rfl, rfl⟩))
    refine ret_cell_tmp rfl w.heap.size 25 hd0 (0, 0) _ rfl (heap_alloc2_old w _ _) Try.underlying25 rfl info_hd rfl ?_
    exact ⟨rfl, B2.out⟩
/-- What holds where the document's Read has only looked: the box of its result and the one of none. -/
structure RrJ (w u : World) : Prop where
  box : u.heap[w.heap.size]? = some (.cells hd0.toArray 25 (0, 0))
  non : u.heap[w.heap.size + 1]? = some (.cells hd0.toArray 25 (0, 0))
  old : Below w.heap.size w u
theorem RrJ.first (w : World) : RrJ w ((w.alloc (.cells hd0.toArray 25)).alloc (.cells hd0.toArray 25)) :=
  ⟨heap_alloc2_old w _ _, heap_alloc2_new w _ _, ((Below.refl _ _).alloc (Nat.le_refl _) _).alloc (by simp) _⟩
theorem RrJ.below {w u v : World} (h : RrJ w u) (b : Below u.heap.size u v) : RrJ w v :=
  ⟨(b.block _ (Array.getElem?_eq_some_iff.1 h.box).1).trans h.box, (b.block _ (Array.getElem?_eq_some_iff.1 h.non).1).trans h.non, h.old.trans (b.mono h.old.size)⟩
theorem RrJ.set {w u : World} (h : RrJ w u) {p : Addr} (hp : w.heap.size + 2 ≤ p.block) (x : Value) : RrJ w (u.setCell p x) :=
  ⟨by rw [Go.heap_setCell_other _ _ _ _ (by omega)]; exact h.box, by rw [Go.heap_setCell_other _ _ _ _ (by omega)]; exact h.non, h.old.setCell (p := p) (by omega) _⟩
theorem RrJ.there {w u : World} (h : RrJ w u) : u.there w.heap.size 0 hd0.toArray.size := there_block h.box
theorem RrJ.done {w u : World} (h : RrJ w u) (M : List Value) (hl : M.length = 12) : (u.setCells w.heap.size 0 M).heap[w.heap.size]? = some (.cells M.toArray 25 (0, 0)) ∧ Below w.heap.size w (u.setCells w.heap.size 0 M) :=
  ⟨heap_whole (L := hd0) h.box (by rw [hl]; rfl), h.old.trans (((Kept.refl (fun k => k = w.heap.size) u).setCells w.heap.size 0 M (fun _ => rfl)).below h.old.size (fun k hk => by omega))⟩
theorem RrJ.size {w u : World} (h : RrJ w u) : w.heap.size + 2 ≤ u.heap.size := (Array.getElem?_eq_some_iff.1 h.non).1

set_option maxHeartbeats 1000000 in
theorem rread_sum (b off : Nat) (n c : Nat) (zs : List Int) (w : World) (hz : zs.length = n) (hB : Bs w (some ⟨b, off, none⟩) zs) (hn : 20 ≤ n) (hcn : n ≤ c) (hq : rdQ zs) (hf : ¬ rdV zs 10 = rdF zs) :
    Calls Try.prog 18 #[.slice (some ⟨b, off, none⟩) n c] w fun e w' => e = .returned (.tuple #[.agg hd0.toArray, .int .i64 110]) ∧ Below w.heap.size w w' := by
  have hln : n ≤ 140737488355328 := by rw [← hz]; exact hB.len
  have KV : Hid (∀ (u : World) (k : Nat), Below w.heap.size w u → k + 2 ≤ n → Calls Try.prog 27 #[.slice (some ⟨b, off, none⟩) n c, .int .i64 k, .int .i64 2] u fun e u' => e = .returned (.int .i64 (rdV zs k)) ∧ u = u') := Hid.mk' (fun u k h hk => by
    have h0 := value_any b off n c k 2 zs u hz (hB.below h) (by omega) hk
    rw [show valV zs k 2 = rdV zs k by simp [valV, rdV]] at h0
    exact h0)
  have CE : Hid (∀ u, Below w.heap.size w u → ∀ k, k < n → u.cell? ⟨b, off + k, none⟩ = some (.int .u8 (zs.getD k 0))) := Hid.mk' (fun u h k hk => by
    rcases (hB.below h).lies with h0 | ⟨b', off', e, hc⟩
    · omega
    · cases e; exact hc k (by omega))
  have B2 : Hid (Below w.heap.size w ((w.alloc (.cells hd0.toArray 25)).alloc (.cells hd0.toArray 25))) := ((Below.refl _ _).alloc (Nat.le_refl _) _).alloc (by simp) _
  have c0 : w.cell? ⟨b, off, none⟩ = some (.int .u8 (zs.getD 0 0)) := CE.out w (Below.refl _ _) 0 (by omega)
  have c6 := CE.out w (Below.refl _ _) 6 (by omega)
  have c7 := CE.out w (Below.refl _ _) 7 (by omega)
  have hlt := lt_of_cell c0
  have hlt' : b < w.heap.size := hlt
  have hne : ¬ b = w.heap.size := by omega
  have hne1 : ¬ b = w.heap.size + 1 := by omega
  obtain ⟨hx, h6, h2⟩ := hq
  rw [hz] at h2
  have hy := (rdV_zero hB.bytes 6).1 h6
  rw [hx] at c0
  rw [hy.1] at c6
  have hz7 : zs.getD 7 0 = 0 := hy.2
  rw [hz7] at c7
  have k6 : (6 : Int) < (n : Int) := by omega
  have k7 : (7 : Int) < (n : Int) := by omega
  have k0 : (0 : Int) < (n : Int) := by omega
  have k20 : (20 : Int) ≤ (c : Int) := by omega
  have HB := Hid.mk' hB
  have HN := Hid.mk' hz
  have H2 := Hid.mk' h2
  have hF : 0 ≤ rdF zs ∧ rdF zs ≤ 65535 := by
    have := su_range (zf zs) 20
    unfold rdF; omega
  have hnb : ((n : Int) != (n : Int)) = false := by simp
  have hl20 : Hid ((zs.take 20).length = 20) := Hid.mk' (by rw [List.length_take, hz]; omega)
  clear hB hz hlt hx h6 h2 hy hz7
  obtain ⟨F, HF⟩ : ∃ F, Hid (rdF zs = F) := ⟨_, rfl⟩
  rw [HF.out] at hf hF
  obtain ⟨f0, f1⟩ := hF
  obtain ⟨V10, H10⟩ : ∃ V, Hid (rdV zs 10 = V) := ⟨_, rfl⟩
  rw [H10.out] at hf
  have hfb : (V10 != F) = true := by simpa using hf
  go_enter Try.func18, Try.ntmps18
  go_wp2_with (first | (go_at_call 27; refine (KV.out _ 2 (by exact B2.out) (by omega)).mono ?_; rw [H2.out]; rintro e u ⟨rfl, rfl⟩))
  obtain ⟨W2, hW2⟩ : ∃ W2, W2 = (w.alloc (.cells #[.int .u8 0, .int .u8 0, .int .u8 0, .int .u16 0, .int .u8 0, .int .u8 0, .int .u8 0, .int .u8 0, .int .u8 0, .int .u8 0, .int .u8 0, .int .u8 0] 25)).alloc (.cells #[.int .u8 0, .int .u8 0, .int .u8 0, .int .u16 0, .int .u8 0, .int .u8 0, .int .u8 0, .int .u8 0, .int .u8 0, .int .u8 0, .int .u8 0, .int .u8 0] 25) := ⟨_, rfl⟩
  rw [← hW2]
  have J2 : Hid (RrJ w W2) := Hid.mk' (by rw [hW2]; exact RrJ.first w)
  clear hW2 B2 c0 c6 c7 hne hne1
  refine (copy_at (some ⟨b, off, none⟩) 20 c (zs.take 20) W2 hl20.out ((HB.out.below J2.out.old).take 20 (by rw [HN.out]; exact hn)) (fun e => by cases e)).mono ?_
  rintro e w3 ⟨v3, rfl, hown, b3⟩
  obtain ⟨g, cg, rfl, hcg⟩ := own_some hown (by omega)
  have J3 := Hid.mk' (J2.out.below b3)
  have hg2 : w.heap.size + 2 ≤ g := Nat.le_trans J2.out.size (hown.lt g rfl).1
  have HG2 := Hid.mk' hg2
  obtain ⟨u10, d10⟩ : ∃ u, w3.cell? ⟨g, 10, none⟩ = some u := ⟨_, by rw [hown.cellAt 10 (by omega), List.getElem?_eq_getElem (by rw [List.length_map, hl20.out]; omega)]⟩
  obtain ⟨u11, d11⟩ : ∃ u, w3.cell? ⟨g, 11, none⟩ = some u := ⟨_, by rw [hown.cellAt 11 (by omega), List.getElem?_eq_getElem (by rw [List.length_map, hl20.out]; omega)]⟩
  have f10 := hown.frozenAt 10
  have f11 := hown.frozenAt 11
  have O5 := Hid.mk' (((hown.stored 10 (.int .u8 0)).1).stored 11 (.int .u8 0)).1
  rw [← List.map_set, ← List.map_set] at O5
  have J5 : Hid (RrJ w ((w3.setCell ⟨g, 10, none⟩ (.int .u8 0)).setCell ⟨g, 11, none⟩ (.int .u8 0))) := Hid.mk' ((J3.out.set (p := ⟨g, 10, none⟩) hg2 _).set (p := ⟨g, 11, none⟩) hg2 _)
  clear hown b3 hcg hg2 J2 J3
  go_wp2_with fail
  clear d10 d11 f10 f11
  generalize (w3.setCell ⟨g, 10, none⟩ (.int .u8 0)).setCell ⟨g, 11, none⟩ (.int .u8 0) = w5 at *
  refine (KV.out w5 10 J5.out.old (by omega)).mono ?_
  rw [H10.out]
  rintro e w6 ⟨rfl, rfl⟩
  go_wp2_with fail
  have key := reffield_any (some ⟨g, 0, none⟩) cg (zf zs) w5 (bs_row_g (n := 20) O5.out (zf_bytes HB.out.bytes) (by rw [zf_length (by rw [HN.out]; exact hn)]; omega))
  rw [zf_length (by rw [HN.out]; exact hn), show 65535 - su (zf zs) 20 = rdF zs from rfl, HF.out] at key
  refine (keep_name key).mono ?_
  rintro e w6 ⟨rfl, rfl⟩
  clear key
  go_wp2_with (first | refine wpList_store_mid rfl 25 _ _ rfl w.heap.size 0 hd0.toArray rfl rfl J5.out.there info_hd hd0_one ?_ | refine wpList_load_mid rfl 25 _ rfl (w.heap.size + 1) 0 rfl hd0 _ (range_block J5.out.non) Try.underlying25 rfl info_hd ?_)
  refine ret_cell_tmp rfl w.heap.size 25 hd0 (0, 0) _ rfl (J5.out.done hd0 rfl).1 Try.underlying25 rfl info_hd rfl ?_
  exact ⟨rfl, (J5.out.done hd0 rfl).2⟩
theorem n4C_setS (o l p i : Int) (s d : List Int) (k : Nat) (x : Int) (h : k < s.length) : (n4C o l p i s d).set (4 + k) (.int .u8 x) = n4C o l p i (s.set k x) d := by
  unfold n4C
  rw [List.set_append_right _ _ (by simp), show 4 + k - [Value.int .u8 o, .int .u8 l, .int .u8 p, .int .u16 i].length = k by simp, List.set_append_left _ _ (by simpa using h), List.map_set]
theorem n4C_setD (o l p i : Int) (s d : List Int) (k : Nat) (x : Int) (h : s.length = 4) : (n4C o l p i s d).set (8 + k) (.int .u8 x) = n4C o l p i s (d.set k x) := by
  unfold n4C
  rw [List.set_append_right _ _ (by simp; omega), show 8 + k - [Value.int .u8 o, .int .u8 l, .int .u8 p, .int .u16 i].length = 4 + k by simp; omega, List.set_append_right _ _ (by simp [h]), show 4 + k - (s.map (Value.int .u8)).length = k by simp [h], List.map_set]

/-- The first i of four bytes are there, the others are 0. -/
def half4 (zs : List Int) (i : Nat) : List Int := zs.take i ++ List.replicate (4 - i) 0
theorem half4_length {zs : List Int} {i : Nat} (h : 4 ≤ zs.length) (hi : i ≤ 4) : (half4 zs i).length = 4 := by
  unfold half4; simp; omega
theorem half4_succ {zs : List Int} {i : Nat} (h : 4 ≤ zs.length) (hi : i < 4) : (half4 zs i).set i (zs.getD i 0) = half4 zs (i + 1) := by
  unfold half4
  have e : (zs.take i).length = i := by simp; omega
  rw [List.set_append_right _ _ (by omega), e, Nat.sub_self, List.take_succ_eq_append_getElem (by omega), show 4 - i = (4 - (i + 1)) + 1 by omega, List.replicate_succ, List.set_cons_zero, List.append_assoc]
  rw [List.getD_eq_getElem?_getD, List.getElem?_eq_getElem (by omega)]; rfl

set_option maxHeartbeats 1000000 in
theorem rread_ok (b off : Nat) (n c : Nat) (zs : List Int) (w : World) (hz : zs.length = n) (hB : Bs w (some ⟨b, off, none⟩) zs) (hn : 20 ≤ n) (hcn : n ≤ c) (hq : rdQ zs) (hf : rdV zs 10 = rdF zs) :
    Calls Try.prog 18 #[.slice (some ⟨b, off, none⟩) n c] w fun e w' => e = .returned (.tuple #[.agg (rdC zs).toArray, .int .i64 0]) ∧ Below w.heap.size w w' := by
  obtain ⟨RES, HRES⟩ : ∃ RES, Hid (rdC zs = RES) := ⟨_, rfl⟩
  rw [HRES.out]
  have v4 := rdV_bd hB.bytes 4
  have HN4 := Hid.mk' (n4_of hB.bytes (by rw [hz]; exact hn))
  have hln : n ≤ 140737488355328 := by rw [← hz]; exact hB.len
  have KV : Hid (∀ (u : World) (k : Nat), Below w.heap.size w u → k + 2 ≤ n → Calls Try.prog 27 #[.slice (some ⟨b, off, none⟩) n c, .int .i64 k, .int .i64 2] u fun e u' => e = .returned (.int .i64 (rdV zs k)) ∧ u = u') := Hid.mk' (fun u k h hk => by
    have h0 := value_any b off n c k 2 zs u hz (hB.below h) (by omega) hk
    rw [show valV zs k 2 = rdV zs k by simp [valV, rdV]] at h0
    exact h0)
  have CE : Hid (∀ u, Below w.heap.size w u → ∀ k, k < n → u.cell? ⟨b, off + k, none⟩ = some (.int .u8 (zs.getD k 0))) := Hid.mk' (fun u h k hk => by
    rcases (hB.below h).lies with h0 | ⟨b', off', e, hc⟩
    · omega
    · cases e; exact hc k (by omega))
  have B2 : Hid (Below w.heap.size w ((w.alloc (.cells hd0.toArray 25)).alloc (.cells hd0.toArray 25))) := ((Below.refl _ _).alloc (Nat.le_refl _) _).alloc (by simp) _
  have c0 : w.cell? ⟨b, off, none⟩ = some (.int .u8 (zs.getD 0 0)) := CE.out w (Below.refl _ _) 0 (by omega)
  have c6 := CE.out w (Below.refl _ _) 6 (by omega)
  have c7 := CE.out w (Below.refl _ _) 7 (by omega)
  have hlt := lt_of_cell c0
  have hlt' : b < w.heap.size := hlt
  have hne : ¬ b = w.heap.size := by omega
  have hne1 : ¬ b = w.heap.size + 1 := by omega
  obtain ⟨hx, h6, h2⟩ := hq
  rw [hz] at h2
  have hy := (rdV_zero hB.bytes 6).1 h6
  rw [hx] at c0
  rw [hy.1] at c6
  have hz7 : zs.getD 7 0 = 0 := hy.2
  rw [hz7] at c7
  have k6 : (6 : Int) < (n : Int) := by omega
  have k7 : (7 : Int) < (n : Int) := by omega
  have k0 : (0 : Int) < (n : Int) := by omega
  have k20 : (20 : Int) ≤ (c : Int) := by omega
  have HB := Hid.mk' hB
  have HN := Hid.mk' hz
  have H2 := Hid.mk' h2
  have hF : 0 ≤ rdF zs ∧ rdF zs ≤ 65535 := by
    have := su_range (zf zs) 20
    unfold rdF; omega
  have hnb : ((n : Int) != (n : Int)) = false := by simp
  have hl20 : Hid ((zs.take 20).length = 20) := Hid.mk' (by rw [List.length_take, hz]; omega)
  clear hB hz hlt hx h6 h2 hy hz7
  obtain ⟨F, HF⟩ : ∃ F, Hid (rdF zs = F) := ⟨_, rfl⟩
  rw [HF.out] at hf hF
  obtain ⟨f0, f1⟩ := hF
  have H10 := Hid.mk' hf
  clear hf
  have hfb : (F != F) = false := by simp
  obtain ⟨V4, H4⟩ : ∃ V, Hid (rdV zs 4 = V) := ⟨_, rfl⟩
  rw [H4.out] at v4
  obtain ⟨v40, v41⟩ := v4
  obtain ⟨x1, HX1⟩ : ∃ x, Hid (zs.getD 1 0 = x) := ⟨_, rfl⟩
  obtain ⟨x8, HX8⟩ : ∃ x, Hid (zs.getD 8 0 = x) := ⟨_, rfl⟩
  obtain ⟨x9, HX9⟩ : ∃ x, Hid (zs.getD 9 0 = x) := ⟨_, rfl⟩
  have k1 : (1 : Int) < (n : Int) := by omega
  have k8 : (8 : Int) < (n : Int) := by omega
  have k9 : (9 : Int) < (n : Int) := by omega
  go_enter Try.func18, Try.ntmps18
  go_wp2_with (first | (go_at_call 27; refine (KV.out _ 2 (by exact B2.out) (by omega)).mono ?_; rw [H2.out]; rintro e u ⟨rfl, rfl⟩))
  obtain ⟨W2, hW2⟩ : ∃ W2, W2 = (w.alloc (.cells #[.int .u8 0, .int .u8 0, .int .u8 0, .int .u16 0, .int .u8 0, .int .u8 0, .int .u8 0, .int .u8 0, .int .u8 0, .int .u8 0, .int .u8 0, .int .u8 0] 25)).alloc (.cells #[.int .u8 0, .int .u8 0, .int .u8 0, .int .u16 0, .int .u8 0, .int .u8 0, .int .u8 0, .int .u8 0, .int .u8 0, .int .u8 0, .int .u8 0, .int .u8 0] 25) := ⟨_, rfl⟩
  rw [← hW2]
  have J2 : Hid (RrJ w W2) := Hid.mk' (by rw [hW2]; exact RrJ.first w)
  clear hW2 B2 c0 c6 c7 hne hne1
  refine (copy_at (some ⟨b, off, none⟩) 20 c (zs.take 20) W2 hl20.out ((HB.out.below J2.out.old).take 20 (by rw [HN.out]; exact hn)) (fun e => by cases e)).mono ?_
  rintro e w3 ⟨v3, rfl, hown, b3⟩
  obtain ⟨g, cg, rfl, hcg⟩ := own_some hown (by omega)
  have J3 := Hid.mk' (J2.out.below b3)
  have hg2 : w.heap.size + 2 ≤ g := Nat.le_trans J2.out.size (hown.lt g rfl).1
  have HG2 := Hid.mk' hg2
  obtain ⟨u10, d10⟩ : ∃ u, w3.cell? ⟨g, 10, none⟩ = some u := ⟨_, by rw [hown.cellAt 10 (by omega), List.getElem?_eq_getElem (by rw [List.length_map, hl20.out]; omega)]⟩
  obtain ⟨u11, d11⟩ : ∃ u, w3.cell? ⟨g, 11, none⟩ = some u := ⟨_, by rw [hown.cellAt 11 (by omega), List.getElem?_eq_getElem (by rw [List.length_map, hl20.out]; omega)]⟩
  have f10 := hown.frozenAt 10
  have f11 := hown.frozenAt 11
  have O5 := Hid.mk' (((hown.stored 10 (.int .u8 0)).1).stored 11 (.int .u8 0)).1
  rw [← List.map_set, ← List.map_set] at O5
  have J5 : Hid (RrJ w ((w3.setCell ⟨g, 10, none⟩ (.int .u8 0)).setCell ⟨g, 11, none⟩ (.int .u8 0))) := Hid.mk' ((J3.out.set (p := ⟨g, 10, none⟩) hg2 _).set (p := ⟨g, 11, none⟩) hg2 _)
  clear hown b3 hcg hg2 J2 J3
  go_wp2_with fail
  clear d10 d11 f10 f11
  generalize (w3.setCell ⟨g, 10, none⟩ (.int .u8 0)).setCell ⟨g, 11, none⟩ (.int .u8 0) = w5 at *
  refine (KV.out w5 10 J5.out.old (by omega)).mono ?_
  rw [H10.out]
  rintro e w6 ⟨rfl, rfl⟩
  go_wp2_with fail
  have key := reffield_any (some ⟨g, 0, none⟩) cg (zf zs) w5 (bs_row_g (n := 20) O5.out (zf_bytes HB.out.bytes) (by rw [zf_length (by rw [HN.out]; exact hn)]; omega))
  rw [zf_length (by rw [HN.out]; exact hn), show 65535 - su (zf zs) 20 = rdF zs from rfl, HF.out] at key
  refine (keep_name key).mono ?_
  rintro e w6 ⟨rfl, rfl⟩
  clear key
  go_wp2_with fail
  have q1 := CE.out w5 J5.out.old 1 (by omega)
  have q8 := CE.out w5 J5.out.old 8 (by omega)
  have q9 := CE.out w5 J5.out.old 9 (by omega)
  rw [HX1.out] at q1
  rw [HX8.out] at q8
  rw [HX9.out] at q9
  have hlt5 : b < w5.heap.size := lt_of_cell q1
  have hne5 : ¬ b = w5.heap.size := by omega
  have e4 : IntKind.u16.wrap V4 = V4 := by rw [IntKind.wrap_u16]; omega
  have BD : Hid (Below w.heap.size w w5.drew) := J5.out.old.drew
  have BA : Hid (Below w.heap.size w (w5.alloc (.cells hd0.toArray 25)).drew) := (J5.out.old.alloc J5.out.old.size _).drew
  clear O5
  go_region_held3 (fun w' => w'.cell? ⟨b, off + 1, none⟩ = some (.int .u8 x1) ∧ w'.cell? ⟨b, off + 8, none⟩ = some (.int .u8 x8) ∧ w'.cell? ⟨b, off + 9, none⟩ = some (.int .u8 x9)) (go_keep) (first | (go_at_call 27; refine (KV.out _ 4 (by first | exact BD.out | exact BA.out) (by omega)).mono ?_; rw [H4.out]; rintro e w6 ⟨rfl, rfl⟩))
  all_goals
    obtain ⟨W7, hW7⟩ : ∃ W7, W7 = (w5.alloc (.cells #[.int .u8 x1, .int .u8 x8, .int .u8 x9, .int .u16 V4, .int .u8 0, .int .u8 0, .int .u8 0, .int .u8 0, .int .u8 0, .int .u8 0, .int .u8 0, .int .u8 0] 25)).drew := ⟨_, rfl⟩
    rw [← hW7]
    have J7 : Hid (RrJ w W7) := Hid.mk' (by rw [hW7]; exact J5.out.below (((Below.refl _ _).alloc (Nat.le_refl _) _).drew))
    have Q7 : Hid (W7.heap[w5.heap.size]? = some (.cells (n4C x1 x8 x9 V4 (half4 (zs.drop 12) 0) (half4 (zs.drop 16) 0)).toArray 25 (0, 0))) := Hid.mk' (by rw [hW7]; exact heap_alloc_new w5 _)
    have SZ : Hid (w.heap.size + 2 ≤ w5.heap.size) := Hid.mk' J5.out.size
    clear hW7 q1 q8 q9 J5 BD BA
    go_wp2_with fail
    go_loopw [7] (fun i wr => ∃ k : Nat, k ≤ 4 ∧ i = .int .i64 k ∧ Hid (wr.heap[w5.heap.size]? = some (.cells (n4C x1 x8 x9 V4 (half4 (zs.drop 12) k) (half4 (zs.drop 16) k)).toArray 25 (0, 0))) ∧ Hid (RrJ w wr)) (fun i _ => 4 - (intOf i).toNat)
    case atStart => exact ⟨0, Nat.zero_le _, rfl, Q7, J7⟩
    case round =>
      obtain ⟨k, hk, rfl, Q8, J8⟩ := hrel
      clear Q7 J7
      have l12 : 4 ≤ (zs.drop 12).length := by rw [List.length_drop, HN.out]; omega
      have l16 : 4 ≤ (zs.drop 16).length := by rw [List.length_drop, HN.out]; omega
      have L12 := Hid.mk' l12
      have L16 := Hid.mk' l16
      have hll : Hid ((n4C x1 x8 x9 V4 (half4 (zs.drop 12) k) (half4 (zs.drop 16) k)).length = 12) := Hid.mk' (by unfold n4C; simp [half4_length l12 hk, half4_length l16 hk])
      clear l12 l16
      by_cases hlt : k < 4
      · have hsp : (k : Int) < 4 := by omega
        have hk1 : 12 + (k : Int) < (n : Int) := by omega
        have hk2 : 16 + (k : Int) < (n : Int) := by omega
        have d0 := CE.out wr J8.out.old (12 + k) (by omega)
        have d1 := CE.out wr J8.out.old (16 + k) (by omega)
        have f0 : wr.frozen? ⟨w5.heap.size, 4 + k, none⟩ = false := frozen_of_row wr _ _ _ _ Q8.out
        have f1 : wr.frozen? ⟨w5.heap.size, 8 + k, none⟩ = false := frozen_of_row wr _ _ _ _ Q8.out
        obtain ⟨u0, e0⟩ : ∃ u, wr.cell? ⟨w5.heap.size, 4 + k, none⟩ = some u := ⟨_, by rw [cell_of_row wr _ (4 + k) _ _ _ Q8.out, List.getElem?_toArray, List.getElem?_eq_getElem (by rw [hll.out]; omega)]⟩
        obtain ⟨u1, e1⟩ : ∃ u, wr.cell? ⟨w5.heap.size, 8 + k, none⟩ = some u := ⟨_, by rw [cell_of_row wr _ (8 + k) _ _ _ Q8.out, List.getElem?_toArray, List.getElem?_eq_getElem (by rw [hll.out]; omega)]⟩
        have hbne : ¬ w5.heap.size = b := by omega
        obtain ⟨x, HX⟩ : ∃ x, Hid (zs.getD (12 + k) 0 = x) := ⟨_, rfl⟩
        obtain ⟨y, HY⟩ : ∃ y, Hid (zs.getD (16 + k) 0 = y) := ⟨_, rfl⟩
        rw [HX.out] at d0
        rw [HY.out] at d1
        go_wp2_with fail
        go_roundw
        case rel =>
          refine ⟨k + 1, hlt, by go_num, Hid.mk' ?_, Hid.mk' ?_⟩
          · rw [Go.heap_setCell_same _ _ (8 + k) _ _ _ (Go.heap_setCell_same _ _ (4 + k) _ _ _ Q8.out)]
            rw [List.setIfInBounds_toArray, List.setIfInBounds_toArray, n4C_setS _ _ _ _ _ _ _ _ (by rw [half4_length L12.out hk]; exact hlt), n4C_setD _ _ _ _ _ _ _ _ (by rw [List.length_set, half4_length L12.out hk])]
            rw [← HX.out, ← HY.out]
            rw [show zs.getD (12 + k) 0 = (zs.drop 12).getD k 0 by simp only [List.getD_eq_getElem?_getD, List.getElem?_drop], show zs.getD (16 + k) 0 = (zs.drop 16).getD k 0 by simp only [List.getD_eq_getElem?_getD, List.getElem?_drop], half4_succ L12.out hlt, half4_succ L16.out hlt]
          · exact (J8.out.set (p := ⟨w5.heap.size, 4 + k, none⟩) SZ.out _).set (p := ⟨w5.heap.size, 8 + k, none⟩) SZ.out _
        case measure => simp [intOf]; omega
      · obtain rfl : k = 4 := by omega
        have HLR : Hid (n4C x1 x8 x9 V4 (half4 (zs.drop 12) 4) (half4 (zs.drop 16) 4) = RES) := Hid.mk' (by rw [← HRES.out, ← HX1.out, ← HX8.out, ← HX9.out, ← H4.out]; unfold half4 rdC; simp)
        have hlr : Hid (RES.length = 12) := Hid.mk' (by rw [← HRES.out]; exact n4C_length HN4.out)
        have hone : Hid (RES.toArray.all (·.oneCell') = true) := Hid.mk' (by rw [← HRES.out]; exact n4C_one _ _ _ _ _ _)
        rw [HLR.out] at Q8
        have hth : Hid (wr.there w.heap.size 0 RES.toArray.size) := Hid.mk' (by
          have e : RES.toArray.size = hd0.toArray.size := by rw [List.size_toArray, hlr.out]; rfl
          rw [e]; exact J8.out.there)
        go_wp2_with (first | refine wpList_store_mid rfl 25 _ _ rfl w.heap.size 0 RES.toArray rfl rfl hth.out (by rw [List.size_toArray, hlr.out]; exact info_hd) hone.out ?_ | refine wpList_load_mid rfl 25 _ rfl w5.heap.size 0 rfl RES _ (range_block Q8.out) Try.underlying25 rfl (by rw [hlr.out]; exact info_hd) ?_)
        refine ret_cell_tmp rfl w.heap.size 25 RES (0, 0) _ rfl (J8.out.done RES hlr.out).1 Try.underlying25 rfl (by rw [hlr.out]; exact info_hd) rfl ?_
        exact ⟨rfl, (J8.out.done RES hlr.out).2⟩
end Go.Proofs.Ytmeodhdmnoglcaa
