/- The contracts of the document's own Check, Size, Bytes, Read. -/
import Derived.Test.YtbdfhhaoeekhhaaTb
import Derived.Test.YtbdfhhaoeekhhaaGb
import Derived.Deep.RegionHeld3
namespace Go.Proofs.Ytbdfhhaoeekhhaa
open Go.ChangeShapes Go.WideShapes Go.ChangeAt Go.RowKit

set_option maxHeartbeats 400000 in
theorem rcheck_any (p i t : Int) (w : World) (h : Tg p i t) : Calls Try.prog 12 #[.agg (tgC p i t).toArray] w fun e w' => e = .returned (.int .i64 (tgE p i)) ∧ Below w.heap.size w w' := by
  obtain ⟨p0, p1, i0, i1, t0, t1⟩ := h
  unfold tgC tgE
  by_cases hp : p ≤ 7
  · by_cases hi : i ≤ 4095
    · rw [if_pos ⟨hp, hi⟩]
      go_enter Try.func12, Try.ntmps12
      go_wp2_with fail
      go_ret
      exact ⟨rfl, (Below.refl _ _).alloc (Nat.le_refl _) _⟩
    · rw [if_neg (fun e => hi e.2)]
      go_enter Try.func12, Try.ntmps12
      go_wp2_with fail
      go_ret
      exact ⟨rfl, (Below.refl _ _).alloc (Nat.le_refl _) _⟩
  · rw [if_neg (fun e => hp e.1)]
    go_enter Try.func12, Try.ntmps12
    go_wp2_with fail
    go_ret
    exact ⟨rfl, (Below.refl _ _).alloc (Nat.le_refl _) _⟩

theorem rsize_any (w : World) : Calls Try.prog 14 #[] w fun e w' => e = .returned (.int .i64 4) ∧ w = w' := by
  go_enter Try.func14, Try.ntmps14
  go_wp2_with fail
  go_ret
  exact ⟨rfl, rfl⟩

theorem numB_two (t : Int) (h0 : 0 ≤ t) (h1 : t ≤ 65535) : numB 2 t = [t / 256, t % 256] := by
  simp [numB]; omega

theorem Kept_block {w w' : World} {g : Nat} {o : Obj} {row : Option Nat} (h : w.heap[g]? = some o) (hg : w.grownBy w' row) (hne : row ≠ some g) : w'.heap[g]? = some o :=
  (hg.block g (Array.getElem?_eq_some_iff.1 h).1 (fun e => hne e.symm)).trans h

set_option maxHeartbeats 400000 in
theorem rbytes_bad (p i t : Int) (a : Option Addr) (n c : Nat) (w : World) (h : Tg p i t) (hp : ¬ (p ≤ 7 ∧ i ≤ 4095)) :
    Calls Try.prog 10 #[.agg (tgC p i t).toArray, .slice a n c] w fun e w' => e = .returned (.tuple #[.slice none 0 0, .int .i64 60]) ∧ Below w.heap.size w w' := by
  have HCK : Hid (∀ w : World, Calls Try.prog 12 #[.agg (tgC p i t).toArray] w fun e w' => e = .returned (.int .i64 60) ∧ Below w.heap.size w w') := Hid.mk' (fun w => by
    have := rcheck_any p i t w h
    unfold tgE at this
    rw [if_neg hp] at this
    exact this)
  clear h hp
  unfold tgC at *
  go_enter Try.func10, Try.ntmps10
  go_wp2_with fail
  refine (HCK.out _).mono ?_
  rintro e w2 ⟨rfl, b2⟩
  have B1 : Below w.heap.size w (w.alloc (.cells #[.int .u8 p, .int .u16 i, .int .u16 t] 24)) := (Below.refl _ _).alloc (Nat.le_refl _) _
  have B2 : Hid (Below w.heap.size w w2) := B1.trans (b2.mono B1.size)
  clear b2 B1
  go_wp2_with fail
  go_ret2
  exact ⟨rfl, B2.out⟩

set_option maxHeartbeats 400000 in
theorem rbytes_no (p i t : Int) (a : Option Addr) (n c : Nat) (w : World) (h : Tg p i t) (hp : p ≤ 7) (hi : i ≤ 4095) (hn : ¬ n ≤ 2044) (hl : n ≤ 140737488355328) :
    Calls Try.prog 10 #[.agg (tgC p i t).toArray, .slice a n c] w fun e w' => e = .returned (.tuple #[.slice none 0 0, .int .i64 5]) ∧ Below w.heap.size w w' := by
  have HCK : Hid (∀ w : World, Calls Try.prog 12 #[.agg (tgC p i t).toArray] w fun e w' => e = .returned (.int .i64 0) ∧ Below w.heap.size w w') := Hid.mk' (fun w => by
    have := rcheck_any p i t w h
    unfold tgE at this
    rw [if_pos ⟨hp, hi⟩] at this
    exact this)
  clear h hp hi
  unfold tgC at *
  go_enter Try.func10, Try.ntmps10
  go_wp2_with fail
  refine (HCK.out _).mono ?_
  rintro e w2 ⟨rfl, b2⟩
  have B1 : Below w.heap.size w (w.alloc (.cells #[.int .u8 p, .int .u16 i, .int .u16 t] 24)) := (Below.refl _ _).alloc (Nat.le_refl _) _
  have B2 : Hid (Below w.heap.size w w2) := B1.trans (b2.mono B1.size)
  clear b2 B1
  go_wp2_with fail
  go_ret2
  exact ⟨rfl, B2.out⟩

set_option maxHeartbeats 1000000 in
theorem rbytes_ok (p i t : Int) (a : Option Addr) (n c : Nat) (w : World) (h : Tg p i t) (hp : p ≤ 7) (hi : i ≤ 4095) (hn : n ≤ 2044) :
    Calls Try.prog 10 #[.agg (tgC p i t).toArray, .slice a n c] w fun e w' => ∃ v, e = .returned (.tuple #[v, .int .i64 0]) ∧ w'.ownsRow w.heap.size 5 1 v 4 ((tgB p i t).map (Value.int .u8)) ∧ Below w.heap.size w w' := by
  have HCK : Hid (∀ w : World, Calls Try.prog 12 #[.agg (tgC p i t).toArray] w fun e w' => e = .returned (.int .i64 0) ∧ Below w.heap.size w w') := Hid.mk' (fun w => by
    have := rcheck_any p i t w h
    unfold tgE at this
    rw [if_pos ⟨hp, hi⟩] at this
    exact this)
  obtain ⟨p0, p1, i0, i1, t0, t1⟩ := h
  unfold tgC at *
  have CE : Hid (∀ w' : World, w'.heap[w.heap.size]? = some (.cells #[.int .u8 p, .int .u16 i, .int .u16 t] 24 (0, 0)) → w'.cell? ⟨w.heap.size, 0, none⟩ = some (.int .u8 p) ∧ w'.cell? ⟨w.heap.size, 1, none⟩ = some (.int .u16 i) ∧ w'.cell? ⟨w.heap.size, 2, none⟩ = some (.int .u16 t)) := Hid.mk' (fun w' hh => by
    refine ⟨?_, ?_, ?_⟩ <;> exact cell_of_row w' _ _ _ _ _ hh)
  go_enter Try.func10, Try.ntmps10
  go_wp2_with fail
  refine (HCK.out _).mono ?_
  rintro e w2 ⟨rfl, b2⟩
  have R1 := heap_alloc_new w (.cells #[.int .u8 p, .int .u16 i, .int .u16 t] 24)
  have B1 : Below w.heap.size w (w.alloc (.cells #[.int .u8 p, .int .u16 i, .int .u16 t] 24)) := (Below.refl _ _).alloc (Nat.le_refl _) _
  have B2 : Hid (Below w.heap.size w w2) := B1.trans (b2.mono B1.size)
  have R2 : Hid (w2.heap[w.heap.size]? = some (.cells #[.int .u8 p, .int .u16 i, .int .u16 t] 24 (0, 0))) := (b2.block _ (Array.getElem?_eq_some_iff.1 R1).1).trans R1
  obtain ⟨c0, c1, c2⟩ := CE.out _ R2.out
  clear b2 R1 B1
  go_wp2_with fail
  refine (number_any (p * 8192 + i) 2 w2 (by omega) (by omega) (by omega)).mono ?_
  rintro e w3 ⟨u3, rfl, hown, b3⟩
  obtain ⟨a3, c3, rfl, s3, -⟩ := bs_own (by rw [numB_length]; exact hown) (numB_bytes 2 (p * 8192 + i)) (by rw [numB_length]; omega)
  rw [numB_length] at *
  have S3 := Hid.mk' s3
  have B3 : Hid (Below w.heap.size w w3) := B2.out.trans (b3.mono B2.out.size)
  have R3 : Hid (w3.heap[w.heap.size]? = some (.cells #[.int .u8 p, .int .u16 i, .int .u16 t] 24 (0, 0))) := (b3.block _ (Array.getElem?_eq_some_iff.1 R2.out).1).trans R2.out
  clear hown b3 s3 c0 c1 c2 R2 B2
  go_wp2_with (at_builtin; refine wpList_app_own rfl _ _ rfl w3.heap.size (.slice none 0 0) 0 [] rfl (World.ownsRow_nil _ _ _ _) a3 c3 2 (numB 2 (p * 8192 + i)) rfl (numB_length 2 _) S3.out (by omega) (Nat.le_refl _) ?_; intro v4 w4 hown hgrow hpl; have R4 : Hid (w4.heap[w.heap.size]? = some (.cells #[.int .u8 p, .int .u16 i, .int .u16 t] 24 (0, 0))) := (Kept_block R3.out hgrow (by simp [Value.ownBlock])); have B4 : Hid (Below w.heap.size w w4) := (B3.out.grown hgrow B3.out.size (by intro k hk; simp [Value.ownBlock] at hk)); have S4 := Hid.mk' hgrow.size; have O4 := Hid.mk' hown; obtain ⟨c0, c1, c2⟩ := CE.out _ R4.out; clear hown hgrow hpl)
  refine (number_any t 2 w4 t0 (by omega) (by omega)).mono ?_
  rintro e w5 ⟨u5, rfl, hown, b5⟩
  obtain ⟨a5, c5, rfl, s5, -⟩ := bs_own (by rw [numB_length]; exact hown) (numB_bytes 2 t) (by rw [numB_length]; omega)
  rw [numB_length] at *
  have S5 := Hid.mk' s5
  have O5 := Hid.mk' (Kept.owns O4.out (Kept.of_below (S := fun _ => False) b5) (fun _ _ h => h))
  have B5 : Hid (Below w.heap.size w w5) := B4.out.trans (b5.mono B4.out.size)
  have T5 := Hid.mk' (Nat.le_trans S4.out b5.size)
  clear hown b5 s5 c0 c1 c2
  go_wp2_with (at_builtin; refine wpList_app_own rfl _ _ rfl w3.heap.size v4 (0 + 2) _ rfl O5.out a5 c5 2 (numB 2 t) rfl (numB_length 2 t) S5.out (by omega) T5.out ?_; intro v6 w6 hown hgrow hpl; have B6 : Hid (Below w.heap.size w w6) := (B5.out.grown hgrow B5.out.size (by intro k hk; exact Nat.le_trans B3.out.size (O5.out.lt k hk).1)); have O6 := Hid.mk' hown; clear hown hgrow hpl)
  go_ret2
  refine ⟨_, rfl, ?_, B6.out⟩
  have h6 := ownsRow_base O6.out B3.out.size
  rw [numB_two t t0 t1, numB_two (p * 8192 + i) (by omega) (by omega)] at h6
  simpa [tgB] using h6

set_option maxHeartbeats 400000 in
theorem rread_short (a : Option Addr) (n c : Nat) (w : World) (hn : n < 4) :
    Calls Try.prog 18 #[.slice a n c] w fun e w' => e = .returned (.tuple #[.agg hd0.toArray, .int .i64 6]) ∧ Below w.heap.size w w' := by
  go_enter Try.func18, Try.ntmps18
  go_wp2_with fail
  refine ret_cell_tmp rfl w.heap.size 24 _ (0, 0) _ rfl (heap_alloc2_old w _ _) Try.underlying24 rfl info_hd rfl ?_
  exact ⟨rfl, ((Below.refl _ _).alloc (Nat.le_refl _) _).alloc (by simp) _⟩

/-- The first byte's bit is the number's. -/
theorem bit_first {zs : List Int} (h : Bytes zs) : rdM zs / 4096 % 2 = zs.getD 0 0 / 16 % 2 := by
  have h0 := h.getD 0
  have h1 := h.getD 1
  unfold rdM; omega

set_option maxHeartbeats 400000 in
theorem rread_bad (b off : Nat) (n c : Nat) (zs : List Int) (w : World) (hz : zs.length = n) (hB : Bs w (some ⟨b, off, none⟩) zs) (hn : 4 ≤ n) (hm : ¬ rdM zs / 4096 % 2 = 0) :
    Calls Try.prog 18 #[.slice (some ⟨b, off, none⟩) n c] w fun e w' => e = .returned (.tuple #[.agg hd0.toArray, .int .i64 60]) ∧ Below w.heap.size w w' := by
  have hln : n ≤ 140737488355328 := by rw [← hz]; exact hB.len
  rw [bit_first hB.bytes] at hm
  have cc : w.cell? ⟨b, off, none⟩ = some (.int .u8 (zs.getD 0 0)) := by
    rcases hB.lies with h0 | ⟨b', off', e, hc⟩
    · omega
    · cases e; exact hc 0 (by omega)
  have k0 := hB.bytes.getD 0
  have hlt := lt_of_cell cc
  clear hB hz
  generalize zs.getD 0 0 = u at *
  obtain ⟨u0, u1⟩ := k0
  have hm1 : u / 16 % 2 = 1 := by omega
  have hlt' : b < w.heap.size := hlt
  have hne : ¬ b = w.heap.size := by omega
  have hne1 : ¬ b = w.heap.size + 1 := by omega
  go_enter Try.func18, Try.ntmps18
  go_wp2_with fail
  refine ret_cell_tmp rfl w.heap.size 24 _ (0, 0) _ rfl (heap_alloc2_old w _ _) Try.underlying24 rfl info_hd rfl ?_
  exact ⟨rfl, ((Below.refl _ _).alloc (Nat.le_refl _) _).alloc (by simp) _⟩

set_option maxHeartbeats 1000000 in
theorem rread_ok (b off : Nat) (n c : Nat) (zs : List Int) (w : World) (hz : zs.length = n) (hB : Bs w (some ⟨b, off, none⟩) zs) (hn : 4 ≤ n) (hm : rdM zs / 4096 % 2 = 0) :
    Calls Try.prog 18 #[.slice (some ⟨b, off, none⟩) n c] w fun e w' => e = .returned (.tuple #[.agg (tgC (rdM zs / 8192) (rdM zs % 4096) (rdT zs)).toArray, .int .i64 0]) ∧ Below w.heap.size w w' := by
  have hln : n ≤ 140737488355328 := by rw [← hz]; exact hB.len
  obtain ⟨m0, m1⟩ := rdM_bd hB.bytes
  obtain ⟨t0, t1⟩ := rdT_bd hB.bytes
  rw [bit_first hB.bytes] at hm
  have cc : w.cell? ⟨b, off, none⟩ = some (.int .u8 (zs.getD 0 0)) := by
    rcases hB.lies with h0 | ⟨b', off', e, hc⟩
    · omega
    · cases e; exact hc 0 (by omega)
  have k0 := hB.bytes.getD 0
  have hlt := lt_of_cell cc
  have hpr : Hid (zs.getD 0 0 / 32 = rdM zs / 8192) := Hid.mk' (by have := hB.bytes.getD 1; unfold rdM; omega)
  have KV : Hid (∀ w' : World, Below w.heap.size w w' → (Calls Try.prog 24 #[.slice (some ⟨b, off, none⟩) n c, .int .i64 0, .int .i64 2] w' fun e w'' => e = .returned (.int .i64 (rdM zs)) ∧ w' = w'') ∧ (Calls Try.prog 24 #[.slice (some ⟨b, off, none⟩) n c, .int .i64 2, .int .i64 2] w' fun e w'' => e = .returned (.int .i64 (rdT zs)) ∧ w' = w'')) := Hid.mk' (fun w' hb => by
    have h0 := value_any b off n c 0 2 zs w' hz (hB.below hb) (by omega) (by omega)
    have h2 := value_any b off n c 2 2 zs w' hz (hB.below hb) (by omega) (by omega)
    rw [show valV zs 0 2 = rdM zs by simp [valV, rdM]] at h0
    rw [show valV zs 2 2 = rdT zs by simp [valV, rdT]] at h2
    exact ⟨h0, h2⟩)
  clear hB hz
  obtain ⟨RES, HRES⟩ : ∃ RES, Hid (tgC (rdM zs / 8192) (rdM zs % 4096) (rdT zs) = RES) := ⟨_, rfl⟩
  rw [HRES.out]
  rw [← hpr.out] at HRES
  obtain ⟨V, HV⟩ : ∃ V, Hid (rdM zs = V) := ⟨_, rfl⟩
  obtain ⟨T, HT⟩ : ∃ T, Hid (rdT zs = T) := ⟨_, rfl⟩
  rw [HV.out] at m0 m1 HRES KV
  rw [HT.out] at t0 t1 HRES KV
  clear hpr
  generalize zs.getD 0 0 = u at *
  obtain ⟨u0, u1⟩ := k0
  have hlt' : b < w.heap.size := hlt
  have hne : ¬ b = w.heap.size := by omega
  have hne1 : ¬ b = w.heap.size + 1 := by omega
  go_enter Try.func18, Try.ntmps18
  go_wp2_with fail
  obtain ⟨W1, hW1⟩ : ∃ W1, W1 = (w.alloc (.cells #[.int .u8 0, .int .u16 0, .int .u16 0] 24)).alloc (.cells #[.int .u8 0, .int .u16 0, .int .u16 0] 24) := ⟨_, rfl⟩
  rw [← hW1]
  have B1 : Hid (Below w.heap.size w W1) := by rw [hW1]; exact ((Below.refl _ _).alloc (Nat.le_refl _) _).alloc (by simp) _
  have R1 : Hid (W1.heap[w.heap.size]? = some (.cells #[.int .u8 0, .int .u16 0, .int .u16 0] 24 (0, 0))) := by rw [hW1]; exact heap_alloc2_old w _ _
  have d1 : W1.cell? ⟨b, off, none⟩ = some (.int .u8 u) := (Kept.of_below (S := fun _ => False) B1.out).cell cc (fun h => h)
  have BA : Hid (Below w.heap.size w (W1.alloc (.cells #[.int .u8 0, .int .u16 0, .int .u16 0] 24)).drew) := (B1.out.alloc B1.out.size _).drew
  have BD : Hid (Below w.heap.size w W1.drew) := B1.out.drew
  have e1 : IntKind.u8.wrap (u.tdiv 32) = u / 32 := by rw [Int.tdiv_eq_ediv_of_nonneg u0]; rw [IntKind.wrap_u8]; omega
  have e2 : V.tmod 4096 = V % 4096 := Int.tmod_eq_emod_of_nonneg m0
  have e3 : IntKind.u16.wrap (V % 4096) = V % 4096 := by rw [IntKind.wrap_u16]; omega
  have e4 : IntKind.u16.wrap T = T := by rw [IntKind.wrap_u16]; omega
  have hltW : b < W1.heap.size := lt_of_cell d1
  have hneW : ¬ b = W1.heap.size := by omega
  have SZ : Hid (w.heap.size < W1.heap.size) := Hid.mk' (Array.getElem?_eq_some_iff.1 R1.out).1
  clear hW1 cc hlt hlt' hne hne1
  have h0n : (0 : Int) < (n : Int) := by omega
  have h0n' : 0 < n := by omega
  go_region_held3 (fun w' => w'.cell? ⟨b, off, none⟩ = some (.int .u8 u)) (go_keep) (first | (go_at_call_of 24 (Value.int IntKind.i64 0); refine (KV.out _ (by first | exact BD.out | exact BA.out)).1.mono ?_; rintro e w5 ⟨rfl, rfl⟩) | (go_at_call 24; refine (KV.out _ (by first | exact BD.out | exact BA.out)).2.mono ?_; rintro e w5 ⟨rfl, rfl⟩))
  all_goals
    obtain ⟨W2, hW2⟩ : ∃ W2, W2 = (W1.alloc (.cells #[.int .u8 (u / 32), .int .u16 (V % 4096), .int .u16 T] 24)).drew := ⟨_, rfl⟩
    rw [← hW2]
    have R2 : Hid (W2.heap[w.heap.size]? = some (.cells #[.int .u8 0, .int .u16 0, .int .u16 0] 24 (0, 0))) := by rw [hW2]; exact (Below.heap_alloc W1 _ _ SZ.out).trans R1.out
    have Q2 : Hid (W2.heap[W1.heap.size]? = some (.cells #[.int .u8 (u / 32), .int .u16 (V % 4096), .int .u16 T] 24 (0, 0))) := by rw [hW2]; exact heap_alloc_new W1 _
    have B2 : Hid (Below w.heap.size w W2) := by rw [hW2]; exact (B1.out.alloc B1.out.size _).drew
    clear hW2 R1 B1 d1 hltW hneW
    have q0 : W2.cell? ⟨W1.heap.size, 0, none⟩ = some (.int .u8 (u / 32)) := cell_of_row W2 _ _ _ _ _ Q2.out
    have q1 : W2.cell? ⟨W1.heap.size, 1, none⟩ = some (.int .u16 (V % 4096)) := cell_of_row W2 _ _ _ _ _ Q2.out
    have q2 : W2.cell? ⟨W1.heap.size, 2, none⟩ = some (.int .u16 T) := cell_of_row W2 _ _ _ _ _ Q2.out
    have c0 : W2.cell? ⟨w.heap.size, 0, none⟩ = some (.int .u8 0) := cell_of_row W2 _ _ _ _ _ R2.out
    have c1 : W2.cell? ⟨w.heap.size, 1, none⟩ = some (.int .u16 0) := cell_of_row W2 _ _ _ _ _ R2.out
    have c2 : W2.cell? ⟨w.heap.size, 2, none⟩ = some (.int .u16 0) := cell_of_row W2 _ _ _ _ _ R2.out
    have f0 : W2.frozen? ⟨w.heap.size, 0, none⟩ = false := frozen_of_row W2 _ _ _ _ R2.out
    have f1 : W2.frozen? ⟨w.heap.size, 1, none⟩ = false := frozen_of_row W2 _ _ _ _ R2.out
    have f2 : W2.frozen? ⟨w.heap.size, 2, none⟩ = false := frozen_of_row W2 _ _ _ _ R2.out
    go_wp2_with fail
    have HX : Hid (((W2.setCell ⟨w.heap.size, 0, none⟩ (.int .u8 (u / 32))).setCell ⟨w.heap.size, 1, none⟩ (.int .u16 (V % 4096))).setCell ⟨w.heap.size, 2, none⟩ (.int .u16 T) = W2.setCells w.heap.size 0 RES) := Hid.mk' (by rw [← HRES.out]; rfl)
    rw [HX.out]
    have R5 : Hid ((W2.setCells w.heap.size 0 RES).heap[w.heap.size]? = some (.cells RES.toArray 24 (0, 0))) := heap_whole (L := hd0) R2.out (by rw [← HRES.out]; rfl)
    have B5 : Hid (Below w.heap.size w (W2.setCells w.heap.size 0 RES)) := B2.out.trans (((Kept.refl (fun k => k = w.heap.size) W2).setCells w.heap.size 0 RES (fun _ => rfl)).below B2.out.size (fun k hk => by omega))
    refine ret_cell_tmp rfl w.heap.size 24 RES (0, 0) _ rfl R5.out Try.underlying24 rfl (by rw [← HRES.out]; exact info_hd) rfl ?_
    exact ⟨rfl, B5.out⟩
end Go.Proofs.Ytbdfhhaoeekhhaa
