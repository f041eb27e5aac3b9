/- The walk of WrapPushes. (Made by a generator.) -/
import Derived.Test.YtednmdkjhiihcaaGreatRq
import Derived.Test.YtednmdkjhiihcaaGreatSp
import Derived.Deep.RegionHeld3
namespace Go.Proofs.YtednmdkjhiihcaaGreat
open Go.ChangeShapes Go.WideShapes Go.ChangeAt Go.RowKit
set_option maxRecDepth 10000

/-- A head that came in. -/
theorem wlhd_open (W : World) (m : sh31.M) (o : sh31.ok W m) : LHd (sh31.cs m) := by
  obtain ⟨⟨d0, d1, d2, d3, d4, d5⟩, ⟨s0, s1, s2, s3, s4, s5⟩, t⟩ := m
  obtain ⟨⟨k0, k1, k2, k3, k4, k5⟩, ⟨l0, l1, l2, l3, l4, l5⟩, kt⟩ := o
  have six : ∀ (x0 x1 x2 x3 x4 x5 : Int), (Lit.int .u8 x0).wf = true → (Lit.int .u8 x1).wf = true → (Lit.int .u8 x2).wf = true → (Lit.int .u8 x3).wf = true → (Lit.int .u8 x4).wf = true → (Lit.int .u8 x5).wf = true → Bytes [x0, x1, x2, x3, x4, x5] := by
    intro x0 x1 x2 x3 x4 x5 e0 e1 e2 e3 e4 e5
    refine bytes_of_wf (fun z hz => ?_)
    simp only [List.mem_cons, List.not_mem_nil, or_false] at hz
    rcases hz with rfl | rfl | rfl | rfl | rfl | rfl <;> assumption
  exact ⟨[d0, d1, d2, d3, d4, d5], [s0, s1, s2, s3, s4, s5], t, rfl, rfl, rfl, six _ _ _ _ _ _ k0 k1 k2 k3 k4 k5, six _ _ _ _ _ _ l0 l1 l2 l3 l4 l5, (bounds_u16 kt).1, (bounds_u16 kt).2⟩
theorem whh_open (W : World) (m : sh46.M) (o : sh46.ok W m) : Hh (sh46.cs m) := by
  obtain ⟨k, a, b, c, d, e, f⟩ := m
  obtain ⟨ok, oa, ob, oc, od, oe, of⟩ := o
  exact ⟨k, sh31.cs a, sh33.cs b, sh36.cs c, sh40.cs d, sh42.cs e, sh44.cs f, rfl, (bounds_u8 ok).1, (bounds_u8 ok).2, wlhd_open W a oa, K06.hd_open W b ob, K07.hd_open W c oc, K08.hd_open W d od, K09.hd_open W e oe, K10.hd_open W f of⟩

/-- What lies in memory while WrapPushes goes on: the head's box, what was copied, the three rows of bytes; the first of them may be turned. -/
structure WbJ (W : World) (H : List Value) (B2 B3 B4 B5 n nb : Nat) (v2 v3 v4 v5 : Value) (zs YS BY : List Int) (w : World) : Prop where
  box : w.heap[W.heap.size]? = some (.cells H.toArray 46 (0, 0))
  r2 : w.ownsRow B2 5 1 v2 n (zs.map (Value.int .u8))
  r3 : w.ownsRow B3 5 1 v3 nb (YS.map (Value.int .u8))
  r4 : w.ownsRow B4 5 1 v4 nb (BY.map (Value.int .u8))
  r5 : w.ownsRow B5 5 1 v5 nb (BY.map (Value.int .u8))
  old : Below W.heap.size W w
theorem WbJ.below {W : World} {H : List Value} {B2 B3 B4 B5 n nb : Nat} {v2 v3 v4 v5 : Value} {zs YS BY : List Int} {w w' : World} (h : WbJ W H B2 B3 B4 B5 n nb v2 v3 v4 v5 zs YS BY w) (b : Below w.heap.size w w') : WbJ W H B2 B3 B4 B5 n nb v2 v3 v4 v5 zs YS BY w' :=
  ⟨(b.block _ (Array.getElem?_eq_some_iff.1 h.box).1).trans h.box, Kept.owns h.r2 (Kept.of_below (S := fun _ => False) b) (fun _ _ h => h), Kept.owns h.r3 (Kept.of_below (S := fun _ => False) b) (fun _ _ h => h), Kept.owns h.r4 (Kept.of_below (S := fun _ => False) b) (fun _ _ h => h), Kept.owns h.r5 (Kept.of_below (S := fun _ => False) b) (fun _ _ h => h), h.old.trans (b.mono h.old.size)⟩

/-- A byte of the first row is turned. -/
theorem WbJ.turn {W : World} {H : List Value} {B2 B3 B4 B5 n nb g c : Nat} {v2 v4 v5 : Value} {zs YS BY : List Int} {w : World} (h : WbJ W H B2 B3 B4 B5 n nb v2 (.slice (some ⟨g, 0, none⟩) nb c) v4 v5 zs YS BY w) (h0 : W.heap.size < B3) (h2 : ∀ k, v2.ownBlock = some k → k < B3) (h3 : g < B4) (h45 : B4 ≤ B5) (k : Nat) (x : Int) :
    WbJ W H B2 B3 B4 B5 n nb v2 (.slice (some ⟨g, 0, none⟩) nb c) v4 v5 zs (YS.set k x) BY (w.setCell ⟨g, k, none⟩ (.int .u8 x)) := by
  have hg : B3 ≤ g := (h.r3.lt g rfl).1
  have kk : Kept (fun j => j = g) w (w.setCell ⟨g, k, none⟩ (.int .u8 x)) := (Kept.refl (fun j => j = g) w).setCell (p := ⟨g, k, none⟩) (fun _ => rfl) _
  refine ⟨?_, Kept.owns h.r2 kk (fun j hj e => by have := h2 j hj; omega), by rw [List.map_set]; exact (h.r3.stored k _).1, Kept.owns h.r4 kk (fun j hj e => by have := (h.r4.lt j hj).1; omega), Kept.owns h.r5 kk (fun j hj e => by have := (h.r5.lt j hj).1; omega), h.old.setCell (p := ⟨g, k, none⟩) (by show W.heap.size ≤ g; omega) _⟩
  rw [Go.heap_setCell_other _ _ _ _ (by show W.heap.size ≠ g; omega)]; exact h.box

set_option maxHeartbeats 4000000 in
theorem pushes_any (H : List Value) (a : Option Addr) (n c : Nat) (zs : List Int) (W : World) (h : Hh H) (hn : zs.length = n) (h0 : Bs W a zs) (n0 : a = none → c = 0) :
    Calls Tryz.prog 15 #[.slice a n c, .agg H.toArray] W fun e w' => e = .returned (.bool true) ∧ Below W.heap.size W w' := by
  have H0 := Hid.mk' h0
  have N0 := Hid.mk' n0
  have HN := Hid.mk' hn
  have hln : n ≤ 140737488355328 := by rw [← hn]; exact h0.len
  have hh73 := Hid.mk' (hh_len h)
  obtain ⟨⟨a0, k0, k1⟩, -⟩ := hh_cells h
  have A0 := Hid.mk' a0
  have HP : Hid (∀ (x : Option Addr) (cx : Nat) (u : World), Bs u x zs → Calls Tryz.prog 20 #[.slice x n cx, .agg H.toArray] u fun e w' => ∃ v, e = .returned (.tuple #[v, .int .i64 (puE H zs)]) ∧ w'.ownsRow u.heap.size 5 1 v (puB H zs).length ((puB H zs).map (Value.int .u8)) ∧ Below u.heap.size u w') := Hid.mk' (fun x cx u hB => push_any H x n cx zs u h hn hB)
  have HR : Hid (∀ (x : Option Addr) (cx : Nat) (u : World), Bs u x zs → Calls Tryz.prog 36 #[.slice x n cx, .agg H.toArray] u fun e w' => ∃ v, e = .returned (.tuple #[v, .int .i64 (puE H zs)]) ∧ w'.ownsRow u.heap.size 5 1 v (puB H zs).length ((puB H zs).map (Value.int .u8)) ∧ Below u.heap.size u w') := Hid.mk' (fun x cx u hB => rpush_any H x n cx zs u h hn hB)
  have HC1 : Hid (∀ u, Calls Tryz.prog 11 #[.agg H.toArray] u fun e w' => e = .returned (.int .i64 (cE H)) ∧ Below u.heap.size u w') := Hid.mk' (fun u => check_any H u h)
  have HC2 : Hid (∀ u, Calls Tryz.prog 38 #[.agg H.toArray] u fun e w' => e = .returned (.int .i64 (cE H)) ∧ Below u.heap.size u w') := Hid.mk' (fun u => rchk_any H u h)
  have HS1 : Hid (∀ u, Calls Tryz.prog 14 #[.int .u8 (num H 0)] u fun e w' => e = .returned (.tuple #[.int .i64 (sz (num H 0) : Nat), .int .i64 (szE (num H 0))]) ∧ Below u.heap.size u w') := Hid.mk' (fun u => wsize_any _ u k0 k1)
  have HS2 : Hid (∀ u, Calls Tryz.prog 37 #[.int .u8 (num H 0)] u fun e w' => e = .returned (.tuple #[.int .i64 (sz (num H 0) : Nat), .int .i64 (szE (num H 0))]) ∧ Below u.heap.size u w') := Hid.mk' (fun u => rsz_any _ u k0 k1)
  have BB : Hid (Bytes (puB H zs)) := Hid.mk' (puB_bytes h h0.bytes)
  have BL : (puB H zs).length ≤ 2048 := puB_most h h0.bytes
  obtain ⟨E, HE⟩ : ∃ E, Hid (puE H zs = E) := ⟨_, rfl⟩
  obtain ⟨BY, HBY⟩ : ∃ BY, Hid (puB H zs = BY) := ⟨_, rfl⟩
  obtain ⟨CK, HCK⟩ : ∃ CK, Hid (cE H = CK) := ⟨_, rfl⟩
  rw [HE.out, HBY.out] at HP HR
  rw [HCK.out] at HC1 HC2
  rw [HBY.out] at BB BL
  obtain ⟨nb, HNB⟩ : ∃ nb, Hid (BY.length = nb) := ⟨_, rfl⟩
  rw [HNB.out] at HP HR BL
  generalize num H 0 = k at *
  obtain ⟨S, HS⟩ : ∃ S, Hid (sz k = S) := ⟨_, rfl⟩
  obtain ⟨Z, HZ⟩ : ∃ Z, Hid (szE k = Z) := ⟨_, rfl⟩
  rw [HS.out, HZ.out] at HS1 HS2
  have J1 := Hid.mk' (BJ.first W H)
  clear h h0 n0 hn a0 k0 k1 HE HBY HCK HS HZ
  go_enter Tryz.func15, Tryz.ntmps15
  go_wp2_with fail
  refine (copy_at a n c zs _ HN.out (H0.out.below J1.out.old) N0.out).mono ?_
  rintro e w2 ⟨v, rfl, hown, b2⟩
  obtain ⟨a2, c2, rfl, s2, hc2, -⟩ := K05.own_bs hown HN.out H0.out.bytes H0.out.len
  have J2 := Hid.mk' (J1.out.below b2)
  have S2 := Hid.mk' (ownsRow_base hown J1.out.old.size)
  have D2 : Hid (∀ k, (Value.slice a2 n c2).ownBlock = some k → k < w2.heap.size) := Hid.mk' (fun k hk => (hown.lt k hk).2)
  have hW2 : Hid (W.heap.size < w2.heap.size) := Hid.mk' (Array.getElem?_eq_some_iff.1 J2.out.hd).1
  clear hown s2 b2 hc2 J1
  go_wp2_with (first | refine wpList_load_mid rfl 46 _ rfl W.heap.size 0 rfl H _ (range_block J2.out.hd) Tryz.underlying46 rfl (by rw [hh73.out]; exact info_hh) ?_)
  refine (HP.out a2 c2 _ (bs_ro S2.out HN.out H0.out.bytes H0.out.len)).mono ?_
  rintro e w3 ⟨v3, rfl, hown, b3⟩
  obtain ⟨a3, c3, rfl, s3, hc3, hn3⟩ := K05.own_bs hown HNB.out BB.out (by rw [HNB.out]; omega)
  have J3 := Hid.mk' (J2.out.below b3)
  have O3 := Hid.mk' hown
  have S3 := Hid.mk' (Kept.owns S2.out (Kept.of_below (S := fun _ => False) b3) (fun _ _ h => h))
  have D3 : Hid (∀ k, (Value.slice a3 nb c3).ownBlock = some k → k < w3.heap.size) := Hid.mk' (fun k hk => (hown.lt k hk).2)
  clear hown b3 hc3 hn3 s3 S2 J2
  go_wp2_with (first | refine wpList_load_mid rfl 46 _ rfl W.heap.size 0 rfl H _ (range_block J3.out.hd) Tryz.underlying46 rfl (by rw [hh73.out]; exact info_hh) ?_)
  refine (HP.out a2 c2 _ (bs_ro S3.out HN.out H0.out.bytes H0.out.len)).mono ?_
  rintro e w4 ⟨v4, rfl, hown, b4⟩
  obtain ⟨a4, c4, rfl, s4, -, -⟩ := K05.own_bs hown HNB.out BB.out (by rw [HNB.out]; omega)
  have J4 := Hid.mk' (J3.out.below b4)
  have O4 := Hid.mk' (Kept.owns O3.out (Kept.of_below (S := fun _ => False) b4) (fun _ _ h => h))
  have P4 := Hid.mk' hown
  have S4 := Hid.mk' (Kept.owns S3.out (Kept.of_below (S := fun _ => False) b4) (fun _ _ h => h))
  have h34 : Hid (w3.heap.size ≤ w4.heap.size) := Hid.mk' b4.size
  clear hown b4 s4 S3 O3 J3 HP
  go_wp2_with (first | refine wpList_load_mid rfl 46 _ rfl W.heap.size 0 rfl H _ (range_block J4.out.hd) Tryz.underlying46 rfl (by rw [hh73.out]; exact info_hh) ?_)
  refine (HR.out a c _ (H0.out.below J4.out.old)).mono ?_
  rintro e w5 ⟨v5, rfl, hown, b5⟩
  obtain ⟨a5, c5, rfl, s5, -, -⟩ := K05.own_bs hown HNB.out BB.out (by rw [HNB.out]; omega)
  have J5 : Hid (WbJ W H W.heap.size w2.heap.size w3.heap.size w4.heap.size n nb (.slice a2 n c2) (.slice a3 nb c3) (.slice a4 nb c4) (.slice a5 nb c5) zs BY BY w5) := Hid.mk' ⟨(J4.out.below b5).hd, Kept.owns S4.out (Kept.of_below (S := fun _ => False) b5) (fun _ _ h => h), Kept.owns O4.out (Kept.of_below (S := fun _ => False) b5) (fun _ _ h => h), Kept.owns P4.out (Kept.of_below (S := fun _ => False) b5) (fun _ _ h => h), hown, (J4.out.below b5).old⟩
  clear hown b5 s5 S4 O4 P4 J4 HR
  have c5' : w5.cell? ⟨W.heap.size, 0, none⟩ = some (.int .u8 k) := by rw [cell_of_row w5 W.heap.size 0 _ _ _ J5.out.box, List.getElem?_toArray]; exact A0.out
  go_wp2_with fail
  refine (HS1.out _).mono ?_
  rintro e w6 ⟨rfl, b6⟩
  have J6 := Hid.mk' (J5.out.below b6)
  have c6' : w6.cell? ⟨W.heap.size, 0, none⟩ = some (.int .u8 k) := by rw [cell_of_row w6 W.heap.size 0 _ _ _ J6.out.box, List.getElem?_toArray]; exact A0.out
  clear b6 J5 HS1 c5'
  go_wp2_with fail
  refine (HS2.out _).mono ?_
  rintro e w7 ⟨rfl, b7⟩
  have J7 := Hid.mk' (J6.out.below b7)
  clear b7 J6 HS2 c6' A0
  have EQB : Hid (∀ (u : World) (x y : Option Addr) (cx cy : Nat), Bs u x BY → Bs u y BY → Calls Tryz.prog 9 #[.slice x nb cx, .slice y nb cy] u fun e w' => e = .returned (.bool true) ∧ Dr u w') := Hid.mk' (fun u x y cx cy h1 h2 => by have := eq_at x y nb nb cx cy BY BY u HNB.out HNB.out h1 h2; rwa [show decide (BY = BY) = true by simp] at this)
  have EQZ : Hid (∀ (u : World) (x y : Option Addr) (cx cy : Nat), Bs u x zs → Bs u y zs → Calls Tryz.prog 9 #[.slice x n cx, .slice y n cy] u fun e w' => e = .returned (.bool true) ∧ Dr u w') := Hid.mk' (fun u x y cx cy h1 h2 => by have := eq_at x y n n cx cy zs zs u HN.out HN.out h1 h2; rwa [show decide (zs = zs) = true by simp] at this)
  go_upto_region 7 with fail
  refine wp_region_held_drew (S := WbJ W H W.heap.size w2.heap.size w3.heap.size w4.heap.size n nb (.slice a2 n c2) (.slice a3 nb c3) (.slice a4 nb c4) (.slice a5 nb c5) zs BY BY) (by kernel_rfl) (J7.out.below ((Below.refl _ _).drew)) (fun hHeld => ?_)
  change wpAnyH _ _ _ _ _ 26 #[false, false, false, false, false, false, false, false, false, false, false, false, false, false, false, false, false, false, false, false, false, false, false, false, false, false] _ _
  refine held_take 0 49 (.agg H.toArray) rfl rfl (by kernel_rfl) (by kernel_rfl) (by kernel_rfl) (fun _ _ _ h => h) (yieldsIf_load_mid (by rfl) 46 _ rfl W.heap.size 0 rfl H _ (fun u hu => range_block hu.box) Tryz.underlying46 rfl (by rw [hh73.out]; exact info_hh)) hHeld ?_
  simp only [Act.put, List.setIfInBounds_toArray, List.set_cons_zero, List.set_cons_succ]
  refine held_take 2 51 (.agg H.toArray) rfl rfl (by kernel_rfl) (by kernel_rfl) (by kernel_rfl) (fun _ _ _ h => h) (yieldsIf_load_mid (by rfl) 46 _ rfl W.heap.size 0 rfl H _ (fun u hu => range_block hu.box) Tryz.underlying46 rfl (by rw [hh73.out]; exact info_hh)) hHeld ?_
  simp only [Act.put, List.setIfInBounds_toArray, List.set_cons_zero, List.set_cons_succ]
  refine held_one 1 (by kernel_rfl) rfl (fun K hK => ?_)
  go_simp
  go_wp2_with (refine (HC1.out _).mono ?_; rintro e w8 ⟨rfl, bh8⟩)
  have h8 := hHeld.below bh8
  refine hK.out _ _ h8 (fun hHeld => ?_)
  clear hK K
  try simp only [List.setIfInBounds_toArray, List.set_cons_zero, List.set_cons_succ]
  refine held_one 3 (by kernel_rfl) rfl (fun K hK => ?_)
  go_simp
  go_wp2_with (refine (HC2.out _).mono ?_; rintro e w9 ⟨rfl, bh9⟩)
  have h9 := hHeld.below bh9
  refine hK.out _ _ h9 (fun hHeld => ?_)
  clear hK K
  try simp only [List.setIfInBounds_toArray, List.set_cons_zero, List.set_cons_succ]
  refine held_take 4 53 (.bool false) rfl rfl (by kernel_rfl) (by kernel_rfl) (by kernel_rfl) (fun _ _ _ h => h) (Or.inl ⟨by rfl, fun u hu => ?_⟩) hHeld ?_
  · go_simp
  simp only [Act.put, List.setIfInBounds_toArray, List.set_cons_zero, List.set_cons_succ]
  refine held_take 5 54 (.bool false) rfl rfl (by kernel_rfl) (by kernel_rfl) (by kernel_rfl) (fun _ _ _ h => h) (Or.inl ⟨by rfl, fun u hu => ?_⟩) hHeld ?_
  · go_simp
  simp only [Act.put, List.setIfInBounds_toArray, List.set_cons_zero, List.set_cons_succ]
  refine held_take 6 55 (.int .i64 S) rfl rfl (by kernel_rfl) (by kernel_rfl) (by kernel_rfl) (fun _ _ _ h => h) (Or.inl ⟨by rfl, fun u hu => ?_⟩) hHeld ?_
  · go_simp
  simp only [Act.put, List.setIfInBounds_toArray, List.set_cons_zero, List.set_cons_succ]
  refine held_take 7 56 (.int .i64 S) rfl rfl (by kernel_rfl) (by kernel_rfl) (by kernel_rfl) (fun _ _ _ h => h) (Or.inl ⟨by rfl, fun u hu => ?_⟩) hHeld ?_
  · go_simp
  simp only [Act.put, List.setIfInBounds_toArray, List.set_cons_zero, List.set_cons_succ]
  refine held_take 8 57 (.bool false) rfl rfl (by kernel_rfl) (by kernel_rfl) (by kernel_rfl) (fun _ _ _ h => h) (Or.inl ⟨by rfl, fun u hu => ?_⟩) hHeld ?_
  · go_simp
  simp only [Act.put, List.setIfInBounds_toArray, List.set_cons_zero, List.set_cons_succ]
  refine held_take 9 58 (.bool false) rfl rfl (by kernel_rfl) (by kernel_rfl) (by kernel_rfl) (fun _ _ _ h => h) (Or.inl ⟨by rfl, fun u hu => ?_⟩) hHeld ?_
  · go_simp
  simp only [Act.put, List.setIfInBounds_toArray, List.set_cons_zero, List.set_cons_succ]
  refine held_take 10 59 (.bool false) rfl rfl (by kernel_rfl) (by kernel_rfl) (by kernel_rfl) (fun _ _ _ h => h) (Or.inl ⟨by rfl, fun u hu => ?_⟩) hHeld ?_
  · go_simp
  simp only [Act.put, List.setIfInBounds_toArray, List.set_cons_zero, List.set_cons_succ]
  refine held_take 11 60 (.int .i64 Z) rfl rfl (by kernel_rfl) (by kernel_rfl) (by kernel_rfl) (fun _ _ _ h => h) (Or.inl ⟨by rfl, fun u hu => ?_⟩) hHeld ?_
  · go_simp
  simp only [Act.put, List.setIfInBounds_toArray, List.set_cons_zero, List.set_cons_succ]
  refine held_take 12 61 (.int .i64 Z) rfl rfl (by kernel_rfl) (by kernel_rfl) (by kernel_rfl) (fun _ _ _ h => h) (Or.inl ⟨by rfl, fun u hu => ?_⟩) hHeld ?_
  · go_simp
  simp only [Act.put, List.setIfInBounds_toArray, List.set_cons_zero, List.set_cons_succ]
  refine held_take 13 62 (.bool false) rfl rfl (by kernel_rfl) (by kernel_rfl) (by kernel_rfl) (fun _ _ _ h => h) (Or.inl ⟨by rfl, fun u hu => ?_⟩) hHeld ?_
  · go_simp
  simp only [Act.put, List.setIfInBounds_toArray, List.set_cons_zero, List.set_cons_succ]
  refine held_take 14 63 (.bool false) rfl rfl (by kernel_rfl) (by kernel_rfl) (by kernel_rfl) (fun _ _ _ h => h) (Or.inl ⟨by rfl, fun u hu => ?_⟩) hHeld ?_
  · go_simp
  simp only [Act.put, List.setIfInBounds_toArray, List.set_cons_zero, List.set_cons_succ]
  refine held_take 15 64 (.bool false) rfl rfl (by kernel_rfl) (by kernel_rfl) (by kernel_rfl) (fun _ _ _ h => h) (Or.inl ⟨by rfl, fun u hu => ?_⟩) hHeld ?_
  · go_simp
  simp only [Act.put, List.setIfInBounds_toArray, List.set_cons_zero, List.set_cons_succ]
  refine held_take 16 65 (.int .i64 E) rfl rfl (by kernel_rfl) (by kernel_rfl) (by kernel_rfl) (fun _ _ _ h => h) (Or.inl ⟨by rfl, fun u hu => ?_⟩) hHeld ?_
  · go_simp
  simp only [Act.put, List.setIfInBounds_toArray, List.set_cons_zero, List.set_cons_succ]
  refine held_take 17 66 (.int .i64 E) rfl rfl (by kernel_rfl) (by kernel_rfl) (by kernel_rfl) (fun _ _ _ h => h) (Or.inl ⟨by rfl, fun u hu => ?_⟩) hHeld ?_
  · go_simp
  simp only [Act.put, List.setIfInBounds_toArray, List.set_cons_zero, List.set_cons_succ]
  refine held_take 18 67 (.bool false) rfl rfl (by kernel_rfl) (by kernel_rfl) (by kernel_rfl) (fun _ _ _ h => h) (Or.inl ⟨by rfl, fun u hu => ?_⟩) hHeld ?_
  · go_simp
  simp only [Act.put, List.setIfInBounds_toArray, List.set_cons_zero, List.set_cons_succ]
  refine held_take 19 68 (.bool false) rfl rfl (by kernel_rfl) (by kernel_rfl) (by kernel_rfl) (fun _ _ _ h => h) (Or.inl ⟨by rfl, fun u hu => ?_⟩) hHeld ?_
  · go_simp
  simp only [Act.put, List.setIfInBounds_toArray, List.set_cons_zero, List.set_cons_succ]
  refine held_take 20 69 (.bool false) rfl rfl (by kernel_rfl) (by kernel_rfl) (by kernel_rfl) (fun _ _ _ h => h) (Or.inl ⟨by rfl, fun u hu => ?_⟩) hHeld ?_
  · go_simp
  simp only [Act.put, List.setIfInBounds_toArray, List.set_cons_zero, List.set_cons_succ]
  refine held_take 21 70 (.slice a3 nb c3) rfl rfl (by kernel_rfl) (by kernel_rfl) (by kernel_rfl) (fun _ _ _ h => h) (Or.inl ⟨by rfl, fun u hu => ?_⟩) hHeld ?_
  · go_simp
  simp only [Act.put, List.setIfInBounds_toArray, List.set_cons_zero, List.set_cons_succ]
  refine held_take 22 71 (.slice a5 nb c5) rfl rfl (by kernel_rfl) (by kernel_rfl) (by kernel_rfl) (fun _ _ _ h => h) (Or.inl ⟨by rfl, fun u hu => ?_⟩) hHeld ?_
  · go_simp
  simp only [Act.put, List.setIfInBounds_toArray, List.set_cons_zero, List.set_cons_succ]
  refine held_one 23 (by kernel_rfl) rfl (fun K hK => ?_)
  go_simp
  go_wp2_with (refine (EQB.out _ a3 a5 c3 c5 (bs_ro hHeld.r3 HNB.out BB.out (by rw [HNB.out]; omega)) (bs_ro hHeld.r5 HNB.out BB.out (by rw [HNB.out]; omega))).mono ?_; rintro e w10 ⟨rfl, d10⟩; have bh10 := d10.below w9.heap.size)
  have h10 := hHeld.below bh10
  refine hK.out _ _ h10 (fun hHeld => ?_)
  clear hK K
  try simp only [List.setIfInBounds_toArray, List.set_cons_zero, List.set_cons_succ]
  refine held_take 24 73 (.bool false) rfl rfl (by kernel_rfl) (by kernel_rfl) (by kernel_rfl) (fun _ _ _ h => h) (Or.inl ⟨by rfl, fun u hu => ?_⟩) hHeld ?_
  · go_simp
  simp only [Act.put, List.setIfInBounds_toArray, List.set_cons_zero, List.set_cons_succ]
  refine held_take 25 74 (.bool false) rfl rfl (by kernel_rfl) (by kernel_rfl) (by kernel_rfl) (fun _ _ _ h => h) (Or.inl ⟨by rfl, fun u hu => ?_⟩) hHeld ?_
  · go_simp
  simp only [Act.put, List.setIfInBounds_toArray, List.set_cons_zero, List.set_cons_succ]
  refine wpAnyH_done (by kernel_rfl) ?_ _
  have J9 := Hid.mk' hHeld
  clear hHeld h8 h9 h10 bh8 bh9 bh10 d10 J7 HC1 HC2
  go_wp2_with fail
  go_loopw [16] (fun i wr => ∃ (k : Nat) (YS : List Int), k ≤ nb ∧ i = .int .i64 k ∧ Hid (YS.length = nb) ∧ Hid (WbJ W H W.heap.size w2.heap.size w3.heap.size w4.heap.size n nb (.slice a2 n c2) (.slice a3 nb c3) (.slice a4 nb c4) (.slice a5 nb c5) zs YS BY wr)) (fun i _ => nb - (intOf i).toNat)
  case atStart => exact ⟨0, BY, Nat.zero_le _, rfl, HNB, J9⟩
  case round =>
    clear J9
    obtain ⟨k, YS, hk, rfl, HYL, J⟩ := hrel
    by_cases hlt : k < nb
    · obtain ⟨g, c', e3, -⟩ := own_some J.out.r3 (by omega)
      cases e3
      have hsp : (k : Int) < (nb : Int) := by omega
      have cc : wr.cell? ⟨g, k, none⟩ = some (.int .u8 (YS.getD k 0)) := by
        rw [J.out.r3.cellAt k (by simp; omega)]
        simp [HYL.out, hlt]
      have ff := J.out.r3.frozenAt k
      generalize YS.getD k 0 = x at cc
      go_wp2_with fail
      go_roundw
      case rel => exact ⟨k + 1, YS.set k (bits .xor .u8 x 90), hlt, by go_num, Hid.mk' (by rw [List.length_set]; exact HYL.out), Hid.mk' (J.out.turn hW2.out D2.out (D3.out g rfl) h34.out k _)⟩
      case measure => simp [intOf]; omega
    · go_wp2_with fail
      refine (EQB.out _ a4 a5 c4 c5 (bs_ro J.out.r4 HNB.out BB.out (by rw [HNB.out]; omega)) (bs_ro J.out.r5 HNB.out BB.out (by rw [HNB.out]; omega))).mono ?_
      rintro e w10 ⟨rfl, d10⟩
      have J10 := Hid.mk' (J.out.below (d10.below _))
      clear d10 J
      go_wp2_with fail
      refine (EQZ.out _ a2 a c2 c (bs_ro J10.out.r2 HN.out H0.out.bytes H0.out.len) (H0.out.below J10.out.old)).mono ?_
      rintro e w11 ⟨rfl, d11⟩
      have J11 := Hid.mk' (J10.out.below (d11.below _))
      clear d11 J10
      go_wp2_with fail
      refine (wawake w11).mono ?_
      rintro e w12 ⟨rfl, b12⟩
      have J12 := Hid.mk' (J11.out.below b12)
      clear b12 J11
      go_wp2_with fail
      go_ret
      exact ⟨rfl, J12.out.old⟩

theorem walkWrapPushes (a : Option Addr) (c : Nat) (zs : List Int) (m1 : sh46.M) (W : World) (h0 : Bs W a zs) (n0 : (a = none → c = 0) ∧ zs.length ≤ c) (o1 : sh46.ok W m1) :
    Calls Tryz.prog 15 #[.slice a zs.length c, .agg (sh46.cs m1).toArray] W fun e w' => e = .returned (.bool true) ∧ Below W.heap.size W w' :=
  pushes_any (sh46.cs m1) a zs.length c zs W (whh_open W m1 o1) rfl h0 n0.1
end Go.Proofs.YtednmdkjhiihcaaGreat
