/- Contracts of share's calls at a handle that stands: Clone, Free, Count, Len, Bytes, Load, part, Own, Store. -/
import Derived.Test.YtbinedhgjmfceaaHa
namespace Go.Proofs.Ytbinedhgjmfceaa
open Go.ChangeShapes Go.WideShapes Go.ChangeAt Go.RowKit

theorem kept_set (w : World) (c i : Nat) (v : Value) : Kept (fun j => j = c) w (w.setCell ⟨c, i, none⟩ v) := (Kept.refl (fun j => j = c) w).setCell (p := ⟨c, i, none⟩) (fun _ => rfl) v

theorem Cm.set {w : World} {c p n : Nat} (h : Cm w c p n) (x : Int) (m : Nat) (hx : x = m) : Cm (w.setCell ⟨c, 1, none⟩ (.int .i64 x)) c p m := by
  subst hx
  unfold Cm at h ⊢
  rw [Go.heap_setCell_same _ c 1 _ _ _ h]
  simp
theorem Cm.kept {w w' : World} {c p n : Nat} {S : Nat → Prop} (h : Cm w c p n) (k : Kept S w w') (hs : ¬ S c) : Cm w' c p n := by
  have := k.block c h.cells.2.2.2.2 hs
  unfold Cm at h ⊢
  rw [this]; exact h
theorem Hd.kept {w w' : World} {s c : Nat} {S : Nat → Prop} (h : Hd w s c) (k : Kept S w w') (hs : ¬ S s) : Hd w' s c := by
  have := k.block s h.cells.2.2.2.2 hs
  unfold Hd at h ⊢
  rw [this]; exact h
theorem Cm.dr {w w' : World} {c p n : Nat} (h : Cm w c p n) (d : Dr w w') : Cm w' c p n := h.kept (Kept.of_below (S := fun _ => False) (d.below _)) (fun h => h)
theorem Hd.dr {w w' : World} {s c : Nat} (h : Hd w s c) (d : Dr w w') : Hd w' s c := h.kept (Kept.of_below (S := fun _ => False) (d.below _)) (fun h => h)
theorem Hd.set {w : World} {s c : Nat} (h : Hd w s c) (d : Nat) : Hd (w.setCell ⟨s, 0, none⟩ (.pointer (some ⟨d, 0, none⟩))) s d := by
  unfold Hd at h ⊢
  rw [Go.heap_setCell_same _ s 0 _ _ _ h]
  simp
theorem Hd.give {w : World} {s c : Nat} (h : Hd w s c) : Gn ((w.setCell ⟨s, 0, none⟩ (.pointer none)).setCell ⟨s, 1, none⟩ (.bool true)) s := by
  unfold Hd at h
  unfold Gn
  rw [Go.heap_setCell_same _ s 1 _ _ _ (Go.heap_setCell_same _ s 0 _ _ _ h)]
  simp

set_option maxHeartbeats 400000 in
theorem clone_ok (s c p n : Nat) (w : World) (h : Hd w s c) (k : Cm w c p n) (hn : n ≤ 1000000) :
    Calls Try.prog 15 #[.pointer (some ⟨s, 0, none⟩)] w fun e w' => ∃ t, e = .returned (.tuple #[.pointer (some ⟨t, 0, none⟩), .int .i64 0]) ∧ w.heap.size ≤ t ∧ Hd w' t c ∧ Cm w' c p (n + 1) ∧ Kept (fun i => i = c) w w' := by
  have key := standing_ok s c w h
  obtain ⟨h0, h1, f0, f1, hs⟩ := h.cells
  obtain ⟨k0, k1, g0, g1, hc⟩ := k.cells
  have hne := hd_cm_ne h k
  have HK := Hid.mk' k
  clear h k
  go_enter Try.func15, Try.ntmps15
  go_wp2_with fail
  refine key.mono ?_
  rintro e w1 ⟨rfl, rfl⟩
  clear key
  have HX : Hid (Cm (w.setCell ⟨c, 1, none⟩ (.int .i64 ((n : Int) + 1))) c p (n + 1)) := Cm.set HK.out _ _ (by omega)
  have HY : Hid (Kept (fun i => i = c) w (w.setCell ⟨c, 1, none⟩ (.int .i64 ((n : Int) + 1)))) := kept_set w c 1 _
  go_wp2_with fail
  go_ret2
  have hsz : (w.setCell ⟨c, 1, none⟩ (.int .i64 ((n : Int) + 1))).heap.size = w.heap.size := by simp [World.setCell]
  refine ⟨_, rfl, Nat.le_refl _, by rw [← hsz]; exact Go.heap_alloc_new _ _, HX.out.kept (Kept.of_below (S := fun _ => False) ((Below.refl _ _).alloc (Nat.le_refl _) _)) (fun h => h), HY.out.alloc _⟩

set_option maxHeartbeats 400000 in
theorem free_ok (s c p n : Nat) (w : World) (h : Hd w s c) (k : Cm w c p (n + 1)) (hn : n ≤ 1000000) :
    Calls Try.prog 19 #[.pointer (some ⟨s, 0, none⟩)] w fun e w' => e = .returned (.int .i64 0) ∧ Gn w' s ∧ Cm w' c p n ∧ Kept (fun i => i = s ∨ i = c) w w' := by
  have key := standing_ok s c w h
  obtain ⟨h0, h1, f0, f1, hs⟩ := h.cells
  obtain ⟨k0, k1, g0, g1, hc⟩ := k.cells
  have hne := hd_cm_ne h k
  have hne' : ¬ c = s := fun e => hne e.symm
  rw [show ((n + 1 : Nat) : Int) = (n : Int) + 1 by omega] at k1
  have HX : Hid (Cm (w.setCell ⟨c, 1, none⟩ (.int .i64 (n : Int))) c p n) := Cm.set k _ _ rfl
  have HY : Hid (Kept (fun i => i = c) w (w.setCell ⟨c, 1, none⟩ (.int .i64 (n : Int)))) := kept_set w c 1 _
  have HZ : Hid (Hd (w.setCell ⟨c, 1, none⟩ (.int .i64 (n : Int))) s c) := h.kept HY.out hne
  clear h k
  go_enter Try.func19, Try.ntmps19
  go_wp2_with fail
  refine key.mono ?_
  rintro e w1 ⟨rfl, rfl⟩
  clear key
  go_wp2_with fail
  go_ret
  have hk : ∀ u : World, Kept (fun i => i = s) u ((u.setCell ⟨s, 0, none⟩ (.pointer none)).setCell ⟨s, 1, none⟩ (.bool true)) := fun u => (kept_set u s 0 _).trans (kept_set _ s 1 _)
  refine ⟨rfl, ?_, ?_, ?_⟩
  · exact HZ.out.give
  · exact HX.out.kept (hk _) hne'
  · exact (HY.out.mono (fun _ _ e => .inr e)).trans ((hk _).mono (fun _ _ e => .inl e))

set_option maxHeartbeats 400000 in
theorem count_ok (s c p n : Nat) (w : World) (h : Hd w s c) (k : Cm w c p n) :
    Calls Try.prog 21 #[.pointer (some ⟨s, 0, none⟩)] w fun e w' => e = .returned (.int .i64 n) ∧ w = w' := by
  have key := standing_ok s c w h
  obtain ⟨h0, h1, f0, f1, hs⟩ := h.cells
  obtain ⟨k0, k1, g0, g1, hc⟩ := k.cells
  clear h k
  go_enter Try.func21, Try.ntmps21
  go_wp2_with fail
  refine key.mono ?_
  rintro e w1 ⟨rfl, rfl⟩
  clear key
  go_wp2_with fail
  go_ret
  exact ⟨rfl, rfl⟩

set_option maxHeartbeats 400000 in
theorem slen_ok (s c p n g : Nat) (A B D : List Int) (m : Nat) (w : World) (h : Hd w s c) (k : Cm w c p n) (q : PkIs w p g A B D m) :
    Calls Try.prog 24 #[.pointer (some ⟨s, 0, none⟩)] w fun e w' => e = .returned (.int .i64 (B.length : Int)) ∧ Dr w w' := by
  have key := standing_ok s c w h
  have key2 := len_any p g A B D m w q
  obtain ⟨h0, h1, f0, f1, hs⟩ := h.cells
  obtain ⟨k0, k1, g0, g1, hc⟩ := k.cells
  clear h k q
  go_enter Try.func24, Try.ntmps24
  go_wp2_with fail
  refine key.mono ?_
  rintro e w1 ⟨rfl, rfl⟩
  clear key
  go_wp2_with fail
  refine key2.mono ?_
  rintro e w1 ⟨rfl, d1⟩
  clear key2
  go_wp2_with fail
  go_ret
  exact ⟨rfl, d1⟩

set_option maxHeartbeats 400000 in
theorem sbytes_ok (s c p n g : Nat) (A B D : List Int) (m : Nat) (w : World) (h : Hd w s c) (k : Cm w c p n) (q : PkIs w p g A B D m) :
    Calls Try.prog 18 #[.pointer (some ⟨s, 0, none⟩)] w fun e w' => ∃ v, e = .returned v ∧ w'.ownsRow w.heap.size 5 1 v B.length (B.map (Value.int .u8)) ∧ Below w.heap.size w w' := by
  have key := standing_ok s c w h
  have key2 := bytes_any p g A B D m w q
  obtain ⟨h0, h1, f0, f1, hs⟩ := h.cells
  obtain ⟨k0, k1, g0, g1, hc⟩ := k.cells
  clear h k q
  go_enter Try.func18, Try.ntmps18
  go_wp2_with fail
  refine key.mono ?_
  rintro e w1 ⟨rfl, rfl⟩
  clear key
  go_wp2_with fail
  refine key2.mono ?_
  rintro e w1 ⟨v, rfl, hv, hb⟩
  have HV := Hid.mk' hv
  clear key2 hv
  go_wp2_with fail
  go_ret
  exact ⟨v, rfl, HV.out, hb⟩

set_option maxHeartbeats 400000 in
theorem sload_ok (s c p n g : Nat) (A B D : List Int) (m : Nat) (x k : Int) (w : World) (h : Hd w s c) (kc : Cm w c p n) (q : PkIs w p g A B D m) (hx : -9223372036854775808 ≤ x) (hx' : x ≤ 9223372036854775807) :
    Calls Try.prog 23 #[.pointer (some ⟨s, 0, none⟩), .int .i64 x, .int .i64 k] w fun e w' => e = .returned (.tuple #[.int .u64 (ldE B x k), .int .i64 (askE B.length x k)]) ∧ Dr w w' := by
  have key := standing_ok s c w h
  have key2 := load_any p g A B D m x k w q hx hx'
  obtain ⟨h0, h1, f0, f1, hs⟩ := h.cells
  obtain ⟨k0, k1, g0, g1, hc⟩ := kc.cells
  clear h kc q
  generalize ldE B x k = V at *
  generalize askE B.length x k = E at *
  go_enter Try.func23, Try.ntmps23
  go_wp2_with fail
  refine key.mono ?_
  rintro e w1 ⟨rfl, rfl⟩
  clear key
  go_wp2_with fail
  refine key2.mono ?_
  rintro e w1 ⟨rfl, d1⟩
  clear key2
  go_wp2_with fail
  go_ret2
  exact ⟨rfl, d1⟩

/-- What is told of a handle behind parting: it has a group of its own, at c', with a packet at p' and g'. -/
structure Parted (w w' : World) (s c p n : Nat) (B : List Int) (c' p' g' : Nat) : Prop where
  newc : w.heap.size ≤ c'
  newp : w.heap.size ≤ p'
  newg : w.heap.size ≤ g'
  hd : Hd w' s c'
  cm : Cm w' c' p' 1
  pk : PkIs w' p' g' (List.replicate 64 0) B (List.replicate 64 0) 0
  old : Cm w' c p n
  kept : Kept (fun i => i = s ∨ i = c) w w'

set_option maxHeartbeats 400000 in
theorem part_one (s c p : Nat) (w : World) (h : Hd w s c) (k : Cm w c p 1) :
    Calls Try.prog 44 #[.pointer (some ⟨s, 0, none⟩)] w fun e w' => e = .returned (.int .i64 0) ∧ w = w' := by
  obtain ⟨h0, h1, f0, f1, hs⟩ := h.cells
  obtain ⟨k0, k1, g0, g1, hc⟩ := k.cells
  clear h k
  go_enter Try.func44, Try.ntmps44
  go_wp2_with fail
  go_ret
  exact ⟨rfl, rfl⟩

set_option maxHeartbeats 1000000 in
theorem part_many (s c p n g : Nat) (A B D : List Int) (m : Nat) (w : World) (h : Hd w s c) (k : Cm w c p (n + 2)) (q : PkIs w p g A B D m) (hn : n ≤ 1000000) :
    Calls Try.prog 44 #[.pointer (some ⟨s, 0, none⟩)] w fun e w' => ∃ c' p' g', e = .returned (.int .i64 0) ∧ Parted w w' s c p (n + 1) B c' p' g' := by
  have key2 := data_any p g A B D m w q
  obtain ⟨h0, h1, f0, f1, hs⟩ := h.cells
  obtain ⟨k0, k1, g0, g1, hc⟩ := k.cells
  have hne := hd_cm_ne h k
  have hne' : ¬ c = s := fun e => hne e.symm
  rw [show ((n + 2 : Nat) : Int) = (n : Int) + 2 by omega] at k1
  have H := Hid.mk' h
  have K := Hid.mk' k
  have Q := Hid.mk' q
  clear h k q
  go_enter Try.func44, Try.ntmps44
  go_wp2_with fail
  refine key2.mono ?_
  rintro e w1 ⟨rfl, d1⟩
  have D1 := Hid.mk' d1
  have hsz : w1.heap.size = w.heap.size := by rw [d1.heap]
  have HSZ := Hid.mk' hsz
  clear key2 d1 hsz
  go_wp2_with fail
  refine (slay_ok _ _ _ B w1 rfl (Q.out.dr D1.out).bs Q.out.most).mono ?_
  rintro e w2 ⟨x, rfl, hx, hcx, hpx, hbx⟩
  have H2 : Hid (Hd w2 s c) := (H.out.dr D1.out).kept (Kept.of_below (S := fun _ => False) hbx) (fun h => h)
  have K2 : Hid (Cm w2 c p (n + 2)) := (K.out.dr D1.out).kept (Kept.of_below (S := fun _ => False) hbx) (fun h => h)
  have CX := Hid.mk' hcx
  have PX := Hid.mk' hpx
  have BX := Hid.mk' hbx
  have BW : Hid (Below w.heap.size w w2) := (D1.out.below _).trans (by rw [← HSZ.out]; exact hbx)
  have XS : Hid (w.heap.size ≤ x) := by rw [← HSZ.out]; exact hx
  obtain ⟨h0', h1', f0', f1', hs'⟩ := H2.out.cells
  obtain ⟨k0', k1', g0', g1', hc'⟩ := K2.out.cells
  rw [show ((n + 2 : Nat) : Int) = (n : Int) + 2 by omega] at k1'
  clear hcx hpx hbx hx h0 h1 f0 f1 k0 k1 g0 g1
  go_wp2_with fail
  go_ret
  have e1 : Kept (fun i => i = c) w2 (w2.setCell ⟨c, 1, none⟩ (.int .i64 ((n : Int) + 2 - 1))) := kept_set w2 c 1 _
  have e2 := K2.out.set ((n : Int) + 2 - 1) (n + 1) (by omega)
  have e3 := H2.out.kept e1 hne
  have e4 : ∀ u : World, Kept (fun i => i = s) u (u.setCell ⟨s, 0, none⟩ (.pointer (some ⟨x, 0, none⟩))) := fun u => kept_set u s 0 _
  have e5 := (e1.mono (T := fun i => i = s ∨ i = c) (fun _ _ e => .inr e)).trans ((e4 _).mono (fun _ _ e => .inl e))
  have s1 := HSZ.out
  have s2 := XS.out
  have l1 : s < w.heap.size := hs
  have l2 : c < w.heap.size := hc
  refine ⟨x, w1.heap.size, w1.heap.size + 1, rfl, XS.out, by omega, by omega, e3.set x, ?_, ?_, ?_, ?_⟩
  · exact CX.out.kept e5 (fun e => by omega)
  · exact PX.out.kept e5 (fun e => by omega) (fun e => by omega)
  · exact e2.kept (e4 _) hne'
  · exact (Kept.of_below BW.out).trans (e5.mono (fun _ _ e => e))

set_option maxHeartbeats 400000 in
theorem sown_one (s c p : Nat) (w : World) (h : Hd w s c) (k : Cm w c p 1) :
    Calls Try.prog 22 #[.pointer (some ⟨s, 0, none⟩)] w fun e w' => e = .returned (.tuple #[.pointer (some ⟨p, 0, none⟩), .int .i64 0]) ∧ w = w' := by
  have key := standing_ok s c w h
  have key2 := part_one s c p w h k
  obtain ⟨h0, h1, f0, f1, hs⟩ := h.cells
  obtain ⟨k0, k1, g0, g1, hc⟩ := k.cells
  clear h k
  go_enter Try.func22, Try.ntmps22
  go_wp2_with fail
  refine key.mono ?_
  rintro e w1 ⟨rfl, rfl⟩
  clear key
  go_wp2_with fail
  refine key2.mono ?_
  rintro e w1 ⟨rfl, rfl⟩
  clear key2
  go_wp2_with fail
  go_ret2
  exact ⟨rfl, rfl⟩

set_option maxHeartbeats 400000 in
theorem sown_many (s c p n g : Nat) (A B D : List Int) (m : Nat) (w : World) (h : Hd w s c) (k : Cm w c p (n + 2)) (q : PkIs w p g A B D m) (hn : n ≤ 1000000) :
    Calls Try.prog 22 #[.pointer (some ⟨s, 0, none⟩)] w fun e w' => ∃ c' p' g', e = .returned (.tuple #[.pointer (some ⟨p', 0, none⟩), .int .i64 0]) ∧ Parted w w' s c p (n + 1) B c' p' g' := by
  have key := standing_ok s c w h
  have key2 := part_many s c p n g A B D m w h k q hn
  clear h k q
  go_enter Try.func22, Try.ntmps22
  go_wp2_with fail
  refine key.mono ?_
  rintro e w1 ⟨rfl, rfl⟩
  clear key
  go_wp2_with fail
  refine key2.mono ?_
  rintro e w1 ⟨c', p', g', rfl, hp⟩
  have HP := Hid.mk' hp
  obtain ⟨h0, h1, f0, f1, hs⟩ := hp.hd.cells
  obtain ⟨k0, k1, g0, g1, hc⟩ := hp.cm.cells
  clear key2 hp
  go_wp2_with fail
  go_ret2
  exact ⟨c', p', g', rfl, HP.out⟩

set_option maxHeartbeats 400000 in
theorem sstore_err (s c p n g : Nat) (A B D : List Int) (m : Nat) (x k v : Int) (w : World) (h : Hd w s c) (kc : Cm w c p n) (q : PkIs w p g A B D m) (hx : -9223372036854775808 ≤ x) (hx' : x ≤ 9223372036854775807) (he : askE B.length x k ≠ 0) :
    Calls Try.prog 20 #[.pointer (some ⟨s, 0, none⟩), .int .i64 x, .int .i64 k, .int .u64 v] w fun e w' => e = .returned (.int .i64 (askE B.length x k)) ∧ Dr w w' := by
  have key := sload_ok s c p n g A B D m x k w h kc q hx hx'
  have hne : (askE B.length x k != 0) = true := by simpa using he
  clear h kc q he
  generalize ldE B x k = V at *
  generalize askE B.length x k = E at *
  go_enter Try.func20, Try.ntmps20
  go_wp2_with fail
  refine key.mono ?_
  rintro e w1 ⟨rfl, d1⟩
  clear key
  go_wp2_with fail
  go_ret
  exact ⟨rfl, d1⟩

set_option maxHeartbeats 400000 in
theorem sstore_one (s c p g : Nat) (A B D : List Int) (m : Nat) (x k v : Int) (w : World) (h : Hd w s c) (kc : Cm w c p 1) (q : PkIs w p g A B D m) (hx : -9223372036854775808 ≤ x) (hx' : x ≤ 9223372036854775807) (v0 : 0 ≤ v) (v1 : v ≤ 18446744073709551615) (he : askE B.length x k = 0) :
    Calls Try.prog 20 #[.pointer (some ⟨s, 0, none⟩), .int .i64 x, .int .i64 k, .int .u64 v] w fun e w' => e = .returned (.int .i64 0) ∧ PkIs w' p g A (stE B x k v) D m ∧ Kept (fun i => i = g) w w' := by
  have key := sload_ok s c p 1 g A B D m x k w h kc q hx hx'
  rw [he] at key
  have H := Hid.mk' h
  have K := Hid.mk' kc
  have Q := Hid.mk' q
  have HE := Hid.mk' he
  clear h kc q he
  generalize ldE B x k = V at *
  go_enter Try.func20, Try.ntmps20
  go_wp2_with fail
  refine key.mono ?_
  rintro e w1 ⟨rfl, d1⟩
  have D1 := Hid.mk' d1
  clear key d1
  go_wp2_with fail
  refine (part_one s c p w1 (H.out.dr D1.out) (K.out.dr D1.out)).mono ?_
  rintro e w2 ⟨rfl, rfl⟩
  obtain ⟨h0, h1, f0, f1, hs⟩ := (H.out.dr D1.out).cells
  obtain ⟨k0, k1, g0, g1, hc⟩ := (K.out.dr D1.out).cells
  have key3 := store_any p g A B D m x k v w1 (Q.out.dr D1.out) hx hx' v0 v1
  rw [HE.out] at key3
  go_wp2_with fail
  refine key3.mono ?_
  rintro e w3 ⟨rfl, h3, h4⟩
  have H3 := Hid.mk' h3
  have H4 := Hid.mk' h4
  clear h3 h4 key3
  go_wp2_with fail
  go_ret
  exact ⟨rfl, H3.out, (Kept.of_below (D1.out.below _)).trans H4.out⟩

set_option maxHeartbeats 400000 in
theorem sstore_many (s c p n g : Nat) (A B D : List Int) (m : Nat) (x k v : Int) (w : World) (h : Hd w s c) (kc : Cm w c p (n + 2)) (q : PkIs w p g A B D m) (hn : n ≤ 1000000) (hx : -9223372036854775808 ≤ x) (hx' : x ≤ 9223372036854775807) (v0 : 0 ≤ v) (v1 : v ≤ 18446744073709551615) (he : askE B.length x k = 0) :
    Calls Try.prog 20 #[.pointer (some ⟨s, 0, none⟩), .int .i64 x, .int .i64 k, .int .u64 v] w fun e w' => e = .returned (.int .i64 0) ∧ ∃ w1 w2 c' p' g', Dr w w1 ∧ Parted w1 w2 s c p (n + 1) B c' p' g' ∧ PkIs w' p' g' (List.replicate 64 0) (stE B x k v) (List.replicate 64 0) 0 ∧ Kept (fun i => i = g') w2 w' := by
  have key := sload_ok s c p (n + 2) g A B D m x k w h kc q hx hx'
  rw [he] at key
  have H := Hid.mk' h
  have K := Hid.mk' kc
  have Q := Hid.mk' q
  have HE := Hid.mk' he
  clear h kc q he
  generalize ldE B x k = V at *
  go_enter Try.func20, Try.ntmps20
  go_wp2_with fail
  refine key.mono ?_
  rintro e w1 ⟨rfl, d1⟩
  have D1 := Hid.mk' d1
  clear key d1
  go_wp2_with fail
  refine (part_many s c p n g A B D m w1 (H.out.dr D1.out) (K.out.dr D1.out) (Q.out.dr D1.out) hn).mono ?_
  rintro e w2 ⟨c', p', g', rfl, hp⟩
  have HP := Hid.mk' hp
  obtain ⟨h0, h1, f0, f1, hs⟩ := hp.hd.cells
  obtain ⟨k0, k1, g0, g1, hc⟩ := hp.cm.cells
  have key3 := store_any p' g' _ B _ 0 x k v w2 hp.pk hx hx' v0 v1
  rw [HE.out] at key3
  clear hp
  go_wp2_with fail
  refine key3.mono ?_
  rintro e w3 ⟨rfl, h3, h4⟩
  have H3 := Hid.mk' h3
  have H4 := Hid.mk' h4
  clear h3 h4 key3
  go_wp2_with fail
  go_ret
  exact ⟨rfl, w1, w2, c', p', g', D1.out, HP.out, H3.out, H4.out⟩
end Go.Proofs.Ytbinedhgjmfceaa
