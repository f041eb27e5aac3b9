/- The document's handles (sallyportref04) in memory (RHd, RCm, RGn); contracts of its calls, handle by handle. -/
import Derived.Test.YtbinedhgjmfceaaHb
import Derived.Test.YtbinedhgjmfceaaPk
import Derived.Deep.RegionWith
namespace Go.Proofs.Ytbinedhgjmfceaa
open Go.ChangeShapes Go.WideShapes Go.ChangeAt Go.RowKit

def RHd (w : World) (s c : Nat) : Prop := w.heap[s]? = some (.cells #[.pointer (some ⟨c, 0, none⟩), .bool false] 79 (0, 0))
def RGn (w : World) (s : Nat) : Prop := ∃ u, w.heap[s]? = some (.cells #[u, .bool true] 79 (0, 0))
def RCm (w : World) (c p n : Nat) : Prop := w.heap[c]? = some (.cells #[.pointer (some ⟨p, 0, none⟩), .int .i64 n] 77 (0, 0))

theorem RHd.cells {w : World} {s c : Nat} (h : RHd w s c) : w.cell? ⟨s, 0, none⟩ = some (.pointer (some ⟨c, 0, none⟩)) ∧ w.cell? ⟨s, 1, none⟩ = some (.bool false) ∧ w.frozen? ⟨s, 0, none⟩ = false ∧ w.frozen? ⟨s, 1, none⟩ = false ∧ s < w.heap.size :=
  ⟨cell_of_row w s 0 _ _ _ h, cell_of_row w s 1 _ _ _ h, frozen_of_row w s 0 _ _ h, frozen_of_row w s 1 _ _ h, (Array.getElem?_eq_some_iff.1 h).1⟩
theorem RCm.cells {w : World} {c p n : Nat} (h : RCm w c p n) : w.cell? ⟨c, 0, none⟩ = some (.pointer (some ⟨p, 0, none⟩)) ∧ w.cell? ⟨c, 1, none⟩ = some (.int .i64 n) ∧ w.frozen? ⟨c, 0, none⟩ = false ∧ w.frozen? ⟨c, 1, none⟩ = false ∧ c < w.heap.size :=
  ⟨cell_of_row w c 0 _ _ _ h, cell_of_row w c 1 _ _ _ h, frozen_of_row w c 0 _ _ h, frozen_of_row w c 1 _ _ h, (Array.getElem?_eq_some_iff.1 h).1⟩
theorem rhd_cm_ne {w : World} {s c c' p n : Nat} (h : RHd w s c') (k : RCm w c p n) : s ≠ c := by
  intro e; subst e; unfold RHd at h; unfold RCm at k; rw [h] at k
  simp only [Option.some.injEq, Obj.cells.injEq] at k; exact absurd k.2.1 (by decide)
theorem RCm.set {w : World} {c p n : Nat} (h : RCm w c p n) (x : Int) (m : Nat) (hx : x = m) : RCm (w.setCell ⟨c, 1, none⟩ (.int .i64 x)) c p m := by
  subst hx
  unfold RCm at h ⊢
  rw [Go.heap_setCell_same _ c 1 _ _ _ h]
  simp
theorem RCm.kept {w w' : World} {c p n : Nat} {S : Nat → Prop} (h : RCm w c p n) (k : Kept S w w') (hs : ¬ S c) : RCm w' c p n := by
  have := k.block c h.cells.2.2.2.2 hs
  unfold RCm at h ⊢
  rw [this]; exact h
theorem RHd.kept {w w' : World} {s c : Nat} {S : Nat → Prop} (h : RHd w s c) (k : Kept S w w') (hs : ¬ S s) : RHd w' s c := by
  have := k.block s h.cells.2.2.2.2 hs
  unfold RHd at h ⊢
  rw [this]; exact h
theorem RCm.dr {w w' : World} {c p n : Nat} (h : RCm w c p n) (d : Dr w w') : RCm w' c p n := h.kept (Kept.of_below (S := fun _ => False) (d.below _)) (fun h => h)
theorem RHd.dr {w w' : World} {s c : Nat} (h : RHd w s c) (d : Dr w w') : RHd w' s c := h.kept (Kept.of_below (S := fun _ => False) (d.below _)) (fun h => h)
theorem RHd.set {w : World} {s c : Nat} (h : RHd w s c) (d : Nat) : RHd (w.setCell ⟨s, 0, none⟩ (.pointer (some ⟨d, 0, none⟩))) s d := by
  unfold RHd at h ⊢
  rw [Go.heap_setCell_same _ s 0 _ _ _ h]
  simp
theorem RHd.give {w : World} {s c : Nat} (h : RHd w s c) : RGn (w.setCell ⟨s, 1, none⟩ (.bool true)) s := by
  unfold RHd at h
  unfold RGn
  refine ⟨.pointer (some ⟨c, 0, none⟩), ?_⟩
  rw [Go.heap_setCell_same _ s 1 _ _ _ h]
  simp
theorem RGn.dr {w w' : World} {s : Nat} (h : RGn w s) (d : Dr w w') : RGn w' s := by
  obtain ⟨u, h⟩ := h
  exact ⟨u, by rw [d.heap]; exact h⟩
theorem RGn.cell {w : World} {s : Nat} (h : RGn w s) : w.cell? ⟨s, 1, none⟩ = some (.bool true) := by
  obtain ⟨u, h⟩ := h
  exact cell_of_row w s 1 _ _ _ h

set_option maxHeartbeats 400000 in
theorem rclone_gone (s : Nat) (w : World) (h : RGn w s) :
    Calls Try.prog 26 #[.pointer (some ⟨s, 0, none⟩)] w fun e w' => e = .returned (.tuple #[.pointer none, .int .i64 40]) ∧ w = w' := by
  have h1 := h.cell
  clear h
  go_enter Try.func26, Try.ntmps26
  go_wp2_with fail
  go_ret2
  exact ⟨rfl, rfl⟩
set_option maxHeartbeats 400000 in
theorem rfree_gone (s : Nat) (w : World) (h : RGn w s) :
    Calls Try.prog 27 #[.pointer (some ⟨s, 0, none⟩)] w fun e w' => e = .returned (.int .i64 40) ∧ w = w' := by
  have h1 := h.cell
  clear h
  go_enter Try.func27, Try.ntmps27
  go_wp2_with fail
  go_ret
  exact ⟨rfl, rfl⟩
set_option maxHeartbeats 400000 in
theorem rcount_gone (s : Nat) (w : World) (h : RGn w s) :
    Calls Try.prog 40 #[.pointer (some ⟨s, 0, none⟩)] w fun e w' => e = .returned (.int .i64 0) ∧ w = w' := by
  have h1 := h.cell
  clear h
  go_enter Try.func40, Try.ntmps40
  go_wp2_with fail
  go_ret
  exact ⟨rfl, rfl⟩
set_option maxHeartbeats 400000 in
theorem rslen_gone (s : Nat) (w : World) (h : RGn w s) :
    Calls Try.prog 39 #[.pointer (some ⟨s, 0, none⟩)] w fun e w' => e = .returned (.int .i64 0) ∧ w = w' := by
  have h1 := h.cell
  clear h
  go_enter Try.func39, Try.ntmps39
  go_wp2_with fail
  go_ret
  exact ⟨rfl, rfl⟩
set_option maxHeartbeats 400000 in
theorem rsbytes_gone (s : Nat) (w : World) (h : RGn w s) :
    Calls Try.prog 38 #[.pointer (some ⟨s, 0, none⟩)] w fun e w' => e = .returned (.slice none 0 0) ∧ w = w' := by
  have h1 := h.cell
  clear h
  go_enter Try.func38, Try.ntmps38
  go_wp2_with fail
  go_ret
  exact ⟨rfl, rfl⟩
set_option maxHeartbeats 400000 in
theorem rsown_gone (s : Nat) (w : World) (h : RGn w s) :
    Calls Try.prog 30 #[.pointer (some ⟨s, 0, none⟩)] w fun e w' => e = .returned (.tuple #[.pointer none, .int .i64 40]) ∧ w = w' := by
  have h1 := h.cell
  clear h
  go_enter Try.func30, Try.ntmps30
  go_wp2_with fail
  go_ret2
  exact ⟨rfl, rfl⟩
set_option maxHeartbeats 400000 in
theorem rsload_gone (s : Nat) (x k : Int) (w : World) (h : RGn w s) :
    Calls Try.prog 28 #[.pointer (some ⟨s, 0, none⟩), .int .i64 x, .int .i64 k] w fun e w' => e = .returned (.tuple #[.int .u64 0, .int .i64 40]) ∧ w = w' := by
  have h1 := h.cell
  clear h
  go_enter Try.func28, Try.ntmps28
  go_wp2_with fail
  go_ret2
  exact ⟨rfl, rfl⟩
set_option maxHeartbeats 400000 in
theorem rsstore_gone (s : Nat) (x k v : Int) (w : World) (h : RGn w s) :
    Calls Try.prog 29 #[.pointer (some ⟨s, 0, none⟩), .int .i64 x, .int .i64 k, .int .u64 v] w fun e w' => e = .returned (.int .i64 40) ∧ w = w' := by
  have h1 := h.cell
  clear h
  go_enter Try.func29, Try.ntmps29
  go_wp2_with fail
  go_ret
  exact ⟨rfl, rfl⟩

set_option maxHeartbeats 400000 in
theorem rmoves_any (base q : Nat) (bv : Value) (B : List Int) (a d m : Nat) (w : World) (h : RfIs w base q bv B a d m) :
    Calls Try.prog 32 #[.pointer (some ⟨q, 0, none⟩)] w fun x w' => x = .returned (.int .i64 m) ∧ w = w' := by
  have q0 := h.cells.2.2.2.1
  clear h
  go_enter Try.func32, Try.ntmps32
  go_wp2_with fail
  go_ret
  exact ⟨rfl, rfl⟩
set_option maxHeartbeats 400000 in
theorem rlen_any (base q : Nat) (bv : Value) (B : List Int) (a d m : Nat) (w : World) (h : RfIs w base q bv B a d m) :
    Calls Try.prog 58 #[.pointer (some ⟨q, 0, none⟩)] w fun x w' => x = .returned (.int .i64 (B.length : Int)) ∧ w = w' := by
  obtain ⟨x, c, rfl, _, _⟩ := h.bs
  have q0 := h.cells.1
  clear h
  go_enter Try.func58, Try.ntmps58
  go_wp2_with fail
  go_ret
  exact ⟨rfl, rfl⟩
set_option maxHeartbeats 400000 in
theorem rbytes_any (base q : Nat) (bv : Value) (B : List Int) (a d m : Nat) (w : World) (h : RfIs w base q bv B a d m) :
    Calls Try.prog 57 #[.pointer (some ⟨q, 0, none⟩)] w fun e w' => ∃ v, e = .returned v ∧ w'.ownsRow w.heap.size 5 1 v B.length (B.map (Value.int .u8)) ∧ Below w.heap.size w w' := by
  obtain ⟨x, c, rfl, hb, hn⟩ := h.bs
  have q0 := h.cells.1
  have key := copy_any x c B w hb hn
  clear h hb hn
  go_enter Try.func57, Try.ntmps57
  go_wp2_with fail
  refine key.mono ?_
  rintro e w1 ⟨v, rfl, hv, hb⟩
  have HV := Hid.mk' hv
  clear key hv
  go_wp2_with fail
  go_ret
  exact ⟨v, rfl, HV.out, hb⟩

set_option maxHeartbeats 400000 in
theorem rsnew_long (a : Option Addr) (n c : Nat) (w : World) (hl : n ≤ 140737488355328) (h : 2048 < n) :
    Calls Try.prog 25 #[.slice a n c] w fun e w' => e = .returned (.tuple #[.pointer none, .int .i64 5]) ∧ w = w' := by
  go_enter Try.func25, Try.ntmps25
  go_wp2_with fail
  refine (rnew_long a n c 64 64 w hl h).mono ?_
  rintro e w1 ⟨rfl, rfl⟩
  go_wp2_with fail
  go_ret2
  exact ⟨rfl, rfl⟩

set_option maxHeartbeats 400000 in
theorem rsnew_ok (a : Option Addr) (n c : Nat) (zs : List Int) (w : World) (hn : zs.length = n) (hB : Bs w a zs) (ha : a = none → c = 0) (h : n ≤ 2048) :
    Calls Try.prog 25 #[.slice a n c] w fun e w' => ∃ s x q bv, e = .returned (.tuple #[.pointer (some ⟨s, 0, none⟩), .int .i64 0]) ∧ w.heap.size ≤ s ∧ w.heap.size ≤ x ∧ RHd w' s x ∧ RCm w' x q 1 ∧ RfIs w' w.heap.size q bv zs 64 64 0 ∧ Below w.heap.size w w' := by
  subst hn
  have key := rnew_ok a c zs 64 64 w hB ha h (by omega) (by omega)
  clear hB ha
  go_enter Try.func25, Try.ntmps25
  go_wp2_with fail
  refine key.mono ?_
  rintro e w1 ⟨q, bv, rfl, h3, h4⟩
  have H3 := Hid.mk' h3
  have H4 := Hid.mk' h4
  clear h3 h4 key
  go_wp2_with fail
  go_ret2
  have ba : Below w1.heap.size w1 (w1.alloc (.cells #[.pointer (some ⟨q, 0, none⟩), .int .i64 1] 77)) := (Below.refl _ _).alloc (Nat.le_refl _) _
  have k1 : RCm (w1.alloc (.cells #[.pointer (some ⟨q, 0, none⟩), .int .i64 1] 77)) w1.heap.size q 1 := Go.heap_alloc_new w1 _
  generalize hw2 : w1.alloc (.cells #[.pointer (some ⟨q, 0, none⟩), .int .i64 1] 77) = w2 at *
  have hs2 : w2.heap.size = w1.heap.size + 1 := by rw [← hw2]; simp
  have bb : Below w2.heap.size w2 (w2.alloc (.cells #[.pointer (some ⟨w1.heap.size, 0, none⟩), .bool false] 79)) := (Below.refl _ _).alloc (Nat.le_refl _) _
  have e4 := H4.out.size
  refine ⟨w2.heap.size, w1.heap.size, q, bv, by rw [hs2]; rfl, by omega, e4, Go.heap_alloc_new w2 _, k1.kept (Kept.of_below (S := fun _ => False) bb) (fun h => h), (H3.out.below ba).below bb, (H4.out.trans (ba.mono e4)).trans (bb.mono (by omega))⟩

set_option maxHeartbeats 400000 in
theorem rclone_ok (s c p n : Nat) (w : World) (h : RHd w s c) (k : RCm w c p n) (hn : n ≤ 1000000) :
    Calls Try.prog 26 #[.pointer (some ⟨s, 0, none⟩)] w fun e w' => ∃ t, e = .returned (.tuple #[.pointer (some ⟨t, 0, none⟩), .int .i64 0]) ∧ w.heap.size ≤ t ∧ RHd w' t c ∧ RCm w' c p (n + 1) ∧ Kept (fun i => i = c) w w' := by
  obtain ⟨h0, h1, f0, f1, hs⟩ := h.cells
  obtain ⟨k0, k1, g0, g1, hc⟩ := k.cells
  have hne := rhd_cm_ne h k
  have HK := Hid.mk' k
  clear h k
  have HX : Hid (RCm (w.setCell ⟨c, 1, none⟩ (.int .i64 ((n : Int) + 1))) c p (n + 1)) := RCm.set HK.out _ _ (by omega)
  have HY : Hid (Kept (fun i => i = c) w (w.setCell ⟨c, 1, none⟩ (.int .i64 ((n : Int) + 1)))) := kept_set w c 1 _
  go_enter Try.func26, Try.ntmps26
  go_wp2_with fail
  go_region_with (fail)
  all_goals
    go_wp2_with fail
    go_ret2
    have hsz : (w.setCell ⟨c, 1, none⟩ (.int .i64 ((n : Int) + 1))).heap.size = w.heap.size := by simp [World.setCell]
    refine ⟨_, rfl, Nat.le_refl _, RHd.dr (by rw [← hsz]; exact Go.heap_alloc_new _ _) ⟨1, rfl⟩, RCm.dr (HX.out.kept (Kept.of_below (S := fun _ => False) ((Below.refl _ _).alloc (Nat.le_refl _) _)) (fun h => h)) ⟨1, rfl⟩, (HY.out.alloc _).drew⟩

set_option maxHeartbeats 400000 in
theorem rfree_ok (s c p n : Nat) (w : World) (h : RHd w s c) (k : RCm w c p (n + 1)) (hn : n ≤ 1000000) :
    Calls Try.prog 27 #[.pointer (some ⟨s, 0, none⟩)] w fun e w' => e = .returned (.int .i64 0) ∧ RGn w' s ∧ RCm w' c p n ∧ Kept (fun i => i = s ∨ i = c) w w' := by
  obtain ⟨h0, h1, f0, f1, hs⟩ := h.cells
  obtain ⟨k0, k1, g0, g1, hc⟩ := k.cells
  have hne := rhd_cm_ne h k
  have hne' : ¬ c = s := fun e => hne e.symm
  rw [show ((n + 1 : Nat) : Int) = (n : Int) + 1 by omega] at k1
  have HX : Hid (RCm (w.setCell ⟨c, 1, none⟩ (.int .i64 (n : Int))) c p n) := RCm.set k _ _ rfl
  have HY : Hid (Kept (fun i => i = c) w (w.setCell ⟨c, 1, none⟩ (.int .i64 (n : Int)))) := kept_set w c 1 _
  have HZ : Hid (RHd (w.setCell ⟨c, 1, none⟩ (.int .i64 (n : Int))) s c) := h.kept HY.out hne
  clear h k
  go_enter Try.func27, Try.ntmps27
  go_wp2_with fail
  go_region_with (fail)
  all_goals
    go_wp2_with fail
    go_ret
    have hk : ∀ u : World, Kept (fun i => i = s) u (u.setCell ⟨s, 1, none⟩ (.bool true)) := fun u => kept_set u s 1 _
    refine ⟨rfl, ?_, ?_, ?_⟩
    · exact HZ.out.give.dr ⟨1, rfl⟩
    · exact (HX.out.kept (hk _) hne').dr ⟨1, rfl⟩
    · exact ((HY.out.mono (fun _ _ e => .inr e)).trans ((hk _).mono (fun _ _ e => .inl e))).drew

set_option maxHeartbeats 400000 in
theorem rcount_ok (s c p n : Nat) (w : World) (h : RHd w s c) (k : RCm w c p n) :
    Calls Try.prog 40 #[.pointer (some ⟨s, 0, none⟩)] w fun e w' => e = .returned (.int .i64 n) ∧ w = w' := by
  obtain ⟨h0, h1, f0, f1, hs⟩ := h.cells
  obtain ⟨k0, k1, g0, g1, hc⟩ := k.cells
  clear h k
  go_enter Try.func40, Try.ntmps40
  go_wp2_with fail
  go_ret
  exact ⟨rfl, rfl⟩

set_option maxHeartbeats 400000 in
theorem rslen_ok (s c q n base : Nat) (bv : Value) (B : List Int) (a d m : Nat) (w : World) (h : RHd w s c) (k : RCm w c q n) (r : RfIs w base q bv B a d m) :
    Calls Try.prog 39 #[.pointer (some ⟨s, 0, none⟩)] w fun e w' => e = .returned (.int .i64 (B.length : Int)) ∧ w = w' := by
  have key2 := rlen_any base q bv B a d m w r
  obtain ⟨h0, h1, f0, f1, hs⟩ := h.cells
  obtain ⟨k0, k1, g0, g1, hc⟩ := k.cells
  clear h k r
  go_enter Try.func39, Try.ntmps39
  go_wp2_with fail
  refine key2.mono ?_
  rintro e w1 ⟨rfl, rfl⟩
  clear key2
  go_wp2_with fail
  go_ret
  exact ⟨rfl, rfl⟩

set_option maxHeartbeats 400000 in
theorem rsbytes_ok (s c q n base : Nat) (bv : Value) (B : List Int) (a d m : Nat) (w : World) (h : RHd w s c) (k : RCm w c q n) (r : RfIs w base q bv B a d m) :
    Calls Try.prog 38 #[.pointer (some ⟨s, 0, none⟩)] w fun e w' => ∃ v, e = .returned v ∧ w'.ownsRow w.heap.size 5 1 v B.length (B.map (Value.int .u8)) ∧ Below w.heap.size w w' := by
  have key2 := rbytes_any base q bv B a d m w r
  obtain ⟨h0, h1, f0, f1, hs⟩ := h.cells
  obtain ⟨k0, k1, g0, g1, hc⟩ := k.cells
  clear h k r
  go_enter Try.func38, Try.ntmps38
  go_wp2_with fail
  refine key2.mono ?_
  rintro e w1 ⟨v, rfl, hv, hb⟩
  have HV := Hid.mk' hv
  clear key2 hv
  go_wp2_with fail
  go_ret
  exact ⟨v, rfl, HV.out, hb⟩

set_option maxHeartbeats 400000 in
theorem rsload_ok (s c q n base : Nat) (bv : Value) (B : List Int) (a d m : Nat) (x k : Int) (w : World) (h : RHd w s c) (kc : RCm w c q n) (r : RfIs w base q bv B a d m) :
    Calls Try.prog 28 #[.pointer (some ⟨s, 0, none⟩), .int .i64 x, .int .i64 k] w fun e w' => e = .returned (.tuple #[.int .u64 (ldE B x k), .int .i64 (askE B.length x k)]) ∧ Dr w w' := by
  have key2 := rload_any base q bv B a d m x k w r
  obtain ⟨h0, h1, f0, f1, hs⟩ := h.cells
  obtain ⟨k0, k1, g0, g1, hc⟩ := kc.cells
  clear h kc r
  generalize ldE B x k = V at *
  generalize askE B.length x k = E at *
  go_enter Try.func28, Try.ntmps28
  go_wp2_with fail
  refine key2.mono ?_
  rintro e w1 ⟨rfl, d1⟩
  clear key2
  go_wp2_with fail
  go_ret2
  exact ⟨rfl, d1⟩

structure RParted (w w' : World) (s c q n : Nat) (B : List Int) (c' q' : Nat) (bv' : Value) : Prop where
  newc : w.heap.size ≤ c'
  hd : RHd w' s c'
  cm : RCm w' c' q' 1
  pk : RfIs w' w.heap.size q' bv' B 64 64 0
  old : RCm w' c q n
  kept : Kept (fun i => i = s ∨ i = c) w w'

set_option maxHeartbeats 400000 in
theorem rpart_one (s c p : Nat) (w : World) (h : RHd w s c) (k : RCm w c p 1) :
    Calls Try.prog 50 #[.pointer (some ⟨s, 0, none⟩)] w fun e w' => e = .returned (.tuple #[]) ∧ w = w' := by
  obtain ⟨h0, h1, f0, f1, hs⟩ := h.cells
  obtain ⟨k0, k1, g0, g1, hc⟩ := k.cells
  clear h k
  go_enter Try.func50, Try.ntmps50
  go_wp2_with fail
  (try simp only [Exit.inBlock, Exit.then]); refine bodyPost_ret (results_none rfl _ _ _) rfl ?_
  exact ⟨rfl, rfl⟩

theorem bs_own_at {w : World} {base q : Nat} {x : Option Addr} {n c : Nat} {B : List Int} {a d m : Nat} (h : RfIs w base q (.slice x n c) B a d m) : Bs w x B := by
  obtain ⟨x', c', e, hb, _⟩ := h.bs
  simp only [Value.slice.injEq] at e
  rw [e.1]; exact hb

theorem RfIs.apart {w : World} {base q k : Nat} {bv : Value} {B : List Int} {a d m : Nat} {cs : Array Value} {t : TypeId} (h : RfIs w base q bv B a d m) (hk : w.heap[k]? = some (.cells cs t (0, 0))) (h1 : t ≠ 69) (h2 : t ≠ 5) : ¬ rfS q bv k := by
  rintro (rfl | e)
  · rw [h.box] at hk
    simp only [Option.some.injEq, Obj.cells.injEq] at hk
    exact h1 hk.2.1.symm
  · rcases h.row.2 with ⟨rfl, _⟩ | ⟨g, cap, cur, rfl, _, hg, _⟩
    · simp [Value.ownBlock] at e
    · have : g = k := by simpa [Value.ownBlock] using e
      subst this
      rw [hg] at hk
      simp only [Option.some.injEq, Obj.cells.injEq] at hk
      exact h2 hk.2.1.symm

set_option maxHeartbeats 1000000 in
theorem rpart_many (s c q n base : Nat) (bv : Value) (B : List Int) (a d m : Nat) (w : World) (h : RHd w s c) (k : RCm w c q (n + 2)) (r : RfIs w base q bv B a d m) (hn : n ≤ 1000000) :
    Calls Try.prog 50 #[.pointer (some ⟨s, 0, none⟩)] w fun e w' => ∃ c' q' bv', e = .returned (.tuple #[]) ∧ RParted w w' s c q (n + 1) B c' q' bv' := by
  obtain ⟨h0, h1, f0, f1, hs⟩ := h.cells
  obtain ⟨k0, k1, g0, g1, hc⟩ := k.cells
  have hne := rhd_cm_ne h k
  have hne' : ¬ c = s := fun e => hne e.symm
  have hcq : ¬ c = q := fun e => r.apart k (by decide) (by decide) (.inl e)
  have hqc : ¬ q = c := fun e => hcq e.symm
  rw [show ((n + 2 : Nat) : Int) = (n : Int) + 2 by omega] at k1
  have e1 : Kept (fun i => i = c) w (w.setCell ⟨c, 1, none⟩ (.int .i64 ((n : Int) + 2 - 1))) := kept_set w c 1 _
  have hsz : (w.setCell ⟨c, 1, none⟩ (.int .i64 ((n : Int) + 2 - 1))).heap.size = w.heap.size := by simp [World.setCell]
  have r1 := (r.kept e1 (fun i hi e => r.apart k (by decide) (by decide) (by rw [← e]; exact hi))).dr (w' := (w.setCell ⟨c, 1, none⟩ (.int .i64 ((n : Int) + 2 - 1))).drew) ⟨1, rfl⟩
  have HC1 : RCm (w.setCell ⟨c, 1, none⟩ (.int .i64 ((n : Int) + 2 - 1))).drew c q (n + 1) := (k.set _ _ (by omega)).dr ⟨1, rfl⟩
  have HH1 : RHd (w.setCell ⟨c, 1, none⟩ (.int .i64 ((n : Int) + 2 - 1))).drew s c := (h.kept e1 hne).dr ⟨1, rfl⟩
  have hK : Hid (Kept (fun i => i = c) w (w.setCell ⟨c, 1, none⟩ (.int .i64 ((n : Int) + 2 - 1))).drew ∧ (w.setCell ⟨c, 1, none⟩ (.int .i64 ((n : Int) + 2 - 1))).drew.heap.size = w.heap.size) := ⟨e1.drew, hsz⟩
  obtain ⟨xa, ca, rfl, hbs, hna⟩ := r1.bs
  have q0 := r.cells.1
  have hmost := r.most
  have R1 := Hid.mk' r1
  have HN := Hid.mk' hna
  have C1 := Hid.mk' HC1
  have D1 := Hid.mk' HH1
  clear h k r r1 hbs hna e1 hsz HC1 HH1
  go_enter Try.func50, Try.ntmps50
  go_wp2_with fail
  go_region_with (fail)
  all_goals
    go_wp2_with fail
    refine (rnew_ok xa ca B 64 64 (w.setCell ⟨c, 1, none⟩ (.int .i64 ((n : Int) + 2 - 1))).drew (bs_own_at R1.out) HN.out hmost (by omega) (by omega)).mono ?_
    rintro e w2 ⟨q', bv', rfl, h3, h4⟩
    have HSZ := Hid.mk' hK.out.2
    have B4 := Hid.mk' h4
    rw [HSZ.out] at h3 h4
    have H3 := Hid.mk' h3
    have K4 : Hid (Kept (fun i => i = c) w w2) := hK.out.1.then (Kept.of_below (S := fun _ => False) B4.out) (fun _ _ h => h.elim)
    have C4 : Hid (RCm w2 c q (n + 1)) := C1.out.kept (Kept.of_below (S := fun _ => False) B4.out) (fun h => h)
    have H4 : Hid (RHd w2 s c) := D1.out.kept (Kept.of_below (S := fun _ => False) B4.out) (fun h => h)
    have hs2 : w.heap.size ≤ w2.heap.size := K4.out.size
    obtain ⟨h0', h1', f0', f1', hs'⟩ := H4.out.cells
    have hss : ¬ s = w2.heap.size := by omega
    clear h3 h4 B4 h0 h1 f0 f1 k0 k1 g0 g1 q0
    go_wp2_with fail
    go_end0
    have e4 : Kept (fun i => i = s) w2 (w2.setCell ⟨s, 0, none⟩ (.pointer (some ⟨w2.heap.size, 0, none⟩))) := kept_set w2 s 0 _
    have h5 := H4.out.set w2.heap.size
    have c5 := C4.out.kept e4 hne'
    have p5 := H3.out.kept e4 (fun i hi e => by have := (H3.out.above hi).1; omega)
    have hs3 : (w2.setCell ⟨s, 0, none⟩ (.pointer (some ⟨w2.heap.size, 0, none⟩))).heap.size = w2.heap.size := by simp [World.setCell]
    generalize w2.setCell ⟨s, 0, none⟩ (.pointer (some ⟨w2.heap.size, 0, none⟩)) = w3 at *
    have ba : Below w3.heap.size w3 (w3.alloc (.cells #[.pointer (some ⟨q', 0, none⟩), .int .i64 1] 77)) := (Below.refl _ _).alloc (Nat.le_refl _) _
    have k5 : RCm (w3.alloc (.cells #[.pointer (some ⟨q', 0, none⟩), .int .i64 1] 77)) w3.heap.size q' 1 := Go.heap_alloc_new w3 _
    rw [hs3] at k5
    have kb := Kept.of_below (S := fun _ => False) ba
    refine ⟨w2.heap.size, q', bv', rfl, hs2, h5.kept kb (fun h => h), k5, p5.below ba, c5.kept kb (fun h => h), ?_⟩
    exact ((K4.out.mono (fun _ _ e => .inr e)).trans (e4.mono (fun _ _ e => .inl e))).trans (Kept.of_below ba)

set_option maxHeartbeats 400000 in
theorem rsown_one (s c p : Nat) (w : World) (h : RHd w s c) (k : RCm w c p 1) :
    Calls Try.prog 30 #[.pointer (some ⟨s, 0, none⟩)] w fun e w' => e = .returned (.tuple #[.pointer (some ⟨p, 0, none⟩), .int .i64 0]) ∧ w = w' := by
  have key2 := rpart_one s c p w h k
  obtain ⟨h0, h1, f0, f1, hs⟩ := h.cells
  obtain ⟨k0, k1, g0, g1, hc⟩ := k.cells
  clear h k
  go_enter Try.func30, Try.ntmps30
  go_wp2_with fail
  refine key2.mono ?_
  rintro e w1 ⟨rfl, rfl⟩
  clear key2
  go_wp2_with fail
  go_ret2
  exact ⟨rfl, rfl⟩

set_option maxHeartbeats 400000 in
theorem rsown_many (s c q n base : Nat) (bv : Value) (B : List Int) (a d m : Nat) (w : World) (h : RHd w s c) (k : RCm w c q (n + 2)) (r : RfIs w base q bv B a d m) (hn : n ≤ 1000000) :
    Calls Try.prog 30 #[.pointer (some ⟨s, 0, none⟩)] w fun e w' => ∃ c' q' bv', e = .returned (.tuple #[.pointer (some ⟨q', 0, none⟩), .int .i64 0]) ∧ RParted w w' s c q (n + 1) B c' q' bv' := by
  have key2 := rpart_many s c q n base bv B a d m w h k r hn
  obtain ⟨h0, h1, f0, f1, hs⟩ := h.cells
  clear h k r h0
  go_enter Try.func30, Try.ntmps30
  go_wp2_with fail
  refine key2.mono ?_
  rintro e w1 ⟨c', q', bv', rfl, hp⟩
  have HP := Hid.mk' hp
  obtain ⟨h0, h1, f0, f1, hs⟩ := hp.hd.cells
  obtain ⟨k0, k1, g0, g1, hc⟩ := hp.cm.cells
  clear key2 hp
  go_wp2_with fail
  go_ret2
  exact ⟨c', q', bv', rfl, HP.out⟩

set_option maxHeartbeats 400000 in
theorem rsstore_err (s c q n base : Nat) (bv : Value) (B : List Int) (a d m : Nat) (x k v : Int) (w : World) (h : RHd w s c) (kc : RCm w c q n) (r : RfIs w base q bv B a d m) (he : askE B.length x k ≠ 0) :
    Calls Try.prog 29 #[.pointer (some ⟨s, 0, none⟩), .int .i64 x, .int .i64 k, .int .u64 v] w fun e w' => e = .returned (.int .i64 (askE B.length x k)) ∧ Dr w w' := by
  have key := rload_any base q bv B a d m x k w r
  have hne : (askE B.length x k != 0) = true := by simpa using he
  obtain ⟨h0, h1, f0, f1, hs⟩ := h.cells
  obtain ⟨k0, k1, g0, g1, hc⟩ := kc.cells
  clear h kc r he
  generalize ldE B x k = V at *
  generalize askE B.length x k = E at *
  go_enter Try.func29, Try.ntmps29
  go_wp2_with fail
  refine key.mono ?_
  rintro e w1 ⟨rfl, d1⟩
  clear key
  go_wp2_with fail
  go_ret
  exact ⟨rfl, d1⟩

set_option maxHeartbeats 400000 in
theorem rsstore_one (s c q base : Nat) (bv : Value) (B : List Int) (a d m : Nat) (x k v : Int) (w : World) (h : RHd w s c) (kc : RCm w c q 1) (r : RfIs w base q bv B a d m) (v0 : 0 ≤ v) (v1 : v ≤ 18446744073709551615) (he : askE B.length x k = 0) :
    Calls Try.prog 29 #[.pointer (some ⟨s, 0, none⟩), .int .i64 x, .int .i64 k, .int .u64 v] w fun e w' => e = .returned (.int .i64 0) ∧ RfIs w' base q bv (stE B x k v) a d m ∧ Kept (fun i => bv.ownBlock = some i) w w' := by
  have key := rload_any base q bv B a d m x k w r
  rw [he] at key
  have H := Hid.mk' h
  have K := Hid.mk' kc
  have Q := Hid.mk' r
  have HE := Hid.mk' he
  obtain ⟨h0, h1, f0, f1, hs⟩ := h.cells
  obtain ⟨k0, k1, g0, g1, hc⟩ := kc.cells
  clear h kc r he
  generalize ldE B x k = V at *
  go_enter Try.func29, Try.ntmps29
  go_wp2_with fail
  refine key.mono ?_
  rintro e w1 ⟨rfl, d1⟩
  have D1 := Hid.mk' d1
  clear key d1
  go_wp2_with fail
  refine (rpart_one s c q w1 (H.out.dr D1.out) (K.out.dr D1.out)).mono ?_
  rintro e w2 ⟨rfl, rfl⟩
  clear h0 h1 f0 f1 hs k0 k1 g0 g1 hc
  obtain ⟨h0, h1, f0, f1, hs⟩ := (H.out.dr D1.out).cells
  obtain ⟨k0, k1, g0, g1, hc⟩ := (K.out.dr D1.out).cells
  have key3 := rstore_any base q bv B a d m x k v w1 (Q.out.dr D1.out) v0 v1
  rw [HE.out] at key3
  go_wp2_with fail
  refine key3.mono ?_
  rintro e w3 ⟨rfl, h3, h4⟩
  have H3 := Hid.mk' h3
  have H4 := Hid.mk' h4
  clear h3 h4 key3
  go_wp2_with fail
  go_ret
  exact ⟨rfl, H3.out, (Kept.of_below (D1.out.below _)).trans H4.out⟩

set_option maxHeartbeats 400000 in
theorem rsstore_many (s c q n base : Nat) (bv : Value) (B : List Int) (a d m : Nat) (x k v : Int) (w : World) (h : RHd w s c) (kc : RCm w c q (n + 2)) (r : RfIs w base q bv B a d m) (hn : n ≤ 1000000) (v0 : 0 ≤ v) (v1 : v ≤ 18446744073709551615) (he : askE B.length x k = 0) :
    Calls Try.prog 29 #[.pointer (some ⟨s, 0, none⟩), .int .i64 x, .int .i64 k, .int .u64 v] w fun e w' => e = .returned (.int .i64 0) ∧ ∃ w1 w2 c' q' bv', Dr w w1 ∧ RParted w1 w2 s c q (n + 1) B c' q' bv' ∧ RfIs w' w1.heap.size q' bv' (stE B x k v) 64 64 0 ∧ Kept (fun i => bv'.ownBlock = some i) w2 w' := by
  have key := rload_any base q bv B a d m x k w r
  rw [he] at key
  have H := Hid.mk' h
  have K := Hid.mk' kc
  have Q := Hid.mk' r
  have HE := Hid.mk' he
  obtain ⟨h0, h1, f0, f1, hs⟩ := h.cells
  obtain ⟨k0, k1, g0, g1, hc⟩ := kc.cells
  clear h kc r he
  generalize ldE B x k = V at *
  go_enter Try.func29, Try.ntmps29
  go_wp2_with fail
  refine key.mono ?_
  rintro e w1 ⟨rfl, d1⟩
  have D1 := Hid.mk' d1
  clear key d1
  go_wp2_with fail
  refine (rpart_many s c q n base bv B a d m w1 (H.out.dr D1.out) (K.out.dr D1.out) (Q.out.dr D1.out) hn).mono ?_
  rintro e w2 ⟨c', q', bv', rfl, hp⟩
  have HP := Hid.mk' hp
  clear h0 h1 f0 f1 hs k0 k1 g0 g1 hc
  obtain ⟨h0, h1, f0, f1, hs⟩ := hp.hd.cells
  obtain ⟨k0, k1, g0, g1, hc⟩ := hp.cm.cells
  have key3 := rstore_any _ q' bv' B 64 64 0 x k v w2 hp.pk v0 v1
  rw [HE.out] at key3
  clear hp
  go_wp2_with fail
  refine key3.mono ?_
  rintro e w3 ⟨rfl, h3, h4⟩
  have H3 := Hid.mk' h3
  have H4 := Hid.mk' h4
  clear h3 h4 key3
  go_wp2_with fail
  go_ret
  exact ⟨rfl, w1, w2, c', q', bv', D1.out, HP.out, H3.out, H4.out⟩
end Go.Proofs.Ytbinedhgjmfceaa
