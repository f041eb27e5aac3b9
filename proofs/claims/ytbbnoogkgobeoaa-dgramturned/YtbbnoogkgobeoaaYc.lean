/- The contract of dgram.Read. -/
import Derived.Test.YtbbnoogkgobeoaaYb
namespace Go.Proofs.Ytbbnoogkgobeoaa
open Go.ChangeShapes Go.WideShapes Go.ChangeAt Go.RowKit

/-- Cells of a header that is none. -/
def hd0 : List Value := [.int .u16 0, .int .u16 0]
theorem hd0_one : hd0.toArray.all (·.oneCell') = true := dgC_one 0 0

/-- What holds where Read has only looked: the box of its result, which is none yet. -/
structure RdJ (w u : World) : Prop where
  box : u.heap[w.heap.size]? = some (.cells hd0.toArray 24 (0, 0))
  old : Below w.heap.size w u
theorem RdJ.first (w : World) : RdJ w (w.alloc (.cells hd0.toArray 24)) := ⟨heap_alloc_new w _, (Below.refl _ _).alloc (Nat.le_refl _) _⟩
theorem RdJ.below {w u v : World} (h : RdJ w u) (b : Below u.heap.size u v) : RdJ w v :=
  ⟨(b.block _ (Array.getElem?_eq_some_iff.1 h.box).1).trans h.box, h.old.trans (b.mono h.old.size)⟩
theorem RdJ.dr {w u v : World} (h : RdJ w u) (d : Dr u v) : RdJ w v := h.below (d.below _)
theorem RdJ.there {w u : World} (h : RdJ w u) : u.there w.heap.size 0 hd0.toArray.size := there_block h.box
/-- .. and where a header is stored there. -/
theorem RdJ.done {w u : World} (h : RdJ w u) (M : List Value) (hl : M.length = 2) : (u.setCells w.heap.size 0 M).heap[w.heap.size]? = some (.cells M.toArray 24 (0, 0)) ∧ Below w.heap.size w (u.setCells w.heap.size 0 M) :=
  ⟨heap_whole (L := hd0) h.box (by rw [hl]; rfl), h.old.trans (((Kept.refl (fun k => k = w.heap.size) u).setCells w.heap.size 0 M (fun _ => rfl)).below h.old.size (fun k hk => by omega))⟩

set_option maxHeartbeats 400000 in
theorem lread_short (a : Option Addr) (n c : Nat) (w : World) (hn : n < 8) :
    Calls Try.prog 17 #[.slice a n c] w fun e w' => e = .returned (.tuple #[.agg hd0.toArray, .int .i64 6]) ∧ Below w.heap.size w w' := by
  have J1 := Hid.mk' (RdJ.first w)
  go_enter Try.func17, Try.ntmps17
  go_wp2_with (first | refine wpList_store_mid rfl 24 _ _ rfl w.heap.size 0 hd0.toArray rfl rfl J1.out.there info_hd hd0_one ?_)
  refine ret_cell_tmp rfl w.heap.size 24 hd0 (0, 0) _ rfl (J1.out.done hd0 rfl).1 Try.underlying24 rfl info_hd rfl ?_
  exact ⟨rfl, (J1.out.done hd0 rfl).2⟩

/-- Read's first question. -/
abbrev rdQ (zs : List Int) : Prop := rdV zs 4 = (zs.length : Int)

set_option maxHeartbeats 1000000 in
theorem lread_bad (b off : Nat) (n c : Nat) (zs : List Int) (w : World) (hz : zs.length = n) (hB : Bs w (some ⟨b, off, none⟩) zs) (hn : 8 ≤ n) (hq : ¬ rdQ zs) :
    Calls Try.prog 17 #[.slice (some ⟨b, off, none⟩) n c] w fun e w' => e = .returned (.tuple #[.agg hd0.toArray, .int .i64 100]) ∧ Below w.heap.size w w' := by
  have hln : n ≤ 140737488355328 := by rw [← hz]; exact hB.len
  have J1 := Hid.mk' (RdJ.first w)
  have KG : Hid (∀ (u : World) (k : Nat), RdJ w u → k + 2 ≤ n → Calls Try.prog 27 #[.slice (some ⟨b, off, none⟩) n c, .int .i64 k] u fun e u' => e = .returned (.int .u16 (rdV zs k)) ∧ Dr u u') := Hid.mk' (fun u k h hk => get16_any b off n c k zs u hz (hB.below h.old) hk)
  unfold rdQ at hq
  rw [hz] at hq
  have v4 := rdV_bd hB.bytes 4
  clear hB hz
  obtain ⟨V4, H4⟩ : ∃ V, Hid (rdV zs 4 = V) := ⟨_, rfl⟩
  rw [H4.out] at hq v4
  obtain ⟨v40, v41⟩ := v4
  have hqb : (V4 != (n : Int)) = true := by simpa using hq
  go_enter Try.func17, Try.ntmps17
  go_wp2_with (first | (go_at_call_of 27 (Value.int IntKind.i64 4); refine (KG.out _ 4 J1.out (by omega)).mono ?_; rw [H4.out]; rintro e w2 ⟨rfl, d2⟩; have J2 := Hid.mk' (J1.out.dr d2); clear d2) | refine wpList_store_mid rfl 24 _ _ rfl w.heap.size 0 hd0.toArray rfl rfl J2.out.there info_hd hd0_one ?_)
  refine ret_cell_tmp rfl w.heap.size 24 hd0 (0, 0) _ rfl (J2.out.done hd0 rfl).1 Try.underlying24 rfl info_hd rfl ?_
  exact ⟨rfl, (J2.out.done hd0 rfl).2⟩

/-- The field that bytes should have. -/
def rdF (zs : List Int) : Int := fd (su (zf zs) zs.length)

/-- fieldOf of a packet's first eight bytes and the others. -/
theorem field_pk (b off : Nat) (n c c9 : Nat) (A0 : Addr) (zs : List Int) (u : World) (hz : zs.length = n) (hB : Bs u (some ⟨b, off, none⟩) zs) (hn : 8 ≤ n) (hc : n ≤ c) (hA : (if c = 8 then some (⟨b, off, none⟩ : Addr) else some ⟨b, off + 8, none⟩) = some A0) :
    Calls Try.prog 23 #[.slice (some ⟨b, off, none⟩) 8 c, .slice (some A0) (n - 8) c9] u fun e u' => e = .returned (.int .u16 (rdF zs)) ∧ Dr u u' := by
  have SD : Bs u (some A0) (zs.drop 8) := by
    rw [← hA]
    split
    · rename_i hq
      have : zs.drop 8 = [] := List.drop_eq_nil_of_le (by omega)
      rw [this]
      exact bs_nil _ _
    · exact hB.drop 8
  have key := fieldOf_any b off c (some A0) (n - 8) c9 (zs.take 8) (zs.drop 8) u (by rw [List.length_take, hz]; omega) (by rw [List.length_drop, hz]) (hB.take 8 (by omega)) SD (by omega)
  rw [List.take_append_drop, show 8 + (n - 8) = zs.length by omega] at key
  exact key

set_option maxHeartbeats 1000000 in
theorem lread_sum (b off : Nat) (n c : Nat) (zs : List Int) (w : World) (hz : zs.length = n) (hB : Bs w (some ⟨b, off, none⟩) zs) (hn : 8 ≤ n) (hc : n ≤ c) (hq : rdQ zs) (hf : ¬ rdV zs 6 = rdF zs) :
    Calls Try.prog 17 #[.slice (some ⟨b, off, none⟩) n c] w fun e w' => e = .returned (.tuple #[.agg hd0.toArray, .int .i64 110]) ∧ Below w.heap.size w w' := by
  have hln : n ≤ 140737488355328 := by rw [← hz]; exact hB.len
  have J1 := Hid.mk' (RdJ.first w)
  have KG : Hid (∀ (u : World) (k : Nat), RdJ w u → k + 2 ≤ n → Calls Try.prog 27 #[.slice (some ⟨b, off, none⟩) n c, .int .i64 k] u fun e u' => e = .returned (.int .u16 (rdV zs k)) ∧ Dr u u') := Hid.mk' (fun u k h hk => get16_any b off n c k zs u hz (hB.below h.old) hk)
  obtain ⟨A0, hA0⟩ : ∃ A0 : Addr, (if c = 8 then some (⟨b, off, none⟩ : Addr) else some ⟨b, off + 8, none⟩) = some A0 := by split <;> exact ⟨_, rfl⟩
  have KF : Hid (∀ (u : World) (c9 : Nat), RdJ w u → Calls Try.prog 23 #[.slice (some ⟨b, off, none⟩) 8 c, .slice (some A0) (n - 8) c9] u fun e u' => e = .returned (.int .u16 (rdF zs)) ∧ Dr u u') := Hid.mk' (fun u c9 h => field_pk b off n c c9 A0 zs u hz (hB.below h.old) hn hc hA0)
  unfold rdQ at hq
  rw [hz] at hq
  have H4 := Hid.mk' hq
  clear hB hz hq
  obtain ⟨V6, H6⟩ : ∃ V, Hid (rdV zs 6 = V) := ⟨_, rfl⟩
  obtain ⟨F, HF⟩ : ∃ F, Hid (rdF zs = F) := ⟨_, rfl⟩
  rw [H6.out, HF.out] at hf
  rw [HF.out] at KF
  have hfb : (V6 != F) = true := by simpa using hf
  have hnb : ((n : Int) != (n : Int)) = false := by simp
  have hcn : (n : Int) ≤ (c : Int) := by omega
  have hcS : (8 : Int) ≤ (n : Int) := by omega
  have hcc : (8 : Int) ≤ (c : Int) := by omega
  have K6 : Hid (∀ u : World, RdJ w u → Calls Try.prog 27 #[.slice (some ⟨b, off, none⟩) n c, .int .i64 6] u fun e u' => e = .returned (.int .u16 V6) ∧ Dr u u') := Hid.mk' (fun u h => by rw [← H6.out]; exact KG.out u 6 h (by omega))
  go_enter Try.func17, Try.ntmps17
  go_wp2_with (first | (go_at_call_of 27 (Value.int IntKind.i64 4); refine (KG.out _ 4 J1.out (by omega)).mono ?_; rw [H4.out]; rintro e w3 ⟨rfl, d2⟩; have J3 := Hid.mk' (J1.out.dr d2); clear d2))
  go_quiet (first | (go_at_call 27; exact Calls.quiet_of (K6.out _ (J3.out.dr ⟨_, rfl⟩))) | (go_at_call 23; exact Calls.quiet_of (KF.out _ _ (J3.out.dr ⟨_, rfl⟩))))
  have J4 : Hid (RdJ w (w3.drewN nq)) := Hid.mk' (J3.out.dr ⟨_, rfl⟩)
  generalize w3.drewN nq = w4 at *
  go_wp2_with (first | refine wpList_store_mid rfl 24 _ _ rfl w.heap.size 0 hd0.toArray rfl rfl J4.out.there info_hd hd0_one ?_)
  refine ret_cell_tmp rfl w.heap.size 24 hd0 (0, 0) _ rfl (J4.out.done hd0 rfl).1 Try.underlying24 rfl info_hd rfl ?_
  exact ⟨rfl, (J4.out.done hd0 rfl).2⟩

/-- The header that bytes begin with: its cells. -/
def rdC (zs : List Int) : List Value := dgC (rdV zs 0) (rdV zs 2)

set_option maxHeartbeats 1000000 in
theorem lread_ok (b off : Nat) (n c : Nat) (zs : List Int) (w : World) (hz : zs.length = n) (hB : Bs w (some ⟨b, off, none⟩) zs) (hn : 8 ≤ n) (hc : n ≤ c) (hq : rdQ zs) (hf : rdV zs 6 = rdF zs) :
    Calls Try.prog 17 #[.slice (some ⟨b, off, none⟩) n c] w fun e w' => e = .returned (.tuple #[.agg (rdC zs).toArray, .int .i64 0]) ∧ Below w.heap.size w w' := by
  obtain ⟨RES, HRES⟩ : ∃ RES, Hid (rdC zs = RES) := ⟨_, rfl⟩
  rw [HRES.out]
  have hln : n ≤ 140737488355328 := by rw [← hz]; exact hB.len
  have J1 := Hid.mk' (RdJ.first w)
  have KG : Hid (∀ (u : World) (k : Nat), RdJ w u → k + 2 ≤ n → Calls Try.prog 27 #[.slice (some ⟨b, off, none⟩) n c, .int .i64 k] u fun e u' => e = .returned (.int .u16 (rdV zs k)) ∧ Dr u u') := Hid.mk' (fun u k h hk => get16_any b off n c k zs u hz (hB.below h.old) hk)
  obtain ⟨A0, hA0⟩ : ∃ A0 : Addr, (if c = 8 then some (⟨b, off, none⟩ : Addr) else some ⟨b, off + 8, none⟩) = some A0 := by split <;> exact ⟨_, rfl⟩
  have KF : Hid (∀ (u : World) (c9 : Nat), RdJ w u → Calls Try.prog 23 #[.slice (some ⟨b, off, none⟩) 8 c, .slice (some A0) (n - 8) c9] u fun e u' => e = .returned (.int .u16 (rdF zs)) ∧ Dr u u') := Hid.mk' (fun u c9 h => field_pk b off n c c9 A0 zs u hz (hB.below h.old) hn hc hA0)
  unfold rdQ at hq
  rw [hz] at hq
  have H4 := Hid.mk' hq
  clear hB hz hq
  obtain ⟨V6, H6⟩ : ∃ V, Hid (rdV zs 6 = V) := ⟨_, rfl⟩
  obtain ⟨F, HF⟩ : ∃ F, Hid (rdF zs = F) := ⟨_, rfl⟩
  rw [H6.out, HF.out] at hf
  rw [HF.out] at KF
  subst hf
  have hfb : (V6 != V6) = false := by simp
  have hnb : ((n : Int) != (n : Int)) = false := by simp
  have hcn : (n : Int) ≤ (c : Int) := by omega
  have hcS : (8 : Int) ≤ (n : Int) := by omega
  have hcc : (8 : Int) ≤ (c : Int) := by omega
  have K6 : Hid (∀ u : World, RdJ w u → Calls Try.prog 27 #[.slice (some ⟨b, off, none⟩) n c, .int .i64 6] u fun e u' => e = .returned (.int .u16 V6) ∧ Dr u u') := Hid.mk' (fun u h => by rw [← H6.out]; exact KG.out u 6 h (by omega))
  go_enter Try.func17, Try.ntmps17
  go_wp2_with (first | (go_at_call_of 27 (Value.int IntKind.i64 4); refine (KG.out _ 4 J1.out (by omega)).mono ?_; rw [H4.out]; rintro e w3 ⟨rfl, d2⟩; have J3 := Hid.mk' (J1.out.dr d2); clear d2))
  go_quiet (first | (go_at_call 27; exact Calls.quiet_of (K6.out _ (J3.out.dr ⟨_, rfl⟩))) | (go_at_call 23; exact Calls.quiet_of (KF.out _ _ (J3.out.dr ⟨_, rfl⟩))))
  have J4 : Hid (RdJ w (w3.drewN nq)) := Hid.mk' (J3.out.dr ⟨_, rfl⟩)
  generalize w3.drewN nq = w4 at *
  obtain ⟨V0, H0⟩ : ∃ V, Hid (rdV zs 0 = V) := ⟨_, rfl⟩
  obtain ⟨V2, H2⟩ : ∃ V, Hid (rdV zs 2 = V) := ⟨_, rfl⟩
  have HM : Hid (dgC V0 V2 = RES) := Hid.mk' (by rw [← HRES.out]; unfold rdC; rw [H0.out, H2.out])
  clear J1 J3
  go_wp2_with (first | (go_at_call_of 27 (Value.int IntKind.i64 0); refine (KG.out _ 0 J4.out (by omega)).mono ?_; rw [H0.out]; rintro e w5 ⟨rfl, d5⟩; have J5 := Hid.mk' (J4.out.dr d5); clear d5) | (go_at_call_of 27 (Value.int IntKind.i64 2); refine (KG.out _ 2 J5.out (by omega)).mono ?_; rw [H2.out]; rintro e w6 ⟨rfl, d6⟩; have J6 := Hid.mk' (J5.out.dr d6); clear d6) | refine wpList_store_mid rfl 24 _ _ rfl w.heap.size 0 (dgC V0 V2).toArray rfl rfl J6.out.there info_hd (dgC_one _ _) ?_)
  refine ret_cell_tmp rfl w.heap.size 24 (dgC V0 V2) (0, 0) _ rfl (J6.out.done _ rfl).1 Try.underlying24 rfl info_hd rfl ?_
  rw [HM.out]
  exact ⟨rfl, by rw [← HM.out]; exact (J6.out.done _ rfl).2⟩
end Go.Proofs.Ytbbnoogkgobeoaa
