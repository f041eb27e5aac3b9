/- The contract of seg.Read. -/
import Derived.Test.YtoakinmgjiklhaaXb
import Derived.Deep.RegionHeld3
namespace Go.Proofs.Ytoakinmgjiklhaa
open Go.ChangeShapes Go.WideShapes Go.ChangeAt Go.RowKit

/-- Cells of a header that is none. -/
def hd0 : List Value := [.int .u16 0, .int .u16 0, .int .u32 0, .int .u32 0, .int .u8 0, .int .u16 0]
theorem hd0_one : hd0.toArray.all (·.oneCell') = true := sgC_one 0 0 0 0 0 0

/-- What holds where Read has only looked: the box of its result, which is none yet. -/
structure RdJ (w u : World) : Prop where
  box : u.heap[w.heap.size]? = some (.cells hd0.toArray 25 (0, 0))
  old : Below w.heap.size w u
theorem RdJ.first (w : World) : RdJ w (w.alloc (.cells hd0.toArray 25)) := ⟨heap_alloc_new w _, (Below.refl _ _).alloc (Nat.le_refl _) _⟩
theorem RdJ.below {w u v : World} (h : RdJ w u) (b : Below u.heap.size u v) : RdJ w v :=
  ⟨(b.block _ (Array.getElem?_eq_some_iff.1 h.box).1).trans h.box, h.old.trans (b.mono h.old.size)⟩
theorem RdJ.dr {w u v : World} (h : RdJ w u) (d : Dr u v) : RdJ w v := h.below (d.below _)
theorem RdJ.there {w u : World} (h : RdJ w u) : u.there w.heap.size 0 hd0.toArray.size := there_block h.box
/-- .. and where a header is stored there. -/
theorem RdJ.done {w u : World} (h : RdJ w u) (M : List Value) (hl : M.length = 6) : (u.setCells w.heap.size 0 M).heap[w.heap.size]? = some (.cells M.toArray 25 (0, 0)) ∧ Below w.heap.size w (u.setCells w.heap.size 0 M) :=
  ⟨heap_whole (L := hd0) h.box (by rw [hl]; rfl), h.old.trans (((Kept.refl (fun k => k = w.heap.size) u).setCells w.heap.size 0 M (fun _ => rfl)).below h.old.size (fun k hk => by omega))⟩

set_option maxHeartbeats 400000 in
theorem lread_short (a : Option Addr) (n c : Nat) (w : World) (hn : n < 20) :
    Calls Try.prog 17 #[.slice a n c] w fun e w' => e = .returned (.tuple #[.agg hd0.toArray, .int .i64 6]) ∧ Below w.heap.size w w' := by
  have J1 := Hid.mk' (RdJ.first w)
  go_enter Try.func17, Try.ntmps17
  go_wp2_with (first | refine wpList_store_mid rfl 25 _ _ rfl w.heap.size 0 hd0.toArray rfl rfl J1.out.there info_hd hd0_one ?_)
  refine ret_cell_tmp rfl w.heap.size 25 hd0 (0, 0) _ rfl (J1.out.done hd0 rfl).1 Try.underlying25 rfl info_hd rfl ?_
  exact ⟨rfl, (J1.out.done hd0 rfl).2⟩

/-- Read's first questions. -/
abbrev rdQ (zs : List Int) : Prop := (20480 ≤ rdV zs 12 ∧ rdV zs 12 ≤ 20543) ∧ rdV zs 18 = 0

set_option maxHeartbeats 1000000 in
theorem lread_bad (b off : Nat) (n c : Nat) (zs : List Int) (w : World) (hz : zs.length = n) (hB : Bs w (some ⟨b, off, none⟩) zs) (hn : 20 ≤ n) (hq : ¬ rdQ zs) :
    Calls Try.prog 17 #[.slice (some ⟨b, off, none⟩) n c] w fun e w' => e = .returned (.tuple #[.agg hd0.toArray, .int .i64 90]) ∧ Below w.heap.size w w' := by
  have hln : n ≤ 140737488355328 := by rw [← hz]; exact hB.len
  have J1 := Hid.mk' (RdJ.first w)
  have KG : Hid (∀ (u : World) (k : Nat), RdJ w u → k + 2 ≤ n → Calls Try.prog 28 #[.slice (some ⟨b, off, none⟩) n c, .int .i64 k] u fun e u' => e = .returned (.int .u16 (rdV zs k)) ∧ Dr u u') := Hid.mk' (fun u k h hk => get16_any b off n c k zs u hz (hB.below h.old) hk)
  unfold rdQ at hq
  have v12 := rdV_bd hB.bytes 12
  have v18 := rdV_bd hB.bytes 18
  clear hB hz
  obtain ⟨V12, H12⟩ : ∃ V, Hid (rdV zs 12 = V) := ⟨_, rfl⟩
  obtain ⟨V18, H18⟩ : ∃ V, Hid (rdV zs 18 = V) := ⟨_, rfl⟩
  rw [H12.out] at hq v12
  rw [H18.out] at hq v18
  obtain ⟨v120, v121⟩ := v12
  obtain ⟨v180, v181⟩ := v18
  obtain ⟨X, hfl⟩ : ∃ X, IntKind.u16.wrap (V12 - 20480) = X := ⟨_, rfl⟩
  have hXe : X = (V12 - 20480) % 65536 := by rw [← hfl, IntKind.wrap_u16]
  have hX0 : 0 ≤ X := by omega
  have hX1 : X ≤ 65535 := by omega
  by_cases hx : 20480 ≤ V12 ∧ V12 ≤ 20543
  · have h18 : ¬ V18 = 0 := fun e => hq ⟨hx, e⟩
    have h18b : (V18 != 0) = true := by simpa using h18
    have hX : ¬ 64 ≤ X := by omega
    clear hXe hx v120 v121 hq
    go_enter Try.func17, Try.ntmps17
    go_wp2_with (first | (go_at_call_of 28 (Value.int IntKind.i64 12); refine (KG.out _ 12 J1.out (by omega)).mono ?_; rw [H12.out]; rintro e w2 ⟨rfl, d2⟩; have J2 := Hid.mk' (J1.out.dr d2); clear d2) | (go_at_call_of 28 (Value.int IntKind.i64 18); refine (KG.out _ 18 J2.out (by omega)).mono ?_; rw [H18.out]; rintro e w3 ⟨rfl, d3⟩; have J3 := Hid.mk' (J2.out.dr d3); clear d3) | refine wpList_store_mid rfl 25 _ _ rfl w.heap.size 0 hd0.toArray rfl rfl J3.out.there info_hd hd0_one ?_)
    refine ret_cell_tmp rfl w.heap.size 25 hd0 (0, 0) _ rfl (J3.out.done hd0 rfl).1 Try.underlying25 rfl info_hd rfl ?_
    exact ⟨rfl, (J3.out.done hd0 rfl).2⟩
  · have hX : 64 ≤ X := by omega
    clear hXe hx v120 v121 hq
    go_enter Try.func17, Try.ntmps17
    go_wp2_with (first | (go_at_call_of 28 (Value.int IntKind.i64 12); refine (KG.out _ 12 J1.out (by omega)).mono ?_; rw [H12.out]; rintro e w2 ⟨rfl, d2⟩; have J2 := Hid.mk' (J1.out.dr d2); clear d2) | refine wpList_store_mid rfl 25 _ _ rfl w.heap.size 0 hd0.toArray rfl rfl J2.out.there info_hd hd0_one ?_)
    refine ret_cell_tmp rfl w.heap.size 25 hd0 (0, 0) _ rfl (J2.out.done hd0 rfl).1 Try.underlying25 rfl info_hd rfl ?_
    exact ⟨rfl, (J2.out.done hd0 rfl).2⟩

/-- The field that bytes should have. -/
def rdF (zs : List Int) : Int := 65535 - su (zf zs) zs.length

/-- fieldOf of a packet's first twenty bytes and the others. -/
theorem field_pk (b off : Nat) (n c c9 : Nat) (A0 : Addr) (zs : List Int) (u : World) (hz : zs.length = n) (hB : Bs u (some ⟨b, off, none⟩) zs) (hn : 20 ≤ n) (hc : n ≤ c) (hA : (if c = 20 then some (⟨b, off, none⟩ : Addr) else some ⟨b, off + 20, none⟩) = some A0) :
    Calls Try.prog 24 #[.slice (some ⟨b, off, none⟩) 20 c, .slice (some A0) (n - 20) c9] u fun e u' => e = .returned (.int .u16 (rdF zs)) ∧ Dr u u' := by
  have SD : Bs u (some A0) (zs.drop 20) := by
    rw [← hA]
    split
    · rename_i hq
      have : zs.drop 20 = [] := List.drop_eq_nil_of_le (by omega)
      rw [this]
      exact bs_nil _ _
    · exact hB.drop 20
  have key := fieldOf_any b off c (some A0) (n - 20) c9 (zs.take 20) (zs.drop 20) u (by rw [List.length_take, hz]; omega) (by rw [List.length_drop, hz]) (hB.take 20 (by omega)) SD (by omega)
  rw [List.take_append_drop, show 20 + (n - 20) = zs.length by omega] at key
  exact key

set_option maxHeartbeats 1000000 in
theorem lread_sum (b off : Nat) (n c : Nat) (zs : List Int) (w : World) (hz : zs.length = n) (hB : Bs w (some ⟨b, off, none⟩) zs) (hn : 20 ≤ n) (hc : n ≤ c) (hq : rdQ zs) (hf : ¬ rdV zs 16 = rdF zs) :
    Calls Try.prog 17 #[.slice (some ⟨b, off, none⟩) n c] w fun e w' => e = .returned (.tuple #[.agg hd0.toArray, .int .i64 110]) ∧ Below w.heap.size w w' := by
  have hln : n ≤ 140737488355328 := by rw [← hz]; exact hB.len
  have J1 := Hid.mk' (RdJ.first w)
  have KG : Hid (∀ (u : World) (k : Nat), RdJ w u → k + 2 ≤ n → Calls Try.prog 28 #[.slice (some ⟨b, off, none⟩) n c, .int .i64 k] u fun e u' => e = .returned (.int .u16 (rdV zs k)) ∧ Dr u u') := Hid.mk' (fun u k h hk => get16_any b off n c k zs u hz (hB.below h.old) hk)
  obtain ⟨A0, hA0⟩ : ∃ A0 : Addr, (if c = 20 then some (⟨b, off, none⟩ : Addr) else some ⟨b, off + 20, none⟩) = some A0 := by split <;> exact ⟨_, rfl⟩
  have KF : Hid (∀ (u : World) (c9 : Nat), RdJ w u → Calls Try.prog 24 #[.slice (some ⟨b, off, none⟩) 20 c, .slice (some A0) (n - 20) c9] u fun e u' => e = .returned (.int .u16 (rdF zs)) ∧ Dr u u') := Hid.mk' (fun u c9 h => field_pk b off n c c9 A0 zs u hz (hB.below h.old) hn hc hA0)
  obtain ⟨⟨q1, q2⟩, h18⟩ := hq
  have H18 := Hid.mk' h18
  clear hB hz h18
  obtain ⟨V12, H12⟩ : ∃ V, Hid (rdV zs 12 = V) := ⟨_, rfl⟩
  rw [H12.out] at q1 q2
  obtain ⟨V16, H16⟩ : ∃ V, Hid (rdV zs 16 = V) := ⟨_, rfl⟩
  obtain ⟨F, HF⟩ : ∃ F, Hid (rdF zs = F) := ⟨_, rfl⟩
  rw [H16.out, HF.out] at hf
  rw [HF.out] at KF
  have hfb : (V16 != F) = true := by simpa using hf
  obtain ⟨X, hfl⟩ : ∃ X, IntKind.u16.wrap (V12 - 20480) = X := ⟨_, rfl⟩
  have hXe : X = (V12 - 20480) % 65536 := by rw [← hfl, IntKind.wrap_u16]
  have hX0 : 0 ≤ X := by omega
  have hX : ¬ 64 ≤ X := by omega
  have hcn : (n : Int) ≤ (c : Int) := by omega
  have hcS : (20 : Int) ≤ (n : Int) := by omega
  have hcc : (20 : Int) ≤ (c : Int) := by omega
  clear hXe q1 q2
  have K16 : Hid (∀ u : World, RdJ w u → Calls Try.prog 28 #[.slice (some ⟨b, off, none⟩) n c, .int .i64 16] u fun e u' => e = .returned (.int .u16 V16) ∧ Dr u u') := Hid.mk' (fun u h => by rw [← H16.out]; exact KG.out u 16 h (by omega))
  go_enter Try.func17, Try.ntmps17
  go_wp2_with (first | (go_at_call_of 28 (Value.int IntKind.i64 12); refine (KG.out _ 12 J1.out (by omega)).mono ?_; rw [H12.out]; rintro e w2 ⟨rfl, d2⟩; have J2 := Hid.mk' (J1.out.dr d2); clear d2) | (go_at_call_of 28 (Value.int IntKind.i64 18); refine (KG.out _ 18 J2.out (by omega)).mono ?_; rw [H18.out]; rintro e w3 ⟨rfl, d3⟩; have J3 := Hid.mk' (J2.out.dr d3); clear d3))
  go_quiet (first | (go_at_call 28; exact Calls.quiet_of (K16.out _ (J3.out.dr ⟨_, rfl⟩))) | (go_at_call 24; exact Calls.quiet_of (KF.out _ _ (J3.out.dr ⟨_, rfl⟩))))
  have J4 : Hid (RdJ w (w3.drewN nq)) := Hid.mk' (J3.out.dr ⟨_, rfl⟩)
  generalize w3.drewN nq = w4 at *
  go_wp2_with (first | refine wpList_store_mid rfl 25 _ _ rfl w.heap.size 0 hd0.toArray rfl rfl J4.out.there info_hd hd0_one ?_)
  refine ret_cell_tmp rfl w.heap.size 25 hd0 (0, 0) _ rfl (J4.out.done hd0 rfl).1 Try.underlying25 rfl info_hd rfl ?_
  exact ⟨rfl, (J4.out.done hd0 rfl).2⟩

/-- The header that bytes begin with: its cells. -/
def rdC (zs : List Int) : List Value := sgC (rdV zs 0) (rdV zs 2) (rdW zs 4) (rdW zs 8) (rdV zs 12 - 20480) (rdV zs 14)

set_option maxHeartbeats 1000000 in
theorem lread_ok (b off : Nat) (n c : Nat) (zs : List Int) (w : World) (hz : zs.length = n) (hB : Bs w (some ⟨b, off, none⟩) zs) (hn : 20 ≤ n) (hc : n ≤ c) (hq : rdQ zs) (hf : rdV zs 16 = rdF zs) :
    Calls Try.prog 17 #[.slice (some ⟨b, off, none⟩) n c] w fun e w' => e = .returned (.tuple #[.agg (rdC zs).toArray, .int .i64 0]) ∧ Below w.heap.size w w' := by
  have KW : Hid (∀ (u : World) (k : Nat), RdJ w u → k + 4 ≤ n → Calls Try.prog 29 #[.slice (some ⟨b, off, none⟩) n c, .int .i64 k] u fun e u' => e = .returned (.int .u32 (rdW zs k)) ∧ Dr u u') := Hid.mk' (fun u k h hk => get32_any b off n c k zs u hz (hB.below h.old) hk)
  obtain ⟨RES, HRES⟩ : ∃ RES, Hid (rdC zs = RES) := ⟨_, rfl⟩
  rw [HRES.out]
  have hln : n ≤ 140737488355328 := by rw [← hz]; exact hB.len
  have J1 := Hid.mk' (RdJ.first w)
  have KG : Hid (∀ (u : World) (k : Nat), RdJ w u → k + 2 ≤ n → Calls Try.prog 28 #[.slice (some ⟨b, off, none⟩) n c, .int .i64 k] u fun e u' => e = .returned (.int .u16 (rdV zs k)) ∧ Dr u u') := Hid.mk' (fun u k h hk => get16_any b off n c k zs u hz (hB.below h.old) hk)
  obtain ⟨A0, hA0⟩ : ∃ A0 : Addr, (if c = 20 then some (⟨b, off, none⟩ : Addr) else some ⟨b, off + 20, none⟩) = some A0 := by split <;> exact ⟨_, rfl⟩
  have KF : Hid (∀ (u : World) (c9 : Nat), RdJ w u → Calls Try.prog 24 #[.slice (some ⟨b, off, none⟩) 20 c, .slice (some A0) (n - 20) c9] u fun e u' => e = .returned (.int .u16 (rdF zs)) ∧ Dr u u') := Hid.mk' (fun u c9 h => field_pk b off n c c9 A0 zs u hz (hB.below h.old) hn hc hA0)
  obtain ⟨⟨q1, q2⟩, h18⟩ := hq
  have H18 := Hid.mk' h18
  clear hB hz h18
  obtain ⟨V12, H12⟩ : ∃ V, Hid (rdV zs 12 = V) := ⟨_, rfl⟩
  rw [H12.out] at q1 q2
  obtain ⟨V16, H16⟩ : ∃ V, Hid (rdV zs 16 = V) := ⟨_, rfl⟩
  obtain ⟨F, HF⟩ : ∃ F, Hid (rdF zs = F) := ⟨_, rfl⟩
  rw [H16.out, HF.out] at hf
  rw [HF.out] at KF
  subst hf
  have hfb : (V16 != V16) = false := by simp
  obtain ⟨X, hfl⟩ : ∃ X, IntKind.u16.wrap (V12 - 20480) = X := ⟨_, rfl⟩
  have hXe : X = (V12 - 20480) % 65536 := by rw [← hfl, IntKind.wrap_u16]
  have hX0 : 0 ≤ X := by omega
  have hX : ¬ 64 ≤ X := by omega
  have hcn : (n : Int) ≤ (c : Int) := by omega
  have hcS : (20 : Int) ≤ (n : Int) := by omega
  have hcc : (20 : Int) ≤ (c : Int) := by omega
  have HXE : Hid (X = V12 - 20480) := Hid.mk' (by omega)
  have hX1 : X ≤ 63 := by omega
  clear hXe q1 q2
  have K16 : Hid (∀ u : World, RdJ w u → Calls Try.prog 28 #[.slice (some ⟨b, off, none⟩) n c, .int .i64 16] u fun e u' => e = .returned (.int .u16 V16) ∧ Dr u u') := Hid.mk' (fun u h => by rw [← H16.out]; exact KG.out u 16 h (by omega))
  go_enter Try.func17, Try.ntmps17
  go_wp2_with (first | (go_at_call_of 28 (Value.int IntKind.i64 12); refine (KG.out _ 12 J1.out (by omega)).mono ?_; rw [H12.out]; rintro e w2 ⟨rfl, d2⟩; have J2 := Hid.mk' (J1.out.dr d2); clear d2) | (go_at_call_of 28 (Value.int IntKind.i64 18); refine (KG.out _ 18 J2.out (by omega)).mono ?_; rw [H18.out]; rintro e w3 ⟨rfl, d3⟩; have J3 := Hid.mk' (J2.out.dr d3); clear d3))
  go_quiet (first | (go_at_call 28; exact Calls.quiet_of (K16.out _ (J3.out.dr ⟨_, rfl⟩))) | (go_at_call 24; exact Calls.quiet_of (KF.out _ _ (J3.out.dr ⟨_, rfl⟩))))
  have J4 : Hid (RdJ w (w3.drewN nq)) := Hid.mk' (J3.out.dr ⟨_, rfl⟩)
  generalize w3.drewN nq = w4 at *
  obtain ⟨V0, H0⟩ : ∃ V, Hid (rdV zs 0 = V) := ⟨_, rfl⟩
  obtain ⟨V2, H2⟩ : ∃ V, Hid (rdV zs 2 = V) := ⟨_, rfl⟩
  obtain ⟨W4, H4⟩ : ∃ V, Hid (rdW zs 4 = V) := ⟨_, rfl⟩
  obtain ⟨W8, H8⟩ : ∃ V, Hid (rdW zs 8 = V) := ⟨_, rfl⟩
  obtain ⟨V14, H14⟩ : ∃ V, Hid (rdV zs 14 = V) := ⟨_, rfl⟩
  have HM : Hid (sgC V0 V2 W4 W8 X V14 = RES) := Hid.mk' (by rw [← HRES.out]; unfold rdC; rw [H0.out, H2.out, H4.out, H8.out, H14.out, H12.out, HXE.out])
  clear J1 J2 J3
  go_wp2_with (first | (go_at_call_of 28 (Value.int IntKind.i64 0); refine (KG.out _ 0 J4.out (by omega)).mono ?_; rw [H0.out]; rintro e w5 ⟨rfl, d5⟩; have J5 := Hid.mk' (J4.out.dr d5); clear d5) | (go_at_call_of 28 (Value.int IntKind.i64 2); refine (KG.out _ 2 J5.out (by omega)).mono ?_; rw [H2.out]; rintro e w6 ⟨rfl, d6⟩; have J6 := Hid.mk' (J5.out.dr d6); clear d6) | (go_at_call_of 29 (Value.int IntKind.i64 4); refine (KW.out _ 4 J6.out (by omega)).mono ?_; rw [H4.out]; rintro e w7 ⟨rfl, d7⟩; have J7 := Hid.mk' (J6.out.dr d7); clear d7) | (go_at_call_of 29 (Value.int IntKind.i64 8); refine (KW.out _ 8 J7.out (by omega)).mono ?_; rw [H8.out]; rintro e w8 ⟨rfl, d8⟩; have J8 := Hid.mk' (J7.out.dr d8); clear d8) | (go_at_call_of 28 (Value.int IntKind.i64 14); refine (KG.out _ 14 J8.out (by omega)).mono ?_; rw [H14.out]; rintro e w9 ⟨rfl, d9⟩; have J9 := Hid.mk' (J8.out.dr d9); clear d9) | refine wpList_store_mid rfl 25 _ _ rfl w.heap.size 0 (sgC V0 V2 W4 W8 X V14).toArray rfl rfl J9.out.there info_hd (sgC_one _ _ _ _ _ _) ?_)
  refine ret_cell_tmp rfl w.heap.size 25 (sgC V0 V2 W4 W8 X V14) (0, 0) _ rfl (J9.out.done _ rfl).1 Try.underlying25 rfl info_hd rfl ?_
  rw [HM.out]
  exact ⟨rfl, by rw [← HM.out]; exact (J9.out.done _ rfl).2⟩
end Go.Proofs.Ytoakinmgjiklhaa
