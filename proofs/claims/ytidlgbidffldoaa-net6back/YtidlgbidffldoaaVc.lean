/- The contract of net6.Read. -/
import Derived.Test.YtidlgbidffldoaaVb
import Derived.Deep.RegionHeld3
namespace Go.Proofs.Ytidlgbidffldoaa
open Go.ChangeShapes Go.WideShapes Go.ChangeAt Go.RowKit

/-- Cells of a header that is none. -/
def hd0 : List Value := [.int .u8 0, .int .u32 0, .int .u8 0, .int .u8 0, .int .u8 0, .int .u8 0, .int .u8 0, .int .u8 0, .int .u8 0, .int .u8 0, .int .u8 0, .int .u8 0, .int .u8 0, .int .u8 0, .int .u8 0, .int .u8 0, .int .u8 0, .int .u8 0, .int .u8 0, .int .u8 0, .int .u8 0, .int .u8 0, .int .u8 0, .int .u8 0, .int .u8 0, .int .u8 0, .int .u8 0, .int .u8 0, .int .u8 0, .int .u8 0, .int .u8 0, .int .u8 0, .int .u8 0, .int .u8 0, .int .u8 0, .int .u8 0]
theorem hd0_one : hd0.toArray.all (·.oneCell') = true := n6C_one 0 0 0 0 [0, 0, 0, 0, 0, 0, 0, 0, 0, 0, 0, 0, 0, 0, 0, 0] [0, 0, 0, 0, 0, 0, 0, 0, 0, 0, 0, 0, 0, 0, 0, 0]

/-- What holds where Read has only looked: the box of its result, which is none yet. -/
structure RdJ (w u : World) : Prop where
  box : u.heap[w.heap.size]? = some (.cells hd0.toArray 25 (0, 0))
  old : Below w.heap.size w u
theorem RdJ.first (w : World) : RdJ w (w.alloc (.cells hd0.toArray 25)) := ⟨heap_alloc_new w _, (Below.refl _ _).alloc (Nat.le_refl _) _⟩
theorem RdJ.below {w u v : World} (h : RdJ w u) (b : Below u.heap.size u v) : RdJ w v :=
  ⟨(b.block _ (Array.getElem?_eq_some_iff.1 h.box).1).trans h.box, h.old.trans (b.mono h.old.size)⟩
theorem RdJ.dr {w u v : World} (h : RdJ w u) (d : Dr u v) : RdJ w v := h.below (d.below _)
theorem RdJ.there {w u : World} (h : RdJ w u) : u.there w.heap.size 0 hd0.toArray.size := there_block h.box
/-- .. and where a header is stored there. -/
theorem RdJ.done {w u : World} (h : RdJ w u) (M : List Value) (hl : M.length = 36) : (u.setCells w.heap.size 0 M).heap[w.heap.size]? = some (.cells M.toArray 25 (0, 0)) ∧ Below w.heap.size w (u.setCells w.heap.size 0 M) :=
  ⟨heap_whole (L := hd0) h.box (by rw [hl]; rfl), h.old.trans (((Kept.refl (fun k => k = w.heap.size) u).setCells w.heap.size 0 M (fun _ => rfl)).below h.old.size (fun k hk => by omega))⟩

set_option maxHeartbeats 400000 in
theorem lread_short (a : Option Addr) (n c : Nat) (w : World) (hn : n < 40) :
    Calls Try.prog 17 #[.slice a n c] w fun e w' => e = .returned (.tuple #[.agg hd0.toArray, .int .i64 6]) ∧ Below w.heap.size w w' := by
  have J1 := Hid.mk' (RdJ.first w)
  go_enter Try.func17, Try.ntmps17
  go_wp2_with (first | refine wpList_store_mid rfl 25 _ _ rfl w.heap.size 0 hd0.toArray rfl rfl J1.out.there info_hd hd0_one ?_)
  refine ret_cell_tmp rfl w.heap.size 25 hd0 (0, 0) _ rfl (J1.out.done hd0 rfl).1 Try.underlying25 rfl info_hd rfl ?_
  exact ⟨rfl, (J1.out.done hd0 rfl).2⟩

/-- Read's questions. -/
abbrev rdQ (zs : List Int) : Prop := rdW zs 0 / 268435456 = 6 ∧ rdV zs 4 = (zs.length : Int) - 40

set_option maxHeartbeats 1000000 in
theorem lread_bad (b off : Nat) (n c : Nat) (zs : List Int) (w : World) (hz : zs.length = n) (hB : Bs w (some ⟨b, off, none⟩) zs) (hn : 40 ≤ n) (hq : ¬ rdQ zs) :
    Calls Try.prog 17 #[.slice (some ⟨b, off, none⟩) n c] w fun e w' => e = .returned (.tuple #[.agg hd0.toArray, .int .i64 80]) ∧ Below w.heap.size w w' := by
  have hln : n ≤ 140737488355328 := by rw [← hz]; exact hB.len
  have J1 := Hid.mk' (RdJ.first w)
  have KG : Hid (∀ (u : World) (k : Nat), RdJ w u → k + 2 ≤ n → Calls Try.prog 25 #[.slice (some ⟨b, off, none⟩) n c, .int .i64 k] u fun e u' => e = .returned (.int .u16 (rdV zs k)) ∧ Dr u u') := Hid.mk' (fun u k h hk => get16_any b off n c k zs u hz (hB.below h.old) hk)
  have KW : Hid (∀ (u : World) (k : Nat), RdJ w u → k + 4 ≤ n → Calls Try.prog 24 #[.slice (some ⟨b, off, none⟩) n c, .int .i64 k] u fun e u' => e = .returned (.int .u32 (rdW zs k)) ∧ Dr u u') := Hid.mk' (fun u k h hk => get32_any b off n c k zs u hz (hB.below h.old) hk)
  unfold rdQ at hq
  rw [hz] at hq
  have v0 := rdW_bd hB.bytes 0
  have v4 := rdV_bd hB.bytes 4
  clear hB hz
  obtain ⟨M, HM⟩ : ∃ M, Hid (rdW zs 0 = M) := ⟨_, rfl⟩
  obtain ⟨V4, H4⟩ : ∃ V, Hid (rdV zs 4 = V) := ⟨_, rfl⟩
  rw [HM.out] at hq v0
  rw [H4.out] at hq v4
  obtain ⟨v00, v01⟩ := v0
  by_cases hx : M / 268435456 = 6
  · have h4 : ¬ V4 = (n : Int) - 40 := fun e => hq ⟨hx, e⟩
    have h4b : (V4 != (n : Int) - 40) = true := by simpa using h4
    have hxb : (M / 268435456 != 6) = false := by simpa using hx
    go_enter Try.func17, Try.ntmps17
    go_wp2_with (first | (go_at_call 24; refine (KW.out _ 0 J1.out (by omega)).mono ?_; rw [HM.out]; rintro e w2 ⟨rfl, d2⟩; have J2 := Hid.mk' (J1.out.dr d2); clear d2) | (go_at_call 25; refine (KG.out _ 4 J2.out (by omega)).mono ?_; rw [H4.out]; rintro e w3 ⟨rfl, d3⟩; have J3 := Hid.mk' (J2.out.dr d3); clear d3) | refine wpList_store_mid rfl 25 _ _ rfl w.heap.size 0 hd0.toArray rfl rfl J3.out.there info_hd hd0_one ?_)
    refine ret_cell_tmp rfl w.heap.size 25 hd0 (0, 0) _ rfl (J3.out.done hd0 rfl).1 Try.underlying25 rfl info_hd rfl ?_
    exact ⟨rfl, (J3.out.done hd0 rfl).2⟩
  · have hxb : (M / 268435456 != 6) = true := by simpa using hx
    go_enter Try.func17, Try.ntmps17
    go_wp2_with (first | (go_at_call 24; refine (KW.out _ 0 J1.out (by omega)).mono ?_; rw [HM.out]; rintro e w2 ⟨rfl, d2⟩; have J2 := Hid.mk' (J1.out.dr d2); clear d2) | refine wpList_store_mid rfl 25 _ _ rfl w.heap.size 0 hd0.toArray rfl rfl J2.out.there info_hd hd0_one ?_)
    refine ret_cell_tmp rfl w.heap.size 25 hd0 (0, 0) _ rfl (J2.out.done hd0 rfl).1 Try.underlying25 rfl info_hd rfl ?_
    exact ⟨rfl, (J2.out.done hd0 rfl).2⟩

/-- The header that bytes begin with: its cells. -/
def rdC (zs : List Int) : List Value := n6C (rdW zs 0 / 1048576 % 256) (rdW zs 0 % 1048576) (zs.getD 6 0) (zs.getD 7 0) ((zs.drop 8).take 16) ((zs.drop 24).take 16)

theorem n6_of {zs : List Int} (hb : Bytes zs) (hl : 40 ≤ zs.length) : N6 (rdW zs 0 / 1048576 % 256) (rdW zs 0 % 1048576) (zs.getD 6 0) (zs.getD 7 0) ((zs.drop 8).take 16) ((zs.drop 24).take 16) :=
  ⟨by omega, by omega, by omega, by omega, (hb.getD 6).1, (hb.getD 6).2, (hb.getD 7).1, (hb.getD 7).2, by simp; omega, by simp; omega, fun z hz => hb z (List.mem_of_mem_drop (List.mem_of_mem_take hz)), fun z hz => hb z (List.mem_of_mem_drop (List.mem_of_mem_take hz))⟩

end Go.Proofs.Ytidlgbidffldoaa
