/- The contract of net4.Read. -/
import Derived.Test.YtmeodhdmnoglcaaUb
import Derived.Deep.RegionHeld3
namespace Go.Proofs.Ytmeodhdmnoglcaa
open Go.ChangeShapes Go.WideShapes Go.ChangeAt Go.RowKit

/-- Cells of a header that is none. -/
def hd0 : List Value := [.int .u8 0, .int .u8 0, .int .u8 0, .int .u16 0, .int .u8 0, .int .u8 0, .int .u8 0, .int .u8 0, .int .u8 0, .int .u8 0, .int .u8 0, .int .u8 0]
theorem hd0_one : hd0.toArray.all (·.oneCell') = true := n4C_one 0 0 0 0 [0, 0, 0, 0] [0, 0, 0, 0]

/-- Two bytes as a number. -/
def rdV (zs : List Int) (k : Nat) : Int := zs.getD k 0 * 256 + zs.getD (k + 1) 0
theorem rdV_bd {zs : List Int} (h : Bytes zs) (k : Nat) : 0 ≤ rdV zs k ∧ rdV zs k ≤ 65535 := by
  have h0 := h.getD k
  have h1 := h.getD (k + 1)
  unfold rdV; omega

set_option maxHeartbeats 400000 in
theorem lread_short (a : Option Addr) (n c : Nat) (w : World) (hn : n < 20) :
    Calls Try.prog 17 #[.slice a n c] w fun e w' => e = .returned (.tuple #[.agg hd0.toArray, .int .i64 6]) ∧ Below w.heap.size w w' := by
  go_enter Try.func17, Try.ntmps17
  go_wp2_with fail
  refine ret_cell_tmp rfl w.heap.size 25 hd0 (0, 0) _ rfl (heap_alloc_new w _) Try.underlying25 rfl info_hd rfl ?_
  exact ⟨rfl, (Below.refl _ _).alloc (Nat.le_refl _) _⟩

/-- What holds where Read has only looked: the box of its result, which is none yet. -/
structure RdJ (w u : World) : Prop where
  box : u.heap[w.heap.size]? = some (.cells hd0.toArray 25 (0, 0))
  old : Below w.heap.size w u
theorem RdJ.first (w : World) : RdJ w (w.alloc (.cells hd0.toArray 25)) := ⟨heap_alloc_new w _, (Below.refl _ _).alloc (Nat.le_refl _) _⟩
theorem RdJ.below {w u v : World} (h : RdJ w u) (b : Below u.heap.size u v) : RdJ w v :=
  ⟨(b.block _ (Array.getElem?_eq_some_iff.1 h.box).1).trans h.box, h.old.trans (b.mono h.old.size)⟩
theorem RdJ.dr {w u v : World} (h : RdJ w u) (d : Dr u v) : RdJ w v := h.below (d.below _)
theorem RdJ.there {w u : World} (h : RdJ w u) : u.there w.heap.size 0 hd0.toArray.size := there_block h.box
/-- .. and where a header is stored there. -/
theorem RdJ.done {w u : World} (h : RdJ w u) (M : List Value) (hl : M.length = 12) : (u.setCells w.heap.size 0 M).heap[w.heap.size]? = some (.cells M.toArray 25 (0, 0)) ∧ Below w.heap.size w (u.setCells w.heap.size 0 M) :=
  ⟨heap_whole (L := hd0) h.box (by rw [hl]; rfl), h.old.trans (((Kept.refl (fun k => k = w.heap.size) u).setCells w.heap.size 0 M (fun _ => rfl)).below h.old.size (fun k hk => by omega))⟩

/-- Read's first questions. -/
abbrev rdQ (zs : List Int) : Prop := zs.getD 0 0 = 69 ∧ rdV zs 6 = 0 ∧ rdV zs 2 = (zs.length : Int)

set_option maxHeartbeats 1000000 in
theorem lread_bad (b off : Nat) (n c : Nat) (zs : List Int) (w : World) (hz : zs.length = n) (hB : Bs w (some ⟨b, off, none⟩) zs) (hn : 20 ≤ n) (hq : ¬ rdQ zs) :
    Calls Try.prog 17 #[.slice (some ⟨b, off, none⟩) n c] w fun e w' => e = .returned (.tuple #[.agg hd0.toArray, .int .i64 70]) ∧ Below w.heap.size w w' := by
  have hln : n ≤ 140737488355328 := by rw [← hz]; exact hB.len
  have J1 := Hid.mk' (RdJ.first w)
  have KG : Hid (∀ (u : World) (k : Nat), RdJ w u → k + 2 ≤ n → Calls Try.prog 26 #[.slice (some ⟨b, off, none⟩) n c, .int .i64 k] u fun e u' => e = .returned (.int .u16 (rdV zs k)) ∧ Dr u u') := Hid.mk' (fun u k h hk => get16_any b off n c k zs u hz (hB.below h.old) hk)
  have cc : w.cell? ⟨b, off, none⟩ = some (.int .u8 (zs.getD 0 0)) := by
    rcases hB.lies with h0 | ⟨b', off', e, hc⟩
    · omega
    · cases e; exact hc 0 (by omega)
  have hlt := lt_of_cell cc
  have hlt' : b < w.heap.size := hlt
  have hne : ¬ b = w.heap.size := by omega
  unfold rdQ at hq
  rw [hz] at hq
  have z0 := hB.bytes.getD 0
  have v6 := rdV_bd hB.bytes 6
  have v2 := rdV_bd hB.bytes 2
  clear hB hz hlt
  generalize zs.getD 0 0 = x at *
  obtain ⟨V6, H6⟩ : ∃ V6, Hid (rdV zs 6 = V6) := ⟨_, rfl⟩
  obtain ⟨V2, H2⟩ : ∃ V2, Hid (rdV zs 2 = V2) := ⟨_, rfl⟩
  rw [H6.out] at hq v6
  rw [H2.out] at hq v2
  by_cases hx : x = 69
  · subst hx
    by_cases h6 : V6 = 0
    · subst h6
      have h2 : ¬ V2 = (n : Int) := fun e => hq ⟨rfl, rfl, e⟩
      have h2b : (V2 != (n : Int)) = true := by simpa using h2
      go_enter Try.func17, Try.ntmps17
      go_wp2_with (first | (go_at_call_of 26 (Value.int IntKind.i64 6); refine (KG.out _ 6 J1.out (by omega)).mono ?_; rw [H6.out]; rintro e w2 ⟨rfl, d2⟩; have J2 := Hid.mk' (J1.out.dr d2); clear d2) | (go_at_call_of 26 (Value.int IntKind.i64 2); refine (KG.out _ 2 J2.out (by omega)).mono ?_; rw [H2.out]; rintro e w3 ⟨rfl, d3⟩; have J3 := Hid.mk' (J2.out.dr d3); clear d3) | refine wpList_store_mid rfl 25 _ _ rfl w.heap.size 0 hd0.toArray rfl rfl J3.out.there info_hd hd0_one ?_)
      refine ret_cell_tmp rfl w.heap.size 25 hd0 (0, 0) _ rfl (J3.out.done hd0 rfl).1 Try.underlying25 rfl info_hd rfl ?_
      exact ⟨rfl, (J3.out.done hd0 rfl).2⟩
    · have h6b : (V6 != 0) = true := by simpa using h6
      go_enter Try.func17, Try.ntmps17
      go_wp2_with (first | (go_at_call_of 26 (Value.int IntKind.i64 6); refine (KG.out _ 6 J1.out (by omega)).mono ?_; rw [H6.out]; rintro e w2 ⟨rfl, d2⟩; have J2 := Hid.mk' (J1.out.dr d2); clear d2) | refine wpList_store_mid rfl 25 _ _ rfl w.heap.size 0 hd0.toArray rfl rfl J2.out.there info_hd hd0_one ?_)
      refine ret_cell_tmp rfl w.heap.size 25 hd0 (0, 0) _ rfl (J2.out.done hd0 rfl).1 Try.underlying25 rfl info_hd rfl ?_
      exact ⟨rfl, (J2.out.done hd0 rfl).2⟩
  · have hxb : (x != 69) = true := by simpa using hx
    go_enter Try.func17, Try.ntmps17
    go_wp2_with (first | refine wpList_store_mid rfl 25 _ _ rfl w.heap.size 0 hd0.toArray rfl rfl J1.out.there info_hd hd0_one ?_)
    refine ret_cell_tmp rfl w.heap.size 25 hd0 (0, 0) _ rfl (J1.out.done hd0 rfl).1 Try.underlying25 rfl info_hd rfl ?_
    exact ⟨rfl, (J1.out.done hd0 rfl).2⟩
/-- The field that bytes should have. -/
def rdF (zs : List Int) : Int := 65535 - su (zf zs) 20

set_option maxHeartbeats 1000000 in
theorem lread_sum (b off : Nat) (n c : Nat) (zs : List Int) (w : World) (hz : zs.length = n) (hB : Bs w (some ⟨b, off, none⟩) zs) (hn : 20 ≤ n) (hq : rdQ zs) (hf : ¬ rdV zs 10 = rdF zs) :
    Calls Try.prog 17 #[.slice (some ⟨b, off, none⟩) n c] w fun e w' => e = .returned (.tuple #[.agg hd0.toArray, .int .i64 110]) ∧ Below w.heap.size w w' := by
  have hln : n ≤ 140737488355328 := by rw [← hz]; exact hB.len
  have J1 := Hid.mk' (RdJ.first w)
  have KG : Hid (∀ (u : World) (k : Nat), RdJ w u → k + 2 ≤ n → Calls Try.prog 26 #[.slice (some ⟨b, off, none⟩) n c, .int .i64 k] u fun e u' => e = .returned (.int .u16 (rdV zs k)) ∧ Dr u u') := Hid.mk' (fun u k h hk => get16_any b off n c k zs u hz (hB.below h.old) hk)
  have KF : Hid (∀ u : World, RdJ w u → Calls Try.prog 23 #[.slice (some ⟨b, off, none⟩) n c] u fun e u' => e = .returned (.int .u16 (rdF zs)) ∧ Below u.heap.size u u') := Hid.mk' (fun u h => fieldOf_any _ n c zs u hz (hB.below h.old) hn)
  have c0 : w.cell? ⟨b, off, none⟩ = some (.int .u8 (zs.getD 0 0)) := by
    rcases hB.lies with h0 | ⟨b', off', e, hc⟩
    · omega
    · cases e; exact hc 0 (by omega)
  have hlt := lt_of_cell c0
  have hlt' : b < w.heap.size := hlt
  have hne : ¬ b = w.heap.size := by omega
  obtain ⟨hx, h6, h2⟩ := hq
  rw [hz] at h2
  rw [hx] at c0
  have H6 := Hid.mk' h6
  have H2 := Hid.mk' h2
  clear hB hz hlt hx h6 h2
  obtain ⟨V10, H10⟩ : ∃ V, Hid (rdV zs 10 = V) := ⟨_, rfl⟩
  obtain ⟨F, HF⟩ : ∃ F, Hid (rdF zs = F) := ⟨_, rfl⟩
  rw [H10.out, HF.out] at hf
  have hfb : (V10 != F) = true := by simpa using hf
  have hnb : ((n : Int) != (n : Int)) = false := by simp
  go_enter Try.func17, Try.ntmps17
  go_wp2_with (first | (go_at_call_of 26 (Value.int IntKind.i64 6); refine (KG.out _ 6 J1.out (by omega)).mono ?_; rw [H6.out]; rintro e w2 ⟨rfl, d2⟩; have J2 := Hid.mk' (J1.out.dr d2); clear d2) | (go_at_call_of 26 (Value.int IntKind.i64 2); refine (KG.out _ 2 J2.out (by omega)).mono ?_; rw [H2.out]; rintro e w3 ⟨rfl, d3⟩; have J3 := Hid.mk' (J2.out.dr d3); clear d3) | (go_at_call_of 26 (Value.int IntKind.i64 10); refine (KG.out _ 10 J3.out (by omega)).mono ?_; rw [H10.out]; rintro e w4 ⟨rfl, d4⟩; have J4 := Hid.mk' (J3.out.dr d4); clear d4) | (go_at_call 23; refine (KF.out _ J4.out).mono ?_; rw [HF.out]; rintro e w5 ⟨rfl, b5⟩; have J5 := Hid.mk' (J4.out.below b5); clear b5) | refine wpList_store_mid rfl 25 _ _ rfl w.heap.size 0 hd0.toArray rfl rfl J5.out.there info_hd hd0_one ?_)
  refine ret_cell_tmp rfl w.heap.size 25 hd0 (0, 0) _ rfl (J5.out.done hd0 rfl).1 Try.underlying25 rfl info_hd rfl ?_
  exact ⟨rfl, (J5.out.done hd0 rfl).2⟩

/-- The header that bytes begin with: its cells. -/
def rdC (zs : List Int) : List Value := n4C (zs.getD 1 0) (zs.getD 8 0) (zs.getD 9 0) (rdV zs 4) ((zs.drop 12).take 4) ((zs.drop 16).take 4)

theorem n4_of {zs : List Int} (hb : Bytes zs) (hl : 20 ≤ zs.length) : N4 (zs.getD 1 0) (zs.getD 8 0) (zs.getD 9 0) (rdV zs 4) ((zs.drop 12).take 4) ((zs.drop 16).take 4) :=
  ⟨(hb.getD 1).1, (hb.getD 1).2, (hb.getD 8).1, (hb.getD 8).2, (hb.getD 9).1, (hb.getD 9).2, (rdV_bd hb 4).1, (rdV_bd hb 4).2, by simp; omega, by simp; omega, fun z hz => hb z (List.mem_of_mem_drop (List.mem_of_mem_take hz)), fun z hz => hb z (List.mem_of_mem_drop (List.mem_of_mem_take hz))⟩

set_option maxHeartbeats 1000000 in
theorem lread_ok (b off : Nat) (n c : Nat) (zs : List Int) (w : World) (hz : zs.length = n) (hB : Bs w (some ⟨b, off, none⟩) zs) (hn : 20 ≤ n) (hc : n ≤ c) (hq : rdQ zs) (hf : rdV zs 10 = rdF zs) :
    Calls Try.prog 17 #[.slice (some ⟨b, off, none⟩) n c] w fun e w' => e = .returned (.tuple #[.agg (rdC zs).toArray, .int .i64 0]) ∧ Below w.heap.size w w' := by
  obtain ⟨RES, HRES⟩ : ∃ RES, Hid (rdC zs = RES) := ⟨_, rfl⟩
  rw [HRES.out]
  have hln : n ≤ 140737488355328 := by rw [← hz]; exact hB.len
  have J1 := Hid.mk' (RdJ.first w)
  have KG : Hid (∀ (u : World) (k : Nat), RdJ w u → k + 2 ≤ n → Calls Try.prog 26 #[.slice (some ⟨b, off, none⟩) n c, .int .i64 k] u fun e u' => e = .returned (.int .u16 (rdV zs k)) ∧ Dr u u') := Hid.mk' (fun u k h hk => get16_any b off n c k zs u hz (hB.below h.old) hk)
  have KF : Hid (∀ u : World, RdJ w u → Calls Try.prog 23 #[.slice (some ⟨b, off, none⟩) n c] u fun e u' => e = .returned (.int .u16 (rdF zs)) ∧ Below u.heap.size u u') := Hid.mk' (fun u h => fieldOf_any _ n c zs u hz (hB.below h.old) hn)
  have c0 : w.cell? ⟨b, off, none⟩ = some (.int .u8 (zs.getD 0 0)) := by
    rcases hB.lies with h0 | ⟨b', off', e, hc⟩
    · omega
    · cases e; exact hc 0 (by omega)
  have hlt := lt_of_cell c0
  have hlt' : b < w.heap.size := hlt
  have hne : ¬ b = w.heap.size := by omega
  obtain ⟨hx, h6, h2⟩ := hq
  rw [hz] at h2
  rw [hx] at c0
  have H6 := Hid.mk' h6
  have H2 := Hid.mk' h2
  have CE : Hid (∀ u, RdJ w u → u.cell? ⟨b, off + 1, none⟩ = some (.int .u8 (zs.getD 1 0)) ∧ u.cell? ⟨b, off + 8, none⟩ = some (.int .u8 (zs.getD 8 0)) ∧ u.cell? ⟨b, off + 9, none⟩ = some (.int .u8 (zs.getD 9 0))) := Hid.mk' (fun u h => by
    rcases (hB.below h.old).lies with h0 | ⟨b', off', e, hc⟩
    · omega
    · cases e; exact ⟨hc 1 (by omega), hc 8 (by omega), hc 9 (by omega)⟩)
  have HB := Hid.mk' hB
  have HN := Hid.mk' hz
  have v4 := rdV_bd hB.bytes 4
  have HN4 := Hid.mk' (n4_of hB.bytes (by rw [hz]; exact hn))
  clear hB hz hlt hx h6 h2
  obtain ⟨F, HF⟩ : ∃ F, Hid (rdF zs = F) := ⟨_, rfl⟩
  rw [HF.out] at hf
  have H10 := Hid.mk' hf
  clear hf
  obtain ⟨V4, H4⟩ : ∃ V, Hid (rdV zs 4 = V) := ⟨_, rfl⟩
  obtain ⟨x1, HX1⟩ : ∃ x, Hid (zs.getD 1 0 = x) := ⟨_, rfl⟩
  obtain ⟨x8, HX8⟩ : ∃ x, Hid (zs.getD 8 0 = x) := ⟨_, rfl⟩
  obtain ⟨x9, HX9⟩ : ∃ x, Hid (zs.getD 9 0 = x) := ⟨_, rfl⟩
  rw [HX1.out, HX8.out, HX9.out] at CE
  rw [H4.out] at v4
  obtain ⟨v40, v41⟩ := v4
  have hfb : (F != F) = false := by simp
  have hnb : ((n : Int) != (n : Int)) = false := by simp
  have k1 : (1 : Int) < (n : Int) := by omega
  have k8 : (8 : Int) < (n : Int) := by omega
  have k9 : (9 : Int) < (n : Int) := by omega
  go_enter Try.func17, Try.ntmps17
  go_wp2_with (first | (go_at_call_of 26 (Value.int IntKind.i64 6); refine (KG.out _ 6 J1.out (by omega)).mono ?_; rw [H6.out]; rintro e w2 ⟨rfl, d2⟩; have J2 := Hid.mk' (J1.out.dr d2); clear d2) | (go_at_call_of 26 (Value.int IntKind.i64 2); refine (KG.out _ 2 J2.out (by omega)).mono ?_; rw [H2.out]; rintro e w3 ⟨rfl, d3⟩; have J3 := Hid.mk' (J2.out.dr d3); clear d3) | (go_at_call_of 26 (Value.int IntKind.i64 10); refine (KG.out _ 10 J3.out (by omega)).mono ?_; rw [H10.out]; rintro e w4 ⟨rfl, d4⟩; have J4 := Hid.mk' (J3.out.dr d4); clear d4) | (go_at_call 23; refine (KF.out _ J4.out).mono ?_; rw [HF.out]; rintro e w5 ⟨rfl, b5⟩; have J5 := Hid.mk' (J4.out.below b5); clear b5))
  obtain ⟨q1, q8, q9⟩ := CE.out _ J5.out
  have hlt5 : b < w5.heap.size := lt_of_cell q1
  have hne5 : ¬ b = w5.heap.size := by omega
  clear J1 J2 J3 J4 c0 hlt' hne
  have hds : ∀ (u : World) (m : Nat) (a : Addr) (v : Value), (u.drewN m).setCell a v = (u.setCell a v).drewN m := fun _ _ _ _ => rfl
  have hda : ∀ (u : World) (m : Nat) (o : Obj), (u.drewN m).alloc o = (u.alloc o).drewN m := fun _ _ _ => rfl
  go_region_held3 (fun w' => w'.cell? ⟨b, off + 1, none⟩ = some (.int .u8 x1) ∧ w'.cell? ⟨b, off + 8, none⟩ = some (.int .u8 x8) ∧ w'.cell? ⟨b, off + 9, none⟩ = some (.int .u8 x9)) (go_keep) (first | (go_at_call 26; refine (KG.out _ 4 (by first | exact J5.out.dr ⟨1, rfl⟩ | exact (J5.out.below ((Below.refl _ _).alloc (Nat.le_refl _) _)).dr ⟨1, rfl⟩ | exact J5.out.dr ⟨_, rfl⟩ | exact (J5.out.below ((Below.refl _ _).alloc (Nat.le_refl _) _)).dr ⟨_, rfl⟩) (by omega)).mono ?_; rw [H4.out]; rintro e w6 ⟨rfl, n6, rfl⟩))
  all_goals
    obtain ⟨W7, hW7⟩ : ∃ W7, W7 = (w5.alloc (.cells #[.int .u8 x1, .int .u8 x8, .int .u8 x9, .int .u16 V4, .int .u8 0, .int .u8 0, .int .u8 0, .int .u8 0, .int .u8 0, .int .u8 0, .int .u8 0, .int .u8 0] 25)).drewN (1 + n6) := ⟨_, rfl⟩
    rw [← hW7]
    have J7 : Hid (RdJ w W7) := Hid.mk' (by rw [hW7]; exact (J5.out.below ((Below.refl _ _).alloc (Nat.le_refl _) _)).dr ⟨_, rfl⟩)
    have SZ : Hid (w.heap.size < w5.heap.size) := Hid.mk' (Array.getElem?_eq_some_iff.1 J5.out.box).1
    obtain ⟨HD, HHD⟩ : ∃ HD : List Value, Hid ([.int .u8 x1, .int .u8 x8, .int .u8 x9, .int .u16 V4] = HD) := ⟨_, rfl⟩
    obtain ⟨Q4, HQ4⟩ : ∃ Q4 : List Value, Hid ([.int .u8 0, .int .u8 0, .int .u8 0, .int .u8 0] = Q4) := ⟨_, rfl⟩
    have Q7 : Hid (W7.heap[w5.heap.size]? = some (.cells (HD ++ (Q4 ++ Q4)).toArray 25 (0, 0))) := Hid.mk' (by rw [hW7, ← HHD.out, ← HQ4.out]; exact heap_alloc_new w5 _)
    have hhl : Hid (HD.length = 4) := Hid.mk' (by rw [← HHD.out]; rfl)
    have hql : Hid (Q4.length = 4) := Hid.mk' (by rw [← HQ4.out]; rfl)
    clear hW7 q1 q8 q9 hlt5 hne5 J5 hds hda
    have c12 : (12 : Int) ≤ (c : Int) := by omega
    have c16 : (16 : Int) ≤ (c : Int) := by omega
    have c20 : (20 : Int) ≤ (c : Int) := by omega
    have n12 : ¬ c = 12 := by omega
    have n16 : ¬ c = 16 := by omega
    go_wp2_with fail
    have T7 : Hid (Bs W7.drew (some ⟨b, off + 12, none⟩) ((zs.drop 12).take 4)) := (((HB.out.below J7.out.old).below ((Below.refl _ _).drew)).drop 12).take 4 (by rw [List.length_drop, HN.out]; omega)
    go_region_law (refine step_copy rfl _ _ rfl w5.heap.size 4 4 4 (c - 12) (some ⟨b, off + 12, none⟩) rfl rfl ((zs.drop 12).take 4) _ 25 Q7.out T7.out HN4.out.sl (by simp [hhl.out, hql.out]) ?_; intro w8 hg8 hk8; have Q8 := Hid.mk' hg8; have K8 := Hid.mk' hk8; clear hg8 hk8)
    have J8 : Hid (RdJ w w8) := Hid.mk' ⟨(K8.out.block w.heap.size (by have := (Array.getElem?_eq_some_iff.1 J7.out.box).1; exact this) (by have := SZ.out; omega)).trans J7.out.box, J7.out.old.drew.trans (K8.out.below J7.out.old.size (fun k hk => by have := SZ.out; omega))⟩
    rw [put_mid _ _ _ _ 4 hhl.out.symm (by rw [List.length_map, HN4.out.sl, hql.out])] at Q8
    clear K8 J7 Q7 T7
    go_wp2_with fail
    have T8 : Hid (Bs w8.drew (some ⟨b, off + 16, none⟩) ((zs.drop 16).take 4)) := (((HB.out.below J8.out.old).below ((Below.refl _ _).drew)).drop 16).take 4 (by rw [List.length_drop, HN.out]; omega)
    rw [← List.append_nil Q4, ← List.append_assoc] at Q8
    go_region_law (refine step_copy rfl _ _ rfl w5.heap.size 8 4 4 (c - 16) (some ⟨b, off + 16, none⟩) rfl rfl ((zs.drop 16).take 4) _ 25 Q8.out T8.out HN4.out.dl (by simp only [List.length_append, List.length_map, hhl.out, hql.out, HN4.out.sl]; omega) ?_; intro w9 hg9 hk9; have Q9 := Hid.mk' hg9; have K9 := Hid.mk' hk9; clear hg9 hk9)
    have J9 : Hid (RdJ w w9) := Hid.mk' ⟨(K9.out.block w.heap.size (by have := (Array.getElem?_eq_some_iff.1 J8.out.box).1; exact this) (by have := SZ.out; omega)).trans J8.out.box, J8.out.old.drew.trans (K9.out.below J8.out.old.size (fun k hk => by have := SZ.out; omega))⟩
    rw [put_mid _ _ _ _ 8 (by simp only [List.length_append, List.length_map, hhl.out, HN4.out.sl]) (by rw [List.length_map, HN4.out.dl, hql.out]), List.append_nil, List.append_assoc] at Q9
    have HLR : Hid (HD ++ (((zs.drop 12).take 4).map (Value.int .u8) ++ ((zs.drop 16).take 4).map (Value.int .u8)) = RES) := Hid.mk' (by rw [← HRES.out, ← HHD.out, ← HX1.out, ← HX8.out, ← HX9.out, ← H4.out]; rfl)
    have hlr : Hid (RES.length = 12) := Hid.mk' (by rw [← HRES.out]; exact n4C_length HN4.out)
    have hone : Hid (RES.toArray.all (·.oneCell') = true) := Hid.mk' (by rw [← HRES.out]; exact n4C_one _ _ _ _ _ _)
    rw [HLR.out] at Q9
    have hth : Hid (w9.there w.heap.size 0 RES.toArray.size) := Hid.mk' (by
      have e : RES.toArray.size = hd0.toArray.size := by rw [List.size_toArray, hlr.out]; rfl
      rw [e]; exact J9.out.there)
    clear K9 J8 Q8 T8
    go_wp2_with (first | refine wpList_store_mid rfl 25 _ _ rfl w.heap.size 0 RES.toArray rfl rfl hth.out (by rw [List.size_toArray, hlr.out]; exact info_hd) hone.out ?_ | refine wpList_load_mid rfl 25 _ rfl w5.heap.size 0 rfl RES _ (range_block Q9.out) Try.underlying25 rfl (by rw [hlr.out]; exact info_hd) ?_)
    refine ret_cell_tmp rfl w.heap.size 25 RES (0, 0) _ rfl (J9.out.done RES hlr.out).1 Try.underlying25 rfl (by rw [hlr.out]; exact info_hd) rfl ?_
    exact ⟨rfl, (J9.out.done RES hlr.out).2⟩
end Go.Proofs.Ytmeodhdmnoglcaa
