/- TrackKnown: values that are decided, EqInts at two rows, the make of 258. -/
import Derived.Test.YtagnaefpkgekmabCq
namespace Go.Proofs.Ytagnaefpkgekmab
open Go.ChangeShapes Go.WideShapes Go.ChangeAt Go.RowKit Go.Maps Go.Sort Go.Shelf
set_option maxRecDepth 100000

theorem k_p2 : pvN two16 0 20 = ([(0, 20), (7, 4)], 0) := by decide +kernel
theorem k_p4 : pvN two16 0 3 = (two16, 0) := by decide +kernel
theorem k_p6 : pvN two16 7 9223372036854775807 = ([(0, 14), (7, 2048)], 0) := by decide +kernel
theorem k_p8 : pvN two16 3 0 = (two16, 0) := by decide +kernel
theorem k_p10 : pvN two16 (-1) 2 = ([], 2) := by decide +kernel
theorem k_p12 : pvN two16 3 (-1) = ([], 2) := by decide +kernel
theorem k_f14 : fgN two16 257 = ([], 2) := by decide +kernel
theorem k_w1 : wiN two16 (ptV 0 12) (-12) 1 = (true, 0) := by decide +kernel
theorem k_w2 : wiN two16 (ptV 0 12) (-13) 1 = (false, 0) := by decide +kernel
theorem k_w3 : wiN two16 (ptV 3 0) 0 1 = (false, 0) := by decide +kernel
theorem k_w4 : wiN two16 (ptV 0 0) 9223372036854775807 8 = (false, 0) := by decide +kernel
theorem k_w5 : wiN two16 (ptV 0 0) (-9223372036854775808) 8 = (false, 0) := by decide +kernel
def nuV : Vl := ⟨1, 0, 0, 0, 0⟩
def ebV : Vl := ⟨3, 0, 0, 0, 1⟩
theorem nu_in : nuV.In := ⟨⟨by decide, by decide⟩, ⟨by decide, by decide⟩, ⟨by decide, by decide⟩, ⟨by decide, by decide⟩, ⟨by decide, by decide⟩⟩
theorem eb_in : ebV.In := ⟨⟨by decide, by decide⟩, ⟨by decide, by decide⟩, ⟨by decide, by decide⟩, ⟨by decide, by decide⟩, ⟨by decide, by decide⟩⟩
theorem k_w6 : wiN two16 nuV 0 1 = (false, 171) := by decide +kernel
theorem k_w7 : wiN two16 (ptV 0 2049) 0 1 = (false, 171) := by decide +kernel
theorem k_w8 : wiN two16 (ptV 0 0) 0 9 = (false, 2) := by decide +kernel
theorem k_w9 : wiN two16 enV 0 0 = (false, 171) := by decide +kernel
theorem k_s1 : shN [] 27 true (ptV 0 0) enV = ([], 2) := by decide +kernel
theorem k_s2 : shN [] 29 true (ptV 0 0) (ptV 0 0) = ([], 171) := by decide +kernel
theorem k_s3 : shN [] 29 true enV enV = ([], 171) := by decide +kernel
theorem k_s4 : shN [] 29 true (ptV 0 0) ebV = ([], 171) := by decide +kernel
theorem k_s5 : shN [] 29 true (ptV 0 2048) enV = ([(0, 2048)], 0) := by decide +kernel
theorem k_c1 : ckN two16 = 0 := by decide +kernel
theorem k_c2 : ckN [(7, 4), (0, 14)] = 2 := by decide +kernel
theorem k_c3 : ckN [(0, 0)] = 2 := by decide +kernel
theorem k_c4 : ckN [(257, 1)] = 2 := by decide +kernel
theorem k_c5 : ckN [(256, 2048)] = 0 := by decide +kernel
theorem k_c6 : ckN [(0, 2049)] = 2 := by decide +kernel
def zeros : List Kn := List.replicate 258 (0, 0)
theorem k_c7 : ckN zeros = 3 := by decide +kernel
theorem k_c8 : ckN [] = 0 := by decide +kernel

/-- What Shown tells in the loop's rounds. -/
def opK (k : Nat) : Int := 29 + (k : Int) / 4
def yesK (k : Nat) : Bool := (k : Int) % 2 == 0
def zsK : List Int := [9, 0, 0, 8, 8, 0, 0, 9, 0, 8, 9, 0, 0, 9, 8, 0]
def lpB (k : Nat) : Bool :=
  let a := shN [] (opK k) (yesK k) (ptV 5 8) enV
  let b := shN [] (opK k) (yesK k) enV (ptV 5 8)
  inL a.1 && inL b.1 && decide (a.1.length ≤ 1) && decide (b.1.length ≤ 1) && (if 1 < k % 4 then decide (b.2 = 0) && decide (byN b.1 5 = zsK.getD k 0) else decide (a.2 = 0) && decide (byN a.1 5 = zsK.getD k 0))
theorem lpB_all : ∀ k, k < 16 → lpB k = true := by decide +kernel
theorem k_loop (k : Nat) (h : k < 16) : ∃ (l1 : List Kn) (e1 : Int) (l2 : List Kn) (e2 : Int), shN [] (29 + (k : Int) / 4) ((k : Int) % 2 == 0) (ptV 5 8) enV = (l1, e1) ∧ shN [] (29 + (k : Int) / 4) ((k : Int) % 2 == 0) enV (ptV 5 8) = (l2, e2) ∧
    (∀ p ∈ l1, In64 p.1 ∧ In64 p.2) ∧ (∀ p ∈ l2, In64 p.1 ∧ In64 p.2) ∧ l1.length ≤ 1 ∧ l2.length ≤ 1 ∧ (¬ 1 < k % 4 → e1 = 0 ∧ byN l1 5 = zsK.getD k 0) ∧ (1 < k % 4 → e2 = 0 ∧ byN l2 5 = zsK.getD k 0) := by
  have hh := lpB_all k h
  unfold lpB at hh
  obtain ⟨⟨l1, e1⟩, hA⟩ : ∃ A, shN [] (opK k) (yesK k) (ptV 5 8) enV = A := ⟨_, rfl⟩
  obtain ⟨⟨l2, e2⟩, hB⟩ : ∃ A, shN [] (opK k) (yesK k) enV (ptV 5 8) = A := ⟨_, rfl⟩
  simp only [hA, hB, Bool.and_eq_true, decide_eq_true_eq] at hh
  obtain ⟨⟨⟨⟨a1, a2⟩, a3⟩, a4⟩, a5⟩ := hh
  refine ⟨l1, e1, l2, e2, hA, hB, inL_of a1, inL_of a2, a3, a4, fun hn => ?_, fun hn => ?_⟩
  · rw [if_neg hn, Bool.and_eq_true, decide_eq_true_eq, decide_eq_true_eq] at a5
    exact a5
  · rw [if_pos hn, Bool.and_eq_true, decide_eq_true_eq, decide_eq_true_eq] at a5
    exact a5

theorem made258 : madeCells (Value.agg #[.int .i64 0, .int .i64 0]).cells 516 = (knC zeros).toArray := by kernel_rfl
theorem zeros_in : inL zeros = true := by decide +kernel
theorem make258 : ∀ u : World, (Instr.makeSlice 24 (.int .i64 258) (.int .i64 258)).run Try.prog u =
    .ok (.slice (some ⟨u.heap.size, 0, none⟩) 258 258) (u.alloc (.cells (knC zeros).toArray 27)) := by
  intro u
  obtain ⟨i0, hi, hz0, hz1, hz2⟩ := known_info
  have h := run_make (P := Try.prog) u 24 27 i0 (.agg #[.int .i64 0, .int .i64 0]) Try.underlying24 hi hz0 .i64 .i64 258 258 (by omega) (Int.le_refl _) (by rw [hz2]; omega) (by omega)
  rw [hz1] at h
  rw [← made258]
  exact h
theorem ks_zeros (u : World) : Ks (u.alloc (.cells (knC zeros).toArray 27)) (.slice (some ⟨u.heap.size, 0, none⟩) 258 258) zeros := by
  have e : zeros.length = 258 := by decide +kernel
  refine ⟨⟨_, 258, by rw [e], .inr ⟨u.heap.size, 0, rfl, ?_⟩⟩, inL_of zeros_in, by rw [e]; omega⟩
  intro k i n hk
  obtain ⟨a0, a1⟩ := knC_at zeros k _ _ hk
  rw [Nat.zero_add]
  refine ⟨?_, ?_⟩
  · rw [World.cell?, World.alloc_heap_new]; simpa using a0
  · rw [World.cell?, World.alloc_heap_new]; simpa using a1

set_option maxHeartbeats 1000000 in
theorem eqi_at (w : World) (g1 o1 c1 g2 o2 c2 n : Nat) (zs : List Int) (hnl : n ≤ 1000) (h1 : ∀ k, k < n → w.cell? ⟨g1, o1 + k, none⟩ = some (.int .i64 (zs.getD k 0))) (h2 : ∀ k, k < n → w.cell? ⟨g2, o2 + k, none⟩ = some (.int .i64 (zs.getD k 0))) :
    Calls Try.prog 14 #[.slice (some ⟨g1, o1, none⟩) n c1, .slice (some ⟨g2, o2, none⟩) n c2] w fun e w' => e = .returned (.bool true) ∧ Below w.heap.size w w' := by
  have C1 := Hid.mk' h1
  have C2 := Hid.mk' h2
  clear h1 h2
  go_enter Try.func14, Try.ntmps14
  go_wp2_with fail
  go_loopw [5] (fun i wr => ∃ k : Nat, k ≤ n ∧ i = .int .i64 k ∧ Hid (Dr w wr)) (fun i _ => n - (iv i).toNat)
  case atStart => exact ⟨0, Nat.zero_le _, rfl, Hid.mk' (Dr.refl _)⟩
  case round =>
    obtain ⟨k, hk, rfl, HD⟩ := hrel
    by_cases hlt : k < n
    · have d1 := (HD.out.cell _).trans (C1.out k hlt)
      have d2 := (HD.out.cell _).trans (C2.out k hlt)
      have hsp : (k : Int) < (n : Int) := by omega
      go_wp2_with fail
      go_quiet (fail)
      go_wp2_with fail
      go_roundw
      case rel => exact ⟨k + 1, hlt, by go_num, Hid.mk' (HD.out.more _)⟩
      case measure => simp [iv]; omega
    · have hsp : ¬ (k : Int) < (n : Int) := by omega
      go_wp2_with fail
      go_ret
      exact ⟨rfl, HD.out.below _⟩

/-- A row of whole numbers of the call's own. -/
theorem own_ints {w : World} {base n : Nat} {t : TypeId} {v : Value} {zs : List Int} (h : w.ownsRow base t 1 v n (zs.map (Value.int .i64))) (hl : zs.length = n) (hn : 0 < n) :
    ∃ g c, v = .slice (some ⟨g, 0, none⟩) n c ∧ ∀ k, k < n → w.cell? ⟨g, 0 + k, none⟩ = some (.int .i64 (zs.getD k 0)) := by
  have h' := h
  rcases h.2 with ⟨rfl, h0⟩ | ⟨g, cap, cur, rfl, -⟩
  · omega
  · refine ⟨g, cap, rfl, fun k hk => ?_⟩
    rw [Nat.zero_add, h'.cellAt k (by omega)]
    have : k < zs.length := by omega
    simp [this, List.getD_eq_getElem?_getD]
theorem lit_ints (u : World) (zs : List Int) (t : TypeId) : ∀ k, k < zs.length → (u.alloc (.cells (zs.map (Value.int .i64)).toArray t)).cell? ⟨u.heap.size, 0 + k, none⟩ = some (.int .i64 (zs.getD k 0)) := by
  intro k hk
  rw [Nat.zero_add, World.cell?, World.alloc_heap_new]
  simp [hk, List.getD_eq_getElem?_getD]
theorem int_info : ∃ i, Try.prog.info? 3 = some i ∧ i.zero = some (.int .i64 0) ∧ i.size = 1 ∧ i.bytes = 8 := info_parts (z := .int .i64 0) (by kernel_rfl)
/-- The first of the sixteen, in a row of the call's own. -/
structure Ow (w : World) (base : Nat) (v : Value) (k : Nat) : Prop where
  own : w.ownsRow base 3 1 v k ((zsK.take k).map (Value.int .i64))
theorem Ow.below {w w' : World} {base : Nat} {v : Value} {k : Nat} (h : Ow w base v k) (b : Below w.heap.size w w') : Ow w' base v k :=
  ⟨Kept.owns h.own (Kept.of_below (S := fun _ => False) b) (fun _ _ e => e)⟩
theorem zs_take {k : Nat} (h : k < 16) : (zsK.take (k + 1)).map (Value.int .i64) = (zsK.take k).map (Value.int .i64) ++ [.int .i64 (zsK.getD k 0)] := by
  have hl : k < zsK.length := h
  rw [List.take_succ_eq_append_getElem hl, List.map_append, List.getD_eq_getElem?_getD, List.getElem?_eq_getElem hl]
  rfl
end Go.Proofs.Ytagnaefpkgekmab
