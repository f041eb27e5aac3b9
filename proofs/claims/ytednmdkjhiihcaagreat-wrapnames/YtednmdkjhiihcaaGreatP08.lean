/- Headers of the kind 08: the program's calls and the document's, in one form for all inputs, and the mathematics between them. -/
import Derived.Test.YtednmdkjhiihcaaGreatGa
import Derived.Deep.RegionHeld3
import Derived.Test.YtednmdkjhiihcaaGreatGd
import Derived.Test.YtednmdkjhiihcaaGreatBc
import Derived.Test.YtednmdkjhiihcaaGreatGc
import Derived.Test.YtednmdkjhiihcaaGreatSp
namespace Go.Proofs.YtednmdkjhiihcaaGreat.K08
open Go.ChangeShapes Go.WideShapes Go.ChangeAt Go.RowKit

/-- k bytes of a number, the highest one first. -/
def numB : Nat → Int → List Int
  | 0, _ => []
  | k + 1, v => numB k (v / 256) ++ [v % 256]

theorem numB_length : ∀ (k : Nat) (v : Int), (numB k v).length = k
  | 0, _ => rfl
  | k + 1, v => by simp [numB, numB_length k]

theorem numB_bytes : ∀ (k : Nat) (v : Int), Bytes (numB k v)
  | 0, _ => fun z hz => by simp [numB] at hz
  | k + 1, v => bytes_append (numB_bytes k _) (fun z hz => by simp at hz; omega)

/-- So many bytes from a place on, as a number. -/
def valV (B : List Int) (x : Nat) : Nat → Int
  | 0 => 0
  | k + 1 => valV B x k * 256 + B.getD (x + k) 0

theorem valV_bd {B : List Int} (h : Bytes B) (x : Nat) : ∀ k : Nat, 0 ≤ valV B x k ∧ valV B x k < 256 ^ k
  | 0 => by simp [valV]
  | k + 1 => by
    have ih := valV_bd h x k
    have hb := h.getD (x + k)
    simp only [valV]
    rw [Int.pow_succ]
    omega

theorem pow256 {k : Nat} (h : k ≤ 4) : (256 : Int) ^ k ≤ 4294967296 := by
  match k, h with
  | 0, _ => decide
  | 1, _ => decide
  | 2, _ => decide
  | 3, _ => decide
  | 4, _ => decide

set_option maxHeartbeats 400000 in
theorem number_any (v : Int) (k : Nat) (w : World) (hv : 0 ≤ v) (hv' : v ≤ 4294967296) (hk : k ≤ 16) :
    Calls Tryz.prog 172 #[.int .i64 v, .int .i64 k] w fun e w' => ∃ u, e = .returned u ∧ w'.ownsRow w.heap.size 5 1 u k ((numB k v).map (Value.int .u8)) ∧ Below w.heap.size w w' := by
  have hmk := make_bytes k (by omega)
  obtain ⟨Z, HZ⟩ : ∃ Z, Hid ((List.replicate k (0 : Int)).map (Value.int .u8) = Z) := ⟨_, rfl⟩
  rw [HZ.out] at hmk
  go_enter Tryz.func172, Tryz.ntmps172
  go_wp2_with fail
  obtain ⟨W1, hW1⟩ : ∃ W1, W1 = w.alloc (.cells Z.toArray 5) := ⟨_, rfl⟩
  rw [← hW1]
  have R1 : Hid (W1.heap[w.heap.size]? = some (.cells Z.toArray 5 (0, 0))) := by rw [hW1]; exact heap_alloc_new w _
  have B1 : Hid (Below w.heap.size w W1) := by rw [hW1]; exact (Below.refl _ _).alloc (Nat.le_refl _) _
  clear hW1 hmk
  go_loopw [0, 6] (fun x i wr => ∃ (m : Nat) (y : Int) (tl : List Int), m ≤ k ∧ i = .int .i64 ((m : Int) - 1) ∧ x = .int .i64 y ∧ 0 ≤ y ∧ y ≤ 4294967296 ∧ Hid (numB k v = numB m y ++ tl) ∧ Hid (wr.heap[w.heap.size]? = some (.cells ((List.replicate m (0 : Int) ++ tl).map (Value.int .u8)).toArray 5 (0, 0))) ∧ Hid (Below w.heap.size w wr)) (fun _ i _ => ((intOf i) + 1).toNat)
  case atStart => exact ⟨k, v, [], Nat.le_refl _, by go_num, rfl, hv, hv', Hid.mk' (by simp), Hid.mk' (by rw [List.append_nil, HZ.out]; exact R1.out), B1⟩
  case round =>
    obtain ⟨m, y, tl, hm, rfl, rfl, hy, hy', HN, HR, HB⟩ := hrel
    match m, HN, HR, hm with
    | 0, HN, HR, hm =>
      have HO : Hid (wr.ownsRow w.heap.size 5 1 (.slice (some ⟨w.heap.size, 0, none⟩) k k) k ((numB k v).map (Value.int .u8))) := by
        refine own_block ?_ (Nat.le_refl _) (by rw [List.length_map, numB_length]) (by omega)
        rw [HR.out, HN.out]; rfl
      go_wp2_with fail
      go_ret
      exact ⟨_, rfl, HO.out, HB.out⟩
    | m + 1, HN, HR, hm =>
      have f0 : wr.frozen? ⟨w.heap.size, m, none⟩ = false := frozen_of_row wr _ m _ _ HR.out
      have c0 : wr.cell? ⟨w.heap.size, m, none⟩ = some (.int .u8 0) := by
        rw [cell_of_row wr _ m _ _ _ HR.out, List.getElem?_toArray, List.getElem?_map, List.getElem?_append_left (by simp), List.getElem?_replicate]
        simp
      go_wp2_with fail
      go_roundw
      case rel =>
        refine ⟨m, y / 256, y % 256 :: tl, by omega, rfl, rfl, by omega, by omega, Hid.mk' ?_, Hid.mk' ?_, (HB.out.setCell (p := ⟨w.heap.size, m, none⟩) (Nat.le_refl _) _ : Below _ _ _)⟩
        · rw [HN.out, numB, List.append_assoc]; rfl
        · rw [Go.heap_setCell_same _ _ m _ _ _ HR.out]
          congr 2
          apply Array.toList_inj.1
          rw [Array.toList_setIfInBounds, ← List.map_set, List.replicate_succ', List.append_assoc, List.set_append_right _ _ (by simp)]
          simp
      case measure => simp [intOf]

set_option maxHeartbeats 400000 in
theorem value_any (b off n c x k : Nat) (zs : List Int) (w : World) (hz : zs.length = n) (hB : Bs w (some ⟨b, off, none⟩) zs) (hk : k ≤ 4) (hx : x + k ≤ n) :
    Calls Tryz.prog 182 #[.slice (some ⟨b, off, none⟩) n c, .int .i64 x, .int .i64 k] w fun e w' => e = .returned (.int .i64 (valV zs x k)) ∧ w = w' := by
  have hln : n ≤ 140737488355328 := by rw [← hz]; exact hB.len
  have HB := Hid.mk' hB
  have HN := Hid.mk' hz
  clear hB hz
  go_enter Tryz.func182, Tryz.ntmps182
  go_wp2_with fail
  go_loop [7, 8] (fun v i => ∃ j : Nat, j ≤ k ∧ i = .int .i64 j ∧ v = .int .i64 (valV zs x j)) (fun _ i => k - (intOf i).toNat)
  case atStart => exact ⟨0, Nat.zero_le _, rfl, rfl⟩
  case round =>
    obtain ⟨j, hj, rfl, rfl⟩ := hrel
    by_cases hlt : j < k
    · have hsp : (j : Int) < (k : Int) := by omega
      have cc : w.cell? ⟨b, off + (x + j), none⟩ = some (.int .u8 (zs.getD (x + j) 0)) := by
        rcases HB.out.lies with h0 | ⟨b', off', e, hc⟩
        · rw [HN.out] at h0; omega
        · cases e; exact hc (x + j) (by rw [HN.out]; omega)
      have hb := HB.out.bytes.getD (x + j)
      have hv := valV_bd HB.out.bytes x j
      have hp := pow256 (k := j) (by omega)
      obtain ⟨y, HY⟩ : ∃ y, Hid (zs.getD (x + j) 0 = y) := ⟨_, rfl⟩
      obtain ⟨V, HV⟩ : ∃ V, Hid (valV zs x j = V) := ⟨_, rfl⟩
      rw [HY.out] at cc hb
      rw [HV.out] at hv ⊢
      have v0 : 0 ≤ V := hv.1
      have v1 : V ≤ 4294967296 := by omega
      have y0 := hb.1
      have y1 := hb.2
      clear hb hv hp
      have hin : (x : Int) + (j : Int) < (n : Int) := by omega
      go_wp2_with fail
      go_round
      case rel => exact ⟨j + 1, hlt, by go_num, by rw [valV, HV.out, HY.out]⟩
      case measure => simp [intOf]; omega
    · obtain rfl : j = k := by omega
      go_wp2_with fail
      go_ret
      exact ⟨rfl, rfl⟩

/-- A header's cells: Class, Flow, Next, Hops, Src, Dst. -/
def n6C (cl fl nx hp : Int) (s d : List Int) : List Value := [.int .u8 cl, .int .u32 fl, .int .u8 nx, .int .u8 hp] ++ (s.map (Value.int .u8) ++ d.map (Value.int .u8))

/-- A header's first number. -/
def n6M (cl fl : Int) : Int := 1610612736 + cl * 1048576 + fl

/-- A header's bytes ahead of a payload of m bytes. -/
def n6B (cl fl nx hp : Int) (s d : List Int) (m : Int) : List Int := [n6M cl fl / 65536 / 256, n6M cl fl / 65536 % 256, n6M cl fl % 65536 / 256, n6M cl fl % 65536 % 256, m / 256, m % 256, nx, hp] ++ (s ++ d)

/-- Check's answer. -/
def n6E (fl : Int) : Int := if fl ≤ 1048575 then 0 else 80

/-- A header's numbers, as their types have them. -/
structure N6 (cl fl nx hp : Int) (s d : List Int) : Prop where
  c0 : 0 ≤ cl
  c1 : cl ≤ 255
  f0 : 0 ≤ fl
  f1 : fl ≤ 4294967295
  x0 : 0 ≤ nx
  x1 : nx ≤ 255
  h0 : 0 ≤ hp
  h1 : hp ≤ 255
  sl : s.length = 16
  dl : d.length = 16
  sb : Bytes s
  db : Bytes d

theorem info_hd : (Tryz.prog.info? 40).map (·.size) = some 36 := by kernel_rfl

theorem n6C_length {cl fl nx hp : Int} {s d : List Int} (h : N6 cl fl nx hp s d) : (n6C cl fl nx hp s d).length = 36 := by
  unfold n6C; simp [h.sl, h.dl]

theorem n6C_one (cl fl nx hp : Int) (s d : List Int) : (n6C cl fl nx hp s d).toArray.all (·.oneCell') = true := by
  refine all_oneCell_toArray (fun v hv => ?_)
  unfold n6C at hv
  simp only [List.mem_append, List.mem_map, List.mem_cons, List.not_mem_nil, or_false] at hv
  rcases hv with (rfl | rfl | rfl | rfl) | ⟨z, _, rfl⟩ | ⟨z, _, rfl⟩ <;> rfl

theorem or16 (V b : Int) (h0 : 0 ≤ V) (h1 : V ≤ 255) (b0 : 0 ≤ b) (b1 : b ≤ 255) : bits .or .u16 (V * 256) b = V * 256 + b := by
  rw [u16_or _ _ (by omega) (by omega) (by omega) (by omega)]
  have h := Nat.two_pow_add_eq_or_of_lt (i := 8) (b := b.toNat) (by omega) V.toNat
  have e2 : (V * 256).toNat = 2 ^ 8 * V.toNat := by omega
  rw [e2, ← h]
  omega

theorem or32 (V b : Int) (h0 : 0 ≤ V) (h1 : V ≤ 65535) (b0 : 0 ≤ b) (b1 : b ≤ 65535) : bits .or .u32 (V * 65536) b = V * 65536 + b := by
  rw [u32_or _ _ (by omega) (by omega) (by omega) (by omega)]
  have h := Nat.two_pow_add_eq_or_of_lt (i := 16) (b := b.toNat) (by omega) V.toNat
  have e2 : (V * 65536).toNat = 2 ^ 16 * V.toNat := by omega
  rw [e2, ← h]
  omega

theorem or28 (V : Int) (h0 : 0 ≤ V) (h1 : V ≤ 255) : bits .or .u32 1610612736 (V * 1048576) = 1610612736 + V * 1048576 := by
  rw [u32_or _ _ (by omega) (by omega) (by omega) (by omega)]
  have h := Nat.two_pow_add_eq_or_of_lt (i := 28) (b := (V * 1048576).toNat) (by omega) 6
  have e2 : (1610612736 : Int).toNat = 2 ^ 28 * 6 := by decide
  rw [e2, ← h]
  omega

theorem or20 (V b : Int) (h0 : 0 ≤ V) (h1 : V ≤ 255) (b0 : 0 ≤ b) (b1 : b ≤ 1048575) : bits .or .u32 (1610612736 + V * 1048576) b = 1610612736 + V * 1048576 + b := by
  rw [u32_or _ _ (by omega) (by omega) (by omega) (by omega)]
  have h := Nat.two_pow_add_eq_or_of_lt (i := 20) (b := b.toNat) (by omega) (1536 + V.toNat)
  have e2 : (1610612736 + V * 1048576).toNat = 2 ^ 20 * (1536 + V.toNat) := by omega
  rw [e2, ← h]
  omega

theorem and20 (V : Int) (h0 : 0 ≤ V) (h1 : V ≤ 4294967295) : bits .and .u32 V 1048575 = V % 1048576 := by
  rw [u32_and _ _ (by omega) (by omega) (by omega) (by omega)]
  have h := Nat.and_two_pow_sub_one_eq_mod V.toNat 20
  have e : (1048575 : Int).toNat = 2 ^ 20 - 1 := by decide
  rw [e, h]
  omega

theorem lcheck_any (L : List Value) (fl : Int) (w : World) (hL : L[1]? = some (.int .u32 fl)) : Calls Tryz.prog 96 #[.agg L.toArray] w fun e w' => e = .returned (.int .i64 (n6E fl)) ∧ Below w.heap.size w w' := by
  have hL' : L.toArray[1]? = some (.int .u32 fl) := by rw [List.getElem?_toArray]; exact hL
  unfold n6E
  by_cases h : fl ≤ 1048575
  · rw [if_pos h]
    go_enter Tryz.func96, Tryz.ntmps96
    go_wp2_with fail
    go_ret
    exact ⟨rfl, (Below.refl _ _).alloc (Nat.le_refl _) _⟩
  · rw [if_neg h]
    go_enter Tryz.func96, Tryz.ntmps96
    go_wp2_with fail
    go_ret
    exact ⟨rfl, (Below.refl _ _).alloc (Nat.le_refl _) _⟩

theorem lsize_any (w : World) : Calls Tryz.prog 73 #[] w fun e w' => e = .returned (.int .i64 40) ∧ w = w' := by
  go_enter Tryz.func73, Tryz.ntmps73
  go_wp2_with fail
  go_ret
  exact ⟨rfl, rfl⟩

/-- Two bytes as a number, and four. -/
def rdV (zs : List Int) (k : Nat) : Int := zs.getD k 0 * 256 + zs.getD (k + 1) 0

def rdW (zs : List Int) (k : Nat) : Int := rdV zs k * 65536 + rdV zs (k + 2)

theorem rdV_bd {zs : List Int} (h : Bytes zs) (k : Nat) : 0 ≤ rdV zs k ∧ rdV zs k ≤ 65535 := by
  have h0 := h.getD k
  have h1 := h.getD (k + 1)
  unfold rdV; omega

theorem rdW_bd {zs : List Int} (h : Bytes zs) (k : Nat) : 0 ≤ rdW zs k ∧ rdW zs k ≤ 4294967295 := by
  have h0 := rdV_bd h k
  have h1 := rdV_bd h (k + 2)
  unfold rdW; omega

set_option maxHeartbeats 400000 in
theorem get16_any (b off n c x : Nat) (zs : List Int) (w : World) (hz : zs.length = n) (hB : Bs w (some ⟨b, off, none⟩) zs) (hx : x + 2 ≤ n) :
    Calls Tryz.prog 129 #[.slice (some ⟨b, off, none⟩) n c, .int .i64 x] w fun e w' => e = .returned (.int .u16 (rdV zs x)) ∧ Dr w w' := by
  unfold rdV
  have hln : n ≤ 140737488355328 := by rw [← hz]; exact hB.len
  have hx0 : (x : Int) < (n : Int) := by omega
  have hx1 : (x : Int) + 1 < (n : Int) := by omega
  have cc : ∀ i, i < n → w.cell? ⟨b, off + i, none⟩ = some (.int .u8 (zs.getD i 0)) := by
    intro i hi
    rcases hB.lies with h0 | ⟨b', off', e, hc⟩
    · omega
    · cases e; exact hc i (by omega)
  have c0 := cc x (by omega)
  have c1 := cc (x + 1) (by omega)
  have k0 := hB.bytes.getD x
  have k1 := hB.bytes.getD (x + 1)
  clear cc hB hz
  generalize zs.getD x 0 = u at *
  generalize zs.getD (x + 1) 0 = v at *
  obtain ⟨u0, u1⟩ := k0
  obtain ⟨v0, v1⟩ := k1
  have hor := or16 u v u0 u1 v0 v1
  go_enter Tryz.func129, Tryz.ntmps129
  go_wp2_with fail
  go_quiet (fail)
  go_wp2_with fail
  go_ret
  exact ⟨rfl, ⟨_, rfl⟩⟩

set_option maxHeartbeats 400000 in
theorem get32_any (b off n c x : Nat) (zs : List Int) (w : World) (hz : zs.length = n) (hB : Bs w (some ⟨b, off, none⟩) zs) (hx : x + 4 ≤ n) :
    Calls Tryz.prog 128 #[.slice (some ⟨b, off, none⟩) n c, .int .i64 x] w fun e w' => e = .returned (.int .u32 (rdW zs x)) ∧ Dr w w' := by
  unfold rdW
  have hln : n ≤ 140737488355328 := by rw [← hz]; exact hB.len
  have KG : Hid (∀ u : World, Dr w u → ∀ k, k + 2 ≤ n → Calls Tryz.prog 129 #[.slice (some ⟨b, off, none⟩) n c, .int .i64 k] u fun e u' => e = .returned (.int .u16 (rdV zs k)) ∧ Dr u u') := Hid.mk' (fun u h k hk => get16_any b off n c k zs u hz (h.bs hB) hk)
  have k0 := rdV_bd hB.bytes x
  have k1 := rdV_bd hB.bytes (x + 2)
  clear hB hz
  obtain ⟨U, HU⟩ : ∃ U, Hid (rdV zs x = U) := ⟨_, rfl⟩
  obtain ⟨V, HV⟩ : ∃ V, Hid (rdV zs (x + 2) = V) := ⟨_, rfl⟩
  rw [HU.out] at k0 ⊢
  rw [HV.out] at k1 ⊢
  obtain ⟨u0, u1⟩ := k0
  obtain ⟨v0, v1⟩ := k1
  have hor := or32 U V u0 u1 v0 v1
  go_enter Tryz.func128, Tryz.ntmps128
  go_wp2_with fail
  have key := KG.out w (Dr.refl w) x (by omega)
  rw [HU.out] at key
  refine key.mono ?_
  rintro e w2 ⟨rfl, d2⟩
  have D2 := Hid.mk' d2
  clear key d2
  go_wp2_with fail
  have key := KG.out w2 D2.out (x + 2) (by omega)
  rw [HV.out] at key
  refine key.mono ?_
  rintro e w3 ⟨rfl, d3⟩
  have D3 := Hid.mk' (D2.out.trans d3)
  clear key d3
  go_wp2_with fail
  go_ret
  exact ⟨rfl, D3.out⟩

set_option maxHeartbeats 400000 in
theorem put16_any (g m x : Nat) (v : Int) (Z : List Value) (t : TypeId) (w : World) (hg : w.heap[g]? = some (.cells Z.toArray t (0, 0))) (hl : Z.length = m) (hx : x + 2 ≤ m) (hm : m ≤ 1000000) (v0 : 0 ≤ v) (v1 : v ≤ 65535) :
    Calls Tryz.prog 154 #[.slice (some ⟨g, 0, none⟩) m m, .int .i64 x, .int .u16 v] w fun e w' => e = .returned (.tuple #[]) ∧ w'.heap[g]? = some (.cells ((Z.set x (.int .u8 (v / 256))).set (x + 1) (.int .u8 (v % 256))).toArray t (0, 0)) ∧ Kept (fun k => k = g) w w' := by
  have hx0 : (x : Int) < (m : Int) := by omega
  have hx1 : (x : Int) + 1 < (m : Int) := by omega
  obtain ⟨y0, c0⟩ : ∃ y, w.cell? ⟨g, x, none⟩ = some y := ⟨_, by rw [cell_of_row w _ x _ _ _ hg, List.getElem?_toArray, List.getElem?_eq_getElem (by omega)]⟩
  obtain ⟨y1, c1⟩ : ∃ y, w.cell? ⟨g, x + 1, none⟩ = some y := ⟨_, by rw [cell_of_row w _ (x + 1) _ _ _ hg, List.getElem?_toArray, List.getElem?_eq_getElem (by omega)]⟩
  have f0 : w.frozen? ⟨g, x, none⟩ = false := frozen_of_row w _ x _ _ hg
  have f1 : w.frozen? ⟨g, x + 1, none⟩ = false := frozen_of_row w _ (x + 1) _ _ hg
  have HG := Hid.mk' hg
  clear hg
  go_enter Tryz.func154, Tryz.ntmps154
  go_wp2_with fail
  have h1 : Hid (((w.setCell ⟨g, x, none⟩ (.int .u8 (v / 256))).setCell ⟨g, x + 1, none⟩ (.int .u8 (v % 256))).heap[g]? = some (.cells ((Z.set x (.int .u8 (v / 256))).set (x + 1) (.int .u8 (v % 256))).toArray t (0, 0))) := Hid.mk' (by
    rw [Go.heap_setCell_same _ _ (x + 1) _ _ _ (Go.heap_setCell_same _ _ x _ _ _ HG.out)]; simp)
  have h2 : Hid (Kept (fun k => k = g) w ((w.setCell ⟨g, x, none⟩ (.int .u8 (v / 256))).setCell ⟨g, x + 1, none⟩ (.int .u8 (v % 256)))) := Hid.mk' (((Kept.refl (fun k => k = g) w).setCell (p := ⟨g, x, none⟩) (fun _ => rfl) _).setCell (p := ⟨g, x + 1, none⟩) (fun _ => rfl) _)
  go_end0
  exact ⟨rfl, h1.out, h2.out⟩

set_option maxHeartbeats 400000 in
theorem put32_any (g m x : Nat) (v : Int) (Z : List Value) (t : TypeId) (w : World) (hg : w.heap[g]? = some (.cells Z.toArray t (0, 0))) (hl : Z.length = m) (hx : x + 4 ≤ m) (hm : m ≤ 1000000) (v0 : 0 ≤ v) (v1 : v ≤ 4294967295) :
    Calls Tryz.prog 153 #[.slice (some ⟨g, 0, none⟩) m m, .int .i64 x, .int .u32 v] w fun e w' => e = .returned (.tuple #[]) ∧ w'.heap[g]? = some (.cells ((((Z.set x (.int .u8 (v / 65536 / 256))).set (x + 1) (.int .u8 (v / 65536 % 256))).set (x + 2) (.int .u8 (v % 65536 / 256))).set (x + 2 + 1) (.int .u8 (v % 65536 % 256))).toArray t (0, 0)) ∧ Kept (fun k => k = g) w w' := by
  have HG := Hid.mk' hg
  clear hg
  go_enter Tryz.func153, Tryz.ntmps153
  go_wp2_with fail
  refine (put16_any g m x (v / 65536) Z t w HG.out hl (by omega) hm (by omega) (by omega)).mono ?_
  rintro e w2 ⟨rfl, hg2, hk2⟩
  have G2 := Hid.mk' hg2
  have K2 := Hid.mk' hk2
  clear hg2 hk2
  go_wp2_with fail
  refine (put16_any g m (x + 2) (v % 65536) _ t w2 G2.out (by rw [List.length_set, List.length_set]; exact hl) (by omega) hm (by omega) (by omega)).mono ?_
  rintro e w3 ⟨rfl, hg3, hk3⟩
  have G3 := Hid.mk' hg3
  have K3 := Hid.mk' (K2.out.trans hk3)
  clear hg3 hk3
  go_wp2_with fail
  go_end0
  exact ⟨rfl, G3.out, K3.out⟩

theorem n6B_length {cl fl nx hp : Int} {s d : List Int} (h : N6 cl fl nx hp s d) (m : Int) : (n6B cl fl nx hp s d m).length = 40 := by
  unfold n6B; simp [h.sl, h.dl]

theorem n6M_bd {cl fl nx hp : Int} {s d : List Int} (h : N6 cl fl nx hp s d) (hf : fl ≤ 1048575) : 1610612736 ≤ n6M cl fl ∧ n6M cl fl ≤ 1879048191 := by
  obtain ⟨c0, c1, f0, f1, x0, x1, h0, h1, sl, dl, sb, db⟩ := h
  unfold n6M; omega

theorem n6B_bytes {cl fl nx hp : Int} {s d : List Int} (h : N6 cl fl nx hp s d) (hf : fl ≤ 1048575) {m : Int} (m0 : 0 ≤ m) (m1 : m ≤ 65535) : Bytes (n6B cl fl nx hp s d m) := by
  have hM := n6M_bd h hf
  obtain ⟨c0, c1, f0, f1, x0, x1, h0, h1, sl, dl, sb, db⟩ := h
  unfold n6B
  generalize n6M cl fl = M at *
  refine bytes_append ?_ (bytes_append sb db)
  intro z hz
  simp at hz
  rcases hz with rfl | rfl | rfl | rfl | rfl | rfl | rfl | rfl <;> omega

set_option maxHeartbeats 400000 in
theorem lbytes_bad (L : List Value) (fl : Int) (a : Option Addr) (n c : Nat) (w : World) (hlc : L.length = 36) (hL : L[1]? = some (.int .u32 fl)) (hf : ¬ fl ≤ 1048575) :
    Calls Tryz.prog 97 #[.agg L.toArray, .slice a n c] w fun e w' => e = .returned (.tuple #[.slice none 0 0, .int .i64 80]) ∧ Below w.heap.size w w' := by
  have hlc := Hid.mk' hlc
  have HCK : Hid (∀ u : World, Calls Tryz.prog 96 #[.agg L.toArray] u fun e w' => e = .returned (.int .i64 80) ∧ Below u.heap.size u w') := Hid.mk' (fun u => by
    have := lcheck_any L fl u hL
    unfold n6E at this
    rw [if_neg hf] at this
    exact this)
  clear hL hf
  obtain ⟨W1, hW1⟩ : ∃ W1, W1 = w.alloc (.cells L.toArray 40) := ⟨_, rfl⟩
  have R1 : Hid (W1.heap[w.heap.size]? = some (.cells L.toArray 40 (0, 0))) := by rw [hW1]; exact heap_alloc_new w _
  have B1 : Hid (Below w.heap.size w W1) := by rw [hW1]; exact (Below.refl _ _).alloc (Nat.le_refl _) _
  have HW := Hid.mk' hW1.symm
  clear hW1
  go_enter Tryz.func97, Tryz.ntmps97
  go_wp2_with (first | (go_at_call 96; rw [HW.out]; refine (HCK.out W1).mono ?_; rintro e w2 ⟨rfl, b2⟩; have B2 : Hid (Below w.heap.size w w2) := (B1.out.trans (b2.mono B1.out.size)); clear b2) | refine wpList_load_mid rfl 40 _ rfl w.heap.size 0 rfl L _ (by rw [HW.out]; exact range_block R1.out) Tryz.underlying40 rfl (by rw [hlc.out]; exact info_hd) ?_)
  go_ret2
  exact ⟨rfl, B2.out⟩

set_option maxHeartbeats 400000 in
theorem lbytes_no (L : List Value) (fl : Int) (a : Option Addr) (n c : Nat) (w : World) (hlc : L.length = 36) (hL : L[1]? = some (.int .u32 fl)) (hf : fl ≤ 1048575) (hn : ¬ n ≤ 2008) (hl : n ≤ 140737488355328) :
    Calls Tryz.prog 97 #[.agg L.toArray, .slice a n c] w fun e w' => e = .returned (.tuple #[.slice none 0 0, .int .i64 5]) ∧ Below w.heap.size w w' := by
  have hlc := Hid.mk' hlc
  have HCK : Hid (∀ u : World, Calls Tryz.prog 96 #[.agg L.toArray] u fun e w' => e = .returned (.int .i64 0) ∧ Below u.heap.size u w') := Hid.mk' (fun u => by
    have := lcheck_any L fl u hL
    unfold n6E at this
    rw [if_pos hf] at this
    exact this)
  clear hL hf
  obtain ⟨W1, hW1⟩ : ∃ W1, W1 = w.alloc (.cells L.toArray 40) := ⟨_, rfl⟩
  have R1 : Hid (W1.heap[w.heap.size]? = some (.cells L.toArray 40 (0, 0))) := by rw [hW1]; exact heap_alloc_new w _
  have B1 : Hid (Below w.heap.size w W1) := by rw [hW1]; exact (Below.refl _ _).alloc (Nat.le_refl _) _
  have HW := Hid.mk' hW1.symm
  clear hW1
  go_enter Tryz.func97, Tryz.ntmps97
  go_wp2_with (first | (go_at_call 96; rw [HW.out]; refine (HCK.out W1).mono ?_; rintro e w2 ⟨rfl, b2⟩; have B2 : Hid (Below w.heap.size w w2) := (B1.out.trans (b2.mono B1.out.size)); clear b2) | refine wpList_load_mid rfl 40 _ rfl w.heap.size 0 rfl L _ (by rw [HW.out]; exact range_block R1.out) Tryz.underlying40 rfl (by rw [hlc.out]; exact info_hd) ?_)
  go_ret2
  exact ⟨rfl, B2.out⟩

set_option maxHeartbeats 1000000 in
theorem lbytes_ok (cl fl nx hp : Int) (s d : List Int) (a : Option Addr) (n c : Nat) (w : World) (h : N6 cl fl nx hp s d) (hf : fl ≤ 1048575) (hn : n ≤ 2008) :
    Calls Tryz.prog 97 #[.agg (n6C cl fl nx hp s d).toArray, .slice a n c] w fun e w' => ∃ v, e = .returned (.tuple #[v, .int .i64 0]) ∧ w'.ownsRow w.heap.size 5 1 v 40 ((n6B cl fl nx hp s d n).map (Value.int .u8)) ∧ Below w.heap.size w w' := by
  have hlc := Hid.mk' (n6C_length h)
  have HCK : Hid (∀ u : World, Calls Tryz.prog 96 #[.agg (n6C cl fl nx hp s d).toArray] u fun e w' => e = .returned (.int .i64 0) ∧ Below u.heap.size u w') := Hid.mk' (fun u => by
    have := lcheck_any (n6C cl fl nx hp s d) fl u rfl
    unfold n6E at this
    rw [if_pos hf] at this
    exact this)
  obtain ⟨L, HL⟩ : ∃ L, Hid (n6C cl fl nx hp s d = L) := ⟨_, rfl⟩
  rw [HL.out] at hlc HCK ⊢
  have CE : Hid (∀ w' : World, w'.heap[w.heap.size]? = some (.cells L.toArray 40 (0, 0)) → w'.cell? ⟨w.heap.size, 0, none⟩ = some (.int .u8 cl) ∧ w'.cell? ⟨w.heap.size, 1, none⟩ = some (.int .u32 fl) ∧ w'.cell? ⟨w.heap.size, 2, none⟩ = some (.int .u8 nx) ∧ w'.cell? ⟨w.heap.size, 3, none⟩ = some (.int .u8 hp)) := Hid.mk' (fun w' hh => by
    rw [← HL.out] at hh
    refine ⟨?_, ?_, ?_, ?_⟩ <;> exact cell_of_row w' _ _ _ _ _ hh)
  obtain ⟨Z, HZ⟩ : ∃ Z, Hid ((List.replicate 40 (0 : Int)).map (Value.int .u8) = Z) := ⟨_, rfl⟩
  have hmk : ∀ u : World, (Instr.makeSlice 22 (.int .i64 40) (.int .i64 40)).run Tryz.prog u = .ok (.slice (some ⟨u.heap.size, 0, none⟩) 40 40) (u.alloc (.cells Z.toArray 5)) := by
    rw [← HZ.out]; exact make_bytes 40 (by omega)
  have c0 := h.c0
  have c1 := h.c1
  have f0 := h.f0
  have H := Hid.mk' h
  have hor1 := or28 cl c0 c1
  have hor2 := or20 cl fl c0 c1 f0 hf
  have hM := Hid.mk' (n6M_bd h hf)
  obtain ⟨W1, hW1⟩ : ∃ W1, W1 = w.alloc (.cells L.toArray 40) := ⟨_, rfl⟩
  have R1 : Hid (W1.heap[w.heap.size]? = some (.cells L.toArray 40 (0, 0))) := by rw [hW1]; exact heap_alloc_new w _
  have B1 : Hid (Below w.heap.size w W1) := by rw [hW1]; exact (Below.refl _ _).alloc (Nat.le_refl _) _
  have HW := Hid.mk' hW1.symm
  clear h hW1
  go_enter Tryz.func97, Tryz.ntmps97
  go_wp2_with (first | (go_at_call 96; rw [HW.out]; refine (HCK.out W1).mono ?_; rintro e w2 ⟨rfl, b2⟩; have B2 : Hid (Below w.heap.size w w2) := (B1.out.trans (b2.mono B1.out.size)); have R2 : Hid (w2.heap[w.heap.size]? = some (.cells L.toArray 40 (0, 0))) := ((b2.block _ (Array.getElem?_eq_some_iff.1 R1.out).1).trans R1.out); obtain ⟨d0, d1, d2, d3⟩ := CE.out _ R2.out; have hlt0 : w.heap.size < w2.heap.size := (Array.getElem?_eq_some_iff.1 R2.out).1; have hne0 : ¬ w.heap.size = w2.heap.size := (by omega); clear b2) | refine wpList_load_mid rfl 40 _ rfl w.heap.size 0 rfl L _ (by rw [HW.out]; exact range_block R1.out) Tryz.underlying40 rfl (by rw [hlc.out]; exact info_hd) ?_)
  clear hlt0 hne0
  obtain ⟨w3, hw3⟩ : ∃ w3, w3 = w2.alloc (.cells Z.toArray 5) := ⟨_, rfl⟩
  rw [← hw3]
  have hlt : Hid (w.heap.size < w2.heap.size) := Hid.mk' (Array.getElem?_eq_some_iff.1 R2.out).1
  have B3 : Hid (Below w.heap.size w w3) := by rw [hw3]; exact B2.out.alloc B2.out.size _
  have R3 : Hid (w3.heap[w.heap.size]? = some (.cells L.toArray 40 (0, 0))) := by rw [hw3]; exact (Below.heap_alloc _ _ _ hlt.out).trans R2.out
  have X3 : Hid (w3.heap[w2.heap.size]? = some (.cells Z.toArray 5 (0, 0))) := by rw [hw3]; exact heap_alloc_new w2 _
  have HZL : Hid (Z.length = 40) := Hid.mk' (by rw [← HZ.out]; simp)
  clear hw3 d0 d1 d2 d3 R2
  refine (put32_any w2.heap.size 40 0 (1610612736 + cl * 1048576 + fl) Z 5 w3 X3.out HZL.out (by omega) (by omega) (by omega) (by omega)).mono ?_
  rintro e w4 ⟨rfl, x4, k4⟩
  have X4 := Hid.mk' x4
  have R4 : Hid (w4.heap[w.heap.size]? = some (.cells L.toArray 40 (0, 0))) := (k4.block w.heap.size (Array.getElem?_eq_some_iff.1 R3.out).1 (by have := hlt.out; omega)).trans R3.out
  have B4 : Hid (Below w.heap.size w w4) := B3.out.trans (k4.below B3.out.size (fun k hk => by have := hlt.out; omega))
  clear x4 k4 R3 B3 X3
  go_wp2_with fail
  refine (put16_any w2.heap.size 40 4 (n : Int) _ 5 w4 X4.out (by simp only [List.length_set]; exact HZL.out) (by omega) (by omega) (by omega) (by omega)).mono ?_
  rintro e w5 ⟨rfl, x5, k5⟩
  have X5 := Hid.mk' x5
  have R5 : Hid (w5.heap[w.heap.size]? = some (.cells L.toArray 40 (0, 0))) := (k5.block w.heap.size (Array.getElem?_eq_some_iff.1 R4.out).1 (by have := hlt.out; omega)).trans R4.out
  have B5 : Hid (Below w.heap.size w w5) := B4.out.trans (k5.below B4.out.size (fun k hk => by have := hlt.out; omega))
  obtain ⟨d0, d1, d2, d3⟩ := CE.out _ R5.out
  have e6 : w5.cell? ⟨w2.heap.size, 6, none⟩ = some (.int .u8 0) := by
    rw [cell_of_row w5 _ _ _ _ _ X5.out, ← HZ.out]; rfl
  have e7 : w5.cell? ⟨w2.heap.size, 7, none⟩ = some (.int .u8 0) := by
    rw [cell_of_row w5 _ _ _ _ _ X5.out, ← HZ.out]; rfl
  have g6 : w5.frozen? ⟨w2.heap.size, 6, none⟩ = false := frozen_of_row w5 _ _ _ _ X5.out
  have g7 : w5.frozen? ⟨w2.heap.size, 7, none⟩ = false := frozen_of_row w5 _ _ _ _ X5.out
  have hne2 : ¬ w2.heap.size = w.heap.size := by have := hlt.out; omega
  have hne3 : ¬ w.heap.size = w2.heap.size := by have := hlt.out; omega
  clear x5 k5 R4 B4 X4
  go_wp2_with fail
  obtain ⟨w6, hw6⟩ : ∃ w6, w6 = (w5.setCell ⟨w2.heap.size, 6, none⟩ (.int .u8 nx)).setCell ⟨w2.heap.size, 7, none⟩ (.int .u8 hp) := ⟨_, rfl⟩
  rw [← hw6]
  have k6 : Kept (fun k => k = w2.heap.size) w5 w6 := by rw [hw6]; exact ((Kept.refl (fun k => k = w2.heap.size) w5).setCell (p := ⟨w2.heap.size, 6, none⟩) (fun _ => rfl) _).setCell (p := ⟨w2.heap.size, 7, none⟩) (fun _ => rfl) _
  obtain ⟨Q, HQ⟩ : ∃ Q : List Value, Hid ((List.replicate 16 (0 : Int)).map (Value.int .u8) = Q) := ⟨_, rfl⟩
  obtain ⟨PR, HPR⟩ : ∃ PR : List Value, Hid ([.int .u8 (n6M cl fl / 65536 / 256), .int .u8 (n6M cl fl / 65536 % 256), .int .u8 (n6M cl fl % 65536 / 256), .int .u8 (n6M cl fl % 65536 % 256), .int .u8 ((n : Int) / 256), .int .u8 ((n : Int) % 256), .int .u8 nx, .int .u8 hp] = PR) := ⟨_, rfl⟩
  have X6 : Hid (w6.heap[w2.heap.size]? = some (.cells (PR ++ (Q ++ Q)).toArray 5 (0, 0))) := Hid.mk' (by
    rw [hw6, Go.heap_setCell_same _ _ 7 _ _ _ (Go.heap_setCell_same _ _ 6 _ _ _ X5.out), ← HPR.out, ← HQ.out, ← HZ.out]; rfl)
  have R6 : Hid (w6.heap[w.heap.size]? = some (.cells L.toArray 40 (0, 0))) := (k6.block w.heap.size (Array.getElem?_eq_some_iff.1 R5.out).1 (by have := hlt.out; omega)).trans R5.out
  have B6 : Hid (Below w.heap.size w w6) := B5.out.trans (k6.below B5.out.size (fun k hk => by have := hlt.out; omega))
  clear hw6 k6 d0 d1 d2 d3 e6 e7 g6 g7 X5 R5 B5 hne2 hne3 hmk hor1 hor2
  have hql : Hid (Q.length = 16) := Hid.mk' (by rw [← HQ.out]; simp)
  have hpl : Hid (PR.length = 8) := Hid.mk' (by rw [← HPR.out]; rfl)
  have T6 : Hid (Bs w6.drew (some ⟨w.heap.size, 4, none⟩) s) := by
    refine bs_block (A := [.int .u8 cl, .int .u32 fl, .int .u8 nx, .int .u8 hp]) (D := d.map (Value.int .u8)) (t := 40) ?_ 4 rfl H.out.sb (by rw [H.out.sl]; omega)
    show w6.heap[w.heap.size]? = _
    rw [R6.out, ← HL.out]; rfl
  go_region_law (refine step_copy rfl _ _ rfl w2.heap.size 8 16 32 16 (some ⟨w.heap.size, 4, none⟩) rfl rfl s _ 5 X6.out T6.out H.out.sl (by simp [hpl.out, hql.out]) ?_; intro w7 hg7 hk7; have X7 := Hid.mk' hg7; have K7 := Hid.mk' hk7; clear hg7 hk7)
  have R7 : Hid (w7.heap[w.heap.size]? = some (.cells L.toArray 40 (0, 0))) := (K7.out.block w.heap.size (by have := (Array.getElem?_eq_some_iff.1 R6.out).1; exact this) (by have := hlt.out; omega)).trans R6.out
  have B7 : Hid (Below w.heap.size w w7) := B6.out.drew.trans (K7.out.below B6.out.size (fun k hk => by have := hlt.out; omega))
  rw [put_mid _ _ _ _ 8 hpl.out.symm (by simp [H.out.sl, hql.out])] at X7
  clear K7 X6 R6 B6 T6
  go_wp2_with fail
  have T7 : Hid (Bs w7.drew (some ⟨w.heap.size, 20, none⟩) d) := by
    refine bs_block (A := [.int .u8 cl, .int .u32 fl, .int .u8 nx, .int .u8 hp] ++ s.map (Value.int .u8)) (D := []) (t := 40) ?_ 20 (by simp [H.out.sl]) H.out.db (by rw [H.out.dl]; omega)
    show w7.heap[w.heap.size]? = _
    rw [R7.out, ← HL.out]; simp [n6C]
  rw [← List.append_nil Q, ← List.append_assoc] at X7
  go_region_law (refine step_copy rfl _ _ rfl w2.heap.size 24 16 16 16 (some ⟨w.heap.size, 20, none⟩) rfl rfl d _ 5 X7.out T7.out H.out.dl (by simp [hpl.out, hql.out, H.out.sl]) ?_; intro w8 hg8 hk8; have X8 := Hid.mk' hg8; have K8 := Hid.mk' hk8; clear hg8 hk8)
  have B8 : Hid (Below w.heap.size w w8) := B7.out.drew.trans (K8.out.below B7.out.size (fun k hk => by have := hlt.out; omega))
  rw [put_mid _ _ _ _ 24 (by simp [hpl.out, H.out.sl]) (by simp [H.out.dl, hql.out]), List.append_nil, List.append_assoc] at X8
  clear K8 X7 R7 B7 T7
  have EB : Hid (PR ++ (s.map (Value.int .u8) ++ d.map (Value.int .u8)) = (n6B cl fl nx hp s d n).map (Value.int .u8)) := Hid.mk' (by rw [← HPR.out]; simp [n6B])
  rw [EB.out] at X8
  have O8 : Hid (w8.ownsRow w.heap.size 5 1 (.slice (some ⟨w2.heap.size, 0, none⟩) 40 40) 40 ((n6B cl fl nx hp s d n).map (Value.int .u8))) := Hid.mk' (own_block X8.out (Nat.le_of_lt hlt.out) (by rw [List.length_map, n6B_length H.out]) (by omega))
  clear X8
  go_wp2_with fail
  go_ret2
  exact ⟨_, rfl, O8.out, B8.out⟩

/-- Cells of a header that is none. -/
def hd0 : List Value := [.int .u8 0, .int .u32 0, .int .u8 0, .int .u8 0, .int .u8 0, .int .u8 0, .int .u8 0, .int .u8 0, .int .u8 0, .int .u8 0, .int .u8 0, .int .u8 0, .int .u8 0, .int .u8 0, .int .u8 0, .int .u8 0, .int .u8 0, .int .u8 0, .int .u8 0, .int .u8 0, .int .u8 0, .int .u8 0, .int .u8 0, .int .u8 0, .int .u8 0, .int .u8 0, .int .u8 0, .int .u8 0, .int .u8 0, .int .u8 0, .int .u8 0, .int .u8 0, .int .u8 0, .int .u8 0, .int .u8 0, .int .u8 0]

theorem hd0_one : hd0.toArray.all (·.oneCell') = true := n6C_one 0 0 0 0 [0, 0, 0, 0, 0, 0, 0, 0, 0, 0, 0, 0, 0, 0, 0, 0] [0, 0, 0, 0, 0, 0, 0, 0, 0, 0, 0, 0, 0, 0, 0, 0]

/-- What holds where Read has only looked: the box of its result, which is none yet. -/
structure RdJ (w u : World) : Prop where
  box : u.heap[w.heap.size]? = some (.cells hd0.toArray 40 (0, 0))
  old : Below w.heap.size w u

theorem RdJ.first (w : World) : RdJ w (w.alloc (.cells hd0.toArray 40)) := ⟨heap_alloc_new w _, (Below.refl _ _).alloc (Nat.le_refl _) _⟩

theorem RdJ.below {w u v : World} (h : RdJ w u) (b : Below u.heap.size u v) : RdJ w v :=
  ⟨(b.block _ (Array.getElem?_eq_some_iff.1 h.box).1).trans h.box, h.old.trans (b.mono h.old.size)⟩

theorem RdJ.dr {w u v : World} (h : RdJ w u) (d : Dr u v) : RdJ w v := h.below (d.below _)

theorem RdJ.there {w u : World} (h : RdJ w u) : u.there w.heap.size 0 hd0.toArray.size := there_block h.box

/-- .. and where a header is stored there. -/
theorem RdJ.done {w u : World} (h : RdJ w u) (M : List Value) (hl : M.length = 36) : (u.setCells w.heap.size 0 M).heap[w.heap.size]? = some (.cells M.toArray 40 (0, 0)) ∧ Below w.heap.size w (u.setCells w.heap.size 0 M) :=
  ⟨heap_whole (L := hd0) h.box (by rw [hl]; rfl), h.old.trans (((Kept.refl (fun k => k = w.heap.size) u).setCells w.heap.size 0 M (fun _ => rfl)).below h.old.size (fun k hk => by omega))⟩

set_option maxHeartbeats 400000 in
theorem lread_short (a : Option Addr) (n c : Nat) (w : World) (hn : n < 40) :
    Calls Tryz.prog 72 #[.slice a n c] w fun e w' => e = .returned (.tuple #[.agg hd0.toArray, .int .i64 6]) ∧ Below w.heap.size w w' := by
  have J1 := Hid.mk' (RdJ.first w)
  go_enter Tryz.func72, Tryz.ntmps72
  go_wp2_with (first | refine wpList_store_mid rfl 40 _ _ rfl w.heap.size 0 hd0.toArray rfl rfl J1.out.there info_hd hd0_one ?_)
  refine ret_cell_tmp rfl w.heap.size 40 hd0 (0, 0) _ rfl (J1.out.done hd0 rfl).1 Tryz.underlying40 rfl info_hd rfl ?_
  exact ⟨rfl, (J1.out.done hd0 rfl).2⟩

/-- Read's questions. -/
abbrev rdQ (zs : List Int) : Prop := rdW zs 0 / 268435456 = 6 ∧ rdV zs 4 = (zs.length : Int) - 40

set_option maxHeartbeats 1000000 in
theorem lread_bad (b off : Nat) (n c : Nat) (zs : List Int) (w : World) (hz : zs.length = n) (hB : Bs w (some ⟨b, off, none⟩) zs) (hn : 40 ≤ n) (hq : ¬ rdQ zs) :
    Calls Tryz.prog 72 #[.slice (some ⟨b, off, none⟩) n c] w fun e w' => e = .returned (.tuple #[.agg hd0.toArray, .int .i64 80]) ∧ Below w.heap.size w w' := by
  have hln : n ≤ 140737488355328 := by rw [← hz]; exact hB.len
  have J1 := Hid.mk' (RdJ.first w)
  have KG : Hid (∀ (u : World) (k : Nat), RdJ w u → k + 2 ≤ n → Calls Tryz.prog 129 #[.slice (some ⟨b, off, none⟩) n c, .int .i64 k] u fun e u' => e = .returned (.int .u16 (rdV zs k)) ∧ Dr u u') := Hid.mk' (fun u k h hk => get16_any b off n c k zs u hz (hB.below h.old) hk)
  have KW : Hid (∀ (u : World) (k : Nat), RdJ w u → k + 4 ≤ n → Calls Tryz.prog 128 #[.slice (some ⟨b, off, none⟩) n c, .int .i64 k] u fun e u' => e = .returned (.int .u32 (rdW zs k)) ∧ Dr u u') := Hid.mk' (fun u k h hk => get32_any b off n c k zs u hz (hB.below h.old) hk)
  unfold rdQ at hq
  rw [hz] at hq
  have v0 := rdW_bd hB.bytes 0
  have v4 := rdV_bd hB.bytes 4
  clear hB hz
  obtain ⟨M, HM⟩ : ∃ M, Hid (rdW zs 0 = M) := ⟨_, rfl⟩
  obtain ⟨V4, H4⟩ : ∃ V, Hid (rdV zs 4 = V) := ⟨_, rfl⟩
  rw [HM.out] at hq v0
  rw [H4.out] at hq v4
  obtain ⟨v00, v01⟩ := v0
  by_cases hx : M / 268435456 = 6
  · have h4 : ¬ V4 = (n : Int) - 40 := fun e => hq ⟨hx, e⟩
    have h4b : (V4 != (n : Int) - 40) = true := by simpa using h4
    have hxb : (M / 268435456 != 6) = false := by simpa using hx
    go_enter Tryz.func72, Tryz.ntmps72
    go_wp2_with (first | (go_at_call 128; refine (KW.out _ 0 J1.out (by omega)).mono ?_; rw [HM.out]; rintro e w2 ⟨rfl, d2⟩; have J2 := Hid.mk' (J1.out.dr d2); clear d2) | (go_at_call 129; refine (KG.out _ 4 J2.out (by omega)).mono ?_; rw [H4.out]; rintro e w3 ⟨rfl, d3⟩; have J3 := Hid.mk' (J2.out.dr d3); clear d3) | refine wpList_store_mid rfl 40 _ _ rfl w.heap.size 0 hd0.toArray rfl rfl J3.out.there info_hd hd0_one ?_)
    refine ret_cell_tmp rfl w.heap.size 40 hd0 (0, 0) _ rfl (J3.out.done hd0 rfl).1 Tryz.underlying40 rfl info_hd rfl ?_
    exact ⟨rfl, (J3.out.done hd0 rfl).2⟩
  · have hxb : (M / 268435456 != 6) = true := by simpa using hx
    go_enter Tryz.func72, Tryz.ntmps72
    go_wp2_with (first | (go_at_call 128; refine (KW.out _ 0 J1.out (by omega)).mono ?_; rw [HM.out]; rintro e w2 ⟨rfl, d2⟩; have J2 := Hid.mk' (J1.out.dr d2); clear d2) | refine wpList_store_mid rfl 40 _ _ rfl w.heap.size 0 hd0.toArray rfl rfl J2.out.there info_hd hd0_one ?_)
    refine ret_cell_tmp rfl w.heap.size 40 hd0 (0, 0) _ rfl (J2.out.done hd0 rfl).1 Tryz.underlying40 rfl info_hd rfl ?_
    exact ⟨rfl, (J2.out.done hd0 rfl).2⟩

/-- The header that bytes begin with: its cells. -/
def rdC (zs : List Int) : List Value := n6C (rdW zs 0 / 1048576 % 256) (rdW zs 0 % 1048576) (zs.getD 6 0) (zs.getD 7 0) ((zs.drop 8).take 16) ((zs.drop 24).take 16)

theorem n6_of {zs : List Int} (hb : Bytes zs) (hl : 40 ≤ zs.length) : N6 (rdW zs 0 / 1048576 % 256) (rdW zs 0 % 1048576) (zs.getD 6 0) (zs.getD 7 0) ((zs.drop 8).take 16) ((zs.drop 24).take 16) :=
  ⟨by omega, by omega, by omega, by omega, (hb.getD 6).1, (hb.getD 6).2, (hb.getD 7).1, (hb.getD 7).2, by simp; omega, by simp; omega, fun z hz => hb z (List.mem_of_mem_drop (List.mem_of_mem_take hz)), fun z hz => hb z (List.mem_of_mem_drop (List.mem_of_mem_take hz))⟩

set_option maxHeartbeats 1000000 in
theorem lread_ok (b off : Nat) (n c : Nat) (zs : List Int) (w : World) (hz : zs.length = n) (hB : Bs w (some ⟨b, off, none⟩) zs) (hn : 40 ≤ n) (hc : n ≤ c) (hq : rdQ zs) :
    Calls Tryz.prog 72 #[.slice (some ⟨b, off, none⟩) n c] w fun e w' => e = .returned (.tuple #[.agg (rdC zs).toArray, .int .i64 0]) ∧ Below w.heap.size w w' := by
  obtain ⟨RES, HRES⟩ : ∃ RES, Hid (rdC zs = RES) := ⟨_, rfl⟩
  rw [HRES.out]
  have hln : n ≤ 140737488355328 := by rw [← hz]; exact hB.len
  have J1 := Hid.mk' (RdJ.first w)
  have KG : Hid (∀ (u : World) (k : Nat), RdJ w u → k + 2 ≤ n → Calls Tryz.prog 129 #[.slice (some ⟨b, off, none⟩) n c, .int .i64 k] u fun e u' => e = .returned (.int .u16 (rdV zs k)) ∧ Dr u u') := Hid.mk' (fun u k h hk => get16_any b off n c k zs u hz (hB.below h.old) hk)
  have KW : Hid (∀ (u : World) (k : Nat), RdJ w u → k + 4 ≤ n → Calls Tryz.prog 128 #[.slice (some ⟨b, off, none⟩) n c, .int .i64 k] u fun e u' => e = .returned (.int .u32 (rdW zs k)) ∧ Dr u u') := Hid.mk' (fun u k h hk => get32_any b off n c k zs u hz (hB.below h.old) hk)
  obtain ⟨hx, h4⟩ := hq
  rw [hz] at h4
  have H4 := Hid.mk' h4
  have CE : Hid (∀ u, RdJ w u → u.cell? ⟨b, off + 6, none⟩ = some (.int .u8 (zs.getD 6 0)) ∧ u.cell? ⟨b, off + 7, none⟩ = some (.int .u8 (zs.getD 7 0))) := Hid.mk' (fun u h => by
    rcases (hB.below h.old).lies with h0 | ⟨b', off', e, hc⟩
    · omega
    · cases e; exact ⟨hc 6 (by omega), hc 7 (by omega)⟩)
  have HB := Hid.mk' hB
  have HN := Hid.mk' hz
  have v0 := rdW_bd hB.bytes 0
  have HN6 := Hid.mk' (n6_of hB.bytes (by rw [hz]; exact hn))
  clear hB hz h4
  obtain ⟨M, HM⟩ : ∃ M, Hid (rdW zs 0 = M) := ⟨_, rfl⟩
  rw [HM.out] at hx v0
  obtain ⟨v00, v01⟩ := v0
  obtain ⟨x6, HX6⟩ : ∃ x, Hid (zs.getD 6 0 = x) := ⟨_, rfl⟩
  obtain ⟨x7, HX7⟩ : ∃ x, Hid (zs.getD 7 0 = x) := ⟨_, rfl⟩
  rw [HX6.out, HX7.out] at CE
  have hxb : (M / 268435456 != 6) = false := by simpa using hx
  have hnb : ((n : Int) - 40 != (n : Int) - 40) = false := by simp
  have hand := and20 M v00 v01
  have hw8 : IntKind.u8.wrap (M / 1048576) = M / 1048576 % 256 := by rw [IntKind.wrap_u8]
  have k6 : (6 : Int) < (n : Int) := by omega
  have k7 : (7 : Int) < (n : Int) := by omega
  go_enter Tryz.func72, Tryz.ntmps72
  go_wp2_with (first | (go_at_call 128; refine (KW.out _ 0 J1.out (by omega)).mono ?_; rw [HM.out]; rintro e w2 ⟨rfl, d2⟩; have J2 := Hid.mk' (J1.out.dr d2); clear d2) | (go_at_call 129; refine (KG.out _ 4 J2.out (by omega)).mono ?_; rw [H4.out]; rintro e w3 ⟨rfl, d3⟩; have J3 := Hid.mk' (J2.out.dr d3); clear d3))
  obtain ⟨q6, q7⟩ := CE.out _ J3.out
  have hlt5 : b < w3.heap.size := lt_of_cell q6
  have hne5 : ¬ b = w3.heap.size := by omega
  clear J1 J2
  refine wp_region_held_drew (S := fun w' => w'.cell? ⟨b, off + 6, none⟩ = some (.int .u8 x6) ∧ w'.cell? ⟨b, off + 7, none⟩ = some (.int .u8 x7)) (by kernel_rfl) ⟨q6, q7⟩ (fun hHeld => ?_)
  change wpAnyH _ _ _ _ _ 14 #[false, false, false, false, false, false, false, false, false, false, false, false, false, false] _ _
  refine held_take 0 25 (.int .u32 M) rfl rfl (by kernel_rfl) (by kernel_rfl) (by kernel_rfl) (fun _ _ _ h => h) (Or.inl ⟨by rfl, fun u hu => ?_⟩) hHeld ?_
  · obtain ⟨u6, u7⟩ := hu; go_simp
  simp only [Act.put, List.setIfInBounds_toArray, List.set_cons_zero, List.set_cons_succ]
  refine held_take 1 26 (.int .u32 (M / 1048576)) rfl rfl (by kernel_rfl) (by kernel_rfl) (by kernel_rfl) (fun _ _ _ h => h) (Or.inl ⟨by rfl, fun u hu => ?_⟩) hHeld ?_
  · obtain ⟨u6, u7⟩ := hu; go_simp
  simp only [Act.put, List.setIfInBounds_toArray, List.set_cons_zero, List.set_cons_succ]
  refine held_take 2 27 (.int .u8 (M / 1048576 % 256)) rfl rfl (by kernel_rfl) (by kernel_rfl) (by kernel_rfl) (fun _ _ _ h => h) (Or.inl ⟨by rfl, fun u hu => ?_⟩) hHeld ?_
  · obtain ⟨u6, u7⟩ := hu; go_simp
  simp only [Act.put, List.setIfInBounds_toArray, List.set_cons_zero, List.set_cons_succ]
  refine held_take 3 28 (.int .u32 M) rfl rfl (by kernel_rfl) (by kernel_rfl) (by kernel_rfl) (fun _ _ _ h => h) (Or.inl ⟨by rfl, fun u hu => ?_⟩) hHeld ?_
  · obtain ⟨u6, u7⟩ := hu; go_simp
  simp only [Act.put, List.setIfInBounds_toArray, List.set_cons_zero, List.set_cons_succ]
  refine held_take 4 29 (.int .u32 (M % 1048576)) rfl rfl (by kernel_rfl) (by kernel_rfl) (by kernel_rfl) (fun _ _ _ h => h) (Or.inl ⟨by rfl, fun u hu => ?_⟩) hHeld ?_
  · obtain ⟨u6, u7⟩ := hu; go_simp
  simp only [Act.put, List.setIfInBounds_toArray, List.set_cons_zero, List.set_cons_succ]
  refine held_take 5 30 (.slice (some ⟨b, off, none⟩) n c) rfl rfl (by kernel_rfl) (by kernel_rfl) (by kernel_rfl) (fun _ _ _ h => h) (Or.inl ⟨by rfl, fun u hu => ?_⟩) hHeld ?_
  · obtain ⟨u6, u7⟩ := hu; go_simp
  simp only [Act.put, List.setIfInBounds_toArray, List.set_cons_zero, List.set_cons_succ]
  refine held_take 6 31 (.pointer (some ⟨b, off + 6, none⟩)) rfl rfl (by kernel_rfl) (by kernel_rfl) (by kernel_rfl) (fun _ _ _ h => h) (Or.inl ⟨by rfl, fun u hu => ?_⟩) hHeld ?_
  · obtain ⟨u6, u7⟩ := hu; go_simp
  simp only [Act.put, List.setIfInBounds_toArray, List.set_cons_zero, List.set_cons_succ]
  refine held_take 7 32 (.int .u8 x6) rfl rfl (by kernel_rfl) (by kernel_rfl) (by kernel_rfl) (fun _ _ _ h => h) (Or.inl ⟨by rfl, fun u hu => ?_⟩) hHeld ?_
  · obtain ⟨u6, u7⟩ := hu; go_simp
  simp only [Act.put, List.setIfInBounds_toArray, List.set_cons_zero, List.set_cons_succ]
  refine held_take 8 33 (.slice (some ⟨b, off, none⟩) n c) rfl rfl (by kernel_rfl) (by kernel_rfl) (by kernel_rfl) (fun _ _ _ h => h) (Or.inl ⟨by rfl, fun u hu => ?_⟩) hHeld ?_
  · obtain ⟨u6, u7⟩ := hu; go_simp
  simp only [Act.put, List.setIfInBounds_toArray, List.set_cons_zero, List.set_cons_succ]
  refine held_take 9 34 (.pointer (some ⟨b, off + 7, none⟩)) rfl rfl (by kernel_rfl) (by kernel_rfl) (by kernel_rfl) (fun _ _ _ h => h) (Or.inl ⟨by rfl, fun u hu => ?_⟩) hHeld ?_
  · obtain ⟨u6, u7⟩ := hu; go_simp
  simp only [Act.put, List.setIfInBounds_toArray, List.set_cons_zero, List.set_cons_succ]
  refine held_take 10 35 (.int .u8 x7) rfl rfl (by kernel_rfl) (by kernel_rfl) (by kernel_rfl) (fun _ _ _ h => h) (Or.inl ⟨by rfl, fun u hu => ?_⟩) hHeld ?_
  · obtain ⟨u6, u7⟩ := hu; go_simp
  simp only [Act.put, List.setIfInBounds_toArray, List.set_cons_zero, List.set_cons_succ]
  refine held_take 11 36 (.agg #[.int .u8 (M / 1048576 % 256), .int .u32 (M % 1048576), .int .u8 x6, .int .u8 x7, .int .u8 0, .int .u8 0, .int .u8 0, .int .u8 0, .int .u8 0, .int .u8 0, .int .u8 0, .int .u8 0, .int .u8 0, .int .u8 0, .int .u8 0, .int .u8 0, .int .u8 0, .int .u8 0, .int .u8 0, .int .u8 0, .int .u8 0, .int .u8 0, .int .u8 0, .int .u8 0, .int .u8 0, .int .u8 0, .int .u8 0, .int .u8 0, .int .u8 0, .int .u8 0, .int .u8 0, .int .u8 0, .int .u8 0, .int .u8 0, .int .u8 0, .int .u8 0]) rfl rfl (by kernel_rfl) (by kernel_rfl) (by kernel_rfl) (fun _ _ _ h => h) (Or.inl ⟨by rfl, fun u hu => ?_⟩) hHeld ?_
  · obtain ⟨u6, u7⟩ := hu; go_simp
  simp only [Act.put, List.setIfInBounds_toArray, List.set_cons_zero, List.set_cons_succ]
  refine held_one 12 (by kernel_rfl) rfl (fun K hK => ?_)
  go_simp
  have HA : Hid (∀ L : List Value, (w3.drew.alloc (.cells L.toArray 40)).cell? ⟨b, off + 6, none⟩ = some (.int .u8 x6) ∧ (w3.drew.alloc (.cells L.toArray 40)).cell? ⟨b, off + 7, none⟩ = some (.int .u8 x7)) := Hid.mk' (fun L => ⟨(((Below.refl _ _).alloc (Nat.le_refl _) _).cell (B := w3.drew.heap.size) hlt5).trans hHeld.1, (((Below.refl _ _).alloc (Nat.le_refl _) _).cell (B := w3.drew.heap.size) hlt5).trans hHeld.2⟩)
  refine hK.out _ _ (HA.out hd0) (fun hH2 => ?_)
  clear hK K
  simp only [List.setIfInBounds_toArray, List.set_cons_zero, List.set_cons_succ]
  refine held_store_new (w := w3.drew) 13 (by kernel_rfl) rfl rfl rfl 40 _ _ rfl 40 hd0 [.int .u8 (M / 1048576 % 256), .int .u32 (M % 1048576), .int .u8 x6, .int .u8 x7, .int .u8 0, .int .u8 0, .int .u8 0, .int .u8 0, .int .u8 0, .int .u8 0, .int .u8 0, .int .u8 0, .int .u8 0, .int .u8 0, .int .u8 0, .int .u8 0, .int .u8 0, .int .u8 0, .int .u8 0, .int .u8 0, .int .u8 0, .int .u8 0, .int .u8 0, .int .u8 0, .int .u8 0, .int .u8 0, .int .u8 0, .int .u8 0, .int .u8 0, .int .u8 0, .int .u8 0, .int .u8 0, .int .u8 0, .int .u8 0, .int .u8 0, .int .u8 0] rfl rfl rfl info_hd ?_ (HA.out _) ?_
  · exact n6C_one (M / 1048576 % 256) (M % 1048576) x6 x7 [0, 0, 0, 0, 0, 0, 0, 0, 0, 0, 0, 0, 0, 0, 0, 0] [0, 0, 0, 0, 0, 0, 0, 0, 0, 0, 0, 0, 0, 0, 0, 0]
  refine wpAnyH_done (by kernel_rfl) ?_ _
  obtain ⟨W7, hW7⟩ : ∃ W7, W7 = w3.drew.alloc (.cells ([.int .u8 (M / 1048576 % 256), .int .u32 (M % 1048576), .int .u8 x6, .int .u8 x7, .int .u8 0, .int .u8 0, .int .u8 0, .int .u8 0, .int .u8 0, .int .u8 0, .int .u8 0, .int .u8 0, .int .u8 0, .int .u8 0, .int .u8 0, .int .u8 0, .int .u8 0, .int .u8 0, .int .u8 0, .int .u8 0, .int .u8 0, .int .u8 0, .int .u8 0, .int .u8 0, .int .u8 0, .int .u8 0, .int .u8 0, .int .u8 0, .int .u8 0, .int .u8 0, .int .u8 0, .int .u8 0, .int .u8 0, .int .u8 0, .int .u8 0, .int .u8 0] : List Value).toArray 40) := ⟨_, rfl⟩
  rw [← hW7]
  have J7 : Hid (RdJ w W7) := Hid.mk' (by rw [hW7]; exact (J3.out.dr ⟨1, rfl⟩).below ((Below.refl _ _).alloc (Nat.le_refl _) _))
  have SZ : Hid (w.heap.size < w3.heap.size) := Hid.mk' (Array.getElem?_eq_some_iff.1 J3.out.box).1
  obtain ⟨HD, HHD⟩ : ∃ HD : List Value, Hid ([.int .u8 (M / 1048576 % 256), .int .u32 (M % 1048576), .int .u8 x6, .int .u8 x7] = HD) := ⟨_, rfl⟩
  obtain ⟨Q4, HQ4⟩ : ∃ Q4 : List Value, Hid ((List.replicate 16 (0 : Int)).map (Value.int .u8) = Q4) := ⟨_, rfl⟩
  have Q7 : Hid (W7.heap[w3.heap.size]? = some (.cells (HD ++ (Q4 ++ Q4)).toArray 40 (0, 0))) := Hid.mk' (by rw [hW7, ← HHD.out, ← HQ4.out]; exact heap_alloc_new w3.drew _)
  have hhl : Hid (HD.length = 4) := Hid.mk' (by rw [← HHD.out]; rfl)
  have hql : Hid (Q4.length = 16) := Hid.mk' (by rw [← HQ4.out]; simp)
  clear hW7 q6 q7 hlt5 hne5 J3 hHeld hH2 HA hw8 hand hxb hnb
  have c8 : (8 : Int) ≤ (c : Int) := by omega
  have c24 : (24 : Int) ≤ (c : Int) := by omega
  have c40 : (40 : Int) ≤ (c : Int) := by omega
  have n8 : ¬ c = 8 := by omega
  have n24 : ¬ c = 24 := by omega
  go_wp2_with fail
  have T7 : Hid (Bs W7.drew (some ⟨b, off + 8, none⟩) ((zs.drop 8).take 16)) := (((HB.out.below J7.out.old).below ((Below.refl _ _).drew)).drop 8).take 16 (by rw [List.length_drop, HN.out]; omega)
  go_region_law (refine step_copy rfl _ _ rfl w3.heap.size 4 16 16 (c - 8) (some ⟨b, off + 8, none⟩) rfl rfl ((zs.drop 8).take 16) _ 40 Q7.out T7.out HN6.out.sl (by simp [hhl.out, hql.out]) ?_; intro w8 hg8 hk8; have Q8 := Hid.mk' hg8; have K8 := Hid.mk' hk8; clear hg8 hk8)
  have J8 : Hid (RdJ w w8) := Hid.mk' ⟨(K8.out.block w.heap.size (by have := (Array.getElem?_eq_some_iff.1 J7.out.box).1; exact this) (by have := SZ.out; omega)).trans J7.out.box, J7.out.old.drew.trans (K8.out.below J7.out.old.size (fun k hk => by have := SZ.out; omega))⟩
  rw [put_mid _ _ _ _ 4 hhl.out.symm (by rw [List.length_map, HN6.out.sl, hql.out])] at Q8
  clear K8 J7 Q7 T7
  go_wp2_with fail
  have T8 : Hid (Bs w8.drew (some ⟨b, off + 24, none⟩) ((zs.drop 24).take 16)) := (((HB.out.below J8.out.old).below ((Below.refl _ _).drew)).drop 24).take 16 (by rw [List.length_drop, HN.out]; omega)
  rw [← List.append_nil Q4, ← List.append_assoc] at Q8
  go_region_law (refine step_copy rfl _ _ rfl w3.heap.size 20 16 16 (c - 24) (some ⟨b, off + 24, none⟩) rfl rfl ((zs.drop 24).take 16) _ 40 Q8.out T8.out HN6.out.dl (by simp only [List.length_append, List.length_map, hhl.out, hql.out, HN6.out.sl]; omega) ?_; intro w9 hg9 hk9; have Q9 := Hid.mk' hg9; have K9 := Hid.mk' hk9; clear hg9 hk9)
  have J9 : Hid (RdJ w w9) := Hid.mk' ⟨(K9.out.block w.heap.size (by have := (Array.getElem?_eq_some_iff.1 J8.out.box).1; exact this) (by have := SZ.out; omega)).trans J8.out.box, J8.out.old.drew.trans (K9.out.below J8.out.old.size (fun k hk => by have := SZ.out; omega))⟩
  rw [put_mid _ _ _ _ 20 (by simp only [List.length_append, List.length_map, hhl.out, HN6.out.sl]) (by rw [List.length_map, HN6.out.dl, hql.out]), List.append_nil, List.append_assoc] at Q9
  have HLR : Hid (HD ++ (((zs.drop 8).take 16).map (Value.int .u8) ++ ((zs.drop 24).take 16).map (Value.int .u8)) = RES) := Hid.mk' (by rw [← HRES.out, ← HHD.out, ← HX6.out, ← HX7.out, ← HM.out]; rfl)
  have hlr : Hid (RES.length = 36) := Hid.mk' (by rw [← HRES.out]; exact n6C_length HN6.out)
  have hone : Hid (RES.toArray.all (·.oneCell') = true) := Hid.mk' (by rw [← HRES.out]; exact n6C_one _ _ _ _ _ _)
  rw [HLR.out] at Q9
  have hth : Hid (w9.there w.heap.size 0 RES.toArray.size) := Hid.mk' (by
    have e : RES.toArray.size = hd0.toArray.size := by rw [List.size_toArray, hlr.out]; rfl
    rw [e]; exact J9.out.there)
  clear K9 J8 Q8 T8
  go_wp2_with (first | refine wpList_store_mid rfl 40 _ _ rfl w.heap.size 0 RES.toArray rfl rfl hth.out (by rw [List.size_toArray, hlr.out]; exact info_hd) hone.out ?_ | refine wpList_load_mid rfl 40 _ rfl w3.heap.size 0 rfl RES _ (range_block Q9.out) Tryz.underlying40 rfl (by rw [hlr.out]; exact info_hd) ?_)
  refine ret_cell_tmp rfl w.heap.size 40 RES (0, 0) _ rfl (J9.out.done RES hlr.out).1 Tryz.underlying40 rfl (by rw [hlr.out]; exact info_hd) rfl ?_
  exact ⟨rfl, (J9.out.done RES hlr.out).2⟩

theorem rcheck_any (L : List Value) (fl : Int) (w : World) (hL : L[1]? = some (.int .u32 fl)) : Calls Tryz.prog 58 #[.agg L.toArray] w fun e w' => e = .returned (.int .i64 (n6E fl)) ∧ Below w.heap.size w w' := by
  have hL' : L.toArray[1]? = some (.int .u32 fl) := by rw [List.getElem?_toArray]; exact hL
  unfold n6E
  by_cases h : fl ≤ 1048575
  · rw [if_pos h]
    have h' : ¬ 1048576 ≤ fl := by omega
    go_enter Tryz.func58, Tryz.ntmps58
    go_wp2_with fail
    go_ret
    exact ⟨rfl, (Below.refl _ _).alloc (Nat.le_refl _) _⟩
  · rw [if_neg h]
    have h' : 1048576 ≤ fl := by omega
    go_enter Tryz.func58, Tryz.ntmps58
    go_wp2_with fail
    go_ret
    exact ⟨rfl, (Below.refl _ _).alloc (Nat.le_refl _) _⟩

theorem numB_two (t : Int) (h0 : 0 ≤ t) (h1 : t ≤ 65535) : numB 2 t = [t / 256, t % 256] := by
  simp [numB]; omega

theorem numB_four (t : Int) (h0 : 0 ≤ t) (h1 : t ≤ 4294967295) : numB 4 t = [t / 65536 / 256, t / 65536 % 256, t % 65536 / 256, t % 65536 % 256] := by
  simp [numB]; omega

theorem Kept_block {w w' : World} {g : Nat} {o : Obj} {row : Option Nat} (h : w.heap[g]? = some o) (hg : w.grownBy w' row) (hne : row ≠ some g) : w'.heap[g]? = some o :=
  (hg.block g (Array.getElem?_eq_some_iff.1 h).1 (fun e => hne e.symm)).trans h

set_option maxHeartbeats 400000 in
theorem rbytes_bad (L : List Value) (fl : Int) (a : Option Addr) (n c : Nat) (w : World) (hlc : L.length = 36) (hL : L[1]? = some (.int .u32 fl)) (hf : ¬ fl ≤ 1048575) :
    Calls Tryz.prog 115 #[.agg L.toArray, .slice a n c] w fun e w' => e = .returned (.tuple #[.slice none 0 0, .int .i64 80]) ∧ Below w.heap.size w w' := by
  have hlc := Hid.mk' hlc
  have HCK : Hid (∀ u : World, Calls Tryz.prog 58 #[.agg L.toArray] u fun e w' => e = .returned (.int .i64 80) ∧ Below u.heap.size u w') := Hid.mk' (fun u => by
    have := rcheck_any L fl u hL
    unfold n6E at this
    rw [if_neg hf] at this
    exact this)
  clear hL hf
  obtain ⟨W1, hW1⟩ : ∃ W1, W1 = w.alloc (.cells L.toArray 40) := ⟨_, rfl⟩
  have R1 : Hid (W1.heap[w.heap.size]? = some (.cells L.toArray 40 (0, 0))) := by rw [hW1]; exact heap_alloc_new w _
  have B1 : Hid (Below w.heap.size w W1) := by rw [hW1]; exact (Below.refl _ _).alloc (Nat.le_refl _) _
  have HW := Hid.mk' hW1.symm
  clear hW1
  go_enter Tryz.func115, Tryz.ntmps115
  go_wp2_with (first | (go_at_call 58; rw [HW.out]; refine (HCK.out W1).mono ?_; rintro e w2 ⟨rfl, b2⟩; have B2 : Hid (Below w.heap.size w w2) := (B1.out.trans (b2.mono B1.out.size)); clear b2) | refine wpList_load_mid rfl 40 _ rfl w.heap.size 0 rfl L _ (by rw [HW.out]; exact range_block R1.out) Tryz.underlying40 rfl (by rw [hlc.out]; exact info_hd) ?_)
  go_ret2
  exact ⟨rfl, B2.out⟩

set_option maxHeartbeats 400000 in
theorem rbytes_no (L : List Value) (fl : Int) (a : Option Addr) (n c : Nat) (w : World) (hlc : L.length = 36) (hL : L[1]? = some (.int .u32 fl)) (hf : fl ≤ 1048575) (hn : ¬ n ≤ 2008) (hl : n ≤ 140737488355328) :
    Calls Tryz.prog 115 #[.agg L.toArray, .slice a n c] w fun e w' => e = .returned (.tuple #[.slice none 0 0, .int .i64 5]) ∧ Below w.heap.size w w' := by
  have hlc := Hid.mk' hlc
  have HCK : Hid (∀ u : World, Calls Tryz.prog 58 #[.agg L.toArray] u fun e w' => e = .returned (.int .i64 0) ∧ Below u.heap.size u w') := Hid.mk' (fun u => by
    have := rcheck_any L fl u hL
    unfold n6E at this
    rw [if_pos hf] at this
    exact this)
  clear hL hf
  obtain ⟨W1, hW1⟩ : ∃ W1, W1 = w.alloc (.cells L.toArray 40) := ⟨_, rfl⟩
  have R1 : Hid (W1.heap[w.heap.size]? = some (.cells L.toArray 40 (0, 0))) := by rw [hW1]; exact heap_alloc_new w _
  have B1 : Hid (Below w.heap.size w W1) := by rw [hW1]; exact (Below.refl _ _).alloc (Nat.le_refl _) _
  have HW := Hid.mk' hW1.symm
  clear hW1
  go_enter Tryz.func115, Tryz.ntmps115
  go_wp2_with (first | (go_at_call 58; rw [HW.out]; refine (HCK.out W1).mono ?_; rintro e w2 ⟨rfl, b2⟩; have B2 : Hid (Below w.heap.size w w2) := (B1.out.trans (b2.mono B1.out.size)); clear b2) | refine wpList_load_mid rfl 40 _ rfl w.heap.size 0 rfl L _ (by rw [HW.out]; exact range_block R1.out) Tryz.underlying40 rfl (by rw [hlc.out]; exact info_hd) ?_)
  go_ret2
  exact ⟨rfl, B2.out⟩

/-- What lies in memory while the document's Bytes goes on: the header's box, the row that is appended to. -/
structure RbJ (w : World) (L : List Value) (B : Nat) (v : Value) (k : Nat) (xs : List Int) (u : World) : Prop where
  box : u.heap[w.heap.size]? = some (.cells L.toArray 40 (0, 0))
  own : u.ownsRow B 5 1 v k (xs.map (Value.int .u8))
  old : Below w.heap.size w u
  sz : B ≤ u.heap.size
  lt : w.heap.size < B

theorem RbJ.below {w u u' : World} {L : List Value} {B : Nat} {v : Value} {k : Nat} {xs : List Int} (h : RbJ w L B v k xs u) (b : Below u.heap.size u u') : RbJ w L B v k xs u' :=
  ⟨(b.block _ (Array.getElem?_eq_some_iff.1 h.box).1).trans h.box, Kept.owns h.own (Kept.of_below (S := fun _ => False) b) (fun _ _ h => h), h.old.trans (b.mono h.old.size), Nat.le_trans h.sz b.size, h.lt⟩

theorem RbJ.app {w u u' : World} {L : List Value} {B : Nat} {v v' : Value} {k m : Nat} {xs ys : List Int} (h : RbJ w L B v k xs u) (o : u'.ownsRow B 5 1 v' (k + m) (xs.map (Value.int .u8) ++ ys.map (Value.int .u8))) (g : u.grownBy u' v.ownBlock) : RbJ w L B v' (k + m) (xs ++ ys) u' :=
  ⟨Kept_block h.box g (fun e => by have h1 := (h.own.lt _ e).1; have h2 := h.lt; omega), by rw [List.map_append]; exact o, h.old.grown g h.old.size (fun j hj => Nat.le_trans (Nat.le_of_lt h.lt) (h.own.lt j hj).1), Nat.le_trans h.sz g.size, h.lt⟩

set_option maxHeartbeats 2000000 in
theorem rbytes_ok (cl fl nx hp : Int) (s d : List Int) (a : Option Addr) (n c : Nat) (w : World) (h : N6 cl fl nx hp s d) (hf : fl ≤ 1048575) (hn : n ≤ 2008) :
    Calls Tryz.prog 115 #[.agg (n6C cl fl nx hp s d).toArray, .slice a n c] w fun e w' => ∃ v, e = .returned (.tuple #[v, .int .i64 0]) ∧ w'.ownsRow w.heap.size 5 1 v 40 ((n6B cl fl nx hp s d n).map (Value.int .u8)) ∧ Below w.heap.size w w' := by
  have hlc := Hid.mk' (n6C_length h)
  have HCK : Hid (∀ u : World, Calls Tryz.prog 58 #[.agg (n6C cl fl nx hp s d).toArray] u fun e w' => e = .returned (.int .i64 0) ∧ Below u.heap.size u w') := Hid.mk' (fun u => by
    have := rcheck_any (n6C cl fl nx hp s d) fl u rfl
    unfold n6E at this
    rw [if_pos hf] at this
    exact this)
  obtain ⟨L, HL⟩ : ∃ L, Hid (n6C cl fl nx hp s d = L) := ⟨_, rfl⟩
  rw [HL.out] at hlc HCK ⊢
  obtain ⟨W1, hW1⟩ : ∃ W1, W1 = w.alloc (.cells L.toArray 40) := ⟨_, rfl⟩
  have R1 : Hid (W1.heap[w.heap.size]? = some (.cells L.toArray 40 (0, 0))) := by rw [hW1]; exact heap_alloc_new w _
  have B1 : Hid (Below w.heap.size w W1) := by rw [hW1]; exact (Below.refl _ _).alloc (Nat.le_refl _) _
  have HW := Hid.mk' hW1.symm
  have c0 := h.c0
  have c1 := h.c1
  have f0 := h.f0
  have H := Hid.mk' h
  have hM := n6M_bd h hf
  have CE : Hid (∀ w' : World, w'.heap[w.heap.size]? = some (.cells L.toArray 40 (0, 0)) → w'.cell? ⟨w.heap.size, 0, none⟩ = some (.int .u8 cl) ∧ w'.cell? ⟨w.heap.size, 1, none⟩ = some (.int .u32 fl) ∧ w'.cell? ⟨w.heap.size, 2, none⟩ = some (.int .u8 nx) ∧ w'.cell? ⟨w.heap.size, 3, none⟩ = some (.int .u8 hp)) := Hid.mk' (fun w' hh => by
    rw [← HL.out] at hh
    refine ⟨?_, ?_, ?_, ?_⟩ <;> exact cell_of_row w' _ _ _ _ _ hh)
  have BSR : Hid (∀ w' : World, w'.heap[w.heap.size]? = some (.cells L.toArray 40 (0, 0)) → Bs w' (some ⟨w.heap.size, 4, none⟩) s ∧ Bs w' (some ⟨w.heap.size, 20, none⟩) d) := Hid.mk' (fun w' hh => by
    constructor
    · refine bs_block (A := [.int .u8 cl, .int .u32 fl, .int .u8 nx, .int .u8 hp]) (D := d.map (Value.int .u8)) (t := 40) ?_ 4 rfl H.out.sb (by rw [H.out.sl]; omega)
      rw [hh, ← HL.out]; rfl
    · refine bs_block (A := [.int .u8 cl, .int .u32 fl, .int .u8 nx, .int .u8 hp] ++ s.map (Value.int .u8)) (D := []) (t := 40) ?_ 20 (by simp [H.out.sl]) H.out.db (by rw [H.out.dl]; omega)
      rw [hh, ← HL.out]; simp [n6C])
  have Y2 : Hid (Bytes [nx, hp]) := Hid.mk' (by intro z hz; simp at hz; have := H.out.x0; have := H.out.x1; have := H.out.h0; have := H.out.h1; omega)
  clear h hW1
  unfold n6M at hM
  go_enter Tryz.func115, Tryz.ntmps115
  go_wp2_with (first | (go_at_call 58; rw [HW.out]; refine (HCK.out W1).mono ?_; rintro e w2 ⟨rfl, b2⟩; have B2 : Hid (Below w.heap.size w w2) := (B1.out.trans (b2.mono B1.out.size)); have R2 : Hid (w2.heap[w.heap.size]? = some (.cells L.toArray 40 (0, 0))) := ((b2.block _ (Array.getElem?_eq_some_iff.1 R1.out).1).trans R1.out); obtain ⟨d0, d1, d2, d3⟩ := CE.out _ R2.out; clear b2) | refine wpList_load_mid rfl 40 _ rfl w.heap.size 0 rfl L _ (by rw [HW.out]; exact range_block R1.out) Tryz.underlying40 rfl (by rw [hlc.out]; exact info_hd) ?_)
  have J2 : Hid (RbJ w L w2.heap.size (.slice none 0 0) 0 [] w2) := Hid.mk' ⟨R2.out, World.ownsRow_nil _ _ _ _, B2.out, Nat.le_refl _, (Array.getElem?_eq_some_iff.1 R2.out).1⟩
  refine (number_any (1610612736 + cl * 1048576 + fl) 4 w2 (by omega) (by omega) (by omega)).mono ?_
  rintro e w5 ⟨u5, rfl, hown, b5⟩
  obtain ⟨a5, c5, rfl, s5, -⟩ := bs_own (by rw [numB_length]; exact hown) (numB_bytes 4 (1610612736 + cl * 1048576 + fl)) (by rw [numB_length]; omega)
  rw [numB_length] at *
  have S5 := Hid.mk' s5
  have J5 := Hid.mk' (J2.out.below b5)
  clear hown b5 s5 J2 d0 d1 d2 d3
  go_wp2_with (at_builtin; refine wpList_app_own rfl _ _ rfl w2.heap.size (.slice none 0 0) 0 _ rfl J5.out.own a5 c5 4 (numB 4 (1610612736 + cl * 1048576 + fl)) rfl (numB_length 4 _) S5.out (by omega) J5.out.sz ?_; intro v6 w6 hown hgrow hpl; have J6 := Hid.mk' (J5.out.app hown hgrow); clear hown hgrow hpl)
  refine (number_any (n : Int) 2 w6 (by omega) (by omega) (by omega)).mono ?_
  rintro e w7 ⟨u7, rfl, hown, b7⟩
  obtain ⟨a7, c7, rfl, s7, -⟩ := bs_own (by rw [numB_length]; exact hown) (numB_bytes 2 (n : Int)) (by rw [numB_length]; omega)
  rw [numB_length] at *
  have S7 := Hid.mk' s7
  have J7 := Hid.mk' (J6.out.below b7)
  clear hown b7 s7 J6 J5 S5
  go_wp2_with (first | (at_builtin; refine wpList_app_own rfl _ _ rfl w2.heap.size v6 (0 + 4) _ rfl J7.out.own a7 c7 2 (numB 2 (n : Int)) rfl (numB_length 2 _) S7.out (by omega) J7.out.sz ?_; intro v8 w8 hown hgrow hpl; have J8 := Hid.mk' (J7.out.app hown hgrow); obtain ⟨d0, d1, d2, d3⟩ := CE.out _ J8.out.box; clear hown hgrow hpl) | (at_builtin; have J8' := Hid.mk' (J8.out.below ((Below.refl w8.heap.size w8).alloc (Nat.le_refl _) (.cells ([nx, hp].map (Value.int .u8)).toArray 5))); refine wpList_app_own rfl _ _ rfl w2.heap.size v8 (0 + 4 + 2) _ rfl J8'.out.own (some ⟨w8.heap.size, 0, none⟩) 2 2 [nx, hp] rfl rfl (bs_new w8 [nx, hp] 5 Y2.out (by simp)) (by omega) J8'.out.sz ?_; intro v9 w9 hown hgrow hpl; have J9 := Hid.mk' (J8'.out.app hown hgrow); clear hown hgrow hpl d0 d1 d2 d3) | (at_builtin; refine wpList_app_own rfl _ _ rfl w2.heap.size v9 (0 + 4 + 2 + 2) _ rfl J9.out.own (some ⟨w.heap.size, 4, none⟩) 16 16 s rfl H.out.sl (BSR.out _ J9.out.box).1 (by omega) J9.out.sz ?_; intro v10 w10 hown hgrow hpl; have J10 := Hid.mk' (J9.out.app hown hgrow); clear hown hgrow hpl) | (at_builtin; refine wpList_app_own rfl _ _ rfl w2.heap.size v10 (0 + 4 + 2 + 2 + 16) _ rfl J10.out.own (some ⟨w.heap.size, 20, none⟩) 16 16 d rfl H.out.dl (BSR.out _ J10.out.box).2 (by omega) J10.out.sz ?_; intro v11 w11 hown hgrow hpl; have J11 := Hid.mk' (J10.out.app hown hgrow); clear hown hgrow hpl))
  have EB : Hid ([] ++ numB 4 (1610612736 + cl * 1048576 + fl) ++ numB 2 (n : Int) ++ [nx, hp] ++ s ++ d = n6B cl fl nx hp s d n) := Hid.mk' (by rw [numB_two _ (by omega) (by omega), numB_four _ (by omega) (by omega)]; simp [n6B, n6M])
  rw [EB.out] at J11
  have HO := Hid.mk' (ownsRow_base J11.out.own (Nat.le_of_lt J11.out.lt))
  have BO := Hid.mk' J11.out.old
  clear J7 J8 J8' J9 J10 S7 J11
  go_ret2
  exact ⟨_, rfl, HO.out, BO.out⟩

/-- What holds where the document's Read has only looked: the box of its result and the one of none. -/
structure RrJ (w u : World) : Prop where
  box : u.heap[w.heap.size]? = some (.cells hd0.toArray 40 (0, 0))
  non : u.heap[w.heap.size + 1]? = some (.cells hd0.toArray 40 (0, 0))
  old : Below w.heap.size w u

theorem RrJ.first (w : World) : RrJ w ((w.alloc (.cells hd0.toArray 40)).alloc (.cells hd0.toArray 40)) :=
  ⟨heap_alloc2_old w _ _, heap_alloc2_new w _ _, ((Below.refl _ _).alloc (Nat.le_refl _) _).alloc (by simp) _⟩

theorem RrJ.below {w u v : World} (h : RrJ w u) (b : Below u.heap.size u v) : RrJ w v :=
  ⟨(b.block _ (Array.getElem?_eq_some_iff.1 h.box).1).trans h.box, (b.block _ (Array.getElem?_eq_some_iff.1 h.non).1).trans h.non, h.old.trans (b.mono h.old.size)⟩

theorem RrJ.set {w u : World} (h : RrJ w u) {p : Addr} (hp : w.heap.size + 2 ≤ p.block) (x : Value) : RrJ w (u.setCell p x) :=
  ⟨by rw [Go.heap_setCell_other _ _ _ _ (by omega)]; exact h.box, by rw [Go.heap_setCell_other _ _ _ _ (by omega)]; exact h.non, h.old.setCell (p := p) (by omega) _⟩

theorem RrJ.there {w u : World} (h : RrJ w u) : u.there w.heap.size 0 hd0.toArray.size := there_block h.box

theorem RrJ.done {w u : World} (h : RrJ w u) (M : List Value) (hl : M.length = 36) : (u.setCells w.heap.size 0 M).heap[w.heap.size]? = some (.cells M.toArray 40 (0, 0)) ∧ Below w.heap.size w (u.setCells w.heap.size 0 M) :=
  ⟨heap_whole (L := hd0) h.box (by rw [hl]; rfl), h.old.trans (((Kept.refl (fun k => k = w.heap.size) u).setCells w.heap.size 0 M (fun _ => rfl)).below h.old.size (fun k hk => by omega))⟩

theorem RrJ.size {w u : World} (h : RrJ w u) : w.heap.size + 2 ≤ u.heap.size := (Array.getElem?_eq_some_iff.1 h.non).1

set_option maxHeartbeats 400000 in
theorem rread_short (a : Option Addr) (n c : Nat) (w : World) (hn : n < 40) :
    Calls Tryz.prog 122 #[.slice a n c] w fun e w' => e = .returned (.tuple #[.agg hd0.toArray, .int .i64 6]) ∧ Below w.heap.size w w' := by
  have J2 := Hid.mk' (RrJ.first w)
  go_enter Tryz.func122, Tryz.ntmps122
  go_wp2_with (first | refine wpList_store_mid rfl 40 _ _ rfl w.heap.size 0 hd0.toArray rfl rfl J2.out.there info_hd hd0_one ?_ | refine wpList_load_mid rfl 40 _ rfl (w.heap.size + 1) 0 (by simp [Act.eval]) hd0 _ (range_block J2.out.non) Tryz.underlying40 rfl info_hd ?_)
  refine ret_cell_tmp rfl w.heap.size 40 hd0 (0, 0) _ rfl (J2.out.done hd0 rfl).1 Tryz.underlying40 rfl info_hd rfl ?_
  exact ⟨rfl, (J2.out.done hd0 rfl).2⟩

theorem rdW_16 {zs : List Int} (h : Bytes zs) : rdW zs 0 / 268435456 = zs.getD 0 0 / 16 := by
  have h0 := h.getD 0
  have h1 := h.getD 1
  have h2 := h.getD 2
  have h3 := h.getD 3
  unfold rdW rdV
  show ((zs.getD 0 0 * 256 + zs.getD 1 0) * 65536 + (zs.getD 2 0 * 256 + zs.getD 3 0)) / 268435456 = _
  omega

theorem valV_4 (zs : List Int) : valV zs 0 4 = rdW zs 0 := by
  show (((0 * 256 + zs.getD 0 0) * 256 + zs.getD 1 0) * 256 + zs.getD 2 0) * 256 + zs.getD 3 0 = (zs.getD 0 0 * 256 + zs.getD 1 0) * 65536 + (zs.getD 2 0 * 256 + zs.getD 3 0)
  omega

set_option maxHeartbeats 1000000 in
theorem rread_bad (b off : Nat) (n c : Nat) (zs : List Int) (w : World) (hz : zs.length = n) (hB : Bs w (some ⟨b, off, none⟩) zs) (hn : 40 ≤ n) (hq : ¬ rdQ zs) :
    Calls Tryz.prog 122 #[.slice (some ⟨b, off, none⟩) n c] w fun e w' => e = .returned (.tuple #[.agg hd0.toArray, .int .i64 80]) ∧ Below w.heap.size w w' := by
  have hln : n ≤ 140737488355328 := by rw [← hz]; exact hB.len
  have J2 := Hid.mk' (RrJ.first w)
  have KV : Hid (∀ (u : World) (k : Nat), Below w.heap.size w u → k + 2 ≤ n → Calls Tryz.prog 182 #[.slice (some ⟨b, off, none⟩) n c, .int .i64 k, .int .i64 2] u fun e u' => e = .returned (.int .i64 (rdV zs k)) ∧ u = u') := Hid.mk' (fun u k h hk => by
    have h0 := value_any b off n c k 2 zs u hz (hB.below h) (by omega) hk
    rw [show valV zs k 2 = rdV zs k by simp [valV, rdV]] at h0
    exact h0)
  have c0 : w.cell? ⟨b, off, none⟩ = some (.int .u8 (zs.getD 0 0)) := by
    rcases hB.lies with h0 | ⟨b', off', e, hc⟩
    · omega
    · cases e; exact hc 0 (by omega)
  have hlt := lt_of_cell c0
  have hlt' : b < w.heap.size := hlt
  have hne : ¬ b = w.heap.size := by omega
  have hne1 : ¬ b = w.heap.size + 1 := by omega
  unfold rdQ at hq
  rw [hz, rdW_16 hB.bytes] at hq
  have z0 := hB.bytes.getD 0
  have v4 := rdV_bd hB.bytes 4
  clear hB hz hlt
  have k0 : (0 : Int) < (n : Int) := by omega
  generalize zs.getD 0 0 = x at *
  obtain ⟨V4, H4⟩ : ∃ V, Hid (rdV zs 4 = V) := ⟨_, rfl⟩
  rw [H4.out] at hq v4
  obtain ⟨z00, z01⟩ := z0
  by_cases hx : x / 16 = 6
  · have h4 : ¬ V4 = (n : Int) - 40 := fun e => hq ⟨hx, e⟩
    have h4b : (V4 != (n : Int) - 40) = true := by simpa using h4
    have hxb : (x / 16 != 6) = false := by simpa using hx
    go_enter Tryz.func122, Tryz.ntmps122
    go_wp2_with (first | (go_at_call 182; refine (KV.out _ 4 (by exact J2.out.old) (by omega)).mono ?_; rw [H4.out]; rintro e u ⟨rfl, rfl⟩) | refine wpList_store_mid rfl 40 _ _ rfl w.heap.size 0 hd0.toArray rfl rfl J2.out.there info_hd hd0_one ?_ | refine wpList_load_mid rfl 40 _ rfl (w.heap.size + 1) 0 (by simp [Act.eval]) hd0 _ (range_block J2.out.non) Tryz.underlying40 rfl info_hd ?_)
    refine ret_cell_tmp rfl w.heap.size 40 hd0 (0, 0) _ rfl (J2.out.done hd0 rfl).1 Tryz.underlying40 rfl info_hd rfl ?_
    exact ⟨rfl, (J2.out.done hd0 rfl).2⟩
  · have hxb : (x / 16 != 6) = true := by simpa using hx
    go_enter Tryz.func122, Tryz.ntmps122
    go_wp2_with (first | refine wpList_store_mid rfl 40 _ _ rfl w.heap.size 0 hd0.toArray rfl rfl J2.out.there info_hd hd0_one ?_ | refine wpList_load_mid rfl 40 _ rfl (w.heap.size + 1) 0 (by simp [Act.eval]) hd0 _ (range_block J2.out.non) Tryz.underlying40 rfl info_hd ?_)
    refine ret_cell_tmp rfl w.heap.size 40 hd0 (0, 0) _ rfl (J2.out.done hd0 rfl).1 Tryz.underlying40 rfl info_hd rfl ?_
    exact ⟨rfl, (J2.out.done hd0 rfl).2⟩

theorem n6C_setS (cl fl nx hp : Int) (s d : List Int) (k : Nat) (x : Int) (h : k < s.length) : (n6C cl fl nx hp s d).set (4 + k) (.int .u8 x) = n6C cl fl nx hp (s.set k x) d := by
  unfold n6C
  rw [List.set_append_right _ _ (by simp), show 4 + k - [Value.int .u8 cl, .int .u32 fl, .int .u8 nx, .int .u8 hp].length = k by simp, List.set_append_left _ _ (by simpa using h), List.map_set]

theorem n6C_setD (cl fl nx hp : Int) (s d : List Int) (k : Nat) (x : Int) (h : s.length = 16) : (n6C cl fl nx hp s d).set (20 + k) (.int .u8 x) = n6C cl fl nx hp s (d.set k x) := by
  unfold n6C
  rw [List.set_append_right _ _ (by simp; omega), show 20 + k - [Value.int .u8 cl, .int .u32 fl, .int .u8 nx, .int .u8 hp].length = 16 + k by simp; omega, List.set_append_right _ _ (by simp [h]), show 16 + k - (s.map (Value.int .u8)).length = k by simp [h], List.map_set]

/-- The first i of sixteen bytes are there, the others are 0. -/
def half16 (zs : List Int) (i : Nat) : List Int := zs.take i ++ List.replicate (16 - i) 0

theorem half16_length {zs : List Int} {i : Nat} (h : 16 ≤ zs.length) (hi : i ≤ 16) : (half16 zs i).length = 16 := by
  unfold half16; simp; omega

theorem half16_succ {zs : List Int} {i : Nat} (h : 16 ≤ zs.length) (hi : i < 16) : (half16 zs i).set i (zs.getD i 0) = half16 zs (i + 1) := by
  unfold half16
  have e : (zs.take i).length = i := by simp; omega
  rw [List.set_append_right _ _ (by omega), e, Nat.sub_self, List.take_succ_eq_append_getElem (by omega), show 16 - i = (16 - (i + 1)) + 1 by omega, List.replicate_succ, List.set_cons_zero, List.append_assoc]
  rw [List.getD_eq_getElem?_getD, List.getElem?_eq_getElem (by omega)]; rfl

set_option maxHeartbeats 1000000 in
theorem rread_ok (b off : Nat) (n c : Nat) (zs : List Int) (w : World) (hz : zs.length = n) (hB : Bs w (some ⟨b, off, none⟩) zs) (hn : 40 ≤ n) (hq : rdQ zs) :
    Calls Tryz.prog 122 #[.slice (some ⟨b, off, none⟩) n c] w fun e w' => e = .returned (.tuple #[.agg (rdC zs).toArray, .int .i64 0]) ∧ Below w.heap.size w w' := by
  obtain ⟨RES, HRES⟩ : ∃ RES, Hid (rdC zs = RES) := ⟨_, rfl⟩
  rw [HRES.out]
  have v0 := rdW_bd hB.bytes 0
  have HN6 := Hid.mk' (n6_of hB.bytes (by rw [hz]; exact hn))
  have hln : n ≤ 140737488355328 := by rw [← hz]; exact hB.len
  have J2 := Hid.mk' (RrJ.first w)
  have KV : Hid (∀ (u : World) (k : Nat), Below w.heap.size w u → k + 2 ≤ n → Calls Tryz.prog 182 #[.slice (some ⟨b, off, none⟩) n c, .int .i64 k, .int .i64 2] u fun e u' => e = .returned (.int .i64 (rdV zs k)) ∧ u = u') := Hid.mk' (fun u k h hk => by
    have h0 := value_any b off n c k 2 zs u hz (hB.below h) (by omega) hk
    rw [show valV zs k 2 = rdV zs k by simp [valV, rdV]] at h0
    exact h0)
  have KW : Hid (∀ u : World, Below w.heap.size w u → Calls Tryz.prog 182 #[.slice (some ⟨b, off, none⟩) n c, .int .i64 0, .int .i64 4] u fun e u' => e = .returned (.int .i64 (rdW zs 0)) ∧ u = u') := Hid.mk' (fun u h => by
    have h0 := value_any b off n c 0 4 zs u hz (hB.below h) (by omega) (by omega)
    rw [valV_4] at h0
    exact h0)
  have CE : Hid (∀ u, Below w.heap.size w u → ∀ k, k < n → u.cell? ⟨b, off + k, none⟩ = some (.int .u8 (zs.getD k 0))) := Hid.mk' (fun u h k hk => by
    rcases (hB.below h).lies with h0 | ⟨b', off', e, hc⟩
    · omega
    · cases e; exact hc k (by omega))
  have c0 : w.cell? ⟨b, off, none⟩ = some (.int .u8 (zs.getD 0 0)) := CE.out w (Below.refl _ _) 0 (by omega)
  have hlt := lt_of_cell c0
  have hlt' : b < w.heap.size := hlt
  have hne : ¬ b = w.heap.size := by omega
  have hne1 : ¬ b = w.heap.size + 1 := by omega
  obtain ⟨hx, h4⟩ := hq
  rw [hz] at h4
  rw [rdW_16 hB.bytes] at hx
  have z0 := hB.bytes.getD 0
  have k6 : (6 : Int) < (n : Int) := by omega
  have k7 : (7 : Int) < (n : Int) := by omega
  have k0 : (0 : Int) < (n : Int) := by omega
  have HB := Hid.mk' hB
  have HN := Hid.mk' hz
  have H4 := Hid.mk' h4
  clear hB hz hlt h4
  generalize zs.getD 0 0 = x at *
  obtain ⟨z00, z01⟩ := z0
  have hxb : (x / 16 != 6) = false := by simpa using hx
  have hnb : ((n : Int) - 40 != (n : Int) - 40) = false := by simp
  obtain ⟨M, HM⟩ : ∃ M, Hid (rdW zs 0 = M) := ⟨_, rfl⟩
  rw [HM.out] at v0
  obtain ⟨v00, v01⟩ := v0
  obtain ⟨x6, HX6⟩ : ∃ x, Hid (zs.getD 6 0 = x) := ⟨_, rfl⟩
  obtain ⟨x7, HX7⟩ : ∃ x, Hid (zs.getD 7 0 = x) := ⟨_, rfl⟩
  have hw8 : IntKind.u8.wrap (M / 1048576 % 256) = M / 1048576 % 256 := by rw [IntKind.wrap_u8]; omega
  have ht1 : IntKind.i64.wrap (M.tdiv 1048576) = M / 1048576 := by rw [Int.tdiv_eq_ediv_of_nonneg v00, IntKind.wrap_i64]; omega
  have ht2 : (M / 1048576).tmod 256 = M / 1048576 % 256 := Int.tmod_eq_emod_of_nonneg (by omega)
  have ht3 : M.tmod 1048576 = M % 1048576 := Int.tmod_eq_emod_of_nonneg v00
  have hw32 : IntKind.u32.wrap (M % 1048576) = M % 1048576 := by rw [IntKind.wrap_u32]; omega
  go_enter Tryz.func122, Tryz.ntmps122
  go_wp2_with (first | (go_at_call_of 182 (Value.int IntKind.i64 2); refine (KV.out _ 4 (by exact J2.out.old) (by omega)).mono ?_; rw [H4.out]; rintro e u ⟨rfl, rfl⟩) | (go_at_call_of 182 (Value.int IntKind.i64 0); refine (KW.out _ (by exact J2.out.old)).mono ?_; rw [HM.out]; rintro e u ⟨rfl, rfl⟩))
  obtain ⟨W2, hW2⟩ : ∃ W2, W2 = (w.alloc (.cells hd0.toArray 40)).alloc (.cells hd0.toArray 40) := ⟨_, rfl⟩
  change Code.wp _ _ _ _ ((w.alloc (.cells hd0.toArray 40)).alloc (.cells hd0.toArray 40))
  rw [← hW2] at J2 ⊢
  clear hW2 c0 hne hne1 hxb hnb hx
  have q6 := CE.out W2 J2.out.old 6 (by omega)
  have q7 := CE.out W2 J2.out.old 7 (by omega)
  rw [HX6.out] at q6
  rw [HX7.out] at q7
  have hlt5 : b < W2.heap.size := lt_of_cell q6
  have hne5 : ¬ b = W2.heap.size := by omega
  refine wp_region_held_drew (S := fun w' => w'.cell? ⟨b, off + 6, none⟩ = some (.int .u8 x6) ∧ w'.cell? ⟨b, off + 7, none⟩ = some (.int .u8 x7)) (by kernel_rfl) ⟨q6, q7⟩ (fun hHeld => ?_)
  change wpAnyH _ _ _ _ _ 16 #[false, false, false, false, false, false, false, false, false, false, false, false, false, false, false, false] _ _
  refine held_take 0 28 (.int .i64 M) rfl rfl (by kernel_rfl) (by kernel_rfl) (by kernel_rfl) (fun _ _ _ h => h) (Or.inl ⟨by rfl, fun u hu => ?_⟩) hHeld ?_
  · obtain ⟨u6, u7⟩ := hu; go_simp
  simp only [Act.put, List.setIfInBounds_toArray, List.set_cons_zero, List.set_cons_succ]
  refine held_take 1 29 (.int .i64 (M / 1048576)) rfl rfl (by kernel_rfl) (by kernel_rfl) (by kernel_rfl) (fun _ _ _ h => h) (Or.inl ⟨by rfl, fun u hu => ?_⟩) hHeld ?_
  · obtain ⟨u6, u7⟩ := hu; go_simp
  simp only [Act.put, List.setIfInBounds_toArray, List.set_cons_zero, List.set_cons_succ]
  refine held_take 2 30 (.int .i64 (M / 1048576 % 256)) rfl rfl (by kernel_rfl) (by kernel_rfl) (by kernel_rfl) (fun _ _ _ h => h) (Or.inl ⟨by rfl, fun u hu => ?_⟩) hHeld ?_
  · obtain ⟨u6, u7⟩ := hu; go_simp
  simp only [Act.put, List.setIfInBounds_toArray, List.set_cons_zero, List.set_cons_succ]
  refine held_take 3 31 (.int .u8 (M / 1048576 % 256)) rfl rfl (by kernel_rfl) (by kernel_rfl) (by kernel_rfl) (fun _ _ _ h => h) (Or.inl ⟨by rfl, fun u hu => ?_⟩) hHeld ?_
  · obtain ⟨u6, u7⟩ := hu; go_simp
  simp only [Act.put, List.setIfInBounds_toArray, List.set_cons_zero, List.set_cons_succ]
  refine held_take 4 32 (.int .i64 M) rfl rfl (by kernel_rfl) (by kernel_rfl) (by kernel_rfl) (fun _ _ _ h => h) (Or.inl ⟨by rfl, fun u hu => ?_⟩) hHeld ?_
  · obtain ⟨u6, u7⟩ := hu; go_simp
  simp only [Act.put, List.setIfInBounds_toArray, List.set_cons_zero, List.set_cons_succ]
  refine held_take 5 33 (.int .i64 (M % 1048576)) rfl rfl (by kernel_rfl) (by kernel_rfl) (by kernel_rfl) (fun _ _ _ h => h) (Or.inl ⟨by rfl, fun u hu => ?_⟩) hHeld ?_
  · obtain ⟨u6, u7⟩ := hu; go_simp
  simp only [Act.put, List.setIfInBounds_toArray, List.set_cons_zero, List.set_cons_succ]
  refine held_take 6 34 (.int .u32 (M % 1048576)) rfl rfl (by kernel_rfl) (by kernel_rfl) (by kernel_rfl) (fun _ _ _ h => h) (Or.inl ⟨by rfl, fun u hu => ?_⟩) hHeld ?_
  · obtain ⟨u6, u7⟩ := hu; go_simp
  simp only [Act.put, List.setIfInBounds_toArray, List.set_cons_zero, List.set_cons_succ]
  refine held_take 7 35 (.slice (some ⟨b, off, none⟩) n c) rfl rfl (by kernel_rfl) (by kernel_rfl) (by kernel_rfl) (fun _ _ _ h => h) (Or.inl ⟨by rfl, fun u hu => ?_⟩) hHeld ?_
  · obtain ⟨u6, u7⟩ := hu; go_simp
  simp only [Act.put, List.setIfInBounds_toArray, List.set_cons_zero, List.set_cons_succ]
  refine held_take 8 36 (.pointer (some ⟨b, off + 6, none⟩)) rfl rfl (by kernel_rfl) (by kernel_rfl) (by kernel_rfl) (fun _ _ _ h => h) (Or.inl ⟨by rfl, fun u hu => ?_⟩) hHeld ?_
  · obtain ⟨u6, u7⟩ := hu; go_simp
  simp only [Act.put, List.setIfInBounds_toArray, List.set_cons_zero, List.set_cons_succ]
  refine held_take 9 37 (.int .u8 x6) rfl rfl (by kernel_rfl) (by kernel_rfl) (by kernel_rfl) (fun _ _ _ h => h) (Or.inl ⟨by rfl, fun u hu => ?_⟩) hHeld ?_
  · obtain ⟨u6, u7⟩ := hu; go_simp
  simp only [Act.put, List.setIfInBounds_toArray, List.set_cons_zero, List.set_cons_succ]
  refine held_take 10 38 (.slice (some ⟨b, off, none⟩) n c) rfl rfl (by kernel_rfl) (by kernel_rfl) (by kernel_rfl) (fun _ _ _ h => h) (Or.inl ⟨by rfl, fun u hu => ?_⟩) hHeld ?_
  · obtain ⟨u6, u7⟩ := hu; go_simp
  simp only [Act.put, List.setIfInBounds_toArray, List.set_cons_zero, List.set_cons_succ]
  refine held_take 11 39 (.pointer (some ⟨b, off + 7, none⟩)) rfl rfl (by kernel_rfl) (by kernel_rfl) (by kernel_rfl) (fun _ _ _ h => h) (Or.inl ⟨by rfl, fun u hu => ?_⟩) hHeld ?_
  · obtain ⟨u6, u7⟩ := hu; go_simp
  simp only [Act.put, List.setIfInBounds_toArray, List.set_cons_zero, List.set_cons_succ]
  refine held_take 12 40 (.int .u8 x7) rfl rfl (by kernel_rfl) (by kernel_rfl) (by kernel_rfl) (fun _ _ _ h => h) (Or.inl ⟨by rfl, fun u hu => ?_⟩) hHeld ?_
  · obtain ⟨u6, u7⟩ := hu; go_simp
  simp only [Act.put, List.setIfInBounds_toArray, List.set_cons_zero, List.set_cons_succ]
  refine held_take 13 41 (.agg #[.int .u8 (M / 1048576 % 256), .int .u32 (M % 1048576), .int .u8 x6, .int .u8 x7, .int .u8 0, .int .u8 0, .int .u8 0, .int .u8 0, .int .u8 0, .int .u8 0, .int .u8 0, .int .u8 0, .int .u8 0, .int .u8 0, .int .u8 0, .int .u8 0, .int .u8 0, .int .u8 0, .int .u8 0, .int .u8 0, .int .u8 0, .int .u8 0, .int .u8 0, .int .u8 0, .int .u8 0, .int .u8 0, .int .u8 0, .int .u8 0, .int .u8 0, .int .u8 0, .int .u8 0, .int .u8 0, .int .u8 0, .int .u8 0, .int .u8 0, .int .u8 0]) rfl rfl (by kernel_rfl) (by kernel_rfl) (by kernel_rfl) (fun _ _ _ h => h) (Or.inl ⟨by rfl, fun u hu => ?_⟩) hHeld ?_
  · obtain ⟨u6, u7⟩ := hu; go_simp
  simp only [Act.put, List.setIfInBounds_toArray, List.set_cons_zero, List.set_cons_succ]
  refine held_one 14 (by kernel_rfl) rfl (fun K hK => ?_)
  go_simp
  have HA : Hid (∀ L : List Value, (W2.drew.alloc (.cells L.toArray 40)).cell? ⟨b, off + 6, none⟩ = some (.int .u8 x6) ∧ (W2.drew.alloc (.cells L.toArray 40)).cell? ⟨b, off + 7, none⟩ = some (.int .u8 x7)) := Hid.mk' (fun L => ⟨(((Below.refl _ _).alloc (Nat.le_refl _) _).cell (B := W2.drew.heap.size) hlt5).trans hHeld.1, (((Below.refl _ _).alloc (Nat.le_refl _) _).cell (B := W2.drew.heap.size) hlt5).trans hHeld.2⟩)
  refine hK.out _ _ (HA.out hd0) (fun hH2 => ?_)
  clear hK K
  simp only [List.setIfInBounds_toArray, List.set_cons_zero, List.set_cons_succ]
  refine held_store_new (w := W2.drew) 15 (by kernel_rfl) rfl rfl rfl 40 _ _ rfl 40 hd0 [.int .u8 (M / 1048576 % 256), .int .u32 (M % 1048576), .int .u8 x6, .int .u8 x7, .int .u8 0, .int .u8 0, .int .u8 0, .int .u8 0, .int .u8 0, .int .u8 0, .int .u8 0, .int .u8 0, .int .u8 0, .int .u8 0, .int .u8 0, .int .u8 0, .int .u8 0, .int .u8 0, .int .u8 0, .int .u8 0, .int .u8 0, .int .u8 0, .int .u8 0, .int .u8 0, .int .u8 0, .int .u8 0, .int .u8 0, .int .u8 0, .int .u8 0, .int .u8 0, .int .u8 0, .int .u8 0, .int .u8 0, .int .u8 0, .int .u8 0, .int .u8 0] rfl rfl rfl info_hd ?_ (HA.out _) ?_
  · exact n6C_one (M / 1048576 % 256) (M % 1048576) x6 x7 [0, 0, 0, 0, 0, 0, 0, 0, 0, 0, 0, 0, 0, 0, 0, 0] [0, 0, 0, 0, 0, 0, 0, 0, 0, 0, 0, 0, 0, 0, 0, 0]
  refine wpAnyH_done (by kernel_rfl) ?_ _
  obtain ⟨W7, hW7⟩ : ∃ W7, W7 = W2.drew.alloc (.cells ([.int .u8 (M / 1048576 % 256), .int .u32 (M % 1048576), .int .u8 x6, .int .u8 x7, .int .u8 0, .int .u8 0, .int .u8 0, .int .u8 0, .int .u8 0, .int .u8 0, .int .u8 0, .int .u8 0, .int .u8 0, .int .u8 0, .int .u8 0, .int .u8 0, .int .u8 0, .int .u8 0, .int .u8 0, .int .u8 0, .int .u8 0, .int .u8 0, .int .u8 0, .int .u8 0, .int .u8 0, .int .u8 0, .int .u8 0, .int .u8 0, .int .u8 0, .int .u8 0, .int .u8 0, .int .u8 0, .int .u8 0, .int .u8 0, .int .u8 0, .int .u8 0] : List Value).toArray 40) := ⟨_, rfl⟩
  rw [← hW7]
  have J7 : Hid (RrJ w W7) := Hid.mk' (by rw [hW7]; exact J2.out.below (((Below.refl _ _).drew).alloc (Nat.le_refl _) _))
  have Q7 : Hid (W7.heap[W2.heap.size]? = some (.cells (n6C (M / 1048576 % 256) (M % 1048576) x6 x7 (half16 (zs.drop 8) 0) (half16 (zs.drop 24) 0)).toArray 40 (0, 0))) := Hid.mk' (by rw [hW7]; exact heap_alloc_new W2.drew _)
  have SZ : Hid (w.heap.size + 2 ≤ W2.heap.size) := Hid.mk' J2.out.size
  clear hW7 q6 q7 J2 hHeld hH2 HA hw8 hw32 ht1 ht2 ht3
  obtain ⟨A1, HA1⟩ : ∃ A, Hid (M / 1048576 % 256 = A) := ⟨_, rfl⟩
  obtain ⟨A2, HA2⟩ : ∃ A, Hid (M % 1048576 = A) := ⟨_, rfl⟩
  rw [HA1.out, HA2.out] at Q7
  go_wp2_with fail
  go_loopw [7] (fun i wr => ∃ k : Nat, k ≤ 16 ∧ i = .int .i64 k ∧ Hid (wr.heap[W2.heap.size]? = some (.cells (n6C A1 A2 x6 x7 (half16 (zs.drop 8) k) (half16 (zs.drop 24) k)).toArray 40 (0, 0))) ∧ Hid (RrJ w wr)) (fun i _ => 16 - (intOf i).toNat)
  case atStart => exact ⟨0, Nat.zero_le _, rfl, Q7, J7⟩
  case round =>
    obtain ⟨k, hk, rfl, Q8, J8⟩ := hrel
    clear Q7 J7
    have l12 : 16 ≤ (zs.drop 8).length := by rw [List.length_drop, HN.out]; omega
    have l16 : 16 ≤ (zs.drop 24).length := by rw [List.length_drop, HN.out]; omega
    have L12 := Hid.mk' l12
    have L16 := Hid.mk' l16
    have hll : Hid ((n6C A1 A2 x6 x7 (half16 (zs.drop 8) k) (half16 (zs.drop 24) k)).length = 36) := Hid.mk' (by unfold n6C; simp [half16_length l12 hk, half16_length l16 hk])
    clear l12 l16
    by_cases hlt : k < 16
    · have hsp : (k : Int) < 16 := by omega
      have hk1 : 8 + (k : Int) < (n : Int) := by omega
      have hk2 : 24 + (k : Int) < (n : Int) := by omega
      have d0 := CE.out wr J8.out.old (8 + k) (by omega)
      have d1 := CE.out wr J8.out.old (24 + k) (by omega)
      have f0 : wr.frozen? ⟨W2.heap.size, 4 + k, none⟩ = false := frozen_of_row wr _ _ _ _ Q8.out
      have f1 : wr.frozen? ⟨W2.heap.size, 20 + k, none⟩ = false := frozen_of_row wr _ _ _ _ Q8.out
      obtain ⟨u0, e0⟩ : ∃ u, wr.cell? ⟨W2.heap.size, 4 + k, none⟩ = some u := ⟨_, by rw [cell_of_row wr _ (4 + k) _ _ _ Q8.out, List.getElem?_toArray, List.getElem?_eq_getElem (by rw [hll.out]; omega)]⟩
      obtain ⟨u1, e1⟩ : ∃ u, wr.cell? ⟨W2.heap.size, 20 + k, none⟩ = some u := ⟨_, by rw [cell_of_row wr _ (20 + k) _ _ _ Q8.out, List.getElem?_toArray, List.getElem?_eq_getElem (by rw [hll.out]; omega)]⟩
      have hbne : ¬ W2.heap.size = b := by omega
      obtain ⟨x, HX⟩ : ∃ x, Hid (zs.getD (8 + k) 0 = x) := ⟨_, rfl⟩
      obtain ⟨y, HY⟩ : ∃ y, Hid (zs.getD (24 + k) 0 = y) := ⟨_, rfl⟩
      rw [HX.out] at d0
      rw [HY.out] at d1
      go_wp2_with fail
      go_roundw
      case rel =>
        refine ⟨k + 1, hlt, by go_num, Hid.mk' ?_, Hid.mk' ?_⟩
        · rw [Go.heap_setCell_same _ _ (20 + k) _ _ _ (Go.heap_setCell_same _ _ (4 + k) _ _ _ Q8.out)]
          rw [List.setIfInBounds_toArray, List.setIfInBounds_toArray, n6C_setS _ _ _ _ _ _ _ _ (by rw [half16_length L12.out hk]; exact hlt), n6C_setD _ _ _ _ _ _ _ _ (by rw [List.length_set, half16_length L12.out hk])]
          rw [← HX.out, ← HY.out]
          rw [show zs.getD (8 + k) 0 = (zs.drop 8).getD k 0 by simp only [List.getD_eq_getElem?_getD, List.getElem?_drop], show zs.getD (24 + k) 0 = (zs.drop 24).getD k 0 by simp only [List.getD_eq_getElem?_getD, List.getElem?_drop], half16_succ L12.out hlt, half16_succ L16.out hlt]
        · exact (J8.out.set (p := ⟨W2.heap.size, 4 + k, none⟩) SZ.out _).set (p := ⟨W2.heap.size, 20 + k, none⟩) SZ.out _
      case measure => simp [intOf]; omega
    · obtain rfl : k = 16 := by omega
      have HLR : Hid (n6C A1 A2 x6 x7 (half16 (zs.drop 8) 16) (half16 (zs.drop 24) 16) = RES) := Hid.mk' (by rw [← HRES.out, ← HX6.out, ← HX7.out, ← HA1.out, ← HA2.out, ← HM.out]; unfold half16 rdC; simp)
      have hlr : Hid (RES.length = 36) := Hid.mk' (by rw [← HRES.out]; exact n6C_length HN6.out)
      have hone : Hid (RES.toArray.all (·.oneCell') = true) := Hid.mk' (by rw [← HRES.out]; exact n6C_one _ _ _ _ _ _)
      rw [HLR.out] at Q8
      have hth : Hid (wr.there w.heap.size 0 RES.toArray.size) := Hid.mk' (by
        have e : RES.toArray.size = hd0.toArray.size := by rw [List.size_toArray, hlr.out]; rfl
        rw [e]; exact J8.out.there)
      go_wp2_with (first | refine wpList_store_mid rfl 40 _ _ rfl w.heap.size 0 RES.toArray rfl rfl hth.out (by rw [List.size_toArray, hlr.out]; exact info_hd) hone.out ?_ | refine wpList_load_mid rfl 40 _ rfl W2.heap.size 0 rfl RES _ (range_block Q8.out) Tryz.underlying40 rfl (by rw [hlr.out]; exact info_hd) ?_)
      refine ret_cell_tmp rfl w.heap.size 40 RES (0, 0) _ rfl (J8.out.done RES hlr.out).1 Tryz.underlying40 rfl (by rw [hlr.out]; exact info_hd) rfl ?_
      exact ⟨rfl, (J8.out.done RES hlr.out).2⟩

theorem wf_u8 {z : Int} (h0 : 0 ≤ z) (h1 : z ≤ 255) : (Lit.int .u8 z).wf = true := by
  have e0 : IntKind.u8.min = 0 := by decide
  have e1 : IntKind.u8.max = 255 := by decide
  simp [Lit.wf, e0, e1]; omega

theorem wf_u32 {z : Int} (h0 : 0 ≤ z) (h1 : z ≤ 4294967295) : (Lit.int .u32 z).wf = true := by
  have e0 : IntKind.u32.min = 0 := by decide
  have e1 : IntKind.u32.max = 4294967295 := by decide
  simp [Lit.wf, e0, e1]; omega

theorem bounds32 {z : Int} (h : (Lit.int .u32 z).wf = true) : 0 ≤ z ∧ z ≤ 4294967295 := by
  have e0 : IntKind.u32.min = 0 := by decide
  have e1 : IntKind.u32.max = 4294967295 := by decide
  simpa [Lit.wf, e0, e1] using h

theorem kl_bytes {t : TypeId} {n : Nat} (hu : Tryz.prog.underlying t = some (.array n 5)) (hc : Tryz.prog.cellsOf t = n) (D : Nat) (zs : List Int) (hl : zs.length = n) (h : Bytes zs) : Tryz.prog.keyLits (D + 2) t (zs.map (Value.int .u8)) = some (zs.map (Lit.int .u8)) :=
  kl_arr hu Tryz.underlying5 hc (by kernel_rfl) D zs hl (fun z hz => wf_u8 (h z hz).1 (h z hz).2)

theorem kl_n6 {cl fl nx hp : Int} {s d : List Int} (h : N6 cl fl nx hp s d) : Tryz.prog.keyLits 3 40 (n6C cl fl nx hp s d) = some ([([Value.int .u8 cl], [Lit.int .u8 cl]), ([Value.int .u32 fl], [Lit.int .u32 fl]), ([Value.int .u8 nx], [Lit.int .u8 nx]), ([Value.int .u8 hp], [Lit.int .u8 hp]), (s.map (Value.int .u8), s.map (Lit.int .u8)), (d.map (Value.int .u8), d.map (Lit.int .u8))].map (·.2)).flatten := by
  refine kl_struct (d := 2) Tryz.underlying40 (by kernel_rfl) _ _ (by simp [n6C]) ?_ rfl (fun j f q hf hq => ?_)
  · rw [n6C_length h]; kernel_rfl
  · have hs := h.sl
    have hd := h.dl
    match j, hf, hq with
    | 0, hf, hq =>
      cases hf; cases hq
      exact ⟨rfl, by kernel_rfl, kl_int Tryz.underlying5 1 cl (wf_u8 h.c0 h.c1)⟩
    | 1, hf, hq =>
      cases hf; cases hq
      exact ⟨rfl, by kernel_rfl, kl_int Tryz.underlying37 1 fl (wf_u32 h.f0 h.f1)⟩
    | 2, hf, hq =>
      cases hf; cases hq
      exact ⟨rfl, by kernel_rfl, kl_int Tryz.underlying5 1 nx (wf_u8 h.x0 h.x1)⟩
    | 3, hf, hq =>
      cases hf; cases hq
      exact ⟨rfl, by kernel_rfl, kl_int Tryz.underlying5 1 hp (wf_u8 h.h0 h.h1)⟩
    | 4, hf, hq =>
      cases hf; cases hq
      exact ⟨rfl, by rw [List.length_map, hs]; kernel_rfl, kl_bytes Tryz.underlying38 (by kernel_rfl) 0 s hs h.sb⟩
    | 5, hf, hq =>
      cases hf; cases hq
      exact ⟨by simp [hs], by rw [List.length_map, hd]; kernel_rfl, kl_bytes Tryz.underlying38 (by kernel_rfl) 0 d hd h.db⟩
    | j + 6, hf, hq => simp at hq

/-- Cells that are a header's. -/
def Hd (L : List Value) : Prop := ∃ cl fl nx hp s d, L = n6C cl fl nx hp s d ∧ N6 cl fl nx hp s d

theorem hd_len {L : List Value} (h : Hd L) : L.length = 36 := by obtain ⟨cl, fl, nx, hp, s, d, rfl, h⟩ := h; exact n6C_length h

theorem hd_one {L : List Value} (h : Hd L) : L.toArray.all (·.oneCell') = true := by
  obtain ⟨cl, fl, nx, hp, s, d, rfl, _⟩ := h
  exact n6C_one _ _ _ _ _ _

theorem hd_eq {L : List Value} (h : Hd L) (w : World) : (Op.equalIn 10000 40 (.agg L.toArray) (.agg L.toArray)).run Tryz.prog w = .ok true w := by
  obtain ⟨cl, fl, nx, hp, s, d, rfl, h⟩ := h
  exact equal_same 3 (by omega) (by kernel_rfl) (by
    simp only [Value.formed, Tryz.underlying40, List.size_toArray, n6C_length h]; kernel_rfl) 3 (kl_n6 h) w

theorem bytes16 (x : Int) (h0 : 0 ≤ x) (h1 : x ≤ 255) : Bytes [x, x, x, x, x, x, x, x, x, x, x, x, x, x, x, x] := by
  intro z hz
  have e : z = x := by simpa using hz
  omega

theorem hd_0 : Hd hd0 := ⟨0, 0, 0, 0, [0, 0, 0, 0, 0, 0, 0, 0, 0, 0, 0, 0, 0, 0, 0, 0], [0, 0, 0, 0, 0, 0, 0, 0, 0, 0, 0, 0, 0, 0, 0, 0], rfl, by omega, by omega, by omega, by omega, by omega, by omega, by omega, by omega, rfl, rfl, bytes16 0 (by omega) (by omega), bytes16 0 (by omega) (by omega)⟩

/-- A cell's number. -/
def un : Value → Int
  | .int _ z => z
  | _ => 0

/-- Check's answer, of cells. -/
def ckE (L : List Value) : Int := n6E (un (L.getD 1 undef))

/-- A header's bytes, of cells, ahead of m bytes. -/
def hdB (L : List Value) (m : Int) : List Int :=
  n6B (un (L.getD 0 undef)) (un (L.getD 1 undef)) (un (L.getD 2 undef)) (un (L.getD 3 undef)) (((L.drop 4).take 16).map un) ((L.drop 20).map un) m

theorem map_un : ∀ zs : List Int, (zs.map (Value.int .u8)).map un = zs
  | [] => rfl
  | z :: r => by rw [List.map_cons, List.map_cons, map_un r]; rfl

theorem hdB_n6 {cl fl nx hp : Int} {s d : List Int} (h : N6 cl fl nx hp s d) (m : Int) : hdB (n6C cl fl nx hp s d) m = n6B cl fl nx hp s d m := by
  have e1 : ((n6C cl fl nx hp s d).drop 4).take 16 = s.map (Value.int .u8) := by
    show (s.map (Value.int .u8) ++ d.map (Value.int .u8)).take 16 = _
    rw [List.take_left' (by rw [List.length_map, h.sl])]
  have e2 : (n6C cl fl nx hp s d).drop 20 = d.map (Value.int .u8) := by
    show (s.map (Value.int .u8) ++ d.map (Value.int .u8)).drop 16 = _
    rw [List.drop_left' (by rw [List.length_map, h.sl])]
  unfold hdB
  rw [e1, e2, map_un, map_un]
  rfl

/-- Bytes' answer. -/
def byE (L : List Value) (ys : List Int) : Int := if ckE L = 0 then (if ys.length ≤ 2008 then 0 else 5) else ckE L

def byB (L : List Value) (ys : List Int) : List Int := if byE L ys = 0 then hdB L ys.length else []

/-- Read's answer. -/
def rdE (zs : List Int) : Int := if zs.length < 40 then 6 else if rdQ zs then 0 else 80

def rdL (zs : List Int) : List Value := if rdE zs = 0 then rdC zs else hd0

theorem h_check (L : List Value) (w : World) (h : Hd L) : Calls Tryz.prog 96 #[.agg L.toArray] w fun e w' => e = .returned (.int .i64 (ckE L)) ∧ Below w.heap.size w w' := by
  obtain ⟨cl, fl, nx, hp, s, d, rfl, h⟩ := h
  exact lcheck_any _ fl w rfl

theorem h_rcheck (L : List Value) (w : World) (h : Hd L) : Calls Tryz.prog 58 #[.agg L.toArray] w fun e w' => e = .returned (.int .i64 (ckE L)) ∧ Below w.heap.size w w' := by
  obtain ⟨cl, fl, nx, hp, s, d, rfl, h⟩ := h
  exact rcheck_any _ fl w rfl

theorem h_bytes (L : List Value) (a : Option Addr) (n c : Nat) (ys : List Int) (w : World) (h : Hd L) (hy : ys.length = n) (hB : Bs w a ys) :
    Calls Tryz.prog 97 #[.agg L.toArray, .slice a n c] w fun e w' => ∃ v, e = .returned (.tuple #[v, .int .i64 (byE L ys)]) ∧ w'.ownsRow w.heap.size 5 1 v (byB L ys).length ((byB L ys).map (Value.int .u8)) ∧ Below w.heap.size w w' := by
  have hl := hB.len
  rw [hy] at hl
  obtain ⟨cl, fl, nx, hp, s, d, rfl, h⟩ := h
  by_cases hf : fl ≤ 1048575
  · have e0 : ckE (n6C cl fl nx hp s d) = 0 := by show n6E fl = 0; unfold n6E; rw [if_pos hf]
    by_cases hn : n ≤ 2008
    · have e1 : byE (n6C cl fl nx hp s d) ys = 0 := by unfold byE; rw [if_pos e0, hy, if_pos hn]
      unfold byB
      rw [e1, if_pos rfl, hy, hdB_n6 h, n6B_length h]
      exact lbytes_ok cl fl nx hp s d a n c w h hf hn
    · have e1 : byE (n6C cl fl nx hp s d) ys = 5 := by unfold byE; rw [if_pos e0, hy, if_neg hn]
      unfold byB
      rw [e1, if_neg (by omega)]
      refine (lbytes_no _ fl a n c w (n6C_length h) rfl hf hn hl).mono ?_
      rintro e w' ⟨rfl, b⟩
      exact ⟨_, rfl, World.ownsRow_nil _ _ _ _, b⟩
  · have e0 : ckE (n6C cl fl nx hp s d) = 80 := by show n6E fl = 80; unfold n6E; rw [if_neg hf]
    have e1 : byE (n6C cl fl nx hp s d) ys = 80 := by unfold byE; rw [e0, if_neg (by omega)]
    unfold byB
    rw [e1, if_neg (by omega)]
    refine (lbytes_bad _ fl a n c w (n6C_length h) rfl hf).mono ?_
    rintro e w' ⟨rfl, b⟩
    exact ⟨_, rfl, World.ownsRow_nil _ _ _ _, b⟩

theorem h_rbytes (L : List Value) (a : Option Addr) (n c : Nat) (ys : List Int) (w : World) (h : Hd L) (hy : ys.length = n) (hB : Bs w a ys) :
    Calls Tryz.prog 115 #[.agg L.toArray, .slice a n c] w fun e w' => ∃ v, e = .returned (.tuple #[v, .int .i64 (byE L ys)]) ∧ w'.ownsRow w.heap.size 5 1 v (byB L ys).length ((byB L ys).map (Value.int .u8)) ∧ Below w.heap.size w w' := by
  have hl := hB.len
  rw [hy] at hl
  obtain ⟨cl, fl, nx, hp, s, d, rfl, h⟩ := h
  by_cases hf : fl ≤ 1048575
  · have e0 : ckE (n6C cl fl nx hp s d) = 0 := by show n6E fl = 0; unfold n6E; rw [if_pos hf]
    by_cases hn : n ≤ 2008
    · have e1 : byE (n6C cl fl nx hp s d) ys = 0 := by unfold byE; rw [if_pos e0, hy, if_pos hn]
      unfold byB
      rw [e1, if_pos rfl, hy, hdB_n6 h, n6B_length h]
      exact rbytes_ok cl fl nx hp s d a n c w h hf hn
    · have e1 : byE (n6C cl fl nx hp s d) ys = 5 := by unfold byE; rw [if_pos e0, hy, if_neg hn]
      unfold byB
      rw [e1, if_neg (by omega)]
      refine (rbytes_no _ fl a n c w (n6C_length h) rfl hf hn hl).mono ?_
      rintro e w' ⟨rfl, b⟩
      exact ⟨_, rfl, World.ownsRow_nil _ _ _ _, b⟩
  · have e0 : ckE (n6C cl fl nx hp s d) = 80 := by show n6E fl = 80; unfold n6E; rw [if_neg hf]
    have e1 : byE (n6C cl fl nx hp s d) ys = 80 := by unfold byE; rw [e0, if_neg (by omega)]
    unfold byB
    rw [e1, if_neg (by omega)]
    refine (rbytes_bad _ fl a n c w (n6C_length h) rfl hf).mono ?_
    rintro e w' ⟨rfl, b⟩
    exact ⟨_, rfl, World.ownsRow_nil _ _ _ _, b⟩

theorem bs_some {w : World} {a : Option Addr} {zs : List Int} (h : Bs w a zs) (hp : 0 < zs.length) : ∃ b off, a = some ⟨b, off, none⟩ := by
  rcases h.lies with h0 | ⟨b, off, e, _⟩
  · omega
  · exact ⟨b, off, e⟩

theorem h_read (a : Option Addr) (n c : Nat) (zs : List Int) (w : World) (hz : zs.length = n) (hB : Bs w a zs) (hc : n ≤ c) :
    Calls Tryz.prog 72 #[.slice a n c] w fun e w' => e = .returned (.tuple #[.agg (rdL zs).toArray, .int .i64 (rdE zs)]) ∧ Below w.heap.size w w' := by
  by_cases hn : n < 40
  · have e1 : rdE zs = 6 := by unfold rdE; rw [if_pos (by rw [hz]; exact hn)]
    unfold rdL
    rw [e1, if_neg (by omega)]
    exact lread_short a n c w hn
  · obtain ⟨b, off, rfl⟩ := bs_some hB (by omega)
    by_cases hq : rdQ zs
    · have e1 : rdE zs = 0 := by unfold rdE; rw [if_neg (by rw [hz]; exact hn), if_pos hq]
      unfold rdL
      rw [e1, if_pos rfl]
      exact lread_ok b off n c zs w hz hB (by omega) hc hq
    · have e1 : rdE zs = 80 := by unfold rdE; rw [if_neg (by rw [hz]; exact hn), if_neg hq]
      unfold rdL
      rw [e1, if_neg (by omega)]
      exact lread_bad b off n c zs w hz hB (by omega) hq

theorem h_rread (a : Option Addr) (n c : Nat) (zs : List Int) (w : World) (hz : zs.length = n) (hB : Bs w a zs) (_hc : n ≤ c) :
    Calls Tryz.prog 122 #[.slice a n c] w fun e w' => e = .returned (.tuple #[.agg (rdL zs).toArray, .int .i64 (rdE zs)]) ∧ Below w.heap.size w w' := by
  by_cases hn : n < 40
  · have e1 : rdE zs = 6 := by unfold rdE; rw [if_pos (by rw [hz]; exact hn)]
    unfold rdL
    rw [e1, if_neg (by omega)]
    exact rread_short a n c w hn
  · obtain ⟨b, off, rfl⟩ := bs_some hB (by omega)
    by_cases hq : rdQ zs
    · have e1 : rdE zs = 0 := by unfold rdE; rw [if_neg (by rw [hz]; exact hn), if_pos hq]
      unfold rdL
      rw [e1, if_pos rfl]
      exact rread_ok b off n c zs w hz hB (by omega) hq
    · have e1 : rdE zs = 80 := by unfold rdE; rw [if_neg (by rw [hz]; exact hn), if_neg hq]
      unfold rdL
      rw [e1, if_neg (by omega)]
      exact rread_bad b off n c zs w hz hB (by omega) hq

theorem rdE_zero {zs : List Int} (h : rdE zs = 0) : 40 ≤ zs.length ∧ rdQ zs := by
  unfold rdE at h
  split at h
  · omega
  · split at h
    · exact ⟨by omega, by assumption⟩
    · omega

theorem hd_rd {zs : List Int} (h : Bytes zs) : Hd (rdL zs) := by
  unfold rdL
  split
  · rename_i he
    exact ⟨_, _, _, _, _, _, rfl, n6_of h (rdE_zero he).1⟩
  · exact hd_0

theorem n6E_le {fl : Int} (h : n6E fl = 0) : fl ≤ 1048575 := by
  unfold n6E at h
  split at h
  · assumption
  · omega

theorem byE_zero {L : List Value} {ys : List Int} (h : byE L ys = 0) : ckE L = 0 ∧ ys.length ≤ 2008 := by
  unfold byE at h
  split at h
  · split at h
    · exact ⟨by assumption, by assumption⟩
    · omega
  · contradiction

theorem byB_bytes {L : List Value} {ys : List Int} (h : Hd L) (_hy : Bytes ys) : Bytes (byB L ys) := by
  unfold byB
  split
  · rename_i he
    obtain ⟨cl, fl, nx, hp, s, d, rfl, h⟩ := h
    rw [hdB_n6 h]
    have h0 := byE_zero he
    have hl := h0.2
    exact n6B_bytes h (n6E_le h0.1) (by omega) (by omega)
  · intro z hz; simp at hz

theorem byB_le {L : List Value} {ys : List Int} (h : Hd L) : (byB L ys).length ≤ 40 := by
  obtain ⟨cl, fl, nx, hp, s, d, rfl, h⟩ := h
  unfold byB
  split
  · rw [hdB_n6 h, n6B_length h]; omega
  · simp

theorem m_back {L : List Value} {ys : List Int} (h : Hd L) (_hy : Bytes ys) (he : byE L ys = 0) : (byB L ys).length = 40 ∧ rdL (byB L ys ++ ys) = L ∧ rdE (byB L ys ++ ys) = 0 ∧ ckE L = 0 := by
  have hc := (byE_zero he).1
  have hl := (byE_zero he).2
  obtain ⟨cl, fl, nx, hp, s, d, rfl, h⟩ := h
  have hf : fl ≤ 1048575 := n6E_le hc
  have e : byB (n6C cl fl nx hp s d) ys = n6B cl fl nx hp s d ys.length := by unfold byB; rw [if_pos he, hdB_n6 h]
  rw [e]
  have hlen := n6B_length h ys.length
  have hM := n6M_bd h hf
  obtain ⟨c0, c1, f0, f1, x0, x1, h0, h1, sl, dl, sb, db⟩ := h
  have eW : rdW (n6B cl fl nx hp s d ys.length ++ ys) 0 = n6M cl fl := by
    show (n6M cl fl / 65536 / 256 * 256 + n6M cl fl / 65536 % 256) * 65536 + (n6M cl fl % 65536 / 256 * 256 + n6M cl fl % 65536 % 256) = _
    omega
  have eQ : rdQ (n6B cl fl nx hp s d ys.length ++ ys) := by
    unfold rdQ
    rw [List.length_append, hlen, eW]
    refine ⟨by omega, ?_⟩
    show (ys.length : Int) / 256 * 256 + (ys.length : Int) % 256 = _
    omega
  have eE : rdE (n6B cl fl nx hp s d ys.length ++ ys) = 0 := by
    unfold rdE
    rw [if_neg (by rw [List.length_append, hlen]; omega), if_pos eQ]
  refine ⟨hlen, ?_, eE, hc⟩
  unfold rdL
  rw [if_pos eE]
  unfold rdC
  have e2 : (n6B cl fl nx hp s d ys.length ++ ys).drop 8 = s ++ (d ++ ys) := by simp [n6B]
  have e3 : (n6B cl fl nx hp s d ys.length ++ ys).drop 24 = d ++ ys := by
    rw [show 24 = 8 + 16 from rfl, ← List.drop_drop, e2, List.drop_left' sl]
  rw [eW, e2, e3, List.take_left' sl, List.take_left' dl]
  have e4 : n6M cl fl / 1048576 % 256 = cl := by unfold n6M; omega
  have e5 : n6M cl fl % 1048576 = fl := by unfold n6M; omega
  rw [e4, e5]
  rfl

theorem m_no {L : List Value} {ys : List Int} (he : ¬ byE L ys = 0) (hc : ckE L = 0) : ¬ ys.length ≤ 2008 := by
  intro hl
  apply he
  unfold byE
  rw [if_pos hc, if_pos hl]

theorem m_none {zs : List Int} (h : ¬ rdE zs = 0) : rdL zs = hd0 := by unfold rdL; rw [if_neg h]

theorem m_short {zs : List Int} (h : zs.length < 40) : rdE zs = 6 := by unfold rdE; rw [if_pos h]

theorem take_40 {zs : List Int} (h : 40 ≤ zs.length) : zs.take 40 = [zs.getD 0 0, zs.getD 1 0, zs.getD 2 0, zs.getD 3 0, zs.getD 4 0, zs.getD 5 0, zs.getD 6 0, zs.getD 7 0] ++ ((zs.drop 8).take 16 ++ (zs.drop 24).take 16) := by
  match zs, h with
  | z0 :: z1 :: z2 :: z3 :: z4 :: z5 :: z6 :: z7 :: r, h =>
    show z0 :: z1 :: z2 :: z3 :: z4 :: z5 :: z6 :: z7 :: r.take 32 = z0 :: z1 :: z2 :: z3 :: z4 :: z5 :: z6 :: z7 :: (r.take 16 ++ (r.drop 16).take 16)
    rw [← List.take_add]

theorem m_again {zs : List Int} (hb : Bytes zs) (he : rdE zs = 0) (hl : zs.length ≤ 2048) : 40 ≤ zs.length ∧ byE (rdL zs) (zs.drop 40) = 0 ∧ byB (rdL zs) (zs.drop 40) = zs.take 40 := by
  obtain ⟨h40, q0, q4⟩ := rdE_zero he
  have e0 : rdL zs = rdC zs := by unfold rdL; rw [if_pos he]
  have ec : ckE (rdC zs) = 0 := by show n6E (rdW zs 0 % 1048576) = 0; unfold n6E; rw [if_pos (by omega)]
  have e1 : byE (rdL zs) (zs.drop 40) = 0 := by unfold byE; rw [e0, if_pos ec, if_pos (by rw [List.length_drop]; omega)]
  refine ⟨h40, e1, ?_⟩
  unfold byB
  rw [if_pos e1, e0]
  unfold rdC
  rw [hdB_n6 (n6_of hb h40), take_40 h40]
  have b0 := rdW_bd hb 0
  have eM : n6M (rdW zs 0 / 1048576 % 256) (rdW zs 0 % 1048576) = rdW zs 0 := by unfold n6M; omega
  have em : ((zs.drop 40).length : Int) = rdV zs 4 := by rw [List.length_drop]; omega
  unfold n6B
  rw [eM, em]
  have k0 := hb.getD 0
  have k1 := hb.getD 1
  have k2 := hb.getD 2
  have k3 := hb.getD 3
  have k4 := hb.getD 4
  have k5 := hb.getD 5
  have eW : rdW zs 0 = (zs.getD 0 0 * 256 + zs.getD 1 0) * 65536 + (zs.getD 2 0 * 256 + zs.getD 3 0) := rfl
  have eV : rdV zs 4 = zs.getD 4 0 * 256 + zs.getD 5 0 := rfl
  rw [eW, eV]
  generalize zs.getD 0 0 = z0 at *
  generalize zs.getD 1 0 = z1 at *
  generalize zs.getD 2 0 = z2 at *
  generalize zs.getD 3 0 = z3 at *
  generalize zs.getD 4 0 = z4 at *
  generalize zs.getD 5 0 = z5 at *
  congr 1
  simp only [List.cons.injEq, and_true]
  omega

theorem m_first {xs zs : List Int} (hx : 40 ≤ xs.length) (he : xs.length = zs.length) (h : xs.take 40 = zs.take 40) : rdL xs = rdL zs ∧ rdE xs = rdE zs := by
  have g : ∀ k, k < 40 → xs.getD k 0 = zs.getD k 0 := by
    intro k hk
    have e1 : xs.getD k 0 = (xs.take 40).getD k 0 := by rw [List.getD_eq_getElem?_getD, List.getD_eq_getElem?_getD, List.getElem?_take_of_lt hk]
    have e2 : zs.getD k 0 = (zs.take 40).getD k 0 := by rw [List.getD_eq_getElem?_getD, List.getD_eq_getElem?_getD, List.getElem?_take_of_lt hk]
    rw [e1, e2, h]
  have eV : ∀ k, k < 39 → rdV xs k = rdV zs k := fun k hk => by unfold rdV; rw [g k (by omega), g (k + 1) (by omega)]
  have eW : rdW xs 0 = rdW zs 0 := by unfold rdW; rw [eV 0 (by omega), eV 2 (by omega)]
  have ed : ∀ k m, k + m ≤ 40 → (xs.drop k).take m = (zs.drop k).take m := by
    intro k m hkm
    have f : ∀ L : List Int, (L.drop k).take m = ((L.take 40).drop k).take m := fun L => by
      rw [List.drop_take, List.take_take, Nat.min_eq_left (by omega)]
    rw [f xs, f zs, h]
  have eQ : rdQ xs ↔ rdQ zs := by unfold rdQ; rw [eW, eV 4 (by omega), he]
  have eE : rdE xs = rdE zs := by
    unfold rdE
    rw [if_neg (show ¬ xs.length < 40 by omega), if_neg (show ¬ zs.length < 40 by omega)]
    by_cases hq : rdQ zs
    · rw [if_pos hq, if_pos (eQ.2 hq)]
    · rw [if_neg hq, if_neg (fun e => hq (eQ.1 e))]
  refine ⟨?_, eE⟩
  unfold rdL rdC
  rw [eE, eW, g 6 (by omega), g 7 (by omega), ed 8 16 (by omega), ed 24 16 (by omega)]

def uL : List Value := [.int .u8 18, .int .u32 214375, .int .u8 6, .int .u8 64, .int .u8 1, .int .u8 1, .int .u8 1, .int .u8 1, .int .u8 1, .int .u8 1, .int .u8 1, .int .u8 1, .int .u8 1, .int .u8 1, .int .u8 1, .int .u8 1, .int .u8 1, .int .u8 1, .int .u8 1, .int .u8 1, .int .u8 2, .int .u8 2, .int .u8 2, .int .u8 2, .int .u8 2, .int .u8 2, .int .u8 2, .int .u8 2, .int .u8 2, .int .u8 2, .int .u8 2, .int .u8 2, .int .u8 2, .int .u8 2, .int .u8 2, .int .u8 2]

def uY : List Int := [0, 0, 0]

def uB : List Int := [97, 35, 69, 103, 0, 3, 6, 64, 1, 1, 1, 1, 1, 1, 1, 1, 1, 1, 1, 1, 1, 1, 1, 1, 2, 2, 2, 2, 2, 2, 2, 2, 2, 2, 2, 2, 2, 2, 2, 2]

theorem hd_u : Hd uL := ⟨18, 214375, 6, 64, [1, 1, 1, 1, 1, 1, 1, 1, 1, 1, 1, 1, 1, 1, 1, 1], [2, 2, 2, 2, 2, 2, 2, 2, 2, 2, 2, 2, 2, 2, 2, 2], rfl, by omega, by omega, by omega, by omega, by omega, by omega, by omega, by omega, rfl, rfl, bytes16 1 (by omega) (by omega), bytes16 2 (by omega) (by omega)⟩

theorem uY_bytes : Bytes uY := fun z hz => by simp [uY] at hz; omega

theorem by_u : byE uL uY = 0 ∧ byB uL uY = uB := by decide +kernel

theorem uB_by : Bytes uB := by rw [← by_u.2]; exact byB_bytes hd_u uY_bytes

def badL : List Value := [.int .u8 0, .int .u32 1048576, .int .u8 0, .int .u8 0, .int .u8 0, .int .u8 0, .int .u8 0, .int .u8 0, .int .u8 0, .int .u8 0, .int .u8 0, .int .u8 0, .int .u8 0, .int .u8 0, .int .u8 0, .int .u8 0, .int .u8 0, .int .u8 0, .int .u8 0, .int .u8 0, .int .u8 0, .int .u8 0, .int .u8 0, .int .u8 0, .int .u8 0, .int .u8 0, .int .u8 0, .int .u8 0, .int .u8 0, .int .u8 0, .int .u8 0, .int .u8 0, .int .u8 0, .int .u8 0, .int .u8 0, .int .u8 0]

theorem hd_bad : Hd badL := ⟨0, 1048576, 0, 0, [0, 0, 0, 0, 0, 0, 0, 0, 0, 0, 0, 0, 0, 0, 0, 0], [0, 0, 0, 0, 0, 0, 0, 0, 0, 0, 0, 0, 0, 0, 0, 0], rfl, by omega, by omega, by omega, by omega, by omega, by omega, by omega, by omega, rfl, rfl, bytes16 0 (by omega) (by omega), bytes16 0 (by omega) (by omega)⟩

theorem ck_bad : ckE badL = 80 := by decide +kernel

theorem sixteen (x0 x1 x2 x3 x4 x5 x6 x7 x8 x9 x10 x11 x12 x13 x14 x15 : Int) (h0 : (Lit.int .u8 x0).wf = true) (h1 : (Lit.int .u8 x1).wf = true) (h2 : (Lit.int .u8 x2).wf = true) (h3 : (Lit.int .u8 x3).wf = true) (h4 : (Lit.int .u8 x4).wf = true) (h5 : (Lit.int .u8 x5).wf = true) (h6 : (Lit.int .u8 x6).wf = true) (h7 : (Lit.int .u8 x7).wf = true) (h8 : (Lit.int .u8 x8).wf = true) (h9 : (Lit.int .u8 x9).wf = true) (h10 : (Lit.int .u8 x10).wf = true) (h11 : (Lit.int .u8 x11).wf = true) (h12 : (Lit.int .u8 x12).wf = true) (h13 : (Lit.int .u8 x13).wf = true) (h14 : (Lit.int .u8 x14).wf = true) (h15 : (Lit.int .u8 x15).wf = true) : Bytes [x0, x1, x2, x3, x4, x5, x6, x7, x8, x9, x10, x11, x12, x13, x14, x15] := by
  refine bytes_of_wf (fun z hz => ?_)
  simp only [List.mem_cons, List.not_mem_nil, or_false] at hz
  rcases hz with rfl | rfl | rfl | rfl | rfl | rfl | rfl | rfl | rfl | rfl | rfl | rfl | rfl | rfl | rfl | rfl <;> assumption

/-- A header that came in. -/
theorem hd_open (W : World) (m : sh40.M) (o : sh40.ok W m) : Hd (sh40.cs m) := by
  obtain ⟨cl, fl, nx, hp, ⟨s0, s1, s2, s3, s4, s5, s6, s7, s8, s9, s10, s11, s12, s13, s14, s15⟩, ⟨d0, d1, d2, d3, d4, d5, d6, d7, d8, d9, d10, d11, d12, d13, d14, d15⟩⟩ := m
  obtain ⟨kc, kf, kx, kh, ⟨e0, e1, e2, e3, e4, e5, e6, e7, e8, e9, e10, e11, e12, e13, e14, e15⟩, ⟨g0, g1, g2, g3, g4, g5, g6, g7, g8, g9, g10, g11, g12, g13, g14, g15⟩⟩ := o
  exact ⟨cl, fl, nx, hp, [s0, s1, s2, s3, s4, s5, s6, s7, s8, s9, s10, s11, s12, s13, s14, s15], [d0, d1, d2, d3, d4, d5, d6, d7, d8, d9, d10, d11, d12, d13, d14, d15], rfl, (bounds_u8 kc).1, (bounds_u8 kc).2, (bounds32 kf).1, (bounds32 kf).2, (bounds_u8 kx).1, (bounds_u8 kx).2, (bounds_u8 kh).1, (bounds_u8 kh).2, rfl, rfl, sixteen _ _ _ _ _ _ _ _ _ _ _ _ _ _ _ _ e0 e1 e2 e3 e4 e5 e6 e7 e8 e9 e10 e11 e12 e13 e14 e15, sixteen _ _ _ _ _ _ _ _ _ _ _ _ _ _ _ _ g0 g1 g2 g3 g4 g5 g6 g7 g8 g9 g10 g11 g12 g13 g14 g15⟩

end Go.Proofs.YtednmdkjhiihcaaGreat.K08
