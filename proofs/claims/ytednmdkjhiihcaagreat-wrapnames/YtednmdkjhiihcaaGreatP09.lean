/- Headers of the kind 09: the program's calls and the document's, in one form for all inputs, and the mathematics between them. -/
import Derived.Test.YtednmdkjhiihcaaGreatGa
import Derived.Test.YtednmdkjhiihcaaGreatSf
import Derived.Deep.RegionHeld3
import Derived.Test.YtednmdkjhiihcaaGreatBc
import Derived.Test.YtednmdkjhiihcaaGreatGc
import Derived.Test.YtednmdkjhiihcaaGreatSp
namespace Go.Proofs.YtednmdkjhiihcaaGreat.K09
open Go.ChangeShapes Go.WideShapes Go.ChangeAt Go.RowKit

/-- k bytes of a number, the highest one first. -/
def numB : Nat → Int → List Int
  | 0, _ => []
  | k + 1, v => numB k (v / 256) ++ [v % 256]

theorem numB_length : ∀ (k : Nat) (v : Int), (numB k v).length = k
  | 0, _ => rfl
  | k + 1, v => by simp [numB, numB_length k]

theorem numB_bytes : ∀ (k : Nat) (v : Int), Bytes (numB k v)
  | 0, _ => fun z hz => by simp [numB] at hz
  | k + 1, v => bytes_append (numB_bytes k _) (fun z hz => by simp at hz; omega)

/-- So many bytes from a place on, as a number. -/
def valV (B : List Int) (x : Nat) : Nat → Int
  | 0 => 0
  | k + 1 => valV B x k * 256 + B.getD (x + k) 0

theorem valV_bd {B : List Int} (h : Bytes B) (x : Nat) : ∀ k : Nat, 0 ≤ valV B x k ∧ valV B x k < 256 ^ k
  | 0 => by simp [valV]
  | k + 1 => by
    have ih := valV_bd h x k
    have hb := h.getD (x + k)
    simp only [valV]
    rw [Int.pow_succ]
    omega

theorem pow256 {k : Nat} (h : k ≤ 4) : (256 : Int) ^ k ≤ 4294967296 := by
  match k, h with
  | 0, _ => decide
  | 1, _ => decide
  | 2, _ => decide
  | 3, _ => decide
  | 4, _ => decide

set_option maxHeartbeats 400000 in
theorem number_any (v : Int) (k : Nat) (w : World) (hv : 0 ≤ v) (hv' : v ≤ 4294967296) (hk : k ≤ 16) :
    Calls Tryz.prog 173 #[.int .i64 v, .int .i64 k] w fun e w' => ∃ u, e = .returned u ∧ w'.ownsRow w.heap.size 5 1 u k ((numB k v).map (Value.int .u8)) ∧ Below w.heap.size w w' := by
  have hmk := make_bytes k (by omega)
  obtain ⟨Z, HZ⟩ : ∃ Z, Hid ((List.replicate k (0 : Int)).map (Value.int .u8) = Z) := ⟨_, rfl⟩
  rw [HZ.out] at hmk
  go_enter Tryz.func173, Tryz.ntmps173
  go_wp2_with fail
  obtain ⟨W1, hW1⟩ : ∃ W1, W1 = w.alloc (.cells Z.toArray 5) := ⟨_, rfl⟩
  rw [← hW1]
  have R1 : Hid (W1.heap[w.heap.size]? = some (.cells Z.toArray 5 (0, 0))) := by rw [hW1]; exact heap_alloc_new w _
  have B1 : Hid (Below w.heap.size w W1) := by rw [hW1]; exact (Below.refl _ _).alloc (Nat.le_refl _) _
  clear hW1 hmk
  go_loopw [0, 6] (fun x i wr => ∃ (m : Nat) (y : Int) (tl : List Int), m ≤ k ∧ i = .int .i64 ((m : Int) - 1) ∧ x = .int .i64 y ∧ 0 ≤ y ∧ y ≤ 4294967296 ∧ Hid (numB k v = numB m y ++ tl) ∧ Hid (wr.heap[w.heap.size]? = some (.cells ((List.replicate m (0 : Int) ++ tl).map (Value.int .u8)).toArray 5 (0, 0))) ∧ Hid (Below w.heap.size w wr)) (fun _ i _ => ((intOf i) + 1).toNat)
  case atStart => exact ⟨k, v, [], Nat.le_refl _, by go_num, rfl, hv, hv', Hid.mk' (by simp), Hid.mk' (by rw [List.append_nil, HZ.out]; exact R1.out), B1⟩
  case round =>
    obtain ⟨m, y, tl, hm, rfl, rfl, hy, hy', HN, HR, HB⟩ := hrel
    match m, HN, HR, hm with
    | 0, HN, HR, hm =>
      have HO : Hid (wr.ownsRow w.heap.size 5 1 (.slice (some ⟨w.heap.size, 0, none⟩) k k) k ((numB k v).map (Value.int .u8))) := by
        refine own_block ?_ (Nat.le_refl _) (by rw [List.length_map, numB_length]) (by omega)
        rw [HR.out, HN.out]; rfl
      go_wp2_with fail
      go_ret
      exact ⟨_, rfl, HO.out, HB.out⟩
    | m + 1, HN, HR, hm =>
      have f0 : wr.frozen? ⟨w.heap.size, m, none⟩ = false := frozen_of_row wr _ m _ _ HR.out
      have c0 : wr.cell? ⟨w.heap.size, m, none⟩ = some (.int .u8 0) := by
        rw [cell_of_row wr _ m _ _ _ HR.out, List.getElem?_toArray, List.getElem?_map, List.getElem?_append_left (by simp), List.getElem?_replicate]
        simp
      go_wp2_with fail
      go_roundw
      case rel =>
        refine ⟨m, y / 256, y % 256 :: tl, by omega, rfl, rfl, by omega, by omega, Hid.mk' ?_, Hid.mk' ?_, (HB.out.setCell (p := ⟨w.heap.size, m, none⟩) (Nat.le_refl _) _ : Below _ _ _)⟩
        · rw [HN.out, numB, List.append_assoc]; rfl
        · rw [Go.heap_setCell_same _ _ m _ _ _ HR.out]
          congr 2
          apply Array.toList_inj.1
          rw [Array.toList_setIfInBounds, ← List.map_set, List.replicate_succ', List.append_assoc, List.set_append_right _ _ (by simp)]
          simp
      case measure => simp [intOf]

set_option maxHeartbeats 400000 in
theorem value_any (b off n c x k : Nat) (zs : List Int) (w : World) (hz : zs.length = n) (hB : Bs w (some ⟨b, off, none⟩) zs) (hk : k ≤ 4) (hx : x + k ≤ n) :
    Calls Tryz.prog 183 #[.slice (some ⟨b, off, none⟩) n c, .int .i64 x, .int .i64 k] w fun e w' => e = .returned (.int .i64 (valV zs x k)) ∧ w = w' := by
  have hln : n ≤ 140737488355328 := by rw [← hz]; exact hB.len
  have HB := Hid.mk' hB
  have HN := Hid.mk' hz
  clear hB hz
  go_enter Tryz.func183, Tryz.ntmps183
  go_wp2_with fail
  go_loop [7, 8] (fun v i => ∃ j : Nat, j ≤ k ∧ i = .int .i64 j ∧ v = .int .i64 (valV zs x j)) (fun _ i => k - (intOf i).toNat)
  case atStart => exact ⟨0, Nat.zero_le _, rfl, rfl⟩
  case round =>
    obtain ⟨j, hj, rfl, rfl⟩ := hrel
    by_cases hlt : j < k
    · have hsp : (j : Int) < (k : Int) := by omega
      have cc : w.cell? ⟨b, off + (x + j), none⟩ = some (.int .u8 (zs.getD (x + j) 0)) := by
        rcases HB.out.lies with h0 | ⟨b', off', e, hc⟩
        · rw [HN.out] at h0; omega
        · cases e; exact hc (x + j) (by rw [HN.out]; omega)
      have hb := HB.out.bytes.getD (x + j)
      have hv := valV_bd HB.out.bytes x j
      have hp := pow256 (k := j) (by omega)
      obtain ⟨y, HY⟩ : ∃ y, Hid (zs.getD (x + j) 0 = y) := ⟨_, rfl⟩
      obtain ⟨V, HV⟩ : ∃ V, Hid (valV zs x j = V) := ⟨_, rfl⟩
      rw [HY.out] at cc hb
      rw [HV.out] at hv ⊢
      have v0 : 0 ≤ V := hv.1
      have v1 : V ≤ 4294967296 := by omega
      have y0 := hb.1
      have y1 := hb.2
      clear hb hv hp
      have hin : (x : Int) + (j : Int) < (n : Int) := by omega
      go_wp2_with fail
      go_round
      case rel => exact ⟨j + 1, hlt, by go_num, by rw [valV, HV.out, HY.out]⟩
      case measure => simp [intOf]; omega
    · obtain rfl : j = k := by omega
      go_wp2_with fail
      go_ret
      exact ⟨rfl, rfl⟩

/-- A header's cells: SrcPort, DstPort, Seq, Ack, Flags, Window. -/
def sgC (sp dp sq ak fl wn : Int) : List Value := [.int .u16 sp, .int .u16 dp, .int .u32 sq, .int .u32 ak, .int .u8 fl, .int .u16 wn]

/-- A header's bytes, its field being f. -/
def sgB (sp dp sq ak fl wn f : Int) : List Int := [sp / 256, sp % 256, dp / 256, dp % 256, sq / 65536 / 256, sq / 65536 % 256, sq % 65536 / 256, sq % 65536 % 256, ak / 65536 / 256, ak / 65536 % 256, ak % 65536 / 256, ak % 65536 % 256, 80, fl, wn / 256, wn % 256, f / 256, f % 256, 0, 0]

/-- A header's field, ahead of a payload. -/
def sgF (sp dp sq ak fl wn : Int) (ys : List Int) : Int := 65535 - su (sgB sp dp sq ak fl wn 0 ++ ys) (20 + ys.length)

/-- Check's answer. -/
def sgE (fl : Int) : Int := if fl ≤ 63 then 0 else 90

/-- A header's numbers, as their types have them. -/
structure Sg (sp dp sq ak fl wn : Int) : Prop where
  s0 : 0 ≤ sp
  s1 : sp ≤ 65535
  d0 : 0 ≤ dp
  d1 : dp ≤ 65535
  q0 : 0 ≤ sq
  q1 : sq ≤ 4294967295
  a0 : 0 ≤ ak
  a1 : ak ≤ 4294967295
  f0 : 0 ≤ fl
  f1 : fl ≤ 255
  w0 : 0 ≤ wn
  w1 : wn ≤ 65535

theorem info_hd : (Tryz.prog.info? 42).map (·.size) = some 6 := by kernel_rfl

theorem sgC_one (sp dp sq ak fl wn : Int) : (sgC sp dp sq ak fl wn).toArray.all (·.oneCell') = true := by
  refine all_oneCell_toArray (fun v hv => ?_)
  simp only [sgC, List.mem_cons, List.not_mem_nil, or_false] at hv
  rcases hv with rfl | rfl | rfl | rfl | rfl | rfl <;> rfl

theorem or16 (V b : Int) (h0 : 0 ≤ V) (h1 : V ≤ 255) (b0 : 0 ≤ b) (b1 : b ≤ 255) : bits .or .u16 (V * 256) b = V * 256 + b := by
  rw [u16_or _ _ (by omega) (by omega) (by omega) (by omega)]
  have h := Nat.two_pow_add_eq_or_of_lt (i := 8) (b := b.toNat) (by omega) V.toNat
  have e2 : (V * 256).toNat = 2 ^ 8 * V.toNat := by omega
  rw [e2, ← h]
  omega

theorem or32 (V b : Int) (h0 : 0 ≤ V) (h1 : V ≤ 65535) (b0 : 0 ≤ b) (b1 : b ≤ 65535) : bits .or .u32 (V * 65536) b = V * 65536 + b := by
  rw [u32_or _ _ (by omega) (by omega) (by omega) (by omega)]
  have h := Nat.two_pow_add_eq_or_of_lt (i := 16) (b := b.toNat) (by omega) V.toNat
  have e2 : (V * 65536).toNat = 2 ^ 16 * V.toNat := by omega
  rw [e2, ← h]
  omega

theorem or12 (b : Int) (b0 : 0 ≤ b) (b1 : b ≤ 63) : bits .or .u16 20480 b = 20480 + b := by
  rw [u16_or _ _ (by omega) (by omega) (by omega) (by omega)]
  have h := Nat.two_pow_add_eq_or_of_lt (i := 12) (b := b.toNat) (by omega) 5
  have e2 : (20480 : Int).toNat = 2 ^ 12 * 5 := by decide
  rw [e2, ← h]
  omega

theorem lcheck_any (L : List Value) (fl : Int) (w : World) (hL : L[4]? = some (.int .u8 fl)) : Calls Tryz.prog 101 #[.agg L.toArray] w fun e w' => e = .returned (.int .i64 (sgE fl)) ∧ Below w.heap.size w w' := by
  have hL' : L.toArray[4]? = some (.int .u8 fl) := by rw [List.getElem?_toArray]; exact hL
  unfold sgE
  by_cases h : fl ≤ 63
  · rw [if_pos h]
    have h' : ¬ 64 ≤ fl := by omega
    go_enter Tryz.func101, Tryz.ntmps101
    go_wp2_with fail
    go_ret
    exact ⟨rfl, (Below.refl _ _).alloc (Nat.le_refl _) _⟩
  · rw [if_neg h]
    have h' : 64 ≤ fl := by omega
    go_enter Tryz.func101, Tryz.ntmps101
    go_wp2_with fail
    go_ret
    exact ⟨rfl, (Below.refl _ _).alloc (Nat.le_refl _) _⟩

theorem lsize_any (w : World) : Calls Tryz.prog 76 #[] w fun e w' => e = .returned (.int .i64 20) ∧ w = w' := by
  go_enter Tryz.func76, Tryz.ntmps76
  go_wp2_with fail
  go_ret
  exact ⟨rfl, rfl⟩

/-- Two bytes as a number, and four. -/
def rdV (zs : List Int) (k : Nat) : Int := zs.getD k 0 * 256 + zs.getD (k + 1) 0

def rdW (zs : List Int) (k : Nat) : Int := rdV zs k * 65536 + rdV zs (k + 2)

theorem rdV_bd {zs : List Int} (h : Bytes zs) (k : Nat) : 0 ≤ rdV zs k ∧ rdV zs k ≤ 65535 := by
  have h0 := h.getD k
  have h1 := h.getD (k + 1)
  unfold rdV; omega

theorem rdW_bd {zs : List Int} (h : Bytes zs) (k : Nat) : 0 ≤ rdW zs k ∧ rdW zs k ≤ 4294967295 := by
  have h0 := rdV_bd h k
  have h1 := rdV_bd h (k + 2)
  unfold rdW; omega

set_option maxHeartbeats 400000 in
theorem get16_any (b off n c x : Nat) (zs : List Int) (w : World) (hz : zs.length = n) (hB : Bs w (some ⟨b, off, none⟩) zs) (hx : x + 2 ≤ n) :
    Calls Tryz.prog 130 #[.slice (some ⟨b, off, none⟩) n c, .int .i64 x] w fun e w' => e = .returned (.int .u16 (rdV zs x)) ∧ Dr w w' := by
  unfold rdV
  have hln : n ≤ 140737488355328 := by rw [← hz]; exact hB.len
  have hx0 : (x : Int) < (n : Int) := by omega
  have hx1 : (x : Int) + 1 < (n : Int) := by omega
  have cc : ∀ i, i < n → w.cell? ⟨b, off + i, none⟩ = some (.int .u8 (zs.getD i 0)) := by
    intro i hi
    rcases hB.lies with h0 | ⟨b', off', e, hc⟩
    · omega
    · cases e; exact hc i (by omega)
  have c0 := cc x (by omega)
  have c1 := cc (x + 1) (by omega)
  have k0 := hB.bytes.getD x
  have k1 := hB.bytes.getD (x + 1)
  clear cc hB hz
  generalize zs.getD x 0 = u at *
  generalize zs.getD (x + 1) 0 = v at *
  obtain ⟨u0, u1⟩ := k0
  obtain ⟨v0, v1⟩ := k1
  have hor := or16 u v u0 u1 v0 v1
  go_enter Tryz.func130, Tryz.ntmps130
  go_wp2_with fail
  go_quiet (fail)
  go_wp2_with fail
  go_ret
  exact ⟨rfl, ⟨_, rfl⟩⟩

set_option maxHeartbeats 400000 in
theorem get32_any (b off n c x : Nat) (zs : List Int) (w : World) (hz : zs.length = n) (hB : Bs w (some ⟨b, off, none⟩) zs) (hx : x + 4 ≤ n) :
    Calls Tryz.prog 132 #[.slice (some ⟨b, off, none⟩) n c, .int .i64 x] w fun e w' => e = .returned (.int .u32 (rdW zs x)) ∧ Dr w w' := by
  unfold rdW
  have hln : n ≤ 140737488355328 := by rw [← hz]; exact hB.len
  have KG : Hid (∀ u : World, Dr w u → ∀ k, k + 2 ≤ n → Calls Tryz.prog 130 #[.slice (some ⟨b, off, none⟩) n c, .int .i64 k] u fun e u' => e = .returned (.int .u16 (rdV zs k)) ∧ Dr u u') := Hid.mk' (fun u h k hk => get16_any b off n c k zs u hz (h.bs hB) hk)
  have k0 := rdV_bd hB.bytes x
  have k1 := rdV_bd hB.bytes (x + 2)
  clear hB hz
  obtain ⟨U, HU⟩ : ∃ U, Hid (rdV zs x = U) := ⟨_, rfl⟩
  obtain ⟨V, HV⟩ : ∃ V, Hid (rdV zs (x + 2) = V) := ⟨_, rfl⟩
  rw [HU.out] at k0 ⊢
  rw [HV.out] at k1 ⊢
  obtain ⟨u0, u1⟩ := k0
  obtain ⟨v0, v1⟩ := k1
  have hor := or32 U V u0 u1 v0 v1
  go_enter Tryz.func132, Tryz.ntmps132
  go_wp2_with fail
  have key := KG.out w (Dr.refl w) x (by omega)
  rw [HU.out] at key
  refine key.mono ?_
  rintro e w2 ⟨rfl, d2⟩
  have D2 := Hid.mk' d2
  clear key d2
  go_wp2_with fail
  have key := KG.out w2 D2.out (x + 2) (by omega)
  rw [HV.out] at key
  refine key.mono ?_
  rintro e w3 ⟨rfl, d3⟩
  have D3 := Hid.mk' (D2.out.trans d3)
  clear key d3
  go_wp2_with fail
  go_ret
  exact ⟨rfl, D3.out⟩

set_option maxHeartbeats 400000 in
theorem put16_any (g m x : Nat) (v : Int) (Z : List Value) (t : TypeId) (w : World) (hg : w.heap[g]? = some (.cells Z.toArray t (0, 0))) (hl : Z.length = m) (hx : x + 2 ≤ m) (hm : m ≤ 1000000) (v0 : 0 ≤ v) (v1 : v ≤ 65535) :
    Calls Tryz.prog 159 #[.slice (some ⟨g, 0, none⟩) m m, .int .i64 x, .int .u16 v] w fun e w' => e = .returned (.tuple #[]) ∧ w'.heap[g]? = some (.cells ((Z.set x (.int .u8 (v / 256))).set (x + 1) (.int .u8 (v % 256))).toArray t (0, 0)) ∧ Kept (fun k => k = g) w w' := by
  have hx0 : (x : Int) < (m : Int) := by omega
  have hx1 : (x : Int) + 1 < (m : Int) := by omega
  obtain ⟨y0, c0⟩ : ∃ y, w.cell? ⟨g, x, none⟩ = some y := ⟨_, by rw [cell_of_row w _ x _ _ _ hg, List.getElem?_toArray, List.getElem?_eq_getElem (by omega)]⟩
  obtain ⟨y1, c1⟩ : ∃ y, w.cell? ⟨g, x + 1, none⟩ = some y := ⟨_, by rw [cell_of_row w _ (x + 1) _ _ _ hg, List.getElem?_toArray, List.getElem?_eq_getElem (by omega)]⟩
  have f0 : w.frozen? ⟨g, x, none⟩ = false := frozen_of_row w _ x _ _ hg
  have f1 : w.frozen? ⟨g, x + 1, none⟩ = false := frozen_of_row w _ (x + 1) _ _ hg
  have HG := Hid.mk' hg
  clear hg
  go_enter Tryz.func159, Tryz.ntmps159
  go_wp2_with fail
  have h1 : Hid (((w.setCell ⟨g, x, none⟩ (.int .u8 (v / 256))).setCell ⟨g, x + 1, none⟩ (.int .u8 (v % 256))).heap[g]? = some (.cells ((Z.set x (.int .u8 (v / 256))).set (x + 1) (.int .u8 (v % 256))).toArray t (0, 0))) := Hid.mk' (by
    rw [Go.heap_setCell_same _ _ (x + 1) _ _ _ (Go.heap_setCell_same _ _ x _ _ _ HG.out)]; simp)
  have h2 : Hid (Kept (fun k => k = g) w ((w.setCell ⟨g, x, none⟩ (.int .u8 (v / 256))).setCell ⟨g, x + 1, none⟩ (.int .u8 (v % 256)))) := Hid.mk' (((Kept.refl (fun k => k = g) w).setCell (p := ⟨g, x, none⟩) (fun _ => rfl) _).setCell (p := ⟨g, x + 1, none⟩) (fun _ => rfl) _)
  go_end0
  exact ⟨rfl, h1.out, h2.out⟩

set_option maxHeartbeats 400000 in
theorem put32_any (g m x : Nat) (v : Int) (Z : List Value) (t : TypeId) (w : World) (hg : w.heap[g]? = some (.cells Z.toArray t (0, 0))) (hl : Z.length = m) (hx : x + 4 ≤ m) (hm : m ≤ 1000000) (v0 : 0 ≤ v) (v1 : v ≤ 4294967295) :
    Calls Tryz.prog 160 #[.slice (some ⟨g, 0, none⟩) m m, .int .i64 x, .int .u32 v] w fun e w' => e = .returned (.tuple #[]) ∧ w'.heap[g]? = some (.cells ((((Z.set x (.int .u8 (v / 65536 / 256))).set (x + 1) (.int .u8 (v / 65536 % 256))).set (x + 2) (.int .u8 (v % 65536 / 256))).set (x + 2 + 1) (.int .u8 (v % 65536 % 256))).toArray t (0, 0)) ∧ Kept (fun k => k = g) w w' := by
  have HG := Hid.mk' hg
  clear hg
  go_enter Tryz.func160, Tryz.ntmps160
  go_wp2_with fail
  refine (put16_any g m x (v / 65536) Z t w HG.out hl (by omega) hm (by omega) (by omega)).mono ?_
  rintro e w2 ⟨rfl, hg2, hk2⟩
  have G2 := Hid.mk' hg2
  have K2 := Hid.mk' hk2
  clear hg2 hk2
  go_wp2_with fail
  refine (put16_any g m (x + 2) (v % 65536) _ t w2 G2.out (by rw [List.length_set, List.length_set]; exact hl) (by omega) hm (by omega) (by omega)).mono ?_
  rintro e w3 ⟨rfl, hg3, hk3⟩
  have G3 := Hid.mk' hg3
  have K3 := Hid.mk' (K2.out.trans hk3)
  clear hg3 hk3
  go_wp2_with fail
  go_end0
  exact ⟨rfl, G3.out, K3.out⟩

/-- All the bytes, the field's two being 0. -/
def zf (zs : List Int) : List Int := (zs.set 16 0).set 17 0

theorem zf_length (zs : List Int) : (zf zs).length = zs.length := by unfold zf; simp

theorem zf_bytes {zs : List Int} (h : Bytes zs) : Bytes (zf zs) :=
  bytes_set (bytes_set h 16 0 (by omega) (by omega)) 17 0 (by omega) (by omega)

/-- The total of a header and its payload, by pieces. -/
theorem tot_zf (hs ys : List Int) (h : hs.length = 20) (k : Nat) : tot (zf (hs ++ ys)) (20 + k) = tot (hs.take 16) 16 + tot (hs.drop 18) 2 + tot ys k := by
  have e : zf (hs ++ ys) = hs.take 16 ++ ([0, 0] ++ (hs.drop 18 ++ ys)) := by
    match hs, h with
    | [z0, z1, z2, z3, z4, z5, z6, z7, z8, z9, z10, z11, z12, z13, z14, z15, z16, z17, z18, z19], _ => rfl
  have l16 : (hs.take 16).length = 16 := by rw [List.length_take, h]; rfl
  have l18 : (hs.drop 18).length = 2 := by rw [List.length_drop, h]
  have t1 := tot_app (hs.take 16) ([0, 0] ++ (hs.drop 18 ++ ys)) (by rw [l16]) (2 + (2 + k))
  have t2 : tot ([0, 0] ++ (hs.drop 18 ++ ys)) (2 + (2 + k)) = tot [0, 0] 2 + tot (hs.drop 18 ++ ys) (2 + k) := tot_app [0, 0] (hs.drop 18 ++ ys) (by simp) (2 + k)
  have t3 := tot_app (hs.drop 18) ys (by rw [l18]) k
  rw [l16] at t1
  rw [l18] at t3
  rw [e, show 20 + k = 16 + (2 + (2 + k)) by omega, t1, t2, t3, show tot [0, 0] 2 = 0 by decide]
  omega

set_option maxHeartbeats 1000000 in
theorem fieldOf_any (b off c : Nat) (a : Option Addr) (m d : Nat) (hs ys : List Int) (w : World) (hn : hs.length = 20) (hm : ys.length = m) (hB : Bs w (some ⟨b, off, none⟩) hs) (hY : Bs w a ys) (hc : 20 ≤ c) :
    Calls Tryz.prog 131 #[.slice (some ⟨b, off, none⟩) 20 c, .slice a m d] w fun e w' => e = .returned (.int .u16 (65535 - su (zf (hs ++ ys)) (20 + m))) ∧ Dr w w' := by
  have l16 : (hs.take 16).length = 16 := by rw [List.length_take, hn]; rfl
  have l18 : (hs.drop 18).length = 2 := by rw [List.length_drop, hn]
  have K1 : Hid (∀ u : World, Dr w u → Calls Tryz.prog 187 #[.slice (some ⟨b, off, none⟩) 16 c] u fun e w' => e = .returned (.int .u16 (fo (tot (hs.take 16) 16))) ∧ Dr u w') := Hid.mk' (fun u hu => by
    have h1 := sum_any (some ⟨b, off, none⟩) c (hs.take 16) u ((hu.bs hB).take 16 (by omega))
    rw [l16] at h1
    exact h1)
  have K2 : Hid (∀ (u : World) (c9 : Nat), Dr w u → Calls Tryz.prog 187 #[.slice (some ⟨b, off + 18, none⟩) 2 c9] u fun e w' => e = .returned (.int .u16 (fo (tot (hs.drop 18) 2))) ∧ Dr u w') := Hid.mk' (fun u c9 hu => by
    have h1 := sum_any (some ⟨b, off + 18, none⟩) c9 (hs.drop 18) u ((hu.bs hB).drop 18)
    rw [l18] at h1
    exact h1)
  have K3 : Hid (∀ u : World, Dr w u → Calls Tryz.prog 187 #[.slice a m d] u fun e w' => e = .returned (.int .u16 (fo (tot ys m))) ∧ Dr u w') := Hid.mk' (fun u hu => by
    have h1 := sum_any a d ys u (hu.bs hY)
    rw [hm] at h1
    exact h1)
  have b1 := (tot_bd (fun z hz => hB.bytes z (List.mem_of_mem_take hz) : Bytes (hs.take 16)) 16).1
  have b2 := (tot_bd (fun z hz => hB.bytes z (List.mem_of_mem_drop hz) : Bytes (hs.drop 18)) 2).1
  have b3 := (tot_bd hY.bytes m).1
  have HR : Hid (fo (fo (fo (tot (hs.take 16) 16) + fo (tot (hs.drop 18) 2)) + fo (tot ys m)) = su (zf (hs ++ ys)) (20 + m)) := Hid.mk' (by
    unfold su
    rw [tot_zf hs ys hn m, fo_add _ _ b1 (fo_nonneg _), fo_add' _ _ b1 b2, fo_add _ _ (by omega) (fo_nonneg _), fo_add' _ _ (by omega) b3])
  rw [← HR.out]
  generalize tot (hs.take 16) 16 = A at *
  generalize tot (hs.drop 18) 2 = B at *
  generalize tot ys m = D at *
  have A0 := fo_nonneg A
  have A1 := fo_le A
  have B0 := fo_nonneg B
  have B1 := fo_le B
  have D0 := fo_nonneg D
  have D1 := fo_le D
  have S0 := fo_nonneg (fo A + fo B)
  have S1 := fo_le (fo A + fo B)
  have T0 := fo_nonneg (fo (fo A + fo B) + fo D)
  have T1 := fo_le (fo (fo A + fo B) + fo D)
  have hcc : (20 : Int) ≤ (c : Int) := by omega
  have hc18 : (18 : Int) ≤ (c : Int) := by omega
  have hc16 : (16 : Int) ≤ (c : Int) := by omega
  have hne : ¬ c = 18 := by omega
  have hA0 : (if c = 18 then some (⟨b, off, none⟩ : Addr) else some ⟨b, off + 18, none⟩) = some ⟨b, off + 18, none⟩ := if_neg hne
  clear HR hB hY hn hm l16 l18 b1 b2 b3
  go_enter Tryz.func131, Tryz.ntmps131
  go_wp2_with fail
  go_quiet (first | (go_at_call_of 187 (Value.slice (some ⟨b, off, none⟩) 16 c); exact Calls.quiet_of (K1.out _ ⟨_, rfl⟩)) | (go_at_call 187; exact Calls.quiet_of (K2.out _ _ ⟨_, rfl⟩)) | (go_at_call 186; exact Calls.quiet_of_same (add_any _ _ _ A0 A1 B0 B1)))
  go_wp2_with fail
  refine (K3.out _ ⟨_, rfl⟩).mono ?_
  rintro e w2 ⟨rfl, d2⟩
  have D2 : Hid (Dr w w2) := Hid.mk' (Dr.trans ⟨_, rfl⟩ d2)
  clear d2
  go_wp2_with (go_at_call 186; refine (add_any _ _ _ S0 S1 D0 D1).mono ?_; rintro e w3 ⟨rfl, rfl⟩)
  go_ret
  exact ⟨rfl, D2.out⟩

theorem sgB_length (sp dp sq ak fl wn f : Int) : (sgB sp dp sq ak fl wn f).length = 20 := rfl

theorem sgB_bytes {sp dp sq ak fl wn f : Int} (h : Sg sp dp sq ak fl wn) (f0 : 0 ≤ f) (f1 : f ≤ 65535) : Bytes (sgB sp dp sq ak fl wn f) := by
  obtain ⟨s0, s1, d0, d1, q0, q1, a0, a1, l0, l1, w0, w1⟩ := h
  intro z hz
  simp [sgB] at hz
  rcases hz with rfl | rfl | rfl | rfl | rfl | rfl | rfl | rfl | rfl | rfl | rfl | rfl | rfl | rfl | rfl | rfl | rfl | rfl | rfl <;> omega

theorem zf_sgB (sp dp sq ak fl wn f : Int) (ys : List Int) : zf (sgB sp dp sq ak fl wn f ++ ys) = sgB sp dp sq ak fl wn 0 ++ ys := rfl

theorem sgF_bd (sp dp sq ak fl wn : Int) (ys : List Int) : 0 ≤ sgF sp dp sq ak fl wn ys ∧ sgF sp dp sq ak fl wn ys ≤ 65535 := by
  have := su_range (sgB sp dp sq ak fl wn 0 ++ ys) (20 + ys.length)
  unfold sgF; omega

set_option maxHeartbeats 400000 in
theorem lbytes_bad (L : List Value) (fl : Int) (a : Option Addr) (n c : Nat) (w : World) (hlc : L.length = 6) (hL : L[4]? = some (.int .u8 fl)) (hf : ¬ fl ≤ 63) :
    Calls Tryz.prog 102 #[.agg L.toArray, .slice a n c] w fun e w' => e = .returned (.tuple #[.slice none 0 0, .int .i64 90]) ∧ Below w.heap.size w w' := by
  have hlc := Hid.mk' hlc
  have HCK : Hid (∀ u : World, Calls Tryz.prog 101 #[.agg L.toArray] u fun e w' => e = .returned (.int .i64 90) ∧ Below u.heap.size u w') := Hid.mk' (fun u => by
    have := lcheck_any L fl u hL
    unfold sgE at this
    rw [if_neg hf] at this
    exact this)
  clear hL hf
  obtain ⟨W1, hW1⟩ : ∃ W1, W1 = w.alloc (.cells L.toArray 42) := ⟨_, rfl⟩
  have R1 : Hid (W1.heap[w.heap.size]? = some (.cells L.toArray 42 (0, 0))) := by rw [hW1]; exact heap_alloc_new w _
  have B1 : Hid (Below w.heap.size w W1) := by rw [hW1]; exact (Below.refl _ _).alloc (Nat.le_refl _) _
  have HW := Hid.mk' hW1.symm
  clear hW1
  go_enter Tryz.func102, Tryz.ntmps102
  go_wp2_with (first | (go_at_call 101; rw [HW.out]; refine (HCK.out W1).mono ?_; rintro e w2 ⟨rfl, b2⟩; have B2 : Hid (Below w.heap.size w w2) := (B1.out.trans (b2.mono B1.out.size)); clear b2) | refine wpList_load_mid rfl 42 _ rfl w.heap.size 0 rfl L _ (by rw [HW.out]; exact range_block R1.out) Tryz.underlying42 rfl (by rw [hlc.out]; exact info_hd) ?_)
  go_ret2
  exact ⟨rfl, B2.out⟩

set_option maxHeartbeats 400000 in
theorem lbytes_no (L : List Value) (fl : Int) (a : Option Addr) (n c : Nat) (w : World) (hlc : L.length = 6) (hL : L[4]? = some (.int .u8 fl)) (hf : fl ≤ 63) (hn : ¬ n ≤ 2028) (hl : n ≤ 140737488355328) :
    Calls Tryz.prog 102 #[.agg L.toArray, .slice a n c] w fun e w' => e = .returned (.tuple #[.slice none 0 0, .int .i64 5]) ∧ Below w.heap.size w w' := by
  have hlc := Hid.mk' hlc
  have HCK : Hid (∀ u : World, Calls Tryz.prog 101 #[.agg L.toArray] u fun e w' => e = .returned (.int .i64 0) ∧ Below u.heap.size u w') := Hid.mk' (fun u => by
    have := lcheck_any L fl u hL
    unfold sgE at this
    rw [if_pos hf] at this
    exact this)
  clear hL hf
  obtain ⟨W1, hW1⟩ : ∃ W1, W1 = w.alloc (.cells L.toArray 42) := ⟨_, rfl⟩
  have R1 : Hid (W1.heap[w.heap.size]? = some (.cells L.toArray 42 (0, 0))) := by rw [hW1]; exact heap_alloc_new w _
  have B1 : Hid (Below w.heap.size w W1) := by rw [hW1]; exact (Below.refl _ _).alloc (Nat.le_refl _) _
  have HW := Hid.mk' hW1.symm
  clear hW1
  go_enter Tryz.func102, Tryz.ntmps102
  go_wp2_with (first | (go_at_call 101; rw [HW.out]; refine (HCK.out W1).mono ?_; rintro e w2 ⟨rfl, b2⟩; have B2 : Hid (Below w.heap.size w w2) := (B1.out.trans (b2.mono B1.out.size)); clear b2) | refine wpList_load_mid rfl 42 _ rfl w.heap.size 0 rfl L _ (by rw [HW.out]; exact range_block R1.out) Tryz.underlying42 rfl (by rw [hlc.out]; exact info_hd) ?_)
  go_ret2
  exact ⟨rfl, B2.out⟩

/-- What lies in memory while Bytes goes on: the header's box, the row that is written. -/
structure SbJ (w : World) (L : List Value) (g : Nat) (X : List Value) (u : World) : Prop where
  box : u.heap[w.heap.size]? = some (.cells L.toArray 42 (0, 0))
  row : u.heap[g]? = some (.cells X.toArray 5 (0, 0))
  old : Below w.heap.size w u
  lt : w.heap.size < g

theorem SbJ.put {w u u' : World} {L X X' : List Value} {g : Nat} (h : SbJ w L g X u) (x : u'.heap[g]? = some (.cells X'.toArray 5 (0, 0))) (k : Kept (fun j => j = g) u u') : SbJ w L g X' u' :=
  ⟨(k.block w.heap.size (Array.getElem?_eq_some_iff.1 h.box).1 (by have := h.lt; omega)).trans h.box, x, h.old.trans (k.below h.old.size (fun j hj => by have := h.lt; omega)), h.lt⟩

theorem SbJ.dr {w u u' : World} {L X : List Value} {g : Nat} (h : SbJ w L g X u) (d : Dr u u') : SbJ w L g X u' :=
  ⟨by rw [d.heap]; exact h.box, by rw [d.heap]; exact h.row, h.old.trans (d.below _), h.lt⟩

set_option maxHeartbeats 1000000 in
theorem lbytes_ok (sp dp sq ak fl wn : Int) (a : Option Addr) (n c : Nat) (ys : List Int) (w : World) (h : Sg sp dp sq ak fl wn) (hf : fl ≤ 63) (hn : n ≤ 2028) (hy : ys.length = n) (hY : Bs w a ys) :
    Calls Tryz.prog 102 #[.agg (sgC sp dp sq ak fl wn).toArray, .slice a n c] w fun e w' => ∃ v, e = .returned (.tuple #[v, .int .i64 0]) ∧ w'.ownsRow w.heap.size 5 1 v 20 ((sgB sp dp sq ak fl wn (sgF sp dp sq ak fl wn ys)).map (Value.int .u8)) ∧ Below w.heap.size w w' := by
  have hlc : Hid ((sgC sp dp sq ak fl wn).length = 6) := Hid.mk' rfl
  have HCK : Hid (∀ u : World, Calls Tryz.prog 101 #[.agg (sgC sp dp sq ak fl wn).toArray] u fun e w' => e = .returned (.int .i64 0) ∧ Below u.heap.size u w') := Hid.mk' (fun u => by
    have := lcheck_any (sgC sp dp sq ak fl wn) fl u rfl
    unfold sgE at this
    rw [if_pos hf] at this
    exact this)
  obtain ⟨L, HL⟩ : ∃ L, Hid (sgC sp dp sq ak fl wn = L) := ⟨_, rfl⟩
  rw [HL.out] at hlc HCK ⊢
  have CE : Hid (∀ w' : World, w'.heap[w.heap.size]? = some (.cells L.toArray 42 (0, 0)) → w'.cell? ⟨w.heap.size, 0, none⟩ = some (.int .u16 sp) ∧ w'.cell? ⟨w.heap.size, 1, none⟩ = some (.int .u16 dp) ∧ w'.cell? ⟨w.heap.size, 2, none⟩ = some (.int .u32 sq) ∧ w'.cell? ⟨w.heap.size, 3, none⟩ = some (.int .u32 ak) ∧ w'.cell? ⟨w.heap.size, 4, none⟩ = some (.int .u8 fl) ∧ w'.cell? ⟨w.heap.size, 5, none⟩ = some (.int .u16 wn)) := Hid.mk' (fun w' hh => by
    rw [← HL.out] at hh
    refine ⟨?_, ?_, ?_, ?_, ?_, ?_⟩ <;> exact cell_of_row w' _ _ _ _ _ hh)
  obtain ⟨Z, HZ⟩ : ∃ Z, Hid ((List.replicate 20 (0 : Int)).map (Value.int .u8) = Z) := ⟨_, rfl⟩
  have hmk : ∀ u : World, (Instr.makeSlice 22 (.int .i64 20) (.int .i64 20)).run Tryz.prog u = .ok (.slice (some ⟨u.heap.size, 0, none⟩) 20 20) (u.alloc (.cells Z.toArray 5)) := by
    rw [← HZ.out]; exact make_bytes 20 (by omega)
  have HZL : Hid (Z.length = 20) := Hid.mk' (by rw [← HZ.out]; simp)
  have hF := sgF_bd sp dp sq ak fl wn ys
  have HFE : Hid (65535 - su (zf (sgB sp dp sq ak fl wn 0 ++ ys)) (20 + n) = sgF sp dp sq ak fl wn ys) := Hid.mk' (by rw [zf_sgB, ← hy]; rfl)
  have HSB : Hid (Bytes (sgB sp dp sq ak fl wn 0)) := Hid.mk' (sgB_bytes h (by omega) (by omega))
  obtain ⟨F, HF⟩ : ∃ F, Hid (sgF sp dp sq ak fl wn ys = F) := ⟨_, rfl⟩
  rw [HF.out] at HFE hF ⊢
  obtain ⟨F0, F1⟩ := hF
  obtain ⟨s0, s1, d0, d1, q0, q1, a0, a1, l0, l1, w0, w1⟩ := h
  have hor := or12 fl l0 hf
  have h80 : Hid ((20480 + fl) / 256 = 80) := Hid.mk' (by omega)
  have hfl : Hid ((20480 + fl) % 256 = fl) := Hid.mk' (by omega)
  have HY := Hid.mk' hY
  have HN := Hid.mk' hy
  clear hY hy
  obtain ⟨W1, hW1⟩ : ∃ W1, W1 = w.alloc (.cells L.toArray 42) := ⟨_, rfl⟩
  have R1 : Hid (W1.heap[w.heap.size]? = some (.cells L.toArray 42 (0, 0))) := by rw [hW1]; exact heap_alloc_new w _
  have B1 : Hid (Below w.heap.size w W1) := by rw [hW1]; exact (Below.refl _ _).alloc (Nat.le_refl _) _
  have HW := Hid.mk' hW1.symm
  clear hW1
  go_enter Tryz.func102, Tryz.ntmps102
  go_wp2_with (first | (go_at_call 101; rw [HW.out]; refine (HCK.out W1).mono ?_; rintro e w2 ⟨rfl, b2⟩; have B2 : Hid (Below w.heap.size w w2) := (B1.out.trans (b2.mono B1.out.size)); have R2 : Hid (w2.heap[w.heap.size]? = some (.cells L.toArray 42 (0, 0))) := ((b2.block _ (Array.getElem?_eq_some_iff.1 R1.out).1).trans R1.out); obtain ⟨e0, e1, e2, e3, e4, e5⟩ := CE.out _ R2.out; have hlt0 : w.heap.size < w2.heap.size := (Array.getElem?_eq_some_iff.1 R2.out).1; have hne0 : ¬ w.heap.size = w2.heap.size := (by omega); clear b2) | refine wpList_load_mid rfl 42 _ rfl w.heap.size 0 rfl L _ (by rw [HW.out]; exact range_block R1.out) Tryz.underlying42 rfl (by rw [hlc.out]; exact info_hd) ?_)
  obtain ⟨w3, hw3⟩ : ∃ w3, w3 = w2.alloc (.cells Z.toArray 5) := ⟨_, rfl⟩
  rw [← hw3]
  have J3 : Hid (SbJ w L w2.heap.size Z w3) := Hid.mk' (by rw [hw3]; exact ⟨(Below.heap_alloc _ _ _ hlt0).trans R2.out, heap_alloc_new w2 _, B2.out.alloc B2.out.size _, hlt0⟩)
  clear hw3 e0 e1 e2 e3 e4 e5 R2 B2 R1 B1 HW hlt0 hne0 hmk
  obtain ⟨g, HG⟩ : ∃ g, Hid (w2.heap.size = g) := ⟨_, rfl⟩
  rw [HG.out] at J3 ⊢
  refine (put16_any g 20 0 sp _ 5 w3 J3.out.row (by first | exact HZL.out | (simp only [List.length_set]; exact HZL.out)) (by omega) (by omega) (by omega) (by omega)).mono ?_
  rintro e w4 ⟨rfl, x4, k4⟩
  have J4 := Hid.mk' (J3.out.put x4 k4)
  obtain ⟨e0, e1, e2, e3, e4, e5⟩ := CE.out _ J4.out.box
  clear x4 k4 J3
  go_wp2_with fail
  clear e0 e1 e2 e3 e4 e5
  refine (put16_any g 20 2 dp _ 5 w4 J4.out.row (by first | exact HZL.out | (simp only [List.length_set]; exact HZL.out)) (by omega) (by omega) (by omega) (by omega)).mono ?_
  rintro e w5 ⟨rfl, x5, k5⟩
  have J5 := Hid.mk' (J4.out.put x5 k5)
  obtain ⟨e0, e1, e2, e3, e4, e5⟩ := CE.out _ J5.out.box
  clear x5 k5 J4
  go_wp2_with fail
  clear e0 e1 e2 e3 e4 e5
  refine (put32_any g 20 4 sq _ 5 w5 J5.out.row (by first | exact HZL.out | (simp only [List.length_set]; exact HZL.out)) (by omega) (by omega) (by omega) (by omega)).mono ?_
  rintro e w6 ⟨rfl, x6, k6⟩
  have J6 := Hid.mk' (J5.out.put x6 k6)
  obtain ⟨e0, e1, e2, e3, e4, e5⟩ := CE.out _ J6.out.box
  clear x6 k6 J5
  go_wp2_with fail
  clear e0 e1 e2 e3 e4 e5
  refine (put32_any g 20 8 ak _ 5 w6 J6.out.row (by first | exact HZL.out | (simp only [List.length_set]; exact HZL.out)) (by omega) (by omega) (by omega) (by omega)).mono ?_
  rintro e w7 ⟨rfl, x7, k7⟩
  have J7 := Hid.mk' (J6.out.put x7 k7)
  obtain ⟨e0, e1, e2, e3, e4, e5⟩ := CE.out _ J7.out.box
  clear x7 k7 J6
  go_wp2_with fail
  clear e0 e1 e2 e3 e4 e5
  refine (put16_any g 20 12 (20480 + fl) _ 5 w7 J7.out.row (by first | exact HZL.out | (simp only [List.length_set]; exact HZL.out)) (by omega) (by omega) (by omega) (by omega)).mono ?_
  rintro e w8 ⟨rfl, x8, k8⟩
  have J8 := Hid.mk' (J7.out.put x8 k8)
  obtain ⟨e0, e1, e2, e3, e4, e5⟩ := CE.out _ J8.out.box
  clear x8 k8 J7
  go_wp2_with fail
  clear e0 e1 e2 e3 e4 e5
  refine (put16_any g 20 14 wn _ 5 w8 J8.out.row (by first | exact HZL.out | (simp only [List.length_set]; exact HZL.out)) (by omega) (by omega) (by omega) (by omega)).mono ?_
  rintro e w9 ⟨rfl, x9, k9⟩
  have J9 := Hid.mk' (J8.out.put x9 k9)
  obtain ⟨e0, e1, e2, e3, e4, e5⟩ := CE.out _ J9.out.box
  clear x9 k9 J8
  go_wp2_with fail
  clear e0 e1 e2 e3 e4 e5
  have X9 : Hid (w9.heap[g]? = some (.cells ((sgB sp dp sq ak fl wn 0).map (Value.int .u8)).toArray 5 (0, 0))) := Hid.mk' (by
    rw [J9.out.row, ← HZ.out, h80.out, hfl.out]; rfl)
  have J10 : Hid (SbJ w L g ((sgB sp dp sq ak fl wn 0).map (Value.int .u8)) w9) := Hid.mk' ⟨J9.out.box, X9.out, J9.out.old, J9.out.lt⟩
  have S10 : Hid (Bs w9 (some ⟨g, 0, none⟩) (sgB sp dp sq ak fl wn 0)) := Hid.mk' (bs_block (A := []) (D := []) (t := 5) (by rw [X9.out]; simp) 0 rfl HSB.out (by rw [sgB_length]; omega))
  clear J9 X9
  have key := fieldOf_any g 0 20 a n c (sgB sp dp sq ak fl wn 0) ys w9 rfl HN.out S10.out (HY.out.below J10.out.old) (by omega)
  rw [HFE.out] at key
  refine key.mono ?_
  rintro e w11 ⟨rfl, d11⟩
  have J11 := Hid.mk' (J10.out.dr d11)
  clear key d11 J10 S10
  go_wp2_with fail
  refine (put16_any g 20 16 F _ 5 w11 J11.out.row (by rw [List.length_map]; rfl) (by omega) (by omega) F0 F1).mono ?_
  rintro e w12 ⟨rfl, x12, k12⟩
  have J12 := Hid.mk' (J11.out.put x12 k12)
  have O12 : Hid (w12.ownsRow w.heap.size 5 1 (.slice (some ⟨g, 0, none⟩) 20 20) 20 ((sgB sp dp sq ak fl wn F).map (Value.int .u8))) := Hid.mk' (by
    refine own_block ?_ (Nat.le_of_lt J12.out.lt) (by rw [List.length_map]; rfl) (by omega)
    rw [x12]; rfl)
  have B12 := Hid.mk' J12.out.old
  clear x12 k12 J11 J12
  go_wp2_with fail
  go_ret2
  exact ⟨_, rfl, O12.out, B12.out⟩

/-- Cells of a header that is none. -/
def hd0 : List Value := [.int .u16 0, .int .u16 0, .int .u32 0, .int .u32 0, .int .u8 0, .int .u16 0]

theorem hd0_one : hd0.toArray.all (·.oneCell') = true := sgC_one 0 0 0 0 0 0

/-- What holds where Read has only looked: the box of its result, which is none yet. -/
structure RdJ (w u : World) : Prop where
  box : u.heap[w.heap.size]? = some (.cells hd0.toArray 42 (0, 0))
  old : Below w.heap.size w u

theorem RdJ.first (w : World) : RdJ w (w.alloc (.cells hd0.toArray 42)) := ⟨heap_alloc_new w _, (Below.refl _ _).alloc (Nat.le_refl _) _⟩

theorem RdJ.below {w u v : World} (h : RdJ w u) (b : Below u.heap.size u v) : RdJ w v :=
  ⟨(b.block _ (Array.getElem?_eq_some_iff.1 h.box).1).trans h.box, h.old.trans (b.mono h.old.size)⟩

theorem RdJ.dr {w u v : World} (h : RdJ w u) (d : Dr u v) : RdJ w v := h.below (d.below _)

theorem RdJ.there {w u : World} (h : RdJ w u) : u.there w.heap.size 0 hd0.toArray.size := there_block h.box

/-- .. and where a header is stored there. -/
theorem RdJ.done {w u : World} (h : RdJ w u) (M : List Value) (hl : M.length = 6) : (u.setCells w.heap.size 0 M).heap[w.heap.size]? = some (.cells M.toArray 42 (0, 0)) ∧ Below w.heap.size w (u.setCells w.heap.size 0 M) :=
  ⟨heap_whole (L := hd0) h.box (by rw [hl]; rfl), h.old.trans (((Kept.refl (fun k => k = w.heap.size) u).setCells w.heap.size 0 M (fun _ => rfl)).below h.old.size (fun k hk => by omega))⟩

set_option maxHeartbeats 400000 in
theorem lread_short (a : Option Addr) (n c : Nat) (w : World) (hn : n < 20) :
    Calls Tryz.prog 75 #[.slice a n c] w fun e w' => e = .returned (.tuple #[.agg hd0.toArray, .int .i64 6]) ∧ Below w.heap.size w w' := by
  have J1 := Hid.mk' (RdJ.first w)
  go_enter Tryz.func75, Tryz.ntmps75
  go_wp2_with (first | refine wpList_store_mid rfl 42 _ _ rfl w.heap.size 0 hd0.toArray rfl rfl J1.out.there info_hd hd0_one ?_)
  refine ret_cell_tmp rfl w.heap.size 42 hd0 (0, 0) _ rfl (J1.out.done hd0 rfl).1 Tryz.underlying42 rfl info_hd rfl ?_
  exact ⟨rfl, (J1.out.done hd0 rfl).2⟩

/-- Read's first questions. -/
abbrev rdQ (zs : List Int) : Prop := (20480 ≤ rdV zs 12 ∧ rdV zs 12 ≤ 20543) ∧ rdV zs 18 = 0

set_option maxHeartbeats 1000000 in
theorem lread_bad (b off : Nat) (n c : Nat) (zs : List Int) (w : World) (hz : zs.length = n) (hB : Bs w (some ⟨b, off, none⟩) zs) (hn : 20 ≤ n) (hq : ¬ rdQ zs) :
    Calls Tryz.prog 75 #[.slice (some ⟨b, off, none⟩) n c] w fun e w' => e = .returned (.tuple #[.agg hd0.toArray, .int .i64 90]) ∧ Below w.heap.size w w' := by
  have hln : n ≤ 140737488355328 := by rw [← hz]; exact hB.len
  have J1 := Hid.mk' (RdJ.first w)
  have KG : Hid (∀ (u : World) (k : Nat), RdJ w u → k + 2 ≤ n → Calls Tryz.prog 130 #[.slice (some ⟨b, off, none⟩) n c, .int .i64 k] u fun e u' => e = .returned (.int .u16 (rdV zs k)) ∧ Dr u u') := Hid.mk' (fun u k h hk => get16_any b off n c k zs u hz (hB.below h.old) hk)
  unfold rdQ at hq
  have v12 := rdV_bd hB.bytes 12
  have v18 := rdV_bd hB.bytes 18
  clear hB hz
  obtain ⟨V12, H12⟩ : ∃ V, Hid (rdV zs 12 = V) := ⟨_, rfl⟩
  obtain ⟨V18, H18⟩ : ∃ V, Hid (rdV zs 18 = V) := ⟨_, rfl⟩
  rw [H12.out] at hq v12
  rw [H18.out] at hq v18
  obtain ⟨v120, v121⟩ := v12
  obtain ⟨v180, v181⟩ := v18
  obtain ⟨X, hfl⟩ : ∃ X, IntKind.u16.wrap (V12 - 20480) = X := ⟨_, rfl⟩
  have hXe : X = (V12 - 20480) % 65536 := by rw [← hfl, IntKind.wrap_u16]
  have hX0 : 0 ≤ X := by omega
  have hX1 : X ≤ 65535 := by omega
  by_cases hx : 20480 ≤ V12 ∧ V12 ≤ 20543
  · have h18 : ¬ V18 = 0 := fun e => hq ⟨hx, e⟩
    have h18b : (V18 != 0) = true := by simpa using h18
    have hX : ¬ 64 ≤ X := by omega
    clear hXe hx v120 v121 hq
    go_enter Tryz.func75, Tryz.ntmps75
    go_wp2_with (first | (go_at_call_of 130 (Value.int IntKind.i64 12); refine (KG.out _ 12 J1.out (by omega)).mono ?_; rw [H12.out]; rintro e w2 ⟨rfl, d2⟩; have J2 := Hid.mk' (J1.out.dr d2); clear d2) | (go_at_call_of 130 (Value.int IntKind.i64 18); refine (KG.out _ 18 J2.out (by omega)).mono ?_; rw [H18.out]; rintro e w3 ⟨rfl, d3⟩; have J3 := Hid.mk' (J2.out.dr d3); clear d3) | refine wpList_store_mid rfl 42 _ _ rfl w.heap.size 0 hd0.toArray rfl rfl J3.out.there info_hd hd0_one ?_)
    refine ret_cell_tmp rfl w.heap.size 42 hd0 (0, 0) _ rfl (J3.out.done hd0 rfl).1 Tryz.underlying42 rfl info_hd rfl ?_
    exact ⟨rfl, (J3.out.done hd0 rfl).2⟩
  · have hX : 64 ≤ X := by omega
    clear hXe hx v120 v121 hq
    go_enter Tryz.func75, Tryz.ntmps75
    go_wp2_with (first | (go_at_call_of 130 (Value.int IntKind.i64 12); refine (KG.out _ 12 J1.out (by omega)).mono ?_; rw [H12.out]; rintro e w2 ⟨rfl, d2⟩; have J2 := Hid.mk' (J1.out.dr d2); clear d2) | refine wpList_store_mid rfl 42 _ _ rfl w.heap.size 0 hd0.toArray rfl rfl J2.out.there info_hd hd0_one ?_)
    refine ret_cell_tmp rfl w.heap.size 42 hd0 (0, 0) _ rfl (J2.out.done hd0 rfl).1 Tryz.underlying42 rfl info_hd rfl ?_
    exact ⟨rfl, (J2.out.done hd0 rfl).2⟩

/-- The field that bytes should have. -/
def rdF (zs : List Int) : Int := 65535 - su (zf zs) zs.length

/-- fieldOf of a packet's first twenty bytes and the others. -/
theorem field_pk (b off : Nat) (n c c9 : Nat) (A0 : Addr) (zs : List Int) (u : World) (hz : zs.length = n) (hB : Bs u (some ⟨b, off, none⟩) zs) (hn : 20 ≤ n) (hc : n ≤ c) (hA : (if c = 20 then some (⟨b, off, none⟩ : Addr) else some ⟨b, off + 20, none⟩) = some A0) :
    Calls Tryz.prog 131 #[.slice (some ⟨b, off, none⟩) 20 c, .slice (some A0) (n - 20) c9] u fun e u' => e = .returned (.int .u16 (rdF zs)) ∧ Dr u u' := by
  have SD : Bs u (some A0) (zs.drop 20) := by
    rw [← hA]
    split
    · rename_i hq
      have : zs.drop 20 = [] := List.drop_eq_nil_of_le (by omega)
      rw [this]
      exact bs_nil _ _
    · exact hB.drop 20
  have key := fieldOf_any b off c (some A0) (n - 20) c9 (zs.take 20) (zs.drop 20) u (by rw [List.length_take, hz]; omega) (by rw [List.length_drop, hz]) (hB.take 20 (by omega)) SD (by omega)
  rw [List.take_append_drop, show 20 + (n - 20) = zs.length by omega] at key
  exact key

set_option maxHeartbeats 1000000 in
theorem lread_sum (b off : Nat) (n c : Nat) (zs : List Int) (w : World) (hz : zs.length = n) (hB : Bs w (some ⟨b, off, none⟩) zs) (hn : 20 ≤ n) (hc : n ≤ c) (hq : rdQ zs) (hf : ¬ rdV zs 16 = rdF zs) :
    Calls Tryz.prog 75 #[.slice (some ⟨b, off, none⟩) n c] w fun e w' => e = .returned (.tuple #[.agg hd0.toArray, .int .i64 110]) ∧ Below w.heap.size w w' := by
  have hln : n ≤ 140737488355328 := by rw [← hz]; exact hB.len
  have J1 := Hid.mk' (RdJ.first w)
  have KG : Hid (∀ (u : World) (k : Nat), RdJ w u → k + 2 ≤ n → Calls Tryz.prog 130 #[.slice (some ⟨b, off, none⟩) n c, .int .i64 k] u fun e u' => e = .returned (.int .u16 (rdV zs k)) ∧ Dr u u') := Hid.mk' (fun u k h hk => get16_any b off n c k zs u hz (hB.below h.old) hk)
  obtain ⟨A0, hA0⟩ : ∃ A0 : Addr, (if c = 20 then some (⟨b, off, none⟩ : Addr) else some ⟨b, off + 20, none⟩) = some A0 := by split <;> exact ⟨_, rfl⟩
  have KF : Hid (∀ (u : World) (c9 : Nat), RdJ w u → Calls Tryz.prog 131 #[.slice (some ⟨b, off, none⟩) 20 c, .slice (some A0) (n - 20) c9] u fun e u' => e = .returned (.int .u16 (rdF zs)) ∧ Dr u u') := Hid.mk' (fun u c9 h => field_pk b off n c c9 A0 zs u hz (hB.below h.old) hn hc hA0)
  obtain ⟨⟨q1, q2⟩, h18⟩ := hq
  have H18 := Hid.mk' h18
  clear hB hz h18
  obtain ⟨V12, H12⟩ : ∃ V, Hid (rdV zs 12 = V) := ⟨_, rfl⟩
  rw [H12.out] at q1 q2
  obtain ⟨V16, H16⟩ : ∃ V, Hid (rdV zs 16 = V) := ⟨_, rfl⟩
  obtain ⟨F, HF⟩ : ∃ F, Hid (rdF zs = F) := ⟨_, rfl⟩
  rw [H16.out, HF.out] at hf
  rw [HF.out] at KF
  have hfb : (V16 != F) = true := by simpa using hf
  obtain ⟨X, hfl⟩ : ∃ X, IntKind.u16.wrap (V12 - 20480) = X := ⟨_, rfl⟩
  have hXe : X = (V12 - 20480) % 65536 := by rw [← hfl, IntKind.wrap_u16]
  have hX0 : 0 ≤ X := by omega
  have hX : ¬ 64 ≤ X := by omega
  have hcn : (n : Int) ≤ (c : Int) := by omega
  have hcS : (20 : Int) ≤ (n : Int) := by omega
  have hcc : (20 : Int) ≤ (c : Int) := by omega
  clear hXe q1 q2
  have K16 : Hid (∀ u : World, RdJ w u → Calls Tryz.prog 130 #[.slice (some ⟨b, off, none⟩) n c, .int .i64 16] u fun e u' => e = .returned (.int .u16 V16) ∧ Dr u u') := Hid.mk' (fun u h => by rw [← H16.out]; exact KG.out u 16 h (by omega))
  go_enter Tryz.func75, Tryz.ntmps75
  go_wp2_with (first | (go_at_call_of 130 (Value.int IntKind.i64 12); refine (KG.out _ 12 J1.out (by omega)).mono ?_; rw [H12.out]; rintro e w2 ⟨rfl, d2⟩; have J2 := Hid.mk' (J1.out.dr d2); clear d2) | (go_at_call_of 130 (Value.int IntKind.i64 18); refine (KG.out _ 18 J2.out (by omega)).mono ?_; rw [H18.out]; rintro e w3 ⟨rfl, d3⟩; have J3 := Hid.mk' (J2.out.dr d3); clear d3))
  go_quiet (first | (go_at_call 130; exact Calls.quiet_of (K16.out _ (J3.out.dr ⟨_, rfl⟩))) | (go_at_call 131; exact Calls.quiet_of (KF.out _ _ (J3.out.dr ⟨_, rfl⟩))))
  have J4 : Hid (RdJ w (w3.drewN nq)) := Hid.mk' (J3.out.dr ⟨_, rfl⟩)
  generalize w3.drewN nq = w4 at *
  go_wp2_with (first | refine wpList_store_mid rfl 42 _ _ rfl w.heap.size 0 hd0.toArray rfl rfl J4.out.there info_hd hd0_one ?_)
  refine ret_cell_tmp rfl w.heap.size 42 hd0 (0, 0) _ rfl (J4.out.done hd0 rfl).1 Tryz.underlying42 rfl info_hd rfl ?_
  exact ⟨rfl, (J4.out.done hd0 rfl).2⟩

/-- The header that bytes begin with: its cells. -/
def rdC (zs : List Int) : List Value := sgC (rdV zs 0) (rdV zs 2) (rdW zs 4) (rdW zs 8) (rdV zs 12 - 20480) (rdV zs 14)

set_option maxHeartbeats 1000000 in
theorem lread_ok (b off : Nat) (n c : Nat) (zs : List Int) (w : World) (hz : zs.length = n) (hB : Bs w (some ⟨b, off, none⟩) zs) (hn : 20 ≤ n) (hc : n ≤ c) (hq : rdQ zs) (hf : rdV zs 16 = rdF zs) :
    Calls Tryz.prog 75 #[.slice (some ⟨b, off, none⟩) n c] w fun e w' => e = .returned (.tuple #[.agg (rdC zs).toArray, .int .i64 0]) ∧ Below w.heap.size w w' := by
  have KW : Hid (∀ (u : World) (k : Nat), RdJ w u → k + 4 ≤ n → Calls Tryz.prog 132 #[.slice (some ⟨b, off, none⟩) n c, .int .i64 k] u fun e u' => e = .returned (.int .u32 (rdW zs k)) ∧ Dr u u') := Hid.mk' (fun u k h hk => get32_any b off n c k zs u hz (hB.below h.old) hk)
  obtain ⟨RES, HRES⟩ : ∃ RES, Hid (rdC zs = RES) := ⟨_, rfl⟩
  rw [HRES.out]
  have hln : n ≤ 140737488355328 := by rw [← hz]; exact hB.len
  have J1 := Hid.mk' (RdJ.first w)
  have KG : Hid (∀ (u : World) (k : Nat), RdJ w u → k + 2 ≤ n → Calls Tryz.prog 130 #[.slice (some ⟨b, off, none⟩) n c, .int .i64 k] u fun e u' => e = .returned (.int .u16 (rdV zs k)) ∧ Dr u u') := Hid.mk' (fun u k h hk => get16_any b off n c k zs u hz (hB.below h.old) hk)
  obtain ⟨A0, hA0⟩ : ∃ A0 : Addr, (if c = 20 then some (⟨b, off, none⟩ : Addr) else some ⟨b, off + 20, none⟩) = some A0 := by split <;> exact ⟨_, rfl⟩
  have KF : Hid (∀ (u : World) (c9 : Nat), RdJ w u → Calls Tryz.prog 131 #[.slice (some ⟨b, off, none⟩) 20 c, .slice (some A0) (n - 20) c9] u fun e u' => e = .returned (.int .u16 (rdF zs)) ∧ Dr u u') := Hid.mk' (fun u c9 h => field_pk b off n c c9 A0 zs u hz (hB.below h.old) hn hc hA0)
  obtain ⟨⟨q1, q2⟩, h18⟩ := hq
  have H18 := Hid.mk' h18
  clear hB hz h18
  obtain ⟨V12, H12⟩ : ∃ V, Hid (rdV zs 12 = V) := ⟨_, rfl⟩
  rw [H12.out] at q1 q2
  obtain ⟨V16, H16⟩ : ∃ V, Hid (rdV zs 16 = V) := ⟨_, rfl⟩
  obtain ⟨F, HF⟩ : ∃ F, Hid (rdF zs = F) := ⟨_, rfl⟩
  rw [H16.out, HF.out] at hf
  rw [HF.out] at KF
  subst hf
  have hfb : (V16 != V16) = false := by simp
  obtain ⟨X, hfl⟩ : ∃ X, IntKind.u16.wrap (V12 - 20480) = X := ⟨_, rfl⟩
  have hXe : X = (V12 - 20480) % 65536 := by rw [← hfl, IntKind.wrap_u16]
  have hX0 : 0 ≤ X := by omega
  have hX : ¬ 64 ≤ X := by omega
  have hcn : (n : Int) ≤ (c : Int) := by omega
  have hcS : (20 : Int) ≤ (n : Int) := by omega
  have hcc : (20 : Int) ≤ (c : Int) := by omega
  have HXE : Hid (X = V12 - 20480) := Hid.mk' (by omega)
  have hX1 : X ≤ 63 := by omega
  clear hXe q1 q2
  have K16 : Hid (∀ u : World, RdJ w u → Calls Tryz.prog 130 #[.slice (some ⟨b, off, none⟩) n c, .int .i64 16] u fun e u' => e = .returned (.int .u16 V16) ∧ Dr u u') := Hid.mk' (fun u h => by rw [← H16.out]; exact KG.out u 16 h (by omega))
  go_enter Tryz.func75, Tryz.ntmps75
  go_wp2_with (first | (go_at_call_of 130 (Value.int IntKind.i64 12); refine (KG.out _ 12 J1.out (by omega)).mono ?_; rw [H12.out]; rintro e w2 ⟨rfl, d2⟩; have J2 := Hid.mk' (J1.out.dr d2); clear d2) | (go_at_call_of 130 (Value.int IntKind.i64 18); refine (KG.out _ 18 J2.out (by omega)).mono ?_; rw [H18.out]; rintro e w3 ⟨rfl, d3⟩; have J3 := Hid.mk' (J2.out.dr d3); clear d3))
  go_quiet (first | (go_at_call 130; exact Calls.quiet_of (K16.out _ (J3.out.dr ⟨_, rfl⟩))) | (go_at_call 131; exact Calls.quiet_of (KF.out _ _ (J3.out.dr ⟨_, rfl⟩))))
  have J4 : Hid (RdJ w (w3.drewN nq)) := Hid.mk' (J3.out.dr ⟨_, rfl⟩)
  generalize w3.drewN nq = w4 at *
  obtain ⟨V0, H0⟩ : ∃ V, Hid (rdV zs 0 = V) := ⟨_, rfl⟩
  obtain ⟨V2, H2⟩ : ∃ V, Hid (rdV zs 2 = V) := ⟨_, rfl⟩
  obtain ⟨W4, H4⟩ : ∃ V, Hid (rdW zs 4 = V) := ⟨_, rfl⟩
  obtain ⟨W8, H8⟩ : ∃ V, Hid (rdW zs 8 = V) := ⟨_, rfl⟩
  obtain ⟨V14, H14⟩ : ∃ V, Hid (rdV zs 14 = V) := ⟨_, rfl⟩
  have HM : Hid (sgC V0 V2 W4 W8 X V14 = RES) := Hid.mk' (by rw [← HRES.out]; unfold rdC; rw [H0.out, H2.out, H4.out, H8.out, H14.out, H12.out, HXE.out])
  clear J1 J2 J3
  go_wp2_with (first | (go_at_call_of 130 (Value.int IntKind.i64 0); refine (KG.out _ 0 J4.out (by omega)).mono ?_; rw [H0.out]; rintro e w5 ⟨rfl, d5⟩; have J5 := Hid.mk' (J4.out.dr d5); clear d5) | (go_at_call_of 130 (Value.int IntKind.i64 2); refine (KG.out _ 2 J5.out (by omega)).mono ?_; rw [H2.out]; rintro e w6 ⟨rfl, d6⟩; have J6 := Hid.mk' (J5.out.dr d6); clear d6) | (go_at_call_of 132 (Value.int IntKind.i64 4); refine (KW.out _ 4 J6.out (by omega)).mono ?_; rw [H4.out]; rintro e w7 ⟨rfl, d7⟩; have J7 := Hid.mk' (J6.out.dr d7); clear d7) | (go_at_call_of 132 (Value.int IntKind.i64 8); refine (KW.out _ 8 J7.out (by omega)).mono ?_; rw [H8.out]; rintro e w8 ⟨rfl, d8⟩; have J8 := Hid.mk' (J7.out.dr d8); clear d8) | (go_at_call_of 130 (Value.int IntKind.i64 14); refine (KG.out _ 14 J8.out (by omega)).mono ?_; rw [H14.out]; rintro e w9 ⟨rfl, d9⟩; have J9 := Hid.mk' (J8.out.dr d9); clear d9) | refine wpList_store_mid rfl 42 _ _ rfl w.heap.size 0 (sgC V0 V2 W4 W8 X V14).toArray rfl rfl J9.out.there info_hd (sgC_one _ _ _ _ _ _) ?_)
  refine ret_cell_tmp rfl w.heap.size 42 (sgC V0 V2 W4 W8 X V14) (0, 0) _ rfl (J9.out.done _ rfl).1 Tryz.underlying42 rfl info_hd rfl ?_
  rw [HM.out]
  exact ⟨rfl, by rw [← HM.out]; exact (J9.out.done _ rfl).2⟩

theorem numB_two (t : Int) (h0 : 0 ≤ t) (h1 : t ≤ 65535) : numB 2 t = [t / 256, t % 256] := by
  simp [numB]; omega

theorem numB_four (t : Int) (h0 : 0 ≤ t) (h1 : t ≤ 4294967295) : numB 4 t = [t / 65536 / 256, t / 65536 % 256, t % 65536 / 256, t % 65536 % 256] := by
  simp [numB]; omega

theorem Kept_block {w w' : World} {g : Nat} {o : Obj} {row : Option Nat} (h : w.heap[g]? = some o) (hg : w.grownBy w' row) (hne : row ≠ some g) : w'.heap[g]? = some o :=
  (hg.block g (Array.getElem?_eq_some_iff.1 h).1 (fun e => hne e.symm)).trans h

/-- What lies in memory while the document's Bytes goes on: the header's box, the row that is appended to. -/
structure RbJ (w : World) (L : List Value) (B : Nat) (v : Value) (k : Nat) (xs : List Int) (u : World) : Prop where
  box : u.heap[w.heap.size]? = some (.cells L.toArray 42 (0, 0))
  own : u.ownsRow B 5 1 v k (xs.map (Value.int .u8))
  old : Below w.heap.size w u
  sz : B ≤ u.heap.size
  lt : w.heap.size < B

theorem RbJ.below {w u u' : World} {L : List Value} {B : Nat} {v : Value} {k : Nat} {xs : List Int} (h : RbJ w L B v k xs u) (b : Below u.heap.size u u') : RbJ w L B v k xs u' :=
  ⟨(b.block _ (Array.getElem?_eq_some_iff.1 h.box).1).trans h.box, Kept.owns h.own (Kept.of_below (S := fun _ => False) b) (fun _ _ h => h), h.old.trans (b.mono h.old.size), Nat.le_trans h.sz b.size, h.lt⟩

theorem RbJ.app {w u u' : World} {L : List Value} {B : Nat} {v v' : Value} {k m : Nat} {xs ys : List Int} (h : RbJ w L B v k xs u) (o : u'.ownsRow B 5 1 v' (k + m) (xs.map (Value.int .u8) ++ ys.map (Value.int .u8))) (g : u.grownBy u' v.ownBlock) : RbJ w L B v' (k + m) (xs ++ ys) u' :=
  ⟨Kept_block h.box g (fun e => by have h1 := (h.own.lt _ e).1; have h2 := h.lt; omega), by rw [List.map_append]; exact o, h.old.grown g h.old.size (fun j hj => Nat.le_trans (Nat.le_of_lt h.lt) (h.own.lt j hj).1), Nat.le_trans h.sz g.size, h.lt⟩

/-- A row of the call's own that there is, as bytes that can be read. -/
theorem bs_row_g {w : World} {base g n c : Nat} {t : TypeId} {zs : List Int} (h : w.ownsRow base t 1 (.slice (some ⟨g, 0, none⟩) n c) n (zs.map (Value.int .u8))) (hb : Bytes zs) (hl : zs.length ≤ 140737488355328) : Bs w (some ⟨g, 0, none⟩) zs := by
  have hn : n = zs.length := by have := h.1; simpa using this.symm
  subst hn
  obtain ⟨a, c', e, hB, -⟩ := bs_own h hb hl
  cases e
  exact hB

set_option maxHeartbeats 1000000 in
theorem rjoin_any (a b : Option Addr) (c d n m : Nat) (xs ys : List Int) (w : World) (hn : xs.length = n) (hm : ys.length = m) (hx : Bs w a xs) (hy : Bs w b ys) (hl : n + m ≤ 140737488355328) :
    Calls Tryz.prog 174 #[.slice a n c, .slice b m d] w fun e w' => ∃ v, e = .returned v ∧ w'.ownsRow w.heap.size 5 1 v (n + m) ((xs ++ ys).map (Value.int .u8)) ∧ Below w.heap.size w w' := by
  have HX := Hid.mk' hx
  have HY := Hid.mk' hy
  have HN := Hid.mk' hn
  have HM := Hid.mk' hm
  clear hx hy hn hm
  have tok : True := trivial
  go_enter Tryz.func174, Tryz.ntmps174
  go_wp2_with (first | (at_builtin; have _t := tok; refine wpList_app_own rfl _ _ rfl w.heap.size (.slice none 0 0) 0 [] rfl (World.ownsRow_nil _ _ _ _) a c n xs rfl HN.out HX.out (by omega) (Nat.le_refl _) ?_; clear _t tok; intro v1 w1 hown hgrow hpl; have B1 : Hid (Below w.heap.size w w1) := ((Below.refl _ _).grown hgrow (Nat.le_refl _) (by intro k hk; simp [Value.ownBlock] at hk)); have O1 := Hid.mk' hown; clear hown hgrow hpl) | (at_builtin; refine wpList_app_own rfl _ _ rfl w.heap.size v1 (0 + n) _ rfl O1.out b d m ys rfl HM.out (HY.out.below B1.out) (by omega) B1.out.size ?_; intro v2 w2 hown hgrow hpl; have B2 : Hid (Below w.heap.size w w2) := (B1.out.grown hgrow B1.out.size (by intro k hk; exact (O1.out.lt k hk).1)); have O2 := Hid.mk' hown; clear hown hgrow hpl))
  go_ret
  exact ⟨_, rfl, by simpa using O2.out, B2.out⟩

theorem rcheck_any (L : List Value) (fl : Int) (w : World) (hL : L[4]? = some (.int .u8 fl)) : Calls Tryz.prog 59 #[.agg L.toArray] w fun e w' => e = .returned (.int .i64 (sgE fl)) ∧ Below w.heap.size w w' := by
  have hL' : L.toArray[4]? = some (.int .u8 fl) := by rw [List.getElem?_toArray]; exact hL
  unfold sgE
  by_cases h : fl ≤ 63
  · rw [if_pos h]
    have h' : ¬ 64 ≤ fl := by omega
    go_enter Tryz.func59, Tryz.ntmps59
    go_wp2_with fail
    go_ret
    exact ⟨rfl, (Below.refl _ _).alloc (Nat.le_refl _) _⟩
  · rw [if_neg h]
    have h' : 64 ≤ fl := by omega
    go_enter Tryz.func59, Tryz.ntmps59
    go_wp2_with fail
    go_ret
    exact ⟨rfl, (Below.refl _ _).alloc (Nat.le_refl _) _⟩

set_option maxHeartbeats 400000 in
theorem rbytes_bad (L : List Value) (fl : Int) (a : Option Addr) (n c : Nat) (w : World) (hlc : L.length = 6) (hL : L[4]? = some (.int .u8 fl)) (hf : ¬ fl ≤ 63) :
    Calls Tryz.prog 116 #[.agg L.toArray, .slice a n c] w fun e w' => e = .returned (.tuple #[.slice none 0 0, .int .i64 90]) ∧ Below w.heap.size w w' := by
  have hlc := Hid.mk' hlc
  have HCK : Hid (∀ u : World, Calls Tryz.prog 59 #[.agg L.toArray] u fun e w' => e = .returned (.int .i64 90) ∧ Below u.heap.size u w') := Hid.mk' (fun u => by
    have := rcheck_any L fl u hL
    unfold sgE at this
    rw [if_neg hf] at this
    exact this)
  clear hL hf
  obtain ⟨W1, hW1⟩ : ∃ W1, W1 = w.alloc (.cells L.toArray 42) := ⟨_, rfl⟩
  have R1 : Hid (W1.heap[w.heap.size]? = some (.cells L.toArray 42 (0, 0))) := by rw [hW1]; exact heap_alloc_new w _
  have B1 : Hid (Below w.heap.size w W1) := by rw [hW1]; exact (Below.refl _ _).alloc (Nat.le_refl _) _
  have HW := Hid.mk' hW1.symm
  clear hW1
  go_enter Tryz.func116, Tryz.ntmps116
  go_wp2_with (first | (go_at_call 59; rw [HW.out]; refine (HCK.out W1).mono ?_; rintro e w2 ⟨rfl, b2⟩; have B2 : Hid (Below w.heap.size w w2) := (B1.out.trans (b2.mono B1.out.size)); clear b2) | refine wpList_load_mid rfl 42 _ rfl w.heap.size 0 rfl L _ (by rw [HW.out]; exact range_block R1.out) Tryz.underlying42 rfl (by rw [hlc.out]; exact info_hd) ?_)
  go_ret2
  exact ⟨rfl, B2.out⟩

set_option maxHeartbeats 400000 in
theorem rbytes_no (L : List Value) (fl : Int) (a : Option Addr) (n c : Nat) (w : World) (hlc : L.length = 6) (hL : L[4]? = some (.int .u8 fl)) (hf : fl ≤ 63) (hn : ¬ n ≤ 2028) (hl : n ≤ 140737488355328) :
    Calls Tryz.prog 116 #[.agg L.toArray, .slice a n c] w fun e w' => e = .returned (.tuple #[.slice none 0 0, .int .i64 5]) ∧ Below w.heap.size w w' := by
  have hlc := Hid.mk' hlc
  have HCK : Hid (∀ u : World, Calls Tryz.prog 59 #[.agg L.toArray] u fun e w' => e = .returned (.int .i64 0) ∧ Below u.heap.size u w') := Hid.mk' (fun u => by
    have := rcheck_any L fl u hL
    unfold sgE at this
    rw [if_pos hf] at this
    exact this)
  clear hL hf
  obtain ⟨W1, hW1⟩ : ∃ W1, W1 = w.alloc (.cells L.toArray 42) := ⟨_, rfl⟩
  have R1 : Hid (W1.heap[w.heap.size]? = some (.cells L.toArray 42 (0, 0))) := by rw [hW1]; exact heap_alloc_new w _
  have B1 : Hid (Below w.heap.size w W1) := by rw [hW1]; exact (Below.refl _ _).alloc (Nat.le_refl _) _
  have HW := Hid.mk' hW1.symm
  clear hW1
  go_enter Tryz.func116, Tryz.ntmps116
  go_wp2_with (first | (go_at_call 59; rw [HW.out]; refine (HCK.out W1).mono ?_; rintro e w2 ⟨rfl, b2⟩; have B2 : Hid (Below w.heap.size w w2) := (B1.out.trans (b2.mono B1.out.size)); clear b2) | refine wpList_load_mid rfl 42 _ rfl w.heap.size 0 rfl L _ (by rw [HW.out]; exact range_block R1.out) Tryz.underlying42 rfl (by rw [hlc.out]; exact info_hd) ?_)
  go_ret2
  exact ⟨rfl, B2.out⟩

set_option maxHeartbeats 1000000 in
theorem rbytes_ok (sp dp sq ak fl wn : Int) (a : Option Addr) (n c : Nat) (ys : List Int) (w : World) (h : Sg sp dp sq ak fl wn) (hf : fl ≤ 63) (hn : n ≤ 2028) (hy : ys.length = n) (hY : Bs w a ys) :
    Calls Tryz.prog 116 #[.agg (sgC sp dp sq ak fl wn).toArray, .slice a n c] w fun e w' => ∃ v, e = .returned (.tuple #[v, .int .i64 0]) ∧ w'.ownsRow w.heap.size 5 1 v 20 ((sgB sp dp sq ak fl wn (sgF sp dp sq ak fl wn ys)).map (Value.int .u8)) ∧ Below w.heap.size w w' := by
  have hlc : Hid ((sgC sp dp sq ak fl wn).length = 6) := Hid.mk' rfl
  have HCK : Hid (∀ u : World, Calls Tryz.prog 59 #[.agg (sgC sp dp sq ak fl wn).toArray] u fun e w' => e = .returned (.int .i64 0) ∧ Below u.heap.size u w') := Hid.mk' (fun u => by
    have := rcheck_any (sgC sp dp sq ak fl wn) fl u rfl
    unfold sgE at this
    rw [if_pos hf] at this
    exact this)
  obtain ⟨L, HL⟩ : ∃ L, Hid (sgC sp dp sq ak fl wn = L) := ⟨_, rfl⟩
  rw [HL.out] at hlc HCK ⊢
  have CE : Hid (∀ w' : World, w'.heap[w.heap.size]? = some (.cells L.toArray 42 (0, 0)) → w'.cell? ⟨w.heap.size, 0, none⟩ = some (.int .u16 sp) ∧ w'.cell? ⟨w.heap.size, 1, none⟩ = some (.int .u16 dp) ∧ w'.cell? ⟨w.heap.size, 2, none⟩ = some (.int .u32 sq) ∧ w'.cell? ⟨w.heap.size, 3, none⟩ = some (.int .u32 ak) ∧ w'.cell? ⟨w.heap.size, 4, none⟩ = some (.int .u8 fl) ∧ w'.cell? ⟨w.heap.size, 5, none⟩ = some (.int .u16 wn)) := Hid.mk' (fun w' hh => by
    rw [← HL.out] at hh
    refine ⟨?_, ?_, ?_, ?_, ?_, ?_⟩ <;> exact cell_of_row w' _ _ _ _ _ hh)
  have hF := sgF_bd sp dp sq ak fl wn ys
  have HFE : Hid (65535 - su (sgB sp dp sq ak fl wn 0 ++ ys) (20 + n) = sgF sp dp sq ak fl wn ys) := Hid.mk' (by rw [← hy]; rfl)
  have HSB : Hid (Bytes (sgB sp dp sq ak fl wn 0)) := Hid.mk' (sgB_bytes h (by omega) (by omega))
  obtain ⟨F, HF⟩ : ∃ F, Hid (sgF sp dp sq ak fl wn ys = F) := ⟨_, rfl⟩
  rw [HF.out] at HFE hF ⊢
  obtain ⟨F0, F1⟩ := hF
  obtain ⟨s0, s1, d0, d1, q0, q1, a0, a1, l0, l1, w0, w1⟩ := h
  have h80 : Hid ((20480 + fl) / 256 = 80) := Hid.mk' (by omega)
  have hfl : Hid ((20480 + fl) % 256 = fl) := Hid.mk' (by omega)
  have Y0 : Hid (Bytes [0, 0, 0, 0]) := Hid.mk' (by intro z hz; simp at hz; omega)
  have HY := Hid.mk' hY
  have HN := Hid.mk' hy
  clear hY hy
  obtain ⟨W1, hW1⟩ : ∃ W1, W1 = w.alloc (.cells L.toArray 42) := ⟨_, rfl⟩
  have R1 : Hid (W1.heap[w.heap.size]? = some (.cells L.toArray 42 (0, 0))) := by rw [hW1]; exact heap_alloc_new w _
  have B1 : Hid (Below w.heap.size w W1) := by rw [hW1]; exact (Below.refl _ _).alloc (Nat.le_refl _) _
  have HW := Hid.mk' hW1.symm
  clear hW1
  go_enter Tryz.func116, Tryz.ntmps116
  go_wp2_with (first | (go_at_call 59; rw [HW.out]; refine (HCK.out W1).mono ?_; rintro e w2 ⟨rfl, b2⟩; have B2 : Hid (Below w.heap.size w w2) := (B1.out.trans (b2.mono B1.out.size)); have R2 : Hid (w2.heap[w.heap.size]? = some (.cells L.toArray 42 (0, 0))) := ((b2.block _ (Array.getElem?_eq_some_iff.1 R1.out).1).trans R1.out); obtain ⟨e0, e1, e2, e3, e4, e5⟩ := CE.out _ R2.out; clear b2) | refine wpList_load_mid rfl 42 _ rfl w.heap.size 0 rfl L _ (by rw [HW.out]; exact range_block R1.out) Tryz.underlying42 rfl (by rw [hlc.out]; exact info_hd) ?_)
  have J2 : Hid (RbJ w L w2.heap.size (.slice none 0 0) 0 [] w2) := Hid.mk' ⟨R2.out, World.ownsRow_nil _ _ _ _, B2.out, Nat.le_refl _, (Array.getElem?_eq_some_iff.1 R2.out).1⟩
  clear R2 B2 R1 B1 HW
  refine (number_any sp 2 w2 (by omega) (by omega) (by omega)).mono ?_
  rintro e w3 ⟨u3, rfl, hown, b3⟩
  obtain ⟨a3, c3, rfl, s3, -⟩ := bs_own (by rw [numB_length]; exact hown) (numB_bytes 2 sp) (by rw [numB_length]; omega)
  rw [numB_length] at *
  have S3 := Hid.mk' s3
  have J3 := Hid.mk' (J2.out.below b3)
  clear hown b3 s3 J2 e0 e1 e2 e3 e4 e5
  go_wp2_with (at_builtin; refine wpList_app_own rfl _ _ rfl w2.heap.size (.slice none 0 0) (0) _ rfl J3.out.own a3 c3 2 (numB 2 sp) rfl (numB_length 2 _) S3.out (by omega) J3.out.sz ?_; intro v4 w4 hown hgrow hpl; have J4 := Hid.mk' (J3.out.app hown hgrow); obtain ⟨e0, e1, e2, e3, e4, e5⟩ := CE.out _ J4.out.box; clear hown hgrow hpl)
  clear J3 S3
  refine (number_any dp 2 w4 (by omega) (by omega) (by omega)).mono ?_
  rintro e w5 ⟨u5, rfl, hown, b5⟩
  obtain ⟨a5, c5, rfl, s5, -⟩ := bs_own (by rw [numB_length]; exact hown) (numB_bytes 2 dp) (by rw [numB_length]; omega)
  rw [numB_length] at *
  have S5 := Hid.mk' s5
  have J5 := Hid.mk' (J4.out.below b5)
  clear hown b5 s5 J4 e0 e1 e2 e3 e4 e5
  go_wp2_with (at_builtin; refine wpList_app_own rfl _ _ rfl w2.heap.size v4 (0 + 2) _ rfl J5.out.own a5 c5 2 (numB 2 dp) rfl (numB_length 2 _) S5.out (by omega) J5.out.sz ?_; intro v6 w6 hown hgrow hpl; have J6 := Hid.mk' (J5.out.app hown hgrow); obtain ⟨e0, e1, e2, e3, e4, e5⟩ := CE.out _ J6.out.box; clear hown hgrow hpl)
  clear J5 S5
  refine (number_any sq 4 w6 (by omega) (by omega) (by omega)).mono ?_
  rintro e w7 ⟨u7, rfl, hown, b7⟩
  obtain ⟨a7, c7, rfl, s7, -⟩ := bs_own (by rw [numB_length]; exact hown) (numB_bytes 4 sq) (by rw [numB_length]; omega)
  rw [numB_length] at *
  have S7 := Hid.mk' s7
  have J7 := Hid.mk' (J6.out.below b7)
  clear hown b7 s7 J6 e0 e1 e2 e3 e4 e5
  go_wp2_with (at_builtin; refine wpList_app_own rfl _ _ rfl w2.heap.size v6 (0 + 2 + 2) _ rfl J7.out.own a7 c7 4 (numB 4 sq) rfl (numB_length 4 _) S7.out (by omega) J7.out.sz ?_; intro v8 w8 hown hgrow hpl; have J8 := Hid.mk' (J7.out.app hown hgrow); obtain ⟨e0, e1, e2, e3, e4, e5⟩ := CE.out _ J8.out.box; clear hown hgrow hpl)
  clear J7 S7
  refine (number_any ak 4 w8 (by omega) (by omega) (by omega)).mono ?_
  rintro e w9 ⟨u9, rfl, hown, b9⟩
  obtain ⟨a9, c9, rfl, s9, -⟩ := bs_own (by rw [numB_length]; exact hown) (numB_bytes 4 ak) (by rw [numB_length]; omega)
  rw [numB_length] at *
  have S9 := Hid.mk' s9
  have J9 := Hid.mk' (J8.out.below b9)
  clear hown b9 s9 J8 e0 e1 e2 e3 e4 e5
  go_wp2_with (at_builtin; refine wpList_app_own rfl _ _ rfl w2.heap.size v8 (0 + 2 + 2 + 4) _ rfl J9.out.own a9 c9 4 (numB 4 ak) rfl (numB_length 4 _) S9.out (by omega) J9.out.sz ?_; intro v10 w10 hown hgrow hpl; have J10 := Hid.mk' (J9.out.app hown hgrow); obtain ⟨e0, e1, e2, e3, e4, e5⟩ := CE.out _ J10.out.box; clear hown hgrow hpl)
  clear J9 S9
  refine (number_any (20480 + fl) 2 w10 (by omega) (by omega) (by omega)).mono ?_
  rintro e w11 ⟨u11, rfl, hown, b11⟩
  obtain ⟨a11, c11, rfl, s11, -⟩ := bs_own (by rw [numB_length]; exact hown) (numB_bytes 2 (20480 + fl)) (by rw [numB_length]; omega)
  rw [numB_length] at *
  have S11 := Hid.mk' s11
  have J11 := Hid.mk' (J10.out.below b11)
  clear hown b11 s11 J10 e0 e1 e2 e3 e4 e5
  go_wp2_with (at_builtin; refine wpList_app_own rfl _ _ rfl w2.heap.size v10 (0 + 2 + 2 + 4 + 4) _ rfl J11.out.own a11 c11 2 (numB 2 (20480 + fl)) rfl (numB_length 2 _) S11.out (by omega) J11.out.sz ?_; intro v12 w12 hown hgrow hpl; have J12 := Hid.mk' (J11.out.app hown hgrow); obtain ⟨e0, e1, e2, e3, e4, e5⟩ := CE.out _ J12.out.box; clear hown hgrow hpl)
  clear J11 S11
  refine (number_any wn 2 w12 (by omega) (by omega) (by omega)).mono ?_
  rintro e w13 ⟨u13, rfl, hown, b13⟩
  obtain ⟨a13, c13, rfl, s13, -⟩ := bs_own (by rw [numB_length]; exact hown) (numB_bytes 2 wn) (by rw [numB_length]; omega)
  rw [numB_length] at *
  have S13 := Hid.mk' s13
  have J13 := Hid.mk' (J12.out.below b13)
  clear hown b13 s13 J12 e0 e1 e2 e3 e4 e5
  go_wp2_with (first | (at_builtin; refine wpList_app_own rfl _ _ rfl w2.heap.size v12 (0 + 2 + 2 + 4 + 4 + 2) _ rfl J13.out.own a13 c13 2 (numB 2 wn) rfl (numB_length 2 _) S13.out (by omega) J13.out.sz ?_; intro v14 w14 hown hgrow hpl; have J14 := Hid.mk' (J13.out.app hown hgrow); obtain ⟨e0, e1, e2, e3, e4, e5⟩ := CE.out _ J14.out.box; clear hown hgrow hpl) | (at_builtin; have J14' := Hid.mk' (J14.out.below ((Below.refl w14.heap.size w14).alloc (Nat.le_refl _) (.cells ([0, 0, 0, 0].map (Value.int .u8)).toArray 5))); refine wpList_app_own rfl _ _ rfl w2.heap.size v14 (0 + 2 + 2 + 4 + 4 + 2 + 2) _ rfl J14'.out.own (some ⟨w14.heap.size, 0, none⟩) 4 4 [0, 0, 0, 0] rfl rfl (bs_new w14 [0, 0, 0, 0] 5 Y0.out (by simp)) (by omega) J14'.out.sz ?_; intro v15 w15 hown hgrow hpl; have J15 := Hid.mk' (J14'.out.app hown hgrow); clear hown hgrow hpl))
  clear J13 S13 J14 J14' e0 e1 e2 e3 e4 e5
  have EB : Hid ([] ++ numB 2 sp ++ numB 2 dp ++ numB 4 sq ++ numB 4 ak ++ numB 2 (20480 + fl) ++ numB 2 wn ++ [0, 0, 0, 0] = sgB sp dp sq ak fl wn 0) := Hid.mk' (by
    rw [numB_two sp s0 s1, numB_two dp d0 d1, numB_four sq q0 q1, numB_four ak a0 a1, numB_two (20480 + fl) (by omega) (by omega), numB_two wn w0 w1, h80.out, hfl.out]; rfl)
  rw [EB.out] at J15
  have K0 : Hid (RbJ w L w2.heap.size v15 20 (sgB sp dp sq ak fl wn 0) w15) := J15
  clear J15
  obtain ⟨g, cg, rfl, hcg⟩ := own_some K0.out.own (by omega)
  have hgl := (K0.out.own.lt g rfl).1
  have S0 : Hid (Bs w15 (some ⟨g, 0, none⟩) (sgB sp dp sq ak fl wn 0)) := Hid.mk' (bs_row_g K0.out.own HSB.out (by rw [sgB_length]; omega))
  refine (rjoin_any (some ⟨g, 0, none⟩) a cg c 20 n (sgB sp dp sq ak fl wn 0) ys w15 rfl HN.out S0.out (HY.out.below K0.out.old) (by omega)).mono ?_
  rintro e u1 ⟨v1, rfl, hown, b1⟩
  have hjl : (sgB sp dp sq ak fl wn 0 ++ ys).length = 20 + n := by rw [List.length_append, HN.out]; rfl
  obtain ⟨a1', c1', rfl, s1', -⟩ := bs_own (by rw [hjl]; exact hown) (bytes_append HSB.out HY.out.bytes) (by rw [hjl]; omega)
  rw [hjl]
  have S1 := Hid.mk' s1'
  have K1 := Hid.mk' (K0.out.below b1)
  have HJL := Hid.mk' hjl
  clear hown b1 s1' S0 K0 hjl
  go_wp2_with fail
  have key := reffield_any a1' c1' (sgB sp dp sq ak fl wn 0 ++ ys) u1 S1.out
  rw [HJL.out, HFE.out] at key
  have O0 := Hid.mk' K1.out.own
  have O1 := Hid.mk' (O0.out.stored 16 (.int .u8 (F / 256))).1
  have O2 := Hid.mk' (O1.out.stored 17 (.int .u8 (F % 256))).1
  have d16 : u1.cell? ⟨g, 16, none⟩ = some (.int .u8 0) := by rw [O0.out.cellAt 16 (by omega)]; rfl
  have d17 : u1.cell? ⟨g, 17, none⟩ = some (.int .u8 0) := by rw [O0.out.cellAt 17 (by omega)]; rfl
  have f16 := O0.out.frozenAt 16
  have f17 := O0.out.frozenAt 17
  have HGL := Hid.mk' (Nat.le_trans (Nat.le_of_lt K1.out.lt) hgl)
  have B12 : Hid (Below w.heap.size w ((u1.setCell ⟨g, 16, none⟩ (.int .u8 (F / 256))).setCell ⟨g, 17, none⟩ (.int .u8 (F % 256)))) := Hid.mk' ((K1.out.old.setCell (p := ⟨g, 16, none⟩) HGL.out _).setCell (p := ⟨g, 17, none⟩) HGL.out _)
  have HE : Hid ((((sgB sp dp sq ak fl wn 0).map (Value.int .u8)).set 16 (.int .u8 (F / 256))).set 17 (.int .u8 (F % 256)) = (sgB sp dp sq ak fl wn F).map (Value.int .u8)) := Hid.mk' rfl
  have HO := Hid.mk' (ownsRow_base O2.out (Nat.le_of_lt K1.out.lt))
  rw [HE.out] at HO
  clear hgl hcg O1 O2
  refine key.mono ?_
  rintro e w13 ⟨rfl, rfl⟩
  go_wp2_with fail
  go_ret2
  exact ⟨_, rfl, HO.out, B12.out⟩

set_option maxHeartbeats 400000 in
theorem rread_short (a : Option Addr) (n c : Nat) (w : World) (hn : n < 20) :
    Calls Tryz.prog 123 #[.slice a n c] w fun e w' => e = .returned (.tuple #[.agg hd0.toArray, .int .i64 6]) ∧ Below w.heap.size w w' := by
  go_enter Tryz.func123, Tryz.ntmps123
  go_wp2_with fail
  refine ret_cell_tmp rfl w.heap.size 42 hd0 (0, 0) _ rfl (heap_alloc2_old w _ _) Tryz.underlying42 rfl info_hd rfl ?_
  exact ⟨rfl, ((Below.refl _ _).alloc (Nat.le_refl _) _).alloc (by simp) _⟩

theorem rdQ_iff {zs : List Int} (h : Bytes zs) : rdQ zs ↔ (zs.getD 12 0 = 80 ∧ zs.getD 13 0 ≤ 63) ∧ zs.getD 18 0 = 0 ∧ zs.getD 19 0 = 0 := by
  have h0 := h.getD 12
  have h1 := h.getD 13
  have h2 := h.getD 18
  have h3 := h.getD 19
  unfold rdQ rdV
  simp only [Nat.reduceAdd]
  omega

theorem valV_4 (zs : List Int) (k : Nat) : valV zs k 4 = rdW zs k := by
  show (((0 * 256 + zs.getD k 0) * 256 + zs.getD (k + 1) 0) * 256 + zs.getD (k + 2) 0) * 256 + zs.getD (k + 3) 0 = (zs.getD k 0 * 256 + zs.getD (k + 1) 0) * 65536 + (zs.getD (k + 2) 0 * 256 + zs.getD (k + 3) 0)
  omega

set_option maxHeartbeats 1000000 in
theorem rread_bad (b off : Nat) (n c : Nat) (zs : List Int) (w : World) (hz : zs.length = n) (hB : Bs w (some ⟨b, off, none⟩) zs) (hn : 20 ≤ n) (hq : ¬ rdQ zs) :
    Calls Tryz.prog 123 #[.slice (some ⟨b, off, none⟩) n c] w fun e w' => e = .returned (.tuple #[.agg hd0.toArray, .int .i64 90]) ∧ Below w.heap.size w w' := by
  have hln : n ≤ 140737488355328 := by rw [← hz]; exact hB.len
  have CE : Hid (∀ u, Below w.heap.size w u → ∀ k, k < n → u.cell? ⟨b, off + k, none⟩ = some (.int .u8 (zs.getD k 0))) := Hid.mk' (fun u h k hk => by
    rcases (hB.below h).lies with h0 | ⟨b', off', e, hc⟩
    · omega
    · cases e; exact hc k (by omega))
  have c12 := CE.out w (Below.refl _ _) 12 (by omega)
  have c13 := CE.out w (Below.refl _ _) 13 (by omega)
  have c18 := CE.out w (Below.refl _ _) 18 (by omega)
  have c19 := CE.out w (Below.refl _ _) 19 (by omega)
  have hlt := lt_of_cell c12
  have hlt' : b < w.heap.size := hlt
  have hne : ¬ b = w.heap.size := by omega
  have hne1 : ¬ b = w.heap.size + 1 := by omega
  have k12 : (12 : Int) < (n : Int) := by omega
  have k13 : (13 : Int) < (n : Int) := by omega
  have k18 : (18 : Int) < (n : Int) := by omega
  have k19 : (19 : Int) < (n : Int) := by omega
  have B2 : Hid (Below w.heap.size w ((w.alloc (.cells hd0.toArray 42)).alloc (.cells hd0.toArray 42))) := ((Below.refl _ _).alloc (Nat.le_refl _) _).alloc (by simp) _
  rw [rdQ_iff hB.bytes] at hq
  have z13 := hB.bytes.getD 13
  clear hB hz hlt CE
  generalize zs.getD 12 0 = x at *
  generalize zs.getD 13 0 = y at *
  generalize zs.getD 18 0 = z at *
  generalize zs.getD 19 0 = t at *
  by_cases hx : x = 80
  · subst hx
    by_cases hy : 64 ≤ y
    · have hyd : decide (64 ≤ y) = true := by simpa using hy
      go_enter Tryz.func123, Tryz.ntmps123
      go_wp2_with fail
      refine ret_cell_tmp rfl w.heap.size 42 hd0 (0, 0) _ rfl (heap_alloc2_old w _ _) Tryz.underlying42 rfl info_hd rfl ?_
      exact ⟨rfl, B2.out⟩
    · have hyd : decide (64 ≤ y) = false := by simpa using hy
      by_cases h18 : z = 0
      · subst h18
        have h19 : ¬ t = 0 := fun e => hq ⟨⟨rfl, by omega⟩, rfl, e⟩
        have h19b : (t != 0) = true := by simpa using h19
        go_enter Tryz.func123, Tryz.ntmps123
        go_wp2_with fail
        refine ret_cell_tmp rfl w.heap.size 42 hd0 (0, 0) _ rfl (heap_alloc2_old w _ _) Tryz.underlying42 rfl info_hd rfl ?_
        exact ⟨rfl, B2.out⟩
      · have h18b : (z != 0) = true := by simpa using h18
        go_enter Tryz.func123, Tryz.ntmps123
        go_wp2_with fail
        refine ret_cell_tmp rfl w.heap.size 42 hd0 (0, 0) _ rfl (heap_alloc2_old w _ _) Tryz.underlying42 rfl info_hd rfl ?_
        exact ⟨rfl, B2.out⟩
  · have hxb : (x != 80) = true := by simpa using hx
    go_enter Tryz.func123, Tryz.ntmps123
    go_wp2_with fail
    refine ret_cell_tmp rfl w.heap.size 42 hd0 (0, 0) _ rfl (heap_alloc2_old w _ _) Tryz.underlying42 rfl info_hd rfl ?_
    exact ⟨rfl, B2.out⟩

/-- What holds where the document's Read has only looked: the box of its result and the one of none. -/
structure RrJ (w u : World) : Prop where
  box : u.heap[w.heap.size]? = some (.cells hd0.toArray 42 (0, 0))
  non : u.heap[w.heap.size + 1]? = some (.cells hd0.toArray 42 (0, 0))
  old : Below w.heap.size w u

theorem RrJ.first (w : World) : RrJ w ((w.alloc (.cells hd0.toArray 42)).alloc (.cells hd0.toArray 42)) :=
  ⟨heap_alloc2_old w _ _, heap_alloc2_new w _ _, ((Below.refl _ _).alloc (Nat.le_refl _) _).alloc (by simp) _⟩

theorem RrJ.below {w u v : World} (h : RrJ w u) (b : Below u.heap.size u v) : RrJ w v :=
  ⟨(b.block _ (Array.getElem?_eq_some_iff.1 h.box).1).trans h.box, (b.block _ (Array.getElem?_eq_some_iff.1 h.non).1).trans h.non, h.old.trans (b.mono h.old.size)⟩

theorem RrJ.set {w u : World} (h : RrJ w u) {p : Addr} (hp : w.heap.size + 2 ≤ p.block) (x : Value) : RrJ w (u.setCell p x) :=
  ⟨by rw [Go.heap_setCell_other _ _ _ _ (by omega)]; exact h.box, by rw [Go.heap_setCell_other _ _ _ _ (by omega)]; exact h.non, h.old.setCell (p := p) (by omega) _⟩

theorem RrJ.there {w u : World} (h : RrJ w u) : u.there w.heap.size 0 hd0.toArray.size := there_block h.box

theorem RrJ.done {w u : World} (h : RrJ w u) (M : List Value) (hl : M.length = 6) : (u.setCells w.heap.size 0 M).heap[w.heap.size]? = some (.cells M.toArray 42 (0, 0)) ∧ Below w.heap.size w (u.setCells w.heap.size 0 M) :=
  ⟨heap_whole (L := hd0) h.box (by rw [hl]; rfl), h.old.trans (((Kept.refl (fun k => k = w.heap.size) u).setCells w.heap.size 0 M (fun _ => rfl)).below h.old.size (fun k hk => by omega))⟩

theorem RrJ.size {w u : World} (h : RrJ w u) : w.heap.size + 2 ≤ u.heap.size := (Array.getElem?_eq_some_iff.1 h.non).1

set_option maxHeartbeats 1000000 in
theorem rread_sum (b off : Nat) (n c : Nat) (zs : List Int) (w : World) (hz : zs.length = n) (hB : Bs w (some ⟨b, off, none⟩) zs) (hn : 20 ≤ n) (hq : rdQ zs) (hf : ¬ rdV zs 16 = rdF zs) :
    Calls Tryz.prog 123 #[.slice (some ⟨b, off, none⟩) n c] w fun e w' => e = .returned (.tuple #[.agg hd0.toArray, .int .i64 110]) ∧ Below w.heap.size w w' := by
  have hln : n ≤ 140737488355328 := by rw [← hz]; exact hB.len
  have KV : Hid (∀ (u : World) (k : Nat), Below w.heap.size w u → k + 2 ≤ n → Calls Tryz.prog 183 #[.slice (some ⟨b, off, none⟩) n c, .int .i64 k, .int .i64 2] u fun e u' => e = .returned (.int .i64 (rdV zs k)) ∧ u = u') := Hid.mk' (fun u k h hk => by
    have h0 := value_any b off n c k 2 zs u hz (hB.below h) (by omega) hk
    rw [show valV zs k 2 = rdV zs k by simp [valV, rdV]] at h0
    exact h0)
  have CE : Hid (∀ u, Below w.heap.size w u → ∀ k, k < n → u.cell? ⟨b, off + k, none⟩ = some (.int .u8 (zs.getD k 0))) := Hid.mk' (fun u h k hk => by
    rcases (hB.below h).lies with h0 | ⟨b', off', e, hc⟩
    · omega
    · cases e; exact hc k (by omega))
  have c12 := CE.out w (Below.refl _ _) 12 (by omega)
  have c13 := CE.out w (Below.refl _ _) 13 (by omega)
  have c18 := CE.out w (Below.refl _ _) 18 (by omega)
  have c19 := CE.out w (Below.refl _ _) 19 (by omega)
  have hlt := lt_of_cell c12
  have hlt' : b < w.heap.size := hlt
  have hne : ¬ b = w.heap.size := by omega
  have hne1 : ¬ b = w.heap.size + 1 := by omega
  have k12 : (12 : Int) < (n : Int) := by omega
  have k13 : (13 : Int) < (n : Int) := by omega
  have k18 : (18 : Int) < (n : Int) := by omega
  have k19 : (19 : Int) < (n : Int) := by omega
  obtain ⟨⟨q12, q13⟩, q18, q19⟩ := (rdQ_iff hB.bytes).1 hq
  rw [q12] at c12
  rw [q18] at c18
  rw [q19] at c19
  have z13 := hB.bytes.getD 13
  have HB := Hid.mk' hB
  have HN := Hid.mk' hz
  have hF : 0 ≤ rdF zs ∧ rdF zs ≤ 65535 := by
    have := su_range (zf zs) zs.length
    unfold rdF; omega
  have HZB : Hid (Bytes (zf zs)) := Hid.mk' (zf_bytes hB.bytes)
  have HZL : Hid ((zf zs).length = n) := Hid.mk' (by rw [zf_length, hz])
  have HFE : Hid (65535 - su (zf zs) n = rdF zs) := Hid.mk' (by unfold rdF; rw [hz])
  clear hB hz hlt q12 q18 q19 hq
  obtain ⟨Y, HY13⟩ : ∃ Y, Hid (zs.getD 13 0 = Y) := ⟨_, rfl⟩
  rw [HY13.out] at c13 q13 z13
  have hy : ¬ 64 ≤ Y := by omega
  have hyd : decide (64 ≤ Y) = false := by simpa using hy
  obtain ⟨F, HF⟩ : ∃ F, Hid (rdF zs = F) := ⟨_, rfl⟩
  rw [HF.out] at hf hF HFE
  obtain ⟨f0, f1⟩ := hF
  obtain ⟨V16, H16⟩ : ∃ V, Hid (rdV zs 16 = V) := ⟨_, rfl⟩
  rw [H16.out] at hf
  have hfb : (V16 != F) = true := by simpa using hf
  have k16 : (16 : Int) < (n : Int) := by omega
  have k17 : (17 : Int) < (n : Int) := by omega
  go_enter Tryz.func123, Tryz.ntmps123
  go_wp2_with fail
  obtain ⟨W2, hW2⟩ : ∃ W2, W2 = (w.alloc (.cells #[.int .u16 0, .int .u16 0, .int .u32 0, .int .u32 0, .int .u8 0, .int .u16 0] 42)).alloc (.cells #[.int .u16 0, .int .u16 0, .int .u32 0, .int .u32 0, .int .u8 0, .int .u16 0] 42) := ⟨_, rfl⟩
  rw [← hW2]
  have J2 : Hid (RrJ w W2) := Hid.mk' (by rw [hW2]; exact RrJ.first w)
  clear hW2 c12 c13 c18 c19 hne hne1
  refine (copy_at (some ⟨b, off, none⟩) n c zs W2 HN.out (HB.out.below J2.out.old) (fun e => by cases e)).mono ?_
  rintro e w3 ⟨v3, rfl, hown, b3⟩
  obtain ⟨g, cg, rfl, hcg⟩ := own_some hown (by omega)
  have J3 := Hid.mk' (J2.out.below b3)
  have hg2 : w.heap.size + 2 ≤ g := Nat.le_trans J2.out.size (hown.lt g rfl).1
  obtain ⟨u16, d16⟩ : ∃ u, w3.cell? ⟨g, 16, none⟩ = some u := ⟨_, by rw [hown.cellAt 16 (by omega), List.getElem?_eq_getElem (by rw [List.length_map, HN.out]; omega)]⟩
  obtain ⟨u17, d17⟩ : ∃ u, w3.cell? ⟨g, 17, none⟩ = some u := ⟨_, by rw [hown.cellAt 17 (by omega), List.getElem?_eq_getElem (by rw [List.length_map, HN.out]; omega)]⟩
  have f16 := hown.frozenAt 16
  have f17 := hown.frozenAt 17
  have O5 := Hid.mk' (((hown.stored 16 (.int .u8 0)).1).stored 17 (.int .u8 0)).1
  rw [← List.map_set, ← List.map_set] at O5
  have J5 : Hid (RrJ w ((w3.setCell ⟨g, 16, none⟩ (.int .u8 0)).setCell ⟨g, 17, none⟩ (.int .u8 0))) := Hid.mk' ((J3.out.set (p := ⟨g, 16, none⟩) hg2 _).set (p := ⟨g, 17, none⟩) hg2 _)
  clear hown b3 hcg hg2 J2 J3
  go_wp2_with fail
  clear d16 d17 f16 f17
  generalize (w3.setCell ⟨g, 16, none⟩ (.int .u8 0)).setCell ⟨g, 17, none⟩ (.int .u8 0) = w5 at *
  refine (KV.out w5 16 J5.out.old (by omega)).mono ?_
  rw [H16.out]
  rintro e w6 ⟨rfl, rfl⟩
  go_wp2_with fail
  have key := reffield_any (some ⟨g, 0, none⟩) cg (zf zs) w5 (bs_row_g (n := n) O5.out HZB.out (by rw [HZL.out]; exact hln))
  rw [HZL.out, HFE.out] at key
  refine (keep_name key).mono ?_
  rintro e w6 ⟨rfl, rfl⟩
  clear key
  go_wp2_with (first | refine wpList_store_mid rfl 42 _ _ rfl w.heap.size 0 hd0.toArray rfl rfl J5.out.there info_hd hd0_one ?_ | refine wpList_load_mid rfl 42 _ rfl (w.heap.size + 1) 0 rfl hd0 _ (range_block J5.out.non) Tryz.underlying42 rfl info_hd ?_)
  refine ret_cell_tmp rfl w.heap.size 42 hd0 (0, 0) _ rfl (J5.out.done hd0 rfl).1 Tryz.underlying42 rfl info_hd rfl ?_
  exact ⟨rfl, (J5.out.done hd0 rfl).2⟩

set_option maxHeartbeats 1000000 in
theorem rread_ok (b off : Nat) (n c : Nat) (zs : List Int) (w : World) (hz : zs.length = n) (hB : Bs w (some ⟨b, off, none⟩) zs) (hn : 20 ≤ n) (hq : rdQ zs) (hf : rdV zs 16 = rdF zs) :
    Calls Tryz.prog 123 #[.slice (some ⟨b, off, none⟩) n c] w fun e w' => e = .returned (.tuple #[.agg (rdC zs).toArray, .int .i64 0]) ∧ Below w.heap.size w w' := by
  have hln : n ≤ 140737488355328 := by rw [← hz]; exact hB.len
  have KV : Hid (∀ (u : World) (k : Nat), Below w.heap.size w u → k + 2 ≤ n → Calls Tryz.prog 183 #[.slice (some ⟨b, off, none⟩) n c, .int .i64 k, .int .i64 2] u fun e u' => e = .returned (.int .i64 (rdV zs k)) ∧ u = u') := Hid.mk' (fun u k h hk => by
    have h0 := value_any b off n c k 2 zs u hz (hB.below h) (by omega) hk
    rw [show valV zs k 2 = rdV zs k by simp [valV, rdV]] at h0
    exact h0)
  have KW : Hid (∀ (u : World) (k : Nat), Below w.heap.size w u → k + 4 ≤ n → Calls Tryz.prog 183 #[.slice (some ⟨b, off, none⟩) n c, .int .i64 k, .int .i64 4] u fun e u' => e = .returned (.int .i64 (rdW zs k)) ∧ u = u') := Hid.mk' (fun u k h hk => by
    have h0 := value_any b off n c k 4 zs u hz (hB.below h) (by omega) hk
    rw [valV_4] at h0
    exact h0)
  have CE : Hid (∀ u, Below w.heap.size w u → ∀ k, k < n → u.cell? ⟨b, off + k, none⟩ = some (.int .u8 (zs.getD k 0))) := Hid.mk' (fun u h k hk => by
    rcases (hB.below h).lies with h0 | ⟨b', off', e, hc⟩
    · omega
    · cases e; exact hc k (by omega))
  have c12 := CE.out w (Below.refl _ _) 12 (by omega)
  have c13 := CE.out w (Below.refl _ _) 13 (by omega)
  have c18 := CE.out w (Below.refl _ _) 18 (by omega)
  have c19 := CE.out w (Below.refl _ _) 19 (by omega)
  have hlt := lt_of_cell c12
  have hlt' : b < w.heap.size := hlt
  have hne : ¬ b = w.heap.size := by omega
  have hne1 : ¬ b = w.heap.size + 1 := by omega
  have k12 : (12 : Int) < (n : Int) := by omega
  have k13 : (13 : Int) < (n : Int) := by omega
  have k18 : (18 : Int) < (n : Int) := by omega
  have k19 : (19 : Int) < (n : Int) := by omega
  obtain ⟨⟨q12, q13⟩, q18, q19⟩ := (rdQ_iff hB.bytes).1 hq
  rw [q12] at c12
  rw [q18] at c18
  rw [q19] at c19
  have z13 := hB.bytes.getD 13
  have HB := Hid.mk' hB
  have HN := Hid.mk' hz
  have hF : 0 ≤ rdF zs ∧ rdF zs ≤ 65535 := by
    have := su_range (zf zs) zs.length
    unfold rdF; omega
  have HZB : Hid (Bytes (zf zs)) := Hid.mk' (zf_bytes hB.bytes)
  have HZL : Hid ((zf zs).length = n) := Hid.mk' (by rw [zf_length, hz])
  have HFE : Hid (65535 - su (zf zs) n = rdF zs) := Hid.mk' (by unfold rdF; rw [hz])
  have v0 := rdV_bd hB.bytes 0
  have v2 := rdV_bd hB.bytes 2
  have v4 := rdW_bd hB.bytes 4
  have v8 := rdW_bd hB.bytes 8
  have v14 := rdV_bd hB.bytes 14
  have HRE : Hid (rdC zs = sgC (rdV zs 0) (rdV zs 2) (rdW zs 4) (rdW zs 8) (zs.getD 13 0) (rdV zs 14)) := Hid.mk' (by
    unfold rdC
    rw [show rdV zs 12 - 20480 = zs.getD 13 0 by show zs.getD 12 0 * 256 + zs.getD 13 0 - 20480 = _; omega])
  clear hB hz hlt q12 q18 q19 hq
  obtain ⟨Y, HY13⟩ : ∃ Y, Hid (zs.getD 13 0 = Y) := ⟨_, rfl⟩
  rw [HY13.out] at c13 q13 z13
  have hy : ¬ 64 ≤ Y := by omega
  have hyd : decide (64 ≤ Y) = false := by simpa using hy
  obtain ⟨F, HF⟩ : ∃ F, Hid (rdF zs = F) := ⟨_, rfl⟩
  rw [HF.out] at hf hF HFE
  obtain ⟨f0, f1⟩ := hF
  have H16 := Hid.mk' hf
  clear hf
  have hfb : (F != F) = false := by simp
  rw [HRE.out]
  rw [HY13.out] at HRE ⊢
  obtain ⟨V0, H0⟩ : ∃ V, Hid (rdV zs 0 = V) := ⟨_, rfl⟩
  obtain ⟨V2, H2⟩ : ∃ V, Hid (rdV zs 2 = V) := ⟨_, rfl⟩
  obtain ⟨W4, H4⟩ : ∃ V, Hid (rdW zs 4 = V) := ⟨_, rfl⟩
  obtain ⟨W8, H8⟩ : ∃ V, Hid (rdW zs 8 = V) := ⟨_, rfl⟩
  obtain ⟨V14, H14⟩ : ∃ V, Hid (rdV zs 14 = V) := ⟨_, rfl⟩
  rw [H0.out] at v0 ⊢
  rw [H2.out] at v2 ⊢
  rw [H4.out] at v4 ⊢
  rw [H8.out] at v8 ⊢
  rw [H14.out] at v14 ⊢
  clear HRE
  have k16 : (16 : Int) < (n : Int) := by omega
  have k17 : (17 : Int) < (n : Int) := by omega
  go_enter Tryz.func123, Tryz.ntmps123
  go_wp2_with fail
  obtain ⟨W2, hW2⟩ : ∃ W2, W2 = (w.alloc (.cells #[.int .u16 0, .int .u16 0, .int .u32 0, .int .u32 0, .int .u8 0, .int .u16 0] 42)).alloc (.cells #[.int .u16 0, .int .u16 0, .int .u32 0, .int .u32 0, .int .u8 0, .int .u16 0] 42) := ⟨_, rfl⟩
  rw [← hW2]
  have J2 : Hid (RrJ w W2) := Hid.mk' (by rw [hW2]; exact RrJ.first w)
  clear hW2 c12 c13 c18 c19 hne hne1
  refine (copy_at (some ⟨b, off, none⟩) n c zs W2 HN.out (HB.out.below J2.out.old) (fun e => by cases e)).mono ?_
  rintro e w3 ⟨v3, rfl, hown, b3⟩
  obtain ⟨g, cg, rfl, hcg⟩ := own_some hown (by omega)
  have J3 := Hid.mk' (J2.out.below b3)
  have hg2 : w.heap.size + 2 ≤ g := Nat.le_trans J2.out.size (hown.lt g rfl).1
  obtain ⟨u16, d16⟩ : ∃ u, w3.cell? ⟨g, 16, none⟩ = some u := ⟨_, by rw [hown.cellAt 16 (by omega), List.getElem?_eq_getElem (by rw [List.length_map, HN.out]; omega)]⟩
  obtain ⟨u17, d17⟩ : ∃ u, w3.cell? ⟨g, 17, none⟩ = some u := ⟨_, by rw [hown.cellAt 17 (by omega), List.getElem?_eq_getElem (by rw [List.length_map, HN.out]; omega)]⟩
  have f16 := hown.frozenAt 16
  have f17 := hown.frozenAt 17
  have O5 := Hid.mk' (((hown.stored 16 (.int .u8 0)).1).stored 17 (.int .u8 0)).1
  rw [← List.map_set, ← List.map_set] at O5
  have J5 : Hid (RrJ w ((w3.setCell ⟨g, 16, none⟩ (.int .u8 0)).setCell ⟨g, 17, none⟩ (.int .u8 0))) := Hid.mk' ((J3.out.set (p := ⟨g, 16, none⟩) hg2 _).set (p := ⟨g, 17, none⟩) hg2 _)
  clear hown b3 hcg hg2 J2 J3
  go_wp2_with fail
  clear d16 d17 f16 f17
  generalize (w3.setCell ⟨g, 16, none⟩ (.int .u8 0)).setCell ⟨g, 17, none⟩ (.int .u8 0) = w5 at *
  refine (KV.out w5 16 J5.out.old (by omega)).mono ?_
  rw [H16.out]
  rintro e w6 ⟨rfl, rfl⟩
  go_wp2_with fail
  have key := reffield_any (some ⟨g, 0, none⟩) cg (zf zs) w5 (bs_row_g (n := n) O5.out HZB.out (by rw [HZL.out]; exact hln))
  rw [HZL.out, HFE.out] at key
  refine (keep_name key).mono ?_
  rintro e w6 ⟨rfl, rfl⟩
  clear key
  go_wp2_with fail
  have q13' := CE.out w5 J5.out.old 13 (by omega)
  rw [HY13.out] at q13'
  have hlt5 : b < w5.heap.size := lt_of_cell q13'
  have hne5 : ¬ b = w5.heap.size := by omega
  have e0 : IntKind.u16.wrap V0 = V0 := by rw [IntKind.wrap_u16]; omega
  have e2 : IntKind.u16.wrap V2 = V2 := by rw [IntKind.wrap_u16]; omega
  have e4 : IntKind.u32.wrap W4 = W4 := by rw [IntKind.wrap_u32]; omega
  have e8 : IntKind.u32.wrap W8 = W8 := by rw [IntKind.wrap_u32]; omega
  have e14 : IntKind.u16.wrap V14 = V14 := by rw [IntKind.wrap_u16]; omega
  have BD : Hid (Below w.heap.size w w5.drew) := J5.out.old.drew
  have BA : Hid (Below w.heap.size w (w5.alloc (.cells hd0.toArray 42)).drew) := (J5.out.old.alloc J5.out.old.size _).drew
  clear O5
  go_region_held3 (fun w' => w'.cell? ⟨b, off + 13, none⟩ = some (.int .u8 Y)) (go_keep) (first | (go_at_call_of 183 (Value.int IntKind.i64 0); refine (KV.out _ 0 (by first | exact BD.out | exact BA.out) (by omega)).mono ?_; rw [H0.out]; rintro e w6 ⟨rfl, rfl⟩) | (go_at_call_of 183 (Value.int IntKind.i64 14); refine (KV.out _ 14 (by first | exact BD.out | exact BA.out) (by omega)).mono ?_; rw [H14.out]; rintro e w6 ⟨rfl, rfl⟩) | (go_at_call_of 183 (Value.int IntKind.i64 8); refine (KW.out _ 8 (by first | exact BD.out | exact BA.out) (by omega)).mono ?_; rw [H8.out]; rintro e w6 ⟨rfl, rfl⟩) | (go_at_call_of 183 (Value.int IntKind.i64 4); refine (KW.out _ 4 (by first | exact BD.out | exact BA.out) (by omega)).mono ?_; rw [H4.out]; rintro e w6 ⟨rfl, rfl⟩) | (go_at_call 183; refine (KV.out _ 2 (by first | exact BD.out | exact BA.out) (by omega)).mono ?_; rw [H2.out]; rintro e w6 ⟨rfl, rfl⟩))
  all_goals
    obtain ⟨W7, hW7⟩ : ∃ W7, W7 = (w5.alloc (.cells #[.int .u16 V0, .int .u16 V2, .int .u32 W4, .int .u32 W8, .int .u8 Y, .int .u16 V14] 42)).drew := ⟨_, rfl⟩
    rw [← hW7]
    have J7 : Hid (RrJ w W7) := Hid.mk' (by rw [hW7]; exact J5.out.below (((Below.refl _ _).alloc (Nat.le_refl _) _).drew))
    have Q7 : Hid (W7.heap[w5.heap.size]? = some (.cells (sgC V0 V2 W4 W8 Y V14).toArray 42 (0, 0))) := Hid.mk' (by rw [hW7]; exact heap_alloc_new w5 _)
    clear hW7 q13' J5 BD BA
    go_wp2_with (first | refine wpList_store_mid rfl 42 _ _ rfl w.heap.size 0 (sgC V0 V2 W4 W8 Y V14).toArray rfl rfl J7.out.there info_hd (sgC_one _ _ _ _ _ _) ?_ | refine wpList_load_mid rfl 42 _ rfl w5.heap.size 0 rfl (sgC V0 V2 W4 W8 Y V14) _ (range_block Q7.out) Tryz.underlying42 rfl info_hd ?_)
    refine ret_cell_tmp rfl w.heap.size 42 (sgC V0 V2 W4 W8 Y V14) (0, 0) _ rfl (J7.out.done _ rfl).1 Tryz.underlying42 rfl info_hd rfl ?_
    exact ⟨rfl, (J7.out.done _ rfl).2⟩

theorem wf_u8 {z : Int} (h0 : 0 ≤ z) (h1 : z ≤ 255) : (Lit.int .u8 z).wf = true := by
  have e0 : IntKind.u8.min = 0 := by decide
  have e1 : IntKind.u8.max = 255 := by decide
  simp [Lit.wf, e0, e1]; omega

theorem wf_u16 {z : Int} (h0 : 0 ≤ z) (h1 : z ≤ 65535) : (Lit.int .u16 z).wf = true := by
  have e0 : IntKind.u16.min = 0 := by decide
  have e1 : IntKind.u16.max = 65535 := by decide
  simp [Lit.wf, e0, e1]; omega

theorem wf_u32 {z : Int} (h0 : 0 ≤ z) (h1 : z ≤ 4294967295) : (Lit.int .u32 z).wf = true := by
  have e0 : IntKind.u32.min = 0 := by decide
  have e1 : IntKind.u32.max = 4294967295 := by decide
  simp [Lit.wf, e0, e1]; omega

theorem bounds32 {z : Int} (h : (Lit.int .u32 z).wf = true) : 0 ≤ z ∧ z ≤ 4294967295 := by
  have e0 : IntKind.u32.min = 0 := by decide
  have e1 : IntKind.u32.max = 4294967295 := by decide
  simpa [Lit.wf, e0, e1] using h

theorem kl_sg {sp dp sq ak fl wn : Int} (h : Sg sp dp sq ak fl wn) : Tryz.prog.keyLits 3 42 (sgC sp dp sq ak fl wn) = some ([([Value.int .u16 sp], [Lit.int .u16 sp]), ([Value.int .u16 dp], [Lit.int .u16 dp]), ([Value.int .u32 sq], [Lit.int .u32 sq]), ([Value.int .u32 ak], [Lit.int .u32 ak]), ([Value.int .u8 fl], [Lit.int .u8 fl]), ([Value.int .u16 wn], [Lit.int .u16 wn])].map (·.2)).flatten := by
  refine kl_struct (d := 2) Tryz.underlying42 (by kernel_rfl) _ _ (by simp [sgC]) (by kernel_rfl) rfl (fun j f q hf hq => ?_)
  match j, hf, hq with
  | 0, hf, hq =>
    cases hf; cases hq
    exact ⟨rfl, by kernel_rfl, kl_int Tryz.underlying29 1 sp (wf_u16 h.s0 h.s1)⟩
  | 1, hf, hq =>
    cases hf; cases hq
    exact ⟨rfl, by kernel_rfl, kl_int Tryz.underlying29 1 dp (wf_u16 h.d0 h.d1)⟩
  | 2, hf, hq =>
    cases hf; cases hq
    exact ⟨rfl, by kernel_rfl, kl_int Tryz.underlying37 1 sq (wf_u32 h.q0 h.q1)⟩
  | 3, hf, hq =>
    cases hf; cases hq
    exact ⟨rfl, by kernel_rfl, kl_int Tryz.underlying37 1 ak (wf_u32 h.a0 h.a1)⟩
  | 4, hf, hq =>
    cases hf; cases hq
    exact ⟨rfl, by kernel_rfl, kl_int Tryz.underlying5 1 fl (wf_u8 h.f0 h.f1)⟩
  | 5, hf, hq =>
    cases hf; cases hq
    exact ⟨rfl, by kernel_rfl, kl_int Tryz.underlying29 1 wn (wf_u16 h.w0 h.w1)⟩
  | j + 6, hf, hq => simp at hq

/-- Cells that are a header's. -/
def Hd (L : List Value) : Prop := ∃ sp dp sq ak fl wn, L = sgC sp dp sq ak fl wn ∧ Sg sp dp sq ak fl wn

theorem hd_len {L : List Value} (h : Hd L) : L.length = 6 := by obtain ⟨sp, dp, sq, ak, fl, wn, rfl, _⟩ := h; rfl

theorem hd_one {L : List Value} (h : Hd L) : L.toArray.all (·.oneCell') = true := by
  obtain ⟨sp, dp, sq, ak, fl, wn, rfl, _⟩ := h
  exact sgC_one _ _ _ _ _ _

theorem hd_eq {L : List Value} (h : Hd L) (w : World) : (Op.equalIn 10000 42 (.agg L.toArray) (.agg L.toArray)).run Tryz.prog w = .ok true w := by
  obtain ⟨sp, dp, sq, ak, fl, wn, rfl, h⟩ := h
  exact equal_same 3 (by omega) (by kernel_rfl) (by simp only [Value.formed, Tryz.underlying42]; kernel_rfl) 3 (kl_sg h) w

theorem hd_0 : Hd hd0 := ⟨0, 0, 0, 0, 0, 0, rfl, by omega, by omega, by omega, by omega, by omega, by omega, by omega, by omega, by omega, by omega, by omega, by omega⟩

/-- Check's answer, of cells. -/
def ckE : List Value → Int
  | [.int _ _, .int _ _, .int _ _, .int _ _, .int _ fl, .int _ _] => sgE fl
  | _ => 0

/-- A header's bytes, of cells, ahead of a payload. -/
def hdB : List Value → List Int → List Int
  | [.int _ sp, .int _ dp, .int _ sq, .int _ ak, .int _ fl, .int _ wn], ys => sgB sp dp sq ak fl wn (sgF sp dp sq ak fl wn ys)
  | _, _ => []

/-- Bytes' answer. -/
def byE (L : List Value) (ys : List Int) : Int := if ckE L = 0 then (if ys.length ≤ 2028 then 0 else 5) else ckE L

def byB (L : List Value) (ys : List Int) : List Int := if byE L ys = 0 then hdB L ys else []

/-- Read's answer. -/
def rdE (zs : List Int) : Int := if zs.length < 20 then 6 else if rdQ zs then (if rdV zs 16 = rdF zs then 0 else 110) else 90

def rdL (zs : List Int) : List Value := if rdE zs = 0 then rdC zs else hd0

theorem h_check (L : List Value) (w : World) (h : Hd L) : Calls Tryz.prog 101 #[.agg L.toArray] w fun e w' => e = .returned (.int .i64 (ckE L)) ∧ Below w.heap.size w w' := by
  obtain ⟨sp, dp, sq, ak, fl, wn, rfl, h⟩ := h
  exact lcheck_any _ fl w rfl

theorem h_rcheck (L : List Value) (w : World) (h : Hd L) : Calls Tryz.prog 59 #[.agg L.toArray] w fun e w' => e = .returned (.int .i64 (ckE L)) ∧ Below w.heap.size w w' := by
  obtain ⟨sp, dp, sq, ak, fl, wn, rfl, h⟩ := h
  exact rcheck_any _ fl w rfl

theorem h_bytes (L : List Value) (a : Option Addr) (n c : Nat) (ys : List Int) (w : World) (h : Hd L) (hy : ys.length = n) (hB : Bs w a ys) :
    Calls Tryz.prog 102 #[.agg L.toArray, .slice a n c] w fun e w' => ∃ v, e = .returned (.tuple #[v, .int .i64 (byE L ys)]) ∧ w'.ownsRow w.heap.size 5 1 v (byB L ys).length ((byB L ys).map (Value.int .u8)) ∧ Below w.heap.size w w' := by
  have hl := hB.len
  obtain ⟨sp, dp, sq, ak, fl, wn, rfl, h⟩ := h
  rw [hy] at hl
  by_cases hc : fl ≤ 63
  · have e0 : ckE (sgC sp dp sq ak fl wn) = 0 := by show sgE fl = 0; unfold sgE; rw [if_pos hc]
    by_cases hn : n ≤ 2028
    · have e1 : byE (sgC sp dp sq ak fl wn) ys = 0 := by unfold byE; rw [if_pos e0, hy, if_pos hn]
      unfold byB
      rw [e1, if_pos rfl]
      exact lbytes_ok sp dp sq ak fl wn a n c ys w h hc hn hy hB
    · have e1 : byE (sgC sp dp sq ak fl wn) ys = 5 := by unfold byE; rw [if_pos e0, hy, if_neg hn]
      unfold byB
      rw [e1, if_neg (by omega)]
      refine (lbytes_no _ fl a n c w rfl rfl hc hn hl).mono ?_
      rintro e w' ⟨rfl, b⟩
      exact ⟨_, rfl, World.ownsRow_nil _ _ _ _, b⟩
  · have e0 : ckE (sgC sp dp sq ak fl wn) = 90 := by show sgE fl = 90; unfold sgE; rw [if_neg hc]
    have e1 : byE (sgC sp dp sq ak fl wn) ys = 90 := by unfold byE; rw [e0, if_neg (by omega)]
    unfold byB
    rw [e1, if_neg (by omega)]
    refine (lbytes_bad _ fl a n c w rfl rfl hc).mono ?_
    rintro e w' ⟨rfl, b⟩
    exact ⟨_, rfl, World.ownsRow_nil _ _ _ _, b⟩

theorem h_rbytes (L : List Value) (a : Option Addr) (n c : Nat) (ys : List Int) (w : World) (h : Hd L) (hy : ys.length = n) (hB : Bs w a ys) :
    Calls Tryz.prog 116 #[.agg L.toArray, .slice a n c] w fun e w' => ∃ v, e = .returned (.tuple #[v, .int .i64 (byE L ys)]) ∧ w'.ownsRow w.heap.size 5 1 v (byB L ys).length ((byB L ys).map (Value.int .u8)) ∧ Below w.heap.size w w' := by
  have hl := hB.len
  obtain ⟨sp, dp, sq, ak, fl, wn, rfl, h⟩ := h
  rw [hy] at hl
  by_cases hc : fl ≤ 63
  · have e0 : ckE (sgC sp dp sq ak fl wn) = 0 := by show sgE fl = 0; unfold sgE; rw [if_pos hc]
    by_cases hn : n ≤ 2028
    · have e1 : byE (sgC sp dp sq ak fl wn) ys = 0 := by unfold byE; rw [if_pos e0, hy, if_pos hn]
      unfold byB
      rw [e1, if_pos rfl]
      exact rbytes_ok sp dp sq ak fl wn a n c ys w h hc hn hy hB
    · have e1 : byE (sgC sp dp sq ak fl wn) ys = 5 := by unfold byE; rw [if_pos e0, hy, if_neg hn]
      unfold byB
      rw [e1, if_neg (by omega)]
      refine (rbytes_no _ fl a n c w rfl rfl hc hn hl).mono ?_
      rintro e w' ⟨rfl, b⟩
      exact ⟨_, rfl, World.ownsRow_nil _ _ _ _, b⟩
  · have e0 : ckE (sgC sp dp sq ak fl wn) = 90 := by show sgE fl = 90; unfold sgE; rw [if_neg hc]
    have e1 : byE (sgC sp dp sq ak fl wn) ys = 90 := by unfold byE; rw [e0, if_neg (by omega)]
    unfold byB
    rw [e1, if_neg (by omega)]
    refine (rbytes_bad _ fl a n c w rfl rfl hc).mono ?_
    rintro e w' ⟨rfl, b⟩
    exact ⟨_, rfl, World.ownsRow_nil _ _ _ _, b⟩

theorem bs_some {w : World} {a : Option Addr} {zs : List Int} (h : Bs w a zs) (hp : 0 < zs.length) : ∃ b off, a = some ⟨b, off, none⟩ := by
  rcases h.lies with h0 | ⟨b, off, e, _⟩
  · omega
  · exact ⟨b, off, e⟩

theorem h_read (a : Option Addr) (n c : Nat) (zs : List Int) (w : World) (hz : zs.length = n) (hB : Bs w a zs) (hc : n ≤ c) :
    Calls Tryz.prog 75 #[.slice a n c] w fun e w' => e = .returned (.tuple #[.agg (rdL zs).toArray, .int .i64 (rdE zs)]) ∧ Below w.heap.size w w' := by
  by_cases hn : n < 20
  · have e1 : rdE zs = 6 := by unfold rdE; rw [if_pos (by rw [hz]; exact hn)]
    unfold rdL
    rw [e1, if_neg (by omega)]
    exact lread_short a n c w hn
  · obtain ⟨b, off, rfl⟩ := bs_some hB (by omega)
    by_cases hq : rdQ zs
    · by_cases hf : rdV zs 16 = rdF zs
      · have e1 : rdE zs = 0 := by unfold rdE; rw [if_neg (by rw [hz]; exact hn), if_pos hq, if_pos hf]
        unfold rdL
        rw [e1, if_pos rfl]
        exact lread_ok b off n c zs w hz hB (by omega) hc hq hf
      · have e1 : rdE zs = 110 := by unfold rdE; rw [if_neg (by rw [hz]; exact hn), if_pos hq, if_neg hf]
        unfold rdL
        rw [e1, if_neg (by omega)]
        exact lread_sum b off n c zs w hz hB (by omega) hc hq hf
    · have e1 : rdE zs = 90 := by unfold rdE; rw [if_neg (by rw [hz]; exact hn), if_neg hq]
      unfold rdL
      rw [e1, if_neg (by omega)]
      exact lread_bad b off n c zs w hz hB (by omega) hq

theorem h_rread (a : Option Addr) (n c : Nat) (zs : List Int) (w : World) (hz : zs.length = n) (hB : Bs w a zs) (_hc : n ≤ c) :
    Calls Tryz.prog 123 #[.slice a n c] w fun e w' => e = .returned (.tuple #[.agg (rdL zs).toArray, .int .i64 (rdE zs)]) ∧ Below w.heap.size w w' := by
  by_cases hn : n < 20
  · have e1 : rdE zs = 6 := by unfold rdE; rw [if_pos (by rw [hz]; exact hn)]
    unfold rdL
    rw [e1, if_neg (by omega)]
    exact rread_short a n c w hn
  · obtain ⟨b, off, rfl⟩ := bs_some hB (by omega)
    by_cases hq : rdQ zs
    · by_cases hf : rdV zs 16 = rdF zs
      · have e1 : rdE zs = 0 := by unfold rdE; rw [if_neg (by rw [hz]; exact hn), if_pos hq, if_pos hf]
        unfold rdL
        rw [e1, if_pos rfl]
        exact rread_ok b off n c zs w hz hB (by omega) hq hf
      · have e1 : rdE zs = 110 := by unfold rdE; rw [if_neg (by rw [hz]; exact hn), if_pos hq, if_neg hf]
        unfold rdL
        rw [e1, if_neg (by omega)]
        exact rread_sum b off n c zs w hz hB (by omega) hq hf
    · have e1 : rdE zs = 90 := by unfold rdE; rw [if_neg (by rw [hz]; exact hn), if_neg hq]
      unfold rdL
      rw [e1, if_neg (by omega)]
      exact rread_bad b off n c zs w hz hB (by omega) hq

theorem rdE_zero {zs : List Int} (h : rdE zs = 0) : 20 ≤ zs.length ∧ rdQ zs ∧ rdV zs 16 = rdF zs := by
  unfold rdE at h
  split at h
  · omega
  · split at h
    · split at h
      · exact ⟨by omega, by assumption, by assumption⟩
      · omega
    · omega

theorem sg_of {zs : List Int} (hb : Bytes zs) (hq : rdQ zs) : Sg (rdV zs 0) (rdV zs 2) (rdW zs 4) (rdW zs 8) (rdV zs 12 - 20480) (rdV zs 14) := by
  obtain ⟨⟨q1, q2⟩, -⟩ := hq
  exact ⟨(rdV_bd hb 0).1, (rdV_bd hb 0).2, (rdV_bd hb 2).1, (rdV_bd hb 2).2, (rdW_bd hb 4).1, (rdW_bd hb 4).2, (rdW_bd hb 8).1, (rdW_bd hb 8).2, by omega, by omega, (rdV_bd hb 14).1, (rdV_bd hb 14).2⟩

theorem hd_rd {zs : List Int} (h : Bytes zs) : Hd (rdL zs) := by
  unfold rdL
  split
  · rename_i he
    exact ⟨_, _, _, _, _, _, rfl, sg_of h (rdE_zero he).2.1⟩
  · exact hd_0

theorem sgE_le {fl : Int} (h : sgE fl = 0) : fl ≤ 63 := by
  unfold sgE at h
  split at h
  · assumption
  · omega

theorem byE_zero {L : List Value} {ys : List Int} (h : byE L ys = 0) : ckE L = 0 ∧ ys.length ≤ 2028 := by
  unfold byE at h
  split at h
  · split at h
    · exact ⟨by assumption, by assumption⟩
    · omega
  · contradiction

theorem byB_bytes {L : List Value} {ys : List Int} (h : Hd L) (_hy : Bytes ys) : Bytes (byB L ys) := by
  unfold byB
  split
  · obtain ⟨sp, dp, sq, ak, fl, wn, rfl, h⟩ := h
    have hf := sgF_bd sp dp sq ak fl wn ys
    exact sgB_bytes h hf.1 hf.2
  · intro z hz; simp at hz

theorem byB_le {L : List Value} {ys : List Int} (h : Hd L) : (byB L ys).length ≤ 20 := by
  obtain ⟨sp, dp, sq, ak, fl, wn, rfl, h⟩ := h
  unfold byB
  split
  · exact Nat.le_refl _
  · simp

theorem m_back {L : List Value} {ys : List Int} (h : Hd L) (_hy : Bytes ys) (he : byE L ys = 0) : (byB L ys).length = 20 ∧ rdL (byB L ys ++ ys) = L ∧ rdE (byB L ys ++ ys) = 0 ∧ ckE L = 0 := by
  have hc := (byE_zero he).1
  obtain ⟨sp, dp, sq, ak, fl, wn, rfl, h⟩ := h
  have hfl := sgE_le hc
  have hF := sgF_bd sp dp sq ak fl wn ys
  have e : byB (sgC sp dp sq ak fl wn) ys = sgB sp dp sq ak fl wn (sgF sp dp sq ak fl wn ys) := by unfold byB; rw [if_pos he]; rfl
  rw [e]
  have eF : rdF (sgB sp dp sq ak fl wn (sgF sp dp sq ak fl wn ys) ++ ys) = sgF sp dp sq ak fl wn ys := by
    unfold rdF
    rw [zf_sgB, List.length_append, sgB_length]; rfl
  generalize sgF sp dp sq ak fl wn ys = F at *
  obtain ⟨s0, s1, d0, d1, q0, q1, a0, a1, f0, f1, w0, w1⟩ := h
  have e12 : rdV (sgB sp dp sq ak fl wn F ++ ys) 12 = 20480 + fl := by
    show 80 * 256 + fl = _
    omega
  have e18 : rdV (sgB sp dp sq ak fl wn F ++ ys) 18 = 0 := rfl
  have e16 : rdV (sgB sp dp sq ak fl wn F ++ ys) 16 = F := by
    show F / 256 * 256 + F % 256 = F
    omega
  have e0 : rdV (sgB sp dp sq ak fl wn F ++ ys) 0 = sp := by
    show sp / 256 * 256 + sp % 256 = sp
    omega
  have e2 : rdV (sgB sp dp sq ak fl wn F ++ ys) 2 = dp := by
    show dp / 256 * 256 + dp % 256 = dp
    omega
  have e14 : rdV (sgB sp dp sq ak fl wn F ++ ys) 14 = wn := by
    show wn / 256 * 256 + wn % 256 = wn
    omega
  have e4 : rdW (sgB sp dp sq ak fl wn F ++ ys) 4 = sq := by
    show (sq / 65536 / 256 * 256 + sq / 65536 % 256) * 65536 + (sq % 65536 / 256 * 256 + sq % 65536 % 256) = sq
    omega
  have e8 : rdW (sgB sp dp sq ak fl wn F ++ ys) 8 = ak := by
    show (ak / 65536 / 256 * 256 + ak / 65536 % 256) * 65536 + (ak % 65536 / 256 * 256 + ak % 65536 % 256) = ak
    omega
  have eE : rdE (sgB sp dp sq ak fl wn F ++ ys) = 0 := by
    unfold rdE
    rw [if_neg (by rw [List.length_append, sgB_length]; omega), if_pos ⟨by rw [e12]; omega, e18⟩, if_pos (by rw [e16, eF])]
  refine ⟨rfl, ?_, eE, hc⟩
  unfold rdL
  rw [if_pos eE]
  unfold rdC
  rw [e0, e2, e4, e8, e12, e14, show 20480 + fl - 20480 = fl by omega]

theorem m_no {L : List Value} {ys : List Int} (he : ¬ byE L ys = 0) (hc : ckE L = 0) : ¬ ys.length ≤ 2028 := by
  intro hl
  apply he
  unfold byE
  rw [if_pos hc, if_pos hl]

theorem m_none {zs : List Int} (h : ¬ rdE zs = 0) : rdL zs = hd0 := by unfold rdL; rw [if_neg h]

theorem m_short {zs : List Int} (h : zs.length < 20) : rdE zs = 6 := by unfold rdE; rw [if_pos h]

theorem m_again {zs : List Int} (hb : Bytes zs) (he : rdE zs = 0) (hl : zs.length ≤ 2048) : 20 ≤ zs.length ∧ byE (rdL zs) (zs.drop 20) = 0 ∧ byB (rdL zs) (zs.drop 20) = zs.take 20 := by
  obtain ⟨h20, hq, hf⟩ := rdE_zero he
  have e0 : rdL zs = rdC zs := by unfold rdL; rw [if_pos he]
  have e1 : byE (rdL zs) (zs.drop 20) = 0 := by
    rw [e0]
    unfold byE
    have hc : ckE (rdC zs) = 0 := by
      obtain ⟨⟨q1, q2⟩, -⟩ := hq
      show sgE (rdV zs 12 - 20480) = 0
      unfold sgE; rw [if_pos (by omega)]
    rw [if_pos hc, if_pos (by rw [List.length_drop]; omega)]
  refine ⟨h20, e1, ?_⟩
  unfold byB
  rw [if_pos e1, e0]
  show sgB (rdV zs 0) (rdV zs 2) (rdW zs 4) (rdW zs 8) (rdV zs 12 - 20480) (rdV zs 14) (sgF (rdV zs 0) (rdV zs 2) (rdW zs 4) (rdW zs 8) (rdV zs 12 - 20480) (rdV zs 14) (zs.drop 20)) = _
  have hq' := (rdQ_iff hb).1 hq
  have eB : ∀ f : Int, sgB (rdV zs 0) (rdV zs 2) (rdW zs 4) (rdW zs 8) (rdV zs 12 - 20480) (rdV zs 14) f = ((zs.take 20).set 16 (f / 256)).set 17 (f % 256) := by
    intro f
    match zs, hb, h20 with
    | z0 :: z1 :: z2 :: z3 :: z4 :: z5 :: z6 :: z7 :: z8 :: z9 :: z10 :: z11 :: z12 :: z13 :: z14 :: z15 :: z16 :: z17 :: z18 :: z19 :: r, hb, _ =>
      have k0 := hb z0 (by simp)
      have k1 := hb z1 (by simp)
      have k2 := hb z2 (by simp)
      have k3 := hb z3 (by simp)
      have k4 := hb z4 (by simp)
      have k5 := hb z5 (by simp)
      have k6 := hb z6 (by simp)
      have k7 := hb z7 (by simp)
      have k8 := hb z8 (by simp)
      have k9 := hb z9 (by simp)
      have k10 := hb z10 (by simp)
      have k11 := hb z11 (by simp)
      have k14 := hb z14 (by simp)
      have k15 := hb z15 (by simp)
      simp at hq'
      simp [sgB, rdV, rdW]
      omega
  have eF : sgF (rdV zs 0) (rdV zs 2) (rdW zs 4) (rdW zs 8) (rdV zs 12 - 20480) (rdV zs 14) (zs.drop 20) = rdV zs 16 := by
    unfold sgF
    rw [eB 0, hf]
    unfold rdF
    have e : ((zs.take 20).set 16 (0 / 256)).set 17 (0 % 256) ++ zs.drop 20 = zf zs := by
      match zs, h20 with
      | z0 :: z1 :: z2 :: z3 :: z4 :: z5 :: z6 :: z7 :: z8 :: z9 :: z10 :: z11 :: z12 :: z13 :: z14 :: z15 :: z16 :: z17 :: z18 :: z19 :: r, _ => rfl
    rw [e, List.length_drop, show 20 + (zs.length - 20) = zs.length by omega]
  rw [eF, eB]
  match zs, hb, h20 with
  | z0 :: z1 :: z2 :: z3 :: z4 :: z5 :: z6 :: z7 :: z8 :: z9 :: z10 :: z11 :: z12 :: z13 :: z14 :: z15 :: z16 :: z17 :: z18 :: z19 :: r, hb, _ =>
    have k16 := hb z16 (by simp)
    have k17 := hb z17 (by simp)
    simp [rdV]
    omega

theorem zf_set_in (zs : List Int) {k : Nat} (y : Int) (h : k = 16 ∨ k = 17) : zf (zs.set k y) = zf zs := by
  unfold zf
  rcases h with rfl | rfl
  · rw [List.set_set]
  · rw [List.set_comm _ _ (by decide : (17 : Nat) ≠ 16), List.set_set]

theorem zf_set_out (zs : List Int) {k : Nat} (y : Int) (h0 : k ≠ 16) (h1 : k ≠ 17) : zf (zs.set k y) = (zf zs).set k y := by
  unfold zf
  rw [List.set_comm _ _ h0, List.set_comm _ _ h1]

theorem zf_getD (zs : List Int) {k : Nat} (h0 : k ≠ 16) (h1 : k ≠ 17) : (zf zs).getD k 0 = zs.getD k 0 := by
  unfold zf
  rw [List.getD_eq_getElem?_getD, List.getElem?_set_ne (Ne.symm h1), List.getElem?_set_ne (Ne.symm h0), List.getD_eq_getElem?_getD]

theorem getD_set (zs : List Int) (k j : Nat) (y : Int) (hk : k < zs.length) : (zs.set k y).getD j 0 = if j = k then y else zs.getD j 0 := by
  by_cases e : j = k
  · subst e
    rw [if_pos rfl, List.getD_eq_getElem?_getD, List.getElem?_set_self hk]; rfl
  · rw [if_neg e, List.getD_eq_getElem?_getD, List.getElem?_set_ne (Ne.symm e), List.getD_eq_getElem?_getD]

/-- A header that is read is read no more with one byte of it or of its payload turned. -/
theorem rd_turned {zs : List Int} (hb : Bytes zs) (he : rdE zs = 0) (k : Nat) (hk : k < zs.length) (y : Int) (y0 : 0 ≤ y) (y1 : y ≤ 255) (hne : ¬ y = zs.getD k 0) : ¬ rdE (zs.set k y) = 0 := by
  intro h'
  obtain ⟨h20, hq, hf⟩ := rdE_zero he
  obtain ⟨-, hr, hg⟩ := rdE_zero h'
  have hbs := bytes_set hb k y y0 y1
  obtain ⟨⟨q12, q13⟩, q18, q19⟩ := (rdQ_iff hb).1 hq
  obtain ⟨⟨r12, r13⟩, r18, r19⟩ := (rdQ_iff hbs).1 hr
  have G : ∀ j, (zs.set k y).getD j 0 = if j = k then y else zs.getD j 0 := fun j => getD_set zs k j y hk
  unfold rdV at hf hg
  rw [G, G] at hg
  have b5 := hb.getD 16
  have b6 := hb.getD 17
  by_cases hin : k = 16 ∨ k = 17
  · have e : rdF (zs.set k y) = rdF zs := by unfold rdF; rw [zf_set_in zs y hin, List.length_set]
    rw [e, ← hf] at hg
    rcases hin with rfl | rfl
    · simp at hg hne; omega
    · simp at hg hne; omega
  · have h0 : k ≠ 16 := fun e => hin (.inl e)
    have h1 : k ≠ 17 := fun e => hin (.inr e)
    rw [if_neg (Ne.symm h0), if_neg (Ne.symm h1)] at hg
    have e : rdF (zs.set k y) = rdF zs := by rw [← hg, ← hf]
    have hp : 0 < tot (zf zs) zs.length := by
      have := tot_ge_at (zf_bytes hb) 12 zs.length (by omega)
      rw [zf_getD zs (by omega) (by omega), q12, wt_even 12 rfl] at this
      omega
    have hp' : 0 < tot (zf (zs.set k y)) zs.length := by
      have := tot_ge_at (zf_bytes hbs) 12 zs.length (by omega)
      rw [zf_getD _ (by omega) (by omega), r12, wt_even 12 rfl] at this
      omega
    unfold rdF su at e
    rw [List.length_set] at e
    rw [zf_set_out zs y h0 h1, tot_set _ _ _ _ (by rw [zf_length]; exact hk), if_pos hk, zf_getD zs h0 h1] at e hp'
    have bk := hb.getD k
    generalize zs.getD k 0 = x at *
    have hw : wt k = 256 ∨ wt k = 1 := by unfold wt; split <;> simp
    rcases hw with hw | hw
    · rw [hw] at e hp'
      exact fo_turn (tot (zf zs) zs.length) _ ((y - x) * 256) hp hp' rfl (by omega) (by omega) (by omega) (by omega)
    · rw [hw] at e hp'
      exact fo_turn (tot (zf zs) zs.length) _ ((y - x) * 1) hp hp' rfl (by omega) (by omega) (by omega) (by omega)

theorem m_turned {L : List Value} {ys : List Int} (h : Hd L) (hy : Bytes ys) (he : byE L ys = 0) (k : Nat) (hk : k < 20 + ys.length) (y : Int) (y0 : 0 ≤ y) (y1 : y ≤ 255) (hne : ¬ y = (byB L ys ++ ys).getD k 0) : ¬ rdE ((byB L ys ++ ys).set k y) = 0 :=
  rd_turned (bytes_append (byB_bytes h hy) hy) (m_back h hy he).2.2.1 k (by rw [List.length_append, (m_back h hy he).1]; exact hk) y y0 y1 hne

def uL : List Value := sgC 80 1024 1 0 2 512

def uY : List Int := [1]

def uB : List Int := [0, 80, 4, 0, 0, 0, 0, 1, 0, 0, 0, 0, 80, 2, 2, 0, 168, 172, 0, 0]

theorem hd_u : Hd uL := ⟨80, 1024, 1, 0, 2, 512, rfl, by omega, by omega, by omega, by omega, by omega, by omega, by omega, by omega, by omega, by omega, by omega, by omega⟩

theorem uY_bytes : Bytes uY := fun z hz => by simp [uY] at hz; omega

theorem by_u : byE uL uY = 0 ∧ byB uL uY = uB := by decide +kernel

theorem uB_by : Bytes uB := by rw [← by_u.2]; exact byB_bytes hd_u uY_bytes

theorem heap3_0 (w : World) (a b c : Obj) : (((w.alloc a).alloc b).alloc c).heap[w.heap.size]? = some a := (Below.heap_alloc ((w.alloc a).alloc b) c _ (by simp; omega)).trans (heap_alloc2_old w a b)

theorem heap3_1 (w : World) (a b c : Obj) : (((w.alloc a).alloc b).alloc c).heap[w.heap.size + 1]? = some b := (Below.heap_alloc ((w.alloc a).alloc b) c _ (by simp)).trans (heap_alloc2_new w a b)

theorem heap3_2 (w : World) (a b c : Obj) : (((w.alloc a).alloc b).alloc c).heap[w.heap.size + 1 + 1]? = some c := by
  have h := heap_alloc_new ((w.alloc a).alloc b) c
  rw [show ((w.alloc a).alloc b).heap.size = w.heap.size + 1 + 1 by simp] at h
  exact h

theorem below3 (w : World) (a b c : Obj) : Below w.heap.size w (((w.alloc a).alloc b).alloc c) := (((Below.refl _ _).alloc (Nat.le_refl _) _).alloc (by simp) _).alloc (by simp; omega) _

def badL : List Value := sgC 0 0 0 0 64 0

theorem hd_bad : Hd badL := ⟨0, 0, 0, 0, 64, 0, rfl, by omega, by omega, by omega, by omega, by omega, by omega, by omega, by omega, by omega, by omega, by omega, by omega⟩

theorem ck_bad : ckE badL = 90 := by decide

/-- A header that came in. -/
theorem hd_open (W : World) (m : sh42.M) (o : sh42.ok W m) : Hd (sh42.cs m) := by
  obtain ⟨sp, dp, sq, ak, fl, wn⟩ := m
  obtain ⟨k0, k1, k2, k3, k4, k5⟩ := o
  exact ⟨sp, dp, sq, ak, fl, wn, rfl, (bounds_u16 k0).1, (bounds_u16 k0).2, (bounds_u16 k1).1, (bounds_u16 k1).2, (bounds32 k2).1, (bounds32 k2).2, (bounds32 k3).1, (bounds32 k3).2, (bounds_u8 k4).1, (bounds_u8 k4).2, (bounds_u16 k5).1, (bounds_u16 k5).2⟩

end Go.Proofs.YtednmdkjhiihcaaGreat.K09
