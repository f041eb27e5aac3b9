/- Headers of the kind 10: the program's calls and the document's, in one form for all inputs, and the mathematics between them. -/
import Derived.Test.YtednmdkjhiihcaaGreatGa
import Derived.Test.YtednmdkjhiihcaaGreatSf
import Derived.Test.YtednmdkjhiihcaaGreatBc
import Derived.Deep.RegionHeld3
import Derived.Test.YtednmdkjhiihcaaGreatGc
import Derived.Test.YtednmdkjhiihcaaGreatSp
namespace Go.Proofs.YtednmdkjhiihcaaGreat.K10
open Go.ChangeShapes Go.WideShapes Go.ChangeAt Go.RowKit

/-- k bytes of a number, the highest one first. -/
def numB : Nat → Int → List Int
  | 0, _ => []
  | k + 1, v => numB k (v / 256) ++ [v % 256]

theorem numB_length : ∀ (k : Nat) (v : Int), (numB k v).length = k
  | 0, _ => rfl
  | k + 1, v => by simp [numB, numB_length k]

theorem numB_bytes : ∀ (k : Nat) (v : Int), Bytes (numB k v)
  | 0, _ => fun z hz => by simp [numB] at hz
  | k + 1, v => bytes_append (numB_bytes k _) (fun z hz => by simp at hz; omega)

/-- So many bytes from a place on, as a number. -/
def valV (B : List Int) (x : Nat) : Nat → Int
  | 0 => 0
  | k + 1 => valV B x k * 256 + B.getD (x + k) 0

theorem valV_bd {B : List Int} (h : Bytes B) (x : Nat) : ∀ k : Nat, 0 ≤ valV B x k ∧ valV B x k < 256 ^ k
  | 0 => by simp [valV]
  | k + 1 => by
    have ih := valV_bd h x k
    have hb := h.getD (x + k)
    simp only [valV]
    rw [Int.pow_succ]
    omega

theorem pow256 {k : Nat} (h : k ≤ 4) : (256 : Int) ^ k ≤ 4294967296 := by
  match k, h with
  | 0, _ => decide
  | 1, _ => decide
  | 2, _ => decide
  | 3, _ => decide
  | 4, _ => decide

set_option maxHeartbeats 400000 in
theorem number_any (v : Int) (k : Nat) (w : World) (hv : 0 ≤ v) (hv' : v ≤ 4294967296) (hk : k ≤ 16) :
    Calls Tryz.prog 176 #[.int .i64 v, .int .i64 k] w fun e w' => ∃ u, e = .returned u ∧ w'.ownsRow w.heap.size 5 1 u k ((numB k v).map (Value.int .u8)) ∧ Below w.heap.size w w' := by
  have hmk := make_bytes k (by omega)
  obtain ⟨Z, HZ⟩ : ∃ Z, Hid ((List.replicate k (0 : Int)).map (Value.int .u8) = Z) := ⟨_, rfl⟩
  rw [HZ.out] at hmk
  go_enter Tryz.func176, Tryz.ntmps176
  go_wp2_with fail
  obtain ⟨W1, hW1⟩ : ∃ W1, W1 = w.alloc (.cells Z.toArray 5) := ⟨_, rfl⟩
  rw [← hW1]
  have R1 : Hid (W1.heap[w.heap.size]? = some (.cells Z.toArray 5 (0, 0))) := by rw [hW1]; exact heap_alloc_new w _
  have B1 : Hid (Below w.heap.size w W1) := by rw [hW1]; exact (Below.refl _ _).alloc (Nat.le_refl _) _
  clear hW1 hmk
  go_loopw [0, 6] (fun x i wr => ∃ (m : Nat) (y : Int) (tl : List Int), m ≤ k ∧ i = .int .i64 ((m : Int) - 1) ∧ x = .int .i64 y ∧ 0 ≤ y ∧ y ≤ 4294967296 ∧ Hid (numB k v = numB m y ++ tl) ∧ Hid (wr.heap[w.heap.size]? = some (.cells ((List.replicate m (0 : Int) ++ tl).map (Value.int .u8)).toArray 5 (0, 0))) ∧ Hid (Below w.heap.size w wr)) (fun _ i _ => ((intOf i) + 1).toNat)
  case atStart => exact ⟨k, v, [], Nat.le_refl _, by go_num, rfl, hv, hv', Hid.mk' (by simp), Hid.mk' (by rw [List.append_nil, HZ.out]; exact R1.out), B1⟩
  case round =>
    obtain ⟨m, y, tl, hm, rfl, rfl, hy, hy', HN, HR, HB⟩ := hrel
    match m, HN, HR, hm with
    | 0, HN, HR, hm =>
      have HO : Hid (wr.ownsRow w.heap.size 5 1 (.slice (some ⟨w.heap.size, 0, none⟩) k k) k ((numB k v).map (Value.int .u8))) := by
        refine own_block ?_ (Nat.le_refl _) (by rw [List.length_map, numB_length]) (by omega)
        rw [HR.out, HN.out]; rfl
      go_wp2_with fail
      go_ret
      exact ⟨_, rfl, HO.out, HB.out⟩
    | m + 1, HN, HR, hm =>
      have f0 : wr.frozen? ⟨w.heap.size, m, none⟩ = false := frozen_of_row wr _ m _ _ HR.out
      have c0 : wr.cell? ⟨w.heap.size, m, none⟩ = some (.int .u8 0) := by
        rw [cell_of_row wr _ m _ _ _ HR.out, List.getElem?_toArray, List.getElem?_map, List.getElem?_append_left (by simp), List.getElem?_replicate]
        simp
      go_wp2_with fail
      go_roundw
      case rel =>
        refine ⟨m, y / 256, y % 256 :: tl, by omega, rfl, rfl, by omega, by omega, Hid.mk' ?_, Hid.mk' ?_, (HB.out.setCell (p := ⟨w.heap.size, m, none⟩) (Nat.le_refl _) _ : Below _ _ _)⟩
        · rw [HN.out, numB, List.append_assoc]; rfl
        · rw [Go.heap_setCell_same _ _ m _ _ _ HR.out]
          congr 2
          apply Array.toList_inj.1
          rw [Array.toList_setIfInBounds, ← List.map_set, List.replicate_succ', List.append_assoc, List.set_append_right _ _ (by simp)]
          simp
      case measure => simp [intOf]

set_option maxHeartbeats 400000 in
theorem value_any (b off n c x k : Nat) (zs : List Int) (w : World) (hz : zs.length = n) (hB : Bs w (some ⟨b, off, none⟩) zs) (hk : k ≤ 4) (hx : x + k ≤ n) :
    Calls Tryz.prog 184 #[.slice (some ⟨b, off, none⟩) n c, .int .i64 x, .int .i64 k] w fun e w' => e = .returned (.int .i64 (valV zs x k)) ∧ w = w' := by
  have hln : n ≤ 140737488355328 := by rw [← hz]; exact hB.len
  have HB := Hid.mk' hB
  have HN := Hid.mk' hz
  clear hB hz
  go_enter Tryz.func184, Tryz.ntmps184
  go_wp2_with fail
  go_loop [7, 8] (fun v i => ∃ j : Nat, j ≤ k ∧ i = .int .i64 j ∧ v = .int .i64 (valV zs x j)) (fun _ i => k - (intOf i).toNat)
  case atStart => exact ⟨0, Nat.zero_le _, rfl, rfl⟩
  case round =>
    obtain ⟨j, hj, rfl, rfl⟩ := hrel
    by_cases hlt : j < k
    · have hsp : (j : Int) < (k : Int) := by omega
      have cc : w.cell? ⟨b, off + (x + j), none⟩ = some (.int .u8 (zs.getD (x + j) 0)) := by
        rcases HB.out.lies with h0 | ⟨b', off', e, hc⟩
        · rw [HN.out] at h0; omega
        · cases e; exact hc (x + j) (by rw [HN.out]; omega)
      have hb := HB.out.bytes.getD (x + j)
      have hv := valV_bd HB.out.bytes x j
      have hp := pow256 (k := j) (by omega)
      obtain ⟨y, HY⟩ : ∃ y, Hid (zs.getD (x + j) 0 = y) := ⟨_, rfl⟩
      obtain ⟨V, HV⟩ : ∃ V, Hid (valV zs x j = V) := ⟨_, rfl⟩
      rw [HY.out] at cc hb
      rw [HV.out] at hv ⊢
      have v0 : 0 ≤ V := hv.1
      have v1 : V ≤ 4294967296 := by omega
      have y0 := hb.1
      have y1 := hb.2
      clear hb hv hp
      have hin : (x : Int) + (j : Int) < (n : Int) := by omega
      go_wp2_with fail
      go_round
      case rel => exact ⟨j + 1, hlt, by go_num, by rw [valV, HV.out, HY.out]⟩
      case measure => simp [intOf]; omega
    · obtain rfl : j = k := by omega
      go_wp2_with fail
      go_ret
      exact ⟨rfl, rfl⟩

/-- A header's cells: SrcPort, DstPort. -/
def dgC (sp dp : Int) : List Value := [.int .u16 sp, .int .u16 dp]

/-- A header's bytes ahead of a payload of m bytes, its field being f. -/
def dgB (sp dp m f : Int) : List Int := [sp / 256, sp % 256, dp / 256, dp % 256, (8 + m) / 256, (8 + m) % 256, f / 256, f % 256]

/-- The field that a sum comes to. -/
def fd (s : Int) : Int := if 65535 - s = 0 then 65535 else 65535 - s

theorem fd_bd {s : Int} (h0 : 0 ≤ s) (h1 : s ≤ 65535) : 0 ≤ fd s ∧ fd s ≤ 65535 := by
  unfold fd; split <;> omega

/-- A header's field, ahead of a payload. -/
def dgF (sp dp : Int) (ys : List Int) : Int := fd (su (dgB sp dp ys.length 0 ++ ys) (8 + ys.length))

/-- A header's numbers, as their types have them. -/
structure Dg (sp dp : Int) : Prop where
  s0 : 0 ≤ sp
  s1 : sp ≤ 65535
  d0 : 0 ≤ dp
  d1 : dp ≤ 65535

theorem info_hd : (Tryz.prog.info? 44).map (·.size) = some 2 := by kernel_rfl

theorem dgC_one (sp dp : Int) : (dgC sp dp).toArray.all (·.oneCell') = true := by
  refine all_oneCell_toArray (fun v hv => ?_)
  simp only [dgC, List.mem_cons, List.not_mem_nil, or_false] at hv
  rcases hv with rfl | rfl <;> rfl

theorem or16 (V b : Int) (h0 : 0 ≤ V) (h1 : V ≤ 255) (b0 : 0 ≤ b) (b1 : b ≤ 255) : bits .or .u16 (V * 256) b = V * 256 + b := by
  rw [u16_or _ _ (by omega) (by omega) (by omega) (by omega)]
  have h := Nat.two_pow_add_eq_or_of_lt (i := 8) (b := b.toNat) (by omega) V.toNat
  have e2 : (V * 256).toNat = 2 ^ 8 * V.toNat := by omega
  rw [e2, ← h]
  omega

theorem lcheck_any (L : List Value) (w : World) : Calls Tryz.prog 106 #[.agg L.toArray] w fun e w' => e = .returned (.int .i64 0) ∧ Below w.heap.size w w' := by
  go_enter Tryz.func106, Tryz.ntmps106
  go_wp2_with fail
  go_ret
  exact ⟨rfl, (Below.refl _ _).alloc (Nat.le_refl _) _⟩

theorem lsize_any (w : World) : Calls Tryz.prog 79 #[] w fun e w' => e = .returned (.int .i64 8) ∧ w = w' := by
  go_enter Tryz.func79, Tryz.ntmps79
  go_wp2_with fail
  go_ret
  exact ⟨rfl, rfl⟩

/-- Two bytes as a number. -/
def rdV (zs : List Int) (k : Nat) : Int := zs.getD k 0 * 256 + zs.getD (k + 1) 0

theorem rdV_bd {zs : List Int} (h : Bytes zs) (k : Nat) : 0 ≤ rdV zs k ∧ rdV zs k ≤ 65535 := by
  have h0 := h.getD k
  have h1 := h.getD (k + 1)
  unfold rdV; omega

set_option maxHeartbeats 400000 in
theorem get16_any (b off n c x : Nat) (zs : List Int) (w : World) (hz : zs.length = n) (hB : Bs w (some ⟨b, off, none⟩) zs) (hx : x + 2 ≤ n) :
    Calls Tryz.prog 133 #[.slice (some ⟨b, off, none⟩) n c, .int .i64 x] w fun e w' => e = .returned (.int .u16 (rdV zs x)) ∧ Dr w w' := by
  unfold rdV
  have hln : n ≤ 140737488355328 := by rw [← hz]; exact hB.len
  have hx0 : (x : Int) < (n : Int) := by omega
  have hx1 : (x : Int) + 1 < (n : Int) := by omega
  have cc : ∀ i, i < n → w.cell? ⟨b, off + i, none⟩ = some (.int .u8 (zs.getD i 0)) := by
    intro i hi
    rcases hB.lies with h0 | ⟨b', off', e, hc⟩
    · omega
    · cases e; exact hc i (by omega)
  have c0 := cc x (by omega)
  have c1 := cc (x + 1) (by omega)
  have k0 := hB.bytes.getD x
  have k1 := hB.bytes.getD (x + 1)
  clear cc hB hz
  generalize zs.getD x 0 = u at *
  generalize zs.getD (x + 1) 0 = v at *
  obtain ⟨u0, u1⟩ := k0
  obtain ⟨v0, v1⟩ := k1
  have hor := or16 u v u0 u1 v0 v1
  go_enter Tryz.func133, Tryz.ntmps133
  go_wp2_with fail
  go_quiet (fail)
  go_wp2_with fail
  go_ret
  exact ⟨rfl, ⟨_, rfl⟩⟩

set_option maxHeartbeats 400000 in
theorem put16_any (g m x : Nat) (v : Int) (Z : List Value) (t : TypeId) (w : World) (hg : w.heap[g]? = some (.cells Z.toArray t (0, 0))) (hl : Z.length = m) (hx : x + 2 ≤ m) (hm : m ≤ 1000000) (v0 : 0 ≤ v) (v1 : v ≤ 65535) :
    Calls Tryz.prog 165 #[.slice (some ⟨g, 0, none⟩) m m, .int .i64 x, .int .u16 v] w fun e w' => e = .returned (.tuple #[]) ∧ w'.heap[g]? = some (.cells ((Z.set x (.int .u8 (v / 256))).set (x + 1) (.int .u8 (v % 256))).toArray t (0, 0)) ∧ Kept (fun k => k = g) w w' := by
  have hx0 : (x : Int) < (m : Int) := by omega
  have hx1 : (x : Int) + 1 < (m : Int) := by omega
  obtain ⟨y0, c0⟩ : ∃ y, w.cell? ⟨g, x, none⟩ = some y := ⟨_, by rw [cell_of_row w _ x _ _ _ hg, List.getElem?_toArray, List.getElem?_eq_getElem (by omega)]⟩
  obtain ⟨y1, c1⟩ : ∃ y, w.cell? ⟨g, x + 1, none⟩ = some y := ⟨_, by rw [cell_of_row w _ (x + 1) _ _ _ hg, List.getElem?_toArray, List.getElem?_eq_getElem (by omega)]⟩
  have f0 : w.frozen? ⟨g, x, none⟩ = false := frozen_of_row w _ x _ _ hg
  have f1 : w.frozen? ⟨g, x + 1, none⟩ = false := frozen_of_row w _ (x + 1) _ _ hg
  have HG := Hid.mk' hg
  clear hg
  go_enter Tryz.func165, Tryz.ntmps165
  go_wp2_with fail
  have h1 : Hid (((w.setCell ⟨g, x, none⟩ (.int .u8 (v / 256))).setCell ⟨g, x + 1, none⟩ (.int .u8 (v % 256))).heap[g]? = some (.cells ((Z.set x (.int .u8 (v / 256))).set (x + 1) (.int .u8 (v % 256))).toArray t (0, 0))) := Hid.mk' (by
    rw [Go.heap_setCell_same _ _ (x + 1) _ _ _ (Go.heap_setCell_same _ _ x _ _ _ HG.out)]; simp)
  have h2 : Hid (Kept (fun k => k = g) w ((w.setCell ⟨g, x, none⟩ (.int .u8 (v / 256))).setCell ⟨g, x + 1, none⟩ (.int .u8 (v % 256)))) := Hid.mk' (((Kept.refl (fun k => k = g) w).setCell (p := ⟨g, x, none⟩) (fun _ => rfl) _).setCell (p := ⟨g, x + 1, none⟩) (fun _ => rfl) _)
  go_end0
  exact ⟨rfl, h1.out, h2.out⟩

/-- All the bytes, the field's two being 0. -/
def zf (zs : List Int) : List Int := (zs.set 6 0).set 7 0

theorem zf_length (zs : List Int) : (zf zs).length = zs.length := by unfold zf; simp

theorem zf_bytes {zs : List Int} (h : Bytes zs) : Bytes (zf zs) :=
  bytes_set (bytes_set h 6 0 (by omega) (by omega)) 7 0 (by omega) (by omega)

/-- The total of a header and its payload, by pieces. -/
theorem tot_zf (hs ys : List Int) (h : hs.length = 8) (k : Nat) : tot (zf (hs ++ ys)) (8 + k) = tot (hs.take 6) 6 + tot ys k := by
  have e : zf (hs ++ ys) = hs.take 6 ++ ([0, 0] ++ ys) := by
    match hs, h with
    | [z0, z1, z2, z3, z4, z5, z6, z7], _ => rfl
  have l6 : (hs.take 6).length = 6 := by rw [List.length_take, h]; rfl
  have t1 := tot_app (hs.take 6) ([0, 0] ++ ys) (by rw [l6]) (2 + k)
  have t2 : tot ([0, 0] ++ ys) (2 + k) = tot [0, 0] 2 + tot ys k := tot_app [0, 0] ys (by simp) k
  rw [l6] at t1
  rw [e, show 8 + k = 6 + (2 + k) by omega, t1, t2, show tot [0, 0] 2 = 0 by decide]
  omega

set_option maxHeartbeats 1000000 in
theorem fieldOf_any (b off c : Nat) (a : Option Addr) (m d : Nat) (hs ys : List Int) (w : World) (hn : hs.length = 8) (hm : ys.length = m) (hB : Bs w (some ⟨b, off, none⟩) hs) (hY : Bs w a ys) (hc : 8 ≤ c) :
    Calls Tryz.prog 134 #[.slice (some ⟨b, off, none⟩) 8 c, .slice a m d] w fun e w' => e = .returned (.int .u16 (fd (su (zf (hs ++ ys)) (8 + m)))) ∧ Dr w w' := by
  have l6 : (hs.take 6).length = 6 := by rw [List.length_take, hn]; rfl
  have K1 : Hid (∀ u : World, Dr w u → Calls Tryz.prog 187 #[.slice (some ⟨b, off, none⟩) 6 c] u fun e w' => e = .returned (.int .u16 (fo (tot (hs.take 6) 6))) ∧ Dr u w') := Hid.mk' (fun u hu => by
    have h1 := sum_any (some ⟨b, off, none⟩) c (hs.take 6) u ((hu.bs hB).take 6 (by omega))
    rw [l6] at h1
    exact h1)
  have K3 : Hid (∀ u : World, Dr w u → Calls Tryz.prog 187 #[.slice a m d] u fun e w' => e = .returned (.int .u16 (fo (tot ys m))) ∧ Dr u w') := Hid.mk' (fun u hu => by
    have h1 := sum_any a d ys u (hu.bs hY)
    rw [hm] at h1
    exact h1)
  have b1 := (tot_bd (fun z hz => hB.bytes z (List.mem_of_mem_take hz) : Bytes (hs.take 6)) 6).1
  have b3 := (tot_bd hY.bytes m).1
  have HR : Hid (fo (fo (tot (hs.take 6) 6) + fo (tot ys m)) = su (zf (hs ++ ys)) (8 + m)) := Hid.mk' (by
    unfold su
    rw [tot_zf hs ys hn m, fo_add _ _ b1 (fo_nonneg _), fo_add' _ _ b1 b3])
  rw [← HR.out]
  generalize tot (hs.take 6) 6 = A at *
  generalize tot ys m = D at *
  have A0 := fo_nonneg A
  have A1 := fo_le A
  have D0 := fo_nonneg D
  have D1 := fo_le D
  have S0 := fo_nonneg (fo A + fo D)
  have S1 := fo_le (fo A + fo D)
  have hcc : (8 : Int) ≤ (c : Int) := by omega
  have hc6 : (6 : Int) ≤ (c : Int) := by omega
  clear HR hB hY hn hm l6 b1 b3
  obtain ⟨T, HT⟩ : ∃ T, Hid (fo (fo A + fo D) = T) := ⟨_, rfl⟩
  rw [HT.out] at S0 S1 ⊢
  by_cases hz : 65535 - T = 0
  · unfold fd
    rw [if_pos hz]
    have hzb : (65535 - T == 0) = true := by simpa using hz
    go_enter Tryz.func134, Tryz.ntmps134
    go_wp2_with fail
    refine (K1.out w (Dr.refl w)).mono ?_
    rintro e w2 ⟨rfl, d2⟩
    have D2 := Hid.mk' d2
    clear d2
    go_wp2_with fail
    refine (K3.out w2 D2.out).mono ?_
    rintro e w3 ⟨rfl, d3⟩
    have D3 := Hid.mk' (D2.out.trans d3)
    clear d3
    go_wp2_with (go_at_call 186; refine (add_any _ _ _ A0 A1 D0 D1).mono ?_; rw [HT.out]; rintro e w4 ⟨rfl, rfl⟩)
    go_ret
    exact ⟨rfl, D3.out⟩
  · unfold fd
    rw [if_neg hz]
    have hzb : (65535 - T == 0) = false := by simpa using hz
    go_enter Tryz.func134, Tryz.ntmps134
    go_wp2_with fail
    refine (K1.out w (Dr.refl w)).mono ?_
    rintro e w2 ⟨rfl, d2⟩
    have D2 := Hid.mk' d2
    clear d2
    go_wp2_with fail
    refine (K3.out w2 D2.out).mono ?_
    rintro e w3 ⟨rfl, d3⟩
    have D3 := Hid.mk' (D2.out.trans d3)
    clear d3
    go_wp2_with (go_at_call 186; refine (add_any _ _ _ A0 A1 D0 D1).mono ?_; rw [HT.out]; rintro e w4 ⟨rfl, rfl⟩)
    go_ret
    exact ⟨rfl, D3.out⟩

theorem dgB_length (sp dp m f : Int) : (dgB sp dp m f).length = 8 := rfl

theorem dgB_bytes {sp dp m f : Int} (h : Dg sp dp) (m0 : 0 ≤ m) (m1 : m ≤ 65527) (f0 : 0 ≤ f) (f1 : f ≤ 65535) : Bytes (dgB sp dp m f) := by
  obtain ⟨s0, s1, d0, d1⟩ := h
  intro z hz
  simp [dgB] at hz
  rcases hz with rfl | rfl | rfl | rfl | rfl | rfl | rfl | rfl <;> omega

theorem zf_dgB (sp dp m f : Int) (ys : List Int) : zf (dgB sp dp m f ++ ys) = dgB sp dp m 0 ++ ys := rfl

theorem dgF_bd (sp dp : Int) (ys : List Int) : 0 ≤ dgF sp dp ys ∧ dgF sp dp ys ≤ 65535 := by
  have := su_range (dgB sp dp ys.length 0 ++ ys) (8 + ys.length)
  exact fd_bd this.1 this.2

set_option maxHeartbeats 400000 in
theorem lbytes_no (L : List Value) (a : Option Addr) (n c : Nat) (w : World) (hlc : L.length = 2) (hn : ¬ n ≤ 2040) (hl : n ≤ 140737488355328) :
    Calls Tryz.prog 107 #[.agg L.toArray, .slice a n c] w fun e w' => e = .returned (.tuple #[.slice none 0 0, .int .i64 5]) ∧ Below w.heap.size w w' := by
  have hlc := Hid.mk' hlc
  obtain ⟨W1, hW1⟩ : ∃ W1, W1 = w.alloc (.cells L.toArray 44) := ⟨_, rfl⟩
  have B1 : Hid (Below w.heap.size w W1) := by rw [hW1]; exact (Below.refl _ _).alloc (Nat.le_refl _) _
  have HW := Hid.mk' hW1.symm
  clear hW1
  go_enter Tryz.func107, Tryz.ntmps107
  go_wp2_with fail
  go_ret2
  exact ⟨rfl, by rw [HW.out]; exact B1.out⟩

/-- What lies in memory while Bytes goes on: the header's box, the row that is written. -/
structure SbJ (w : World) (L : List Value) (g : Nat) (X : List Value) (u : World) : Prop where
  box : u.heap[w.heap.size]? = some (.cells L.toArray 44 (0, 0))
  row : u.heap[g]? = some (.cells X.toArray 5 (0, 0))
  old : Below w.heap.size w u
  lt : w.heap.size < g

theorem SbJ.put {w u u' : World} {L X X' : List Value} {g : Nat} (h : SbJ w L g X u) (x : u'.heap[g]? = some (.cells X'.toArray 5 (0, 0))) (k : Kept (fun j => j = g) u u') : SbJ w L g X' u' :=
  ⟨(k.block w.heap.size (Array.getElem?_eq_some_iff.1 h.box).1 (by have := h.lt; omega)).trans h.box, x, h.old.trans (k.below h.old.size (fun j hj => by have := h.lt; omega)), h.lt⟩

theorem SbJ.dr {w u u' : World} {L X : List Value} {g : Nat} (h : SbJ w L g X u) (d : Dr u u') : SbJ w L g X u' :=
  ⟨by rw [d.heap]; exact h.box, by rw [d.heap]; exact h.row, h.old.trans (d.below _), h.lt⟩

set_option maxHeartbeats 1000000 in
theorem lbytes_ok (sp dp : Int) (a : Option Addr) (n c : Nat) (ys : List Int) (w : World) (h : Dg sp dp) (hn : n ≤ 2040) (hy : ys.length = n) (hY : Bs w a ys) :
    Calls Tryz.prog 107 #[.agg (dgC sp dp).toArray, .slice a n c] w fun e w' => ∃ v, e = .returned (.tuple #[v, .int .i64 0]) ∧ w'.ownsRow w.heap.size 5 1 v 8 ((dgB sp dp ys.length (dgF sp dp ys)).map (Value.int .u8)) ∧ Below w.heap.size w w' := by
  obtain ⟨L, HL⟩ : ∃ L, Hid (dgC sp dp = L) := ⟨_, rfl⟩
  rw [HL.out]
  have CE : Hid (∀ w' : World, w'.heap[w.heap.size]? = some (.cells L.toArray 44 (0, 0)) → w'.cell? ⟨w.heap.size, 0, none⟩ = some (.int .u16 sp) ∧ w'.cell? ⟨w.heap.size, 1, none⟩ = some (.int .u16 dp)) := Hid.mk' (fun w' hh => by
    rw [← HL.out] at hh
    refine ⟨?_, ?_⟩ <;> exact cell_of_row w' _ _ _ _ _ hh)
  obtain ⟨Z, HZ⟩ : ∃ Z, Hid ((List.replicate 8 (0 : Int)).map (Value.int .u8) = Z) := ⟨_, rfl⟩
  have hmk : ∀ u : World, (Instr.makeSlice 22 (.int .i64 8) (.int .i64 8)).run Tryz.prog u = .ok (.slice (some ⟨u.heap.size, 0, none⟩) 8 8) (u.alloc (.cells Z.toArray 5)) := by
    rw [← HZ.out]; exact make_bytes 8 (by omega)
  have HZL : Hid (Z.length = 8) := Hid.mk' (by rw [← HZ.out]; simp)
  have hF := dgF_bd sp dp ys
  have HFE : Hid (fd (su (zf (dgB sp dp n 0 ++ ys)) (8 + n)) = dgF sp dp ys) := Hid.mk' (by rw [zf_dgB, ← hy]; rfl)
  have HSB : Hid (Bytes (dgB sp dp n 0)) := Hid.mk' (dgB_bytes h (by omega) (by omega) (by omega) (by omega))
  obtain ⟨F, HF⟩ : ∃ F, Hid (dgF sp dp ys = F) := ⟨_, rfl⟩
  rw [HF.out] at HFE hF ⊢
  rw [hy]
  obtain ⟨F0, F1⟩ := hF
  obtain ⟨s0, s1, d0, d1⟩ := h
  have HY := Hid.mk' hY
  have HN := Hid.mk' hy
  clear hY hy
  obtain ⟨W1, hW1⟩ : ∃ W1, W1 = w.alloc (.cells L.toArray 44) := ⟨_, rfl⟩
  have R1 : Hid (W1.heap[w.heap.size]? = some (.cells L.toArray 44 (0, 0))) := by rw [hW1]; exact heap_alloc_new w _
  have B1 : Hid (Below w.heap.size w W1) := by rw [hW1]; exact (Below.refl _ _).alloc (Nat.le_refl _) _
  have HSZ : w.heap.size < W1.heap.size := (Array.getElem?_eq_some_iff.1 R1.out).1
  have HW := Hid.mk' hW1.symm
  have hbig : IntKind.u16.wrap (8 + (n : Int)) = 8 + (n : Int) := by rw [IntKind.wrap_u16]; omega
  have L0 : L[0]? = some (.int .u16 sp) := by rw [← HL.out]; rfl
  have L0' : L.toArray[0]? = some (.int .u16 sp) := by rw [← HL.out]; rfl
  clear hW1
  go_enter Tryz.func107, Tryz.ntmps107
  go_wp2_with fail
  rw [HW.out]
  obtain ⟨w3, hw3⟩ : ∃ w3, w3 = W1.alloc (.cells Z.toArray 5) := ⟨_, rfl⟩
  rw [← hw3]
  have HE1 : Hid (w.heap.size + 1 = W1.heap.size) := Hid.mk' (by rw [← HW.out]; simp)
  rw [HE1.out]
  have J3 : Hid (SbJ w L W1.heap.size Z w3) := Hid.mk' (by rw [hw3]; exact ⟨(Below.heap_alloc _ _ _ HSZ).trans R1.out, heap_alloc_new W1 _, B1.out.alloc B1.out.size _, HSZ⟩)
  clear hw3 R1 B1 hmk L0 L0' HE1 HSZ
  obtain ⟨g, HG⟩ : ∃ g, Hid (W1.heap.size = g) := ⟨_, rfl⟩
  rw [HG.out] at J3 ⊢
  refine (put16_any g 8 0 sp _ 5 w3 J3.out.row (by first | exact HZL.out | (simp only [List.length_set]; exact HZL.out)) (by omega) (by omega) (by omega) (by omega)).mono ?_
  rintro e w4 ⟨rfl, x4, k4⟩
  have J4 := Hid.mk' (J3.out.put x4 k4)
  obtain ⟨e0, e1⟩ := CE.out _ J4.out.box
  clear x4 k4 J3
  go_wp2_with fail
  clear e0 e1
  refine (put16_any g 8 2 dp _ 5 w4 J4.out.row (by first | exact HZL.out | (simp only [List.length_set]; exact HZL.out)) (by omega) (by omega) (by omega) (by omega)).mono ?_
  rintro e w5 ⟨rfl, x5, k5⟩
  have J5 := Hid.mk' (J4.out.put x5 k5)
  obtain ⟨e0, e1⟩ := CE.out _ J5.out.box
  clear x5 k5 J4
  go_wp2_with fail
  clear e0 e1
  refine (put16_any g 8 4 (8 + (n : Int)) _ 5 w5 J5.out.row (by first | exact HZL.out | (simp only [List.length_set]; exact HZL.out)) (by omega) (by omega) (by omega) (by omega)).mono ?_
  rintro e w6 ⟨rfl, x6, k6⟩
  have J6 := Hid.mk' (J5.out.put x6 k6)
  obtain ⟨e0, e1⟩ := CE.out _ J6.out.box
  clear x6 k6 J5
  go_wp2_with fail
  clear e0 e1
  have X9 : Hid (w6.heap[g]? = some (.cells ((dgB sp dp n 0).map (Value.int .u8)).toArray 5 (0, 0))) := Hid.mk' (by
    rw [J6.out.row, ← HZ.out]; rfl)
  have J10 : Hid (SbJ w L g ((dgB sp dp n 0).map (Value.int .u8)) w6) := Hid.mk' ⟨J6.out.box, X9.out, J6.out.old, J6.out.lt⟩
  have S10 : Hid (Bs w6 (some ⟨g, 0, none⟩) (dgB sp dp n 0)) := Hid.mk' (bs_block (A := []) (D := []) (t := 5) (by rw [X9.out]; simp) 0 rfl HSB.out (by rw [dgB_length]; omega))
  clear J6 X9
  have key := fieldOf_any g 0 8 a n c (dgB sp dp n 0) ys w6 rfl HN.out S10.out (HY.out.below J10.out.old) (by omega)
  rw [HFE.out] at key
  refine key.mono ?_
  rintro e w11 ⟨rfl, d11⟩
  have J11 := Hid.mk' (J10.out.dr d11)
  clear key d11 J10 S10
  go_wp2_with fail
  refine (put16_any g 8 6 F _ 5 w11 J11.out.row (by rw [List.length_map]; rfl) (by omega) (by omega) F0 F1).mono ?_
  rintro e w12 ⟨rfl, x12, k12⟩
  have J12 := Hid.mk' (J11.out.put x12 k12)
  have O12 : Hid (w12.ownsRow w.heap.size 5 1 (.slice (some ⟨g, 0, none⟩) 8 8) 8 ((dgB sp dp n F).map (Value.int .u8))) := Hid.mk' (by
    refine own_block ?_ (Nat.le_of_lt J12.out.lt) (by rw [List.length_map]; rfl) (by omega)
    rw [x12]; rfl)
  have B12 := Hid.mk' J12.out.old
  clear x12 k12 J11 J12
  go_wp2_with fail
  go_ret2
  exact ⟨_, rfl, O12.out, B12.out⟩

/-- Cells of a header that is none. -/
def hd0 : List Value := [.int .u16 0, .int .u16 0]

theorem hd0_one : hd0.toArray.all (·.oneCell') = true := dgC_one 0 0

/-- What holds where Read has only looked: the box of its result, which is none yet. -/
structure RdJ (w u : World) : Prop where
  box : u.heap[w.heap.size]? = some (.cells hd0.toArray 44 (0, 0))
  old : Below w.heap.size w u

theorem RdJ.first (w : World) : RdJ w (w.alloc (.cells hd0.toArray 44)) := ⟨heap_alloc_new w _, (Below.refl _ _).alloc (Nat.le_refl _) _⟩

theorem RdJ.below {w u v : World} (h : RdJ w u) (b : Below u.heap.size u v) : RdJ w v :=
  ⟨(b.block _ (Array.getElem?_eq_some_iff.1 h.box).1).trans h.box, h.old.trans (b.mono h.old.size)⟩

theorem RdJ.dr {w u v : World} (h : RdJ w u) (d : Dr u v) : RdJ w v := h.below (d.below _)

theorem RdJ.there {w u : World} (h : RdJ w u) : u.there w.heap.size 0 hd0.toArray.size := there_block h.box

/-- .. and where a header is stored there. -/
theorem RdJ.done {w u : World} (h : RdJ w u) (M : List Value) (hl : M.length = 2) : (u.setCells w.heap.size 0 M).heap[w.heap.size]? = some (.cells M.toArray 44 (0, 0)) ∧ Below w.heap.size w (u.setCells w.heap.size 0 M) :=
  ⟨heap_whole (L := hd0) h.box (by rw [hl]; rfl), h.old.trans (((Kept.refl (fun k => k = w.heap.size) u).setCells w.heap.size 0 M (fun _ => rfl)).below h.old.size (fun k hk => by omega))⟩

set_option maxHeartbeats 400000 in
theorem lread_short (a : Option Addr) (n c : Nat) (w : World) (hn : n < 8) :
    Calls Tryz.prog 78 #[.slice a n c] w fun e w' => e = .returned (.tuple #[.agg hd0.toArray, .int .i64 6]) ∧ Below w.heap.size w w' := by
  have J1 := Hid.mk' (RdJ.first w)
  go_enter Tryz.func78, Tryz.ntmps78
  go_wp2_with (first | refine wpList_store_mid rfl 44 _ _ rfl w.heap.size 0 hd0.toArray rfl rfl J1.out.there info_hd hd0_one ?_)
  refine ret_cell_tmp rfl w.heap.size 44 hd0 (0, 0) _ rfl (J1.out.done hd0 rfl).1 Tryz.underlying44 rfl info_hd rfl ?_
  exact ⟨rfl, (J1.out.done hd0 rfl).2⟩

/-- Read's first question. -/
abbrev rdQ (zs : List Int) : Prop := rdV zs 4 = (zs.length : Int)

set_option maxHeartbeats 1000000 in
theorem lread_bad (b off : Nat) (n c : Nat) (zs : List Int) (w : World) (hz : zs.length = n) (hB : Bs w (some ⟨b, off, none⟩) zs) (hn : 8 ≤ n) (hq : ¬ rdQ zs) :
    Calls Tryz.prog 78 #[.slice (some ⟨b, off, none⟩) n c] w fun e w' => e = .returned (.tuple #[.agg hd0.toArray, .int .i64 100]) ∧ Below w.heap.size w w' := by
  have hln : n ≤ 140737488355328 := by rw [← hz]; exact hB.len
  have J1 := Hid.mk' (RdJ.first w)
  have KG : Hid (∀ (u : World) (k : Nat), RdJ w u → k + 2 ≤ n → Calls Tryz.prog 133 #[.slice (some ⟨b, off, none⟩) n c, .int .i64 k] u fun e u' => e = .returned (.int .u16 (rdV zs k)) ∧ Dr u u') := Hid.mk' (fun u k h hk => get16_any b off n c k zs u hz (hB.below h.old) hk)
  unfold rdQ at hq
  rw [hz] at hq
  have v4 := rdV_bd hB.bytes 4
  clear hB hz
  obtain ⟨V4, H4⟩ : ∃ V, Hid (rdV zs 4 = V) := ⟨_, rfl⟩
  rw [H4.out] at hq v4
  obtain ⟨v40, v41⟩ := v4
  have hqb : (V4 != (n : Int)) = true := by simpa using hq
  go_enter Tryz.func78, Tryz.ntmps78
  go_wp2_with (first | (go_at_call_of 133 (Value.int IntKind.i64 4); refine (KG.out _ 4 J1.out (by omega)).mono ?_; rw [H4.out]; rintro e w2 ⟨rfl, d2⟩; have J2 := Hid.mk' (J1.out.dr d2); clear d2) | refine wpList_store_mid rfl 44 _ _ rfl w.heap.size 0 hd0.toArray rfl rfl J2.out.there info_hd hd0_one ?_)
  refine ret_cell_tmp rfl w.heap.size 44 hd0 (0, 0) _ rfl (J2.out.done hd0 rfl).1 Tryz.underlying44 rfl info_hd rfl ?_
  exact ⟨rfl, (J2.out.done hd0 rfl).2⟩

/-- The field that bytes should have. -/
def rdF (zs : List Int) : Int := fd (su (zf zs) zs.length)

/-- fieldOf of a packet's first eight bytes and the others. -/
theorem field_pk (b off : Nat) (n c c9 : Nat) (A0 : Addr) (zs : List Int) (u : World) (hz : zs.length = n) (hB : Bs u (some ⟨b, off, none⟩) zs) (hn : 8 ≤ n) (hc : n ≤ c) (hA : (if c = 8 then some (⟨b, off, none⟩ : Addr) else some ⟨b, off + 8, none⟩) = some A0) :
    Calls Tryz.prog 134 #[.slice (some ⟨b, off, none⟩) 8 c, .slice (some A0) (n - 8) c9] u fun e u' => e = .returned (.int .u16 (rdF zs)) ∧ Dr u u' := by
  have SD : Bs u (some A0) (zs.drop 8) := by
    rw [← hA]
    split
    · rename_i hq
      have : zs.drop 8 = [] := List.drop_eq_nil_of_le (by omega)
      rw [this]
      exact bs_nil _ _
    · exact hB.drop 8
  have key := fieldOf_any b off c (some A0) (n - 8) c9 (zs.take 8) (zs.drop 8) u (by rw [List.length_take, hz]; omega) (by rw [List.length_drop, hz]) (hB.take 8 (by omega)) SD (by omega)
  rw [List.take_append_drop, show 8 + (n - 8) = zs.length by omega] at key
  exact key

set_option maxHeartbeats 1000000 in
theorem lread_sum (b off : Nat) (n c : Nat) (zs : List Int) (w : World) (hz : zs.length = n) (hB : Bs w (some ⟨b, off, none⟩) zs) (hn : 8 ≤ n) (hc : n ≤ c) (hq : rdQ zs) (hf : ¬ rdV zs 6 = rdF zs) :
    Calls Tryz.prog 78 #[.slice (some ⟨b, off, none⟩) n c] w fun e w' => e = .returned (.tuple #[.agg hd0.toArray, .int .i64 110]) ∧ Below w.heap.size w w' := by
  have hln : n ≤ 140737488355328 := by rw [← hz]; exact hB.len
  have J1 := Hid.mk' (RdJ.first w)
  have KG : Hid (∀ (u : World) (k : Nat), RdJ w u → k + 2 ≤ n → Calls Tryz.prog 133 #[.slice (some ⟨b, off, none⟩) n c, .int .i64 k] u fun e u' => e = .returned (.int .u16 (rdV zs k)) ∧ Dr u u') := Hid.mk' (fun u k h hk => get16_any b off n c k zs u hz (hB.below h.old) hk)
  obtain ⟨A0, hA0⟩ : ∃ A0 : Addr, (if c = 8 then some (⟨b, off, none⟩ : Addr) else some ⟨b, off + 8, none⟩) = some A0 := by split <;> exact ⟨_, rfl⟩
  have KF : Hid (∀ (u : World) (c9 : Nat), RdJ w u → Calls Tryz.prog 134 #[.slice (some ⟨b, off, none⟩) 8 c, .slice (some A0) (n - 8) c9] u fun e u' => e = .returned (.int .u16 (rdF zs)) ∧ Dr u u') := Hid.mk' (fun u c9 h => field_pk b off n c c9 A0 zs u hz (hB.below h.old) hn hc hA0)
  unfold rdQ at hq
  rw [hz] at hq
  have H4 := Hid.mk' hq
  clear hB hz hq
  obtain ⟨V6, H6⟩ : ∃ V, Hid (rdV zs 6 = V) := ⟨_, rfl⟩
  obtain ⟨F, HF⟩ : ∃ F, Hid (rdF zs = F) := ⟨_, rfl⟩
  rw [H6.out, HF.out] at hf
  rw [HF.out] at KF
  have hfb : (V6 != F) = true := by simpa using hf
  have hnb : ((n : Int) != (n : Int)) = false := by simp
  have hcn : (n : Int) ≤ (c : Int) := by omega
  have hcS : (8 : Int) ≤ (n : Int) := by omega
  have hcc : (8 : Int) ≤ (c : Int) := by omega
  have K6 : Hid (∀ u : World, RdJ w u → Calls Tryz.prog 133 #[.slice (some ⟨b, off, none⟩) n c, .int .i64 6] u fun e u' => e = .returned (.int .u16 V6) ∧ Dr u u') := Hid.mk' (fun u h => by rw [← H6.out]; exact KG.out u 6 h (by omega))
  go_enter Tryz.func78, Tryz.ntmps78
  go_wp2_with (first | (go_at_call_of 133 (Value.int IntKind.i64 4); refine (KG.out _ 4 J1.out (by omega)).mono ?_; rw [H4.out]; rintro e w3 ⟨rfl, d2⟩; have J3 := Hid.mk' (J1.out.dr d2); clear d2))
  go_quiet (first | (go_at_call 133; exact Calls.quiet_of (K6.out _ (J3.out.dr ⟨_, rfl⟩))) | (go_at_call 134; exact Calls.quiet_of (KF.out _ _ (J3.out.dr ⟨_, rfl⟩))))
  have J4 : Hid (RdJ w (w3.drewN nq)) := Hid.mk' (J3.out.dr ⟨_, rfl⟩)
  generalize w3.drewN nq = w4 at *
  go_wp2_with (first | refine wpList_store_mid rfl 44 _ _ rfl w.heap.size 0 hd0.toArray rfl rfl J4.out.there info_hd hd0_one ?_)
  refine ret_cell_tmp rfl w.heap.size 44 hd0 (0, 0) _ rfl (J4.out.done hd0 rfl).1 Tryz.underlying44 rfl info_hd rfl ?_
  exact ⟨rfl, (J4.out.done hd0 rfl).2⟩

/-- The header that bytes begin with: its cells. -/
def rdC (zs : List Int) : List Value := dgC (rdV zs 0) (rdV zs 2)

set_option maxHeartbeats 1000000 in
theorem lread_ok (b off : Nat) (n c : Nat) (zs : List Int) (w : World) (hz : zs.length = n) (hB : Bs w (some ⟨b, off, none⟩) zs) (hn : 8 ≤ n) (hc : n ≤ c) (hq : rdQ zs) (hf : rdV zs 6 = rdF zs) :
    Calls Tryz.prog 78 #[.slice (some ⟨b, off, none⟩) n c] w fun e w' => e = .returned (.tuple #[.agg (rdC zs).toArray, .int .i64 0]) ∧ Below w.heap.size w w' := by
  obtain ⟨RES, HRES⟩ : ∃ RES, Hid (rdC zs = RES) := ⟨_, rfl⟩
  rw [HRES.out]
  have hln : n ≤ 140737488355328 := by rw [← hz]; exact hB.len
  have J1 := Hid.mk' (RdJ.first w)
  have KG : Hid (∀ (u : World) (k : Nat), RdJ w u → k + 2 ≤ n → Calls Tryz.prog 133 #[.slice (some ⟨b, off, none⟩) n c, .int .i64 k] u fun e u' => e = .returned (.int .u16 (rdV zs k)) ∧ Dr u u') := Hid.mk' (fun u k h hk => get16_any b off n c k zs u hz (hB.below h.old) hk)
  obtain ⟨A0, hA0⟩ : ∃ A0 : Addr, (if c = 8 then some (⟨b, off, none⟩ : Addr) else some ⟨b, off + 8, none⟩) = some A0 := by split <;> exact ⟨_, rfl⟩
  have KF : Hid (∀ (u : World) (c9 : Nat), RdJ w u → Calls Tryz.prog 134 #[.slice (some ⟨b, off, none⟩) 8 c, .slice (some A0) (n - 8) c9] u fun e u' => e = .returned (.int .u16 (rdF zs)) ∧ Dr u u') := Hid.mk' (fun u c9 h => field_pk b off n c c9 A0 zs u hz (hB.below h.old) hn hc hA0)
  unfold rdQ at hq
  rw [hz] at hq
  have H4 := Hid.mk' hq
  clear hB hz hq
  obtain ⟨V6, H6⟩ : ∃ V, Hid (rdV zs 6 = V) := ⟨_, rfl⟩
  obtain ⟨F, HF⟩ : ∃ F, Hid (rdF zs = F) := ⟨_, rfl⟩
  rw [H6.out, HF.out] at hf
  rw [HF.out] at KF
  subst hf
  have hfb : (V6 != V6) = false := by simp
  have hnb : ((n : Int) != (n : Int)) = false := by simp
  have hcn : (n : Int) ≤ (c : Int) := by omega
  have hcS : (8 : Int) ≤ (n : Int) := by omega
  have hcc : (8 : Int) ≤ (c : Int) := by omega
  have K6 : Hid (∀ u : World, RdJ w u → Calls Tryz.prog 133 #[.slice (some ⟨b, off, none⟩) n c, .int .i64 6] u fun e u' => e = .returned (.int .u16 V6) ∧ Dr u u') := Hid.mk' (fun u h => by rw [← H6.out]; exact KG.out u 6 h (by omega))
  go_enter Tryz.func78, Tryz.ntmps78
  go_wp2_with (first | (go_at_call_of 133 (Value.int IntKind.i64 4); refine (KG.out _ 4 J1.out (by omega)).mono ?_; rw [H4.out]; rintro e w3 ⟨rfl, d2⟩; have J3 := Hid.mk' (J1.out.dr d2); clear d2))
  go_quiet (first | (go_at_call 133; exact Calls.quiet_of (K6.out _ (J3.out.dr ⟨_, rfl⟩))) | (go_at_call 134; exact Calls.quiet_of (KF.out _ _ (J3.out.dr ⟨_, rfl⟩))))
  have J4 : Hid (RdJ w (w3.drewN nq)) := Hid.mk' (J3.out.dr ⟨_, rfl⟩)
  generalize w3.drewN nq = w4 at *
  obtain ⟨V0, H0⟩ : ∃ V, Hid (rdV zs 0 = V) := ⟨_, rfl⟩
  obtain ⟨V2, H2⟩ : ∃ V, Hid (rdV zs 2 = V) := ⟨_, rfl⟩
  have HM : Hid (dgC V0 V2 = RES) := Hid.mk' (by rw [← HRES.out]; unfold rdC; rw [H0.out, H2.out])
  clear J1 J3
  go_wp2_with (first | (go_at_call_of 133 (Value.int IntKind.i64 0); refine (KG.out _ 0 J4.out (by omega)).mono ?_; rw [H0.out]; rintro e w5 ⟨rfl, d5⟩; have J5 := Hid.mk' (J4.out.dr d5); clear d5) | (go_at_call_of 133 (Value.int IntKind.i64 2); refine (KG.out _ 2 J5.out (by omega)).mono ?_; rw [H2.out]; rintro e w6 ⟨rfl, d6⟩; have J6 := Hid.mk' (J5.out.dr d6); clear d6) | refine wpList_store_mid rfl 44 _ _ rfl w.heap.size 0 (dgC V0 V2).toArray rfl rfl J6.out.there info_hd (dgC_one _ _) ?_)
  refine ret_cell_tmp rfl w.heap.size 44 (dgC V0 V2) (0, 0) _ rfl (J6.out.done _ rfl).1 Tryz.underlying44 rfl info_hd rfl ?_
  rw [HM.out]
  exact ⟨rfl, by rw [← HM.out]; exact (J6.out.done _ rfl).2⟩

theorem numB_two (t : Int) (h0 : 0 ≤ t) (h1 : t ≤ 65535) : numB 2 t = [t / 256, t % 256] := by
  simp [numB]; omega

theorem numB_four (t : Int) (h0 : 0 ≤ t) (h1 : t ≤ 4294967295) : numB 4 t = [t / 65536 / 256, t / 65536 % 256, t % 65536 / 256, t % 65536 % 256] := by
  simp [numB]; omega

theorem Kept_block {w w' : World} {g : Nat} {o : Obj} {row : Option Nat} (h : w.heap[g]? = some o) (hg : w.grownBy w' row) (hne : row ≠ some g) : w'.heap[g]? = some o :=
  (hg.block g (Array.getElem?_eq_some_iff.1 h).1 (fun e => hne e.symm)).trans h

/-- What lies in memory while the document's Bytes goes on: the header's box, the row that is appended to. -/
structure RbJ (w : World) (L : List Value) (B : Nat) (v : Value) (k : Nat) (xs : List Int) (u : World) : Prop where
  box : u.heap[w.heap.size]? = some (.cells L.toArray 44 (0, 0))
  own : u.ownsRow B 5 1 v k (xs.map (Value.int .u8))
  old : Below w.heap.size w u
  sz : B ≤ u.heap.size
  lt : w.heap.size < B

theorem RbJ.below {w u u' : World} {L : List Value} {B : Nat} {v : Value} {k : Nat} {xs : List Int} (h : RbJ w L B v k xs u) (b : Below u.heap.size u u') : RbJ w L B v k xs u' :=
  ⟨(b.block _ (Array.getElem?_eq_some_iff.1 h.box).1).trans h.box, Kept.owns h.own (Kept.of_below (S := fun _ => False) b) (fun _ _ h => h), h.old.trans (b.mono h.old.size), Nat.le_trans h.sz b.size, h.lt⟩

theorem RbJ.app {w u u' : World} {L : List Value} {B : Nat} {v v' : Value} {k m : Nat} {xs ys : List Int} (h : RbJ w L B v k xs u) (o : u'.ownsRow B 5 1 v' (k + m) (xs.map (Value.int .u8) ++ ys.map (Value.int .u8))) (g : u.grownBy u' v.ownBlock) : RbJ w L B v' (k + m) (xs ++ ys) u' :=
  ⟨Kept_block h.box g (fun e => by have h1 := (h.own.lt _ e).1; have h2 := h.lt; omega), by rw [List.map_append]; exact o, h.old.grown g h.old.size (fun j hj => Nat.le_trans (Nat.le_of_lt h.lt) (h.own.lt j hj).1), Nat.le_trans h.sz g.size, h.lt⟩

/-- A row of the call's own that there is, as bytes that can be read. -/
theorem bs_row_g {w : World} {base g n c : Nat} {t : TypeId} {zs : List Int} (h : w.ownsRow base t 1 (.slice (some ⟨g, 0, none⟩) n c) n (zs.map (Value.int .u8))) (hb : Bytes zs) (hl : zs.length ≤ 140737488355328) : Bs w (some ⟨g, 0, none⟩) zs := by
  have hn : n = zs.length := by have := h.1; simpa using this.symm
  subst hn
  obtain ⟨a, c', e, hB, -⟩ := bs_own h hb hl
  cases e
  exact hB

set_option maxHeartbeats 1000000 in
theorem rjoin_any (a b : Option Addr) (c d n m : Nat) (xs ys : List Int) (w : World) (hn : xs.length = n) (hm : ys.length = m) (hx : Bs w a xs) (hy : Bs w b ys) (hl : n + m ≤ 140737488355328) :
    Calls Tryz.prog 178 #[.slice a n c, .slice b m d] w fun e w' => ∃ v, e = .returned v ∧ w'.ownsRow w.heap.size 5 1 v (n + m) ((xs ++ ys).map (Value.int .u8)) ∧ Below w.heap.size w w' := by
  have HX := Hid.mk' hx
  have HY := Hid.mk' hy
  have HN := Hid.mk' hn
  have HM := Hid.mk' hm
  clear hx hy hn hm
  have tok : True := trivial
  go_enter Tryz.func178, Tryz.ntmps178
  go_wp2_with (first | (at_builtin; have _t := tok; refine wpList_app_own rfl _ _ rfl w.heap.size (.slice none 0 0) 0 [] rfl (World.ownsRow_nil _ _ _ _) a c n xs rfl HN.out HX.out (by omega) (Nat.le_refl _) ?_; clear _t tok; intro v1 w1 hown hgrow hpl; have B1 : Hid (Below w.heap.size w w1) := ((Below.refl _ _).grown hgrow (Nat.le_refl _) (by intro k hk; simp [Value.ownBlock] at hk)); have O1 := Hid.mk' hown; clear hown hgrow hpl) | (at_builtin; refine wpList_app_own rfl _ _ rfl w.heap.size v1 (0 + n) _ rfl O1.out b d m ys rfl HM.out (HY.out.below B1.out) (by omega) B1.out.size ?_; intro v2 w2 hown hgrow hpl; have B2 : Hid (Below w.heap.size w w2) := (B1.out.grown hgrow B1.out.size (by intro k hk; exact (O1.out.lt k hk).1)); have O2 := Hid.mk' hown; clear hown hgrow hpl))
  go_ret
  exact ⟨_, rfl, by simpa using O2.out, B2.out⟩

theorem rcheck_any (L : List Value) (w : World) : Calls Tryz.prog 175 #[.agg L.toArray] w fun e w' => e = .returned (.int .i64 0) ∧ Below w.heap.size w w' := by
  go_enter Tryz.func175, Tryz.ntmps175
  go_wp2_with fail
  go_ret
  exact ⟨rfl, (Below.refl _ _).alloc (Nat.le_refl _) _⟩

set_option maxHeartbeats 400000 in
theorem rfield_any (a : Option Addr) (cap : Nat) (zs : List Int) (w : World) (hB : Bs w a zs) :
    Calls Tryz.prog 177 #[.slice a zs.length cap] w fun e w' => e = .returned (.int .i64 (fd (su zs zs.length))) ∧ w' = w := by
  have hr := su_range zs zs.length
  have K : Hid (Calls Tryz.prog 171 #[.slice a zs.length cap] w fun e w' => e = .returned (.int .u16 (65535 - su zs zs.length)) ∧ w' = w) := Hid.mk' (reffield_any a cap zs w hB)
  clear hB
  generalize su zs zs.length = T at *
  generalize zs.length = n at *
  obtain ⟨T0, T1⟩ := hr
  unfold fd
  by_cases hz : 65535 - T = 0
  · rw [if_pos hz]
    have hzb : (65535 - T == 0) = true := by simpa using hz
    go_enter Tryz.func177, Tryz.ntmps177
    go_wp2_with fail
    refine (keep_name K.out).mono ?_
    rintro e w' ⟨rfl, rfl⟩
    go_wp2_with fail
    go_ret
    exact ⟨rfl, rfl⟩
  · rw [if_neg hz]
    have hzb : (65535 - T == 0) = false := by simpa using hz
    go_enter Tryz.func177, Tryz.ntmps177
    go_wp2_with fail
    refine (keep_name K.out).mono ?_
    rintro e w' ⟨rfl, rfl⟩
    go_wp2_with fail
    go_ret
    exact ⟨rfl, rfl⟩

set_option maxHeartbeats 400000 in
theorem rbytes_no (L : List Value) (a : Option Addr) (n c : Nat) (w : World) (hlc : L.length = 2) (hn : ¬ n ≤ 2040) (hl : n ≤ 140737488355328) :
    Calls Tryz.prog 117 #[.agg L.toArray, .slice a n c] w fun e w' => e = .returned (.tuple #[.slice none 0 0, .int .i64 5]) ∧ Below w.heap.size w w' := by
  have hlc := Hid.mk' hlc
  have HCK : Hid (∀ u : World, Calls Tryz.prog 175 #[.agg L.toArray] u fun e w' => e = .returned (.int .i64 0) ∧ Below u.heap.size u w') := Hid.mk' (fun u => rcheck_any L u)
  obtain ⟨W1, hW1⟩ : ∃ W1, W1 = w.alloc (.cells L.toArray 44) := ⟨_, rfl⟩
  have R1 : Hid (W1.heap[w.heap.size]? = some (.cells L.toArray 44 (0, 0))) := by rw [hW1]; exact heap_alloc_new w _
  have B1 : Hid (Below w.heap.size w W1) := by rw [hW1]; exact (Below.refl _ _).alloc (Nat.le_refl _) _
  have HW := Hid.mk' hW1.symm
  clear hW1
  go_enter Tryz.func117, Tryz.ntmps117
  go_wp2_with (first | (go_at_call 175; rw [HW.out]; refine (HCK.out W1).mono ?_; rintro e w2 ⟨rfl, b2⟩; have B2 : Hid (Below w.heap.size w w2) := (B1.out.trans (b2.mono B1.out.size)); clear b2) | refine wpList_load_mid rfl 44 _ rfl w.heap.size 0 rfl L _ (by rw [HW.out]; exact range_block R1.out) Tryz.underlying44 rfl (by rw [hlc.out]; exact info_hd) ?_)
  go_ret2
  exact ⟨rfl, B2.out⟩

set_option maxHeartbeats 1000000 in
theorem rbytes_ok (sp dp : Int) (a : Option Addr) (n c : Nat) (ys : List Int) (w : World) (h : Dg sp dp) (hn : n ≤ 2040) (hy : ys.length = n) (hY : Bs w a ys) :
    Calls Tryz.prog 117 #[.agg (dgC sp dp).toArray, .slice a n c] w fun e w' => ∃ v, e = .returned (.tuple #[v, .int .i64 0]) ∧ w'.ownsRow w.heap.size 5 1 v 8 ((dgB sp dp ys.length (dgF sp dp ys)).map (Value.int .u8)) ∧ Below w.heap.size w w' := by
  have hlc : Hid ((dgC sp dp).length = 2) := Hid.mk' rfl
  have HCK : Hid (∀ u : World, Calls Tryz.prog 175 #[.agg (dgC sp dp).toArray] u fun e w' => e = .returned (.int .i64 0) ∧ Below u.heap.size u w') := Hid.mk' (fun u => rcheck_any (dgC sp dp) u)
  obtain ⟨L, HL⟩ : ∃ L, Hid (dgC sp dp = L) := ⟨_, rfl⟩
  rw [HL.out] at hlc HCK ⊢
  have CE : Hid (∀ w' : World, w'.heap[w.heap.size]? = some (.cells L.toArray 44 (0, 0)) → w'.cell? ⟨w.heap.size, 0, none⟩ = some (.int .u16 sp) ∧ w'.cell? ⟨w.heap.size, 1, none⟩ = some (.int .u16 dp)) := Hid.mk' (fun w' hh => by
    rw [← HL.out] at hh
    refine ⟨?_, ?_⟩ <;> exact cell_of_row w' _ _ _ _ _ hh)
  have hF := dgF_bd sp dp ys
  have HFE : Hid (fd (su (dgB sp dp n 0 ++ ys) (8 + n)) = dgF sp dp ys) := Hid.mk' (by rw [← hy]; rfl)
  have HSB : Hid (Bytes (dgB sp dp n 0)) := Hid.mk' (dgB_bytes h (by omega) (by omega) (by omega) (by omega))
  obtain ⟨F, HF⟩ : ∃ F, Hid (dgF sp dp ys = F) := ⟨_, rfl⟩
  rw [HF.out] at HFE hF ⊢
  rw [hy]
  obtain ⟨F0, F1⟩ := hF
  obtain ⟨s0, s1, d0, d1⟩ := h
  have Y0 : Hid (Bytes [0, 0]) := Hid.mk' (by intro z hz; simp at hz; omega)
  have HY := Hid.mk' hY
  have HN := Hid.mk' hy
  clear hY hy
  obtain ⟨W1, hW1⟩ : ∃ W1, W1 = w.alloc (.cells L.toArray 44) := ⟨_, rfl⟩
  have R1 : Hid (W1.heap[w.heap.size]? = some (.cells L.toArray 44 (0, 0))) := by rw [hW1]; exact heap_alloc_new w _
  have B1 : Hid (Below w.heap.size w W1) := by rw [hW1]; exact (Below.refl _ _).alloc (Nat.le_refl _) _
  have HW := Hid.mk' hW1.symm
  clear hW1
  go_enter Tryz.func117, Tryz.ntmps117
  go_wp2_with (first | (go_at_call 175; rw [HW.out]; refine (HCK.out W1).mono ?_; rintro e w2 ⟨rfl, b2⟩; have B2 : Hid (Below w.heap.size w w2) := (B1.out.trans (b2.mono B1.out.size)); have R2 : Hid (w2.heap[w.heap.size]? = some (.cells L.toArray 44 (0, 0))) := ((b2.block _ (Array.getElem?_eq_some_iff.1 R1.out).1).trans R1.out); obtain ⟨e0, e1⟩ := CE.out _ R2.out; clear b2) | refine wpList_load_mid rfl 44 _ rfl w.heap.size 0 rfl L _ (by rw [HW.out]; exact range_block R1.out) Tryz.underlying44 rfl (by rw [hlc.out]; exact info_hd) ?_)
  have J2 : Hid (RbJ w L w2.heap.size (.slice none 0 0) 0 [] w2) := Hid.mk' ⟨R2.out, World.ownsRow_nil _ _ _ _, B2.out, Nat.le_refl _, (Array.getElem?_eq_some_iff.1 R2.out).1⟩
  clear R2 B2 R1 B1 HW
  refine (number_any sp 2 w2 (by omega) (by omega) (by omega)).mono ?_
  rintro e w3 ⟨u3, rfl, hown, b3⟩
  obtain ⟨a3, c3, rfl, s3, -⟩ := bs_own (by rw [numB_length]; exact hown) (numB_bytes 2 sp) (by rw [numB_length]; omega)
  rw [numB_length] at *
  have S3 := Hid.mk' s3
  have J3 := Hid.mk' (J2.out.below b3)
  clear hown b3 s3 J2 e0 e1
  go_wp2_with (at_builtin; refine wpList_app_own rfl _ _ rfl w2.heap.size (.slice none 0 0) (0) _ rfl J3.out.own a3 c3 2 (numB 2 sp) rfl (numB_length 2 _) S3.out (by omega) J3.out.sz ?_; intro v4 w4 hown hgrow hpl; have J4 := Hid.mk' (J3.out.app hown hgrow); obtain ⟨e0, e1⟩ := CE.out _ J4.out.box; clear hown hgrow hpl)
  clear J3 S3
  refine (number_any dp 2 w4 (by omega) (by omega) (by omega)).mono ?_
  rintro e w5 ⟨u5, rfl, hown, b5⟩
  obtain ⟨a5, c5, rfl, s5, -⟩ := bs_own (by rw [numB_length]; exact hown) (numB_bytes 2 dp) (by rw [numB_length]; omega)
  rw [numB_length] at *
  have S5 := Hid.mk' s5
  have J5 := Hid.mk' (J4.out.below b5)
  clear hown b5 s5 J4 e0 e1
  go_wp2_with (at_builtin; refine wpList_app_own rfl _ _ rfl w2.heap.size v4 (0 + 2) _ rfl J5.out.own a5 c5 2 (numB 2 dp) rfl (numB_length 2 _) S5.out (by omega) J5.out.sz ?_; intro v6 w6 hown hgrow hpl; have J6 := Hid.mk' (J5.out.app hown hgrow); obtain ⟨e0, e1⟩ := CE.out _ J6.out.box; clear hown hgrow hpl)
  clear J5 S5
  refine (number_any (8 + (n : Int)) 2 w6 (by omega) (by omega) (by omega)).mono ?_
  rintro e w7 ⟨u7, rfl, hown, b7⟩
  obtain ⟨a7, c7, rfl, s7, -⟩ := bs_own (by rw [numB_length]; exact hown) (numB_bytes 2 (8 + (n : Int))) (by rw [numB_length]; omega)
  rw [numB_length] at *
  have S7 := Hid.mk' s7
  have J7 := Hid.mk' (J6.out.below b7)
  clear hown b7 s7 J6 e0 e1
  go_wp2_with (first | (at_builtin; refine wpList_app_own rfl _ _ rfl w2.heap.size v6 (0 + 2 + 2) _ rfl J7.out.own a7 c7 2 (numB 2 (8 + (n : Int))) rfl (numB_length 2 _) S7.out (by omega) J7.out.sz ?_; intro v8 w8 hown hgrow hpl; have J8 := Hid.mk' (J7.out.app hown hgrow); obtain ⟨e0, e1⟩ := CE.out _ J8.out.box; clear hown hgrow hpl) | (at_builtin; have J8' := Hid.mk' (J8.out.below ((Below.refl w8.heap.size w8).alloc (Nat.le_refl _) (.cells ([0, 0].map (Value.int .u8)).toArray 5))); refine wpList_app_own rfl _ _ rfl w2.heap.size v8 (0 + 2 + 2 + 2) _ rfl J8'.out.own (some ⟨w8.heap.size, 0, none⟩) 2 2 [0, 0] rfl rfl (bs_new w8 [0, 0] 5 Y0.out (by simp)) (by omega) J8'.out.sz ?_; intro v15 w15 hown hgrow hpl; have J15 := Hid.mk' (J8'.out.app hown hgrow); clear hown hgrow hpl))
  clear J7 S7 J8 J8' e0 e1
  have EB : Hid ([] ++ numB 2 sp ++ numB 2 dp ++ numB 2 (8 + (n : Int)) ++ [0, 0] = dgB sp dp n 0) := Hid.mk' (by
    rw [numB_two sp s0 s1, numB_two dp d0 d1, numB_two (8 + (n : Int)) (by omega) (by omega)]; rfl)
  rw [EB.out] at J15
  have K0 : Hid (RbJ w L w2.heap.size v15 8 (dgB sp dp n 0) w15) := J15
  clear J15
  obtain ⟨g, cg, rfl, hcg⟩ := own_some K0.out.own (by omega)
  have hgl := (K0.out.own.lt g rfl).1
  have S0 : Hid (Bs w15 (some ⟨g, 0, none⟩) (dgB sp dp n 0)) := Hid.mk' (bs_row_g K0.out.own HSB.out (by rw [dgB_length]; omega))
  refine (rjoin_any (some ⟨g, 0, none⟩) a cg c 8 n (dgB sp dp n 0) ys w15 rfl HN.out S0.out (HY.out.below K0.out.old) (by omega)).mono ?_
  rintro e u1 ⟨v1, rfl, hown, b1⟩
  have hjl : (dgB sp dp n 0 ++ ys).length = 8 + n := by rw [List.length_append, HN.out]; rfl
  obtain ⟨a1', c1', rfl, s1', -⟩ := bs_own (by rw [hjl]; exact hown) (bytes_append HSB.out HY.out.bytes) (by rw [hjl]; omega)
  rw [hjl]
  have S1 := Hid.mk' s1'
  have K1 := Hid.mk' (K0.out.below b1)
  have HJL := Hid.mk' hjl
  clear hown b1 s1' S0 K0 hjl
  go_wp2_with fail
  have key := rfield_any a1' c1' (dgB sp dp n 0 ++ ys) u1 S1.out
  rw [HJL.out, HFE.out] at key
  have O0 := Hid.mk' K1.out.own
  have O1 := Hid.mk' (O0.out.stored 6 (.int .u8 (F / 256))).1
  have O2 := Hid.mk' (O1.out.stored 7 (.int .u8 (F % 256))).1
  have d6 : u1.cell? ⟨g, 6, none⟩ = some (.int .u8 0) := by rw [O0.out.cellAt 6 (by omega)]; rfl
  have d7 : u1.cell? ⟨g, 7, none⟩ = some (.int .u8 0) := by rw [O0.out.cellAt 7 (by omega)]; rfl
  have f6 := O0.out.frozenAt 6
  have f7 := O0.out.frozenAt 7
  have HGL := Hid.mk' (Nat.le_trans (Nat.le_of_lt K1.out.lt) hgl)
  have B12 : Hid (Below w.heap.size w ((u1.setCell ⟨g, 6, none⟩ (.int .u8 (F / 256))).setCell ⟨g, 7, none⟩ (.int .u8 (F % 256)))) := Hid.mk' ((K1.out.old.setCell (p := ⟨g, 6, none⟩) HGL.out _).setCell (p := ⟨g, 7, none⟩) HGL.out _)
  have HE : Hid ((((dgB sp dp n 0).map (Value.int .u8)).set 6 (.int .u8 (F / 256))).set 7 (.int .u8 (F % 256)) = (dgB sp dp n F).map (Value.int .u8)) := Hid.mk' rfl
  have HO := Hid.mk' (ownsRow_base O2.out (Nat.le_of_lt K1.out.lt))
  rw [HE.out] at HO
  clear hgl hcg O1 O2
  refine key.mono ?_
  rintro e w13 ⟨rfl, rfl⟩
  go_wp2_with fail
  go_ret2
  exact ⟨_, rfl, HO.out, B12.out⟩

set_option maxHeartbeats 400000 in
theorem rread_short (a : Option Addr) (n c : Nat) (w : World) (hn : n < 8) :
    Calls Tryz.prog 124 #[.slice a n c] w fun e w' => e = .returned (.tuple #[.agg hd0.toArray, .int .i64 6]) ∧ Below w.heap.size w w' := by
  go_enter Tryz.func124, Tryz.ntmps124
  go_wp2_with fail
  refine ret_cell_tmp rfl w.heap.size 44 hd0 (0, 0) _ rfl (heap_alloc2_old w _ _) Tryz.underlying44 rfl info_hd rfl ?_
  exact ⟨rfl, ((Below.refl _ _).alloc (Nat.le_refl _) _).alloc (by simp) _⟩

/-- What holds where the document's Read has only looked: the box of its result and the one of none. -/
structure RrJ (w u : World) : Prop where
  box : u.heap[w.heap.size]? = some (.cells hd0.toArray 44 (0, 0))
  non : u.heap[w.heap.size + 1]? = some (.cells hd0.toArray 44 (0, 0))
  old : Below w.heap.size w u

theorem RrJ.first (w : World) : RrJ w ((w.alloc (.cells hd0.toArray 44)).alloc (.cells hd0.toArray 44)) :=
  ⟨heap_alloc2_old w _ _, heap_alloc2_new w _ _, ((Below.refl _ _).alloc (Nat.le_refl _) _).alloc (by simp) _⟩

theorem RrJ.below {w u v : World} (h : RrJ w u) (b : Below u.heap.size u v) : RrJ w v :=
  ⟨(b.block _ (Array.getElem?_eq_some_iff.1 h.box).1).trans h.box, (b.block _ (Array.getElem?_eq_some_iff.1 h.non).1).trans h.non, h.old.trans (b.mono h.old.size)⟩

theorem RrJ.set {w u : World} (h : RrJ w u) {p : Addr} (hp : w.heap.size + 2 ≤ p.block) (x : Value) : RrJ w (u.setCell p x) :=
  ⟨by rw [Go.heap_setCell_other _ _ _ _ (by omega)]; exact h.box, by rw [Go.heap_setCell_other _ _ _ _ (by omega)]; exact h.non, h.old.setCell (p := p) (by omega) _⟩

theorem RrJ.there {w u : World} (h : RrJ w u) : u.there w.heap.size 0 hd0.toArray.size := there_block h.box

theorem RrJ.done {w u : World} (h : RrJ w u) (M : List Value) (hl : M.length = 2) : (u.setCells w.heap.size 0 M).heap[w.heap.size]? = some (.cells M.toArray 44 (0, 0)) ∧ Below w.heap.size w (u.setCells w.heap.size 0 M) :=
  ⟨heap_whole (L := hd0) h.box (by rw [hl]; rfl), h.old.trans (((Kept.refl (fun k => k = w.heap.size) u).setCells w.heap.size 0 M (fun _ => rfl)).below h.old.size (fun k hk => by omega))⟩

theorem RrJ.size {w u : World} (h : RrJ w u) : w.heap.size + 2 ≤ u.heap.size := (Array.getElem?_eq_some_iff.1 h.non).1

set_option maxHeartbeats 1000000 in
theorem rread_bad (b off : Nat) (n c : Nat) (zs : List Int) (w : World) (hz : zs.length = n) (hB : Bs w (some ⟨b, off, none⟩) zs) (hn : 8 ≤ n) (hq : ¬ rdQ zs) :
    Calls Tryz.prog 124 #[.slice (some ⟨b, off, none⟩) n c] w fun e w' => e = .returned (.tuple #[.agg hd0.toArray, .int .i64 100]) ∧ Below w.heap.size w w' := by
  have hln : n ≤ 140737488355328 := by rw [← hz]; exact hB.len
  have KV : Hid (∀ (u : World) (k : Nat), Below w.heap.size w u → k + 2 ≤ n → Calls Tryz.prog 184 #[.slice (some ⟨b, off, none⟩) n c, .int .i64 k, .int .i64 2] u fun e u' => e = .returned (.int .i64 (rdV zs k)) ∧ u = u') := Hid.mk' (fun u k h hk => by
    have h0 := value_any b off n c k 2 zs u hz (hB.below h) (by omega) hk
    rw [show valV zs k 2 = rdV zs k by simp [valV, rdV]] at h0
    exact h0)
  unfold rdQ at hq
  rw [hz] at hq
  clear hB hz
  obtain ⟨V4, H4⟩ : ∃ V, Hid (rdV zs 4 = V) := ⟨_, rfl⟩
  rw [H4.out] at hq
  have hqb : (V4 != (n : Int)) = true := by simpa using hq
  go_enter Tryz.func124, Tryz.ntmps124
  go_wp2_with fail
  obtain ⟨W2, hW2⟩ : ∃ W2, W2 = (w.alloc (.cells #[.int .u16 0, .int .u16 0] 44)).alloc (.cells #[.int .u16 0, .int .u16 0] 44) := ⟨_, rfl⟩
  rw [← hW2]
  have J2 : Hid (RrJ w W2) := Hid.mk' (by rw [hW2]; exact RrJ.first w)
  clear hW2
  refine (KV.out W2 4 J2.out.old (by omega)).mono ?_
  rw [H4.out]
  rintro e w3 ⟨rfl, rfl⟩
  go_wp2_with (first | refine wpList_store_mid rfl 44 _ _ rfl w.heap.size 0 hd0.toArray rfl rfl J2.out.there info_hd hd0_one ?_ | refine wpList_load_mid rfl 44 _ rfl (w.heap.size + 1) 0 rfl hd0 _ (range_block J2.out.non) Tryz.underlying44 rfl info_hd ?_)
  refine ret_cell_tmp rfl w.heap.size 44 hd0 (0, 0) _ rfl (J2.out.done hd0 rfl).1 Tryz.underlying44 rfl info_hd rfl ?_
  exact ⟨rfl, (J2.out.done hd0 rfl).2⟩

set_option maxHeartbeats 1000000 in
theorem rread_sum (b off : Nat) (n c : Nat) (zs : List Int) (w : World) (hz : zs.length = n) (hB : Bs w (some ⟨b, off, none⟩) zs) (hn : 8 ≤ n) (hq : rdQ zs) (hf : ¬ rdV zs 6 = rdF zs) :
    Calls Tryz.prog 124 #[.slice (some ⟨b, off, none⟩) n c] w fun e w' => e = .returned (.tuple #[.agg hd0.toArray, .int .i64 110]) ∧ Below w.heap.size w w' := by
  have hln : n ≤ 140737488355328 := by rw [← hz]; exact hB.len
  have KV : Hid (∀ (u : World) (k : Nat), Below w.heap.size w u → k + 2 ≤ n → Calls Tryz.prog 184 #[.slice (some ⟨b, off, none⟩) n c, .int .i64 k, .int .i64 2] u fun e u' => e = .returned (.int .i64 (rdV zs k)) ∧ u = u') := Hid.mk' (fun u k h hk => by
    have h0 := value_any b off n c k 2 zs u hz (hB.below h) (by omega) hk
    rw [show valV zs k 2 = rdV zs k by simp [valV, rdV]] at h0
    exact h0)
  unfold rdQ at hq
  rw [hz] at hq
  have H4 := Hid.mk' hq
  have HB := Hid.mk' hB
  have HN := Hid.mk' hz
  have hF : 0 ≤ rdF zs ∧ rdF zs ≤ 65535 := by
    have := su_range (zf zs) zs.length
    exact fd_bd this.1 this.2
  have HZB : Hid (Bytes (zf zs)) := Hid.mk' (zf_bytes hB.bytes)
  have HZL : Hid ((zf zs).length = n) := Hid.mk' (by rw [zf_length, hz])
  have HFE : Hid (fd (su (zf zs) n) = rdF zs) := Hid.mk' (by unfold rdF; rw [hz])
  clear hB hz hq
  obtain ⟨F, HF⟩ : ∃ F, Hid (rdF zs = F) := ⟨_, rfl⟩
  rw [HF.out] at hf hF HFE
  obtain ⟨f0, f1⟩ := hF
  obtain ⟨V6, H6⟩ : ∃ V, Hid (rdV zs 6 = V) := ⟨_, rfl⟩
  rw [H6.out] at hf
  have hfb : (V6 != F) = true := by simpa using hf
  have hnb : ((n : Int) != (n : Int)) = false := by simp
  have k6 : (6 : Int) < (n : Int) := by omega
  have k7 : (7 : Int) < (n : Int) := by omega
  go_enter Tryz.func124, Tryz.ntmps124
  go_wp2_with fail
  obtain ⟨W2, hW2⟩ : ∃ W2, W2 = (w.alloc (.cells #[.int .u16 0, .int .u16 0] 44)).alloc (.cells #[.int .u16 0, .int .u16 0] 44) := ⟨_, rfl⟩
  rw [← hW2]
  have J2 : Hid (RrJ w W2) := Hid.mk' (by rw [hW2]; exact RrJ.first w)
  clear hW2
  refine (KV.out W2 4 J2.out.old (by omega)).mono ?_
  rw [H4.out]
  rintro e w3 ⟨rfl, rfl⟩
  go_wp2_with fail
  refine (copy_at (some ⟨b, off, none⟩) n c zs W2 HN.out (HB.out.below J2.out.old) (fun e => by cases e)).mono ?_
  rintro e w3 ⟨v3, rfl, hown, b3⟩
  obtain ⟨g, cg, rfl, hcg⟩ := own_some hown (by omega)
  have J3 := Hid.mk' (J2.out.below b3)
  have hg2 : w.heap.size + 2 ≤ g := Nat.le_trans J2.out.size (hown.lt g rfl).1
  obtain ⟨u6, d6⟩ : ∃ u, w3.cell? ⟨g, 6, none⟩ = some u := ⟨_, by rw [hown.cellAt 6 (by omega), List.getElem?_eq_getElem (by rw [List.length_map, HN.out]; omega)]⟩
  obtain ⟨u7, d7⟩ : ∃ u, w3.cell? ⟨g, 7, none⟩ = some u := ⟨_, by rw [hown.cellAt 7 (by omega), List.getElem?_eq_getElem (by rw [List.length_map, HN.out]; omega)]⟩
  have f6 := hown.frozenAt 6
  have f7 := hown.frozenAt 7
  have O5 := Hid.mk' (((hown.stored 6 (.int .u8 0)).1).stored 7 (.int .u8 0)).1
  rw [← List.map_set, ← List.map_set] at O5
  have J5 : Hid (RrJ w ((w3.setCell ⟨g, 6, none⟩ (.int .u8 0)).setCell ⟨g, 7, none⟩ (.int .u8 0))) := Hid.mk' ((J3.out.set (p := ⟨g, 6, none⟩) hg2 _).set (p := ⟨g, 7, none⟩) hg2 _)
  clear hown b3 hcg hg2 J2 J3
  go_wp2_with fail
  clear d6 d7 f6 f7
  generalize (w3.setCell ⟨g, 6, none⟩ (.int .u8 0)).setCell ⟨g, 7, none⟩ (.int .u8 0) = w5 at *
  refine (KV.out w5 6 J5.out.old (by omega)).mono ?_
  rw [H6.out]
  rintro e w6 ⟨rfl, rfl⟩
  go_wp2_with fail
  have key := rfield_any (some ⟨g, 0, none⟩) cg (zf zs) w5 (bs_row_g (n := n) O5.out HZB.out (by rw [HZL.out]; exact hln))
  rw [HZL.out, HFE.out] at key
  refine (keep_name key).mono ?_
  rintro e w6 ⟨rfl, rfl⟩
  clear key
  go_wp2_with (first | refine wpList_store_mid rfl 44 _ _ rfl w.heap.size 0 hd0.toArray rfl rfl J5.out.there info_hd hd0_one ?_ | refine wpList_load_mid rfl 44 _ rfl (w.heap.size + 1) 0 rfl hd0 _ (range_block J5.out.non) Tryz.underlying44 rfl info_hd ?_)
  refine ret_cell_tmp rfl w.heap.size 44 hd0 (0, 0) _ rfl (J5.out.done hd0 rfl).1 Tryz.underlying44 rfl info_hd rfl ?_
  exact ⟨rfl, (J5.out.done hd0 rfl).2⟩

set_option maxHeartbeats 1000000 in
theorem rread_ok (b off : Nat) (n c : Nat) (zs : List Int) (w : World) (hz : zs.length = n) (hB : Bs w (some ⟨b, off, none⟩) zs) (hn : 8 ≤ n) (hq : rdQ zs) (hf : rdV zs 6 = rdF zs) :
    Calls Tryz.prog 124 #[.slice (some ⟨b, off, none⟩) n c] w fun e w' => e = .returned (.tuple #[.agg (rdC zs).toArray, .int .i64 0]) ∧ Below w.heap.size w w' := by
  have hln : n ≤ 140737488355328 := by rw [← hz]; exact hB.len
  have KV : Hid (∀ (u : World) (k : Nat), Below w.heap.size w u → k + 2 ≤ n → Calls Tryz.prog 184 #[.slice (some ⟨b, off, none⟩) n c, .int .i64 k, .int .i64 2] u fun e u' => e = .returned (.int .i64 (rdV zs k)) ∧ u = u') := Hid.mk' (fun u k h hk => by
    have h0 := value_any b off n c k 2 zs u hz (hB.below h) (by omega) hk
    rw [show valV zs k 2 = rdV zs k by simp [valV, rdV]] at h0
    exact h0)
  unfold rdQ at hq
  rw [hz] at hq
  have H4 := Hid.mk' hq
  have HB := Hid.mk' hB
  have HN := Hid.mk' hz
  have hF : 0 ≤ rdF zs ∧ rdF zs ≤ 65535 := by
    have := su_range (zf zs) zs.length
    exact fd_bd this.1 this.2
  have HZB : Hid (Bytes (zf zs)) := Hid.mk' (zf_bytes hB.bytes)
  have HZL : Hid ((zf zs).length = n) := Hid.mk' (by rw [zf_length, hz])
  have HFE : Hid (fd (su (zf zs) n) = rdF zs) := Hid.mk' (by unfold rdF; rw [hz])
  have v0 := rdV_bd hB.bytes 0
  have v2 := rdV_bd hB.bytes 2
  unfold rdC
  obtain ⟨V0, H0⟩ : ∃ V, Hid (rdV zs 0 = V) := ⟨_, rfl⟩
  obtain ⟨V2, H2⟩ : ∃ V, Hid (rdV zs 2 = V) := ⟨_, rfl⟩
  rw [H0.out] at v0 ⊢
  rw [H2.out] at v2 ⊢
  clear hB hz hq
  obtain ⟨F, HF⟩ : ∃ F, Hid (rdF zs = F) := ⟨_, rfl⟩
  rw [HF.out] at hf hF HFE
  obtain ⟨f0, f1⟩ := hF
  have H6 := Hid.mk' hf
  clear hf
  have hfb : (F != F) = false := by simp
  have hnb : ((n : Int) != (n : Int)) = false := by simp
  have k6 : (6 : Int) < (n : Int) := by omega
  have k7 : (7 : Int) < (n : Int) := by omega
  go_enter Tryz.func124, Tryz.ntmps124
  go_wp2_with fail
  obtain ⟨W2, hW2⟩ : ∃ W2, W2 = (w.alloc (.cells #[.int .u16 0, .int .u16 0] 44)).alloc (.cells #[.int .u16 0, .int .u16 0] 44) := ⟨_, rfl⟩
  rw [← hW2]
  have J2 : Hid (RrJ w W2) := Hid.mk' (by rw [hW2]; exact RrJ.first w)
  clear hW2
  refine (KV.out W2 4 J2.out.old (by omega)).mono ?_
  rw [H4.out]
  rintro e w3 ⟨rfl, rfl⟩
  go_wp2_with fail
  refine (copy_at (some ⟨b, off, none⟩) n c zs W2 HN.out (HB.out.below J2.out.old) (fun e => by cases e)).mono ?_
  rintro e w3 ⟨v3, rfl, hown, b3⟩
  obtain ⟨g, cg, rfl, hcg⟩ := own_some hown (by omega)
  have J3 := Hid.mk' (J2.out.below b3)
  have hg2 : w.heap.size + 2 ≤ g := Nat.le_trans J2.out.size (hown.lt g rfl).1
  obtain ⟨u6, d6⟩ : ∃ u, w3.cell? ⟨g, 6, none⟩ = some u := ⟨_, by rw [hown.cellAt 6 (by omega), List.getElem?_eq_getElem (by rw [List.length_map, HN.out]; omega)]⟩
  obtain ⟨u7, d7⟩ : ∃ u, w3.cell? ⟨g, 7, none⟩ = some u := ⟨_, by rw [hown.cellAt 7 (by omega), List.getElem?_eq_getElem (by rw [List.length_map, HN.out]; omega)]⟩
  have f6 := hown.frozenAt 6
  have f7 := hown.frozenAt 7
  have O5 := Hid.mk' (((hown.stored 6 (.int .u8 0)).1).stored 7 (.int .u8 0)).1
  rw [← List.map_set, ← List.map_set] at O5
  have J5 : Hid (RrJ w ((w3.setCell ⟨g, 6, none⟩ (.int .u8 0)).setCell ⟨g, 7, none⟩ (.int .u8 0))) := Hid.mk' ((J3.out.set (p := ⟨g, 6, none⟩) hg2 _).set (p := ⟨g, 7, none⟩) hg2 _)
  clear hown b3 hcg hg2 J2 J3
  go_wp2_with fail
  clear d6 d7 f6 f7
  generalize (w3.setCell ⟨g, 6, none⟩ (.int .u8 0)).setCell ⟨g, 7, none⟩ (.int .u8 0) = w5 at *
  refine (KV.out w5 6 J5.out.old (by omega)).mono ?_
  rw [H6.out]
  rintro e w6 ⟨rfl, rfl⟩
  go_wp2_with fail
  have key := rfield_any (some ⟨g, 0, none⟩) cg (zf zs) w5 (bs_row_g (n := n) O5.out HZB.out (by rw [HZL.out]; exact hln))
  rw [HZL.out, HFE.out] at key
  refine (keep_name key).mono ?_
  rintro e w6 ⟨rfl, rfl⟩
  clear key
  have e0 : IntKind.u16.wrap V0 = V0 := by rw [IntKind.wrap_u16]; omega
  have e2 : IntKind.u16.wrap V2 = V2 := by rw [IntKind.wrap_u16]; omega
  clear O5
  have J7 : Hid (RrJ w (w5.alloc (.cells #[.int .u16 V0, .int .u16 V2] 44))) := Hid.mk' (J5.out.below ((Below.refl _ _).alloc (Nat.le_refl _) _))
  have Q7 : Hid ((w5.alloc (.cells #[.int .u16 V0, .int .u16 V2] 44)).heap[w5.heap.size]? = some (.cells (dgC V0 V2).toArray 44 (0, 0))) := Hid.mk' (heap_alloc_new w5 _)
  go_wp2_with fail
  refine (KV.out w5 0 J5.out.old (by omega)).mono ?_
  rw [H0.out]
  rintro e w6 ⟨rfl, rfl⟩
  go_wp2_with fail
  refine (KV.out w5 2 J5.out.old (by omega)).mono ?_
  rw [H2.out]
  rintro e w6 ⟨rfl, rfl⟩
  clear J5
  go_wp2_with (first | refine wpList_store_mid rfl 44 _ _ rfl w.heap.size 0 (dgC V0 V2).toArray rfl rfl J7.out.there info_hd (dgC_one _ _) ?_ | refine wpList_load_mid rfl 44 _ rfl w5.heap.size 0 rfl (dgC V0 V2) _ (range_block Q7.out) Tryz.underlying44 rfl info_hd ?_)
  refine ret_cell_tmp rfl w.heap.size 44 (dgC V0 V2) (0, 0) _ rfl (J7.out.done _ rfl).1 Tryz.underlying44 rfl info_hd rfl ?_
  exact ⟨rfl, (J7.out.done _ rfl).2⟩

theorem wf_u16 {z : Int} (h0 : 0 ≤ z) (h1 : z ≤ 65535) : (Lit.int .u16 z).wf = true := by
  have e0 : IntKind.u16.min = 0 := by decide
  have e1 : IntKind.u16.max = 65535 := by decide
  simp [Lit.wf, e0, e1]; omega

theorem kl_dg {sp dp : Int} (h : Dg sp dp) : Tryz.prog.keyLits 3 44 (dgC sp dp) = some ([([Value.int .u16 sp], [Lit.int .u16 sp]), ([Value.int .u16 dp], [Lit.int .u16 dp])].map (·.2)).flatten := by
  refine kl_struct (d := 2) Tryz.underlying44 (by kernel_rfl) _ _ (by simp [dgC]) (by kernel_rfl) rfl (fun j f q hf hq => ?_)
  match j, hf, hq with
  | 0, hf, hq =>
    cases hf; cases hq
    exact ⟨rfl, by kernel_rfl, kl_int Tryz.underlying29 1 sp (wf_u16 h.s0 h.s1)⟩
  | 1, hf, hq =>
    cases hf; cases hq
    exact ⟨rfl, by kernel_rfl, kl_int Tryz.underlying29 1 dp (wf_u16 h.d0 h.d1)⟩
  | j + 2, hf, hq => simp at hq

/-- Cells that are a header's. -/
def Hd (L : List Value) : Prop := ∃ sp dp, L = dgC sp dp ∧ Dg sp dp

theorem hd_len {L : List Value} (h : Hd L) : L.length = 2 := by obtain ⟨sp, dp, rfl, _⟩ := h; rfl

theorem hd_one {L : List Value} (h : Hd L) : L.toArray.all (·.oneCell') = true := by
  obtain ⟨sp, dp, rfl, _⟩ := h
  exact dgC_one _ _

theorem hd_eq {L : List Value} (h : Hd L) (w : World) : (Op.equalIn 10000 44 (.agg L.toArray) (.agg L.toArray)).run Tryz.prog w = .ok true w := by
  obtain ⟨sp, dp, rfl, h⟩ := h
  exact equal_same 3 (by omega) (by kernel_rfl) (by simp only [Value.formed, Tryz.underlying44]; kernel_rfl) 3 (kl_dg h) w

theorem hd_0 : Hd hd0 := ⟨0, 0, rfl, by omega, by omega, by omega, by omega⟩

/-- Check's answer, of cells. -/
def ckE (_L : List Value) : Int := 0

/-- A header's bytes, of cells, ahead of a payload. -/
def hdB : List Value → List Int → List Int
  | [.int _ sp, .int _ dp], ys => dgB sp dp ys.length (dgF sp dp ys)
  | _, _ => []

/-- Bytes' answer. -/
def byE (_L : List Value) (ys : List Int) : Int := if ys.length ≤ 2040 then 0 else 5

def byB (L : List Value) (ys : List Int) : List Int := if byE L ys = 0 then hdB L ys else []

/-- Read's answer. -/
def rdE (zs : List Int) : Int := if zs.length < 8 then 6 else if rdQ zs then (if rdV zs 6 = rdF zs then 0 else 110) else 100

def rdL (zs : List Int) : List Value := if rdE zs = 0 then rdC zs else hd0

theorem h_check (L : List Value) (w : World) (_h : Hd L) : Calls Tryz.prog 106 #[.agg L.toArray] w fun e w' => e = .returned (.int .i64 (ckE L)) ∧ Below w.heap.size w w' := lcheck_any L w

theorem h_rcheck (L : List Value) (w : World) (_h : Hd L) : Calls Tryz.prog 175 #[.agg L.toArray] w fun e w' => e = .returned (.int .i64 (ckE L)) ∧ Below w.heap.size w w' := rcheck_any L w

theorem h_bytes (L : List Value) (a : Option Addr) (n c : Nat) (ys : List Int) (w : World) (h : Hd L) (hy : ys.length = n) (hB : Bs w a ys) :
    Calls Tryz.prog 107 #[.agg L.toArray, .slice a n c] w fun e w' => ∃ v, e = .returned (.tuple #[v, .int .i64 (byE L ys)]) ∧ w'.ownsRow w.heap.size 5 1 v (byB L ys).length ((byB L ys).map (Value.int .u8)) ∧ Below w.heap.size w w' := by
  have hl := hB.len
  obtain ⟨sp, dp, rfl, h⟩ := h
  rw [hy] at hl
  by_cases hn : n ≤ 2040
  · have e1 : byE (dgC sp dp) ys = 0 := by unfold byE; rw [hy, if_pos hn]
    unfold byB
    rw [e1, if_pos rfl]
    exact lbytes_ok sp dp a n c ys w h hn hy hB
  · have e1 : byE (dgC sp dp) ys = 5 := by unfold byE; rw [hy, if_neg hn]
    unfold byB
    rw [e1, if_neg (by omega)]
    refine (lbytes_no _ a n c w rfl hn hl).mono ?_
    rintro e w' ⟨rfl, b⟩
    exact ⟨_, rfl, World.ownsRow_nil _ _ _ _, b⟩

theorem h_rbytes (L : List Value) (a : Option Addr) (n c : Nat) (ys : List Int) (w : World) (h : Hd L) (hy : ys.length = n) (hB : Bs w a ys) :
    Calls Tryz.prog 117 #[.agg L.toArray, .slice a n c] w fun e w' => ∃ v, e = .returned (.tuple #[v, .int .i64 (byE L ys)]) ∧ w'.ownsRow w.heap.size 5 1 v (byB L ys).length ((byB L ys).map (Value.int .u8)) ∧ Below w.heap.size w w' := by
  have hl := hB.len
  obtain ⟨sp, dp, rfl, h⟩ := h
  rw [hy] at hl
  by_cases hn : n ≤ 2040
  · have e1 : byE (dgC sp dp) ys = 0 := by unfold byE; rw [hy, if_pos hn]
    unfold byB
    rw [e1, if_pos rfl]
    exact rbytes_ok sp dp a n c ys w h hn hy hB
  · have e1 : byE (dgC sp dp) ys = 5 := by unfold byE; rw [hy, if_neg hn]
    unfold byB
    rw [e1, if_neg (by omega)]
    refine (rbytes_no _ a n c w rfl hn hl).mono ?_
    rintro e w' ⟨rfl, b⟩
    exact ⟨_, rfl, World.ownsRow_nil _ _ _ _, b⟩

theorem bs_some {w : World} {a : Option Addr} {zs : List Int} (h : Bs w a zs) (hp : 0 < zs.length) : ∃ b off, a = some ⟨b, off, none⟩ := by
  rcases h.lies with h0 | ⟨b, off, e, _⟩
  · omega
  · exact ⟨b, off, e⟩

theorem h_read (a : Option Addr) (n c : Nat) (zs : List Int) (w : World) (hz : zs.length = n) (hB : Bs w a zs) (hc : n ≤ c) :
    Calls Tryz.prog 78 #[.slice a n c] w fun e w' => e = .returned (.tuple #[.agg (rdL zs).toArray, .int .i64 (rdE zs)]) ∧ Below w.heap.size w w' := by
  by_cases hn : n < 8
  · have e1 : rdE zs = 6 := by unfold rdE; rw [if_pos (by rw [hz]; exact hn)]
    unfold rdL
    rw [e1, if_neg (by omega)]
    exact lread_short a n c w hn
  · obtain ⟨b, off, rfl⟩ := bs_some hB (by omega)
    by_cases hq : rdQ zs
    · by_cases hf : rdV zs 6 = rdF zs
      · have e1 : rdE zs = 0 := by unfold rdE; rw [if_neg (by rw [hz]; exact hn), if_pos hq, if_pos hf]
        unfold rdL
        rw [e1, if_pos rfl]
        exact lread_ok b off n c zs w hz hB (by omega) hc hq hf
      · have e1 : rdE zs = 110 := by unfold rdE; rw [if_neg (by rw [hz]; exact hn), if_pos hq, if_neg hf]
        unfold rdL
        rw [e1, if_neg (by omega)]
        exact lread_sum b off n c zs w hz hB (by omega) hc hq hf
    · have e1 : rdE zs = 100 := by unfold rdE; rw [if_neg (by rw [hz]; exact hn), if_neg hq]
      unfold rdL
      rw [e1, if_neg (by omega)]
      exact lread_bad b off n c zs w hz hB (by omega) hq

theorem h_rread (a : Option Addr) (n c : Nat) (zs : List Int) (w : World) (hz : zs.length = n) (hB : Bs w a zs) (_hc : n ≤ c) :
    Calls Tryz.prog 124 #[.slice a n c] w fun e w' => e = .returned (.tuple #[.agg (rdL zs).toArray, .int .i64 (rdE zs)]) ∧ Below w.heap.size w w' := by
  by_cases hn : n < 8
  · have e1 : rdE zs = 6 := by unfold rdE; rw [if_pos (by rw [hz]; exact hn)]
    unfold rdL
    rw [e1, if_neg (by omega)]
    exact rread_short a n c w hn
  · obtain ⟨b, off, rfl⟩ := bs_some hB (by omega)
    by_cases hq : rdQ zs
    · by_cases hf : rdV zs 6 = rdF zs
      · have e1 : rdE zs = 0 := by unfold rdE; rw [if_neg (by rw [hz]; exact hn), if_pos hq, if_pos hf]
        unfold rdL
        rw [e1, if_pos rfl]
        exact rread_ok b off n c zs w hz hB (by omega) hq hf
      · have e1 : rdE zs = 110 := by unfold rdE; rw [if_neg (by rw [hz]; exact hn), if_pos hq, if_neg hf]
        unfold rdL
        rw [e1, if_neg (by omega)]
        exact rread_sum b off n c zs w hz hB (by omega) hq hf
    · have e1 : rdE zs = 100 := by unfold rdE; rw [if_neg (by rw [hz]; exact hn), if_neg hq]
      unfold rdL
      rw [e1, if_neg (by omega)]
      exact rread_bad b off n c zs w hz hB (by omega) hq

theorem rdE_zero {zs : List Int} (h : rdE zs = 0) : 8 ≤ zs.length ∧ rdQ zs ∧ rdV zs 6 = rdF zs := by
  unfold rdE at h
  split at h
  · omega
  · split at h
    · split at h
      · exact ⟨by omega, by assumption, by assumption⟩
      · omega
    · omega

theorem hd_rd {zs : List Int} (h : Bytes zs) : Hd (rdL zs) := by
  unfold rdL
  split
  · exact ⟨_, _, rfl, (rdV_bd h 0).1, (rdV_bd h 0).2, (rdV_bd h 2).1, (rdV_bd h 2).2⟩
  · exact hd_0

theorem byE_zero {L : List Value} {ys : List Int} (h : byE L ys = 0) : ckE L = 0 ∧ ys.length ≤ 2040 := by
  unfold byE at h
  split at h
  · exact ⟨rfl, by assumption⟩
  · omega

theorem byB_bytes {L : List Value} {ys : List Int} (h : Hd L) (_hy : Bytes ys) : Bytes (byB L ys) := by
  unfold byB
  split
  · rename_i he
    have hl := (byE_zero he).2
    obtain ⟨sp, dp, rfl, h⟩ := h
    have hf := dgF_bd sp dp ys
    exact dgB_bytes h (by omega) (by omega) hf.1 hf.2
  · intro z hz; simp at hz

theorem byB_le {L : List Value} {ys : List Int} (h : Hd L) : (byB L ys).length ≤ 8 := by
  obtain ⟨sp, dp, rfl, h⟩ := h
  unfold byB
  split
  · exact Nat.le_refl _
  · simp

theorem m_back {L : List Value} {ys : List Int} (h : Hd L) (_hy : Bytes ys) (he : byE L ys = 0) : (byB L ys).length = 8 ∧ rdL (byB L ys ++ ys) = L ∧ rdE (byB L ys ++ ys) = 0 ∧ ckE L = 0 := by
  have hl := (byE_zero he).2
  obtain ⟨sp, dp, rfl, h⟩ := h
  have hF := dgF_bd sp dp ys
  have e : byB (dgC sp dp) ys = dgB sp dp ys.length (dgF sp dp ys) := by unfold byB; rw [if_pos he]; rfl
  rw [e]
  have eF : rdF (dgB sp dp ys.length (dgF sp dp ys) ++ ys) = dgF sp dp ys := by
    unfold rdF
    rw [zf_dgB, List.length_append, dgB_length]; rfl
  have eL : (dgB sp dp ys.length (dgF sp dp ys) ++ ys).length = 8 + ys.length := by rw [List.length_append, dgB_length]
  generalize dgF sp dp ys = F at *
  obtain ⟨s0, s1, d0, d1⟩ := h
  have e4 : rdV (dgB sp dp ys.length F ++ ys) 4 = 8 + (ys.length : Int) := by
    show (8 + (ys.length : Int)) / 256 * 256 + (8 + (ys.length : Int)) % 256 = _
    omega
  have e6 : rdV (dgB sp dp ys.length F ++ ys) 6 = F := by
    show F / 256 * 256 + F % 256 = F
    omega
  have e0 : rdV (dgB sp dp ys.length F ++ ys) 0 = sp := by
    show sp / 256 * 256 + sp % 256 = sp
    omega
  have e2 : rdV (dgB sp dp ys.length F ++ ys) 2 = dp := by
    show dp / 256 * 256 + dp % 256 = dp
    omega
  have eE : rdE (dgB sp dp ys.length F ++ ys) = 0 := by
    unfold rdE
    rw [if_neg (by rw [eL]; omega), if_pos (by unfold rdQ; rw [e4, eL]; omega), if_pos (by rw [e6, eF])]
  refine ⟨rfl, ?_, eE, rfl⟩
  unfold rdL
  rw [if_pos eE]
  unfold rdC
  rw [e0, e2]

theorem m_no {L : List Value} {ys : List Int} (he : ¬ byE L ys = 0) (_hc : ckE L = 0) : ¬ ys.length ≤ 2040 := by
  intro hl
  apply he
  unfold byE
  rw [if_pos hl]

theorem m_none {zs : List Int} (h : ¬ rdE zs = 0) : rdL zs = hd0 := by unfold rdL; rw [if_neg h]

theorem m_short {zs : List Int} (h : zs.length < 8) : rdE zs = 6 := by unfold rdE; rw [if_pos h]

theorem m_again {zs : List Int} (hb : Bytes zs) (he : rdE zs = 0) (hl : zs.length ≤ 2048) : 8 ≤ zs.length ∧ byE (rdL zs) (zs.drop 8) = 0 ∧ byB (rdL zs) (zs.drop 8) = zs.take 8 := by
  obtain ⟨h8, hq, hf⟩ := rdE_zero he
  have e0 : rdL zs = rdC zs := by unfold rdL; rw [if_pos he]
  have e1 : byE (rdL zs) (zs.drop 8) = 0 := by
    unfold byE
    rw [if_pos (by rw [List.length_drop]; omega)]
  refine ⟨h8, e1, ?_⟩
  unfold byB
  rw [if_pos e1, e0]
  show dgB (rdV zs 0) (rdV zs 2) (zs.drop 8).length (dgF (rdV zs 0) (rdV zs 2) (zs.drop 8)) = _
  have hd8 : 8 + (zs.drop 8).length = zs.length := by rw [List.length_drop]; omega
  have h4 : rdV zs 4 = 8 + ((zs.drop 8).length : Int) := by unfold rdQ at hq; omega
  have eB : ∀ f : Int, dgB (rdV zs 0) (rdV zs 2) (zs.drop 8).length f = ((zs.take 8).set 6 (f / 256)).set 7 (f % 256) := by
    intro f
    unfold dgB
    rw [← h4]
    clear h4 hd8 hq hf e0 e1 he
    match zs, hb, h8 with
    | z0 :: z1 :: z2 :: z3 :: z4 :: z5 :: z6 :: z7 :: r, hb, _ =>
      have k0 := hb z0 (by simp)
      have k1 := hb z1 (by simp)
      have k2 := hb z2 (by simp)
      have k3 := hb z3 (by simp)
      have k4 := hb z4 (by simp)
      have k5 := hb z5 (by simp)
      simp [rdV]
      omega
  have eF : dgF (rdV zs 0) (rdV zs 2) (zs.drop 8) = rdV zs 6 := by
    unfold dgF
    rw [eB 0, hf]
    unfold rdF
    have e : ((zs.take 8).set 6 (0 / 256)).set 7 (0 % 256) ++ zs.drop 8 = zf zs := by
      match zs, h8 with
      | z0 :: z1 :: z2 :: z3 :: z4 :: z5 :: z6 :: z7 :: r, _ => rfl
    rw [e, hd8]
  rw [eF, eB]
  match zs, hb, h8 with
  | z0 :: z1 :: z2 :: z3 :: z4 :: z5 :: z6 :: z7 :: r, hb, _ =>
    have k6 := hb z6 (by simp)
    have k7 := hb z7 (by simp)
    simp [rdV]
    omega

theorem zf_set_in (zs : List Int) {k : Nat} (y : Int) (h : k = 6 ∨ k = 7) : zf (zs.set k y) = zf zs := by
  unfold zf
  rcases h with rfl | rfl
  · rw [List.set_set]
  · rw [List.set_comm _ _ (by decide : (7 : Nat) ≠ 6), List.set_set]

theorem zf_set_out (zs : List Int) {k : Nat} (y : Int) (h0 : k ≠ 6) (h1 : k ≠ 7) : zf (zs.set k y) = (zf zs).set k y := by
  unfold zf
  rw [List.set_comm _ _ h0, List.set_comm _ _ h1]

theorem zf_getD (zs : List Int) {k : Nat} (h0 : k ≠ 6) (h1 : k ≠ 7) : (zf zs).getD k 0 = zs.getD k 0 := by
  unfold zf
  rw [List.getD_eq_getElem?_getD, List.getElem?_set_ne (Ne.symm h1), List.getElem?_set_ne (Ne.symm h0), List.getD_eq_getElem?_getD]

theorem getD_set (zs : List Int) (k j : Nat) (y : Int) (hk : k < zs.length) : (zs.set k y).getD j 0 = if j = k then y else zs.getD j 0 := by
  by_cases e : j = k
  · subst e
    rw [if_pos rfl, List.getD_eq_getElem?_getD, List.getElem?_set_self hk]; rfl
  · rw [if_neg e, List.getD_eq_getElem?_getD, List.getElem?_set_ne (Ne.symm e), List.getD_eq_getElem?_getD]

/-- Fields of sums that are not 0 differ where the sums do. -/
theorem fd_inj {a b : Int} (a0 : 0 < a) (a1 : a ≤ 65535) (b0 : 0 < b) (b1 : b ≤ 65535) (h : fd a = fd b) : a = b := by
  unfold fd at h
  split at h <;> split at h <;> omega

/-- A header that is read is read no more with one byte of it or of its payload turned. -/
theorem rd_turned {zs : List Int} (hb : Bytes zs) (he : rdE zs = 0) (k : Nat) (hk : k < zs.length) (y : Int) (y0 : 0 ≤ y) (y1 : y ≤ 255) (hne : ¬ y = zs.getD k 0) : ¬ rdE (zs.set k y) = 0 := by
  intro h'
  obtain ⟨h8, hq, hf⟩ := rdE_zero he
  obtain ⟨-, hr, hg⟩ := rdE_zero h'
  have hbs := bytes_set hb k y y0 y1
  have G : ∀ j, (zs.set k y).getD j 0 = if j = k then y else zs.getD j 0 := fun j => getD_set zs k j y hk
  have b4 := hb.getD 4
  have b5 := hb.getD 5
  have b6 := hb.getD 6
  have b7 := hb.getD 7
  have hp : ∀ ts : List Int, Bytes ts → rdV ts 4 = (zs.length : Int) → 0 < tot (zf ts) zs.length := by
    intro ts ht h4
    have t4 := tot_ge_at (zf_bytes ht) 4 zs.length (by omega)
    have t5 := tot_ge_at (zf_bytes ht) 5 zs.length (by omega)
    rw [zf_getD ts (by omega) (by omega), wt_even 4 rfl] at t4
    rw [zf_getD ts (by omega) (by omega), wt_odd 5 (by decide)] at t5
    have c4 := ht.getD 4
    have c5 := ht.getD 5
    unfold rdV at h4
    simp only [Nat.reduceAdd] at h4
    omega
  unfold rdQ at hq hr
  rw [List.length_set] at hr
  have p1 := hp zs hb hq
  have p2 := hp (zs.set k y) hbs hr
  unfold rdV at hf hg hq hr
  rw [G, G] at hg hr
  by_cases hin : k = 6 ∨ k = 7
  · have e : rdF (zs.set k y) = rdF zs := by unfold rdF; rw [zf_set_in zs y hin, List.length_set]
    rw [e, ← hf] at hg
    rcases hin with rfl | rfl
    · simp at hg hne; omega
    · simp at hg hne; omega
  · have h0 : k ≠ 6 := fun e => hin (.inl e)
    have h1 : k ≠ 7 := fun e => hin (.inr e)
    rw [if_neg (Ne.symm h0), if_neg (Ne.symm h1)] at hg
    have e : rdF (zs.set k y) = rdF zs := by rw [← hg, ← hf]
    unfold rdF at e
    rw [List.length_set] at e
    have e := fd_inj (fo_pos _ p2) (fo_le _) (fo_pos _ p1) (fo_le _) e
    unfold su at e
    rw [zf_set_out zs y h0 h1, tot_set _ _ _ _ (by rw [zf_length]; exact hk), if_pos hk, zf_getD zs h0 h1] at e p2
    have bk := hb.getD k
    generalize zs.getD k 0 = x at *
    have hw : wt k = 256 ∨ wt k = 1 := by unfold wt; split <;> simp
    rcases hw with hw | hw
    · rw [hw] at e p2
      exact fo_turn (tot (zf zs) zs.length) _ ((y - x) * 256) p1 p2 rfl (by omega) (by omega) (by omega) e.symm
    · rw [hw] at e p2
      exact fo_turn (tot (zf zs) zs.length) _ ((y - x) * 1) p1 p2 rfl (by omega) (by omega) (by omega) e.symm

theorem m_turned {L : List Value} {ys : List Int} (h : Hd L) (hy : Bytes ys) (he : byE L ys = 0) (k : Nat) (hk : k < 8 + ys.length) (y : Int) (y0 : 0 ≤ y) (y1 : y ≤ 255) (hne : ¬ y = (byB L ys ++ ys).getD k 0) : ¬ rdE ((byB L ys ++ ys).set k y) = 0 :=
  rd_turned (bytes_append (byB_bytes h hy) hy) (m_back h hy he).2.2.1 k (by rw [List.length_append, (m_back h hy he).1]; exact hk) y y0 y1 hne

def uL : List Value := dgC 53 1024

def uY : List Int := [255, 255]

def uB : List Int := [0, 53, 4, 0, 0, 10, 251, 192]

theorem hd_u : Hd uL := ⟨53, 1024, rfl, by omega, by omega, by omega, by omega⟩

theorem uY_bytes : Bytes uY := fun z hz => by simp [uY] at hz; omega

theorem by_u : byE uL uY = 0 ∧ byB uL uY = uB := by decide +kernel

theorem uB_by : Bytes uB := by rw [← by_u.2]; exact byB_bytes hd_u uY_bytes

theorem heap3_0 (w : World) (a b c : Obj) : (((w.alloc a).alloc b).alloc c).heap[w.heap.size]? = some a := (Below.heap_alloc ((w.alloc a).alloc b) c _ (by simp; omega)).trans (heap_alloc2_old w a b)

theorem heap3_1 (w : World) (a b c : Obj) : (((w.alloc a).alloc b).alloc c).heap[w.heap.size + 1]? = some b := (Below.heap_alloc ((w.alloc a).alloc b) c _ (by simp)).trans (heap_alloc2_new w a b)

theorem heap3_2 (w : World) (a b c : Obj) : (((w.alloc a).alloc b).alloc c).heap[w.heap.size + 1 + 1]? = some c := by
  have h := heap_alloc_new ((w.alloc a).alloc b) c
  rw [show ((w.alloc a).alloc b).heap.size = w.heap.size + 1 + 1 by simp] at h
  exact h

theorem below3 (w : World) (a b c : Obj) : Below w.heap.size w (((w.alloc a).alloc b).alloc c) := (((Below.refl _ _).alloc (Nat.le_refl _) _).alloc (by simp) _).alloc (by simp; omega) _

/-- A header that came in. -/
theorem hd_open (W : World) (m : sh44.M) (o : sh44.ok W m) : Hd (sh44.cs m) := by
  obtain ⟨sp, dp⟩ := m
  obtain ⟨k0, k1⟩ := o
  exact ⟨sp, dp, rfl, (bounds_u16 k0).1, (bounds_u16 k0).2, (bounds_u16 k1).1, (bounds_u16 k1).2⟩

end Go.Proofs.YtednmdkjhiihcaaGreat.K10
