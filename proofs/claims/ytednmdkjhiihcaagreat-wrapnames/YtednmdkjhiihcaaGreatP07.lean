/- Headers of the kind 07: the program's calls and the document's, in one form for all inputs, and the mathematics between them. -/
import Derived.Test.YtednmdkjhiihcaaGreatGa
import Derived.Test.YtednmdkjhiihcaaGreatSf
import Derived.Deep.RegionHeld3
import Derived.Test.YtednmdkjhiihcaaGreatBc
import Derived.Test.YtednmdkjhiihcaaGreatGc
import Derived.Test.YtednmdkjhiihcaaGreatSp
namespace Go.Proofs.YtednmdkjhiihcaaGreat.K07
open Go.ChangeShapes Go.WideShapes Go.ChangeAt Go.RowKit

/-- k bytes of a number, the highest one first. -/
def numB : Nat → Int → List Int
  | 0, _ => []
  | k + 1, v => numB k (v / 256) ++ [v % 256]

theorem numB_length : ∀ (k : Nat) (v : Int), (numB k v).length = k
  | 0, _ => rfl
  | k + 1, v => by simp [numB, numB_length k]

theorem numB_bytes : ∀ (k : Nat) (v : Int), Bytes (numB k v)
  | 0, _ => fun z hz => by simp [numB] at hz
  | k + 1, v => bytes_append (numB_bytes k _) (fun z hz => by simp at hz; omega)

/-- So many bytes from a place on, as a number. -/
def valV (B : List Int) (x : Nat) : Nat → Int
  | 0 => 0
  | k + 1 => valV B x k * 256 + B.getD (x + k) 0

theorem valV_bd {B : List Int} (h : Bytes B) (x : Nat) : ∀ k : Nat, 0 ≤ valV B x k ∧ valV B x k < 256 ^ k
  | 0 => by simp [valV]
  | k + 1 => by
    have ih := valV_bd h x k
    have hb := h.getD (x + k)
    simp only [valV]
    rw [Int.pow_succ]
    omega

theorem pow256 {k : Nat} (h : k ≤ 4) : (256 : Int) ^ k ≤ 4294967296 := by
  match k, h with
  | 0, _ => decide
  | 1, _ => decide
  | 2, _ => decide
  | 3, _ => decide
  | 4, _ => decide

set_option maxHeartbeats 400000 in
theorem number_any (v : Int) (k : Nat) (w : World) (hv : 0 ≤ v) (hv' : v ≤ 4294967296) (hk : k ≤ 16) :
    Calls Tryz.prog 170 #[.int .i64 v, .int .i64 k] w fun e w' => ∃ u, e = .returned u ∧ w'.ownsRow w.heap.size 5 1 u k ((numB k v).map (Value.int .u8)) ∧ Below w.heap.size w w' := by
  have hmk := make_bytes k (by omega)
  obtain ⟨Z, HZ⟩ : ∃ Z, Hid ((List.replicate k (0 : Int)).map (Value.int .u8) = Z) := ⟨_, rfl⟩
  rw [HZ.out] at hmk
  go_enter Tryz.func170, Tryz.ntmps170
  go_wp2_with fail
  obtain ⟨W1, hW1⟩ : ∃ W1, W1 = w.alloc (.cells Z.toArray 5) := ⟨_, rfl⟩
  rw [← hW1]
  have R1 : Hid (W1.heap[w.heap.size]? = some (.cells Z.toArray 5 (0, 0))) := by rw [hW1]; exact heap_alloc_new w _
  have B1 : Hid (Below w.heap.size w W1) := by rw [hW1]; exact (Below.refl _ _).alloc (Nat.le_refl _) _
  clear hW1 hmk
  go_loopw [0, 6] (fun x i wr => ∃ (m : Nat) (y : Int) (tl : List Int), m ≤ k ∧ i = .int .i64 ((m : Int) - 1) ∧ x = .int .i64 y ∧ 0 ≤ y ∧ y ≤ 4294967296 ∧ Hid (numB k v = numB m y ++ tl) ∧ Hid (wr.heap[w.heap.size]? = some (.cells ((List.replicate m (0 : Int) ++ tl).map (Value.int .u8)).toArray 5 (0, 0))) ∧ Hid (Below w.heap.size w wr)) (fun _ i _ => ((intOf i) + 1).toNat)
  case atStart => exact ⟨k, v, [], Nat.le_refl _, by go_num, rfl, hv, hv', Hid.mk' (by simp), Hid.mk' (by rw [List.append_nil, HZ.out]; exact R1.out), B1⟩
  case round =>
    obtain ⟨m, y, tl, hm, rfl, rfl, hy, hy', HN, HR, HB⟩ := hrel
    match m, HN, HR, hm with
    | 0, HN, HR, hm =>
      have HO : Hid (wr.ownsRow w.heap.size 5 1 (.slice (some ⟨w.heap.size, 0, none⟩) k k) k ((numB k v).map (Value.int .u8))) := by
        refine own_block ?_ (Nat.le_refl _) (by rw [List.length_map, numB_length]) (by omega)
        rw [HR.out, HN.out]; rfl
      go_wp2_with fail
      go_ret
      exact ⟨_, rfl, HO.out, HB.out⟩
    | m + 1, HN, HR, hm =>
      have f0 : wr.frozen? ⟨w.heap.size, m, none⟩ = false := frozen_of_row wr _ m _ _ HR.out
      have c0 : wr.cell? ⟨w.heap.size, m, none⟩ = some (.int .u8 0) := by
        rw [cell_of_row wr _ m _ _ _ HR.out, List.getElem?_toArray, List.getElem?_map, List.getElem?_append_left (by simp), List.getElem?_replicate]
        simp
      go_wp2_with fail
      go_roundw
      case rel =>
        refine ⟨m, y / 256, y % 256 :: tl, by omega, rfl, rfl, by omega, by omega, Hid.mk' ?_, Hid.mk' ?_, (HB.out.setCell (p := ⟨w.heap.size, m, none⟩) (Nat.le_refl _) _ : Below _ _ _)⟩
        · rw [HN.out, numB, List.append_assoc]; rfl
        · rw [Go.heap_setCell_same _ _ m _ _ _ HR.out]
          congr 2
          apply Array.toList_inj.1
          rw [Array.toList_setIfInBounds, ← List.map_set, List.replicate_succ', List.append_assoc, List.set_append_right _ _ (by simp)]
          simp
      case measure => simp [intOf]

set_option maxHeartbeats 400000 in
theorem value_any (b off n c x k : Nat) (zs : List Int) (w : World) (hz : zs.length = n) (hB : Bs w (some ⟨b, off, none⟩) zs) (hk : k ≤ 4) (hx : x + k ≤ n) :
    Calls Tryz.prog 181 #[.slice (some ⟨b, off, none⟩) n c, .int .i64 x, .int .i64 k] w fun e w' => e = .returned (.int .i64 (valV zs x k)) ∧ w = w' := by
  have hln : n ≤ 140737488355328 := by rw [← hz]; exact hB.len
  have HB := Hid.mk' hB
  have HN := Hid.mk' hz
  clear hB hz
  go_enter Tryz.func181, Tryz.ntmps181
  go_wp2_with fail
  go_loop [7, 8] (fun v i => ∃ j : Nat, j ≤ k ∧ i = .int .i64 j ∧ v = .int .i64 (valV zs x j)) (fun _ i => k - (intOf i).toNat)
  case atStart => exact ⟨0, Nat.zero_le _, rfl, rfl⟩
  case round =>
    obtain ⟨j, hj, rfl, rfl⟩ := hrel
    by_cases hlt : j < k
    · have hsp : (j : Int) < (k : Int) := by omega
      have cc : w.cell? ⟨b, off + (x + j), none⟩ = some (.int .u8 (zs.getD (x + j) 0)) := by
        rcases HB.out.lies with h0 | ⟨b', off', e, hc⟩
        · rw [HN.out] at h0; omega
        · cases e; exact hc (x + j) (by rw [HN.out]; omega)
      have hb := HB.out.bytes.getD (x + j)
      have hv := valV_bd HB.out.bytes x j
      have hp := pow256 (k := j) (by omega)
      obtain ⟨y, HY⟩ : ∃ y, Hid (zs.getD (x + j) 0 = y) := ⟨_, rfl⟩
      obtain ⟨V, HV⟩ : ∃ V, Hid (valV zs x j = V) := ⟨_, rfl⟩
      rw [HY.out] at cc hb
      rw [HV.out] at hv ⊢
      have v0 : 0 ≤ V := hv.1
      have v1 : V ≤ 4294967296 := by omega
      have y0 := hb.1
      have y1 := hb.2
      clear hb hv hp
      have hin : (x : Int) + (j : Int) < (n : Int) := by omega
      go_wp2_with fail
      go_round
      case rel => exact ⟨j + 1, hlt, by go_num, by rw [valV, HV.out, HY.out]⟩
      case measure => simp [intOf]; omega
    · obtain rfl : j = k := by omega
      go_wp2_with fail
      go_ret
      exact ⟨rfl, rfl⟩

/-- A header's cells: Tos, Ttl, Proto, Id, Src, Dst. -/
def n4C (o l p i : Int) (s d : List Int) : List Value := [.int .u8 o, .int .u8 l, .int .u8 p, .int .u16 i] ++ (s.map (Value.int .u8) ++ d.map (Value.int .u8))

/-- A header's bytes ahead of a payload of m bytes, its field being f. -/
def n4B (o l p i : Int) (s d : List Int) (m f : Int) : List Int := [69, o, (20 + m) / 256, (20 + m) % 256, i / 256, i % 256, 0, 0, l, p, f / 256, f % 256] ++ (s ++ d)

/-- A header's field. -/
def n4F (o l p i : Int) (s d : List Int) (m : Int) : Int := 65535 - su (n4B o l p i s d m 0) 20

/-- A header's numbers, as their types have them. -/
structure N4 (o l p i : Int) (s d : List Int) : Prop where
  o0 : 0 ≤ o
  o1 : o ≤ 255
  l0 : 0 ≤ l
  l1 : l ≤ 255
  p0 : 0 ≤ p
  p1 : p ≤ 255
  i0 : 0 ≤ i
  i1 : i ≤ 65535
  sl : s.length = 4
  dl : d.length = 4
  sb : Bytes s
  db : Bytes d

theorem info_hd : (Tryz.prog.info? 36).map (·.size) = some 12 := by kernel_rfl

theorem n4C_length {o l p i : Int} {s d : List Int} (h : N4 o l p i s d) : (n4C o l p i s d).length = 12 := by
  unfold n4C; simp [h.sl, h.dl]

theorem n4C_one (o l p i : Int) (s d : List Int) : (n4C o l p i s d).toArray.all (·.oneCell') = true := by
  refine all_oneCell_toArray (fun v hv => ?_)
  unfold n4C at hv
  simp only [List.mem_append, List.mem_map, List.mem_cons, List.not_mem_nil, or_false] at hv
  rcases hv with (rfl | rfl | rfl | rfl) | ⟨z, _, rfl⟩ | ⟨z, _, rfl⟩ <;> rfl

theorem four {α : Type} (L : List α) (h : L.length = 4) : ∃ a b c d, L = [a, b, c, d] := by
  match L, h with
  | [a, b, c, d], _ => exact ⟨a, b, c, d, rfl⟩

theorem or16 (V b : Int) (h0 : 0 ≤ V) (h1 : V ≤ 255) (b0 : 0 ≤ b) (b1 : b ≤ 255) : bits .or .u16 (V * 256) b = V * 256 + b := by
  rw [u16_or _ _ (by omega) (by omega) (by omega) (by omega)]
  have h := Nat.two_pow_add_eq_or_of_lt (i := 8) (b := b.toNat) (by omega) V.toNat
  have e2 : (V * 256).toNat = 2 ^ 8 * V.toNat := by omega
  rw [e2, ← h]
  omega

theorem lcheck_any (L : List Value) (w : World) : Calls Tryz.prog 91 #[.agg L.toArray] w fun e w' => e = .returned (.int .i64 0) ∧ Below w.heap.size w w' := by
  go_enter Tryz.func91, Tryz.ntmps91
  go_wp2_with fail
  go_ret
  exact ⟨rfl, (Below.refl _ _).alloc (Nat.le_refl _) _⟩

theorem lsize_any (w : World) : Calls Tryz.prog 70 #[] w fun e w' => e = .returned (.int .i64 20) ∧ w = w' := by
  go_enter Tryz.func70, Tryz.ntmps70
  go_wp2_with fail
  go_ret
  exact ⟨rfl, rfl⟩

set_option maxHeartbeats 400000 in
theorem get16_any (b off n c x : Nat) (zs : List Int) (w : World) (hz : zs.length = n) (hB : Bs w (some ⟨b, off, none⟩) zs) (hx : x + 2 ≤ n) :
    Calls Tryz.prog 126 #[.slice (some ⟨b, off, none⟩) n c, .int .i64 x] w fun e w' => e = .returned (.int .u16 (zs.getD x 0 * 256 + zs.getD (x + 1) 0)) ∧ Dr w w' := by
  have hln : n ≤ 140737488355328 := by rw [← hz]; exact hB.len
  have hx0 : (x : Int) < (n : Int) := by omega
  have hx1 : (x : Int) + 1 < (n : Int) := by omega
  have cc : ∀ i, i < n → w.cell? ⟨b, off + i, none⟩ = some (.int .u8 (zs.getD i 0)) := by
    intro i hi
    rcases hB.lies with h0 | ⟨b', off', e, hc⟩
    · omega
    · cases e; exact hc i (by omega)
  have c0 := cc x (by omega)
  have c1 := cc (x + 1) (by omega)
  have k0 := hB.bytes.getD x
  have k1 := hB.bytes.getD (x + 1)
  clear cc hB hz
  generalize zs.getD x 0 = u at *
  generalize zs.getD (x + 1) 0 = v at *
  obtain ⟨u0, u1⟩ := k0
  obtain ⟨v0, v1⟩ := k1
  have hor := or16 u v u0 u1 v0 v1
  go_enter Tryz.func126, Tryz.ntmps126
  go_wp2_with fail
  go_quiet (fail)
  go_wp2_with fail
  go_ret
  exact ⟨rfl, ⟨_, rfl⟩⟩

set_option maxHeartbeats 400000 in
theorem put16_any (g m x : Nat) (v : Int) (Z : List Value) (t : TypeId) (w : World) (hg : w.heap[g]? = some (.cells Z.toArray t (0, 0))) (hl : Z.length = m) (hx : x + 2 ≤ m) (hm : m ≤ 1000000) (v0 : 0 ≤ v) (v1 : v ≤ 65535) :
    Calls Tryz.prog 148 #[.slice (some ⟨g, 0, none⟩) m m, .int .i64 x, .int .u16 v] w fun e w' => e = .returned (.tuple #[]) ∧ w'.heap[g]? = some (.cells ((Z.set x (.int .u8 (v / 256))).set (x + 1) (.int .u8 (v % 256))).toArray t (0, 0)) ∧ Kept (fun k => k = g) w w' := by
  have hx0 : (x : Int) < (m : Int) := by omega
  have hx1 : (x : Int) + 1 < (m : Int) := by omega
  obtain ⟨y0, c0⟩ : ∃ y, w.cell? ⟨g, x, none⟩ = some y := ⟨_, by rw [cell_of_row w _ x _ _ _ hg, List.getElem?_toArray, List.getElem?_eq_getElem (by omega)]⟩
  obtain ⟨y1, c1⟩ : ∃ y, w.cell? ⟨g, x + 1, none⟩ = some y := ⟨_, by rw [cell_of_row w _ (x + 1) _ _ _ hg, List.getElem?_toArray, List.getElem?_eq_getElem (by omega)]⟩
  have f0 : w.frozen? ⟨g, x, none⟩ = false := frozen_of_row w _ x _ _ hg
  have f1 : w.frozen? ⟨g, x + 1, none⟩ = false := frozen_of_row w _ (x + 1) _ _ hg
  have HG := Hid.mk' hg
  clear hg
  go_enter Tryz.func148, Tryz.ntmps148
  go_wp2_with fail
  have h1 : Hid (((w.setCell ⟨g, x, none⟩ (.int .u8 (v / 256))).setCell ⟨g, x + 1, none⟩ (.int .u8 (v % 256))).heap[g]? = some (.cells ((Z.set x (.int .u8 (v / 256))).set (x + 1) (.int .u8 (v % 256))).toArray t (0, 0))) := Hid.mk' (by
    rw [Go.heap_setCell_same _ _ (x + 1) _ _ _ (Go.heap_setCell_same _ _ x _ _ _ HG.out)]; simp)
  have h2 : Hid (Kept (fun k => k = g) w ((w.setCell ⟨g, x, none⟩ (.int .u8 (v / 256))).setCell ⟨g, x + 1, none⟩ (.int .u8 (v % 256)))) := Hid.mk' (((Kept.refl (fun k => k = g) w).setCell (p := ⟨g, x, none⟩) (fun _ => rfl) _).setCell (p := ⟨g, x + 1, none⟩) (fun _ => rfl) _)
  go_end0
  exact ⟨rfl, h1.out, h2.out⟩

/-- The first twenty bytes, the field's two being 0. -/
def zf (zs : List Int) : List Int := ((zs.take 20).set 10 0).set 11 0

theorem zf_length {zs : List Int} (h : 20 ≤ zs.length) : (zf zs).length = 20 := by unfold zf; simp; omega

theorem zf_bytes {zs : List Int} (h : Bytes zs) : Bytes (zf zs) :=
  bytes_set (bytes_set (fun z hz => h z (List.mem_of_mem_take hz)) 10 0 (by omega) (by omega)) 11 0 (by omega) (by omega)

/-- copy of the beginning of bytes over the whole of a block. -/
theorem run_copy_pre (w : World) (ty : TypeId) (g k n dc sc : Nat) (a : Option Addr) (zs : List Int) (L : List Value) (t : TypeId) (hg : w.heap[g]? = some (.cells L.toArray t (0, 0))) (hB : Bs w a zs) (hn : zs.length = n) (hk : L.length = k) (hkn : k ≤ n) :
    (Builtin.copy_ #[22, 22] ty #[.slice (some ⟨g, 0, none⟩) k dc, .slice a n sc]).run Tryz.prog w = .ok (goInt k) (w.setCells g 0 ((zs.take k).map (Value.int .u8))) := by
  obtain ⟨i0, hi, hz0, hz1, hz2⟩ := info_parts info_u8
  have hs : (Tryz.prog.info? 5).map (·.size) = some 1 := by rw [hi]; simp [hz1]
  subst hn
  by_cases h0 : zs.length = 0
  · obtain rfl := List.eq_nil_of_length_eq_zero h0
    obtain rfl : k = 0 := by simpa using hkn
    exact run_copy_none (P := Tryz.prog) w 22 22 ty 5 _ _ 0 dc 0 sc Tryz.underlying22 hs rfl
  · rcases hB.lies with h | ⟨b, off, rfl, hc⟩
    · exact absurd h h0
    · have e : (zs.take k).length = k := by rw [List.length_take]; omega
      have := run_copy_cells (P := Tryz.prog) w 22 22 ty 5 g 0 k dc ⟨b, off, none⟩ zs.length sc ((zs.take k).map (Value.int .u8)) Tryz.underlying22 hs (by rw [List.length_map, e]; exact (Nat.min_eq_right hkn).symm)
        (fun j v hj => by
          have hlt : j < k := by have := (List.getElem?_eq_some_iff.1 hj).1; simp at this; omega
          have hlt2 : j < zs.length := by omega
          rw [addr_add, hc j hlt2]
          rw [List.getElem?_map, List.getElem?_take_of_lt hlt] at hj
          simp [hlt2] at hj
          simp [hlt2, hj])
        (fun j hj => by
          rw [List.length_map, e] at hj
          rw [Nat.zero_add, cell_of_row w g j _ _ _ hg, Array.getElem?_eq_getElem (by simp; omega)]; rfl)
        (fun j _ => frozen_of_row w g _ _ _ hg) (fun v hv => by rw [List.mem_map] at hv; obtain ⟨z, _, rfl⟩ := hv; rfl)
      rw [List.length_map, e] at this
      exact this

/-- .. as an operation of a plain region. -/
theorem wpList_copy_pre {ops : Array Oper} {rest : List Oper} {op : Oper} {a : Act} {w : World} {Q : Exit → Act → World → Prop} (hgd : op.guard = none) (d s : Operand)
    (ho : op.op = .call { callee := .builtin .copy, args := #[d, s], argTypes := #[22, 22] })
    (g k n dc sc : Nat) (xa : Option Addr) (hd : a.eval d = .slice (some ⟨g, 0, none⟩) k dc) (hs : a.eval s = .slice xa n sc) (zs : List Int) (L : List Value) (t : TypeId) (hg : w.heap[g]? = some (.cells L.toArray t (0, 0))) (hB : Bs w xa zs) (hn : zs.length = n) (hk : L.length = k) (hkn : k ≤ n)
    (h : ∀ w', w'.heap[g]? = some (.cells ((zs.take k).map (Value.int .u8)).toArray t (0, 0)) → Kept (fun j => j = g) w w' → wpList Tryz.prog ops Q rest (a.put op.dst (goInt k)) w') : wpList Tryz.prog ops Q (op :: rest) a w := by
  refine wpList_plain hgd fun K hK => ?_
  have hrun := run_copy_pre w op.type g k n dc sc xa zs L t hg hB hn hk hkn
  have hw := heap_whole (M := (zs.take k).map (Value.int .u8)) hg (by rw [List.length_map, List.length_take, hn, hk]; omega)
  generalize (zs.take k).map (Value.int .u8) = M at hrun hw h
  unfold Oper.wp
  simp [execOp, ho, resolve, invoke, builtin, hd, hs, hrun, Result.andThen]
  exact hK _ _ (h _ hw ((Kept.refl (fun k => k = g) w).setCells g 0 _ (fun _ => rfl)))

set_option maxHeartbeats 400000 in
theorem fieldOf_any (a : Option Addr) (n c : Nat) (zs : List Int) (w : World) (hz : zs.length = n) (hB : Bs w a zs) (hn : 20 ≤ n) :
    Calls Tryz.prog 127 #[.slice a n c] w fun e w' => e = .returned (.int .u16 (65535 - su (zf zs) 20)) ∧ Below w.heap.size w w' := by
  have HB := Hid.mk' hB
  have HN := Hid.mk' hz
  have hln : n ≤ 140737488355328 := by rw [← hz]; exact hB.len
  clear hB hz
  go_enter Tryz.func127, Tryz.ntmps127
  go_wp2_with (first | (refine wpList_copy_pre rfl _ _ rfl w.heap.size 20 n 20 c a rfl rfl zs ((List.replicate 20 (0 : Int)).map (Value.int .u8)) 177 (heap_alloc_new w _) (HB.out.below ((Below.refl _ _).alloc (Nat.le_refl _) _)) HN.out (by simp) hn ?_; intro w2 hg2 hk2; have X2 := Hid.mk' hg2; have K2 := Hid.mk' hk2; clear hg2 hk2))
  have hl20 : Hid ((zs.take 20).length = 20) := Hid.mk' (by rw [List.length_take, HN.out]; omega)
  have B2 : Hid (Below w.heap.size w w2) := Hid.mk' (by
    have b1 : Below w.heap.size w (w.alloc (.cells ((List.replicate 20 (0 : Int)).map (Value.int .u8)).toArray 177)) := (Below.refl _ _).alloc (Nat.le_refl _) _
    exact b1.trans (K2.out.below b1.size (fun k hk => by omega)))
  clear K2
  refine (put16_any w.heap.size 20 10 0 ((zs.take 20).map (Value.int .u8)) 177 w2 X2.out (by rw [List.length_map]; exact hl20.out) (by omega) (by omega) (by omega) (by omega)).mono ?_
  rintro e w3 ⟨rfl, hg3, hk3⟩
  have B3 : Hid (Below w.heap.size w w3) := B2.out.trans (hk3.below B2.out.size (fun k hk => by omega))
  have S3 : Hid (Bs w3 (some ⟨w.heap.size, 0, none⟩) (zf zs)) := Hid.mk' (by
    refine bs_block (A := []) (D := []) (t := 177) ?_ 0 rfl (zf_bytes HB.out.bytes) (by rw [zf_length (by rw [HN.out]; exact hn)]; omega)
    rw [hg3]
    simp [zf])
  have HZL : Hid ((zf zs).length = 20) := Hid.mk' (zf_length (by rw [HN.out]; exact hn))
  clear hg3 hk3 X2 B2
  go_wp2_with fail
  have key := field_any (some ⟨w.heap.size, 0, none⟩) 20 (zf zs) w3 S3.out
  rw [HZL.out] at key
  refine key.mono ?_
  rintro e w4 ⟨rfl, d4⟩
  have B4 : Hid (Below w.heap.size w w4) := B3.out.trans (d4.below _)
  clear key d4
  go_wp2_with fail
  go_ret
  exact ⟨rfl, B4.out⟩

theorem n4B_length {o l p i : Int} {s d : List Int} (h : N4 o l p i s d) (m f : Int) : (n4B o l p i s d m f).length = 20 := by
  unfold n4B; simp [h.sl, h.dl]

theorem n4B_bytes {o l p i : Int} {s d : List Int} (h : N4 o l p i s d) {m f : Int} (m0 : 0 ≤ m) (m1 : m ≤ 2028) (f0 : 0 ≤ f) (f1 : f ≤ 65535) : Bytes (n4B o l p i s d m f) := by
  obtain ⟨o0, o1, l0, l1, p0, p1, i0, i1, sl, dl, sb, db⟩ := h
  unfold n4B
  refine bytes_append ?_ (bytes_append sb db)
  intro z hz
  simp at hz
  rcases hz with rfl | rfl | rfl | rfl | rfl | rfl | rfl | rfl | rfl | rfl | rfl <;> omega

theorem zf_n4B {o l p i : Int} {s d : List Int} (h : N4 o l p i s d) {m : Int} : zf (n4B o l p i s d m 0) = n4B o l p i s d m 0 := by
  unfold zf
  rw [List.take_of_length_le (by rw [n4B_length h]; omega)]
  simp [n4B]

theorem n4F_bd (o l p i : Int) (s d : List Int) (m : Int) : 0 ≤ n4F o l p i s d m ∧ n4F o l p i s d m ≤ 65535 := by
  have := su_range (n4B o l p i s d m 0) 20
  unfold n4F; omega

set_option maxHeartbeats 400000 in
theorem lbytes_no (L : List Value) (a : Option Addr) (n c : Nat) (w : World) (hn : ¬ n ≤ 2028) (hl : n ≤ 140737488355328) :
    Calls Tryz.prog 92 #[.agg L.toArray, .slice a n c] w fun e w' => e = .returned (.tuple #[.slice none 0 0, .int .i64 5]) ∧ Below w.heap.size w w' := by
  go_enter Tryz.func92, Tryz.ntmps92
  go_wp2_with fail
  go_ret2
  exact ⟨rfl, (Below.refl _ _).alloc (Nat.le_refl _) _⟩

set_option maxHeartbeats 1000000 in
theorem lbytes_ok (o l p i : Int) (s d : List Int) (a : Option Addr) (n c : Nat) (w : World) (h : N4 o l p i s d) (hn : n ≤ 2028) :
    Calls Tryz.prog 92 #[.agg (n4C o l p i s d).toArray, .slice a n c] w fun e w' => ∃ v, e = .returned (.tuple #[v, .int .i64 0]) ∧ w'.ownsRow w.heap.size 5 1 v 20 ((n4B o l p i s d n (n4F o l p i s d n)).map (Value.int .u8)) ∧ Below w.heap.size w w' := by
  obtain ⟨L, HL⟩ : ∃ L, Hid (n4C o l p i s d = L) := ⟨_, rfl⟩
  rw [HL.out]
  have CE : Hid (∀ w' : World, w'.heap[w.heap.size]? = some (.cells L.toArray 36 (0, 0)) → w'.cell? ⟨w.heap.size, 0, none⟩ = some (.int .u8 o) ∧ w'.cell? ⟨w.heap.size, 1, none⟩ = some (.int .u8 l) ∧ w'.cell? ⟨w.heap.size, 2, none⟩ = some (.int .u8 p) ∧ w'.cell? ⟨w.heap.size, 3, none⟩ = some (.int .u16 i)) := Hid.mk' (fun w' hh => by
    rw [← HL.out] at hh
    refine ⟨?_, ?_, ?_, ?_⟩ <;> exact cell_of_row w' _ _ _ _ _ hh)
  have hmk : ∀ u : World, (Instr.makeSlice 22 (.int .i64 20) (.int .i64 20)).run Tryz.prog u = .ok (.slice (some ⟨u.heap.size, 0, none⟩) 20 20) (u.alloc (.cells #[.int .u8 0, .int .u8 0, .int .u8 0, .int .u8 0, .int .u8 0, .int .u8 0, .int .u8 0, .int .u8 0, .int .u8 0, .int .u8 0, .int .u8 0, .int .u8 0, .int .u8 0, .int .u8 0, .int .u8 0, .int .u8 0, .int .u8 0, .int .u8 0, .int .u8 0, .int .u8 0] 5)) := make_bytes 20 (by omega)
  have i0 := h.i0
  have i1 := h.i1
  have H := Hid.mk' h
  have g0 : L[0]? = some (.int .u8 o) := by rw [← HL.out]; rfl
  have g1 : L.toArray[0]? = some (.int .u8 o) := by rw [← HL.out]; rfl
  clear h
  go_enter Tryz.func92, Tryz.ntmps92
  go_wp2_with fail
  obtain ⟨W2, hW2⟩ : ∃ W2, W2 = (w.alloc (.cells L.toArray 36)).alloc (.cells #[.int .u8 69, .int .u8 o, .int .u8 0, .int .u8 0, .int .u8 0, .int .u8 0, .int .u8 0, .int .u8 0, .int .u8 0, .int .u8 0, .int .u8 0, .int .u8 0, .int .u8 0, .int .u8 0, .int .u8 0, .int .u8 0, .int .u8 0, .int .u8 0, .int .u8 0, .int .u8 0] 5) := ⟨_, rfl⟩
  rw [← hW2]
  have X1 : Hid (W2.heap[w.heap.size]? = some (.cells L.toArray 36 (0, 0))) := by rw [hW2]; exact heap_alloc2_old w _ _
  have X2 : Hid (W2.heap[w.heap.size + 1]? = some (.cells ([.int .u8 69, .int .u8 o, .int .u8 0, .int .u8 0, .int .u8 0, .int .u8 0, .int .u8 0, .int .u8 0, .int .u8 0, .int .u8 0, .int .u8 0, .int .u8 0, .int .u8 0, .int .u8 0, .int .u8 0, .int .u8 0, .int .u8 0, .int .u8 0, .int .u8 0, .int .u8 0] : List Value).toArray 5 (0, 0))) := by rw [hW2]; exact heap_alloc2_new w _ _
  have B2 : Hid (Below w.heap.size w W2) := by rw [hW2]; exact ((Below.refl _ _).alloc (Nat.le_refl _) _).alloc (by simp) _
  clear hW2 hmk g0 g1
  refine (put16_any (w.heap.size + 1) 20 2 (20 + (n : Int)) _ 5 W2 X2.out rfl (by omega) (by omega) (by omega) (by omega)).mono ?_
  rintro e w3 ⟨rfl, x3, k3⟩
  have X3 : Hid (w3.heap[w.heap.size + 1]? = some (.cells ([.int .u8 69, .int .u8 o, .int .u8 ((20 + (n : Int)) / 256), .int .u8 ((20 + (n : Int)) % 256), .int .u8 0, .int .u8 0, .int .u8 0, .int .u8 0, .int .u8 0, .int .u8 0, .int .u8 0, .int .u8 0, .int .u8 0, .int .u8 0, .int .u8 0, .int .u8 0, .int .u8 0, .int .u8 0, .int .u8 0, .int .u8 0] : List Value).toArray 5 (0, 0))) := Hid.mk' x3
  have Y3 : Hid (w3.heap[w.heap.size]? = some (.cells L.toArray 36 (0, 0))) := (k3.block w.heap.size (Array.getElem?_eq_some_iff.1 X1.out).1 (by omega)).trans X1.out
  have B3 : Hid (Below w.heap.size w w3) := B2.out.trans (k3.below B2.out.size (fun k hk => by omega))
  obtain ⟨c0, c1, c2, c3⟩ := CE.out _ Y3.out
  clear x3 k3 X1 X2 B2
  go_wp2_with fail
  refine (put16_any (w.heap.size + 1) 20 4 i _ 5 w3 X3.out rfl (by omega) (by omega) i0 i1).mono ?_
  rintro e w4 ⟨rfl, x4, k4⟩
  have X4 : Hid (w4.heap[w.heap.size + 1]? = some (.cells ([.int .u8 69, .int .u8 o, .int .u8 ((20 + (n : Int)) / 256), .int .u8 ((20 + (n : Int)) % 256), .int .u8 (i / 256), .int .u8 (i % 256), .int .u8 0, .int .u8 0, .int .u8 0, .int .u8 0, .int .u8 0, .int .u8 0, .int .u8 0, .int .u8 0, .int .u8 0, .int .u8 0, .int .u8 0, .int .u8 0, .int .u8 0, .int .u8 0] : List Value).toArray 5 (0, 0))) := Hid.mk' x4
  have Y4 : Hid (w4.heap[w.heap.size]? = some (.cells L.toArray 36 (0, 0))) := (k4.block w.heap.size (Array.getElem?_eq_some_iff.1 Y3.out).1 (by omega)).trans Y3.out
  have B4 : Hid (Below w.heap.size w w4) := B3.out.trans (k4.below B3.out.size (fun k hk => by omega))
  clear c0 c1 c2 c3
  obtain ⟨c0, c1, c2, c3⟩ := CE.out _ Y4.out
  have d8 : w4.cell? ⟨w.heap.size + 1, 8, none⟩ = some (.int .u8 0) := cell_of_row w4 _ _ _ _ _ X4.out
  have d9 : w4.cell? ⟨w.heap.size + 1, 9, none⟩ = some (.int .u8 0) := cell_of_row w4 _ _ _ _ _ X4.out
  have f8 : w4.frozen? ⟨w.heap.size + 1, 8, none⟩ = false := frozen_of_row w4 _ _ _ _ X4.out
  have f9 : w4.frozen? ⟨w.heap.size + 1, 9, none⟩ = false := frozen_of_row w4 _ _ _ _ X4.out
  clear x4 k4 X3 Y3 B3
  go_wp2_with fail
  obtain ⟨w5, hw5⟩ : ∃ w5, w5 = (w4.setCell ⟨w.heap.size + 1, 8, none⟩ (.int .u8 l)).setCell ⟨w.heap.size + 1, 9, none⟩ (.int .u8 p) := ⟨_, rfl⟩
  rw [← hw5]
  have k5 : Kept (fun k => k = w.heap.size + 1) w4 w5 := by rw [hw5]; exact ((Kept.refl (fun k => k = w.heap.size + 1) w4).setCell (p := ⟨w.heap.size + 1, 8, none⟩) (fun _ => rfl) _).setCell (p := ⟨w.heap.size + 1, 9, none⟩) (fun _ => rfl) _
  have X5 : Hid (w5.heap[w.heap.size + 1]? = some (.cells ([.int .u8 69, .int .u8 o, .int .u8 ((20 + (n : Int)) / 256), .int .u8 ((20 + (n : Int)) % 256), .int .u8 (i / 256), .int .u8 (i % 256), .int .u8 0, .int .u8 0, .int .u8 l, .int .u8 p, .int .u8 0, .int .u8 0] ++ ([.int .u8 0, .int .u8 0, .int .u8 0, .int .u8 0] ++ [.int .u8 0, .int .u8 0, .int .u8 0, .int .u8 0]) : List Value).toArray 5 (0, 0))) := Hid.mk' (by
    rw [hw5, Go.heap_setCell_same _ _ 9 _ _ _ (Go.heap_setCell_same _ _ 8 _ _ _ X4.out)]; rfl)
  have Y5 : Hid (w5.heap[w.heap.size]? = some (.cells L.toArray 36 (0, 0))) := (k5.block w.heap.size (Array.getElem?_eq_some_iff.1 Y4.out).1 (by omega)).trans Y4.out
  have B5 : Hid (Below w.heap.size w w5) := B4.out.trans (k5.below B4.out.size (fun k hk => by omega))
  clear hw5 k5 c0 c1 c2 c3 d8 d9 f8 f9 X4 Y4 B4
  obtain ⟨PR, HPR⟩ : ∃ PR : List Value, Hid ([.int .u8 69, .int .u8 o, .int .u8 ((20 + (n : Int)) / 256), .int .u8 ((20 + (n : Int)) % 256), .int .u8 (i / 256), .int .u8 (i % 256), .int .u8 0, .int .u8 0, .int .u8 l, .int .u8 p, .int .u8 0, .int .u8 0] = PR) := ⟨_, rfl⟩
  obtain ⟨Q4, HQ4⟩ : ∃ Q4 : List Value, Hid ([.int .u8 0, .int .u8 0, .int .u8 0, .int .u8 0] = Q4) := ⟨_, rfl⟩
  rw [HPR.out, HQ4.out] at X5
  have hql : Hid (Q4.length = 4) := Hid.mk' (by rw [← HQ4.out]; rfl)
  have hpl : Hid (PR.length = 12) := Hid.mk' (by rw [← HPR.out]; rfl)
  have T5 : Hid (Bs w5.drew (some ⟨w.heap.size, 4, none⟩) s) := by
    refine bs_block (A := [.int .u8 o, .int .u8 l, .int .u8 p, .int .u16 i]) (D := d.map (Value.int .u8)) (t := 36) ?_ 4 rfl H.out.sb (by rw [H.out.sl]; omega)
    show w5.heap[w.heap.size]? = _
    rw [Y5.out, ← HL.out]; rfl
  go_region_law (refine step_copy rfl _ _ rfl (w.heap.size + 1) 12 4 8 4 (some ⟨w.heap.size, 4, none⟩) rfl rfl s _ 5 X5.out T5.out H.out.sl (by simp [hpl.out, hql.out]) ?_; intro w6 hg6 hk6; have X6 := Hid.mk' hg6; have K6 := Hid.mk' hk6; clear hg6 hk6)
  have Y6 : Hid (w6.heap[w.heap.size]? = some (.cells L.toArray 36 (0, 0))) := (K6.out.block w.heap.size (by have := (Array.getElem?_eq_some_iff.1 Y5.out).1; exact this) (by omega)).trans Y5.out
  have B6 : Hid (Below w.heap.size w w6) := B5.out.drew.trans (K6.out.below B5.out.size (fun k hk => by omega))
  rw [put_mid _ _ _ _ 12 hpl.out.symm (by simp [H.out.sl, hql.out])] at X6
  clear K6 X5 Y5 B5 T5
  go_wp2_with fail
  have T6 : Hid (Bs w6.drew (some ⟨w.heap.size, 8, none⟩) d) := by
    refine bs_block (A := [.int .u8 o, .int .u8 l, .int .u8 p, .int .u16 i] ++ s.map (Value.int .u8)) (D := []) (t := 36) ?_ 8 (by simp [H.out.sl]) H.out.db (by rw [H.out.dl]; omega)
    show w6.heap[w.heap.size]? = _
    rw [Y6.out, ← HL.out]; simp [n4C]
  rw [← List.append_nil Q4, ← List.append_assoc] at X6
  go_region_law (refine step_copy rfl _ _ rfl (w.heap.size + 1) 16 4 4 4 (some ⟨w.heap.size, 8, none⟩) rfl rfl d _ 5 X6.out T6.out H.out.dl (by simp [hpl.out, hql.out, H.out.sl]) ?_; intro w7 hg7 hk7; have X7 := Hid.mk' hg7; have K7 := Hid.mk' hk7; clear hg7 hk7)
  have B7 : Hid (Below w.heap.size w w7) := B6.out.drew.trans (K7.out.below B6.out.size (fun k hk => by omega))
  rw [put_mid _ _ _ _ 16 (by simp [hpl.out, H.out.sl]) (by simp [H.out.dl, hql.out]), List.append_nil, List.append_assoc] at X7
  clear K7 X6 Y6 B6 T6
  have EB : Hid (PR ++ (s.map (Value.int .u8) ++ d.map (Value.int .u8)) = (n4B o l p i s d n 0).map (Value.int .u8)) := Hid.mk' (by rw [← HPR.out]; simp [n4B])
  rw [EB.out] at X7
  have hB0 : Hid (Bytes (n4B o l p i s d n 0)) := Hid.mk' (n4B_bytes H.out (by omega) (by omega) (by omega) (by omega))
  have hL0 : Hid ((n4B o l p i s d n 0).length = 20) := Hid.mk' (n4B_length H.out _ _)
  have S7 : Hid (Bs w7 (some ⟨w.heap.size + 1, 0, none⟩) (n4B o l p i s d n 0)) := Hid.mk' (bs_block (A := []) (D := []) (t := 5) (by rw [X7.out]; simp) 0 rfl hB0.out (by rw [hL0.out]; omega))
  go_wp2_with fail
  have key := fieldOf_any (some ⟨w.heap.size + 1, 0, none⟩) 20 20 (n4B o l p i s d n 0) w7 hL0.out S7.out (by omega)
  rw [zf_n4B H.out] at key
  refine key.mono ?_
  rintro e w8 ⟨rfl, b8⟩
  have X8 : Hid (w8.heap[w.heap.size + 1]? = some (.cells ((n4B o l p i s d n 0).map (Value.int .u8)).toArray 5 (0, 0))) := (b8.block _ (Array.getElem?_eq_some_iff.1 X7.out).1).trans X7.out
  have B8 : Hid (Below w.heap.size w w8) := B7.out.trans (b8.mono B7.out.size)
  clear key b8 X7 B7 S7
  go_wp2_with fail
  have hF := su_range (n4B o l p i s d n 0) 20
  refine (put16_any (w.heap.size + 1) 20 10 _ _ 5 w8 X8.out (by rw [List.length_map]; exact hL0.out) (by omega) (by omega) (by omega) (by omega)).mono ?_
  rintro e w9 ⟨rfl, x9, k9⟩
  have B9 : Hid (Below w.heap.size w w9) := B8.out.trans (k9.below B8.out.size (fun k hk => by omega))
  have O9 : Hid (w9.ownsRow w.heap.size 5 1 (.slice (some ⟨w.heap.size + 1, 0, none⟩) 20 20) 20 ((n4B o l p i s d n (n4F o l p i s d n)).map (Value.int .u8))) := Hid.mk' (by
    refine own_block ?_ (by omega) (by rw [List.length_map, n4B_length H.out]) (by omega)
    rw [x9]; simp [n4B, n4F])
  clear x9 k9 X8 B8 hF
  go_wp2_with fail
  go_ret2
  exact ⟨_, rfl, O9.out, B9.out⟩

/-- Cells of a header that is none. -/
def hd0 : List Value := [.int .u8 0, .int .u8 0, .int .u8 0, .int .u16 0, .int .u8 0, .int .u8 0, .int .u8 0, .int .u8 0, .int .u8 0, .int .u8 0, .int .u8 0, .int .u8 0]

theorem hd0_one : hd0.toArray.all (·.oneCell') = true := n4C_one 0 0 0 0 [0, 0, 0, 0] [0, 0, 0, 0]

/-- Two bytes as a number. -/
def rdV (zs : List Int) (k : Nat) : Int := zs.getD k 0 * 256 + zs.getD (k + 1) 0

theorem rdV_bd {zs : List Int} (h : Bytes zs) (k : Nat) : 0 ≤ rdV zs k ∧ rdV zs k ≤ 65535 := by
  have h0 := h.getD k
  have h1 := h.getD (k + 1)
  unfold rdV; omega

set_option maxHeartbeats 400000 in
theorem lread_short (a : Option Addr) (n c : Nat) (w : World) (hn : n < 20) :
    Calls Tryz.prog 69 #[.slice a n c] w fun e w' => e = .returned (.tuple #[.agg hd0.toArray, .int .i64 6]) ∧ Below w.heap.size w w' := by
  go_enter Tryz.func69, Tryz.ntmps69
  go_wp2_with fail
  refine ret_cell_tmp rfl w.heap.size 36 hd0 (0, 0) _ rfl (heap_alloc_new w _) Tryz.underlying36 rfl info_hd rfl ?_
  exact ⟨rfl, (Below.refl _ _).alloc (Nat.le_refl _) _⟩

/-- What holds where Read has only looked: the box of its result, which is none yet. -/
structure RdJ (w u : World) : Prop where
  box : u.heap[w.heap.size]? = some (.cells hd0.toArray 36 (0, 0))
  old : Below w.heap.size w u

theorem RdJ.first (w : World) : RdJ w (w.alloc (.cells hd0.toArray 36)) := ⟨heap_alloc_new w _, (Below.refl _ _).alloc (Nat.le_refl _) _⟩

theorem RdJ.below {w u v : World} (h : RdJ w u) (b : Below u.heap.size u v) : RdJ w v :=
  ⟨(b.block _ (Array.getElem?_eq_some_iff.1 h.box).1).trans h.box, h.old.trans (b.mono h.old.size)⟩

theorem RdJ.dr {w u v : World} (h : RdJ w u) (d : Dr u v) : RdJ w v := h.below (d.below _)

theorem RdJ.there {w u : World} (h : RdJ w u) : u.there w.heap.size 0 hd0.toArray.size := there_block h.box

/-- .. and where a header is stored there. -/
theorem RdJ.done {w u : World} (h : RdJ w u) (M : List Value) (hl : M.length = 12) : (u.setCells w.heap.size 0 M).heap[w.heap.size]? = some (.cells M.toArray 36 (0, 0)) ∧ Below w.heap.size w (u.setCells w.heap.size 0 M) :=
  ⟨heap_whole (L := hd0) h.box (by rw [hl]; rfl), h.old.trans (((Kept.refl (fun k => k = w.heap.size) u).setCells w.heap.size 0 M (fun _ => rfl)).below h.old.size (fun k hk => by omega))⟩

/-- Read's first questions. -/
abbrev rdQ (zs : List Int) : Prop := zs.getD 0 0 = 69 ∧ rdV zs 6 = 0 ∧ rdV zs 2 = (zs.length : Int)

set_option maxHeartbeats 1000000 in
theorem lread_bad (b off : Nat) (n c : Nat) (zs : List Int) (w : World) (hz : zs.length = n) (hB : Bs w (some ⟨b, off, none⟩) zs) (hn : 20 ≤ n) (hq : ¬ rdQ zs) :
    Calls Tryz.prog 69 #[.slice (some ⟨b, off, none⟩) n c] w fun e w' => e = .returned (.tuple #[.agg hd0.toArray, .int .i64 70]) ∧ Below w.heap.size w w' := by
  have hln : n ≤ 140737488355328 := by rw [← hz]; exact hB.len
  have J1 := Hid.mk' (RdJ.first w)
  have KG : Hid (∀ (u : World) (k : Nat), RdJ w u → k + 2 ≤ n → Calls Tryz.prog 126 #[.slice (some ⟨b, off, none⟩) n c, .int .i64 k] u fun e u' => e = .returned (.int .u16 (rdV zs k)) ∧ Dr u u') := Hid.mk' (fun u k h hk => get16_any b off n c k zs u hz (hB.below h.old) hk)
  have cc : w.cell? ⟨b, off, none⟩ = some (.int .u8 (zs.getD 0 0)) := by
    rcases hB.lies with h0 | ⟨b', off', e, hc⟩
    · omega
    · cases e; exact hc 0 (by omega)
  have hlt := lt_of_cell cc
  have hlt' : b < w.heap.size := hlt
  have hne : ¬ b = w.heap.size := by omega
  unfold rdQ at hq
  rw [hz] at hq
  have z0 := hB.bytes.getD 0
  have v6 := rdV_bd hB.bytes 6
  have v2 := rdV_bd hB.bytes 2
  clear hB hz hlt
  generalize zs.getD 0 0 = x at *
  obtain ⟨V6, H6⟩ : ∃ V6, Hid (rdV zs 6 = V6) := ⟨_, rfl⟩
  obtain ⟨V2, H2⟩ : ∃ V2, Hid (rdV zs 2 = V2) := ⟨_, rfl⟩
  rw [H6.out] at hq v6
  rw [H2.out] at hq v2
  by_cases hx : x = 69
  · subst hx
    by_cases h6 : V6 = 0
    · subst h6
      have h2 : ¬ V2 = (n : Int) := fun e => hq ⟨rfl, rfl, e⟩
      have h2b : (V2 != (n : Int)) = true := by simpa using h2
      go_enter Tryz.func69, Tryz.ntmps69
      go_wp2_with (first | (go_at_call_of 126 (Value.int IntKind.i64 6); refine (KG.out _ 6 J1.out (by omega)).mono ?_; rw [H6.out]; rintro e w2 ⟨rfl, d2⟩; have J2 := Hid.mk' (J1.out.dr d2); clear d2) | (go_at_call_of 126 (Value.int IntKind.i64 2); refine (KG.out _ 2 J2.out (by omega)).mono ?_; rw [H2.out]; rintro e w3 ⟨rfl, d3⟩; have J3 := Hid.mk' (J2.out.dr d3); clear d3) | refine wpList_store_mid rfl 36 _ _ rfl w.heap.size 0 hd0.toArray rfl rfl J3.out.there info_hd hd0_one ?_)
      refine ret_cell_tmp rfl w.heap.size 36 hd0 (0, 0) _ rfl (J3.out.done hd0 rfl).1 Tryz.underlying36 rfl info_hd rfl ?_
      exact ⟨rfl, (J3.out.done hd0 rfl).2⟩
    · have h6b : (V6 != 0) = true := by simpa using h6
      go_enter Tryz.func69, Tryz.ntmps69
      go_wp2_with (first | (go_at_call_of 126 (Value.int IntKind.i64 6); refine (KG.out _ 6 J1.out (by omega)).mono ?_; rw [H6.out]; rintro e w2 ⟨rfl, d2⟩; have J2 := Hid.mk' (J1.out.dr d2); clear d2) | refine wpList_store_mid rfl 36 _ _ rfl w.heap.size 0 hd0.toArray rfl rfl J2.out.there info_hd hd0_one ?_)
      refine ret_cell_tmp rfl w.heap.size 36 hd0 (0, 0) _ rfl (J2.out.done hd0 rfl).1 Tryz.underlying36 rfl info_hd rfl ?_
      exact ⟨rfl, (J2.out.done hd0 rfl).2⟩
  · have hxb : (x != 69) = true := by simpa using hx
    go_enter Tryz.func69, Tryz.ntmps69
    go_wp2_with (first | refine wpList_store_mid rfl 36 _ _ rfl w.heap.size 0 hd0.toArray rfl rfl J1.out.there info_hd hd0_one ?_)
    refine ret_cell_tmp rfl w.heap.size 36 hd0 (0, 0) _ rfl (J1.out.done hd0 rfl).1 Tryz.underlying36 rfl info_hd rfl ?_
    exact ⟨rfl, (J1.out.done hd0 rfl).2⟩

/-- The field that bytes should have. -/
def rdF (zs : List Int) : Int := 65535 - su (zf zs) 20

set_option maxHeartbeats 1000000 in
theorem lread_sum (b off : Nat) (n c : Nat) (zs : List Int) (w : World) (hz : zs.length = n) (hB : Bs w (some ⟨b, off, none⟩) zs) (hn : 20 ≤ n) (hq : rdQ zs) (hf : ¬ rdV zs 10 = rdF zs) :
    Calls Tryz.prog 69 #[.slice (some ⟨b, off, none⟩) n c] w fun e w' => e = .returned (.tuple #[.agg hd0.toArray, .int .i64 110]) ∧ Below w.heap.size w w' := by
  have hln : n ≤ 140737488355328 := by rw [← hz]; exact hB.len
  have J1 := Hid.mk' (RdJ.first w)
  have KG : Hid (∀ (u : World) (k : Nat), RdJ w u → k + 2 ≤ n → Calls Tryz.prog 126 #[.slice (some ⟨b, off, none⟩) n c, .int .i64 k] u fun e u' => e = .returned (.int .u16 (rdV zs k)) ∧ Dr u u') := Hid.mk' (fun u k h hk => get16_any b off n c k zs u hz (hB.below h.old) hk)
  have KF : Hid (∀ u : World, RdJ w u → Calls Tryz.prog 127 #[.slice (some ⟨b, off, none⟩) n c] u fun e u' => e = .returned (.int .u16 (rdF zs)) ∧ Below u.heap.size u u') := Hid.mk' (fun u h => fieldOf_any _ n c zs u hz (hB.below h.old) hn)
  have c0 : w.cell? ⟨b, off, none⟩ = some (.int .u8 (zs.getD 0 0)) := by
    rcases hB.lies with h0 | ⟨b', off', e, hc⟩
    · omega
    · cases e; exact hc 0 (by omega)
  have hlt := lt_of_cell c0
  have hlt' : b < w.heap.size := hlt
  have hne : ¬ b = w.heap.size := by omega
  obtain ⟨hx, h6, h2⟩ := hq
  rw [hz] at h2
  rw [hx] at c0
  have H6 := Hid.mk' h6
  have H2 := Hid.mk' h2
  clear hB hz hlt hx h6 h2
  obtain ⟨V10, H10⟩ : ∃ V, Hid (rdV zs 10 = V) := ⟨_, rfl⟩
  obtain ⟨F, HF⟩ : ∃ F, Hid (rdF zs = F) := ⟨_, rfl⟩
  rw [H10.out, HF.out] at hf
  have hfb : (V10 != F) = true := by simpa using hf
  have hnb : ((n : Int) != (n : Int)) = false := by simp
  go_enter Tryz.func69, Tryz.ntmps69
  go_wp2_with (first | (go_at_call_of 126 (Value.int IntKind.i64 6); refine (KG.out _ 6 J1.out (by omega)).mono ?_; rw [H6.out]; rintro e w2 ⟨rfl, d2⟩; have J2 := Hid.mk' (J1.out.dr d2); clear d2) | (go_at_call_of 126 (Value.int IntKind.i64 2); refine (KG.out _ 2 J2.out (by omega)).mono ?_; rw [H2.out]; rintro e w3 ⟨rfl, d3⟩; have J3 := Hid.mk' (J2.out.dr d3); clear d3) | (go_at_call_of 126 (Value.int IntKind.i64 10); refine (KG.out _ 10 J3.out (by omega)).mono ?_; rw [H10.out]; rintro e w4 ⟨rfl, d4⟩; have J4 := Hid.mk' (J3.out.dr d4); clear d4) | (go_at_call 127; refine (KF.out _ J4.out).mono ?_; rw [HF.out]; rintro e w5 ⟨rfl, b5⟩; have J5 := Hid.mk' (J4.out.below b5); clear b5) | refine wpList_store_mid rfl 36 _ _ rfl w.heap.size 0 hd0.toArray rfl rfl J5.out.there info_hd hd0_one ?_)
  refine ret_cell_tmp rfl w.heap.size 36 hd0 (0, 0) _ rfl (J5.out.done hd0 rfl).1 Tryz.underlying36 rfl info_hd rfl ?_
  exact ⟨rfl, (J5.out.done hd0 rfl).2⟩

/-- The header that bytes begin with: its cells. -/
def rdC (zs : List Int) : List Value := n4C (zs.getD 1 0) (zs.getD 8 0) (zs.getD 9 0) (rdV zs 4) ((zs.drop 12).take 4) ((zs.drop 16).take 4)

theorem n4_of {zs : List Int} (hb : Bytes zs) (hl : 20 ≤ zs.length) : N4 (zs.getD 1 0) (zs.getD 8 0) (zs.getD 9 0) (rdV zs 4) ((zs.drop 12).take 4) ((zs.drop 16).take 4) :=
  ⟨(hb.getD 1).1, (hb.getD 1).2, (hb.getD 8).1, (hb.getD 8).2, (hb.getD 9).1, (hb.getD 9).2, (rdV_bd hb 4).1, (rdV_bd hb 4).2, by simp; omega, by simp; omega, fun z hz => hb z (List.mem_of_mem_drop (List.mem_of_mem_take hz)), fun z hz => hb z (List.mem_of_mem_drop (List.mem_of_mem_take hz))⟩

set_option maxHeartbeats 1000000 in
theorem lread_ok (b off : Nat) (n c : Nat) (zs : List Int) (w : World) (hz : zs.length = n) (hB : Bs w (some ⟨b, off, none⟩) zs) (hn : 20 ≤ n) (hc : n ≤ c) (hq : rdQ zs) (hf : rdV zs 10 = rdF zs) :
    Calls Tryz.prog 69 #[.slice (some ⟨b, off, none⟩) n c] w fun e w' => e = .returned (.tuple #[.agg (rdC zs).toArray, .int .i64 0]) ∧ Below w.heap.size w w' := by
  obtain ⟨RES, HRES⟩ : ∃ RES, Hid (rdC zs = RES) := ⟨_, rfl⟩
  rw [HRES.out]
  have hln : n ≤ 140737488355328 := by rw [← hz]; exact hB.len
  have J1 := Hid.mk' (RdJ.first w)
  have KG : Hid (∀ (u : World) (k : Nat), RdJ w u → k + 2 ≤ n → Calls Tryz.prog 126 #[.slice (some ⟨b, off, none⟩) n c, .int .i64 k] u fun e u' => e = .returned (.int .u16 (rdV zs k)) ∧ Dr u u') := Hid.mk' (fun u k h hk => get16_any b off n c k zs u hz (hB.below h.old) hk)
  have KF : Hid (∀ u : World, RdJ w u → Calls Tryz.prog 127 #[.slice (some ⟨b, off, none⟩) n c] u fun e u' => e = .returned (.int .u16 (rdF zs)) ∧ Below u.heap.size u u') := Hid.mk' (fun u h => fieldOf_any _ n c zs u hz (hB.below h.old) hn)
  have c0 : w.cell? ⟨b, off, none⟩ = some (.int .u8 (zs.getD 0 0)) := by
    rcases hB.lies with h0 | ⟨b', off', e, hc⟩
    · omega
    · cases e; exact hc 0 (by omega)
  have hlt := lt_of_cell c0
  have hlt' : b < w.heap.size := hlt
  have hne : ¬ b = w.heap.size := by omega
  obtain ⟨hx, h6, h2⟩ := hq
  rw [hz] at h2
  rw [hx] at c0
  have H6 := Hid.mk' h6
  have H2 := Hid.mk' h2
  have CE : Hid (∀ u, RdJ w u → u.cell? ⟨b, off + 1, none⟩ = some (.int .u8 (zs.getD 1 0)) ∧ u.cell? ⟨b, off + 8, none⟩ = some (.int .u8 (zs.getD 8 0)) ∧ u.cell? ⟨b, off + 9, none⟩ = some (.int .u8 (zs.getD 9 0))) := Hid.mk' (fun u h => by
    rcases (hB.below h.old).lies with h0 | ⟨b', off', e, hc⟩
    · omega
    · cases e; exact ⟨hc 1 (by omega), hc 8 (by omega), hc 9 (by omega)⟩)
  have HB := Hid.mk' hB
  have HN := Hid.mk' hz
  have v4 := rdV_bd hB.bytes 4
  have HN4 := Hid.mk' (n4_of hB.bytes (by rw [hz]; exact hn))
  clear hB hz hlt hx h6 h2
  obtain ⟨F, HF⟩ : ∃ F, Hid (rdF zs = F) := ⟨_, rfl⟩
  rw [HF.out] at hf
  have H10 := Hid.mk' hf
  clear hf
  obtain ⟨V4, H4⟩ : ∃ V, Hid (rdV zs 4 = V) := ⟨_, rfl⟩
  obtain ⟨x1, HX1⟩ : ∃ x, Hid (zs.getD 1 0 = x) := ⟨_, rfl⟩
  obtain ⟨x8, HX8⟩ : ∃ x, Hid (zs.getD 8 0 = x) := ⟨_, rfl⟩
  obtain ⟨x9, HX9⟩ : ∃ x, Hid (zs.getD 9 0 = x) := ⟨_, rfl⟩
  rw [HX1.out, HX8.out, HX9.out] at CE
  rw [H4.out] at v4
  obtain ⟨v40, v41⟩ := v4
  have hfb : (F != F) = false := by simp
  have hnb : ((n : Int) != (n : Int)) = false := by simp
  have k1 : (1 : Int) < (n : Int) := by omega
  have k8 : (8 : Int) < (n : Int) := by omega
  have k9 : (9 : Int) < (n : Int) := by omega
  go_enter Tryz.func69, Tryz.ntmps69
  go_wp2_with (first | (go_at_call_of 126 (Value.int IntKind.i64 6); refine (KG.out _ 6 J1.out (by omega)).mono ?_; rw [H6.out]; rintro e w2 ⟨rfl, d2⟩; have J2 := Hid.mk' (J1.out.dr d2); clear d2) | (go_at_call_of 126 (Value.int IntKind.i64 2); refine (KG.out _ 2 J2.out (by omega)).mono ?_; rw [H2.out]; rintro e w3 ⟨rfl, d3⟩; have J3 := Hid.mk' (J2.out.dr d3); clear d3) | (go_at_call_of 126 (Value.int IntKind.i64 10); refine (KG.out _ 10 J3.out (by omega)).mono ?_; rw [H10.out]; rintro e w4 ⟨rfl, d4⟩; have J4 := Hid.mk' (J3.out.dr d4); clear d4) | (go_at_call 127; refine (KF.out _ J4.out).mono ?_; rw [HF.out]; rintro e w5 ⟨rfl, b5⟩; have J5 := Hid.mk' (J4.out.below b5); clear b5))
  obtain ⟨q1, q8, q9⟩ := CE.out _ J5.out
  have hlt5 : b < w5.heap.size := lt_of_cell q1
  have hne5 : ¬ b = w5.heap.size := by omega
  clear J1 J2 J3 J4 c0 hlt' hne
  have hds : ∀ (u : World) (m : Nat) (a : Addr) (v : Value), (u.drewN m).setCell a v = (u.setCell a v).drewN m := fun _ _ _ _ => rfl
  have hda : ∀ (u : World) (m : Nat) (o : Obj), (u.drewN m).alloc o = (u.alloc o).drewN m := fun _ _ _ => rfl
  go_region_held3 (fun w' => w'.cell? ⟨b, off + 1, none⟩ = some (.int .u8 x1) ∧ w'.cell? ⟨b, off + 8, none⟩ = some (.int .u8 x8) ∧ w'.cell? ⟨b, off + 9, none⟩ = some (.int .u8 x9)) (go_keep) (first | (go_at_call 126; refine (KG.out _ 4 (by first | exact J5.out.dr ⟨1, rfl⟩ | exact (J5.out.below ((Below.refl _ _).alloc (Nat.le_refl _) _)).dr ⟨1, rfl⟩ | exact J5.out.dr ⟨_, rfl⟩ | exact (J5.out.below ((Below.refl _ _).alloc (Nat.le_refl _) _)).dr ⟨_, rfl⟩) (by omega)).mono ?_; rw [H4.out]; rintro e w6 ⟨rfl, n6, rfl⟩))
  all_goals
    obtain ⟨W7, hW7⟩ : ∃ W7, W7 = (w5.alloc (.cells #[.int .u8 x1, .int .u8 x8, .int .u8 x9, .int .u16 V4, .int .u8 0, .int .u8 0, .int .u8 0, .int .u8 0, .int .u8 0, .int .u8 0, .int .u8 0, .int .u8 0] 36)).drewN (1 + n6) := ⟨_, rfl⟩
    rw [← hW7]
    have J7 : Hid (RdJ w W7) := Hid.mk' (by rw [hW7]; exact (J5.out.below ((Below.refl _ _).alloc (Nat.le_refl _) _)).dr ⟨_, rfl⟩)
    have SZ : Hid (w.heap.size < w5.heap.size) := Hid.mk' (Array.getElem?_eq_some_iff.1 J5.out.box).1
    obtain ⟨HD, HHD⟩ : ∃ HD : List Value, Hid ([.int .u8 x1, .int .u8 x8, .int .u8 x9, .int .u16 V4] = HD) := ⟨_, rfl⟩
    obtain ⟨Q4, HQ4⟩ : ∃ Q4 : List Value, Hid ([.int .u8 0, .int .u8 0, .int .u8 0, .int .u8 0] = Q4) := ⟨_, rfl⟩
    have Q7 : Hid (W7.heap[w5.heap.size]? = some (.cells (HD ++ (Q4 ++ Q4)).toArray 36 (0, 0))) := Hid.mk' (by rw [hW7, ← HHD.out, ← HQ4.out]; exact heap_alloc_new w5 _)
    have hhl : Hid (HD.length = 4) := Hid.mk' (by rw [← HHD.out]; rfl)
    have hql : Hid (Q4.length = 4) := Hid.mk' (by rw [← HQ4.out]; rfl)
    clear hW7 q1 q8 q9 hlt5 hne5 J5 hds hda
    have c12 : (12 : Int) ≤ (c : Int) := by omega
    have c16 : (16 : Int) ≤ (c : Int) := by omega
    have c20 : (20 : Int) ≤ (c : Int) := by omega
    have n12 : ¬ c = 12 := by omega
    have n16 : ¬ c = 16 := by omega
    go_wp2_with fail
    have T7 : Hid (Bs W7.drew (some ⟨b, off + 12, none⟩) ((zs.drop 12).take 4)) := (((HB.out.below J7.out.old).below ((Below.refl _ _).drew)).drop 12).take 4 (by rw [List.length_drop, HN.out]; omega)
    go_region_law (refine step_copy rfl _ _ rfl w5.heap.size 4 4 4 (c - 12) (some ⟨b, off + 12, none⟩) rfl rfl ((zs.drop 12).take 4) _ 36 Q7.out T7.out HN4.out.sl (by simp [hhl.out, hql.out]) ?_; intro w8 hg8 hk8; have Q8 := Hid.mk' hg8; have K8 := Hid.mk' hk8; clear hg8 hk8)
    have J8 : Hid (RdJ w w8) := Hid.mk' ⟨(K8.out.block w.heap.size (by have := (Array.getElem?_eq_some_iff.1 J7.out.box).1; exact this) (by have := SZ.out; omega)).trans J7.out.box, J7.out.old.drew.trans (K8.out.below J7.out.old.size (fun k hk => by have := SZ.out; omega))⟩
    rw [put_mid _ _ _ _ 4 hhl.out.symm (by rw [List.length_map, HN4.out.sl, hql.out])] at Q8
    clear K8 J7 Q7 T7
    go_wp2_with fail
    have T8 : Hid (Bs w8.drew (some ⟨b, off + 16, none⟩) ((zs.drop 16).take 4)) := (((HB.out.below J8.out.old).below ((Below.refl _ _).drew)).drop 16).take 4 (by rw [List.length_drop, HN.out]; omega)
    rw [← List.append_nil Q4, ← List.append_assoc] at Q8
    go_region_law (refine step_copy rfl _ _ rfl w5.heap.size 8 4 4 (c - 16) (some ⟨b, off + 16, none⟩) rfl rfl ((zs.drop 16).take 4) _ 36 Q8.out T8.out HN4.out.dl (by simp only [List.length_append, List.length_map, hhl.out, hql.out, HN4.out.sl]; omega) ?_; intro w9 hg9 hk9; have Q9 := Hid.mk' hg9; have K9 := Hid.mk' hk9; clear hg9 hk9)
    have J9 : Hid (RdJ w w9) := Hid.mk' ⟨(K9.out.block w.heap.size (by have := (Array.getElem?_eq_some_iff.1 J8.out.box).1; exact this) (by have := SZ.out; omega)).trans J8.out.box, J8.out.old.drew.trans (K9.out.below J8.out.old.size (fun k hk => by have := SZ.out; omega))⟩
    rw [put_mid _ _ _ _ 8 (by simp only [List.length_append, List.length_map, hhl.out, HN4.out.sl]) (by rw [List.length_map, HN4.out.dl, hql.out]), List.append_nil, List.append_assoc] at Q9
    have HLR : Hid (HD ++ (((zs.drop 12).take 4).map (Value.int .u8) ++ ((zs.drop 16).take 4).map (Value.int .u8)) = RES) := Hid.mk' (by rw [← HRES.out, ← HHD.out, ← HX1.out, ← HX8.out, ← HX9.out, ← H4.out]; rfl)
    have hlr : Hid (RES.length = 12) := Hid.mk' (by rw [← HRES.out]; exact n4C_length HN4.out)
    have hone : Hid (RES.toArray.all (·.oneCell') = true) := Hid.mk' (by rw [← HRES.out]; exact n4C_one _ _ _ _ _ _)
    rw [HLR.out] at Q9
    have hth : Hid (w9.there w.heap.size 0 RES.toArray.size) := Hid.mk' (by
      have e : RES.toArray.size = hd0.toArray.size := by rw [List.size_toArray, hlr.out]; rfl
      rw [e]; exact J9.out.there)
    clear K9 J8 Q8 T8
    go_wp2_with (first | refine wpList_store_mid rfl 36 _ _ rfl w.heap.size 0 RES.toArray rfl rfl hth.out (by rw [List.size_toArray, hlr.out]; exact info_hd) hone.out ?_ | refine wpList_load_mid rfl 36 _ rfl w5.heap.size 0 rfl RES _ (range_block Q9.out) Tryz.underlying36 rfl (by rw [hlr.out]; exact info_hd) ?_)
    refine ret_cell_tmp rfl w.heap.size 36 RES (0, 0) _ rfl (J9.out.done RES hlr.out).1 Tryz.underlying36 rfl (by rw [hlr.out]; exact info_hd) rfl ?_
    exact ⟨rfl, (J9.out.done RES hlr.out).2⟩

theorem rcheck_any (L : List Value) (w : World) : Calls Tryz.prog 169 #[.agg L.toArray] w fun e w' => e = .returned (.int .i64 0) ∧ Below w.heap.size w w' := by
  go_enter Tryz.func169, Tryz.ntmps169
  go_wp2_with fail
  go_ret
  exact ⟨rfl, (Below.refl _ _).alloc (Nat.le_refl _) _⟩

theorem numB_two (t : Int) (h0 : 0 ≤ t) (h1 : t ≤ 65535) : numB 2 t = [t / 256, t % 256] := by
  simp [numB]; omega

theorem Kept_block {w w' : World} {g : Nat} {o : Obj} {row : Option Nat} (h : w.heap[g]? = some o) (hg : w.grownBy w' row) (hne : row ≠ some g) : w'.heap[g]? = some o :=
  (hg.block g (Array.getElem?_eq_some_iff.1 h).1 (fun e => hne e.symm)).trans h

set_option maxHeartbeats 400000 in
theorem rbytes_no (L : List Value) (a : Option Addr) (n c : Nat) (w : World) (hlc : L.length = 12) (hn : ¬ n ≤ 2028) (hl : n ≤ 140737488355328) :
    Calls Tryz.prog 114 #[.agg L.toArray, .slice a n c] w fun e w' => e = .returned (.tuple #[.slice none 0 0, .int .i64 5]) ∧ Below w.heap.size w w' := by
  have hlc := Hid.mk' hlc
  obtain ⟨W1, hW1⟩ : ∃ W1, W1 = w.alloc (.cells L.toArray 36) := ⟨_, rfl⟩
  have R1 : Hid (W1.heap[w.heap.size]? = some (.cells L.toArray 36 (0, 0))) := by rw [hW1]; exact heap_alloc_new w _
  have B1 : Hid (Below w.heap.size w W1) := by rw [hW1]; exact (Below.refl _ _).alloc (Nat.le_refl _) _
  have HW := Hid.mk' hW1.symm
  clear hW1
  go_enter Tryz.func114, Tryz.ntmps114
  go_wp2_with (first | (go_at_call 169; rw [HW.out]; refine (rcheck_any L W1).mono ?_; rintro e w2 ⟨rfl, b2⟩; have B2 : Hid (Below w.heap.size w w2) := (B1.out.trans (b2.mono B1.out.size)); clear b2) | refine wpList_load_mid rfl 36 _ rfl w.heap.size 0 rfl L _ (by rw [HW.out]; exact range_block R1.out) Tryz.underlying36 rfl (by rw [hlc.out]; exact info_hd) ?_)
  go_ret2
  exact ⟨rfl, B2.out⟩

/-- What lies in memory while the document's Bytes goes on: the header's box, the row that is appended to. -/
structure RbJ (w : World) (L : List Value) (B : Nat) (v : Value) (k : Nat) (xs : List Int) (u : World) : Prop where
  box : u.heap[w.heap.size]? = some (.cells L.toArray 36 (0, 0))
  own : u.ownsRow B 5 1 v k (xs.map (Value.int .u8))
  old : Below w.heap.size w u
  sz : B ≤ u.heap.size
  lt : w.heap.size < B

theorem RbJ.below {w u u' : World} {L : List Value} {B : Nat} {v : Value} {k : Nat} {xs : List Int} (h : RbJ w L B v k xs u) (b : Below u.heap.size u u') : RbJ w L B v k xs u' :=
  ⟨(b.block _ (Array.getElem?_eq_some_iff.1 h.box).1).trans h.box, Kept.owns h.own (Kept.of_below (S := fun _ => False) b) (fun _ _ h => h), h.old.trans (b.mono h.old.size), Nat.le_trans h.sz b.size, h.lt⟩

theorem RbJ.app {w u u' : World} {L : List Value} {B : Nat} {v v' : Value} {k m : Nat} {xs ys : List Int} (h : RbJ w L B v k xs u) (o : u'.ownsRow B 5 1 v' (k + m) (xs.map (Value.int .u8) ++ ys.map (Value.int .u8))) (g : u.grownBy u' v.ownBlock) : RbJ w L B v' (k + m) (xs ++ ys) u' :=
  ⟨Kept_block h.box g (fun e => by have h1 := (h.own.lt _ e).1; have h2 := h.lt; omega), by rw [List.map_append]; exact o, h.old.grown g h.old.size (fun j hj => Nat.le_trans (Nat.le_of_lt h.lt) (h.own.lt j hj).1), Nat.le_trans h.sz g.size, h.lt⟩

/-- A row of the call's own that there is, as bytes that can be read. -/
theorem bs_row_g {w : World} {base g n c : Nat} {t : TypeId} {zs : List Int} (h : w.ownsRow base t 1 (.slice (some ⟨g, 0, none⟩) n c) n (zs.map (Value.int .u8))) (hb : Bytes zs) (hl : zs.length ≤ 140737488355328) : Bs w (some ⟨g, 0, none⟩) zs := by
  have hn : n = zs.length := by have := h.1; simpa using this.symm
  subst hn
  obtain ⟨a, c', e, hB, -⟩ := bs_own h hb hl
  cases e
  exact hB

set_option maxHeartbeats 2000000 in
theorem rbytes_ok (o l p i : Int) (s d : List Int) (a : Option Addr) (n c : Nat) (w : World) (h : N4 o l p i s d) (hn : n ≤ 2028) :
    Calls Tryz.prog 114 #[.agg (n4C o l p i s d).toArray, .slice a n c] w fun e w' => ∃ v, e = .returned (.tuple #[v, .int .i64 0]) ∧ w'.ownsRow w.heap.size 5 1 v 20 ((n4B o l p i s d n (n4F o l p i s d n)).map (Value.int .u8)) ∧ Below w.heap.size w w' := by
  have hlc := Hid.mk' (n4C_length h)
  obtain ⟨L, HL⟩ : ∃ L, Hid (n4C o l p i s d = L) := ⟨_, rfl⟩
  rw [HL.out] at hlc ⊢
  obtain ⟨F, HF⟩ : ∃ F, Hid (n4F o l p i s d n = F) := ⟨_, rfl⟩
  rw [HF.out]
  obtain ⟨W1, hW1⟩ : ∃ W1, W1 = w.alloc (.cells L.toArray 36) := ⟨_, rfl⟩
  have R1 : Hid (W1.heap[w.heap.size]? = some (.cells L.toArray 36 (0, 0))) := by rw [hW1]; exact heap_alloc_new w _
  have B1 : Hid (Below w.heap.size w W1) := by rw [hW1]; exact (Below.refl _ _).alloc (Nat.le_refl _) _
  have HW := Hid.mk' hW1.symm
  have i0 := h.i0
  have i1 := h.i1
  have H := Hid.mk' h
  have CE : Hid (∀ w' : World, w'.heap[w.heap.size]? = some (.cells L.toArray 36 (0, 0)) → w'.cell? ⟨w.heap.size, 0, none⟩ = some (.int .u8 o) ∧ w'.cell? ⟨w.heap.size, 1, none⟩ = some (.int .u8 l) ∧ w'.cell? ⟨w.heap.size, 2, none⟩ = some (.int .u8 p) ∧ w'.cell? ⟨w.heap.size, 3, none⟩ = some (.int .u16 i)) := Hid.mk' (fun w' hh => by
    rw [← HL.out] at hh
    refine ⟨?_, ?_, ?_, ?_⟩ <;> exact cell_of_row w' _ _ _ _ _ hh)
  have BSR : Hid (∀ w' : World, w'.heap[w.heap.size]? = some (.cells L.toArray 36 (0, 0)) → Bs w' (some ⟨w.heap.size, 4, none⟩) s ∧ Bs w' (some ⟨w.heap.size, 8, none⟩) d) := Hid.mk' (fun w' hh => by
    constructor
    · refine bs_block (A := [.int .u8 o, .int .u8 l, .int .u8 p, .int .u16 i]) (D := d.map (Value.int .u8)) (t := 36) ?_ 4 rfl H.out.sb (by rw [H.out.sl]; omega)
      rw [hh, ← HL.out]; rfl
    · refine bs_block (A := [.int .u8 o, .int .u8 l, .int .u8 p, .int .u16 i] ++ s.map (Value.int .u8)) (D := []) (t := 36) ?_ 8 (by simp [H.out.sl]) H.out.db (by rw [H.out.dl]; omega)
      rw [hh, ← HL.out]; simp [n4C])
  have Y1 : Hid (Bytes [69, o]) := Hid.mk' (by intro z hz; simp at hz; have := H.out.o0; have := H.out.o1; omega)
  have Y2 : Hid (Bytes [0, 0, l, p, 0, 0]) := Hid.mk' (by intro z hz; simp at hz; have := H.out.l0; have := H.out.l1; have := H.out.p0; have := H.out.p1; omega)
  clear h hW1
  go_enter Tryz.func114, Tryz.ntmps114
  go_wp2_with (first | (go_at_call 169; rw [HW.out]; refine (rcheck_any L W1).mono ?_; rintro e w2 ⟨rfl, b2⟩; have B2 : Hid (Below w.heap.size w w2) := (B1.out.trans (b2.mono B1.out.size)); have R2 : Hid (w2.heap[w.heap.size]? = some (.cells L.toArray 36 (0, 0))) := ((b2.block _ (Array.getElem?_eq_some_iff.1 R1.out).1).trans R1.out); obtain ⟨c0, c1, c2, c3⟩ := CE.out _ R2.out; clear b2) | (at_builtin; refine wpList_app_own rfl _ _ rfl w2.heap.size (.slice none 0 0) 0 [] rfl (World.ownsRow_nil _ _ _ _) (some ⟨w2.heap.size, 0, none⟩) 2 2 [69, o] rfl rfl (bs_new w2 [69, o] 5 Y1.out (by simp)) (by omega) (by simp) ?_; intro v4 w4 hown hgrow hpl; have J4 : Hid (RbJ w L w2.heap.size v4 2 [69, o] w4) := Hid.mk' (have hlt := (Array.getElem?_eq_some_iff.1 R2.out).1; have hA : Below w2.heap.size w2 (w2.alloc (.cells ([69, o].map (Value.int .u8)).toArray 5)) := (Below.refl _ _).alloc (Nat.le_refl _) _; ⟨Kept_block ((hA.block _ hlt).trans R2.out) hgrow (by simp [Value.ownBlock]), hown, (B2.out.trans (hA.mono B2.out.size)).grown hgrow (Nat.le_trans B2.out.size hA.size) (by intro k hk; simp [Value.ownBlock] at hk), Nat.le_trans hA.size hgrow.size, hlt⟩); clear hown hgrow hpl c0 c1 c2 c3) | refine wpList_load_mid rfl 36 _ rfl w.heap.size 0 rfl L _ (by rw [HW.out]; exact range_block R1.out) Tryz.underlying36 rfl (by rw [hlc.out]; exact info_hd) ?_)
  refine (number_any (20 + (n : Int)) 2 w4 (by omega) (by omega) (by omega)).mono ?_
  rintro e w5 ⟨u5, rfl, hown, b5⟩
  obtain ⟨a5, c5, rfl, s5, -⟩ := bs_own (by rw [numB_length]; exact hown) (numB_bytes 2 (20 + (n : Int))) (by rw [numB_length]; omega)
  rw [numB_length] at *
  have S5 := Hid.mk' s5
  have J5 := Hid.mk' (J4.out.below b5)
  clear hown b5 s5 J4
  go_wp2_with (at_builtin; refine wpList_app_own rfl _ _ rfl w2.heap.size v4 2 _ rfl J5.out.own a5 c5 2 (numB 2 (20 + (n : Int))) rfl (numB_length 2 _) S5.out (by omega) J5.out.sz ?_; intro v6 w6 hown hgrow hpl; have J6 := Hid.mk' (J5.out.app hown hgrow); obtain ⟨c0, c1, c2, c3⟩ := CE.out _ J6.out.box; clear hown hgrow hpl)
  refine (number_any i 2 w6 i0 (by omega) (by omega)).mono ?_
  rintro e w7 ⟨u7, rfl, hown, b7⟩
  obtain ⟨a7, c7, rfl, s7, -⟩ := bs_own (by rw [numB_length]; exact hown) (numB_bytes 2 i) (by rw [numB_length]; omega)
  rw [numB_length] at *
  have S7 := Hid.mk' s7
  have J7 := Hid.mk' (J6.out.below b7)
  clear hown b7 s7 J6 J5 S5 c0 c1 c2 c3
  go_wp2_with (first | (at_builtin; refine wpList_app_own rfl _ _ rfl w2.heap.size v6 (2 + 2) _ rfl J7.out.own a7 c7 2 (numB 2 i) rfl (numB_length 2 _) S7.out (by omega) J7.out.sz ?_; intro v8 w8 hown hgrow hpl; have J8 := Hid.mk' (J7.out.app hown hgrow); obtain ⟨c0, c1, c2, c3⟩ := CE.out _ J8.out.box; clear hown hgrow hpl) | (at_builtin; have J8' := Hid.mk' (J8.out.below ((Below.refl w8.heap.size w8).alloc (Nat.le_refl _) (.cells ([0, 0, l, p, 0, 0].map (Value.int .u8)).toArray 5))); refine wpList_app_own rfl _ _ rfl w2.heap.size v8 (2 + 2 + 2) _ rfl J8'.out.own (some ⟨w8.heap.size, 0, none⟩) 6 6 [0, 0, l, p, 0, 0] rfl rfl (bs_new w8 [0, 0, l, p, 0, 0] 5 Y2.out (by simp)) (by omega) J8'.out.sz ?_; intro v9 w9 hown hgrow hpl; have J9 := Hid.mk' (J8'.out.app hown hgrow); clear hown hgrow hpl c0 c1 c2 c3) | (at_builtin; refine wpList_app_own rfl _ _ rfl w2.heap.size v9 (2 + 2 + 2 + 6) _ rfl J9.out.own (some ⟨w.heap.size, 4, none⟩) 4 4 s rfl H.out.sl (BSR.out _ J9.out.box).1 (by omega) J9.out.sz ?_; intro v10 w10 hown hgrow hpl; have J10 := Hid.mk' (J9.out.app hown hgrow); clear hown hgrow hpl) | (at_builtin; refine wpList_app_own rfl _ _ rfl w2.heap.size v10 (2 + 2 + 2 + 6 + 4) _ rfl J10.out.own (some ⟨w.heap.size, 8, none⟩) 4 4 d rfl H.out.dl (BSR.out _ J10.out.box).2 (by omega) J10.out.sz ?_; intro v11 w11 hown hgrow hpl; have J11 := Hid.mk' (J10.out.app hown hgrow); clear hown hgrow hpl))
  have EB : Hid ([69, o] ++ numB 2 (20 + (n : Int)) ++ numB 2 i ++ [0, 0, l, p, 0, 0] ++ s ++ d = n4B o l p i s d n 0) := Hid.mk' (by rw [numB_two _ (by omega) (by omega), numB_two i i0 i1]; simp [n4B])
  rw [EB.out] at J11
  have hB0 : Hid (Bytes (n4B o l p i s d n 0)) := Hid.mk' (n4B_bytes H.out (by omega) (by omega) (by omega) (by omega))
  have hL0 : Hid ((n4B o l p i s d n 0).length = 20) := Hid.mk' (n4B_length H.out _ _)
  clear J7 J8 J8' J9 J10 S7
  have J12 : Hid (RbJ w L w2.heap.size v11 20 (n4B o l p i s d n 0) w11) := J11
  clear J11
  obtain ⟨g, cg, rfl, hcg⟩ := own_some J12.out.own (by omega)
  have hgl := (J12.out.own.lt g rfl).1
  have S12 : Hid (Bs w11 (some ⟨g, 0, none⟩) (n4B o l p i s d n 0)) := Hid.mk' (by
    exact bs_row_g J12.out.own hB0.out (by rw [hL0.out]; omega))
  have key := reffield_any (some ⟨g, 0, none⟩) cg (n4B o l p i s d n 0) w11 S12.out
  rw [hL0.out] at key
  have hF := n4F_bd o l p i s d n
  have HFE : Hid (65535 - su (n4B o l p i s d n 0) 20 = n4F o l p i s d n) := Hid.mk' rfl
  rw [HFE.out] at key
  rw [HF.out] at key hF
  obtain ⟨f0, f1⟩ := hF
  have O0 := Hid.mk' J12.out.own
  have O1 := Hid.mk' (O0.out.stored 10 (.int .u8 (F / 256))).1
  have O2 := Hid.mk' (O1.out.stored 11 (.int .u8 (F % 256))).1
  have d10 : w11.cell? ⟨g, 10, none⟩ = some (.int .u8 0) := by rw [O0.out.cellAt 10 (by omega)]; rfl
  have d11 : w11.cell? ⟨g, 11, none⟩ = some (.int .u8 0) := by rw [O0.out.cellAt 11 (by omega)]; rfl
  have f10 := O0.out.frozenAt 10
  have f11 := O0.out.frozenAt 11
  have HGL := Hid.mk' (Nat.le_trans (Nat.le_of_lt J12.out.lt) hgl)
  have B12 : Hid (Below w.heap.size w ((w11.setCell ⟨g, 10, none⟩ (.int .u8 (F / 256))).setCell ⟨g, 11, none⟩ (.int .u8 (F % 256)))) := Hid.mk' ((J12.out.old.setCell (p := ⟨g, 10, none⟩) HGL.out _).setCell (p := ⟨g, 11, none⟩) HGL.out _)
  have HE : Hid ((((n4B o l p i s d n 0).map (Value.int .u8)).set 10 (.int .u8 (F / 256))).set 11 (.int .u8 (F % 256)) = (n4B o l p i s d n F).map (Value.int .u8)) := Hid.mk' (by simp [n4B])
  have HO := Hid.mk' (ownsRow_base O2.out (Nat.le_of_lt J12.out.lt))
  rw [HE.out] at HO
  have HBO : Hid (w.heap.size ≤ w2.heap.size) := Hid.mk' B2.out.size
  clear hgl hcg O1 O2
  refine key.mono ?_
  rintro e w13 ⟨rfl, rfl⟩
  go_wp2_with fail
  go_ret2
  exact ⟨_, rfl, HO.out, B12.out⟩

set_option maxHeartbeats 400000 in
theorem rread_short (a : Option Addr) (n c : Nat) (w : World) (hn : n < 20) :
    Calls Tryz.prog 121 #[.slice a n c] w fun e w' => e = .returned (.tuple #[.agg hd0.toArray, .int .i64 6]) ∧ Below w.heap.size w w' := by
  go_enter Tryz.func121, Tryz.ntmps121
  go_wp2_with fail
  refine ret_cell_tmp rfl w.heap.size 36 hd0 (0, 0) _ rfl (heap_alloc2_old w _ _) Tryz.underlying36 rfl info_hd rfl ?_
  exact ⟨rfl, ((Below.refl _ _).alloc (Nat.le_refl _) _).alloc (by simp) _⟩

theorem rdV_zero {zs : List Int} (h : Bytes zs) (k : Nat) : rdV zs k = 0 ↔ zs.getD k 0 = 0 ∧ zs.getD (k + 1) 0 = 0 := by
  have h0 := h.getD k
  have h1 := h.getD (k + 1)
  unfold rdV; omega

set_option maxHeartbeats 1000000 in
theorem rread_bad (b off : Nat) (n c : Nat) (zs : List Int) (w : World) (hz : zs.length = n) (hB : Bs w (some ⟨b, off, none⟩) zs) (hn : 20 ≤ n) (hq : ¬ rdQ zs) :
    Calls Tryz.prog 121 #[.slice (some ⟨b, off, none⟩) n c] w fun e w' => e = .returned (.tuple #[.agg hd0.toArray, .int .i64 70]) ∧ Below w.heap.size w w' := by
  have hln : n ≤ 140737488355328 := by rw [← hz]; exact hB.len
  have KV : Hid (∀ (u : World) (k : Nat), Below w.heap.size w u → k + 2 ≤ n → Calls Tryz.prog 181 #[.slice (some ⟨b, off, none⟩) n c, .int .i64 k, .int .i64 2] u fun e u' => e = .returned (.int .i64 (rdV zs k)) ∧ u = u') := Hid.mk' (fun u k h hk => by
    have h0 := value_any b off n c k 2 zs u hz (hB.below h) (by omega) hk
    rw [show valV zs k 2 = rdV zs k by simp [valV, rdV]] at h0
    exact h0)
  have CE : Hid (∀ u, Below w.heap.size w u → ∀ k, k < n → u.cell? ⟨b, off + k, none⟩ = some (.int .u8 (zs.getD k 0))) := Hid.mk' (fun u h k hk => by
    rcases (hB.below h).lies with h0 | ⟨b', off', e, hc⟩
    · omega
    · cases e; exact hc k (by omega))
  have B2 : Hid (Below w.heap.size w ((w.alloc (.cells hd0.toArray 36)).alloc (.cells hd0.toArray 36))) := ((Below.refl _ _).alloc (Nat.le_refl _) _).alloc (by simp) _
  have c0 : w.cell? ⟨b, off, none⟩ = some (.int .u8 (zs.getD 0 0)) := CE.out w (Below.refl _ _) 0 (by omega)
  have c6 := CE.out w (Below.refl _ _) 6 (by omega)
  have c7 := CE.out w (Below.refl _ _) 7 (by omega)
  have hlt := lt_of_cell c0
  have hlt' : b < w.heap.size := hlt
  have hne : ¬ b = w.heap.size := by omega
  have hne1 : ¬ b = w.heap.size + 1 := by omega
  unfold rdQ at hq
  rw [hz, rdV_zero hB.bytes 6] at hq
  have z0 := hB.bytes.getD 0
  have z6 := hB.bytes.getD 6
  have z7 := hB.bytes.getD 7
  have v2 := rdV_bd hB.bytes 2
  clear hB hz hlt CE
  have k6 : (6 : Int) < (n : Int) := by omega
  have k7 : (7 : Int) < (n : Int) := by omega
  have k0 : (0 : Int) < (n : Int) := by omega
  generalize zs.getD 0 0 = x at *
  generalize zs.getD 6 0 = y at *
  rw [show 6 + 1 = 7 from rfl] at hq
  generalize zs.getD 7 0 = z at *
  obtain ⟨V2, H2⟩ : ∃ V2, Hid (rdV zs 2 = V2) := ⟨_, rfl⟩
  rw [H2.out] at hq v2
  by_cases hx : x = 69
  · subst hx
    by_cases hy : y = 0
    · subst hy
      by_cases h7 : z = 0
      · subst h7
        have h2 : ¬ V2 = (n : Int) := fun e => hq ⟨rfl, ⟨rfl, rfl⟩, e⟩
        have h2b : (V2 != (n : Int)) = true := by simpa using h2
        go_enter Tryz.func121, Tryz.ntmps121
        go_wp2_with (first | (go_at_call 181; refine (KV.out _ 2 (by exact B2.out) (by omega)).mono ?_; rw [H2.out]; rintro e u ⟨rfl, rfl⟩))
        refine ret_cell_tmp rfl w.heap.size 36 hd0 (0, 0) _ rfl (heap_alloc2_old w _ _) Tryz.underlying36 rfl info_hd rfl ?_
        exact ⟨rfl, B2.out⟩
      · have h7b : (z != 0) = true := by simpa using h7
        go_enter Tryz.func121, Tryz.ntmps121
        go_wp2_with (first | (go_at_call 181; refine (KV.out _ 2 (by exact B2.out) (by omega)).mono ?_; rw [H2.out]; rintro e u ⟨rfl, rfl⟩))
        refine ret_cell_tmp rfl w.heap.size 36 hd0 (0, 0) _ rfl (heap_alloc2_old w _ _) Tryz.underlying36 rfl info_hd rfl ?_
        exact ⟨rfl, B2.out⟩
    · have hyb : (y != 0) = true := by simpa using hy
      go_enter Tryz.func121, Tryz.ntmps121
      go_wp2_with (first | (go_at_call 181; refine (KV.out _ 2 (by exact B2.out) (by omega)).mono ?_; rw [H2.out]; rintro e u ⟨rfl, rfl⟩))
      refine ret_cell_tmp rfl w.heap.size 36 hd0 (0, 0) _ rfl (heap_alloc2_old w _ _) Tryz.underlying36 rfl info_hd rfl ?_
      exact ⟨rfl, B2.out⟩
  · have hxb : (x != 69) = true := by simpa using hx
    go_enter Tryz.func121, Tryz.ntmps121
    go_wp2_with (first | (go_at_call 181; refine (KV.out _ 2 (by exact B2.out) (by omega)).mono ?_; rw [H2.out]; rintro e u ⟨rfl, rfl⟩))
    refine ret_cell_tmp rfl w.heap.size 36 hd0 (0, 0) _ rfl (heap_alloc2_old w _ _) Tryz.underlying36 rfl info_hd rfl ?_
    exact ⟨rfl, B2.out⟩

/-- What holds where the document's Read has only looked: the box of its result and the one of none. -/
structure RrJ (w u : World) : Prop where
  box : u.heap[w.heap.size]? = some (.cells hd0.toArray 36 (0, 0))
  non : u.heap[w.heap.size + 1]? = some (.cells hd0.toArray 36 (0, 0))
  old : Below w.heap.size w u

theorem RrJ.first (w : World) : RrJ w ((w.alloc (.cells hd0.toArray 36)).alloc (.cells hd0.toArray 36)) :=
  ⟨heap_alloc2_old w _ _, heap_alloc2_new w _ _, ((Below.refl _ _).alloc (Nat.le_refl _) _).alloc (by simp) _⟩

theorem RrJ.below {w u v : World} (h : RrJ w u) (b : Below u.heap.size u v) : RrJ w v :=
  ⟨(b.block _ (Array.getElem?_eq_some_iff.1 h.box).1).trans h.box, (b.block _ (Array.getElem?_eq_some_iff.1 h.non).1).trans h.non, h.old.trans (b.mono h.old.size)⟩

theorem RrJ.set {w u : World} (h : RrJ w u) {p : Addr} (hp : w.heap.size + 2 ≤ p.block) (x : Value) : RrJ w (u.setCell p x) :=
  ⟨by rw [Go.heap_setCell_other _ _ _ _ (by omega)]; exact h.box, by rw [Go.heap_setCell_other _ _ _ _ (by omega)]; exact h.non, h.old.setCell (p := p) (by omega) _⟩

theorem RrJ.there {w u : World} (h : RrJ w u) : u.there w.heap.size 0 hd0.toArray.size := there_block h.box

theorem RrJ.done {w u : World} (h : RrJ w u) (M : List Value) (hl : M.length = 12) : (u.setCells w.heap.size 0 M).heap[w.heap.size]? = some (.cells M.toArray 36 (0, 0)) ∧ Below w.heap.size w (u.setCells w.heap.size 0 M) :=
  ⟨heap_whole (L := hd0) h.box (by rw [hl]; rfl), h.old.trans (((Kept.refl (fun k => k = w.heap.size) u).setCells w.heap.size 0 M (fun _ => rfl)).below h.old.size (fun k hk => by omega))⟩

theorem RrJ.size {w u : World} (h : RrJ w u) : w.heap.size + 2 ≤ u.heap.size := (Array.getElem?_eq_some_iff.1 h.non).1

set_option maxHeartbeats 1000000 in
theorem rread_sum (b off : Nat) (n c : Nat) (zs : List Int) (w : World) (hz : zs.length = n) (hB : Bs w (some ⟨b, off, none⟩) zs) (hn : 20 ≤ n) (hcn : n ≤ c) (hq : rdQ zs) (hf : ¬ rdV zs 10 = rdF zs) :
    Calls Tryz.prog 121 #[.slice (some ⟨b, off, none⟩) n c] w fun e w' => e = .returned (.tuple #[.agg hd0.toArray, .int .i64 110]) ∧ Below w.heap.size w w' := by
  have hln : n ≤ 140737488355328 := by rw [← hz]; exact hB.len
  have KV : Hid (∀ (u : World) (k : Nat), Below w.heap.size w u → k + 2 ≤ n → Calls Tryz.prog 181 #[.slice (some ⟨b, off, none⟩) n c, .int .i64 k, .int .i64 2] u fun e u' => e = .returned (.int .i64 (rdV zs k)) ∧ u = u') := Hid.mk' (fun u k h hk => by
    have h0 := value_any b off n c k 2 zs u hz (hB.below h) (by omega) hk
    rw [show valV zs k 2 = rdV zs k by simp [valV, rdV]] at h0
    exact h0)
  have CE : Hid (∀ u, Below w.heap.size w u → ∀ k, k < n → u.cell? ⟨b, off + k, none⟩ = some (.int .u8 (zs.getD k 0))) := Hid.mk' (fun u h k hk => by
    rcases (hB.below h).lies with h0 | ⟨b', off', e, hc⟩
    · omega
    · cases e; exact hc k (by omega))
  have B2 : Hid (Below w.heap.size w ((w.alloc (.cells hd0.toArray 36)).alloc (.cells hd0.toArray 36))) := ((Below.refl _ _).alloc (Nat.le_refl _) _).alloc (by simp) _
  have c0 : w.cell? ⟨b, off, none⟩ = some (.int .u8 (zs.getD 0 0)) := CE.out w (Below.refl _ _) 0 (by omega)
  have c6 := CE.out w (Below.refl _ _) 6 (by omega)
  have c7 := CE.out w (Below.refl _ _) 7 (by omega)
  have hlt := lt_of_cell c0
  have hlt' : b < w.heap.size := hlt
  have hne : ¬ b = w.heap.size := by omega
  have hne1 : ¬ b = w.heap.size + 1 := by omega
  obtain ⟨hx, h6, h2⟩ := hq
  rw [hz] at h2
  have hy := (rdV_zero hB.bytes 6).1 h6
  rw [hx] at c0
  rw [hy.1] at c6
  have hz7 : zs.getD 7 0 = 0 := hy.2
  rw [hz7] at c7
  have k6 : (6 : Int) < (n : Int) := by omega
  have k7 : (7 : Int) < (n : Int) := by omega
  have k0 : (0 : Int) < (n : Int) := by omega
  have k20 : (20 : Int) ≤ (c : Int) := by omega
  have HB := Hid.mk' hB
  have HN := Hid.mk' hz
  have H2 := Hid.mk' h2
  have hF : 0 ≤ rdF zs ∧ rdF zs ≤ 65535 := by
    have := su_range (zf zs) 20
    unfold rdF; omega
  have hnb : ((n : Int) != (n : Int)) = false := by simp
  have hl20 : Hid ((zs.take 20).length = 20) := Hid.mk' (by rw [List.length_take, hz]; omega)
  clear hB hz hlt hx h6 h2 hy hz7
  obtain ⟨F, HF⟩ : ∃ F, Hid (rdF zs = F) := ⟨_, rfl⟩
  rw [HF.out] at hf hF
  obtain ⟨f0, f1⟩ := hF
  obtain ⟨V10, H10⟩ : ∃ V, Hid (rdV zs 10 = V) := ⟨_, rfl⟩
  rw [H10.out] at hf
  have hfb : (V10 != F) = true := by simpa using hf
  go_enter Tryz.func121, Tryz.ntmps121
  go_wp2_with (first | (go_at_call 181; refine (KV.out _ 2 (by exact B2.out) (by omega)).mono ?_; rw [H2.out]; rintro e u ⟨rfl, rfl⟩))
  obtain ⟨W2, hW2⟩ : ∃ W2, W2 = (w.alloc (.cells #[.int .u8 0, .int .u8 0, .int .u8 0, .int .u16 0, .int .u8 0, .int .u8 0, .int .u8 0, .int .u8 0, .int .u8 0, .int .u8 0, .int .u8 0, .int .u8 0] 36)).alloc (.cells #[.int .u8 0, .int .u8 0, .int .u8 0, .int .u16 0, .int .u8 0, .int .u8 0, .int .u8 0, .int .u8 0, .int .u8 0, .int .u8 0, .int .u8 0, .int .u8 0] 36) := ⟨_, rfl⟩
  rw [← hW2]
  have J2 : Hid (RrJ w W2) := Hid.mk' (by rw [hW2]; exact RrJ.first w)
  clear hW2 B2 c0 c6 c7 hne hne1
  refine (copy_at (some ⟨b, off, none⟩) 20 c (zs.take 20) W2 hl20.out ((HB.out.below J2.out.old).take 20 (by rw [HN.out]; exact hn)) (fun e => by cases e)).mono ?_
  rintro e w3 ⟨v3, rfl, hown, b3⟩
  obtain ⟨g, cg, rfl, hcg⟩ := own_some hown (by omega)
  have J3 := Hid.mk' (J2.out.below b3)
  have hg2 : w.heap.size + 2 ≤ g := Nat.le_trans J2.out.size (hown.lt g rfl).1
  have HG2 := Hid.mk' hg2
  obtain ⟨u10, d10⟩ : ∃ u, w3.cell? ⟨g, 10, none⟩ = some u := ⟨_, by rw [hown.cellAt 10 (by omega), List.getElem?_eq_getElem (by rw [List.length_map, hl20.out]; omega)]⟩
  obtain ⟨u11, d11⟩ : ∃ u, w3.cell? ⟨g, 11, none⟩ = some u := ⟨_, by rw [hown.cellAt 11 (by omega), List.getElem?_eq_getElem (by rw [List.length_map, hl20.out]; omega)]⟩
  have f10 := hown.frozenAt 10
  have f11 := hown.frozenAt 11
  have O5 := Hid.mk' (((hown.stored 10 (.int .u8 0)).1).stored 11 (.int .u8 0)).1
  rw [← List.map_set, ← List.map_set] at O5
  have J5 : Hid (RrJ w ((w3.setCell ⟨g, 10, none⟩ (.int .u8 0)).setCell ⟨g, 11, none⟩ (.int .u8 0))) := Hid.mk' ((J3.out.set (p := ⟨g, 10, none⟩) hg2 _).set (p := ⟨g, 11, none⟩) hg2 _)
  clear hown b3 hcg hg2 J2 J3
  go_wp2_with fail
  clear d10 d11 f10 f11
  generalize (w3.setCell ⟨g, 10, none⟩ (.int .u8 0)).setCell ⟨g, 11, none⟩ (.int .u8 0) = w5 at *
  refine (KV.out w5 10 J5.out.old (by omega)).mono ?_
  rw [H10.out]
  rintro e w6 ⟨rfl, rfl⟩
  go_wp2_with fail
  have key := reffield_any (some ⟨g, 0, none⟩) cg (zf zs) w5 (bs_row_g (n := 20) O5.out (zf_bytes HB.out.bytes) (by rw [zf_length (by rw [HN.out]; exact hn)]; omega))
  rw [zf_length (by rw [HN.out]; exact hn), show 65535 - su (zf zs) 20 = rdF zs from rfl, HF.out] at key
  refine (keep_name key).mono ?_
  rintro e w6 ⟨rfl, rfl⟩
  clear key
  go_wp2_with (first | refine wpList_store_mid rfl 36 _ _ rfl w.heap.size 0 hd0.toArray rfl rfl J5.out.there info_hd hd0_one ?_ | refine wpList_load_mid rfl 36 _ rfl (w.heap.size + 1) 0 rfl hd0 _ (range_block J5.out.non) Tryz.underlying36 rfl info_hd ?_)
  refine ret_cell_tmp rfl w.heap.size 36 hd0 (0, 0) _ rfl (J5.out.done hd0 rfl).1 Tryz.underlying36 rfl info_hd rfl ?_
  exact ⟨rfl, (J5.out.done hd0 rfl).2⟩

theorem n4C_setS (o l p i : Int) (s d : List Int) (k : Nat) (x : Int) (h : k < s.length) : (n4C o l p i s d).set (4 + k) (.int .u8 x) = n4C o l p i (s.set k x) d := by
  unfold n4C
  rw [List.set_append_right _ _ (by simp), show 4 + k - [Value.int .u8 o, .int .u8 l, .int .u8 p, .int .u16 i].length = k by simp, List.set_append_left _ _ (by simpa using h), List.map_set]

theorem n4C_setD (o l p i : Int) (s d : List Int) (k : Nat) (x : Int) (h : s.length = 4) : (n4C o l p i s d).set (8 + k) (.int .u8 x) = n4C o l p i s (d.set k x) := by
  unfold n4C
  rw [List.set_append_right _ _ (by simp; omega), show 8 + k - [Value.int .u8 o, .int .u8 l, .int .u8 p, .int .u16 i].length = 4 + k by simp; omega, List.set_append_right _ _ (by simp [h]), show 4 + k - (s.map (Value.int .u8)).length = k by simp [h], List.map_set]

/-- The first i of four bytes are there, the others are 0. -/
def half4 (zs : List Int) (i : Nat) : List Int := zs.take i ++ List.replicate (4 - i) 0

theorem half4_length {zs : List Int} {i : Nat} (h : 4 ≤ zs.length) (hi : i ≤ 4) : (half4 zs i).length = 4 := by
  unfold half4; simp; omega

theorem half4_succ {zs : List Int} {i : Nat} (h : 4 ≤ zs.length) (hi : i < 4) : (half4 zs i).set i (zs.getD i 0) = half4 zs (i + 1) := by
  unfold half4
  have e : (zs.take i).length = i := by simp; omega
  rw [List.set_append_right _ _ (by omega), e, Nat.sub_self, List.take_succ_eq_append_getElem (by omega), show 4 - i = (4 - (i + 1)) + 1 by omega, List.replicate_succ, List.set_cons_zero, List.append_assoc]
  rw [List.getD_eq_getElem?_getD, List.getElem?_eq_getElem (by omega)]; rfl

set_option maxHeartbeats 1000000 in
theorem rread_ok (b off : Nat) (n c : Nat) (zs : List Int) (w : World) (hz : zs.length = n) (hB : Bs w (some ⟨b, off, none⟩) zs) (hn : 20 ≤ n) (hcn : n ≤ c) (hq : rdQ zs) (hf : rdV zs 10 = rdF zs) :
    Calls Tryz.prog 121 #[.slice (some ⟨b, off, none⟩) n c] w fun e w' => e = .returned (.tuple #[.agg (rdC zs).toArray, .int .i64 0]) ∧ Below w.heap.size w w' := by
  obtain ⟨RES, HRES⟩ : ∃ RES, Hid (rdC zs = RES) := ⟨_, rfl⟩
  rw [HRES.out]
  have v4 := rdV_bd hB.bytes 4
  have HN4 := Hid.mk' (n4_of hB.bytes (by rw [hz]; exact hn))
  have hln : n ≤ 140737488355328 := by rw [← hz]; exact hB.len
  have KV : Hid (∀ (u : World) (k : Nat), Below w.heap.size w u → k + 2 ≤ n → Calls Tryz.prog 181 #[.slice (some ⟨b, off, none⟩) n c, .int .i64 k, .int .i64 2] u fun e u' => e = .returned (.int .i64 (rdV zs k)) ∧ u = u') := Hid.mk' (fun u k h hk => by
    have h0 := value_any b off n c k 2 zs u hz (hB.below h) (by omega) hk
    rw [show valV zs k 2 = rdV zs k by simp [valV, rdV]] at h0
    exact h0)
  have CE : Hid (∀ u, Below w.heap.size w u → ∀ k, k < n → u.cell? ⟨b, off + k, none⟩ = some (.int .u8 (zs.getD k 0))) := Hid.mk' (fun u h k hk => by
    rcases (hB.below h).lies with h0 | ⟨b', off', e, hc⟩
    · omega
    · cases e; exact hc k (by omega))
  have B2 : Hid (Below w.heap.size w ((w.alloc (.cells hd0.toArray 36)).alloc (.cells hd0.toArray 36))) := ((Below.refl _ _).alloc (Nat.le_refl _) _).alloc (by simp) _
  have c0 : w.cell? ⟨b, off, none⟩ = some (.int .u8 (zs.getD 0 0)) := CE.out w (Below.refl _ _) 0 (by omega)
  have c6 := CE.out w (Below.refl _ _) 6 (by omega)
  have c7 := CE.out w (Below.refl _ _) 7 (by omega)
  have hlt := lt_of_cell c0
  have hlt' : b < w.heap.size := hlt
  have hne : ¬ b = w.heap.size := by omega
  have hne1 : ¬ b = w.heap.size + 1 := by omega
  obtain ⟨hx, h6, h2⟩ := hq
  rw [hz] at h2
  have hy := (rdV_zero hB.bytes 6).1 h6
  rw [hx] at c0
  rw [hy.1] at c6
  have hz7 : zs.getD 7 0 = 0 := hy.2
  rw [hz7] at c7
  have k6 : (6 : Int) < (n : Int) := by omega
  have k7 : (7 : Int) < (n : Int) := by omega
  have k0 : (0 : Int) < (n : Int) := by omega
  have k20 : (20 : Int) ≤ (c : Int) := by omega
  have HB := Hid.mk' hB
  have HN := Hid.mk' hz
  have H2 := Hid.mk' h2
  have hF : 0 ≤ rdF zs ∧ rdF zs ≤ 65535 := by
    have := su_range (zf zs) 20
    unfold rdF; omega
  have hnb : ((n : Int) != (n : Int)) = false := by simp
  have hl20 : Hid ((zs.take 20).length = 20) := Hid.mk' (by rw [List.length_take, hz]; omega)
  clear hB hz hlt hx h6 h2 hy hz7
  obtain ⟨F, HF⟩ : ∃ F, Hid (rdF zs = F) := ⟨_, rfl⟩
  rw [HF.out] at hf hF
  obtain ⟨f0, f1⟩ := hF
  have H10 := Hid.mk' hf
  clear hf
  have hfb : (F != F) = false := by simp
  obtain ⟨V4, H4⟩ : ∃ V, Hid (rdV zs 4 = V) := ⟨_, rfl⟩
  rw [H4.out] at v4
  obtain ⟨v40, v41⟩ := v4
  obtain ⟨x1, HX1⟩ : ∃ x, Hid (zs.getD 1 0 = x) := ⟨_, rfl⟩
  obtain ⟨x8, HX8⟩ : ∃ x, Hid (zs.getD 8 0 = x) := ⟨_, rfl⟩
  obtain ⟨x9, HX9⟩ : ∃ x, Hid (zs.getD 9 0 = x) := ⟨_, rfl⟩
  have k1 : (1 : Int) < (n : Int) := by omega
  have k8 : (8 : Int) < (n : Int) := by omega
  have k9 : (9 : Int) < (n : Int) := by omega
  go_enter Tryz.func121, Tryz.ntmps121
  go_wp2_with (first | (go_at_call 181; refine (KV.out _ 2 (by exact B2.out) (by omega)).mono ?_; rw [H2.out]; rintro e u ⟨rfl, rfl⟩))
  obtain ⟨W2, hW2⟩ : ∃ W2, W2 = (w.alloc (.cells #[.int .u8 0, .int .u8 0, .int .u8 0, .int .u16 0, .int .u8 0, .int .u8 0, .int .u8 0, .int .u8 0, .int .u8 0, .int .u8 0, .int .u8 0, .int .u8 0] 36)).alloc (.cells #[.int .u8 0, .int .u8 0, .int .u8 0, .int .u16 0, .int .u8 0, .int .u8 0, .int .u8 0, .int .u8 0, .int .u8 0, .int .u8 0, .int .u8 0, .int .u8 0] 36) := ⟨_, rfl⟩
  rw [← hW2]
  have J2 : Hid (RrJ w W2) := Hid.mk' (by rw [hW2]; exact RrJ.first w)
  clear hW2 B2 c0 c6 c7 hne hne1
  refine (copy_at (some ⟨b, off, none⟩) 20 c (zs.take 20) W2 hl20.out ((HB.out.below J2.out.old).take 20 (by rw [HN.out]; exact hn)) (fun e => by cases e)).mono ?_
  rintro e w3 ⟨v3, rfl, hown, b3⟩
  obtain ⟨g, cg, rfl, hcg⟩ := own_some hown (by omega)
  have J3 := Hid.mk' (J2.out.below b3)
  have hg2 : w.heap.size + 2 ≤ g := Nat.le_trans J2.out.size (hown.lt g rfl).1
  have HG2 := Hid.mk' hg2
  obtain ⟨u10, d10⟩ : ∃ u, w3.cell? ⟨g, 10, none⟩ = some u := ⟨_, by rw [hown.cellAt 10 (by omega), List.getElem?_eq_getElem (by rw [List.length_map, hl20.out]; omega)]⟩
  obtain ⟨u11, d11⟩ : ∃ u, w3.cell? ⟨g, 11, none⟩ = some u := ⟨_, by rw [hown.cellAt 11 (by omega), List.getElem?_eq_getElem (by rw [List.length_map, hl20.out]; omega)]⟩
  have f10 := hown.frozenAt 10
  have f11 := hown.frozenAt 11
  have O5 := Hid.mk' (((hown.stored 10 (.int .u8 0)).1).stored 11 (.int .u8 0)).1
  rw [← List.map_set, ← List.map_set] at O5
  have J5 : Hid (RrJ w ((w3.setCell ⟨g, 10, none⟩ (.int .u8 0)).setCell ⟨g, 11, none⟩ (.int .u8 0))) := Hid.mk' ((J3.out.set (p := ⟨g, 10, none⟩) hg2 _).set (p := ⟨g, 11, none⟩) hg2 _)
  clear hown b3 hcg hg2 J2 J3
  go_wp2_with fail
  clear d10 d11 f10 f11
  generalize (w3.setCell ⟨g, 10, none⟩ (.int .u8 0)).setCell ⟨g, 11, none⟩ (.int .u8 0) = w5 at *
  refine (KV.out w5 10 J5.out.old (by omega)).mono ?_
  rw [H10.out]
  rintro e w6 ⟨rfl, rfl⟩
  go_wp2_with fail
  have key := reffield_any (some ⟨g, 0, none⟩) cg (zf zs) w5 (bs_row_g (n := 20) O5.out (zf_bytes HB.out.bytes) (by rw [zf_length (by rw [HN.out]; exact hn)]; omega))
  rw [zf_length (by rw [HN.out]; exact hn), show 65535 - su (zf zs) 20 = rdF zs from rfl, HF.out] at key
  refine (keep_name key).mono ?_
  rintro e w6 ⟨rfl, rfl⟩
  clear key
  go_wp2_with fail
  have q1 := CE.out w5 J5.out.old 1 (by omega)
  have q8 := CE.out w5 J5.out.old 8 (by omega)
  have q9 := CE.out w5 J5.out.old 9 (by omega)
  rw [HX1.out] at q1
  rw [HX8.out] at q8
  rw [HX9.out] at q9
  have hlt5 : b < w5.heap.size := lt_of_cell q1
  have hne5 : ¬ b = w5.heap.size := by omega
  have e4 : IntKind.u16.wrap V4 = V4 := by rw [IntKind.wrap_u16]; omega
  have BD : Hid (Below w.heap.size w w5.drew) := J5.out.old.drew
  have BA : Hid (Below w.heap.size w (w5.alloc (.cells hd0.toArray 36)).drew) := (J5.out.old.alloc J5.out.old.size _).drew
  clear O5
  go_region_held3 (fun w' => w'.cell? ⟨b, off + 1, none⟩ = some (.int .u8 x1) ∧ w'.cell? ⟨b, off + 8, none⟩ = some (.int .u8 x8) ∧ w'.cell? ⟨b, off + 9, none⟩ = some (.int .u8 x9)) (go_keep) (first | (go_at_call 181; refine (KV.out _ 4 (by first | exact BD.out | exact BA.out) (by omega)).mono ?_; rw [H4.out]; rintro e w6 ⟨rfl, rfl⟩))
  all_goals
    obtain ⟨W7, hW7⟩ : ∃ W7, W7 = (w5.alloc (.cells #[.int .u8 x1, .int .u8 x8, .int .u8 x9, .int .u16 V4, .int .u8 0, .int .u8 0, .int .u8 0, .int .u8 0, .int .u8 0, .int .u8 0, .int .u8 0, .int .u8 0] 36)).drew := ⟨_, rfl⟩
    rw [← hW7]
    have J7 : Hid (RrJ w W7) := Hid.mk' (by rw [hW7]; exact J5.out.below (((Below.refl _ _).alloc (Nat.le_refl _) _).drew))
    have Q7 : Hid (W7.heap[w5.heap.size]? = some (.cells (n4C x1 x8 x9 V4 (half4 (zs.drop 12) 0) (half4 (zs.drop 16) 0)).toArray 36 (0, 0))) := Hid.mk' (by rw [hW7]; exact heap_alloc_new w5 _)
    have SZ : Hid (w.heap.size + 2 ≤ w5.heap.size) := Hid.mk' J5.out.size
    clear hW7 q1 q8 q9 J5 BD BA
    go_wp2_with fail
    go_loopw [7] (fun i wr => ∃ k : Nat, k ≤ 4 ∧ i = .int .i64 k ∧ Hid (wr.heap[w5.heap.size]? = some (.cells (n4C x1 x8 x9 V4 (half4 (zs.drop 12) k) (half4 (zs.drop 16) k)).toArray 36 (0, 0))) ∧ Hid (RrJ w wr)) (fun i _ => 4 - (intOf i).toNat)
    case atStart => exact ⟨0, Nat.zero_le _, rfl, Q7, J7⟩
    case round =>
      obtain ⟨k, hk, rfl, Q8, J8⟩ := hrel
      clear Q7 J7
      have l12 : 4 ≤ (zs.drop 12).length := by rw [List.length_drop, HN.out]; omega
      have l16 : 4 ≤ (zs.drop 16).length := by rw [List.length_drop, HN.out]; omega
      have L12 := Hid.mk' l12
      have L16 := Hid.mk' l16
      have hll : Hid ((n4C x1 x8 x9 V4 (half4 (zs.drop 12) k) (half4 (zs.drop 16) k)).length = 12) := Hid.mk' (by unfold n4C; simp [half4_length l12 hk, half4_length l16 hk])
      clear l12 l16
      by_cases hlt : k < 4
      · have hsp : (k : Int) < 4 := by omega
        have hk1 : 12 + (k : Int) < (n : Int) := by omega
        have hk2 : 16 + (k : Int) < (n : Int) := by omega
        have d0 := CE.out wr J8.out.old (12 + k) (by omega)
        have d1 := CE.out wr J8.out.old (16 + k) (by omega)
        have f0 : wr.frozen? ⟨w5.heap.size, 4 + k, none⟩ = false := frozen_of_row wr _ _ _ _ Q8.out
        have f1 : wr.frozen? ⟨w5.heap.size, 8 + k, none⟩ = false := frozen_of_row wr _ _ _ _ Q8.out
        obtain ⟨u0, e0⟩ : ∃ u, wr.cell? ⟨w5.heap.size, 4 + k, none⟩ = some u := ⟨_, by rw [cell_of_row wr _ (4 + k) _ _ _ Q8.out, List.getElem?_toArray, List.getElem?_eq_getElem (by rw [hll.out]; omega)]⟩
        obtain ⟨u1, e1⟩ : ∃ u, wr.cell? ⟨w5.heap.size, 8 + k, none⟩ = some u := ⟨_, by rw [cell_of_row wr _ (8 + k) _ _ _ Q8.out, List.getElem?_toArray, List.getElem?_eq_getElem (by rw [hll.out]; omega)]⟩
        have hbne : ¬ w5.heap.size = b := by omega
        obtain ⟨x, HX⟩ : ∃ x, Hid (zs.getD (12 + k) 0 = x) := ⟨_, rfl⟩
        obtain ⟨y, HY⟩ : ∃ y, Hid (zs.getD (16 + k) 0 = y) := ⟨_, rfl⟩
        rw [HX.out] at d0
        rw [HY.out] at d1
        go_wp2_with fail
        go_roundw
        case rel =>
          refine ⟨k + 1, hlt, by go_num, Hid.mk' ?_, Hid.mk' ?_⟩
          · rw [Go.heap_setCell_same _ _ (8 + k) _ _ _ (Go.heap_setCell_same _ _ (4 + k) _ _ _ Q8.out)]
            rw [List.setIfInBounds_toArray, List.setIfInBounds_toArray, n4C_setS _ _ _ _ _ _ _ _ (by rw [half4_length L12.out hk]; exact hlt), n4C_setD _ _ _ _ _ _ _ _ (by rw [List.length_set, half4_length L12.out hk])]
            rw [← HX.out, ← HY.out]
            rw [show zs.getD (12 + k) 0 = (zs.drop 12).getD k 0 by simp only [List.getD_eq_getElem?_getD, List.getElem?_drop], show zs.getD (16 + k) 0 = (zs.drop 16).getD k 0 by simp only [List.getD_eq_getElem?_getD, List.getElem?_drop], half4_succ L12.out hlt, half4_succ L16.out hlt]
          · exact (J8.out.set (p := ⟨w5.heap.size, 4 + k, none⟩) SZ.out _).set (p := ⟨w5.heap.size, 8 + k, none⟩) SZ.out _
        case measure => simp [intOf]; omega
      · obtain rfl : k = 4 := by omega
        have HLR : Hid (n4C x1 x8 x9 V4 (half4 (zs.drop 12) 4) (half4 (zs.drop 16) 4) = RES) := Hid.mk' (by rw [← HRES.out, ← HX1.out, ← HX8.out, ← HX9.out, ← H4.out]; unfold half4 rdC; simp)
        have hlr : Hid (RES.length = 12) := Hid.mk' (by rw [← HRES.out]; exact n4C_length HN4.out)
        have hone : Hid (RES.toArray.all (·.oneCell') = true) := Hid.mk' (by rw [← HRES.out]; exact n4C_one _ _ _ _ _ _)
        rw [HLR.out] at Q8
        have hth : Hid (wr.there w.heap.size 0 RES.toArray.size) := Hid.mk' (by
          have e : RES.toArray.size = hd0.toArray.size := by rw [List.size_toArray, hlr.out]; rfl
          rw [e]; exact J8.out.there)
        go_wp2_with (first | refine wpList_store_mid rfl 36 _ _ rfl w.heap.size 0 RES.toArray rfl rfl hth.out (by rw [List.size_toArray, hlr.out]; exact info_hd) hone.out ?_ | refine wpList_load_mid rfl 36 _ rfl w5.heap.size 0 rfl RES _ (range_block Q8.out) Tryz.underlying36 rfl (by rw [hlr.out]; exact info_hd) ?_)
        refine ret_cell_tmp rfl w.heap.size 36 RES (0, 0) _ rfl (J8.out.done RES hlr.out).1 Tryz.underlying36 rfl (by rw [hlr.out]; exact info_hd) rfl ?_
        exact ⟨rfl, (J8.out.done RES hlr.out).2⟩

theorem wf_u8 {z : Int} (h0 : 0 ≤ z) (h1 : z ≤ 255) : (Lit.int .u8 z).wf = true := by
  have e0 : IntKind.u8.min = 0 := by decide
  have e1 : IntKind.u8.max = 255 := by decide
  simp [Lit.wf, e0, e1]; omega

theorem wf_u16 {z : Int} (h0 : 0 ≤ z) (h1 : z ≤ 65535) : (Lit.int .u16 z).wf = true := by
  have e0 : IntKind.u16.min = 0 := by decide
  have e1 : IntKind.u16.max = 65535 := by decide
  simp [Lit.wf, e0, e1]; omega

theorem kl_bytes {t : TypeId} {n : Nat} (hu : Tryz.prog.underlying t = some (.array n 5)) (hc : Tryz.prog.cellsOf t = n) (D : Nat) (zs : List Int) (hl : zs.length = n) (h : Bytes zs) : Tryz.prog.keyLits (D + 2) t (zs.map (Value.int .u8)) = some (zs.map (Lit.int .u8)) :=
  kl_arr hu Tryz.underlying5 hc (by kernel_rfl) D zs hl (fun z hz => wf_u8 (h z hz).1 (h z hz).2)

theorem kl_n4 {o l p i : Int} {s d : List Int} (h : N4 o l p i s d) : Tryz.prog.keyLits 3 36 (n4C o l p i s d) = some ([([Value.int .u8 o], [Lit.int .u8 o]), ([Value.int .u8 l], [Lit.int .u8 l]), ([Value.int .u8 p], [Lit.int .u8 p]), ([Value.int .u16 i], [Lit.int .u16 i]), (s.map (Value.int .u8), s.map (Lit.int .u8)), (d.map (Value.int .u8), d.map (Lit.int .u8))].map (·.2)).flatten := by
  refine kl_struct (d := 2) Tryz.underlying36 (by kernel_rfl) _ _ (by simp [n4C]) ?_ rfl (fun j f q hf hq => ?_)
  · rw [n4C_length h]; kernel_rfl
  · have hs := h.sl
    have hd := h.dl
    match j, hf, hq with
    | 0, hf, hq =>
      cases hf; cases hq
      exact ⟨rfl, by kernel_rfl, kl_int Tryz.underlying5 1 o (wf_u8 h.o0 h.o1)⟩
    | 1, hf, hq =>
      cases hf; cases hq
      exact ⟨rfl, by kernel_rfl, kl_int Tryz.underlying5 1 l (wf_u8 h.l0 h.l1)⟩
    | 2, hf, hq =>
      cases hf; cases hq
      exact ⟨rfl, by kernel_rfl, kl_int Tryz.underlying5 1 p (wf_u8 h.p0 h.p1)⟩
    | 3, hf, hq =>
      cases hf; cases hq
      exact ⟨rfl, by kernel_rfl, kl_int Tryz.underlying29 1 i (wf_u16 h.i0 h.i1)⟩
    | 4, hf, hq =>
      cases hf; cases hq
      exact ⟨rfl, by rw [List.length_map, hs]; kernel_rfl, kl_bytes Tryz.underlying34 (by kernel_rfl) 0 s hs h.sb⟩
    | 5, hf, hq =>
      cases hf; cases hq
      exact ⟨by simp [hs], by rw [List.length_map, hd]; kernel_rfl, kl_bytes Tryz.underlying34 (by kernel_rfl) 0 d hd h.db⟩
    | j + 6, hf, hq => simp at hq

/-- Cells that are a header's. -/
def Hd (L : List Value) : Prop := ∃ o l p i s d, L = n4C o l p i s d ∧ N4 o l p i s d

theorem hd_len {L : List Value} (h : Hd L) : L.length = 12 := by obtain ⟨o, l, p, i, s, d, rfl, h⟩ := h; exact n4C_length h

theorem hd_one {L : List Value} (h : Hd L) : L.toArray.all (·.oneCell') = true := by
  obtain ⟨o, l, p, i, s, d, rfl, _⟩ := h
  exact n4C_one _ _ _ _ _ _

theorem hd_eq {L : List Value} (h : Hd L) (w : World) : (Op.equalIn 10000 36 (.agg L.toArray) (.agg L.toArray)).run Tryz.prog w = .ok true w := by
  obtain ⟨o, l, p, i, s, d, rfl, h⟩ := h
  exact equal_same 3 (by omega) (by kernel_rfl) (by
    simp only [Value.formed, Tryz.underlying36, List.size_toArray, n4C_length h]; kernel_rfl) 3 (kl_n4 h) w

theorem hd_0 : Hd hd0 := ⟨0, 0, 0, 0, [0, 0, 0, 0], [0, 0, 0, 0], rfl, by omega, by omega, by omega, by omega, by omega, by omega, by omega, by omega, rfl, rfl, by intro z hz; simp at hz; omega, by intro z hz; simp at hz; omega⟩

/-- A cell's number. -/
def un : Value → Int
  | .int _ z => z
  | _ => 0

/-- Check's answer, of cells. -/
def ckE (_ : List Value) : Int := 0

/-- A header's bytes, of cells, ahead of m bytes. -/
def hdB (L : List Value) (m : Int) : List Int :=
  n4B (un (L.getD 0 undef)) (un (L.getD 1 undef)) (un (L.getD 2 undef)) (un (L.getD 3 undef)) (((L.drop 4).take 4).map un) ((L.drop 8).map un) m
    (n4F (un (L.getD 0 undef)) (un (L.getD 1 undef)) (un (L.getD 2 undef)) (un (L.getD 3 undef)) (((L.drop 4).take 4).map un) ((L.drop 8).map un) m)

theorem map_un : ∀ zs : List Int, (zs.map (Value.int .u8)).map un = zs
  | [] => rfl
  | z :: r => by rw [List.map_cons, List.map_cons, map_un r]; rfl

theorem hdB_n4 {o l p i : Int} {s d : List Int} (h : N4 o l p i s d) (m : Int) : hdB (n4C o l p i s d) m = n4B o l p i s d m (n4F o l p i s d m) := by
  have e1 : ((n4C o l p i s d).drop 4).take 4 = s.map (Value.int .u8) := by
    show (s.map (Value.int .u8) ++ d.map (Value.int .u8)).take 4 = _
    rw [List.take_left' (by rw [List.length_map, h.sl])]
  have e2 : (n4C o l p i s d).drop 8 = d.map (Value.int .u8) := by
    show (s.map (Value.int .u8) ++ d.map (Value.int .u8)).drop 4 = _
    rw [List.drop_left' (by rw [List.length_map, h.sl])]
  unfold hdB
  rw [e1, e2, map_un, map_un]
  rfl

/-- Bytes' answer. -/
def byE (_ : List Value) (ys : List Int) : Int := if ys.length ≤ 2028 then 0 else 5

def byB (L : List Value) (ys : List Int) : List Int := if byE L ys = 0 then hdB L ys.length else []

/-- Read's answer. -/
def rdE (zs : List Int) : Int := if zs.length < 20 then 6 else if rdQ zs then (if rdV zs 10 = rdF zs then 0 else 110) else 70

def rdL (zs : List Int) : List Value := if rdE zs = 0 then rdC zs else hd0

theorem h_check (L : List Value) (w : World) (_h : Hd L) : Calls Tryz.prog 91 #[.agg L.toArray] w fun e w' => e = .returned (.int .i64 (ckE L)) ∧ Below w.heap.size w w' := lcheck_any L w

theorem h_rcheck (L : List Value) (w : World) (_h : Hd L) : Calls Tryz.prog 169 #[.agg L.toArray] w fun e w' => e = .returned (.int .i64 (ckE L)) ∧ Below w.heap.size w w' := rcheck_any L w

theorem h_bytes (L : List Value) (a : Option Addr) (n c : Nat) (ys : List Int) (w : World) (h : Hd L) (hy : ys.length = n) (hB : Bs w a ys) :
    Calls Tryz.prog 92 #[.agg L.toArray, .slice a n c] w fun e w' => ∃ v, e = .returned (.tuple #[v, .int .i64 (byE L ys)]) ∧ w'.ownsRow w.heap.size 5 1 v (byB L ys).length ((byB L ys).map (Value.int .u8)) ∧ Below w.heap.size w w' := by
  have hl := hB.len
  rw [hy] at hl
  by_cases hn : n ≤ 2028
  · have e1 : byE L ys = 0 := by unfold byE; rw [hy, if_pos hn]
    unfold byB
    rw [e1, if_pos rfl, hy]
    obtain ⟨o, l, p, i, s, d, rfl, h⟩ := h
    rw [hdB_n4 h, n4B_length h]
    exact lbytes_ok o l p i s d a n c w h hn
  · have e1 : byE L ys = 5 := by unfold byE; rw [hy, if_neg hn]
    unfold byB
    rw [e1, if_neg (by omega)]
    refine (lbytes_no L a n c w hn hl).mono ?_
    rintro e w' ⟨rfl, b⟩
    exact ⟨_, rfl, World.ownsRow_nil _ _ _ _, b⟩

theorem h_rbytes (L : List Value) (a : Option Addr) (n c : Nat) (ys : List Int) (w : World) (h : Hd L) (hy : ys.length = n) (hB : Bs w a ys) :
    Calls Tryz.prog 114 #[.agg L.toArray, .slice a n c] w fun e w' => ∃ v, e = .returned (.tuple #[v, .int .i64 (byE L ys)]) ∧ w'.ownsRow w.heap.size 5 1 v (byB L ys).length ((byB L ys).map (Value.int .u8)) ∧ Below w.heap.size w w' := by
  have hl := hB.len
  rw [hy] at hl
  by_cases hn : n ≤ 2028
  · have e1 : byE L ys = 0 := by unfold byE; rw [hy, if_pos hn]
    unfold byB
    rw [e1, if_pos rfl, hy]
    obtain ⟨o, l, p, i, s, d, rfl, h⟩ := h
    rw [hdB_n4 h, n4B_length h]
    exact rbytes_ok o l p i s d a n c w h hn
  · have e1 : byE L ys = 5 := by unfold byE; rw [hy, if_neg hn]
    unfold byB
    rw [e1, if_neg (by omega)]
    refine (rbytes_no L a n c w (hd_len h) hn hl).mono ?_
    rintro e w' ⟨rfl, b⟩
    exact ⟨_, rfl, World.ownsRow_nil _ _ _ _, b⟩

theorem bs_some {w : World} {a : Option Addr} {zs : List Int} (h : Bs w a zs) (hp : 0 < zs.length) : ∃ b off, a = some ⟨b, off, none⟩ := by
  rcases h.lies with h0 | ⟨b, off, e, _⟩
  · omega
  · exact ⟨b, off, e⟩

theorem h_read (a : Option Addr) (n c : Nat) (zs : List Int) (w : World) (hz : zs.length = n) (hB : Bs w a zs) (hc : n ≤ c) :
    Calls Tryz.prog 69 #[.slice a n c] w fun e w' => e = .returned (.tuple #[.agg (rdL zs).toArray, .int .i64 (rdE zs)]) ∧ Below w.heap.size w w' := by
  by_cases hn : n < 20
  · have e1 : rdE zs = 6 := by unfold rdE; rw [if_pos (by rw [hz]; exact hn)]
    unfold rdL
    rw [e1, if_neg (by omega)]
    exact lread_short a n c w hn
  · obtain ⟨b, off, rfl⟩ := bs_some hB (by omega)
    by_cases hq : rdQ zs
    · by_cases hf : rdV zs 10 = rdF zs
      · have e1 : rdE zs = 0 := by unfold rdE; rw [if_neg (by rw [hz]; exact hn), if_pos hq, if_pos hf]
        unfold rdL
        rw [e1, if_pos rfl]
        exact lread_ok b off n c zs w hz hB (by omega) hc hq hf
      · have e1 : rdE zs = 110 := by unfold rdE; rw [if_neg (by rw [hz]; exact hn), if_pos hq, if_neg hf]
        unfold rdL
        rw [e1, if_neg (by omega)]
        exact lread_sum b off n c zs w hz hB (by omega) hq hf
    · have e1 : rdE zs = 70 := by unfold rdE; rw [if_neg (by rw [hz]; exact hn), if_neg hq]
      unfold rdL
      rw [e1, if_neg (by omega)]
      exact lread_bad b off n c zs w hz hB (by omega) hq

theorem h_rread (a : Option Addr) (n c : Nat) (zs : List Int) (w : World) (hz : zs.length = n) (hB : Bs w a zs) (hc : n ≤ c) :
    Calls Tryz.prog 121 #[.slice a n c] w fun e w' => e = .returned (.tuple #[.agg (rdL zs).toArray, .int .i64 (rdE zs)]) ∧ Below w.heap.size w w' := by
  by_cases hn : n < 20
  · have e1 : rdE zs = 6 := by unfold rdE; rw [if_pos (by rw [hz]; exact hn)]
    unfold rdL
    rw [e1, if_neg (by omega)]
    exact rread_short a n c w hn
  · obtain ⟨b, off, rfl⟩ := bs_some hB (by omega)
    by_cases hq : rdQ zs
    · by_cases hf : rdV zs 10 = rdF zs
      · have e1 : rdE zs = 0 := by unfold rdE; rw [if_neg (by rw [hz]; exact hn), if_pos hq, if_pos hf]
        unfold rdL
        rw [e1, if_pos rfl]
        exact rread_ok b off n c zs w hz hB (by omega) hc hq hf
      · have e1 : rdE zs = 110 := by unfold rdE; rw [if_neg (by rw [hz]; exact hn), if_pos hq, if_neg hf]
        unfold rdL
        rw [e1, if_neg (by omega)]
        exact rread_sum b off n c zs w hz hB (by omega) hc hq hf
    · have e1 : rdE zs = 70 := by unfold rdE; rw [if_neg (by rw [hz]; exact hn), if_neg hq]
      unfold rdL
      rw [e1, if_neg (by omega)]
      exact rread_bad b off n c zs w hz hB (by omega) hq

theorem rdE_zero {zs : List Int} (h : rdE zs = 0) : 20 ≤ zs.length ∧ rdQ zs ∧ rdV zs 10 = rdF zs := by
  unfold rdE at h
  split at h
  · omega
  · split at h
    · split at h
      · exact ⟨by omega, by assumption, by assumption⟩
      · omega
    · omega

theorem hd_rd {zs : List Int} (h : Bytes zs) : Hd (rdL zs) := by
  unfold rdL
  split
  · rename_i he
    exact ⟨_, _, _, _, _, _, rfl, n4_of h (rdE_zero he).1⟩
  · exact hd_0

theorem byE_zero {L : List Value} {ys : List Int} (h : byE L ys = 0) : ckE L = 0 ∧ ys.length ≤ 2028 := by
  unfold byE at h
  split at h
  · exact ⟨rfl, by assumption⟩
  · omega

theorem byB_bytes {L : List Value} {ys : List Int} (h : Hd L) (_hy : Bytes ys) : Bytes (byB L ys) := by
  unfold byB
  split
  · rename_i he
    obtain ⟨o, l, p, i, s, d, rfl, h⟩ := h
    rw [hdB_n4 h]
    have := (byE_zero he).2
    have hf := n4F_bd o l p i s d ys.length
    exact n4B_bytes h (by omega) (by omega) hf.1 hf.2
  · intro z hz; simp at hz

theorem byB_le {L : List Value} {ys : List Int} (h : Hd L) : (byB L ys).length ≤ 20 := by
  obtain ⟨o, l, p, i, s, d, rfl, h⟩ := h
  unfold byB
  split
  · rw [hdB_n4 h, n4B_length h]; omega
  · simp

/-- The field's two bytes are passed over. -/
theorem zf_n4B' {o l p i : Int} {s d : List Int} (h : N4 o l p i s d) (m f : Int) (ys : List Int) : zf (n4B o l p i s d m f ++ ys) = n4B o l p i s d m 0 := by
  unfold zf
  rw [List.take_left' (n4B_length h m f)]
  simp [n4B]

theorem m_back {L : List Value} {ys : List Int} (h : Hd L) (_hy : Bytes ys) (he : byE L ys = 0) : (byB L ys).length = 20 ∧ rdL (byB L ys ++ ys) = L ∧ rdE (byB L ys ++ ys) = 0 ∧ ckE L = 0 := by
  have hc := (byE_zero he).1
  have hl := (byE_zero he).2
  obtain ⟨o, l, p, i, s, d, rfl, h⟩ := h
  have e : byB (n4C o l p i s d) ys = n4B o l p i s d ys.length (n4F o l p i s d ys.length) := by unfold byB; rw [if_pos he, hdB_n4 h]
  rw [e]
  have hlen := n4B_length h ys.length (n4F o l p i s d ys.length)
  have hF := n4F_bd o l p i s d ys.length
  have hz := zf_n4B' h ys.length (n4F o l p i s d ys.length) ys
  obtain ⟨o0, o1, l0, l1, p0, p1, i0, i1, sl, dl, sb, db⟩ := h
  have eQ : rdQ (n4B o l p i s d ys.length (n4F o l p i s d ys.length) ++ ys) := by
    unfold rdQ
    rw [List.length_append, hlen]
    refine ⟨rfl, rfl, ?_⟩
    show (20 + (ys.length : Int)) / 256 * 256 + (20 + (ys.length : Int)) % 256 = _
    omega
  have eV : rdV (n4B o l p i s d ys.length (n4F o l p i s d ys.length) ++ ys) 10 = n4F o l p i s d ys.length := by
    show n4F o l p i s d ys.length / 256 * 256 + n4F o l p i s d ys.length % 256 = _
    omega
  have eE : rdE (n4B o l p i s d ys.length (n4F o l p i s d ys.length) ++ ys) = 0 := by
    unfold rdE
    rw [if_neg (by rw [List.length_append, hlen]; omega), if_pos eQ, if_pos]
    rw [eV]; unfold rdF; rw [hz]; rfl
  refine ⟨hlen, ?_, eE, hc⟩
  unfold rdL
  rw [if_pos eE]
  unfold rdC
  have e1 : rdV (n4B o l p i s d ys.length (n4F o l p i s d ys.length) ++ ys) 4 = i := by
    show i / 256 * 256 + i % 256 = i
    omega
  have e2 : (n4B o l p i s d ys.length (n4F o l p i s d ys.length) ++ ys).drop 12 = s ++ (d ++ ys) := by simp [n4B]
  have e3 : (n4B o l p i s d ys.length (n4F o l p i s d ys.length) ++ ys).drop 16 = d ++ ys := by
    rw [show 16 = 12 + 4 from rfl, ← List.drop_drop, e2, List.drop_left' sl]
  rw [e1, e2, e3, List.take_left' sl, List.take_left' dl]
  rfl

theorem m_no {L : List Value} {ys : List Int} (he : ¬ byE L ys = 0) (_hc : ckE L = 0) : ¬ ys.length ≤ 2028 := by
  intro hl
  apply he
  unfold byE
  rw [if_pos hl]

theorem m_none {zs : List Int} (h : ¬ rdE zs = 0) : rdL zs = hd0 := by unfold rdL; rw [if_neg h]

theorem m_short {zs : List Int} (h : zs.length < 20) : rdE zs = 6 := by unfold rdE; rw [if_pos h]

theorem m_again {zs : List Int} (hb : Bytes zs) (he : rdE zs = 0) (hl : zs.length ≤ 2048) : 20 ≤ zs.length ∧ byE (rdL zs) (zs.drop 20) = 0 ∧ byB (rdL zs) (zs.drop 20) = zs.take 20 := by
  obtain ⟨h20, ⟨q0, q6, q2⟩, hf⟩ := rdE_zero he
  have e0 : rdL zs = rdC zs := by unfold rdL; rw [if_pos he]
  have e1 : byE (rdL zs) (zs.drop 20) = 0 := by unfold byE; rw [if_pos (by rw [List.length_drop]; omega)]
  refine ⟨h20, e1, ?_⟩
  unfold byB
  rw [if_pos e1, e0]
  unfold rdC
  rw [hdB_n4 (n4_of hb h20)]
  have hz6 := (rdV_zero hb 6).1 q6
  have em : (20 : Int) + ((zs.drop 20).length : Int) = zs.getD 2 0 * 256 + zs.getD 3 0 := by
    rw [List.length_drop]
    have : rdV zs 2 = zs.getD 2 0 * 256 + zs.getD 3 0 := rfl
    omega
  generalize ((zs.drop 20).length : Int) = m at em
  have eB : ∀ f : Int, n4B (zs.getD 1 0) (zs.getD 8 0) (zs.getD 9 0) (rdV zs 4) ((zs.drop 12).take 4) ((zs.drop 16).take 4) m f = ((zs.take 20).set 10 (f / 256)).set 11 (f % 256) := by
    intro f
    match zs, hb, h20 with
    | z0 :: z1 :: z2 :: z3 :: z4 :: z5 :: z6 :: z7 :: z8 :: z9 :: z10 :: z11 :: z12 :: z13 :: z14 :: z15 :: z16 :: z17 :: z18 :: z19 :: r, hb, _ =>
      have k2 := hb z2 (by simp)
      have k3 := hb z3 (by simp)
      have k4 := hb z4 (by simp)
      have k5 := hb z5 (by simp)
      simp at q0 hz6 em
      simp [n4B, rdV]
      omega
  have eF : n4F (zs.getD 1 0) (zs.getD 8 0) (zs.getD 9 0) (rdV zs 4) ((zs.drop 12).take 4) ((zs.drop 16).take 4) m = rdV zs 10 := by
    unfold n4F
    rw [eB 0, hf]
    rfl
  rw [eF, eB]
  match zs, hb, h20 with
  | z0 :: z1 :: z2 :: z3 :: z4 :: z5 :: z6 :: z7 :: z8 :: z9 :: z10 :: z11 :: z12 :: z13 :: z14 :: z15 :: z16 :: z17 :: z18 :: z19 :: r, hb, _ =>
    have k10 := hb z10 (by simp)
    have k11 := hb z11 (by simp)
    simp [rdV]
    omega

theorem zf_set_in (zs : List Int) {k : Nat} (y : Int) (h : k = 10 ∨ k = 11) : zf (zs.set k y) = zf zs := by
  unfold zf
  rw [List.take_set]
  rcases h with rfl | rfl
  · rw [List.set_set]
  · rw [List.set_comm _ _ (by decide : (11 : Nat) ≠ 10), List.set_set]

theorem zf_set_out (zs : List Int) {k : Nat} (y : Int) (h0 : k ≠ 10) (h1 : k ≠ 11) : zf (zs.set k y) = (zf zs).set k y := by
  unfold zf
  rw [List.take_set, List.set_comm _ _ h0, List.set_comm _ _ h1]

theorem zf_getD (zs : List Int) {k : Nat} (hk : k < 20) (h0 : k ≠ 10) (h1 : k ≠ 11) : (zf zs).getD k 0 = zs.getD k 0 := by
  unfold zf
  rw [List.getD_eq_getElem?_getD, List.getElem?_set_ne (Ne.symm h1), List.getElem?_set_ne (Ne.symm h0), List.getElem?_take_of_lt hk, List.getD_eq_getElem?_getD]

theorem tot_ge {zs : List Int} (h : Bytes zs) : ∀ k : Nat, zs.getD 0 0 * 256 ≤ tot zs (k + 1)
  | 0 => by simp [tot, wt]
  | k + 1 => by
    have ih := tot_ge h k
    have hb := h.getD (k + 1)
    have hw : wt (k + 1) = 256 ∨ wt (k + 1) = 1 := by unfold wt; split <;> simp
    rw [tot]
    rcases hw with hw | hw <;> rw [hw] <;> omega

theorem getD_set (zs : List Int) (k j : Nat) (y : Int) (hk : k < zs.length) : (zs.set k y).getD j 0 = if j = k then y else zs.getD j 0 := by
  by_cases e : j = k
  · subst e
    rw [if_pos rfl, List.getD_eq_getElem?_getD, List.getElem?_set_self hk]; rfl
  · rw [if_neg e, List.getD_eq_getElem?_getD, List.getElem?_set_ne (Ne.symm e), List.getD_eq_getElem?_getD]

/-- A header that is read is read no more with one of its bytes turned. -/
theorem rd_turned {zs : List Int} (hb : Bytes zs) (he : rdE zs = 0) (k : Nat) (hk : k < 20) (y : Int) (y0 : 0 ≤ y) (y1 : y ≤ 255) (hne : ¬ y = zs.getD k 0) : ¬ rdE (zs.set k y) = 0 := by
  intro h'
  obtain ⟨h20, ⟨q0, q6, q2⟩, hf⟩ := rdE_zero he
  obtain ⟨-, ⟨r0, r6, r2⟩, hg⟩ := rdE_zero h'
  have G : ∀ j, (zs.set k y).getD j 0 = if j = k then y else zs.getD j 0 := fun j => getD_set zs k j y (by omega)
  rw [List.length_set] at r2
  unfold rdV at q6 q2 r6 r2 hf hg
  rw [G] at r0 r6 r2 hg
  rw [G] at r6 r2 hg
  have b1 := hb.getD 2
  have b2 := hb.getD 3
  have b3 := hb.getD 6
  have b4 := hb.getD 7
  have b5 := hb.getD 10
  have b6 := hb.getD 11
  by_cases hin : k = 10 ∨ k = 11
  · have e : rdF (zs.set k y) = rdF zs := by unfold rdF; rw [zf_set_in zs y hin]
    rw [e, ← hf] at hg
    rcases hin with rfl | rfl
    · simp at hg hne; omega
    · simp at hg hne; omega
  · have h0 : k ≠ 10 := fun e => hin (.inl e)
    have h1 : k ≠ 11 := fun e => hin (.inr e)
    rw [if_neg (Ne.symm h0), if_neg (Ne.symm h1)] at hg
    have e : rdF (zs.set k y) = rdF zs := by rw [← hg, ← hf]
    unfold rdF su at e
    rw [zf_set_out zs y h0 h1, tot_set _ _ _ _ (by rw [zf_length h20]; exact hk), if_pos hk, zf_getD zs hk h0 h1] at e
    have hp : 0 < tot (zf zs) 20 := by
      have := tot_ge (zf_bytes hb) 19
      rw [show 19 + 1 = 20 from rfl, zf_getD zs (by omega) (by omega) (by omega)] at this
      omega
    have hp' : 0 < tot (zf (zs.set k y)) 20 := by
      have hbs := bytes_set hb k y y0 y1
      have := tot_ge (zf_bytes hbs) 19
      rw [show 19 + 1 = 20 from rfl, zf_getD _ (by omega) (by omega) (by omega), G, r0] at this
      omega
    rw [zf_set_out zs y h0 h1, tot_set _ _ _ _ (by rw [zf_length h20]; exact hk), if_pos hk, zf_getD zs hk h0 h1] at hp'
    have bk := hb.getD k
    generalize zs.getD k 0 = x at *
    have hw : wt k = 256 ∨ wt k = 1 := by unfold wt; split <;> simp
    rcases hw with hw | hw
    · rw [hw] at e hp'
      exact fo_turn (tot (zf zs) 20) _ ((y - x) * 256) hp hp' rfl (by omega) (by omega) (by omega) (by omega)
    · rw [hw] at e hp'
      exact fo_turn (tot (zf zs) 20) _ ((y - x) * 1) hp hp' rfl (by omega) (by omega) (by omega) (by omega)

theorem m_turned {L : List Value} {ys : List Int} (h : Hd L) (hy : Bytes ys) (he : byE L ys = 0) (k : Nat) (hk : k < 20) (y : Int) (y0 : 0 ≤ y) (y1 : y ≤ 255) (hne : ¬ y = (byB L ys ++ ys).getD k 0) : ¬ rdE ((byB L ys ++ ys).set k y) = 0 :=
  rd_turned (bytes_append (byB_bytes h hy) hy) (m_back h hy he).2.2.1 k hk y y0 y1 hne

def uL : List Value := n4C 0 64 17 1 [10, 0, 0, 1] [10, 0, 0, 2]

def uY : List Int := [0, 0, 0, 0, 0, 0, 0, 0]

def uB : List Int := [69, 0, 0, 28, 0, 1, 0, 0, 64, 17, 102, 206, 10, 0, 0, 1, 10, 0, 0, 2]

theorem hd_u : Hd uL := ⟨0, 64, 17, 1, [10, 0, 0, 1], [10, 0, 0, 2], rfl, by omega, by omega, by omega, by omega, by omega, by omega, by omega, by omega, rfl, rfl, by intro z hz; simp at hz; omega, by intro z hz; simp at hz; omega⟩

theorem uY_bytes : Bytes uY := fun z hz => by simp [uY] at hz; omega

theorem by_u : byE uL uY = 0 ∧ byB uL uY = uB := by decide +kernel

theorem uB_by : Bytes uB := by rw [← by_u.2]; exact byB_bytes hd_u uY_bytes

theorem heap3_0 (w : World) (a b c : Obj) : (((w.alloc a).alloc b).alloc c).drew.heap[w.heap.size]? = some a := (Below.heap_alloc ((w.alloc a).alloc b) c _ (by simp; omega)).trans (heap_alloc2_old w a b)

theorem heap3_1 (w : World) (a b c : Obj) : (((w.alloc a).alloc b).alloc c).drew.heap[w.heap.size + 1]? = some b := (Below.heap_alloc ((w.alloc a).alloc b) c _ (by simp)).trans (heap_alloc2_new w a b)

theorem heap3_2 (w : World) (a b c : Obj) : (((w.alloc a).alloc b).alloc c).drew.heap[w.heap.size + 1 + 1]? = some c := by
  have h := heap_alloc_new ((w.alloc a).alloc b) c
  rw [show ((w.alloc a).alloc b).heap.size = w.heap.size + 1 + 1 by simp] at h
  exact h

theorem below3 (w : World) (a b c : Obj) : Below w.heap.size w (((w.alloc a).alloc b).alloc c) := (((Below.refl _ _).alloc (Nat.le_refl _) _).alloc (by simp) _).alloc (by simp; omega) _

/-- A header that came in. -/
theorem hd_open (W : World) (m : sh36.M) (o : sh36.ok W m) : Hd (sh36.cs m) := by
  obtain ⟨t, l, p, i, ⟨s0, s1, s2, s3⟩, ⟨d0, d1, d2, d3⟩⟩ := m
  obtain ⟨kt, kl, kp, ki, ⟨e0, e1, e2, e3⟩, ⟨g0, g1, g2, g3⟩⟩ := o
  have four : ∀ (x0 x1 x2 x3 : Int), (Lit.int .u8 x0).wf = true → (Lit.int .u8 x1).wf = true → (Lit.int .u8 x2).wf = true → (Lit.int .u8 x3).wf = true → Bytes [x0, x1, x2, x3] := by
    intro x0 x1 x2 x3 e0 e1 e2 e3
    refine bytes_of_wf (fun z hz => ?_)
    simp only [List.mem_cons, List.not_mem_nil, or_false] at hz
    rcases hz with rfl | rfl | rfl | rfl <;> assumption
  exact ⟨t, l, p, i, [s0, s1, s2, s3], [d0, d1, d2, d3], rfl, (bounds_u8 kt).1, (bounds_u8 kt).2, (bounds_u8 kl).1, (bounds_u8 kl).2, (bounds_u8 kp).1, (bounds_u8 kp).2, (bounds_u16 ki).1, (bounds_u16 ki).2, rfl, rfl, four _ _ _ _ e0 e1 e2 e3, four _ _ _ _ g0 g1 g2 g3⟩

end Go.Proofs.YtednmdkjhiihcaaGreat.K07
