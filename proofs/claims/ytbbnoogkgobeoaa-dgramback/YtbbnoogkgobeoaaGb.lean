/- The contracts that the stages of headers have in common: the statements' join, the document's number and value. -/
import Derived.Test.YtbbnoogkgobeoaaGa
namespace Go.Proofs.Ytbbnoogkgobeoaa
open Go.ChangeShapes Go.WideShapes Go.ChangeAt Go.RowKit

/-- k bytes of a number, the highest one first. -/
def numB : Nat → Int → List Int
  | 0, _ => []
  | k + 1, v => numB k (v / 256) ++ [v % 256]

theorem numB_length : ∀ (k : Nat) (v : Int), (numB k v).length = k
  | 0, _ => rfl
  | k + 1, v => by simp [numB, numB_length k]

theorem numB_bytes : ∀ (k : Nat) (v : Int), Bytes (numB k v)
  | 0, _ => fun z hz => by simp [numB] at hz
  | k + 1, v => bytes_append (numB_bytes k _) (fun z hz => by simp at hz; omega)

/-- So many bytes from a place on, as a number. -/
def valV (B : List Int) (x : Nat) : Nat → Int
  | 0 => 0
  | k + 1 => valV B x k * 256 + B.getD (x + k) 0

theorem valV_bd {B : List Int} (h : Bytes B) (x : Nat) : ∀ k : Nat, 0 ≤ valV B x k ∧ valV B x k < 256 ^ k
  | 0 => by simp [valV]
  | k + 1 => by
    have ih := valV_bd h x k
    have hb := h.getD (x + k)
    simp only [valV]
    rw [Int.pow_succ]
    omega

theorem pow256 {k : Nat} (h : k ≤ 4) : (256 : Int) ^ k ≤ 4294967296 := by
  match k, h with
  | 0, _ => decide
  | 1, _ => decide
  | 2, _ => decide
  | 3, _ => decide
  | 4, _ => decide

set_option maxHeartbeats 400000 in
theorem number_any (v : Int) (k : Nat) (w : World) (hv : 0 ≤ v) (hv' : v ≤ 4294967296) (hk : k ≤ 16) :
    Calls Try.prog 24 #[.int .i64 v, .int .i64 k] w fun e w' => ∃ u, e = .returned u ∧ w'.ownsRow w.heap.size 5 1 u k ((numB k v).map (Value.int .u8)) ∧ Below w.heap.size w w' := by
  have hmk := make_bytes k (by omega)
  obtain ⟨Z, HZ⟩ : ∃ Z, Hid ((List.replicate k (0 : Int)).map (Value.int .u8) = Z) := ⟨_, rfl⟩
  rw [HZ.out] at hmk
  go_enter Try.func24, Try.ntmps24
  go_wp2_with fail
  obtain ⟨W1, hW1⟩ : ∃ W1, W1 = w.alloc (.cells Z.toArray 5) := ⟨_, rfl⟩
  rw [← hW1]
  have R1 : Hid (W1.heap[w.heap.size]? = some (.cells Z.toArray 5 (0, 0))) := by rw [hW1]; exact heap_alloc_new w _
  have B1 : Hid (Below w.heap.size w W1) := by rw [hW1]; exact (Below.refl _ _).alloc (Nat.le_refl _) _
  clear hW1 hmk
  go_loopw [0, 6] (fun x i wr => ∃ (m : Nat) (y : Int) (tl : List Int), m ≤ k ∧ i = .int .i64 ((m : Int) - 1) ∧ x = .int .i64 y ∧ 0 ≤ y ∧ y ≤ 4294967296 ∧ Hid (numB k v = numB m y ++ tl) ∧ Hid (wr.heap[w.heap.size]? = some (.cells ((List.replicate m (0 : Int) ++ tl).map (Value.int .u8)).toArray 5 (0, 0))) ∧ Hid (Below w.heap.size w wr)) (fun _ i _ => ((intOf i) + 1).toNat)
  case atStart => exact ⟨k, v, [], Nat.le_refl _, by go_num, rfl, hv, hv', Hid.mk' (by simp), Hid.mk' (by rw [List.append_nil, HZ.out]; exact R1.out), B1⟩
  case round =>
    obtain ⟨m, y, tl, hm, rfl, rfl, hy, hy', HN, HR, HB⟩ := hrel
    match m, HN, HR, hm with
    | 0, HN, HR, hm =>
      have HO : Hid (wr.ownsRow w.heap.size 5 1 (.slice (some ⟨w.heap.size, 0, none⟩) k k) k ((numB k v).map (Value.int .u8))) := by
        refine own_block ?_ (Nat.le_refl _) (by rw [List.length_map, numB_length]) (by omega)
        rw [HR.out, HN.out]; rfl
      go_wp2_with fail
      go_ret
      exact ⟨_, rfl, HO.out, HB.out⟩
    | m + 1, HN, HR, hm =>
      have f0 : wr.frozen? ⟨w.heap.size, m, none⟩ = false := frozen_of_row wr _ m _ _ HR.out
      have c0 : wr.cell? ⟨w.heap.size, m, none⟩ = some (.int .u8 0) := by
        rw [cell_of_row wr _ m _ _ _ HR.out, List.getElem?_toArray, List.getElem?_map, List.getElem?_append_left (by simp), List.getElem?_replicate]
        simp
      go_wp2_with fail
      go_roundw
      case rel =>
        refine ⟨m, y / 256, y % 256 :: tl, by omega, rfl, rfl, by omega, by omega, Hid.mk' ?_, Hid.mk' ?_, (HB.out.setCell (p := ⟨w.heap.size, m, none⟩) (Nat.le_refl _) _ : Below _ _ _)⟩
        · rw [HN.out, numB, List.append_assoc]; rfl
        · rw [Go.heap_setCell_same _ _ m _ _ _ HR.out]
          congr 2
          apply Array.toList_inj.1
          rw [Array.toList_setIfInBounds, ← List.map_set, List.replicate_succ', List.append_assoc, List.set_append_right _ _ (by simp)]
          simp
      case measure => simp [intOf]

set_option maxHeartbeats 400000 in
theorem value_any (b off n c x k : Nat) (zs : List Int) (w : World) (hz : zs.length = n) (hB : Bs w (some ⟨b, off, none⟩) zs) (hk : k ≤ 4) (hx : x + k ≤ n) :
    Calls Try.prog 28 #[.slice (some ⟨b, off, none⟩) n c, .int .i64 x, .int .i64 k] w fun e w' => e = .returned (.int .i64 (valV zs x k)) ∧ w = w' := by
  have hln : n ≤ 140737488355328 := by rw [← hz]; exact hB.len
  have HB := Hid.mk' hB
  have HN := Hid.mk' hz
  clear hB hz
  go_enter Try.func28, Try.ntmps28
  go_wp2_with fail
  go_loop [7, 8] (fun v i => ∃ j : Nat, j ≤ k ∧ i = .int .i64 j ∧ v = .int .i64 (valV zs x j)) (fun _ i => k - (intOf i).toNat)
  case atStart => exact ⟨0, Nat.zero_le _, rfl, rfl⟩
  case round =>
    obtain ⟨j, hj, rfl, rfl⟩ := hrel
    by_cases hlt : j < k
    · have hsp : (j : Int) < (k : Int) := by omega
      have cc : w.cell? ⟨b, off + (x + j), none⟩ = some (.int .u8 (zs.getD (x + j) 0)) := by
        rcases HB.out.lies with h0 | ⟨b', off', e, hc⟩
        · rw [HN.out] at h0; omega
        · cases e; exact hc (x + j) (by rw [HN.out]; omega)
      have hb := HB.out.bytes.getD (x + j)
      have hv := valV_bd HB.out.bytes x j
      have hp := pow256 (k := j) (by omega)
      obtain ⟨y, HY⟩ : ∃ y, Hid (zs.getD (x + j) 0 = y) := ⟨_, rfl⟩
      obtain ⟨V, HV⟩ : ∃ V, Hid (valV zs x j = V) := ⟨_, rfl⟩
      rw [HY.out] at cc hb
      rw [HV.out] at hv ⊢
      have v0 : 0 ≤ V := hv.1
      have v1 : V ≤ 4294967296 := by omega
      have y0 := hb.1
      have y1 := hb.2
      clear hb hv hp
      have hin : (x : Int) + (j : Int) < (n : Int) := by omega
      go_wp2_with fail
      go_round
      case rel => exact ⟨j + 1, hlt, by go_num, by rw [valV, HV.out, HY.out]⟩
      case measure => simp [intOf]; omega
    · obtain rfl : j = k := by omega
      go_wp2_with fail
      go_ret
      exact ⟨rfl, rfl⟩

set_option maxHeartbeats 1000000 in
theorem join_any (a b : Option Addr) (c d n m : Nat) (xs ys : List Int) (w : World) (hn : xs.length = n) (hm : ys.length = m) (hx : Bs w a xs) (hy : Bs w b ys) (hl : n + m ≤ 140737488355328) :
    Calls Try.prog 19 #[.slice a n c, .slice b m d] w fun e w' => ∃ v, e = .returned v ∧ w'.ownsRow w.heap.size 5 1 v (n + m) ((xs ++ ys).map (Value.int .u8)) ∧ Below w.heap.size w w' := by
  have HX := Hid.mk' hx
  have HY := Hid.mk' hy
  have HN := Hid.mk' hn
  have HM := Hid.mk' hm
  clear hx hy hn hm
  have tok : True := trivial
  go_enter Try.func19, Try.ntmps19
  go_wp2_with (first | (at_builtin; have _t := tok; refine wpList_app_own rfl _ _ rfl w.heap.size (.slice none 0 0) 0 [] rfl (World.ownsRow_nil _ _ _ _) a c n xs rfl HN.out HX.out (by omega) (Nat.le_refl _) ?_; clear _t tok; intro v1 w1 hown hgrow hpl; have B1 : Hid (Below w.heap.size w w1) := ((Below.refl _ _).grown hgrow (Nat.le_refl _) (by intro k hk; simp [Value.ownBlock] at hk)); have O1 := Hid.mk' hown; clear hown hgrow hpl) | (at_builtin; refine wpList_app_own rfl _ _ rfl w.heap.size v1 (0 + n) _ rfl O1.out b d m ys rfl HM.out (HY.out.below B1.out) (by omega) B1.out.size ?_; intro v2 w2 hown hgrow hpl; have B2 : Hid (Below w.heap.size w w2) := (B1.out.grown hgrow B1.out.size (by intro k hk; exact (O1.out.lt k hk).1)); have O2 := Hid.mk' hown; clear hown hgrow hpl))
  go_ret
  exact ⟨_, rfl, by simpa using O2.out, B2.out⟩
end Go.Proofs.Ytbbnoogkgobeoaa
