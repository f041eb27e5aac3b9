/- The contract of Store; what all calls answer at a packet that is none. -/
import Derived.Test.YtbinedhgjmfceaaPf
namespace Go.Proofs.Ytbinedhgjmfceaa
open Go.ChangeShapes Go.WideShapes Go.ChangeAt Go.RowKit

/-- What is stored: the highest byte first. -/
def stV : List Int → Nat → Nat → Int → List Int
  | B, _, 0, _ => B
  | B, x, k + 1, v => stV (B.set (x + k) (v % 256)) x k (v / 256)

theorem stV_length : ∀ (k : Nat) (B : List Int) (x : Nat) (v : Int), (stV B x k v).length = B.length
  | 0, _, _, _ => rfl
  | k + 1, B, x, v => by rw [stV, stV_length k]; simp

/-- A byte of a packet is written. -/
theorem PkIs.put {w : World} {p g : Nat} {A B D : List Int} {m : Nat} (h : PkIs w p g A B D m) (y : Nat) (z : Int) (hy : y < B.length) (z0 : 0 ≤ z) (z1 : z ≤ 255) :
    PkIs (w.setCell ⟨g, A.length + y, none⟩ (.int .u8 z)) p g A (B.set y z) D m := by
  have hlt := h.lt
  have hl : (B.set y z).length = B.length := by simp
  refine ⟨⟨?_, by omega, by omega, by rw [hl]; exact h.raw.big⟩, ?_, hlt, ?_, by rw [hl]; exact h.most, by rw [hl]; exact h.all, h.mvs⟩
  · rw [Below.heap_setCell _ _ _ _ (by show p ≠ g; omega), hl]
    exact h.raw.box
  · rw [Go.heap_setCell_same _ g _ _ _ _ h.row]
    congr 2
    apply Array.toList_inj.1
    rw [Array.toList_setIfInBounds]
    show ((A ++ (B ++ D)).map (Value.int .u8)).set _ _ = (A ++ (B.set y z ++ D)).map (Value.int .u8)
    rw [← List.map_set, List.set_append_right _ _ (by omega), Nat.add_sub_cancel_left, List.set_append_left _ _ hy]
  · obtain ⟨h1, h2, h3⟩ := h.bytes.mid
    exact Bytes.of3 h1 (bytes_set h2 y z z0 z1) h3

theorem PkIs.byte {w : World} {p g : Nat} {A B D : List Int} {m : Nat} (h : PkIs w p g A B D m) (y : Nat) (hy : y < B.length) :
    w.cell? ⟨g, A.length + y, none⟩ = some (.int .u8 (B.getD y 0)) ∧ w.frozen? ⟨g, A.length + y, none⟩ = false := by
  refine ⟨?_, frozen_of_row w g _ _ _ h.row⟩
  rw [cell_of_row w g _ _ _ _ h.row]
  simp only [List.getElem?_toArray, List.getElem?_map]
  rw [List.getElem?_append_right (by omega), Nat.add_sub_cancel_left, List.getElem?_append_left hy, List.getElem?_eq_getElem hy]
  simp [hy]

theorem store_no (p g : Nat) (A B D : List Int) (m : Nat) (x k v : Int) (w : World) (h : PkIs w p g A B D m) (hx : -9223372036854775808 ≤ x) (hx' : x ≤ 9223372036854775807) (he : askE B.length x k ≠ 0) :
    Calls Try.prog 45 #[.pointer (some ⟨p, 0, none⟩), .int .i64 x, .int .i64 k, .int .u64 v] w fun e w' => e = .returned (.int .i64 (askE B.length x k)) ∧ Dr w w' := by
  have key := field_no p g A B D m x k w h hx hx' he
  clear h he
  generalize askE B.length x k = E at *
  go_enter Try.func45, Try.ntmps45
  go_wp2_with fail
  refine key.mono ?_
  rintro e w1 ⟨rfl, d1⟩
  clear key
  go_wp2_with fail
  go_loopw [11] (fun i wr => i = .int .i64 (-1) ∧ wr = w1) (fun _ _ => 0)
  case atStart => exact ⟨rfl, rfl⟩
  case round =>
    obtain ⟨rfl, rfl⟩ := hrel
    go_wp2_with fail
    go_ret
    exact ⟨rfl, d1⟩

set_option maxHeartbeats 400000 in
theorem store_yes (p g : Nat) (A B D : List Int) (m : Nat) (x k : Nat) (v : Int) (w : World) (h : PkIs w p g A B D m) (h1 : 1 ≤ k) (h8 : k ≤ 8) (hx : x + k ≤ B.length) (v0 : 0 ≤ v) (v1 : v ≤ 18446744073709551615) :
    Calls Try.prog 45 #[.pointer (some ⟨p, 0, none⟩), .int .i64 x, .int .i64 k, .int .u64 v] w fun e w' => e = .returned (.int .i64 0) ∧ PkIs w' p g A (stV B x k v) D m ∧ Kept (fun i => i = g) w w' := by
  have key := field_yes p g A B D m x k w h h1 h8 hx
  have H := Hid.mk' h
  have hmost := h.most
  clear h
  go_enter Try.func45, Try.ntmps45
  go_wp2_with fail
  refine key.mono ?_
  rintro e w1 ⟨rfl, d1⟩
  have H1 : Hid (PkIs w1 p g A B D m) := H.out.dr d1
  have K1 : Hid (Kept (fun i => i = g) w w1) := Kept.of_below (d1.below _)
  clear key H d1
  go_wp2_with fail
  go_loopw [3, 11] (fun u i wr => ∃ (j : Nat) (y : Int) (B' : List Int), j ≤ k ∧ i = .int .i64 ((j : Int) - 1) ∧ u = .int .u64 y ∧ 0 ≤ y ∧ y ≤ 18446744073709551615 ∧ Hid (stV B' x j y = stV B x k v) ∧ Hid (B'.length = B.length) ∧ Hid (PkIs wr p g A B' D m) ∧ Hid (Kept (fun i => i = g) w wr)) (fun _ i _ => ((intOf i) + 1).toNat)
  case atStart => exact ⟨k, v, B, Nat.le_refl _, rfl, rfl, v0, v1, rfl, rfl, H1, K1⟩
  case round =>
    clear H1 K1
    obtain ⟨j, y, B', hj, rfl, rfl, y0, y1, hst, hBl, hP, hK⟩ := hrel
    cases j with
    | zero =>
      have hf : PkIs wr p g A (stV B x k v) D m := by rw [← hst.out]; exact hP.out
      have HF := Hid.mk' hf
      clear hf hst hP hBl
      go_wp2_with fail
      go_ret
      exact ⟨rfl, HF.out, hK.out⟩
    | succ j =>
      have e0 : (((j + 1 : Nat) : Int) - 1) = (j : Int) := by omega
      rw [e0]
      have hy : x + j < B'.length := by rw [hBl.out]; omega
      obtain ⟨cc, ff⟩ := hP.out.byte (x + j) hy
      rw [← Nat.add_assoc] at cc ff
      have hp := hP.out.put (x + j) (y % 256) hy (by omega) (by omega)
      rw [← Nat.add_assoc] at hp
      have HP' := Hid.mk' hp
      have HK' : Hid (Kept (fun i => i = g) w (wr.setCell ⟨g, A.length + x + j, none⟩ (.int .u8 (y % 256)))) := hK.out.setCell (p := ⟨g, A.length + x + j, none⟩) (fun _ => rfl) _
      generalize B'.getD (x + j) 0 = b at cc
      have hsp : (j : Int) < (k : Int) := by omega
      clear hp hy e0
      go_wp2_with fail
      go_roundw
      case rel =>
        exact ⟨j, y / 256, B'.set (x + j) (y % 256), by omega, rfl, rfl, by omega, by omega, hst, (by rw [List.length_set]; exact hBl.out : (B'.set (x + j) (y % 256)).length = B.length), HP', HK'⟩
      case measure => simp [intOf]

/-- What Load and Store answer and leave, whatever is asked. -/
def ldE (B : List Int) (x k : Int) : Int := if askE B.length x k = 0 then ldV B x.toNat k.toNat else 0
def stE (B : List Int) (x k v : Int) : List Int := if askE B.length x k = 0 then stV B x.toNat k.toNat v else B

theorem stE_length (B : List Int) (x k v : Int) : (stE B x k v).length = B.length := by
  unfold stE; split
  · exact stV_length _ _ _ _
  · rfl

theorem load_any (p g : Nat) (A B D : List Int) (m : Nat) (x k : Int) (w : World) (h : PkIs w p g A B D m) (hx : -9223372036854775808 ≤ x) (hx' : x ≤ 9223372036854775807) :
    Calls Try.prog 46 #[.pointer (some ⟨p, 0, none⟩), .int .i64 x, .int .i64 k] w fun e w' => e = .returned (.tuple #[.int .u64 (ldE B x k), .int .i64 (askE B.length x k)]) ∧ Dr w w' := by
  unfold ldE
  by_cases he : askE B.length x k = 0
  · rw [if_pos he, he]
    obtain ⟨h1, h2, h3, h4⟩ := ask_zero.1 he
    obtain ⟨x', rfl⟩ : ∃ t : Nat, x = t := ⟨x.toNat, by omega⟩
    obtain ⟨k', rfl⟩ : ∃ t : Nat, k = t := ⟨k.toNat, by omega⟩
    exact load_yes p g A B D m x' k' w h (by omega) (by omega) (by omega)
  · rw [if_neg he]
    exact load_no p g A B D m x k w h hx hx' he

theorem store_any (p g : Nat) (A B D : List Int) (m : Nat) (x k v : Int) (w : World) (h : PkIs w p g A B D m) (hx : -9223372036854775808 ≤ x) (hx' : x ≤ 9223372036854775807) (v0 : 0 ≤ v) (v1 : v ≤ 18446744073709551615) :
    Calls Try.prog 45 #[.pointer (some ⟨p, 0, none⟩), .int .i64 x, .int .i64 k, .int .u64 v] w fun e w' => e = .returned (.int .i64 (askE B.length x k)) ∧ PkIs w' p g A (stE B x k v) D m ∧ Kept (fun i => i = g) w w' := by
  unfold stE
  by_cases he : askE B.length x k = 0
  · rw [if_pos he, he]
    obtain ⟨h1, h2, h3, h4⟩ := ask_zero.1 he
    obtain ⟨x', rfl⟩ : ∃ t : Nat, x = t := ⟨x.toNat, by omega⟩
    obtain ⟨k', rfl⟩ : ∃ t : Nat, k = t := ⟨k.toNat, by omega⟩
    exact store_yes p g A B D m x' k' v w h (by omega) (by omega) (by omega) v0 v1
  · rw [if_neg he]
    exact (store_no p g A B D m x k v w h hx hx' he).mono fun e w' ⟨h1, h2⟩ => ⟨h1, h.dr h2, Kept.of_below (h2.below _)⟩

set_option maxHeartbeats 400000 in
theorem head_no (v : Value) (n : Int) (w : World) (h : NoPk w v) :
    Calls Try.prog 33 #[v, .int .i64 n] w fun x w' => x = .returned (.int .i64 1) ∧ w = w' := by
  go_enter Try.func33, Try.ntmps33
  go_wp2_with fail
  refine (may_no v n w h).mono ?_
  rintro x w1 ⟨rfl, rfl⟩
  go_wp2_with fail
  go_ret
  exact ⟨rfl, rfl⟩

set_option maxHeartbeats 400000 in
theorem tail_no (v : Value) (n : Int) (w : World) (h : NoPk w v) :
    Calls Try.prog 35 #[v, .int .i64 n] w fun x w' => x = .returned (.int .i64 1) ∧ w = w' := by
  go_enter Try.func35, Try.ntmps35
  go_wp2_with fail
  refine (may_no v n w h).mono ?_
  rintro x w1 ⟨rfl, rfl⟩
  go_wp2_with fail
  go_ret
  exact ⟨rfl, rfl⟩

set_option maxHeartbeats 400000 in
theorem field_nil (v : Value) (x k : Int) (w : World) (h : NoPk w v) :
    Calls Try.prog 61 #[v, .int .i64 x, .int .i64 k] w fun e w' => e = .returned (.tuple #[.slice none 0 0, .int .i64 1]) ∧ w = w' := by
  go_enter Try.func61, Try.ntmps61
  go_wp2_with fail
  refine (isNone_yes v w h).mono ?_
  rintro x w1 ⟨rfl, rfl⟩
  go_wp2_with fail
  go_ret2
  exact ⟨rfl, rfl⟩

set_option maxHeartbeats 400000 in
theorem load_nil (v : Value) (x k : Int) (w : World) (h : NoPk w v) :
    Calls Try.prog 46 #[v, .int .i64 x, .int .i64 k] w fun e w' => e = .returned (.tuple #[.int .u64 0, .int .i64 1]) ∧ w = w' := by
  go_enter Try.func46, Try.ntmps46
  go_wp2_with fail
  refine (field_nil v x k w h).mono ?_
  rintro e w1 ⟨rfl, rfl⟩
  go_wp2_with fail
  go_loopw [10, 22] (fun v i wr => v = .int .u64 0 ∧ i = .int .i64 0 ∧ w = wr) (fun _ _ _ => 0)
  case atStart => exact ⟨rfl, rfl, rfl⟩
  case round =>
    obtain ⟨rfl, rfl, rfl⟩ := hrel
    go_wp2_with fail
    go_ret2
    exact ⟨rfl, rfl⟩

set_option maxHeartbeats 400000 in
theorem store_nil (v : Value) (x k y : Int) (w : World) (h : NoPk w v) :
    Calls Try.prog 45 #[v, .int .i64 x, .int .i64 k, .int .u64 y] w fun e w' => e = .returned (.int .i64 1) ∧ w = w' := by
  go_enter Try.func45, Try.ntmps45
  go_wp2_with fail
  refine (field_nil v x k w h).mono ?_
  rintro e w1 ⟨rfl, rfl⟩
  go_wp2_with fail
  go_loopw [11] (fun i wr => i = .int .i64 (-1) ∧ w = wr) (fun _ _ => 0)
  case atStart => exact ⟨rfl, rfl⟩
  case round =>
    obtain ⟨rfl, rfl⟩ := hrel
    go_wp2_with fail
    go_ret
    exact ⟨rfl, rfl⟩
end Go.Proofs.Ytbinedhgjmfceaa
