/- The contracts of field, Load, Store. -/
import Derived.Test.YtbinedhgjmfceaaPe
namespace Go.Proofs.Ytbinedhgjmfceaa
open Go.ChangeShapes Go.WideShapes Go.ChangeAt Go.RowKit

/-- May size bytes from at on be asked for, where there are b? -/
def askE (b : Nat) (x k : Int) : Int := if k < 1 ∨ k > 8 then 2 else if x < 0 ∨ k > (b : Int) - x then 20 else 0

theorem ask_zero {b : Nat} {x k : Int} : askE b x k = 0 ↔ 1 ≤ k ∧ k ≤ 8 ∧ 0 ≤ x ∧ x + k ≤ b := by
  unfold askE
  constructor
  · intro h
    by_cases h1 : k < 1 ∨ k > 8
    · rw [if_pos h1] at h; omega
    · rw [if_neg h1] at h
      by_cases h2 : x < 0 ∨ k > (b : Int) - x
      · rw [if_pos h2] at h; omega
      · omega
  · intro h
    rw [if_neg (by omega), if_neg (by omega)]

set_option maxHeartbeats 400000 in
theorem field_no (p g : Nat) (A B D : List Int) (m : Nat) (x k : Int) (w : World) (h : PkIs w p g A B D m) (hx : -9223372036854775808 ≤ x) (hx' : x ≤ 9223372036854775807) (he : askE B.length x k ≠ 0) :
    Calls Try.prog 61 #[.pointer (some ⟨p, 0, none⟩), .int .i64 x, .int .i64 k] w fun e w' => e = .returned (.tuple #[.slice none 0 0, .int .i64 (askE B.length x k)]) ∧ Dr w w' := by
  have q0 := h.raw.cell.1
  have hb := h.most
  have H := Hid.mk' h
  clear h
  unfold askE at he ⊢
  by_cases h1 : k < 1 ∨ k > 8
  · rw [if_pos h1]
    rcases h1 with h1 | h1
    · go_enter Try.func61, Try.ntmps61
      go_wp2_with fail
      refine (isNone_no p _ _ _ w q0).mono ?_
      rintro e w1 ⟨rfl, rfl⟩
      go_wp2_with fail
      go_ret2
      exact ⟨rfl, Dr.refl _⟩
    · go_enter Try.func61, Try.ntmps61
      go_wp2_with fail
      refine (isNone_no p _ _ _ w q0).mono ?_
      rintro e w1 ⟨rfl, rfl⟩
      go_wp2_with fail
      go_ret2
      exact ⟨rfl, Dr.refl _⟩
  · rw [if_neg h1] at he ⊢
    by_cases h2 : x < 0 ∨ k > (B.length : Int) - x
    · rw [if_pos h2]
      by_cases h3 : x < 0
      · clear he
        go_enter Try.func61, Try.ntmps61
        go_wp2_with fail
        refine (isNone_no p _ _ _ w q0).mono ?_
        rintro e w1 ⟨rfl, rfl⟩
        go_wp2_with fail
        go_ret2
        exact ⟨rfl, Dr.refl _⟩
      · clear he
        have h4 : k > (B.length : Int) - x := by omega
        go_enter Try.func61, Try.ntmps61
        go_wp2_with fail
        refine (isNone_no p _ _ _ w q0).mono ?_
        rintro e w1 ⟨rfl, rfl⟩
        go_wp2_with fail
        refine (len_any p g A B D m w H.out).mono ?_
        rintro e w1 ⟨rfl, d1⟩
        go_wp2_with fail
        go_ret2
        exact ⟨rfl, d1⟩
    · rw [if_neg h2] at he; exact absurd rfl he

set_option maxHeartbeats 400000 in
theorem field_yes (p g : Nat) (A B D : List Int) (m : Nat) (x k : Nat) (w : World) (h : PkIs w p g A B D m) (h1 : 1 ≤ k) (h8 : k ≤ 8) (hx : x + k ≤ B.length) :
    Calls Try.prog 61 #[.pointer (some ⟨p, 0, none⟩), .int .i64 x, .int .i64 k] w fun e w' => e = .returned (.tuple #[.slice (some ⟨g, A.length + x, none⟩) k (B.length - x), .int .i64 0]) ∧ Dr w w' := by
  have q0 := h.raw.cell.1
  have hb := h.most
  have H := Hid.mk' h
  clear h
  have hO : pO A B = A.length := by unfold pO; rw [if_neg (by omega)]
  have e1 : ((x : Int) + (k : Int)).toNat - x = k := by omega
  have e2 : ¬ B.length = x := by omega
  go_enter Try.func61, Try.ntmps61
  go_wp2_with fail
  refine (isNone_no p _ _ _ w q0).mono ?_
  rintro e w1 ⟨rfl, rfl⟩
  go_wp2_with fail
  refine (len_any p g A B D m w H.out).mono ?_
  rintro e w1 ⟨rfl, d1⟩
  have D1 := Hid.mk' d1
  clear d1
  go_wp2_with fail
  refine (data_any p g A B D m w1 (H.out.dr D1.out)).mono ?_
  rintro e w2 ⟨rfl, d2⟩
  have D2 : Dr w w2 := D1.out.trans d2
  clear d2
  rw [hO]
  clear hO
  go_wp2_with fail
  go_ret2
  exact ⟨rfl, D2⟩

/-- A number of bytes, the highest first. -/
def ld (L : List Int) : Int := L.foldl (fun v b => v * 256 + b) 0

theorem ld_snoc (L : List Int) (b : Int) : ld (L ++ [b]) = ld L * 256 + b := by simp [ld]
theorem ld_lt : ∀ (n : Nat) (L : List Int), L.length = n → Bytes L → 0 ≤ ld L ∧ ld L < 256 ^ n
  | 0, L, h, _ => by rw [List.eq_nil_of_length_eq_zero h]; simp [ld]
  | n + 1, L, h, hb => by
    have hne : L ≠ [] := by intro e; subst e; simp at h
    obtain ⟨M, b, rfl⟩ : ∃ M b, L = M ++ [b] := ⟨L.dropLast, L.getLast hne, (List.dropLast_concat_getLast hne).symm⟩
    have hl : M.length = n := by simpa using h
    have ih := ld_lt n M hl (fun z hz => hb z (by simp [hz]))
    have hbb := hb b (by simp)
    rw [ld_snoc, Int.pow_succ]
    generalize (256 : Int) ^ n = P at *
    omega

theorem or256 (V b : Int) (h0 : 0 ≤ V) (h1 : V ≤ 72057594037927935) (b0 : 0 ≤ b) (b1 : b ≤ 255) : bits .or .u64 (V * 256) b = V * 256 + b := by
  rw [u64_or _ _ (by omega) (by omega) b0 (by omega)]
  obtain ⟨v, rfl⟩ : ∃ v : Nat, V = v := ⟨V.toNat, by omega⟩
  obtain ⟨c, rfl⟩ : ∃ c : Nat, b = c := ⟨b.toNat, by omega⟩
  rw [show ((v : Int) * 256).toNat = 2 ^ 8 * v by omega, Int.toNat_natCast, ← Nat.two_pow_add_eq_or_of_lt (by omega)]
  omega

/-- What is loaded. -/
def ldV (B : List Int) (x k : Nat) : Int := ld ((B.drop x).take k)

theorem ldV_zero (B : List Int) (x : Nat) : ldV B x 0 = 0 := by simp [ldV, ld]
theorem ldV_succ (B : List Int) (x k : Nat) (h : x + k < B.length) : ldV B x (k + 1) = ldV B x k * 256 + B.getD (x + k) 0 := by
  unfold ldV
  have hk : k < (B.drop x).length := by rw [List.length_drop]; omega
  rw [List.take_succ_eq_append_getElem hk, ld_snoc]
  congr 1
  rw [List.getElem_drop, List.getD_eq_getElem?_getD, List.getElem?_eq_getElem h]; rfl
theorem ldV_lt (B : List Int) (x k : Nat) (hb : Bytes B) (h : x + k ≤ B.length) : 0 ≤ ldV B x k ∧ ldV B x k < 256 ^ k :=
  ld_lt k _ (by rw [List.length_take, List.length_drop]; omega) ((hb.drop _).take _)

theorem load_no (p g : Nat) (A B D : List Int) (m : Nat) (x k : Int) (w : World) (h : PkIs w p g A B D m) (hx : -9223372036854775808 ≤ x) (hx' : x ≤ 9223372036854775807) (he : askE B.length x k ≠ 0) :
    Calls Try.prog 46 #[.pointer (some ⟨p, 0, none⟩), .int .i64 x, .int .i64 k] w fun e w' => e = .returned (.tuple #[.int .u64 0, .int .i64 (askE B.length x k)]) ∧ Dr w w' := by
  have key := field_no p g A B D m x k w h hx hx' he
  clear h he
  generalize askE B.length x k = E at *
  go_enter Try.func46, Try.ntmps46
  go_wp2_with fail
  refine key.mono ?_
  rintro e w1 ⟨rfl, d1⟩
  clear key
  go_wp2_with fail
  go_loopw [10, 22] (fun v i wr => v = .int .u64 0 ∧ i = .int .i64 0 ∧ wr = w1) (fun _ _ _ => 0)
  case atStart => exact ⟨rfl, rfl, rfl⟩
  case round =>
    obtain ⟨rfl, rfl, rfl⟩ := hrel
    go_wp2_with fail
    go_ret2
    exact ⟨rfl, d1⟩

set_option maxHeartbeats 400000 in
theorem load_yes (p g : Nat) (A B D : List Int) (m : Nat) (x k : Nat) (w : World) (h : PkIs w p g A B D m) (h1 : 1 ≤ k) (h8 : k ≤ 8) (hx : x + k ≤ B.length) :
    Calls Try.prog 46 #[.pointer (some ⟨p, 0, none⟩), .int .i64 x, .int .i64 k] w fun e w' => e = .returned (.tuple #[.int .u64 (ldV B x k), .int .i64 0]) ∧ Dr w w' := by
  have key := field_yes p g A B D m x k w h h1 h8 hx
  have H := Hid.mk' h
  have hmost := h.most
  clear h
  go_enter Try.func46, Try.ntmps46
  go_wp2_with fail
  refine key.mono ?_
  rintro e w1 ⟨rfl, d1⟩
  clear key
  go_wp2_with fail
  go_loopw [10, 22] (fun v i wr => ∃ j : Nat, j ≤ k ∧ i = .int .i64 j ∧ v = .int .u64 (ldV B x j) ∧ wr = w1) (fun _ i _ => k - (intOf i).toNat)
  case atStart => exact ⟨0, Nat.zero_le _, rfl, by rw [ldV_zero], rfl⟩
  case round =>
    obtain ⟨j, hj, rfl, rfl, rfl⟩ := hrel
    by_cases hlt : j < k
    · have cc : wr.cell? ⟨g, A.length + x + j, none⟩ = some (.int .u8 (B.getD (x + j) 0)) := by
        have hb := (H.out.dr d1).bs
        rcases hb.lies with h0 | ⟨b, off, e, hc⟩
        · omega
        · have hO : pO A B = A.length := by unfold pO; rw [if_neg (by omega)]
          rw [hO] at e
          cases e
          rw [Nat.add_assoc]; exact hc (x + j) (by omega)
      have hs := ldV_succ B x j (by omega)
      have hv := ldV_lt B x j H.out.bytes.mid.2.1 (by omega)
      have hbb := H.out.bytes.mid.2.1.getD (x + j)
      have hp7 : (256 : Int) ^ j ≤ 72057594037927936 := by
        have : (256 : Nat) ^ j ≤ 256 ^ 7 := Nat.pow_le_pow_right (by omega) (by omega)
        have e : (256 : Nat) ^ 7 = 72057594037927936 := by decide
        have c : ((256 ^ j : Nat) : Int) = (256 : Int) ^ j := by simp
        omega
      have HS := Hid.mk' hs
      clear hs
      generalize B.getD (x + j) 0 = b at *
      generalize ldV B x j = V at *
      have hv0 : 0 ≤ V := hv.1
      have hv1 : V ≤ 72057594037927935 := by omega
      have hb0 : 0 ≤ b := hbb.1
      have hb1 : b ≤ 255 := hbb.2
      clear hv hbb hp7
      have hsp : (j : Int) < (k : Int) := by omega
      go_wp2_with fail
      go_roundw
      case rel =>
        refine ⟨j + 1, hlt, by go_num, ?_, trivial⟩
        rw [HS.out, or256 V b hv0 (by omega) hb0 hb1]
      case measure => simp [intOf]; omega
    · obtain rfl : j = k := by omega
      go_wp2_with fail
      go_ret2
      exact ⟨rfl, d1⟩
end Go.Proofs.Ytbinedhgjmfceaa
