/- Ones' complement sums, for the stages whose headers have one: the mathematics (as in stage 1), the contracts of sums.fold, shiftAt, Sum, Field, Add and of the document's own Sum, Field. -/
import Derived.Test.YtednmdkjhiihcaaGreatBa
namespace Go.Proofs.YtednmdkjhiihcaaGreat
open Go.ChangeShapes Go.WideShapes Go.ChangeAt Go.RowKit

/-- What is left of a number when all that goes beyond sixteen bits has been added again. -/
def fo (n : Int) : Int := if n = 0 then 0 else (n - 1) % 65535 + 1

theorem fo_zero : fo 0 = 0 := rfl
theorem fo_nonneg (n : Int) : 0 ≤ fo n := by unfold fo; split <;> omega
theorem fo_le (n : Int) : fo n ≤ 65535 := by unfold fo; split <;> omega
theorem fo_small (n : Int) (h0 : 0 ≤ n) (h1 : n ≤ 65535) : fo n = n := by unfold fo; split <;> omega
theorem fo_step (n : Int) (h0 : 0 ≤ n) : fo (n % 65536 + n / 65536) = fo n := by
  unfold fo; split <;> split <;> omega
theorem fo_mod (n : Int) (_h0 : 0 ≤ n) : fo n % 65535 = n % 65535 := by unfold fo; split <;> omega
theorem fo_pos (n : Int) (h0 : 0 < n) : 0 < fo n := by unfold fo; split <;> omega
theorem fo_eq_zero (n : Int) : fo n = 0 ↔ n = 0 := by unfold fo; split <;> omega
theorem fo_add (a b : Int) (ha : 0 ≤ a) (hb : 0 ≤ b) : fo (fo a + b) = fo (a + b) := by
  unfold fo; split <;> split <;> split <;> omega
theorem fo_add' (a b : Int) (ha : 0 ≤ a) (hb : 0 ≤ b) : fo (a + fo b) = fo (a + b) := by
  rw [Int.add_comm a (fo b), fo_add b a hb ha, Int.add_comm]
theorem fo_congr (a b : Int) (ha : 0 < a) (hb : 0 < b) (h : a % 65535 = b % 65535) : fo a = fo b := by
  unfold fo; split <;> split <;> omega
theorem fo_sub (n : Int) (h0 : 0 ≤ n) (h1 : n ≤ 131070) : fo n = if n > 65535 then n - 65535 else n := by
  unfold fo; split <;> split <;> omega

/-- The weight of the byte at a place. -/
def wt (k : Nat) : Int := if k % 2 = 0 then 256 else 1
theorem wt_even (k : Nat) (h : k % 2 = 0) : wt k = 256 := by simp [wt, h]
theorem wt_odd (k : Nat) (h : ¬ k % 2 = 0) : wt k = 1 := by simp [wt, h]

/-- The weighted total of the first k numbers. -/
def tot (zs : List Int) : Nat → Int
  | 0 => 0
  | k + 1 => tot zs k + zs.getD k 0 * wt k

theorem tot_bd {zs : List Int} (h : Bytes zs) : ∀ k : Nat, 0 ≤ tot zs k ∧ tot zs k ≤ 65280 * (k : Int)
  | 0 => by simp [tot]
  | k + 1 => by
    have ih := tot_bd h k
    have hb := h.getD k
    have hw : wt k = 256 ∨ wt k = 1 := by unfold wt; split <;> simp
    simp only [tot]
    rcases hw with hw | hw <;> rw [hw] <;> constructor <;> omega

theorem tot_congr (xs ys : List Int) : ∀ k : Nat, (∀ i, i < k → xs.getD i 0 = ys.getD i 0) → tot xs k = tot ys k
  | 0, _ => rfl
  | k + 1, h => by
    simp only [tot]
    rw [tot_congr xs ys k (fun i hi => h i (by omega)), h k (by omega)]

/-- The sum of the first k numbers. -/
def su (zs : List Int) (k : Nat) : Int := fo (tot zs k)

theorem su_range (zs : List Int) (k : Nat) : 0 ≤ su zs k ∧ su zs k ≤ 65535 := ⟨fo_nonneg _, fo_le _⟩

theorem su_succ {zs : List Int} (h : Bytes zs) (k : Nat) : su zs (k + 1) = fo (su zs k + zs.getD k 0 * wt k) := by
  have hb := h.getD k
  have hw : wt k = 256 ∨ wt k = 1 := by unfold wt; split <;> simp
  unfold su
  rw [fo_add _ _ (tot_bd h k).1 (by rcases hw with hw | hw <;> rw [hw] <;> omega)]
  rfl

theorem and_low16 (y : Int) (h0 : 0 ≤ y) (h1 : y < 18446744073709551616) : bits .and .u64 y 65535 = y % 65536 := by
  rw [u64_and y 65535 h0 h1 (by omega) (by omega)]
  have : y.toNat &&& (65535 : Int).toNat = y.toNat % 65536 := Nat.and_two_pow_sub_one_eq_mod y.toNat 16
  rw [this]; omega

theorem wrapu64 (y : Int) (h0 : 0 ≤ y) (h1 : y < 18446744073709551616) : IntKind.u64.wrap y = y := by
  rw [IntKind.wrap_u64]; omega
theorem wrapu16 (y : Int) (h0 : 0 ≤ y) (h1 : y < 65536) : IntKind.u16.wrap y = y := by
  rw [IntKind.wrap_u16]; omega

set_option maxHeartbeats 400000 in
theorem fold_any (n : Int) (w : World) (h0 : 0 ≤ n) (h1 : n < 18446744073709551616) :
    Calls Tryz.prog 189 #[.int .u64 n] w fun e w' => e = .returned (.int .u16 (fo n)) ∧ w' = w := by
  go_enter Tryz.func189, Tryz.ntmps189
  go_wp2
  go_loop [0] (fun t => ∃ y : Int, 0 ≤ y ∧ y < 18446744073709551616 ∧ fo y = fo n ∧ t = .int .u64 y) (fun t => (intOf t).toNat)
  case atStart => exact ⟨n, h0, h1, rfl, rfl⟩
  case round =>
    obtain ⟨y, hy0, hy1, hfo, rfl⟩ := hrel
    have HF : Hid (fo y = fo n) := hfo
    clear hfo
    go_wp2
    · have hne : (y / 65536 != 0) = true := by assumption
      have hne' : ¬ y / 65536 = 0 := by simpa using hne
      go_round
      case rel =>
        rw [and_low16 y hy0 hy1, wrapu64 _ (by omega) (by omega)]
        exact ⟨_, by omega, by omega, (fo_step y hy0).trans HF.out, rfl⟩
      case measure =>
        rw [and_low16 y hy0 hy1, wrapu64 _ (by omega) (by omega)]
        simp only [intOf]; omega
    · have hne : (y / 65536 != 0) = false := by assumption
      have hne' : y / 65536 = 0 := by simpa using hne
      go_ret
      exact ⟨ret_int (by rw [← HF.out, fo_small y hy0 (by omega), wrapu16 y hy0 (by omega)]), rfl⟩

set_option maxHeartbeats 400000 in
theorem shift_even (k : Nat) (w : World) (hk : k ≤ 140737488355328) (h : k % 2 = 0) :
    Calls Tryz.prog 190 #[.int .i64 k] w fun e w' => e = .returned (.int .i64 8) ∧ w' = w := by
  have h' : ((k : Int) % 2 == 0) = true := by simp; omega
  go_enter Tryz.func190, Tryz.ntmps190
  go_wp2_with fail
  go_ret
  exact ⟨rfl, rfl⟩

set_option maxHeartbeats 400000 in
theorem shift_odd (k : Nat) (w : World) (hk : k ≤ 140737488355328) (h : ¬ k % 2 = 0) :
    Calls Tryz.prog 190 #[.int .i64 k] w fun e w' => e = .returned (.int .i64 0) ∧ w' = w := by
  have h' : ((k : Int) % 2 == 0) = false := by simp; omega
  go_enter Tryz.func190, Tryz.ntmps190
  go_wp2_with fail
  go_ret
  exact ⟨rfl, rfl⟩

set_option maxHeartbeats 1000000 in
theorem sum_any (a : Option Addr) (cap : Nat) (zs : List Int) (w : World) (hB : Bs w a zs) :
    Calls Tryz.prog 187 #[.slice a zs.length cap] w fun e w' => e = .returned (.int .u16 (su zs zs.length)) ∧ Dr w w' := by
  obtain ⟨hl, hby, hat⟩ := hB
  go_enter Tryz.func187, Tryz.ntmps187
  go_wp2_with fail
  go_loopw [3, 7] (fun t i wr => ∃ k : Nat, k ≤ zs.length ∧ i = .int .i64 k ∧ t = .int .u64 (tot zs k) ∧ Dr w wr) (fun _ i _ => zs.length - (intOf i).toNat)
  case atStart => exact ⟨0, Nat.zero_le _, rfl, rfl, Dr.refl w⟩
  case round =>
    obtain ⟨k, hk, rfl, rfl, hdr⟩ := hrel
    have tb := tot_bd hby k
    by_cases hlt : k < zs.length
    · rcases hat with h0 | ⟨b, off, rfl, hcell⟩
      · omega
      have hc := (hdr.cell _).trans (hcell k hlt)
      have hbk := hby.getD k
      generalize hz : zs.getD k 0 = z at hc hbk
      have HT : Hid (tot zs (k + 1) = tot zs k + z * wt k) := by
        show tot zs k + zs.getD k 0 * wt k = _
        rw [hz]
      clear hz hcell
      have hsp : (k : Int) < (zs.length : Int) := by omega
      by_cases hev : k % 2 = 0
      · rw [wt_even k hev] at HT
        go_wp2_with fail
        go_quiet ((go_at_call 190; exact Calls.quiet_of_same (shift_even k _ (by omega) hev)))
        go_wp2_with fail
        go_roundw
        case rel => exact ⟨k + 1, hlt, by go_num, by rw [HT.out], hdr.more _⟩
        case measure => simp [intOf]; omega
      · rw [wt_odd k hev] at HT
        go_wp2_with fail
        go_quiet ((go_at_call 190; exact Calls.quiet_of_same (shift_odd k _ (by omega) hev)))
        go_wp2_with fail
        go_roundw
        case rel => exact ⟨k + 1, hlt, by go_num, by rw [HT.out, Int.mul_one], hdr.more _⟩
        case measure => simp [intOf]; omega
    · have hkz : k = zs.length := by omega
      subst hkz
      go_wp2_with fail
      refine (fold_any _ _ (by omega) (by omega)).mono ?_
      rintro e w' ⟨rfl, rfl⟩
      go_wp2_with fail
      go_ret
      exact ⟨rfl, hdr⟩

set_option maxHeartbeats 400000 in
theorem field_any (a : Option Addr) (cap : Nat) (zs : List Int) (w : World) (hB : Bs w a zs) :
    Calls Tryz.prog 185 #[.slice a zs.length cap] w fun e w' => e = .returned (.int .u16 (65535 - su zs zs.length)) ∧ Dr w w' := by
  have hr := su_range zs zs.length
  go_enter Tryz.func185, Tryz.ntmps185
  go_wp2_with fail
  refine (sum_any a cap zs _ hB).mono ?_
  rintro e w' ⟨rfl, hd⟩
  go_wp2_with fail
  go_ret
  exact ⟨rfl, hd⟩

theorem add_any (a b : Int) (w : World) (ha : 0 ≤ a) (ha' : a ≤ 65535) (hb : 0 ≤ b) (hb' : b ≤ 65535) :
    Calls Tryz.prog 186 #[.int .u16 a, .int .u16 b] w fun e w' => e = .returned (.int .u16 (fo (a + b))) ∧ w' = w := by
  go_enter Tryz.func186, Tryz.ntmps186
  go_wp2_with (go_at_call 189; refine (fold_any _ _ (by omega) (by omega)).mono ?_; rintro e w' ⟨rfl, rfl⟩)
  go_ret
  exact ⟨rfl, rfl⟩

set_option maxHeartbeats 1000000 in
theorem refsum_any (a : Option Addr) (cap : Nat) (zs : List Int) (w : World) (hB : Bs w a zs) :
    Calls Tryz.prog 188 #[.slice a zs.length cap] w fun e w' => e = .returned (.int .u16 (su zs zs.length)) ∧ w' = w := by
  obtain ⟨hl, hby, hat⟩ := hB
  go_enter Tryz.func188, Tryz.ntmps188
  go_wp2_with fail
  go_loop [3, 4] (fun t i => ∃ k : Nat, k ≤ zs.length ∧ i = .int .i64 k ∧ t = .int .i64 (su zs k)) (fun _ i => zs.length - (intOf i).toNat)
  case atStart => exact ⟨0, Nat.zero_le _, rfl, rfl⟩
  case round =>
    obtain ⟨k, hk, rfl, rfl⟩ := hrel
    have tb := su_range zs k
    by_cases hlt : k < zs.length
    · rcases hat with h0 | ⟨b, off, rfl, hcell⟩
      · omega
      have hc := hcell k hlt
      have hbk := hby.getD k
      have HS : Hid (su zs (k + 1) = fo (su zs k + zs.getD k 0 * wt k)) := su_succ hby k
      generalize hz : zs.getD k 0 = z at hc hbk HS
      clear hz hcell
      have hsp : (k : Int) < (zs.length : Int) := by omega
      by_cases hev : k % 2 = 0
      · rw [wt_even k hev] at HS
        have h' : ((k : Int) % 2 == 0) = true := by simp; omega
        by_cases hbig : 65535 < su zs k + z * 256
        · go_wp2_with fail
          go_round
          case rel => exact ⟨k + 1, hlt, by go_num, by rw [HS.out, fo_sub _ (by omega) (by omega), if_pos (by omega)]⟩
          case measure => simp [intOf]; omega
        · go_wp2_with fail
          go_round
          case rel => exact ⟨k + 1, hlt, by go_num, by rw [HS.out, fo_sub _ (by omega) (by omega), if_neg (by omega)]⟩
          case measure => simp [intOf]; omega
      · rw [wt_odd k hev] at HS
        have h' : ((k : Int) % 2 == 0) = false := by simp; omega
        by_cases hbig : 65535 < su zs k + z
        · go_wp2_with fail
          go_round
          case rel => exact ⟨k + 1, hlt, by go_num, by rw [HS.out, Int.mul_one, fo_sub _ (by omega) (by omega), if_pos (by omega)]⟩
          case measure => simp [intOf]; omega
        · go_wp2_with fail
          go_round
          case rel => exact ⟨k + 1, hlt, by go_num, by rw [HS.out, Int.mul_one, fo_sub _ (by omega) (by omega), if_neg (by omega)]⟩
          case measure => simp [intOf]; omega
    · have hkz : k = zs.length := by omega
      subst hkz
      go_wp2_with fail
      go_ret
      exact ⟨rfl, rfl⟩

set_option maxHeartbeats 400000 in
theorem reffield_any (a : Option Addr) (cap : Nat) (zs : List Int) (w : World) (hB : Bs w a zs) :
    Calls Tryz.prog 171 #[.slice a zs.length cap] w fun e w' => e = .returned (.int .u16 (65535 - su zs zs.length)) ∧ w' = w := by
  have hr := su_range zs zs.length
  go_enter Tryz.func171, Tryz.ntmps171
  go_wp2_with fail
  refine (refsum_any a cap zs _ hB).mono ?_
  rintro e w' ⟨rfl, rfl⟩
  go_wp2_with fail
  go_ret
  exact ⟨rfl, rfl⟩

/-- The total of the first k numbers, one of which became another. -/
theorem tot_set (zs : List Int) (i : Nat) (x : Int) : ∀ k : Nat, i < zs.length → tot (zs.set i x) k = tot zs k + (if i < k then (x - zs.getD i 0) * wt i else 0)
  | 0, _ => by simp [tot]
  | k + 1, h => by
    have ih := tot_set zs i x k h
    simp only [tot]
    rw [ih]
    by_cases e : i = k
    · subst e
      have e1 : (zs.set i x).getD i 0 = x := by rw [List.getD_eq_getElem?_getD, List.getElem?_set_self h]; rfl
      rw [e1, if_neg (by omega), if_pos (by omega), Int.sub_mul]
      omega
    · have e1 : (zs.set i x).getD k 0 = zs.getD k 0 := by rw [List.getD_eq_getElem?_getD, List.getElem?_set_ne e, List.getD_eq_getElem?_getD]
      rw [e1]
      by_cases hk : i < k
      · rw [if_pos hk, if_pos (by omega)]; omega
      · rw [if_neg hk, if_neg (by omega)]; omega

/-- A total that changed by one byte has another sum. -/
theorem fo_turn (a b d : Int) (ha : 0 < a) (hb : 0 < b) (h : b = a + d) (h0 : ¬ d = 0) (h1 : -65535 < d) (h2 : d < 65535) : ¬ fo a = fo b := by
  unfold fo
  rw [if_neg (by omega), if_neg (by omega)]
  omega

/-- The total of two pieces, the first of which has an even number of bytes. -/
theorem tot_app (xs ys : List Int) (h : xs.length % 2 = 0) : ∀ k : Nat, tot (xs ++ ys) (xs.length + k) = tot xs xs.length + tot ys k
  | 0 => by
    rw [Nat.add_zero, tot_congr (xs ++ ys) xs xs.length (fun i hi => by rw [List.getD_eq_getElem?_getD, List.getElem?_append_left hi, List.getD_eq_getElem?_getD])]
    simp [tot]
  | k + 1 => by
    have ih := tot_app xs ys h k
    rw [← Nat.add_assoc]
    simp only [tot]
    rw [ih]
    have e1 : (xs ++ ys).getD (xs.length + k) 0 = ys.getD k 0 := by
      rw [List.getD_eq_getElem?_getD, List.getElem?_append_right (by omega), Nat.add_sub_cancel_left, List.getD_eq_getElem?_getD]
    have e2 : wt (xs.length + k) = wt k := by unfold wt; rw [show (xs.length + k) % 2 = k % 2 by omega]
    rw [e1, e2]
    omega
/-- One byte's share of a total. -/
theorem tot_ge_at {zs : List Int} (h : Bytes zs) (j : Nat) : ∀ k : Nat, j < k → zs.getD j 0 * wt j ≤ tot zs k
  | 0, hj => by omega
  | k + 1, hj => by
    have hb := h.getD k
    have hw : wt k = 256 ∨ wt k = 1 := by unfold wt; split <;> simp
    have t0 := (tot_bd h k).1
    by_cases e : j = k
    · subst e
      rw [tot]; omega
    · have ih := tot_ge_at h j k (by omega)
      rw [tot]
      rcases hw with hw | hw <;> rw [hw] <;> omega
end Go.Proofs.YtednmdkjhiihcaaGreat
