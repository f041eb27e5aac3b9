/- The document's own packet (sallyportref03) in memory (RfIs), and the contracts of New, may, asked, Load, Store. -/
import Derived.Test.YtbinedhgjmfceaaPg
import Derived.Test.YtbinedhgjmfceaaBx
namespace Go.Proofs.Ytbinedhgjmfceaa
open Go.ChangeShapes Go.WideShapes Go.ChangeAt Go.RowKit

structure RfIs (w : World) (base q : Nat) (bv : Value) (B : List Int) (a d m : Nat) : Prop where
  box : w.heap[q]? = some (.cells #[bv, .int .i64 a, .int .i64 d, .int .i64 m] 69 (0, 0))
  row : w.ownsRow base 5 1 bv B.length (B.map (Value.int .u8))
  ne : ∀ g, bv.ownBlock = some g → g ≠ q
  le : base ≤ q
  bytes : Bytes B
  most : B.length ≤ 2048
  mvs : m ≤ 100000

def rfS (q : Nat) (bv : Value) : Nat → Prop := fun k => k = q ∨ bv.ownBlock = some k

theorem RfIs.lt {w : World} {base q : Nat} {bv : Value} {B : List Int} {a d m : Nat} (h : RfIs w base q bv B a d m) : q < w.heap.size := (Array.getElem?_eq_some_iff.1 h.box).1
theorem RfIs.kept {w w' : World} {base q : Nat} {bv : Value} {B : List Int} {a d m : Nat} {S : Nat → Prop} (h : RfIs w base q bv B a d m) (k : Kept S w w') (hs : ∀ i, rfS q bv i → ¬ S i) : RfIs w' base q bv B a d m :=
  ⟨by rw [k.block q h.lt (hs q (.inl rfl))]; exact h.box, Kept.owns h.row k (fun g hg => hs g (.inr hg)), h.ne, h.le, h.bytes, h.most, h.mvs⟩
theorem RfIs.below {w w' : World} {base q : Nat} {bv : Value} {B : List Int} {a d m : Nat} (h : RfIs w base q bv B a d m) (k : Below w.heap.size w w') : RfIs w' base q bv B a d m :=
  h.kept (Kept.of_below (S := fun _ => False) k) (fun _ _ h => h)
theorem RfIs.dr {w w' : World} {base q : Nat} {bv : Value} {B : List Int} {a d m : Nat} (h : RfIs w base q bv B a d m) (k : Dr w w') : RfIs w' base q bv B a d m := h.below (k.below _)
theorem RfIs.cells {w : World} {base q : Nat} {bv : Value} {B : List Int} {a d m : Nat} (h : RfIs w base q bv B a d m) :
    w.cell? ⟨q, 0, none⟩ = some bv ∧ w.cell? ⟨q, 1, none⟩ = some (.int .i64 a) ∧ w.cell? ⟨q, 2, none⟩ = some (.int .i64 d) ∧ w.cell? ⟨q, 3, none⟩ = some (.int .i64 m) ∧
    w.frozen? ⟨q, 0, none⟩ = false ∧ w.frozen? ⟨q, 1, none⟩ = false ∧ w.frozen? ⟨q, 2, none⟩ = false ∧ w.frozen? ⟨q, 3, none⟩ = false :=
  ⟨cell_of_row w q 0 _ _ _ h.box, cell_of_row w q 1 _ _ _ h.box, cell_of_row w q 2 _ _ _ h.box, cell_of_row w q 3 _ _ _ h.box, frozen_of_row w q 0 _ _ h.box, frozen_of_row w q 1 _ _ h.box, frozen_of_row w q 2 _ _ h.box, frozen_of_row w q 3 _ _ h.box⟩
/-- Its bytes as a slice. -/
theorem RfIs.bs {w : World} {base q : Nat} {bv : Value} {B : List Int} {a d m : Nat} (h : RfIs w base q bv B a d m) : ∃ x c, bv = .slice x B.length c ∧ Bs w x B ∧ (x = none → c = 0) :=
  bs_own h.row h.bytes (by have := h.most; omega)
theorem RfIs.above {w : World} {base q : Nat} {bv : Value} {B : List Int} {a d m : Nat} (h : RfIs w base q bv B a d m) {k : Nat} (hk : rfS q bv k) : base ≤ k ∧ k < w.heap.size := by
  rcases hk with rfl | e
  · exact ⟨h.le, h.lt⟩
  · exact h.row.lt k e

set_option maxHeartbeats 400000 in
theorem rnew_long (a : Option Addr) (n c : Nat) (x y : Int) (w : World) (hl : n ≤ 140737488355328) (h : 2048 < n) :
    Calls Try.prog 48 #[.slice a n c, .int .i64 x, .int .i64 y] w fun e w' => e = .returned (.tuple #[.pointer none, .int .i64 5]) ∧ w = w' := by
  go_enter Try.func48, Try.ntmps48
  go_wp2_with fail
  go_ret2
  exact ⟨rfl, rfl⟩

set_option maxHeartbeats 400000 in
theorem rnew_bad (a : Option Addr) (n c : Nat) (x y : Int) (w : World) (h : n ≤ 2048) (hr : (isR x && isR y) = false) :
    Calls Try.prog 48 #[.slice a n c, .int .i64 x, .int .i64 y] w fun e w' => e = .returned (.tuple #[.pointer none, .int .i64 2]) ∧ w = w' := by
  have hr' : ¬ (0 ≤ x ∧ x ≤ 256 ∧ 0 ≤ y ∧ y ≤ 256) := by
    rintro ⟨h1, h2, h3, h4⟩
    simp [isR] at hr
    have := hr h1 h2 h3
    omega
  clear hr
  by_cases h1 : x < 0
  · go_enter Try.func48, Try.ntmps48
    go_wp2_with fail
    go_ret2
    exact ⟨rfl, rfl⟩
  · by_cases h2 : x > 256
    · go_enter Try.func48, Try.ntmps48
      go_wp2_with fail
      go_ret2
      exact ⟨rfl, rfl⟩
    · by_cases h3 : y < 0
      · go_enter Try.func48, Try.ntmps48
        go_wp2_with fail
        go_ret2
        exact ⟨rfl, rfl⟩
      · have h4 : y > 256 := by omega
        go_enter Try.func48, Try.ntmps48
        go_wp2_with fail
        go_ret2
        exact ⟨rfl, rfl⟩

set_option maxHeartbeats 400000 in
theorem rnew_ok (a : Option Addr) (c : Nat) (zs : List Int) (x y : Nat) (w : World) (hB : Bs w a zs) (ha : a = none → c = 0) (h : zs.length ≤ 2048) (hx : x ≤ 256) (hy : y ≤ 256) :
    Calls Try.prog 48 #[.slice a zs.length c, .int .i64 x, .int .i64 y] w fun e w' => ∃ q bv, e = .returned (.tuple #[.pointer (some ⟨q, 0, none⟩), .int .i64 0]) ∧ RfIs w' w.heap.size q bv zs x y 0 ∧ Below w.heap.size w w' := by
  obtain ⟨n, hn⟩ : ∃ n, n = zs.length := ⟨_, rfl⟩
  have HN := Hid.mk' hn.symm
  have HB := Hid.mk' hB
  have HA := Hid.mk' ha
  rw [← hn] at h ⊢
  clear hn hB ha
  go_enter Try.func48, Try.ntmps48
  go_wp2_with fail
  refine (copy_at a n c zs w HN.out HB.out HA.out).mono ?_
  rintro e w1 ⟨v, rfl, hown, b1⟩
  obtain ⟨av, cv, rfl⟩ := own_slice hown
  have HX : Hid (RfIs (w1.alloc (.cells #[.slice av n cv, .int .i64 x, .int .i64 y, .int .i64 0] 69)) w.heap.size w1.heap.size (.slice av n cv) zs x y 0) :=
    ⟨Go.heap_alloc_new w1 _, by rw [HN.out]; exact hown.alloc _, fun g hg e => by have := (hown.lt g hg).2; omega, b1.size, HB.out.bytes, by rw [HN.out]; exact h, by omega⟩
  have HL : Hid (Below w.heap.size w (w1.alloc (.cells #[.slice av n cv, .int .i64 x, .int .i64 y, .int .i64 0] 69))) := b1.alloc b1.size _
  clear hown b1
  go_wp2_with fail
  go_ret2
  exact ⟨_, _, rfl, HX.out, HL.out⟩

set_option maxHeartbeats 400000 in
theorem rmay_any (base q : Nat) (bv : Value) (B : List Int) (a d m : Nat) (n : Int) (w : World) (h : RfIs w base q bv B a d m) :
    Calls Try.prog 56 #[.pointer (some ⟨q, 0, none⟩), .int .i64 n] w fun x w' => x = .returned (.int .i64 (mayE B.length n)) ∧ w = w' := by
  obtain ⟨x, c, rfl, _, _⟩ := h.bs
  have q0 := h.cells.1
  have hb := h.most
  clear h
  unfold mayE
  by_cases h1 : n > 2048 - (B.length : Int)
  · rw [if_pos h1]
    go_enter Try.func56, Try.ntmps56
    go_wp2_with fail
    go_ret
    exact ⟨rfl, rfl⟩
  · rw [if_neg h1]
    by_cases h2 : n < -(B.length : Int)
    · rw [if_pos h2]
      go_enter Try.func56, Try.ntmps56
      go_wp2_with fail
      go_ret
      exact ⟨rfl, rfl⟩
    · rw [if_neg h2]
      go_enter Try.func56, Try.ntmps56
      go_wp2_with fail
      go_ret
      exact ⟨rfl, rfl⟩

set_option maxHeartbeats 400000 in
theorem rask_any (base q : Nat) (bv : Value) (B : List Int) (a d m : Nat) (x k : Int) (w : World) (h : RfIs w base q bv B a d m) :
    Calls Try.prog 62 #[.pointer (some ⟨q, 0, none⟩), .int .i64 x, .int .i64 k] w fun e w' => e = .returned (.int .i64 (askE B.length x k)) ∧ w = w' := by
  obtain ⟨y, c, rfl, _, _⟩ := h.bs
  have q0 := h.cells.1
  have hb := h.most
  clear h
  unfold askE
  by_cases h1 : k < 1 ∨ k > 8
  · rw [if_pos h1]
    rcases h1 with h1 | h1
    · go_enter Try.func62, Try.ntmps62
      go_wp2_with fail
      go_ret
      exact ⟨rfl, rfl⟩
    · go_enter Try.func62, Try.ntmps62
      go_wp2_with fail
      go_ret
      exact ⟨rfl, rfl⟩
  · rw [if_neg h1]
    by_cases h2 : x < 0
    · rw [if_pos (.inl h2)]
      go_enter Try.func62, Try.ntmps62
      go_wp2_with fail
      go_ret
      exact ⟨rfl, rfl⟩
    · by_cases h3 : k > (B.length : Int) - x
      · rw [if_pos (.inr h3)]
        go_enter Try.func62, Try.ntmps62
        go_wp2_with fail
        go_ret
        exact ⟨rfl, rfl⟩
      · rw [if_neg (by omega)]
        go_enter Try.func62, Try.ntmps62
        go_wp2_with fail
        go_ret
        exact ⟨rfl, rfl⟩

set_option maxHeartbeats 400000 in
theorem rload_any (base q : Nat) (bv : Value) (B : List Int) (a d m : Nat) (x k : Int) (w : World) (h : RfIs w base q bv B a d m) :
    Calls Try.prog 49 #[.pointer (some ⟨q, 0, none⟩), .int .i64 x, .int .i64 k] w fun e w' => e = .returned (.tuple #[.int .u64 (ldE B x k), .int .i64 (askE B.length x k)]) ∧ Dr w w' := by
  have key := rask_any base q bv B a d m x k w h
  unfold ldE
  by_cases he : askE B.length x k = 0
  · rw [if_pos he]
    rw [he] at key ⊢
    obtain ⟨h1, h2, h3, h4⟩ := ask_zero.1 he
    obtain ⟨x', rfl⟩ : ∃ t : Nat, x = t := ⟨x.toNat, by omega⟩
    obtain ⟨k', rfl⟩ : ∃ t : Nat, k = t := ⟨k.toNat, by omega⟩
    rw [Int.toNat_natCast, Int.toNat_natCast]
    clear he
    obtain ⟨xa, c, rfl, hbs, _⟩ := h.bs
    obtain ⟨g, hg, hc⟩ : ∃ p : Nat × Nat, xa = some ⟨p.1, p.2, none⟩ ∧ ∀ i, i < B.length → w.cell? ⟨p.1, p.2 + i, none⟩ = some (.int .u8 (B.getD i 0)) := by
      rcases hbs.lies with h0 | ⟨b, off, e, hc⟩
      · omega
      · exact ⟨(b, off), e, hc⟩
    obtain ⟨g, off⟩ := g
    simp only at hg hc
    subst hg
    have q0 := h.cells.1
    have hmost := h.most
    have HB := Hid.mk' h.bytes
    have HC := Hid.mk' hc
    clear h hbs hc
    go_enter Try.func49, Try.ntmps49
    go_wp2_with fail
    refine key.mono ?_
    rintro e w1 ⟨rfl, rfl⟩
    clear key
    go_wp2_with fail
    go_loopw [9, 10] (fun v i wr => ∃ j : Nat, j ≤ k' ∧ i = .int .i64 j ∧ v = .int .u64 (ldV B x' j) ∧ Hid (Dr w wr)) (fun _ i _ => k' - (intOf i).toNat)
    case atStart => exact ⟨0, Nat.zero_le _, rfl, by rw [ldV_zero], Dr.refl _⟩
    case round =>
      obtain ⟨j, hj, rfl, rfl, hd⟩ := hrel
      by_cases hlt : j < k'
      · have cc := (hd.out.cell _).trans (HC.out (x' + j) (by omega))
        have cq := (hd.out.cell _).trans q0
        have hs := ldV_succ B x' j (by omega)
        have hv := ldV_lt B x' j HB.out (by omega)
        have hbb := HB.out.getD (x' + j)
        have hp7 : (256 : Int) ^ j ≤ 72057594037927936 := by
          have : (256 : Nat) ^ j ≤ 256 ^ 7 := Nat.pow_le_pow_right (by omega) (by omega)
          have e : (256 : Nat) ^ 7 = 72057594037927936 := by decide
          have c : ((256 ^ j : Nat) : Int) = (256 : Int) ^ j := by simp
          omega
        have HS := Hid.mk' hs
        clear hs
        generalize B.getD (x' + j) 0 = b at *
        generalize ldV B x' j = V at *
        have hv0 : 0 ≤ V := hv.1
        have hv1 : V ≤ 72057594037927935 := by omega
        have hb0 : 0 ≤ b := hbb.1
        have hb1 : b ≤ 255 := hbb.2
        clear hv hbb hp7
        have hsp : (x' : Int) + (j : Int) < (B.length : Int) := by omega
        have hsp2 : (j : Int) < (k' : Int) := by omega
        go_wp2_with fail
        go_roundw
        case rel =>
          refine ⟨j + 1, hlt, by go_num, ?_, hd⟩
          rw [HS.out]
        case measure => simp [intOf]; omega
      · obtain rfl : j = k' := by omega
        go_wp2_with fail
        go_ret2
        exact ⟨rfl, hd.out⟩
  · rw [if_neg he]
    have hne : (askE B.length x k != 0) = true := by simpa using he
    clear he h
    generalize askE B.length x k = E at *
    go_enter Try.func49, Try.ntmps49
    go_wp2_with fail
    refine key.mono ?_
    rintro e w1 ⟨rfl, rfl⟩
    clear key
    go_wp2_with fail
    go_ret2
    exact ⟨rfl, Dr.refl _⟩
end Go.Proofs.Ytbinedhgjmfceaa
