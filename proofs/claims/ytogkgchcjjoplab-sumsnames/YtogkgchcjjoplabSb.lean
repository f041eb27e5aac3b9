/- Slices of bytes as the contracts take them; the contracts of sums.shiftAt, Sum, Field, Diff. They only read: the world behind them is the world ahead, but for draws. -/
import Derived.Test.YtogkgchcjjoplabSa
import Derived.Deep.QuietTactic
import Derived.BigQuiet
namespace Go.Proofs.Ytogkgchcjjoplab
open Go.ChangeShapes Go.WideShapes Go.ChangeAt Go.RowKit

/-- A slice of bytes that can be read: its elements are 'zs'; where there is one, its address and its cells are known. -/
structure Bs (w : World) (a : Option Addr) (zs : List Int) : Prop where
  len : zs.length ≤ 140737488355328
  bytes : Bytes zs
  lies : zs.length = 0 ∨ ∃ b off, a = some ⟨b, off, none⟩ ∧ ∀ i, i < zs.length → w.cell? ⟨b, off + i, none⟩ = some (.int .u8 (zs.getD i 0))

set_option maxHeartbeats 400000 in
theorem shift_even (k : Nat) (w : World) (hk : k ≤ 140737488355328) (h : k % 2 = 0) :
    Calls Try.prog 12 #[.int .i64 k] w fun e w' => e = .returned (.int .i64 8) ∧ w' = w := by
  have h' : ((k : Int) % 2 == 0) = true := by simp; omega
  go_enter Try.func12, Try.ntmps12
  go_wp2_with fail
  go_ret
  exact ⟨rfl, rfl⟩

set_option maxHeartbeats 400000 in
theorem shift_odd (k : Nat) (w : World) (hk : k ≤ 140737488355328) (h : ¬ k % 2 = 0) :
    Calls Try.prog 12 #[.int .i64 k] w fun e w' => e = .returned (.int .i64 0) ∧ w' = w := by
  have h' : ((k : Int) % 2 == 0) = false := by simp; omega
  go_enter Try.func12, Try.ntmps12
  go_wp2_with fail
  go_ret
  exact ⟨rfl, rfl⟩

/-- The world has at most drawn. -/
def Dr (w w' : World) : Prop := ∃ n, w' = w.drewN n
theorem Dr.refl (w : World) : Dr w w := ⟨0, rfl⟩
theorem Dr.trans {a b c : World} (h : Dr a b) (k : Dr b c) : Dr a c := by
  obtain ⟨n, rfl⟩ := h; obtain ⟨m, rfl⟩ := k; exact ⟨n + m, World.drewN_drewN _ _ _⟩
theorem Dr.more {a b : World} (h : Dr a b) (n : Nat) : Dr a (b.drewN n) := h.trans ⟨n, rfl⟩
theorem Dr.cell {a b : World} (h : Dr a b) (p : Addr) : b.cell? p = a.cell? p := by
  obtain ⟨n, rfl⟩ := h; simp

set_option maxHeartbeats 1000000 in
theorem sum_any (a : Option Addr) (cap : Nat) (zs : List Int) (w : World) (hB : Bs w a zs) :
    Calls Try.prog 5 #[.slice a zs.length cap] w fun e w' => e = .returned (.int .u16 (su zs zs.length)) ∧ Dr w w' := by
  obtain ⟨hl, hby, hat⟩ := hB
  go_enter Try.func5, Try.ntmps5
  go_wp2_with fail
  go_loopw [3, 7] (fun t i wr => ∃ k : Nat, k ≤ zs.length ∧ i = .int .i64 k ∧ t = .int .u64 (tot zs k) ∧ Dr w wr) (fun _ i _ => zs.length - (intOf i).toNat)
  case atStart => exact ⟨0, Nat.zero_le _, rfl, rfl, Dr.refl w⟩
  case round =>
    obtain ⟨k, hk, rfl, rfl, hdr⟩ := hrel
    have tb := tot_bd hby k
    by_cases hlt : k < zs.length
    · rcases hat with h0 | ⟨b, off, rfl, hcell⟩
      · omega
      have hc := (hdr.cell _).trans (hcell k hlt)
      have hbk := hby.getD k
      generalize hz : zs.getD k 0 = z at hc hbk
      have HT : Hid (tot zs (k + 1) = tot zs k + z * wt k) := by
        show tot zs k + zs.getD k 0 * wt k = _
        rw [hz]
      clear hz hcell
      have hsp : (k : Int) < (zs.length : Int) := by omega
      by_cases hev : k % 2 = 0
      · rw [wt_even k hev] at HT
        go_wp2_with fail
        go_quiet ((go_at_call 12; exact Calls.quiet_of_same (shift_even k _ (by omega) hev)))
        go_wp2_with fail
        go_roundw
        case rel => exact ⟨k + 1, hlt, by go_num, by rw [HT.out], hdr.more _⟩
        case measure => simp [intOf]; omega
      · rw [wt_odd k hev] at HT
        go_wp2_with fail
        go_quiet ((go_at_call 12; exact Calls.quiet_of_same (shift_odd k _ (by omega) hev)))
        go_wp2_with fail
        go_roundw
        case rel => exact ⟨k + 1, hlt, by go_num, by rw [HT.out, Int.mul_one], hdr.more _⟩
        case measure => simp [intOf]; omega
    · have hkz : k = zs.length := by omega
      subst hkz
      go_wp2_with fail
      refine (fold_any _ _ (by omega) (by omega)).mono ?_
      rintro e w' ⟨rfl, rfl⟩
      go_wp2_with fail
      go_ret
      exact ⟨rfl, hdr⟩

theorem Dr.bs {a b : World} (h : Dr a b) {p : Option Addr} {zs : List Int} (hb : Bs a p zs) : Bs b p zs :=
  ⟨hb.len, hb.bytes, match hb.lies with
    | .inl k => .inl k
    | .inr ⟨x, o, e, hc⟩ => .inr ⟨x, o, e, fun i hi => (h.cell _).trans (hc i hi)⟩⟩

theorem lt_of_cell {w : World} {a : Addr} {v : Value} (h : w.cell? a = some v) : a.block < w.heap.size := by
  simp only [World.cell?] at h
  split at h
  · rename_i h1; exact (Array.getElem?_eq_some_iff.1 h1).1
  · cases h

theorem Dr.below {a b : World} (h : Dr a b) (B : Nat) : Below B a b := by
  obtain ⟨n, rfl⟩ := h
  exact ⟨rfl, rfl, rfl, Nat.le_refl _, fun _ _ => rfl⟩

/-- A slice that can be read can be read in every world that keeps the old blocks. -/
theorem Bs.below {w w' : World} {p : Option Addr} {zs : List Int} (hb : Bs w p zs) (h : Below w.heap.size w w') : Bs w' p zs :=
  ⟨hb.len, hb.bytes, match hb.lies with
    | .inl k => .inl k
    | .inr ⟨x, o, e, hc⟩ => .inr ⟨x, o, e, fun i hi => (h.cell (lt_of_cell (hc i hi))).trans (hc i hi)⟩⟩

/-- A new row of bytes. -/
theorem bs_new (w : World) (zs : List Int) (t : TypeId) (h : Bytes zs) (hl : zs.length ≤ 140737488355328) :
    Bs (w.alloc (.cells (zs.map (Value.int .u8)).toArray t)) (some ⟨w.heap.size, 0, none⟩) zs :=
  ⟨hl, h, .inr ⟨_, _, rfl, fun i hi => by
    rw [World.cell?_alloc_new]
    simp [hi]⟩⟩

set_option maxHeartbeats 400000 in
theorem field_any (a : Option Addr) (cap : Nat) (zs : List Int) (w : World) (hB : Bs w a zs) :
    Calls Try.prog 6 #[.slice a zs.length cap] w fun e w' => e = .returned (.int .u16 (65535 - su zs zs.length)) ∧ Dr w w' := by
  have hr := su_range zs zs.length
  go_enter Try.func6, Try.ntmps6
  go_wp2_with fail
  refine (sum_any a cap zs _ hB).mono ?_
  rintro e w' ⟨rfl, hd⟩
  go_wp2_with fail
  go_ret
  exact ⟨rfl, hd⟩

set_option maxHeartbeats 400000 in
theorem diff_bad (a b : Option Addr) (ca cb : Nat) (n m : Nat) (w : World) (hn : n ≤ 140737488355328) (hm : m ≤ 140737488355328) (h : ¬ (n = m ∧ n % 2 = 0)) :
    Calls Try.prog 4 #[.slice a n ca, .slice b m cb] w fun e w' => e = .returned (.tuple #[.int .u16 0, .int .i64 2]) ∧ Dr w w' := by
  by_cases hnm : n = m
  · subst hnm
    have h1 : ((n : Int) != n) = false := by simp
    have h2 : ((n : Int) % 2 != 0) = true := by simp; omega
    go_enter Try.func4, Try.ntmps4
    go_wp2_with fail
    go_ret2
    exact ⟨rfl, Dr.refl w⟩
  · have h1 : ((n : Int) != m) = true := by simp; omega
    go_enter Try.func4, Try.ntmps4
    go_wp2_with fail
    go_ret2
    exact ⟨rfl, Dr.refl w⟩

set_option maxHeartbeats 400000 in
theorem diff_good (a b : Option Addr) (ca cb : Nat) (xs ys : List Int) (w : World) (hx : Bs w a xs) (hy : Bs w b ys) (n : Nat) (hn : xs.length = n) (hm : ys.length = n) (h : n % 2 = 0) :
    Calls Try.prog 4 #[.slice a n ca, .slice b n cb] w fun e w' => e = .returned (.tuple #[.int .u16 (fo (su ys n + (65535 - su xs n))), .int .i64 0]) ∧ Dr w w' := by
  have h0 := hx.len
  have h1 : ((n : Int) != n) = false := by simp
  have h2 : ((n : Int) % 2 != 0) = false := by simp; omega
  have r1 := su_range xs n
  have r2 := su_range ys n
  have H1 : Hid (xs.length = n) := hn
  have H2 : Hid (ys.length = n) := hm
  clear hn hm
  go_enter Try.func4, Try.ntmps4
  go_wp2_with fail
  have c1 := sum_any b cb ys w hy
  rw [H2.out] at c1
  refine c1.mono ?_
  rintro e w1 ⟨rfl, hd1⟩
  go_wp2_with fail
  have c2 := sum_any a ca xs w1 (hd1.bs hx)
  rw [H1.out] at c2
  refine c2.mono ?_
  rintro e w2 ⟨rfl, hd2⟩
  go_wp2_with fail
  refine (sub_any _ _ _ r2.1 r2.2 r1.1 r1.2).mono ?_
  rintro e w3 ⟨rfl, rfl⟩
  go_wp2_with fail
  go_ret2
  exact ⟨rfl, hd1.trans hd2⟩
end Go.Proofs.Ytogkgchcjjoplab
