/- The walk of WrapRoom. -/
import Derived.Test.YtednmdkjhiihcaaGreatRt
import Derived.Test.YtednmdkjhiihcaaGreatRk
import Derived.Test.YtednmdkjhiihcaaGreatQ2
import Derived.Test.YtednmdkjhiihcaaGreatSq
namespace Go.Proofs.YtednmdkjhiihcaaGreat
open Go.ChangeShapes Go.WideShapes Go.ChangeAt Go.RowKit
set_option maxRecDepth 10000

theorem brg257 (r : Int) (w : World) (h0 : -9223372036854775808 ≤ r) (h1 : r ≤ 9223372036854775807) :
    Calls Tryz.prog 42 #[.int .i64 r, .int .i64 257] w fun e w' => e = .returned (.int .i64 (brg r 257)) ∧ w = w' := brg_any r 257 w (by omega) (by omega) h0 h1

theorem new_at (a : Option Addr) (c : Nat) (zs : List Int) (x y : Nat) (w : World) (hB : Bs w a zs) (h : zs.length ≤ 2048) (hx : x ≤ 256) (hy : y ≤ 256) :
    Calls Tryz.prog 21 #[.slice a zs.length c, .int .i64 x, .int .i64 y] w fun e w' => e = .returned (.tuple #[.pointer (some ⟨w.heap.size, 0, none⟩), .int .i64 0]) ∧ PkIs w' w.heap.size (w.heap.size + 1) (List.replicate x 0) zs (List.replicate y 0) 0 ∧ Below w.heap.size w w' := by
  refine new_ok a c zs x y w hB h hx hy (fun b hb => ?_)
  rcases hB.lies with h0 | ⟨b', off, e, hc⟩
  · exact .inr h0
  · by_cases h0 : zs.length = 0
    · exact .inr h0
    · rw [hb] at e; cases e
      exact .inl (lt_of_cell (hc 0 (by omega)))


/-- What is to be done, as it lies among what came in. -/
theorem do12 {W : World} {a : Option Addr} {c : Nat} {xs : List sh70.M} (h : SlOk sh70 W a c xs) (i : Nat) (hi : i < xs.length) :
    ∃ (b off : Nat) (o : Bool) (k : Int) (H : List Value), a = some ⟨b, off, none⟩ ∧ W.cell? ⟨b, off + i * 75, none⟩ = some (.bool o) ∧ W.cell? ⟨b, off + i * 75 + 1, none⟩ = some (.int .u8 k) ∧ W.rangeAt b (off + i * 75 + 2) H ∧ b < W.heap.size ∧ Hh H ∧ 0 ≤ k ∧ k ≤ 255 := by
  obtain ⟨_, h2, h3⟩ := h
  rcases h2 with h0 | ⟨b, off, rfl, hc⟩
  · exact absurd hi (by rw [show xs.length = 0 from h0]; omega)
  · have hx : xs[i]? = some xs[i] := List.getElem?_eq_getElem hi
    generalize xs[i] = m at hx
    obtain ⟨o, k, m⟩ := m
    have q := hc i (o, k, m) hx
    have c0 := q 0 (.bool o) rfl
    have ok := h3 (o, k, m) (List.mem_of_getElem? hx)
    refine ⟨b, off, o, k, sh46.cs m, rfl, c0, q 1 (.int .u8 k) rfl, fun j v hv => ?_, lt_of_cell c0, whh_open W m ok.2.2, (bounds_u8 ok.2.1).1, (bounds_u8 ok.2.1).2⟩
    have := q (j + 2) v hv
    rw [show off + i * 75 + 2 + j = off + i * 75 + (j + 2) by omega]
    exact this

theorem q2_on {W : World} {S : Nat → Prop} {w : World} {p q : Nat} {B B' : List Int} {m m' : Nat} (H : List Value) (h : Q2 W S w p q B m B' m') (hH : Hh H) (hm : m + 1 ≤ 100000) :
    Calls Tryz.prog 12 #[.pointer (some ⟨p, 0, none⟩), .agg H.toArray] w fun e w' => e = .returned (.int .i64 (puE H B)) ∧ Q2 W S w' p q (onB H B) (onM H B m) B' m' := by
  obtain ⟨g, A, D, g', A', D', h1, h2, h3, h4, h5⟩ := h.is
  exact (on_any p g A B D m H w h1 hH hm).mono fun e w' ⟨k1, g2, A2, D2, k2, k5, k6⟩ => ⟨k1, Q2.left h2 h3 h4 h5 h.low h.old h1 k2 k5 k6⟩
theorem q2_off {W : World} {S : Nat → Prop} {w : World} {p q : Nat} {B B' : List Int} {m m' : Nat} (k : Int) (h : Q2 W S w p q B m B' m') (k0 : 0 ≤ k) (k1 : k ≤ 255) (hm : m + 1 ≤ 100000) :
    Calls Tryz.prog 13 #[.pointer (some ⟨p, 0, none⟩), .int .u8 k] w fun e w' => e = .returned (.tuple #[.agg (poH k B).toArray, .int .i64 (poE k B)]) ∧ Q2 W S w' p q (ofB k B) (ofM k B m) B' m' := by
  obtain ⟨g, A, D, g', A', D', h1, h2, h3, h4, h5⟩ := h.is
  exact (off_any p g A B D m k w h1 k0 k1 hm).mono fun e w' ⟨k1, g2, A2, D2, k2, k5, k6⟩ => ⟨k1, Q2.left h2 h3 h4 h5 h.low h.old h1 k2 k5 k6⟩
theorem onM_le (H : List Value) (B : List Int) (m : Nat) : onM H B m ≤ m + 1 := by unfold onM; split <;> omega
theorem ofM_le (k : Int) (B : List Int) (m : Nat) : ofM k B m ≤ m + 1 := by unfold ofM; split <;> omega
theorem same_bytes (a b : Option Addr) (n c d : Nat) (zs : List Int) (w : World) (hn : zs.length = n) (hx : Bs w a zs) (hy : Bs w b zs) :
    Calls Tryz.prog 9 #[.slice a n c, .slice b n d] w fun e w' => e = .returned (.bool true) ∧ Dr w w' := by
  have := eq_at a b n n c d zs zs w hn hn hx hy
  rwa [show decide (zs = zs) = true by simp] at this

end Go.Proofs.YtednmdkjhiihcaaGreat
