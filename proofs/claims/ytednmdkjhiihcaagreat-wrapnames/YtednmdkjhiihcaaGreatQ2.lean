/- Several texts in one (Pm Pr). -/
import Derived.Test.YtednmdkjhiihcaaGreatQ1
import Derived.Test.YtednmdkjhiihcaaGreatSp
import Derived.Test.YtednmdkjhiihcaaGreatBi
import Derived.Deep.CutRange
import Derived.Deep.CutBlock
import Derived.Deep.RegionWith
namespace Go.Proofs.YtednmdkjhiihcaaGreat
open Go.ChangeShapes Go.WideShapes Go.ChangeAt Go.RowKit

/-- A packet at block p that was made since world W: its bytes, its room, its moves. -/
structure Pw (W w : World) (p : Nat) (B : List Int) (a d m : Nat) : Prop where
  is : ∃ g A D, PkIs w p g A B D m ∧ A.length = a ∧ D.length = d
  le : W.heap.size ≤ p
  old : Below W.heap.size W w

theorem Pw.below {W w w' : World} {p : Nat} {B : List Int} {a d m : Nat} (h : Pw W w p B a d m) (b : Below w.heap.size w w') : Pw W w' p B a d m := by
  obtain ⟨g, A, D, h1, h2, h3⟩ := h.is
  exact ⟨⟨g, A, D, h1.below b, h2, h3⟩, h.le, h.old.trans (b.mono h.old.size)⟩

theorem Pw.dr {W w w' : World} {p : Nat} {B : List Int} {a d m : Nat} (h : Pw W w p B a d m) (b : Dr w w') : Pw W w' p B a d m := h.below (b.below _)

theorem Pw.most {W w : World} {p : Nat} {B : List Int} {a d m : Nat} (h : Pw W w p B a d m) : B.length ≤ 2048 := by
  obtain ⟨g, A, D, h1, h2, h3⟩ := h.is
  exact h1.most

theorem Pw.bytes {W w : World} {p : Nat} {B : List Int} {a d m : Nat} (h : Pw W w p B a d m) : Bytes B := by
  obtain ⟨g, A, D, h1, h2, h3⟩ := h.is
  exact h1.bytes.mid.2.1

theorem Pw.mvs {W w : World} {p : Nat} {B : List Int} {a d m : Nat} (h : Pw W w p B a d m) : m ≤ 100000 := by
  obtain ⟨g, A, D, h1, h2, h3⟩ := h.is
  exact h1.mvs

theorem Pw.moved {W w w' : World} {p g : Nat} {A B D B' : List Int} {m a' d' m' : Nat} (h : PkIs w p g A B D m) (le : W.heap.size ≤ p) (old : Below W.heap.size W w) (k : Moved w w' p g B' a' d' m') : Pw W w' p B' a' d' m' := by
  obtain ⟨g', A', D', h1, h2, h3, h4, _⟩ := k
  refine ⟨⟨g', A', D', h1, h2, h3⟩, le, old.trans (h4.below old.size (fun k hk e => ?_))⟩
  have := h.lt
  rcases e with e | e <;> omega

theorem pw_head {W w : World} {p : Nat} {B : List Int} {a d m : Nat} (n : Int) (h : Pw W w p B a d m) (hm : m + 1 ≤ 100000) :
    Calls Tryz.prog 34 #[.pointer (some ⟨p, 0, none⟩), .int .i64 n] w fun e w' => e = .returned (.int .i64 (mayE B.length n)) ∧ Pw W w' p (hB n B) (hA B.length n a) (hD B.length n a d) (mM B.length n m) := by
  obtain ⟨g, A, D, h1, rfl, rfl⟩ := h.is
  exact (head_any p g A B D m n w h1 hm).mono fun e w' ⟨k1, k2⟩ => ⟨k1, Pw.moved h1 h.le h.old k2⟩

theorem pw_load {W w : World} {p : Nat} {B : List Int} {a d m : Nat} (x k : Int) (h : Pw W w p B a d m) (hx : -9223372036854775808 ≤ x) (hx' : x ≤ 9223372036854775807) :
    Calls Tryz.prog 50 #[.pointer (some ⟨p, 0, none⟩), .int .i64 x, .int .i64 k] w fun e w' => e = .returned (.tuple #[.int .u64 (ldE B x k), .int .i64 (askE B.length x k)]) ∧ Dr w w' := by
  obtain ⟨g, A, D, h1, rfl, rfl⟩ := h.is
  exact load_any p g A B D m x k w h1 hx hx'

theorem pw_bytes {W w : World} {p : Nat} {B : List Int} {a d m : Nat} (h : Pw W w p B a d m) :
    Calls Tryz.prog 22 #[.pointer (some ⟨p, 0, none⟩)] w fun e w' => ∃ v, e = .returned v ∧ w'.ownsRow w.heap.size 5 1 v B.length (B.map (Value.int .u8)) ∧ Below w.heap.size w w' := by
  obtain ⟨g, A, D, h1, rfl, rfl⟩ := h.is
  exact bytes_any p g A B D m w h1

theorem pw_len {W w : World} {p : Nat} {B : List Int} {a d m : Nat} (h : Pw W w p B a d m) :
    Calls Tryz.prog 111 #[.pointer (some ⟨p, 0, none⟩)] w fun e w' => e = .returned (.int .i64 (B.length : Int)) ∧ Dr w w' := by
  obtain ⟨g, A, D, h1, rfl, rfl⟩ := h.is
  exact len_any p g A B D m w h1

theorem pw_moves {W w : World} {p : Nat} {B : List Int} {a d m : Nat} (h : Pw W w p B a d m) :
    Calls Tryz.prog 23 #[.pointer (some ⟨p, 0, none⟩)] w fun e w' => e = .returned (.int .i64 m) ∧ w = w' := by
  obtain ⟨g, A, D, h1, rfl, rfl⟩ := h.is
  exact moves_any p g A B D m w h1

theorem pw_new {W w : World} (a : Option Addr) (c : Nat) (zs : List Int) (x y : Nat) (hW : Below W.heap.size W w) (hB : Bs w a zs) (h : zs.length ≤ 2048) (hx : x ≤ 256) (hy : y ≤ 256) :
    Calls Tryz.prog 21 #[.slice a zs.length c, .int .i64 x, .int .i64 y] w fun e w' => e = .returned (.tuple #[.pointer (some ⟨w.heap.size, 0, none⟩), .int .i64 0]) ∧ Pw W w' w.heap.size zs x y 0 ∧ Below w.heap.size w w' := by
  refine (new_ok a c zs x y w hB h hx hy (fun b hb => ?_)).mono fun e w' ⟨k1, k2, k3⟩ => ⟨k1, ⟨⟨_, _, _, k2, by simp, by simp⟩, hW.size, hW.trans (k3.mono hW.size)⟩, k3⟩
  rcases hB.lies with h0 | ⟨b', off, e, hc⟩
  · exact .inr h0
  · by_cases h0 : zs.length = 0
    · exact .inr h0
    · rw [hb] at e; cases e
      exact .inl (lt_of_cell (hc 0 (by omega)))

/-- Two packets at blocks p and q, apart from each other and from the blocks in S, which are as they were in world W. -/
structure Q2 (W : World) (S : Nat → Prop) (w : World) (p q : Nat) (B : List Int) (m : Nat) (B' : List Int) (m' : Nat) : Prop where
  is : ∃ g A D h A' D', PkIs w p g A B D m ∧ PkIs w q h A' B' D' m' ∧ (∀ k, pkS p g k → ¬ pkS q h k) ∧ (∀ k, pkS p g k → ¬ S k) ∧ (∀ k, pkS q h k → ¬ S k)
  low : ∀ k, S k → k < W.heap.size
  old : Kept (fun k => ¬ S k) W w

theorem Q2.swap {W : World} {S : Nat → Prop} {w : World} {p q : Nat} {B B' : List Int} {m m' : Nat} (h : Q2 W S w p q B m B' m') : Q2 W S w q p B' m' B m := by
  obtain ⟨g, A, D, g', A', D', h1, h2, h3, h4, h5⟩ := h.is
  exact ⟨⟨g', A', D', g, A, D, h2, h1, fun k hk hk' => h3 k hk' hk, h5, h4⟩, h.low, h.old⟩

theorem Q2.below {W : World} {S : Nat → Prop} {w w' : World} {p q : Nat} {B B' : List Int} {m m' : Nat} (h : Q2 W S w p q B m B' m') (b : Below w.heap.size w w') : Q2 W S w' p q B m B' m' := by
  obtain ⟨g, A, D, g', A', D', h1, h2, h3⟩ := h.is
  exact ⟨⟨g, A, D, g', A', D', h1.below b, h2.below b, h3⟩, h.low, h.old.trans (Kept.of_below b)⟩

theorem Q2.dr {W : World} {S : Nat → Prop} {w w' : World} {p q : Nat} {B B' : List Int} {m m' : Nat} (h : Q2 W S w p q B m B' m') (b : Dr w w') : Q2 W S w' p q B m B' m' := h.below (b.below _)

theorem pk_lt {w : World} {p g : Nat} {A B D : List Int} {m : Nat} (h : PkIs w p g A B D m) {k : Nat} (hk : pkS p g k) : k < w.heap.size := by
  rcases hk with rfl | rfl
  · exact h.raw.lt
  · exact h.glt

theorem Q2.more {W : World} {S : Nat → Prop} {w w1 : World} {p q : Nat} {B B' : List Int} {m m' : Nat} (h : Q2 W S w p q B m B' m') (b : Below w.heap.size w w1) (T : Nat → Prop) (hT : ∀ k, T k → w.heap.size ≤ k ∧ k < w1.heap.size) : Q2 w1 (fun k => S k ∨ T k) w1 p q B m B' m' := by
  obtain ⟨g, A, D, g', A', D', h1, h2, h3, h4, h5⟩ := h.is
  refine ⟨⟨g, A, D, g', A', D', h1.below b, h2.below b, h3, fun k hk => ?_, fun k hk => ?_⟩, fun k hk => ?_, Kept.refl _ _⟩
  · rintro (e | e)
    · exact h4 k hk e
    · have := (hT k e).1; have := pk_lt h1 hk; omega
  · rintro (e | e)
    · exact h5 k hk e
    · have := (hT k e).1; have := pk_lt h2 hk; omega
  · rcases hk with e | e
    · have := h.low k e; have := h.old.size; have := b.size; omega
    · exact (hT k e).2

theorem Q2.less {W : World} {S T : Nat → Prop} {w w1 w2 : World} {p q : Nat} {B B' B2 B2' : List Int} {m m' m2 m2' : Nat} (h : Q2 W S w p q B m B' m') (b : Below w.heap.size w w1) (h2 : Q2 w1 (fun k => S k ∨ T k) w2 p q B2 m2 B2' m2') : Q2 W S w2 p q B2 m2 B2' m2' := by
  obtain ⟨g, A, D, g', A', D', k1, k2, k3, k4, k5⟩ := h2.is
  refine ⟨⟨g, A, D, g', A', D', k1, k2, k3, fun k hk e => k4 k hk (.inl e), fun k hk e => k5 k hk (.inl e)⟩, h.low, ?_⟩
  exact (h.old.trans (Kept.of_below b)).trans (h2.old.mono (fun k _ e1 e2 => e1 (.inl e2)))

theorem Q2.box {W1 : World} {S : Nat → Prop} {w2 : World} {p q : Nat} {B B' : List Int} {m m' bx : Nat} (h : Q2 W1 (fun i => S i ∨ i = bx) w2 p q B m B' m') {j : Nat} {v : Value} (hc : W1.cell? ⟨bx, j, none⟩ = some v) : w2.cell? ⟨bx, j, none⟩ = some v :=
  h.old.cell hc (fun e => e (.inr rfl))

theorem Q2.mvs {W : World} {S : Nat → Prop} {w : World} {p q : Nat} {B B' : List Int} {m m' : Nat} (h : Q2 W S w p q B m B' m') : B.length ≤ 2048 ∧ Bytes B := by
  obtain ⟨g, A, D, g', A', D', h1, h2, h3, h4, h5⟩ := h.is
  exact ⟨h1.most, h1.bytes.mid.2.1⟩

/-- The first of them has changed. -/
theorem Q2.left {W : World} {S : Nat → Prop} {w w' : World} {p q g g2 h : Nat} {A B D A2 B2 D2 A' B' D' : List Int} {m m2 m' : Nat} (h1 : PkIs w q h A' B' D' m') (h3 : ∀ k, pkS p g k → ¬ pkS q h k) (h4 : ∀ k, pkS p g k → ¬ S k) (h5 : ∀ k, pkS q h k → ¬ S k) (low : ∀ k, S k → k < W.heap.size) (old : Kept (fun k => ¬ S k) W w) (_h0 : PkIs w p g A B D m)
    (k1 : PkIs w' p g2 A2 B2 D2 m2) (k2 : Kept (pkS p g) w w') (k3 : g2 = g ∨ w.heap.size ≤ g2) : Q2 W S w' p q B2 m2 B' m' := by
  refine ⟨⟨g2, A2, D2, h, A', D', k1, h1.kept k2 (fun e => h3 q e (.inl rfl)) (fun e => h3 h e (.inr rfl)), fun k hk hr => ?_, fun k hk e => ?_, h5⟩, low, old.then k2 (fun k hk e => h4 k e)⟩
  · rcases hk with hk | hk
    · exact h3 k (.inl hk) hr
    · rcases k3 with e | e
      · exact h3 k (.inr (hk.trans e)) hr
      · have := pk_lt h1 hr; omega
  · rcases hk with hk | hk
    · exact h4 k (.inl hk) e
    · rcases k3 with e' | e'
      · exact h4 k (.inr (hk.trans e')) e
      · have := low k e; have := old.size; omega

theorem q2_head {W : World} {S : Nat → Prop} {w : World} {p q : Nat} {B B' : List Int} {m m' : Nat} (n : Int) (h : Q2 W S w p q B m B' m') (hm : m + 1 ≤ 100000) :
    Calls Tryz.prog 34 #[.pointer (some ⟨p, 0, none⟩), .int .i64 n] w fun e w' => e = .returned (.int .i64 (mayE B.length n)) ∧ Q2 W S w' p q (hB n B) (mM B.length n m) B' m' := by
  obtain ⟨g, A, D, g', A', D', h1, h2, h3, h4, h5⟩ := h.is
  exact (head_any p g A B D m n w h1 hm).mono fun e w' ⟨k1, g2, A2, D2, k2, k3, k4, k5, k6⟩ => ⟨k1, Q2.left h2 h3 h4 h5 h.low h.old h1 k2 k5 k6⟩

theorem q2_load {W : World} {S : Nat → Prop} {w : World} {p q : Nat} {B B' : List Int} {m m' : Nat} (x k : Int) (h : Q2 W S w p q B m B' m') (hx : -9223372036854775808 ≤ x) (hx' : x ≤ 9223372036854775807) :
    Calls Tryz.prog 50 #[.pointer (some ⟨p, 0, none⟩), .int .i64 x, .int .i64 k] w fun e w' => e = .returned (.tuple #[.int .u64 (ldE B x k), .int .i64 (askE B.length x k)]) ∧ Dr w w' := by
  obtain ⟨g, A, D, g', A', D', h1, h2, h3, h4, h5⟩ := h.is
  exact load_any p g A B D m x k w h1 hx hx'

theorem q2_bytes {W : World} {S : Nat → Prop} {w : World} {p q : Nat} {B B' : List Int} {m m' : Nat} (h : Q2 W S w p q B m B' m') :
    Calls Tryz.prog 22 #[.pointer (some ⟨p, 0, none⟩)] w fun e w' => ∃ v, e = .returned v ∧ w'.ownsRow w.heap.size 5 1 v B.length (B.map (Value.int .u8)) ∧ Below w.heap.size w w' := by
  obtain ⟨g, A, D, g', A', D', h1, h2, h3, h4, h5⟩ := h.is
  exact bytes_any p g A B D m w h1

theorem q2_moves {W : World} {S : Nat → Prop} {w : World} {p q : Nat} {B B' : List Int} {m m' : Nat} (h : Q2 W S w p q B m B' m') :
    Calls Tryz.prog 23 #[.pointer (some ⟨p, 0, none⟩)] w fun e w' => e = .returned (.int .i64 m) ∧ w = w' := by
  obtain ⟨g, A, D, g', A', D', h1, h2, h3, h4, h5⟩ := h.is
  exact moves_any p g A B D m w h1

theorem q2_len {W : World} {S : Nat → Prop} {w : World} {p q : Nat} {B B' : List Int} {m m' : Nat} (h : Q2 W S w p q B m B' m') :
    Calls Tryz.prog 111 #[.pointer (some ⟨p, 0, none⟩)] w fun e w' => e = .returned (.int .i64 (B.length : Int)) ∧ Dr w w' := by
  obtain ⟨g, A, D, g', A', D', h1, h2, h3, h4, h5⟩ := h.is
  exact len_any p g A B D m w h1

end Go.Proofs.YtednmdkjhiihcaaGreat
