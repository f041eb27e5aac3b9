/- A packet of the call's own (Pw): the contracts of all calls in that form; the contract of the statements' own 'awake'. -/
import Derived.Test.YtllhamcolinedaaPg
namespace Go.Proofs.Ytllhamcolinedaa
open Go.ChangeShapes Go.WideShapes Go.ChangeAt Go.RowKit

/-- A packet at block p that was made since world W: its bytes, its room, its moves. -/
structure Pw (W w : World) (p : Nat) (B : List Int) (a d m : Nat) : Prop where
  is : ∃ g A D, PkIs w p g A B D m ∧ A.length = a ∧ D.length = d
  le : W.heap.size ≤ p
  old : Below W.heap.size W w

theorem Pw.below {W w w' : World} {p : Nat} {B : List Int} {a d m : Nat} (h : Pw W w p B a d m) (b : Below w.heap.size w w') : Pw W w' p B a d m := by
  obtain ⟨g, A, D, h1, h2, h3⟩ := h.is
  exact ⟨⟨g, A, D, h1.below b, h2, h3⟩, h.le, h.old.trans (b.mono h.old.size)⟩
theorem Pw.dr {W w w' : World} {p : Nat} {B : List Int} {a d m : Nat} (h : Pw W w p B a d m) (b : Dr w w') : Pw W w' p B a d m := h.below (b.below _)
theorem Pw.most {W w : World} {p : Nat} {B : List Int} {a d m : Nat} (h : Pw W w p B a d m) : B.length ≤ 2048 := by
  obtain ⟨g, A, D, h1, h2, h3⟩ := h.is
  exact h1.most
theorem Pw.bytes {W w : World} {p : Nat} {B : List Int} {a d m : Nat} (h : Pw W w p B a d m) : Bytes B := by
  obtain ⟨g, A, D, h1, h2, h3⟩ := h.is
  exact h1.bytes.mid.2.1
theorem Pw.mvs {W w : World} {p : Nat} {B : List Int} {a d m : Nat} (h : Pw W w p B a d m) : m ≤ 100000 := by
  obtain ⟨g, A, D, h1, h2, h3⟩ := h.is
  exact h1.mvs
theorem Pw.moved {W w w' : World} {p g : Nat} {A B D B' : List Int} {m a' d' m' : Nat} (h : PkIs w p g A B D m) (le : W.heap.size ≤ p) (old : Below W.heap.size W w) (k : Moved w w' p g B' a' d' m') : Pw W w' p B' a' d' m' := by
  obtain ⟨g', A', D', h1, h2, h3, h4, _⟩ := k
  refine ⟨⟨g', A', D', h1, h2, h3⟩, le, old.trans (h4.below old.size (fun k hk e => ?_))⟩
  have := h.lt
  rcases e with e | e <;> omega

theorem pw_head {W w : World} {p : Nat} {B : List Int} {a d m : Nat} (n : Int) (h : Pw W w p B a d m) (hm : m + 1 ≤ 100000) :
    Calls Try.prog 15 #[.pointer (some ⟨p, 0, none⟩), .int .i64 n] w fun e w' => e = .returned (.int .i64 (mayE B.length n)) ∧ Pw W w' p (hB n B) (hA B.length n a) (hD B.length n a d) (mM B.length n m) := by
  obtain ⟨g, A, D, h1, rfl, rfl⟩ := h.is
  exact (head_any p g A B D m n w h1 hm).mono fun e w' ⟨k1, k2⟩ => ⟨k1, Pw.moved h1 h.le h.old k2⟩
theorem pw_tail {W w : World} {p : Nat} {B : List Int} {a d m : Nat} (n : Int) (h : Pw W w p B a d m) (hm : m + 1 ≤ 100000) :
    Calls Try.prog 16 #[.pointer (some ⟨p, 0, none⟩), .int .i64 n] w fun e w' => e = .returned (.int .i64 (mayE B.length n)) ∧ Pw W w' p (tB n B) (tA B.length n a d) (tD B.length n d) (mM B.length n m) := by
  obtain ⟨g, A, D, h1, rfl, rfl⟩ := h.is
  exact (tail_any p g A B D m n w h1 hm).mono fun e w' ⟨k1, k2⟩ => ⟨k1, Pw.moved h1 h.le h.old k2⟩
theorem pw_load {W w : World} {p : Nat} {B : List Int} {a d m : Nat} (x k : Int) (h : Pw W w p B a d m) (hx : -9223372036854775808 ≤ x) (hx' : x ≤ 9223372036854775807) :
    Calls Try.prog 17 #[.pointer (some ⟨p, 0, none⟩), .int .i64 x, .int .i64 k] w fun e w' => e = .returned (.tuple #[.int .u64 (ldE B x k), .int .i64 (askE B.length x k)]) ∧ Dr w w' := by
  obtain ⟨g, A, D, h1, rfl, rfl⟩ := h.is
  exact load_any p g A B D m x k w h1 hx hx'
theorem pw_store {W w : World} {p : Nat} {B : List Int} {a d m : Nat} (x k v : Int) (h : Pw W w p B a d m) (hx : -9223372036854775808 ≤ x) (hx' : x ≤ 9223372036854775807) (v0 : 0 ≤ v) (v1 : v ≤ 18446744073709551615) :
    Calls Try.prog 18 #[.pointer (some ⟨p, 0, none⟩), .int .i64 x, .int .i64 k, .int .u64 v] w fun e w' => e = .returned (.int .i64 (askE B.length x k)) ∧ Pw W w' p (stE B x k v) a d m := by
  obtain ⟨g, A, D, h1, rfl, rfl⟩ := h.is
  refine (store_any p g A B D m x k v w h1 hx hx' v0 v1).mono fun e w' ⟨k1, k2, k3⟩ => ⟨k1, ⟨g, A, D, k2, rfl, rfl⟩, h.le, h.old.trans (k3.below h.old.size (fun k hk e => ?_))⟩
  have := h1.lt
  have := h.le
  omega
theorem pw_bytes {W w : World} {p : Nat} {B : List Int} {a d m : Nat} (h : Pw W w p B a d m) :
    Calls Try.prog 20 #[.pointer (some ⟨p, 0, none⟩)] w fun e w' => ∃ v, e = .returned v ∧ w'.ownsRow w.heap.size 5 1 v B.length (B.map (Value.int .u8)) ∧ Below w.heap.size w w' := by
  obtain ⟨g, A, D, h1, rfl, rfl⟩ := h.is
  exact bytes_any p g A B D m w h1
theorem pw_len {W w : World} {p : Nat} {B : List Int} {a d m : Nat} (h : Pw W w p B a d m) :
    Calls Try.prog 21 #[.pointer (some ⟨p, 0, none⟩)] w fun e w' => e = .returned (.int .i64 (B.length : Int)) ∧ Dr w w' := by
  obtain ⟨g, A, D, h1, rfl, rfl⟩ := h.is
  exact len_any p g A B D m w h1
theorem pw_room {W w : World} {p : Nat} {B : List Int} {a d m : Nat} (h : Pw W w p B a d m) :
    Calls Try.prog 22 #[.pointer (some ⟨p, 0, none⟩)] w fun e w' => e = .returned (.tuple #[.int .i64 a, .int .i64 d]) ∧ Dr w w' := by
  obtain ⟨g, A, D, h1, rfl, rfl⟩ := h.is
  exact room_any p g A B D m w h1
theorem pw_moves {W w : World} {p : Nat} {B : List Int} {a d m : Nat} (h : Pw W w p B a d m) :
    Calls Try.prog 19 #[.pointer (some ⟨p, 0, none⟩)] w fun e w' => e = .returned (.int .i64 m) ∧ w = w' := by
  obtain ⟨g, A, D, h1, rfl, rfl⟩ := h.is
  exact moves_any p g A B D m w h1
theorem pw_new {W w : World} (a : Option Addr) (c : Nat) (zs : List Int) (x y : Nat) (hW : Below W.heap.size W w) (hB : Bs w a zs) (h : zs.length ≤ 2048) (hx : x ≤ 256) (hy : y ≤ 256) :
    Calls Try.prog 8 #[.slice a zs.length c, .int .i64 x, .int .i64 y] w fun e w' => e = .returned (.tuple #[.pointer (some ⟨w.heap.size, 0, none⟩), .int .i64 0]) ∧ Pw W w' w.heap.size zs x y 0 ∧ Below w.heap.size w w' := by
  refine (new_ok a c zs x y w hB h hx hy (fun b hb => ?_)).mono fun e w' ⟨k1, k2, k3⟩ => ⟨k1, ⟨⟨_, _, _, k2, by simp, by simp⟩, hW.size, hW.trans (k3.mono hW.size)⟩, k3⟩
  rcases hB.lies with h0 | ⟨b', off, e, hc⟩
  · exact .inr h0
  · by_cases h0 : zs.length = 0
    · exact .inr h0
    · rw [hb] at e; cases e
      exact .inl (lt_of_cell (hc 0 (by omega)))

set_option maxHeartbeats 2000000 in
theorem awake_any (W : World) : Calls Try.prog 11 #[] W fun e w' => e = .returned (.bool true) ∧ Below W.heap.size W w' := by
  have b0 : Below W.heap.size W (W.alloc (.cells #[.int .u8 1, .int .u8 2, .int .u8 3] 5)) := (Below.refl _ _).alloc (Nat.le_refl _) _
  have k0 : Bs (W.alloc (.cells #[.int .u8 1, .int .u8 2, .int .u8 3] 5)) (some ⟨W.heap.size, 0, none⟩) [1, 2, 3] := bs_new W [1, 2, 3] 5 (by unfold Bytes; simp) (by simp)
  have key := pw_new (W := W) (some ⟨W.heap.size, 0, none⟩) 3 [1, 2, 3] 1 0 b0 k0 (by decide) (by omega) (by omega)
  have key : Calls Try.prog 8 #[.slice (some ⟨W.heap.size, 0, none⟩) 3 3, .int .i64 1, .int .i64 0] (W.alloc (.cells #[.int .u8 1, .int .u8 2, .int .u8 3] 5)) fun e w' => ∃ p, e = .returned (.tuple #[.pointer (some ⟨p, 0, none⟩), .int .i64 0]) ∧ Pw W w' p [1, 2, 3] 1 0 0 := key.mono fun e w' ⟨h1, h2, h3⟩ => ⟨_, h1, h2⟩
  clear b0 k0
  go_enter Try.func11, Try.ntmps11
  go_wp2_with fail
  refine key.mono ?_
  rintro e w1 ⟨p, rfl, h1⟩
  clear key
  have H1 := Hid.mk' h1
  clear h1
  go_wp2_with fail
  refine (pw_head 1 H1.out (by omega)).mono ?_
  rw [show mayE ([1, 2, 3] : List Int).length 1 = 0 by decide, show hB 1 [1, 2, 3] = [0, 1, 2, 3] by decide, show hA ([1, 2, 3] : List Int).length 1 1 = 0 by decide, show hD ([1, 2, 3] : List Int).length 1 1 0 = 0 by decide, show mM ([1, 2, 3] : List Int).length 1 0 = 1 by decide]
  rintro e w2 ⟨rfl, h2⟩
  have H2 := Hid.mk' h2
  clear h2 H1
  go_wp2_with fail
  refine (pw_head 1 H2.out (by omega)).mono ?_
  rw [show mayE ([0, 1, 2, 3] : List Int).length 1 = 0 by decide, show hB 1 [0, 1, 2, 3] = [0, 0, 1, 2, 3] by decide, show hA ([0, 1, 2, 3] : List Int).length 1 0 = 64 by decide, show hD ([0, 1, 2, 3] : List Int).length 1 0 0 = 64 by decide, show mM ([0, 1, 2, 3] : List Int).length 1 1 = 2 by decide]
  rintro e w3 ⟨rfl, h3⟩
  have H3 := Hid.mk' h3
  clear h3 H2
  go_wp2_with fail
  refine (pw_room H3.out).mono ?_
  rintro e w4 ⟨rfl, d4⟩
  have H4 := Hid.mk' (H3.out.dr d4)
  clear H3 d4
  go_wp2_with fail
  refine (pw_store 1 2 43981 H4.out (by omega) (by omega) (by omega) (by omega)).mono ?_
  rw [show askE ([0, 0, 1, 2, 3] : List Int).length 1 2 = 0 by decide, show stE [0, 0, 1, 2, 3] 1 2 43981 = [0, 171, 205, 2, 3] by decide]
  rintro e w5 ⟨rfl, h5⟩
  have H5 := Hid.mk' h5
  clear h5 H4
  go_wp2_with fail
  refine (pw_load 0 3 H5.out (by omega) (by omega)).mono ?_
  rw [show askE ([0, 171, 205, 2, 3] : List Int).length 0 3 = 0 by decide, show ldE [0, 171, 205, 2, 3] 0 3 = 43981 by decide]
  rintro e w6 ⟨rfl, d6⟩
  have H6 := Hid.mk' (H5.out.dr d6)
  clear H5 d6
  go_wp2_with fail
  refine (pw_moves H6.out).mono ?_
  rintro e w7 ⟨rfl, rfl⟩
  go_wp2_with fail
  refine (pw_bytes H6.out).mono ?_
  rintro e w7 ⟨v, rfl, hown, b7⟩
  have H7 := Hid.mk' (H6.out.below b7)
  obtain ⟨av, cv, hv, hbs, -⟩ := bs_own hown H6.out.bytes (by decide)
  subst hv
  have B7 := Hid.mk' hbs
  clear H6 hown b7 hbs
  have HL := Hid.mk' (bs_new w7 [0, 171, 205, 2, 3] 5 (by unfold Bytes; simp) (by simp))
  have HA : Hid (Below w7.heap.size w7 (w7.alloc (.cells #[.int .u8 0, .int .u8 171, .int .u8 205, .int .u8 2, .int .u8 3] 5))) := (Below.refl _ _).alloc (Nat.le_refl _) _
  go_wp2_with fail
  refine (eq_at av (some ⟨w7.heap.size, 0, none⟩) 5 5 cv 5 [0, 171, 205, 2, 3] [0, 171, 205, 2, 3] _ rfl rfl (B7.out.below HA.out) HL.out).mono ?_
  rintro e w8 ⟨rfl, d8⟩
  rw [show decide (([0, 171, 205, 2, 3] : List Int) = [0, 171, 205, 2, 3]) = true from by simp]
  have B8 : Below W.heap.size W w8 := ((H7.out.below HA.out).dr d8).old
  clear d8 HL HA H7 B7
  go_wp2_with fail
  go_ret
  exact ⟨rfl, B8⟩
end Go.Proofs.Ytllhamcolinedaa
