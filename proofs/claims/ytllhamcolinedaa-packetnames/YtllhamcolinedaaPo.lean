/- The contract of the statements' own 'done': a call, of both packets. -/
import Derived.Test.YtllhamcolinedaaPn
import Derived.Test.YtllhamcolinedaaBi
import Derived.Deep.RegionWith
import Derived.Deep.RegionHeld3
namespace Go.Proofs.Ytllhamcolinedaa
open Go.ChangeShapes Go.WideShapes Go.ChangeAt Go.RowKit

/-- Both packets alike. -/
def Pl (W : World) (N : Nat) (S : Nat → Prop) (w : World) (p q : Nat) (B : List Int) (a d m : Nat) : Prop := P2 W N S w p q B a d m B a d m

theorem Pl.bounds {W : World} {N : Nat} {S : Nat → Prop} {w : World} {p q : Nat} {B : List Int} {a d m : Nat} (h : Pl W N S w p q B a d m) : B.length ≤ 2048 ∧ a ≤ 2560 ∧ d ≤ 2560 ∧ m ≤ 100000 ∧ Bytes B := by
  obtain ⟨g, A, D, bv, h1, rfl, rfl, h4, h5⟩ := h.is
  have := h1.all
  exact ⟨h1.most, by omega, by omega, h1.mvs, h1.bytes.mid.2.1⟩

/-- What is told behind a call. -/
def Dn (W : World) (N : Nat) (S : Nat → Prop) (w' : World) (p q m : Nat) : Prop := ∃ B' a' d' m', Pl W N S w' p q B' a' d' m' ∧ m' ≤ m + 1

theorem mM_le (b : Nat) (n : Int) (m : Nat) : mM b n m ≤ m + 1 := by unfold mM; split <;> omega

/-- What stands behind the making of the struct that 'done' is handed. -/
theorem done_start {W : World} {N : Nat} {S : Nat → Prop} {w w1 : World} {p q : Nat} {B : List Int} {a d m : Nat} {kd n x k v : Int} (h : Pl W N S w p q B a d m) (hw : w.alloc (.cells #[.int .i64 kd, .int .i64 n, .int .i64 x, .int .i64 k, .int .u64 v] 38) = w1) :
    Hid (P2 w1 N (fun i => S i ∨ i = w.heap.size) w1 p q B a d m B a d m) ∧ Hid (Below w.heap.size w w1) ∧ w1.cell? ⟨w.heap.size, 0, none⟩ = some (.int .i64 kd) ∧ w1.cell? ⟨w.heap.size, 1, none⟩ = some (.int .i64 n) ∧ w1.cell? ⟨w.heap.size, 2, none⟩ = some (.int .i64 x) ∧ w1.cell? ⟨w.heap.size, 3, none⟩ = some (.int .i64 k) ∧ w1.cell? ⟨w.heap.size, 4, none⟩ = some (.int .u64 v) := by
  subst hw
  have b : Below w.heap.size w (w.alloc (.cells #[.int .i64 kd, .int .i64 n, .int .i64 x, .int .i64 k, .int .u64 v] 38)) := (Below.refl _ _).alloc (Nat.le_refl _) _
  refine ⟨P2.more h b (fun i => i = w.heap.size) (fun i hi => by subst hi; simp), b, ?_, ?_, ?_, ?_, ?_⟩ <;> simp

/-- A cell of the struct, later. -/
theorem P2.box {W1 : World} {N : Nat} {S : Nat → Prop} {w2 : World} {p q : Nat} {B B' : List Int} {a d m a' d' m' bx : Nat} (h : P2 W1 N (fun i => S i ∨ i = bx) w2 p q B a d m B' a' d' m') {j : Nat} {v : Value} (hc : W1.cell? ⟨bx, j, none⟩ = some v) : w2.cell? ⟨bx, j, none⟩ = some v :=
  h.old.cell hc (fun e => e (.inr rfl))

set_option maxHeartbeats 2000000 in
set_option maxRecDepth 100000 in
theorem done_calls (W : World) (N : Nat) (S : Nat → Prop) (w : World) (p q : Nat) (B : List Int) (a d m : Nat) (kd n x k v : Int) (r : Nat) (hr : r < 4) (h : Pl W N S w p q B a d m) (hm : m + 1 ≤ 100000) (hx : -9223372036854775808 ≤ x) (hx' : x ≤ 9223372036854775807) (v0 : 0 ≤ v) (v1 : v ≤ 18446744073709551615)
    (hbr : ∀ u : World, Calls Try.prog 14 #[.int .i64 kd, .int .i64 6] u fun e w' => e = .returned (.int .i64 r) ∧ u = w') :
    Calls Try.prog 12 #[.pointer (some ⟨p, 0, none⟩), .pointer (some ⟨q, 0, none⟩), .agg #[.int .i64 kd, .int .i64 n, .int .i64 x, .int .i64 k, .int .u64 v]] w fun e w' => e = .returned (.bool true) ∧ Dn W N S w' p q m := by
  obtain ⟨hl, ha, hd, _, _⟩ := h.bounds
  have hcase : r = 0 ∨ r = 1 ∨ r = 2 ∨ r = 3 := by omega
  have H := Hid.mk' h
  clear h hr
  rcases hcase with rfl | rfl | rfl | rfl
  · go_enter Try.func12, Try.ntmps12
    go_wp2_with fail
    refine (hbr _).mono ?_
    rintro e w1 ⟨rfl, hw1⟩
    obtain ⟨P1, B1, e0, e1, e2, e3, e4⟩ := done_start H.out hw1
    clear hw1 e0 e2 e3 e4 hbr
    go_wp2_with fail
    go_region_with (first | (go_at_call 15; refine (p2_head n (P1.out.below ((Below.refl _ _).drew)) hm).mono ?_; rintro e w2 ⟨rfl, h2⟩; have P2' := Hid.mk' h2; have t1 := h2.box e1; clear h2) | (go_at_call 26; refine (p2_rhead n P2'.out hm (by omega)).mono ?_; rintro e w3 ⟨rfl, h3⟩; have P3' := Hid.mk' h3; clear h3))
    all_goals
      have HF : Hid (Dn W N S w3 p q m) := ⟨_, _, _, _, P2.less H.out B1.out P3'.out, mM_le _ _ _⟩
      clear P1 P2' P3' B1
      go_wp2_with fail
      go_ret
      exact ⟨rfl, HF.out⟩
  · go_enter Try.func12, Try.ntmps12
    go_wp2_with fail
    refine (hbr _).mono ?_
    rintro e w1 ⟨rfl, hw1⟩
    obtain ⟨P1, B1, e0, e1, e2, e3, e4⟩ := done_start H.out hw1
    clear hw1 e0 e2 e3 e4 hbr
    go_wp2_with fail
    go_region_with (first | (go_at_call 16; refine (p2_tail n (P1.out.below ((Below.refl _ _).drew)) hm).mono ?_; rintro e w2 ⟨rfl, h2⟩; have P2' := Hid.mk' h2; have t1 := h2.box e1; clear h2) | (go_at_call 27; refine (p2_rtail n P2'.out hm (by omega)).mono ?_; rintro e w3 ⟨rfl, h3⟩; have P3' := Hid.mk' h3; clear h3))
    all_goals
      have HF : Hid (Dn W N S w3 p q m) := ⟨_, _, _, _, P2.less H.out B1.out P3'.out, mM_le _ _ _⟩
      clear P1 P2' P3' B1
      go_wp2_with fail
      go_ret
      exact ⟨rfl, HF.out⟩
  · go_enter Try.func12, Try.ntmps12
    go_wp2_with fail
    refine (hbr _).mono ?_
    rintro e w1 ⟨rfl, hw1⟩
    obtain ⟨P1, B1, e0, e1, e2, e3, e4⟩ := done_start H.out hw1
    clear hw1 e0 e1 e4 hbr
    go_wp2_with fail
    refine (p2_load x k P1.out hx hx').mono ?_
    rintro e w2 ⟨rfl, d2⟩
    have P2' := Hid.mk' (P1.out.dr d2)
    have t2 := P2'.out.box e2
    have t3 := P2'.out.box e3
    clear d2
    go_wp2_with fail
    refine (p2_rload x k P2'.out).mono ?_
    rintro e w3 ⟨rfl, d3⟩
    have P3' := Hid.mk' (P2'.out.dr d3)
    clear d3 t2 t3
    all_goals
      have HF : Hid (Dn W N S w3 p q m) := ⟨_, _, _, _, P2.less H.out B1.out P3'.out, by omega⟩
      clear P1 P2' P3' B1
      go_wp2_with fail
      go_ret
      exact ⟨rfl, HF.out⟩
  · go_enter Try.func12, Try.ntmps12
    go_wp2_with fail
    refine (hbr _).mono ?_
    rintro e w1 ⟨rfl, hw1⟩
    obtain ⟨P1, B1, e0, e1, e2, e3, e4⟩ := done_start H.out hw1
    clear hw1 e0 e1 hbr
    go_wp2_with fail
    go_region_held3 (fun w' => w'.cell? ⟨w.heap.size, 2, none⟩ = some (.int .i64 x) ∧ w'.cell? ⟨w.heap.size, 3, none⟩ = some (.int .i64 k) ∧ w'.cell? ⟨w.heap.size, 4, none⟩ = some (.int .u64 v)) (go_keep) (first | (go_at_call 18; refine (p2_store x k v (P1.out.below ((Below.refl _ _).drew)) hx hx' v0 v1).mono ?_; rintro e w2 ⟨rfl, h2⟩; have P2' := Hid.mk' h2; have t2 := h2.box e2; have t3 := h2.box e3; have t4 := h2.box e4; clear h2) | (go_at_call 29; refine (p2_rstore x k v P2'.out v0 v1).mono ?_; rintro e w3 ⟨rfl, h3⟩; have P3' := Hid.mk' h3; have u2 := h3.box e2; have u3 := h3.box e3; have u4 := h3.box e4; clear h3))
    all_goals
      have HF : Hid (Dn W N S w3 p q m) := ⟨_, _, _, _, P2.less H.out B1.out P3'.out, by omega⟩
      clear P1 P2' P3' B1
      go_wp2_with fail
      go_ret
      exact ⟨rfl, HF.out⟩
end Go.Proofs.Ytllhamcolinedaa
