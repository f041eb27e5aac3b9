/- One packet beside blocks that are set apart (Q1), for the statement PacketBack; Bytes as a slice that is not nil. -/
import Derived.Test.YtllhamcolinedaaPr
import Derived.Test.YtllhamcolinedaaPn
namespace Go.Proofs.Ytllhamcolinedaa
open Go.ChangeShapes Go.WideShapes Go.ChangeAt Go.RowKit

structure Q1 (W : World) (S : Nat → Prop) (w : World) (p : Nat) (B : List Int) (m : Nat) : Prop where
  is : ∃ g A D, PkIs w p g A B D m ∧ (∀ k, pkS p g k → ¬ S k)
  low : ∀ k, S k → k < W.heap.size
  old : Kept (fun k => ¬ S k) W w

theorem Q1.below {W : World} {S : Nat → Prop} {w w' : World} {p : Nat} {B : List Int} {m : Nat} (h : Q1 W S w p B m) (b : Below w.heap.size w w') : Q1 W S w' p B m := by
  obtain ⟨g, A, D, h1, h2⟩ := h.is
  exact ⟨⟨g, A, D, h1.below b, h2⟩, h.low, h.old.trans (Kept.of_below b)⟩
theorem Q1.dr {W : World} {S : Nat → Prop} {w w' : World} {p : Nat} {B : List Int} {m : Nat} (h : Q1 W S w p B m) (b : Dr w w') : Q1 W S w' p B m := h.below (b.below _)
theorem Q1.more {W : World} {S : Nat → Prop} {w w1 : World} {p : Nat} {B : List Int} {m : Nat} (h : Q1 W S w p B m) (b : Below w.heap.size w w1) (T : Nat → Prop) (hT : ∀ k, T k → w.heap.size ≤ k ∧ k < w1.heap.size) : Q1 w1 (fun k => S k ∨ T k) w1 p B m := by
  obtain ⟨g, A, D, h1, h2⟩ := h.is
  refine ⟨⟨g, A, D, h1.below b, fun k hk => ?_⟩, fun k hk => ?_, Kept.refl _ _⟩
  · rintro (e | e)
    · exact h2 k hk e
    · have := (hT k e).1; have := pk_lt h1 hk; omega
  · rcases hk with e | e
    · have := h.low k e; have := h.old.size; have := b.size; omega
    · exact (hT k e).2
theorem Q1.less {W : World} {S T : Nat → Prop} {w w1 w2 : World} {p : Nat} {B B2 : List Int} {m m2 : Nat} (h : Q1 W S w p B m) (b : Below w.heap.size w w1) (h2 : Q1 w1 (fun k => S k ∨ T k) w2 p B2 m2) : Q1 W S w2 p B2 m2 := by
  obtain ⟨g, A, D, k1, k2⟩ := h2.is
  exact ⟨⟨g, A, D, k1, fun k hk e => k2 k hk (.inl e)⟩, h.low, (h.old.trans (Kept.of_below b)).trans (h2.old.mono (fun k _ e1 e2 => e1 (.inl e2)))⟩
theorem Q1.facts {W : World} {S : Nat → Prop} {w : World} {p : Nat} {B : List Int} {m : Nat} (h : Q1 W S w p B m) : B.length ≤ 2048 ∧ Bytes B := by
  obtain ⟨g, A, D, h1, h2⟩ := h.is
  exact ⟨h1.most, h1.bytes.mid.2.1⟩
theorem Q1.moved {W : World} {S : Nat → Prop} {w w' : World} {p g : Nat} {A B D B' : List Int} {m a' d' m' : Nat} (h2 : ∀ k, pkS p g k → ¬ S k) (low : ∀ k, S k → k < W.heap.size) (old : Kept (fun k => ¬ S k) W w) (_h : PkIs w p g A B D m) (k : Moved w w' p g B' a' d' m') : Q1 W S w' p B' m' := by
  obtain ⟨g', A', D', k1, _, _, k4, k5⟩ := k
  refine ⟨⟨g', A', D', k1, fun k hk e => ?_⟩, low, old.then k4 (fun k _ e => h2 k e)⟩
  rcases hk with hk | hk
  · exact h2 k (.inl hk) e
  · rcases k5 with e' | e'
    · exact h2 k (.inr (hk.trans e')) e
    · have := low k e; have := old.size; omega

theorem may_ok {b : Nat} {n : Int} (h1 : n ≤ 2048 - (b : Int)) (h2 : -(b : Int) ≤ n) : mayE b n = 0 := may_zero.2 ⟨h1, h2⟩

theorem q1_head_pos {W : World} {S : Nat → Prop} {w : World} {p : Nat} {B : List Int} {m : Nat} (k : Nat) (h : Q1 W S w p B m) (hm : m + 1 ≤ 100000) (hk : B.length + k ≤ 2048) :
    Calls Try.prog 15 #[.pointer (some ⟨p, 0, none⟩), .int .i64 k] w fun e w' => e = .returned (.int .i64 0) ∧ Q1 W S w' p (List.replicate k 0 ++ B) (m + 1) := by
  obtain ⟨g, A, D, h1, h2⟩ := h.is
  have e0 : mayE B.length (k : Int) = 0 := may_ok (by omega) (by omega)
  have key := head_any p g A B D m k w h1 hm
  have e1 : hB (k : Int) B = List.replicate k 0 ++ B := by unfold hB; rw [if_pos e0, if_pos (by omega), Int.toNat_natCast]
  have e2 : mM B.length (k : Int) m = m + 1 := by unfold mM; rw [if_pos e0]
  rw [e0, e1, e2] at key
  exact key.mono fun e w' ⟨k1, k2⟩ => ⟨k1, Q1.moved h2 h.low h.old h1 k2⟩
theorem q1_head_neg {W : World} {S : Nat → Prop} {w : World} {p : Nat} {B : List Int} {m : Nat} (k : Nat) (h : Q1 W S w p B m) (hm : m + 1 ≤ 100000) (hk : k ≤ B.length) :
    Calls Try.prog 15 #[.pointer (some ⟨p, 0, none⟩), .int .i64 (-(k : Int))] w fun e w' => e = .returned (.int .i64 0) ∧ Q1 W S w' p (B.drop k) (m + 1) := by
  obtain ⟨g, A, D, h1, h2⟩ := h.is
  have hb := h1.most
  have e0 : mayE B.length (-(k : Int)) = 0 := may_ok (by omega) (by omega)
  have key := head_any p g A B D m (-(k : Int)) w h1 hm
  have e1 : hB (-(k : Int)) B = B.drop k := by
    unfold hB; rw [if_pos e0]
    by_cases h0 : k = 0
    · subst h0; simp
    · rw [if_neg (by omega), show (-(-(k : Int))).toNat = k by omega]
  have e2 : mM B.length (-(k : Int)) m = m + 1 := by unfold mM; rw [if_pos e0]
  rw [e0, e1, e2] at key
  exact key.mono fun e w' ⟨k1, k2⟩ => ⟨k1, Q1.moved h2 h.low h.old h1 k2⟩
theorem q1_tail_pos {W : World} {S : Nat → Prop} {w : World} {p : Nat} {B : List Int} {m : Nat} (k : Nat) (h : Q1 W S w p B m) (hm : m + 1 ≤ 100000) (hk : B.length + k ≤ 2048) :
    Calls Try.prog 16 #[.pointer (some ⟨p, 0, none⟩), .int .i64 k] w fun e w' => e = .returned (.int .i64 0) ∧ Q1 W S w' p (B ++ List.replicate k 0) (m + 1) := by
  obtain ⟨g, A, D, h1, h2⟩ := h.is
  have e0 : mayE B.length (k : Int) = 0 := may_ok (by omega) (by omega)
  have key := tail_any p g A B D m k w h1 hm
  have e1 : tB (k : Int) B = B ++ List.replicate k 0 := by unfold tB; rw [if_pos e0, if_pos (by omega), Int.toNat_natCast]
  have e2 : mM B.length (k : Int) m = m + 1 := by unfold mM; rw [if_pos e0]
  rw [e0, e1, e2] at key
  exact key.mono fun e w' ⟨k1, k2⟩ => ⟨k1, Q1.moved h2 h.low h.old h1 k2⟩
theorem q1_tail_neg {W : World} {S : Nat → Prop} {w : World} {p : Nat} {B : List Int} {m : Nat} (k : Nat) (h : Q1 W S w p B m) (hm : m + 1 ≤ 100000) (hk : k ≤ B.length) :
    Calls Try.prog 16 #[.pointer (some ⟨p, 0, none⟩), .int .i64 (-(k : Int))] w fun e w' => e = .returned (.int .i64 0) ∧ Q1 W S w' p (B.take (B.length - k)) (m + 1) := by
  obtain ⟨g, A, D, h1, h2⟩ := h.is
  have hb := h1.most
  have e0 : mayE B.length (-(k : Int)) = 0 := may_ok (by omega) (by omega)
  have key := tail_any p g A B D m (-(k : Int)) w h1 hm
  have e1 : tB (-(k : Int)) B = B.take (B.length - k) := by
    unfold tB; rw [if_pos e0]
    by_cases h0 : k = 0
    · subst h0; simp
    · rw [if_neg (by omega), show ((B.length : Int) + -(k : Int)).toNat = B.length - k by omega]
  have e2 : mM B.length (-(k : Int)) m = m + 1 := by unfold mM; rw [if_pos e0]
  rw [e0, e1, e2] at key
  exact key.mono fun e w' ⟨k1, k2⟩ => ⟨k1, Q1.moved h2 h.low h.old h1 k2⟩
/-- One byte is stored. -/
theorem q1_store1 {W : World} {S : Nat → Prop} {w : World} {p : Nat} {B : List Int} {m : Nat} (x : Nat) (h : Q1 W S w p B m) (hx : x < B.length) :
    Calls Try.prog 18 #[.pointer (some ⟨p, 0, none⟩), .int .i64 x, .int .i64 1, .int .u64 255] w fun e w' => e = .returned (.int .i64 0) ∧ Q1 W S w' p (B.set x 255) m := by
  obtain ⟨g, A, D, h1, h2⟩ := h.is
  refine (store_yes p g A B D m x 1 255 w h1 (by omega) (by omega) (by omega) (by omega) (by omega)).mono fun e w' ⟨k1, k2, k3⟩ => ⟨k1, ⟨g, A, D, ?_, h2⟩, h.low, h.old.then k3 (fun k _ e => h2 k (.inr e))⟩
  have e1 : stV B x 1 255 = B.set x 255 := by simp [stV]
  rw [e1] at k2; exact k2
theorem q1_len {W : World} {S : Nat → Prop} {w : World} {p : Nat} {B : List Int} {m : Nat} (n : Nat) (h : Q1 W S w p B m) (hn : B.length = n) :
    Calls Try.prog 21 #[.pointer (some ⟨p, 0, none⟩)] w fun e w' => e = .returned (.int .i64 (n : Int)) ∧ Dr w w' := by
  obtain ⟨g, A, D, h1, h2⟩ := h.is
  rw [← hn]
  exact len_any p g A B D m w h1
theorem q1_moves {W : World} {S : Nat → Prop} {w : World} {p : Nat} {B : List Int} {m : Nat} (h : Q1 W S w p B m) :
    Calls Try.prog 19 #[.pointer (some ⟨p, 0, none⟩)] w fun e w' => e = .returned (.int .i64 m) ∧ w = w' := by
  obtain ⟨g, A, D, h1, h2⟩ := h.is
  exact moves_any p g A B D m w h1

set_option maxHeartbeats 400000 in
theorem clone_some (x : Addr) (c : Nat) (zs : List Int) (w : World) (hB : Bs w (some x) zs) :
    Calls Try.prog 35 #[.slice (some x) zs.length c] w fun e w' => ∃ g cap, e = .returned (.slice (some ⟨g, 0, none⟩) zs.length cap) ∧ zs.length ≤ cap ∧ w'.ownsRow w.heap.size 5 1 (.slice (some ⟨g, 0, none⟩) zs.length cap) zs.length (zs.map (Value.int .u8)) ∧ Below w.heap.size w w' := by
  obtain ⟨i0, hi, hz0, hz1, hz2⟩ := info_parts info_u8
  have hnn := nil_no x zs.length c
  have hlen := hB.len
  have b0 : Below w.heap.size w (w.alloc (.cells #[] 5)) := (Below.refl _ _).alloc (Nat.le_refl _) _
  have HB := Hid.mk' (hB.below b0)
  have hown0 : (w.alloc (.cells #[] 5)).ownsRow w.heap.size 5 1 (.slice (some ⟨w.heap.size, 0, none⟩) 0 0) 0 [] :=
    World.ownsRow_lit (base := w.heap.size) (size := 1) (e := 5) w #[] 0 (Nat.le_refl _) (by decide) rfl
  have HO := Hid.mk' hown0
  have hnews : ∀ j u, (zs.map (Value.int .u8))[j]? = some u → (w.alloc (.cells #[] 5)).cell? (x.add j) = some u := by
    intro j u hj
    have hlt : j < zs.length := by have := (List.getElem?_eq_some_iff.1 hj).1; simpa using this
    rcases HB.out.lies with h0 | ⟨b, off, h, hc⟩
    · omega
    · cases h
      rw [addr_add, hc j hlt]
      simp [hlt] at hj
      simp [hlt, hj]
  have HNW := Hid.mk' hnews
  have HB0 := Hid.mk' b0
  clear hB hown0 hnews b0
  go_enter Try.func35, Try.ntmps35
  go_wp2_with (first | (at_builtin; refine wpList_append_own _ rfl _ _ 22 rfl w.heap.size 5 i0 (.int .u8 0) 1 1 Try.underlying22 hi hz0 hz1 hz2 rfl (by decide) _ _ _ rfl HO.out x zs.length c (zs.map (Value.int .u8)) rfl (by simp) HNW.out ?c1 ?c2 ?c3 ?c4 ?_))
  case c1 => intro u hu; simp at hu; obtain ⟨z, _, rfl⟩ := hu; rfl
  case c2 => unfold maxLen; omega
  case c3 => omega
  case c4 => simp
  intro v' w1 hown hgrow hiff
  have hb : Below w.heap.size w w1 := HB0.out.grown hgrow (by simp) (by intro k hk; simp [Value.ownBlock] at hk; omega)
  have HO1 : Hid (w1.ownsRow w.heap.size 5 1 v' zs.length (zs.map (Value.int .u8))) := hown
  obtain ⟨g, cap, hv, hcap⟩ : ∃ g cap, v' = .slice (some ⟨g, 0, none⟩) zs.length cap ∧ zs.length ≤ cap := by
    rcases HO1.out.2 with ⟨e, _⟩ | ⟨g, cap, cur, e, _, _, hc, _⟩
    · exact (hiff e).elim
    · exact ⟨g, cap, e, hc⟩
  subst hv
  clear hgrow hown hiff
  go_wp2_with fail
  go_ret
  exact ⟨g, cap, rfl, hcap, HO1.out, hb⟩

set_option maxHeartbeats 400000 in
theorem q1_bytes {W : World} {S : Nat → Prop} {w : World} {p : Nat} {B : List Int} {m : Nat} (n : Nat) (h : Q1 W S w p B m) (hn : B.length = n) :
    Calls Try.prog 20 #[.pointer (some ⟨p, 0, none⟩)] w fun e w' => ∃ g cap, e = .returned (.slice (some ⟨g, 0, none⟩) n cap) ∧ n ≤ cap ∧ w'.ownsRow w.heap.size 5 1 (.slice (some ⟨g, 0, none⟩) n cap) n (B.map (Value.int .u8)) ∧ Below w.heap.size w w' := by
  subst hn
  obtain ⟨g, A, D, h1, h2⟩ := h.is
  have H := Hid.mk' h1
  clear h h1 h2
  go_enter Try.func20, Try.ntmps20
  go_wp2_with fail
  refine (data_any p g A B D m w H.out).mono ?_
  rintro x w1 ⟨rfl, d1⟩
  have D1 := Hid.mk' d1
  clear d1
  go_wp2_with fail
  refine (clone_some _ _ B w1 (H.out.dr D1.out).bs).mono ?_
  rintro x w2 ⟨gx, cap, rfl, hcap, hown, hb⟩
  have e1 : w1.heap = w.heap := D1.out.heap
  rw [e1] at hown hb
  have hb2 := (D1.out.below w.heap.size).trans hb
  clear e1 hb
  go_wp2_with fail
  go_ret
  exact ⟨gx, cap, rfl, hcap, hown, hb2⟩
end Go.Proofs.Ytllhamcolinedaa
