/- EqInts at two slices that hold one list; what is read of registers; Reads of the program. -/
import Derived.Test.YtffjddabjjcjpaaIg
import Derived.Laws.AppendOwn
import Derived.OwnWalk
namespace Go.Proofs.Ytffjddabjjcjpaa
open Go.ChangeShapes Go.WideShapes Go.ChangeAt Go.RowKit
set_option maxRecDepth 10000

theorem Iw.at {w : World} {base : Nat} {b off c : Nat} {zs : List Int} (h : Iw w base (.slice (some ⟨b, off, none⟩) zs.length c) zs) (k : Nat) (hk : k < zs.length) : w.cell? ⟨b, off + k, none⟩ = some (.int .i64 (zs.getD k 0)) := by
  obtain ⟨a, c', e, hl⟩ := h.lies
  rcases hl with rfl | ⟨b', off', rfl, h1, h2, h3, h4⟩
  · simp at hk
  · cases e
    have := (h4 k (by simpa using hk)).1
    rw [this]
    simp [hk]

theorem Iw.drew {w : World} {base : Nat} {v : Value} {zs : List Int} (h : Iw w base v zs) (n : Nat) : Iw (w.drewN n) base v zs := h.below (Dr.below ⟨n, rfl⟩ _)

set_option maxHeartbeats 1000000 in
theorem eqi_any (w : World) (b1 b2 : Nat) (v u : Value) (zs : List Int) (h1 : Iw w b1 v zs) (h2 : Iw w b2 u zs) (hl : zs.length ≤ 1000) :
    Calls Try.prog 11 #[v, u] w fun e w' => e = .returned (.bool true) ∧ Below w.heap.size w w' := by
  obtain ⟨a1, c1, rfl, l1⟩ := h1.lies
  obtain ⟨a2, c2, rfl, l2⟩ := h2.lies
  have H1 := Hid.mk' h1
  have H2 := Hid.mk' h2
  clear h1 h2
  obtain ⟨n, hn⟩ : ∃ n, Hid (zs.length = n) := ⟨_, Hid.mk' rfl⟩
  have hnl : n ≤ 1000 := by rw [← hn.out]; exact hl
  have hz0 : zs = [] → n = 0 := fun e => by rw [← hn.out, e]; rfl
  clear hl
  have E : ∀ k, k < n → ∃ x, zs.getD k 0 = x := fun k _ => ⟨_, rfl⟩
  rw [hn.out] at H1 H2 ⊢
  rcases l1 with e | ⟨g1, o1, rfl, -⟩
  · have := hz0 e
    subst this
    go_enter Try.func11, Try.ntmps11
    go_wp2_with fail
    refine wp_loop_rounds 1 ?_
    rw [rounds_succ]
    go_wp2_with fail
    go_ret
    exact ⟨rfl, Below.refl _ _⟩
  rcases l2 with e | ⟨g2, o2, rfl, -⟩
  · have := hz0 e
    subst this
    go_enter Try.func11, Try.ntmps11
    go_wp2_with fail
    refine wp_loop_rounds 1 ?_
    rw [rounds_succ]
    go_wp2_with fail
    go_ret
    exact ⟨rfl, Below.refl _ _⟩
  have C1 : Hid (∀ k, k < n → w.cell? ⟨g1, o1 + k, none⟩ = some (.int .i64 (zs.getD k 0))) := Hid.mk' (fun k hk => by
    have hh := H1.out; rw [← hn.out] at hh; exact hh.at k (by rw [hn.out]; exact hk))
  have C2 : Hid (∀ k, k < n → w.cell? ⟨g2, o2 + k, none⟩ = some (.int .i64 (zs.getD k 0))) := Hid.mk' (fun k hk => by
    have hh := H2.out; rw [← hn.out] at hh; exact hh.at k (by rw [hn.out]; exact hk))
  clear H1 H2 E hz0
  go_enter Try.func11, Try.ntmps11
  go_wp2_with fail
  go_loopw [5] (fun i wr => ∃ k : Nat, k ≤ n ∧ i = .int .i64 k ∧ Hid (Dr w wr)) (fun i _ => n - (intOf i).toNat)
  case atStart => exact ⟨0, Nat.zero_le _, rfl, Hid.mk' (Dr.refl _)⟩
  case round =>
    obtain ⟨k, hk, rfl, HD⟩ := hrel
    by_cases hlt : k < n
    · have d1 := (HD.out.cell _).trans (C1.out k hlt)
      have d2 := (HD.out.cell _).trans (C2.out k hlt)
      have hsp : (k : Int) < (n : Int) := by omega
      go_wp2_with fail
      go_quiet (fail)
      go_wp2_with fail
      go_roundw
      case rel => exact ⟨k + 1, hlt, by go_num, Hid.mk' (HD.out.more _)⟩
      case measure => simp [intOf]; omega
    · have hsp : ¬ (k : Int) < (n : Int) := by omega
      go_wp2_with fail
      go_ret
      exact ⟨rfl, HD.out.below _⟩
end Go.Proofs.Ytffjddabjjcjpaa
