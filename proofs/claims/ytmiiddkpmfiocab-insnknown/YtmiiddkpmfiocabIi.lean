/- Reads of the program. -/
import Derived.Test.YtmiiddkpmfiocabIh
import Derived.Maps.AppendAt
import Derived.Laws.OwnMore
namespace Go.Proofs.Ytmiiddkpmfiocab
open Go.ChangeShapes Go.WideShapes Go.ChangeAt Go.RowKit
set_option maxRecDepth 10000

/-- The registers that are read. -/
def rdN (p d s i : Int) : List Int :=
  if p = 36 then [0] else if p = 35 then ([1, 2, 3] : List Int).take (argN i).toNat
  else if useN p &&& 1 ≠ 0 then (if useN p &&& 4 ≠ 0 then two d s else [d]) else (if useN p &&& 4 ≠ 0 then [s] else [])
def rdL (b : Bool) (p d s i : Int) : List Int := if b then rdN p d s i else []

theorem info_int : (Try.prog.info? 3).map (fun i => (i.zero, i.size, i.bytes)) = some (some (.int .i64 0), 1, 8) := by kernel_rfl

theorem Iw.take {w : World} {base : Nat} {a : Option Addr} {c : Nat} {zs : List Int} (h : Iw w base (.slice a zs.length c) zs) (k : Nat) (hk : k ≤ zs.length) : Iw w base (.slice a k c) (zs.take k) := by
  have hl : (zs.take k).length = k := by rw [List.length_take]; omega
  obtain ⟨a', c', e, h2⟩ := h.lies
  cases e
  refine ⟨_, c, by rw [hl], ?_⟩
  rcases h2 with rfl | ⟨b, off, rfl, h1, h2, h3, h4⟩
  · exact .inl (by simp)
  · refine .inr ⟨b, off, rfl, h1, h2, by omega, ?_⟩
    refine holds_take (ys := zs.drop k) ?_
    rw [List.take_append_drop]
    exact h4

/-- A row that was laid just now, cut. -/
theorem Iw.lit (w : World) (zs : List Int) (t : TypeId) (k : Nat) (hk : k ≤ zs.length) (hm : zs.length ≤ 1000) : Iw (w.alloc (.cells (zs.map (Value.int .i64)).toArray t)) w.heap.size (.slice (some ⟨w.heap.size, 0, none⟩) k zs.length) (zs.take k) := by
  have h := World.ownsRow_lit (base := w.heap.size) (size := 1) (e := t) w (zs.map (Value.int .i64)).toArray zs.length (Nat.le_refl _) (by unfold maxLen; omega) (by simp)
  exact Iw.take (Iw.own (by simpa using h)) k hk

theorem own_base {w : World} {base : Nat} {e : TypeId} {size : Nat} {v : Value} {n : Nat} {xs : List Value} (h : w.ownsRow base e size v n xs) : ∀ k, v.ownBlock = some k → base ≤ k := by
  intro k hk
  rcases h.2 with ⟨rfl, _⟩ | ⟨g, cap, cur, rfl, hg, _⟩
  · cases hk
  · cases hk; exact hg

theorem argN_is (i : Int) : argN i = 1 ∨ argN i = 2 ∨ argN i = 3 := by
  unfold argN
  by_cases h1 : i = 1 ∨ i = 8
  · rw [if_pos h1]; omega
  · rw [if_neg h1]
    by_cases h2 : i = 2 ∨ i = 5
    · rw [if_pos h2]; omega
    · rw [if_neg h2]
      by_cases h3 : 16 ≤ i
      · rw [if_pos h3]; omega
      · rw [if_neg h3]; omega

/-- What is read ends as it began: Sort, Compact and the return. -/
theorem two_len (x y : Int) : (two x y).length ≤ 2 ∧ 1 ≤ (two x y).length := by
  unfold two
  split
  · simp
  · split <;> simp

theorem srt_len (x y : Int) : (srt x y).length = 2 := by
  unfold srt
  split <;> rfl

set_option maxHeartbeats 2000000 in
theorem reads_any (p d s o i : Int) (w : World) (h : InB p d s o i) :
    Calls Try.prog 8 #[insV p d s o i] w fun e w' => ∃ v, e = .returned v ∧ Iw w' w.heap.size v (rdL (mayB p d s o i) p d s i) ∧ Below w.heap.size w w' := by
  have HC := fun u => check_any p d s o i u h
  have HP : mayB p d s o i = true → 1 ≤ p ∧ p ≤ 36 := may_p
  have HU := fun u => use_any p u h.p0 h.p1
  have hu := useN_lt p
  have h1 : bits .and .u16 (useN p : Int) 1 = ((useN p &&& 1 : Nat) : Int) := and16 _ 1 hu (by omega)
  have h4 : bits .and .u16 (useN p : Int) 4 = ((useN p &&& 4 : Nat) : Int) := and16 _ 4 hu (by omega)
  have HA := fun u => arguments_any i u h.i0 h.i1
  have hai := argN_is i
  have HR : Hid (rdN p d s i = if p = 36 then [0] else if p = 35 then ([1, 2, 3] : List Int).take (argN i).toNat
    else if useN p &&& 1 ≠ 0 then (if useN p &&& 4 ≠ 0 then two d s else [d]) else (if useN p &&& 4 ≠ 0 then [s] else [])) := Hid.mk' rfl
  obtain ⟨p0, p1, d0, d1, s0, s1, o0, o1, i0, i1⟩ := h
  obtain ⟨inf, hi, hz0, hz1, hz2⟩ := info_parts info_int
  generalize mayB p d s o i = b at *
  generalize useN p = u at *
  generalize u &&& 1 = n1 at *
  generalize u &&& 4 = n4 at *
  generalize argN i = ar at *
  go_enter Try.func8, Try.ntmps8
  go_wp2_with fail
  refine (HC _).mono ?_
  rintro e w1 ⟨rfl, hb⟩
  obtain ⟨KB0, c0, c1, c2, c3, c4⟩ := cells5 hb
  have KB := Hid.mk' KB0
  have hlt : w.heap.size < w1.heap.size := by have := hb.size; simp at this; omega
  clear hb KB0 HC
  cases b with
  | false =>
    have e1 : ckN false = 130 := rfl
    rw [e1]
    go_wp2_with fail
    go_ret
    exact ⟨_, rfl, ⟨none, 0, rfl, .inl rfl⟩, KB.out⟩
  | true =>
    have e1 : ckN true = 0 := rfl
    rw [e1]
    have HL : Hid (rdL true p d s i = rdN p d s i) := Hid.mk' rfl
    by_cases h36 : p = 36
    · subst h36
      go_wp2_with fail
      go_ret
      have h0 := Iw.lit w1 [0] 3 1 (by simp) (by simp)
      refine ⟨_, rfl, ?_, KB.out.trans ((Below.refl _ _).alloc (by omega) _)⟩
      rw [HL.out, HR.out]
      exact h0.base (by omega)
    by_cases h35 : p = 35
    · subst h35
      have HX : Hid (∀ k : Nat, ar = k → rdL true 35 d s i = [1, 2, 3].take k) := Hid.mk' (fun k e => by
        rw [HL.out, HR.out, if_neg (by omega), if_pos rfl, e]; rfl)
      have hlit := fun k hk => Iw.lit w1 [1, 2, 3] 3 k hk (by simp)
      have HLIT := Hid.mk' hlit
      clear hlit
      rcases hai with rfl | rfl | rfl
      all_goals
        go_wp2_with (go_at_call 17; refine (HA _).mono ?_; rintro e w2 ⟨rfl, rfl⟩)
        go_ret
        refine ⟨_, rfl, ?_, KB.out.trans ((Below.refl _ _).alloc (by omega) _)⟩
      · rw [HX.out 1 rfl]; exact (HLIT.out 1 (by simp)).base (by omega)
      · rw [HX.out 2 rfl]; exact (HLIT.out 2 (by simp)).base (by omega)
      · rw [HX.out 3 rfl]; exact (HLIT.out 3 (by simp)).base (by omega)
    · have HX : Hid (rdL true p d s i = if n1 ≠ 0 then (if n4 ≠ 0 then two d s else [d]) else (if n4 ≠ 0 then [s] else [])) := Hid.mk' (by
        rw [HL.out, HR.out, if_neg h36, if_neg h35])
      clear HL HR HA hai
      have h36' : (p == 36) = false := by simp [h36]
      have h35' : (p == 35) = false := by simp [h35]
      go_wp2_with fail
      refine (HU _).mono ?_
      rintro e w2 ⟨rfl, rfl⟩
      clear HU
      have hnil := Hid.mk' (World.ownsRow_nil w2 w2.heap.size 3 1)
      by_cases hn1 : n1 = 0
      · subst hn1
        by_cases hn4 : n4 = 0
        · subst hn4
          go_wp2_with fail
          refine (sort_any _ w2.heap.size _ [] [] (by simp) ⟨none, 0, rfl, .inl rfl⟩ (by simp)).mono ?_
          rintro e w5 ⟨rfl, I5, b5⟩
          go_wp2_with fail
          refine (compact_any _ _ _ [] [] rfl (by simp) I5 (by simp)).mono ?_
          rintro e w6 ⟨v6, rfl, I6, b6⟩
          go_wp2_with fail
          go_ret
          refine ⟨_, rfl, ?_, KB.out.trans ((b5.trans b6).mono (by omega))⟩
          rw [HX.out]
          rw [if_neg (by simp), if_neg (by simp)]
          exact I6.base (by omega)
        · have hn4' : ¬ (n4 : Int) = 0 := by omega
          go_wp2_with (at_builtin; refine wpList_append_own _ rfl _ _ 36 rfl w2.heap.size 3 inf (.int .i64 0) 1 8 Try.underlying36 hi hz0 hz1 hz2 rfl (by decide) _ _ _ rfl (hnil.out.alloc _) ⟨w2.heap.size, 0, none⟩ 1 1 [.int .i64 s] rfl rfl (cell_one_new _ _ _) (ints_oneCell .i64 [s]) (by unfold maxLen; omega) (by omega) (by simp) ?_; intro v3 w3 hown3 hgrow3 hq; clear hq)
          have HO : Hid (w3.ownsRow w2.heap.size 3 1 v3 ([s] : List Int).length (([s] : List Int).map (Value.int .i64))) := Hid.mk' hown3
          have B : Hid (Below w2.heap.size w2 w3) := Hid.mk' (((Below.refl _ _).alloc (Nat.le_refl _) _).grown hgrow3 (by simp) (fun k hk => by cases hk))
          clear hown3 hgrow3
          refine (sort_any _ w2.heap.size _ [s] [s] (sort_one s) (Iw.own HO.out) (by simp)).mono ?_
          rintro e w5 ⟨rfl, I5, b5⟩
          go_wp2_with fail
          refine (compact_any _ _ _ [s] [s] (compact_one s) (by simp) I5 (by simp)).mono ?_
          rintro e w6 ⟨v6, rfl, I6, b6⟩
          go_wp2_with fail
          go_ret
          refine ⟨_, rfl, ?_, KB.out.trans ((B.out.trans (b5.trans b6)).mono (by omega))⟩
          rw [HX.out]
          rw [if_neg (by simp), if_pos hn4]
          exact I6.base (by omega)
      · have hn1' : ¬ (n1 : Int) = 0 := by omega
        by_cases hn4 : n4 = 0
        · subst hn4
          go_wp2_with (at_builtin; refine wpList_append_own _ rfl _ _ 36 rfl w2.heap.size 3 inf (.int .i64 0) 1 8 Try.underlying36 hi hz0 hz1 hz2 rfl (by decide) _ _ _ rfl (hnil.out.alloc _) ⟨w2.heap.size, 0, none⟩ 1 1 [.int .i64 d] rfl rfl (cell_one_new _ _ _) (ints_oneCell .i64 [d]) (by unfold maxLen; omega) (by omega) (by simp) ?_; intro v3 w3 hown3 hgrow3 hq; clear hq)
          have HO : Hid (w3.ownsRow w2.heap.size 3 1 v3 ([d] : List Int).length (([d] : List Int).map (Value.int .i64))) := Hid.mk' hown3
          have B : Hid (Below w2.heap.size w2 w3) := Hid.mk' (((Below.refl _ _).alloc (Nat.le_refl _) _).grown hgrow3 (by simp) (fun k hk => by cases hk))
          clear hown3 hgrow3
          refine (sort_any _ w2.heap.size _ [d] [d] (sort_one d) (Iw.own HO.out) (by simp)).mono ?_
          rintro e w5 ⟨rfl, I5, b5⟩
          go_wp2_with fail
          refine (compact_any _ _ _ [d] [d] (compact_one d) (by simp) I5 (by simp)).mono ?_
          rintro e w6 ⟨v6, rfl, I6, b6⟩
          go_wp2_with fail
          go_ret
          refine ⟨_, rfl, ?_, KB.out.trans ((B.out.trans (b5.trans b6)).mono (by omega))⟩
          rw [HX.out]
          rw [if_pos hn1, if_neg (by simp)]
          exact I6.base (by omega)
        · have hn4' : ¬ (n4 : Int) = 0 := by omega
          go_wp2_with (first
            | at_builtin; refine wpList_append_own _ rfl _ _ 36 rfl w2.heap.size 3 inf (.int .i64 0) 1 8 Try.underlying36 hi hz0 hz1 hz2 rfl (by decide) _ _ _ rfl (hnil.out.alloc _) ⟨w2.heap.size, 0, none⟩ 1 1 [.int .i64 d] rfl rfl (cell_one_new _ _ _) (ints_oneCell .i64 [d]) (by unfold maxLen; omega) (by omega) (by simp) ?_; intro v3 w3 hown3 hgrow3 hq; clear hq; have b3 : Below w2.heap.size w2 w3 := ((Below.refl _ _).alloc (Nat.le_refl _) _).grown hgrow3 (by simp) (fun k hk => by cases hk); have k2 := (b3.cell (p := ⟨w.heap.size, 2, none⟩) hlt).trans c2; have hs3 := b3.size; have B3 := Hid.mk' b3; clear b3 hgrow3; have O3 := Hid.mk' hown3; clear hown3
            | at_builtin; refine wpList_append_own _ rfl _ _ 36 rfl w2.heap.size 3 inf (.int .i64 0) 1 8 Try.underlying36 hi hz0 hz1 hz2 rfl (by decide) _ _ _ rfl (O3.out.alloc _) ⟨w3.heap.size, 0, none⟩ 1 1 [.int .i64 s] rfl rfl (cell_one_new _ _ _) (ints_oneCell .i64 [s]) (by unfold maxLen; omega) (by omega) (by simp; omega) ?_; intro v4 w4 hown4 hgrow4 hq; clear hq)
          have HO : Hid (w4.ownsRow w2.heap.size 3 1 v4 ([d, s] : List Int).length (([d, s] : List Int).map (Value.int .i64))) := Hid.mk' hown4
          have B : Hid (Below w2.heap.size w2 w4) := Hid.mk' (B3.out.trans (((Below.refl _ _).alloc hs3 _).grown hgrow4 (by simp; omega) (own_base O3.out)))
          clear hown4 hgrow4
          refine (sort_any _ w2.heap.size _ [d, s] (srt d s) (sort_two d s) (Iw.own HO.out) (by simp)).mono ?_
          rintro e w5 ⟨rfl, I5, b5⟩
          go_wp2_with fail
          refine (compact_any _ _ _ (srt d s) (two d s) (compact_two d s) (by have := (two_len d s).1; have := srt_len d s; omega) I5 (by have := srt_len d s; omega)).mono ?_
          rintro e w6 ⟨v6, rfl, I6, b6⟩
          go_wp2_with fail
          go_ret
          refine ⟨_, rfl, ?_, KB.out.trans ((B.out.trans (b5.trans b6)).mono (by omega))⟩
          rw [HX.out]
          rw [if_pos hn1, if_pos hn4]
          exact I6.base (by omega)
end Go.Proofs.Ytmiiddkpmfiocab
