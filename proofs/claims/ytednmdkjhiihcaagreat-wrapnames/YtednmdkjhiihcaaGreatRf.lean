/- Stage 12: two pieces of bytes put together; a copy; whether a packet is none. -/
import Derived.Test.YtednmdkjhiihcaaGreatRe
import Derived.Test.YtednmdkjhiihcaaGreatBy
import Derived.Test.YtednmdkjhiihcaaGreatQ1
import Derived.Deep.LoopGhost
namespace Go.Proofs.YtednmdkjhiihcaaGreat
open Go.ChangeShapes Go.WideShapes Go.ChangeAt Go.RowKit
set_option maxRecDepth 10000

/-- A row of the call's own, cut to nothing. -/
theorem own_cut {w : World} {base g n c : Nat} {e : TypeId} {xs : List Value} (h : w.ownsRow base e 1 (.slice (some ⟨g, 0, none⟩) n c) n xs) : w.ownsRow base e 1 (.slice (some ⟨g, 0, none⟩) 0 c) 0 [] := by
  obtain ⟨_, h2⟩ := h
  refine ⟨rfl, ?_⟩
  rcases h2 with ⟨h3, _⟩ | ⟨g', cap, cur, e', hg, hh, hn, hcap, hsz, htake⟩
  · cases h3
  · simp only [Value.slice.injEq, Option.some.injEq, Addr.mk.injEq] at e'
    obtain ⟨⟨rfl, -⟩, -, rfl⟩ := e'
    exact .inr ⟨_, _, cur, rfl, hg, hh, Nat.zero_le _, hcap, hsz, by simp⟩

set_option maxHeartbeats 1000000 in
theorem grow_any (n : Nat) (w : World) (h0 : 0 < n) (h1 : n ≤ 1000000) : Calls Tryz.prog 61 #[.slice none 0 0, .int .i64 n] w fun e w' => ∃ g c, e = .returned (.slice (some ⟨g, 0, none⟩) 0 c) ∧ w'.ownsRow w.heap.size 5 1 (.slice (some ⟨g, 0, none⟩) 0 c) 0 [] ∧ Below w.heap.size w w' := by
  have hn0 : ¬ (n : Int) < 0 := by omega
  have hn1 : (0 : Int) < n := by omega
  go_enter Tryz.func61, Tryz.ntmps61
  go_wp2_with (at_builtin; go_loud (refine wpList_app_zeros rfl _ _ rfl w.heap.size (.slice none 0 0) 0 [] rfl (World.ownsRow_nil _ _ _ _) n rfl (by omega) (Nat.le_refl _) ?_; intro v1 w1 own1 gr1; have B1 : Hid (Below w.heap.size w w1) := Hid.mk' ((Below.refl _ _).grown gr1 (Nat.le_refl _) (by intro k hk; simp [Value.ownBlock] at hk)); rw [Nat.zero_add, List.nil_append] at own1; obtain ⟨g, c, rfl, hc⟩ := own_some own1 h0; have O1 := Hid.mk' (own_cut own1); clear own1 gr1))
  go_ret
  exact ⟨g, c, rfl, O1.out, B1.out⟩

set_option maxHeartbeats 2000000 in
theorem concat_any (g0 : Nat) (a b : Option Addr) (n m ca cb : Nat) (xs ys : List Int) (t0 : TypeId) (w : World) (hr : w.heap[g0]? = some (.cells #[.slice a n ca, .slice b m cb] t0 (0, 0))) (hx : xs.length = n) (hy : ys.length = m) (hX : Bs w a xs) (hY : Bs w b ys) (hp : 0 < n + m) (hl : n + m ≤ 1000000) :
    Calls Tryz.prog 43 #[.slice (some ⟨g0, 0, none⟩) 2 2] w fun e w' => ∃ v, e = .returned v ∧ w'.ownsRow w.heap.size 5 1 v (n + m) ((xs ++ ys).map (Value.int .u8)) ∧ Below w.heap.size w w' := by
  have HX := Hid.mk' hX
  have HY := Hid.mk' hY
  have HN := Hid.mk' hx
  have HM := Hid.mk' hy
  have c0 : w.cell? ⟨g0, 0, none⟩ = some (.slice a n ca) := cell_of_row w g0 0 _ _ _ hr
  have c1 : w.cell? ⟨g0, 1, none⟩ = some (.slice b m cb) := cell_of_row w g0 1 _ _ _ hr
  have hn0 : ¬ (n : Int) < 0 := by omega
  have hnm0 : ¬ (n : Int) + m < 0 := by omega
  clear hx hy hX hY hr
  go_enter Tryz.func43, Tryz.ntmps43
  go_wp2_with fail
  go_loopg [3, 11] 3 (fun f s3 s11 wr => ∃ i : Nat, s11 = .int .i64 i ∧ s3 = .int .i64 ((if i = 0 then 0 else if i = 1 then n else n + m : Nat) : Int) ∧ i ≤ 2 ∧ 3 - i ≤ f ∧ w = wr)
  case atStart => exact ⟨0, rfl, rfl, by omega, by omega, rfl⟩
  case round =>
    obtain ⟨i, rfl, rfl, hi, hf, rfl⟩ := hrel
    obtain rfl | rfl | rfl : i = 0 ∨ i = 1 ∨ i = 2 := by omega
    · go_wp2_with fail
      go_roundg 2
      case measure => omega
      case rel => exact ⟨1, by go_num, by go_num, by omega, by omega, rfl⟩
    · go_wp2_with fail
      go_roundg 1
      case measure => omega
      case rel => exact ⟨2, by go_num, by go_num, by omega, by omega, rfl⟩
    · go_wp2_with fail
      refine (grow_any (n + m) _ hp hl).mono ?_
      rintro e w1 ⟨g, c, rfl, own1, b1⟩
      have O1 := Hid.mk' own1
      have B1 := Hid.mk' b1
      clear own1 b1
      go_wp2_with fail
      go_loopg [6, 27] 3 (fun f s6 s27 wr => ∃ i : Nat, s27 = .int .i64 i ∧ i ≤ 2 ∧ 3 - i ≤ f ∧ Hid (wr.ownsRow w.heap.size 5 1 s6 (if i = 0 then 0 else if i = 1 then n else n + m) (if i = 0 then [] else if i = 1 then xs.map (Value.int .u8) else (xs ++ ys).map (Value.int .u8))) ∧ Hid (Below w.heap.size w wr))
      case atStart => exact ⟨0, rfl, by omega, by omega, O1, B1⟩
      case round =>
        obtain ⟨i, rfl, hi, hf, HO, HB⟩ := hrel
        obtain rfl | rfl | rfl : i = 0 ∨ i = 1 ∨ i = 2 := by omega
        · have d0 := (HB.out.cell (p := ⟨g0, 0, none⟩) (lt_of_cell c0)).trans c0
          have HS := Hid.mk' (HX.out.below HB.out)
          have HO' : Hid (wr.ownsRow w.heap.size 5 1 u6 0 []) := HO
          clear HO c0 c1
          go_wp2_with (at_builtin; go_loud (refine wpList_app_own rfl _ _ rfl w.heap.size u6 0 [] rfl HO'.out a ca n xs rfl HN.out HS.out (by omega) HB.out.size ?_; intro v1 w2 own1 gr1 ob1; have B2 : Hid (Below w.heap.size w w2) := Hid.mk' (HB.out.grown gr1 HB.out.size (fun i e => (HO'.out.lt i e).1)); rw [Nat.zero_add, List.nil_append] at own1; have O2 := Hid.mk' own1; clear own1 gr1 ob1))
          go_roundg 2
          case measure => omega
          case rel => exact ⟨1, by go_num, by omega, by omega, O2, B2⟩
        · have d0 := (HB.out.cell (p := ⟨g0, 1, none⟩) (lt_of_cell c1)).trans c1
          have HS := Hid.mk' (HY.out.below HB.out)
          have HO' : Hid (wr.ownsRow w.heap.size 5 1 u6 n (xs.map (Value.int .u8))) := HO
          clear HO c0 c1
          go_wp2_with (at_builtin; go_loud (refine wpList_app_own rfl _ _ rfl w.heap.size u6 n _ rfl HO'.out b cb m ys rfl HM.out HS.out (by omega) HB.out.size ?_; intro v1 w2 own1 gr1 ob1; have B2 : Hid (Below w.heap.size w w2) := Hid.mk' (HB.out.grown gr1 HB.out.size (fun i e => (HO'.out.lt i e).1)); rw [← List.map_append] at own1; have O2 := Hid.mk' own1; clear own1 gr1 ob1))
          go_roundg 1
          case measure => omega
          case rel => exact ⟨2, by go_num, by omega, by omega, O2, B2⟩
        · have HO' : Hid (wr.ownsRow w.heap.size 5 1 u6 (n + m) ((xs ++ ys).map (Value.int .u8))) := HO
          clear HO c0 c1
          go_wp2_with fail
          go_ret
          exact ⟨_, rfl, HO'.out, HB.out⟩

/-- A copy of whatever bytes. -/
theorem clone_all (a : Option Addr) (n c : Nat) (zs : List Int) (w : World) (hz' : zs.length = n) (hB : Bs w a zs) :
    Calls Tryz.prog 24 #[.slice a n c] w fun e w' => ∃ v, e = .returned v ∧ w'.ownsRow w.heap.size 5 1 v zs.length (zs.map (Value.int .u8)) ∧ Below w.heap.size w w' := by
  subst hz'
  cases a with
  | some x => exact clone_any x c zs w hB
  | none =>
    have h0 : zs = [] := by
      rcases hB.lies with h | ⟨_, _, h, _⟩
      · exact List.eq_nil_of_length_eq_zero h
      · cases h
    subst h0
    have hy := nil_yes 0 c
    rw [show ([] : List Int).length = 0 from rfl]
    go_enter Tryz.func24, Tryz.ntmps24
    go_wp2_with fail
    go_ret
    exact ⟨_, rfl, World.ownsRow_nil _ _ _ _, Below.refl _ _⟩

/-- Whether a packet is none. -/
theorem wnone_yes (v : Value) (w : World) (h : NoPk w v) : Calls Tryz.prog 31 #[v] w fun e w' => e = .returned (.bool true) ∧ w = w' := by
  have HL := Hid.mk' (load_nil v 0 0 w h)
  clear h
  go_enter Tryz.func31, Tryz.ntmps31
  go_wp2_with fail
  refine HL.out.mono ?_
  rintro e w1 ⟨rfl, rfl⟩
  go_wp2_with fail
  go_ret
  exact ⟨rfl, rfl⟩
theorem wnone_no (p g : Nat) (A B D : List Int) (m : Nat) (w : World) (h : PkIs w p g A B D m) : Calls Tryz.prog 31 #[.pointer (some ⟨p, 0, none⟩)] w fun e w' => e = .returned (.bool false) ∧ Dr w w' := by
  have HL := Hid.mk' (load_any p g A B D m 0 0 w h (by omega) (by omega))
  have he : askE B.length 0 0 = 2 := by unfold askE; rw [if_pos (by omega)]
  rw [he] at HL
  clear h he
  go_enter Tryz.func31, Tryz.ntmps31
  go_wp2_with fail
  refine HL.out.mono ?_
  rintro e w1 ⟨rfl, d1⟩
  go_wp2_with fail
  go_ret
  exact ⟨rfl, d1⟩
end Go.Proofs.YtednmdkjhiihcaaGreat
