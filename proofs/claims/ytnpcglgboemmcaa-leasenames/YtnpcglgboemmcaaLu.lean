/- The walk of the statement LeaseNames. -/
import Derived.Test.YtnpcglgboemmcaaLt
import Derived.Deep.RegionHeld3
namespace Go.Proofs.Ytnpcglgboemmcaa
open Go.ChangeShapes Go.WideShapes Go.ChangeAt Go.RowKit

/-- A book that is none. -/
def NoBook (w : World) (v : Value) : Prop := v = .pointer none ∨ ∃ p, v = .pointer (some ⟨p, 0, none⟩) ∧ w.cell? ⟨p, 0, none⟩ = some (.bool false)

theorem NoBook.below {w w' : World} {v : Value} (h : NoBook w v) (b : Below w.heap.size w w') : NoBook w' v := by
  rcases h with h | ⟨p, h, hc⟩
  · exact .inl h
  · exact .inr ⟨p, h, (b.cell (p := ⟨p, 0, none⟩) (lt_of_cell hc)).trans hc⟩

set_option maxHeartbeats 400000 in
theorem nolend (v : Value) (x y : Int) (w : World) (h : NoBook w v) :
    Calls Try.prog 18 #[v, .agg #[.int .i64 x, .int .i64 y]] w fun e w' => e = .returned (.tuple #[.slice none 0 0, .int .i64 0, .int .i64 1]) ∧ Below w.heap.size w w' := by
  have HK : Hid (Below w.heap.size w (w.alloc (.cells #[.int .i64 x, .int .i64 y] 24))) := (Below.refl _ _).alloc (Nat.le_refl _) _
  rcases h with rfl | ⟨p, rfl, hc⟩
  · go_enter Try.func18, Try.ntmps18
    go_wp2_with fail
    refine (isNone_nil _).mono ?_
    rintro e w' ⟨rfl, rfl⟩
    go_wp2_with fail
    go_ret3
    exact ⟨rfl, HK.out⟩
  · have d0 := (HK.out.cell (p := ⟨p, 0, none⟩) (lt_of_cell hc)).trans hc
    go_enter Try.func18, Try.ntmps18
    go_wp2_with fail
    refine (isNone_zero p _ d0).mono ?_
    rintro e w' ⟨rfl, rfl⟩
    go_wp2_with fail
    go_ret3
    exact ⟨rfl, HK.out⟩

set_option maxHeartbeats 400000 in
theorem noback (v : Value) (id : Int) (w : World) (h : NoBook w v) :
    Calls Try.prog 16 #[v, .int .i64 id] w fun e w' => e = .returned (.int .i64 1) ∧ Below w.heap.size w w' := by
  have HK : Hid (Below w.heap.size w (w.alloc (.cells #[.int .i64 id] 3))) := (Below.refl _ _).alloc (Nat.le_refl _) _
  rcases h with rfl | ⟨p, rfl, hc⟩
  · go_enter Try.func16, Try.ntmps16
    go_wp2_with fail
    refine (isNone_nil _).mono ?_
    rintro e w' ⟨rfl, rfl⟩
    go_wp2_with fail
    go_ret
    exact ⟨rfl, HK.out⟩
  · have d0 := (HK.out.cell (p := ⟨p, 0, none⟩) (lt_of_cell hc)).trans hc
    go_enter Try.func16, Try.ntmps16
    go_wp2_with fail
    refine (isNone_zero p _ d0).mono ?_
    rintro e w' ⟨rfl, rfl⟩
    go_wp2_with fail
    go_ret
    exact ⟨rfl, HK.out⟩

set_option maxHeartbeats 400000 in
theorem noout (v : Value) (w : World) (h : NoBook w v) :
    Calls Try.prog 20 #[v] w fun e w' => e = .returned (.slice none 0 0) ∧ w = w' := by
  rcases h with rfl | ⟨p, rfl, hc⟩
  · go_enter Try.func20, Try.ntmps20
    go_wp2_with fail
    refine (keep_name (isNone_nil _)).mono ?_
    rintro e w' ⟨rfl, rfl⟩
    go_wp2_with fail
    go_ret
    exact ⟨rfl, rfl⟩
  · go_enter Try.func20, Try.ntmps20
    go_wp2_with fail
    refine (keep_name (isNone_zero p _ hc)).mono ?_
    rintro e w' ⟨rfl, rfl⟩
    go_wp2_with fail
    go_ret
    exact ⟨rfl, rfl⟩

/-- The twelve ranges. -/
def twelve : List Rg := [(0, 0), (6, 0), (7, 0), (5, 2), (5, 1), (-1, 1), (0, -1), (9223372036854775807, 1), (1, 9223372036854775807), (9223372036854775807, 9223372036854775807), (0, 6), (-9223372036854775808, 0)]

theorem twelve_wf : ∀ r ∈ twelve, (Lit.int .i64 r.1).wf = true ∧ (Lit.int .i64 r.2).wf = true := by
  intro r hr
  simp only [twelve, List.mem_cons, List.not_mem_nil, or_false] at hr
  rcases hr with rfl | rfl | rfl | rfl | rfl | rfl | rfl | rfl | rfl | rfl | rfl | rfl <;> exact ⟨rfl, rfl⟩

/-- The list of calls that LeaseNames hands to LeaseBooks. -/
theorem four_ok (w : World) (x y : Int) (hx : (Lit.int .i64 x).wf = true) (hy : (Lit.int .i64 y).wf = true) :
    SlOk sh40 (w.alloc (.cells #[.bool false, .int .i64 0, .int .i64 2, .int .i64 1, .bool false, .int .i64 0, .int .i64 x, .int .i64 y, .bool true, .int .i64 x, .int .i64 0, .int .i64 0, .bool false, .int .i64 0, .int .i64 x, .int .i64 y] 40)) (some ⟨w.heap.size, 0, none⟩) 4
      ([(false, 0, 2, 1), (false, 0, x, y), (true, x, 0, 0), (false, 0, x, y)] : List DoM) := by
  refine ⟨⟨(fun h => by cases h), Nat.le_refl _, by decide⟩, .inr ⟨w.heap.size, 0, rfl, ?_⟩, ?_⟩
  · intro i m hm j v hj
    rw [World.cell?_alloc_new]
    have hi : i < 4 := (List.getElem?_eq_some_iff.1 hm).1
    match i, hi with
    | 0, _ => cases hm; match j, hj with | 0, hj => (cases hj; rfl) | 1, hj => (cases hj; rfl) | 2, hj => (cases hj; rfl) | 3, hj => (cases hj; rfl)
    | 1, _ => cases hm; match j, hj with | 0, hj => (cases hj; rfl) | 1, hj => (cases hj; rfl) | 2, hj => (cases hj; rfl) | 3, hj => (cases hj; rfl)
    | 2, _ => cases hm; match j, hj with | 0, hj => (cases hj; rfl) | 1, hj => (cases hj; rfl) | 2, hj => (cases hj; rfl) | 3, hj => (cases hj; rfl)
    | 3, _ => cases hm; match j, hj with | 0, hj => (cases hj; rfl) | 1, hj => (cases hj; rfl) | 2, hj => (cases hj; rfl) | 3, hj => (cases hj; rfl)
  · intro m hm
    rcases List.mem_cons.1 hm with rfl | hm
    · exact ⟨trivial, rfl, rfl, rfl⟩
    rcases List.mem_cons.1 hm with rfl | hm
    · exact ⟨trivial, rfl, hx, hy⟩
    rcases List.mem_cons.1 hm with rfl | hm
    · exact ⟨trivial, hx, rfl, rfl⟩
    rcases List.mem_cons.1 hm with rfl | hm
    · exact ⟨trivial, rfl, hx, hy⟩
    · cases hm

theorem names_start (wr W : World) (hb : Below W.heap.size W wr) :
    Hid (Bs ((wr.alloc (.cells #[.int .u8 0, .int .u8 1, .int .u8 2, .int .u8 3, .int .u8 4, .int .u8 5] 5)).alloc (.cells #[.int .i64 0, .int .i64 0, .int .i64 6, .int .i64 0, .int .i64 7, .int .i64 0, .int .i64 5, .int .i64 2, .int .i64 5, .int .i64 1, .int .i64 (-1), .int .i64 1, .int .i64 0, .int .i64 (-1), .int .i64 9223372036854775807, .int .i64 1, .int .i64 1, .int .i64 9223372036854775807, .int .i64 9223372036854775807, .int .i64 9223372036854775807, .int .i64 0, .int .i64 6, .int .i64 (-9223372036854775808), .int .i64 0] 24)) (some ⟨wr.heap.size, 0, none⟩) [0, 1, 2, 3, 4, 5]) ∧
    Hid (∀ (k : Nat) (r : Rg), twelve[k]? = some r → ((wr.alloc (.cells #[.int .u8 0, .int .u8 1, .int .u8 2, .int .u8 3, .int .u8 4, .int .u8 5] 5)).alloc (.cells #[.int .i64 0, .int .i64 0, .int .i64 6, .int .i64 0, .int .i64 7, .int .i64 0, .int .i64 5, .int .i64 2, .int .i64 5, .int .i64 1, .int .i64 (-1), .int .i64 1, .int .i64 0, .int .i64 (-1), .int .i64 9223372036854775807, .int .i64 1, .int .i64 1, .int .i64 9223372036854775807, .int .i64 9223372036854775807, .int .i64 9223372036854775807, .int .i64 0, .int .i64 6, .int .i64 (-9223372036854775808), .int .i64 0] 24)).cell? ⟨wr.heap.size + 1, k * 2, none⟩ = some (.int .i64 r.1) ∧ ((wr.alloc (.cells #[.int .u8 0, .int .u8 1, .int .u8 2, .int .u8 3, .int .u8 4, .int .u8 5] 5)).alloc (.cells #[.int .i64 0, .int .i64 0, .int .i64 6, .int .i64 0, .int .i64 7, .int .i64 0, .int .i64 5, .int .i64 2, .int .i64 5, .int .i64 1, .int .i64 (-1), .int .i64 1, .int .i64 0, .int .i64 (-1), .int .i64 9223372036854775807, .int .i64 1, .int .i64 1, .int .i64 9223372036854775807, .int .i64 9223372036854775807, .int .i64 9223372036854775807, .int .i64 0, .int .i64 6, .int .i64 (-9223372036854775808), .int .i64 0] 24)).cell? ⟨wr.heap.size + 1, k * 2 + 1, none⟩ = some (.int .i64 r.2)) ∧
    Hid (Below W.heap.size W ((wr.alloc (.cells #[.int .u8 0, .int .u8 1, .int .u8 2, .int .u8 3, .int .u8 4, .int .u8 5] 5)).alloc (.cells #[.int .i64 0, .int .i64 0, .int .i64 6, .int .i64 0, .int .i64 7, .int .i64 0, .int .i64 5, .int .i64 2, .int .i64 5, .int .i64 1, .int .i64 (-1), .int .i64 1, .int .i64 0, .int .i64 (-1), .int .i64 9223372036854775807, .int .i64 1, .int .i64 1, .int .i64 9223372036854775807, .int .i64 9223372036854775807, .int .i64 9223372036854775807, .int .i64 0, .int .i64 6, .int .i64 (-9223372036854775808), .int .i64 0] 24))) ∧ True := by
  have hb1 := hb.alloc hb.size (.cells #[.int .u8 0, .int .u8 1, .int .u8 2, .int .u8 3, .int .u8 4, .int .u8 5] 5)
  refine ⟨?_, ?_, hb1.alloc hb1.size _, trivial⟩
  · exact (bs_new wr [0, 1, 2, 3, 4, 5] 5 (by unfold Bytes; simp) (by simp)).below ((Below.refl _ _).alloc (Nat.le_refl _) _)
  · intro k r hk
    have e : wr.heap.size + 1 = (wr.alloc (.cells #[.int .u8 0, .int .u8 1, .int .u8 2, .int .u8 3, .int .u8 4, .int .u8 5] 5)).heap.size := by simp
    rw [e, World.cell?_alloc_new, World.cell?_alloc_new]
    have hk' : k < 12 := (List.getElem?_eq_some_iff.1 hk).1
    match k, hk' with
    | 0, _ => cases hk; exact ⟨rfl, rfl⟩
    | 1, _ => cases hk; exact ⟨rfl, rfl⟩
    | 2, _ => cases hk; exact ⟨rfl, rfl⟩
    | 3, _ => cases hk; exact ⟨rfl, rfl⟩
    | 4, _ => cases hk; exact ⟨rfl, rfl⟩
    | 5, _ => cases hk; exact ⟨rfl, rfl⟩
    | 6, _ => cases hk; exact ⟨rfl, rfl⟩
    | 7, _ => cases hk; exact ⟨rfl, rfl⟩
    | 8, _ => cases hk; exact ⟨rfl, rfl⟩
    | 9, _ => cases hk; exact ⟨rfl, rfl⟩
    | 10, _ => cases hk; exact ⟨rfl, rfl⟩
    | 11, _ => cases hk; exact ⟨rfl, rfl⟩

theorem lends6 (gb : Nat) (x y : Int) (w : World) (h : Bs w (some ⟨gb, 0, none⟩) [0, 1, 2, 3, 4, 5]) (hx : (Lit.int .i64 x).wf = true) (hy : (Lit.int .i64 y).wf = true) :
    Calls Try.prog 3 #[.slice (some ⟨gb, 0, none⟩) 6 6, .agg #[.int .i64 x, .int .i64 y]] w fun e w' => e = .returned (.bool true) ∧ Below w.heap.size w w' :=
  lends_any (some ⟨gb, 0, none⟩) 6 [0, 1, 2, 3, 4, 5] x y w h ⟨(fun e => by cases e), by decide⟩ hx hy (by decide)
theorem lends0 (x y : Int) (w : World) (hx : (Lit.int .i64 x).wf = true) (hy : (Lit.int .i64 y).wf = true) :
    Calls Try.prog 3 #[.slice none 0 0, .agg #[.int .i64 x, .int .i64 y]] w fun e w' => e = .returned (.bool true) ∧ Below w.heap.size w w' :=
  lends_any none 0 [] x y w ⟨by simp, (fun z hz => by cases hz), .inl rfl⟩ ⟨fun _ => rfl, by decide⟩ hx hy (by decide)
theorem books6 (gb : Nat) (x y : Int) (w : World) (h : Bs w (some ⟨gb, 0, none⟩) [0, 1, 2, 3, 4, 5]) (hx : (Lit.int .i64 x).wf = true) (hy : (Lit.int .i64 y).wf = true) :
    Calls Try.prog 4 #[.slice (some ⟨gb, 0, none⟩) 6 6, .slice (some ⟨w.heap.size, 0, none⟩) 4 4] (w.alloc (.cells #[.bool false, .int .i64 0, .int .i64 2, .int .i64 1, .bool false, .int .i64 0, .int .i64 x, .int .i64 y, .bool true, .int .i64 x, .int .i64 0, .int .i64 0, .bool false, .int .i64 0, .int .i64 x, .int .i64 y] 40)) fun e w' => e = .returned (.bool true) ∧ Below w.heap.size w w' :=
  (books_any (some ⟨gb, 0, none⟩) 6 [0, 1, 2, 3, 4, 5] _ 4 _ _ (h.below ((Below.refl _ _).alloc (Nat.le_refl _) _)) ⟨(fun e => by cases e), by decide⟩ (four_ok w x y hx hy) (by show 4 ≤ _; decide) (by decide)).mono fun _ _ ⟨h1, h2⟩ => ⟨h1, ((Below.refl _ _).alloc (Nat.le_refl _) _).trans (h2.mono (by simp))⟩

set_option maxHeartbeats 2000000 in
set_option maxRecDepth 100000 in
theorem walkLeaseNames (W : World) :
    Calls Try.prog 7 #[] W fun e w' => e = .returned (.bool true) ∧ Below W.heap.size W w' := by
  go_enter Try.func7, Try.ntmps7
  go_wp2_with fail
  go_loopg [1, 2] 2 (fun g s1 s2 wr => ∃ k : Nat, s2 = .int .i64 k ∧ k ≤ 2 ∧ 2 - k ≤ g ∧ Hid (NoBook wr s1) ∧ Hid (Below W.heap.size W wr))
  case atStart => exact ⟨0, rfl, by omega, by omega, .inl rfl, Below.refl _ _⟩
  case round =>
    obtain ⟨k, rfl, hk1, hk2, hN, hb⟩ := hrel
    by_cases hlt : k < 2
    · have hsp : (k : Int) < 2 := by omega
      go_wp2_with fail
      refine (nolend u1 (-1) 0 wr hN.out).mono ?_
      rintro e w1 ⟨rfl, b1⟩
      have N1 := Hid.mk' (hN.out.below b1)
      have B1 : Hid (Below W.heap.size W w1) := hb.out.trans (b1.mono hb.out.size)
      clear b1
      go_wp2_with fail
      refine (noback u1 0 w1 N1.out).mono ?_
      rintro e w2 ⟨rfl, b2⟩
      have N2 := Hid.mk' (N1.out.below b2)
      have B2 : Hid (Below W.heap.size W w2) := B1.out.trans (b2.mono B1.out.size)
      clear b2
      go_wp2_with fail
      refine (noout u1 w2 N2.out).mono ?_
      rintro e w3 ⟨rfl, rfl⟩
      go_wp2_with fail
      go_roundg (2 - (k + 1))
      case measure => omega
      case rel => exact ⟨k + 1, by go_num, by omega, by omega, .inr ⟨_, rfl, by simp⟩, B2.out.alloc B2.out.size _⟩
    · go_upto_region 12 with fail
      go_cut [7, 8, 9] from 14 (fun s7 s8 s9 wx => ∃ gb gl : Nat, s7 = .slice (some ⟨gb, 0, none⟩) 6 6 ∧ s8 = .slice (some ⟨gl, 0, none⟩) 12 12 ∧ s9 = .int .i64 0 ∧ Hid (Bs wx (some ⟨gb, 0, none⟩) [0, 1, 2, 3, 4, 5]) ∧ Hid (∀ (k : Nat) (r : Rg), twelve[k]? = some r → wx.cell? ⟨gl, k * 2, none⟩ = some (.int .i64 r.1) ∧ wx.cell? ⟨gl, k * 2 + 1, none⟩ = some (.int .i64 r.2)) ∧ Hid (Below W.heap.size W wx))
      case first =>
        have HST := names_start wr W hb.out
        go_wp2_with fail
        go_meet
        exact ⟨wr.heap.size, wr.heap.size + 1, rfl, rfl, rfl, HST.1, HST.2.1, HST.2.2.1⟩
      case rest =>
      obtain ⟨gb, gl, rfl, rfl, rfl, HL1, HL2, HL3⟩ := hcut
      clear hb hN
      obtain ⟨wl, hwl⟩ : ∃ wl, wl = wc := ⟨_, rfl⟩
      rw [← hwl] at HL1 HL2 HL3 ⊢
      clear hwl
      go_wp2_with fail
      go_loopg [9] 12 (fun g s9 wr2 => ∃ m : Nat, s9 = .int .i64 m ∧ m ≤ 12 ∧ 12 - m ≤ g ∧ Hid (Below wl.heap.size wl wr2))
      case atStart => exact ⟨0, rfl, by omega, by omega, Below.refl _ _⟩
      case round =>
        obtain ⟨m, rfl, hm1, hm2, hb2⟩ := hrel
        by_cases hlt2 : m < 12
        · have hsp2 : (m : Int) < 12 := by omega
          obtain ⟨⟨x, y⟩, hxy⟩ : ∃ r, twelve[m]? = some r := ⟨_, List.getElem?_eq_getElem (show m < twelve.length from hlt2)⟩
          obtain ⟨hx, hy⟩ := twelve_wf _ (List.mem_of_getElem? hxy)
          obtain ⟨c0, c1⟩ := HL2.out m _ hxy
          have hgl : gl < wl.heap.size := lt_of_cell c0
          have d0 := (hb2.out.cell (p := ⟨gl, m * 2, none⟩) hgl).trans c0
          have d1 := (hb2.out.cell (p := ⟨gl, m * 2 + 1, none⟩) hgl).trans c1
          have HX := Hid.mk' hx
          have HY := Hid.mk' hy
          clear hxy hx hy c0 c1
          have HF : Hid (Bs wr (some ⟨gb, 0, none⟩) [0, 1, 2, 3, 4, 5]) := HL1.out.below hb2.out
          simp only at HX HY d0 d1
          go_upto_region 15 with fail
          go_cut [111] from 67 to 111 (fun s111 wx => s111 = .bool false ∧ Hid (Below wr.heap.size wr wx))
          case first =>
            have hglr : gl < wr.heap.size := Nat.lt_of_lt_of_le hgl hb2.out.size
            have HFD : Hid (Bs wr.drew (some ⟨gb, 0, none⟩) [0, 1, 2, 3, 4, 5]) := HF.out.below ((Below.refl _ _).drew)
            go_region_held3 (fun w' => w'.cell? ⟨gl, m * 2, none⟩ = some (.int .i64 x) ∧ w'.cell? ⟨gl, m * 2 + 1, none⟩ = some (.int .i64 y)) (go_keep) (first | (go_at_call 3; have hq5 := B5.out; refine (lends0 x y _ HX.out HY.out).mono ?_; rintro e w6 ⟨rfl, b6⟩; have hgl5 := Nat.lt_of_lt_of_le hglr hq5.size; have r0 := (b6.cell (p := ⟨gl, m * 2, none⟩) hgl5).trans q0; have r1 := (b6.cell (p := ⟨gl, m * 2 + 1, none⟩) hgl5).trans q1; have HF6 := Hid.mk' (HF5.out.below b6); have B6 := Hid.mk' b6; have hgl6 := Nat.lt_of_lt_of_le hgl5 b6.size; clear b6 hq5) | (go_at_call 3; refine (lends6 gb x y _ HFD.out HX.out HY.out).mono ?_; rintro e w5 ⟨rfl, b5⟩; have q0 := (b5.cell (p := ⟨gl, m * 2, none⟩) hglr).trans d0; have q1 := (b5.cell (p := ⟨gl, m * 2 + 1, none⟩) hglr).trans d1; have HF5 := Hid.mk' (HFD.out.below b5); have B5 := Hid.mk' b5; clear b5) | (go_at_call 4; refine (books6 gb x y _ HF6.out HX.out HY.out).mono ?_; rintro e w7 ⟨rfl, b7⟩; have B7 := Hid.mk' b7; have t0 := (b7.cell (p := ⟨gl, m * 2, none⟩) hgl6).trans r0; have t1 := (b7.cell (p := ⟨gl, m * 2 + 1, none⟩) hgl6).trans r1; clear b7))
            all_goals
              have b8 : Hid (Below wr.heap.size wr w7) := ((Below.refl _ _).drew.trans B5.out).trans ((B6.out.mono B5.out.size).trans (B7.out.mono (Nat.le_trans B5.out.size B6.out.size)))
              clear B5 B6 B7
              go_wp2_with fail
              go_meet
              exact ⟨rfl, b8⟩
          case rest =>
            obtain ⟨rfl, hb3⟩ := hcut
            go_wp2_with fail
            go_roundg (12 - (m + 1))
            case measure => omega
            case rel => exact ⟨m + 1, by go_num, by omega, by omega, hb2.out.trans (hb3.out.mono hb2.out.size)⟩
        · have B2 : Hid (Below W.heap.size W wr) := HL3.out.trans (hb2.out.mono HL3.out.size)
          clear HL1 HL2 HL3 hb2
          go_wp2_with fail
          refine (new_any none 0 0 wr).mono ?_
          rintro e w5 ⟨rfl, hw5⟩
          have K5 : Hid (BookIs w5 wr.heap.size none 0 0 0 (.slice none 0 0) []) := by rw [hw5]; exact bookIs_new wr none 0 0 (by omega) (by omega)
          have B5 : Hid (Below W.heap.size W w5) := by rw [hw5]; exact B2.out.alloc B2.out.size _
          have P5 : W.heap.size ≤ wr.heap.size := B2.out.size
          clear hw5 B2
          generalize wr.heap.size = p at *
          go_wp2_with fail
          refine (blend_yes p none 0 0 0 (.slice none 0 0) [] 0 0 w5 K5.out (by omega) (by omega) (by simp) (by simp)).mono ?_
          rintro e w6 ⟨rfl, ov6, _, k6, _⟩
          have B6 : Below W.heap.size W w6 := B5.out.trans (k6.below B5.out.size (fun k hk => K5.out.apart (by omega)))
          clear k6 B5 K5
          go_wp2_with fail
          refine (awake_any w6).mono ?_
          rintro e w7 ⟨rfl, b7⟩
          have B7 : Below W.heap.size W w7 := B6.trans (b7.mono B6.size)
          clear b7 B6
          go_wp2_with fail
          go_ret
          exact ⟨rfl, B7⟩
end Go.Proofs.Ytnpcglgboemmcaa
