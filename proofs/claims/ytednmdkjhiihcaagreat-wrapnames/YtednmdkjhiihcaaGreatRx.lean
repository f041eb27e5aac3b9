/- Stage 12: the program's Stack. -/
import Derived.Test.YtednmdkjhiihcaaGreatRw
namespace Go.Proofs.YtednmdkjhiihcaaGreat
open Go.ChangeShapes Go.WideShapes Go.ChangeAt Go.RowKit
set_option maxRecDepth 10000
attribute [local go_sem] Oper.semAt_some

/-- A block that lies as it lay, whatever else grows. -/
theorem cells_own {β : Type} (B : Nat) (c : Array Value) (t : TypeId) : Own (fun (_ : β) W => W.heap[B]? = some (.cells c t (0, 0))) := by
  rintro s X Y row hv hg hrow
  refine (hg.block B (Array.getElem?_eq_some_iff.1 hv).1 (fun e => ?_)).trans hv
  obtain ⟨o, ho, hc⟩ := hrow B e.symm
  rw [hv] at ho; cases ho; cases hc

theorem kpB_b {n₀ q : Nat} {w : World} (hn : n₀ ≤ w.heap.size) (hq : q < w.heap.size) (W : World) (l : Nat) (o o' : Obj) (hl : w.heap.size ≤ l) (h : W.heap[l]? = some o) (hc : o.isCells = false) (hk : o.isWalk = false) : KpB n₀ q W (W.putObj l o') :=
  ⟨belowK_b hn W l o o' hl h hc hk, World.putObj_heap_other (by omega)⟩

/-- A call's results are two boxes: a slice of bytes and an error. -/
theorem results_boxes {fn : Func} {p q : Tmp} (h : fn.results = #[.cell p 22, .cell q 25]) {tmps : Array Value} {w : World} {g k : Nat} {a : Option Addr} {n c : Nat} {e : Int}
    (hp : tmps[p]?.getD undef = .pointer (some ⟨g, 0, none⟩)) (hq : tmps[q]?.getD undef = .pointer (some ⟨k, 0, none⟩)) (h1 : w.cell? ⟨g, 0, none⟩ = some (.slice a n c)) (h2 : w.cell? ⟨k, 0, none⟩ = some (.int .i64 e)) :
    (results fn tmps).run Tryz.prog w = .ok (.tuple #[.slice a n c, .int .i64 e]) w := by
  simp [results, h, hp, hq, asAddr, go_sem, h1, h2]

theorem kf_below {B : Nat} {W W' : World} (h : Below W.heap.size W W') : KeepsFrom B W W' := ⟨h.size, fun k _ _ hk _ => (h.block k (Array.getElem?_eq_some_iff.1 hk).1).trans hk⟩

set_option maxHeartbeats 4000000 in
theorem stack_any (a : Option Addr) (n c : Nat) (ys : List Int) (b : Option Addr) (len cap : Nat) (l : List (List Value)) (w : World) (hy : ys.length = n) (hB : Bs w a ys) (hl : l.length = len) (hH : Hb w b l) :
    Calls Tryz.prog 6 #[.slice a n c, .slice b len cap] w fun e w' => ∃ v, e = .returned (.tuple #[v, .int .i64 (skE l ys)]) ∧ w'.ownsRow w.heap.size 5 1 v (skB l ys).length ((skB l ys).map (Value.int .u8)) ∧ Below w.heap.size w w' := by
  have HL := Hid.mk' hl
  have HHb := Hid.mk' hH
  have HCl : Hid (∀ u, Below w.heap.size w u → Calls Tryz.prog 24 #[.slice a n c] u fun e w' => ∃ v, e = .returned v ∧ w'.ownsRow u.heap.size 5 1 v ys.length (ys.map (Value.int .u8)) ∧ Below u.heap.size u w') :=
    Hid.mk' (fun u hu => clone_all a n c ys u hy (hB.below hu))
  have HY := Hid.mk' hB.bytes
  have HYl := Hid.mk' hB.len
  have B1 : Hid (Below w.heap.size w ((w.alloc (.cells #[.slice none 0 0] 22)).alloc (.cells #[.int .i64 0] 25))) := Hid.mk' (((Below.refl _ _).alloc (Nat.le_refl _) _).alloc (by simp) _)
  by_cases h8 : 8 < len
  · have e3 : skE l ys = 3 := by unfold skE; rw [if_neg (by omega)]
    have eB : skB l ys = [] := by unfold skB; rw [e3, if_neg (by omega)]
    rw [e3, eB]
    clear hl hH hy hB
    go_enter Tryz.func6, Tryz.ntmps6
    go_wp2_with fail
    have x1 := (Boxed.new w 22 (.slice none 0 0)).alloc (.cells #[.int .i64 3] 25)
    have x2 := Boxed.new (w.alloc (.cells #[.slice none 0 0] 22)) 25 (.int .i64 3)
    simp only [World.size_alloc] at x2
    exact bodyPost_ret (results_boxes rfl rfl rfl x1.cell x2.cell) rfl ⟨_, rfl, World.ownsRow_nil _ _ _ _, ((Below.refl _ _).alloc (Nat.le_refl _) _).alloc (by simp) _⟩
  · refine (callsIn_wide (n := 5)).1 ?_
    refine callsIn_of_wp_marks Tryz.func6 rfl trivial ?_
    simp only [Tryz.ntmps6, List.size_toArray, List.length_cons, List.length_nil, Nat.reduceAdd, Nat.reduceSub, Array.replicate_succ, Array.replicate_zero, List.push_toArray, List.append_toArray, List.nil_append, List.cons_append]
    clear hl hH hy hB
    gi_wp2_with (first
      | (refine ⟨trivial, ?_⟩; gi_at_call 24; refine (callsIn_wide.2 (HCl.out _ B1.out)).mono ?_; rintro e w1 ⟨v1, rfl, own1, b1⟩; obtain ⟨a1, c1, rfl⟩ := own_slice own1)
      | (refine ⟨trivial, ?_⟩; gi_at_call 25; refine (callsIn_wide.2 (backward_any b len cap _)).mono ?_; rintro e w2 ⟨rfl, rfl⟩))
    have hs1 := b1.size
    simp only [World.size_alloc] at hs1
    obtain ⟨W0, hW0⟩ : ∃ W0, ((w1.alloc (.cells #[.slice a1 ys.length c1] 22)).alloc (.cells #[.int .i64 0] 25)).alloc (.cells #[.slice b len cap] 23) = W0 := ⟨_, rfl⟩
    have bq : Boxed W0 (w1.heap.size + 1 + 1) 23 (.slice b len cap) := by
      rw [← hW0]; have := Boxed.new ((w1.alloc (.cells #[.slice a1 ys.length c1] 22)).alloc (.cells #[.int .i64 0] 25)) 23 (.slice b len cap); simpa only [World.size_alloc] using this
    have bb : Boxed W0 w1.heap.size 22 (.slice a1 ys.length c1) := by
      rw [← hW0]; exact ((Boxed.new w1 _ _).alloc _).alloc _
    have be : Boxed W0 (w1.heap.size + 1) 25 (.int .i64 0) := by
      rw [← hW0]; have := (Boxed.new (w1.alloc (.cells #[.slice a1 ys.length c1] 22)) 25 (.int .i64 0)).alloc (.cells #[.slice b len cap] 23); simpa only [World.size_alloc] using this
    have b4 : Boxed W0 w.heap.size 22 (.slice none 0 0) := by
      rw [← hW0]
      have h0 := (Boxed.new w 22 (.slice none 0 0)).alloc (.cells #[.int .i64 0] 25)
      have h1 : Boxed w1 w.heap.size 22 (.slice none 0 0) := (b1.block _ (by simp; omega)).trans h0
      exact ((h1.alloc _).alloc _).alloc _
    have b5 : Boxed W0 (w.heap.size + 1) 25 (.int .i64 0) := by
      rw [← hW0]
      have h0 := Boxed.new (w.alloc (.cells #[.slice none 0 0] 22)) 25 (.int .i64 0)
      simp only [World.size_alloc] at h0
      have h1 : Boxed w1 (w.heap.size + 1) 25 (.int .i64 0) := (b1.block _ (by simp)).trans h0
      exact ((h1.alloc _).alloc _).alloc _
    have hBl : Below w.heap.size w W0 := by
      rw [← hW0]
      exact (((B1.out.trans (b1.mono (by simp; omega))).alloc (by omega) _).alloc (by simp; omega) _).alloc (by simp; omega) _
    have own0 : W0.ownsRow w.heap.size 5 1 (.slice a1 ys.length c1) ys.length (ys.map (Value.int .u8)) := by
      rw [← hW0]
      exact (((ownsRow_base own1 (by simp; omega)).alloc _).alloc _).alloc _
    have hsz : W0.heap.size = w1.heap.size + 3 := by rw [← hW0]; simp
    rw [hW0]
    clear hW0 own1
    have ok : ∀ j, Hh (l.getD j hz) := getD_hh HHb.out.ok
    have hn5 : 1 ≤ 5 - 1 - 1 := by decide
    have hbx : 0 < len → ∀ x, b = some x → x.block < w.heap.size := by
      intro hlen x hx
      have hL := HL.out
      rcases HHb.out.lies with h | ⟨y, o, e, hy, _⟩
      · omega
      · rw [hx] at e; cases e; exact hy
    refine wpIn_rangeFunc_ownH rfl (by decide) (gf := 47) (lb := #[pp (w1.heap.size + 1 + 1)]) rfl trivial (enters_of Tryz.func47 (by kernel_rfl) rfl)
      (back_stops (5 - 1) (by decide) (w1.heap.size + 1 + 1) w.heap.size b len cap l ok HL.out (by omega) W0 (by omega) bq (HHb.out.below hBl) hbx) KpB.trans (kpB_b (by omega) (by omega)) (Below.refl _ _) (fun _ => rfl)
      (fun pre W => (stP (bkH pre) ys).1 = 0 ∧ (∃ v, Boxed W w1.heap.size 22 v ∧ W.ownsRow w.heap.size 5 1 v (stP (bkH pre) ys).2.length ((stP (bkH pre) ys).2.map (Value.int .u8)) ∧ True) ∧ Boxed W (w1.heap.size + 1 + 1) 23 (.slice b len cap) ∧ Boxed W (w1.heap.size + 1) 25 (.int .i64 0) ∧ Boxed W w.heap.size 22 (.slice none 0 0) ∧ Boxed W (w.heap.size + 1) 25 (.int .i64 0) ∧ Below w.heap.size w W)
      (fun c pre W => (c = .ret ∧ ¬ (stP (bkH pre) ys).1 = 0) ∧ Boxed W w.heap.size 22 (.slice none 0 0) ∧ Boxed W (w.heap.size + 1) 25 (.int .i64 (stP (bkH pre) ys).1) ∧ Below w.heap.size w W)
      (OwnFrom.and (ownFrom_pure _ _) (OwnFrom.and (Own.from (holdsRow_own w.heap.size w1.heap.size 22 5 1 (fun pre => (stP (bkH pre) ys).2.length) (fun pre => (stP (bkH pre) ys).2.map (Value.int .u8)) (fun _ _ => True)) _) (OwnFrom.and (Own.from (boxed_own _ _ (fun _ => Value.slice b len cap)) _) (OwnFrom.and (Own.from (boxed_own _ _ (fun _ => Value.int .i64 0)) _) (OwnFrom.and (Own.from (boxed_own _ _ (fun _ => Value.slice none 0 0)) _) (OwnFrom.and (Own.from (boxed_own _ _ (fun _ => Value.int .i64 0)) _) (ownFrom_below (Nat.le_refl _) (by omega))))))))
      (fun c => OwnFrom.and (ownFrom_pure _ _) (OwnFrom.and (Own.from (boxed_own _ _ (fun _ => Value.slice none 0 0)) _) (OwnFrom.and (Own.from (boxed_own _ _ (fun pre => Value.int .i64 (stP (bkH pre) ys).1)) _) (ownFrom_below (Nat.le_refl _) (by omega)))))
      ⟨rfl, ⟨_, bb, own0, trivial⟩, bq, be, b4, b5, hBl⟩
      (fun x a' W => ∃ Bx, w1.heap.size + 2 < Bx ∧ W.heap[Bx]? = some (.cells x.1.2.toArray 46 (0, 0)) ∧ a' = { tmps := #[.slice a n c, .slice b len cap, undef, undef, pp w.heap.size, pp (w.heap.size + 1), pp w1.heap.size, pp (w1.heap.size + 1), undef, pp Bx, .slice b len cap, .int .i64 (len : Nat), .bool (decide ((8 : Int) < (len : Nat))), .slice a n c, .slice a1 ys.length c1, .slice b len cap, .func (.func 47) #[] #[pp (w1.heap.size + 1 + 1)], .int .i64 (x.1.1 : Nat), .agg x.1.2.toArray, undef, undef, undef, undef, undef, undef, undef, undef, undef, undef], defers := [] })
      (fun x a' _ X Y row hs hg hr => by obtain ⟨Bx, h1, h2, h3⟩ := hs; exact ⟨Bx, h1, cells_own Bx _ _ () X Y row h2 hg (fun r e => (hr r e).2), h3⟩)
      ?assign ?body ?done ?stop
    case assign =>
      rintro lp pre ⟨⟨i, H⟩, hHx⟩ W K ⟨e0, ⟨v, bb1, ov, -⟩, bq1, be1, b41, b51, hB1⟩ hK
      have hHx' : Hh H := hHx
      have hlen := Hid.mk' (hh_len hHx')
      have h1c := Hid.mk' (hh_one hHx')
      rw [show bkE ⟨(i, H), hHx⟩ = #[.int .i64 (i : Nat), .agg H.toArray] from rfl]
      simp only [pp, Array.zip, List.zipWith_toArray, List.foldl_toArray']
      gi_wp2_with (refine wpListIn_store_newAt rfl 46 _ _ rfl _ hz H W.heap.size rfl rfl rfl (by rw [hlen.out, hz_len]) (by rw [hlen.out]; exact info_hh) h1c.out ?_)
      refine hK _ _ ((KeepsOthers.alloc _ _).from _) ⟨(Below.refl _ W).alloc hB1.size _, Below.heap_alloc _ _ _ (by have := bq1.lt; omega)⟩ ⟨e0, ⟨v, bb1.alloc _, ov.alloc _, trivial⟩, bq1.alloc _, be1.alloc _, b41.alloc _, b51.alloc _, hB1.alloc hB1.size _⟩ ⟨W.heap.size, by have := bq1.lt; omega, heap_alloc_new W _, rfl⟩
    case body =>
      rintro lp pre ⟨⟨i, H⟩, hHx⟩ a' W hlp ⟨r, hr⟩ ⟨e0, ⟨v, bb1, ov, -⟩, bq1, be1, b41, b51, hB1⟩ ⟨Bx, hBx, hcx, rfl⟩ hlt
      have hHx' : Hh H := hHx
      have hlen := Hid.mk' (hh_len hHx')
      have hbk : bkH (pre ++ [⟨(i, H), hHx⟩]) = H :: bkH pre := bkH_snoc _ _
      have hpre := Hid.mk' (show ∀ J ∈ bkH pre, Hh J from fun J hJ => by
        simp only [bkH, List.mem_reverse, List.mem_map] at hJ
        obtain ⟨y, -, rfl⟩ := hJ; exact y.2)
      have hzb := Hid.mk' (stP_bytes (bkH pre) ys hpre.out HY.out)
      have hzl : (stP (bkH pre) ys).2.length ≤ 140737488355328 := by
        rcases stP_len (bkH pre) ys hpre.out HY.out with h | ⟨-, h⟩
        · omega
        · rw [h]; exact HYl.out
      obtain ⟨zs, hzs⟩ : ∃ zs, (stP (bkH pre) ys).2 = zs := ⟨_, rfl⟩
      have hstep : (puE H zs = 0 → (stP (H :: bkH pre) ys).1 = 0 ∧ (stP (H :: bkH pre) ys).2 = puB H zs) ∧ (stP (H :: bkH pre) ys).1 = puE H zs := by
        rw [← hzs]
        have e : stP (H :: bkH pre) ys = (puE H (stP (bkH pre) ys).2, puB H (stP (bkH pre) ys).2) := by
          show (if (stP (bkH pre) ys).1 = 0 then _ else _) = _
          rw [if_pos e0]
        rw [e]
        exact ⟨fun h => ⟨h, rfl⟩, rfl⟩
      rw [hzs] at ov hzb hzl
      obtain ⟨a2, c2, rfl, bs2, -⟩ := bs_own ov hzb.out hzl
      have hrg : W.rangeAt Bx 0 H := range_block hcx
      have cb := bb1.cell
      have hsW := hB1.size
      have PS := Hid.mk' (push_any H a2 zs.length c2 zs W hHx' rfl bs2)
      by_cases he : puE H zs = 0
      · rw [he] at PS
        gi_wp2_with (first
          | refine wpListIn_load_mid rfl _ _ rfl Bx 0 rfl H _ hrg rfl rfl (by rw [hlen.out]; exact info_hh) ?_
          | (refine ⟨trivial, ?_⟩; gi_at_call 20; refine (CallsIn.inRound lp (callsIn_wide.2 PS.out)).mono ?_; rintro e w2 ⟨v2, rfl, own2, b2⟩; obtain ⟨a3, c3, rfl⟩ := own_slice own2
             have bb2 : Boxed w2 w1.heap.size 22 _ := (b2.block _ bb1.lt).trans bb1
             have be2 : Boxed w2 (w1.heap.size + 1) 25 _ := (b2.block _ be1.lt).trans be1
             have cb2 := bb2.cell
             have fb2 := bb2.frozen
             have ce2 := be2.cell
             have fe2 := be2.frozen))
        have own3 := ownsRow_base own2 hsW
        have bb2 : Boxed w2 w1.heap.size 22 _ := (b2.block _ bb1.lt).trans bb1
        have be2 : Boxed w2 (w1.heap.size + 1) 25 _ := (b2.block _ be1.lt).trans be1
        have bq2 : Boxed w2 (w1.heap.size + 1 + 1) 23 _ := (b2.block _ bq1.lt).trans bq1
        have b42 : Boxed w2 w.heap.size 22 _ := (b2.block _ b41.lt).trans b41
        have b52 : Boxed w2 (w.heap.size + 1) 25 _ := (b2.block _ b51.lt).trans b51
        have bl2 := b2.mono hsW
        have ba3 := (bl2.setCell (p := ⟨w1.heap.size, 0, none⟩) (by show w.heap.size ≤ w1.heap.size; omega) (Value.slice a3 (puB H zs).length c3)).setCell (p := ⟨w1.heap.size + 1, 0, none⟩) (by show w.heap.size ≤ w1.heap.size + 1; omega) (Value.int .i64 0)
        have r1 := own3.kept (grownBy_setCell' w2 w1.heap.size (Value.slice a3 (puB H zs).length c3)) (.inr (bb2.not_row (by decide) own3).symm)
        have be3 := be2.other (show w1.heap.size + 1 ≠ w1.heap.size by omega) (Value.slice a3 (puB H zs).length c3)
        have r2 := r1.kept (grownBy_setCell' _ (w1.heap.size + 1) (Value.int .i64 0)) (.inr (be3.not_row (by decide) r1).symm)
        refine ⟨((kf_below b2).trans ((KeepsOthers.setCell _ _ _).from _)).trans ((KeepsOthers.setCell _ _ _).from _), ⟨ba3, ?_⟩, ?_⟩
        · rw [Below.heap_setCell _ _ _ _ (by show w1.heap.size + 1 + 1 ≠ w1.heap.size + 1; omega), Below.heap_setCell _ _ _ _ (by show w1.heap.size + 1 + 1 ≠ w1.heap.size; omega)]
          exact b2.block _ bq1.lt
        · show (stP (bkH (pre ++ [⟨(i, H), hHx⟩])) ys).1 = 0 ∧ (∃ v, Boxed _ w1.heap.size 22 v ∧ World.ownsRow _ w.heap.size 5 1 v (stP (bkH (pre ++ [⟨(i, H), hHx⟩])) ys).2.length ((stP (bkH (pre ++ [⟨(i, H), hHx⟩])) ys).2.map (Value.int .u8)) ∧ True) ∧ _
          rw [hbk]
          refine ⟨(hstep.1 he).1, ⟨_, (bb2.set _).other (by omega) _, ?_, trivial⟩, (bq2.other (by omega) _).other (by omega) _, be3.set _, (b42.other (by omega) _).other (by omega) _, (b52.other (by omega) _).other (by omega) _, hB1.trans ba3⟩
          rw [(hstep.1 he).2]; exact r2
      · obtain ⟨E, hE⟩ : ∃ E, puE H zs = E := ⟨_, rfl⟩
        rw [hE] at PS he hstep
        have hmx : Tryz.prog.follows .mixedOrders = true := by kernel_rfl
        gi_wp2_with (first
          | refine wpListIn_load_mid rfl _ _ rfl Bx 0 rfl H _ hrg rfl rfl (by rw [hlen.out]; exact info_hh) ?_
          | (refine ⟨trivial, ?_⟩; gi_at_call 20; refine (CallsIn.inRound lp (callsIn_wide.2 PS.out)).mono ?_; rintro e w2 ⟨v2, rfl, own2, b2⟩; obtain ⟨a3, c3, rfl⟩ := own_slice own2
             have bb2 : Boxed w2 w1.heap.size 22 _ := (b2.block _ bb1.lt).trans bb1
             have be2 : Boxed w2 (w1.heap.size + 1) 25 _ := (b2.block _ be1.lt).trans be1
             have cb2 := bb2.cell
             have fb2 := bb2.frozen
             have ce2 := be2.cell
             have fe2 := be2.frozen))
        have bb2 : Boxed w2 w1.heap.size 22 _ := (b2.block _ bb1.lt).trans bb1
        have be2 : Boxed w2 (w1.heap.size + 1) 25 _ := (b2.block _ be1.lt).trans be1
        have b42 : Boxed w2 w.heap.size 22 _ := (b2.block _ b41.lt).trans b41
        have b52 : Boxed w2 (w.heap.size + 1) 25 _ := (b2.block _ b51.lt).trans b51
        have bl2 := b2.mono hsW
        have ba3 := (bl2.setCell (p := ⟨w1.heap.size, 0, none⟩) (by show w.heap.size ≤ w1.heap.size; omega) (Value.slice a3 (puB H zs).length c3)).setCell (p := ⟨w1.heap.size + 1, 0, none⟩) (by show w.heap.size ≤ w1.heap.size + 1; omega) (Value.int .i64 E)
        have be3 := (be2.other (show w1.heap.size + 1 ≠ w1.heap.size by omega) (Value.slice a3 (puB H zs).length c3)).set (.int .i64 E)
        have b43 := (b42.other (show w.heap.size ≠ w1.heap.size by omega) (Value.slice a3 (puB H zs).length c3)).other (show w.heap.size ≠ w1.heap.size + 1 by omega) (.int .i64 E)
        have b53 := (b52.other (show w.heap.size + 1 ≠ w1.heap.size by omega) (Value.slice a3 (puB H zs).length c3)).other (show w.heap.size + 1 ≠ w1.heap.size + 1 by omega) (.int .i64 E)
        have kf := ((kf_below b2).trans ((KeepsOthers.setCell _ ⟨w1.heap.size, 0, none⟩ (Value.slice a3 (puB H zs).length c3)).from W0.heap.size)).trans ((KeepsOthers.setCell _ ⟨w1.heap.size + 1, 0, none⟩ (Value.int .i64 E)).from W0.heap.size)
        generalize ((w2.setCell ⟨w1.heap.size, 0, none⟩ (Value.slice a3 (puB H zs).length c3)).setCell ⟨w1.heap.size + 1, 0, none⟩ (Value.int .i64 E)) = w3 at *
        have cx := be3.cell
        have c4 := b43.cell
        have f4 := b43.frozen
        have c5 := b53.cell
        have f5 := b53.frozen
        have n1 : ¬ w1.heap.size + 1 = w.heap.size := by omega
        have n2 : ¬ w.heap.size + 1 = w.heap.size := by omega
        have n3 : ¬ w.heap.size = w.heap.size + 1 := by omega
        have hEb : (E != 0) = true := by simp [he]
        gi_region_with_o (fail)
        all_goals gi_wp2
        all_goals
          have z4 := (b43.set (.slice none 0 0)).other (show w.heap.size ≠ w.heap.size + 1 by omega) (.int .i64 E)
          have z5 := (b53.other (show w.heap.size + 1 ≠ w.heap.size by omega) (.slice none 0 0)).set (.int .i64 E)
          have zb := (((hB1.trans ba3).setCell (p := ⟨w.heap.size, 0, none⟩) (Nat.le_refl _) (.slice none 0 0)).setCell (p := ⟨w.heap.size + 1, 0, none⟩) (Nat.le_succ _) (.int .i64 E)).drew
          refine ⟨((kf.trans ((KeepsOthers.setCell _ _ _).from _)).trans ((KeepsOthers.setCell _ _ _).from _)).trans ((KeepsOthers.drew _).from _), ?_⟩
          show (_ ∧ ¬ (stP (bkH (pre ++ [⟨(i, H), hHx⟩])) ys).1 = 0) ∧ _ ∧ Boxed _ (w.heap.size + 1) 25 (.int .i64 (stP (bkH (pre ++ [⟨(i, H), hHx⟩])) ys).1) ∧ _
          rw [hbk, hstep.2]
          exact ⟨⟨rfl, he⟩, z4, z5, zb⟩
    case done =>
      rintro D xs W hD rfl ⟨e0, ⟨v, bb1, ov, -⟩, bq1, be1, b41, b51, hB1⟩ hKD
      have hfin : bkH (bkL l ok len) = l := by rw [bkH_drop l ok len (by rw [HL.out]; exact Nat.le_refl _), HL.out, Nat.sub_self, List.drop_zero]
      rw [hfin] at e0 ov
      have es : skE l ys = 0 := by unfold skE; rw [if_pos (by have := HL.out; omega)]; exact e0
      have eS : skB l ys = (stP l ys).2 := by unfold skB; rw [if_pos es]
      obtain ⟨a2, c2, rfl⟩ := own_slice ov
      have cb := bb1.cell
      have c4 := b41.cell
      have f4 := b41.frozen
      have c5 := b51.cell
      have f5 := b51.frozen
      have n2 : ¬ w.heap.size + 1 = w.heap.size := by omega
      have n3 : ¬ w.heap.size = w.heap.size + 1 := by omega
      have z4 := (b41.set (.slice a2 (stP l ys).2.length c2)).other (show w.heap.size ≠ w.heap.size + 1 by omega) (.int .i64 0)
      have y5 := b51.other (show w.heap.size + 1 ≠ w.heap.size by omega) (.slice a2 (stP l ys).2.length c2)
      have z5 := y5.set (.int .i64 0)
      have zb := (hB1.setCell (p := ⟨w.heap.size, 0, none⟩) (Nat.le_refl _) (.slice a2 (stP l ys).2.length c2)).setCell (p := ⟨w.heap.size + 1, 0, none⟩) (Nat.le_succ _) (.int .i64 0)
      have r1 := ov.kept (grownBy_setCell' W w.heap.size (.slice a2 (stP l ys).2.length c2)) (.inr (b41.not_row (by decide) ov).symm)
      have r2 := r1.kept (grownBy_setCell' _ (w.heap.size + 1) (.int .i64 0)) (.inr (y5.not_row (by decide) r1).symm)
      have hK2 := ((KeepsOthers.setCell (W.setCell ⟨w.heap.size, 0, none⟩ (.slice a2 (stP l ys).2.length c2)) ⟨w.heap.size + 1, 0, none⟩ (.int .i64 0)).same D _ ((KeepsOthers.setCell W ⟨w.heap.size, 0, none⟩ (.slice a2 (stP l ys).2.length c2)).same D _ hKD rfl) rfl)
      gi_wp2
      refine ⟨by simp, .inl ⟨_, _, rfl, run_takeDeferred hK2, ?_⟩⟩
      have u4 := z4.kept (grownBy_putObj' _ D (.deferred none)) (by intro e; cases e; omega)
      have u5 := z5.kept (grownBy_putObj' _ D (.deferred none)) (by intro e; have := Option.some.inj e; omega)
      rw [es, eS]
      exact ⟨_, results_boxes rfl rfl rfl u4.cell u5.cell, _, rfl, ownsRow_putObj r2 (.deferred none) hK2 rfl, zb.trans (belowK_b (w := w) (Nat.le_refl _) _ D _ _ (by omega) hK2 rfl rfl)⟩
    case stop =>
      rintro D cc pre W hD ⟨k, hk, rfl⟩ ⟨⟨rfl, hne⟩, b41, b51, hB1⟩ hKD
      have hkl : bkH (bkL l ok k) = l.drop (l.length - k) := bkH_drop l ok k (by rw [HL.out]; exact hk)
      rw [hkl] at hne b51
      have eb := stP_bad l ys _ hne
      have es : skE l ys = (stP (l.drop (l.length - k)) ys).1 := by unfold skE; rw [if_pos (by have := HL.out; omega)]; exact eb
      have eS : skB l ys = [] := by unfold skB; rw [es, if_neg hne]
      gi_wp2
      refine ⟨by simp, .inl ⟨_, _, rfl, run_takeDeferred hKD, ?_⟩⟩
      have u4 := b41.kept (grownBy_putObj' _ D (.deferred none)) (by intro e; cases e; omega)
      have u5 := b51.kept (grownBy_putObj' _ D (.deferred none)) (by intro e; have := Option.some.inj e; omega)
      rw [es, eS]
      exact ⟨_, results_boxes rfl rfl rfl u4.cell u5.cell, _, rfl, World.ownsRow_nil _ _ _ _, hB1.trans (belowK_b (w := w) (Nat.le_refl _) _ D _ _ (by omega) hKD rfl rfl)⟩
end Go.Proofs.YtednmdkjhiihcaaGreat
