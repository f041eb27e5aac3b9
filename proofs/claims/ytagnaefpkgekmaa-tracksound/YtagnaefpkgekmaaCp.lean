/- The laws' spare, spoil, kept. -/
import Derived.Test.YtagnaefpkgekmaaCo
namespace Go.Proofs.Ytagnaefpkgekmaa
open Go.ChangeShapes Go.WideShapes Go.ChangeAt Go.RowKit Go.Maps Go.Sort Go.Shelf
set_option maxRecDepth 10000

/-- The marked room. -/
def mkL (k : Nat) : List Kn := (List.range k).map fun (i : Nat) => ((-7 : Int), (i : Int))
theorem mkL_succ (k : Nat) : mkL (k + 1) = mkL k ++ [((-7 : Int), (k : Int))] := by
  unfold mkL; rw [List.range_succ, List.map_append]; rfl
theorem mkL_len (k : Nat) : (mkL k).length = k := by simp [mkL]
theorem mkL_get {k i : Nat} (h : i < k) : (mkL k)[i]? = some ((-7 : Int), (i : Int)) := by
  unfold mkL; rw [List.getElem?_map, List.getElem?_range h]; rfl

/-- A list that lies, cell by cell. -/
theorem lkn_cells {w : World} {b off : Nat} {l : List Kn} (h : Lkn w b off l) : ∀ (j : Nat) (u : Value), (knC l)[j]? = some u → w.cell? ⟨b, off + j, none⟩ = some u := by
  intro j u hj
  have hlt : j < l.length * 2 := by rw [← knC_length]; exact (List.getElem?_eq_some_iff.1 hj).1
  obtain ⟨⟨i, n⟩, hq⟩ : ∃ q, l[j / 2]? = some q := ⟨_, List.getElem?_eq_getElem (by omega)⟩
  obtain ⟨a0, a1⟩ := knC_at l (j / 2) _ _ hq
  obtain ⟨c0, c1⟩ := h (j / 2) i n hq
  have hm : j % 2 = 0 ∨ j % 2 = 1 := by omega
  rcases hm with e | e
  · rw [show j = j / 2 * 2 by omega, a0] at hj
    rw [show off + j = off + j / 2 * 2 by omega, c0]; exact hj
  · rw [show j = j / 2 * 2 + 1 by omega, a1] at hj
    rw [show off + j = off + j / 2 * 2 + 1 by omega, c1]; exact hj

/-- A whole list is appended to none. -/
theorem wpList_app_kns {l : List Kn} {w : World} {ops : Array Oper} {rest : List Oper} {o : Oper} {a : Act} {Q : Exit → Act → World → Prop} (hgd : o.guard = none) (s x : Operand)
    (ho : o.op = .call { callee := .builtin .append, args := #[s, x], argTypes := #[22, 22] })
    (hs : a.eval s = .slice none 0 0) (xa : Option Addr) (xc m : Nat) (hx : a.eval x = .slice xa m xc) (hm : l.length = m) (hy : l = [] ∨ ∃ b off, xa = some ⟨b, off, none⟩ ∧ Lkn w b off l) (hsz : m * 16 ≤ 140737488351232)
    (h : ∀ v' w', w'.ownsRow w.heap.size 60 2 v' m (knC l) → Below w.heap.size w w' → wpList Try.prog ops Q rest (a.put o.dst v') w') : wpList Try.prog ops Q (o :: rest) a w := by
  obtain ⟨i0, hif, hz0, hz1, hz2⟩ := known_info
  refine wpList_plain hgd fun K hK => ?_
  obtain ⟨v', w', hrun, h1, h2⟩ : ∃ v' w', (Builtin.append_ #[22, 22] o.type #[.slice none 0 0, .slice xa m xc]).run Try.prog w = .ok v' w' ∧ w'.ownsRow w.heap.size 60 2 v' m (knC l) ∧ Below w.heap.size w w' := by
    rcases Nat.eq_zero_or_pos m with h0 | h0
    · subst h0
      obtain rfl := List.eq_nil_of_length_eq_zero hm
      refine ⟨.slice none 0 0, w, ?_, World.ownsRow_nil _ _ _ _, Below.refl _ _⟩
      cases xa <;> simp [Builtin.append_, run_underlying Try.underlying22, Go.sizeOf, typeInfo, hif, Builtin.lenOf, Builtin.firstCells, loadCells, loadCellsFrom]
    · rcases hy with h | ⟨y, off, rfl, hc⟩
      · rw [h] at hm; simp at hm; omega
      · obtain ⟨v', w', hr, q1, q2, q3⟩ := run_append_own2 (P := Try.prog) w w.heap.size 22 o.type 60 i0 (.agg #[.int .i64 0, .int .i64 0]) 2 16 Try.underlying22 hif hz0 hz1 hz2 rfl (by decide) (.slice none 0 0) 0 [] (World.ownsRow_nil _ _ _ _) ⟨y, off, none⟩ m xc (knC l) (by rw [knC_length, hm]) (fun j u hu => by rw [addr_add]; exact lkn_cells hc j u hu) (knC_one l) (by unfold maxLen; omega) (by omega) (Nat.le_refl _)
        refine ⟨v', w', hr, by simpa using q1, (Below.refl _ w).grown q2 (Nat.le_refl _) (fun k e => by simp [Value.ownBlock] at e)⟩
  unfold Oper.wp
  simp [execOp, ho, resolve, invoke, builtin, hs, hx, hrun, Result.andThen]
  exact hK _ _ (h v' w' h1 h2)

set_option maxHeartbeats 2000000 in
theorem spare_any (v : Value) (l : List Kn) (w : World) (hv : Ks w v l) (hbig : l.length * 16 ≤ 140737488351232) :
    Calls Try.prog 9 #[v] w fun e w' => (∃ g c, e = .returned (.slice (some ⟨g, 0, none⟩) l.length c) ∧ l.length + 4 ≤ c ∧ w.heap.size ≤ g ∧ Lkn w' g 0 (l ++ mkL 4)) ∧ Below w.heap.size w w' := by
  obtain ⟨iN, h1, h2, h3, h4⟩ := known_info
  obtain ⟨a, c, rfl, hl⟩ := hv.lies
  clear hv
  obtain ⟨n, hn⟩ : ∃ n, l.length = n := ⟨_, rfl⟩
  rw [hn] at hbig ⊢
  have HL := Hid.mk' hn
  have HLies := Hid.mk' hl
  clear hn hl
  go_enter Try.func9, Try.ntmps9
  go_wp2_with (at_builtin; refine wpList_app_kns rfl _ _ rfl rfl a c n rfl HL.out HLies.out hbig ?_; intro v1 w1 o1 b1)
  have O1 := Hid.mk' o1
  have B1 := Hid.mk' b1
  clear o1 b1
  go_loopw [3, 4] (fun s i wr => ∃ k : Nat, k ≤ 4 ∧ i = .int .i64 k ∧ Hid (wr.ownsRow w.heap.size 60 2 s (n + k) (knC (l ++ mkL k))) ∧ Hid (Below w.heap.size w wr)) (fun _ i _ => 4 - (iv i).toNat)
  case atStart => exact ⟨0, by omega, rfl, Hid.mk' (by simpa [mkL] using O1.out), B1⟩
  case round =>
    obtain ⟨k, hk, rfl, hO, hB⟩ := hrel
    by_cases hlt : k < 4
    · have hlk : (k : Int) < 4 := by omega
      have hks := hB.out.size
      have hcell : ∀ (j : Nat) (u : Value), ([.int .i64 (-7), .int .i64 k] : List Value)[j]? = some u → (wr.alloc (.cells #[.int .i64 (-7), .int .i64 k] 60)).cell? (Addr.add ⟨wr.heap.size, 0, none⟩ j) = some u := by
        intro j u hj
        rw [addr_add, Nat.zero_add, World.cell?_alloc_new, List.getElem?_toArray]; exact hj
      have HCELL := Hid.mk' hcell
      clear hcell
      go_wp2_with (at_builtin; refine wpList_append_own2 rfl _ _ 22 rfl w.heap.size 60 iN (.agg #[.int .i64 0, .int .i64 0]) 2 16 Try.underlying22 h1 h2 h3 h4 rfl (by decide) _ _ _ rfl (hO.out.alloc _) ⟨wr.heap.size, 0, none⟩ 1 1 [.int .i64 (-7), .int .i64 k] rfl rfl HCELL.out (by intro u hu; simp at hu; rcases hu with rfl | rfl <;> rfl) (by unfold maxLen; omega) (by omega) (by simp; omega) ?_; intro v' w5 hown5 hgr5; intro hwh; have HO5 := Hid.mk' hown5; have HG5 := Hid.mk' hgr5; clear hown5 hgr5 hwh)
      have B5 : Hid (Below w.heap.size w w5) := Hid.mk' ((hB.out.alloc hB.out.size _).grown HG5.out (by simp; omega) (fun j e => own_base hO.out j e))
      go_roundw
      case rel => exact ⟨k + 1, hlt, by go_num, Hid.mk' (by
        have e := HO5.out
        rw [mkL_succ, ← List.append_assoc, knC_append]
        exact e), B5⟩
      case measure => simp [iv]; omega
    · have hlk : ¬ (k : Int) < 4 := by omega
      have hk3 : k = 4 := by omega
      subst hk3
      have O3 := hO.out
      rcases O3.2 with ⟨-, h0⟩ | ⟨g, cap, cur, rfl, hgb, hg, hnc, hcm, hcs, htake⟩
      · omega
      have HX : Hid (Lkn wr g 0 (l ++ mkL 4)) := Hid.mk' (by
        refine own_lkn (base := w.heap.size) (c := cap) ?_
        have e : (l ++ mkL 4).length = n + 4 := by rw [List.length_append, HL.out]; rfl
        rw [e]
        exact hO.out)
      have hnc' : (n : Int) ≤ (cap : Int) := by omega
      have hnc2 : n + 4 ≤ cap := hnc
      clear O3 hg hcs htake hnc
      go_wp2_with fail
      go_ret
      exact ⟨⟨g, cap, rfl, hnc2, hgb, HX.out⟩, hB.out⟩

set_option maxHeartbeats 4000000 in
theorem kept_any (g c' : Nat) (v : Value) (l : List Kn) (w : World) (hv : Ks w v l) (hX : Lkn w g 0 (l ++ mkL 4)) (hc' : l.length + 4 ≤ c') :
    Calls Try.prog 20 #[.slice (some ⟨g, 0, none⟩) l.length c', v] w fun e w' => e = .returned (.bool true) ∧ Dr w w' := by
  obtain ⟨a, c, rfl, hl⟩ := hv.lies
  have hlen := hv.len
  have HB := Hid.mk' hv.inb
  clear hv
  obtain ⟨n, hn⟩ : ∃ n, l.length = n := ⟨_, rfl⟩
  rw [hn] at hc' hlen ⊢
  have HL := Hid.mk' hn
  have HX := Hid.mk' hX
  have HLies := Hid.mk' hl
  clear hn hl hX
  have hn3 : ((n : Int) + 4) ≤ (c' : Int) := by omega
  have hn3' : (n : Int) + 4 ≤ 9223372036854775807 := by omega
  go_enter Try.func20, Try.ntmps20
  go_wp2_with fail
  go_loopw [6] (fun i wr => ∃ k : Nat, k ≤ n + 4 ∧ i = .int .i64 k ∧ Hid (Dr w wr)) (fun i _ => n + 4 - (iv i).toNat)
  case atStart => exact ⟨0, by omega, rfl, Hid.mk' (Dr.refl _)⟩
  case round =>
    obtain ⟨k, hk, rfl, hD⟩ := hrel
    by_cases hlt : k < n + 4
    · have hlk : (k : Int) < (n : Int) + 4 := by omega
      by_cases hkn : k < n
      · have hkn' : (k : Int) < (n : Int) := by omega
        have hkn4 : ¬ n ≤ k := by omega
        have hkn5 : ¬ (n : Int) ≤ (k : Int) := by omega
        obtain ⟨b, off, ea, hbl, c0, c1, i0, i1⟩ := lkn_at HLies.out HB.out (show k < l.length by rw [HL.out]; exact hkn)
        subst ea
        obtain ⟨e0, e1⟩ := HX.out k (idA l k) (bA l k) (by rw [List.getElem?_append_left (by rw [HL.out]; exact hkn)]; exact getA (by rw [HL.out]; exact hkn))
        rw [Nat.zero_add] at e0 e1
        have d0 := (hD.out.cell _).trans c0
        have d1 := (hD.out.cell _).trans c1
        have e0 := (hD.out.cell _).trans e0
        have e1 := (hD.out.cell _).trans e1
        clear c0 c1 HX HLies
        generalize idA l k = I at *
        generalize bA l k = N at *
        go_wp2_with fail
        refine wp_region_quiet_lit (by kernel_rfl) (by kernel_rfl) ?_
        repeat (with_reducible refine wpQuiet_step (fun K hK => ?_); go_simp; with_reducible refine hK _ ?_; clear hK K)
        refine wpQuiet_nil ?_
        rintro _ ⟨nq, rfl⟩
        go_wp2_with fail
        go_roundw
        case rel => exact ⟨k + 1, hlt, by go_num, Hid.mk' (hD.out.more _)⟩
        case measure => simp [iv]; omega
      · have hkn' : ¬ (k : Int) < (n : Int) := by omega
        have hkn2 : (n : Int) ≤ (k : Int) := by omega
        have hkn4 : n ≤ k := by omega
        have hq2 : (l ++ mkL 4)[k]? = some ((-7 : Int), ((k - n : Nat) : Int)) := by
          rw [List.getElem?_append_right (by rw [HL.out]; omega), HL.out]
          exact mkL_get (by omega)
        obtain ⟨e0, e1⟩ := HX.out k _ _ hq2
        rw [Nat.zero_add] at e0 e1
        have e0 := (hD.out.cell _).trans e0
        have e1 := (hD.out.cell _).trans e1
        have hw : IntKind.i64.wrap ((k : Int) - (n : Int)) = ((k - n : Nat) : Int) := by rw [IntWalk.i64_in _ ⟨by omega, by omega⟩]; omega
        clear hq2 HX HLies
        generalize ((k - n : Nat) : Int) = M at *
        go_wp2_with fail
        refine wp_region_quiet_lit (by kernel_rfl) (by kernel_rfl) ?_
        repeat (with_reducible refine wpQuiet_step (fun K hK => ?_); go_simp; with_reducible refine hK _ ?_; clear hK K)
        refine wpQuiet_nil ?_
        rintro _ ⟨nq, rfl⟩
        go_wp2_with fail
        go_roundw
        case rel => exact ⟨k + 1, hlt, by go_num, Hid.mk' (hD.out.more _)⟩
        case measure => simp [iv]; omega
    · have hlk : ¬ (k : Int) < (n : Int) + 4 := by omega
      go_wp2_with fail
      go_ret
      exact ⟨rfl, hD.out⟩

set_option maxHeartbeats 2000000 in
theorem spoil_any (base : Nat) (v : Value) (n : Nat) (xs : List Value) (w : World) (h : w.ownsRow base 60 2 v n xs) (hbase : base ≤ w.heap.size) (hn : n ≤ 1000) :
    Calls Try.prog 17 #[v] w fun e w' => e = .returned (.tuple #[]) ∧ Below base w w' := by
  obtain ⟨iN, h1, h2, h3, h4⟩ := known_info
  obtain ⟨a, c, rfl⟩ := own_slice h
  have HO := Hid.mk' h
  have HB0 : Hid (Below base w w) := Hid.mk' (Below.refl _ _)
  clear h
  go_enter Try.func17, Try.ntmps17
  go_wp2_with fail
  go_loopw [2] (fun r wr => ∃ (k : Nat) (ys : List Value), r = .int .i64 k ∧ k ≤ n ∧ Hid (wr.ownsRow base 60 2 (.slice a n c) n ys) ∧ Hid (Below base w wr)) (fun r _ => ((n : Int) - iv r).toNat)
  case atStart => exact ⟨0, xs, rfl, Nat.zero_le _, HO, HB0⟩
  case round =>
    clear HO HB0
    obtain ⟨k, ys, rfl, hk, hO, hB⟩ := hrel
    by_cases hkn : k < n
    · obtain ⟨g, c2, hv⟩ : ∃ g c2, Value.slice a n c = .slice (some ⟨g, 0, none⟩) n c2 := by
        rcases hO.out.2 with ⟨_, h0⟩ | ⟨g, cap, cur, e, _⟩
        · omega
        · exact ⟨g, cap, e⟩
      simp only [Value.slice.injEq, true_and] at hv
      obtain ⟨rfl, rfl⟩ := hv
      have hyl : ys.length = n * 2 := hO.out.1
      obtain ⟨u0, hu0⟩ : ∃ u, ys[k * 2]? = some u := ⟨_, List.getElem?_eq_getElem (by omega)⟩
      obtain ⟨u1, hu1⟩ : ∃ u, ys[k * 2 + 1]? = some u := ⟨_, List.getElem?_eq_getElem (by omega)⟩
      have e0 := (hO.out.cellAt (k * 2) (by omega)).trans hu0
      have e1 := (hO.out.cellAt (k * 2 + 1) (by omega)).trans hu1
      have f0 := hO.out.frozenAt (k * 2)
      have f1 := hO.out.frozenAt (k * 2 + 1)
      have hlk : (k : Int) < (n : Int) := by omega
      have hgb : base ≤ g := (hO.out.lt g rfl).1
      have S1 := (hO.out.stored (k * 2) (.int .i64 (-9))).1
      have S2 : Hid _ := Hid.mk' (S1.stored (k * 2 + 1) (.int .i64 0)).1
      have B5 : Hid (Below base w ((wr.setCell ⟨g, k * 2, none⟩ (.int .i64 (-9))).setCell ⟨g, k * 2 + 1, none⟩ (.int .i64 0))) := Hid.mk' ((hB.out.grown (hO.out.stored (k * 2) (.int .i64 (-9))).2 (Nat.le_trans hbase hB.out.size) (fun j e => by cases e; exact hgb)).grown (S1.stored (k * 2 + 1) (.int .i64 0)).2 (by simp; exact Nat.le_trans hbase hB.out.size) (fun j e => by cases e; exact hgb))
      clear S1 hu0 hu1 hyl
      go_wp2_with fail
      go_roundw
      case rel => exact ⟨k + 1, _, by go_num, hkn, S2, B5⟩
      case measure => simp [iv]; omega
    · have hlk : ¬ (k : Int) < (n : Int) := by omega
      go_wp2_with fail
      go_loopw [0, 3] (fun s r wx => ∃ (m : Nat) (zs : List Value), r = .int .i64 m ∧ m ≤ 6 ∧ Hid (wx.ownsRow base 60 2 s (n + m) zs) ∧ Hid (Below base w wx)) (fun _ r _ => ((6 : Int) - iv r).toNat)
      case atStart => exact ⟨0, ys, rfl, by omega, hO, hB⟩
      case round =>
        clear hO hB
        obtain ⟨m, zs, rfl, hm, hO, hB⟩ := hrel
        by_cases hm6 : m < 6
        · have hlm : (m : Int) < 6 := by omega
          have hsz := hB.out.size
          go_wp2_with (at_builtin; refine wpList_append_own2 rfl _ _ 22 rfl base 60 iN (.agg #[.int .i64 0, .int .i64 0]) 2 16 Try.underlying22 h1 h2 h3 h4 rfl (by decide) _ _ _ rfl (hO.out.alloc _) ⟨wr.heap.size, 0, none⟩ 1 1 [.int .i64 (-8), .int .i64 0] rfl rfl (by intro j u hj; rw [addr_add, Nat.zero_add, World.cell?_alloc_new, List.getElem?_toArray]; exact hj) (by intro u hu; simp at hu; rcases hu with rfl | rfl <;> rfl) (by unfold maxLen; omega) (by omega) (by simp; omega) ?_; intro v' w5 hown5 hgr5; intro hwh; have HO5 := Hid.mk' hown5; have HG5 := Hid.mk' hgr5; clear hown5 hgr5 hwh)
          have B5 : Hid (Below base w w5) := Hid.mk' ((hB.out.alloc (by omega) _).grown HG5.out (by simp; omega) (fun j e => own_base hO.out j e))
          go_roundw
          case rel => exact ⟨m + 1, _, by go_num, by omega, HO5, B5⟩
          case measure => simp [iv]; omega
        · have hlm : ¬ (m : Int) < 6 := by omega
          go_wp2_with fail
          go_end0
          exact ⟨rfl, hB.out⟩
end Go.Proofs.Ytagnaefpkgekmaa
