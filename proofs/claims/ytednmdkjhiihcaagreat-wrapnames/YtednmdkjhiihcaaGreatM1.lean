/- Several texts in one (Rw Rx Ry Rz Zs). -/
import Derived.RangeFuncNested
import Derived.RangeFuncBound
import Derived.RangeFuncCalls
import Derived.RangeFuncLeaves
import Derived.RangeFuncBox
import Derived.Shelf.Abstract
import Derived.Shelf.RegionOpen
import Derived.WalkKit
import Derived.OwnWalkIn
import Derived.TacticsInMore
import Derived.LoopNIn
import Derived.LoopIn
import Derived.Test.YtednmdkjhiihcaaGreatRq
import Derived.Test.YtednmdkjhiihcaaGreatRs
namespace Go.Proofs.YtednmdkjhiihcaaGreat
open Go.ChangeShapes Go.WideShapes Go.ChangeAt Go.RowKit

set_option maxRecDepth 10000
attribute [local go_sem] Oper.semAt_some

/-- Heads that lie in a row. -/
structure Hb (w : World) (a : Option Addr) (l : List (List Value)) : Prop where
  ok : ∀ H ∈ l, Hh H
  lies : l.length = 0 ∨ ∃ x o, a = some ⟨x, o, none⟩ ∧ x < w.heap.size ∧ ∀ i H, l[i]? = some H → w.rangeAt x (o + i * 73) H

theorem Hb.below {w w' : World} {a : Option Addr} {l : List (List Value)} (h : Hb w a l) (b : Below w.heap.size w w') : Hb w' a l := by
  refine ⟨h.ok, ?_⟩
  rcases h.lies with h | ⟨x, o, e, hx, hc⟩
  · exact .inl h
  · exact .inr ⟨x, o, e, Nat.lt_of_lt_of_le hx b.size, fun i H hi j v hv => (b.cell (p := ⟨x, o + i * 73 + j, none⟩) hx).trans (hc i H hi j v hv)⟩

theorem getD_hh {l : List (List Value)} (h : ∀ H ∈ l, Hh H) (j : Nat) : Hh (l.getD j hz) := by
  rw [List.getD_eq_getElem?_getD]
  cases hj : l[j]? with
  | none => exact hz_hh
  | some H => exact h H (List.mem_of_getElem? hj)

/-- A struct is loaded within a round of a loop over a function. -/
theorem wpListIn_load_mid {F : Fence} {n : Nat} {ops : Array Oper} {rest : List Oper} {op : Oper} {a : Act} {w : World} {Q : Exit → Act → World → Prop} (hgd : op.guard = none) (ty : TypeId) (x : Operand) (ho : op.op = .load ty x)
    (b o : Nat) (hx : a.eval x = .pointer (some ⟨b, o, none⟩)) (cs : List Value) (d : TypeDesc) (hc : w.rangeAt b o cs)
    (hu : Tryz.prog.underlying ty = some d) (hd : d.isRow = true) (hi : (Tryz.prog.info? ty).map (·.size) = some cs.length)
    (h : wpListIn F n Tryz.prog ops Q rest (a.put op.dst (.agg cs.toArray)) w) : wpListIn F n Tryz.prog ops Q (op :: rest) a w := by
  refine wpListIn_plain hgd fun K hK => ?_
  unfold Oper.wpIn
  refine ⟨fun f hf => ?_, ?_⟩
  · unfold Oper.about at hf; rw [ho] at hf; cases hf
  · rw [Oper.semAt_eq _ _ _ (fun c h => by rw [ho] at h; cases h)]
    unfold execOp
    simp only [ho, hx, Instr.loadAt, Instr.sureAddr, Sem.run_bind, Sem.run_pure, Result.andThen_ok, run_loadVar_mid w b o ty cs d hc hu hd hi]
    exact hK _ _ h

/-- .. and stored into the block that was laid just now. -/
theorem wpListIn_store_newAt {F : Fence} {n : Nat} {ops : Array Oper} {rest : List Oper} {op : Oper} {a : Act} {w : World} {Q : Exit → Act → World → Prop} (hgd : op.guard = none) (ty : TypeId) (x y : Operand) (ho : op.op = .store ty x y) (t : TypeId)
    (Z L : List Value) (g : Nat) (hg : w.heap.size = g) (hx : a.eval x = .pointer (some ⟨g, 0, none⟩)) (hy : a.eval y = .agg L.toArray) (hl : L.length = Z.length) (hi : (Tryz.prog.info? ty).map (·.size) = some L.length) (h1 : L.toArray.all (·.oneCell') = true)
    (h : wpListIn F n Tryz.prog ops Q rest (a.put op.dst undef) (w.alloc (.cells L.toArray t))) : wpListIn F n Tryz.prog ops Q (op :: rest) a (w.alloc (.cells Z.toArray t)) := by
  subst hg
  refine wpListIn_plain hgd fun K hK => ?_
  have ht : (w.alloc (.cells Z.toArray t)).there w.heap.size 0 L.toArray.size := by
    have e : L.toArray.size = Z.length := by rw [← hl]; exact List.size_toArray
    rw [e]; exact there_block (heap_alloc_new w _)
  unfold Oper.wpIn
  refine ⟨fun f hf => ?_, ?_⟩
  · unfold Oper.about at hf; rw [ho] at hf; cases hf
  · rw [Oper.semAt_eq _ _ _ (fun c h => by rw [ho] at h; cases h)]
    unfold execOp
    simp only [ho, hx, hy, Instr.storeAt, Instr.sureAddr, Sem.run_bind, Sem.run_pure, Result.andThen_ok, run_storeVar_mid _ w.heap.size 0 ty L.toArray ht (by simpa using hi) h1]
    have e : (w.alloc (.cells Z.toArray t)).setCells w.heap.size 0 L.toArray.toList = w.alloc (.cells L.toArray t) := by
      show (w.alloc (.cells Z.toArray t)).setCells w.heap.size 0 L = _
      rw [setCells_new w t _ 0 Z (by simp [hl]), put_all _ _ (by simp [hl])]
    rw [e]
    exact hK _ _ h

/-- What comes: a place, and the head there. -/
abbrev Bk1 := { x : Nat × List Value // Hh x.2 }

def bkE (x : Bk1) : Array Value := #[.int .i64 (x.1.1 : Nat), .agg x.1.2.toArray]

def bkF (l : List (List Value)) (ok : ∀ j, Hh (l.getD j hz)) (j : Nat) : Bk1 := ⟨(l.length - 1 - j, l.getD (l.length - 1 - j) hz), ok _⟩

def bkL (l : List (List Value)) (ok : ∀ j, Hh (l.getD j hz)) (k : Nat) : List Bk1 := (List.range k).map (bkF l ok)

theorem bkL_succ (l : List (List Value)) (ok : ∀ j, Hh (l.getD j hz)) (k : Nat) : bkL l ok (k + 1) = bkL l ok k ++ [bkF l ok k] := by simp [bkL, List.range_succ]

theorem bkL_length (l : List (List Value)) (ok : ∀ j, Hh (l.getD j hz)) (k : Nat) : (bkL l ok k).length = k := by simp [bkL]

/-- The heads that have come, in the order in which they lie. -/
def bkH (pre : List Bk1) : List (List Value) := (pre.map (·.1.2)).reverse

theorem bkH_snoc (pre : List Bk1) (x : Bk1) : bkH (pre ++ [x]) = x.1.2 :: bkH pre := by simp [bkH]

theorem bkH_drop (l : List (List Value)) (ok : ∀ j, Hh (l.getD j hz)) : ∀ k, k ≤ l.length → bkH (bkL l ok k) = l.drop (l.length - k)
  | 0, _ => by simp [bkH, bkL]
  | k + 1, hk => by
    rw [bkL_succ, bkH_snoc, bkH_drop l ok k (by omega)]
    have hlt : l.length - (k + 1) < l.length := by omega
    rw [List.drop_eq_getElem_cons hlt, show l.length - (k + 1) + 1 = l.length - k by omega]
    congr 1
    show l.getD (l.length - 1 - k) hz = _
    rw [show l.length - 1 - k = l.length - (k + 1) by omega, List.getD_eq_getElem?_getD, List.getElem?_eq_getElem hlt]
    rfl

/-- What a round keeps: what lay below n₀, and the block q. -/
def KpB (n₀ q : Nat) (W W' : World) : Prop := Below n₀ W W' ∧ W'.heap[q]? = W.heap[q]?

theorem KpB.refl (n₀ q : Nat) (W : World) : KpB n₀ q W W := ⟨Below.refl _ _, rfl⟩

theorem KpB.trans {n₀ q : Nat} {A B C : World} (h : KpB n₀ q A B) (k : KpB n₀ q B C) : KpB n₀ q A C := ⟨h.1.trans k.1, k.2.trans h.2⟩

set_option maxHeartbeats 2000000 in
theorem backward_any (a : Option Addr) (n c : Nat) (w : World) : Calls Tryz.prog 25 #[.slice a n c] w fun e w' => e = .returned (.func (.func 47) #[] #[pp w.heap.size]) ∧ w.alloc (.cells #[.slice a n c] 23) = w' := by
  go_enter Tryz.func25, Tryz.ntmps25
  go_wp2_with fail
  go_ret
  exact ⟨rfl, rfl⟩

set_option maxHeartbeats 4000000 in
theorem back_in (n : Nat) (hn : 1 ≤ n) (lp q n₀ : Nat) (a : Option Addr) (len cap : Nat) (l : List (List Value)) (ok : ∀ j, Hh (l.getD j hz)) (hl : l.length = len) (h8 : len ≤ 8) (J Jx : List Bk1 → World → Prop)
    (hY : ∀ pre x W, J pre W → pre.length < len → YieldAt Fence.wide (n - 1) Tryz.prog lp (bkE x) W fun e W' =>
      (e = .returned (.bool true) ∧ J (pre ++ [x]) W' ∧ KpB n₀ q W W') ∨ (e = .returned (.bool false) ∧ Jx (pre ++ [x]) W'))
    (W : World) (hq : W.heap[q]? = some (.cells #[.slice a len cap] 23 (0, 0))) (hH : Hb W a l) (hx : 0 < len → ∀ x, a = some x → x.block < n₀) (h0 : J [] W) :
    CallsIn Fence.wide n Tryz.prog 47 #[.func (.yield lp) #[] #[], pp q] W fun e W' => (∃ v, e = .returned v) ∧
      ((∃ ys, ys = bkL l ok len ∧ J ys W') ∨ (∃ pre, (∃ k, k ≤ len ∧ pre = bkL l ok k) ∧ Jx pre W')) := by
  have HQ := Hid.mk' hq
  have HHb := Hid.mk' hH
  have HX := Hid.mk' hx
  have HL := Hid.mk' hl
  have HY := Hid.mk' hY
  have HJ0 := Hid.mk' h0
  have c0 : W.cell? ⟨q, 0, none⟩ = some (.slice a len cap) := cell_of_row W q 0 _ _ _ hq
  have RB : Hid (∀ u, KpB n₀ q W u → u.cell? ⟨q, 0, none⟩ = some (.slice a len cap)) := Hid.mk' (fun u hu => by rw [cell_of_row u q 0 _ _ _ (hu.2.trans HQ.out)]; rfl)
  clear hq hH hx hl hY h0
  refine callsIn_of_wp Tryz.func47 rfl trivial ?_ rfl
  simp only [Tryz.ntmps47, List.size_toArray, List.length_cons, List.length_nil, Nat.reduceAdd, Nat.reduceSub, Array.replicate_succ, Array.replicate_zero, List.push_toArray, List.append_toArray, List.nil_append, List.cons_append]
  gi_wp2
  gi_loopw [3] (fun i wr => ∃ (m k : Nat), m + k = len ∧ i = .int .i64 ((m : Int) - 1) ∧ J (bkL l ok k) wr ∧ KpB n₀ q W wr) (fun i _ => (intOf i + 1).toNat)
  case atStart => exact ⟨len, 0, rfl, by go_num, HJ0.out, KpB.refl _ _ _⟩
  case round =>
    obtain ⟨m, k, hmk, rfl, hJs, hK⟩ := hrel
    have cc := RB.out _ hK
    rcases Nat.eq_zero_or_pos m with rfl | hm
    · obtain rfl : k = len := by omega
      gi_wp2
      go_end0
      exact ⟨⟨_, rfl⟩, .inl ⟨_, rfl, hJs⟩⟩
    · obtain ⟨j, rfl⟩ : ∃ j, m = j + 1 := ⟨m - 1, by omega⟩
      rw [show ((j + 1 : Nat) : Int) - 1 = (j : Int) by go_num]
      have hln : l.length = len := HL.out
      obtain ⟨y, o, ea, hya, hlies⟩ : ∃ x o, a = some ⟨x, o, none⟩ ∧ x < W.heap.size ∧ ∀ i H, l[i]? = some H → W.rangeAt x (o + i * 73) H := by
        rcases HHb.out.lies with h | h
        · omega
        · exact h
      subst ea
      have hjl : j < l.length := by omega
      have hgD : l[j]? = some (l.getD j hz) := by rw [List.getD_eq_getElem?_getD, List.getElem?_eq_getElem hjl]; rfl
      have hy0 : y < n₀ := HX.out (by omega) _ rfl
      have hrg : wr.rangeAt y (o + j * 73) (l.getD j hz) := fun i v hv => (hK.1.cell (p := ⟨y, o + j * 73 + i, none⟩) hy0).trans (hlies j _ hgD i v hv)
      have hidx : l.length - 1 - k = j := by omega
      obtain ⟨fn, tmps, assign, body, hyy, hR⟩ := HY.out (bkL l ok k) (bkF l ok k) wr hJs (by rw [bkL_length]; omega)
      have ebk : bkE (bkF l ok k) = #[.int .i64 (j : Nat), .agg (l.getD j hz).toArray] := by
        show #[Value.int .i64 ((l.length - 1 - k : Nat) : Int), .agg (l.getD (l.length - 1 - k) hz).toArray] = _
        rw [hidx]
      rw [ebk] at hyy
      have hlt : j < len := by omega
      have hhd : Hh (l.getD j hz) := ok j
      have hsz : Hid ((l.getD j hz).length = 73) := Hid.mk' (hh_len hhd)
      generalize l.getD j hz = H at *
      gi_wp2_with (refine wpListIn_load_mid rfl _ _ rfl y (o + j * 73) rfl H _ hrg rfl rfl (by rw [hsz.out]; rfl) ?_)
      refine hR.mono ?_
      rintro e W3 (⟨rfl, hJ3, hk3⟩ | ⟨rfl, hJx3⟩)
      · have hK3 := hK.trans hk3
        have cc3 := RB.out _ hK3
        gi_wp2
        go_roundw
        case rel => exact ⟨j, k + 1, by omega, rfl, by rw [bkL_succ]; exact hJ3, hK3⟩
        case measure => (simp [intOf]) <;> omega
      · gi_wp2
        refine bodyPost_ret (results_none rfl _ _ _) rfl ?_
        exact ⟨⟨_, rfl⟩, .inr ⟨_, ⟨k + 1, by omega, (bkL_succ _ _ _).symm⟩, hJx3⟩⟩

theorem back_stops (n : Nat) (hn : 1 ≤ n) (q n₀ : Nat) (a : Option Addr) (len cap : Nat) (l : List (List Value)) (ok : ∀ j, Hh (l.getD j hz)) (hl : l.length = len) (h8 : len ≤ 8)
    (w : World) (hqs : q < w.heap.size) (hq : w.heap[q]? = some (.cells #[.slice a len cap] 23 (0, 0))) (hH : Hb w a l) (hx : 0 < len → ∀ x, a = some x → x.block < n₀) :
    SeqStopsK Fence.wide n Tryz.prog 47 #[pp q] bkE (KpB n₀ q) (fun ys => ys = bkL l ok len) (fun pre => ∃ k, k ≤ len ∧ pre = bkL l ok k) len w := fun lp J Jx W hW _ _ hY h0 =>
  back_in n hn lp q n₀ a len cap l ok hl h8 J Jx hY W ((hW.block q hqs).trans hq) (hH.below hW) hx h0

set_option maxRecDepth 10000
attribute [local go_sem] Oper.semAt_some

/-- A block that lies as it lay, whatever else grows. -/
theorem cells_own {β : Type} (B : Nat) (c : Array Value) (t : TypeId) : Own (fun (_ : β) W => W.heap[B]? = some (.cells c t (0, 0))) := by
  rintro s X Y row hv hg hrow
  refine (hg.block B (Array.getElem?_eq_some_iff.1 hv).1 (fun e => ?_)).trans hv
  obtain ⟨o, ho, hc⟩ := hrow B e.symm
  rw [hv] at ho; cases ho; cases hc

theorem kpB_b {n₀ q : Nat} {w : World} (hn : n₀ ≤ w.heap.size) (hq : q < w.heap.size) (W : World) (l : Nat) (o o' : Obj) (hl : w.heap.size ≤ l) (h : W.heap[l]? = some o) (hc : o.isCells = false) (hk : o.isWalk = false) : KpB n₀ q W (W.putObj l o') :=
  ⟨belowK_b hn W l o o' hl h hc hk, World.putObj_heap_other (by omega)⟩

/-- A call's results are two boxes: a slice of bytes and an error. -/
theorem results_boxes {fn : Func} {p q : Tmp} (h : fn.results = #[.cell p 22, .cell q 25]) {tmps : Array Value} {w : World} {g k : Nat} {a : Option Addr} {n c : Nat} {e : Int}
    (hp : tmps[p]?.getD undef = .pointer (some ⟨g, 0, none⟩)) (hq : tmps[q]?.getD undef = .pointer (some ⟨k, 0, none⟩)) (h1 : w.cell? ⟨g, 0, none⟩ = some (.slice a n c)) (h2 : w.cell? ⟨k, 0, none⟩ = some (.int .i64 e)) :
    (results fn tmps).run Tryz.prog w = .ok (.tuple #[.slice a n c, .int .i64 e]) w := by
  simp [results, h, hp, hq, asAddr, go_sem, h1, h2]

theorem kf_below {B : Nat} {W W' : World} (h : Below W.heap.size W W') : KeepsFrom B W W' := ⟨h.size, fun k _ _ hk _ => (h.block k (Array.getElem?_eq_some_iff.1 hk).1).trans hk⟩

set_option maxHeartbeats 4000000 in
theorem stack_any (a : Option Addr) (n c : Nat) (ys : List Int) (b : Option Addr) (len cap : Nat) (l : List (List Value)) (w : World) (hy : ys.length = n) (hB : Bs w a ys) (hl : l.length = len) (hH : Hb w b l) :
    Calls Tryz.prog 6 #[.slice a n c, .slice b len cap] w fun e w' => ∃ v, e = .returned (.tuple #[v, .int .i64 (skE l ys)]) ∧ w'.ownsRow w.heap.size 5 1 v (skB l ys).length ((skB l ys).map (Value.int .u8)) ∧ Below w.heap.size w w' := by
  have HL := Hid.mk' hl
  have HHb := Hid.mk' hH
  have HCl : Hid (∀ u, Below w.heap.size w u → Calls Tryz.prog 24 #[.slice a n c] u fun e w' => ∃ v, e = .returned v ∧ w'.ownsRow u.heap.size 5 1 v ys.length (ys.map (Value.int .u8)) ∧ Below u.heap.size u w') :=
    Hid.mk' (fun u hu => clone_all a n c ys u hy (hB.below hu))
  have HY := Hid.mk' hB.bytes
  have HYl := Hid.mk' hB.len
  have B1 : Hid (Below w.heap.size w ((w.alloc (.cells #[.slice none 0 0] 22)).alloc (.cells #[.int .i64 0] 25))) := Hid.mk' (((Below.refl _ _).alloc (Nat.le_refl _) _).alloc (by simp) _)
  by_cases h8 : 8 < len
  · have e3 : skE l ys = 3 := by unfold skE; rw [if_neg (by omega)]
    have eB : skB l ys = [] := by unfold skB; rw [e3, if_neg (by omega)]
    rw [e3, eB]
    clear hl hH hy hB
    go_enter Tryz.func6, Tryz.ntmps6
    go_wp2_with fail
    have x1 := (Boxed.new w 22 (.slice none 0 0)).alloc (.cells #[.int .i64 3] 25)
    have x2 := Boxed.new (w.alloc (.cells #[.slice none 0 0] 22)) 25 (.int .i64 3)
    simp only [World.size_alloc] at x2
    exact bodyPost_ret (results_boxes rfl rfl rfl x1.cell x2.cell) rfl ⟨_, rfl, World.ownsRow_nil _ _ _ _, ((Below.refl _ _).alloc (Nat.le_refl _) _).alloc (by simp) _⟩
  · refine (callsIn_wide (n := 5)).1 ?_
    refine callsIn_of_wp_marks Tryz.func6 rfl trivial ?_
    simp only [Tryz.ntmps6, List.size_toArray, List.length_cons, List.length_nil, Nat.reduceAdd, Nat.reduceSub, Array.replicate_succ, Array.replicate_zero, List.push_toArray, List.append_toArray, List.nil_append, List.cons_append]
    clear hl hH hy hB
    gi_wp2_with (first
      | (refine ⟨trivial, ?_⟩; gi_at_call 24; refine (callsIn_wide.2 (HCl.out _ B1.out)).mono ?_; rintro e w1 ⟨v1, rfl, own1, b1⟩; obtain ⟨a1, c1, rfl⟩ := own_slice own1)
      | (refine ⟨trivial, ?_⟩; gi_at_call 25; refine (callsIn_wide.2 (backward_any b len cap _)).mono ?_; rintro e w2 ⟨rfl, rfl⟩))
    have hs1 := b1.size
    simp only [World.size_alloc] at hs1
    obtain ⟨W0, hW0⟩ : ∃ W0, ((w1.alloc (.cells #[.slice a1 ys.length c1] 22)).alloc (.cells #[.int .i64 0] 25)).alloc (.cells #[.slice b len cap] 23) = W0 := ⟨_, rfl⟩
    have bq : Boxed W0 (w1.heap.size + 1 + 1) 23 (.slice b len cap) := by
      rw [← hW0]; have := Boxed.new ((w1.alloc (.cells #[.slice a1 ys.length c1] 22)).alloc (.cells #[.int .i64 0] 25)) 23 (.slice b len cap); simpa only [World.size_alloc] using this
    have bb : Boxed W0 w1.heap.size 22 (.slice a1 ys.length c1) := by
      rw [← hW0]; exact ((Boxed.new w1 _ _).alloc _).alloc _
    have be : Boxed W0 (w1.heap.size + 1) 25 (.int .i64 0) := by
      rw [← hW0]; have := (Boxed.new (w1.alloc (.cells #[.slice a1 ys.length c1] 22)) 25 (.int .i64 0)).alloc (.cells #[.slice b len cap] 23); simpa only [World.size_alloc] using this
    have b4 : Boxed W0 w.heap.size 22 (.slice none 0 0) := by
      rw [← hW0]
      have h0 := (Boxed.new w 22 (.slice none 0 0)).alloc (.cells #[.int .i64 0] 25)
      have h1 : Boxed w1 w.heap.size 22 (.slice none 0 0) := (b1.block _ (by simp; omega)).trans h0
      exact ((h1.alloc _).alloc _).alloc _
    have b5 : Boxed W0 (w.heap.size + 1) 25 (.int .i64 0) := by
      rw [← hW0]
      have h0 := Boxed.new (w.alloc (.cells #[.slice none 0 0] 22)) 25 (.int .i64 0)
      simp only [World.size_alloc] at h0
      have h1 : Boxed w1 (w.heap.size + 1) 25 (.int .i64 0) := (b1.block _ (by simp)).trans h0
      exact ((h1.alloc _).alloc _).alloc _
    have hBl : Below w.heap.size w W0 := by
      rw [← hW0]
      exact (((B1.out.trans (b1.mono (by simp; omega))).alloc (by omega) _).alloc (by simp; omega) _).alloc (by simp; omega) _
    have own0 : W0.ownsRow w.heap.size 5 1 (.slice a1 ys.length c1) ys.length (ys.map (Value.int .u8)) := by
      rw [← hW0]
      exact (((ownsRow_base own1 (by simp; omega)).alloc _).alloc _).alloc _
    have hsz : W0.heap.size = w1.heap.size + 3 := by rw [← hW0]; simp
    rw [hW0]
    clear hW0 own1
    have ok : ∀ j, Hh (l.getD j hz) := getD_hh HHb.out.ok
    have hn5 : 1 ≤ 5 - 1 - 1 := by decide
    have hbx : 0 < len → ∀ x, b = some x → x.block < w.heap.size := by
      intro hlen x hx
      have hL := HL.out
      rcases HHb.out.lies with h | ⟨y, o, e, hy, _⟩
      · omega
      · rw [hx] at e; cases e; exact hy
    refine wpIn_rangeFunc_ownH rfl (by decide) (gf := 47) (lb := #[pp (w1.heap.size + 1 + 1)]) rfl trivial (enters_of Tryz.func47 (by kernel_rfl) rfl)
      (back_stops (5 - 1) (by decide) (w1.heap.size + 1 + 1) w.heap.size b len cap l ok HL.out (by omega) W0 (by omega) bq (HHb.out.below hBl) hbx) KpB.trans (kpB_b (by omega) (by omega)) (Below.refl _ _) (fun _ => rfl)
      (fun pre W => (stP (bkH pre) ys).1 = 0 ∧ (∃ v, Boxed W w1.heap.size 22 v ∧ W.ownsRow w.heap.size 5 1 v (stP (bkH pre) ys).2.length ((stP (bkH pre) ys).2.map (Value.int .u8)) ∧ True) ∧ Boxed W (w1.heap.size + 1 + 1) 23 (.slice b len cap) ∧ Boxed W (w1.heap.size + 1) 25 (.int .i64 0) ∧ Boxed W w.heap.size 22 (.slice none 0 0) ∧ Boxed W (w.heap.size + 1) 25 (.int .i64 0) ∧ Below w.heap.size w W)
      (fun c pre W => (c = .ret ∧ ¬ (stP (bkH pre) ys).1 = 0) ∧ Boxed W w.heap.size 22 (.slice none 0 0) ∧ Boxed W (w.heap.size + 1) 25 (.int .i64 (stP (bkH pre) ys).1) ∧ Below w.heap.size w W)
      (OwnFrom.and (ownFrom_pure _ _) (OwnFrom.and (Own.from (holdsRow_own w.heap.size w1.heap.size 22 5 1 (fun pre => (stP (bkH pre) ys).2.length) (fun pre => (stP (bkH pre) ys).2.map (Value.int .u8)) (fun _ _ => True)) _) (OwnFrom.and (Own.from (boxed_own _ _ (fun _ => Value.slice b len cap)) _) (OwnFrom.and (Own.from (boxed_own _ _ (fun _ => Value.int .i64 0)) _) (OwnFrom.and (Own.from (boxed_own _ _ (fun _ => Value.slice none 0 0)) _) (OwnFrom.and (Own.from (boxed_own _ _ (fun _ => Value.int .i64 0)) _) (ownFrom_below (Nat.le_refl _) (by omega))))))))
      (fun c => OwnFrom.and (ownFrom_pure _ _) (OwnFrom.and (Own.from (boxed_own _ _ (fun _ => Value.slice none 0 0)) _) (OwnFrom.and (Own.from (boxed_own _ _ (fun pre => Value.int .i64 (stP (bkH pre) ys).1)) _) (ownFrom_below (Nat.le_refl _) (by omega)))))
      ⟨rfl, ⟨_, bb, own0, trivial⟩, bq, be, b4, b5, hBl⟩
      (fun x a' W => ∃ Bx, w1.heap.size + 2 < Bx ∧ W.heap[Bx]? = some (.cells x.1.2.toArray 46 (0, 0)) ∧ a' = { tmps := #[.slice a n c, .slice b len cap, undef, undef, pp w.heap.size, pp (w.heap.size + 1), pp w1.heap.size, pp (w1.heap.size + 1), undef, pp Bx, .slice b len cap, .int .i64 (len : Nat), .bool (decide ((8 : Int) < (len : Nat))), .slice a n c, .slice a1 ys.length c1, .slice b len cap, .func (.func 47) #[] #[pp (w1.heap.size + 1 + 1)], .int .i64 (x.1.1 : Nat), .agg x.1.2.toArray, undef, undef, undef, undef, undef, undef, undef, undef, undef, undef], defers := [] })
      (fun x a' _ X Y row hs hg hr => by obtain ⟨Bx, h1, h2, h3⟩ := hs; exact ⟨Bx, h1, cells_own Bx _ _ () X Y row h2 hg (fun r e => (hr r e).2), h3⟩)
      ?assign ?body ?done ?stop
    case assign =>
      rintro lp pre ⟨⟨i, H⟩, hHx⟩ W K ⟨e0, ⟨v, bb1, ov, -⟩, bq1, be1, b41, b51, hB1⟩ hK
      have hHx' : Hh H := hHx
      have hlen := Hid.mk' (hh_len hHx')
      have h1c := Hid.mk' (hh_one hHx')
      rw [show bkE ⟨(i, H), hHx⟩ = #[.int .i64 (i : Nat), .agg H.toArray] from rfl]
      simp only [pp, Array.zip, List.zipWith_toArray, List.foldl_toArray']
      gi_wp2_with (refine wpListIn_store_newAt rfl 46 _ _ rfl _ hz H W.heap.size rfl rfl rfl (by rw [hlen.out, hz_len]) (by rw [hlen.out]; exact info_hh) h1c.out ?_)
      refine hK _ _ ((KeepsOthers.alloc _ _).from _) ⟨(Below.refl _ W).alloc hB1.size _, Below.heap_alloc _ _ _ (by have := bq1.lt; omega)⟩ ⟨e0, ⟨v, bb1.alloc _, ov.alloc _, trivial⟩, bq1.alloc _, be1.alloc _, b41.alloc _, b51.alloc _, hB1.alloc hB1.size _⟩ ⟨W.heap.size, by have := bq1.lt; omega, heap_alloc_new W _, rfl⟩
    case body =>
      rintro lp pre ⟨⟨i, H⟩, hHx⟩ a' W hlp ⟨r, hr⟩ ⟨e0, ⟨v, bb1, ov, -⟩, bq1, be1, b41, b51, hB1⟩ ⟨Bx, hBx, hcx, rfl⟩ hlt
      have hHx' : Hh H := hHx
      have hlen := Hid.mk' (hh_len hHx')
      have hbk : bkH (pre ++ [⟨(i, H), hHx⟩]) = H :: bkH pre := bkH_snoc _ _
      have hpre := Hid.mk' (show ∀ J ∈ bkH pre, Hh J from fun J hJ => by
        simp only [bkH, List.mem_reverse, List.mem_map] at hJ
        obtain ⟨y, -, rfl⟩ := hJ; exact y.2)
      have hzb := Hid.mk' (stP_bytes (bkH pre) ys hpre.out HY.out)
      have hzl : (stP (bkH pre) ys).2.length ≤ 140737488355328 := by
        rcases stP_len (bkH pre) ys hpre.out HY.out with h | ⟨-, h⟩
        · omega
        · rw [h]; exact HYl.out
      obtain ⟨zs, hzs⟩ : ∃ zs, (stP (bkH pre) ys).2 = zs := ⟨_, rfl⟩
      have hstep : (puE H zs = 0 → (stP (H :: bkH pre) ys).1 = 0 ∧ (stP (H :: bkH pre) ys).2 = puB H zs) ∧ (stP (H :: bkH pre) ys).1 = puE H zs := by
        rw [← hzs]
        have e : stP (H :: bkH pre) ys = (puE H (stP (bkH pre) ys).2, puB H (stP (bkH pre) ys).2) := by
          show (if (stP (bkH pre) ys).1 = 0 then _ else _) = _
          rw [if_pos e0]
        rw [e]
        exact ⟨fun h => ⟨h, rfl⟩, rfl⟩
      rw [hzs] at ov hzb hzl
      obtain ⟨a2, c2, rfl, bs2, -⟩ := bs_own ov hzb.out hzl
      have hrg : W.rangeAt Bx 0 H := range_block hcx
      have cb := bb1.cell
      have hsW := hB1.size
      have PS := Hid.mk' (push_any H a2 zs.length c2 zs W hHx' rfl bs2)
      by_cases he : puE H zs = 0
      · rw [he] at PS
        gi_wp2_with (first
          | refine wpListIn_load_mid rfl _ _ rfl Bx 0 rfl H _ hrg rfl rfl (by rw [hlen.out]; exact info_hh) ?_
          | (refine ⟨trivial, ?_⟩; gi_at_call 20; refine (CallsIn.inRound lp (callsIn_wide.2 PS.out)).mono ?_; rintro e w2 ⟨v2, rfl, own2, b2⟩; obtain ⟨a3, c3, rfl⟩ := own_slice own2
             have bb2 : Boxed w2 w1.heap.size 22 _ := (b2.block _ bb1.lt).trans bb1
             have be2 : Boxed w2 (w1.heap.size + 1) 25 _ := (b2.block _ be1.lt).trans be1
             have cb2 := bb2.cell
             have fb2 := bb2.frozen
             have ce2 := be2.cell
             have fe2 := be2.frozen))
        have own3 := ownsRow_base own2 hsW
        have bb2 : Boxed w2 w1.heap.size 22 _ := (b2.block _ bb1.lt).trans bb1
        have be2 : Boxed w2 (w1.heap.size + 1) 25 _ := (b2.block _ be1.lt).trans be1
        have bq2 : Boxed w2 (w1.heap.size + 1 + 1) 23 _ := (b2.block _ bq1.lt).trans bq1
        have b42 : Boxed w2 w.heap.size 22 _ := (b2.block _ b41.lt).trans b41
        have b52 : Boxed w2 (w.heap.size + 1) 25 _ := (b2.block _ b51.lt).trans b51
        have bl2 := b2.mono hsW
        have ba3 := (bl2.setCell (p := ⟨w1.heap.size, 0, none⟩) (by show w.heap.size ≤ w1.heap.size; omega) (Value.slice a3 (puB H zs).length c3)).setCell (p := ⟨w1.heap.size + 1, 0, none⟩) (by show w.heap.size ≤ w1.heap.size + 1; omega) (Value.int .i64 0)
        have r1 := own3.kept (grownBy_setCell' w2 w1.heap.size (Value.slice a3 (puB H zs).length c3)) (.inr (bb2.not_row (by decide) own3).symm)
        have be3 := be2.other (show w1.heap.size + 1 ≠ w1.heap.size by omega) (Value.slice a3 (puB H zs).length c3)
        have r2 := r1.kept (grownBy_setCell' _ (w1.heap.size + 1) (Value.int .i64 0)) (.inr (be3.not_row (by decide) r1).symm)
        refine ⟨((kf_below b2).trans ((KeepsOthers.setCell _ _ _).from _)).trans ((KeepsOthers.setCell _ _ _).from _), ⟨ba3, ?_⟩, ?_⟩
        · rw [Below.heap_setCell _ _ _ _ (by show w1.heap.size + 1 + 1 ≠ w1.heap.size + 1; omega), Below.heap_setCell _ _ _ _ (by show w1.heap.size + 1 + 1 ≠ w1.heap.size; omega)]
          exact b2.block _ bq1.lt
        · show (stP (bkH (pre ++ [⟨(i, H), hHx⟩])) ys).1 = 0 ∧ (∃ v, Boxed _ w1.heap.size 22 v ∧ World.ownsRow _ w.heap.size 5 1 v (stP (bkH (pre ++ [⟨(i, H), hHx⟩])) ys).2.length ((stP (bkH (pre ++ [⟨(i, H), hHx⟩])) ys).2.map (Value.int .u8)) ∧ True) ∧ _
          rw [hbk]
          refine ⟨(hstep.1 he).1, ⟨_, (bb2.set _).other (by omega) _, ?_, trivial⟩, (bq2.other (by omega) _).other (by omega) _, be3.set _, (b42.other (by omega) _).other (by omega) _, (b52.other (by omega) _).other (by omega) _, hB1.trans ba3⟩
          rw [(hstep.1 he).2]; exact r2
      · obtain ⟨E, hE⟩ : ∃ E, puE H zs = E := ⟨_, rfl⟩
        rw [hE] at PS he hstep
        have hmx : Tryz.prog.follows .mixedOrders = true := by kernel_rfl
        gi_wp2_with (first
          | refine wpListIn_load_mid rfl _ _ rfl Bx 0 rfl H _ hrg rfl rfl (by rw [hlen.out]; exact info_hh) ?_
          | (refine ⟨trivial, ?_⟩; gi_at_call 20; refine (CallsIn.inRound lp (callsIn_wide.2 PS.out)).mono ?_; rintro e w2 ⟨v2, rfl, own2, b2⟩; obtain ⟨a3, c3, rfl⟩ := own_slice own2
             have bb2 : Boxed w2 w1.heap.size 22 _ := (b2.block _ bb1.lt).trans bb1
             have be2 : Boxed w2 (w1.heap.size + 1) 25 _ := (b2.block _ be1.lt).trans be1
             have cb2 := bb2.cell
             have fb2 := bb2.frozen
             have ce2 := be2.cell
             have fe2 := be2.frozen))
        have bb2 : Boxed w2 w1.heap.size 22 _ := (b2.block _ bb1.lt).trans bb1
        have be2 : Boxed w2 (w1.heap.size + 1) 25 _ := (b2.block _ be1.lt).trans be1
        have b42 : Boxed w2 w.heap.size 22 _ := (b2.block _ b41.lt).trans b41
        have b52 : Boxed w2 (w.heap.size + 1) 25 _ := (b2.block _ b51.lt).trans b51
        have bl2 := b2.mono hsW
        have ba3 := (bl2.setCell (p := ⟨w1.heap.size, 0, none⟩) (by show w.heap.size ≤ w1.heap.size; omega) (Value.slice a3 (puB H zs).length c3)).setCell (p := ⟨w1.heap.size + 1, 0, none⟩) (by show w.heap.size ≤ w1.heap.size + 1; omega) (Value.int .i64 E)
        have be3 := (be2.other (show w1.heap.size + 1 ≠ w1.heap.size by omega) (Value.slice a3 (puB H zs).length c3)).set (.int .i64 E)
        have b43 := (b42.other (show w.heap.size ≠ w1.heap.size by omega) (Value.slice a3 (puB H zs).length c3)).other (show w.heap.size ≠ w1.heap.size + 1 by omega) (.int .i64 E)
        have b53 := (b52.other (show w.heap.size + 1 ≠ w1.heap.size by omega) (Value.slice a3 (puB H zs).length c3)).other (show w.heap.size + 1 ≠ w1.heap.size + 1 by omega) (.int .i64 E)
        have kf := ((kf_below b2).trans ((KeepsOthers.setCell _ ⟨w1.heap.size, 0, none⟩ (Value.slice a3 (puB H zs).length c3)).from W0.heap.size)).trans ((KeepsOthers.setCell _ ⟨w1.heap.size + 1, 0, none⟩ (Value.int .i64 E)).from W0.heap.size)
        generalize ((w2.setCell ⟨w1.heap.size, 0, none⟩ (Value.slice a3 (puB H zs).length c3)).setCell ⟨w1.heap.size + 1, 0, none⟩ (Value.int .i64 E)) = w3 at *
        have cx := be3.cell
        have c4 := b43.cell
        have f4 := b43.frozen
        have c5 := b53.cell
        have f5 := b53.frozen
        have n1 : ¬ w1.heap.size + 1 = w.heap.size := by omega
        have n2 : ¬ w.heap.size + 1 = w.heap.size := by omega
        have n3 : ¬ w.heap.size = w.heap.size + 1 := by omega
        have hEb : (E != 0) = true := by simp [he]
        gi_region_with_o (fail)
        all_goals gi_wp2
        all_goals
          have z4 := (b43.set (.slice none 0 0)).other (show w.heap.size ≠ w.heap.size + 1 by omega) (.int .i64 E)
          have z5 := (b53.other (show w.heap.size + 1 ≠ w.heap.size by omega) (.slice none 0 0)).set (.int .i64 E)
          have zb := (((hB1.trans ba3).setCell (p := ⟨w.heap.size, 0, none⟩) (Nat.le_refl _) (.slice none 0 0)).setCell (p := ⟨w.heap.size + 1, 0, none⟩) (Nat.le_succ _) (.int .i64 E)).drew
          refine ⟨((kf.trans ((KeepsOthers.setCell _ _ _).from _)).trans ((KeepsOthers.setCell _ _ _).from _)).trans ((KeepsOthers.drew _).from _), ?_⟩
          show (_ ∧ ¬ (stP (bkH (pre ++ [⟨(i, H), hHx⟩])) ys).1 = 0) ∧ _ ∧ Boxed _ (w.heap.size + 1) 25 (.int .i64 (stP (bkH (pre ++ [⟨(i, H), hHx⟩])) ys).1) ∧ _
          rw [hbk, hstep.2]
          exact ⟨⟨rfl, he⟩, z4, z5, zb⟩
    case done =>
      rintro D xs W hD rfl ⟨e0, ⟨v, bb1, ov, -⟩, bq1, be1, b41, b51, hB1⟩ hKD
      have hfin : bkH (bkL l ok len) = l := by rw [bkH_drop l ok len (by rw [HL.out]; exact Nat.le_refl _), HL.out, Nat.sub_self, List.drop_zero]
      rw [hfin] at e0 ov
      have es : skE l ys = 0 := by unfold skE; rw [if_pos (by have := HL.out; omega)]; exact e0
      have eS : skB l ys = (stP l ys).2 := by unfold skB; rw [if_pos es]
      obtain ⟨a2, c2, rfl⟩ := own_slice ov
      have cb := bb1.cell
      have c4 := b41.cell
      have f4 := b41.frozen
      have c5 := b51.cell
      have f5 := b51.frozen
      have n2 : ¬ w.heap.size + 1 = w.heap.size := by omega
      have n3 : ¬ w.heap.size = w.heap.size + 1 := by omega
      have z4 := (b41.set (.slice a2 (stP l ys).2.length c2)).other (show w.heap.size ≠ w.heap.size + 1 by omega) (.int .i64 0)
      have y5 := b51.other (show w.heap.size + 1 ≠ w.heap.size by omega) (.slice a2 (stP l ys).2.length c2)
      have z5 := y5.set (.int .i64 0)
      have zb := (hB1.setCell (p := ⟨w.heap.size, 0, none⟩) (Nat.le_refl _) (.slice a2 (stP l ys).2.length c2)).setCell (p := ⟨w.heap.size + 1, 0, none⟩) (Nat.le_succ _) (.int .i64 0)
      have r1 := ov.kept (grownBy_setCell' W w.heap.size (.slice a2 (stP l ys).2.length c2)) (.inr (b41.not_row (by decide) ov).symm)
      have r2 := r1.kept (grownBy_setCell' _ (w.heap.size + 1) (.int .i64 0)) (.inr (y5.not_row (by decide) r1).symm)
      have hK2 := ((KeepsOthers.setCell (W.setCell ⟨w.heap.size, 0, none⟩ (.slice a2 (stP l ys).2.length c2)) ⟨w.heap.size + 1, 0, none⟩ (.int .i64 0)).same D _ ((KeepsOthers.setCell W ⟨w.heap.size, 0, none⟩ (.slice a2 (stP l ys).2.length c2)).same D _ hKD rfl) rfl)
      gi_wp2
      refine ⟨by simp, .inl ⟨_, _, rfl, run_takeDeferred hK2, ?_⟩⟩
      have u4 := z4.kept (grownBy_putObj' _ D (.deferred none)) (by intro e; cases e; omega)
      have u5 := z5.kept (grownBy_putObj' _ D (.deferred none)) (by intro e; have := Option.some.inj e; omega)
      rw [es, eS]
      exact ⟨_, results_boxes rfl rfl rfl u4.cell u5.cell, _, rfl, ownsRow_putObj r2 (.deferred none) hK2 rfl, zb.trans (belowK_b (w := w) (Nat.le_refl _) _ D _ _ (by omega) hK2 rfl rfl)⟩
    case stop =>
      rintro D cc pre W hD ⟨k, hk, rfl⟩ ⟨⟨rfl, hne⟩, b41, b51, hB1⟩ hKD
      have hkl : bkH (bkL l ok k) = l.drop (l.length - k) := bkH_drop l ok k (by rw [HL.out]; exact hk)
      rw [hkl] at hne b51
      have eb := stP_bad l ys _ hne
      have es : skE l ys = (stP (l.drop (l.length - k)) ys).1 := by unfold skE; rw [if_pos (by have := HL.out; omega)]; exact eb
      have eS : skB l ys = [] := by unfold skB; rw [es, if_neg hne]
      gi_wp2
      refine ⟨by simp, .inl ⟨_, _, rfl, run_takeDeferred hKD, ?_⟩⟩
      have u4 := b41.kept (grownBy_putObj' _ D (.deferred none)) (by intro e; cases e; omega)
      have u5 := b51.kept (grownBy_putObj' _ D (.deferred none)) (by intro e; have := Option.some.inj e; omega)
      rw [es, eS]
      exact ⟨_, results_boxes rfl rfl rfl u4.cell u5.cell, _, rfl, World.ownsRow_nil _ _ _ _, hB1.trans (belowK_b (w := w) (Nat.le_refl _) _ D _ _ (by omega) hKD rfl rfl)⟩

set_option maxRecDepth 10000

theorem stP_step {l : List (List Value)} {ys zs : List Int} {j : Nat} (hj : j < l.length) (h : stP (l.drop (j + 1)) ys = (0, zs)) : stP (l.drop j) ys = (puE (l.getD j hz) zs, puB (l.getD j hz) zs) := by
  have hd : l.drop j = l.getD j hz :: l.drop (j + 1) := by
    rw [List.drop_eq_getElem_cons hj, List.getD_eq_getElem?_getD, List.getElem?_eq_getElem hj]; rfl
  rw [hd]
  show (if (stP (l.drop (j + 1)) ys).1 = 0 then _ else _) = _
  rw [h, if_pos rfl]

set_option maxHeartbeats 4000000 in
theorem rstack_any (a : Option Addr) (n c : Nat) (ys : List Int) (b : Option Addr) (len cap : Nat) (l : List (List Value)) (w : World) (hy : ys.length = n) (hB : Bs w a ys) (hn : a = none → c = 0) (hl : l.length = len) (hH : Hb w b l) :
    Calls Tryz.prog 40 #[.slice a n c, .slice b len cap] w fun e w' => ∃ v, e = .returned (.tuple #[v, .int .i64 (skE l ys)]) ∧ w'.ownsRow w.heap.size 5 1 v (skB l ys).length ((skB l ys).map (Value.int .u8)) ∧ Below w.heap.size w w' := by
  have HL := Hid.mk' hl
  have HHb := Hid.mk' hH
  have HCl := Hid.mk' (copy_at a n c ys w hy hB hn)
  have HY := Hid.mk' hB.bytes
  have HYl := Hid.mk' hB.len
  by_cases h8 : 8 < len
  · have e3 : skE l ys = 3 := by unfold skE; rw [if_neg (by omega)]
    have eB : skB l ys = [] := by unfold skB; rw [e3, if_neg (by omega)]
    rw [e3, eB]
    clear hl hH hy hB
    go_enter Tryz.func40, Tryz.ntmps40
    go_wp2_with fail
    refine bodyPost_ret (results_tmp2 rfl _ _ _) rfl ?_
    exact ⟨_, rfl, World.ownsRow_nil _ _ _ _, Below.refl _ _⟩
  · have ok : ∀ j, Hh (l.getD j hz) := getD_hh HHb.out.ok
    have OKg := Hid.mk' ok
    have HY2 := Hid.mk' hy
    clear hl hH hB hy ok
    go_enter Tryz.func40, Tryz.ntmps40
    go_wp2_with (go_at_call 35; refine HCl.out.mono ?_; rintro e w1 ⟨v1, rfl, own1, b1⟩; obtain ⟨a1, c1, rfl⟩ := own_slice own1)
    have HO := Hid.mk' own1
    have HB1 := Hid.mk' b1
    clear own1 b1
    go_loopg [6, 7] len (fun f s6 s7 wr => ∃ (m : Nat) (zs : List Int) (a2 : Option Addr) (c2 : Nat), s7 = .int .i64 ((m : Int) - 1) ∧ s6 = .slice a2 zs.length c2 ∧ m ≤ len ∧ m ≤ f ∧ Hid (stP (l.drop m) ys = (0, zs)) ∧ Hid (wr.ownsRow w.heap.size 5 1 (.slice a2 zs.length c2) zs.length (zs.map (Value.int .u8))) ∧ Hid (Below w.heap.size w wr))
    case atStart =>
      refine ⟨len, ys, a1, c1, rfl, by rw [HY2.out], Nat.le_refl _, Nat.le_refl _, Hid.mk' (by rw [← HL.out, List.drop_length]; rfl), Hid.mk' (by rw [HY2.out]; exact HO.out), HB1⟩
    case round =>
      obtain ⟨m, zs, a2, c2, rfl, rfl, hm, hf, HS, HR, HW⟩ := hrel
      rcases Nat.eq_zero_or_pos m with rfl | hm0
      · go_wp2_with fail
        refine bodyPost_ret (results_tmp2 rfl _ _ _) rfl ?_
        have hS : stP l ys = (0, zs) := by have := HS.out; rwa [List.drop_zero] at this
        have es : skE l ys = 0 := by unfold skE; rw [if_pos (by have := HL.out; omega), hS]
        have eS : skB l ys = zs := by unfold skB; rw [if_pos es, hS]
        rw [es, eS]
        exact ⟨_, rfl, HR.out, HW.out⟩
      · obtain ⟨j, rfl⟩ : ∃ j, m = j + 1 := ⟨m - 1, by omega⟩
        rw [show ((j + 1 : Nat) : Int) - 1 = (j : Int) by go_num]
        have hjl : j < l.length := by have := HL.out; omega
        obtain ⟨y, o, ea, hya, hlies⟩ : ∃ x o, b = some ⟨x, o, none⟩ ∧ x < w.heap.size ∧ ∀ i H, l[i]? = some H → w.rangeAt x (o + i * 73) H := by
          rcases HHb.out.lies with h | h
          · omega
          · exact h
        subst ea
        have hgD : l[j]? = some (l.getD j hz) := by rw [List.getD_eq_getElem?_getD, List.getElem?_eq_getElem hjl]; rfl
        have RG := Hid.mk' (show wr.rangeAt y (o + j * 73) (l.getD j hz) from fun i v hv => (HW.out.cell (p := ⟨y, o + j * 73 + i, none⟩) hya).trans (hlies j _ hgD i v hv))
        have HS2 := Hid.mk' (stP_step hjl HS.out)
        have HBD := Hid.mk' (stP_bad l ys j)
        have hh := OKg.out j
        have hzb : Bytes zs := by have := stP_bytes (l.drop (j + 1)) ys (fun J hJ => HHb.out.ok J (List.mem_of_mem_drop hJ)) HY.out; rwa [HS.out] at this
        have hzl : zs.length ≤ 140737488355328 := by
          rcases stP_len (l.drop (j + 1)) ys (fun J hJ => HHb.out.ok J (List.mem_of_mem_drop hJ)) HY.out with h | ⟨-, h⟩
          · rw [HS.out] at h; exact Nat.le_trans h (by decide)
          · rw [HS.out] at h; rw [show zs = ys from h]; exact HYl.out
        obtain ⟨a4, c4, e4, bs4, -⟩ := bs_own HR.out hzb hzl
        have ea4 : a4 = a2 ∧ c4 = c2 := by cases e4; exact ⟨rfl, rfl⟩
        obtain ⟨rfl, rfl⟩ := ea4
        clear hgD e4 hzb hlies
        obtain ⟨H, hHe⟩ : ∃ H, l.getD j hz = H := ⟨_, rfl⟩
        rw [hHe] at RG HS2 hh
        have PS := Hid.mk' (rpush_any H a4 zs.length c4 zs wr hh rfl bs4)
        have hlen := Hid.mk' (hh_len hh)
        have HEe := Hid.mk' hHe
        have hlt : j < len := by omega
        clear bs4 hHe hh
        by_cases he : puE H zs = 0
        · rw [he] at PS
          go_wp2_with (first
            | refine wpList_load_mid rfl 46 _ rfl y (o + j * 73) rfl H _ RG.out Tryz.underlying46 rfl (by rw [hlen.out]; exact info_hh) ?_
            | (go_at_call 36; refine PS.out.mono ?_; rintro e w2 ⟨v2, rfl, own2, b2⟩; obtain ⟨a3, c3, rfl⟩ := own_slice own2))
          go_roundg j
          case measure => omega
          case rel =>
            refine ⟨j, puB H zs, a3, c3, rfl, rfl, by omega, Nat.le_refl _, Hid.mk' ?_, Hid.mk' (ownsRow_base own2 HW.out.size), Hid.mk' (HW.out.trans (b2.mono HW.out.size))⟩
            rw [HS2.out, he]
        · obtain ⟨E, hE⟩ : ∃ E, Hid (puE H zs = E) := ⟨_, rfl⟩
          rw [hE.out] at PS he HS2
          have hne : ¬ (stP (l.drop j) ys).1 = 0 := by rw [HS2.out]; exact he
          have es : skE l ys = E := by unfold skE; rw [if_pos (by have := HL.out; omega), HBD.out hne, HS2.out]
          have eS : skB l ys = [] := by unfold skB; rw [es, if_neg he]
          have ES := Hid.mk' (And.intro es eS)
          clear hne es eS
          go_wp2_with (first
            | refine wpList_load_mid rfl 46 _ rfl y (o + j * 73) rfl H _ RG.out Tryz.underlying46 rfl (by rw [hlen.out]; exact info_hh) ?_
            | (go_at_call 36; refine PS.out.mono ?_; rintro e w2 ⟨v2, rfl, own2, b2⟩; obtain ⟨a3, c3, rfl⟩ := own_slice own2))
          refine bodyPost_ret (results_tmp2 rfl _ _ _) rfl ?_
          rw [ES.out.1, ES.out.2]
          exact ⟨_, rfl, World.ownsRow_nil _ _ _ _, HW.out.trans (b2.mono HW.out.size)⟩

set_option maxRecDepth 10000

theorem flat_len {l : List (List Value)} (h : ∀ H ∈ l, Hh H) : l.flatten.length = l.length * 73 := by
  induction l with
  | nil => rfl
  | cons H r ih =>
    rw [List.flatten_cons, List.length_append, ih (fun J hJ => h J (List.mem_cons_of_mem _ hJ)), hh_len (h H List.mem_cons_self), List.length_cons]; omega

theorem flats_one {l : List (List Value)} (h : ∀ H ∈ l, Hh H) : ∀ v ∈ l.flatten, v.oneCell' = true := by
  intro v hv
  obtain ⟨H, hH, hvH⟩ := List.mem_flatten.1 hv
  exact hh_mem (h H hH) v hvH

theorem flat_cells {w : World} {x : Nat} : ∀ (l : List (List Value)) (o : Nat), (∀ H ∈ l, Hh H) → (∀ i H, l[i]? = some H → w.rangeAt x (o + i * 73) H) → ∀ k u, l.flatten[k]? = some u → w.cell? ⟨x, o + k, none⟩ = some u
  | [], _, _, _, k, u, hu => by simp at hu
  | H :: r, o, h, hc, k, u, hu => by
    have hl := hh_len (h H List.mem_cons_self)
    rw [List.flatten_cons] at hu
    by_cases hk : k < 73
    · rw [List.getElem?_append_left (by omega)] at hu
      have := hc 0 H rfl k u hu
      simpa using this
    · rw [List.getElem?_append_right (by omega), hl] at hu
      have := flat_cells r (o + 73) (fun J hJ => h J (List.mem_cons_of_mem _ hJ)) (fun i J hJ j v hv => by
        have := hc (i + 1) J (by simpa using hJ) j v hv
        rw [show o + (i + 1) * 73 + j = o + 73 + i * 73 + j by omega] at this
        exact this) (k - 73) u hu
      rw [show o + 73 + (k - 73) = o + k by omega] at this
      exact this

/-- A row of the call's own that holds heads. -/
theorem hb_own {w : World} {base : Nat} {a : Option Addr} {c n : Nat} {l : List (List Value)} (h : w.ownsRow base 46 73 (.slice a n c) n l.flatten) (hl : l.length = n) (ok : ∀ H ∈ l, Hh H) : Hb w a l := by
  refine ⟨ok, ?_⟩
  rcases Nat.eq_zero_or_pos n with h0 | h0
  · exact .inl (by omega)
  · obtain ⟨g, c', e, -⟩ := own_some h h0
    cases e
    refine .inr ⟨g, 0, rfl, (h.lt g rfl).2, fun i H hi => ?_⟩
    have hlt := (List.getElem?_eq_some_iff.1 hi).1
    have hHe := (List.getElem?_eq_some_iff.1 hi).2
    have hsp : l.flatten = (l.take i).flatten ++ (H ++ (l.drop (i + 1)).flatten) := by
      conv => lhs; rw [← List.take_append_drop i l, List.drop_eq_getElem_cons hlt, hHe, List.flatten_append, List.flatten_cons]
    have := range_own h (F := H) (A := (l.take i).flatten) (B := (l.drop (i + 1)).flatten) hsp (by rw [flat_len (fun J hJ => ok J (List.mem_of_mem_take hJ)), List.length_take, Nat.min_eq_left (Nat.le_of_lt hlt)])
    rw [Nat.zero_add]; exact this

/-- A whole list of heads is appended to none. -/
theorem wpList_app_heads {w : World} {ops : Array Oper} {rest : List Oper} {o : Oper} {a : Act} {Q : Exit → Act → World → Prop} (hgd : o.guard = none) (s x : Operand)
    (ho : o.op = .call { callee := .builtin .append, args := #[s, x], argTypes := #[23, 23] })
    (hs : a.eval s = .slice none 0 0) (xa : Option Addr) (xc m : Nat) (l : List (List Value)) (hx : a.eval x = .slice xa m xc) (hm : l.length = m) (hy : Hb w xa l) (hsz : m * 100 ≤ 140737488351232)
    (h : ∀ v' w', w'.ownsRow w.heap.size 46 73 v' m l.flatten → Below w.heap.size w w' → wpList Tryz.prog ops Q rest (a.put o.dst v') w') : wpList Tryz.prog ops Q (o :: rest) a w := by
  obtain ⟨i0, hif, hz0, hz1, hz2⟩ := info_parts info_head
  refine wpList_plain hgd fun K hK => ?_
  obtain ⟨v', w', hrun, h1, h2⟩ : ∃ v' w', (Builtin.append_ #[23, 23] o.type #[.slice none 0 0, .slice xa m xc]).run Tryz.prog w = .ok v' w' ∧ w'.ownsRow w.heap.size 46 73 v' m l.flatten ∧ Below w.heap.size w w' := by
    rcases Nat.eq_zero_or_pos m with h0 | h0
    · subst h0
      obtain rfl := List.eq_nil_of_length_eq_zero hm
      refine ⟨.slice none 0 0, w, ?_, World.ownsRow_nil _ _ _ _, Below.refl _ _⟩
      cases xa <;> simp [Builtin.append_, run_underlying Tryz.underlying23, Go.sizeOf, typeInfo, hif, Builtin.lenOf, Builtin.firstCells, loadCells, loadCellsFrom]
    · rcases hy.lies with h | ⟨y, off, rfl, hyl, hc⟩
      · omega
      · obtain ⟨v', w', hr, q1, q2, q3⟩ := run_append_own2 (P := Tryz.prog) w w.heap.size 23 o.type 46 i0 (.agg hz.toArray) 73 100 Tryz.underlying23 hif hz0 hz1 hz2 rfl (by decide) (.slice none 0 0) 0 [] (World.ownsRow_nil _ _ _ _) ⟨y, off, none⟩ m xc l.flatten (by rw [flat_len hy.ok, hm]) (fun j u hu => by rw [addr_add]; exact flat_cells l off hy.ok hc j u hu) (flats_one hy.ok) (by unfold maxLen; omega) (by omega) (Nat.le_refl _)
        refine ⟨v', w', hr, by simpa using q1, (Below.refl _ w).grown q2 (Nat.le_refl _) (fun k e => by simp [Value.ownBlock] at e)⟩
  unfold Oper.wp
  simp [execOp, ho, resolve, invoke, builtin, hs, hx, hrun, Result.andThen]
  exact hK _ _ (h v' w' h1 h2)

set_option maxHeartbeats 4000000 in
theorem same_hb (b1 b2 : Option Addr) (N c1 c2 : Nat) (l : List (List Value)) (w : World) (few : N ≤ 140737488351232) (hl : l.length = N) (h1 : Hb w b1 l) (h2 : Hb w b2 l) : Calls Tryz.prog 41 #[.slice b1 N c1, .slice b2 N c2] w fun e w' => e = .returned (.bool true) ∧ Dr w w' := by
  have O1 := Hid.mk' h1
  have O2 := Hid.mk' h2
  have HN := Hid.mk' hl
  clear h1 h2 hl
  go_enter Tryz.func41, Tryz.ntmps41
  go_wp2_with fail
  go_loopg [5] N (fun f s5 wr => ∃ i : Nat, s5 = .int .i64 i ∧ i ≤ N ∧ N - i ≤ f ∧ Hid (Dr w wr))
  case atStart => exact ⟨0, rfl, by omega, by omega, Dr.refl _⟩
  case round =>
    obtain ⟨i, rfl, hi, hf, HD⟩ := hrel
    by_cases hlt : i < N
    · obtain ⟨g1, o1, e1, -, r1⟩ : ∃ x o, b1 = some ⟨x, o, none⟩ ∧ x < w.heap.size ∧ ∀ i H, l[i]? = some H → w.rangeAt x (o + i * 73) H := by
        rcases O1.out.lies with h | h
        · have := HN.out; omega
        · exact h
      obtain ⟨g2, o2, e2, -, r2⟩ : ∃ x o, b2 = some ⟨x, o, none⟩ ∧ x < w.heap.size ∧ ∀ i H, l[i]? = some H → w.rangeAt x (o + i * 73) H := by
        rcases O2.out.lies with h | h
        · have := HN.out; omega
        · exact h
      subst e1 e2
      obtain ⟨H, hx⟩ : ∃ x, l[i]? = some x := ⟨_, List.getElem?_eq_getElem (by rw [HN.out]; exact hlt)⟩
      have hhH := O1.out.ok H (List.mem_of_getElem? hx)
      have R1 := r1 i H hx
      have R2 := r2 i H hx
      have hh73 := Hid.mk' (hh_len hhH)
      have hne := neq_same (t := 46) (L := H) (hh_eq hhH)
      have S1 : wr.drew.rangeAt g1 (o1 + i * 73) H := fun j v hv => ((HD.out.more 1).cell _).trans (R1 j v hv)
      have S2 : wr.drew.rangeAt g2 (o2 + i * 73) H := fun j v hv => ((HD.out.more 1).cell _).trans (R2 j v hv)
      have RR := Hid.mk' (And.intro S1 S2)
      clear hx R1 R2 S1 S2 r1 r2 hhH
      go_wp2_with fail
      refine wp_region_held_drew (S := fun u => u.rangeAt g1 (o1 + i * 73) H ∧ u.rangeAt g2 (o2 + i * 73) H) (by kernel_rfl) RR.out (fun hHeld => ?_)
      change wpAnyH _ _ _ _ _ 9 #[false, false, false, false, false, false, false, false, false] _ _
      refine held_take 0 17 (.slice (some ⟨g1, o1, none⟩) N c1) rfl rfl (by kernel_rfl) (by kernel_rfl) (by kernel_rfl) (fun _ _ _ h => h) (Or.inl ⟨by rfl, fun u hu => ?_⟩) hHeld ?_
      · go_simp
      simp only [Act.put, List.setIfInBounds_toArray, List.set_cons_zero, List.set_cons_succ]
      refine held_take 1 18 (.int .i64 i) rfl rfl (by kernel_rfl) (by kernel_rfl) (by kernel_rfl) (fun _ _ _ h => h) (Or.inl ⟨by rfl, fun u hu => ?_⟩) hHeld ?_
      · go_simp
      simp only [Act.put, List.setIfInBounds_toArray, List.set_cons_zero, List.set_cons_succ]
      refine held_take 2 19 (.pointer (some ⟨g1, o1 + i * 73, none⟩)) rfl rfl (by kernel_rfl) (by kernel_rfl) (by kernel_rfl) (fun _ _ _ h => h) (Or.inl ⟨by rfl, fun u hu => ?_⟩) hHeld ?_
      · go_simp
      simp only [Act.put, List.setIfInBounds_toArray, List.set_cons_zero, List.set_cons_succ]
      refine held_take 3 20 (.agg H.toArray) rfl rfl (by kernel_rfl) (by kernel_rfl) (by kernel_rfl) (fun _ _ _ h => h) (yieldsIf_load_mid (by rfl) 46 _ rfl g1 (o1 + i * 73) rfl H _ (fun u hu => hu.1) Tryz.underlying46 rfl (by rw [hh73.out]; exact info_hh)) hHeld ?_
      simp only [Act.put, List.setIfInBounds_toArray, List.set_cons_zero, List.set_cons_succ]
      refine held_take 4 21 (.slice (some ⟨g2, o2, none⟩) N c2) rfl rfl (by kernel_rfl) (by kernel_rfl) (by kernel_rfl) (fun _ _ _ h => h) (Or.inl ⟨by rfl, fun u hu => ?_⟩) hHeld ?_
      · go_simp
      simp only [Act.put, List.setIfInBounds_toArray, List.set_cons_zero, List.set_cons_succ]
      refine held_take 5 22 (.int .i64 i) rfl rfl (by kernel_rfl) (by kernel_rfl) (by kernel_rfl) (fun _ _ _ h => h) (Or.inl ⟨by rfl, fun u hu => ?_⟩) hHeld ?_
      · go_simp
      simp only [Act.put, List.setIfInBounds_toArray, List.set_cons_zero, List.set_cons_succ]
      refine held_take 6 23 (.pointer (some ⟨g2, o2 + i * 73, none⟩)) rfl rfl (by kernel_rfl) (by kernel_rfl) (by kernel_rfl) (fun _ _ _ h => h) (Or.inl ⟨by rfl, fun u hu => ?_⟩) hHeld ?_
      · go_simp
      simp only [Act.put, List.setIfInBounds_toArray, List.set_cons_zero, List.set_cons_succ]
      refine held_take 7 24 (.agg H.toArray) rfl rfl (by kernel_rfl) (by kernel_rfl) (by kernel_rfl) (fun _ _ _ h => h) (yieldsIf_load_mid (by rfl) 46 _ rfl g2 (o2 + i * 73) rfl H _ (fun u hu => hu.2) Tryz.underlying46 rfl (by rw [hh73.out]; exact info_hh)) hHeld ?_
      simp only [Act.put, List.setIfInBounds_toArray, List.set_cons_zero, List.set_cons_succ]
      refine held_take 8 25 (.bool false) rfl rfl (by kernel_rfl) (by kernel_rfl) (by kernel_rfl) (fun _ _ _ h => h) (Or.inl ⟨by rfl, fun u hu => ?_⟩) hHeld ?_
      · go_simp
      simp only [Act.put, List.setIfInBounds_toArray, List.set_cons_zero, List.set_cons_succ]
      refine wpAnyH_done (by kernel_rfl) ?_ _
      have HD2 : Hid (Dr w wr.drew) := Hid.mk' (HD.out.more 1)
      clear HD RR hHeld
      go_wp2_with fail
      go_roundg (N - (i + 1))
      case measure => omega
      case rel => exact ⟨i + 1, by go_num, by omega, by omega, HD2⟩
    · go_wp2_with fail
      go_ret
      exact ⟨rfl, HD.out⟩

set_option maxRecDepth 10000

theorem skB_bytes {l : List (List Value)} {ys : List Int} (hl : ∀ H ∈ l, Hh H) (hy : Bytes ys) : Bytes (skB l ys) := by
  unfold skB; split
  · exact stP_bytes l ys hl hy
  · intro z hz; cases hz

theorem skB_len {l : List (List Value)} {ys : List Int} (hl : ∀ H ∈ l, Hh H) (hy : Bytes ys) (h : ys.length ≤ 140737488355328) : (skB l ys).length ≤ 140737488355328 := by
  unfold skB; split
  · rcases stP_len l ys hl hy with h1 | ⟨-, h1⟩
    · omega
    · rw [h1]; exact h
  · simp

set_option maxHeartbeats 4000000 in
theorem stacks_any (a : Option Addr) (n c : Nat) (zs : List Int) (b : Option Addr) (len cap : Nat) (l : List (List Value)) (W : World) (hn : zs.length = n) (h0 : Bs W a zs) (n0 : a = none → c = 0) (hl : l.length = len) (hH : Hb W b l) (hsz : len * 100 ≤ 140737488351232) :
    Calls Tryz.prog 18 #[.slice a n c, .slice b len cap] W fun e w' => e = .returned (.bool true) ∧ Below W.heap.size W w' := by
  have H0 := Hid.mk' h0
  have N0 := Hid.mk' n0
  have HN := Hid.mk' hn
  have HHb := Hid.mk' hH
  have HL := Hid.mk' hl
  have hln : n ≤ 140737488355328 := by rw [← hn]; exact h0.len
  have HP : Hid (∀ (x : Option Addr) (cx : Nat) (y : Option Addr) (cy : Nat) (u : World), Bs u x zs → Hb u y l → Calls Tryz.prog 6 #[.slice x n cx, .slice y len cy] u fun e w' => ∃ v, e = .returned (.tuple #[v, .int .i64 (skE l zs)]) ∧ w'.ownsRow u.heap.size 5 1 v (skB l zs).length ((skB l zs).map (Value.int .u8)) ∧ Below u.heap.size u w') := Hid.mk' (fun x cx y cy u hB hh => stack_any x n cx zs y len cy l u hn hB hl hh)
  have HR : Hid (∀ (u : World), Bs u a zs → Hb u b l → Calls Tryz.prog 40 #[.slice a n c, .slice b len cap] u fun e w' => ∃ v, e = .returned (.tuple #[v, .int .i64 (skE l zs)]) ∧ w'.ownsRow u.heap.size 5 1 v (skB l zs).length ((skB l zs).map (Value.int .u8)) ∧ Below u.heap.size u w') := Hid.mk' (fun u hB hh => rstack_any a n c zs b len cap l u hn hB n0 hl hh)
  have BB : Hid (Bytes (skB l zs)) := Hid.mk' (skB_bytes hH.ok h0.bytes)
  have BL : (skB l zs).length ≤ 140737488355328 := skB_len hH.ok h0.bytes h0.len
  obtain ⟨E, HE⟩ : ∃ E, Hid (skE l zs = E) := ⟨_, rfl⟩
  obtain ⟨BY, HBY⟩ : ∃ BY, Hid (skB l zs = BY) := ⟨_, rfl⟩
  rw [HE.out, HBY.out] at HP HR
  rw [HBY.out] at BB BL
  obtain ⟨nb, HNB⟩ : ∃ nb, Hid (BY.length = nb) := ⟨_, rfl⟩
  rw [HNB.out] at HP HR BL
  have EQB : Hid (∀ (u : World) (x y : Option Addr) (cx cy : Nat), Bs u x BY → Bs u y BY → Calls Tryz.prog 9 #[.slice x nb cx, .slice y nb cy] u fun e w' => e = .returned (.bool true) ∧ Dr u w') := Hid.mk' (fun u x y cx cy h1 h2 => by have := eq_at x y nb nb cx cy BY BY u HNB.out HNB.out h1 h2; rwa [show decide (BY = BY) = true by simp] at this)
  have EQZ : Hid (∀ (u : World) (x y : Option Addr) (cx cy : Nat), Bs u x zs → Bs u y zs → Calls Tryz.prog 9 #[.slice x n cx, .slice y n cy] u fun e w' => e = .returned (.bool true) ∧ Dr u w') := Hid.mk' (fun u x y cx cy h1 h2 => by have := eq_at x y n n cx cy zs zs u HN.out HN.out h1 h2; rwa [show decide (zs = zs) = true by simp] at this)
  clear h0 n0 hn hl hH HE HBY
  go_enter Tryz.func18, Tryz.ntmps18
  go_wp2_with fail
  refine (copy_at a n c zs _ HN.out H0.out N0.out).mono ?_
  rintro e w2 ⟨v, rfl, hown, b2⟩
  obtain ⟨a2, c2, rfl, s2, hc2, -⟩ := K05.own_bs hown HN.out H0.out.bytes H0.out.len
  have S2 := Hid.mk' hown
  have B2 := Hid.mk' b2
  have D2 : Hid (∀ k, (Value.slice a2 n c2).ownBlock = some k → k < w2.heap.size) := Hid.mk' (fun k hk => (hown.lt k hk).2)
  clear hown s2 b2 hc2
  go_wp2_with (refine wpList_app_heads rfl _ _ rfl rfl b cap len l rfl HL.out (HHb.out.below B2.out) hsz ?_; intro v3 w3 own3 b3; obtain ⟨a3, c3, rfl⟩ := own_slice own3)
  have S3 := Hid.mk' (Kept.owns S2.out (Kept.of_below (S := fun _ => False) b3) (fun _ _ h => h))
  have B3 := Hid.mk' (B2.out.trans (b3.mono B2.out.size))
  have D3 : Hid (∀ k, (Value.slice a2 n c2).ownBlock = some k → k < w3.heap.size) := Hid.mk' (fun k hk => Nat.lt_of_lt_of_le (D2.out k hk) b3.size)
  have L3 := Hid.mk' (hb_own own3 HL.out HHb.out.ok)
  clear own3 b3 S2 B2 D2
  refine (HP.out a2 c2 a3 c3 _ (bs_ro S3.out HN.out H0.out.bytes H0.out.len) L3.out).mono ?_
  rintro e w4 ⟨v4, rfl, hown, b4⟩
  obtain ⟨a4, c4, rfl, s4, -, -⟩ := K05.own_bs hown HNB.out BB.out (by rw [HNB.out]; omega)
  have S4 := Hid.mk' (Kept.owns S3.out (Kept.of_below (S := fun _ => False) b4) (fun _ _ h => h))
  have O4 := Hid.mk' hown
  have L4 := Hid.mk' (L3.out.below b4)
  have B4 := Hid.mk' (B3.out.trans (b4.mono B3.out.size))
  clear hown s4 b4 S3 L3 HP
  go_wp2_with fail
  refine (HR.out _ (H0.out.below B4.out) (HHb.out.below B4.out)).mono ?_
  rintro e w5 ⟨v5, rfl, hown, b5⟩
  obtain ⟨a5, c5, rfl, s5, -, -⟩ := K05.own_bs hown HNB.out BB.out (by rw [HNB.out]; omega)
  have S5 := Hid.mk' (Kept.owns S4.out (Kept.of_below (S := fun _ => False) b5) (fun _ _ h => h))
  have O5 := Hid.mk' (Kept.owns O4.out (Kept.of_below (S := fun _ => False) b5) (fun _ _ h => h))
  have T5 := Hid.mk' hown
  have L5 := Hid.mk' (L4.out.below b5)
  have B5 := Hid.mk' (B4.out.trans (b5.mono B4.out.size))
  clear hown s5 b5 S4 O4 L4 B4 HR
  go_wp2_with (go_at_call_of 9 (Value.slice a4 nb c4); refine (EQB.out w5 a4 a5 c4 c5 (bs_ro O5.out HNB.out BB.out (by rw [HNB.out]; omega)) (bs_ro T5.out HNB.out BB.out (by rw [HNB.out]; omega))).mono ?_; rintro e w6 ⟨rfl, d6⟩)
  refine (same_hb a3 b len c3 cap l w6 (by omega) HL.out (L5.out.below (d6.below _)) ((HHb.out.below B5.out).below (d6.below _))).mono ?_
  rintro e w7 ⟨rfl, d7⟩
  have J7 : Hid (PoK W w3.heap.size n nb (.slice a2 n c2) (.slice a4 nb c4) zs BY w7) := Hid.mk' (PoK.below (PoK.below ⟨S5.out, O5.out, B5.out⟩ (d6.below _)) (d7.below _))
  clear d6 d7 S5 O5 T5 L5 B5
  go_wp2_with fail
  go_loopw [11] (fun i wr => ∃ (k : Nat) (YS : List Int), k ≤ nb ∧ i = .int .i64 k ∧ Hid (YS.length = nb) ∧ Hid (PoK W w3.heap.size n nb (.slice a2 n c2) (.slice a4 nb c4) zs YS wr)) (fun i _ => nb - (intOf i).toNat)
  case atStart => exact ⟨0, BY, Nat.zero_le _, rfl, HNB, J7⟩
  case round =>
    clear J7
    obtain ⟨k, YS, hk, rfl, HYL, J⟩ := hrel
    by_cases hlt : k < nb
    · obtain ⟨g, c', e3, -⟩ := own_some J.out.r3 (by omega)
      cases e3
      have hsp : (k : Int) < (nb : Int) := by omega
      have cc : wr.cell? ⟨g, k, none⟩ = some (.int .u8 (YS.getD k 0)) := by
        rw [J.out.r3.cellAt k (by simp; omega)]
        simp [HYL.out, hlt]
      have ff := J.out.r3.frozenAt k
      generalize YS.getD k 0 = x at cc
      go_wp2_with fail
      go_roundw
      case rel => exact ⟨k + 1, YS.set k (bits .xor .u8 x 90), hlt, by go_num, Hid.mk' (by rw [List.length_set]; exact HYL.out), Hid.mk' (J.out.turn B3.out.size D3.out k _)⟩
      case measure => simp [intOf]; omega
    · go_wp2_with fail
      refine (EQZ.out _ a2 a c2 c (bs_ro J.out.r2 HN.out H0.out.bytes H0.out.len) (H0.out.below J.out.old)).mono ?_
      rintro e w11 ⟨rfl, d11⟩
      have J11 := Hid.mk' (J.out.below (d11.below _))
      clear d11 J
      go_wp2_with fail
      refine (wawake w11).mono ?_
      rintro e w12 ⟨rfl, b12⟩
      have J12 := Hid.mk' (J11.out.below b12)
      clear b12 J11
      go_wp2_with fail
      go_ret
      exact ⟨rfl, J12.out.old⟩

/-- The bytes that a slice takes are within reach. -/
theorem reach_by {H : Type} {ts : List TypeId} {ds : List (DataW H)} (h : (DataW.weightsEach Tryz.prog ts ds).all (· ≤ reachBytes) = true) {j : Nat} {t e : TypeId} {d : DataW H} {k : Nat} (ht : ts[j]? = some t) (hd : ds[j]? = some d) (hu : Tryz.prog.underlying t = some (.slice e))
    {α : Type} {xs : List α} (hx : d = .nil ∧ xs = [] ∨ ∃ el sp, d = .slice el sp ∧ el.length = xs.length) (hk : k = xs.length := by rfl) : k * Tryz.prog.bytesOf e ≤ 140737488351232 := by
  subst hk
  rcases hx with ⟨_, rfl⟩ | ⟨elems, spare, rfl, he⟩
  · simp
  · have h1 := sized_slice h ht hd hu
    rw [reachBytes] at h1
    have h2 : elems.length * Tryz.prog.bytesOf e ≤ (elems.length + spare.length) * Tryz.prog.bytesOf e := Nat.mul_le_mul_right _ (Nat.le_add_right _ _)
    rw [← he]
    omega

theorem head_bytes : Tryz.prog.bytesOf 46 = 100 := by kernel_rfl

theorem walkWrapStacks (a : Option Addr) (c : Nat) (zs : List Int) (b : Option Addr) (cap : Nat) (xs : List sh46.M) (W : World) (h0 : Bs W a zs) (n0 : (a = none → c = 0) ∧ zs.length ≤ c) (o1 : SlOk sh46 W b cap xs) (l1 : xs.length * Tryz.prog.bytesOf 46 ≤ 140737488351232) :
    Calls Tryz.prog 18 #[.slice a zs.length c, .slice b xs.length cap] W fun e w' => e = .returned (.bool true) ∧ Below W.heap.size W w' := by
  rw [head_bytes] at l1
  refine stacks_any a zs.length c zs b xs.length cap (xs.map sh46.cs) W rfl h0 n0.1 (by simp) ⟨?_, ?_⟩ l1
  · intro H hH
    obtain ⟨m, hm, rfl⟩ := List.mem_map.1 hH
    exact whh_open W m (o1.2.2 m hm)
  · rcases o1.2.1 with h | ⟨y, o, rfl, hc⟩
    · left; simpa using h
    · by_cases hx0 : xs.length = 0
      · left; simpa using hx0
      · right
        refine ⟨y, o, rfl, ?_, ?_⟩
        · obtain ⟨m, hm⟩ : ∃ m, xs[0]? = some m := ⟨_, List.getElem?_eq_getElem (by omega)⟩
          have hl := hh_len (whh_open W m (o1.2.2 m (List.mem_of_getElem? hm)))
          have := hc 0 m hm 0 _ (List.getElem?_eq_getElem (by omega))
          refine Nat.lt_of_not_le (fun hge => ?_)
          have hn : W.heap[y]? = none := Array.getElem?_eq_none hge
          simp [World.cell?, hn] at this
        · intro i H hi j v hv
          rw [List.getElem?_map] at hi
          obtain ⟨m, hm, rfl⟩ := Option.map_eq_some_iff.1 hi
          exact hc i m hm j v hv

end Go.Proofs.YtednmdkjhiihcaaGreat
