/- Stage 12: heads in a row; slices.Backward over them: what comes, in which order, whatever the loop's body does that leaves them as they are. -/
import Derived.RangeFuncNested
import Derived.RangeFuncBound
import Derived.RangeFuncCalls
import Derived.RangeFuncLeaves
import Derived.RangeFuncBox
import Derived.Shelf.Abstract
import Derived.Shelf.RegionOpen
import Derived.WalkKit
import Derived.OwnWalkIn
import Derived.TacticsInMore
import Derived.LoopNIn
import Derived.LoopIn
import Derived.Test.YtednmdkjhiihcaaGreatRq
namespace Go.Proofs.YtednmdkjhiihcaaGreat
open Go.ChangeShapes Go.WideShapes Go.ChangeAt Go.RowKit
set_option maxRecDepth 10000
attribute [local go_sem] Oper.semAt_some

/-- Heads that lie in a row. -/
structure Hb (w : World) (a : Option Addr) (l : List (List Value)) : Prop where
  ok : ∀ H ∈ l, Hh H
  lies : l.length = 0 ∨ ∃ x o, a = some ⟨x, o, none⟩ ∧ x < w.heap.size ∧ ∀ i H, l[i]? = some H → w.rangeAt x (o + i * 73) H
theorem Hb.below {w w' : World} {a : Option Addr} {l : List (List Value)} (h : Hb w a l) (b : Below w.heap.size w w') : Hb w' a l := by
  refine ⟨h.ok, ?_⟩
  rcases h.lies with h | ⟨x, o, e, hx, hc⟩
  · exact .inl h
  · exact .inr ⟨x, o, e, Nat.lt_of_lt_of_le hx b.size, fun i H hi j v hv => (b.cell (p := ⟨x, o + i * 73 + j, none⟩) hx).trans (hc i H hi j v hv)⟩
theorem getD_hh {l : List (List Value)} (h : ∀ H ∈ l, Hh H) (j : Nat) : Hh (l.getD j hz) := by
  rw [List.getD_eq_getElem?_getD]
  cases hj : l[j]? with
  | none => exact hz_hh
  | some H => exact h H (List.mem_of_getElem? hj)

/-- A struct is loaded within a round of a loop over a function. -/
theorem wpListIn_load_mid {F : Fence} {n : Nat} {ops : Array Oper} {rest : List Oper} {op : Oper} {a : Act} {w : World} {Q : Exit → Act → World → Prop} (hgd : op.guard = none) (ty : TypeId) (x : Operand) (ho : op.op = .load ty x)
    (b o : Nat) (hx : a.eval x = .pointer (some ⟨b, o, none⟩)) (cs : List Value) (d : TypeDesc) (hc : w.rangeAt b o cs)
    (hu : Tryz.prog.underlying ty = some d) (hd : d.isRow = true) (hi : (Tryz.prog.info? ty).map (·.size) = some cs.length)
    (h : wpListIn F n Tryz.prog ops Q rest (a.put op.dst (.agg cs.toArray)) w) : wpListIn F n Tryz.prog ops Q (op :: rest) a w := by
  refine wpListIn_plain hgd fun K hK => ?_
  unfold Oper.wpIn
  refine ⟨fun f hf => ?_, ?_⟩
  · unfold Oper.about at hf; rw [ho] at hf; cases hf
  · rw [Oper.semAt_eq _ _ _ (fun c h => by rw [ho] at h; cases h)]
    unfold execOp
    simp only [ho, hx, Instr.loadAt, Instr.sureAddr, Sem.run_bind, Sem.run_pure, Result.andThen_ok, run_loadVar_mid w b o ty cs d hc hu hd hi]
    exact hK _ _ h
/-- .. and stored into the block that was laid just now. -/
theorem wpListIn_store_newAt {F : Fence} {n : Nat} {ops : Array Oper} {rest : List Oper} {op : Oper} {a : Act} {w : World} {Q : Exit → Act → World → Prop} (hgd : op.guard = none) (ty : TypeId) (x y : Operand) (ho : op.op = .store ty x y) (t : TypeId)
    (Z L : List Value) (g : Nat) (hg : w.heap.size = g) (hx : a.eval x = .pointer (some ⟨g, 0, none⟩)) (hy : a.eval y = .agg L.toArray) (hl : L.length = Z.length) (hi : (Tryz.prog.info? ty).map (·.size) = some L.length) (h1 : L.toArray.all (·.oneCell') = true)
    (h : wpListIn F n Tryz.prog ops Q rest (a.put op.dst undef) (w.alloc (.cells L.toArray t))) : wpListIn F n Tryz.prog ops Q (op :: rest) a (w.alloc (.cells Z.toArray t)) := by
  subst hg
  refine wpListIn_plain hgd fun K hK => ?_
  have ht : (w.alloc (.cells Z.toArray t)).there w.heap.size 0 L.toArray.size := by
    have e : L.toArray.size = Z.length := by rw [← hl]; exact List.size_toArray
    rw [e]; exact there_block (heap_alloc_new w _)
  unfold Oper.wpIn
  refine ⟨fun f hf => ?_, ?_⟩
  · unfold Oper.about at hf; rw [ho] at hf; cases hf
  · rw [Oper.semAt_eq _ _ _ (fun c h => by rw [ho] at h; cases h)]
    unfold execOp
    simp only [ho, hx, hy, Instr.storeAt, Instr.sureAddr, Sem.run_bind, Sem.run_pure, Result.andThen_ok, run_storeVar_mid _ w.heap.size 0 ty L.toArray ht (by simpa using hi) h1]
    have e : (w.alloc (.cells Z.toArray t)).setCells w.heap.size 0 L.toArray.toList = w.alloc (.cells L.toArray t) := by
      show (w.alloc (.cells Z.toArray t)).setCells w.heap.size 0 L = _
      rw [setCells_new w t _ 0 Z (by simp [hl]), put_all _ _ (by simp [hl])]
    rw [e]
    exact hK _ _ h

/-- What comes: a place, and the head there. -/
abbrev Bk1 := { x : Nat × List Value // Hh x.2 }
def bkE (x : Bk1) : Array Value := #[.int .i64 (x.1.1 : Nat), .agg x.1.2.toArray]
def bkF (l : List (List Value)) (ok : ∀ j, Hh (l.getD j hz)) (j : Nat) : Bk1 := ⟨(l.length - 1 - j, l.getD (l.length - 1 - j) hz), ok _⟩
def bkL (l : List (List Value)) (ok : ∀ j, Hh (l.getD j hz)) (k : Nat) : List Bk1 := (List.range k).map (bkF l ok)
theorem bkL_succ (l : List (List Value)) (ok : ∀ j, Hh (l.getD j hz)) (k : Nat) : bkL l ok (k + 1) = bkL l ok k ++ [bkF l ok k] := by simp [bkL, List.range_succ]
theorem bkL_length (l : List (List Value)) (ok : ∀ j, Hh (l.getD j hz)) (k : Nat) : (bkL l ok k).length = k := by simp [bkL]
/-- The heads that have come, in the order in which they lie. -/
def bkH (pre : List Bk1) : List (List Value) := (pre.map (·.1.2)).reverse
theorem bkH_snoc (pre : List Bk1) (x : Bk1) : bkH (pre ++ [x]) = x.1.2 :: bkH pre := by simp [bkH]
theorem bkH_drop (l : List (List Value)) (ok : ∀ j, Hh (l.getD j hz)) : ∀ k, k ≤ l.length → bkH (bkL l ok k) = l.drop (l.length - k)
  | 0, _ => by simp [bkH, bkL]
  | k + 1, hk => by
    rw [bkL_succ, bkH_snoc, bkH_drop l ok k (by omega)]
    have hlt : l.length - (k + 1) < l.length := by omega
    rw [List.drop_eq_getElem_cons hlt, show l.length - (k + 1) + 1 = l.length - k by omega]
    congr 1
    show l.getD (l.length - 1 - k) hz = _
    rw [show l.length - 1 - k = l.length - (k + 1) by omega, List.getD_eq_getElem?_getD, List.getElem?_eq_getElem hlt]
    rfl

/-- What a round keeps: what lay below n₀, and the block q. -/
def KpB (n₀ q : Nat) (W W' : World) : Prop := Below n₀ W W' ∧ W'.heap[q]? = W.heap[q]?
theorem KpB.refl (n₀ q : Nat) (W : World) : KpB n₀ q W W := ⟨Below.refl _ _, rfl⟩
theorem KpB.trans {n₀ q : Nat} {A B C : World} (h : KpB n₀ q A B) (k : KpB n₀ q B C) : KpB n₀ q A C := ⟨h.1.trans k.1, k.2.trans h.2⟩

set_option maxHeartbeats 2000000 in
theorem backward_any (a : Option Addr) (n c : Nat) (w : World) : Calls Tryz.prog 25 #[.slice a n c] w fun e w' => e = .returned (.func (.func 47) #[] #[pp w.heap.size]) ∧ w.alloc (.cells #[.slice a n c] 23) = w' := by
  go_enter Tryz.func25, Tryz.ntmps25
  go_wp2_with fail
  go_ret
  exact ⟨rfl, rfl⟩

set_option maxHeartbeats 4000000 in
theorem back_in (n : Nat) (hn : 1 ≤ n) (lp q n₀ : Nat) (a : Option Addr) (len cap : Nat) (l : List (List Value)) (ok : ∀ j, Hh (l.getD j hz)) (hl : l.length = len) (h8 : len ≤ 8) (J Jx : List Bk1 → World → Prop)
    (hY : ∀ pre x W, J pre W → pre.length < len → YieldAt Fence.wide (n - 1) Tryz.prog lp (bkE x) W fun e W' =>
      (e = .returned (.bool true) ∧ J (pre ++ [x]) W' ∧ KpB n₀ q W W') ∨ (e = .returned (.bool false) ∧ Jx (pre ++ [x]) W'))
    (W : World) (hq : W.heap[q]? = some (.cells #[.slice a len cap] 23 (0, 0))) (hH : Hb W a l) (hx : 0 < len → ∀ x, a = some x → x.block < n₀) (h0 : J [] W) :
    CallsIn Fence.wide n Tryz.prog 47 #[.func (.yield lp) #[] #[], pp q] W fun e W' => (∃ v, e = .returned v) ∧
      ((∃ ys, ys = bkL l ok len ∧ J ys W') ∨ (∃ pre, (∃ k, k ≤ len ∧ pre = bkL l ok k) ∧ Jx pre W')) := by
  have HQ := Hid.mk' hq
  have HHb := Hid.mk' hH
  have HX := Hid.mk' hx
  have HL := Hid.mk' hl
  have HY := Hid.mk' hY
  have HJ0 := Hid.mk' h0
  have c0 : W.cell? ⟨q, 0, none⟩ = some (.slice a len cap) := cell_of_row W q 0 _ _ _ hq
  have RB : Hid (∀ u, KpB n₀ q W u → u.cell? ⟨q, 0, none⟩ = some (.slice a len cap)) := Hid.mk' (fun u hu => by rw [cell_of_row u q 0 _ _ _ (hu.2.trans HQ.out)]; rfl)
  clear hq hH hx hl hY h0
  refine callsIn_of_wp Tryz.func47 rfl trivial ?_ rfl
  simp only [Tryz.ntmps47, List.size_toArray, List.length_cons, List.length_nil, Nat.reduceAdd, Nat.reduceSub, Array.replicate_succ, Array.replicate_zero, List.push_toArray, List.append_toArray, List.nil_append, List.cons_append]
  gi_wp2
  gi_loopw [3] (fun i wr => ∃ (m k : Nat), m + k = len ∧ i = .int .i64 ((m : Int) - 1) ∧ J (bkL l ok k) wr ∧ KpB n₀ q W wr) (fun i _ => (intOf i + 1).toNat)
  case atStart => exact ⟨len, 0, rfl, by go_num, HJ0.out, KpB.refl _ _ _⟩
  case round =>
    obtain ⟨m, k, hmk, rfl, hJs, hK⟩ := hrel
    have cc := RB.out _ hK
    rcases Nat.eq_zero_or_pos m with rfl | hm
    · obtain rfl : k = len := by omega
      gi_wp2
      go_end0
      exact ⟨⟨_, rfl⟩, .inl ⟨_, rfl, hJs⟩⟩
    · obtain ⟨j, rfl⟩ : ∃ j, m = j + 1 := ⟨m - 1, by omega⟩
      rw [show ((j + 1 : Nat) : Int) - 1 = (j : Int) by go_num]
      have hln : l.length = len := HL.out
      obtain ⟨y, o, ea, hya, hlies⟩ : ∃ x o, a = some ⟨x, o, none⟩ ∧ x < W.heap.size ∧ ∀ i H, l[i]? = some H → W.rangeAt x (o + i * 73) H := by
        rcases HHb.out.lies with h | h
        · omega
        · exact h
      subst ea
      have hjl : j < l.length := by omega
      have hgD : l[j]? = some (l.getD j hz) := by rw [List.getD_eq_getElem?_getD, List.getElem?_eq_getElem hjl]; rfl
      have hy0 : y < n₀ := HX.out (by omega) _ rfl
      have hrg : wr.rangeAt y (o + j * 73) (l.getD j hz) := fun i v hv => (hK.1.cell (p := ⟨y, o + j * 73 + i, none⟩) hy0).trans (hlies j _ hgD i v hv)
      have hidx : l.length - 1 - k = j := by omega
      obtain ⟨fn, tmps, assign, body, hyy, hR⟩ := HY.out (bkL l ok k) (bkF l ok k) wr hJs (by rw [bkL_length]; omega)
      have ebk : bkE (bkF l ok k) = #[.int .i64 (j : Nat), .agg (l.getD j hz).toArray] := by
        show #[Value.int .i64 ((l.length - 1 - k : Nat) : Int), .agg (l.getD (l.length - 1 - k) hz).toArray] = _
        rw [hidx]
      rw [ebk] at hyy
      have hlt : j < len := by omega
      have hhd : Hh (l.getD j hz) := ok j
      have hsz : Hid ((l.getD j hz).length = 73) := Hid.mk' (hh_len hhd)
      generalize l.getD j hz = H at *
      gi_wp2_with (refine wpListIn_load_mid rfl _ _ rfl y (o + j * 73) rfl H _ hrg rfl rfl (by rw [hsz.out]; rfl) ?_)
      refine hR.mono ?_
      rintro e W3 (⟨rfl, hJ3, hk3⟩ | ⟨rfl, hJx3⟩)
      · have hK3 := hK.trans hk3
        have cc3 := RB.out _ hK3
        gi_wp2
        go_roundw
        case rel => exact ⟨j, k + 1, by omega, rfl, by rw [bkL_succ]; exact hJ3, hK3⟩
        case measure => (simp [intOf]) <;> omega
      · gi_wp2
        refine bodyPost_ret (results_none rfl _ _ _) rfl ?_
        exact ⟨⟨_, rfl⟩, .inr ⟨_, ⟨k + 1, by omega, (bkL_succ _ _ _).symm⟩, hJx3⟩⟩

theorem back_stops (n : Nat) (hn : 1 ≤ n) (q n₀ : Nat) (a : Option Addr) (len cap : Nat) (l : List (List Value)) (ok : ∀ j, Hh (l.getD j hz)) (hl : l.length = len) (h8 : len ≤ 8)
    (w : World) (hqs : q < w.heap.size) (hq : w.heap[q]? = some (.cells #[.slice a len cap] 23 (0, 0))) (hH : Hb w a l) (hx : 0 < len → ∀ x, a = some x → x.block < n₀) :
    SeqStopsK Fence.wide n Tryz.prog 47 #[pp q] bkE (KpB n₀ q) (fun ys => ys = bkL l ok len) (fun pre => ∃ k, k ≤ len ∧ pre = bkL l ok k) len w := fun lp J Jx W hW _ _ hY h0 =>
  back_in n hn lp q n₀ a len cap l ok hl h8 J Jx hY W ((hW.block q hqs).trans hq) (hH.below hW) hx h0
end Go.Proofs.YtednmdkjhiihcaaGreat
