/- The contract of slices.Delete at a slice of loans that the call owns: one loan is taken out. -/
import Derived.Test.YtnpcglgboemmcaaLb
import Derived.Deep.RegionLaw
import Derived.Lib.SliceRun
namespace Go.Proofs.Ytnpcglgboemmcaa
open Go.ChangeShapes Go.WideShapes Go.ChangeAt Go.RowKit

theorem heap_setCells (g : Nat) (t : TypeId) : ∀ (vs : List Value) (o : Nat) (w : World) (cur : Array Value), w.heap[g]? = some (.cells cur t (0, 0)) → o + vs.length ≤ cur.size →
    (w.setCells g o vs).heap[g]? = some (.cells (cur.toList.take o ++ vs ++ cur.toList.drop (o + vs.length)).toArray t (0, 0))
  | [], o, w, cur, h, _ => by simp [World.setCells, h]
  | v :: r, o, w, cur, h, hl => by
    simp only [List.length_cons] at hl
    have h1 := Go.heap_setCell_same w g o cur t v h
    have ih := heap_setCells g t r (o + 1) (w.setCell ⟨g, o, none⟩ v) _ h1 (by simp; omega)
    rw [World.setCells, ih]
    congr 3
    rw [Array.toList_setIfInBounds]
    have ho : o < cur.toList.length := by simp; omega
    have e1 : (cur.toList.set o v).take (o + 1) = cur.toList.take o ++ [v] := by
      rw [List.take_succ_eq_append_getElem (by simpa using ho), List.take_set_of_le (Nat.le_refl _)]
      simp
    have e2 : (cur.toList.set o v).drop (o + 1 + r.length) = cur.toList.drop (o + (v :: r).length) := by
      rw [List.drop_set_of_lt (by omega)]
      congr 1
      simp; omega
    rw [e1, e2]
    simp

theorem grownBy_setCells (g : Nat) : ∀ (vs : List Value) (o : Nat) (w : World), w.grownBy (w.setCells g o vs) (some g)
  | [], _, w => World.grownBy.refl w _
  | v :: r, o, w => by
    have h1 : w.grownBy (w.setCell ⟨g, o, none⟩ v) (some g) := ⟨rfl, rfl, rfl, by simp [World.setCell], fun k hk hn => Below.heap_setCell _ _ _ _ (fun e => hn (by rw [e]))⟩
    have h2 := grownBy_setCells g r (o + 1) (w.setCell ⟨g, o, none⟩ v)
    exact ⟨h2.os.trans h1.os, h2.tape.trans h1.tape, h2.output.trans h1.output, Nat.le_trans h1.size h2.size, fun k hk hn => (h2.block k (Nat.lt_of_lt_of_le hk h1.size) hn).trans (h1.block k hk hn)⟩

theorem info_loan : (Try.prog.info? 65).map (fun i => (i.zero, i.size, i.bytes)) = some (some (.agg #[.int .i64 0, .int .i64 0, .int .i64 0]), 3, 24) := by kernel_rfl
theorem zero_loan (w : World) : (zeroValue 65).run Try.prog w = .ok (.agg #[.int .i64 0, .int .i64 0, .int .i64 0]) w := by kernel_rfl

/-- One loan is made nought. -/
theorem run_clear_loan (w : World) (ty : TypeId) (b o c : Nat) (hc : ∀ j, j < 3 → (w.cell? ⟨b, o + j, none⟩).isSome = true) (hf : ∀ j, j < 3 → w.frozen? ⟨b, o + j, none⟩ = false) :
    (Builtin.clear_ #[57] ty #[.slice (some ⟨b, o, none⟩) 1 c]).run Try.prog w = .ok (.tuple #[]) (w.setCells b o [.int .i64 0, .int .i64 0, .int .i64 0]) := by
  have hst := run_storeCells_cells (P := Try.prog) b o [.int .i64 0, .int .i64 0, .int .i64 0] 0 w (by simpa using hc) (by simpa using hf) (by intro v hv'; simp at hv'; subst hv'; rfl)
  simp only [Nat.add_zero] at hst
  have hzc : (Builtin.zeroCells (Value.agg #[.int .i64 0, .int .i64 0, .int .i64 0]).cells 1).toList = [.int .i64 0, .int .i64 0, .int .i64 0] := by kernel_rfl
  simp [Builtin.clear_, run_underlying Try.underlying57, hzc, hst]

theorem lcells_one (L : List Loan) : ∀ u ∈ lcells L, u.oneCell' = true := by
  intro u hu
  simp only [lcells, List.mem_flatMap] at hu
  obtain ⟨l, _, hl⟩ := hu
  simp at hl
  rcases hl with rfl | rfl | rfl <;> rfl

theorem del_row (g cap k : Nat) (L : List Loan) (cur cur1 : Array Value) (news : List Value) (t : TypeId) (W1 : World) (base : Nat) (hk : k < L.length) (hnc : L.length ≤ cap) (hm : cap ≤ maxLen) (hb : base ≤ g)
    (hg1 : W1.heap[g]? = some (.cells cur1 t (0, 0))) (h1 : cur1 = (cur.toList.take (0 + k * 3) ++ news ++ cur.toList.drop (0 + k * 3 + news.length)).toArray) (h2 : news = lcells (L.drop (k + 1))) (h3 : cur1.size = cap * 3) (h4 : cur.toList.take (L.length * 3) = lcells L) :
    (W1.setCells g ((L.length - 1) * 3) [.int .i64 0, .int .i64 0, .int .i64 0]).ownsRow base t 3 (.slice (some ⟨g, 0, none⟩) (L.length - 1) cap) (L.length - 1) (lcells (L.eraseIdx k)) := by
  have hlen : (L.eraseIdx k).length = L.length - 1 := by rw [List.length_eraseIdx, if_pos hk]
  have hc := heap_setCells g t [.int .i64 0, .int .i64 0, .int .i64 0] ((L.length - 1) * 3) W1 cur1 hg1 (by simp; omega)
  refine ⟨by rw [lcells_length, hlen], .inr ⟨g, cap, _, rfl, hb, hc, by omega, hm, ?_, ?_⟩⟩
  · simp; omega
  · have hsz : (cur.toList.take (k * 3)).length = k * 3 := by
      have := congrArg List.length h4
      rw [lcells_length, List.length_take] at this
      rw [List.length_take]; omega
    have hnl : news.length = (L.length - (k + 1)) * 3 := by rw [h2, lcells_length, List.length_drop]
    have e1 : cur.toList.take (k * 3) = lcells (L.take k) := by
      rw [lcells_take, ← h4, List.take_take, Nat.min_eq_left (by omega)]
    have e2 : lcells (L.eraseIdx k) = cur.toList.take (k * 3) ++ news := by
      rw [List.eraseIdx_eq_take_drop_succ, lcells_append, e1, h2]
    have e3 : (cur.toList.take (k * 3) ++ news).length = (L.length - 1) * 3 := by rw [List.length_append, hsz, hnl]; omega
    have e4 : cur1.toList.take ((L.length - 1) * 3) = cur.toList.take (k * 3) ++ news := by
      rw [h1, Nat.zero_add, ← e3]
      simp only [List.append_assoc]
      rw [← List.append_assoc]
      exact List.take_left
    have e5 : (cur1.toList.take ((L.length - 1) * 3)).length = (L.length - 1) * 3 := by rw [e4, e3]
    show List.take ((L.length - 1) * 3) (cur1.toList.take ((L.length - 1) * 3) ++ [.int .i64 0, .int .i64 0, .int .i64 0] ++ _) = _
    rw [List.append_assoc, List.take_append_of_le_length (Nat.le_of_eq e5.symm), List.take_take, Nat.min_self, e4, e2]

set_option maxHeartbeats 2000000 in
theorem del_any (g cap k : Nat) (L : List Loan) (w : World) (base : Nat) (hown : w.ownsRow base 65 3 (.slice (some ⟨g, 0, none⟩) L.length cap) L.length (lcells L)) (hk : k < L.length) (hL : L.length ≤ 1000000) :
    Calls Try.prog 28 #[.slice (some ⟨g, 0, none⟩) L.length cap, .int .i64 k, .int .i64 ((k : Int) + 1)] w fun e w' => e = .returned (.slice (some ⟨g, 0, none⟩) (L.length - 1) cap) ∧
      w'.ownsRow base 65 3 (.slice (some ⟨g, 0, none⟩) (L.length - 1) cap) (L.length - 1) (lcells (L.eraseIdx k)) ∧ w.grownBy w' (some g) := by
  obtain ⟨i0, hi, hz0, hz1, hz2⟩ := info_parts info_loan
  obtain ⟨hlen, h2⟩ := hown
  rcases h2 with ⟨h, _⟩ | ⟨g', cap', cur, hv, hb, hg, hnc, hcm, hsz, htake⟩
  · cases h
  simp only [Value.slice.injEq, Option.some.injEq, Addr.mk.injEq, true_and, and_true] at hv
  obtain ⟨rfl, rfl⟩ := hv
  unfold maxLen at hcm
  obtain ⟨news, hnews⟩ : ∃ news, news = lcells (L.drop (k + 1)) := ⟨_, rfl⟩
  have hnl : news.length = (L.length - (k + 1)) * 3 := by rw [hnews, lcells_length, List.length_drop]
  have hcell : ∀ j, w.cell? ⟨g, j, none⟩ = cur[j]? := fun j => cell_of_row w g j cur _ _ hg
  have hget : ∀ t u, news[t]? = some u → cur[(k + 1) * 3 + t]? = some u := by
    intro t u hu
    have ht := (List.getElem?_eq_some_iff.1 hu).1
    rw [hnews, lcells_drop, List.getElem?_drop, ← htake, List.getElem?_take] at hu
    split at hu
    · simpa using hu
    · cases hu
  obtain ⟨A, hA, hsrc⟩ : ∃ A : Addr, (if cap = k + 1 then some (⟨g, 0, none⟩ : Addr) else some ⟨g, (k + 1) * 3, none⟩) = some A ∧ Hid (∀ t u, news[t]? = some u → w.drew.cell? (A.add t) = some u) := by
    by_cases h : cap = k + 1
    · refine ⟨⟨g, 0, none⟩, by simp [h], fun t u hu => ?_⟩
      have h0 : news.length = 0 := by rw [hnl]; omega
      rw [List.length_eq_zero_iff.1 h0] at hu
      simp at hu
    · refine ⟨⟨g, (k + 1) * 3, none⟩, by simp [h], fun t u hu => ?_⟩
      rw [Addr.add_lit]
      show w.cell? _ = _
      rw [hcell]
      exact hget t u hu
  have s1 : Hid (news.length = (L.length - (k + 1)) * 3) := hnl
  have s2 : Hid (∀ u ∈ news, u.oneCell' = true) := by rw [hnews]; exact lcells_one _
  have s3 : Hid (∀ t, t < news.length → (w.drew.cell? ⟨g, 0 + k * 3 + t, none⟩).isSome = true ∧ w.drew.frozen? ⟨g, 0 + k * 3 + t, none⟩ = false) := by
    intro t ht
    refine ⟨?_, frozen_of_row w g _ cur _ hg⟩
    show (w.cell? _).isSome = true
    rw [hcell]
    have : 0 + k * 3 + t < cur.size := by rw [hsz]; omega
    rw [Array.getElem?_eq_getElem this]; rfl
  obtain ⟨W1, hW1⟩ : ∃ W1, W1 = w.drew.setCells g (0 + k * 3) news := ⟨_, rfl⟩
  have hg1 : W1.heap[g]? = some (.cells (cur.toList.take (0 + k * 3) ++ news ++ cur.toList.drop (0 + k * 3 + news.length)).toArray 65 (0, 0)) := by
    rw [hW1]; exact heap_setCells g _ news (0 + k * 3) w.drew cur hg (by rw [hsz]; omega)
  obtain ⟨cur1, hcur1⟩ : ∃ c, c = (cur.toList.take (0 + k * 3) ++ news ++ cur.toList.drop (0 + k * 3 + news.length)).toArray := ⟨_, rfl⟩
  rw [← hcur1] at hg1
  have hsz1 : cur1.size = cap * 3 := by
    rw [hcur1]; simp; omega
  have hcl : ∀ ty, (Builtin.clear_ #[57] ty #[.slice (some ⟨g, (k + (L.length - (k + 1))) * 3, none⟩) (L.length - (k + (L.length - (k + 1)))) (cap - (k + (L.length - (k + 1))))]).run Try.prog W1 = .ok (.tuple #[]) (W1.setCells g ((k + (L.length - (k + 1))) * 3) [.int .i64 0, .int .i64 0, .int .i64 0]) := by
    intro ty
    rw [show L.length - (k + (L.length - (k + 1))) = 1 by omega]
    refine run_clear_loan W1 ty g _ _ (fun j hj => ?_) (fun j hj => frozen_of_row W1 g _ cur1 _ hg1)
    rw [cell_of_row W1 g _ cur1 _ _ hg1]
    have : (k + (L.length - (k + 1))) * 3 + j < cur1.size := by rw [hsz1]; omega
    simp [this]
  have hW : Hid (W1 = w.drew.setCells g (0 + k * 3) news) := hW1
  have X : Hid (W1.heap[g]? = some (.cells cur1 65 (0, 0)) ∧ w.grownBy W1 (some g)) := ⟨hg1, by
    rw [hW1]
    have := grownBy_setCells g news (0 + k * 3) w.drew
    exact ⟨this.os, this.tape, this.output, this.size, this.block⟩⟩
  have Y : Hid (cur1 = (cur.toList.take (0 + k * 3) ++ news ++ cur.toList.drop (0 + k * 3 + news.length)).toArray ∧ news = lcells (L.drop (k + 1)) ∧ cur1.size = cap * 3 ∧ cur.toList.take (L.length * 3) = lcells L) := ⟨hcur1, hnews, hsz1, htake⟩
  have hic : k ≤ cap := by omega
  have hk0 : (0 : Int) ≤ (k : Int) + 1 := by omega
  have hjl : k + 1 ≤ L.length := by omega
  have hji : (k : Int) + 1 ≤ (L.length : Int) := by omega
  clear hW1 hg1 hcur1 hnews hnl hcell hget hsz1 htake hg hlen hsz
  go_enter Try.func28, Try.ntmps28
  go_wp2_with fail
  go_region_law (refine step_append_room rfl (.tmp 22) (.tmp 25) 57 rfl 65 i0 3 Try.underlying57 hi hz1 g 0 k cap (by simp [Act.eval, Act.put]) A (L.length - (k + 1)) (cap - (k + 1)) news (by simp [Act.eval, Act.put]) s1.out hsrc.out s2.out (by omega) s3.out ?_; rw [← hW.out])
  go_wp2_with fail
  go_ret
  have em : k + (L.length - (k + 1)) = L.length - 1 := by omega
  refine ⟨?_, ?_, ?_⟩
  · show Ending.returned (.slice (some ⟨g, 0, none⟩) (k + (L.length - (k + 1))) cap) = _
    rw [em]
  · rw [em]
    exact del_row g cap k L cur cur1 news _ _ base hk hnc (by unfold maxLen; omega) hb X.out.1 Y.out.1 Y.out.2.1 Y.out.2.2.1 Y.out.2.2.2
  · have h1 := X.out.2
    have h2 := grownBy_setCells g [.int .i64 0, .int .i64 0, .int .i64 0] ((k + (L.length - (k + 1))) * 3) W1
    exact ⟨h2.os.trans h1.os, h2.tape.trans h1.tape, h2.output.trans h1.output, Nat.le_trans h1.size h2.size, fun k hk hn => (h2.block k (Nat.lt_of_lt_of_le hk h1.size) hn).trans (h1.block k hk hn)⟩
end Go.Proofs.Ytnpcglgboemmcaa
