/- append of so many noughts (Go's append of a make) to a row of bytes of the call's own. -/
import Derived.Test.YtednmdkjhiihcaaGreatBx
import Derived.Lib.AppendZeros
import Derived.Lib.AppendZerosOnto
namespace Go.Proofs.YtednmdkjhiihcaaGreat
open Go.ChangeShapes Go.WideShapes Go.ChangeAt Go.RowKit

theorem zc_u8 (k : Nat) : Builtin.zeroCells #[.int .u8 0] k = ((List.replicate k (0 : Int)).map (Value.int .u8)).toArray := by
  apply Array.toList_inj.1
  rw [List.map_replicate]
  simp [Builtin.zeroCells]
  apply List.ext_getElem
  · simp
  · intro i h1 h2
    simp [Nat.mod_one]

theorem run_app_zeros (w : World) (base : Nat) (ty : TypeId) (v : Value) (n : Nat) (xs : List Value) (hown : w.ownsRow base 5 1 v n xs) (k : Nat) (hsz : n + k ≤ 1000000) (hbase : base ≤ w.heap.size) :
    ∃ v' w', (Builtin.append_ #[22, 3] ty #[v, .int .i64 k]).run Tryz.prog w = .ok v' w' ∧ w'.ownsRow base 5 1 v' (n + k) (xs ++ (List.replicate k (0 : Int)).map (Value.int .u8)) ∧ w.grownBy w' v.ownBlock := by
  obtain ⟨i0, hi, hz0, hz1, hz2⟩ := info_parts info_u8
  have hw : IntKind.i64.wrap (k : Int) = k := by rw [IntKind.wrap_i64]; omega
  have hneg : ¬ ((k : Int) < 0) := by omega
  have h48i : ¬ (281474976710656 < (k : Int)) := by omega
  have hlen : (xs ++ (List.replicate k (0 : Int)).map (Value.int .u8)).length = (n + k) * 1 := by rw [List.length_append, hown.1, List.length_map, List.length_replicate, Nat.add_mul]; omega
  have grown : ∀ (old : Nat), ∀ (row : Option Nat),
      (w.drew.alloc (.cells (xs.toArray ++ Builtin.zeroCells #[.int .u8 0] k ++ Builtin.zeroCells #[.int .u8 0] (grownCap w (n + k) old 5 - (n + k))) 5)).ownsRow base 5 1
        (.slice (some ⟨w.heap.size, 0, none⟩) (n + k) (grownCap w (n + k) old 5)) (n + k) (xs ++ (List.replicate k (0 : Int)).map (Value.int .u8)) ∧
      w.grownBy (w.drew.alloc (.cells (xs.toArray ++ Builtin.zeroCells #[.int .u8 0] k ++ Builtin.zeroCells #[.int .u8 0] (grownCap w (n + k) old 5 - (n + k))) 5)) row := by
    intro old row
    have hge := grownCap_ge w (n + k) old 5
    have hcm : grownCap w (n + k) old 5 ≤ maxLen := grownCap_le_maxLen w (n + k) old _ (by unfold maxLen; omega)
    refine ⟨⟨hlen, .inr ⟨w.heap.size, _, _, rfl, hbase, heap_alloc_new w.drew _, hge, hcm, ?_, ?_⟩⟩, ⟨rfl, rfl, rfl, by simp, fun j hj _ => Below.heap_alloc w.drew _ j hj⟩⟩
    · rw [zc_u8, zc_u8]
      simp only [Array.size_append, List.size_toArray, List.length_map, List.length_replicate, hown.1]
      omega
    · rw [zc_u8, zc_u8]
      simp only [Array.toList_append, List.append_assoc]
      rw [← List.append_assoc, ← hlen]
      exact List.take_left
  by_cases hk : k = 0
  · subst hk
    obtain ⟨a, c, rfl⟩ := own_slice hown
    have hnc : n ≤ c := by
      rcases hown.2 with ⟨e, h⟩ | ⟨g, cap, cur, e, _, _, h, _⟩
      · omega
      · simp only [Value.slice.injEq] at e; omega
    refine ⟨_, w, ?_, by simpa using hown, World.grownBy.refl w _⟩
    cases a <;> simp [Builtin.append_, run_underlying Tryz.underlying22, run_underlying Tryz.underlying3, Go.sizeOf, typeInfo, hi, hz2, asInt, asIntOf, IntKind.wrap_i64, hnc, storeCells]
  · rcases hown.2 with ⟨rfl, rfl⟩ | ⟨g, cap, cur, rfl, hbg, hg, hnc, hcm, hcs, htake⟩
    · have hx : xs = [] := List.eq_nil_of_length_eq_zero (by simpa using hown.1)
      subst hx
      have hr := Go.Lib.run_append_nil_zeros (P := Tryz.prog) w 22 3 ty 5 i0 (.int .u8 0) .i64 .i64 Tryz.underlying22 Tryz.underlying3 hi hz0 k (by omega) (by omega) (by omega) (by rw [hz2]; omega)
      have hgr := grown 0 (Value.ownBlock (.slice none 0 0))
      simp only [Nat.zero_add, List.nil_append, Array.empty_append] at hgr ⊢
      exact ⟨_, _, hr, hgr.1, hgr.2⟩
    · by_cases hroom : n + k ≤ cap
      · have hst := run_storeCells_cells (P := Tryz.prog) g n ((List.replicate k (0 : Int)).map (Value.int .u8)) 0 w
          (fun j hj => by
            simp at hj
            rw [Nat.add_zero, cell_of_row w g _ _ _ _ hg, Array.getElem?_eq_getElem (by omega)]; rfl)
          (fun j _ => frozen_of_row w g _ _ _ hg) (fun u hu => by simp at hu; obtain ⟨_, rfl⟩ := hu; rfl)
        simp only [Nat.add_zero] at hst
        have hcell := heap_setCells g _ ((List.replicate k (0 : Int)).map (Value.int .u8)) n w cur hg (by simp; omega)
        refine ⟨_, w.setCells g n ((List.replicate k (0 : Int)).map (Value.int .u8)), ?_, ⟨hlen, .inr ⟨g, cap, _, rfl, hbg, hcell, hroom, hcm, ?_, ?_⟩⟩, grownBy_setCells g _ n w⟩
        · have hzc : (Builtin.zeroCells #[.int .u8 0] k).toList = (List.replicate k (0 : Int)).map (Value.int .u8) := by rw [zc_u8]
          simp [Builtin.append_, run_underlying Tryz.underlying22, run_underlying Tryz.underlying3, Go.sizeOf, typeInfo, zeroValue, hi, hz0, hz1, hz2, asInt, asIntOf, hw, hk, hneg, h48i, hroom, Value.cells, hzc, addr_add]
          rw [List.map_replicate] at hst
          rw [hst]
          rfl
        · simp; omega
        · have e1 : (cur.toList.take n).length = n := by rw [List.length_take, Array.length_toList]; omega
          have e2 : cur.toList.take n = xs := by rw [← htake, Nat.mul_one]
          show List.take ((n + k) * 1) (cur.toList.take n ++ (List.replicate k (0 : Int)).map (Value.int .u8) ++ _) = _
          rw [e2, ← hlen]
          exact List.take_left
      · have hcells := hown.cells (g := g) rfl
        have hold : (Builtin.firstCells i0.size n (.slice (some ⟨g, 0, none⟩) n cap)).run Tryz.prog w.drew = .ok xs.toArray w.drew := by
          have := run_loadCells_list (P := Tryz.prog) w.drew ⟨g, 0, none⟩ xs (fun j u hj => hcells j u hj)
          have hl : xs.length = n := by have := hown.1; omega
          simp only [Builtin.firstCells, hz1, Nat.mul_one]
          rw [← hl]; exact this
        have hfit : Builtin.nextslicecap (n + k) cap * i0.bytes ≤ 281474976710656 := by
          rw [hz2]
          unfold Builtin.nextslicecap
          split
          · omega
          · split
            · omega
            · have : ∀ (r c : Nat), c ≤ 2000000000 → Builtin.growBy (n + k) r c ≤ 2000000000 := by
                intro r
                induction r with
                | zero => intro c hc; exact hc
                | succ r ih =>
                  intro c hc
                  unfold Builtin.growBy
                  split
                  · exact hc
                  · exact ih _ (by omega)
              have := this 4 cap (by omega)
              omega
        have hr := Go.Lib.run_append_grow_zeros (P := Tryz.prog) w 22 3 ty 5 i0 (.int .u8 0) .i64 .i64 Tryz.underlying22 Tryz.underlying3 hi hz0 (some ⟨g, 0, none⟩) n cap xs hold k (by omega) (by omega) (by omega) (by omega) (by rw [hz2]; omega) hfit
        have hgr := grown cap (Value.ownBlock (.slice (some ⟨g, 0, none⟩) n cap))
        exact ⟨_, _, hr, hgr.1, hgr.2⟩

theorem wpList_app_zeros {w : World} {ops : Array Oper} {rest : List Oper} {o : Oper} {a : Act} {Q : Exit → Act → World → Prop} (hgd : o.guard = none) (s x : Operand)
    (ho : o.op = .call { callee := .builtin .append, args := #[s, x], argTypes := #[22, 3] })
    (base : Nat) (v : Value) (n : Nat) (xs : List Value) (hs : a.eval s = v) (hown : w.ownsRow base 5 1 v n xs) (k : Nat) (hx : a.eval x = .int .i64 k) (hsz : n + k ≤ 1000000) (hbase : base ≤ w.heap.size)
    (h : ∀ v' w', w'.ownsRow base 5 1 v' (n + k) (xs ++ (List.replicate k (0 : Int)).map (Value.int .u8)) → w.grownBy w' v.ownBlock → wpList Tryz.prog ops Q rest (a.put o.dst v') w') : wpList Tryz.prog ops Q (o :: rest) a w := by
  obtain ⟨v', w', hrun, h1, h2⟩ := run_app_zeros w base o.type v n xs hown k hsz hbase
  exact Go.Lib.wpList_append_run w hgd s x 22 3 ho v (.int .i64 k) hs hx v' w' hrun (h v' w' h1 h2)
end Go.Proofs.YtednmdkjhiihcaaGreat
