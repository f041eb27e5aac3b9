/- The law's spare and kept. -/
import Derived.Test.YtffjddabjjcjpaaFl
import Derived.Laws.StructEq
namespace Go.Proofs.Ytffjddabjjcjpaa
open Go.ChangeShapes Go.WideShapes Go.ChangeAt Go.RowKit
set_option maxRecDepth 10000
variable {L : List Q5}

theorem insn_info : ∃ i, Try.prog.info? 37 = some i ∧ i.zero = some (.agg #[.int .u8 0, .int .u8 0, .int .u8 0, .int .i16 0, .int .i32 0]) ∧ i.size = 5 ∧ i.bytes = 12 :=
  info_parts (z := .agg #[.int .u8 0, .int .u8 0, .int .u8 0, .int .i16 0, .int .i32 0]) (by kernel_rfl)

def m5 : Q5 := (200, 0, 0, 0, 0)

theorem q5L_append (A B : List Q5) : q5L (A ++ B) = q5L A ++ q5L B := by simp [q5L]
theorem q5L_length (A : List Q5) : (q5L A).length = A.length * 5 := by
  induction A with
  | nil => rfl
  | cons x r ih =>
    show (q5C x ++ q5L r).length = _
    rw [List.length_append, ih, List.length_cons]
    simp [q5C]; omega
theorem q5L_one (A : List Q5) : ∀ u ∈ q5L A, u.oneCell' = true := by
  intro u hu
  unfold q5L at hu
  rw [List.mem_flatMap] at hu
  obtain ⟨q, -, hq⟩ := hu
  simp [q5C] at hq
  rcases hq with rfl | rfl | rfl | rfl | rfl <;> rfl

/-- Instructions that lie, cell by cell. -/
theorem lie_cells {w : World} {b off : Nat} {L : List Q5} (h : Lie w b off L) : ∀ (j : Nat) (u : Value), (q5L L)[j]? = some u → w.cell? ⟨b, off + j, none⟩ = some u := by
  intro j u hj
  have hlt : j < L.length * 5 := by rw [← q5L_length]; exact (List.getElem?_eq_some_iff.1 hj).1
  obtain ⟨⟨p, d, s, o, i⟩, hq⟩ : ∃ q, L[j / 5]? = some q := ⟨_, List.getElem?_eq_getElem (by omega)⟩
  obtain ⟨a0, a1, a2, a3, a4⟩ := q5L_at L (j / 5) _ hq
  obtain ⟨c0, c1, c2, c3, c4⟩ := h (j / 5) p d s o i hq
  have hm : j % 5 = 0 ∨ j % 5 = 1 ∨ j % 5 = 2 ∨ j % 5 = 3 ∨ j % 5 = 4 := by omega
  rcases hm with e | e | e | e | e
  · rw [show j = j / 5 * 5 by omega, a0] at hj
    rw [show off + j = off + j / 5 * 5 by omega, c0]; exact hj
  · rw [show j = j / 5 * 5 + 1 by omega, a1] at hj
    rw [show off + j = off + j / 5 * 5 + 1 by omega, c1]; exact hj
  · rw [show j = j / 5 * 5 + 2 by omega, a2] at hj
    rw [show off + j = off + j / 5 * 5 + 2 by omega, c2]; exact hj
  · rw [show j = j / 5 * 5 + 3 by omega, a3] at hj
    rw [show off + j = off + j / 5 * 5 + 3 by omega, c3]; exact hj
  · rw [show j = j / 5 * 5 + 4 by omega, a4] at hj
    rw [show off + j = off + j / 5 * 5 + 4 by omega, c4]; exact hj

/-- A row of instructions of the call's own lies. -/
theorem own_lie {w : World} {base g c : Nat} {M : List Q5} (h : w.ownsRow base 37 5 (.slice (some ⟨g, 0, none⟩) M.length c) M.length (q5L M)) : Lie w g 0 M := by
  intro k p d s o i hk
  have hlt := (List.getElem?_eq_some_iff.1 hk).1
  obtain ⟨a0, a1, a2, a3, a4⟩ := q5L_at M k _ hk
  have e : ∀ j, j < M.length * 5 → w.cell? ⟨g, 0 + j, none⟩ = (q5L M)[j]? := fun j hj => by rw [Nat.zero_add]; exact h.cellAt j hj
  refine ⟨?_, ?_, ?_, ?_, ?_⟩
  · rw [e _ (by omega)]; exact a0
  · rw [Nat.add_assoc, e _ (by omega)]; exact a1
  · rw [Nat.add_assoc, e _ (by omega)]; exact a2
  · rw [Nat.add_assoc, e _ (by omega)]; exact a3
  · rw [Nat.add_assoc, e _ (by omega)]; exact a4

/-- A whole program is appended to none. -/
theorem wpList_app_insns {w : World} {ops : Array Oper} {rest : List Oper} {o : Oper} {a : Act} {Q : Exit → Act → World → Prop} (hgd : o.guard = none) (s x : Operand)
    (ho : o.op = .call { callee := .builtin .append, args := #[s, x], argTypes := #[22, 22] })
    (hs : a.eval s = .slice none 0 0) (xa : Option Addr) (xc m : Nat) (hx : a.eval x = .slice xa m xc) (hm : L.length = m) (hy : L = [] ∨ ∃ b off, xa = some ⟨b, off, none⟩ ∧ Lie w b off L) (hsz : m * 12 ≤ 140737488351232)
    (h : ∀ v' w', w'.ownsRow w.heap.size 37 5 v' m (q5L L) → Below w.heap.size w w' → wpList Try.prog ops Q rest (a.put o.dst v') w') : wpList Try.prog ops Q (o :: rest) a w := by
  obtain ⟨i0, hif, hz0, hz1, hz2⟩ := insn_info
  refine wpList_plain hgd fun K hK => ?_
  obtain ⟨v', w', hrun, h1, h2⟩ : ∃ v' w', (Builtin.append_ #[22, 22] o.type #[.slice none 0 0, .slice xa m xc]).run Try.prog w = .ok v' w' ∧ w'.ownsRow w.heap.size 37 5 v' m (q5L L) ∧ Below w.heap.size w w' := by
    rcases Nat.eq_zero_or_pos m with h0 | h0
    · subst h0
      obtain rfl := List.eq_nil_of_length_eq_zero hm
      refine ⟨.slice none 0 0, w, ?_, World.ownsRow_nil _ _ _ _, Below.refl _ _⟩
      cases xa <;> simp [Builtin.append_, run_underlying Try.underlying22, Go.sizeOf, typeInfo, hif, Builtin.lenOf, Builtin.firstCells, loadCells, loadCellsFrom]
    · rcases hy with h | ⟨y, off, rfl, hc⟩
      · rw [h] at hm; simp at hm; omega
      · obtain ⟨v', w', hr, q1, q2, q3⟩ := run_append_own2 (P := Try.prog) w w.heap.size 22 o.type 37 i0 (.agg #[.int .u8 0, .int .u8 0, .int .u8 0, .int .i16 0, .int .i32 0]) 5 12 Try.underlying22 hif hz0 hz1 hz2 rfl (by decide) (.slice none 0 0) 0 [] (World.ownsRow_nil _ _ _ _) ⟨y, off, none⟩ m xc (q5L L) (by rw [q5L_length, hm]) (fun j u hu => by rw [addr_add]; exact lie_cells hc j u hu) (q5L_one L) (by unfold maxLen; omega) (by omega) (Nat.le_refl _)
        refine ⟨v', w', hr, by simpa using q1, (Below.refl _ w).grown q2 (Nat.le_refl _) (fun k e => by simp [Value.ownBlock] at e)⟩
  unfold Oper.wp
  simp [execOp, ho, resolve, invoke, builtin, hs, hx, hrun, Result.andThen]
  exact hK _ _ (h v' w' h1 h2)

set_option maxHeartbeats 2000000 in
theorem spare_any (v : Value) (w : World) (hv : Cd w v L) (hbig : L.length * 12 ≤ 140737488351232) :
    Calls Try.prog 8 #[v] w fun e w' => (∃ g c, e = .returned (.slice (some ⟨g, 0, none⟩) L.length c) ∧ L.length + 3 ≤ c ∧ w.heap.size ≤ g ∧ Lie w' g 0 (L ++ [m5, m5, m5])) ∧ Below w.heap.size w w' := by
  obtain ⟨iN, h1, h2, h3, h4⟩ := insn_info
  obtain ⟨a, c, rfl, hc, hl⟩ := hv.lies
  clear hv
  obtain ⟨n, hn⟩ : ∃ n, L.length = n := ⟨_, rfl⟩
  rw [hn] at hc hbig ⊢
  have HL := Hid.mk' hn
  have HLies := Hid.mk' hl
  clear hn hl
  go_enter Try.func8, Try.ntmps8
  go_wp2_with (at_builtin; refine wpList_app_insns rfl _ _ rfl rfl a c n rfl HL.out HLies.out hbig ?_; intro v1 w1 o1 b1)
  have O1 := Hid.mk' o1
  have B1 := Hid.mk' b1
  clear o1 b1
  go_loopw [3, 4] (fun s i wr => ∃ k : Nat, k ≤ 3 ∧ i = .int .i64 k ∧ Hid (wr.ownsRow w.heap.size 37 5 s (n + k) (q5L (L ++ List.replicate k m5))) ∧ Hid (Below w.heap.size w wr)) (fun _ i _ => 3 - (intOf i).toNat)
  case atStart => exact ⟨0, by omega, rfl, Hid.mk' (by simpa using O1.out), B1⟩
  case round =>
    obtain ⟨k, hk, rfl, hO, hB⟩ := hrel
    by_cases hlt : k < 3
    · have hlk : (k : Int) < 3 := by omega
      have hks := hB.out.size
      have hcell : ∀ (j : Nat) (u : Value), (q5C m5)[j]? = some u → (wr.alloc (.cells (q5C m5).toArray 37)).cell? (Addr.add ⟨wr.heap.size, 0, none⟩ j) = some u := by
        intro j u hj
        rw [addr_add, Nat.zero_add, World.cell?_alloc_new, List.getElem?_toArray]; exact hj
      have HCELL := Hid.mk' hcell
      clear hcell
      go_wp2_with (at_builtin; refine wpList_append_own2 rfl _ _ 22 rfl w.heap.size 37 iN (.agg #[.int .u8 0, .int .u8 0, .int .u8 0, .int .i16 0, .int .i32 0]) 5 12 Try.underlying22 h1 h2 h3 h4 rfl (by decide) _ _ _ rfl (hO.out.alloc _) ⟨wr.heap.size, 0, none⟩ 1 1 (q5C m5) rfl rfl HCELL.out (by intro u hu; simp [q5C] at hu; rcases hu with rfl | rfl | rfl | rfl | rfl <;> rfl) (by unfold maxLen; omega) (by omega) (by simp; omega) ?_; intro v' w5 hown5 hgr5; intro hwh; have HO5 := Hid.mk' hown5; have HG5 := Hid.mk' hgr5; clear hown5 hgr5 hwh)
      have B5 : Hid (Below w.heap.size w w5) := Hid.mk' (by
        have h1 : Below w.heap.size w (wr.alloc (.cells (q5C m5).toArray 37)) := hB.out.alloc hB.out.size _
        refine h1.trans ⟨HG5.out.os, HG5.out.tape, HG5.out.output, HG5.out.size, fun j hj => HG5.out.block j (by simp; omega) (fun e => ?_)⟩
        have := own_base hO.out j e.symm
        omega)
      go_roundw
      case rel => exact ⟨k + 1, hlt, by go_num, Hid.mk' (by
        have e := HO5.out
        have e2 : q5L (L ++ List.replicate (k + 1) m5) = q5L (L ++ List.replicate k m5) ++ q5C m5 := by
          rw [List.replicate_succ', ← List.append_assoc, q5L_append]
          simp [q5L]
        rw [e2]
        exact e), B5⟩
      case measure => simp [intOf]; omega
    · have hlk : ¬ (k : Int) < 3 := by omega
      have hk3 : k = 3 := by omega
      subst hk3
      have O3 := hO.out
      rcases O3.2 with ⟨-, h0⟩ | ⟨g, cap, cur, rfl, hgb, hg, hnc, hcm, hcs, htake⟩
      · omega
      have HX : Hid (Lie wr g 0 (L ++ [m5, m5, m5])) := Hid.mk' (by
        refine own_lie (base := w.heap.size) (c := cap) ?_
        have e : (L ++ [m5, m5, m5]).length = n + 3 := by rw [List.length_append, HL.out]; rfl
        rw [e]
        exact hO.out)
      have hnc' : (n : Int) ≤ (cap : Int) := by omega
      have hnc2 : n + 3 ≤ cap := hnc
      clear O3 hg hcs htake hnc
      go_wp2_with fail
      go_ret
      exact ⟨⟨g, cap, rfl, hnc2, hgb, HX.out⟩, hB.out⟩
end Go.Proofs.Ytffjddabjjcjpaa
