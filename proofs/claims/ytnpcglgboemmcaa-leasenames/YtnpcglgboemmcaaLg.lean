/- The contract of (*Book).Out: the ranges of the loans, in new memory. -/
import Derived.Test.YtnpcglgboemmcaaLf
namespace Go.Proofs.Ytnpcglgboemmcaa
open Go.ChangeShapes Go.WideShapes Go.ChangeAt Go.RowKit

abbrev Rg := Int × Int
/-- The cells of ranges, one behind the other. -/
def rcells (R : List Rg) : List Value := R.flatMap fun l => [.int .i64 l.1, .int .i64 l.2]

theorem rcells_length (R : List Rg) : (rcells R).length = R.length * 2 := by
  unfold rcells
  induction R with
  | nil => rfl
  | cons l r ih => rw [List.flatMap_cons, List.length_append, ih]; simp; omega
theorem rcells_append (L M : List Rg) : rcells (L ++ M) = rcells L ++ rcells M := by simp [rcells]
theorem rcells_snoc (L : List Rg) (l : Rg) : rcells (L ++ [l]) = rcells L ++ [.int .i64 l.1, .int .i64 l.2] := by simp [rcells]
theorem rcells_at (L : List Rg) (k : Nat) (l : Rg) (h : L[k]? = some l) : (rcells L)[k * 2]? = some (.int .i64 l.1) ∧ (rcells L)[k * 2 + 1]? = some (.int .i64 l.2) := by
  have e : L = L.take k ++ l :: L.drop (k + 1) := by
    have hk := (List.getElem?_eq_some_iff.1 h).1
    have hl := (List.getElem?_eq_some_iff.1 h).2
    rw [← hl, List.getElem_cons_drop, List.take_append_drop]
  have hk := (List.getElem?_eq_some_iff.1 h).1
  have hlen : (rcells (L.take k)).length = k * 2 := by rw [rcells_length, List.length_take]; omega
  rw [e, rcells_append]
  refine ⟨?_, ?_⟩
  all_goals
    rw [List.getElem?_append_right (by omega), hlen]
    simp [rcells]

theorem range_cell {w : World} {base : Nat} {t : TypeId} {g cap n : Nat} {L : List Rg} (h : w.ownsRow base t 2 (.slice (some ⟨g, 0, none⟩) n cap) n (rcells L)) (k : Nat) (l : Rg) (hl : L[k]? = some l) :
    w.cell? ⟨g, k * 2, none⟩ = some (.int .i64 l.1) ∧ w.cell? ⟨g, k * 2 + 1, none⟩ = some (.int .i64 l.2) := by
  have hn := h.1
  rw [rcells_length] at hn
  have hk := (List.getElem?_eq_some_iff.1 hl).1
  obtain ⟨a, b⟩ := rcells_at L k l hl
  exact ⟨(h.cellAt _ (by omega)).trans a, (h.cellAt _ (by omega)).trans b⟩

/-- The ranges of loans. -/
def rgs (L : List Loan) : List Rg := L.map fun l => (l.2.1, l.2.2)
theorem rgs_length (L : List Loan) : (rgs L).length = L.length := by simp [rgs]

/-- A row of which the first k ranges stand. -/
def Half (w : World) (base : Nat) (t : TypeId) (g n : Nat) (R : List Rg) (k : Nat) : Prop :=
  ∃ rest : List Value, rest.length = (n - k) * 2 ∧ w.ownsRow base t 2 (.slice (some ⟨g, 0, none⟩) n n) n (rcells (R.take k) ++ rest)

theorem half_cell {w : World} {base : Nat} {t : TypeId} {g n : Nat} {R : List Rg} {k : Nat} (h : Half w base t g n R k) (hk : k < n) :
    (∃ u, w.cell? ⟨g, k * 2, none⟩ = some u) ∧ (∃ u, w.cell? ⟨g, k * 2 + 1, none⟩ = some u) ∧ w.frozen? ⟨g, k * 2, none⟩ = false ∧ w.frozen? ⟨g, k * 2 + 1, none⟩ = false ∧ g < w.heap.size := by
  obtain ⟨rest, hl, ho⟩ := h
  have hn : (rcells (R.take k) ++ rest).length = n * 2 := ho.1
  refine ⟨?_, ?_, ho.frozenAt _, ho.frozenAt _, (ho.lt g rfl).2⟩
  · rw [ho.cellAt (k * 2) (by omega), List.getElem?_eq_getElem (by omega)]; exact ⟨_, rfl⟩
  · rw [ho.cellAt (k * 2 + 1) (by omega), List.getElem?_eq_getElem (by omega)]; exact ⟨_, rfl⟩

theorem half_step {w : World} {base : Nat} {t : TypeId} {g n : Nat} {R : List Rg} {k : Nat} (h : Half w base t g n R k) (hR : R.length = n) (l : Rg) (hl : R[k]? = some l) :
    Half ((w.setCell ⟨g, k * 2, none⟩ (.int .i64 l.1)).setCell ⟨g, k * 2 + 1, none⟩ (.int .i64 l.2)) base t g n R (k + 1) := by
  obtain ⟨rest, hr, ho⟩ := h
  have hk := (List.getElem?_eq_some_iff.1 hl).1
  match rest, hr with
  | [], hr => simp at hr; omega
  | [_], hr => simp at hr; omega
  | r0 :: r1 :: rest', hr =>
    refine ⟨rest', by simp at hr; omega, ?_⟩
    have h1 := (ho.stored (k * 2) (.int .i64 l.1)).1
    have h2 := (h1.stored (k * 2 + 1) (.int .i64 l.2)).1
    have hlen : (rcells (R.take k)).length = k * 2 := by rw [rcells_length, List.length_take]; omega
    have e : (((rcells (R.take k) ++ r0 :: r1 :: rest').set (k * 2) (.int .i64 l.1)).set (k * 2 + 1) (.int .i64 l.2)) = rcells (R.take (k + 1)) ++ rest' := by
      rw [List.take_succ_eq_append_getElem hk, rcells_snoc, (List.getElem?_eq_some_iff.1 hl).2]
      rw [List.set_append_right _ _ (by omega), hlen, List.set_append_right _ _ (by omega), hlen]
      simp
    rw [e] at h2
    exact h2

theorem half_kept {w w' : World} {base : Nat} {t : TypeId} {g n : Nat} {R : List Rg} {k : Nat} (h : Half w base t g n R k) (o : Obj) (e : w' = w.alloc o) : Half w' base t g n R k := by
  obtain ⟨rest, hr, ho⟩ := h
  subst e
  exact ⟨rest, hr, ho.alloc o⟩

theorem info_range : (Try.prog.info? 24).map (fun i => (i.zero, i.size, i.bytes)) = some (some (.agg #[.int .i64 0, .int .i64 0]), 2, 16) := by kernel_rfl

theorem keep_name {P : Program} {f : Nat} {args : Array Value} {w : World} {x : Ending} (h : Calls P f args w fun e w' => e = x ∧ w' = w) : Calls P f args w fun e w' => e = x ∧ w = w' :=
  h.mono fun _ _ ⟨a, b⟩ => ⟨a, b.symm⟩

set_option maxHeartbeats 2000000 in
theorem out_any (p : Nat) (a : Option Addr) (n c nx : Nat) (ov : Value) (L : List Loan) (w : World) (h : BookIs w p a n c nx ov L) :
    Calls Try.prog 20 #[.pointer (some ⟨p, 0, none⟩)] w fun e w' => ∃ v, e = .returned v ∧ w'.ownsRow w.heap.size 24 2 v L.length (rcells (rgs L)) ∧ Below w.heap.size w w' := by
  obtain ⟨i0, hif, hz0, hz1, hz2⟩ := info_parts info_range
  obtain ⟨c0, _, _, c3, _⟩ := h.cell
  have hlt := h.lt
  have hL : L.length ≤ 1000 := by have := h.few; have := h.most; omega
  obtain ⟨av, cv, rfl⟩ := own_slice h.row
  have HB : Hid (BookIs w p a n c nx (.slice av L.length cv) L) := h
  clear h
  go_enter Try.func20, Try.ntmps20
  go_wp2_with fail
  refine (keep_name (isNone_no p _ c0)).mono ?_
  rintro e w' ⟨rfl, rfl⟩
  go_wp2_with (at_make; refine wpList_make_full _ rfl _ _ 46 rfl w.heap.size 24 i0 (.agg #[.int .i64 0, .int .i64 0]) 2 Try.underlying46 hif hz0 hz1 _ _ _ _ L.length rfl rfl rfl rfl (by rw [hz2]; omega) (by unfold maxLen; omega) (Nat.le_refl _) ?_; intro w1 hown1 hgr1; have hc1 : w1.cell? ⟨p, 3, none⟩ = some (.slice av L.length cv) := hgr1.cell c3 (by simp); have HO1 := Hid.mk' hown1; have HG1 := Hid.mk' hgr1; clear hown1 hgr1)
  have HH : Half w1 w.heap.size 24 w.heap.size L.length (rgs L) 0 := ⟨(madeCells (Value.agg #[.int .i64 0, .int .i64 0]).cells (L.length * 2)).toList, HO1.out.1, HO1.out⟩
  have HW1 : Below w.heap.size w w1 := (Below.refl _ _).grown HG1.out (Nat.le_refl _) (by simp)
  clear HO1 HG1 hc1
  have HL := Hid.mk' (rgs_length L)
  go_loopw [4, 5, 19] (fun _ _ i wr => ∃ k : Nat, k ≤ L.length ∧ i = .int .i64 k ∧ Hid (Half wr w.heap.size 24 w.heap.size L.length (rgs L) k) ∧ Below w.heap.size w wr) (fun _ _ i _ => L.length - (intOf i).toNat)
  case atStart => exact ⟨0, Nat.zero_le _, rfl, HH, HW1⟩
  case round =>
    clear HH HW1
    obtain ⟨k, hk, rfl, hh, hb⟩ := hrel
    by_cases hlt' : k < L.length
    · obtain ⟨g, hv⟩ : ∃ g, av = some ⟨g, 0, none⟩ := by
        rcases HB.out.row.2 with ⟨h, h2⟩ | ⟨g, cap, cur, h, _⟩
        · omega
        · simp at h; exact ⟨g, h.1⟩
      subst hv
      have hl : L[k]? = some L[k] := List.getElem?_eq_getElem hlt'
      obtain ⟨q0, q1, q2⟩ := loan_cell HB.out.row k _ hl
      have HK : ∃ l, Hid (L[k] = l) := ⟨_, rfl⟩
      obtain ⟨⟨l0, l1, l2⟩, HK⟩ := HK
      rw [HK.out] at q0 q1 q2 hl
      have HLK := Hid.mk' hl
      clear hl
      have d0 := (hb.cell (lt_of_cell q0)).trans q0
      have d1 := (hb.cell (lt_of_cell q1)).trans q1
      have d2 := (hb.cell (lt_of_cell q2)).trans q2
      have hgl : g < wr.heap.size := Nat.lt_of_lt_of_le (lt_of_cell q0) hb.size
      clear q0 q1 q2
      obtain ⟨⟨u0, e0⟩, ⟨u1, e1⟩, f0, f1, hlw⟩ := half_cell hh.out hlt'
      have hsp : (k : Int) < (L.length : Int) := by omega
      have HR : Hid ((rgs L)[k]? = some (l1, l2)) := by
        show (rgs L)[k]? = some (l1, l2)
        unfold rgs; rw [List.getElem?_map, HLK.out]; rfl
      clear HLK HK
      go_wp2_with fail
      go_roundw
      case rel => exact ⟨k + 1, hlt', by go_num, half_kept (half_step hh.out HL.out (l1, l2) HR.out) _ rfl, ((hb.setCell (Nat.le_refl _) _).setCell (Nat.le_refl _) _).alloc (by simpa [World.setCell] using hb.size) _⟩
      case measure => simp [intOf]; omega
    · have hkn : k = L.length := by omega
      subst hkn
      have hfin : ∃ v : Value, v = .slice (some ⟨w.heap.size, 0, none⟩) L.length L.length ∧ wr.ownsRow w.heap.size 24 2 v L.length (rcells (rgs L)) := by
        obtain ⟨rest, hr, ho⟩ := hh.out
        obtain rfl : rest = [] := List.eq_nil_of_length_eq_zero (by omega)
        rw [List.append_nil, List.take_of_length_le (by rw [HL.out]; exact Nat.le_refl _)] at ho
        exact ⟨_, rfl, ho⟩
      have HF := Hid.mk' hfin
      clear hfin hh
      go_wp2_with fail
      go_ret
      obtain ⟨v, rfl, ho⟩ := HF.out
      exact ⟨_, rfl, ho, hb⟩
end Go.Proofs.Ytnpcglgboemmcaa
