/- The walk of the statement LeaseApart. -/
import Derived.Test.YtnpcglgboemmcaaLk
import Derived.Deep.CutRange
import Derived.Deep.OwnRows
import Derived.Deep.Light
namespace Go.Proofs.Ytnpcglgboemmcaa
open Go.ChangeShapes Go.WideShapes Go.ChangeAt Go.RowKit

/-- What stands at the head of LeaseApart's loop. -/
structure ApI (W wr : World) (p : Nat) (a : Option Addr) (n nx : Nat) : Prop where
  book : ∃ ov L, BookIs wr p a n n nx ov L ∧ Apart L
  old : Below W.heap.size W wr
  pos : W.heap.size ≤ p

theorem ApI.alloc {W wr : World} {p : Nat} {a : Option Addr} {n nx : Nat} (h : ApI W wr p a n nx) (o : Obj) : ApI W (wr.alloc o) p a n nx := by
  obtain ⟨⟨ov, L, hB, hA⟩, h2, h3⟩ := h
  exact ⟨⟨ov, L, hB.below ((Below.refl _ _).alloc (Nat.le_refl _) o), hA⟩, h2.alloc h2.size o, h3⟩

/-- A place is covered by the first m ranges, or by the first j bytes of the next one. -/
def Cov (L : List Loan) (m j : Nat) (k : Int) : Prop :=
  (∃ i l, i < m ∧ L[i]? = some l ∧ l.2.1 ≤ k ∧ k < l.2.1 + l.2.2) ∨ (∃ l, L[m]? = some l ∧ l.2.1 ≤ k ∧ k < l.2.1 + j)

/-- The marks: what is marked is covered. -/
structure Mk (w5 wr : World) (L : List Loan) (m j : Nat) : Prop where
  old : Below w5.heap.size w5 wr
  row : ∃ f : Nat → Int, wr.rowIs w5.heap.size 55 40 (fun k => .int .i64 (f k)) ∧ ∀ k, k < 40 → 0 < f k → Cov L m j k

theorem mk_start (w5 : World) (L : List Loan) : Mk w5 (w5.alloc (.cells #[.int .i64 0, .int .i64 0, .int .i64 0, .int .i64 0, .int .i64 0, .int .i64 0, .int .i64 0, .int .i64 0, .int .i64 0, .int .i64 0, .int .i64 0, .int .i64 0, .int .i64 0, .int .i64 0, .int .i64 0, .int .i64 0, .int .i64 0, .int .i64 0, .int .i64 0, .int .i64 0, .int .i64 0, .int .i64 0, .int .i64 0, .int .i64 0, .int .i64 0, .int .i64 0, .int .i64 0, .int .i64 0, .int .i64 0, .int .i64 0, .int .i64 0, .int .i64 0, .int .i64 0, .int .i64 0, .int .i64 0, .int .i64 0, .int .i64 0, .int .i64 0, .int .i64 0, .int .i64 0] 55)) L 0 0 := by
  refine ⟨(Below.refl _ _).alloc (Nat.le_refl _) _, fun _ => 0, ?_, fun k _ h => absurd h (by simp)⟩
  have e : (#[.int .i64 0, .int .i64 0, .int .i64 0, .int .i64 0, .int .i64 0, .int .i64 0, .int .i64 0, .int .i64 0, .int .i64 0, .int .i64 0, .int .i64 0, .int .i64 0, .int .i64 0, .int .i64 0, .int .i64 0, .int .i64 0, .int .i64 0, .int .i64 0, .int .i64 0, .int .i64 0, .int .i64 0, .int .i64 0, .int .i64 0, .int .i64 0, .int .i64 0, .int .i64 0, .int .i64 0, .int .i64 0, .int .i64 0, .int .i64 0, .int .i64 0, .int .i64 0, .int .i64 0, .int .i64 0, .int .i64 0, .int .i64 0, .int .i64 0, .int .i64 0, .int .i64 0, .int .i64 0] : Array Value) = Array.replicate 40 (.int .i64 0) := rfl
  rw [e]
  have := World.rowIs_alloc w5 (Array.replicate 40 (.int .i64 0)) 55 (fun _ => .int .i64 0) (fun i hi => by simp at hi; simp [hi])
  simpa using this

theorem Mk.next {w5 wr : World} {L : List Loan} {m v : Nat} (h : Mk w5 wr L m v) (l : Loan) (hl : L[m]? = some l) (hv : l.2.2 = v) : Mk w5 wr L (m + 1) 0 := by
  obtain ⟨h1, f, h2, h3⟩ := h
  refine ⟨h1, f, h2, fun k hk hf => ?_⟩
  rcases h3 k hk hf with ⟨i, l', hi, hl', a, b⟩ | ⟨l', hl', a, b⟩
  · exact .inl ⟨i, l', by omega, hl', a, b⟩
  · rw [hl] at hl'; cases hl'
    exact .inl ⟨m, l, by omega, hl, a, by omega⟩

theorem Mk.free {w5 wr : World} {L : List Loan} {m j u v : Nat} {li : Int} (h : Mk w5 wr L m j) (hA : Apart L) (hl : L[m]? = some (li, (u : Int), (v : Int))) (hj : j < v) (hn : u + v ≤ 40) :
    ∃ z : Int, wr.cell? ⟨w5.heap.size, u + j, none⟩ = some (.int .i64 z) ∧ z ≤ 0 ∧ wr.frozen? ⟨w5.heap.size, u + j, none⟩ = false := by
  obtain ⟨h1, f, h2, h3⟩ := h
  refine ⟨f (u + j), h2.cell (by omega), ?_, h2.frozen _⟩
  apply Classical.byContradiction
  intro hz
  have hm := (List.getElem?_eq_some_iff.1 hl).1
  have hlm := (List.getElem?_eq_some_iff.1 hl).2
  rcases h3 (u + j) (by omega) (by omega) with ⟨i, l', hi, hl', a, b⟩ | ⟨l', hl', a, b⟩
  · have hi' := (List.getElem?_eq_some_iff.1 hl').1
    have hli := (List.getElem?_eq_some_iff.1 hl').2
    have := List.pairwise_iff_getElem.1 hA i m hi' hm hi
    rw [hlm, hli] at this
    simp only [mt, decide_eq_false_iff_not] at this
    apply this
    omega
  · rw [hl] at hl'; cases hl'
    simp only at a b
    omega

theorem Mk.put {w5 wr : World} {L : List Loan} {m j u v : Nat} {li : Int} (h : Mk w5 wr L m j) (hl : L[m]? = some (li, (u : Int), (v : Int))) : Mk w5 (wr.setCell ⟨w5.heap.size, u + j, none⟩ (.int .i64 1)) L m (j + 1) := by
  obtain ⟨h1, f, h2, h3⟩ := h
  refine ⟨h1.setCell (Nat.le_refl _) _, fun k => if k = u + j then 1 else f k, ?_, fun k hk hf => ?_⟩
  · refine (h2.set (u + j) (.int .i64 1)).congr (fun i _ => ?_)
    by_cases e : i = u + j <;> simp [e]
  · by_cases e : k = u + j
    · exact .inr ⟨_, hl, by simp only; omega, by simp only; omega⟩
    · simp only [e, if_false] at hf
      rcases h3 k hk hf with ⟨i, l', hi, hl', a, b⟩ | ⟨l', hl', a, b⟩
      · exact .inl ⟨i, l', hi, hl', a, b⟩
      · exact .inr ⟨l', hl', a, by omega⟩

set_option maxHeartbeats 4000000 in
set_option maxRecDepth 100000 in
theorem apart_any (x0 : Int) (a1 : Option Addr) (c1 : Nat) (x1 : List DoM) (W : World) (w0 : (Lit.int .i64 x0).wf = true) (o1 : SlOk sh40 W a1 c1 x1) (l1 : x1.length ≤ 140737488351232) :
    Calls Try.prog 6 #[.int .i64 x0, .slice a1 x1.length c1] W fun e w' => e = .returned (.bool true) ∧ Below W.heap.size W w' := by
  obtain ⟨i0, hif, hz0, hz1, hz2⟩ := info_parts info_u8
  obtain ⟨x00, x01⟩ := bounds_i64 w0
  have HO := Hid.mk' o1
  clear o1 w0
  obtain ⟨ln, hln⟩ : ∃ ln, ln = x1.length := ⟨_, rfl⟩
  rw [← hln] at l1 ⊢
  have HLN := Hid.mk' hln.symm
  clear hln
  go_enter Try.func6, Try.ntmps6
  go_wp2_with fail
  refine (awake_any W).mono ?_
  rintro e w1 ⟨rfl, b1⟩
  go_wp2_with fail
  refine (keep_name' (bring_any x0 40 w1 (by omega) (by omega) x00 x01)).mono ?_
  rintro e w2 ⟨⟨n, hn, rfl⟩, rfl⟩
  go_wp2_with (at_make; refine wpList_make_full _ rfl _ _ 22 rfl W.heap.size 5 i0 (.int .u8 0) 1 Try.underlying22 hif hz0 hz1 _ _ _ _ n rfl rfl rfl rfl (by rw [hz2]; omega) (by unfold maxLen; omega) b1.size ?_; intro w3 hown3 hgr3; have b3 : Below W.heap.size W w3 := b1.grown hgr3 b1.size (by simp); clear hown3 hgr3)
  refine (new_any (some ⟨w1.heap.size, 0, none⟩) n n w3).mono ?_
  rintro e w4 ⟨rfl, hw4⟩
  have HI : ApI W w4 w3.heap.size (some ⟨w1.heap.size, 0, none⟩) n 0 := by
    subst hw4
    exact ⟨⟨_, _, bookIs_new w3 _ n n (by omega) (Nat.le_refl _), List.Pairwise.nil⟩, b3.alloc b3.size _, b3.size⟩
  clear hw4 b3 b1
  generalize w3.heap.size = p at *
  generalize w1.heap.size = gb at *
  go_wp2_with fail
  go_loopg [6, 7] 100 (fun g s6 s7 wr => ∃ nx k : Nat, s6 = .int .i64 nx ∧ s7 = .int .i64 k ∧ k ≤ 100 ∧ k ≤ ln ∧ 100 - k ≤ g ∧ nx ≤ k ∧ Hid (ApI W wr p (some ⟨gb, 0, none⟩) n nx))
  case atStart => exact ⟨0, 0, rfl, rfl, by omega, by omega, by omega, by omega, HI⟩
  case round =>
    clear HI
    obtain ⟨nx, k, rfl, rfl, hk1, hk2, hg, hnx, hI⟩ := hrel
    by_cases hlt : k < ln ∧ k < 100
    · obtain ⟨hlt1, hlt2⟩ := hlt
      have hsp : (k : Int) < (ln : Int) := by omega
      have hsp2 : (k : Int) < 100 := by omega
      obtain ⟨b, off, bk, id, x, y, ha, hxk, q0, q1, q2, q3, hbl, hid, hx, hy⟩ := do_cells HO.out k (by rw [HLN.out]; exact hlt1)
      subst ha
      have d0 := (hI.out.old.cell (p := ⟨b, off + k * 4, none⟩) hbl).trans q0
      have d1 := (hI.out.old.cell (p := ⟨b, off + k * 4 + 1, none⟩) hbl).trans q1
      have d2 := (hI.out.old.cell (p := ⟨b, off + k * 4 + 2, none⟩) hbl).trans q2
      have d3 := (hI.out.old.cell (p := ⟨b, off + k * 4 + 3, none⟩) hbl).trans q3
      have hbr : b < wr.heap.size := Nat.lt_of_lt_of_le hbl hI.out.old.size
      clear q0 q1 q2 q3 hxk
      go_upto_if 38 with fail
      go_cut [6] from 24 to 128 (fun s6 wx => ∃ nx' : Nat, s6 = .int .i64 nx' ∧ nx' ≤ k + 1 ∧ Hid (ApI W wx p (some ⟨gb, 0, none⟩) n nx'))
      case first =>
        cases bk with
        | true =>
          go_wp2_with fail
          refine (keep_name' (bring_any id (nx + 1) wr (by omega) (by omega) hid.1 hid.2)).mono ?_
          rintro e w5 ⟨⟨r, hr, rfl⟩, rfl⟩
          obtain ⟨ov, L, hB, hA⟩ := hI.out.book
          have HB := Hid.mk' hB
          have HA := Hid.mk' hA
          clear hB hA
          go_wp2_with fail
          refine (back_any p _ n n nx ov L r wr HB.out).mono ?_
          rintro e w6 ⟨rfl, ov', hB', hK, _⟩
          have HI' : Hid (ApI W w6 p (some ⟨gb, 0, none⟩) n nx) := ⟨⟨ov', _, hB', HA.out.back r⟩, hI.out.old.trans (hK.below hI.out.old.size (fun k hk => HB.out.apart (by have := hI.out.pos; omega))), hI.out.pos⟩
          clear hB' hK HB HA hI
          go_wp2_with fail
          go_meet
          exact ⟨nx, rfl, by omega, HI'⟩
        | false =>
          go_wp2_with fail
          refine (bring_at x _ (n + 1) _ (by omega) (by omega) (by omega) hx.1 hx.2).mono ?_
          rintro e w5 ⟨⟨r, hr, rfl⟩, rfl⟩
          go_wp2_with fail
          refine (bring_at y _ (n - r + 1) _ (by omega) (by omega) (by omega) hy.1 hy.2).mono ?_
          rintro e w6 ⟨⟨t, ht, rfl⟩, rfl⟩
          have hI1 : Hid (ApI W (wr.alloc (.cells #[.int .i64 (r : Int), .int .i64 (t : Int)] 24)) p (some ⟨gb, 0, none⟩) n nx) := hI.out.alloc _
          obtain ⟨ov, L, hB, hA⟩ := hI1.out.book
          have HB := Hid.mk' hB
          have HA := Hid.mk' hA
          have hq0 : (wr.alloc (.cells #[.int .i64 (r : Int), .int .i64 (t : Int)] 24)).cell? ⟨wr.heap.size, 1, none⟩ = some (.int .i64 t) := by simp
          have hqs : wr.heap.size < (wr.alloc (.cells #[.int .i64 (r : Int), .int .i64 (t : Int)] 24)).heap.size := by simp
          clear hB hA hI
          by_cases hany : (L.any fun l => mt l.2.1 l.2.2 r t) = true
          · have HN := Hid.mk' hany
            have ht0 : ¬ (t : Int) = 0 := by
              intro e
              rw [List.any_eq_true] at hany
              obtain ⟨l, _, hl⟩ := hany
              simp [mt] at hl
              omega
            have ht1 : ((t : Int) == 0) = false := by simpa using ht0
            clear hany ht0
            go_wp2_with fail
            refine (blend_busy p _ n n nx ov L r t _ HB.out (by omega) (by simp) HN.out).mono ?_
            rintro e w7 ⟨rfl, b7⟩
            have d7 := (b7.cell (p := ⟨wr.heap.size, 1, none⟩) hqs).trans hq0
            have HI' : Hid (ApI W w7 p (some ⟨gb, 0, none⟩) n nx) := ⟨⟨ov, L, HB.out.below b7, HA.out⟩, hI1.out.old.trans (b7.mono hI1.out.old.size), hI1.out.pos⟩
            clear b7 HB HA hI1 HN
            go_wp2_with fail
            go_meet
            exact ⟨nx, rfl, by omega, HI'⟩
          · have hany : (L.any fun l => mt l.2.1 l.2.2 r t) = false := by simpa using hany
            have HN := Hid.mk' hany
            clear hany
            have hne : ((nx : Int) != (nx : Int)) = false := by simp
            go_wp2_with fail
            refine (blend_yes p _ n n nx ov L r t _ HB.out (by omega) (by omega) (by simp) HN.out).mono ?_
            rintro e w7 ⟨rfl, ov', hB', hK, _⟩
            have HI' : Hid (ApI W w7 p (some ⟨gb, 0, none⟩) n (nx + 1)) := ⟨⟨ov', _, hB', HA.out.snoc _ HN.out⟩, hI1.out.old.trans (hK.below hI1.out.old.size (fun k hk => HB.out.apart (by have := hI1.out.pos; omega))), hI1.out.pos⟩
            clear hB' hK HB HA hI1 HN
            go_wp2_with fail
            go_meet
            exact ⟨nx + 1, by go_num, by omega, HI'⟩
      case rest =>
        obtain ⟨nx', rfl, hnx', hI'⟩ := hcut
        clear hI
        obtain ⟨ov, L, hB, hA⟩ := hI'.out.book
        have HB := Hid.mk' hB
        have HA := Hid.mk' hA
        clear hB hA
        go_wp2_with fail
        refine (out_any p _ n n nx' ov L wc HB.out).mono ?_
        rintro e w5 ⟨v5, rfl, hown5, b5⟩
        obtain ⟨a5, c5, rfl⟩ := own_slice hown5
        have HO5 := Hid.mk' hown5
        have HB5 := Hid.mk' b5
        clear hown5 b5
        have hLl : L.length ≤ 1000 := by have := HB.out.few; have := HB.out.most; omega
        go_wp2_with fail
        have HM : Mk w5 (w5.alloc (.cells #[.int .i64 0, .int .i64 0, .int .i64 0, .int .i64 0, .int .i64 0, .int .i64 0, .int .i64 0, .int .i64 0, .int .i64 0, .int .i64 0, .int .i64 0, .int .i64 0, .int .i64 0, .int .i64 0, .int .i64 0, .int .i64 0, .int .i64 0, .int .i64 0, .int .i64 0, .int .i64 0, .int .i64 0, .int .i64 0, .int .i64 0, .int .i64 0, .int .i64 0, .int .i64 0, .int .i64 0, .int .i64 0, .int .i64 0, .int .i64 0, .int .i64 0, .int .i64 0, .int .i64 0, .int .i64 0, .int .i64 0, .int .i64 0, .int .i64 0, .int .i64 0, .int .i64 0, .int .i64 0] 55)) L 0 0 := mk_start w5 L
        generalize w5.alloc (.cells #[.int .i64 0, .int .i64 0, .int .i64 0, .int .i64 0, .int .i64 0, .int .i64 0, .int .i64 0, .int .i64 0, .int .i64 0, .int .i64 0, .int .i64 0, .int .i64 0, .int .i64 0, .int .i64 0, .int .i64 0, .int .i64 0, .int .i64 0, .int .i64 0, .int .i64 0, .int .i64 0, .int .i64 0, .int .i64 0, .int .i64 0, .int .i64 0, .int .i64 0, .int .i64 0, .int .i64 0, .int .i64 0, .int .i64 0, .int .i64 0, .int .i64 0, .int .i64 0, .int .i64 0, .int .i64 0, .int .i64 0, .int .i64 0, .int .i64 0, .int .i64 0, .int .i64 0, .int .i64 0] 55) = w6 at HM ⊢
        have HM0 := Hid.mk' HM
        clear HM
        go_loopg [14] L.length (fun g s14 wr2 => ∃ m : Nat, s14 = .int .i64 m ∧ m ≤ L.length ∧ L.length - m ≤ g ∧ Hid (Mk w5 wr2 L m 0))
        case atStart => exact ⟨0, rfl, by omega, by omega, HM0⟩
        case round =>
          clear HM0
          obtain ⟨m, rfl, hm1, hm2, hM⟩ := hrel
          by_cases hml : m < L.length
          · obtain ⟨g5, ha5⟩ : ∃ g, a5 = some ⟨g, 0, none⟩ := by
              rcases HO5.out.2 with ⟨h, h2⟩ | ⟨g, cap, cur, h, _⟩
              · omega
              · simp at h; exact ⟨g, h.1⟩
            subst ha5
            have hlm : L[m]? = some L[m] := List.getElem?_eq_getElem hml
            obtain ⟨⟨li, lu, lv⟩, hLm⟩ : ∃ l, L[m] = l := ⟨_, rfl⟩
            rw [hLm] at hlm
            have hins := HB.out.ins (li, lu, lv) (List.mem_of_getElem? hlm)
            simp only at hins
            obtain ⟨u, rfl⟩ : ∃ u : Nat, lu = u := ⟨lu.toNat, by omega⟩
            obtain ⟨v, rfl⟩ : ∃ v : Nat, lv = v := ⟨lv.toNat, by omega⟩
            have huv : u + v ≤ n := by omega
            have HLM := Hid.mk' hlm
            clear hlm hLm hins
            have hr := range_cell HO5.out m ((u : Int), (v : Int)) (by unfold rgs; rw [List.getElem?_map, HLM.out]; rfl)
            have hgl5 : g5 < w5.heap.size := lt_of_cell hr.1
            have e0 := (hM.out.old.cell (p := ⟨g5, m * 2, none⟩) hgl5).trans hr.1
            have e1 := (hM.out.old.cell (p := ⟨g5, m * 2 + 1, none⟩) hgl5).trans hr.2
            have hsp3 : (m : Int) < (L.length : Int) := by omega
            go_wp2_with fail
            go_loopg [15] v (fun g s15 wr3 => ∃ j : Nat, s15 = .int .i64 j ∧ j ≤ v ∧ v - j ≤ g ∧ Hid (Mk w5 wr3 L m j))
            case atStart => exact ⟨0, rfl, by omega, by omega, hM⟩
            case round =>
              clear hM e0 e1
              obtain ⟨j, rfl, hj1, hj2, hM⟩ := hrel
              have e0 := (hM.out.old.cell (p := ⟨g5, m * 2, none⟩) hgl5).trans hr.1
              have e1 := (hM.out.old.cell (p := ⟨g5, m * 2 + 1, none⟩) hgl5).trans hr.2
              by_cases hjv : j < v
              · obtain ⟨z, hz, hz0', hzf⟩ := hM.out.free HA.out HLM.out hjv (by omega)
                have hsp4 : (j : Int) < (v : Int) := by omega
                have hat1 : ¬ ((u : Int) + (j : Int) < 0) := by omega
                have hat2 : (u : Int) + (j : Int) < (n : Int) := by omega
                have hat3 : (u : Int) + (j : Int) < 40 := by omega
                go_wp2_with fail
                go_roundg (v - (j + 1))
                case measure => omega
                case rel => exact ⟨j + 1, by go_num, by omega, by omega, hM.out.put HLM.out⟩
              · have hjv' : j = v := by omega
                have hM' : Hid (Mk w5 wr L (m + 1) 0) := by rw [hjv'] at hM; exact hM.out.next _ HLM.out rfl
                clear hM hjv'
                go_wp2_with fail
                go_roundg (L.length - (m + 1))
                case measure => omega
                case rel => exact ⟨m + 1, by go_num, by omega, by omega, hM'⟩
          · have hI2 : Hid (ApI W wr p (some ⟨gb, 0, none⟩) n nx') := by
              have b6 : Below wc.heap.size wc wr := HB5.out.trans (hM.out.old.mono HB5.out.size)
              exact ⟨⟨ov, L, HB.out.below b6, HA.out⟩, hI'.out.old.trans (b6.mono hI'.out.old.size), hI'.out.pos⟩
            go_wp2_with fail
            go_roundg (100 - (k + 1))
            case measure => omega
            case rel => exact ⟨nx', k + 1, rfl, by go_num, by omega, by omega, by omega, by omega, hI2⟩
    · go_wp2_with fail
      all_goals
        go_ret
        exact ⟨rfl, hI.out.old⟩

theorem walkLeaseApart (x0 : Int) (a1 : Option Addr) (c1 : Nat) (x1 : List sh40.M) (W : World) (w0 : (Lit.int .i64 x0).wf = true) (o1 : SlOk sh40 W a1 c1 x1) (l1 : x1.length ≤ 140737488351232) :
    Calls Try.prog 6 #[.int .i64 x0, .slice a1 x1.length c1] W fun e w' => e = .returned (.bool true) ∧ Below W.heap.size W w' :=
  apart_any x0 a1 c1 x1 W w0 o1 l1
end Go.Proofs.Ytnpcglgboemmcaa
