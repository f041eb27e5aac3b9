/- The contract of (*Book).Lend where a window is lent. -/
import Derived.Test.YtnpcglgboemmcaaLe
namespace Go.Proofs.Ytnpcglgboemmcaa
open Go.ChangeShapes Go.WideShapes Go.ChangeAt Go.RowKit

theorem lcells_snoc (L : List Loan) (l : Loan) : lcells (L ++ [l]) = lcells L ++ [.int .i64 l.1, .int .i64 l.2.1, .int .i64 l.2.2] := by simp [lcells]

theorem cell_three_new (w : World) (a b c : Value) (t : TypeId) : ∀ j u, [a, b, c][j]? = some u → (w.alloc (.cells #[a, b, c] t)).cell? ((⟨w.heap.size, 0, none⟩ : Addr).add j) = some u := by
  intro j u hj
  rw [addr_add, Nat.zero_add, World.cell?_alloc_new]
  match j, hj with
  | 0, hj => simpa using hj
  | 1, hj => simpa using hj
  | 2, hj => simpa using hj

theorem Hid.mk' {p : Prop} (h : p) : Hid p := h

theorem own_slice {w : World} {base : Nat} {e : TypeId} {size : Nat} {v : Value} {n : Nat} {xs : List Value} (h : w.ownsRow base e size v n xs) : ∃ a c, v = .slice a n c := by
  rcases h.2 with ⟨rfl, h0⟩ | ⟨g, cap, cur, rfl, _⟩
  · exact ⟨none, 0, by rw [h0]⟩
  · exact ⟨_, _, rfl⟩

theorem blend_mid {w3 w4 : World} {p : Nat} {b0 b1 b2 ov : Value} {t e : TypeId} {n : Nat} {xs : List Value} {o : Obj} (hb : w3.heap[p]? = some (.cells #[b0, b1, b2, ov] t (0, 0))) (hrow : w3.ownsRow (p + 1) e 3 ov n xs) (hg : (w3.alloc o).drew.grownBy w4 ov.ownBlock) :
    Hid (w4.heap[p]? = some (.cells #[b0, b1, b2, ov] t (0, 0))) ∧ w4.cell? ⟨p, 3, none⟩ = some ov ∧ w4.frozen? ⟨p, 3, none⟩ = false := by
  have hlt : p < w3.heap.size := (Array.getElem?_eq_some_iff.1 hb).1
  have h4 : w4.heap[p]? = some (.cells #[b0, b1, b2, ov] t (0, 0)) := by
    rw [hg.block p (by show p < (w3.alloc o).heap.size; simp; omega) (fun e => by have := hrow.lt p e.symm; omega)]
    show (w3.alloc o).heap[p]? = _
    rw [Below.heap_alloc _ _ _ hlt]; exact hb
  exact ⟨h4, cell_of_row w4 p 3 _ _ _ h4, frozen_of_row w4 p 3 _ _ h4⟩

/-- The book behind a loan. -/
theorem blend_end {w w3 w4 : World} {p : Nat} {a : Option Addr} {n c nx x y : Nat} {ov v' : Value} {L : List Loan} {o : Obj} (hi : x + y ≤ n) (hn : n ≤ 140737488355328) (hc : n ≤ c) (hL : L.length ≤ nx) (hnx : nx < 1000) (ins : ∀ l ∈ L, 0 ≤ l.2.1 ∧ 0 ≤ l.2.2 ∧ l.2.1 + l.2.2 ≤ n)
    (hb4 : w4.heap[p]? = some (.cells #[.bool true, .slice a n c, .int .i64 ((nx : Int) + 1), ov] 59 (0, 0)))
    (hown : w4.ownsRow (p + 1) 65 3 v' (L.length + 1) (lcells L ++ [.int .i64 nx, .int .i64 x, .int .i64 y])) (hg : (w3.alloc o).drew.grownBy w4 ov.ownBlock)
    (hk : Kept (bookS p ov) w w3) (hown' : v'.ownBlock = ov.ownBlock ∨ ∃ g, v'.ownBlock = some g ∧ w.heap.size ≤ g) :
    ∃ ov', BookIs (w4.setCell ⟨p, 3, none⟩ v') p a n c (nx + 1) ov' (L ++ [((nx : Int), (x : Int), (y : Int))]) ∧ Kept (bookS p ov) w (w4.setCell ⟨p, 3, none⟩ v') ∧ (ov'.ownBlock = ov.ownBlock ∨ ∃ g, ov'.ownBlock = some g ∧ w.heap.size ≤ g) := by
  refine ⟨v', ⟨?_, ?_, ?_, by omega, ?_, hn, hc⟩, ?_, hown'⟩
  · rw [Go.heap_setCell_same _ p 3 _ _ _ hb4]
    rfl
  · refine ownsRow_setCell_below ?_ (by simp) _
    rw [lcells_snoc, List.length_append]
    exact hown
  · simp; omega
  · intro l hl
    rcases List.mem_append.1 hl with h | h
    · exact ins l h
    · simp at h; subst h; simp; omega
  · refine Kept.setCell ?_ (fun _ => .inl rfl) _
    exact Kept.grown (hk.alloc o).drew hg (fun k h _ => .inr h)

set_option maxHeartbeats 2000000 in
theorem blend_yes (p : Nat) (a : Option Addr) (n c nx : Nat) (ov : Value) (L : List Loan) (x y : Nat) (w : World) (h : BookIs w p a n c nx ov L) (hnx : nx < 1000) (hi : x + y ≤ n) (ha : 0 < n → a ≠ none) (hb : (L.any fun l => mt l.2.1 l.2.2 x y) = false) :
    Calls Try.prog 18 #[.pointer (some ⟨p, 0, none⟩), .agg #[.int .i64 x, .int .i64 y]] w fun e w' => e = .returned (.tuple #[.slice (winA a x y) y y, .int .i64 nx, .int .i64 0]) ∧
      ∃ ov', BookIs w' p a n c (nx + 1) ov' (L ++ [((nx : Int), (x : Int), (y : Int))]) ∧ Kept (bookS p ov) w w' ∧ (ov'.ownBlock = ov.ownBlock ∨ ∃ g, ov'.ownBlock = some g ∧ w.heap.size ≤ g) := by
  obtain ⟨i0, hif, hz0, hz1, hz2⟩ := info_parts info_loan
  obtain ⟨c0, c1, c2, c3, fz⟩ := h.cell
  have hlt := h.lt
  have hbig := h.big
  have hcap := h.cap
  have HK : Hid (Below w.heap.size w (w.alloc (.cells #[.int .i64 x, .int .i64 y] 24))) := (Below.refl _ _).alloc (Nat.le_refl _) _
  have d0 := (HK.out.cell (p := ⟨p, 0, none⟩) hlt).trans c0
  have d1 := (HK.out.cell (p := ⟨p, 1, none⟩) hlt).trans c1
  have HA : Hid (0 < n → a ≠ none) := ha
  have HB : Hid (BookIs w p a n c nx ov L) := h
  have HC : Hid ((L.any fun l => mt l.2.1 l.2.2 x y) = false) := hb
  have hL : L.length ≤ nx := h.few
  clear h c0 c1 c2 c3 ha hb fz
  go_enter Try.func18, Try.ntmps18
  go_wp2_with fail
  refine (isNone_no p _ d0).mono ?_
  rintro e w' ⟨rfl, rfl⟩
  go_wp2_with fail
  go_region_with (go_at_call 9; refine (lend_ok a n c x y _ hbig hcap hi HA.out).mono ?_; rintro e w1 ⟨rfl, b1⟩)
  all_goals
    have b2 : Below w.heap.size w w1 := HK.out.trans (Below.trans (Below.drew (Below.refl _ _)) (b1.mono (by simp)))
    have e0 : w1.cell? ⟨w.heap.size, 0, none⟩ = some (.int .i64 x) := by rw [b1.cell (by simp)]; simp
    have e1 : w1.cell? ⟨w.heap.size, 1, none⟩ = some (.int .i64 y) := by rw [b1.cell (by simp)]; simp
    have hs1 : w.heap.size + 1 ≤ w1.heap.size := by have := b1.size; simpa using this
    clear b1 d0 d1
    have key := busy_any p a n c nx ov L x y w1 (HB.out.below b2) (by omega) (by omega) (by omega)
    rw [HC.out] at key
    go_wp2_with fail
    refine key.mono ?_
    rintro e w2 ⟨rfl, b3⟩
    have b4 : Below w.heap.size w w2 := b2.trans (b3.mono b2.size)
    have e2 := (b3.cell (p := ⟨w.heap.size, 0, none⟩) hs1).trans e0
    have e3 := (b3.cell (p := ⟨w.heap.size, 1, none⟩) hs1).trans e1
    have hs2 : w.heap.size + 1 ≤ w2.heap.size := Nat.le_trans hs1 b3.size
    clear b3 key b2 e0 e1 hs1
    have HB2 : Hid (BookIs w2 p a n c nx ov L) := HB.out.below b4
    obtain ⟨_, _, f2, f3, fz⟩ := HB2.out.cell
    have fz2 := fz 2
    have fz3 := fz 3
    clear fz
    have hlt2 : p < w2.heap.size := HB2.out.lt
    have hne : ¬ w.heap.size = p := by omega
    go_wp2_with fail
    have hrow : Hid ((w2.setCell ⟨p, 2, none⟩ (.int .i64 ((nx : Int) + 1))).ownsRow (p + 1) 65 3 ov L.length (lcells L)) := ownsRow_setCell_below HB2.out.row (by simp) _
    have hq0 : (w2.setCell ⟨p, 2, none⟩ (.int .i64 ((nx : Int) + 1))).cell? ⟨w.heap.size, 0, none⟩ = some (.int .i64 x) := by rw [World.cell?_setCell_other _ _ _ _ (by simp)]; exact e2
    have hq1 : (w2.setCell ⟨p, 2, none⟩ (.int .i64 ((nx : Int) + 1))).cell? ⟨w.heap.size, 1, none⟩ = some (.int .i64 y) := by rw [World.cell?_setCell_other _ _ _ _ (by simp)]; exact e3
    have hb3 : (w2.setCell ⟨p, 2, none⟩ (.int .i64 ((nx : Int) + 1))).heap[p]? = some (.cells #[.bool true, .slice a n c, .int .i64 ((nx : Int) + 1), ov] 59 (0, 0)) := by rw [Go.heap_setCell_same _ p 2 _ _ _ HB2.out.box]; rfl
    have hk3 : Hid (Kept (bookS p ov) w (w2.setCell ⟨p, 2, none⟩ (.int .i64 ((nx : Int) + 1)))) := (Kept.of_below b4).setCell (fun _ => .inl rfl) _
    have hs3 : w2.heap.size = (w2.setCell ⟨p, 2, none⟩ (.int .i64 ((nx : Int) + 1))).heap.size := by simp [World.setCell]
    rw [hs3] at hs2 hlt2
    clear f2 f3 fz2 fz3 e2 e3 hs3 b4
    generalize w2.setCell ⟨p, 2, none⟩ (.int .i64 ((nx : Int) + 1)) = w3 at *
    have hg3 : w3.cell? ⟨p, 3, none⟩ = some ov := cell_of_row w3 p 3 _ _ _ hb3
    have HB3 : Hid (w3.heap[p]? = some (.cells #[.bool true, .slice a n c, .int .i64 ((nx : Int) + 1), ov] 59 (0, 0))) := hb3
    clear hb3
    go_region_law (refine step_append_own rfl (.tmp 42) (.tmp 46) 57 rfl (p + 1) 65 i0 (.agg #[.int .i64 0, .int .i64 0, .int .i64 0]) 3 24 Try.underlying57 hif hz0 hz1 hz2 rfl (by decide) ov L.length (lcells L) (by simp [Act.eval]) (World.ownsRow.drew (World.ownsRow.alloc hrow.out _)) ⟨w3.heap.size, 0, none⟩ 1 1 [.int .i64 nx, .int .i64 x, .int .i64 y] (by simp [Act.eval]) rfl (cell_three_new w3 _ _ _ _) (by intro u hu; simp at hu; rcases hu with rfl | rfl | rfl <;> rfl) (by unfold maxLen; omega) (by omega) (by simp; omega) ?_; intro v' w4 hown4 hgr4; intro hwh; obtain ⟨av, cv, rfl⟩ := own_slice hown4; obtain ⟨hb4, hc4, hf4⟩ := blend_mid HB3.out hrow.out hgr4; have HO4 := Hid.mk' hown4; have HG4 := Hid.mk' hgr4; have HW4 := Hid.mk' hwh; clear hown4 hgr4 hwh)
    all_goals
      have fin := blend_end hi hbig hcap hL hnx HB.out.ins hb4.out HO4.out HG4.out hk3.out (HW4.out.imp_right fun ⟨g, h1, h2⟩ => ⟨g, h1, by have h3 : w3.heap.size + 1 ≤ g := by { simpa using h2 }; omega⟩)
      have HFIN := Hid.mk' fin
      clear fin hc4 hf4 hq0 hq1 hg3
      go_wp2_with fail
      go_ret3
      exact ⟨rfl, HFIN.out⟩
end Go.Proofs.Ytnpcglgboemmcaa
