/- A book of package lease in memory (BookIs); the contracts of isBusy, Back. -/
import Derived.Test.YtnpcglgboemmcaaLc
namespace Go.Proofs.Ytnpcglgboemmcaa
open Go.ChangeShapes Go.WideShapes Go.ChangeAt Go.RowKit

/-- A book at block p: over a slice of n bytes, nx lent so far, the loans L out. -/
structure BookIs (w : World) (p : Nat) (a : Option Addr) (n c nx : Nat) (ov : Value) (L : List Loan) : Prop where
  box : w.heap[p]? = some (.cells #[.bool true, .slice a n c, .int .i64 nx, ov] 59 (0, 0))
  row : w.ownsRow (p + 1) 65 3 ov L.length (lcells L)
  few : L.length ≤ nx
  most : nx ≤ 1000
  ins : ∀ l ∈ L, 0 ≤ l.2.1 ∧ 0 ≤ l.2.2 ∧ l.2.1 + l.2.2 ≤ n
  big : n ≤ 140737488355328
  cap : n ≤ c

/-- The blocks that a book may write. -/
def bookS (p : Nat) (ov : Value) : Nat → Prop := fun k => k = p ∨ ov.ownBlock = some k

theorem BookIs.lt {w : World} {p : Nat} {a : Option Addr} {n c nx : Nat} {ov : Value} {L : List Loan} (h : BookIs w p a n c nx ov L) : p < w.heap.size := (Array.getElem?_eq_some_iff.1 h.box).1
theorem BookIs.cell {w : World} {p : Nat} {a : Option Addr} {n c nx : Nat} {ov : Value} {L : List Loan} (h : BookIs w p a n c nx ov L) :
    w.cell? ⟨p, 0, none⟩ = some (.bool true) ∧ w.cell? ⟨p, 1, none⟩ = some (.slice a n c) ∧ w.cell? ⟨p, 2, none⟩ = some (.int .i64 nx) ∧ w.cell? ⟨p, 3, none⟩ = some ov ∧ ∀ j, w.frozen? ⟨p, j, none⟩ = false :=
  ⟨cell_of_row w p 0 _ _ _ h.box, cell_of_row w p 1 _ _ _ h.box, cell_of_row w p 2 _ _ _ h.box, cell_of_row w p 3 _ _ _ h.box, fun j => frozen_of_row w p j _ _ h.box⟩

theorem BookIs.kept {w w' : World} {p : Nat} {a : Option Addr} {n c nx : Nat} {ov : Value} {L : List Loan} {S : Nat → Prop} (h : BookIs w p a n c nx ov L) (k : Kept S w w') (hs : ∀ i, bookS p ov i → ¬ S i) : BookIs w' p a n c nx ov L :=
  ⟨by rw [k.block p h.lt (hs p (.inl rfl))]; exact h.box, Kept.owns h.row k (fun g hg => hs g (.inr hg)), h.few, h.most, h.ins, h.big, h.cap⟩
theorem BookIs.below {w w' : World} {p : Nat} {a : Option Addr} {n c nx : Nat} {ov : Value} {L : List Loan} (h : BookIs w p a n c nx ov L) (k : Below w.heap.size w w') : BookIs w' p a n c nx ov L :=
  h.kept (Kept.of_below (S := fun _ => False) k) (fun _ _ h => h)

set_option maxHeartbeats 1000000 in
theorem busy_any (p : Nat) (a : Option Addr) (n c nx : Nat) (ov : Value) (L : List Loan) (u v : Int) (w : World) (h : BookIs w p a n c nx ov L) (g0 : 0 ≤ u) (g1 : 0 ≤ v) (g2 : u + v ≤ 140737488355328) :
    Calls Try.prog 29 #[.pointer (some ⟨p, 0, none⟩), .agg #[.int .i64 u, .int .i64 v]] w fun e w' => e = .returned (.bool (L.any fun l => mt l.2.1 l.2.2 u v)) ∧ Below w.heap.size w w' := by
  obtain ⟨_, _, _, c3, _⟩ := h.cell
  have hlt := h.lt
  have b1 : Below w.heap.size w (w.alloc (.cells #[.int .i64 u, .int .i64 v] 24)) := (Below.refl _ _).alloc (Nat.le_refl _) _
  have key := has_any 31 ⟨w.heap.size, 0, none⟩ (fun l => mt l.2.1 l.2.2 u v) ov L (w.alloc (.cells #[.int .i64 u, .int .i64 v] 24)) (p + 1) (h.row.alloc _) (by have := h.few; have := h.most; omega) enter31
    (fun W l hl hb => by
      have i := h.ins l hl
      have hbig := h.big
      refine busy1_any l.1 l.2.1 l.2.2 w.heap.size u v W ?_ ?_ i.1 i.2.1 (by omega) g0 g1 g2
      · rw [hb.cell (by simp)]; simp
      · rw [hb.cell (by simp)]; simp)
  have HK : Hid (Below w.heap.size w (w.alloc (.cells #[.int .i64 u, .int .i64 v] 24))) := b1
  clear h b1
  generalize (L.any fun l => mt l.2.1 l.2.2 u v) = bb at key ⊢
  go_enter Try.func29, Try.ntmps29
  go_wp2_with fail
  refine key.mono ?_
  rintro e w1 ⟨rfl, b2⟩
  have b3 : Below w.heap.size w w1 := HK.out.trans (b2.mono (by simp))
  clear b2 key HK
  go_wp2_with fail
  go_ret
  exact ⟨rfl, b3⟩

/-- A book with another list of loans. -/
theorem BookIs.put {w w1 : World} {p : Nat} {a : Option Addr} {n c nx : Nat} {ov : Value} {L : List Loan} {S : Nat → Prop} (h : BookIs w p a n c nx ov L) (k : Kept S w w1) (hp : ¬ S p) (nx' : Nat) (ov' : Value) (L' : List Loan)
    (row : w1.ownsRow (p + 1) 65 3 ov' L'.length (lcells L')) (few : L'.length ≤ nx') (most : nx' ≤ 1000) (ins : ∀ l ∈ L', 0 ≤ l.2.1 ∧ 0 ≤ l.2.2 ∧ l.2.1 + l.2.2 ≤ n) :
    BookIs ((w1.setCell ⟨p, 2, none⟩ (.int .i64 nx')).setCell ⟨p, 3, none⟩ ov') p a n c nx' ov' L' := by
  have hb : w1.heap[p]? = some (.cells #[.bool true, .slice a n c, .int .i64 nx, ov] 59 (0, 0)) := by rw [k.block p h.lt hp]; exact h.box
  refine ⟨?_, ownsRow_setCell_below (ownsRow_setCell_below row (by simp) _) (by simp) _, few, most, ins, h.big, h.cap⟩
  rw [Go.heap_setCell_same _ p 3 _ _ _ (Go.heap_setCell_same _ p 2 _ _ _ hb)]
  rfl

theorem BookIs.put3 {w w1 : World} {p : Nat} {a : Option Addr} {n c nx : Nat} {ov : Value} {L : List Loan} {S : Nat → Prop} (h : BookIs w p a n c nx ov L) (k : Kept S w w1) (hp : ¬ S p) (ov' : Value) (L' : List Loan)
    (row : w1.ownsRow (p + 1) 65 3 ov' L'.length (lcells L')) (few : L'.length ≤ nx) (ins : ∀ l ∈ L', 0 ≤ l.2.1 ∧ 0 ≤ l.2.2 ∧ l.2.1 + l.2.2 ≤ n) :
    BookIs (w1.setCell ⟨p, 3, none⟩ ov') p a n c nx ov' L' := by
  have hb : w1.heap[p]? = some (.cells #[.bool true, .slice a n c, .int .i64 nx, ov] 59 (0, 0)) := by rw [k.block p h.lt hp]; exact h.box
  refine ⟨?_, ownsRow_setCell_below row (by simp) _, few, h.most, ins, h.big, h.cap⟩
  rw [Go.heap_setCell_same _ p 3 _ _ _ hb]
  rfl

/-- No loan has this number. -/
def hasId (L : List Loan) (id : Int) : Bool := L.any fun l => l.1 == id

set_option maxHeartbeats 1000000 in
theorem back_no (p : Nat) (a : Option Addr) (n c nx : Nat) (ov : Value) (L : List Loan) (id : Int) (w : World) (h : BookIs w p a n c nx ov L) (hn : ∀ l ∈ L, l.1 ≠ id) :
    Calls Try.prog 16 #[.pointer (some ⟨p, 0, none⟩), .int .i64 id] w fun e w' => e = .returned (.int .i64 22) ∧ Below w.heap.size w w' := by
  obtain ⟨c0, _, _, c3, _⟩ := h.cell
  have hlt := h.lt
  have b1 : Below w.heap.size w (w.alloc (.cells #[.int .i64 id] 3)) := (Below.refl _ _).alloc (Nat.le_refl _) _
  have key := idx_any 27 ⟨w.heap.size, 0, none⟩ (fun l => l.1 == id) ov L (w.alloc (.cells #[.int .i64 id] 3)) (p + 1) (h.row.alloc _) (by have := h.few; have := h.most; omega) enter27
    (fun W l hl hb => by
      refine back1_any l.1 l.2.1 l.2.2 w.heap.size id W ?_
      rw [hb.cell (by simp)]; simp)
  rw [fst_miss (fun l => l.1 == id) L (fun j l hj => by simpa using hn l (List.mem_of_getElem? hj))] at key
  have HK : Hid (Below w.heap.size w (w.alloc (.cells #[.int .i64 id] 3))) := b1
  clear h b1 hn
  go_enter Try.func16, Try.ntmps16
  go_wp2_with fail
  refine (isNone_no p _ ((HK.out.cell hlt).trans c0)).mono ?_
  rintro e w' ⟨rfl, rfl⟩
  go_wp2_with fail
  refine key.mono ?_
  rintro e w1 ⟨rfl, b2⟩
  have b3 : Below w.heap.size w w1 := HK.out.trans (b2.mono (by simp))
  clear b2 key HK
  go_wp2_with fail
  go_ret
  exact ⟨rfl, b3⟩

set_option maxHeartbeats 1000000 in
theorem back_yes (p : Nat) (a : Option Addr) (n c nx : Nat) (ov : Value) (L : List Loan) (id : Int) (w : World) (h : BookIs w p a n c nx ov L) (k : Nat) (l : Loan) (hl : L[k]? = some l) (hid : l.1 = id) (hb : ∀ j l, j < k → L[j]? = some l → l.1 ≠ id) :
    Calls Try.prog 16 #[.pointer (some ⟨p, 0, none⟩), .int .i64 id] w fun e w' => e = .returned (.int .i64 0) ∧ ∃ ov', BookIs w' p a n c nx ov' (L.eraseIdx k) ∧ Kept (bookS p ov) w w' ∧ ov'.ownBlock = ov.ownBlock := by
  obtain ⟨c0, _, _, c3, fz⟩ := h.cell
  have hlt := h.lt
  have hk := (List.getElem?_eq_some_iff.1 hl).1
  have hL : L.length ≤ 1000000 := by have := h.few; have := h.most; omega
  have b1 : Below w.heap.size w (w.alloc (.cells #[.int .i64 id] 3)) := (Below.refl _ _).alloc (Nat.le_refl _) _
  have key := idx_any 27 ⟨w.heap.size, 0, none⟩ (fun l => l.1 == id) ov L (w.alloc (.cells #[.int .i64 id] 3)) (p + 1) (h.row.alloc _) (by have := h.few; have := h.most; omega) enter27
    (fun W l hl hb => by
      refine back1_any l.1 l.2.1 l.2.2 w.heap.size id W ?_
      rw [hb.cell (by simp)]; simp)
  rw [fst_hit (fun l => l.1 == id) L k l hl (by simpa using hid) (fun j l hj hl => by simpa using hb j l hj hl)] at key
  obtain ⟨g, cap, hv⟩ : ∃ g cap, ov = .slice (some ⟨g, 0, none⟩) L.length cap := by
    rcases h.row.2 with ⟨_, h0⟩ | ⟨g, cap, cur, hv, _⟩
    · omega
    · exact ⟨g, cap, hv⟩
  subst hv
  have HB : Hid (BookIs w p a n c nx (.slice (some ⟨g, 0, none⟩) L.length cap) L) := h
  have HK : Hid (Below w.heap.size w (w.alloc (.cells #[.int .i64 id] 3))) := b1
  clear h b1 hb hl hid
  go_enter Try.func16, Try.ntmps16
  go_wp2_with fail
  refine (isNone_no p _ ((HK.out.cell hlt).trans c0)).mono ?_
  rintro e w' ⟨rfl, rfl⟩
  go_wp2_with fail
  refine key.mono ?_
  rintro e w1 ⟨rfl, b2⟩
  have b3 : Below w.heap.size w w1 := HK.out.trans (b2.mono (by simp))
  have d3 : w1.cell? ⟨p, 3, none⟩ = some (.slice (some ⟨g, 0, none⟩) L.length cap) := (b3.cell hlt).trans c3
  have hB1 := HB.out.below b3
  clear b2 key HK
  have hrow1 := hB1.row
  clear hB1
  have HR : Hid (w1.ownsRow (p + 1) 65 3 (.slice (some ⟨g, 0, none⟩) L.length cap) L.length (lcells L)) := hrow1
  clear hrow1
  go_wp2_with fail
  refine (del_any g cap k L w1 (p + 1) HR.out hk hL).mono ?_
  rintro e w2 ⟨rfl, hrow, hgr⟩
  have hgp : g ≠ p := by
    rcases HB.out.row.2 with ⟨h0, _⟩ | ⟨g', cap', cur, hv, hg, _⟩
    · cases h0
    · simp at hv; omega
  have k2 : Kept (fun i => i = g) w w2 := (Kept.of_below b3).grown hgr (fun i hi _ => by simpa using hi.symm)
  have d4 : w2.cell? ⟨p, 3, none⟩ = some (.slice (some ⟨g, 0, none⟩) L.length cap) := k2.cell c3 (fun e => hgp e.symm)
  have f4 : w2.frozen? ⟨p, 3, none⟩ = false := by
    have := fz 3
    rw [World.frozen?_of_block (w := w)]
    · exact this
    · exact k2.block p hlt (fun e => hgp e.symm)
  have hlen : (L.eraseIdx k).length = L.length - 1 := by rw [List.length_eraseIdx, if_pos hk]
  have HX : Hid (BookIs (w2.setCell ⟨p, 3, none⟩ (.slice (some ⟨g, 0, none⟩) (L.length - 1) cap)) p a n c nx (.slice (some ⟨g, 0, none⟩) (L.length - 1) cap) (L.eraseIdx k)) :=
    HB.out.put3 k2 (fun e => hgp e.symm) _ _ (by rw [hlen]; exact hrow) (by rw [hlen]; have := HB.out.few; omega) (fun l hl => HB.out.ins l (List.mem_of_mem_eraseIdx hl))
  have HY : Hid (Kept (bookS p (.slice (some ⟨g, 0, none⟩) L.length cap)) w (w2.setCell ⟨p, 3, none⟩ (.slice (some ⟨g, 0, none⟩) (L.length - 1) cap))) :=
    (k2.mono (fun i _ e => .inr (by rw [e]; rfl))).setCell (fun _ => .inl rfl) _
  clear hrow hgr k2 b3 d3 hlen HB
  go_wp2_with fail
  go_ret
  exact ⟨rfl, _, HX, HY, rfl⟩
end Go.Proofs.Ytnpcglgboemmcaa
