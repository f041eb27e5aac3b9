/- Stage 12: a head's part of a kind; what is wrong with a head; what Push and Pop answer, as mathematics; the boxes that a kind's deeds read. -/
import Derived.Test.YtednmdkjhiihcaaGreatJ3
import Derived.Test.YtednmdkjhiihcaaGreatSp
namespace Go.Proofs.YtednmdkjhiihcaaGreat
open Go.ChangeShapes Go.WideShapes Go.ChangeAt Go.RowKit
set_option maxRecDepth 10000

/-- Where a kind's header lies in a head, and its cells. -/
def pAt (k : Int) : Nat := if k = 1 then 1 else if k = 2 then 14 else if k = 3 then 17 else if k = 4 then 29 else if k = 5 then 65 else 71
def pN (k : Int) : Nat := if k = 1 then 13 else if k = 2 then 3 else if k = 3 then 12 else if k = 4 then 36 else if k = 5 then 6 else 2
def pt (k : Int) (H : List Value) : List Value := (H.drop (pAt k)).take (pN k)

theorem mid_of {A L B : List Value} {n m : Nat} (hA : A.length = n) (hL : L.length = m) : ((A ++ (L ++ B)).drop n).take m = L := by
  subst hA hL
  simp

theorem pt_hC {k : Int} {a b c d e f : List Value} (h : HdP k a b c d e f) : pt 1 (hC k a b c d e f) = a ∧ pt 2 (hC k a b c d e f) = b ∧ pt 3 (hC k a b c d e f) = c ∧ pt 4 (hC k a b c d e f) = d ∧ pt 5 (hC k a b c d e f) = e ∧ pt 6 (hC k a b c d e f) = f := by
  have na := lhd_len h.a
  have nb := K06.hd_len h.b
  have nc := K07.hd_len h.c
  have nd := K08.hd_len h.d
  have ne := K09.hd_len h.e
  have nf := K10.hd_len h.f
  have e1 : hC k a b c d e f = [Value.int .u8 k] ++ (a ++ (b ++ (c ++ (d ++ (e ++ f))))) := rfl
  have e2 : hC k a b c d e f = (Value.int .u8 k :: a) ++ (b ++ (c ++ (d ++ (e ++ f)))) := rfl
  have e3 : hC k a b c d e f = (Value.int .u8 k :: (a ++ b)) ++ (c ++ (d ++ (e ++ f))) := by simp [hC]
  have e4 : hC k a b c d e f = (Value.int .u8 k :: (a ++ b ++ c)) ++ (d ++ (e ++ f)) := by simp [hC]
  have e5 : hC k a b c d e f = (Value.int .u8 k :: (a ++ b ++ c ++ d)) ++ (e ++ f) := by simp [hC]
  have e6 : hC k a b c d e f = (Value.int .u8 k :: (a ++ b ++ c ++ d ++ e)) ++ (f ++ []) := by simp [hC]
  refine ⟨?_, ?_, ?_, ?_, ?_, ?_⟩
  · rw [e1]; exact mid_of rfl na
  · rw [e2]; exact mid_of (by simp [na]; rfl) nb
  · rw [e3]; exact mid_of (by simp [na, nb]; rfl) nc
  · rw [e4]; exact mid_of (by simp [na, nb, nc]; rfl) nd
  · rw [e5]; exact mid_of (by simp [na, nb, nc, nd]; rfl) ne
  · rw [e6]; exact mid_of (by simp [na, nb, nc, nd, ne]; rfl) nf

theorem pt_hd {k : Int} {H : List Value} (h0 : 1 ≤ k) (h1 : k ≤ 6) (h : Hh H) : KHd k (pt k H) := by
  obtain ⟨q, a, b, c, d, e, f, rfl, hp⟩ := h
  obtain ⟨p1, p2, p3, p4, p5, p6⟩ := pt_hC hp
  refine ⟨h0, h1, ?_, ?_, ?_, ?_, ?_, ?_⟩ <;> rintro rfl
  · rw [p1]; exact hp.a
  · rw [p2]; exact hp.b
  · rw [p3]; exact hp.c
  · rw [p4]; exact hp.d
  · rw [p5]; exact hp.e
  · rw [p6]; exact hp.f

theorem pt_len {k : Int} {H : List Value} (h0 : 1 ≤ k) (h1 : k ≤ 6) (h : Hh H) : (pt k H).length = pN k := by
  have := pt_hd h0 h1 h
  rcases six h0 h1 with rfl | rfl | rfl | rfl | rfl | rfl
  · exact lhd_len (this.2.2.1 rfl)
  · exact K06.hd_len (this.2.2.2.1 rfl)
  · exact K07.hd_len (this.2.2.2.2.1 rfl)
  · exact K08.hd_len (this.2.2.2.2.2.1 rfl)
  · exact K09.hd_len (this.2.2.2.2.2.2.1 rfl)
  · exact K10.hd_len (this.2.2.2.2.2.2.2 rfl)

theorem pt_hk {k : Int} {L : List Value} (h : KHd k L) : pt k (hk k L) = L := by
  obtain ⟨p1, p2, p3, p4, p5, p6⟩ := pt_hC (hk_hdp h)
  rcases six h.1 h.2.1 with rfl | rfl | rfl | rfl | rfl | rfl
  · exact p1
  · exact p2
  · exact p3
  · exact p4
  · exact p5
  · exact p6

/-- A kind's header in a head that lies in a block. -/
theorem pt_range {w : World} {g : Nat} {t : TypeId} {fz : Nat × Nat} {H : List Value} (k : Int) (h : w.heap[g]? = some (.cells H.toArray t fz)) : w.rangeAt g (pAt k) (pt k H) := by
  intro j v hv
  unfold pt at hv
  have hlt := (List.getElem?_eq_some_iff.1 hv).1
  rw [List.length_take] at hlt
  rw [List.getElem?_take_of_lt (by omega), List.getElem?_drop] at hv
  rw [cell_of_row w g (pAt k + j) _ _ _ h, List.getElem?_toArray]
  exact hv

/-- Cells of numbers, as plain data. -/
def vl : Value → Option (IntKind × Int)
  | .int k z => some (k, z)
  | _ => none
def dv : Option (IntKind × Int) → Value
  | some (k, z) => .int k z
  | none => undef
theorem dvl (x : Lit) : dv (vl (lv x)) = lv x := by cases x <;> rfl
theorem hh_dvl {H : List Value} (h : Hh H) : (H.map vl).map dv = H := by
  obtain ⟨l, -, rfl⟩ := kv_hh h
  rw [List.map_map, List.map_map]
  exact List.map_congr_left (fun x _ => dvl x)
theorem hh_same {H J : List Value} (h : Hh H) (j : Hh J) (e : H.map vl = J.map vl) : H = J := by rw [← hh_dvl h, ← hh_dvl j, e]

/-- What is wrong with a head. -/
def cE (H : List Value) : Int := if 1 ≤ num H 0 ∧ num H 0 ≤ 6 then (if (hk (num H 0) (pt (num H 0) H)).map vl = H.map vl then kC (num H 0) (pt (num H 0) H) else 120) else 120

theorem kC_bytes {k : Int} {L : List Value} {ys : List Int} (h : KHd k L) (hb : bE k L ys = 0) : kC k L = 0 := by
  rcases six h.1 h.2.1 with rfl | rfl | rfl | rfl | rfl | rfl
  · rfl
  · have hb : K06.byE L ys = 0 := hb
    show K06.ckE L = 0
    unfold K06.byE at hb; split at hb
    · assumption
    · omega
  · rfl
  · have hb : K08.byE L ys = 0 := hb
    show K08.ckE L = 0
    unfold K08.byE at hb; split at hb
    · assumption
    · omega
  · have hb : K09.byE L ys = 0 := hb
    show K09.ckE L = 0
    unfold K09.byE at hb; split at hb
    · assumption
    · omega
  · rfl

/-- What Push answers. -/
def puE (H : List Value) (ys : List Int) : Int := if cE H = 0 then bE (num H 0) (pt (num H 0) H) ys else cE H
def puB (H : List Value) (ys : List Int) : List Int := if puE H ys = 0 then bB (num H 0) (pt (num H 0) H) ys ++ ys else []
/-- What Pop answers. -/
def poE (k : Int) (zs : List Int) : Int := if 1 ≤ k ∧ k ≤ 6 then rE k zs else 120
def poH (k : Int) (zs : List Int) : List Value := if poE k zs = 0 then hk k (rL k zs) else hz
def poR (k : Int) (zs : List Int) : List Int := if poE k zs = 0 then zs.drop (sz k) else []

theorem cE_ok {H : List Value} (h : Hh H) (hc : cE H = 0) : 1 ≤ num H 0 ∧ num H 0 ≤ 6 ∧ KHd (num H 0) (pt (num H 0) H) ∧ hk (num H 0) (pt (num H 0) H) = H ∧ kC (num H 0) (pt (num H 0) H) = 0 := by
  unfold cE at hc
  split at hc
  · rename_i hk
    split at hc
    · rename_i he
      exact ⟨hk.1, hk.2, pt_hd hk.1 hk.2 h, hh_same (hk_hh (pt_hd hk.1 hk.2 h)) h he, hc⟩
    · omega
  · omega

theorem cE_hk {k : Int} {L : List Value} (h : KHd k L) : cE (hk k L) = kC k L := by
  unfold cE
  rw [hk_kind, if_pos ⟨h.1, h.2.1⟩, pt_hk h, if_pos rfl]

theorem poH_hh {k : Int} {zs : List Int} (h : Bytes zs) : Hh (poH k zs) := by
  unfold poH
  split
  · rename_i he
    unfold poE at he
    split at he
    · rename_i hk; exact hk_hh (rL_hd hk.1 hk.2 h)
    · omega
  · exact hz_hh

/-- A function that captures nothing, as a value. -/
abbrev fv (F : Nat) : Value := .func (.func F) #[] #[]
abbrev pp (g : Nat) : Value := .pointer (some ⟨g, 0, none⟩)
/-- A kind's deeds, as values: their boxes begin at g. -/
def dl (F0 F1 F2 F3 F4 g : Nat) : List Value := [fv F0, .func (.func F1) #[] #[pp (g + 4), pp (g + 3)], .func (.func F2) #[] #[pp g, pp (g + 3)], .func (.func F3) #[] #[pp (g + 1), pp (g + 3)], .func (.func F4) #[] #[pp (g + 2), pp (g + 4)]]

/-- What the boxes hold. -/
structure Bxs (w : World) (g Fc Fl Fr Fo Fh : Nat) : Prop where
  c0 : w.cell? ⟨g, 0, none⟩ = some (fv Fc)
  c1 : w.cell? ⟨g + 1, 0, none⟩ = some (fv Fl)
  c2 : w.cell? ⟨g + 2, 0, none⟩ = some (fv Fr)
  c3 : w.cell? ⟨g + 3, 0, none⟩ = some (fv Fo)
  c4 : w.cell? ⟨g + 4, 0, none⟩ = some (fv Fh)
  lt : g + 4 < w.heap.size

theorem Bxs.below {w w' : World} {g Fc Fl Fr Fo Fh n : Nat} (h : Bxs w g Fc Fl Fr Fo Fh) (b : Below n w w') (hn : w.heap.size ≤ n) : Bxs w' g Fc Fl Fr Fo Fh := by
  have hl := h.lt
  have hs := b.size
  have key : ∀ j, j ≤ 4 → w'.cell? ⟨g + j, 0, none⟩ = w.cell? ⟨g + j, 0, none⟩ := fun j hj => b.cell (p := ⟨g + j, 0, none⟩) (by show g + j < n; omega)
  exact ⟨(key 0 (by omega)).trans h.c0, (key 1 (by omega)).trans h.c1, (key 2 (by omega)).trans h.c2, (key 3 (by omega)).trans h.c3, (key 4 (by omega)).trans h.c4, by have := b.size; omega⟩

theorem cell_step {w : World} {o : Obj} {b : Nat} {v : Value} (h : w.cell? ⟨b, 0, none⟩ = some v) : (w.alloc o).cell? ⟨b, 0, none⟩ = some v := by
  rw [World.cell?_alloc_lt _ _ _ (World.block_lt_of_cell? w _ h)]; exact h
theorem cell_lay (w : World) (v : Value) (t : TypeId) {b : Nat} (hb : w.heap.size = b) : (w.alloc (.cells #[v] t)).cell? ⟨b, 0, none⟩ = some v := by
  subst hb
  rw [World.cell?_alloc_new]; rfl
/-- Five boxes, laid one behind the other, and one block more. -/
theorem boxes5 (w : World) (v0 v1 v2 v3 v4 : Value) (t0 t1 t2 t3 t4 : TypeId) (o : Obj) (u : World) (hu : u = (((((w.alloc (.cells #[v0] t0)).alloc (.cells #[v1] t1)).alloc (.cells #[v2] t2)).alloc (.cells #[v3] t3)).alloc (.cells #[v4] t4)).alloc o) :
    (u.cell? ⟨w.heap.size, 0, none⟩ = some v0 ∧ u.cell? ⟨w.heap.size + 1, 0, none⟩ = some v1 ∧ u.cell? ⟨w.heap.size + 2, 0, none⟩ = some v2 ∧ u.cell? ⟨w.heap.size + 3, 0, none⟩ = some v3 ∧ u.cell? ⟨w.heap.size + 4, 0, none⟩ = some v4 ∧ w.heap.size + 4 < u.heap.size) ∧ Below w.heap.size w u := by
  subst hu
  refine ⟨⟨cell_step (cell_step (cell_step (cell_step (cell_step (cell_lay _ _ _ rfl))))), cell_step (cell_step (cell_step (cell_step (cell_lay _ _ _ (by simp))))), cell_step (cell_step (cell_step (cell_lay _ _ _ (by simp)))), cell_step (cell_step (cell_lay _ _ _ (by simp))), cell_step (cell_lay _ _ _ (by simp)), by simp⟩, ?_⟩
  refine ((((((Below.refl _ _).alloc ?_ _).alloc ?_ _).alloc ?_ _).alloc ?_ _).alloc ?_ _).alloc ?_ _ <;> first | omega | (simp only [World.size_alloc]; omega)

/-- A struct is stored into the block that was laid just now, whose number is told. -/
theorem wpList_store_newAt {ops : Array Oper} {rest : List Oper} {op : Oper} {a : Act} {w : World} {Q : Exit → Act → World → Prop} (hgd : op.guard = none) (ty : TypeId) (x y : Operand) (ho : op.op = .store ty x y) (t : TypeId)
    (Z L : List Value) (g : Nat) (hg : w.heap.size = g) (hx : a.eval x = .pointer (some ⟨g, 0, none⟩)) (hy : a.eval y = .agg L.toArray) (hl : L.length = Z.length) (hi : (Tryz.prog.info? ty).map (·.size) = some L.length) (h1 : L.toArray.all (·.oneCell') = true)
    (h : wpList Tryz.prog ops Q rest (a.put op.dst undef) (w.alloc (.cells L.toArray t))) : wpList Tryz.prog ops Q (op :: rest) a (w.alloc (.cells Z.toArray t)) := by
  subst hg
  exact wpList_store_new hgd ty x y ho t Z L hx hy hl hi h1 h
theorem newAt {w : World} {g : Nat} {L : List Value} {t : TypeId} (h : w.heap.size = g) : (w.alloc (.cells L.toArray t)).heap[g]? = some (.cells L.toArray t (0, 0)) := by
  subst h; exact heap_alloc_new w _
end Go.Proofs.YtednmdkjhiihcaaGreat
