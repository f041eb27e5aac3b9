/- The contract of the statements' own 'written'. -/
import Derived.Test.YtbinedhgjmfceaaHl
namespace Go.Proofs.Ytbinedhgjmfceaa
open Go.ChangeShapes Go.WideShapes Go.ChangeAt Go.RowKit

/-- A Do, as cells. -/
def doC (kd wh x sz n v : Int) (ba : Option Addr) (bl bc : Nat) : Array Value := #[.int .i64 kd, .int .i64 wh, .int .i64 x, .int .i64 sz, .int .i64 n, .int .u64 v, .slice ba bl bc]

/-- What 'written' leaves. -/
def Wrt (W w' : World) (sl : List Nat) (ga ca gb cb N M : Nat) : Prop := ∃ F' pl' σ' bk', Heap W w' (apL W F' sl pl' σ' ga ca gb cb N bk') ∧ AInv σ' bk' (M + 1)

theorem Wrt.dr {W w w' : World} {sl : List Nat} {ga ca gb cb N M : Nat} (h : Wrt W w sl ga ca gb cb N M) (d : Dr w w') : Wrt W w' sl ga ca gb cb N M := by
  obtain ⟨F, pl, σ, bk, h1, h2⟩ := h
  exact ⟨F, pl, σ, bk, h1.dr' d, h2⟩

section
variable {W w w1 : World} {F : Nat → Prop} {sl pl : List Nat} {σ : St} {ga ca gb cb N M k : Nat} {bk : List Bk} {kd wh x sz n v : Int} {ba : Option Addr} {bl bc : Nat} {bv : Value} {X : List Int}

theorem wr_start (h : Heap W w (apL W F sl pl σ ga ca gb cb N bk)) (hw : w.alloc (.cells (doC kd wh x sz n v ba bl bc) 33) = w1) :
    Hid (Heap W w1 (cellsT w.heap.size (doC kd wh x sz n v ba bl bc) 33 :: apL W F sl pl σ ga ca gb cb N bk)) := by
  subst hw
  refine h.add ((Below.refl _ _).alloc (Nat.le_refl _) _) _ (Go.heap_alloc_new w _) (fun k hk => ?_)
  have hk : k = w.heap.size := hk
  omega

theorem do_at {L : List Thing} {db : Nat} (h : Heap W w (cellsT db (doC kd wh x sz n v ba bl bc) 33 :: L)) :
    w.cell? ⟨db, 0, none⟩ = some (.int .i64 kd) ∧ w.cell? ⟨db, 1, none⟩ = some (.int .i64 wh) ∧ w.cell? ⟨db, 2, none⟩ = some (.int .i64 x) ∧ w.cell? ⟨db, 3, none⟩ = some (.int .i64 sz) ∧ w.cell? ⟨db, 4, none⟩ = some (.int .i64 n) ∧ w.cell? ⟨db, 5, none⟩ = some (.int .u64 v) ∧ w.cell? ⟨db, 6, none⟩ = some (.slice ba bl bc) := by
  have hb : w.heap[db]? = some (.cells (doC kd wh x sz n v ba bl bc) 33 (0, 0)) := h.get (i := 0) rfl
  exact ⟨cell_of_row w db 0 _ _ _ hb, cell_of_row w db 1 _ _ _ hb, cell_of_row w db 2 _ _ _ hb, cell_of_row w db 3 _ _ _ hb, cell_of_row w db 4 _ _ _ hb, cell_of_row w db 5 _ _ _ hb, cell_of_row w db 6 _ _ _ hb⟩

/-- The book's k-th row. -/
theorem book_at {T : Thing} (h : Heap W w (T :: apL W F sl pl σ ga ca gb cb N bk)) (hk : bk[k]? = some (bv, X)) : w.cell? ⟨gb, k, none⟩ = some bv ∧ w.frozen? ⟨gb, k, none⟩ = false :=
  h.cellAt 3 rfl k bv (by simp [hk])
theorem row_at {T : Thing} (h : Heap W w (T :: apL W F sl pl σ ga ca gb cb N bk)) (hk : bk[k]? = some (bv, X)) : w.ownsRow W.heap.size 5 1 bv X.length (X.map (Value.int .u8)) :=
  h.get (i := k + 4) (T := rwT W (bv, X)) (by show (bk.map (rwT W))[k]? = _; rw [List.getElem?_map, hk]; rfl)

theorem own_byte {base g c m : Nat} (h : w.ownsRow base 5 1 (.slice (some ⟨g, 0, none⟩) m c) X.length (X.map (Value.int .u8))) (hm : X.length = m) (y : Nat) (hy : y < m) : w.cell? ⟨g, y, none⟩ = some (.int .u8 (X.getD y 0)) ∧ w.frozen? ⟨g, y, none⟩ = false := by
  subst hm
  refine ⟨?_, h.frozenAt y⟩
  rw [h.cellAt y (by omega)]
  simp [hy]

theorem bs_rw {base : Nat} {t : TypeId} {a : Option Addr} {n c : Nat} (h : w.ownsRow base t 1 (.slice a n c) X.length (X.map (Value.int .u8))) (hb : Bytes X) (hl : X.length ≤ 140737488355328) : Bs w a X := by
  obtain ⟨a', c', e, h1, -⟩ := bs_own h hb hl
  simp only [Value.slice.injEq] at e
  rw [e.1]; exact h1

/-- A byte of the k-th row is written. -/
theorem row_put {T : Thing} {g c m : Nat} (h : Heap W w (T :: apL W F sl pl σ ga ca gb cb N bk)) (hk : bk[k]? = some (.slice (some ⟨g, 0, none⟩) m c, X)) (hm : X.length = m) (y : Nat) (z : Int) :
    Heap W (w.setCell ⟨g, y, none⟩ (.int .u8 z)) (T :: apL W F sl pl σ ga ca gb cb N (bk.set k (.slice (some ⟨g, 0, none⟩) m c, X.set y z))) := by
  subst hm
  have h1 := h.stored (k + 4) (n := X.length) (c := c) (g := g) (xs := X.map (Value.int .u8)) (e := 5) (base := W.heap.size) (by show (bk.map (rwT W))[k]? = _; rw [List.getElem?_map, hk]; rfl) y (.int .u8 z)
  have e : (T :: apL W F sl pl σ ga ca gb cb N bk).set (k + 4) (rowT W.heap.size 5 1 (.slice (some ⟨g, 0, none⟩) X.length c) X.length ((X.map (Value.int .u8)).set y (.int .u8 z))) = T :: apL W F sl pl σ ga ca gb cb N (bk.set k (.slice (some ⟨g, 0, none⟩) X.length c, X.set y z)) := by
    show T :: _ :: _ :: _ :: (bk.map (rwT W)).set k _ = T :: _ :: _ :: rowT _ _ _ _ _ ((bk.set k _).map _) :: (bk.set k _).map (rwT W)
    rw [List.map_set, List.map_set]
    have e2 : (bk.map (·.1)).set k (Value.slice (some ⟨g, 0, none⟩) X.length c) = bk.map (·.1) := by
      apply List.ext_getElem?
      intro i
      by_cases hi : k = i
      · subst hi
        have hlt := (List.getElem?_eq_some_iff.1 hk).1
        rw [List.getElem?_set_self (by simpa using hlt), List.getElem?_map, hk]; rfl
      · rw [List.getElem?_set_ne hi]
    rw [e2]
    have e3 : rwT W (.slice (some ⟨g, 0, none⟩) X.length c, X.set y z) = rowT W.heap.size 5 1 (.slice (some ⟨g, 0, none⟩) X.length c) X.length ((X.map (Value.int .u8)).set y (.int .u8 z)) := by
      unfold rwT
      rw [← List.map_set]
      simp only [List.length_set]
    rw [e3]
  rw [e] at h1; exact h1

/-- The k-th row becomes another one. -/
theorem row_new {T R : Thing} {v2 : Value} {X2 : List Int} (h : Heap W w (R :: T :: apL W F sl pl σ ga ca gb cb N bk)) (hR : R = rwT W (v2, X2)) (hk : k < bk.length) :
    Heap W (w.setCell ⟨gb, k, none⟩ v2) (T :: apL W F sl pl σ ga ca gb cb N (bk.set k (v2, X2))) := by
  subst hR
  have h1 := h.swap (k + 4) (by show k + 4 < (T :: _ :: _ :: _ :: bk.map (rwT W)).length; simp only [List.length_cons, List.length_map]; omega)
  have h1' : Heap W w (T :: shT pgS F sl pl σ :: rowT W.heap.size 36 1 (.slice (some ⟨ga, 0, none⟩) N ca) N (sl.map ptr) :: rowT W.heap.size 22 1 (.slice (some ⟨gb, 0, none⟩) N cb) N (bk.map (·.1)) :: (bk.map (rwT W)).set k (rwT W (v2, X2))) := h1
  have h2 := h1'.stored 3 rfl k v2
  have h2' : Heap W (w.setCell ⟨gb, k, none⟩ v2) (T :: shT pgS F sl pl σ :: rowT W.heap.size 36 1 (.slice (some ⟨ga, 0, none⟩) N ca) N (sl.map ptr) :: rowT W.heap.size 22 1 (.slice (some ⟨gb, 0, none⟩) N cb) N ((bk.map (·.1)).set k v2) :: (bk.map (rwT W)).set k (rwT W (v2, X2))) := h2
  unfold apL
  rw [List.map_set, List.map_set]; exact h2'

/-- The k-th row is cut. -/
theorem row_cut {T : Thing} {g c m : Nat} (h : Heap W w (T :: apL W F sl pl σ ga ca gb cb N bk)) (hk : bk[k]? = some (.slice (some ⟨g, 0, none⟩) m c, X)) (hm : X.length = m) (y : Nat) (hy : y ≤ m) :
    Heap W (w.setCell ⟨gb, k, none⟩ (.slice (some ⟨g, 0, none⟩) y c)) (T :: apL W F sl pl σ ga ca gb cb N (bk.set k (.slice (some ⟨g, 0, none⟩) y c, X.take y))) := by
  subst hm
  have hrow := row_at h hk
  have hl : (X.take y).length = y := by rw [List.length_take]; omega
  have hT : (rwT W (.slice (some ⟨g, 0, none⟩) y c, X.take y)).holds w := by
    show w.ownsRow W.heap.size 5 1 _ (X.take y).length ((X.take y).map (Value.int .u8))
    rw [hl, List.map_take]; exact own_cut hrow y hy
  have h1 := h.stepAt (k + 4) (rwT W (.slice (some ⟨g, 0, none⟩) X.length c, X)) (by show (bk.map (rwT W))[k]? = _; rw [List.getElem?_map, hk]; rfl) (Kept.refl _ _) (rwT W (.slice (some ⟨g, 0, none⟩) y c, X.take y)) hT (fun i hi => .inl hi)
  have h1' : Heap W w (T :: shT pgS F sl pl σ :: rowT W.heap.size 36 1 (.slice (some ⟨ga, 0, none⟩) N ca) N (sl.map ptr) :: rowT W.heap.size 22 1 (.slice (some ⟨gb, 0, none⟩) N cb) N (bk.map (·.1)) :: (bk.map (rwT W)).set k (rwT W (.slice (some ⟨g, 0, none⟩) y c, X.take y))) := h1
  have h2 := h1'.stored 3 rfl k (.slice (some ⟨g, 0, none⟩) y c)
  have h2' : Heap W (w.setCell ⟨gb, k, none⟩ (.slice (some ⟨g, 0, none⟩) y c)) (T :: shT pgS F sl pl σ :: rowT W.heap.size 36 1 (.slice (some ⟨ga, 0, none⟩) N ca) N (sl.map ptr) :: rowT W.heap.size 22 1 (.slice (some ⟨gb, 0, none⟩) N cb) N ((bk.map (·.1)).set k (.slice (some ⟨g, 0, none⟩) y c)) :: (bk.map (rwT W)).set k (rwT W (.slice (some ⟨g, 0, none⟩) y c, X.take y))) := h2
  unfold apL
  rw [List.map_set, List.map_set]; exact h2'
end

theorem Heap.next1 {W w w' : World} {d : Sd} {F : Nat → Prop} {sl pl sl' pl' : List Nat} {σ σ' : St} {T : Thing} {L : List Thing} (h : Heap W w (T :: shT d F sl pl σ :: L)) (n : Next d w F w' sl' pl' σ') : ∃ F', Heap W w' (T :: shT d F' sl' pl' σ' :: L) := h.next 1 rfl n

theorem stE_one {B : List Int} {x : Nat} (v : Int) (hx : x < B.length) : stE B x 1 v = B.set x (v % 256) := by
  unfold stE
  rw [if_pos (ask_zero.2 ⟨by omega, by omega, by omega, by omega⟩)]
  simp [stV]

set_option maxHeartbeats 2000000 in
set_option maxRecDepth 100000 in
theorem written0 (W w : World) (F : Nat → Prop) (sl pl : List Nat) (σ : St) (ga ca gb cb N M k s : Nat) (bk : List Bk) (kd wh x sz n v : Int) (ba : Option Addr) (bl bc : Nat) (h : Heap W w (apL W F sl pl σ ga ca gb cb N bk)) (hA : AInv σ bk M) (hM : M ≤ 100) (hN' : N ≤ 100) (hbl : bk.length = N) (hsk : sl[k]? = some s) (hk : k < N)
    (hx : -9223372036854775808 ≤ x ∧ x ≤ 9223372036854775807) (v0 : 0 ≤ v) (v1 : v ≤ 18446744073709551615)
    (hbr : ∀ u : World, Calls Try.prog 14 #[.int .i64 n, .int .i64 4] u fun e w' => e = .returned (.int .i64 0) ∧ u = w') :
    Calls Try.prog 16 #[.pointer (some ⟨s, 0, none⟩), .slice (some ⟨gb, 0, none⟩) N cb, .int .i64 k, .agg (doC kd wh x sz n v ba bl bc)] w fun e w' => e = .returned (.bool true) ∧ Wrt W w' sl ga ca gb cb N M := by
  obtain ⟨⟨bv, X⟩, hb⟩ : ∃ e, bk[k]? = some e := ⟨_, List.getElem?_eq_getElem (by omega)⟩
  obtain ⟨j, G, hi, hG, rfl, hGm, hXl⟩ := hA.at_ k bv X hb
  have H1 := wr_start (kd := kd) (wh := wh) (x := x) (sz := sz) (n := n) (v := v) (ba := ba) (bl := bl) (bc := bc) h rfl
  obtain ⟨ax, cx, rfl⟩ := own_slice (row_at H1.out hb)
  have cb0 := (book_at H1.out hb).1
  obtain ⟨nb, hnb⟩ : ∃ n, n = G.B.length := ⟨_, rfl⟩
  rw [← hnb] at cb0 hXl hb
  have HNB := Hid.mk' hnb.symm
  have HB := Hid.mk' hb
  have HA := Hid.mk' hA
  have HI := Hid.mk' hi
  have HG := Hid.mk' hG
  have HSK := Hid.mk' hsk
  have hkc : (k : Int) < (N : Int) := by omega
  have hl : Hid (σ.hs.length ≤ 1000) := Hid.mk' (by rw [← hA.len]; omega)
  have cat := fun u => brg_any x (nb + 1) u (by omega) (by omega) hx.1 hx.2
  rw [show ((nb + 1 : Nat) : Int) = (nb : Int) + 1 by omega] at cat
  have hat := brg_lt x (nb + 1) (by omega)
  generalize brg x (nb + 1) = at_ at *
  clear h hb hi hG hsk hnb hA
  unfold doC at H1 cb0 ⊢
  go_enter Try.func16, Try.ntmps16
  go_wp2_with fail
  refine (cat _).mono ?_
  rintro e w2 ⟨rfl, hw2⟩
  rw [hw2] at H1
  have HD := do_at H1.out
  obtain ⟨-, -, -, -, d4, d5, -⟩ := HD
  clear cb0 hw2 cat
  generalize w.heap.size = db at *
  go_wp2_with fail
  refine (hbr w2).mono ?_
  rintro e w3 ⟨rfl, rfl⟩
  have key := sh_store at_ 1 v (H1.out.shs 1 rfl) HSK.out HI.out HG.out hl.out (by omega) (by omega) v0 v1
  by_cases hlt : at_ < nb
  · have hask : askE G.B.length at_ 1 = 0 := ask_zero.2 ⟨by omega, by omega, by omega, by rw [HNB.out]; omega⟩
    rw [hask] at key
    have hst : Hid (σ.store k j G at_ 1 v = (σ.part k j G).putG (σ.pJ j) ⟨G.B.set at_ (v % 256), (σ.pG j G).a, (σ.pG j G).d, (σ.pG j G).m⟩) := Hid.mk' (by unfold St.store; rw [if_pos hask, stE_one v (by rw [HNB.out]; exact hlt)])
    clear hask
    have hlt' : (at_ : Int) < (nb : Int) := by omega
    obtain ⟨gx, cx', hax, hcx⟩ := own_some (row_at H1.out HB.out) (by rw [HNB.out]; omega)
    simp only [Value.slice.injEq] at hax
    obtain ⟨rfl, -, rfl⟩ := hax
    rw [HNB.out] at hcx
    go_wp2_with fail
    refine key.mono ?_
    rintro e w4 ⟨rfl, pl', hnx⟩
    rw [hst.out] at hnx
    obtain ⟨F', h4⟩ := H1.out.next1 hnx
    have h4' : Heap W w4 (cellsT db #[.int .i64 kd, .int .i64 wh, .int .i64 x, .int .i64 sz, .int .i64 n, .int .u64 v, .slice ba bl bc] 33 :: apL W F' sl pl' ((σ.part k j G).putG (σ.pJ j) ⟨G.B.set at_ (v % 256), (σ.pG j G).a, (σ.pG j G).d, (σ.pG j G).m⟩) ga ca gb cb N bk) := h4
    obtain ⟨-, -, -, -, -, e5, -⟩ := do_at h4'
    obtain ⟨e1, -⟩ := book_at h4' HB.out
    have hr := row_at h4' HB.out
    obtain ⟨e2, e3⟩ := own_byte hr HNB.out at_ hlt
    have HF : Hid (Wrt W (w4.setCell ⟨gx, at_, none⟩ (.int .u8 (v % 256))) sl ga ca gb cb N M) := by
      have h5 := row_put h4' HB.out HNB.out at_ (v % 256)
      refine ⟨F', pl', _, _, h5.tail, HA.out.put HI.out HG.out _ (by omega) ?_ (by show (G.B.set at_ (v % 256)).length ≤ _; rw [List.length_set, HNB.out]; omega)⟩
      show (σ.pG j G).m ≤ M + 1
      unfold St.pG; split
      · omega
      · show 0 ≤ M + 1; omega
    generalize G.B.getD at_ 0 = z at e2
    clear key hnx h4 h4' hr hst d4 d5 H1 HA HI HG HSK hl HB
    go_wp2_with fail
    go_region_with (fail)
    all_goals
      go_wp2_with fail
      go_ret
      exact ⟨rfl, HF.out.dr ⟨1, rfl⟩⟩
  · have hask : askE G.B.length at_ 1 = 20 := by
      unfold askE
      rw [if_neg (by omega), if_pos (.inr (by rw [HNB.out]; omega))]
    have hst : Hid (σ.store k j G at_ 1 v = σ) := Hid.mk' (by unfold St.store; rw [if_neg (by rw [hask]; decide)])
    rw [hask] at key
    clear hask
    have hlt' : ¬ (at_ : Int) < (nb : Int) := by omega
    go_wp2_with fail
    refine key.mono ?_
    rintro e w4 ⟨rfl, pl', hnx⟩
    rw [hst.out] at hnx
    obtain ⟨F', h4⟩ := H1.out.next1 hnx
    have HF : Hid (Wrt W w4 sl ga ca gb cb N M) := ⟨F', pl', σ, bk, h4.tail, HA.out.more (by omega)⟩
    clear key hnx h4 hst H1 HA HI HG HSK hl HB
    go_wp2_with fail
    go_ret
    exact ⟨rfl, HF.out⟩
end Go.Proofs.Ytbinedhgjmfceaa
