/- Stage 12: the deeds of all kinds in one form; kinds, find. (Made by a generator: six kinds.) -/
import Derived.Test.YtednmdkjhiihcaaGreatRb1
import Derived.Test.YtednmdkjhiihcaaGreatRb2
import Derived.Test.YtednmdkjhiihcaaGreatRb3
import Derived.Test.YtednmdkjhiihcaaGreatRb4
import Derived.Test.YtednmdkjhiihcaaGreatRb5
import Derived.Test.YtednmdkjhiihcaaGreatRb6
namespace Go.Proofs.YtednmdkjhiihcaaGreat
open Go.ChangeShapes Go.WideShapes Go.ChangeAt Go.RowKit
set_option maxRecDepth 10000

/-- A result's block, while a call goes on. -/
structure OJ (t : TypeId) (n : Nat) (w u : World) : Prop where
  box : ∃ M : List Value, M.length = n ∧ u.heap[w.heap.size]? = some (.cells M.toArray t (0, 0))
  old : Below w.heap.size w u
theorem OJ.first {t : TypeId} {n : Nat} (w : World) (Z : List Value) (h : Z.length = n) : OJ t n w (w.alloc (.cells Z.toArray t)) := ⟨⟨Z, h, heap_alloc_new w _⟩, (Below.refl _ _).alloc (Nat.le_refl _) _⟩
theorem OJ.below {t : TypeId} {n : Nat} {w u v : World} (h : OJ t n w u) (b : Below u.heap.size u v) : OJ t n w v := by
  obtain ⟨⟨M, hl, hb⟩, ho⟩ := h
  exact ⟨⟨M, hl, (b.block _ (Array.getElem?_eq_some_iff.1 hb).1).trans hb⟩, ho.trans (b.mono ho.size)⟩
theorem OJ.lt {t : TypeId} {n : Nat} {w u : World} (h : OJ t n w u) : w.heap.size < u.heap.size := by
  obtain ⟨⟨M, hl, hb⟩, ho⟩ := h
  exact (Array.getElem?_eq_some_iff.1 hb).1
theorem OJ.there {t : TypeId} {n : Nat} {w u : World} (h : OJ t n w u) : u.there w.heap.size 0 n := by
  obtain ⟨⟨M, hl, hb⟩, ho⟩ := h
  have := there_block hb
  rw [hl] at this; exact this
theorem OJ.done {t : TypeId} {n : Nat} {w u : World} (h : OJ t n w u) (M : List Value) (hl : M.length = n) : (u.setCells w.heap.size 0 M).heap[w.heap.size]? = some (.cells M.toArray t (0, 0)) ∧ Below w.heap.size w (u.setCells w.heap.size 0 M) ∧ Kept (fun k => k = w.heap.size) u (u.setCells w.heap.size 0 M) := by
  obtain ⟨⟨N, hn, hb⟩, ho⟩ := h
  have hk := (Kept.refl (fun k => k = w.heap.size) u).setCells w.heap.size 0 M (fun _ => rfl)
  exact ⟨heap_whole (L := N) hb (by rw [hl]; exact hn), ho.trans (hk.below ho.size (fun k hk => by omega)), hk⟩

/-- Each kind's functions, and what they capture. -/
def uS (k : Int) : Nat := if k = 1 then 64 else if k = 2 then 67 else if k = 3 then 70 else if k = 4 then 73 else if k = 5 then 76 else 79
def uO (k : Int) : Nat := if k = 1 then 135 else if k = 2 then 139 else if k = 3 then 144 else if k = 4 then 149 else if k = 5 then 155 else 161
def uC (k : Int) : Nat := if k = 1 then 136 else if k = 2 then 140 else if k = 3 then 145 else if k = 4 then 150 else if k = 5 then 156 else 162
def uB (k : Int) : Nat := if k = 1 then 137 else if k = 2 then 141 else if k = 3 then 146 else if k = 4 then 151 else if k = 5 then 157 else 163
def uR (k : Int) : Nat := if k = 1 then 138 else if k = 2 then 142 else if k = 3 then 147 else if k = 4 then 152 else if k = 5 then 158 else 164
def gC (k : Int) : Nat := if k = 1 then 81 else if k = 2 then 86 else if k = 3 then 91 else if k = 4 then 96 else if k = 5 then 101 else 106
def gB (k : Int) : Nat := if k = 1 then 82 else if k = 2 then 87 else if k = 3 then 92 else if k = 4 then 97 else if k = 5 then 102 else 107
def gR (k : Int) : Nat := if k = 1 then 63 else if k = 2 then 66 else if k = 3 then 69 else if k = 4 then 72 else if k = 5 then 75 else 78
def gO (k : Int) : Nat := if k = 1 then 83 else if k = 2 then 88 else if k = 3 then 93 else if k = 4 then 98 else if k = 5 then 103 else 108
def gH (k : Int) : Nat := if k = 1 then 84 else if k = 2 then 89 else if k = 3 then 94 else if k = 4 then 99 else if k = 5 then 104 else 109
def dk (k : Int) (g : Nat) : List Value := dl (uS k) (uO k) (uC k) (uB k) (uR k) g
def Bk (k : Int) (w : World) (g : Nat) : Prop := Bxs w g (gC k) (gB k) (gR k) (gO k) (gH k)
def dz : List Value := [.nilFunc, .nilFunc, .nilFunc, .nilFunc, .nilFunc]
def kd0 : List Value := List.replicate 35 .nilFunc
def kdC (g1 g2 g3 g4 g5 g6 : Nat) : List Value := dz ++ (dk 1 g1 ++ (dk 2 g2 ++ (dk 3 g3 ++ (dk 4 g4 ++ (dk 5 g5 ++ dk 6 g6)))))
theorem Bk.below {k : Int} {w w' : World} {g : Nat} (h : Bk k w g) (b : Below w.heap.size w w') : Bk k w' g := Bxs.below h b (Nat.le_refl _)
theorem Bk.kept {k : Int} {w w' : World} {g b : Nat} (h : Bk k w g) (c : Kept (fun i => i = b) w w') (hb : b < g) : Bk k w' g := by
  obtain ⟨h0, h1, h2, h3, h4, hl⟩ := h
  have hs := c.size
  exact ⟨c.cell h0 (fun e : g = b => by omega), c.cell h1 (fun e : g + 1 = b => by omega), c.cell h2 (fun e : g + 2 = b => by omega), c.cell h3 (fun e : g + 3 = b => by omega), c.cell h4 (fun e : g + 4 = b => by omega), by omega⟩
theorem info_dk : (Tryz.prog.info? 96).map (·.size) = some 5 := by kernel_rfl
theorem info_kd : (Tryz.prog.info? 111).map (·.size) = some 35 := by kernel_rfl
theorem dk_one (k : Int) (g : Nat) : (dk k g).toArray.all (·.oneCell') = true := by kernel_rfl
theorem kd_one (g1 g2 g3 g4 g5 g6 : Nat) : (kdC g1 g2 g3 g4 g5 g6).toArray.all (·.oneCell') = true := by kernel_rfl

theorem kd_built (g1 g2 g3 g4 g5 g6 : Nat) : Tryz.prog.built 111 [(1, .agg (dl 64 135 136 137 138 g1).toArray), (2, .agg (dl 67 139 140 141 142 g2).toArray), (3, .agg (dl 70 144 145 146 147 g3).toArray), (4, .agg (dl 73 149 150 151 152 g4).toArray), (5, .agg (dl 76 155 156 157 158 g5).toArray), (6, .agg (dl 79 161 162 163 164 g6).toArray)] = some (kdC g1 g2 g3 g4 g5 g6).toArray := by kernel_rfl
theorem dsize_any (k : Int) (h0 : 1 ≤ k) (h1 : k ≤ 6) (w : World) :
    Calls Tryz.prog (uS k) #[] w fun e w' => e = .returned (.int .i64 (sz k : Nat)) ∧ w = w' := by
  rcases six h0 h1 with rfl | rfl | rfl | rfl | rfl | rfl
  · exact ksize_1 w
  · exact ksize_2 w
  · exact ksize_3 w
  · exact ksize_4 w
  · exact ksize_5 w
  · exact ksize_6 w

theorem donly_any (k : Int) (h0 : 1 ≤ k) (h1 : k ≤ 6) (H : List Value) (g : Nat) (w : World) (h : Hh H) (b : Bk k w g) :
    Calls Tryz.prog (uO k) #[.agg H.toArray, pp (g + 4), pp (g + 3)] w fun e w' => e = .returned (.agg (hk k (pt k H)).toArray) ∧ Below w.heap.size w w' := by
  rcases six h0 h1 with rfl | rfl | rfl | rfl | rfl | rfl
  · exact only_1 H (g + 4) (g + 3) w h b.c4 b.c3 (by have := b.lt; omega) (by have := b.lt; omega)
  · exact only_2 H (g + 4) (g + 3) w h b.c4 b.c3 (by have := b.lt; omega) (by have := b.lt; omega)
  · exact only_3 H (g + 4) (g + 3) w h b.c4 b.c3 (by have := b.lt; omega) (by have := b.lt; omega)
  · exact only_4 H (g + 4) (g + 3) w h b.c4 b.c3 (by have := b.lt; omega) (by have := b.lt; omega)
  · exact only_5 H (g + 4) (g + 3) w h b.c4 b.c3 (by have := b.lt; omega) (by have := b.lt; omega)
  · exact only_6 H (g + 4) (g + 3) w h b.c4 b.c3 (by have := b.lt; omega) (by have := b.lt; omega)

theorem dcheck_any (k : Int) (h0 : 1 ≤ k) (h1 : k ≤ 6) (H : List Value) (g : Nat) (w : World) (h : Hh H) (b : Bk k w g) :
    Calls Tryz.prog (uC k) #[.agg H.toArray, pp g, pp (g + 3)] w fun e w' => e = .returned (.int .i64 (kC k (pt k H))) ∧ Below w.heap.size w w' := by
  rcases six h0 h1 with rfl | rfl | rfl | rfl | rfl | rfl
  · exact dcheck_1 H g (g + 3) w h b.c0 b.c3 (by have := b.lt; omega) (by have := b.lt; omega)
  · exact dcheck_2 H g (g + 3) w h b.c0 b.c3 (by have := b.lt; omega) (by have := b.lt; omega)
  · exact dcheck_3 H g (g + 3) w h b.c0 b.c3 (by have := b.lt; omega) (by have := b.lt; omega)
  · exact dcheck_4 H g (g + 3) w h b.c0 b.c3 (by have := b.lt; omega) (by have := b.lt; omega)
  · exact dcheck_5 H g (g + 3) w h b.c0 b.c3 (by have := b.lt; omega) (by have := b.lt; omega)
  · exact dcheck_6 H g (g + 3) w h b.c0 b.c3 (by have := b.lt; omega) (by have := b.lt; omega)

theorem dbytes_any (k : Int) (h0 : 1 ≤ k) (h1 : k ≤ 6) (H : List Value) (a : Option Addr) (n c : Nat) (ys : List Int) (g : Nat) (w : World) (h : Hh H) (hy : ys.length = n) (hB : Bs w a ys) (b : Bk k w g) :
    Calls Tryz.prog (uB k) #[.agg H.toArray, .slice a n c, pp (g + 1), pp (g + 3)] w fun e w' => ∃ v, e = .returned (.tuple #[v, .int .i64 (bE k (pt k H) ys)]) ∧ w'.ownsRow w.heap.size 5 1 v (bB k (pt k H) ys).length ((bB k (pt k H) ys).map (Value.int .u8)) ∧ Below w.heap.size w w' := by
  rcases six h0 h1 with rfl | rfl | rfl | rfl | rfl | rfl
  · exact dbytes_1 H a n c ys (g + 1) (g + 3) w h hy hB b.c1 b.c3 (by have := b.lt; omega) (by have := b.lt; omega)
  · exact dbytes_2 H a n c ys (g + 1) (g + 3) w h hy hB b.c1 b.c3 (by have := b.lt; omega) (by have := b.lt; omega)
  · exact dbytes_3 H a n c ys (g + 1) (g + 3) w h hy hB b.c1 b.c3 (by have := b.lt; omega) (by have := b.lt; omega)
  · exact dbytes_4 H a n c ys (g + 1) (g + 3) w h hy hB b.c1 b.c3 (by have := b.lt; omega) (by have := b.lt; omega)
  · exact dbytes_5 H a n c ys (g + 1) (g + 3) w h hy hB b.c1 b.c3 (by have := b.lt; omega) (by have := b.lt; omega)
  · exact dbytes_6 H a n c ys (g + 1) (g + 3) w h hy hB b.c1 b.c3 (by have := b.lt; omega) (by have := b.lt; omega)

theorem dread_any (k : Int) (h0 : 1 ≤ k) (h1 : k ≤ 6) (a : Option Addr) (n c : Nat) (zs : List Int) (g : Nat) (w : World) (hz' : zs.length = n) (hB : Bs w a zs) (hc : n ≤ c) (b : Bk k w g) :
    Calls Tryz.prog (uR k) #[.slice a n c, pp (g + 2), pp (g + 4)] w fun e w' => e = .returned (.tuple #[.agg (hk k (rL k zs)).toArray, .int .i64 (rE k zs)]) ∧ Below w.heap.size w w' := by
  rcases six h0 h1 with rfl | rfl | rfl | rfl | rfl | rfl
  · exact dread_1 a n c zs (g + 2) (g + 4) w hz' hB hc b.c2 b.c4 (by have := b.lt; omega) (by have := b.lt; omega)
  · exact dread_2 a n c zs (g + 2) (g + 4) w hz' hB hc b.c2 b.c4 (by have := b.lt; omega) (by have := b.lt; omega)
  · exact dread_3 a n c zs (g + 2) (g + 4) w hz' hB hc b.c2 b.c4 (by have := b.lt; omega) (by have := b.lt; omega)
  · exact dread_4 a n c zs (g + 2) (g + 4) w hz' hB hc b.c2 b.c4 (by have := b.lt; omega) (by have := b.lt; omega)
  · exact dread_5 a n c zs (g + 2) (g + 4) w hz' hB hc b.c2 b.c4 (by have := b.lt; omega) (by have := b.lt; omega)
  · exact dread_6 a n c zs (g + 2) (g + 4) w hz' hB hc b.c2 b.c4 (by have := b.lt; omega) (by have := b.lt; omega)

theorem call_uS (k : Int) (h0 : 1 ≤ k) (h1 : k ≤ 6) (args : Array Value) (u : World) : Sem.run Tryz.prog (callFunc (uS k) args) u = .ok (.enter (uS k) args) u := by
  rcases six h0 h1 with rfl | rfl | rfl | rfl | rfl | rfl
  · exact Tryz.call64 args u
  · exact Tryz.call67 args u
  · exact Tryz.call70 args u
  · exact Tryz.call73 args u
  · exact Tryz.call76 args u
  · exact Tryz.call79 args u
theorem call_uO (k : Int) (h0 : 1 ≤ k) (h1 : k ≤ 6) (args : Array Value) (u : World) : Sem.run Tryz.prog (callFunc (uO k) args) u = .ok (.enter (uO k) args) u := by
  rcases six h0 h1 with rfl | rfl | rfl | rfl | rfl | rfl
  · exact Tryz.call135 args u
  · exact Tryz.call139 args u
  · exact Tryz.call144 args u
  · exact Tryz.call149 args u
  · exact Tryz.call155 args u
  · exact Tryz.call161 args u
theorem call_uC (k : Int) (h0 : 1 ≤ k) (h1 : k ≤ 6) (args : Array Value) (u : World) : Sem.run Tryz.prog (callFunc (uC k) args) u = .ok (.enter (uC k) args) u := by
  rcases six h0 h1 with rfl | rfl | rfl | rfl | rfl | rfl
  · exact Tryz.call136 args u
  · exact Tryz.call140 args u
  · exact Tryz.call145 args u
  · exact Tryz.call150 args u
  · exact Tryz.call156 args u
  · exact Tryz.call162 args u
theorem call_uB (k : Int) (h0 : 1 ≤ k) (h1 : k ≤ 6) (args : Array Value) (u : World) : Sem.run Tryz.prog (callFunc (uB k) args) u = .ok (.enter (uB k) args) u := by
  rcases six h0 h1 with rfl | rfl | rfl | rfl | rfl | rfl
  · exact Tryz.call137 args u
  · exact Tryz.call141 args u
  · exact Tryz.call146 args u
  · exact Tryz.call151 args u
  · exact Tryz.call157 args u
  · exact Tryz.call163 args u
theorem call_uR (k : Int) (h0 : 1 ≤ k) (h1 : k ≤ 6) (args : Array Value) (u : World) : Sem.run Tryz.prog (callFunc (uR k) args) u = .ok (.enter (uR k) args) u := by
  rcases six h0 h1 with rfl | rfl | rfl | rfl | rfl | rfl
  · exact Tryz.call138 args u
  · exact Tryz.call142 args u
  · exact Tryz.call147 args u
  · exact Tryz.call152 args u
  · exact Tryz.call158 args u
  · exact Tryz.call164 args u

set_option maxHeartbeats 2000000 in
theorem kinds_any (w : World) : Calls Tryz.prog 49 #[] w fun e w' => ∃ g1 g2 g3 g4 g5 g6, e = .returned (.agg (kdC g1 g2 g3 g4 g5 g6).toArray) ∧ (Bk 1 w' g1 ∧ Bk 2 w' g2 ∧ Bk 3 w' g3 ∧ Bk 4 w' g4 ∧ Bk 5 w' g5 ∧ Bk 6 w' g6) ∧ (w.heap.size < g1 ∧ w.heap.size < g2 ∧ w.heap.size < g3 ∧ w.heap.size < g4 ∧ w.heap.size < g5 ∧ w.heap.size < g6) ∧ Below w.heap.size w w' := by
  have J0 : Hid (OJ 111 35 w (w.alloc (.cells kd0.toArray 111))) := Hid.mk' (OJ.first w kd0 rfl)
  go_enter Tryz.func49, Tryz.ntmps49
  go_wp2_with fail
  refine (deeds_1 _).mono ?_
  rintro e w1 ⟨g1, rfl, x1, m1, b1⟩
  have M1 : Hid (w.heap.size < g1) := Hid.mk' (Nat.lt_of_lt_of_le J0.out.lt m1)
  have X1_1 : Hid (Bk 1 w1 g1) := Hid.mk' x1
  have J1 : Hid (OJ 111 35 w w1) := Hid.mk' (J0.out.below b1)
  clear b1 x1 m1 J0 
  go_wp2_with fail
  refine (deeds_2 _).mono ?_
  rintro e w2 ⟨g2, rfl, x2, m2, b2⟩
  have M2 : Hid (w.heap.size < g2) := Hid.mk' (Nat.lt_of_lt_of_le J1.out.lt m2)
  have X1_2 : Hid (Bk 1 w2 g1) := Hid.mk' (X1_1.out.below b2)
  have X2_2 : Hid (Bk 2 w2 g2) := Hid.mk' x2
  have J2 : Hid (OJ 111 35 w w2) := Hid.mk' (J1.out.below b2)
  clear b2 x2 m2 J1 X1_1
  go_wp2_with fail
  refine (deeds_3 _).mono ?_
  rintro e w3 ⟨g3, rfl, x3, m3, b3⟩
  have M3 : Hid (w.heap.size < g3) := Hid.mk' (Nat.lt_of_lt_of_le J2.out.lt m3)
  have X1_3 : Hid (Bk 1 w3 g1) := Hid.mk' (X1_2.out.below b3)
  have X2_3 : Hid (Bk 2 w3 g2) := Hid.mk' (X2_2.out.below b3)
  have X3_3 : Hid (Bk 3 w3 g3) := Hid.mk' x3
  have J3 : Hid (OJ 111 35 w w3) := Hid.mk' (J2.out.below b3)
  clear b3 x3 m3 J2 X1_2 X2_2
  go_wp2_with fail
  refine (deeds_4 _).mono ?_
  rintro e w4 ⟨g4, rfl, x4, m4, b4⟩
  have M4 : Hid (w.heap.size < g4) := Hid.mk' (Nat.lt_of_lt_of_le J3.out.lt m4)
  have X1_4 : Hid (Bk 1 w4 g1) := Hid.mk' (X1_3.out.below b4)
  have X2_4 : Hid (Bk 2 w4 g2) := Hid.mk' (X2_3.out.below b4)
  have X3_4 : Hid (Bk 3 w4 g3) := Hid.mk' (X3_3.out.below b4)
  have X4_4 : Hid (Bk 4 w4 g4) := Hid.mk' x4
  have J4 : Hid (OJ 111 35 w w4) := Hid.mk' (J3.out.below b4)
  clear b4 x4 m4 J3 X1_3 X2_3 X3_3
  go_wp2_with fail
  refine (deeds_5 _).mono ?_
  rintro e w5 ⟨g5, rfl, x5, m5, b5⟩
  have M5 : Hid (w.heap.size < g5) := Hid.mk' (Nat.lt_of_lt_of_le J4.out.lt m5)
  have X1_5 : Hid (Bk 1 w5 g1) := Hid.mk' (X1_4.out.below b5)
  have X2_5 : Hid (Bk 2 w5 g2) := Hid.mk' (X2_4.out.below b5)
  have X3_5 : Hid (Bk 3 w5 g3) := Hid.mk' (X3_4.out.below b5)
  have X4_5 : Hid (Bk 4 w5 g4) := Hid.mk' (X4_4.out.below b5)
  have X5_5 : Hid (Bk 5 w5 g5) := Hid.mk' x5
  have J5 : Hid (OJ 111 35 w w5) := Hid.mk' (J4.out.below b5)
  clear b5 x5 m5 J4 X1_4 X2_4 X3_4 X4_4
  go_wp2_with fail
  refine (deeds_6 _).mono ?_
  rintro e w6 ⟨g6, rfl, x6, m6, b6⟩
  have M6 : Hid (w.heap.size < g6) := Hid.mk' (Nat.lt_of_lt_of_le J5.out.lt m6)
  have X1_6 : Hid (Bk 1 w6 g1) := Hid.mk' (X1_5.out.below b6)
  have X2_6 : Hid (Bk 2 w6 g2) := Hid.mk' (X2_5.out.below b6)
  have X3_6 : Hid (Bk 3 w6 g3) := Hid.mk' (X3_5.out.below b6)
  have X4_6 : Hid (Bk 4 w6 g4) := Hid.mk' (X4_5.out.below b6)
  have X5_6 : Hid (Bk 5 w6 g5) := Hid.mk' (X5_5.out.below b6)
  have X6_6 : Hid (Bk 6 w6 g6) := Hid.mk' x6
  have J6 : Hid (OJ 111 35 w w6) := Hid.mk' (J5.out.below b6)
  clear b6 x6 m6 J5 X1_5 X2_5 X3_5 X4_5 X5_5
  have hbl := Hid.mk' (kd_built g1 g2 g3 g4 g5 g6)
  have hone := Hid.mk' (kd_one g1 g2 g3 g4 g5 g6)
  obtain ⟨M, HM⟩ : ∃ M, Hid (kdC g1 g2 g3 g4 g5 g6 = M) := ⟨_, rfl⟩
  have hlen : Hid (M.length = 35) := Hid.mk' (by rw [← HM.out]; rfl)
  rw [HM.out] at hbl hone
  have hms : Hid (M.toArray.size = 35) := Hid.mk' (by rw [List.size_toArray]; exact hlen.out)

  generalize (dl 64 135 136 137 138 g1).toArray = A1 at hbl ⊢
  generalize (dl 67 139 140 141 142 g2).toArray = A2 at hbl ⊢
  generalize (dl 70 144 145 146 147 g3).toArray = A3 at hbl ⊢
  generalize (dl 73 149 150 151 152 g4).toArray = A4 at hbl ⊢
  generalize (dl 76 155 156 157 158 g5).toArray = A5 at hbl ⊢
  generalize (dl 79 161 162 163 164 g6).toArray = A6 at hbl ⊢
  go_wp2_with (first
    | refine wpList_buildTo rfl 111 #[(1, .tmp 1), (2, .tmp 2), (3, .tmp 3), (4, .tmp 4), (5, .tmp 5), (6, .tmp 6)] rfl (some 7) rfl M.toArray (by simpa [Act.eval, Act.put] using hbl.out) ?_
    | refine wpList_store_mid rfl 111 _ _ rfl w.heap.size 0 M.toArray rfl rfl (by rw [hms.out]; exact J6.out.there) (by rw [hms.out]; exact info_kd) hone.out ?_)
  obtain ⟨D1, D2, D3⟩ := J6.out.done M hlen.out
  refine ret_cell rfl w.heap.size 111 M (0, 0) _ rfl D1 Tryz.underlying111 rfl (by rw [hlen.out]; exact info_kd) rfl ?_
  exact ⟨g1, g2, g3, g4, g5, g6, by rw [HM.out], ⟨X1_6.out.kept D3 M1.out, X2_6.out.kept D3 M2.out, X3_6.out.kept D3 M3.out, X4_6.out.kept D3 M4.out, X5_6.out.kept D3 M5.out, X6_6.out.kept D3 M6.out⟩, ⟨M1.out, M2.out, M3.out, M4.out, M5.out, M6.out⟩, D2⟩
end Go.Proofs.YtednmdkjhiihcaaGreat
