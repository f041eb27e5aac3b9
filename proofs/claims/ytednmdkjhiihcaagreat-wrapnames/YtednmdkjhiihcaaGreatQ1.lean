/- Several texts in one (Pa Pb Pc Pd Pe Pf Pg). -/
import Derived.Test.YtednmdkjhiihcaaGreatBc
import Derived.Test.YtednmdkjhiihcaaGreatBw
import Derived.Lib.SliceRun
import Derived.WalkLawsBesides
import Derived.Lib.SlBuf
import Derived.Laws.IdiomCopy
import Derived.Laws.MakeOwn
import Derived.Laws.OwnMore
namespace Go.Proofs.YtednmdkjhiihcaaGreat
open Go.ChangeShapes Go.WideShapes Go.ChangeAt Go.RowKit

/-- The struct at block p: a piece of n bytes at block g, the bytes from a to e, m moves. -/
structure Raw (w : World) (p g n a e m : Nat) : Prop where
  box : w.heap[p]? = some (.cells #[.slice (some ⟨g, 0, none⟩) n n, .int .i64 a, .int .i64 e, .int .i64 m] 59 (0, 0))
  ae : a ≤ e
  en : e ≤ n
  big : n ≤ 4096

theorem Raw.lt {w : World} {p g n a e m : Nat} (h : Raw w p g n a e m) : p < w.heap.size := (Array.getElem?_eq_some_iff.1 h.box).1

theorem Raw.cell {w : World} {p g n a e m : Nat} (h : Raw w p g n a e m) :
    w.cell? ⟨p, 0, none⟩ = some (.slice (some ⟨g, 0, none⟩) n n) ∧ w.cell? ⟨p, 1, none⟩ = some (.int .i64 a) ∧ w.cell? ⟨p, 2, none⟩ = some (.int .i64 e) ∧ w.cell? ⟨p, 3, none⟩ = some (.int .i64 m) ∧ ∀ j, w.frozen? ⟨p, j, none⟩ = false :=
  ⟨cell_of_row w p 0 _ _ _ h.box, cell_of_row w p 1 _ _ _ h.box, cell_of_row w p 2 _ _ _ h.box, cell_of_row w p 3 _ _ _ h.box, fun j => frozen_of_row w p j _ _ h.box⟩

theorem Raw.dr {w w' : World} {p g n a e m : Nat} (h : Raw w p g n a e m) (d : Dr w w') : Raw w' p g n a e m := ⟨by rw [d.heap]; exact h.box, h.ae, h.en, h.big⟩

theorem nil_no (x : Addr) (n c : Nat) : ∀ u : World, (binOp .eql 22 (.slice (some x) n c) (.slice none 0 0)).run Tryz.prog u = .ok (.bool false) u :=
  fun u => Go.Lib.run_eql_slice_nil u _ _ (some x) n c 0 0 Tryz.underlying22

theorem nil_yes (n c : Nat) : ∀ u : World, (binOp .eql 22 (.slice none n c) (.slice none 0 0)).run Tryz.prog u = .ok (.bool true) u :=
  fun u => Go.Lib.run_eql_slice_nil u _ _ none n c 0 0 Tryz.underlying22

set_option maxHeartbeats 400000 in
theorem isNone_no (p : Nat) (x : Addr) (n c : Nat) (w : World) (h : w.cell? ⟨p, 0, none⟩ = some (.slice (some x) n c)) :
    Calls Tryz.prog 46 #[.pointer (some ⟨p, 0, none⟩)] w fun e w' => e = .returned (.bool false) ∧ w = w' := by
  have hq := nil_no x n c
  go_enter Tryz.func46, Tryz.ntmps46
  go_wp2_with fail
  go_ret
  exact ⟨rfl, rfl⟩

/-- A packet that is none. -/
def NoPk (w : World) (v : Value) : Prop := v = .pointer none ∨ ∃ p, v = .pointer (some ⟨p, 0, none⟩) ∧ w.cell? ⟨p, 0, none⟩ = some (.slice none 0 0)

theorem NoPk.dr {w w' : World} {v : Value} (h : NoPk w v) (d : Dr w w') : NoPk w' v := by
  rcases h with h | ⟨p, h, hc⟩
  · exact .inl h
  · exact .inr ⟨p, h, (d.cell _).trans hc⟩

set_option maxHeartbeats 400000 in
theorem isNone_yes (v : Value) (w : World) (h : NoPk w v) :
    Calls Tryz.prog 46 #[v] w fun e w' => e = .returned (.bool true) ∧ w = w' := by
  have hq := nil_yes 0 0
  rcases h with rfl | ⟨p, rfl, hc⟩
  · go_enter Tryz.func46, Tryz.ntmps46
    go_wp2_with fail
    go_ret
    exact ⟨rfl, rfl⟩
  · go_enter Tryz.func46, Tryz.ntmps46
    go_wp2_with fail
    go_ret
    exact ⟨rfl, rfl⟩

/-- Where Data's slice begins. -/
def dOff (a e : Nat) : Nat := if e = a then 0 else a

set_option maxHeartbeats 400000 in
theorem data_raw (p g n a e m : Nat) (w : World) (h : Raw w p g n a e m) :
    Calls Tryz.prog 33 #[.pointer (some ⟨p, 0, none⟩)] w fun x w' => x = .returned (.slice (some ⟨g, dOff a e, none⟩) (e - a) (e - a)) ∧ Dr w w' := by
  obtain ⟨q0, q1, q2, q3, fz⟩ := h.cell
  have h1 := h.ae
  have h2 := h.en
  have h3 := h.big
  clear fz q3 h
  unfold dOff
  go_enter Tryz.func33, Tryz.ntmps33
  go_wp2_with fail
  refine (isNone_no p _ _ _ w q0).mono ?_
  rintro x w1 ⟨rfl, rfl⟩
  by_cases hae : e = a
  · subst hae
    go_wp2_with fail
    go_quiet (fail)
    go_wp2_with fail
    go_ret
    exact ⟨by simp, _, rfl⟩
  · have hae' : ¬ a = e := fun h => hae h.symm
    go_wp2_with fail
    go_quiet (fail)
    go_wp2_with fail
    go_ret
    exact ⟨by simp, _, rfl⟩

set_option maxHeartbeats 400000 in
theorem data_no (v : Value) (w : World) (h : NoPk w v) :
    Calls Tryz.prog 33 #[v] w fun x w' => x = .returned (.slice none 0 0) ∧ w = w' := by
  go_enter Tryz.func33, Tryz.ntmps33
  go_wp2_with fail
  refine (isNone_yes v w h).mono ?_
  rintro x w1 ⟨rfl, rfl⟩
  go_wp2_with fail
  go_ret
  exact ⟨rfl, rfl⟩

set_option maxHeartbeats 400000 in
theorem len_raw (p g n a e m : Nat) (w : World) (h : Raw w p g n a e m) :
    Calls Tryz.prog 111 #[.pointer (some ⟨p, 0, none⟩)] w fun x w' => x = .returned (.int .i64 ((e - a : Nat) : Int)) ∧ Dr w w' := by
  have H := Hid.mk' h
  clear h
  go_enter Tryz.func111, Tryz.ntmps111
  go_wp2_with fail
  refine (data_raw p g n a e m w H.out).mono ?_
  rintro x w1 ⟨rfl, d1⟩
  go_wp2_with fail
  go_ret
  exact ⟨rfl, d1⟩

set_option maxHeartbeats 400000 in
theorem len_no (v : Value) (w : World) (h : NoPk w v) :
    Calls Tryz.prog 111 #[v] w fun x w' => x = .returned (.int .i64 0) ∧ w = w' := by
  go_enter Tryz.func111, Tryz.ntmps111
  go_wp2_with fail
  refine (data_no v w h).mono ?_
  rintro x w1 ⟨rfl, rfl⟩
  go_wp2_with fail
  go_ret
  exact ⟨rfl, rfl⟩

set_option maxHeartbeats 400000 in
theorem moves_raw (p g n a e m : Nat) (w : World) (h : Raw w p g n a e m) :
    Calls Tryz.prog 23 #[.pointer (some ⟨p, 0, none⟩)] w fun x w' => x = .returned (.int .i64 m) ∧ w = w' := by
  obtain ⟨q0, q1, q2, q3, fz⟩ := h.cell
  clear fz q1 q2 h
  go_enter Tryz.func23, Tryz.ntmps23
  go_wp2_with fail
  refine (isNone_no p _ _ _ w q0).mono ?_
  rintro x w1 ⟨rfl, rfl⟩
  go_wp2_with fail
  go_ret
  exact ⟨rfl, rfl⟩

set_option maxHeartbeats 400000 in
theorem moves_no (v : Value) (w : World) (h : NoPk w v) :
    Calls Tryz.prog 23 #[v] w fun x w' => x = .returned (.int .i64 0) ∧ w = w' := by
  go_enter Tryz.func23, Tryz.ntmps23
  go_wp2_with fail
  refine (isNone_yes v w h).mono ?_
  rintro x w1 ⟨rfl, rfl⟩
  go_wp2_with fail
  go_ret
  exact ⟨rfl, rfl⟩

structure PkIs (w : World) (p g : Nat) (A B D : List Int) (m : Nat) : Prop where
  raw : Raw w p g (A.length + B.length + D.length) A.length (A.length + B.length) m
  row : w.heap[g]? = some (.cells ((A ++ (B ++ D)).map (Value.int .u8)).toArray 5 (0, 0))
  lt : p < g
  bytes : Bytes (A ++ (B ++ D))
  most : B.length ≤ 2048
  all : A.length + B.length + D.length ≤ 2560
  mvs : m ≤ 100000

/-- The blocks that a packet may write. -/
def pkS (p g : Nat) : Nat → Prop := fun k => k = p ∨ k = g

theorem PkIs.glt {w : World} {p g : Nat} {A B D : List Int} {m : Nat} (h : PkIs w p g A B D m) : g < w.heap.size := (Array.getElem?_eq_some_iff.1 h.row).1

theorem PkIs.kept {w w' : World} {p g : Nat} {A B D : List Int} {m : Nat} {S : Nat → Prop} (h : PkIs w p g A B D m) (k : Kept S w w') (h1 : ¬ S p) (h2 : ¬ S g) : PkIs w' p g A B D m :=
  ⟨⟨by rw [k.block p h.raw.lt h1]; exact h.raw.box, h.raw.ae, h.raw.en, h.raw.big⟩, by rw [k.block g h.glt h2]; exact h.row, h.lt, h.bytes, h.most, h.all, h.mvs⟩

theorem PkIs.below {w w' : World} {p g : Nat} {A B D : List Int} {m : Nat} (h : PkIs w p g A B D m) (k : Below w.heap.size w w') : PkIs w' p g A B D m :=
  h.kept (Kept.of_below (S := fun _ => False) k) (fun h => h) (fun h => h)

theorem PkIs.dr {w w' : World} {p g : Nat} {A B D : List Int} {m : Nat} (h : PkIs w p g A B D m) (k : Dr w w') : PkIs w' p g A B D m := h.below (k.below _)

/-- Where its bytes begin, as Data tells it. -/
def pO (A B : List Int) : Nat := if B.length = 0 then 0 else A.length

theorem Bytes.mid {A B D : List Int} (h : Bytes (A ++ (B ++ D))) : Bytes A ∧ Bytes B ∧ Bytes D :=
  ⟨fun z hz => h z (by simp [hz]), fun z hz => h z (by simp [hz]), fun z hz => h z (by simp [hz])⟩

theorem Bytes.of3 {A B D : List Int} (h1 : Bytes A) (h2 : Bytes B) (h3 : Bytes D) : Bytes (A ++ (B ++ D)) := bytes_append h1 (bytes_append h2 h3)

theorem Bytes.take {B : List Int} (h : Bytes B) (k : Nat) : Bytes (B.take k) := fun z hz => h z (List.mem_of_mem_take hz)

theorem Bytes.drop {B : List Int} (h : Bytes B) (k : Nat) : Bytes (B.drop k) := fun z hz => h z (List.mem_of_mem_drop hz)

theorem Bytes.zeros (k : Nat) : Bytes (List.replicate k 0) := fun z hz => by have := List.eq_of_mem_replicate hz; omega

theorem PkIs.bs {w : World} {p g : Nat} {A B D : List Int} {m : Nat} (h : PkIs w p g A B D m) : Bs w (some ⟨g, pO A B, none⟩) B := by
  by_cases h0 : B.length = 0
  · exact ⟨by omega, h.bytes.mid.2.1, .inl h0⟩
  · rw [show pO A B = A.length by simp only [pO, h0, if_false]]
    refine Bs.mk_row A.length B h.row h.bytes.mid.2.1 (by have := h.most; omega) (fun i hi => ?_)
    rw [List.getElem?_append_right (by omega), List.getElem?_append_left (by omega)]
    congr 1; omega

theorem data_any (p g : Nat) (A B D : List Int) (m : Nat) (w : World) (h : PkIs w p g A B D m) :
    Calls Tryz.prog 33 #[.pointer (some ⟨p, 0, none⟩)] w fun x w' => x = .returned (.slice (some ⟨g, pO A B, none⟩) B.length B.length) ∧ Dr w w' := by
  have h1 := data_raw p g _ _ _ m w h.raw
  have e1 : A.length + B.length - A.length = B.length := by omega
  have e2 : dOff A.length (A.length + B.length) = pO A B := by
    unfold dOff pO
    by_cases h0 : B.length = 0
    · simp [h0]
    · rw [if_neg (by omega), if_neg h0]
  rw [e1, e2] at h1
  exact h1

theorem len_any (p g : Nat) (A B D : List Int) (m : Nat) (w : World) (h : PkIs w p g A B D m) :
    Calls Tryz.prog 111 #[.pointer (some ⟨p, 0, none⟩)] w fun x w' => x = .returned (.int .i64 (B.length : Int)) ∧ Dr w w' := by
  have h1 := len_raw p g _ _ _ m w h.raw
  rw [show A.length + B.length - A.length = B.length by omega] at h1
  exact h1

theorem moves_any (p g : Nat) (A B D : List Int) (m : Nat) (w : World) (h : PkIs w p g A B D m) :
    Calls Tryz.prog 23 #[.pointer (some ⟨p, 0, none⟩)] w fun x w' => x = .returned (.int .i64 m) ∧ w = w' :=
  moves_raw p g _ _ _ m w h.raw

set_option maxHeartbeats 400000 in
theorem clone_any (x : Addr) (c : Nat) (zs : List Int) (w : World) (hB : Bs w (some x) zs) :
    Calls Tryz.prog 24 #[.slice (some x) zs.length c] w fun e w' => ∃ v, e = .returned v ∧ w'.ownsRow w.heap.size 5 1 v zs.length (zs.map (Value.int .u8)) ∧ Below w.heap.size w w' := by
  obtain ⟨i0, hi, hz0, hz1, hz2⟩ := info_parts info_u8
  have hnn := nil_no x zs.length c
  have hlen := hB.len
  have b0 : Below w.heap.size w (w.alloc (.cells #[] 5)) := (Below.refl _ _).alloc (Nat.le_refl _) _
  have HB := Hid.mk' (hB.below b0)
  have hown0 : (w.alloc (.cells #[] 5)).ownsRow w.heap.size 5 1 (.slice (some ⟨w.heap.size, 0, none⟩) 0 0) 0 [] :=
    World.ownsRow_lit (base := w.heap.size) (size := 1) (e := 5) w #[] 0 (Nat.le_refl _) (by decide) rfl
  have HO := Hid.mk' hown0
  have hnews : ∀ j u, (zs.map (Value.int .u8))[j]? = some u → (w.alloc (.cells #[] 5)).cell? (x.add j) = some u := by
    intro j u hj
    have hlt : j < zs.length := by have := (List.getElem?_eq_some_iff.1 hj).1; simpa using this
    rcases HB.out.lies with h0 | ⟨b, off, h, hc⟩
    · omega
    · cases h
      rw [addr_add, hc j hlt]
      simp [hlt] at hj
      simp [hlt, hj]
  have HNW := Hid.mk' hnews
  have HB0 := Hid.mk' b0
  clear hB hown0 hnews b0
  go_enter Tryz.func24, Tryz.ntmps24
  go_wp2_with (first | (at_builtin; refine wpList_append_own _ rfl _ _ 22 rfl w.heap.size 5 i0 (.int .u8 0) 1 1 Tryz.underlying22 hi hz0 hz1 hz2 rfl (by decide) _ _ _ rfl HO.out x zs.length c (zs.map (Value.int .u8)) rfl (by simp) HNW.out ?c1 ?c2 ?c3 ?c4 ?_))
  case c1 => intro u hu; simp at hu; obtain ⟨z, _, rfl⟩ := hu; rfl
  case c2 => unfold maxLen; omega
  case c3 => omega
  case c4 => simp
  intro v' w1 hown hgrow hiff
  clear hiff
  have hb : Below w.heap.size w w1 := HB0.out.grown hgrow (by simp) (by intro k hk; simp [Value.ownBlock] at hk; omega)
  have HO1 : Hid (w1.ownsRow w.heap.size 5 1 v' zs.length (zs.map (Value.int .u8))) := hown
  clear hgrow hown
  go_wp2_with fail
  go_ret
  exact ⟨_, rfl, HO1.out, hb⟩

set_option maxHeartbeats 400000 in
theorem bytes_any (p g : Nat) (A B D : List Int) (m : Nat) (w : World) (h : PkIs w p g A B D m) :
    Calls Tryz.prog 22 #[.pointer (some ⟨p, 0, none⟩)] w fun e w' => ∃ v, e = .returned v ∧ w'.ownsRow w.heap.size 5 1 v B.length (B.map (Value.int .u8)) ∧ Below w.heap.size w w' := by
  have H := Hid.mk' h
  clear h
  go_enter Tryz.func22, Tryz.ntmps22
  go_wp2_with fail
  refine (data_any p g A B D m w H.out).mono ?_
  rintro x w1 ⟨rfl, d1⟩
  have D1 := Hid.mk' d1
  clear d1
  go_wp2_with fail
  refine (clone_any _ _ B w1 (H.out.dr D1.out).bs).mono ?_
  rintro x w2 ⟨v, rfl, hown, hb⟩
  have e1 : w1.heap = w.heap := D1.out.heap
  rw [e1] at hown hb
  have hb2 := (D1.out.below w.heap.size).trans hb
  clear e1 hb
  go_wp2_with fail
  go_ret
  exact ⟨v, rfl, hown, hb2⟩

set_option maxHeartbeats 400000 in
theorem bytes_no (v : Value) (w : World) (h : NoPk w v) :
    Calls Tryz.prog 22 #[v] w fun x w' => x = .returned (.slice none 0 0) ∧ w = w' := by
  have hq := nil_yes 0 0
  go_enter Tryz.func22, Tryz.ntmps22
  go_wp2_with fail
  refine (data_no v w h).mono ?_
  rintro x w1 ⟨rfl, rfl⟩
  go_wp2_with fail
  have hc : Calls Tryz.prog 24 #[.slice none 0 0] w fun x w' => x = .returned (.slice none 0 0) ∧ w = w' := by
    go_enter Tryz.func24, Tryz.ntmps24
    go_wp2_with fail
    go_ret
    exact ⟨rfl, rfl⟩
  refine hc.mono ?_
  rintro x w1 ⟨rfl, rfl⟩
  go_wp2_with fail
  go_ret
  exact ⟨rfl, rfl⟩

/-- May n bytes come or go where there are b? -/
def mayE (b : Nat) (n : Int) : Int := if n > 2048 - (b : Int) then 5 else if n < -(b : Int) then 6 else 0

set_option maxHeartbeats 400000 in
theorem may_any (p g : Nat) (A B D : List Int) (m : Nat) (n : Int) (w : World) (h : PkIs w p g A B D m) :
    Calls Tryz.prog 51 #[.pointer (some ⟨p, 0, none⟩), .int .i64 n] w fun x w' => x = .returned (.int .i64 (mayE B.length n)) ∧ Dr w w' := by
  have q0 := h.raw.cell.1
  have hb := h.most
  have H := Hid.mk' h
  clear h
  unfold mayE
  by_cases h1 : n > 2048 - (B.length : Int)
  · rw [if_pos h1]
    go_enter Tryz.func51, Tryz.ntmps51
    go_wp2_with fail
    refine (isNone_no p _ _ _ w q0).mono ?_
    rintro x w1 ⟨rfl, rfl⟩
    go_wp2_with fail
    refine (len_any p g A B D m w H.out).mono ?_
    rintro x w1 ⟨rfl, d1⟩
    go_wp2_with fail
    go_ret
    exact ⟨rfl, d1⟩
  · rw [if_neg h1]
    go_enter Tryz.func51, Tryz.ntmps51
    go_wp2_with fail
    refine (isNone_no p _ _ _ w q0).mono ?_
    rintro x w1 ⟨rfl, rfl⟩
    go_wp2_with fail
    refine (len_any p g A B D m w H.out).mono ?_
    rintro x w1 ⟨rfl, d1⟩
    go_wp2_with fail
    refine (len_any p g A B D m w1 (H.out.dr d1)).mono ?_
    rintro x w2 ⟨rfl, d2⟩
    have d3 := d1.trans d2
    by_cases h2 : n < -(B.length : Int)
    · go_wp2_with fail
      go_ret
      exact ⟨rfl, d3⟩
    · go_wp2_with fail
      go_ret
      exact ⟨rfl, d3⟩

set_option maxHeartbeats 400000 in
theorem may_no (v : Value) (n : Int) (w : World) (h : NoPk w v) :
    Calls Tryz.prog 51 #[v, .int .i64 n] w fun x w' => x = .returned (.int .i64 1) ∧ w = w' := by
  go_enter Tryz.func51, Tryz.ntmps51
  go_wp2_with fail
  refine (isNone_yes v w h).mono ?_
  rintro x w1 ⟨rfl, rfl⟩
  go_wp2_with fail
  go_ret
  exact ⟨rfl, rfl⟩

/-- make of n bytes. -/
theorem mk_bytes (n : Nat) (hn : n ≤ 140737488355328) : ∀ u : World, (Instr.makeSlice 22 (.int .i64 n) (.int .i64 n)).run Tryz.prog u =
    .ok (.slice (some ⟨u.heap.size, 0, none⟩) n n) (u.alloc (.cells ((List.replicate n (0 : Int)).map (Value.int .u8)).toArray 5)) := by
  intro u
  obtain ⟨i0, hi, hz0, hz1, hz2⟩ := info_parts info_u8
  have h := run_make (P := Tryz.prog) u 22 5 i0 (.int .u8 0) Tryz.underlying22 hi hz0 .i64 .i64 n n (by omega) (Int.le_refl _) (by rw [hz2]; omega) (by omega)
  have e : madeCells #[.int .u8 0] n = ((List.replicate n (0 : Int)).map (Value.int .u8)).toArray := by
    apply Array.toList_inj.1
    rw [toList_madeCells_one, List.map_replicate]
  simpa [hz1, Value.cells, e] using h

/-- copy of bytes to a place of a row. -/
theorem copy_in (g o d c : Nat) (a : Option Addr) (zs : List Int) (w : World) (cur : Array Value) (hg : w.heap[g]? = some (.cells cur 5 (0, 0))) (hB : Bs w a zs) (hd : 0 < zs.length → d = o) (hf : o + zs.length ≤ cur.size) :
    ∀ ty, (Builtin.copy_ #[22, 22] ty #[.slice (some ⟨g, d, none⟩) zs.length zs.length, .slice a zs.length c]).run Tryz.prog w = .ok (goInt zs.length) (w.setCells g o (zs.map (Value.int .u8))) := by
  intro ty
  obtain ⟨i0, hi, hz0, hz1, hz2⟩ := info_parts info_u8
  have hs : (Tryz.prog.info? 5).map (·.size) = some 1 := by rw [hi]; simp [hz1]
  by_cases h0 : zs.length = 0
  · obtain rfl := List.eq_nil_of_length_eq_zero h0
    exact run_copy_none (P := Tryz.prog) w 22 22 ty 5 _ _ 0 0 0 c Tryz.underlying22 hs rfl
  · obtain rfl := hd (by omega)
    rcases hB.lies with h | ⟨b, off, rfl, hc⟩
    · exact absurd h h0
    · have := run_copy_cells (P := Tryz.prog) w 22 22 ty 5 g d zs.length zs.length ⟨b, off, none⟩ zs.length c (zs.map (Value.int .u8)) Tryz.underlying22 hs (by rw [List.length_map]; exact (Nat.min_self _).symm)
        (fun j v hj => by
          have hlt : j < zs.length := by have := (List.getElem?_eq_some_iff.1 hj).1; simpa using this
          rw [addr_add, hc j hlt]
          simp [hlt] at hj
          simp [hlt, hj])
        (fun j hj => by
          rw [List.length_map] at hj
          rw [cell_of_row w g (d + j) _ _ _ hg, Array.getElem?_eq_getElem (by omega)]; rfl)
        (fun j _ => frozen_of_row w g _ _ _ hg) (fun v hv => by simp at hv; obtain ⟨z, _, rfl⟩ := hv; rfl)
      rw [List.length_map] at this
      exact this

theorem lay_row (hd tl : Nat) (zs : List Int) (C : Array Value) (h : ((List.replicate (hd + zs.length + tl) (0 : Int)).map (Value.int .u8)).toArray = C) :
    (C.toList.take hd ++ zs.map (Value.int .u8) ++ C.toList.drop (hd + (zs.map (Value.int .u8)).length)).toArray = ((List.replicate hd (0 : Int) ++ (zs ++ List.replicate tl 0)).map (Value.int .u8)).toArray := by
  subst h
  congr 1
  simp only [List.map_append, List.map_replicate, List.take_replicate, List.drop_replicate, List.length_map, List.append_assoc]
  rw [show min hd (hd + zs.length + tl) = hd by omega, show hd + zs.length + tl - (hd + zs.length) = tl by omega]

set_option maxHeartbeats 1000000 in
theorem lay_any (p hd tl : Nat) (a : Option Addr) (c : Nat) (zs : List Int) (w : World) (b0 b1 b2 : Value) (m : Nat) (hbox : w.heap[p]? = some (.cells #[b0, b1, b2, .int .i64 m] 59 (0, 0))) (hB : Bs w a zs) (hp : ∀ x, a = some x → x.block ≠ p ∨ zs.length = 0)
    (h1 : hd + zs.length + tl ≤ 2560) (h2 : zs.length ≤ 2048) (hm : m ≤ 100000) :
    Calls Tryz.prog 45 #[.pointer (some ⟨p, 0, none⟩), .int .i64 hd, .slice a zs.length c, .int .i64 tl] w fun e w' => e = .returned (.tuple #[]) ∧ PkIs w' p w.heap.size (List.replicate hd 0) zs (List.replicate tl 0) m ∧ Kept (fun k => k = p) w w' := by
  have hlt : p < w.heap.size := (Array.getElem?_eq_some_iff.1 hbox).1
  have c0 : w.cell? ⟨p, 0, none⟩ = some b0 := cell_of_row w p 0 _ _ _ hbox
  have c1 : w.cell? ⟨p, 1, none⟩ = some b1 := cell_of_row w p 1 _ _ _ hbox
  have c2 : w.cell? ⟨p, 2, none⟩ = some b2 := cell_of_row w p 2 _ _ _ hbox
  have f0 : w.frozen? ⟨p, 0, none⟩ = false := frozen_of_row w p 0 _ _ hbox
  have f1 : w.frozen? ⟨p, 1, none⟩ = false := frozen_of_row w p 1 _ _ hbox
  have f2 : w.frozen? ⟨p, 2, none⟩ = false := frozen_of_row w p 2 _ _ hbox
  have HBX := Hid.mk' hbox
  have HB := Hid.mk' hB
  have HP := Hid.mk' hp
  clear hbox hB hp
  obtain ⟨n, hn⟩ : ∃ n, n = zs.length := ⟨_, rfl⟩
  rw [← hn] at h1 h2 ⊢
  have HN := Hid.mk' hn.symm
  clear hn
  have hmk := mk_bytes (hd + n + tl) (by omega)
  obtain ⟨C, HC⟩ : ∃ C, Hid (((List.replicate (hd + n + tl) (0 : Int)).map (Value.int .u8)).toArray = C) := ⟨_, rfl⟩
  rw [HC.out] at hmk
  rw [show ((hd + n + tl : Nat) : Int) = (hd : Int) + n + tl by omega] at hmk
  go_enter Tryz.func45, Tryz.ntmps45
  go_wp2_with fail
  obtain ⟨W2, hW2⟩ : ∃ W2, W2 = ((w.setCell ⟨p, 0, none⟩ (.slice (some ⟨w.heap.size, 0, none⟩) (hd + n + tl) (hd + n + tl))).setCell ⟨p, 1, none⟩ (.int .i64 hd)).setCell ⟨p, 2, none⟩ (.int .i64 ((hd : Int) + n)) := ⟨_, rfl⟩
  rw [← hW2]
  have hs2 : W2.heap.size = w.heap.size := by rw [hW2]; simp [World.setCell]
  have k2 : Kept (fun k => k = p) w W2 := by
    rw [hW2]
    exact (((Kept.refl (fun k => k = p) w).setCell (p := ⟨p, 0, none⟩) (fun _ => rfl) _).setCell (p := ⟨p, 1, none⟩) (fun _ => rfl) _).setCell (p := ⟨p, 2, none⟩) (fun _ => rfl) _
  have r2 : W2.heap[p]? = some (.cells #[.slice (some ⟨w.heap.size, 0, none⟩) (hd + n + tl) (hd + n + tl), .int .i64 hd, .int .i64 ((hd + n : Nat) : Int), .int .i64 m] 59 (0, 0)) := by
    rw [hW2, Go.heap_setCell_same _ p 2 _ _ _ (Go.heap_setCell_same _ p 1 _ _ _ (Go.heap_setCell_same _ p 0 _ _ _ HBX.out))]
    simp
  obtain ⟨W3, hW3⟩ : ∃ W3, W3 = W2.alloc (.cells C 5) := ⟨_, rfl⟩
  rw [← hW3]
  have k3 : Kept (fun k => k = p) w W3 := by rw [hW3]; exact k2.alloc _
  have r3 : Raw W3 p w.heap.size (hd + n + tl) hd (hd + n) m := by
    refine ⟨?_, by omega, by omega, by omega⟩
    rw [hW3, Below.heap_alloc _ _ _ (by rw [hs2]; exact hlt)]
    exact r2
  have g3 : W3.heap[w.heap.size]? = some (.cells C 5 (0, 0)) := by
    rw [hW3, ← hs2]
    exact Go.heap_alloc_new _ _
  clear hW2 hs2 k2 r2
  have B3 : Bs W3 a zs := by
    by_cases h0 : zs.length = 0
    · exact ⟨HB.out.len, HB.out.bytes, .inl h0⟩
    · exact Kept.bs HB.out k3 (fun x hx => (HP.out x hx).resolve_right h0)
  have K3 := Hid.mk' k3
  have R3 := Hid.mk' r3
  have G3 := Hid.mk' g3
  have BS3 := Hid.mk' B3
  clear hW3 k3 r3 g3 B3 hmk c0 c1 c2 f0 f1 f2
  refine (data_raw p _ _ _ _ m W3 R3.out).mono ?_
  rintro x w4 ⟨rfl, d4⟩
  rw [show hd + n - hd = n by omega]
  have hcs : C.size = hd + n + tl := by rw [← HC.out]; simp
  have G4 : w4.heap[w.heap.size]? = some (.cells C 5 (0, 0)) := by rw [d4.heap]; exact G3.out
  have hcp := copy_in w.heap.size hd (dOff hd (hd + n)) c a zs w4 C G4 (d4.bs BS3.out) (fun h => by unfold dOff; rw [if_neg (by rw [HN.out] at h; omega)]) (by rw [HN.out]; omega)
  rw [HN.out] at hcp
  have HX : Hid (PkIs (w4.setCells w.heap.size hd (zs.map (Value.int .u8))) p w.heap.size (List.replicate hd 0) zs (List.replicate tl 0) m) := by
    have hne : p ≠ w.heap.size := by omega
    have hr4 := R3.out.dr d4
    refine ⟨⟨?_, by omega, by omega, by rw [List.length_replicate, List.length_replicate, HN.out]; omega⟩, ?_, hlt, Bytes.of3 (Bytes.zeros _) HB.out.bytes (Bytes.zeros _), by rw [HN.out]; exact h2, by rw [List.length_replicate, List.length_replicate, HN.out]; exact h1, hm⟩
    · rw [heap_setCells_other hne _ _ _ hr4.lt, List.length_replicate, List.length_replicate, HN.out]
      exact hr4.box
    · rw [heap_setCells _ _ _ _ _ _ G4 (by rw [List.length_map, HN.out]; omega)]
      rw [lay_row hd tl zs C (by rw [HN.out]; exact HC.out)]
  have HK : Hid (Kept (fun k => k = p) w (w4.setCells w.heap.size hd (zs.map (Value.int .u8)))) :=
    (K3.out.trans (Kept.of_below (d4.below _))).setCells _ _ _ (fun h => absurd h (Nat.lt_irrefl _))
  clear hcs G4 d4 K3 R3 G3 BS3 HBX HP HB
  generalize (zs.map (Value.int .u8)) = vs at *
  go_wp2_with (at_builtin; refine Lib.wpList_copy_run _ rfl _ _ 22 22 rfl _ _ rfl rfl (hcp _) ?_)
  go_end0
  exact ⟨rfl, HX.out, HK.out⟩

/-- Is n a room? -/
def isR (n : Int) : Bool := decide (0 ≤ n ∧ n ≤ 256)

set_option maxHeartbeats 400000 in
theorem isRoom_any (n : Int) (w : World) : Calls Tryz.prog 44 #[.int .i64 n] w fun e w' => e = .returned (.bool (isR n)) ∧ w = w' := by
  unfold isR
  by_cases h1 : 0 ≤ n
  · by_cases h2 : n ≤ 256
    · go_enter Tryz.func44, Tryz.ntmps44
      go_wp2_with fail
      go_ret
      exact ⟨ret_bool (by simp; omega), rfl⟩
    · go_enter Tryz.func44, Tryz.ntmps44
      go_wp2_with fail
      go_ret
      exact ⟨ret_bool (by simp; omega), rfl⟩
  · go_enter Tryz.func44, Tryz.ntmps44
    go_wp2_with fail
    go_ret
    exact ⟨ret_bool (by simp; omega), rfl⟩

set_option maxHeartbeats 400000 in
theorem new_long (a : Option Addr) (n c : Nat) (x y : Int) (w : World) (hl : n ≤ 140737488355328) (h : 2048 < n) :
    Calls Tryz.prog 21 #[.slice a n c, .int .i64 x, .int .i64 y] w fun e w' => e = .returned (.tuple #[.pointer none, .int .i64 5]) ∧ w = w' := by
  go_enter Tryz.func21, Tryz.ntmps21
  go_wp2_with fail
  go_ret2
  exact ⟨rfl, rfl⟩

set_option maxHeartbeats 400000 in
theorem new_bad (a : Option Addr) (n c : Nat) (x y : Int) (w : World) (h : n ≤ 2048) (hr : (isR x && isR y) = false) :
    Calls Tryz.prog 21 #[.slice a n c, .int .i64 x, .int .i64 y] w fun e w' => e = .returned (.tuple #[.pointer none, .int .i64 2]) ∧ w = w' := by
  cases hx : isR x with
  | false =>
    have hc := isRoom_any x w
    rw [hx] at hc
    go_enter Tryz.func21, Tryz.ntmps21
    go_wp2_with fail
    refine hc.mono ?_
    rintro e w1 ⟨rfl, rfl⟩
    go_wp2_with fail
    go_ret2
    exact ⟨rfl, rfl⟩
  | true =>
    rw [hx, Bool.true_and] at hr
    have hc := isRoom_any x w
    have hd := isRoom_any y w
    rw [hx] at hc
    rw [hr] at hd
    go_enter Tryz.func21, Tryz.ntmps21
    go_wp2_with fail
    refine hc.mono ?_
    rintro e w1 ⟨rfl, rfl⟩
    go_wp2_with fail
    refine hd.mono ?_
    rintro e w1 ⟨rfl, rfl⟩
    go_wp2_with fail
    go_ret2
    exact ⟨rfl, rfl⟩

set_option maxHeartbeats 400000 in
theorem new_ok (a : Option Addr) (c : Nat) (zs : List Int) (x y : Nat) (w : World) (hB : Bs w a zs) (h : zs.length ≤ 2048) (hx : x ≤ 256) (hy : y ≤ 256) (ha : ∀ b, a = some b → b.block < w.heap.size ∨ zs.length = 0) :
    Calls Tryz.prog 21 #[.slice a zs.length c, .int .i64 x, .int .i64 y] w fun e w' => e = .returned (.tuple #[.pointer (some ⟨w.heap.size, 0, none⟩), .int .i64 0]) ∧ PkIs w' w.heap.size (w.heap.size + 1) (List.replicate x 0) zs (List.replicate y 0) 0 ∧ Below w.heap.size w w' := by
  have hc := isRoom_any x w
  have hd := isRoom_any y w
  rw [show isR (x : Int) = true by simp [isR]; omega] at hc
  rw [show isR (y : Int) = true by simp [isR]; omega] at hd
  have b0 : Below w.heap.size w (w.alloc (.cells #[.slice none 0 0, .int .i64 0, .int .i64 0, .int .i64 0] 59)) := (Below.refl _ _).alloc (Nat.le_refl _) _
  have hbx : (w.alloc (.cells #[.slice none 0 0, .int .i64 0, .int .i64 0, .int .i64 0] 59)).heap[w.heap.size]? = some (.cells #[.slice none 0 0, .int .i64 0, .int .i64 0, .int .i64 ((0 : Nat) : Int)] 59 (0, 0)) := Go.heap_alloc_new w _
  obtain ⟨a', hBs, hsame, hne⟩ : ∃ a', Bs (w.alloc (.cells #[.slice none 0 0, .int .i64 0, .int .i64 0, .int .i64 0] 59)) a' zs ∧ a' = a ∧ ∀ b, a' = some b → b.block ≠ w.heap.size ∨ zs.length = 0 :=
    ⟨a, hB.below b0, rfl, fun b hb => (ha b hb).imp (fun h => by omega) id⟩
  subst hsame
  have hl := lay_any w.heap.size x y a' c zs _ _ _ _ 0 hbx hBs hne (by omega) h (by omega)
  have hsz : (w.alloc (.cells #[.slice none 0 0, .int .i64 0, .int .i64 0, .int .i64 0] 59)).heap.size = w.heap.size + 1 := by simp
  rw [hsz] at hl
  have HB0 := Hid.mk' b0
  clear b0 hbx hBs hne ha hB hsz
  obtain ⟨n, hn⟩ : ∃ n, n = zs.length := ⟨_, rfl⟩
  rw [← hn] at h hl ⊢
  clear hn
  go_enter Tryz.func21, Tryz.ntmps21
  go_wp2_with fail
  refine hc.mono ?_
  rintro e w1 ⟨rfl, rfl⟩
  go_wp2_with fail
  refine hd.mono ?_
  rintro e w1 ⟨rfl, rfl⟩
  go_wp2_with fail
  refine hl.mono ?_
  rintro e w2 ⟨rfl, hP, hK⟩
  have B2 : Below w.heap.size w w2 := HB0.out.trans (hK.below (by simp) (fun k hk => by omega))
  clear hK hl hc hd
  go_wp2_with fail
  go_ret2
  exact ⟨rfl, hP, B2⟩

set_option maxHeartbeats 400000 in
theorem anew_any (p g : Nat) (A B D : List Int) (m : Nat) (x y : Nat) (w : World) (h : PkIs w p g A B D m) (hx : 64 + x + B.length + (64 + y) ≤ 2560) :
    Calls Tryz.prog 52 #[.pointer (some ⟨p, 0, none⟩), .int .i64 x, .int .i64 y] w fun e w' => e = .returned (.tuple #[]) ∧ PkIs w' p w.heap.size (List.replicate (64 + x) 0) B (List.replicate (64 + y) 0) m ∧ Kept (fun k => k = p) w w' := by
  have H := Hid.mk' h
  clear h
  have hb : B.length ≤ 2560 := by omega
  go_enter Tryz.func52, Tryz.ntmps52
  go_wp2_with fail
  refine (data_any p g A B D m w H.out).mono ?_
  rintro e w1 ⟨rfl, d1⟩
  have D1 := Hid.mk' d1
  have key := lay_any p (64 + x) (64 + y) (some ⟨g, pO A B, none⟩) B.length B w1 _ _ _ m (H.out.dr d1).raw.box (H.out.dr d1).bs (fun q hq => .inl (by cases hq; have := H.out.lt; show g ≠ p; omega)) hx H.out.most H.out.mvs
  rw [show w1.heap = w.heap from d1.heap] at key
  rw [show ((64 + x : Nat) : Int) = 64 + (x : Int) by omega, show ((64 + y : Nat) : Int) = 64 + (y : Int) by omega] at key
  clear d1
  go_wp2_with fail
  refine key.mono ?_
  rintro e w2 ⟨rfl, hP, hK⟩
  have K2 : Kept (fun k => k = p) w w2 := (Kept.of_below (D1.out.below _)).trans hK
  clear hK key
  go_wp2_with fail
  go_end0
  exact ⟨rfl, hP, K2⟩

theorem zero_u8 (w : World) : (zeroValue 5).run Tryz.prog w = .ok (.int .u8 0) w := by kernel_rfl

set_option maxHeartbeats 400000 in
theorem wipe_no (p : Nat) (x n : Int) (w : World) (hn : n ≤ 0) :
    Calls Tryz.prog 53 #[.pointer (some ⟨p, 0, none⟩), .int .i64 x, .int .i64 n] w fun e w' => e = .returned (.tuple #[]) ∧ w = w' := by
  go_enter Tryz.func53, Tryz.ntmps53
  go_wp2_with fail
  go_end0
  exact ⟨rfl, rfl⟩

set_option maxHeartbeats 1000000 in
theorem wipe_yes (p g N x k : Nat) (w : World) (cur : Array Value) (c0 : w.cell? ⟨p, 0, none⟩ = some (.slice (some ⟨g, 0, none⟩) N N)) (hg : w.heap[g]? = some (.cells cur 5 (0, 0))) (hN : N ≤ 4096) (hs : cur.size = N) (hk : 0 < k) (hx : x + k ≤ N) :
    Calls Tryz.prog 53 #[.pointer (some ⟨p, 0, none⟩), .int .i64 x, .int .i64 k] w fun e w' => e = .returned (.tuple #[]) ∧ w' = w.setCells g x (List.replicate k (.int .u8 0)) := by
  have hcl : ∀ (c : Nat) ty, (Builtin.clear_ #[22] ty #[.slice (some ⟨g, x, none⟩) k c]).run Tryz.prog w = .ok (.tuple #[]) (w.setCells g x (List.replicate k (.int .u8 0))) := by
    intro c ty
    refine Go.Lib.run_clear_slice w _ _ ty (.int .u8 0) Tryz.underlying22 zero_u8 rfl rfl g x k c hk (fun j hj => ?_) (fun j _ => frozen_of_row w g _ _ _ hg)
    rw [cell_of_row w g (x + j) _ _ _ hg, Array.getElem?_eq_getElem (by omega)]; rfl
  have HG := Hid.mk' hg
  clear hg hs
  have e1 : ((x : Int) + (k : Int)).toNat - x = k := by omega
  have e2 : ¬ N = x := by omega
  go_enter Tryz.func53, Tryz.ntmps53
  go_wp2_with fail
  go_end0
  exact ⟨rfl, rfl⟩

/-- What Head makes of the bytes, of the moves, of the room. -/
def hB (n : Int) (B : List Int) : List Int := if mayE B.length n = 0 then (if 0 ≤ n then List.replicate n.toNat 0 ++ B else B.drop (-n).toNat) else B

def mM (b : Nat) (n : Int) (m : Nat) : Nat := if mayE b n = 0 then m + 1 else m

def hA (b : Nat) (n : Int) (a : Nat) : Nat := if mayE b n = 0 then (if n > a then 64 else (a - n).toNat) else a

def hD (b : Nat) (n : Int) (a d : Nat) : Nat := if mayE b n = 0 then (if n > a then 64 else d) else d

/-- What is told of a packet behind Head or Tail. -/
def Moved (w w' : World) (p g : Nat) (B : List Int) (a d m : Nat) : Prop := ∃ g' A' D', PkIs w' p g' A' B D' m ∧ A'.length = a ∧ D'.length = d ∧ Kept (pkS p g) w w' ∧ (g' = g ∨ w.heap.size ≤ g')

theorem PkIs.cells {w : World} {p g : Nat} {A B D : List Int} {m : Nat} (h : PkIs w p g A B D m) :
    w.cell? ⟨p, 0, none⟩ = some (.slice (some ⟨g, 0, none⟩) (A.length + B.length + D.length) (A.length + B.length + D.length)) ∧ w.cell? ⟨p, 1, none⟩ = some (.int .i64 (A.length : Int)) ∧ w.cell? ⟨p, 2, none⟩ = some (.int .i64 ((A.length : Int) + (B.length : Int))) ∧ w.cell? ⟨p, 3, none⟩ = some (.int .i64 m) ∧
    w.frozen? ⟨p, 1, none⟩ = false ∧ w.frozen? ⟨p, 2, none⟩ = false ∧ w.frozen? ⟨p, 3, none⟩ = false := by
  obtain ⟨c0, c1, c2, c3, fz⟩ := h.raw.cell
  exact ⟨c0, c1, by rw [c2]; simp, c3, fz 1, fz 2, fz 3⟩

/-- The beginning is moved back: bytes go. -/
theorem PkIs.headNeg {w : World} {p g : Nat} {A B D : List Int} {m : Nat} (h : PkIs w p g A B D m) (k : Nat) (hk : k ≤ B.length) (hm : m + 1 ≤ 100000) :
    PkIs ((w.setCell ⟨p, 1, none⟩ (.int .i64 ((A.length : Int) + k))).setCell ⟨p, 3, none⟩ (.int .i64 ((m : Int) + 1))) p g (A ++ B.take k) (B.drop k) D (m + 1) := by
  have hlt := h.lt
  have e1 : (A ++ B.take k).length = A.length + k := by rw [List.length_append, List.length_take]; omega
  have e2 : (B.drop k).length = B.length - k := List.length_drop
  have e3 : A ++ B.take k ++ (B.drop k ++ D) = A ++ (B ++ D) := by rw [List.append_assoc, ← List.append_assoc (B.take k), List.take_append_drop]
  have hall := h.all
  have hmost := h.most
  refine ⟨⟨?_, by omega, by omega, by omega⟩, ?_, hlt, by rw [e3]; exact h.bytes, by omega, by omega, hm⟩
  · rw [Go.heap_setCell_same _ p 3 _ _ _ (Go.heap_setCell_same _ p 1 _ _ _ h.raw.box), e1, e2]
    rw [show A.length + k + (B.length - k) + D.length = A.length + B.length + D.length by omega, show A.length + k + (B.length - k) = A.length + B.length by omega]
    simp
  · rw [Below.heap_setCell _ _ _ _ (by show g ≠ p; omega), Below.heap_setCell _ _ _ _ (by show g ≠ p; omega), e3]
    exact h.row

/-- The beginning is moved forth: noughts come. -/
theorem PkIs.headPos {w : World} {p g : Nat} {A B D : List Int} {m : Nat} (h : PkIs w p g A B D m) (k : Nat) (hk : k ≤ A.length) (hb : B.length + k ≤ 2048) (hm : m + 1 ≤ 100000) :
    PkIs (((w.setCell ⟨p, 1, none⟩ (.int .i64 ((A.length : Int) - k))).setCells g (A.length - k) (List.replicate k (.int .u8 0))).setCell ⟨p, 3, none⟩ (.int .i64 ((m : Int) + 1))) p g (A.take (A.length - k)) (List.replicate k 0 ++ B) D (m + 1) := by
  have hlt := h.lt
  have e1 : (A.take (A.length - k)).length = A.length - k := by rw [List.length_take]; omega
  have e2 : (List.replicate k (0 : Int) ++ B).length = k + B.length := by rw [List.length_append, List.length_replicate]
  have hall := h.all
  have hmost := h.most
  have hne : g ≠ p := by omega
  have hg1 : (w.setCell ⟨p, 1, none⟩ (.int .i64 ((A.length : Int) - k))).heap[g]? = some (.cells ((A ++ (B ++ D)).map (Value.int .u8)).toArray 5 (0, 0)) := by
    rw [Below.heap_setCell _ _ _ _ hne]; exact h.row
  have hp1 := Go.heap_setCell_same w p 1 _ _ (.int .i64 ((A.length : Int) - k)) h.raw.box
  refine ⟨⟨?_, by omega, by omega, by omega⟩, ?_, hlt, Bytes.of3 (h.bytes.mid.1.take _) (bytes_append (Bytes.zeros _) h.bytes.mid.2.1) h.bytes.mid.2.2, by omega, by omega, hm⟩
  · rw [Go.heap_setCell_same _ p 3 _ _ _ ((heap_setCells_other (fun e => hne e.symm) _ _ _ (Array.getElem?_eq_some_iff.1 hp1).1).trans hp1), e1, e2]
    rw [show A.length - k + (k + B.length) + D.length = A.length + B.length + D.length by omega, show A.length - k + (k + B.length) = A.length + B.length by omega, show ((A.length - k : Nat) : Int) = (A.length : Int) - k by omega]
    simp
  · rw [Below.heap_setCell _ _ _ _ hne, heap_setCells _ _ _ _ _ _ hg1 (by simp; omega)]
    congr 3
    simp only [List.length_replicate, List.map_append, List.append_assoc, List.map_replicate]
    rw [List.take_append_of_le_length (by simp), show A.length - k + k = A.length by omega, List.drop_left' (by simp), List.map_take]

theorem may_zero {b : Nat} {n : Int} : mayE b n = 0 ↔ n ≤ 2048 - (b : Int) ∧ -(b : Int) ≤ n := by
  unfold mayE
  constructor
  · intro h
    by_cases h1 : n > 2048 - (b : Int)
    · rw [if_pos h1] at h; omega
    · rw [if_neg h1] at h
      by_cases h2 : n < -(b : Int)
      · rw [if_pos h2] at h; omega
      · omega
  · intro h
    rw [if_neg (by omega), if_neg (by omega)]

theorem Kept.pk {w w' : World} {p g : Nat} (h : Kept (fun k => k = p) w w') : Kept (pkS p g) w w' := h.mono (fun _ _ e => .inl e)

set_option maxHeartbeats 1000000 in
theorem head_any (p g : Nat) (A B D : List Int) (m : Nat) (n : Int) (w : World) (h : PkIs w p g A B D m) (hm : m + 1 ≤ 100000) :
    Calls Tryz.prog 34 #[.pointer (some ⟨p, 0, none⟩), .int .i64 n] w fun e w' => e = .returned (.int .i64 (mayE B.length n)) ∧ Moved w w' p g (hB n B) (hA B.length n A.length) (hD B.length n A.length D.length) (mM B.length n m) := by
  by_cases he : mayE B.length n = 0
  · have hb := may_zero.1 he
    unfold hB hA hD mM
    rw [if_pos he, if_pos he, if_pos he, if_pos he]
    have key := may_any p g A B D m n w h
    rw [he] at key ⊢
    have hall := h.all
    have hmost := h.most
    have H := Hid.mk' h
    clear h he
    by_cases hn : 0 < n
    · obtain ⟨k, rfl⟩ : ∃ k : Nat, n = k := ⟨n.toNat, by omega⟩
      rw [if_pos (by omega : (0 : Int) ≤ (k : Int))]
      by_cases hroom : (k : Int) > A.length
      · rw [if_pos hroom, if_pos hroom]
        go_enter Tryz.func34, Tryz.ntmps34
        go_wp2_with fail
        refine key.mono ?_
        rintro e w1 ⟨rfl, d1⟩
        have H1 := Hid.mk' (H.out.dr d1)
        have D1 := Hid.mk' d1
        obtain ⟨c0, c1, c2, c3, f1, f2, f3⟩ := H1.out.cells
        clear key d1
        go_wp2_with fail
        refine (anew_any p g A B D m k 0 w1 H1.out (by omega)).mono ?_
        rintro e w2 ⟨rfl, hP2, hK2⟩
        have H2 := Hid.mk' hP2
        have KK2 := Hid.mk' hK2
        have hsz : w1.heap.size = w.heap.size := by rw [D1.out.heap]
        have HSZ := Hid.mk' hsz
        clear c0 c1 c2 c3 f1 f2 f3 hP2 hK2 hsz
        obtain ⟨A2, hA2⟩ : ∃ A2, A2 = List.replicate (64 + k) (0 : Int) := ⟨_, rfl⟩
        rw [← hA2] at H2
        have hl2 : A2.length ≤ 64 + k := by rw [hA2]; simp
        have hl2' : 64 + k ≤ A2.length := by rw [hA2]; simp
        clear hA2
        obtain ⟨g2, hg2⟩ : ∃ g2, g2 = w1.heap.size := ⟨_, rfl⟩
        rw [← hg2] at H2
        have HG2 := Hid.mk' hg2
        clear hg2
        obtain ⟨D2, hD2⟩ : ∃ D2, D2 = List.replicate (64 + 0) (0 : Int) := ⟨_, rfl⟩
        rw [← hD2] at H2
        have hl3 : D2.length ≤ 64 := by rw [hD2]; simp
        have hl3' : 64 ≤ D2.length := by rw [hD2]; simp
        clear hD2
        obtain ⟨c0, c1, c2, c3, f1, f2, f3⟩ := H2.out.cells
        have HF := Hid.mk' (H2.out.headPos k (by omega) (by omega) hm)
        have hrow2 := H2.out.row
        have hgp : ¬ g2 = p := by have := H2.out.lt; omega
        have hgp' : ¬ p = g2 := by have := H2.out.lt; omega
        have hm' : m ≤ 100000 := H2.out.mvs
        obtain ⟨W3, hW3⟩ : ∃ W3, W3 = w2.setCell ⟨p, 1, none⟩ (.int .i64 ((A2.length : Int) - k)) := ⟨_, rfl⟩
        have k3 : Kept (pkS p g) w W3 := by rw [hW3]; exact ((Kept.of_below (D1.out.below _)).trans KK2.out.pk).setCell (p := ⟨p, 1, none⟩) (fun _ => .inl rfl) _
        have q0 : W3.cell? ⟨p, 0, none⟩ = some (.slice (some ⟨g2, 0, none⟩) (A2.length + B.length + D2.length) (A2.length + B.length + D2.length)) := by rw [hW3, World.cell?_setCell_other _ _ _ _ (by simp)]; exact c0
        have q1 : W3.cell? ⟨p, 1, none⟩ = some (.int .i64 ((A2.length : Int) - k)) := by rw [hW3]; exact World.cell?_setCell_same _ _ _ c1
        have q3 : W3.cell? ⟨p, 3, none⟩ = some (.int .i64 m) := by rw [hW3, World.cell?_setCell_other _ _ _ _ (by simp)]; exact c3
        have f3' : W3.frozen? ⟨p, 3, none⟩ = false := by rw [hW3, World.frozen?_setCell]; exact f3
        have row3 : W3.heap[g2]? = some (.cells ((A2 ++ (B ++ D2)).map (Value.int .u8)).toArray 5 (0, 0)) := by rw [hW3, Below.heap_setCell _ _ _ _ hgp]; exact hrow2
        have wkey := wipe_yes p g2 (A2.length + B.length + D2.length) (A2.length - k) k W3 _ q0 row3 (by omega) (by simp; omega) (by omega) (by omega)
        rw [show ((A2.length - k : Nat) : Int) = (A2.length : Int) - k by omega] at wkey
        have q3' : (W3.setCells g2 (A2.length - k) (List.replicate k (.int .u8 0))).cell? ⟨p, 3, none⟩ = some (.int .i64 m) := by
          rw [World.cell?_of_block (w := W3) (heap_setCells_other hgp' _ _ _ (lt_of_cell q3))]; exact q3
        have f3'' : (W3.setCells g2 (A2.length - k) (List.replicate k (.int .u8 0))).frozen? ⟨p, 3, none⟩ = false := by
          rw [World.frozen?_of_block (w := W3) (a := ⟨p, 3, none⟩) (heap_setCells_other hgp' _ _ _ (lt_of_cell q3))]; exact f3'
        have HK : Hid (Kept (pkS p g) w ((W3.setCells g2 (A2.length - k) (List.replicate k (.int .u8 0))).setCell ⟨p, 3, none⟩ (.int .i64 ((m : Int) + 1)))) := (k3.setCells _ _ _ (fun h => absurd h (by rw [HG2.out, HSZ.out]; exact Nat.lt_irrefl _))).setCell (p := ⟨p, 3, none⟩) (fun _ => .inl rfl) _
        rw [← hW3] at HF
        have HW3 := Hid.mk' hW3
        clear hW3 k3 q0 q1 q3 f3' row3 hrow2 c0 c2 c3 f2 f3
        go_wp2_with fail
        rw [← HW3.out]
        refine wkey.mono ?_
        rintro e w4 ⟨rfl, hw4⟩
        rw [← hw4] at q3' f3'' HF HK
        clear hw4 wkey HW3 c1 f1
        go_wp2_with fail
        go_ret
        exact ⟨rfl, g2, _, _, HF.out, by rw [List.length_take]; omega, by omega, HK.out, .inr (by rw [HG2.out, HSZ.out]; exact Nat.le_refl _)⟩
      · rw [if_neg hroom, if_neg hroom]
        go_enter Tryz.func34, Tryz.ntmps34
        go_wp2_with fail
        refine key.mono ?_
        rintro e w2 ⟨rfl, d1⟩
        have H2 := Hid.mk' (H.out.dr d1)
        have KK1 : Hid (Kept (pkS p g) w w2) := Kept.of_below (d1.below _)
        clear key d1
        obtain ⟨c0, c1, c2, c3, f1, f2, f3⟩ := H2.out.cells
        have HF := Hid.mk' (H2.out.headPos k (by omega) (by omega) hm)
        have hrow2 := H2.out.row
        have hgp : ¬ g = p := by have := H2.out.lt; omega
        have hgp' : ¬ p = g := by have := H2.out.lt; omega
        have hm' : m ≤ 100000 := H2.out.mvs
        obtain ⟨W3, hW3⟩ : ∃ W3, W3 = w2.setCell ⟨p, 1, none⟩ (.int .i64 ((A.length : Int) - k)) := ⟨_, rfl⟩
        have k3 : Kept (pkS p g) w W3 := by rw [hW3]; exact (KK1.out).setCell (p := ⟨p, 1, none⟩) (fun _ => .inl rfl) _
        have q0 : W3.cell? ⟨p, 0, none⟩ = some (.slice (some ⟨g, 0, none⟩) (A.length + B.length + D.length) (A.length + B.length + D.length)) := by rw [hW3, World.cell?_setCell_other _ _ _ _ (by simp)]; exact c0
        have q1 : W3.cell? ⟨p, 1, none⟩ = some (.int .i64 ((A.length : Int) - k)) := by rw [hW3]; exact World.cell?_setCell_same _ _ _ c1
        have q3 : W3.cell? ⟨p, 3, none⟩ = some (.int .i64 m) := by rw [hW3, World.cell?_setCell_other _ _ _ _ (by simp)]; exact c3
        have f3' : W3.frozen? ⟨p, 3, none⟩ = false := by rw [hW3, World.frozen?_setCell]; exact f3
        have row3 : W3.heap[g]? = some (.cells ((A ++ (B ++ D)).map (Value.int .u8)).toArray 5 (0, 0)) := by rw [hW3, Below.heap_setCell _ _ _ _ hgp]; exact hrow2
        have wkey := wipe_yes p g (A.length + B.length + D.length) (A.length - k) k W3 _ q0 row3 (by omega) (by simp; omega) (by omega) (by omega)
        rw [show ((A.length - k : Nat) : Int) = (A.length : Int) - k by omega] at wkey
        have q3' : (W3.setCells g (A.length - k) (List.replicate k (.int .u8 0))).cell? ⟨p, 3, none⟩ = some (.int .i64 m) := by
          rw [World.cell?_of_block (w := W3) (heap_setCells_other hgp' _ _ _ (lt_of_cell q3))]; exact q3
        have f3'' : (W3.setCells g (A.length - k) (List.replicate k (.int .u8 0))).frozen? ⟨p, 3, none⟩ = false := by
          rw [World.frozen?_of_block (w := W3) (a := ⟨p, 3, none⟩) (heap_setCells_other hgp' _ _ _ (lt_of_cell q3))]; exact f3'
        have HK : Hid (Kept (pkS p g) w ((W3.setCells g (A.length - k) (List.replicate k (.int .u8 0))).setCell ⟨p, 3, none⟩ (.int .i64 ((m : Int) + 1)))) := (k3.setCells _ _ _ (fun _ => .inr rfl)).setCell (p := ⟨p, 3, none⟩) (fun _ => .inl rfl) _
        rw [← hW3] at HF
        have HW3 := Hid.mk' hW3
        clear hW3 k3 q0 q1 q3 f3' row3 hrow2 c0 c2 c3 f2 f3
        go_wp2_with fail
        rw [← HW3.out]
        refine wkey.mono ?_
        rintro e w4 ⟨rfl, hw4⟩
        rw [← hw4] at q3' f3'' HF HK
        clear hw4 wkey HW3 c1 f1
        go_wp2_with fail
        go_ret
        exact ⟨rfl, g, _, _, HF.out, by rw [List.length_take]; omega, rfl, HK.out, .inl rfl⟩
    · obtain ⟨k, rfl⟩ : ∃ k : Nat, n = -(k : Int) := ⟨(-n).toNat, by omega⟩
      have hroom : ¬ (-(k : Int) > A.length) := by omega
      rw [if_neg hroom, if_neg hroom]
      have hBeq : (if 0 ≤ -(k : Int) then List.replicate (-(k : Int)).toNat 0 ++ B else B.drop (-(-(k : Int))).toNat) = B.drop k := by
        by_cases hk : k = 0
        · subst hk; simp
        · rw [if_neg (by omega), show (-(-(k : Int))).toNat = k by omega]
      rw [hBeq]
      clear hBeq
      go_enter Tryz.func34, Tryz.ntmps34
      go_wp2_with fail
      refine key.mono ?_
      rintro e w2 ⟨rfl, d1⟩
      have H2 := Hid.mk' (H.out.dr d1)
      have KK1 : Hid (Kept (pkS p g) w w2) := Kept.of_below (d1.below _)
      clear key d1
      obtain ⟨c0, c1, c2, c3, f1, f2, f3⟩ := H2.out.cells
      have hm' : m ≤ 100000 := H2.out.mvs
      have HF := Hid.mk' (H2.out.headNeg k (by omega) hm)
      have HK : Hid (Kept (pkS p g) w ((w2.setCell ⟨p, 1, none⟩ (.int .i64 ((A.length : Int) + k))).setCell ⟨p, 3, none⟩ (.int .i64 ((m : Int) + 1)))) := (KK1.out.setCell (p := ⟨p, 1, none⟩) (fun _ => .inl rfl) _).setCell (p := ⟨p, 3, none⟩) (fun _ => .inl rfl) _
      go_wp2_with fail
      refine (wipe_no p _ (-(k : Int)) _ (by omega)).mono ?_
      rintro e w3 ⟨rfl, rfl⟩
      go_wp2_with fail
      go_ret
      exact ⟨rfl, g, _, _, HF.out, by rw [List.length_append, List.length_take]; omega, rfl, HK.out, .inl rfl⟩
  · unfold hB hA hD mM
    rw [if_neg he, if_neg he, if_neg he, if_neg he]
    have key := may_any p g A B D m n w h
    have HE := Hid.mk' he
    have hne : (mayE B.length n != 0) = true := by simpa using he
    clear he
    generalize mayE B.length n = E at *
    have H := Hid.mk' h
    clear h
    go_enter Tryz.func34, Tryz.ntmps34
    go_wp2_with fail
    refine key.mono ?_
    rintro e w1 ⟨rfl, d1⟩
    clear key
    go_wp2_with fail
    go_ret
    exact ⟨rfl, g, A, D, H.out.dr d1, rfl, rfl, Kept.of_below (d1.below _), .inl rfl⟩

/-- What Tail makes of the bytes and of the room. -/
def tB (n : Int) (B : List Int) : List Int := if mayE B.length n = 0 then (if 0 ≤ n then B ++ List.replicate n.toNat 0 else B.take ((B.length : Int) + n).toNat) else B

def tA (b : Nat) (n : Int) (a d : Nat) : Nat := if mayE b n = 0 then (if n > d then 64 else a) else a

def tD (b : Nat) (n : Int) (d : Nat) : Nat := if mayE b n = 0 then (if n > d then 64 else (d - n).toNat) else d

/-- The end is moved back: bytes go. -/
theorem PkIs.tailNeg {w : World} {p g : Nat} {A B D : List Int} {m : Nat} (h : PkIs w p g A B D m) (k : Nat) (hk : k ≤ B.length) (hm : m + 1 ≤ 100000) :
    PkIs ((w.setCell ⟨p, 2, none⟩ (.int .i64 ((A.length : Int) + B.length - k))).setCell ⟨p, 3, none⟩ (.int .i64 ((m : Int) + 1))) p g A (B.take (B.length - k)) (B.drop (B.length - k) ++ D) (m + 1) := by
  have hlt := h.lt
  have e1 : (B.take (B.length - k)).length = B.length - k := by rw [List.length_take]; omega
  have e2 : (B.drop (B.length - k) ++ D).length = k + D.length := by rw [List.length_append, List.length_drop]; omega
  have e3 : A ++ (B.take (B.length - k) ++ (B.drop (B.length - k) ++ D)) = A ++ (B ++ D) := by rw [← List.append_assoc (B.take _), List.take_append_drop]
  have hall := h.all
  have hmost := h.most
  refine ⟨⟨?_, by omega, by omega, by omega⟩, ?_, hlt, by rw [e3]; exact h.bytes, by omega, by omega, hm⟩
  · rw [Go.heap_setCell_same _ p 3 _ _ _ (Go.heap_setCell_same _ p 2 _ _ _ h.raw.box), e1, e2]
    rw [show A.length + (B.length - k) + (k + D.length) = A.length + B.length + D.length by omega, show ((A.length + (B.length - k) : Nat) : Int) = (A.length : Int) + B.length - k by omega]
    simp
  · rw [Below.heap_setCell _ _ _ _ (by show g ≠ p; omega), Below.heap_setCell _ _ _ _ (by show g ≠ p; omega), e3]
    exact h.row

/-- The end is moved forth: noughts come. -/
theorem PkIs.tailPos {w : World} {p g : Nat} {A B D : List Int} {m : Nat} (h : PkIs w p g A B D m) (k : Nat) (hk : k ≤ D.length) (hb : B.length + k ≤ 2048) (hm : m + 1 ≤ 100000) :
    PkIs (((w.setCells g (A.length + B.length) (List.replicate k (.int .u8 0))).setCell ⟨p, 2, none⟩ (.int .i64 ((A.length : Int) + B.length + k))).setCell ⟨p, 3, none⟩ (.int .i64 ((m : Int) + 1))) p g A (B ++ List.replicate k 0) (D.drop k) (m + 1) := by
  have hlt := h.lt
  have e1 : (D.drop k).length = D.length - k := List.length_drop
  have e2 : (B ++ List.replicate k (0 : Int)).length = B.length + k := by rw [List.length_append, List.length_replicate]
  have hall := h.all
  have hmost := h.most
  have hne : g ≠ p := by omega
  have hp1 : (w.setCells g (A.length + B.length) (List.replicate k (.int .u8 0))).heap[p]? = _ := (heap_setCells_other (fun e => hne e.symm) _ _ _ h.raw.lt).trans h.raw.box
  refine ⟨⟨?_, by omega, by omega, by omega⟩, ?_, hlt, Bytes.of3 h.bytes.mid.1 (bytes_append h.bytes.mid.2.1 (Bytes.zeros _)) (h.bytes.mid.2.2.drop _), by omega, by omega, hm⟩
  · rw [Go.heap_setCell_same _ p 3 _ _ _ (Go.heap_setCell_same _ p 2 _ _ _ hp1), e1, e2]
    rw [show A.length + (B.length + k) + (D.length - k) = A.length + B.length + D.length by omega, show ((A.length + (B.length + k) : Nat) : Int) = (A.length : Int) + B.length + k by omega]
    simp
  · rw [Below.heap_setCell _ _ _ _ hne, Below.heap_setCell _ _ _ _ hne, heap_setCells _ _ _ _ _ _ h.row (by simp; omega)]
    congr 3
    have e5 : ((A ++ (B ++ D)).map (Value.int .u8)) = (A ++ B).map (Value.int .u8) ++ D.map (Value.int .u8) := by rw [← List.append_assoc, List.map_append]
    simp only [List.length_replicate]
    rw [e5, List.take_left' (by simp), ← List.drop_drop, List.drop_left' (by simp)]
    simp

/-- May size bytes from at on be asked for, where there are b? -/
def askE (b : Nat) (x k : Int) : Int := if k < 1 ∨ k > 8 then 2 else if x < 0 ∨ k > (b : Int) - x then 20 else 0

theorem ask_zero {b : Nat} {x k : Int} : askE b x k = 0 ↔ 1 ≤ k ∧ k ≤ 8 ∧ 0 ≤ x ∧ x + k ≤ b := by
  unfold askE
  constructor
  · intro h
    by_cases h1 : k < 1 ∨ k > 8
    · rw [if_pos h1] at h; omega
    · rw [if_neg h1] at h
      by_cases h2 : x < 0 ∨ k > (b : Int) - x
      · rw [if_pos h2] at h; omega
      · omega
  · intro h
    rw [if_neg (by omega), if_neg (by omega)]

set_option maxHeartbeats 400000 in
theorem field_no (p g : Nat) (A B D : List Int) (m : Nat) (x k : Int) (w : World) (h : PkIs w p g A B D m) (hx : -9223372036854775808 ≤ x) (hx' : x ≤ 9223372036854775807) (he : askE B.length x k ≠ 0) :
    Calls Tryz.prog 110 #[.pointer (some ⟨p, 0, none⟩), .int .i64 x, .int .i64 k] w fun e w' => e = .returned (.tuple #[.slice none 0 0, .int .i64 (askE B.length x k)]) ∧ Dr w w' := by
  have q0 := h.raw.cell.1
  have hb := h.most
  have H := Hid.mk' h
  clear h
  unfold askE at he ⊢
  by_cases h1 : k < 1 ∨ k > 8
  · rw [if_pos h1]
    rcases h1 with h1 | h1
    · go_enter Tryz.func110, Tryz.ntmps110
      go_wp2_with fail
      refine (isNone_no p _ _ _ w q0).mono ?_
      rintro e w1 ⟨rfl, rfl⟩
      go_wp2_with fail
      go_ret2
      exact ⟨rfl, Dr.refl _⟩
    · go_enter Tryz.func110, Tryz.ntmps110
      go_wp2_with fail
      refine (isNone_no p _ _ _ w q0).mono ?_
      rintro e w1 ⟨rfl, rfl⟩
      go_wp2_with fail
      go_ret2
      exact ⟨rfl, Dr.refl _⟩
  · rw [if_neg h1] at he ⊢
    by_cases h2 : x < 0 ∨ k > (B.length : Int) - x
    · rw [if_pos h2]
      by_cases h3 : x < 0
      · clear he
        go_enter Tryz.func110, Tryz.ntmps110
        go_wp2_with fail
        refine (isNone_no p _ _ _ w q0).mono ?_
        rintro e w1 ⟨rfl, rfl⟩
        go_wp2_with fail
        go_ret2
        exact ⟨rfl, Dr.refl _⟩
      · clear he
        have h4 : k > (B.length : Int) - x := by omega
        go_enter Tryz.func110, Tryz.ntmps110
        go_wp2_with fail
        refine (isNone_no p _ _ _ w q0).mono ?_
        rintro e w1 ⟨rfl, rfl⟩
        go_wp2_with fail
        refine (len_any p g A B D m w H.out).mono ?_
        rintro e w1 ⟨rfl, d1⟩
        go_wp2_with fail
        go_ret2
        exact ⟨rfl, d1⟩
    · rw [if_neg h2] at he; exact absurd rfl he

set_option maxHeartbeats 400000 in
theorem field_yes (p g : Nat) (A B D : List Int) (m : Nat) (x k : Nat) (w : World) (h : PkIs w p g A B D m) (h1 : 1 ≤ k) (h8 : k ≤ 8) (hx : x + k ≤ B.length) :
    Calls Tryz.prog 110 #[.pointer (some ⟨p, 0, none⟩), .int .i64 x, .int .i64 k] w fun e w' => e = .returned (.tuple #[.slice (some ⟨g, A.length + x, none⟩) k (B.length - x), .int .i64 0]) ∧ Dr w w' := by
  have q0 := h.raw.cell.1
  have hb := h.most
  have H := Hid.mk' h
  clear h
  have hO : pO A B = A.length := by unfold pO; rw [if_neg (by omega)]
  have e1 : ((x : Int) + (k : Int)).toNat - x = k := by omega
  have e2 : ¬ B.length = x := by omega
  go_enter Tryz.func110, Tryz.ntmps110
  go_wp2_with fail
  refine (isNone_no p _ _ _ w q0).mono ?_
  rintro e w1 ⟨rfl, rfl⟩
  go_wp2_with fail
  refine (len_any p g A B D m w H.out).mono ?_
  rintro e w1 ⟨rfl, d1⟩
  have D1 := Hid.mk' d1
  clear d1
  go_wp2_with fail
  refine (data_any p g A B D m w1 (H.out.dr D1.out)).mono ?_
  rintro e w2 ⟨rfl, d2⟩
  have D2 : Dr w w2 := D1.out.trans d2
  clear d2
  rw [hO]
  clear hO
  go_wp2_with fail
  go_ret2
  exact ⟨rfl, D2⟩

/-- A number of bytes, the highest first. -/
def ld (L : List Int) : Int := L.foldl (fun v b => v * 256 + b) 0

theorem ld_snoc (L : List Int) (b : Int) : ld (L ++ [b]) = ld L * 256 + b := by simp [ld]

theorem ld_lt : ∀ (n : Nat) (L : List Int), L.length = n → Bytes L → 0 ≤ ld L ∧ ld L < 256 ^ n
  | 0, L, h, _ => by rw [List.eq_nil_of_length_eq_zero h]; simp [ld]
  | n + 1, L, h, hb => by
    have hne : L ≠ [] := by intro e; subst e; simp at h
    obtain ⟨M, b, rfl⟩ : ∃ M b, L = M ++ [b] := ⟨L.dropLast, L.getLast hne, (List.dropLast_concat_getLast hne).symm⟩
    have hl : M.length = n := by simpa using h
    have ih := ld_lt n M hl (fun z hz => hb z (by simp [hz]))
    have hbb := hb b (by simp)
    rw [ld_snoc, Int.pow_succ]
    generalize (256 : Int) ^ n = P at *
    omega

theorem or256 (V b : Int) (h0 : 0 ≤ V) (h1 : V ≤ 72057594037927935) (b0 : 0 ≤ b) (b1 : b ≤ 255) : bits .or .u64 (V * 256) b = V * 256 + b := by
  rw [u64_or _ _ (by omega) (by omega) b0 (by omega)]
  obtain ⟨v, rfl⟩ : ∃ v : Nat, V = v := ⟨V.toNat, by omega⟩
  obtain ⟨c, rfl⟩ : ∃ c : Nat, b = c := ⟨b.toNat, by omega⟩
  rw [show ((v : Int) * 256).toNat = 2 ^ 8 * v by omega, Int.toNat_natCast, ← Nat.two_pow_add_eq_or_of_lt (by omega)]
  omega

/-- What is loaded. -/
def ldV (B : List Int) (x k : Nat) : Int := ld ((B.drop x).take k)

theorem ldV_zero (B : List Int) (x : Nat) : ldV B x 0 = 0 := by simp [ldV, ld]

theorem ldV_succ (B : List Int) (x k : Nat) (h : x + k < B.length) : ldV B x (k + 1) = ldV B x k * 256 + B.getD (x + k) 0 := by
  unfold ldV
  have hk : k < (B.drop x).length := by rw [List.length_drop]; omega
  rw [List.take_succ_eq_append_getElem hk, ld_snoc]
  congr 1
  rw [List.getElem_drop, List.getD_eq_getElem?_getD, List.getElem?_eq_getElem h]; rfl

theorem ldV_lt (B : List Int) (x k : Nat) (hb : Bytes B) (h : x + k ≤ B.length) : 0 ≤ ldV B x k ∧ ldV B x k < 256 ^ k :=
  ld_lt k _ (by rw [List.length_take, List.length_drop]; omega) ((hb.drop _).take _)

theorem load_no (p g : Nat) (A B D : List Int) (m : Nat) (x k : Int) (w : World) (h : PkIs w p g A B D m) (hx : -9223372036854775808 ≤ x) (hx' : x ≤ 9223372036854775807) (he : askE B.length x k ≠ 0) :
    Calls Tryz.prog 50 #[.pointer (some ⟨p, 0, none⟩), .int .i64 x, .int .i64 k] w fun e w' => e = .returned (.tuple #[.int .u64 0, .int .i64 (askE B.length x k)]) ∧ Dr w w' := by
  have key := field_no p g A B D m x k w h hx hx' he
  clear h he
  generalize askE B.length x k = E at *
  go_enter Tryz.func50, Tryz.ntmps50
  go_wp2_with fail
  refine key.mono ?_
  rintro e w1 ⟨rfl, d1⟩
  clear key
  go_wp2_with fail
  go_loopw [10, 22] (fun v i wr => v = .int .u64 0 ∧ i = .int .i64 0 ∧ wr = w1) (fun _ _ _ => 0)
  case atStart => exact ⟨rfl, rfl, rfl⟩
  case round =>
    obtain ⟨rfl, rfl, rfl⟩ := hrel
    go_wp2_with fail
    go_ret2
    exact ⟨rfl, d1⟩

set_option maxHeartbeats 400000 in
theorem load_yes (p g : Nat) (A B D : List Int) (m : Nat) (x k : Nat) (w : World) (h : PkIs w p g A B D m) (h1 : 1 ≤ k) (h8 : k ≤ 8) (hx : x + k ≤ B.length) :
    Calls Tryz.prog 50 #[.pointer (some ⟨p, 0, none⟩), .int .i64 x, .int .i64 k] w fun e w' => e = .returned (.tuple #[.int .u64 (ldV B x k), .int .i64 0]) ∧ Dr w w' := by
  have key := field_yes p g A B D m x k w h h1 h8 hx
  have H := Hid.mk' h
  have hmost := h.most
  clear h
  go_enter Tryz.func50, Tryz.ntmps50
  go_wp2_with fail
  refine key.mono ?_
  rintro e w1 ⟨rfl, d1⟩
  clear key
  go_wp2_with fail
  go_loopw [10, 22] (fun v i wr => ∃ j : Nat, j ≤ k ∧ i = .int .i64 j ∧ v = .int .u64 (ldV B x j) ∧ wr = w1) (fun _ i _ => k - (intOf i).toNat)
  case atStart => exact ⟨0, Nat.zero_le _, rfl, by rw [ldV_zero], rfl⟩
  case round =>
    obtain ⟨j, hj, rfl, rfl, rfl⟩ := hrel
    by_cases hlt : j < k
    · have cc : wr.cell? ⟨g, A.length + x + j, none⟩ = some (.int .u8 (B.getD (x + j) 0)) := by
        have hb := (H.out.dr d1).bs
        rcases hb.lies with h0 | ⟨b, off, e, hc⟩
        · omega
        · have hO : pO A B = A.length := by unfold pO; rw [if_neg (by omega)]
          rw [hO] at e
          cases e
          rw [Nat.add_assoc]; exact hc (x + j) (by omega)
      have hs := ldV_succ B x j (by omega)
      have hv := ldV_lt B x j H.out.bytes.mid.2.1 (by omega)
      have hbb := H.out.bytes.mid.2.1.getD (x + j)
      have hp7 : (256 : Int) ^ j ≤ 72057594037927936 := by
        have : (256 : Nat) ^ j ≤ 256 ^ 7 := Nat.pow_le_pow_right (by omega) (by omega)
        have e : (256 : Nat) ^ 7 = 72057594037927936 := by decide
        have c : ((256 ^ j : Nat) : Int) = (256 : Int) ^ j := by simp
        omega
      have HS := Hid.mk' hs
      clear hs
      generalize B.getD (x + j) 0 = b at *
      generalize ldV B x j = V at *
      have hv0 : 0 ≤ V := hv.1
      have hv1 : V ≤ 72057594037927935 := by omega
      have hb0 : 0 ≤ b := hbb.1
      have hb1 : b ≤ 255 := hbb.2
      clear hv hbb hp7
      have hsp : (j : Int) < (k : Int) := by omega
      go_wp2_with fail
      go_roundw
      case rel =>
        refine ⟨j + 1, hlt, by go_num, ?_, trivial⟩
        rw [HS.out, or256 V b hv0 (by omega) hb0 hb1]
      case measure => simp [intOf]; omega
    · obtain rfl : j = k := by omega
      go_wp2_with fail
      go_ret2
      exact ⟨rfl, d1⟩

/-- What is stored: the highest byte first. -/
def stV : List Int → Nat → Nat → Int → List Int
  | B, _, 0, _ => B
  | B, x, k + 1, v => stV (B.set (x + k) (v % 256)) x k (v / 256)

theorem stV_length : ∀ (k : Nat) (B : List Int) (x : Nat) (v : Int), (stV B x k v).length = B.length
  | 0, _, _, _ => rfl
  | k + 1, B, x, v => by rw [stV, stV_length k]; simp

/-- A byte of a packet is written. -/
theorem PkIs.put {w : World} {p g : Nat} {A B D : List Int} {m : Nat} (h : PkIs w p g A B D m) (y : Nat) (z : Int) (hy : y < B.length) (z0 : 0 ≤ z) (z1 : z ≤ 255) :
    PkIs (w.setCell ⟨g, A.length + y, none⟩ (.int .u8 z)) p g A (B.set y z) D m := by
  have hlt := h.lt
  have hl : (B.set y z).length = B.length := by simp
  refine ⟨⟨?_, by omega, by omega, by rw [hl]; exact h.raw.big⟩, ?_, hlt, ?_, by rw [hl]; exact h.most, by rw [hl]; exact h.all, h.mvs⟩
  · rw [Below.heap_setCell _ _ _ _ (by show p ≠ g; omega), hl]
    exact h.raw.box
  · rw [Go.heap_setCell_same _ g _ _ _ _ h.row]
    congr 2
    apply Array.toList_inj.1
    rw [Array.toList_setIfInBounds]
    show ((A ++ (B ++ D)).map (Value.int .u8)).set _ _ = (A ++ (B.set y z ++ D)).map (Value.int .u8)
    rw [← List.map_set, List.set_append_right _ _ (by omega), Nat.add_sub_cancel_left, List.set_append_left _ _ hy]
  · obtain ⟨h1, h2, h3⟩ := h.bytes.mid
    exact Bytes.of3 h1 (bytes_set h2 y z z0 z1) h3

theorem PkIs.byte {w : World} {p g : Nat} {A B D : List Int} {m : Nat} (h : PkIs w p g A B D m) (y : Nat) (hy : y < B.length) :
    w.cell? ⟨g, A.length + y, none⟩ = some (.int .u8 (B.getD y 0)) ∧ w.frozen? ⟨g, A.length + y, none⟩ = false := by
  refine ⟨?_, frozen_of_row w g _ _ _ h.row⟩
  rw [cell_of_row w g _ _ _ _ h.row]
  simp only [List.getElem?_toArray, List.getElem?_map]
  rw [List.getElem?_append_right (by omega), Nat.add_sub_cancel_left, List.getElem?_append_left hy, List.getElem?_eq_getElem hy]
  simp [hy]

/-- What Load and Store answer and leave, whatever is asked. -/
def ldE (B : List Int) (x k : Int) : Int := if askE B.length x k = 0 then ldV B x.toNat k.toNat else 0

def stE (B : List Int) (x k v : Int) : List Int := if askE B.length x k = 0 then stV B x.toNat k.toNat v else B

theorem stE_length (B : List Int) (x k v : Int) : (stE B x k v).length = B.length := by
  unfold stE; split
  · exact stV_length _ _ _ _
  · rfl

theorem load_any (p g : Nat) (A B D : List Int) (m : Nat) (x k : Int) (w : World) (h : PkIs w p g A B D m) (hx : -9223372036854775808 ≤ x) (hx' : x ≤ 9223372036854775807) :
    Calls Tryz.prog 50 #[.pointer (some ⟨p, 0, none⟩), .int .i64 x, .int .i64 k] w fun e w' => e = .returned (.tuple #[.int .u64 (ldE B x k), .int .i64 (askE B.length x k)]) ∧ Dr w w' := by
  unfold ldE
  by_cases he : askE B.length x k = 0
  · rw [if_pos he, he]
    obtain ⟨h1, h2, h3, h4⟩ := ask_zero.1 he
    obtain ⟨x', rfl⟩ : ∃ t : Nat, x = t := ⟨x.toNat, by omega⟩
    obtain ⟨k', rfl⟩ : ∃ t : Nat, k = t := ⟨k.toNat, by omega⟩
    exact load_yes p g A B D m x' k' w h (by omega) (by omega) (by omega)
  · rw [if_neg he]
    exact load_no p g A B D m x k w h hx hx' he

set_option maxHeartbeats 400000 in
theorem head_no (v : Value) (n : Int) (w : World) (h : NoPk w v) :
    Calls Tryz.prog 34 #[v, .int .i64 n] w fun x w' => x = .returned (.int .i64 1) ∧ w = w' := by
  go_enter Tryz.func34, Tryz.ntmps34
  go_wp2_with fail
  refine (may_no v n w h).mono ?_
  rintro x w1 ⟨rfl, rfl⟩
  go_wp2_with fail
  go_ret
  exact ⟨rfl, rfl⟩

set_option maxHeartbeats 400000 in
theorem field_nil (v : Value) (x k : Int) (w : World) (h : NoPk w v) :
    Calls Tryz.prog 110 #[v, .int .i64 x, .int .i64 k] w fun e w' => e = .returned (.tuple #[.slice none 0 0, .int .i64 1]) ∧ w = w' := by
  go_enter Tryz.func110, Tryz.ntmps110
  go_wp2_with fail
  refine (isNone_yes v w h).mono ?_
  rintro x w1 ⟨rfl, rfl⟩
  go_wp2_with fail
  go_ret2
  exact ⟨rfl, rfl⟩

set_option maxHeartbeats 400000 in
theorem load_nil (v : Value) (x k : Int) (w : World) (h : NoPk w v) :
    Calls Tryz.prog 50 #[v, .int .i64 x, .int .i64 k] w fun e w' => e = .returned (.tuple #[.int .u64 0, .int .i64 1]) ∧ w = w' := by
  go_enter Tryz.func50, Tryz.ntmps50
  go_wp2_with fail
  refine (field_nil v x k w h).mono ?_
  rintro e w1 ⟨rfl, rfl⟩
  go_wp2_with fail
  go_loopw [10, 22] (fun v i wr => v = .int .u64 0 ∧ i = .int .i64 0 ∧ w = wr) (fun _ _ _ => 0)
  case atStart => exact ⟨rfl, rfl, rfl⟩
  case round =>
    obtain ⟨rfl, rfl, rfl⟩ := hrel
    go_wp2_with fail
    go_ret2
    exact ⟨rfl, rfl⟩

end Go.Proofs.YtednmdkjhiihcaaGreat
