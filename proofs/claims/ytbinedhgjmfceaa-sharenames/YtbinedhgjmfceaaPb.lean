/- A packet whole (PkIs): what stands ahead of its bytes, its bytes, what stands behind; contracts of bytes.Clone, Bytes, mayGrow. -/
import Derived.Test.YtbinedhgjmfceaaPa
namespace Go.Proofs.Ytbinedhgjmfceaa
open Go.ChangeShapes Go.WideShapes Go.ChangeAt Go.RowKit

structure PkIs (w : World) (p g : Nat) (A B D : List Int) (m : Nat) : Prop where
  raw : Raw w p g (A.length + B.length + D.length) A.length (A.length + B.length) m
  row : w.heap[g]? = some (.cells ((A ++ (B ++ D)).map (Value.int .u8)).toArray 5 (0, 0))
  lt : p < g
  bytes : Bytes (A ++ (B ++ D))
  most : B.length ≤ 2048
  all : A.length + B.length + D.length ≤ 2560
  mvs : m ≤ 100000

/-- The blocks that a packet may write. -/
def pkS (p g : Nat) : Nat → Prop := fun k => k = p ∨ k = g

theorem PkIs.glt {w : World} {p g : Nat} {A B D : List Int} {m : Nat} (h : PkIs w p g A B D m) : g < w.heap.size := (Array.getElem?_eq_some_iff.1 h.row).1
theorem PkIs.kept {w w' : World} {p g : Nat} {A B D : List Int} {m : Nat} {S : Nat → Prop} (h : PkIs w p g A B D m) (k : Kept S w w') (h1 : ¬ S p) (h2 : ¬ S g) : PkIs w' p g A B D m :=
  ⟨⟨by rw [k.block p h.raw.lt h1]; exact h.raw.box, h.raw.ae, h.raw.en, h.raw.big⟩, by rw [k.block g h.glt h2]; exact h.row, h.lt, h.bytes, h.most, h.all, h.mvs⟩
theorem PkIs.below {w w' : World} {p g : Nat} {A B D : List Int} {m : Nat} (h : PkIs w p g A B D m) (k : Below w.heap.size w w') : PkIs w' p g A B D m :=
  h.kept (Kept.of_below (S := fun _ => False) k) (fun h => h) (fun h => h)
theorem PkIs.dr {w w' : World} {p g : Nat} {A B D : List Int} {m : Nat} (h : PkIs w p g A B D m) (k : Dr w w') : PkIs w' p g A B D m := h.below (k.below _)

/-- Where its bytes begin, as Data tells it. -/
def pO (A B : List Int) : Nat := if B.length = 0 then 0 else A.length

theorem Bytes.mid {A B D : List Int} (h : Bytes (A ++ (B ++ D))) : Bytes A ∧ Bytes B ∧ Bytes D :=
  ⟨fun z hz => h z (by simp [hz]), fun z hz => h z (by simp [hz]), fun z hz => h z (by simp [hz])⟩
theorem Bytes.of3 {A B D : List Int} (h1 : Bytes A) (h2 : Bytes B) (h3 : Bytes D) : Bytes (A ++ (B ++ D)) := bytes_append h1 (bytes_append h2 h3)
theorem Bytes.take {B : List Int} (h : Bytes B) (k : Nat) : Bytes (B.take k) := fun z hz => h z (List.mem_of_mem_take hz)
theorem Bytes.drop {B : List Int} (h : Bytes B) (k : Nat) : Bytes (B.drop k) := fun z hz => h z (List.mem_of_mem_drop hz)
theorem Bytes.zeros (k : Nat) : Bytes (List.replicate k 0) := fun z hz => by have := List.eq_of_mem_replicate hz; omega

theorem PkIs.bs {w : World} {p g : Nat} {A B D : List Int} {m : Nat} (h : PkIs w p g A B D m) : Bs w (some ⟨g, pO A B, none⟩) B := by
  by_cases h0 : B.length = 0
  · exact ⟨by omega, h.bytes.mid.2.1, .inl h0⟩
  · rw [show pO A B = A.length by simp only [pO, h0, if_false]]
    refine Bs.mk_row A.length B h.row h.bytes.mid.2.1 (by have := h.most; omega) (fun i hi => ?_)
    rw [List.getElem?_append_right (by omega), List.getElem?_append_left (by omega)]
    congr 1; omega

theorem data_any (p g : Nat) (A B D : List Int) (m : Nat) (w : World) (h : PkIs w p g A B D m) :
    Calls Try.prog 37 #[.pointer (some ⟨p, 0, none⟩)] w fun x w' => x = .returned (.slice (some ⟨g, pO A B, none⟩) B.length B.length) ∧ Dr w w' := by
  have h1 := data_raw p g _ _ _ m w h.raw
  have e1 : A.length + B.length - A.length = B.length := by omega
  have e2 : dOff A.length (A.length + B.length) = pO A B := by
    unfold dOff pO
    by_cases h0 : B.length = 0
    · simp [h0]
    · rw [if_neg (by omega), if_neg h0]
  rw [e1, e2] at h1
  exact h1

theorem len_any (p g : Nat) (A B D : List Int) (m : Nat) (w : World) (h : PkIs w p g A B D m) :
    Calls Try.prog 47 #[.pointer (some ⟨p, 0, none⟩)] w fun x w' => x = .returned (.int .i64 (B.length : Int)) ∧ Dr w w' := by
  have h1 := len_raw p g _ _ _ m w h.raw
  rw [show A.length + B.length - A.length = B.length by omega] at h1
  exact h1

theorem moves_any (p g : Nat) (A B D : List Int) (m : Nat) (w : World) (h : PkIs w p g A B D m) :
    Calls Try.prog 31 #[.pointer (some ⟨p, 0, none⟩)] w fun x w' => x = .returned (.int .i64 m) ∧ w = w' :=
  moves_raw p g _ _ _ m w h.raw

set_option maxHeartbeats 400000 in
theorem clone_any (x : Addr) (c : Nat) (zs : List Int) (w : World) (hB : Bs w (some x) zs) :
    Calls Try.prog 60 #[.slice (some x) zs.length c] w fun e w' => ∃ v, e = .returned v ∧ w'.ownsRow w.heap.size 5 1 v zs.length (zs.map (Value.int .u8)) ∧ Below w.heap.size w w' := by
  obtain ⟨i0, hi, hz0, hz1, hz2⟩ := info_parts info_u8
  have hnn := nil_no x zs.length c
  have hlen := hB.len
  have b0 : Below w.heap.size w (w.alloc (.cells #[] 5)) := (Below.refl _ _).alloc (Nat.le_refl _) _
  have HB := Hid.mk' (hB.below b0)
  have hown0 : (w.alloc (.cells #[] 5)).ownsRow w.heap.size 5 1 (.slice (some ⟨w.heap.size, 0, none⟩) 0 0) 0 [] :=
    World.ownsRow_lit (base := w.heap.size) (size := 1) (e := 5) w #[] 0 (Nat.le_refl _) (by decide) rfl
  have HO := Hid.mk' hown0
  have hnews : ∀ j u, (zs.map (Value.int .u8))[j]? = some u → (w.alloc (.cells #[] 5)).cell? (x.add j) = some u := by
    intro j u hj
    have hlt : j < zs.length := by have := (List.getElem?_eq_some_iff.1 hj).1; simpa using this
    rcases HB.out.lies with h0 | ⟨b, off, h, hc⟩
    · omega
    · cases h
      rw [addr_add, hc j hlt]
      simp [hlt] at hj
      simp [hlt, hj]
  have HNW := Hid.mk' hnews
  have HB0 := Hid.mk' b0
  clear hB hown0 hnews b0
  go_enter Try.func60, Try.ntmps60
  go_wp2_with (first | (at_builtin; refine wpList_append_own _ rfl _ _ 22 rfl w.heap.size 5 i0 (.int .u8 0) 1 1 Try.underlying22 hi hz0 hz1 hz2 rfl (by decide) _ _ _ rfl HO.out x zs.length c (zs.map (Value.int .u8)) rfl (by simp) HNW.out ?c1 ?c2 ?c3 ?c4 ?_))
  case c1 => intro u hu; simp at hu; obtain ⟨z, _, rfl⟩ := hu; rfl
  case c2 => unfold maxLen; omega
  case c3 => omega
  case c4 => simp
  intro v' w1 hown hgrow hiff
  clear hiff
  have hb : Below w.heap.size w w1 := HB0.out.grown hgrow (by simp) (by intro k hk; simp [Value.ownBlock] at hk; omega)
  have HO1 : Hid (w1.ownsRow w.heap.size 5 1 v' zs.length (zs.map (Value.int .u8))) := hown
  clear hgrow hown
  go_wp2_with fail
  go_ret
  exact ⟨_, rfl, HO1.out, hb⟩

set_option maxHeartbeats 400000 in
theorem bytes_any (p g : Nat) (A B D : List Int) (m : Nat) (w : World) (h : PkIs w p g A B D m) :
    Calls Try.prog 43 #[.pointer (some ⟨p, 0, none⟩)] w fun e w' => ∃ v, e = .returned v ∧ w'.ownsRow w.heap.size 5 1 v B.length (B.map (Value.int .u8)) ∧ Below w.heap.size w w' := by
  have H := Hid.mk' h
  clear h
  go_enter Try.func43, Try.ntmps43
  go_wp2_with fail
  refine (data_any p g A B D m w H.out).mono ?_
  rintro x w1 ⟨rfl, d1⟩
  have D1 := Hid.mk' d1
  clear d1
  go_wp2_with fail
  refine (clone_any _ _ B w1 (H.out.dr D1.out).bs).mono ?_
  rintro x w2 ⟨v, rfl, hown, hb⟩
  have e1 : w1.heap = w.heap := D1.out.heap
  rw [e1] at hown hb
  have hb2 := (D1.out.below w.heap.size).trans hb
  clear e1 hb
  go_wp2_with fail
  go_ret
  exact ⟨v, rfl, hown, hb2⟩

set_option maxHeartbeats 400000 in
theorem bytes_no (v : Value) (w : World) (h : NoPk w v) :
    Calls Try.prog 43 #[v] w fun x w' => x = .returned (.slice none 0 0) ∧ w = w' := by
  have hq := nil_yes 0 0
  go_enter Try.func43, Try.ntmps43
  go_wp2_with fail
  refine (data_no v w h).mono ?_
  rintro x w1 ⟨rfl, rfl⟩
  go_wp2_with fail
  have hc : Calls Try.prog 60 #[.slice none 0 0] w fun x w' => x = .returned (.slice none 0 0) ∧ w = w' := by
    go_enter Try.func60, Try.ntmps60
    go_wp2_with fail
    go_ret
    exact ⟨rfl, rfl⟩
  refine hc.mono ?_
  rintro x w1 ⟨rfl, rfl⟩
  go_wp2_with fail
  go_ret
  exact ⟨rfl, rfl⟩

/-- May n bytes come or go where there are b? -/
def mayE (b : Nat) (n : Int) : Int := if n > 2048 - (b : Int) then 5 else if n < -(b : Int) then 6 else 0

set_option maxHeartbeats 400000 in
theorem may_any (p g : Nat) (A B D : List Int) (m : Nat) (n : Int) (w : World) (h : PkIs w p g A B D m) :
    Calls Try.prog 53 #[.pointer (some ⟨p, 0, none⟩), .int .i64 n] w fun x w' => x = .returned (.int .i64 (mayE B.length n)) ∧ Dr w w' := by
  have q0 := h.raw.cell.1
  have hb := h.most
  have H := Hid.mk' h
  clear h
  unfold mayE
  by_cases h1 : n > 2048 - (B.length : Int)
  · rw [if_pos h1]
    go_enter Try.func53, Try.ntmps53
    go_wp2_with fail
    refine (isNone_no p _ _ _ w q0).mono ?_
    rintro x w1 ⟨rfl, rfl⟩
    go_wp2_with fail
    refine (len_any p g A B D m w H.out).mono ?_
    rintro x w1 ⟨rfl, d1⟩
    go_wp2_with fail
    go_ret
    exact ⟨rfl, d1⟩
  · rw [if_neg h1]
    go_enter Try.func53, Try.ntmps53
    go_wp2_with fail
    refine (isNone_no p _ _ _ w q0).mono ?_
    rintro x w1 ⟨rfl, rfl⟩
    go_wp2_with fail
    refine (len_any p g A B D m w H.out).mono ?_
    rintro x w1 ⟨rfl, d1⟩
    go_wp2_with fail
    refine (len_any p g A B D m w1 (H.out.dr d1)).mono ?_
    rintro x w2 ⟨rfl, d2⟩
    have d3 := d1.trans d2
    by_cases h2 : n < -(B.length : Int)
    · go_wp2_with fail
      go_ret
      exact ⟨rfl, d3⟩
    · go_wp2_with fail
      go_ret
      exact ⟨rfl, d3⟩

set_option maxHeartbeats 400000 in
theorem may_no (v : Value) (n : Int) (w : World) (h : NoPk w v) :
    Calls Try.prog 53 #[v, .int .i64 n] w fun x w' => x = .returned (.int .i64 1) ∧ w = w' := by
  go_enter Try.func53, Try.ntmps53
  go_wp2_with fail
  refine (isNone_yes v w h).mono ?_
  rintro x w1 ⟨rfl, rfl⟩
  go_wp2_with fail
  go_ret
  exact ⟨rfl, rfl⟩
end Go.Proofs.Ytbinedhgjmfceaa
