/- The document's table and of. -/
import Derived.Test.YtagnaefpkgekmaaCc
import Derived.Test.YtagnaefpkgekmaaCj
namespace Go.Proofs.Ytagnaefpkgekmaa
open Go.ChangeShapes Go.WideShapes Go.ChangeAt Go.RowKit Go.Maps Go.Sort Go.Shelf
set_option maxRecDepth 10000

/-- The numbers of a function, from 0 on. -/
def tbU (f : Int → Int) (n : Nat) : List Value := (List.range n).map fun (i : Nat) => Value.int .i64 (f (i : Int))
def tb (f : Int → Int) : List Value := tbU f 257
theorem tb_len (f : Int → Int) : (tb f).length = 257 := by unfold tb tbU; rw [List.length_map, List.length_range]
theorem tb_get (f : Int → Int) {k : Nat} (h : k < 257) : (tb f)[k]? = some (.int .i64 (f k)) := by
  unfold tb tbU
  rw [List.getElem?_map, List.getElem?_range h]; rfl
theorem tb_set (f : Int → Int) (k : Nat) (n : Int) : (tb f).set k (.int .i64 n) = tb (upd f k n) := by
  unfold tb tbU
  apply List.ext_getElem?
  intro i
  rw [List.getElem?_set, List.getElem?_map, List.getElem?_map]
  by_cases hi : i < 257
  · rw [List.getElem?_range hi, List.length_map, List.length_range]
    by_cases e : k = i
    · subst e
      rw [if_pos rfl, if_pos hi]
      simp [upd]
    · rw [if_neg e]
      have : ¬ (i : Int) = (k : Int) := by omega
      simp [upd, this]
  · rw [List.getElem?_eq_none (l := List.range 257) (by simp; omega), List.length_map, List.length_range]
    by_cases e : k = i
    · subst e; rw [if_pos rfl, if_neg hi]; rfl
    · rw [if_neg e]; rfl
theorem tb_zero : List.replicate 257 (Value.int .i64 0) = tb (fun _ => 0) := by
  unfold tb tbU
  rw [List.map_const', List.length_range]
theorem tb_ext {f g : Int → Int} (h : ∀ z, f z = g z) : tb f = tb g := by rw [funext h]
/-- A row of 257 numbers. -/
def To (w : World) (base : Nat) (v : Value) (f : Int → Int) : Prop := w.ownsRow base 3 1 v 257 (tb f)
theorem To.slc {w : World} {base : Nat} {v : Value} {f : Int → Int} (h : To w base v f) : ∃ g c, v = .slice (some ⟨g, 0, none⟩) 257 c ∧ g < w.heap.size ∧ base ≤ g := by
  rcases h.2 with ⟨_, h0⟩ | ⟨g, cap, cur, rfl, hb, hh, _⟩
  · omega
  · exact ⟨g, cap, rfl, (Array.getElem?_eq_some_iff.1 hh).1, hb⟩
theorem To.at {w : World} {base g c : Nat} {f : Int → Int} (h : To w base (.slice (some ⟨g, 0, none⟩) 257 c) f) {k : Nat} (hk : k < 257) : w.cell? ⟨g, k, none⟩ = some (.int .i64 (f k)) ∧ w.frozen? ⟨g, k, none⟩ = false := by
  refine ⟨?_, h.frozenAt k⟩
  rw [h.cellAt k (by omega)]
  exact tb_get f hk
theorem To.set {w : World} {base g c : Nat} {f : Int → Int} (h : To w base (.slice (some ⟨g, 0, none⟩) 257 c) f) (k : Nat) (n : Int) : To (w.setCell ⟨g, k, none⟩ (.int .i64 n)) base (.slice (some ⟨g, 0, none⟩) 257 c) (upd f k n) := by
  have := (h.stored k (.int .i64 n)).1
  rw [tb_set] at this
  exact this
theorem To.below {w w' : World} {base : Nat} {v : Value} {f : Int → Int} (h : To w base v f) (hb : Below w.heap.size w w') : To w' base v f :=
  Kept.owns h (Kept.of_below (S := fun _ => False) hb) (fun _ _ e => e)
theorem To.ext {w : World} {base : Nat} {v : Value} {f g : Int → Int} (h : To w base v f) (e : ∀ z, g z = f z) : To w base v g := by
  have : g = f := funext e
  rw [this]; exact h
theorem int_info : ∃ i, Try.prog.info? 3 = some i ∧ i.zero = some (.int .i64 0) ∧ i.size = 1 ∧ i.bytes = 8 := info_parts (z := .int .i64 0) (by kernel_rfl)

set_option maxHeartbeats 2000000 in
theorem table_any (v : Value) (l : List Kn) (w : World) (h : Ks w v l) (hok : okF (-1) l = true) : Calls Try.prog 41 #[v] w fun e w' => (∃ t, e = .returned t ∧ To w' w.heap.size t (byN l)) ∧ Below w.heap.size w w' := by
  obtain ⟨iI, hi1, hi2, hi3, hi4⟩ := int_info
  obtain ⟨a, c, rfl, hl⟩ := h.lies
  have hlen := h.len
  have HB := Hid.mk' h.inb
  have HL := Hid.mk' hl
  have HOK := Hid.mk' hok
  clear h hl hok
  obtain ⟨n, hn⟩ : ∃ n, l.length = n := ⟨_, rfl⟩
  rw [hn] at hlen ⊢
  have HN := Hid.mk' hn
  clear hn
  go_enter Try.func41, Try.ntmps41
  go_wp2_with (refine wpList_make_full _ rfl _ _ 68 rfl w.heap.size 3 iI (.int .i64 0) 1 Try.underlying68 hi1 hi2 hi3 .i64 .i64 257 257 257 rfl rfl rfl rfl (by rw [hi4]; omega) (by unfold maxLen; omega) (Nat.le_refl _) ?_; intro w1 own1 gr1)
  have B1 : Hid (Below w.heap.size w w1) := Hid.mk' ((Below.refl _ w).grown gr1 (Nat.le_refl _) (fun k e => by cases e))
  have T1 : Hid (To w1 w.heap.size (.slice (some ⟨w.heap.size, 0, none⟩) 257 257) (byN (l.take 0))) := Hid.mk' (by
    have h1 := own1
    rw [show (Value.int IntKind.i64 0).cells = #[.int .i64 0] from rfl, toList_madeCells_one, Nat.mul_one, tb_zero] at h1
    exact h1)
  obtain ⟨g, hg⟩ : ∃ g, Hid (w.heap.size = g) := ⟨_, rfl⟩
  clear own1 gr1
  rw [hg.out] at B1 T1 ⊢
  go_loopw [4] (fun r wr => ∃ (k : Nat), r = .int .i64 k ∧ k ≤ n ∧ Hid (To wr g (.slice (some ⟨g, 0, none⟩) 257 257) (byN (l.take k))) ∧ Hid (Below g w wr)) (fun r _ => ((n : Int) - iv r).toNat)
  case atStart => exact ⟨0, rfl, Nat.zero_le _, T1, B1⟩
  case round =>
    clear T1 B1
    obtain ⟨k, rfl, hk, hT, hB⟩ := hrel
    by_cases hkn : k < n
    · obtain ⟨b, off, ea, hbl, c0, c1, i0, i1⟩ := lkn_at HL.out HB.out (show k < l.length by rw [HN.out]; exact hkn)
      subst ea
      rw [hg.out] at hbl
      have d0 := (hB.out.cell (p := ⟨b, off + k * 2, none⟩) hbl).trans c0
      have d1 := (hB.out.cell (p := ⟨b, off + k * 2 + 1, none⟩) hbl).trans c1
      have HT := Hid.mk' (fun z => by_take HOK.out (k := k) (by rw [HN.out]; exact hkn) z)
      have hA := ok_at HOK.out (k := k) (by rw [HN.out]; exact hkn)
      clear c0 c1
      generalize idA l k = I at *
      generalize bA l k = N at *
      obtain ⟨i, rfl⟩ : ∃ i : Nat, I = (i : Int) := ⟨I.toNat, by omega⟩
      have hi257 : i < 257 := by omega
      have hi257' : (i : Int) < 257 := by omega
      obtain ⟨e0, e1⟩ := hT.out.at hi257
      have hlk : (k : Int) < (n : Int) := by omega
      go_wp2_with fail
      have T5 : Hid (To ((wr.setCell ⟨g, i, none⟩ (.int .i64 N)).drew) g (.slice (some ⟨g, 0, none⟩) 257 257) (byN (l.take (k + 1)))) := Hid.mk' (World.ownsRow.drew ((hT.out.set i N).ext (fun z => HT.out z)))
      have B5 : Hid (Below g w ((wr.setCell ⟨g, i, none⟩ (.int .i64 N)).drew)) := Hid.mk' (by
        have h1 : Kept (fun j => j = g) w (wr.setCell ⟨g, i, none⟩ (.int .i64 N)) := Kept.setCell (S := fun j => j = g) (p := ⟨g, i, none⟩) ⟨hB.out.os, hB.out.tape, hB.out.output, hB.out.size, fun j hj _ => hB.out.block j (by rw [← hg.out]; exact hj)⟩ (fun _ => rfl) _
        exact h1.drew.below (by rw [hg.out]; exact Nat.le_refl _) (fun j hj e => by omega))
      go_region_with (fail)
      all_goals
        go_wp2_with fail
        go_roundw
        case rel => exact ⟨k + 1, by go_num, hkn, T5, B5⟩
        case measure => simp [iv]; omega
    · have hlk : ¬ (k : Int) < (n : Int) := by omega
      have hkn : k = n := by omega
      go_wp2_with fail
      go_ret
      rw [hg.out]
      refine ⟨⟨_, rfl, ?_⟩, hB.out⟩
      have := hT.out
      rw [hkn, ← HN.out, List.take_length] at this
      exact this

set_option maxHeartbeats 2000000 in
theorem of_any (base : Nat) (v : Value) (f : Int → Int) (w : World) (h : To w base v f) (hf : Fn f) : Calls Try.prog 42 #[v] w fun e w' => (∃ v, e = .returned v ∧ w'.ownsRow w.heap.size 60 2 v (nf f).length (knC (nf f))) ∧ Below w.heap.size w w' := by
  obtain ⟨iN, hi1, hi2, hi3, hi4⟩ := known_info
  obtain ⟨g, c, rfl, hgl, -⟩ := h.slc
  have HT := Hid.mk' h
  have HF := Hid.mk' hf
  have HNF : Hid (nf f = nfU f 257) := Hid.mk' (by unfold nf; rfl)
  clear h hf
  go_enter Try.func42, Try.ntmps42
  go_wp2_with fail
  have L0 : Hid (w.ownsRow w.heap.size 60 2 (.slice none 0 0) (nfU f 0).length (knC (nfU f 0))) := Hid.mk' (World.ownsRow_nil _ _ _ _)
  go_loopw [3, 4] (fun s r wr => ∃ k : Nat, r = .int .i64 k ∧ k ≤ 257 ∧ Hid (wr.ownsRow w.heap.size 60 2 s (nfU f k).length (knC (nfU f k))) ∧ Hid (Below w.heap.size w wr)) (fun _ r _ => ((257 : Int) - iv r).toNat)
  case atStart => exact ⟨0, rfl, by omega, L0, Hid.mk' (Below.refl _ _)⟩
  case round =>
    clear L0
    obtain ⟨k, rfl, hk, hL, hB⟩ := hrel
    by_cases hkn : k < 257
    · have hlk : (k : Int) < 257 := by omega
      have hlen := nfU_len f k
      have d0 := (hB.out.cell (p := ⟨g, k, none⟩) hgl).trans (HT.out.at hkn).1
      have hgl2 : g < wr.heap.size := Nat.lt_of_lt_of_le hgl hB.out.size
      have hlow := HF.out.low k
      have hhigh := HF.out.high k
      have HU : Hid (nfU f (k + 1) = nfU f k ++ (if f k = 0 then [] else [((k : Int), f k)])) := Hid.mk' rfl
      obtain ⟨NK1, HN1⟩ : ∃ NK1, Hid (nfU f (k + 1) = NK1) := ⟨_, rfl⟩
      rw [HN1.out] at HU
      generalize nfU f k = NK at *
      generalize f (k : Int) = V at *
      obtain ⟨m, hm⟩ : ∃ m, NK.length = m := ⟨_, rfl⟩
      rw [hm] at hL hlen
      have HM := Hid.mk' hm
      clear hm
      by_cases hV : V = 0
      · have HE : Hid (NK1 = NK) := Hid.mk' (by rw [HU.out, if_pos hV, List.append_nil])
        have hV2 : ¬ 0 < V := by omega
        have L5 : Hid (wr.ownsRow w.heap.size 60 2 u3 NK1.length (knC NK1)) := Hid.mk' (by rw [HE.out, HM.out]; exact hL.out)
        go_wp2_with fail
        go_roundw
        case rel => exact ⟨k + 1, by go_num, hkn, by rw [HN1.out]; exact L5, hB⟩
        case measure => simp [iv]; omega
      · have HE : Hid (NK1 = NK ++ [((k : Int), V)]) := Hid.mk' (by rw [HU.out, if_neg hV])
        have hV2 : 0 < V := by omega
        go_wp2_with (at_builtin; refine wpList_append_own2 rfl _ _ 22 rfl w.heap.size 60 iN (.agg #[.int .i64 0, .int .i64 0]) 2 16 Try.underlying22 hi1 hi2 hi3 hi4 rfl (by decide) _ _ _ rfl (hL.out.alloc _) ⟨wr.heap.size, 0, none⟩ 1 1 [.int .i64 k, .int .i64 V] rfl rfl (by intro j u hj; rw [addr_add, Nat.zero_add, World.cell?_alloc_new, List.getElem?_toArray]; exact hj) (by intro u hu; simp at hu; rcases hu with rfl | rfl <;> rfl) (by unfold maxLen; omega) (by omega) (by have := hB.out.size; simp; omega) ?_; intro v' w5 hown5 hgr5; intro hwh; have HO5 := Hid.mk' hown5; have HG5 := Hid.mk' hgr5; clear hown5 hgr5 hwh)
        have L5 : Hid (w5.ownsRow w.heap.size 60 2 v' NK1.length (knC NK1)) := Hid.mk' (by
          rw [HE.out, knC_append, List.length_append, HM.out]
          exact HO5.out)
        have B5 : Hid (Below w.heap.size w w5) := Hid.mk' ((hB.out.alloc hB.out.size _).grown HG5.out (by have := hB.out.size; simp; omega) (fun j e => own_base hL.out j e))
        clear HO5 HG5
        go_roundw
        case rel => exact ⟨k + 1, by go_num, hkn, by rw [HN1.out]; exact L5, B5⟩
        case measure => simp [iv]; omega
    · have hlk : ¬ (k : Int) < 257 := by omega
      have hkn : k = 257 := by omega
      go_wp2_with fail
      go_ret
      refine ⟨⟨_, rfl, ?_⟩, hB.out⟩
      have := hL.out
      rw [hkn, ← HNF.out] at this
      exact this
end Go.Proofs.Ytagnaefpkgekmaa
