/- The contracts of the document's own Out and Same. -/
import Derived.Test.YtnpcglgboemmcaaLp
import Derived.Deep.LoopGhost
namespace Go.Proofs.Ytnpcglgboemmcaa
open Go.ChangeShapes Go.WideShapes Go.ChangeAt Go.RowKit

/-- The ranges that are out. -/
def outs (R : List Rg) (F : List Bool) : List Rg := (R.zip F).filterMap fun p => if p.2 then some p.1 else none

theorem outs_step (R : List Rg) (F : List Bool) (k : Nat) (r : Rg) (f : Bool) (hr : R[k]? = some r) (hf : F[k]? = some f) : outs (R.take (k + 1)) (F.take (k + 1)) = outs (R.take k) (F.take k) ++ (if f then [r] else []) := by
  have h1 := (List.getElem?_eq_some_iff.1 hr).1
  have h2 := (List.getElem?_eq_some_iff.1 hf).1
  unfold outs
  have ht : ∀ j, (R.take j).zip (F.take j) = (R.zip F).take j := fun j => by simp [List.zip, List.take_zipWith]
  rw [ht, ht]
  have hz : (R.zip F)[k]? = some (r, f) := by rw [List.getElem?_zip_eq_some]; exact ⟨hr, hf⟩
  have hk := (List.getElem?_eq_some_iff.1 hz).1
  rw [List.take_succ_eq_append_getElem hk, List.filterMap_append, (List.getElem?_eq_some_iff.1 hz).2]
  cases f <;> simp

theorem outs_le (R : List Rg) (F : List Bool) : (outs R F).length ≤ R.length := by
  unfold outs
  exact Nat.le_trans (List.length_filterMap_le _ _) (by simp; omega)

theorem cell_pair_laid (w : World) (a b : Value) (t : TypeId) : ∀ j u, [a, b][j]? = some u → (w.alloc (.cells #[a, b] t)).cell? ((⟨w.heap.size, 0, none⟩ : Addr).add j) = some u := by
  intro j u hj
  rw [addr_add, Nat.zero_add, World.cell?_alloc_new]
  match j, hj with
  | 0, hj => simpa using hj
  | 1, hj => simpa using hj

set_option maxHeartbeats 2000000 in
theorem refout_any (q n : Nat) (av iv : Value) (R : List Rg) (F : List Bool) (w : World) (h : RefIs w q n av iv R F) :
    Calls Try.prog 22 #[.pointer (some ⟨q, 0, none⟩)] w fun e w' => ∃ v, e = .returned v ∧ w'.ownsRow w.heap.size 24 2 v (outs R F).length (rcells (outs R F)) ∧ Below w.heap.size w w' := by
  obtain ⟨i0, hif, hz0, hz1, hz2⟩ := info_parts info_range
  obtain ⟨c0, c1, c2, _⟩ := h.cell
  have hlt := h.lt
  have hmost := h.most
  obtain ⟨aa, ac, rfl⟩ := own_slice h.rowR
  obtain ⟨ia, ic, rfl⟩ := own_slice h.rowF
  have HR := Hid.mk' h
  clear h
  go_enter Try.func22, Try.ntmps22
  go_wp2_with fail
  go_loopg [3, 4] R.length (fun g s3 s4 wr => ∃ k : Nat, s4 = .int .i64 k ∧ k ≤ R.length ∧ R.length - k ≤ g ∧ Hid (Below w.heap.size w wr) ∧ Hid (wr.ownsRow w.heap.size 24 2 s3 (outs (R.take k) (F.take k)).length (rcells (outs (R.take k) (F.take k)))))
  case atStart => exact ⟨0, rfl, by omega, by omega, Below.refl _ _, World.ownsRow_nil _ _ _ _⟩
  case round =>
    obtain ⟨k, rfl, hk1, hk2, hb, ho⟩ := hrel
    have f1 := (hb.out.cell (p := ⟨q, 1, none⟩) hlt).trans c1
    have f2 := (hb.out.cell (p := ⟨q, 2, none⟩) hlt).trans c2
    have hqr : q < wr.heap.size := Nat.lt_of_lt_of_le hlt hb.out.size
    have HR3 := Hid.mk' (HR.out.below hb.out)
    by_cases hlt' : k < R.length
    · have hsp : (k : Int) < (R.length : Int) := by omega
      obtain ⟨ga, hga⟩ : ∃ g, aa = some ⟨g, 0, none⟩ := by
        rcases HR.out.rowR.2 with ⟨_, h2⟩ | ⟨g, cap, cur, h, _⟩
        · omega
        · simp at h; exact ⟨g, h.1⟩
      obtain ⟨gf, hgf⟩ : ∃ g, ia = some ⟨g, 0, none⟩ := by
        rcases HR.out.rowF.2 with ⟨_, h2⟩ | ⟨g, cap, cur, h, _⟩
        · omega
        · simp at h; exact ⟨g, h.1⟩
      subst hga
      subst hgf
      obtain ⟨⟨rx, ry⟩, hr⟩ : ∃ r, R[k]? = some r := ⟨_, List.getElem?_eq_getElem hlt'⟩
      obtain ⟨fb, hf⟩ : ∃ b, F[k]? = some b := ⟨_, List.getElem?_eq_getElem (by rw [HR.out.len]; exact hlt')⟩
      obtain ⟨hc1, hc2⟩ := range_cell HR3.out.rowR k _ hr
      have hc3 := mark_cell HR3.out.rowF k _ hf
      have hgal : ga < wr.heap.size := lt_of_cell hc1
      have hgfl : gf < wr.heap.size := lt_of_cell hc3
      have HST := Hid.mk' (outs_step R F k _ _ hr hf)
      have hle : (outs (R.take k) (F.take k)).length ≤ 1000 := Nat.le_trans (outs_le _ _) (by rw [List.length_take]; omega)
      clear hr hf
      cases fb with
      | false =>
        have ho' : Hid (wr.ownsRow w.heap.size 24 2 u3 (outs (R.take (k + 1)) (F.take (k + 1))).length (rcells (outs (R.take (k + 1)) (F.take (k + 1))))) := by
          rw [HST.out]; simpa [Hid] using ho.out
        clear ho
        go_wp2_with fail
        go_roundg (R.length - (k + 1))
        case measure => omega
        case rel => exact ⟨k + 1, by go_num, by omega, by omega, hb, ho'⟩
      | true =>
        obtain ⟨oa, oc, hov⟩ := own_slice ho.out
        go_wp2_with (at_builtin; refine wpList_append_own _ rfl _ _ 46 rfl w.heap.size 24 i0 (.agg #[.int .i64 0, .int .i64 0]) 2 16 Try.underlying46 hif hz0 hz1 hz2 rfl (by decide) _ _ (rcells (outs (R.take k) (F.take k))) rfl (World.ownsRow.alloc ho.out _) ⟨wr.heap.size, 0, none⟩ 1 1 [.int .i64 rx, .int .i64 ry] rfl rfl (cell_pair_laid _ _ _ _) (by intro u hu; simp at hu; rcases hu with rfl | rfl <;> rfl) (by unfold maxLen; omega) (by omega) (by have := hb.out.size; simp; omega) ?_; intro v' w4 hown4 hgr4 hiff; clear hiff; have HO4 : Hid (w4.ownsRow w.heap.size 24 2 v' (outs (R.take (k + 1)) (F.take (k + 1))).length (rcells (outs (R.take (k + 1)) (F.take (k + 1))))) := by { rw [HST.out, if_pos rfl, rcells_snoc, List.length_append]; exact hown4 }; have HB4 : Hid (Below w.heap.size w w4) := (hb.out.alloc hb.out.size _).grown hgr4 (by have := hb.out.size; simp; omega) (fun i e => (ho.out.lt i e).1); clear hown4 hgr4)
        go_roundg (R.length - (k + 1))
        case measure => omega
        case rel => exact ⟨k + 1, by go_num, by omega, by omega, HB4, HO4⟩
    · have hk : k = R.length := by omega
      have ho' : Hid (wr.ownsRow w.heap.size 24 2 u3 (outs R F).length (rcells (outs R F))) := by
        have := ho.out
        rwa [List.take_of_length_le (by omega), List.take_of_length_le (by rw [HR.out.len]; omega)] at this
      clear ho hk
      go_wp2_with fail
      go_ret
      exact ⟨_, rfl, ho'.out, hb.out⟩

/-- A slice of ranges that can be read. -/
def Rs (w : World) (a : Option Addr) (R : List Rg) : Prop := R.length = 0 ∨ ∃ b, a = some ⟨b, 0, none⟩ ∧ ∀ (k : Nat) (r : Rg), R[k]? = some r → w.cell? ⟨b, k * 2, none⟩ = some (.int .i64 r.1) ∧ w.cell? ⟨b, k * 2 + 1, none⟩ = some (.int .i64 r.2)

theorem rs_own {w : World} {base : Nat} {t : TypeId} {a : Option Addr} {c n : Nat} {R : List Rg} (h : w.ownsRow base t 2 (.slice a n c) n (rcells R)) : Rs w a R := by
  have hn := h.1
  rw [rcells_length] at hn
  have h' := h
  rcases h.2 with ⟨_, h0⟩ | ⟨g, cap, cur, hv, _⟩
  · exact .inl (by omega)
  · simp only [Value.slice.injEq] at hv
    obtain ⟨rfl, _, rfl⟩ := hv
    exact .inr ⟨g, rfl, fun k r hr => range_cell h' k r hr⟩

set_option maxHeartbeats 2000000 in
theorem same_any (a b : Option Addr) (n m c d : Nat) (R S : List Rg) (w : World) (hn : R.length = n) (hm : S.length = m) (hb : n ≤ 1000) (hb' : m ≤ 1000) (hR : Rs w a R) (hS : Rs w b S) :
    Calls Try.prog 21 #[.slice a n c, .slice b m d] w fun e w' => e = .returned (.bool (decide (R = S))) ∧ Dr w w' := by
  have HN := Hid.mk' hn
  have HM := Hid.mk' hm
  clear hn hm
  by_cases hnm : n = m
  · subst hnm
    have h1 : ((n : Int) != (n : Int)) = false := by simp
    go_enter Try.func21, Try.ntmps21
    go_wp2_with fail
    go_loopg [5] n (fun g s5 wr => ∃ k : Nat, s5 = .int .i64 k ∧ k ≤ n ∧ n - k ≤ g ∧ Dr w wr ∧ Hid (∀ j, j < k → R[j]? = S[j]?))
    case atStart => exact ⟨0, rfl, by omega, by omega, Dr.refl _, fun j hj => by omega⟩
    case round =>
      obtain ⟨k, rfl, hk1, hk2, hd, hpre⟩ := hrel
      by_cases hlt : k < n
      · rcases hR with h0 | ⟨p, rfl, hc⟩
        · have := HN.out; omega
        rcases hS with h0 | ⟨p', rfl, hc'⟩
        · have := HM.out; omega
        obtain ⟨⟨rx, ry⟩, hr⟩ : ∃ r, R[k]? = some r := ⟨_, List.getElem?_eq_getElem (by rw [HN.out]; exact hlt)⟩
        obtain ⟨⟨sx, sy⟩, hs⟩ : ∃ r, S[k]? = some r := ⟨_, List.getElem?_eq_getElem (by rw [HM.out]; exact hlt)⟩
        have q0 := (hd.cell _).trans (hc k _ hr).1
        have q1 := (hd.cell _).trans (hc k _ hr).2
        have q2 := (hd.cell _).trans (hc' k _ hs).1
        have q3 := (hd.cell _).trans (hc' k _ hs).2
        have HRK := Hid.mk' hr
        have HSK := Hid.mk' hs
        have hsp : (k : Int) < (n : Int) := by omega
        clear hr hs
        by_cases hx : rx = sx ∧ ry = sy
        · obtain ⟨rfl, rfl⟩ := hx
          have HP : Hid (∀ j, j < k + 1 → R[j]? = S[j]?) := fun j hj => by
            by_cases e : j = k
            · subst e; rw [HRK.out, HSK.out]
            · exact hpre j (by omega)
          go_wp2_with fail
          go_quiet (fail)
          go_wp2_with fail
          go_roundg (n - (k + 1))
          case measure => omega
          case rel => exact ⟨k + 1, by go_num, by omega, by omega, hd.more _, HP⟩
        · have HNE : Hid (¬ R = S) := fun e => by
            have h1 := HRK.out
            rw [e, HSK.out] at h1
            cases h1
            exact hx ⟨rfl, rfl⟩
          by_cases hxx : rx = sx
          · subst hxx
            have e1 : (ry == sy) = false := by simp; intro e; exact hx ⟨rfl, e⟩
            clear hx
            go_wp2_with fail
            go_quiet (fail)
            go_wp2_with fail
            go_ret
            exact ⟨ret_bool (decide_eq_false HNE.out).symm, hd.more _⟩
          · have e1 : (rx == sx) = false := by simpa using hxx
            clear hx hxx
            go_wp2_with fail
            go_quiet (fail)
            go_wp2_with fail
            go_ret
            exact ⟨ret_bool (decide_eq_false HNE.out).symm, hd.more _⟩
      · have HEQ : Hid (R = S) := List.ext_getElem? (fun j => by
          by_cases hj : j < k
          · exact hpre j hj
          · rw [List.getElem?_eq_none (by rw [HN.out]; omega), List.getElem?_eq_none (by rw [HM.out]; omega)])
        go_wp2_with fail
        go_ret
        exact ⟨ret_bool (decide_eq_true HEQ.out).symm, hd⟩
  · have h1 : ((n : Int) != (m : Int)) = true := by simp; omega
    have HNE : Hid (¬ R = S) := fun e => hnm (by rw [← HN.out, ← HM.out, e])
    go_enter Try.func21, Try.ntmps21
    go_wp2_with fail
    go_ret
    exact ⟨ret_bool (decide_eq_false HNE.out).symm, Dr.refl w⟩
end Go.Proofs.Ytnpcglgboemmcaa
