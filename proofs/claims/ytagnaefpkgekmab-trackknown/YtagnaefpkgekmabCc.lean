/- What is proved, kept in a map (Pm): the contracts of proofOf, put, list. -/
import Derived.Test.YtagnaefpkgekmabCb
import Derived.Test.YtagnaefpkgekmabIter
import Derived.Maps.OwnSet
import Derived.Maps.AppendAt
namespace Go.Proofs.Ytagnaefpkgekmab
open Go.ChangeShapes Go.WideShapes Go.ChangeAt Go.RowKit Go.Maps Go.Sort Go.Shelf
set_option maxRecDepth 10000

/-- The cells of pairs. -/
def knP (p : Kn) : List Value := [.int .i64 p.1, .int .i64 p.2]
def knC (l : List Kn) : List Value := l.flatMap knP
theorem knC_append (a b : List Kn) : knC (a ++ b) = knC a ++ knC b := by simp [knC]
theorem knC_length (l : List Kn) : (knC l).length = l.length * 2 := by
  induction l with
  | nil => rfl
  | cons x r ih =>
    show (knP x ++ knC r).length = _
    rw [List.length_append, ih, List.length_cons]
    simp [knP]; omega
theorem knC_one (l : List Kn) : ∀ u ∈ knC l, u.oneCell' = true := by
  intro u hu
  unfold knC at hu
  rw [List.mem_flatMap] at hu
  obtain ⟨q, -, hq⟩ := hu
  simp [knP] at hq
  rcases hq with rfl | rfl <;> rfl
theorem knC_at (l : List Kn) (k : Nat) (i n : Int) (h : l[k]? = some (i, n)) : (knC l)[k * 2]? = some (.int .i64 i) ∧ (knC l)[k * 2 + 1]? = some (.int .i64 n) := by
  induction l generalizing k with
  | nil => simp at h
  | cons x r ih =>
    have e : knC (x :: r) = .int .i64 x.1 :: .int .i64 x.2 :: knC r := rfl
    rw [e]
    cases k with
    | zero => simp at h; subst h; exact ⟨rfl, rfl⟩
    | succ k =>
      have := ih k (by simpa using h)
      rw [show (k + 1) * 2 = k * 2 + 1 + 1 by omega, show k * 2 + 1 + 1 + 1 = (k * 2 + 1) + 1 + 1 by omega]
      simpa using this
theorem known_info : ∃ i, Try.prog.info? 27 = some i ∧ i.zero = some (.agg #[.int .i64 0, .int .i64 0]) ∧ i.size = 2 ∧ i.bytes = 16 :=
  info_parts (z := .agg #[.int .i64 0, .int .i64 0]) (by kernel_rfl)

/-- A row of pairs of the call's own lies. -/
theorem own_lkn {w : World} {base g c : Nat} {l : List Kn} (h : w.ownsRow base 27 2 (.slice (some ⟨g, 0, none⟩) l.length c) l.length (knC l)) : Lkn w g 0 l := by
  intro k i n hk
  have hlt := (List.getElem?_eq_some_iff.1 hk).1
  obtain ⟨a0, a1⟩ := knC_at l k _ _ hk
  have e : ∀ j, j < l.length * 2 → w.cell? ⟨g, 0 + j, none⟩ = (knC l)[j]? := fun j hj => by rw [Nat.zero_add]; exact h.cellAt j hj
  refine ⟨?_, ?_⟩
  · rw [e _ (by omega)]; exact a0
  · rw [Nat.add_assoc, e _ (by omega)]; exact a1
theorem own_ks {w : World} {base : Nat} {v : Value} {l : List Kn} (h : w.ownsRow base 27 2 v l.length (knC l)) (hb : ∀ p ∈ l, In64 p.1 ∧ In64 p.2) (hl : l.length ≤ 140737488355328) : Ks w v l := by
  refine ⟨?_, hb, hl⟩
  have h' := h
  rcases h.2 with ⟨rfl, h0⟩ | ⟨g, cap, cur, rfl, -⟩
  · exact ⟨none, 0, by rw [h0], .inl (List.length_eq_zero_iff.1 h0)⟩
  · exact ⟨_, cap, rfl, .inr ⟨g, 0, rfl, own_lkn h'⟩⟩
theorem nf_in {f : Int → Int} (h : Fn f) : ∀ p ∈ nf f, In64 p.1 ∧ In64 p.2 := by
  intro p hp
  have := (ok_all (nf_ok h)).1 p hp
  unfold In64
  omega

theorem okF_take {l : List Kn} (h : okF (-1) l = true) (k : Nat) : okF (-1) (l.take k) = true :=
  ok_of (fun p hp => (ok_all h).1 p (List.mem_of_mem_take hp)) (List.Pairwise.sublist (List.take_sublist k l) (ok_all h).2)

abbrev KD := DataW Unit
theorem lawI : Keyed Try.prog 3 := int_keyed Try.underlying3
theorem zeroI (w : World) : (zeroValue 3).run Try.prog w = .ok (.int .i64 0) w := by kernel_rfl
/-- A map that says what a function says. -/
def Pm (w : World) (b : Nat) (f : Int → Int) : Prop := ∃ D : KD, w.ownsMap Try.prog 3 (plainElem Try.prog 3) b 257 D ∧ Says D f ∧ Fn f
theorem own_tight {w : World} {P : Program} {k : TypeId} {R : Value → Option (KD × List MemPlace)} {b n : Nat} {D : KD} (h : w.ownsMap P k R b n D) : w.ownsMap P k R b (Maps.size D) D := by
  obtain ⟨es, clock, hb, F, hs, hD⟩ := h
  refine ⟨es, clock, hb, F, ?_, hD⟩
  rw [hD]
  show es.size ≤ List.length _
  rw [length_sorted]; simp
theorem Pm.mk' {w : World} {b n : Nat} {D : KD} {f : Int → Int} (h : w.ownsMap Try.prog 3 (plainElem Try.prog 3) b n D) (hs : Says D f) (hf : Fn f) : Pm w b f := by
  refine ⟨D, (own_tight h).mono ?_, hs, hf⟩
  rw [says_size hs hf h lawI Try.underlying3]
  exact nf_len f
theorem Pm.lt {w : World} {b : Nat} {f : Int → Int} (h : Pm w b f) : b < w.heap.size := by
  obtain ⟨D, h, _⟩ := h; exact h.lt
theorem Pm.below {w w' : World} {b : Nat} {f : Int → Int} (h : Pm w b f) (hb : Below w.heap.size w w') : Pm w' b f := by
  have hlt := h.lt
  obtain ⟨D, ⟨es, clock, hbl, r⟩, hs⟩ := h
  exact ⟨D, ⟨es, clock, (hb.block b hlt).trans hbl, r⟩, hs⟩
theorem Pm.grown {w w' : World} {b : Nat} {f : Int → Int} (h : Pm w b f) {row : Option Nat} (hg : w.grownBy w' row) (hr : some b ≠ row) : Pm w' b f := by
  obtain ⟨D, h1, hs⟩ := h
  exact ⟨D, h1.kept hg hr, hs⟩
theorem Pm.ext {w : World} {b : Nat} {f g : Int → Int} (h : Pm w b f) (e : ∀ z, g z = f z) : Pm w b g := by
  have : g = f := funext e
  rw [this]; exact h
theorem key_i (z : Int) (h : In64 z) : keyOf Try.prog 3 (.int .i64 z) = some (.int .i64 z) := keyOf_int_mk Try.underlying3 (WalkArith.wf_i64 h)
theorem run_makeN {P : Program} (t k e : TypeId) (n : Int) (w : World) (h : P.underlying t = some (.map k e)) : (Instr.makeMap t (some (.int .i64 n))).run P w = .ok (.map (some w.heap.size)) (w.alloc (.map #[] 0)) := by
  simp [Instr.makeMap, run_underlying h, Result.andThen, asInt, asIntOf]

set_option maxHeartbeats 2000000 in
theorem proofof_any (v : Value) (l : List Kn) (w : World) (h : Ks w v l) : Calls Try.prog 17 #[v] w fun e w' => (∃ m, e = .returned (.tuple #[m, .int .i64 (ckN l)]) ∧ (ckN l = 0 → ∃ b, m = .map (some b) ∧ w.heap.size ≤ b ∧ Pm w' b (byN l))) ∧ Below w.heap.size w w' := by
  have KC := fun u hu => check_any v l u hu
  have HV := Hid.mk' h
  obtain ⟨a, c, rfl, hl⟩ := h.lies
  have hlen := h.len
  have HB := Hid.mk' h.inb
  have HL := Hid.mk' hl
  clear h hl
  obtain ⟨n, hn⟩ : ∃ n, l.length = n := ⟨_, rfl⟩
  rw [hn] at hlen KC HV ⊢
  have HN := Hid.mk' hn
  have HC : Hid (ckN l = 0 → okF (-1) l = true ∧ n ≤ 257) := Hid.mk' (fun e => by
    unfold ckN at e
    by_cases h1 : 257 < l.length
    · rw [if_pos h1] at e; cases e
    · rw [if_neg h1] at e
      by_cases h2 : okF (-1) l = true
      · exact ⟨h2, by omega⟩
      · rw [if_neg h2] at e; cases e)
  generalize ckN l = E at *
  clear hn
  go_enter Try.func17, Try.ntmps17
  go_wp2_with fail
  refine (KC _ HV.out).mono ?_
  rintro e w1 ⟨rfl, hb1⟩
  have B1 := Hid.mk' hb1
  clear hb1 KC
  by_cases hE : E = 0
  · obtain ⟨hok, hn2⟩ := HC.out hE
    have HOK := Hid.mk' hok
    subst hE
    clear HC hok
    have hmm := fun (m : Int) (u : World) => run_makeN (P := Try.prog) 48 3 3 m u Try.underlying48
    go_wp2_with fail
    have HS : Hid (w.heap.size ≤ w1.heap.size) := Hid.mk' B1.out.size
    obtain ⟨q, hq⟩ : ∃ q, Hid (w1.heap.size = q) := ⟨_, rfl⟩
    have P0 : Hid (Pm (w1.alloc (.map #[] 0)) q (byN (l.take 0))) := Hid.mk' (by rw [← hq.out]; exact Pm.mk' (World.ownsMap_made _ _ _ _) says_none fn_zero)
    have B2 : Hid (Below w.heap.size w (w1.alloc (.map #[] 0))) := Hid.mk' (B1.out.alloc B1.out.size _)
    rw [hq.out]
    go_loopw [19] (fun r wr => ∃ (k : Nat), r = .int .i64 k ∧ k ≤ n ∧ Hid (Pm wr q (byN (l.take k))) ∧ Hid (Below w.heap.size w wr)) (fun r _ => ((n : Int) - iv r).toNat)
    case atStart => exact ⟨0, rfl, Nat.zero_le _, P0, B2⟩
    case round =>
      clear P0 B2
      obtain ⟨k, rfl, hk, hP, hB⟩ := hrel
      by_cases hkn : k < n
      · obtain ⟨b, off, ea, hbl, c0, c1, i0, i1⟩ := lkn_at HL.out HB.out (show k < l.length by rw [HN.out]; exact hkn)
        subst ea
        have hblt : b < wr.heap.size := Nat.lt_of_lt_of_le hbl hB.out.size
        have d0 := (hB.out.cell (p := ⟨b, off + k * 2, none⟩) hbl).trans c0
        have d1 := (hB.out.cell (p := ⟨b, off + k * 2 + 1, none⟩) hbl).trans c1
        have HT := Hid.mk' (fun z => by_take HOK.out (k := k) (by rw [HN.out]; exact hkn) z)
        have HA := Hid.mk' (ok_at HOK.out (k := k) (by rw [HN.out]; exact hkn))
        clear c0 c1 hbl
        generalize idA l k = I at *
        generalize bA l k = N at *
        have hlk : (k : Int) < (n : Int) := by omega
        obtain ⟨D, ho, hs, hf⟩ := hP.out
        have hown := World.ownsMap.alloc ho (.cells #[.int .i64 I, .int .i64 N] 27)
        have HSA := Hid.mk' hs
        have HFA := Hid.mk' hf
        have HO := Hid.mk' hown
        clear ho hown hs hf
        go_wp2_with (at_mapUpdate; refine wpList_mapUpdate_own _ rfl _ _ _ 48 rfl 3 3 lawI Try.underlying48 _ q 257 D rfl HO.out (by unfold maxLen; omega) _ _ (.int .i64 I) rfl rfl (key_i I i0) (.lit (.int .i64 N)) [] (plainElem_int Try.underlying3 (WalkArith.wf_i64 i1)) ?_; intro w5 ho5 hg5)
        have P5 : Hid (Pm w5 q (byN (l.take (k + 1)))) := Hid.mk' (by
          have ha := HA.out
          exact (Pm.mk' ho5 (HSA.out.put HO.out.isMap I N (by omega)) (HFA.out.upd ha.1 (by omega) ha.2.2)).ext (fun z => HT.out z))
        have B5 : Hid (Below w.heap.size w w5) := Hid.mk' ((hB.out.alloc hB.out.size _).grown hg5 (by have := hB.out.size; simp; omega) (fun j e => by cases e; rw [← hq.out]; exact HS.out))
        clear ho5 hg5
        go_roundw
        case rel => exact ⟨k + 1, by go_num, hkn, P5, B5⟩
        case measure => simp [iv]; omega
      · have hlk : ¬ (k : Int) < (n : Int) := by omega
        have hkn : k = n := by omega
        go_wp2_with fail
        go_ret2
        refine ⟨⟨_, rfl, q, rfl, by rw [← hq.out]; exact HS.out, ?_⟩, hB.out⟩
        have := hP.out
        rw [hkn, ← HN.out, List.take_length] at this
        exact this
  · go_wp2_with fail
    go_ret2
    exact ⟨⟨_, rfl, fun e => absurd e hE⟩, B1.out⟩

set_option maxHeartbeats 1000000 in
theorem put_any (b : Nat) (f : Int → Int) (z n : Int) (w : World) (h : Pm w b f) (hz : 0 ≤ z ∧ z ≤ 256) (h0 : 0 ≤ n) (h1 : n ≤ 2048) : Calls Try.prog 18 #[.map (some b), .int .i64 z, .int .i64 n] w fun e w' => e = .returned (.tuple #[]) ∧ Pm w' b (upd f z n) ∧ w.grownBy w' (some b) := by
  obtain ⟨D, ho, hs, hf⟩ := h
  have hz' : In64 z := by unfold In64; omega
  have hn' : In64 n := by unfold In64; omega
  go_enter Try.func18, Try.ntmps18
  by_cases e : n = 0
  · subst e
    go_wp2_with (at_delete; refine wpList_delete_own _ rfl _ _ 48 3 rfl 3 lawI Try.underlying48 _ b 257 D rfl ho _ _ rfl (key_i z hz') ?_; intro w1 hown1 hturn1)
    (try simp only [Exit.inBlock, Exit.then]); refine bodyPost_ret (results_none rfl _ _ _) rfl ?_
    exact ⟨rfl, Pm.mk' hown1 (hs.del z) (hf.upd hz (by omega) (by omega)), hturn1.grown⟩
  · go_wp2_with (at_mapUpdate; refine wpList_mapUpdate_own _ rfl _ _ _ 48 rfl 3 3 lawI Try.underlying48 _ b 257 D rfl ho (by unfold maxLen; omega) _ _ (.int .i64 z) rfl rfl (key_i z hz') (.lit (.int .i64 n)) [] (plainElem_int Try.underlying3 (WalkArith.wf_i64 hn')) ?_; intro w5 ho5 hg5)
    go_end0
    exact ⟨rfl, Pm.mk' ho5 (hs.put ho.isMap z n e) (hf.upd hz h0 h1), hg5⟩
end Go.Proofs.Ytagnaefpkgekmab
