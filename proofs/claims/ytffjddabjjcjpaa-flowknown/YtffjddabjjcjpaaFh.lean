/- The contract of Next. -/
import Derived.Test.YtffjddabjjcjpaaFg
namespace Go.Proofs.Ytffjddabjjcjpaa
open Go.ChangeShapes Go.WideShapes Go.ChangeAt Go.RowKit
set_option maxRecDepth 10000
variable {L : List Q5}

/-- The places behind a place. -/
def nxF (L : List Q5) (k : Nat) : List Int :=
  if opA L k = 36 then [] else if opA L k = 22 then [toA L k] else if isJ (opA L k) then (if ofA L k = 0 then [(k : Int) + 1] else [(k : Int) + 1, toA L k])
  else if opA L k = 34 ∧ 1 < imA L (top (stk L k)).toNat then [top (stk L k) + 1, (k : Int) + 1] else [(k : Int) + 1]
/-- What Next answers beside the places. -/
def nxE (L : List Q5) (a : Int) : Int := if (ckF L).2 = 0 then (if a < 0 ∨ (L.length : Int) ≤ a then 2 else 0) else (ckF L).2
def nxV (L : List Q5) (a : Int) : List Int := if nxE L a = 0 then nxF L a.toNat else []

theorem nxF_len (k : Nat) : (nxF L k).length ≤ 2 := by
  unfold nxF
  split
  · simp
  split
  · simp
  split
  · split <;> simp
  split <;> simp
theorem nxV_len (a : Int) : (nxV L a).length ≤ 2 := by
  unfold nxV
  split
  · exact nxF_len _
  · simp

theorem Iw.row (w : World) (zs : List Int) (t : TypeId) (hm : zs.length ≤ 1000) : Iw (w.alloc (.cells (zs.map (Value.int .i64)).toArray t)) w.heap.size (.slice (some ⟨w.heap.size, 0, none⟩) zs.length zs.length) zs := by
  have h := World.ownsRow_lit (base := w.heap.size) (size := 1) (e := t) w (zs.map (Value.int .i64)).toArray zs.length (Nat.le_refl _) (by unfold maxLen; omega) (by simp)
  exact Iw.own (by simpa using h)
theorem Iw.nil (w : World) (base : Nat) : Iw w base (.slice none 0 0) [] := ⟨none, 0, rfl, .inl rfl⟩

set_option maxHeartbeats 2000000 in
theorem next_f (v : Value) (x : Int) (w : World) (hv : Cd w v L) (x0 : -9223372036854775808 ≤ x) (x1 : x ≤ 9223372036854775807) :
    Calls Try.prog 9 #[v, .int .i64 x] w fun e w' => (∃ u, e = .returned (.tuple #[u, .int .i64 (nxE L x)]) ∧ Iw w' w.heap.size u (nxV L x)) ∧ Below w.heap.size w w' := by
  obtain ⟨iN, hiN, hzN, -⟩ := nest_info
  have HiN := Hid.mk' hiN
  have HzN := Hid.mk' hzN
  have HZ := Hid.mk' z512
  have KL := Hid.mk' (look_any v w hv)
  have SN : Hid ((intC (loN L)).length = 512) := Hid.mk' (by rw [intC_length]; exact loN_len)
  have HV := Hid.mk' hv
  obtain ⟨a, c, rfl, hc, hl⟩ := hv.lies
  clear hiN hzN hv
  obtain ⟨P, hP⟩ : ∃ P, (ckF L).1 = P := ⟨_, rfl⟩
  obtain ⟨E, hE⟩ : ∃ E, Hid ((ckF L).2 = E) := ⟨_, Hid.mk' rfl⟩
  obtain ⟨NL, hNL⟩ : ∃ NL, Hid (loN L = NL) := ⟨_, Hid.mk' rfl⟩
  obtain ⟨n, hn⟩ : ∃ n, L.length = n := ⟨_, rfl⟩
  rw [hP, hE.out, hNL.out, hn] at KL
  have HNE : Hid (nxE L x = if E = 0 then (if x < 0 ∨ (n : Int) ≤ x then 2 else 0) else E) := Hid.mk' (by unfold nxE; rw [hE.out, hn])
  rw [hn]
  rw [hn] at hc
  rw [hNL.out] at SN
  clear hP
  obtain ⟨X, hX⟩ : ∃ X, Hid (nxE L x = X) := ⟨_, Hid.mk' rfl⟩
  obtain ⟨Y, hY⟩ : ∃ Y, Hid (nxV L x = Y) := ⟨_, Hid.mk' rfl⟩
  rw [hX.out, hY.out]
  rw [hX.out] at HNE
  go_enter Try.func9, Try.ntmps9
  by_cases hE0 : E = 0
  · rw [if_pos hE0] at HNE
    have HG : Hid (Good L) := Hid.mk' (good_of (by rw [hE.out, hE0]))
    have hn256 : n ≤ 256 := by rw [← hn]; exact HG.out.len
    have hn0 : 0 < n := by rw [← hn]; exact HG.out.pos
    have EN : Hid (NL = nsI L n) := Hid.mk' (by rw [← hNL.out]; unfold loN; rw [hE.out, hE0, hn]; rfl)
    have HL := Hid.mk' hn
    rcases hl with h0 | ⟨b, off, rfl, hC⟩
    · rw [h0] at hn; simp at hn; omega
    have HC := Hid.mk' hC
    clear hn hC
    subst hE0
    by_cases hx : x < 0 ∨ (n : Int) ≤ x
    · rw [if_pos hx] at HNE
      have e1 : X = 2 := HNE.out
      have e2 : Y = [] := by rw [← hY.out]; unfold nxV; rw [hX.out, e1]; rfl
      subst e1 e2
      go_wp2_with (first
        | (go_at_call 21; refine KL.out.mono ?_; rintro e w1 ⟨rfl, b1⟩)
        | (refine wpList_alloc_big rfl 53 rfl iN _ HiN.out HzN.out ?_; intro w2 h2 b2 s2)
        | (refine wpList_store_over rfl 53 _ _ rfl w1.heap.size 53 _ _ rfl rfl h2 512 HZ.out SN.out nest_size (intC_one _) ?_; intro w3 h3 k3 s3; have B3 : Hid (Below w.heap.size w w3) := Hid.mk' ((b1.trans (b2.mono b1.size)).trans (k3.below (by have := b1.size; have := b2.size; omega) (fun j hj e => by have := b1.size; omega))); clear b1 h2 b2 s2 h3 k3 s3))
      all_goals first
        | (exfalso; omega)
        | (go_ret2; exact ⟨⟨_, rfl, Iw.nil _ _⟩, B3.out⟩)
    · rw [if_neg hx] at HNE
      have e1 : X = 0 := HNE.out
      subst e1
      obtain ⟨k, rfl⟩ : ∃ k : Nat, x = k := ⟨x.toNat, by omega⟩
      have hk : k < n := by omega
      have hlk : (k : Int) < (n : Int) := by omega
      have hk256 : (k : Int) < 256 := by omega
      have eY : Hid (nxF L k = Y) := Hid.mk' (by rw [← hY.out]; unfold nxV; rw [hX.out]; rfl)
      obtain ⟨p, d, s, o, i, hq, q1, q2, q3⟩ := at_get (L := L) (k := k) (by rw [HL.out]; exact hk)
      have hin := HV.out.inb k p d s o i hq
      obtain ⟨o0, o1⟩ : -32768 ≤ o ∧ o ≤ 32767 := ⟨hin.o0, hin.o1⟩
      have HQ := Hid.mk' hq
      have hto : toA L k = k + 1 + o := by unfold toA; rw [q2]
      have EY : Hid (Y = if p = 36 then [] else if p = 22 then [(k : Int) + 1 + o] else if isJ p then (if o = 0 then [(k : Int) + 1] else [(k : Int) + 1, (k : Int) + 1 + o]) else if p = 34 ∧ 1 < imA L (top (stk L k)).toNat then [top (stk L k) + 1, (k : Int) + 1] else [(k : Int) + 1]) := Hid.mk' (by
        rw [← eY.out]; unfold nxF; rw [hto, q1, q2])
      have HEnd : Hid (p = 34 → ∃ r : Nat, top (stk L k) = r) := Hid.mk' (fun h => HG.out.end' (by rw [HL.out]; exact hk) (by rw [q1]; exact h))
      have HI : Hid (∀ u, Calls Try.prog 23 #[insV p d s o i] u fun e w' => e = .returned (.bool (isJ p)) ∧ Below u.heap.size u w') := Hid.mk' (fun u => isjump_any p d s o i u)
      have HT : Hid (∀ u, Calls Try.prog 22 #[.int .i64 k, insV p d s o i] u fun e w' => e = .returned (.int .i64 ((k : Int) + 1 + o)) ∧ Below u.heap.size u w') := Hid.mk' (fun u => target_any k p d s o i u (by omega) (by omega) o0 o1)
      clear hin hq q1 q2 q3 hto hx
      have hk0 : ¬ (k : Int) < 0 := by omega
      have hnk : ¬ (n : Int) ≤ (k : Int) := by omega
      by_cases hp36 : p = 36
      · rw [if_pos hp36] at EY
        have e2 : Y = [] := EY.out
        subst hp36 e2
        go_wp2_with (first
          | (go_at_call 21; refine KL.out.mono ?_; rintro e w1 ⟨rfl, b1⟩)
          | (refine wpList_alloc_big rfl 53 rfl iN _ HiN.out HzN.out ?_; intro w2 h2 b2 s2)
          | (refine wpList_store_over rfl 53 _ _ rfl w1.heap.size 53 _ _ rfl rfl h2 512 HZ.out SN.out nest_size (intC_one _) ?_; intro w3 h3 k3 s3; have B3 : Hid (Below w.heap.size w w3) := Hid.mk' ((b1.trans (b2.mono b1.size)).trans (k3.below (by have := b1.size; have := b2.size; omega) (fun j hj e => by have := b1.size; omega))); have N3 : Hid (Ns w3 w1.heap.size L n) := Hid.mk' (ns_of_block (by rw [← EN.out]; exact h3) hn256); clear b1 h2 b2 s2 h3 k3 s3; obtain ⟨c0, c1, c2, c3, c4⟩ := (HC.out.below B3.out) k 36 d s o i HQ.out))
        go_ret2
        exact ⟨⟨_, rfl, Iw.nil _ _⟩, B3.out.alloc B3.out.size _⟩
      rw [if_neg hp36] at EY
      by_cases hp22 : p = 22
      · rw [if_pos hp22] at EY
        have e2 : Y = [(k : Int) + 1 + o] := EY.out
        subst hp22 e2
        go_wp2_with (first
          | (go_at_call 21; refine KL.out.mono ?_; rintro e w1 ⟨rfl, b1⟩)
          | (refine wpList_alloc_big rfl 53 rfl iN _ HiN.out HzN.out ?_; intro w2 h2 b2 s2)
          | (refine wpList_store_over rfl 53 _ _ rfl w1.heap.size 53 _ _ rfl rfl h2 512 HZ.out SN.out nest_size (intC_one _) ?_; intro w3 h3 k3 s3; have B3 : Hid (Below w.heap.size w w3) := Hid.mk' ((b1.trans (b2.mono b1.size)).trans (k3.below (by have := b1.size; have := b2.size; omega) (fun j hj e => by have := b1.size; omega))); have N3 : Hid (Ns w3 w1.heap.size L n) := Hid.mk' (ns_of_block (by rw [← EN.out]; exact h3) hn256); clear b1 h2 b2 s2 h3 k3 s3; obtain ⟨c0, c1, c2, c3, c4⟩ := (HC.out.below B3.out) k 22 d s o i HQ.out)
          | (go_at_call 22; refine (HT.out _).mono ?_; rintro e w5 ⟨rfl, b5⟩))
        have B5 : Hid (Below w.heap.size w w5) := Hid.mk' (((B3.out.alloc B3.out.size _)).trans (b5.mono (by have := B3.out.size; simp; omega)))
        clear b5
        go_ret2
        exact ⟨⟨_, rfl, (Iw.row w5 [(k : Int) + 1 + o] 3 (by simp)).base B5.out.size⟩, B5.out.alloc B5.out.size _⟩
      rw [if_neg hp22] at EY
      obtain ⟨J, hJ⟩ : ∃ J, isJ p = J := ⟨_, rfl⟩
      rw [hJ] at EY HI
      have HJ : Hid (J = true → 0 ≤ o ∧ o ≤ 255 ∧ (k : Int) + 1 + o < n) := Hid.mk' (fun h => by
        have hj : isJ (opA L k) = true := by rw [← h, ← hJ]; unfold opA; rw [List.getD_eq_getElem?_getD, HQ.out]; rfl
        obtain ⟨t, t1, t2, t3, t4, t5, t6⟩ := HG.out.jump (by rw [HL.out]; exact hk) hj
        have ho : ofA L k = o := by unfold ofA; rw [List.getD_eq_getElem?_getD, HQ.out]; rfl
        have hn := HL.out
        unfold toA at t1
        rw [ho] at t1 t5 t6
        omega)
      clear hJ
      go_wp2_with (first
          | (go_at_call 21; refine KL.out.mono ?_; rintro e w1 ⟨rfl, b1⟩)
          | (refine wpList_alloc_big rfl 53 rfl iN _ HiN.out HzN.out ?_; intro w2 h2 b2 s2)
          | (refine wpList_store_over rfl 53 _ _ rfl w1.heap.size 53 _ _ rfl rfl h2 512 HZ.out SN.out nest_size (intC_one _) ?_; intro w3 h3 k3 s3; have B3 : Hid (Below w.heap.size w w3) := Hid.mk' ((b1.trans (b2.mono b1.size)).trans (k3.below (by have := b1.size; have := b2.size; omega) (fun j hj e => by have := b1.size; omega))); have N3 : Hid (Ns w3 w1.heap.size L n) := Hid.mk' (ns_of_block (by rw [← EN.out]; exact h3) hn256); clear b1 h2 b2 s2 h3 k3 s3; obtain ⟨c0, c1, c2, c3, c4⟩ := (HC.out.below B3.out) k p d s o i HQ.out))
      refine (HI.out _).mono ?_
      rintro e w5 ⟨rfl, b5⟩
      obtain ⟨B5, d0, d1, d2, d3, d4⟩ := cells5 b5
      have B35 := Hid.mk' B5
      have B5 := Hid.mk' (B3.out.trans (B5.mono B3.out.size))
      have l5 : w3.heap.size < w5.heap.size := lt_of_cell d0
      clear b5
      cases J with
      | true =>
        obtain ⟨o0', o1', ho2⟩ := HJ.out rfl
        rw [if_pos rfl] at EY
        go_wp2_with (go_at_call 22; refine (HT.out _).mono ?_; rintro e w6 ⟨rfl, b6⟩)
        have B6 : Hid (Below w.heap.size w w6) := Hid.mk' (B5.out.trans (b6.mono B5.out.size))
        clear b6
        have hcp : Go.Lib.compact [(k : Int) + 1, (k : Int) + 1 + o] = Y := by
          rw [EY.out]
          by_cases hz : o = 0
          · subst hz
            rw [if_pos rfl, Int.add_zero]; exact compact_eq _
          · rw [if_neg hz]; exact compact_ne _ _ (by omega)
        have hle : Y.length ≤ 2 := by
          rw [EY.out]; split <;> simp
        refine (compact_any _ w6.heap.size _ _ _ hcp hle (Iw.row w6 [(k : Int) + 1, (k : Int) + 1 + o] 3 (by simp)) (by simp)).mono ?_
        rintro e w7 ⟨v', rfl, I7, b7⟩
        have B7 : Hid (Below w.heap.size w w7) := Hid.mk' ((B6.out.alloc B6.out.size _).trans (b7.mono B6.out.size))
        clear b7
        have I7 := Hid.mk' (I7.base B6.out.size)
        go_wp2_with fail
        go_ret2
        exact ⟨⟨_, rfl, I7.out⟩, B7.out⟩
      | false =>
        rw [if_neg (by simp)] at EY
        by_cases hp34 : p = 34
        · obtain ⟨r, hr⟩ := HEnd.out hp34
          rw [hr] at EY
          have hrk : r < k := (stk_lt (L := L) (k := k) (r := r) (by rw [top_mem hr]; exact List.mem_cons_self)).1
          obtain ⟨p', d', s', o', i', hq', -, -, q3'⟩ := at_get (L := L) (k := r) (by rw [HL.out]; omega)
          obtain ⟨-, -, -, -, e4⟩ := (HC.out.below B5.out) r p' d' s' o' i' hq'
          have f1 := ((N3.out.below B35.out) k hk).1
          rw [hr] at f1
          have hrn : (r : Int) < (n : Int) := by omega
          rw [show ((r : Nat) : Int).toNat = r from rfl, q3'] at EY
          subst hp34
          by_cases hi : 1 < i'
          · rw [if_pos ⟨rfl, hi⟩] at EY
            have e2 : Y = [(r : Int) + 1, (k : Int) + 1] := EY.out
            subst e2
            go_wp2_with fail
            go_ret2
            exact ⟨⟨_, rfl, (Iw.row w5 [(r : Int) + 1, (k : Int) + 1] 3 (by simp)).base B5.out.size⟩, B5.out.alloc B5.out.size _⟩
          · rw [if_neg (fun h => hi h.2)] at EY
            have e2 : Y = [(k : Int) + 1] := EY.out
            subst e2
            go_wp2_with fail
            go_ret2
            exact ⟨⟨_, rfl, (Iw.row w5 [(k : Int) + 1] 3 (by simp)).base B5.out.size⟩, B5.out.alloc B5.out.size _⟩
        · rw [if_neg (fun h => hp34 h.1)] at EY
          have e2 : Y = [(k : Int) + 1] := EY.out
          subst e2
          go_wp2_with fail
          go_ret2
          exact ⟨⟨_, rfl, (Iw.row w5 [(k : Int) + 1] 3 (by simp)).base B5.out.size⟩, B5.out.alloc B5.out.size _⟩
  · rw [if_neg hE0] at HNE
    have e1 : X = E := HNE.out
    have e2 : Y = [] := by rw [← hY.out]; unfold nxV; rw [hX.out, e1, if_neg hE0]
    subst e1 e2
    go_wp2_with (first
      | (go_at_call 21; refine KL.out.mono ?_; rintro e w1 ⟨rfl, b1⟩)
      | (refine wpList_alloc_big rfl 53 rfl iN _ HiN.out HzN.out ?_; intro w2 h2 b2 s2)
      | (refine wpList_store_over rfl 53 _ _ rfl w1.heap.size 53 _ _ rfl rfl h2 512 HZ.out SN.out nest_size (intC_one _) ?_; intro w3 h3 k3 s3))
    go_ret2
    exact ⟨⟨_, rfl, Iw.nil _ _⟩, (b1.trans (b2.mono b1.size)).trans (k3.below (by have := b1.size; have := b2.size; omega) (fun j hj e => by have := b1.size; omega))⟩
end Go.Proofs.Ytffjddabjjcjpaa
