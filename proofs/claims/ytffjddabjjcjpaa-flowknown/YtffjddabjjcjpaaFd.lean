/- The contract of nestOf. -/
import Derived.Test.YtffjddabjjcjpaaFc
namespace Go.Proofs.Ytffjddabjjcjpaa
open Go.ChangeShapes Go.WideShapes Go.ChangeAt Go.RowKit
set_option maxRecDepth 10000
variable {L : List Q5}

/-- What the nest has at a place, k places done. -/
def nsF (L : List Q5) (k j : Nat) : Int := if j < 256 then (if j < k then top (stk L j) else 0) else (if j - 256 < k then enN L k (j - 256) else 0)
def rg (n : Nat) (f : Nat → Int) : List Int := (List.range n).map f
def nsI (L : List Q5) (k : Nat) : List Int := rg 512 (nsF L k)

theorem rg_length (n : Nat) (f : Nat → Int) : (rg n f).length = n := by simp [rg]
theorem rg_set (n : Nat) (f : Nat → Int) (i : Nat) (v : Int) : (rg n f).set i v = rg n (fun j => if j = i then v else f j) := by
  refine List.ext_getElem? (fun j => ?_)
  unfold rg
  rw [List.getElem?_set]
  by_cases h : i = j
  · subst h
    rw [if_pos rfl]
    by_cases h2 : i < n
    · simp [h2]
    · simp [h2]
  · rw [if_neg h]
    have h' : ¬ j = i := fun e => h e.symm
    by_cases h2 : j < n
    · simp [h2, h']
    · simp [h2]
theorem rg_congr {n : Nat} {f f' : Nat → Int} (h : ∀ j, j < n → f j = f' j) : rg n f = rg n f' :=
  List.map_congr_left (fun j hj => h j (List.mem_range.1 hj))
theorem rg_get {n : Nat} (f : Nat → Int) {j : Nat} (h : j < n) : (intC (rg n f))[j]? = some (.int .i64 (f j)) := by
  simp [intC, rg, h]

theorem intC_set (zs : List Int) (i : Nat) (v : Int) : (intC zs).set i (.int .i64 v) = intC (zs.set i v) := by
  simp [intC, List.map_set]

theorem nsI_zero : nsI L 0 = List.replicate 512 0 := by
  have e : nsI L 0 = rg 512 (fun _ => 0) := rg_congr (fun j _ => by simp [nsF])
  rw [e]
  unfold rg
  rw [List.map_const', List.length_range]

theorem ns_rep (k : Nat) (t : Int) (ht : top (stk L k) = t) (h : ¬ (opA L k = 34 ∧ stk L k ≠ [])) (hk : k < 256) :
    rg 512 (fun j => if j = k then t else if j = 256 + k then -1 else if j = k then -1 else nsF L k j) = nsI L (k + 1) := by
  refine rg_congr (fun j hj => ?_)
  have hen : ∀ m, enN L (k + 1) m = enN L k m := fun m => by
    conv => lhs; unfold enN
    rw [if_neg]
    rintro ⟨h1, h2⟩
    exact h ⟨h1, fun e => by rw [e] at h2; simp at h2⟩
  unfold nsF
  rw [hen]
  by_cases c1 : j = k
  · subst c1
    rw [if_pos rfl, if_pos (by omega), if_pos (by omega), ht]
  · rw [if_neg c1]
    by_cases c2 : j = 256 + k
    · rw [if_pos c2, if_neg (by omega), if_pos (by omega), en_out (by omega)]
    · rw [if_neg c2, if_neg c1]
      by_cases c3 : j < 256
      · rw [if_pos c3, if_pos c3]
        by_cases c4 : j < k
        · rw [if_pos c4, if_pos (by omega)]
        · rw [if_neg c4, if_neg (by omega)]
      · rw [if_neg c3, if_neg c3]
        by_cases c4 : j - 256 < k
        · rw [if_pos c4, if_pos (by omega)]
        · rw [if_neg c4, if_neg (by omega)]

theorem ns_end (k r : Nat) (hr : stk L k = r :: stk L r) (h : opA L k = 34) (hk : k < 256) :
    rg 512 (fun j => if j = 256 + r then (k : Int) else if j = k then (r : Int) else if j = 256 + k then -1 else if j = k then -1 else nsF L k j) = nsI L (k + 1) := by
  have hrk : r < k := (stk_lt (L := L) (k := k) (r := r) (by rw [hr]; exact List.mem_cons_self)).1
  refine rg_congr (fun j hj => ?_)
  have hen : ∀ m, enN L (k + 1) m = if m = r then (k : Int) else enN L k m := fun m => by
    conv => lhs; unfold enN
    by_cases c : m = r
    · subst c; rw [if_pos rfl, if_pos ⟨h, by rw [hr]; rfl⟩]
    · rw [if_neg c, if_neg]
      rintro ⟨-, h2⟩
      rw [hr] at h2
      simp at h2
      exact c h2.symm
  unfold nsF
  rw [hen]
  by_cases c0 : j = 256 + r
  · rw [if_pos c0, if_neg (by omega), if_pos (by omega), if_pos (by omega)]
  · rw [if_neg c0]
    by_cases c1 : j = k
    · subst c1
      rw [if_pos rfl, if_pos (by omega), if_pos (by omega), hr]; rfl
    · rw [if_neg c1]
      by_cases c2 : j = 256 + k
      · rw [if_pos c2, if_neg (by omega), if_pos (by omega), if_neg (by omega), en_out (by omega)]
      · rw [if_neg c2, if_neg c1]
        by_cases c3 : j < 256
        · rw [if_pos c3, if_pos c3]
          by_cases c4 : j < k
          · rw [if_pos c4, if_pos (by omega)]
          · rw [if_neg c4, if_neg (by omega)]
        · rw [if_neg c3, if_neg c3]
          by_cases c4 : j - 256 < k
          · rw [if_pos c4, if_pos (by omega), if_neg (by omega)]
          · rw [if_neg c4, if_neg (by omega)]

/-- The pile of the program. -/
def Pile (S : List Nat) (O : List Int) : Prop := O.length = 256 ∧ ∀ i, i < S.length → O[i]? = some ((S.getD (S.length - 1 - i) 0 : Nat) : Int)

theorem Pile.push {S : List Nat} {O : List Int} (h : Pile S O) (k : Nat) (hs : S.length < 256) : Pile (k :: S) (O.set S.length k) := by
  refine ⟨by rw [List.length_set]; exact h.1, fun i hi => ?_⟩
  have h256 := h.1
  rw [List.getElem?_set]
  by_cases c : S.length = i
  · subst c
    rw [if_pos rfl, if_pos (by omega)]
    simp
  · rw [if_neg c]
    simp only [List.length_cons] at hi ⊢
    rw [h.2 i (by omega)]
    have e : S.length + 1 - 1 - i = (S.length - 1 - i) + 1 := by omega
    rw [e, List.getD_cons_succ]
theorem Pile.pop {r : Nat} {S : List Nat} {O : List Int} (h : Pile (r :: S) O) : Pile S O := by
  refine ⟨h.1, fun i hi => ?_⟩
  rw [h.2 i (by simp; omega)]
  have e : (r :: S).length - 1 - i = (S.length - 1 - i) + 1 := by simp only [List.length_cons]; omega
  rw [e, List.getD_cons_succ]
theorem Pile.top {r : Nat} {S : List Nat} {O : List Int} (h : Pile (r :: S) O) : O[S.length]? = some (r : Int) := by
  rw [h.2 S.length (by simp)]
  simp

/-- The state of the loop: what is answered, the nest, the pile. -/
structure NoJ (w : World) (g0 g1 g2 : Nat) (L : List Q5) (k : Nat) (W : World) : Prop where
  old : Below w.heap.size w W
  res : W.heap[g0]? = some (.cells (intC (List.replicate 512 0)).toArray 53 (0, 0))
  nst : W.heap[g1]? = some (.cells (intC (nsI L k)).toArray 53 (0, 0))
  opn : ∃ O, W.heap[g2]? = some (.cells (intC O).toArray 51 (0, 0)) ∧ Pile (stk L k) O

theorem ns_rep0 (k : Nat) (ht : stk L k = []) (hk : k < 256) :
    rg 512 (fun j => if j = 256 + k then -1 else if j = k then -1 else nsF L k j) = nsI L (k + 1) := by
  rw [← ns_rep k (-1) (by rw [ht]; rfl) (fun h => h.2 ht) hk]
  refine rg_congr (fun j _ => ?_)
  by_cases c : j = k
  · subst c
    rw [if_neg (by omega), if_pos rfl, if_pos rfl]
  · simp only [if_neg c]

theorem NoJ.step {w W W' : World} {g0 g1 g2 k : Nat} (h : NoJ w g0 g1 g2 L k W) (K : Kept (fun j => j = g1 ∨ j = g2) W W') (l0 : w.heap.size ≤ g0) (l1 : g0 < g1) (l2 : g1 < g2) (hn : W'.heap[g1]? = some (.cells (intC (nsI L (k + 1))).toArray 53 (0, 0)))
    (ho : ∃ O, W'.heap[g2]? = some (.cells (intC O).toArray 51 (0, 0)) ∧ Pile (stk L (k + 1)) O) : NoJ w g0 g1 g2 L (k + 1) W' :=
  ⟨h.old.trans (K.below h.old.size (fun j hj e => by omega)), by
    rw [K.block g0 (Array.getElem?_eq_some_iff.1 h.res).1 (by omega)]; exact h.res, hn, ho⟩

theorem range_blk {w : World} {g : Nat} {L : List Value} {t : TypeId} {fr : Nat × Nat} (h : w.heap[g]? = some (.cells L.toArray t fr)) : w.rangeAt g 0 L := fun j v hv => by
  rw [Nat.zero_add, cell_of_row w g j _ _ _ h, List.getElem?_toArray]; exact hv

/-- A call ends with a struct that lies in a block. -/
theorem ret_cell_one {fn : Func} {p : Tmp} {ty : TypeId} {R : Ending → World → Prop} {a : Act} {w : World} (hres : fn.results = #[.cell p ty]) (g : Nat) (t : TypeId) (L : List Value) (fr : Nat × Nat) (d : TypeDesc)
    (hp : a.tmps.getD p undef = .pointer (some ⟨g, 0, none⟩)) (hg : w.heap[g]? = some (.cells L.toArray t fr)) (hu : Try.prog.underlying ty = some d) (hd : d.isRow = true) (hi : (Try.prog.info? ty).map (·.size) = some L.length)
    (hdf : a.defers = []) (hR : R (.returned (.agg L.toArray)) w) : bodyPost Try.prog fn R .ret a w := by
  refine bodyPost_ret ?_ hdf hR
  have hp' : a.tmps[p]?.getD undef = .pointer (some ⟨g, 0, none⟩) := by simpa using hp
  simp [results, hres, hp', asAddr, run_loadVar_mid w g 0 ty L d (range_blk hg) hu hd hi]

set_option maxHeartbeats 1000000 in
theorem nestof_any (b off c n : Nat) (w : World) (hL : L.length = n) (hC : Lie w b off L) (hn : n ≤ 256) :
    Calls Try.prog 31 #[.slice (some ⟨b, off, none⟩) n c] w fun e w' => e = .returned (.agg (intC (nsI L n)).toArray) ∧ Below w.heap.size w w' := by
  obtain ⟨iN, hiN, hzN, -⟩ := nest_info
  obtain ⟨iP, hiP, hzP, -⟩ := pile_info
  have HiN := Hid.mk' hiN
  have HzN := Hid.mk' hzN
  have HiP := Hid.mk' hiP
  have HzP := Hid.mk' hzP
  have HC := Hid.mk' hC
  have HL := Hid.mk' hL
  clear hiN hzN hiP hzP hC hL
  go_enter Try.func31, Try.ntmps31
  go_wp2_with (first
    | (refine wpList_alloc_big rfl 53 rfl iN _ HiN.out HzN.out ?_; intro _ _ _ _)
    | (refine wpList_alloc_big rfl 51 rfl iP _ HiP.out HzP.out ?_; intro _ _ _ _))
  rename_i w1 h1 b1 s1 w2 h2 b2 s2 w3 h3 b3 s3 QK0 QK1
  obtain ⟨g0, hg0⟩ : ∃ g0, g0 = w.heap.size := ⟨_, rfl⟩
  obtain ⟨g1, hg1⟩ : ∃ g1, g1 = g0 + 1 := ⟨_, rfl⟩
  obtain ⟨g2, hg2⟩ : ∃ g2, g2 = g1 + 1 := ⟨_, rfl⟩
  have J0 : Hid (NoJ w g0 g1 g2 L 0 w3) := Hid.mk' ⟨b1.trans ((b2.mono (by omega)).trans (b3.mono (by omega))), by
      rw [hg0, b3.block _ (by omega), b2.block _ (by omega)]; exact h1, by
      rw [show g1 = w1.heap.size by omega, b3.block _ (by omega), nsI_zero]; exact h2, ⟨_, by rw [show g2 = w2.heap.size by omega]; exact h3, by simp, by intro i hi; simp [stk] at hi⟩⟩
  have HG0 : Hid (w.heap.size ≤ g0) := Hid.mk' (by omega)
  have l01 : g0 < g1 := by omega
  have l12 : g1 < g2 := by omega
  rw [← hg0, ← hg1]
  first | rw [← hg2] | rw [show g0 + 2 = g2 by omega]
  clear h1 h2 h3 b1 b2 b3 s1 s2 s3 hg0 hg1 hg2 HiN HzN HiP HzP
  clear w1 w2
  go_loopw [5, 10] (fun h i wr => ∃ k m : Nat, k ≤ n ∧ h = .int .i64 m ∧ i = .int .i64 k ∧ Hid ((stk L k).length = m) ∧ Hid (NoJ w g0 g1 g2 L k wr)) (fun _ i _ => n - (intOf i).toNat)
  case atStart => exact ⟨0, 0, Nat.zero_le _, rfl, rfl, Hid.mk' rfl, J0⟩
  case round =>
    obtain ⟨k, m, hk, rfl, rfl, hm, hJ⟩ := hrel
    by_cases hlt : k < n
    · obtain ⟨p, d, s, o, i, hq, q1, -, -⟩ := at_get (L := L) (k := k) (by rw [HL.out]; exact hlt)
      obtain ⟨c0, c1, c2, c3, c4⟩ := (HC.out.below hJ.out.old) k p d s o i hq
      obtain ⟨O, hO, hPile⟩ := hJ.out.opn
      have HO := Hid.mk' hO
      have HPile := Hid.mk' hPile
      have HN1 := Hid.mk' hJ.out.nst
      have z1 : g1 < wr.heap.size := (Array.getElem?_eq_some_iff.1 hJ.out.nst).1
      have z2 : g2 < wr.heap.size := (Array.getElem?_eq_some_iff.1 hO).1
      have HA : Hid (∀ o : Obj, (wr.alloc o).heap[g1]? = some (.cells (intC (nsI L k)).toArray 53 (0, 0))) := Hid.mk' (fun o => (Below.heap_alloc wr o g1 z1).trans HN1.out)
      have hsp : (k : Int) < (n : Int) := by omega
      have k256 : (k : Int) < 256 := by omega
      have SZ : Hid ((intC (nsI L k)).length = 512) := Hid.mk' (by rw [intC_length]; exact rg_length _ _)
      have hml : m ≤ k := by rw [← hm.out]; exact stk_len k
      have q1 := Hid.mk' q1
      clear hq hO hPile
      rcases top_cases (L := L) k with ⟨e1, e2⟩ | ⟨r, r1, r2, r3, r4⟩
      · have em : m = 0 := by rw [← hm.out, e1]; rfl
        subst em
        have hst := Hid.mk' e1
        clear e1 e2
        by_cases hp3 : p = 33
        · subst hp3
          have hop : Hid (opA L k = 33) := Hid.mk' (by first | exact q1.out | (rw [q1.out]; assumption))
          go_wp2_with (first
                  | (refine wpList_store_at rfl _ _ rfl g1 k (-1) 53 (intC (nsI L k)) rfl rfl (HA.out _) (by rw [SZ.out]; omega) ?_; intro w5 h5 k5 s5)
                  | (refine wpList_store_at rfl _ _ rfl g1 (256 + k) (-1) 53 _ rfl rfl h5 (by rw [List.length_set, SZ.out]; omega) ?_; intro w6 h6 k6 s6; have K6 := Hid.mk' (((Kept.refl (fun j => j = g1) wr).alloc _).trans (k5.trans k6)); have cop : w6.cell? ⟨wr.heap.size, 0, none⟩ = some (.int .u8 33) := k6.cell (p := ⟨wr.heap.size, 0, none⟩) (k5.cell (p := ⟨wr.heap.size, 0, none⟩) (World.cell?_alloc_new _ _ _ _) (by show ¬ wr.heap.size = g1; omega)) (by show ¬ wr.heap.size = g1; omega))
                  | (refine wpList_store_at rfl _ _ rfl g2 0 k 51 (intC O) rfl rfl ((K6.out.block g2 z2 (by omega)).trans HO.out) (by rw [intC_length, HPile.out.1]; omega) ?_; intro w8 h8 k8 s8))
          go_roundw
          case rel => exact ⟨k + 1, 1, hlt, by go_num, by go_num, Hid.mk' (by rw [stk_rep hop.out, hst.out]; rfl), Hid.mk' (hJ.out.step ((K6.out.mono (fun _ _ e => .inl e)).trans (k8.mono (fun _ _ e => .inr e))) HG0.out l01 l12 (by { have e := (k8.block g1 (by have := (Array.getElem?_eq_some_iff.1 h6).1; exact this) (by omega)).trans h6; rw [intC_set, intC_set] at e; unfold nsI at e; rw [rg_set, rg_set] at e; rw [ns_rep0 k hst.out (by omega)] at e; exact e }) ⟨_, by { have e := h8; rw [intC_set] at e; exact e }, by { rw [stk_rep hop.out]; have e := HPile.out.push k (by rw [hm.out]; omega); rw [hm.out] at e; exact e }⟩)⟩
          case measure => simp [intOf]; omega
        by_cases hp4 : p = 34
        · subst hp4
          have hop : Hid (opA L k = 34) := Hid.mk' (by first | exact q1.out | (rw [q1.out]; assumption))
          go_wp2_with (first
                  | (refine wpList_store_at rfl _ _ rfl g1 k (-1) 53 (intC (nsI L k)) rfl rfl (HA.out _) (by rw [SZ.out]; omega) ?_; intro w5 h5 k5 s5)
                  | (refine wpList_store_at rfl _ _ rfl g1 (256 + k) (-1) 53 _ rfl rfl h5 (by rw [List.length_set, SZ.out]; omega) ?_; intro w6 h6 k6 s6; have K6 := Hid.mk' (((Kept.refl (fun j => j = g1) wr).alloc _).trans (k5.trans k6)); have cop : w6.cell? ⟨wr.heap.size, 0, none⟩ = some (.int .u8 34) := k6.cell (p := ⟨wr.heap.size, 0, none⟩) (k5.cell (p := ⟨wr.heap.size, 0, none⟩) (World.cell?_alloc_new _ _ _ _) (by show ¬ wr.heap.size = g1; omega)) (by show ¬ wr.heap.size = g1; omega)))
          go_roundw
          case rel => exact ⟨k + 1, 0, hlt, by go_num, by go_num, Hid.mk' (by rw [stk_end hop.out, hst.out]; rfl), Hid.mk' (hJ.out.step (K6.out.mono (fun _ _ e => .inl e)) HG0.out l01 l12 (by { have e := h6; rw [intC_set, intC_set] at e; unfold nsI at e; rw [rg_set, rg_set] at e; rw [ns_rep0 k hst.out (by omega)] at e; exact e }) ⟨_, (K6.out.block g2 z2 (by omega)).trans HO.out, by { rw [stk_end hop.out, hst.out, List.tail_nil, ← hst.out]; exact HPile.out }⟩)⟩
          case measure => simp [intOf]; omega
        · have hop3 : Hid (opA L k ≠ 33) := Hid.mk' (by first | exact q1.out | (rw [q1.out]; assumption))
          have hop4 : Hid (opA L k ≠ 34) := Hid.mk' (by first | exact q1.out | (rw [q1.out]; assumption))
          go_wp2_with (first
                  | (refine wpList_store_at rfl _ _ rfl g1 k (-1) 53 (intC (nsI L k)) rfl rfl (HA.out _) (by rw [SZ.out]; omega) ?_; intro w5 h5 k5 s5)
                  | (refine wpList_store_at rfl _ _ rfl g1 (256 + k) (-1) 53 _ rfl rfl h5 (by rw [List.length_set, SZ.out]; omega) ?_; intro w6 h6 k6 s6; have K6 := Hid.mk' (((Kept.refl (fun j => j = g1) wr).alloc _).trans (k5.trans k6)); have cop : w6.cell? ⟨wr.heap.size, 0, none⟩ = some (.int .u8 p) := k6.cell (p := ⟨wr.heap.size, 0, none⟩) (k5.cell (p := ⟨wr.heap.size, 0, none⟩) (World.cell?_alloc_new _ _ _ _) (by show ¬ wr.heap.size = g1; omega)) (by show ¬ wr.heap.size = g1; omega)))
          go_roundw
          case rel => exact ⟨k + 1, 0, hlt, by go_num, by go_num, Hid.mk' (by rw [stk_else hop3.out hop4.out, hst.out]; rfl), Hid.mk' (hJ.out.step (K6.out.mono (fun _ _ e => .inl e)) HG0.out l01 l12 (by { have e := h6; rw [intC_set, intC_set] at e; unfold nsI at e; rw [rg_set, rg_set] at e; rw [ns_rep0 k hst.out (by omega)] at e; exact e }) ⟨_, (K6.out.block g2 z2 (by omega)).trans HO.out, by { rw [stk_else hop3.out hop4.out]; exact HPile.out }⟩)⟩
          case measure => simp [intOf]; omega
      · have hst := Hid.mk' r3
        obtain ⟨M, HM⟩ : ∃ M, Hid ((stk L r).length = M) := ⟨_, Hid.mk' rfl⟩
        have hmM : m = M + 1 := by rw [← hm.out, r3, List.length_cons, HM.out]
        have hmm : (m : Int) - 1 = (M : Int) := by omega
        have hM2 : (M : Int) < 256 := by omega
        have hm256 : (m : Int) < 256 := by omega
        have hmp : (0 : Int) < (m : Int) := by omega
        have hr2 : (r : Int) < 256 := by omega
        have HT : Hid ((intC O)[M]? = some (.int .i64 r)) := Hid.mk' (by have e := HPile.out; rw [r3] at e; have := e.top; rw [HM.out] at this; simp [intC, this])
        clear r2 r3 r4 hmM
        by_cases hp3 : p = 33
        · subst hp3
          have hop : Hid (opA L k = 33) := Hid.mk' (by first | exact q1.out | (rw [q1.out]; assumption))
          go_wp2_with (first
                  | (refine wpList_store_at rfl _ _ rfl g1 k (-1) 53 (intC (nsI L k)) rfl rfl (HA.out _) (by rw [SZ.out]; omega) ?_; intro w5 h5 k5 s5)
                  | (refine wpList_store_at rfl _ _ rfl g1 (256 + k) (-1) 53 _ rfl rfl h5 (by rw [List.length_set, SZ.out]; omega) ?_; intro w6 h6 k6 s6; have K6 := Hid.mk' (((Kept.refl (fun j => j = g1) wr).alloc _).trans (k5.trans k6)); have cop : w6.cell? ⟨wr.heap.size, 0, none⟩ = some (.int .u8 33) := k6.cell (p := ⟨wr.heap.size, 0, none⟩) (k5.cell (p := ⟨wr.heap.size, 0, none⟩) (World.cell?_alloc_new _ _ _ _) (by show ¬ wr.heap.size = g1; omega)) (by show ¬ wr.heap.size = g1; omega); have cpl : w6.cell? ⟨g2, M, none⟩ = some (.int .i64 r) := by { rw [cell_of_row w6 g2 M _ _ _ ((K6.out.block g2 z2 (by omega)).trans HO.out), List.getElem?_toArray]; exact HT.out })
                  | (refine wpList_store_at rfl _ _ rfl g1 k r 53 _ rfl rfl h6 (by rw [List.length_set, List.length_set, SZ.out]; omega) ?_; intro w7 h7 k7 s7; have K7 := Hid.mk' (K6.out.trans k7); have cop7 : w7.cell? ⟨wr.heap.size, 0, none⟩ = some (.int .u8 33) := k7.cell (p := ⟨wr.heap.size, 0, none⟩) cop (by show ¬ wr.heap.size = g1; omega); have cpl7 : w7.cell? ⟨g2, M, none⟩ = some (.int .i64 r) := k7.cell (p := ⟨g2, M, none⟩) cpl (by show ¬ g2 = g1; omega))
                  | (refine wpList_store_at rfl _ _ rfl g2 m k 51 (intC O) rfl rfl ((K7.out.block g2 z2 (by omega)).trans HO.out) (by rw [intC_length, HPile.out.1]; omega) ?_; intro w8 h8 k8 s8))
          go_roundw
          case rel => exact ⟨k + 1, m + 1, hlt, by go_num, by go_num, Hid.mk' (by rw [stk_rep hop.out, List.length_cons, hm.out]), Hid.mk' (hJ.out.step ((K7.out.mono (fun _ _ e => .inl e)).trans (k8.mono (fun _ _ e => .inr e))) HG0.out l01 l12 (by { have e := (k8.block g1 (by have := (Array.getElem?_eq_some_iff.1 h7).1; exact this) (by omega)).trans h7; rw [intC_set, intC_set, intC_set] at e; unfold nsI at e; rw [rg_set, rg_set, rg_set] at e; rw [ns_rep k r (by rw [hst.out]; rfl) (fun h => by have := hop.out; omega) (by omega)] at e; exact e }) ⟨_, by { have e := h8; rw [intC_set] at e; exact e }, by { rw [stk_rep hop.out]; have e := HPile.out.push k (by rw [hm.out]; omega); rw [hm.out] at e; exact e }⟩)⟩
          case measure => simp [intOf]; omega
        by_cases hp4 : p = 34
        · subst hp4
          have hop : Hid (opA L k = 34) := Hid.mk' (by first | exact q1.out | (rw [q1.out]; assumption))
          go_wp2_with (first
                  | (refine wpList_store_at rfl _ _ rfl g1 k (-1) 53 (intC (nsI L k)) rfl rfl (HA.out _) (by rw [SZ.out]; omega) ?_; intro w5 h5 k5 s5)
                  | (refine wpList_store_at rfl _ _ rfl g1 (256 + k) (-1) 53 _ rfl rfl h5 (by rw [List.length_set, SZ.out]; omega) ?_; intro w6 h6 k6 s6; have K6 := Hid.mk' (((Kept.refl (fun j => j = g1) wr).alloc _).trans (k5.trans k6)); have cop : w6.cell? ⟨wr.heap.size, 0, none⟩ = some (.int .u8 34) := k6.cell (p := ⟨wr.heap.size, 0, none⟩) (k5.cell (p := ⟨wr.heap.size, 0, none⟩) (World.cell?_alloc_new _ _ _ _) (by show ¬ wr.heap.size = g1; omega)) (by show ¬ wr.heap.size = g1; omega); have cpl : w6.cell? ⟨g2, M, none⟩ = some (.int .i64 r) := by { rw [cell_of_row w6 g2 M _ _ _ ((K6.out.block g2 z2 (by omega)).trans HO.out), List.getElem?_toArray]; exact HT.out })
                  | (refine wpList_store_at rfl _ _ rfl g1 k r 53 _ rfl rfl h6 (by rw [List.length_set, List.length_set, SZ.out]; omega) ?_; intro w7 h7 k7 s7; have K7 := Hid.mk' (K6.out.trans k7); have cop7 : w7.cell? ⟨wr.heap.size, 0, none⟩ = some (.int .u8 34) := k7.cell (p := ⟨wr.heap.size, 0, none⟩) cop (by show ¬ wr.heap.size = g1; omega); have cpl7 : w7.cell? ⟨g2, M, none⟩ = some (.int .i64 r) := k7.cell (p := ⟨g2, M, none⟩) cpl (by show ¬ g2 = g1; omega))
                  | (refine wpList_store_at rfl _ _ rfl g1 (256 + r) k 53 _ rfl rfl h7 (by rw [List.length_set, List.length_set, List.length_set, SZ.out]; omega) ?_; intro w8 h8 k8 s8))
          go_roundw
          case rel => exact ⟨k + 1, M, hlt, by go_num, by go_num, Hid.mk' (by rw [stk_end hop.out, hst.out, List.tail_cons]; exact HM.out), Hid.mk' (hJ.out.step ((K7.out.mono (fun _ _ e => .inl e)).trans (k8.mono (fun _ _ e => .inl e))) HG0.out l01 l12 (by { have e := h8; rw [intC_set, intC_set, intC_set, intC_set] at e; unfold nsI at e; rw [rg_set, rg_set, rg_set, rg_set] at e; rw [ns_end k r hst.out hop.out (by omega)] at e; exact e }) ⟨_, (k8.block g2 (by have := (Array.getElem?_eq_some_iff.1 ((K7.out.block g2 z2 (by omega)).trans HO.out)).1; exact this) (by omega)).trans ((K7.out.block g2 z2 (by omega)).trans HO.out), by { rw [stk_end hop.out, hst.out, List.tail_cons]; have e := HPile.out; rw [hst.out] at e; exact e.pop }⟩)⟩
          case measure => simp [intOf]; omega
        · have hop3 : Hid (opA L k ≠ 33) := Hid.mk' (by first | exact q1.out | (rw [q1.out]; assumption))
          have hop4 : Hid (opA L k ≠ 34) := Hid.mk' (by first | exact q1.out | (rw [q1.out]; assumption))
          go_wp2_with (first
                  | (refine wpList_store_at rfl _ _ rfl g1 k (-1) 53 (intC (nsI L k)) rfl rfl (HA.out _) (by rw [SZ.out]; omega) ?_; intro w5 h5 k5 s5)
                  | (refine wpList_store_at rfl _ _ rfl g1 (256 + k) (-1) 53 _ rfl rfl h5 (by rw [List.length_set, SZ.out]; omega) ?_; intro w6 h6 k6 s6; have K6 := Hid.mk' (((Kept.refl (fun j => j = g1) wr).alloc _).trans (k5.trans k6)); have cop : w6.cell? ⟨wr.heap.size, 0, none⟩ = some (.int .u8 p) := k6.cell (p := ⟨wr.heap.size, 0, none⟩) (k5.cell (p := ⟨wr.heap.size, 0, none⟩) (World.cell?_alloc_new _ _ _ _) (by show ¬ wr.heap.size = g1; omega)) (by show ¬ wr.heap.size = g1; omega); have cpl : w6.cell? ⟨g2, M, none⟩ = some (.int .i64 r) := by { rw [cell_of_row w6 g2 M _ _ _ ((K6.out.block g2 z2 (by omega)).trans HO.out), List.getElem?_toArray]; exact HT.out })
                  | (refine wpList_store_at rfl _ _ rfl g1 k r 53 _ rfl rfl h6 (by rw [List.length_set, List.length_set, SZ.out]; omega) ?_; intro w7 h7 k7 s7; have K7 := Hid.mk' (K6.out.trans k7); have cop7 : w7.cell? ⟨wr.heap.size, 0, none⟩ = some (.int .u8 p) := k7.cell (p := ⟨wr.heap.size, 0, none⟩) cop (by show ¬ wr.heap.size = g1; omega); have cpl7 : w7.cell? ⟨g2, M, none⟩ = some (.int .i64 r) := k7.cell (p := ⟨g2, M, none⟩) cpl (by show ¬ g2 = g1; omega)))
          go_roundw
          case rel => exact ⟨k + 1, m, hlt, by go_num, by go_num, Hid.mk' (by rw [stk_else hop3.out hop4.out]; exact hm.out), Hid.mk' (hJ.out.step (K7.out.mono (fun _ _ e => .inl e)) HG0.out l01 l12 (by { have e := h7; rw [intC_set, intC_set, intC_set] at e; unfold nsI at e; rw [rg_set, rg_set, rg_set] at e; rw [ns_rep k r (by rw [hst.out]; rfl) (fun h => hop4.out h.1) (by omega)] at e; exact e }) ⟨_, (K7.out.block g2 z2 (by omega)).trans HO.out, by { rw [stk_else hop3.out hop4.out]; exact HPile.out }⟩)⟩
          case measure => simp [intOf]; omega
    · have hsp : ¬ (k : Int) < (n : Int) := by omega
      have hkn : k = n := by omega
      subst hkn
      have sz : ∀ zs : List Int, zs.length = 512 → (intC zs).length = 512 := fun zs h => by rw [intC_length, h]
      have sz := Hid.mk' sz
      go_wp2_with (first
        | (refine wpList_load_big rfl 53 _ rfl g1 53 _ rfl hJ.out.nst _ Try.underlying53 rfl 512 (sz.out _ (rg_length _ _)) nest_size ?_)
        | (refine wpList_store_over rfl 53 _ _ rfl g0 53 _ _ rfl rfl hJ.out.res 512 (sz.out _ (by rw [List.length_replicate])) (sz.out _ (rg_length _ _)) nest_size (intC_one _) ?_; intro w5 h5 k5 s5))
      refine ret_cell_one rfl g0 53 _ (0, 0) _ rfl h5 Try.underlying53 rfl (by rw [sz.out (nsI L k) (rg_length _ _)]; exact nest_size) rfl ?_
      exact ⟨rfl, hJ.out.old.trans (k5.below (by have := hJ.out.old.size; have := HG0.out; omega) (fun j hj e => by have := HG0.out; omega))⟩
end Go.Proofs.Ytffjddabjjcjpaa
