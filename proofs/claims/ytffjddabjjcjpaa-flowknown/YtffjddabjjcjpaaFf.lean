/- What is wrong with a program: the contract of look. -/
import Derived.Test.YtffjddabjjcjpaaFe
namespace Go.Proofs.Ytffjddabjjcjpaa
open Go.ChangeShapes Go.WideShapes Go.ChangeAt Go.RowKit
set_option maxRecDepth 10000
variable {L : List Q5}

/-- The first number at which something is so. -/
def firstN (p : Nat → Bool) : Nat → Option Nat
  | 0 => none
  | n + 1 => match firstN p n with
    | some k => some k
    | none => if p n then some n else none

theorem firstN_none {p : Nat → Bool} {n : Nat} (h : ∀ j, j < n → p j = false) : firstN p n = none := by
  induction n with
  | zero => rfl
  | succ n ih =>
    unfold firstN
    rw [ih (fun j hj => h j (by omega))]
    simp [h n (by omega)]
theorem firstN_some {p : Nat → Bool} {n k : Nat} (h : ∀ j, j < k → p j = false) (hk : p k = true) (hn : k < n) : firstN p n = some k := by
  induction n with
  | zero => omega
  | succ n ih =>
    unfold firstN
    by_cases c : k < n
    · rw [ih c]
    · have : k = n := by omega
      subst this
      rw [firstN_none h]
      simp [hk]
theorem none_firstN {p : Nat → Bool} {n : Nat} (h : firstN p n = none) : ∀ j, j < n → p j = false := by
  induction n with
  | zero => intro j hj; omega
  | succ n ih =>
    unfold firstN at h
    cases e : firstN p n with
    | some k => rw [e] at h; simp at h
    | none =>
      rw [e] at h
      intro j hj
      by_cases c : j < n
      · exact ih e j c
      · have : j = n := by omega
        subst this
        simpa using h

/-- What Check answers: the place, the error. -/
def ckF (L : List Q5) : Nat × Int :=
  if 256 < L.length then (0, 3) else if L.length = 0 then (0, 140) else
  match firstN (fun k => !okA L k) L.length with
  | some k => (k, 130)
  | none => match firstN (wgN L) L.length with
    | some k => (k, 140)
    | none => (0, 0)

theorem ckF_bad {k : Nat} (h1 : ¬ 256 < L.length) (h : ∀ j, j < k → okA L j = true) (hk : okA L k = false) (hn : k < L.length) : ckF L = (k, 130) := by
  unfold ckF
  rw [if_neg h1, if_neg (by omega), firstN_some (k := k) (fun j hj => by simp [h j hj]) (by simp [hk]) hn]
theorem ckF_wrong {k : Nat} (h1 : ¬ 256 < L.length) (h0 : ∀ j, j < L.length → okA L j = true) (h : ∀ j, j < k → wgN L j = false) (hk : wgN L k = true) (hn : k < L.length) : ckF L = (k, 140) := by
  unfold ckF
  rw [if_neg h1, if_neg (by omega), firstN_none (fun j hj => by simp [h0 j hj]), firstN_some h hk hn]
theorem ckF_ok (h1 : ¬ 256 < L.length) (h2 : L.length ≠ 0) (h0 : ∀ j, j < L.length → okA L j = true) (h : ∀ j, j < L.length → wgN L j = false) : ckF L = (0, 0) := by
  unfold ckF
  rw [if_neg h1, if_neg h2, firstN_none (fun j hj => by simp [h0 j hj]), firstN_none h]

/-- A program in memory. -/
structure Cd (w : World) (v : Value) (L : List Q5) : Prop where
  lies : ∃ a c, v = .slice a L.length c ∧ L.length ≤ c ∧ (L = [] ∨ ∃ b off, a = some ⟨b, off, none⟩ ∧ Lie w b off L)
  inb : InbL L
theorem Cd.below {w w' : World} {v : Value} (h : Cd w v L) (hb : Below w.heap.size w w') : Cd w' v L := by
  obtain ⟨a, c, e, hc, hl⟩ := h.lies
  refine ⟨⟨a, c, e, hc, ?_⟩, h.inb⟩
  rcases hl with h0 | ⟨b, off, ea, hC⟩
  · exact .inl h0
  · exact .inr ⟨b, off, ea, hC.below hb⟩

/-- The nest that look answers. -/
def loN (L : List Q5) : List Int := if (ckF L).2 = 0 then nsI L L.length else List.replicate 512 0
theorem loN_len : (loN L).length = 512 := by
  unfold loN
  split
  · exact rg_length _ _
  · simp

/-- A call ends with a struct that lies in a block and two values. -/
theorem ret_cell_two {fn : Func} {p u v : Tmp} {ty : TypeId} {R : Ending → World → Prop} {a : Act} {w : World} (hres : fn.results = #[.cell p ty, .tmp u, .tmp v]) (g : Nat) (t : TypeId) (L : List Value) (fr : Nat × Nat) (d : TypeDesc)
    (hp : a.tmps.getD p undef = .pointer (some ⟨g, 0, none⟩)) (hg : w.heap[g]? = some (.cells L.toArray t fr)) (hu : Try.prog.underlying ty = some d) (hd : d.isRow = true) (hi : (Try.prog.info? ty).map (·.size) = some L.length)
    (hdf : a.defers = []) (hR : R (.returned (.tuple #[.agg L.toArray, a.tmps.getD u undef, a.tmps.getD v undef])) w) : bodyPost Try.prog fn R .ret a w := by
  refine bodyPost_ret ?_ hdf hR
  have hp' : a.tmps[p]?.getD undef = .pointer (some ⟨g, 0, none⟩) := by simpa using hp
  simp [results, hres, hp', asAddr, run_loadVar_mid w g 0 ty L d (range_blk hg) hu hd hi]

theorem ns_of_block {w : World} {g : Nat} {t : TypeId} {fr : Nat × Nat} {n : Nat} (h : w.heap[g]? = some (.cells (intC (nsI L n)).toArray t fr)) (hn : n ≤ 256) : Ns w g L n := by
  intro j hj
  constructor
  · rw [cell_of_row w g j _ _ _ h, List.getElem?_toArray]
    unfold nsI
    rw [rg_get _ (by omega)]
    simp [nsF, hj, show j < 256 by omega]
  · rw [cell_of_row w g (256 + j) _ _ _ h, List.getElem?_toArray]
    unfold nsI
    rw [rg_get _ (by omega)]
    have e : nsF L n (256 + j) = enN L n j := by
      unfold nsF
      rw [if_neg (by omega), Nat.add_sub_cancel_left, if_pos hj]
    rw [e]

/-- The state of look's loops. -/
structure LoJ (w : World) (g0 : Nat) (W : World) : Prop where
  old : Below w.heap.size w W
  res : W.heap[g0]? = some (.cells (intC (List.replicate 512 0)).toArray 53 (0, 0))
theorem LoJ.below {w W W' : World} {g0 : Nat} (h : LoJ w g0 W) (b : Below W.heap.size W W') : LoJ w g0 W' :=
  ⟨h.old.trans (b.mono h.old.size), by rw [b.block g0 (Array.getElem?_eq_some_iff.1 h.res).1]; exact h.res⟩

theorem z512 : (intC (List.replicate 512 0)).length = 512 := by rw [intC_length, List.length_replicate]

set_option maxHeartbeats 2000000 in
theorem look_any (v : Value) (w : World) (hv : Cd w v L) :
    Calls Try.prog 21 #[v] w fun e w' => e = .returned (.tuple #[.agg (intC (loN L)).toArray, .int .i64 (ckF L).1, .int .i64 (ckF L).2]) ∧ Below w.heap.size w w' := by
  obtain ⟨a, c, rfl, hc, hl⟩ := hv.lies
  have hB := hv.inb
  clear hv
  obtain ⟨iN, hiN, hzN, -⟩ := nest_info
  have HiN := Hid.mk' hiN
  have HzN := Hid.mk' hzN
  have HZ := Hid.mk' z512
  clear hiN hzN
  obtain ⟨n, hn⟩ : ∃ n, L.length = n := ⟨_, rfl⟩
  rw [hn] at hc ⊢
  obtain ⟨K, hK⟩ : ∃ K, Hid (ckF L = K) := ⟨_, rfl⟩
  obtain ⟨NL, hNL⟩ : ∃ NL, Hid (loN L = NL) := ⟨_, rfl⟩
  have SN : Hid ((intC NL).length = 512) := Hid.mk' (by rw [← hNL.out, intC_length]; exact loN_len)
  rw [hK.out, hNL.out]
  obtain ⟨g0, hg0⟩ : ∃ g0, g0 = w.heap.size := ⟨_, rfl⟩
  have hgS : Hid (w.heap.size ≤ g0) := Hid.mk' (by omega)
  have hgT : Hid (g0 = w.heap.size) := Hid.mk' hg0
  go_enter Try.func21, Try.ntmps21
  by_cases h256 : 256 < n
  · have e1 : K = (0, 3) := by rw [← hK.out]; unfold ckF; rw [hn, if_pos h256]
    have e2 : NL = List.replicate 512 0 := by rw [← hNL.out]; unfold loN; rw [hK.out, e1]; rfl
    subst e1 e2
    have hsp : (256 : Int) < (n : Int) := by omega
    go_wp2_with (first
      | (refine wpList_alloc_big rfl 53 rfl iN _ HiN.out HzN.out ?_; intro w1 h1 b1 s1)
      | (refine wpList_build_big rfl 53 rfl _ nest_built ?_)
      | (refine wpList_store_over rfl 53 _ _ rfl w.heap.size 53 _ _ rfl rfl h1 512 HZ.out HZ.out nest_size (intC_one _) ?_; intro w2 h2 k2 s2))
    refine ret_cell_two rfl w.heap.size 53 _ (0, 0) _ rfl h2 Try.underlying53 rfl (by rw [HZ.out]; exact nest_size) rfl ?_
    exact ⟨rfl, b1.trans (k2.below (by omega) (fun j hj e => by omega))⟩
  by_cases hn0 : n = 0
  · have e1 : K = (0, 140) := by rw [← hK.out]; unfold ckF; rw [hn, if_neg h256, if_pos hn0]
    have e2 : NL = List.replicate 512 0 := by rw [← hNL.out]; unfold loN; rw [hK.out, e1]; rfl
    subst e1 e2 hn0
    go_wp2_with (first
      | (refine wpList_alloc_big rfl 53 rfl iN _ HiN.out HzN.out ?_; intro w1 h1 b1 s1)
      | (refine wpList_build_big rfl 53 rfl _ nest_built ?_)
      | (refine wpList_store_over rfl 53 _ _ rfl w.heap.size 53 _ _ rfl rfl h1 512 HZ.out HZ.out nest_size (intC_one _) ?_; intro w2 h2 k2 s2))
    refine ret_cell_two rfl w.heap.size 53 _ (0, 0) _ rfl h2 Try.underlying53 rfl (by rw [HZ.out]; exact nest_size) rfl ?_
    exact ⟨rfl, b1.trans (k2.below (by omega) (fun j hj e => by omega))⟩
  rcases hl with h0 | ⟨b, off, rfl, hC⟩
  · rw [h0] at hn; simp at hn; omega
  have hsp : ¬ (256 : Int) < (n : Int) := by omega
  have hsp0 : ¬ (n : Int) = 0 := by omega
  have HC := Hid.mk' hC
  have HB := Hid.mk' hB
  have HL := Hid.mk' hn
  clear hC hB hn
  go_wp2_with (first
    | (refine wpList_alloc_big rfl 53 rfl iN _ HiN.out HzN.out ?_; intro w1 h1 b1 s1))
  have J1 : Hid (LoJ w g0 w1) := Hid.mk' ⟨b1, by rw [hg0]; exact h1⟩
  rw [← hg0]
  clear h1 b1 s1 hg0
  have ST : Hid (∀ W, LoJ w g0 W → g0 < W.heap.size) := Hid.mk' (fun W h => (Array.getElem?_eq_some_iff.1 h.res).1)
  go_loopw [20] (fun i wr => ∃ k : Nat, k ≤ n ∧ i = .int .i64 k ∧ Hid (∀ j, j < k → okA L j = true) ∧ Hid (LoJ w g0 wr)) (fun i _ => n - (intOf i).toNat)
  case atStart => exact ⟨0, Nat.zero_le _, rfl, Hid.mk' (fun j hj => by omega), J1⟩
  case round =>
    obtain ⟨k, hk, rfl, hok, hJ⟩ := hrel
    by_cases hlt : k < n
    · obtain ⟨p, d, s, o, i, hq, q1, q2, q3⟩ := at_get (L := L) (k := k) (by rw [HL.out]; exact hlt)
      have hin := HB.out k p d s o i hq
      obtain ⟨c0, c1, c2, c3, c4⟩ := (HC.out.below hJ.out.old) k p d s o i hq
      have hmay : Hid (okA L k = mayB p d s o i) := Hid.mk' (by unfold okA mayQ; rw [List.getD_eq_getElem?_getD, hq]; rfl)
      have KC : Hid (∀ u, Calls Try.prog 30 #[insV p d s o i] u fun e w' => e = .returned (.int .i64 (ckN (mayB p d s o i))) ∧ Below u.heap.size u w') := Hid.mk' (fun u => check_any p d s o i u hin)
      obtain ⟨B, hBm⟩ : ∃ B, mayB p d s o i = B := ⟨_, rfl⟩
      rw [hBm] at KC hmay
      have hlk : (k : Int) < (n : Int) := by omega
      clear hin hq q1 q2 q3 hBm
      go_wp2_with fail
      refine (KC.out _).mono ?_
      rintro e w3 ⟨rfl, b3⟩
      have J3 := Hid.mk' (hJ.out.below (((Below.refl wr.heap.size wr).alloc (Nat.le_refl _) _).trans (b3.mono (by simp))))
      clear b3
      cases B with
      | true =>
        rw [show ckN true = 0 from rfl]
        go_wp2_with fail
        go_roundw
        case rel => exact ⟨k + 1, hlt, by go_num, Hid.mk' (fun j hj => by
            by_cases c : j < k
            · exact hok.out j c
            · have : j = k := by omega
              rw [this]; exact hmay.out), J3⟩
        case measure => simp [intOf]; omega
      | false =>
        rw [show ckN false = 130 from rfl]
        have e1 : K = (k, 130) := by rw [← hK.out]; exact ckF_bad (by rw [HL.out]; exact h256) hok.out hmay.out (by rw [HL.out]; exact hlt)
        have e2 : NL = List.replicate 512 0 := by rw [← hNL.out]; unfold loN; rw [hK.out, e1]; rfl
        have NB : Hid (Try.prog.built 53 [] = some (intC NL).toArray) := Hid.mk' (by rw [e2]; exact nest_built)
        subst e1
        clear e2
        go_wp2_with (first
          | (refine wpList_build_big rfl 53 rfl _ NB.out ?_)
          | (refine wpList_store_over rfl 53 _ _ rfl g0 53 _ _ rfl rfl J3.out.res 512 HZ.out SN.out nest_size (intC_one _) ?_; intro w4 h4 k4 s4))
        refine ret_cell_two rfl g0 53 _ (0, 0) _ rfl h4 Try.underlying53 rfl (by rw [SN.out]; exact nest_size) rfl ?_
        exact ⟨rfl, J3.out.old.trans (k4.below J3.out.old.size (fun j hj e => by have := hgS.out; omega))⟩
    · have hlk : ¬ (k : Int) < (n : Int) := by omega
      have hkn : k = n := by omega
      subst hkn
      have KN : Hid (∀ u, LoJ w g0 u → Calls Try.prog 31 #[.slice (some ⟨b, off, none⟩) k c] u fun e w' => e = .returned (.agg (intC (nsI L k)).toArray) ∧ Below u.heap.size u w') := Hid.mk' (fun u hu => nestof_any b off c k u HL.out (HC.out.below hu.old) (by omega))
      have SK : Hid ((intC (nsI L k)).length = 512) := Hid.mk' (by rw [intC_length]; exact rg_length _ _)
      go_wp2_with (first
        | (go_at_call 31; refine (KN.out _ hJ.out).mono ?_; rintro e w5 ⟨rfl, b5⟩; have J5 := Hid.mk' (hJ.out.below b5); clear b5)
        | (refine wpList_alloc_big rfl 53 rfl iN _ HiN.out HzN.out ?_; intro w6 h6 b6 s6)
        | (refine wpList_store_over rfl 53 _ _ rfl w5.heap.size 53 _ _ rfl rfl h6 512 HZ.out SK.out nest_size (intC_one _) ?_; intro w7 h7 k7 s7))
      obtain ⟨g8, hg8⟩ : ∃ g8, g8 = w5.heap.size := ⟨_, rfl⟩
      have l8 : g0 < g8 := by have := ST.out _ J5.out; omega
      have J7 : Hid (LoJ w g0 w7) := Hid.mk' (by
        have j6 := J5.out.below b6
        refine ⟨j6.old.trans (k7.below j6.old.size (fun j hj e => by have := hgT.out; omega)), ?_⟩
        rw [k7.block g0 (ST.out _ j6) (by omega)]
        exact j6.res)
      have N7 : Hid (w7.heap[g8]? = some (.cells (intC (nsI L k)).toArray 53 (0, 0))) := Hid.mk' (by rw [hg8]; exact h7)
      rw [← hg8]
      clear hg8 h6 h7 b6 s6 k7 s7 J5 hJ J1
      have HOK := hok
      clear hok
      have KW : Hid (∀ (j : Nat) (u : World), j < k → Ns u g8 L k → Lie u b off L → Calls Try.prog 32 #[.pointer (some ⟨g8, 0, none⟩), .slice (some ⟨b, off, none⟩) k c, .int .i64 j] u fun e w' => e = .returned (.bool (wgN L j)) ∧ Below u.heap.size u w') := Hid.mk' (fun j u hj hN hC => wrong_any g8 b off c k j u HL.out hN hC HB.out (by omega) hj (HOK.out j hj))
      go_wp2_with fail
      go_loopw [37] (fun i wr => ∃ m : Nat, m ≤ k ∧ i = .int .i64 m ∧ Hid (∀ j, j < m → wgN L j = false) ∧ Hid (LoJ w g0 wr) ∧ Hid (wr.heap[g8]? = some (.cells (intC (nsI L k)).toArray 53 (0, 0)))) (fun i _ => k - (intOf i).toNat)
      case atStart => exact ⟨0, Nat.zero_le _, rfl, Hid.mk' (fun j hj => by omega), J7, N7⟩
      case round =>
        clear J7 N7
        obtain ⟨m, hm, rfl, hwg, hJ, hN⟩ := hrel
        by_cases hlt : m < k
        · have hlm : (m : Int) < (k : Int) := by omega
          have KM := Hid.mk' (KW.out m wr hlt (ns_of_block hN.out (by omega)) (HC.out.below hJ.out.old))
          obtain ⟨B, hB⟩ : ∃ B, Hid (wgN L m = B) := ⟨_, Hid.mk' rfl⟩
          rw [hB.out] at KM
          go_wp2_with fail
          refine KM.out.mono ?_
          rintro e w9 ⟨rfl, b9⟩
          have J9 := Hid.mk' (hJ.out.below b9)
          have N9 : Hid (w9.heap[g8]? = some (.cells (intC (nsI L k)).toArray 53 (0, 0))) := Hid.mk' (by rw [b9.block g8 (Array.getElem?_eq_some_iff.1 hN.out).1]; exact hN.out)
          clear b9 KM
          cases B with
          | false =>
            go_wp2_with fail
            go_roundw
            case rel => exact ⟨m + 1, hlt, by go_num, Hid.mk' (fun j hj => by
                by_cases c : j < m
                · exact hwg.out j c
                · have : j = m := by omega
                  rw [this]; exact hB.out), J9, N9⟩
            case measure => simp [intOf]; omega
          | true =>
            have e1 : K = (m, 140) := by rw [← hK.out]; exact ckF_wrong (by rw [HL.out]; exact h256) (fun j hj => HOK.out j (by rw [← HL.out]; exact hj)) hwg.out hB.out (by rw [HL.out]; exact hlt)
            have e2 : NL = List.replicate 512 0 := by rw [← hNL.out]; unfold loN; rw [hK.out, e1]; rfl
            have NB : Hid (Try.prog.built 53 [] = some (intC NL).toArray) := Hid.mk' (by rw [e2]; exact nest_built)
            subst e1
            clear e2
            go_wp2_with (first
              | (refine wpList_build_big rfl 53 rfl _ NB.out ?_)
              | (refine wpList_store_over rfl 53 _ _ rfl g0 53 _ _ rfl rfl J9.out.res 512 HZ.out SN.out nest_size (intC_one _) ?_; intro w4 h4 k4 s4))
            refine ret_cell_two rfl g0 53 _ (0, 0) _ rfl h4 Try.underlying53 rfl (by rw [SN.out]; exact nest_size) rfl ?_
            exact ⟨rfl, J9.out.old.trans (k4.below J9.out.old.size (fun j hj e => by have := hgS.out; omega))⟩
        · have hlm : ¬ (m : Int) < (k : Int) := by omega
          have hmk : m = k := by omega
          subst hmk
          have e1 : K = (0, 0) := by rw [← hK.out]; exact ckF_ok (by rw [HL.out]; exact h256) (by rw [HL.out]; exact hn0) (fun j hj => HOK.out j (by rw [← HL.out]; exact hj)) (fun j hj => hwg.out j (by rw [← HL.out]; exact hj))
          have e2 : nsI L m = NL := by rw [← hNL.out]; unfold loN; rw [hK.out, e1, HL.out]; rfl
          rw [e2] at hN
          subst e1
          clear e2
          go_wp2_with (first
            | (refine wpList_load_big rfl 53 _ rfl g8 53 _ rfl hN.out _ Try.underlying53 rfl 512 SN.out nest_size ?_)
            | (refine wpList_store_over rfl 53 _ _ rfl g0 53 _ _ rfl rfl hJ.out.res 512 HZ.out SN.out nest_size (intC_one _) ?_; intro w4 h4 k4 s4))
          refine ret_cell_two rfl g0 53 _ (0, 0) _ rfl h4 Try.underlying53 rfl (by rw [SN.out]; exact nest_size) rfl ?_
          exact ⟨rfl, hJ.out.old.trans (k4.below hJ.out.old.size (fun j hj e => by have := hgS.out; omega))⟩
end Go.Proofs.Ytffjddabjjcjpaa
