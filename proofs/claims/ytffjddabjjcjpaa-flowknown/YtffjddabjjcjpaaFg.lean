/- What is right with a program that is right (Good); the contracts of Check, Steps. -/
import Derived.Test.YtffjddabjjcjpaaFf
namespace Go.Proofs.Ytffjddabjjcjpaa
open Go.ChangeShapes Go.WideShapes Go.ChangeAt Go.RowKit
set_option maxRecDepth 10000
variable {L : List Q5}

/-- Nothing is wrong. -/
structure Good (L : List Q5) : Prop where
  len : L.length ≤ 256
  pos : 0 < L.length
  ok : ∀ k, k < L.length → okA L k = true
  wg : ∀ k, k < L.length → wgN L k = false

theorem good_of (h : (ckF L).2 = 0) : Good L := by
  unfold ckF at h
  by_cases h1 : 256 < L.length
  · rw [if_pos h1] at h; simp at h
  rw [if_neg h1] at h
  by_cases h2 : L.length = 0
  · rw [if_pos h2] at h; simp at h
  rw [if_neg h2] at h
  cases e1 : firstN (fun k => !okA L k) L.length with
  | some k => rw [e1] at h; simp at h
  | none =>
    rw [e1] at h
    cases e2 : firstN (wgN L) L.length with
    | some k => rw [e2] at h; simp at h
    | none =>
      exact ⟨by omega, by omega, fun k hk => by have := none_firstN e1 k hk; simpa using this, none_firstN e2⟩

theorem Good.ck (h : Good L) : ckF L = (0, 0) := ckF_ok (by have := h.len; omega) (by have := h.pos; omega) h.ok h.wg

theorem Good.last {k : Nat} (h : Good L) (hk : k + 1 = L.length) : opA L k = 36 := by
  have := h.wg k (by omega)
  unfold wgN at this
  rw [if_pos hk] at this
  simpa using this
theorem Good.more {k : Nat} (h : Good L) (hk : k < L.length) (ho : opA L k ≠ 36) : k + 1 < L.length := by
  by_cases c : k + 1 = L.length
  · exact absurd (h.last c) ho
  · omega
theorem Good.end' {k : Nat} (h : Good L) (hk : k < L.length) (ho : opA L k = 34) : ∃ r : Nat, top (stk L k) = r := by
  have h1 := h.more hk (by omega)
  have := h.wg k hk
  unfold wgN at this
  rw [if_neg (by omega), if_pos ho] at this
  have h2 : top (stk L k) ≠ -1 := by simpa using this
  rcases top_cases (L := L) k with ⟨-, e⟩ | ⟨r, -, -, -, e⟩
  · exact absurd e h2
  · exact ⟨r, e⟩
theorem Good.rep {k : Nat} (h : Good L) (hk : k < L.length) (ho : opA L k = 33) : (∃ e : Nat, enN L L.length k = e) ∧ (stk L k).length < 3 := by
  have h1 := h.more hk (by omega)
  have := h.wg k hk
  unfold wgN at this
  rw [if_neg (by omega), if_neg (by omega), if_pos ho] at this
  have h2 : enN L L.length k ≠ -1 ∧ (stk L k).length < 3 := by simpa using this
  obtain ⟨e, e1, -⟩ := en_some h2.1
  exact ⟨⟨e, e1⟩, h2.2⟩
theorem Good.jump {k : Nat} (h : Good L) (hk : k < L.length) (hj : isJ (opA L k) = true) : ∃ t : Nat, toA L k = t ∧ k < t ∧ t < L.length ∧ top (stk L t) ≤ k ∧ 0 ≤ ofA L k ∧ ofA L k ≤ 255 := by
  have hp : 22 ≤ opA L k ∧ opA L k ≤ 32 := by simpa [isJ] using hj
  have h1 := h.more hk (by omega)
  have h0 := ok_jump (h.ok k hk) hj
  have := h.wg k hk
  unfold wgN at this
  rw [if_neg (by omega), if_neg (by omega), if_neg (by omega), if_pos hj] at this
  have h2 : toA L k < L.length ∧ top (stk L (toA L k).toNat) ≤ k := by simpa using this
  have ht : toA L k = k + 1 + ofA L k := rfl
  refine ⟨(toA L k).toNat, by omega, by omega, by omega, h2.2, h0.1, h0.2⟩
theorem Good.depth {k : Nat} (h : Good L) (hk : k ≤ L.length) : (stk L k).length ≤ 3 := by
  induction k with
  | zero => simp [stk]
  | succ k ih =>
    have ih := ih (by omega)
    by_cases h1 : opA L k = 33
    · rw [stk_rep h1, List.length_cons]
      have := (h.rep (by omega) h1).2
      omega
    · by_cases h2 : opA L k = 34
      · rw [stk_end h2, List.length_tail]; omega
      · rw [stk_else h1 h2]; exact ih
theorem Good.imm {k r : Nat} (h : Good L) (hk : k ≤ L.length) (hr : r ∈ stk L k) : 1 ≤ imA L r ∧ imA L r ≤ 16 := by
  have := stk_lt hr
  exact ok_rep (h.ok r (by omega)) this.2

/-- How many steps the first places take. -/
def spN (L : List Q5) : Nat → Int
  | 0 => 0
  | k + 1 => spN L k + pdS L (stk L k)
theorem spN_bd (h : Good L) {k : Nat} (hk : k ≤ L.length) : (k : Int) ≤ spN L k ∧ spN L k ≤ 4096 * k := by
  induction k with
  | zero => simp [spN]
  | succ k ih =>
    have ih := ih (by omega)
    have h1 := pdS_pos (L := L) (l := stk L k) (fun r hr => (h.imm (by omega) hr).1)
    have h2 := pdS_le3 (L := L) (l := stk L k) (fun r hr => h.imm (by omega) hr) (h.depth (by omega))
    unfold spN
    omega
def stN (L : List Q5) : Int := if (ckF L).2 = 0 then spN L L.length else 0

theorem ck_bd : (ckF L).1 ≤ L.length ∧ 0 ≤ (ckF L).2 ∧ (ckF L).2 ≤ 140 := by
  unfold ckF
  have key : ∀ (p : Nat → Bool) (n k : Nat), firstN p n = some k → k < n := by
    intro p n
    induction n with
    | zero => intro k h; simp [firstN] at h
    | succ n ih =>
      intro k h
      unfold firstN at h
      cases e : firstN p n with
      | some j => rw [e] at h; have := ih j e; simp at h; omega
      | none => rw [e] at h; simp at h; omega
  split
  · simp
  split
  · simp
  cases e1 : firstN (fun k => !okA L k) L.length with
  | some k => have := key _ _ _ e1; simp; omega
  | none =>
    simp only []
    cases e2 : firstN (wgN L) L.length with
    | some k => have := key _ _ _ e2; simp; omega
    | none => simp

theorem check_f (v : Value) (w : World) (hv : Cd w v L) :
    Calls Try.prog 14 #[v] w fun e w' => e = .returned (.tuple #[.int .i64 (ckF L).1, .int .i64 (ckF L).2]) ∧ Below w.heap.size w w' := by
  obtain ⟨iN, hiN, hzN, -⟩ := nest_info
  have HiN := Hid.mk' hiN
  have HzN := Hid.mk' hzN
  have HZ := Hid.mk' z512
  have KL := Hid.mk' (look_any v w hv)
  have SN : Hid ((intC (loN L)).length = 512) := Hid.mk' (by rw [intC_length]; exact loN_len)
  clear hiN hzN hv
  obtain ⟨P, hP⟩ : ∃ P, (ckF L).1 = P := ⟨_, rfl⟩
  obtain ⟨E, hE⟩ : ∃ E, (ckF L).2 = E := ⟨_, rfl⟩
  rw [hP, hE] at KL ⊢
  clear hP hE
  generalize loN L = NL at *
  go_enter Try.func14, Try.ntmps14
  go_wp2_with (first
    | (go_at_call 21; refine KL.out.mono ?_; rintro e w1 ⟨rfl, b1⟩)
    | (refine wpList_alloc_big rfl 53 rfl iN _ HiN.out HzN.out ?_; intro w2 h2 b2 s2)
    | (refine wpList_store_over rfl 53 _ _ rfl w1.heap.size 53 _ _ rfl rfl h2 512 HZ.out SN.out nest_size (intC_one _) ?_; intro w3 h3 k3 s3))
  go_ret2
  exact ⟨rfl, (b1.trans (b2.mono b1.size)).trans (k3.below (by have := b1.size; have := b2.size; omega) (fun j hj e => by have := b1.size; omega))⟩

set_option maxHeartbeats 1000000 in
theorem steps_f (v : Value) (w : World) (hv : Cd w v L) :
    Calls Try.prog 15 #[v] w fun e w' => e = .returned (.tuple #[.int .i64 (stN L), .int .i64 (ckF L).2]) ∧ Below w.heap.size w w' := by
  obtain ⟨iN, hiN, hzN, -⟩ := nest_info
  have HiN := Hid.mk' hiN
  have HzN := Hid.mk' hzN
  have HZ := Hid.mk' z512
  have KL := Hid.mk' (look_any v w hv)
  have SN : Hid ((intC (loN L)).length = 512) := Hid.mk' (by rw [intC_length]; exact loN_len)
  have HV := Hid.mk' hv
  obtain ⟨a, c, rfl, hc, hl⟩ := hv.lies
  clear hiN hzN hv
  obtain ⟨P, hP⟩ : ∃ P, (ckF L).1 = P := ⟨_, rfl⟩
  obtain ⟨E, hE⟩ : ∃ E, Hid ((ckF L).2 = E) := ⟨_, Hid.mk' rfl⟩
  obtain ⟨S, hS⟩ : ∃ S, Hid (stN L = S) := ⟨_, Hid.mk' rfl⟩
  obtain ⟨NL, hNL⟩ : ∃ NL, Hid (loN L = NL) := ⟨_, Hid.mk' rfl⟩
  obtain ⟨n, hn⟩ : ∃ n, L.length = n := ⟨_, rfl⟩
  rw [hP, hE.out, hNL.out, hn] at KL
  rw [hE.out, hS.out, hn]
  rw [hn] at hc
  rw [hNL.out] at SN
  clear hP
  go_enter Try.func15, Try.ntmps15
  by_cases hE0 : E = 0
  · have HG : Hid (Good L) := Hid.mk' (good_of (by rw [hE.out, hE0]))
    have hn256 : n ≤ 256 := by rw [← hn]; exact HG.out.len
    have hn0 : 0 < n := by rw [← hn]; exact HG.out.pos
    have eN : NL = nsI L n := by rw [← hNL.out]; unfold loN; rw [hE.out, hE0, hn]; rfl
    have EN := Hid.mk' eN
    have eS : Hid (spN L n = S) := Hid.mk' (by rw [← hS.out]; unfold stN; rw [hE.out, hE0, hn]; rfl)
    have HL := Hid.mk' hn
    rcases hl with h0 | ⟨b, off, rfl, hC⟩
    · rw [h0] at hn; simp at hn; omega
    have HC := Hid.mk' hC
    clear hn hC eN
    subst hE0
    go_wp2_with (first
      | (go_at_call 21; refine KL.out.mono ?_; rintro e w1 ⟨rfl, b1⟩)
      | (refine wpList_alloc_big rfl 53 rfl iN _ HiN.out HzN.out ?_; intro w2 h2 b2 s2)
      | (refine wpList_store_over rfl 53 _ _ rfl w1.heap.size 53 _ _ rfl rfl h2 512 HZ.out SN.out nest_size (intC_one _) ?_; intro w3 h3 k3 s3))
    have B3 : Hid (Below w.heap.size w w3) := Hid.mk' ((b1.trans (b2.mono b1.size)).trans (k3.below (by have := b1.size; have := b2.size; omega) (fun j hj e => by have := b1.size; omega)))
    have N3 : Hid (Ns w3 w1.heap.size L n) := Hid.mk' (ns_of_block (by rw [← EN.out]; exact h3) hn256)
    clear b1 h2 b2 s2 h3 k3 s3 KL
    generalize w1.heap.size = g at *
    go_loopw [7, 20] (fun s i wr => ∃ k : Nat, k ≤ n ∧ i = .int .i64 k ∧ s = .int .i64 (spN L k) ∧ wr = w3) (fun _ i _ => n - (intOf i).toNat)
    case atStart => exact ⟨0, Nat.zero_le _, rfl, rfl, rfl⟩
    case round =>
      obtain ⟨k, hk, rfl, rfl, rfl⟩ := hrel
      obtain ⟨s, hs⟩ : ∃ s, Hid (spN L k = s) := ⟨_, Hid.mk' rfl⟩
      rw [hs.out]
      by_cases hlt : k < n
      · have hlk : (k : Int) < (n : Int) := by omega
        have KR := Hid.mk' (rounds_any g b off c n k wr HL.out N3.out (HC.out.below B3.out) hn256 hlt (fun r hr => HG.out.imm (by rw [HL.out]; omega) hr) (HG.out.depth (by rw [HL.out]; omega)))
        have h1 := spN_bd HG.out (k := k + 1) (by rw [HL.out]; omega)
        have h2 := spN_bd HG.out (k := k) (by rw [HL.out]; omega)
        have hsp : spN L (k + 1) = s + pdS L (stk L k) := by rw [← hs.out]; rfl
        rw [hs.out] at h2
        rw [hsp] at h1
        obtain ⟨R, hR⟩ : ∃ R, Hid (pdS L (stk L k) = R) := ⟨_, Hid.mk' rfl⟩
        rw [hR.out] at KR h1
        have hsp' : Hid (spN L (k + 1) = s + R) := Hid.mk' (by rw [hsp, hR.out])
        clear hsp
        go_wp2_with (go_at_call 28; refine KR.out.mono ?_; rintro e w4 ⟨rfl, rfl⟩)
        go_roundw
        case rel => exact ⟨k + 1, hlt, by go_num, by rw [hsp'.out], by trivial⟩
        case measure => simp [intOf]; omega
      · have hlk : ¬ (k : Int) < (n : Int) := by omega
        have hkn : k = n := by omega
        subst hkn
        have hsS : s = S := by rw [← hs.out]; exact eS.out
        subst hsS
        go_wp2_with fail
        go_ret2
        exact ⟨rfl, B3.out⟩
  · have eS : S = 0 := by rw [← hS.out]; unfold stN; rw [hE.out, if_neg hE0]
    subst eS
    go_wp2_with (first
      | (go_at_call 21; refine KL.out.mono ?_; rintro e w1 ⟨rfl, b1⟩)
      | (refine wpList_alloc_big rfl 53 rfl iN _ HiN.out HzN.out ?_; intro w2 h2 b2 s2)
      | (refine wpList_store_over rfl 53 _ _ rfl w1.heap.size 53 _ _ rfl rfl h2 512 HZ.out SN.out nest_size (intC_one _) ?_; intro w3 h3 k3 s3))
    go_ret2
    exact ⟨rfl, (b1.trans (b2.mono b1.size)).trans (k3.below (by have := b1.size; have := b2.size; omega) (fun j hj e => by have := b1.size; omega))⟩
end Go.Proofs.Ytffjddabjjcjpaa
