/- PeelPeels. -/
import Derived.Test.YthdgfhllieknlaaJo
namespace Go.Proofs.Ythdgfhllieknlaa
open Go.ChangeShapes Go.WideShapes Go.ChangeAt Go.RowKit
set_option maxRecDepth 10000

/-- Things of one call and of the next. -/
theorem Heap.join {W w w' : World} {L M : List Thing} (h : Heap W w L) (k : Heap w w' M) : Heap W w' (L ++ M) := by
  refine ⟨fun T hT => ?_, List.pairwise_append.2 ⟨h.apart, k.apart, fun T hT U hU j hj hj' => ?_⟩, fun T hT j hj => ?_, h.old.trans (k.old.mono h.old.size)⟩
  · rcases List.mem_append.1 hT with hT | hT
    · exact T.below (h.all T hT) k.old
    · exact k.all T hT
  · have := T.lt (h.all T hT) hj
    have := k.high U hU j hj'
    omega
  · rcases List.mem_append.1 hT with hT | hT
    · exact h.high T hT j hj
    · have := k.high T hT j hj
      have := h.old.size
      omega

/-- A cell of a row of structs among things is written. -/
theorem Heap.storedN {W w : World} {L : List Thing} {base : Nat} {e : TypeId} {g c n size : Nat} {xs : List Value} (h : Heap W w L) (i : Nat) (hi : L[i]? = some (rowT base e size (.slice (some ⟨g, 0, none⟩) n c) n xs)) (k : Nat) (u : Value) :
    Heap W (w.setCell ⟨g, k, none⟩ u) (L.set i (rowT base e size (.slice (some ⟨g, 0, none⟩) n c) n (xs.set k u))) := by
  have ho : w.ownsRow base e size (.slice (some ⟨g, 0, none⟩) n c) n xs := h.get hi
  exact h.stepAt i _ hi ((Kept.refl (fun j => (Value.slice (some ⟨g, 0, none⟩) n c).ownBlock = some j) w).setCell (p := ⟨g, k, none⟩) (fun _ => rfl) u) (rowT base e size (.slice (some ⟨g, 0, none⟩) n c) n (xs.set k u)) (ho.stored k u).1 (fun _ hk => .inl hk)

theorem PE_all {zs : List Int} (hb : Bytes zs) : HsOk (PE zs).2 ∧ (PE zs).2.length ≤ 8 ∧ Bytes (peR zs) ∧ (peR zs).length ≤ zs.length := by
  by_cases hE : (PE zs).1 = 0
  · obtain ⟨ok, _, _, few⟩ := PE_ok hb hE
    rw [show peR zs = zs.drop (hTot (PE zs).2) by unfold peR; rw [if_pos hE]]
    exact ⟨ok, few, fun z hz => hb z (List.mem_of_mem_drop hz), by rw [List.length_drop]; omega⟩
  · have hR : peR zs = [] := by unfold peR; rw [if_neg hE]
    rw [PE_err hE, hR]
    exact ⟨HsOk.nil, by simp, fun z hz => by simp at hz, by simp⟩

theorem Hrow.of {w : World} {base n : Nat} {v : Value} {out : Hs} (h : w.ownsRow base 48 73 v n (hsC out)) (hn : out.length = n) (ok : HsOk out) : Hrow w v out := by
  subst hn; exact ⟨⟨_, h⟩, ok⟩

set_option maxHeartbeats 2000000 in
theorem peels_any (a : Option Addr) (n c : Nat) (zs : List Int) (W : World) (hz' : zs.length = n) (h0 : Bs W a zs) (hn0 : a = none → c = 0) (hc : n ≤ c) :
    Calls Try.prog 3 #[.slice a n c] W fun e w' => e = .returned (.bool true) ∧ Below W.heap.size W w' := by
  have HB := Hid.mk' h0
  have hln := h0.len
  have HN0 := Hid.mk' hn0
  have HZ := Hid.mk' hz'
  rw [hz'] at hln
  clear h0 hn0 hz'
  obtain ⟨ok, few, rby, rle⟩ := PE_all HB.out.bytes
  rw [HZ.out] at rle
  have HPC : Hid (∀ (u : World) (x : Option Addr) (cx : Nat), Bs u x zs → (x = none → cx = 0) → n ≤ cx → Calls Try.prog 9 #[.slice x n cx] u fun e w' => ∃ va vr, e = .returned (.tuple #[va, vr, .int .i64 (PE zs).1]) ∧ Heap u w' (plT u zs va vr)) := Hid.mk' (fun u x cx hB h1 h2 => peel_any x n cx zs u HZ.out hB h1 h2)
  have HRC : Hid (∀ u, Below W.heap.size W u → Calls Try.prog 10 #[.slice a n c] u fun e w' => ∃ va vr, e = .returned (.tuple #[va, vr, .int .i64 (PE zs).1]) ∧ Heap u w' (plT u zs va vr)) := Hid.mk' (fun u hu => rpeel_any a n c zs u HZ.out (HB.out.below hu) HN0.out hc)
  unfold plT at HPC HRC
  obtain ⟨E, HE⟩ : ∃ E, Hid ((PE zs).1 = E) := ⟨_, rfl⟩
  obtain ⟨out, HO⟩ : ∃ out, Hid ((PE zs).2 = out) := ⟨_, rfl⟩
  obtain ⟨R, HR⟩ : ∃ R, Hid (peR zs = R) := ⟨_, rfl⟩
  rw [HE.out, HO.out, HR.out] at HPC HRC
  rw [HO.out] at ok few
  rw [HR.out] at rby rle
  have OK := Hid.mk' ok
  have RBY := Hid.mk' rby
  clear ok rby
  obtain ⟨N, HN⟩ : ∃ N, Hid (out.length = N) := ⟨_, rfl⟩
  obtain ⟨q, HQ⟩ : ∃ q, Hid (R.length = q) := ⟨_, rfl⟩
  rw [HN.out, HQ.out] at HPC HRC
  rw [HN.out] at few
  rw [HQ.out] at rle
  go_enter Try.func3, Try.ntmps3
  go_wp2_with fail
  refine (copy_at a n c zs W HZ.out HB.out HN0.out).mono ?_
  rintro e w1 ⟨v1, rfl, own1, b1⟩
  obtain ⟨a1, c1, rfl, S1, hc1, hn1⟩ := K05.own_bs own1 HZ.out HB.out.bytes (by rw [HZ.out]; omega)
  have HS1 := Hid.mk' S1
  have HN1 := Hid.mk' hn1
  have H1 : Hid (Heap W w1 [rowT W.heap.size 5 1 (.slice a1 n c1) n (zs.map (Value.int .u8))]) := Hid.mk' ⟨fun T hT => by simp at hT; subst hT; exact own1, by simp, fun T hT k hk => by simp at hT; subst hT; exact (own1.lt k hk).1, b1⟩
  clear own1 b1 S1 hn1
  go_wp2_with fail
  refine (HPC.out w1 a1 c1 HS1.out HN1.out hc1).mono ?_
  rintro e w2 ⟨va, vr, rfl, h2⟩
  have S2 := Hid.mk' (HS1.out.below h2.old)
  have H2 := Hid.mk' (H1.out.join h2)
  clear h2 H1 HS1
  go_wp2_with fail
  refine (HPC.out w2 a1 c1 S2.out HN1.out hc1).mono ?_
  rintro e w3 ⟨vk, vo, rfl, h3⟩
  have S3 := Hid.mk' (S2.out.below h3.old)
  have H3 := Hid.mk' (H2.out.join h3)
  clear h3 H2 S2 HPC
  go_wp2_with fail
  refine (HRC.out w3 H3.out.old).mono ?_
  rintro e w4 ⟨vw, vb, rfl, h4⟩
  have S4 := Hid.mk' (S3.out.below h4.old)
  have H4 := Hid.mk' (H3.out.join h4)
  clear h4 H3 S3 HRC
  simp only [List.cons_append, List.nil_append] at H4
  obtain ⟨g0, d0, e0⟩ := own_slice (H4.out.get (i := 1) rfl)
  obtain ⟨ar, cr, er, -, -, -⟩ := K05.own_bs (H4.out.get (i := 2) rfl) HQ.out RBY.out (by rw [HQ.out]; omega)
  obtain ⟨ao, co, eo, -, -, -⟩ := K05.own_bs (H4.out.get (i := 4) rfl) HQ.out RBY.out (by rw [HQ.out]; omega)
  obtain ⟨ab, cb, eb, -, -, -⟩ := K05.own_bs (H4.out.get (i := 6) rfl) HQ.out RBY.out (by rw [HQ.out]; omega)
  subst e0 er eo eb
  have SB : Hid (∀ (u : World) (L : List Thing) (i : Nat) (base : Nat) (x : Option Addr) (cx : Nat), Heap W u L → L[i]? = some (rowT base 5 1 (.slice x q cx) q (R.map (Value.int .u8))) → Bs u x R) := Hid.mk' (fun u L i base x cx hH hi => by
    obtain ⟨a', c', e', s', -, -⟩ := K05.own_bs (hH.get hi) HQ.out RBY.out (by rw [HQ.out]; omega)
    cases e'; exact s')
  have hRR : decide (R = R) = true := by simp
  have hZZ : decide (zs = zs) = true := by simp
  have few' : out.length ≤ 8 := by rw [HN.out]; exact few
  have FEW := Hid.mk' few'
  clear few'
  have SAM : Hid (∀ (u : World) (v1 v2 : Value) (x y : Nat), u.ownsRow x 48 73 v1 N (hsC out) → u.ownsRow y 48 73 v2 N (hsC out) → Calls Try.prog 11 #[v1, v2] u fun e w' => e = .returned (.bool true) ∧ Dr u w') := Hid.mk' (fun u v1 v2 x y h1 h2 => same_any v1 v2 out u FEW.out (Hrow.of h1 HN.out OK.out) (Hrow.of h2 HN.out OK.out))
  have EQR : Hid (∀ (u : World) (x y : Option Addr) (cx cy : Nat), Bs u x R → Bs u y R → Calls Try.prog 12 #[.slice x q cx, .slice y q cy] u fun e w' => e = .returned (.bool true) ∧ Dr u w') := Hid.mk' (fun u x y cx cy h1 h2 => by have := eq_at x y q q cx cy R R u HQ.out HQ.out h1 h2; rwa [hRR] at this)
  have EQZ : Hid (∀ (u : World) (x y : Option Addr) (cx cy : Nat), Bs u x zs → Bs u y zs → Calls Try.prog 12 #[.slice x n cx, .slice y n cy] u fun e w' => e = .returned (.bool true) ∧ Dr u w') := Hid.mk' (fun u x y cx cy h1 h2 => by have := eq_at x y n n cx cy zs zs u HZ.out HZ.out h1 h2; rwa [hZZ] at this)
  clear hRR hZZ
  go_wp2_with (first
    | (go_at_call 11; refine (SAM.out w4 (.slice g0 N d0) vw _ _ (H4.out.get (i := 1) rfl) (H4.out.get (i := 5) rfl)).mono ?_; rintro e w5 ⟨rfl, d5⟩; have H5 := Hid.mk' (H4.out.below (d5.below _)); have S5 := Hid.mk' (S4.out.below (d5.below _)); clear d5)
    | (go_at_call_of 12 (Value.slice ar q cr); refine (EQR.out w5 ar ab cr cb (SB.out _ _ 2 _ _ _ H5.out rfl) (SB.out _ _ 6 _ _ _ H5.out rfl)).mono ?_; rintro e w6 ⟨rfl, d6⟩; have H6 := Hid.mk' (H5.out.below (d6.below _)); have S6 := Hid.mk' (S5.out.below (d6.below _)); clear d6)
    | (go_at_call_of 12 (Value.slice a1 n c1); refine (EQZ.out w6 a1 a c1 c S6.out (HB.out.below H6.out.old)).mono ?_; rintro e w7 ⟨rfl, d7⟩; have H7 := Hid.mk' (H6.out.below (d7.below _)); clear d7))
  clear H4 H5 H6 S4 S5 S6
  go_loopg [13] q (fun f s13 wr => ∃ (k : Nat) (YS : List Int), s13 = .int .i64 k ∧ k ≤ q ∧ q - k ≤ f ∧ Hid (YS.length = q) ∧ Hid (Heap W wr [rowT W.heap.size 5 1 (.slice a1 n c1) n (zs.map (Value.int .u8)), rowT w1.heap.size 48 73 (.slice g0 N d0) N (hsC out), rowT w1.heap.size 5 1 (.slice ar q cr) q (YS.map (Value.int .u8)), rowT w2.heap.size 48 73 vk N (hsC out), rowT w2.heap.size 5 1 (.slice ao q co) q (R.map (Value.int .u8)), rowT w3.heap.size 48 73 vw N (hsC out), rowT w3.heap.size 5 1 (.slice ab q cb) q (R.map (Value.int .u8))]))
  case atStart => exact ⟨0, R, rfl, Nat.zero_le _, by omega, HQ, H7⟩
  case round =>
    clear H7
    obtain ⟨k, YS, rfl, hk, hf, HYL, HH⟩ := hrel
    by_cases hlt : k < q
    · obtain ⟨g, c', e3, -⟩ := own_some (HH.out.get (i := 2) rfl) (by omega)
      cases e3
      have hsp : (k : Int) < (q : Int) := by omega
      have hyk : (YS.map (Value.int .u8))[k]? = some (.int .u8 (YS.getD k 0)) := by simp [HYL.out, hlt]
      obtain ⟨cc, ff⟩ := HH.out.cellAt 2 rfl k _ hyk
      clear hyk
      generalize YS.getD k 0 = x at cc
      go_wp2_with fail
      go_roundg (q - (k + 1))
      case measure => omega
      case rel =>
        refine ⟨k + 1, YS.set k (bits .xor .u8 x 90), by go_num, by omega, by omega, Hid.mk' (by rw [List.length_set]; exact HYL.out), Hid.mk' ?_⟩
        have := HH.out.stored 2 rfl k (.int .u8 (bits .xor .u8 x 90))
        rw [List.map_set]
        exact this
    · go_wp2_with fail
      go_loopg [14] N (fun f s14 wy => ∃ (i : Nat) (XS : List Value), s14 = .int .i64 i ∧ i ≤ N ∧ N - i ≤ f ∧ Hid (Heap W wy [rowT W.heap.size 5 1 (.slice a1 n c1) n (zs.map (Value.int .u8)), rowT w1.heap.size 48 73 (.slice g0 N d0) N XS, rowT w1.heap.size 5 1 (.slice ar q cr) q (YS.map (Value.int .u8)), rowT w2.heap.size 48 73 vk N (hsC out), rowT w2.heap.size 5 1 (.slice ao q co) q (R.map (Value.int .u8)), rowT w3.heap.size 48 73 vw N (hsC out), rowT w3.heap.size 5 1 (.slice ab q cb) q (R.map (Value.int .u8))]))
      case atStart => exact ⟨0, hsC out, rfl, Nat.zero_le _, by omega, HH⟩
      case round =>
        clear HH
        obtain ⟨i, XS, rfl, hi, hf', HX⟩ := hrel
        by_cases hlt' : i < N
        · have ho : wr.ownsRow w1.heap.size 48 73 (.slice g0 N d0) N XS := HX.out.get (i := 1) rfl
          obtain ⟨g, c', e3, -⟩ := own_some ho (by omega)
          cases e3
          have hl : XS.length = N * 73 := ho.1
          have hsp : (i : Int) < (N : Int) := by omega
          obtain ⟨u, hu⟩ : ∃ u, XS[i * 73]? = some u := ⟨_, List.getElem?_eq_getElem (by rw [hl]; omega)⟩
          have cc : wr.cell? ⟨g, i * 73, none⟩ = some u := by rw [ho.cellAt (i * 73) (by omega)]; exact hu
          have ff := ho.frozenAt (i * 73)
          clear ho hl hu
          go_wp2_with fail
          go_roundg (N - (i + 1))
          case measure => omega
          case rel => exact ⟨i + 1, XS.set (i * 73) (.int .u8 99), by go_num, by omega, by omega, Hid.mk' (HX.out.storedN 1 rfl (i * 73) (.int .u8 99))⟩
        · have hbz : Hid (Bytes zs) := Hid.mk' HB.out.bytes
          go_wp2_with (first
            | (go_at_call 11; refine (SAM.out wr vk vw _ _ (HX.out.get (i := 3) rfl) (HX.out.get (i := 5) rfl)).mono ?_; rintro e w5 ⟨rfl, d5⟩; have H5 := Hid.mk' (HX.out.below (d5.below _)); clear d5)
            | (go_at_call_of 12 (Value.slice ao q co); refine (EQR.out w5 ao ab co cb (SB.out _ _ 4 _ _ _ H5.out rfl) (SB.out _ _ 6 _ _ _ H5.out rfl)).mono ?_; rintro e w6 ⟨rfl, d6⟩; have H6 := Hid.mk' (H5.out.below (d6.below _)); obtain ⟨ax, cx, ex, SX, -, -⟩ := K05.own_bs (H6.out.get (i := 0) rfl) HZ.out hbz.out (by rw [HZ.out]; omega); cases ex; have S6 := Hid.mk' SX; clear d6 SX)
            | (go_at_call_of 12 (Value.slice a1 n c1); refine (EQZ.out w6 a1 a c1 c S6.out (HB.out.below H6.out.old)).mono ?_; rintro e w7 ⟨rfl, d7⟩; have H7 := Hid.mk' (H6.out.below (d7.below _)); clear d7)
            | (go_at_call 13; refine (awake_any w7).mono ?_; rintro e w8 ⟨rfl, b8⟩; have H8 := Hid.mk' (H7.out.below b8); clear b8))
          go_ret
          exact ⟨rfl, H8.out.old⟩

theorem walkPeelPeels (a : Option Addr) (c : Nat) (zs : List Int) (W : World) (h0 : Bs W a zs) (n0 : (a = none → c = 0) ∧ zs.length ≤ c) :
    Calls Try.prog 3 #[.slice a zs.length c] W fun e w' => e = .returned (.bool true) ∧ Below W.heap.size W w' :=
  peels_any a zs.length c zs W rfl h0 n0.1 n0.2
end Go.Proofs.Ythdgfhllieknlaa
