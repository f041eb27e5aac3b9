/- The walk of DgramBytes. -/
import Derived.Test.YtbbnoogkgobeoaaNb
import Derived.Test.YtbbnoogkgobeoaaSp
import Derived.Deep.RegionHeld3
namespace Go.Proofs.Ytbbnoogkgobeoaa
open Go.ChangeShapes Go.WideShapes Go.ChangeAt Go.RowKit

/-- What lies in memory while DgramBytes goes on: the header's box, what was copied, the three rows of bytes; the first of them may be turned. -/
structure LbJ (W : World) (L : List Value) (B2 B3 B4 B5 n nb : Nat) (v2 v3 v4 v5 : Value) (zs YS BY : List Int) (w : World) : Prop where
  box : w.heap[W.heap.size]? = some (.cells L.toArray 24 (0, 0))
  r2 : w.ownsRow B2 5 1 v2 n (zs.map (Value.int .u8))
  r3 : w.ownsRow B3 5 1 v3 nb (YS.map (Value.int .u8))
  r4 : w.ownsRow B4 5 1 v4 nb (BY.map (Value.int .u8))
  r5 : w.ownsRow B5 5 1 v5 nb (BY.map (Value.int .u8))
  old : Below W.heap.size W w
theorem LbJ.below {W : World} {L : List Value} {B2 B3 B4 B5 n nb : Nat} {v2 v3 v4 v5 : Value} {zs YS BY : List Int} {w w' : World} (h : LbJ W L B2 B3 B4 B5 n nb v2 v3 v4 v5 zs YS BY w) (b : Below w.heap.size w w') : LbJ W L B2 B3 B4 B5 n nb v2 v3 v4 v5 zs YS BY w' :=
  ⟨(b.block _ (Array.getElem?_eq_some_iff.1 h.box).1).trans h.box, Kept.owns h.r2 (Kept.of_below (S := fun _ => False) b) (fun _ _ h => h), Kept.owns h.r3 (Kept.of_below (S := fun _ => False) b) (fun _ _ h => h), Kept.owns h.r4 (Kept.of_below (S := fun _ => False) b) (fun _ _ h => h), Kept.owns h.r5 (Kept.of_below (S := fun _ => False) b) (fun _ _ h => h), h.old.trans (b.mono h.old.size)⟩

/-- A byte of the first row is turned. -/
theorem LbJ.turn {W : World} {L : List Value} {B2 B3 B4 B5 n nb g c : Nat} {v2 v4 v5 : Value} {zs YS BY : List Int} {w : World} (h : LbJ W L B2 B3 B4 B5 n nb v2 (.slice (some ⟨g, 0, none⟩) nb c) v4 v5 zs YS BY w) (h0 : W.heap.size < B3) (h2 : ∀ k, v2.ownBlock = some k → k < B3) (h3 : g < B4) (h45 : B4 ≤ B5) (k : Nat) (x : Int) :
    LbJ W L B2 B3 B4 B5 n nb v2 (.slice (some ⟨g, 0, none⟩) nb c) v4 v5 zs (YS.set k x) BY (w.setCell ⟨g, k, none⟩ (.int .u8 x)) := by
  have hg : B3 ≤ g := (h.r3.lt g rfl).1
  have kk : Kept (fun j => j = g) w (w.setCell ⟨g, k, none⟩ (.int .u8 x)) := (Kept.refl (fun j => j = g) w).setCell (p := ⟨g, k, none⟩) (fun _ => rfl) _
  refine ⟨?_, Kept.owns h.r2 kk (fun j hj e => by have := h2 j hj; omega), by rw [List.map_set]; exact (h.r3.stored k _).1, Kept.owns h.r4 kk (fun j hj e => by have := (h.r4.lt j hj).1; omega), Kept.owns h.r5 kk (fun j hj e => by have := (h.r5.lt j hj).1; omega), h.old.setCell (p := ⟨g, k, none⟩) (by show W.heap.size ≤ g; omega) _⟩
  rw [Go.heap_setCell_other _ _ _ _ (by show W.heap.size ≠ g; omega)]; exact h.box

theorem bs_of_own {w : World} {base n c : Nat} {t : TypeId} {a : Option Addr} {zs : List Int} (h : w.ownsRow base t 1 (.slice a n c) n (zs.map (Value.int .u8))) (hn : zs.length = n) (hb : Bytes zs) (hl : zs.length ≤ 140737488355328) : Bs w a zs := by
  obtain ⟨a', c', e, hB, -⟩ := own_bs h hn hb hl
  cases e
  exact hB

theorem cells_of {α : Type} (L : List α) (h : L.length = 2) : ∃ x0 x1, L = [x0, x1] := by
  match L, h with
  | [x0, x1], _ => exact ⟨x0, x1, rfl⟩

set_option maxHeartbeats 1000000 in
theorem bytes_any (L : List Value) (a : Option Addr) (n c : Nat) (zs : List Int) (W : World) (h : Hd L) (hn : zs.length = n) (h0 : Bs W a zs) (n0 : a = none → c = 0) :
    Calls Try.prog 3 #[.agg L.toArray, .slice a n c] W fun e w' => e = .returned (.bool true) ∧ Below W.heap.size W w' := by
  have H0 := Hid.mk' h0
  have N0 := Hid.mk' n0
  have HN := Hid.mk' hn
  have HLK := Hid.mk' h
  have hln : n ≤ 140737488355328 := by rw [← hn]; exact h0.len
  have hlc := Hid.mk' (hd_len h)
  obtain ⟨E, HE⟩ : ∃ E, Hid (byE L zs = E) := ⟨_, rfl⟩
  obtain ⟨CK, HCK⟩ : ∃ CK, Hid (ckE L = CK) := ⟨_, rfl⟩
  obtain ⟨BY, HBY⟩ : ∃ BY, Hid (byB L zs = BY) := ⟨_, rfl⟩
  have BB : Hid (Bytes BY) := Hid.mk' (by rw [← HBY.out]; exact byB_bytes h h0.bytes)
  have BL : Hid (BY.length ≤ 8) := Hid.mk' (by rw [← HBY.out]; exact byB_le h)
  have KC : Hid (∀ w : World, (Calls Try.prog 11 #[.agg L.toArray] w fun e w' => e = .returned (.int .i64 CK) ∧ Below w.heap.size w w') ∧ (Calls Try.prog 12 #[.agg L.toArray] w fun e w' => e = .returned (.int .i64 CK) ∧ Below w.heap.size w w')) := Hid.mk' (fun w => by
    have h1 := h_check L w h
    have h2 := h_rcheck L w h
    rw [HCK.out] at h1 h2
    exact ⟨h1, h2⟩)
  obtain ⟨nb, HNB⟩ : ∃ nb, Hid (BY.length = nb) := ⟨_, rfl⟩
  rw [HNB.out] at BL
  have hnb : nb ≤ 8 := BL.out
  clear h h0 n0 hn
  obtain ⟨W1, hW1⟩ : ∃ W1, W1 = W.alloc (.cells L.toArray 24) := ⟨_, rfl⟩
  have R1 : Hid (W1.heap[W.heap.size]? = some (.cells L.toArray 24 (0, 0))) := by rw [hW1]; exact heap_alloc_new W _
  have B1 : Hid (Below W.heap.size W W1) := by rw [hW1]; exact (Below.refl _ _).alloc (Nat.le_refl _) _
  have HW := Hid.mk' hW1.symm
  clear hW1
  go_enter Try.func3, Try.ntmps3
  go_wp2_with fail
  rw [HW.out]
  refine (copy_at a n c zs W1 HN.out (H0.out.below B1.out) N0.out).mono ?_
  rintro e w2 ⟨v, rfl, hown, b2⟩
  obtain ⟨a2, c2, rfl, s2, hc2, -⟩ := own_bs hown HN.out H0.out.bytes H0.out.len
  have S2 := Hid.mk' hown
  have D2 : Hid (∀ k, (Value.slice a2 n c2).ownBlock = some k → k < w2.heap.size) := Hid.mk' (fun k hk => (hown.lt k hk).2)
  have hW2 : Hid (W.heap.size < w2.heap.size) := Hid.mk' (Nat.lt_of_lt_of_le (Array.getElem?_eq_some_iff.1 R1.out).1 b2.size)
  have B2 : Hid (Below W.heap.size W w2) := B1.out.trans (b2.mono B1.out.size)
  have R2 : Hid (w2.heap[W.heap.size]? = some (.cells L.toArray 24 (0, 0))) := (b2.block _ (Array.getElem?_eq_some_iff.1 R1.out).1).trans R1.out
  clear hown s2 b2 hc2 R1 B1
  go_wp2_with (first | refine wpList_load_mid rfl 24 _ rfl W.heap.size 0 rfl L _ (range_block R2.out) Try.underlying24 rfl (by rw [hlc.out]; exact info_hd) ?_)
  have key := h_bytes L a2 n c2 zs w2 HLK.out HN.out (bs_of_own S2.out HN.out H0.out.bytes H0.out.len)
  rw [HE.out, HBY.out, HNB.out] at key
  refine key.mono ?_
  rintro e w3 ⟨v3, rfl, hown, b3⟩
  obtain ⟨a3, c3, rfl, s3, hc3, hn3⟩ := own_bs hown HNB.out BB.out (by rw [HNB.out]; omega)
  have O3 := Hid.mk' hown
  have S3 := Hid.mk' (Kept.owns S2.out (Kept.of_below (S := fun _ => False) b3) (fun _ _ h => h))
  have D3 : Hid (∀ k, (Value.slice a3 nb c3).ownBlock = some k → k < w3.heap.size) := Hid.mk' (fun k hk => (hown.lt k hk).2)
  have B3 : Hid (Below W.heap.size W w3) := B2.out.trans (b3.mono B2.out.size)
  have R3 : Hid (w3.heap[W.heap.size]? = some (.cells L.toArray 24 (0, 0))) := (b3.block _ (Array.getElem?_eq_some_iff.1 R2.out).1).trans R2.out
  clear hown b3 hc3 hn3 s3 R2 S2 key
  go_wp2_with (first | refine wpList_load_mid rfl 24 _ rfl W.heap.size 0 rfl L _ (range_block R3.out) Try.underlying24 rfl (by rw [hlc.out]; exact info_hd) ?_)
  have key := h_bytes L a2 n c2 zs w3 HLK.out HN.out (bs_of_own S3.out HN.out H0.out.bytes H0.out.len)
  rw [HE.out, HBY.out, HNB.out] at key
  refine key.mono ?_
  rintro e w4 ⟨v4, rfl, hown, b4⟩
  obtain ⟨a4, c4, rfl, s4, -, -⟩ := own_bs hown HNB.out BB.out (by rw [HNB.out]; omega)
  have O4 := Hid.mk' (Kept.owns O3.out (Kept.of_below (S := fun _ => False) b4) (fun _ _ h => h))
  have P4 := Hid.mk' hown
  have S4 := Hid.mk' (Kept.owns S3.out (Kept.of_below (S := fun _ => False) b4) (fun _ _ h => h))
  have h34 : Hid (w3.heap.size ≤ w4.heap.size) := Hid.mk' b4.size
  have B4 : Hid (Below W.heap.size W w4) := B3.out.trans (b4.mono B3.out.size)
  have R4 : Hid (w4.heap[W.heap.size]? = some (.cells L.toArray 24 (0, 0))) := (b4.block _ (Array.getElem?_eq_some_iff.1 R3.out).1).trans R3.out
  clear hown b4 s4 R3 S3 O3 key
  go_wp2_with (first | refine wpList_load_mid rfl 24 _ rfl W.heap.size 0 rfl L _ (range_block R4.out) Try.underlying24 rfl (by rw [hlc.out]; exact info_hd) ?_)
  have key := h_rbytes L a n c zs w4 HLK.out HN.out (H0.out.below B4.out)
  rw [HE.out, HBY.out, HNB.out] at key
  refine key.mono ?_
  rintro e w5 ⟨v5, rfl, hown, b5⟩
  obtain ⟨a5, c5, rfl, s5, -, -⟩ := own_bs hown HNB.out BB.out (by rw [HNB.out]; omega)
  have O5 := Hid.mk' (Kept.owns O4.out (Kept.of_below (S := fun _ => False) b5) (fun _ _ h => h))
  have P5 := Hid.mk' (Kept.owns P4.out (Kept.of_below (S := fun _ => False) b5) (fun _ _ h => h))
  have Q5 := Hid.mk' hown
  have S5 := Hid.mk' (Kept.owns S4.out (Kept.of_below (S := fun _ => False) b5) (fun _ _ h => h))
  have B5 : Hid (Below W.heap.size W w5) := B4.out.trans (b5.mono B4.out.size)
  have R5 : Hid (w5.heap[W.heap.size]? = some (.cells L.toArray 24 (0, 0))) := (b5.block _ (Array.getElem?_eq_some_iff.1 R4.out).1).trans R4.out
  clear hown b5 s5 R4 S4 O4 P4 key
  have J5 : Hid (LbJ W L W1.heap.size w2.heap.size w3.heap.size w4.heap.size n nb (.slice a2 n c2) (.slice a3 nb c3) (.slice a4 nb c4) (.slice a5 nb c5) zs BY BY w5) := Hid.mk' ⟨R5.out, S5.out, O5.out, P5.out, Q5.out, B5.out⟩
  have JD : Hid (LbJ W L W1.heap.size w2.heap.size w3.heap.size w4.heap.size n nb (.slice a2 n c2) (.slice a3 nb c3) (.slice a4 nb c4) (.slice a5 nb c5) zs BY BY w5.drew) := J5.out.below ((Below.refl _ _).drew)
  clear O5 P5 Q5 S5 B5 R5 J5 B2 B3 B4
  obtain ⟨x0, x1, hLx⟩ := cells_of L hlc.out
  subst hLx
  have CE : Hid (∀ w' : World, w'.heap[W.heap.size]? = some (.cells [x0, x1].toArray 24 (0, 0)) → w'.cell? ⟨W.heap.size, 0, none⟩ = some x0 ∧ w'.cell? ⟨W.heap.size, 1, none⟩ = some x1) := Hid.mk' (fun w' hh => by
    refine ⟨?_, ?_⟩ <;> exact cell_of_row w' _ _ _ _ _ hh)
  have rD := CE.out _ JD.out.box
  go_wp2_with fail
  go_region_held3 (fun w' => w'.cell? ⟨W.heap.size, 0, none⟩ = some x0 ∧ w'.cell? ⟨W.heap.size, 1, none⟩ = some x1) (go_keep) (first | (go_at_call 11; refine (KC.out w5.drew).1.mono ?_; rintro e w6 ⟨rfl, b6⟩; have J6 := Hid.mk' (JD.out.below b6); have r6 := CE.out _ J6.out.box; clear b6) | (go_at_call 12; refine (KC.out w6).2.mono ?_; rintro e w7 ⟨rfl, b7⟩; have J7 := Hid.mk' (J6.out.below b7); have r7 := CE.out _ J7.out.box; clear b7 r6) | (go_at_call 13; refine (lsize_any w7).mono ?_; rintro e w8 ⟨rfl, rfl⟩) | (go_at_call 14; refine (rsize_any w7).mono ?_; rintro e w8 ⟨rfl, rfl⟩) | (go_at_call_of 15 (Value.slice a3 nb c3); refine (eq_at a3 a5 nb nb c3 c5 BY BY w7 HNB.out HNB.out (bs_of_own J7.out.r3 HNB.out BB.out (by rw [HNB.out]; omega)) (bs_of_own J7.out.r5 HNB.out BB.out (by rw [HNB.out]; omega))).mono ?_; rw [decide_eq_true (rfl : BY = BY)]; rintro e w8 ⟨rfl, d8⟩; have J8 := Hid.mk' (J7.out.below (d8.below _)); have r8 := CE.out _ J8.out.box; clear d8 r7) | (go_at_call_of 15 (Value.slice a2 n c2); refine (eq_at a2 a n n c2 c zs zs w8 HN.out HN.out (bs_of_own J8.out.r2 HN.out H0.out.bytes H0.out.len) (H0.out.below J8.out.old)).mono ?_; rw [decide_eq_true (rfl : zs = zs)]; rintro e w9 ⟨rfl, d9⟩; have J9 := Hid.mk' (J8.out.below (d9.below _)); have r9 := CE.out _ J9.out.box; clear d9 r8))
  clear rD r9 JD J6 J7 J8 CE
  go_wp2_with fail
  go_loopw [12] (fun i wr => ∃ (k : Nat) (YS : List Int), k ≤ nb ∧ i = .int .i64 k ∧ Hid (YS.length = nb) ∧ Hid (LbJ W [x0, x1] W1.heap.size w2.heap.size w3.heap.size w4.heap.size n nb (.slice a2 n c2) (.slice a3 nb c3) (.slice a4 nb c4) (.slice a5 nb c5) zs YS BY wr)) (fun i _ => nb - (intOf i).toNat)
  case atStart => exact ⟨0, BY, Nat.zero_le _, rfl, HNB, Hid.mk' (J9.out.below ((Dr.refl _).below _))⟩
  case round =>
    clear J9
    obtain ⟨k, YS, hk, rfl, HYL, J⟩ := hrel
    by_cases hlt : k < nb
    · obtain ⟨g, c', e3, -⟩ := own_some J.out.r3 (by omega)
      cases e3
      have hsp : (k : Int) < (nb : Int) := by omega
      have cc : wr.cell? ⟨g, k, none⟩ = some (.int .u8 (YS.getD k 0)) := by
        rw [J.out.r3.cellAt k (by simp; omega)]
        simp [HYL.out, hlt]
      have ff := J.out.r3.frozenAt k
      generalize YS.getD k 0 = x at cc
      go_wp2_with fail
      go_roundw
      case rel => exact ⟨k + 1, YS.set k (bits .xor .u8 x 90), hlt, by go_num, Hid.mk' (by rw [List.length_set]; exact HYL.out), Hid.mk' (J.out.turn hW2.out D2.out (D3.out g rfl) h34.out k _)⟩
      case measure => simp [intOf]; omega
    · go_wp2_with fail
      refine (eq_at a4 a5 nb nb c4 c5 BY BY wr HNB.out HNB.out (bs_of_own J.out.r4 HNB.out BB.out (by rw [HNB.out]; omega)) (bs_of_own J.out.r5 HNB.out BB.out (by rw [HNB.out]; omega))).mono ?_
      rw [decide_eq_true (rfl : BY = BY)]
      rintro e w10 ⟨rfl, d10⟩
      have J10 := Hid.mk' (J.out.below (d10.below _))
      clear d10 J
      go_wp2_with fail
      refine (eq_at a2 a n n c2 c zs zs w10 HN.out HN.out (bs_of_own J10.out.r2 HN.out H0.out.bytes H0.out.len) (H0.out.below J10.out.old)).mono ?_
      rw [decide_eq_true (rfl : zs = zs)]
      rintro e w11 ⟨rfl, d11⟩
      have J11 := Hid.mk' (J10.out.below (d11.below _))
      clear d11 J10
      go_wp2_with fail
      refine (awake_any w11).mono ?_
      rintro e w12 ⟨rfl, b12⟩
      have J12 := Hid.mk' (J11.out.below b12)
      clear b12 J11
      go_wp2_with fail
      go_ret
      exact ⟨rfl, J12.out.old⟩

theorem walkDgramBytes (m0 : sh24.M) (a : Option Addr) (c : Nat) (zs : List Int) (W : World) (o0 : sh24.ok W m0) (h1 : Bs W a zs) (n1 : (a = none → c = 0) ∧ zs.length ≤ c) :
    Calls Try.prog 3 #[.agg (sh24.cs m0).toArray, .slice a zs.length c] W fun e w' => e = .returned (.bool true) ∧ Below W.heap.size W w' :=
  bytes_any (sh24.cs m0) a zs.length c zs W (hd_open W m0 o0) rfl h1 n1.1
end Go.Proofs.Ytbbnoogkgobeoaa
