/- The walk of WrapPops. -/
import Derived.Test.YtednmdkjhiihcaaGreatRr
namespace Go.Proofs.YtednmdkjhiihcaaGreat
open Go.ChangeShapes Go.WideShapes Go.ChangeAt Go.RowKit
set_option maxRecDepth 10000

/-- What lies in memory while WrapPops goes on: the two heads, what was copied, the two rows of bytes; the first of them may be turned. -/
structure PoJ (W : World) (M : List Value) (q r B3 B5 n nb : Nat) (v2 v3 v5 : Value) (zs YS BY : List Int) (w : World) : Prop where
  hq : w.heap[q]? = some (.cells M.toArray 46 (0, 0))
  hr : w.heap[r]? = some (.cells M.toArray 46 (0, 0))
  r2 : w.ownsRow W.heap.size 5 1 v2 n (zs.map (Value.int .u8))
  r3 : w.ownsRow B3 5 1 v3 nb (YS.map (Value.int .u8))
  r5 : w.ownsRow B5 5 1 v5 nb (BY.map (Value.int .u8))
  old : Below W.heap.size W w
theorem PoJ.below {W : World} {M : List Value} {q r B3 B5 n nb : Nat} {v2 v3 v5 : Value} {zs YS BY : List Int} {w w' : World} (h : PoJ W M q r B3 B5 n nb v2 v3 v5 zs YS BY w) (b : Below w.heap.size w w') : PoJ W M q r B3 B5 n nb v2 v3 v5 zs YS BY w' :=
  ⟨(b.block _ (Array.getElem?_eq_some_iff.1 h.hq).1).trans h.hq, (b.block _ (Array.getElem?_eq_some_iff.1 h.hr).1).trans h.hr, Kept.owns h.r2 (Kept.of_below (S := fun _ => False) b) (fun _ _ h => h), Kept.owns h.r3 (Kept.of_below (S := fun _ => False) b) (fun _ _ h => h), Kept.owns h.r5 (Kept.of_below (S := fun _ => False) b) (fun _ _ h => h), h.old.trans (b.mono h.old.size)⟩

/-- A byte of the first row is turned: the heads are not asked any more. -/
structure PoK (W : World) (B3 n nb : Nat) (v2 v3 : Value) (zs YS : List Int) (w : World) : Prop where
  r2 : w.ownsRow W.heap.size 5 1 v2 n (zs.map (Value.int .u8))
  r3 : w.ownsRow B3 5 1 v3 nb (YS.map (Value.int .u8))
  old : Below W.heap.size W w
theorem PoK.below {W : World} {B3 n nb : Nat} {v2 v3 : Value} {zs YS : List Int} {w w' : World} (h : PoK W B3 n nb v2 v3 zs YS w) (b : Below w.heap.size w w') : PoK W B3 n nb v2 v3 zs YS w' :=
  ⟨Kept.owns h.r2 (Kept.of_below (S := fun _ => False) b) (fun _ _ h => h), Kept.owns h.r3 (Kept.of_below (S := fun _ => False) b) (fun _ _ h => h), h.old.trans (b.mono h.old.size)⟩
theorem PoK.turn {W : World} {B3 n nb g c : Nat} {v2 : Value} {zs YS : List Int} {w : World} (h : PoK W B3 n nb v2 (.slice (some ⟨g, 0, none⟩) nb c) zs YS w) (h0 : W.heap.size ≤ B3) (h2 : ∀ k, v2.ownBlock = some k → k < B3) (k : Nat) (x : Int) :
    PoK W B3 n nb v2 (.slice (some ⟨g, 0, none⟩) nb c) zs (YS.set k x) (w.setCell ⟨g, k, none⟩ (.int .u8 x)) := by
  have hg : B3 ≤ g := (h.r3.lt g rfl).1
  have kk : Kept (fun j => j = g) w (w.setCell ⟨g, k, none⟩ (.int .u8 x)) := (Kept.refl (fun j => j = g) w).setCell (p := ⟨g, k, none⟩) (fun _ => rfl) _
  exact ⟨Kept.owns h.r2 kk (fun j hj e => by have := h2 j hj; omega), by rw [List.map_set]; exact (h.r3.stored k _).1, h.old.setCell (p := ⟨g, k, none⟩) (by show W.heap.size ≤ g; omega) _⟩

set_option maxHeartbeats 2000000 in
theorem pops_any (kd : Int) (a : Option Addr) (n c : Nat) (zs : List Int) (W : World) (k0 : 0 ≤ kd) (k1 : kd ≤ 255) (hn : zs.length = n) (h0 : Bs W a zs) (n0 : a = none → c = 0) (hcn : n ≤ c) :
    Calls Tryz.prog 16 #[.slice a n c, .int .u8 kd] W fun e w' => e = .returned (.bool true) ∧ Below W.heap.size W w' := by
  have H0 := Hid.mk' h0
  have N0 := Hid.mk' n0
  have HN := Hid.mk' hn
  have hln : n ≤ 140737488355328 := by rw [← hn]; exact h0.len
  have HP : Hid (∀ (x : Option Addr) (cx : Nat) (u : World), Bs u x zs → n ≤ cx → Calls Tryz.prog 10 #[.slice x n cx, .int .u8 kd] u fun e w' => ∃ v, e = .returned (.tuple #[.agg (poH kd zs).toArray, v, .int .i64 (poE kd zs)]) ∧ w'.ownsRow u.heap.size 5 1 v (poR kd zs).length ((poR kd zs).map (Value.int .u8)) ∧ Below u.heap.size u w') := Hid.mk' (fun x cx u hB hc => pop_any kd x n cx zs u k0 k1 hn hB hc)
  have HR : Hid (∀ (x : Option Addr) (cx : Nat) (u : World), Bs u x zs → n ≤ cx → Calls Tryz.prog 39 #[.slice x n cx, .int .u8 kd] u fun e w' => ∃ v, e = .returned (.tuple #[.agg (poH kd zs).toArray, v, .int .i64 (poE kd zs)]) ∧ w'.ownsRow u.heap.size 5 1 v (poR kd zs).length ((poR kd zs).map (Value.int .u8)) ∧ Below u.heap.size u w') := Hid.mk' (fun x cx u hB hc => rpop_any kd x n cx zs u k0 k1 hn hB hc)
  have KH := Hid.mk' (poH_hh (k := kd) h0.bytes)
  have BB : Hid (Bytes (poR kd zs)) := Hid.mk' (poR_bytes h0.bytes)
  have BL : (poR kd zs).length ≤ n := by rw [← hn]; exact poR_len kd zs
  obtain ⟨E, HE⟩ : ∃ E, Hid (poE kd zs = E) := ⟨_, rfl⟩
  obtain ⟨BY, HBY⟩ : ∃ BY, Hid (poR kd zs = BY) := ⟨_, rfl⟩
  obtain ⟨M, HM⟩ : ∃ M, Hid (poH kd zs = M) := ⟨_, rfl⟩
  rw [HE.out, HBY.out, HM.out] at HP HR
  rw [HM.out] at KH
  rw [HBY.out] at BB BL
  obtain ⟨nb, HNB⟩ : ∃ nb, Hid (BY.length = nb) := ⟨_, rfl⟩
  rw [HNB.out] at HP HR BL
  have hm73 := Hid.mk' (hh_len KH.out)
  have hm1 := Hid.mk' (hh_one KH.out)
  have hneq := neq_same (t := 46) (L := M) (hh_eq KH.out)
  have EQB : Hid (∀ (u : World) (x y : Option Addr) (cx cy : Nat), Bs u x BY → Bs u y BY → Calls Tryz.prog 9 #[.slice x nb cx, .slice y nb cy] u fun e w' => e = .returned (.bool true) ∧ Dr u w') := Hid.mk' (fun u x y cx cy h1 h2 => by have := eq_at x y nb nb cx cy BY BY u HNB.out HNB.out h1 h2; rwa [show decide (BY = BY) = true by simp] at this)
  have EQZ : Hid (∀ (u : World) (x y : Option Addr) (cx cy : Nat), Bs u x zs → Bs u y zs → Calls Tryz.prog 9 #[.slice x n cx, .slice y n cy] u fun e w' => e = .returned (.bool true) ∧ Dr u w') := Hid.mk' (fun u x y cx cy h1 h2 => by have := eq_at x y n n cx cy zs zs u HN.out HN.out h1 h2; rwa [show decide (zs = zs) = true by simp] at this)
  clear h0 n0 hn k0 k1 HE HBY HM KH
  go_enter Tryz.func16, Tryz.ntmps16
  go_wp2_with fail
  refine (copy_at a n c zs _ HN.out H0.out N0.out).mono ?_
  rintro e w2 ⟨v, rfl, hown, b2⟩
  obtain ⟨a2, c2, rfl, s2, hc2, -⟩ := K05.own_bs hown HN.out H0.out.bytes H0.out.len
  have S2 := Hid.mk' hown
  have B2 := Hid.mk' b2
  have hc2' := Hid.mk' hc2
  have D2 : Hid (∀ k, (Value.slice a2 n c2).ownBlock = some k → k < w2.heap.size) := Hid.mk' (fun k hk => (hown.lt k hk).2)
  clear hown s2 b2 hc2
  go_wp2_with fail
  refine (HP.out a2 c2 _ (bs_ro S2.out HN.out H0.out.bytes H0.out.len) hc2'.out).mono ?_
  rintro e w3 ⟨v3, rfl, hown, b3⟩
  obtain ⟨a3, c3, rfl, s3, -, -⟩ := K05.own_bs hown HNB.out BB.out (by rw [HNB.out]; omega)
  have b4 : Below w2.heap.size w2 (w3.alloc (.cells M.toArray 46)) := b3.alloc b3.size _
  have b4' : Below w3.heap.size w3 (w3.alloc (.cells M.toArray 46)) := (Below.refl _ _).alloc (Nat.le_refl _) _
  have S4 := Hid.mk' (Kept.owns S2.out (Kept.of_below (S := fun _ => False) b4) (fun _ _ h => h))
  have O4 := Hid.mk' (Kept.owns hown (Kept.of_below (S := fun _ => False) b4') (fun _ _ h => h))
  have Q4 : Hid ((w3.alloc (.cells M.toArray 46)).heap[w3.heap.size]? = some (.cells M.toArray 46 (0, 0))) := Hid.mk' (heap_alloc_new w3 _)
  have B4 : Hid (Below W.heap.size W (w3.alloc (.cells M.toArray 46))) := Hid.mk' (B2.out.trans (b4.mono B2.out.size))
  clear hown s3 b3 b4 b4' S2 HP
  go_upto_region 3 with (first | refine wpList_store_new rfl 46 _ _ rfl _ hz M (by rfl) (by rfl) (by rw [hm73.out, hz_len]) (by rw [hm73.out]; exact info_hh) hm1.out ?_)
  generalize (w3.alloc (.cells M.toArray 46)) = w4 at S4 O4 Q4 B4 ⊢
  generalize w3.heap.size = q at Q4 ⊢
  go_wp2_with fail
  refine (HR.out a c _ (H0.out.below B4.out) hcn).mono ?_
  rintro e w5 ⟨v5, rfl, hown, b5⟩
  obtain ⟨a5, c5, rfl, s5, -, -⟩ := K05.own_bs hown HNB.out BB.out (by rw [HNB.out]; omega)
  have b6 : Below w4.heap.size w4 (w5.alloc (.cells M.toArray 46)) := b5.alloc b5.size _
  have b6' : Below w5.heap.size w5 (w5.alloc (.cells M.toArray 46)) := (Below.refl _ _).alloc (Nat.le_refl _) _
  have J6 : Hid (PoJ W M q w5.heap.size w2.heap.size w4.heap.size n nb (.slice a2 n c2) (.slice a3 nb c3) (.slice a5 nb c5) zs BY BY (w5.alloc (.cells M.toArray 46))) := Hid.mk' ⟨(b6.block _ (Array.getElem?_eq_some_iff.1 Q4.out).1).trans Q4.out, heap_alloc_new w5 _, Kept.owns S4.out (Kept.of_below (S := fun _ => False) b6) (fun _ _ h => h), Kept.owns O4.out (Kept.of_below (S := fun _ => False) b6) (fun _ _ h => h), Kept.owns hown (Kept.of_below (S := fun _ => False) b6') (fun _ _ h => h), B4.out.trans (b6.mono B4.out.size)⟩
  clear hown s5 b5 b6 b6' S4 O4 Q4 B4 HR
  go_upto_region 4 with (first | refine wpList_store_new rfl 46 _ _ rfl _ hz M (by rfl) (by rfl) (by rw [hm73.out, hz_len]) (by rw [hm73.out]; exact info_hh) hm1.out ?_)
  generalize (w5.alloc (.cells M.toArray 46)) = w6 at J6 ⊢
  generalize w5.heap.size = r at J6 ⊢
  go_wp2_with (first
    | refine wpList_load_mid rfl 46 _ rfl q 0 rfl M _ (range_block J6.out.hq) Tryz.underlying46 rfl (by rw [hm73.out]; exact info_hh) ?_
    | refine wpList_load_mid rfl 46 _ rfl r 0 rfl M _ (range_block J6.out.hr) Tryz.underlying46 rfl (by rw [hm73.out]; exact info_hh) ?_)
  refine (EQB.out _ a3 a5 c3 c5 (bs_ro J6.out.r3 HNB.out BB.out (by rw [HNB.out]; omega)) (bs_ro J6.out.r5 HNB.out BB.out (by rw [HNB.out]; omega))).mono ?_
  rintro e w7 ⟨rfl, d7⟩
  have J7 : Hid (PoK W w2.heap.size n nb (.slice a2 n c2) (.slice a3 nb c3) zs BY w7) := Hid.mk' (by
    have := J6.out.below (d7.below _)
    exact ⟨this.r2, this.r3, this.old⟩)
  clear d7 J6 hneq
  go_wp2_with fail
  go_loopw [12] (fun i wr => ∃ (k : Nat) (YS : List Int), k ≤ nb ∧ i = .int .i64 k ∧ Hid (YS.length = nb) ∧ Hid (PoK W w2.heap.size n nb (.slice a2 n c2) (.slice a3 nb c3) zs YS wr)) (fun i _ => nb - (intOf i).toNat)
  case atStart => exact ⟨0, BY, Nat.zero_le _, rfl, HNB, J7⟩
  case round =>
    clear J7
    obtain ⟨k, YS, hk, rfl, HYL, J⟩ := hrel
    by_cases hlt : k < nb
    · obtain ⟨g, c', e3, -⟩ := own_some J.out.r3 (by omega)
      cases e3
      have hsp : (k : Int) < (nb : Int) := by omega
      have cc : wr.cell? ⟨g, k, none⟩ = some (.int .u8 (YS.getD k 0)) := by
        rw [J.out.r3.cellAt k (by simp; omega)]
        simp [HYL.out, hlt]
      have ff := J.out.r3.frozenAt k
      generalize YS.getD k 0 = x at cc
      go_wp2_with fail
      go_roundw
      case rel => exact ⟨k + 1, YS.set k (bits .xor .u8 x 90), hlt, by go_num, Hid.mk' (by rw [List.length_set]; exact HYL.out), Hid.mk' (J.out.turn B2.out.size D2.out k _)⟩
      case measure => simp [intOf]; omega
    · go_wp2_with fail
      refine (EQZ.out _ a2 a c2 c (bs_ro J.out.r2 HN.out H0.out.bytes H0.out.len) (H0.out.below J.out.old)).mono ?_
      rintro e w11 ⟨rfl, d11⟩
      have J11 := Hid.mk' (J.out.below (d11.below _))
      clear d11 J
      go_wp2_with fail
      refine (wawake w11).mono ?_
      rintro e w12 ⟨rfl, b12⟩
      have J12 := Hid.mk' (J11.out.below b12)
      clear b12 J11
      go_wp2_with fail
      go_ret
      exact ⟨rfl, J12.out.old⟩

theorem walkWrapPops (a : Option Addr) (c : Nat) (zs : List Int) (k : Int) (W : World) (h0 : Bs W a zs) (n0 : (a = none → c = 0) ∧ zs.length ≤ c) (o1 : (Lit.int .u8 k).wf = true) :
    Calls Tryz.prog 16 #[.slice a zs.length c, .int .u8 k] W fun e w' => e = .returned (.bool true) ∧ Below W.heap.size W w' :=
  pops_any k a zs.length c zs W (bounds_u8 o1).1 (bounds_u8 o1).2 rfl h0 n0.1 n0.2
end Go.Proofs.YtednmdkjhiihcaaGreat
