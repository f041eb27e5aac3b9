/- The walk of WrapBack. -/
import Derived.Test.YtednmdkjhiihcaaGreatRs
import Derived.Deep.CutRange
import Derived.Deep.CutBlock
namespace Go.Proofs.YtednmdkjhiihcaaGreat
open Go.ChangeShapes Go.WideShapes Go.ChangeAt Go.RowKit
set_option maxRecDepth 10000

/-- The kind of a head that was taken off. -/
theorem kind_at {H : List Value} {k : Int} (h : Hh H) (hk : num H 0 = k) : H[0]? = some (.int .u8 k) := by
  obtain ⟨⟨a0, -, -⟩, -⟩ := hh_cells h
  rw [hk] at a0; exact a0

set_option maxHeartbeats 4000000 in
theorem wback_any (H : List Value) (kd : Int) (a : Option Addr) (n c : Nat) (zs : List Int) (W : World) (h : Hh H) (k0 : 0 ≤ kd) (k1 : kd ≤ 255) (hn : zs.length = n) (h0 : Bs W a zs) (_n0 : a = none → c = 0) (hcn : n ≤ c) :
    Calls Tryz.prog 17 #[.slice a n c, .agg H.toArray, .int .u8 kd] W fun e w' => e = .returned (.bool true) ∧ Below W.heap.size W w' := by
  have H0 := Hid.mk' h0
  have HN := Hid.mk' hn
  have hln : n ≤ 140737488355328 := by rw [← hn]; exact h0.len
  have hh73 := Hid.mk' (hh_len h)
  have hone := Hid.mk' (hh_one h)
  have hneq := neq_same (t := 46) (L := H) (hh_eq h)
  obtain ⟨⟨a0, q0, q1⟩, -⟩ := hh_cells h
  have A0 := Hid.mk' a0
  have HP : Hid (∀ (u : World), Below W.heap.size W u → Calls Tryz.prog 20 #[.slice a n c, .agg H.toArray] u fun e w' => ∃ v, e = .returned (.tuple #[v, .int .i64 (puE H zs)]) ∧ w'.ownsRow u.heap.size 5 1 v (puB H zs).length ((puB H zs).map (Value.int .u8)) ∧ Below u.heap.size u w') := Hid.mk' (fun u hu => push_any H a n c zs u h hn (h0.below hu))
  have BB : Hid (Bytes (puB H zs)) := Hid.mk' (puB_bytes h h0.bytes)
  have HS : Hid (∀ u, Calls Tryz.prog 14 #[.int .u8 (num H 0)] u fun e w' => e = .returned (.tuple #[.int .i64 (sz (num H 0) : Nat), .int .i64 (szE (num H 0))]) ∧ Below u.heap.size u w') := Hid.mk' (fun u => wsize_any _ u q0 q1)
  have HBK : Hid (puE H zs = 0 → poE (num H 0) (puB H zs) = 0 ∧ poH (num H 0) (puB H zs) = H ∧ poR (num H 0) (puB H zs) = zs ∧ szE (num H 0) = 0 ∧ (puB H zs).length = sz (num H 0) + n ∧ sz (num H 0) ≤ 40 ∧ n ≤ 2048) := Hid.mk' (fun he => by
    have P := pu_ok h h0.bytes he
    obtain ⟨p1, p2, p3⟩ := push_back h h0.bytes he
    refine ⟨p1, p2, p3, by unfold szE; rw [if_pos ⟨P.k0, P.k1⟩], by rw [puB_len h h0.bytes he, hn], (sz_pos ⟨P.k0, P.k1⟩).2, ?_⟩
    have := P.room; omega)
  have HNO : Hid (¬ puE H zs = 0 → (puB H zs).length = 0) := Hid.mk' (fun he => by rw [pu_no he]; rfl)
  have HPO : Hid (∀ (x : Option Addr) (m cx : Nat) (ys : List Int) (u : World), ys.length = m → m ≤ cx → Bs u x ys → Calls Tryz.prog 10 #[.slice x m cx, .int .u8 (num H 0)] u fun e w' => ∃ v, e = .returned (.tuple #[.agg (poH (num H 0) ys).toArray, v, .int .i64 (poE (num H 0) ys)]) ∧ w'.ownsRow u.heap.size 5 1 v (poR (num H 0) ys).length ((poR (num H 0) ys).map (Value.int .u8)) ∧ Below u.heap.size u w') := Hid.mk' (fun x m cx ys u hm hc hB => pop_any _ x m cx ys u q0 q1 hm hB hc)
  have HPB : Hid (∀ u, Below W.heap.size W u → Calls Tryz.prog 10 #[.slice a n c, .int .u8 kd] u fun e w' => ∃ v, e = .returned (.tuple #[.agg (poH kd zs).toArray, v, .int .i64 (poE kd zs)]) ∧ w'.ownsRow u.heap.size 5 1 v (poR kd zs).length ((poR kd zs).map (Value.int .u8)) ∧ Below u.heap.size u w') := Hid.mk' (fun u hu => pop_any kd a n c zs u k0 k1 hn (h0.below hu) hcn)
  have KH2 := Hid.mk' (poH_hh (k := kd) h0.bytes)
  have BR : Hid (Bytes (poR kd zs)) := Hid.mk' (poR_bytes h0.bytes)
  have LR : (poR kd zs).length ≤ n := by rw [← hn]; exact poR_len kd zs
  have HF2 : Hid (¬ poE kd zs = 0 → poH kd zs = hz ∧ (poR kd zs).length = 0) := Hid.mk' (fun he => ⟨(po_no he).1, by rw [(po_no he).2]; rfl⟩)
  have HG2 : Hid (poE kd zs = 0 → n ≤ 2048 → puE (poH kd zs) (poR kd zs) = 0 ∧ puB (poH kd zs) (poR kd zs) = zs ∧ (poH kd zs)[0]? = some (.int .u8 kd) ∧ cE (poH kd zs) = 0) := Hid.mk' (fun he hl => by
    obtain ⟨p1, p2, p3, p4⟩ := pop_back h0.bytes he (by rw [hn]; exact hl)
    exact ⟨p1, p2, kind_at (poH_hh h0.bytes) p3, p4⟩)
  have heq0 : ∀ w, (binOp .eql 46 (.agg hz.toArray) (.agg Tryz.zeroCells46)).run Tryz.prog w = .ok (.bool true) w := eql_same (t := 46) (L := hz) (hh_eq hz_hh)
  have EQZ : Hid (∀ (u : World) (x y : Option Addr) (cx cy : Nat), Bs u x zs → Bs u y zs → Calls Tryz.prog 9 #[.slice x n cx, .slice y n cy] u fun e w' => e = .returned (.bool true) ∧ Dr u w') := Hid.mk' (fun u x y cx cy h1 h2 => by have := eq_at x y n n cx cy zs zs u HN.out HN.out h1 h2; rwa [show decide (zs = zs) = true by simp] at this)
  obtain ⟨E, HE⟩ : ∃ E, Hid (puE H zs = E) := ⟨_, rfl⟩
  obtain ⟨BY, HBY⟩ : ∃ BY, Hid (puB H zs = BY) := ⟨_, rfl⟩
  rw [HE.out, HBY.out] at HP HBK
  rw [HBY.out] at BB
  rw [HE.out, HBY.out] at HNO
  obtain ⟨F2, HF2e⟩ : ∃ F2, Hid (poE kd zs = F2) := ⟨_, rfl⟩
  obtain ⟨M2, HM2⟩ : ∃ M2, Hid (poH kd zs = M2) := ⟨_, rfl⟩
  obtain ⟨R2, HR2⟩ : ∃ R2, Hid (poR kd zs = R2) := ⟨_, rfl⟩
  rw [HF2e.out, HM2.out, HR2.out] at HPB HG2 HF2
  rw [HM2.out] at KH2
  rw [HR2.out] at BR LR
  generalize num H 0 = k at *
  obtain ⟨nq, HNQ⟩ : ∃ nq, Hid (BY.length = nq) := ⟨_, rfl⟩
  rw [HNQ.out] at HP HBK HNO
  obtain ⟨nr, HNR⟩ : ∃ nr, Hid (R2.length = nr) := ⟨_, rfl⟩
  rw [HNR.out] at HPB HF2 LR
  have hm73 := Hid.mk' (hh_len KH2.out)
  have hm1 := Hid.mk' (hh_one KH2.out)
  have J1 := Hid.mk' (BJ.first W H)
  clear h h0 _n0 hn a0 k0 k1 q0 q1 HE HBY HF2e HM2 HR2
  go_enter Tryz.func17, Tryz.ntmps17
  go_wp2_with fail
  refine (wawake _).mono ?_
  rintro e w2 ⟨rfl, b2⟩
  have J2 := Hid.mk' (J1.out.below b2)
  clear b2 J1
  go_wp2_with (first | refine wpList_load_mid rfl 46 _ rfl W.heap.size 0 rfl H _ (range_block J2.out.hd) Tryz.underlying46 rfl (by rw [hh73.out]; exact info_hh) ?_)
  refine (HP.out _ J2.out.old).mono ?_
  rintro e w3 ⟨v3, rfl, hown, b3⟩
  have hnq : nq ≤ 140737488355328 ∨ ¬ nq ≤ 140737488355328 := by omega
  have J3 := Hid.mk' (J2.out.below b3)
  have hnq' : E = 0 → nq ≤ 4096 := fun e => by have := HBK.out e; omega
  have hnq2 : nq ≤ 4096 := by
    by_cases e : E = 0
    · exact hnq' e
    · have := HNO.out e; omega
  obtain ⟨a3, c3, rfl, s3, hc3, -⟩ := K05.own_bs hown HNQ.out BB.out (by rw [HNQ.out]; omega)
  have S3 := Hid.mk' s3
  clear hown b3 s3 J2 HP hnq hnq'
  go_upto_if 26 with fail
  go_cut [9, 10, 11, 12, 13] from 27 (fun s9 s10 s11 s12 s13 wx => ∃ w4 : World, Hid (BJ W H w4) ∧ w4 = wx)
  case first =>
    by_cases he : E = 0
    · obtain ⟨e1, e2, e3, e4, e5, e6, e7⟩ := HBK.out he
      rw [e4] at HS
      have c4 := J3.out.kind A0.out
      have HPX := Hid.mk' (HPO.out a3 nq c3 BY w3 HNQ.out hc3 S3.out)
      rw [e1, e2, e3, HN.out] at HPX
      obtain ⟨S, hS⟩ : ∃ S, S = sz k := ⟨_, rfl⟩
      rw [← hS] at HS e5 e6
      subst e5
      subst he
      clear e1 e2 e3 e4 hS HBK HNO HPO
      go_wp2_with fail
      refine HPX.out.mono ?_
      rintro e w5 ⟨v5, rfl, hown5, b5⟩
      obtain ⟨a5, c5, rfl, s5, -, -⟩ := K05.own_bs hown5 HN.out H0.out.bytes H0.out.len
      have b6 : Below w3.heap.size w3 (w5.alloc (.cells H.toArray 46)) := b5.alloc b5.size _
      have b6' : Below w5.heap.size w5 (w5.alloc (.cells H.toArray 46)) := (Below.refl _ _).alloc (Nat.le_refl _) _
      have J6 := Hid.mk' (J3.out.below b6)
      have S6 := Hid.mk' (s5.below b6')
      have X6 : Hid ((w5.alloc (.cells H.toArray 46)).heap[w5.heap.size]? = some (.cells H.toArray 46 (0, 0))) := Hid.mk' (heap_alloc_new w5 _)
      have c6 := J6.out.kind A0.out
      clear hown5 s5 b5 b6 b6' J3 HPX c4
      go_upto_region 6 with (first | refine wpList_store_new rfl 46 _ _ rfl _ hz H (by rfl) (by rfl) (by rw [hh73.out, hz_len]) (by rw [hh73.out]; exact info_hh) hone.out ?_)
      generalize (w5.alloc (.cells H.toArray 46)) = w6 at J6 S6 X6 c6 ⊢
      generalize w5.heap.size = r at X6 ⊢
      go_wp2_with fail
      refine (HS.out _).mono ?_
      rintro e w7 ⟨rfl, b7⟩
      have J7 := Hid.mk' (J6.out.below b7)
      have S7 := Hid.mk' (S6.out.below b7)
      have X7 : Hid (w7.heap[r]? = some (.cells H.toArray 46 (0, 0))) := Hid.mk' ((b7.block _ (Array.getElem?_eq_some_iff.1 X6.out).1).trans X6.out)
      clear b7 J6 S6 X6 c6 HS
      go_wp2_with (first
        | refine wpList_load_midG (by rfl) 46 _ rfl r 0 rfl H _ (range_block X7.out) Tryz.underlying46 rfl (by rw [hh73.out]; exact info_hh) ?_
        | refine wpList_load_midG (by rfl) 46 _ rfl W.heap.size 0 rfl H _ (range_block J7.out.hd) Tryz.underlying46 rfl (by rw [hh73.out]; exact info_hh) ?_
        | (go_at_call 9; refine (EQZ.out _ a5 a c5 c S7.out (H0.out.below J7.out.old)).mono ?_; rintro e w8 ⟨rfl, d8⟩; have J8 := Hid.mk' (J7.out.below (d8.below _)); clear d8 J7 X7 S7))
      go_meet
      exact ⟨_, J8, rfl⟩
    · have e1 := HNO.out he
      subst e1
      have hed : decide (E = 0) = false := by simp; exact he
      have heb : (E == 0) = false := by simp; exact he
      clear HBK HNO HPO HS
      go_wp2_with fail
      go_meet
      exact ⟨_, J3, rfl⟩
  case rest =>
  obtain ⟨w4, J4, rfl⟩ := hcut
  clear J3 S3 HBK HNO HPO HS hneq hnq2
  go_wp2_with fail
  refine (HPB.out _ J4.out.old).mono ?_
  rintro e w5 ⟨v5, rfl, hown5, b5⟩
  obtain ⟨a5, c5, rfl, s5, hc5, -⟩ := K05.own_bs hown5 HNR.out BR.out (by rw [HNR.out]; omega)
  have b6 : Below w4.heap.size w4 (w5.alloc (.cells M2.toArray 46)) := b5.alloc b5.size _
  have b6' : Below w5.heap.size w5 (w5.alloc (.cells M2.toArray 46)) := (Below.refl _ _).alloc (Nat.le_refl _) _
  have B6 : Hid (Below W.heap.size W (w5.alloc (.cells M2.toArray 46))) := Hid.mk' (J4.out.below b6).old
  have S6 := Hid.mk' (s5.below b6')
  have X6 : Hid ((w5.alloc (.cells M2.toArray 46)).heap[w5.heap.size]? = some (.cells M2.toArray 46 (0, 0))) := Hid.mk' (heap_alloc_new w5 _)
  clear hown5 s5 b5 b6 b6' J4 HPB
  go_upto_region 12 with (first | refine wpList_store_new rfl 46 _ _ rfl _ hz M2 (by rfl) (by rfl) (by rw [hm73.out, hz_len]) (by rw [hm73.out]; exact info_hh) hm1.out ?_)
  generalize (w5.alloc (.cells M2.toArray 46)) = w6 at B6 S6 X6 ⊢
  generalize w5.heap.size = r at X6 ⊢
  by_cases hF : F2 = 0
  · subst hF
    by_cases hn48 : n ≤ 2048
    · obtain ⟨g1, g2, g3, g4⟩ := HG2.out rfl hn48
      have hsp : ¬ (2048 : Int) < (n : Int) := by omega
      have hspd : decide ((2048 : Int) < (n : Int)) = false := by simp; omega
      have HPX := Hid.mk' (push_any M2 a5 nr c5 R2 w6 KH2.out HNR.out S6.out)
      rw [g1, g2, HN.out] at HPX
      have HCK : Hid (∀ u, Calls Tryz.prog 11 #[.agg M2.toArray] u fun e w' => e = .returned (.int .i64 0) ∧ Below u.heap.size u w') := Hid.mk' (fun u => by
        have := check_any M2 u KH2.out
        rw [g4] at this; exact this)
      have G3 := Hid.mk' g3
      clear g1 g2 g3 g4 HG2 HF2
      go_wp2_with (first | refine wpList_load_mid rfl 46 _ rfl r 0 rfl M2 _ (range_block X6.out) Tryz.underlying46 rfl (by rw [hm73.out]; exact info_hh) ?_)
      refine HPX.out.mono ?_
      rintro e w7 ⟨v7, rfl, hown7, b7⟩
      obtain ⟨a7, c7, rfl, s7, -, -⟩ := K05.own_bs hown7 HN.out H0.out.bytes H0.out.len
      have B7 : Hid (Below W.heap.size W w7) := Hid.mk' (B6.out.trans (b7.mono B6.out.size))
      have S7 := Hid.mk' s7
      have X7 : Hid (w7.heap[r]? = some (.cells M2.toArray 46 (0, 0))) := Hid.mk' ((b7.block _ (Array.getElem?_eq_some_iff.1 X6.out).1).trans X6.out)
      clear hown7 b7 s7 B6 S6 X6 HPX
      go_wp2_with fail
      refine (EQZ.out _ a7 a c7 c S7.out (H0.out.below B7.out)).mono ?_
      rintro e w8 ⟨rfl, d8⟩
      have B8 : Hid (Below W.heap.size W w8) := Hid.mk' (B7.out.trans (d8.below _))
      have X8 : Hid (w8.heap[r]? = some (.cells M2.toArray 46 (0, 0))) := Hid.mk' (((d8.below w7.heap.size).block _ (Array.getElem?_eq_some_iff.1 X7.out).1).trans X7.out)
      have c8 : w8.cell? ⟨r, 0, none⟩ = some (.int .u8 kd) := by rw [cell_of_row w8 r 0 _ _ _ X8.out, List.getElem?_toArray]; exact G3.out
      clear d8 B7 S7 X7
      go_wp2_with (first
        | refine wpList_load_midG (by rfl) 46 _ rfl r 0 rfl M2 _ (range_block X8.out) Tryz.underlying46 rfl (by rw [hm73.out]; exact info_hh) ?_)
      refine (HCK.out _).mono ?_
      rintro e w9 ⟨rfl, b9⟩
      have B9 : Hid (Below W.heap.size W w9) := Hid.mk' (B8.out.trans (b9.mono B8.out.size))
      clear b9 B8 X8
      go_wp2_with fail
      go_ret
      exact ⟨rfl, B9.out⟩
    · have hsp : (2048 : Int) < (n : Int) := by omega
      clear HG2 HF2
      go_wp2_with fail
      go_ret
      exact ⟨rfl, B6.out⟩
  · obtain ⟨e1, e2⟩ := HF2.out hF
    subst e1
    subst e2
    have hed : decide (F2 = 0) = false := by simp; exact hF
    have heb : (F2 == 0) = false := by simp; exact hF
    clear HG2 HF2
    go_wp2_with (first
      | refine wpList_load_mid rfl 46 _ rfl r 0 rfl hz _ (range_block X6.out) Tryz.underlying46 rfl (by rw [hm73.out]; exact info_hh) ?_
      | refine wpList_buildTo rfl 46 #[] rfl (some 80) rfl hz.toArray (by exact wbzero) ?_)
    go_ret
    exact ⟨rfl, B6.out⟩

theorem walkWrapBack (a : Option Addr) (c : Nat) (zs : List Int) (m1 : sh46.M) (k : Int) (W : World) (h0 : Bs W a zs) (n0 : (a = none → c = 0) ∧ zs.length ≤ c) (o1 : sh46.ok W m1) (o2 : (Lit.int .u8 k).wf = true) :
    Calls Tryz.prog 17 #[.slice a zs.length c, .agg (sh46.cs m1).toArray, .int .u8 k] W fun e w' => e = .returned (.bool true) ∧ Below W.heap.size W w' :=
  wback_any (sh46.cs m1) k a zs.length c zs W (whh_open W m1 o1) (bounds_u8 o2).1 (bounds_u8 o2).2 rfl h0 n0.1 n0.2
end Go.Proofs.YtednmdkjhiihcaaGreat
