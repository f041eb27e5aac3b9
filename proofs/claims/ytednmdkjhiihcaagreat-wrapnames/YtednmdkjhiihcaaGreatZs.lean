/- The walk of WrapStacks. -/
import Derived.Test.YtednmdkjhiihcaaGreatRz
import Derived.Test.YtednmdkjhiihcaaGreatRs
namespace Go.Proofs.YtednmdkjhiihcaaGreat
open Go.ChangeShapes Go.WideShapes Go.ChangeAt Go.RowKit
set_option maxRecDepth 10000

theorem skB_bytes {l : List (List Value)} {ys : List Int} (hl : ∀ H ∈ l, Hh H) (hy : Bytes ys) : Bytes (skB l ys) := by
  unfold skB; split
  · exact stP_bytes l ys hl hy
  · intro z hz; cases hz
theorem skB_len {l : List (List Value)} {ys : List Int} (hl : ∀ H ∈ l, Hh H) (hy : Bytes ys) (h : ys.length ≤ 140737488355328) : (skB l ys).length ≤ 140737488355328 := by
  unfold skB; split
  · rcases stP_len l ys hl hy with h1 | ⟨-, h1⟩
    · omega
    · rw [h1]; exact h
  · simp

set_option maxHeartbeats 4000000 in
theorem stacks_any (a : Option Addr) (n c : Nat) (zs : List Int) (b : Option Addr) (len cap : Nat) (l : List (List Value)) (W : World) (hn : zs.length = n) (h0 : Bs W a zs) (n0 : a = none → c = 0) (hl : l.length = len) (hH : Hb W b l) (hsz : len * 100 ≤ 140737488351232) :
    Calls Tryz.prog 18 #[.slice a n c, .slice b len cap] W fun e w' => e = .returned (.bool true) ∧ Below W.heap.size W w' := by
  have H0 := Hid.mk' h0
  have N0 := Hid.mk' n0
  have HN := Hid.mk' hn
  have HHb := Hid.mk' hH
  have HL := Hid.mk' hl
  have hln : n ≤ 140737488355328 := by rw [← hn]; exact h0.len
  have HP : Hid (∀ (x : Option Addr) (cx : Nat) (y : Option Addr) (cy : Nat) (u : World), Bs u x zs → Hb u y l → Calls Tryz.prog 6 #[.slice x n cx, .slice y len cy] u fun e w' => ∃ v, e = .returned (.tuple #[v, .int .i64 (skE l zs)]) ∧ w'.ownsRow u.heap.size 5 1 v (skB l zs).length ((skB l zs).map (Value.int .u8)) ∧ Below u.heap.size u w') := Hid.mk' (fun x cx y cy u hB hh => stack_any x n cx zs y len cy l u hn hB hl hh)
  have HR : Hid (∀ (u : World), Bs u a zs → Hb u b l → Calls Tryz.prog 40 #[.slice a n c, .slice b len cap] u fun e w' => ∃ v, e = .returned (.tuple #[v, .int .i64 (skE l zs)]) ∧ w'.ownsRow u.heap.size 5 1 v (skB l zs).length ((skB l zs).map (Value.int .u8)) ∧ Below u.heap.size u w') := Hid.mk' (fun u hB hh => rstack_any a n c zs b len cap l u hn hB n0 hl hh)
  have BB : Hid (Bytes (skB l zs)) := Hid.mk' (skB_bytes hH.ok h0.bytes)
  have BL : (skB l zs).length ≤ 140737488355328 := skB_len hH.ok h0.bytes h0.len
  obtain ⟨E, HE⟩ : ∃ E, Hid (skE l zs = E) := ⟨_, rfl⟩
  obtain ⟨BY, HBY⟩ : ∃ BY, Hid (skB l zs = BY) := ⟨_, rfl⟩
  rw [HE.out, HBY.out] at HP HR
  rw [HBY.out] at BB BL
  obtain ⟨nb, HNB⟩ : ∃ nb, Hid (BY.length = nb) := ⟨_, rfl⟩
  rw [HNB.out] at HP HR BL
  have EQB : Hid (∀ (u : World) (x y : Option Addr) (cx cy : Nat), Bs u x BY → Bs u y BY → Calls Tryz.prog 9 #[.slice x nb cx, .slice y nb cy] u fun e w' => e = .returned (.bool true) ∧ Dr u w') := Hid.mk' (fun u x y cx cy h1 h2 => by have := eq_at x y nb nb cx cy BY BY u HNB.out HNB.out h1 h2; rwa [show decide (BY = BY) = true by simp] at this)
  have EQZ : Hid (∀ (u : World) (x y : Option Addr) (cx cy : Nat), Bs u x zs → Bs u y zs → Calls Tryz.prog 9 #[.slice x n cx, .slice y n cy] u fun e w' => e = .returned (.bool true) ∧ Dr u w') := Hid.mk' (fun u x y cx cy h1 h2 => by have := eq_at x y n n cx cy zs zs u HN.out HN.out h1 h2; rwa [show decide (zs = zs) = true by simp] at this)
  clear h0 n0 hn hl hH HE HBY
  go_enter Tryz.func18, Tryz.ntmps18
  go_wp2_with fail
  refine (copy_at a n c zs _ HN.out H0.out N0.out).mono ?_
  rintro e w2 ⟨v, rfl, hown, b2⟩
  obtain ⟨a2, c2, rfl, s2, hc2, -⟩ := K05.own_bs hown HN.out H0.out.bytes H0.out.len
  have S2 := Hid.mk' hown
  have B2 := Hid.mk' b2
  have D2 : Hid (∀ k, (Value.slice a2 n c2).ownBlock = some k → k < w2.heap.size) := Hid.mk' (fun k hk => (hown.lt k hk).2)
  clear hown s2 b2 hc2
  go_wp2_with (refine wpList_app_heads rfl _ _ rfl rfl b cap len l rfl HL.out (HHb.out.below B2.out) hsz ?_; intro v3 w3 own3 b3; obtain ⟨a3, c3, rfl⟩ := own_slice own3)
  have S3 := Hid.mk' (Kept.owns S2.out (Kept.of_below (S := fun _ => False) b3) (fun _ _ h => h))
  have B3 := Hid.mk' (B2.out.trans (b3.mono B2.out.size))
  have D3 : Hid (∀ k, (Value.slice a2 n c2).ownBlock = some k → k < w3.heap.size) := Hid.mk' (fun k hk => Nat.lt_of_lt_of_le (D2.out k hk) b3.size)
  have L3 := Hid.mk' (hb_own own3 HL.out HHb.out.ok)
  clear own3 b3 S2 B2 D2
  refine (HP.out a2 c2 a3 c3 _ (bs_ro S3.out HN.out H0.out.bytes H0.out.len) L3.out).mono ?_
  rintro e w4 ⟨v4, rfl, hown, b4⟩
  obtain ⟨a4, c4, rfl, s4, -, -⟩ := K05.own_bs hown HNB.out BB.out (by rw [HNB.out]; omega)
  have S4 := Hid.mk' (Kept.owns S3.out (Kept.of_below (S := fun _ => False) b4) (fun _ _ h => h))
  have O4 := Hid.mk' hown
  have L4 := Hid.mk' (L3.out.below b4)
  have B4 := Hid.mk' (B3.out.trans (b4.mono B3.out.size))
  clear hown s4 b4 S3 L3 HP
  go_wp2_with fail
  refine (HR.out _ (H0.out.below B4.out) (HHb.out.below B4.out)).mono ?_
  rintro e w5 ⟨v5, rfl, hown, b5⟩
  obtain ⟨a5, c5, rfl, s5, -, -⟩ := K05.own_bs hown HNB.out BB.out (by rw [HNB.out]; omega)
  have S5 := Hid.mk' (Kept.owns S4.out (Kept.of_below (S := fun _ => False) b5) (fun _ _ h => h))
  have O5 := Hid.mk' (Kept.owns O4.out (Kept.of_below (S := fun _ => False) b5) (fun _ _ h => h))
  have T5 := Hid.mk' hown
  have L5 := Hid.mk' (L4.out.below b5)
  have B5 := Hid.mk' (B4.out.trans (b5.mono B4.out.size))
  clear hown s5 b5 S4 O4 L4 B4 HR
  go_wp2_with (go_at_call_of 9 (Value.slice a4 nb c4); refine (EQB.out w5 a4 a5 c4 c5 (bs_ro O5.out HNB.out BB.out (by rw [HNB.out]; omega)) (bs_ro T5.out HNB.out BB.out (by rw [HNB.out]; omega))).mono ?_; rintro e w6 ⟨rfl, d6⟩)
  refine (same_hb a3 b len c3 cap l w6 (by omega) HL.out (L5.out.below (d6.below _)) ((HHb.out.below B5.out).below (d6.below _))).mono ?_
  rintro e w7 ⟨rfl, d7⟩
  have J7 : Hid (PoK W w3.heap.size n nb (.slice a2 n c2) (.slice a4 nb c4) zs BY w7) := Hid.mk' (PoK.below (PoK.below ⟨S5.out, O5.out, B5.out⟩ (d6.below _)) (d7.below _))
  clear d6 d7 S5 O5 T5 L5 B5
  go_wp2_with fail
  go_loopw [11] (fun i wr => ∃ (k : Nat) (YS : List Int), k ≤ nb ∧ i = .int .i64 k ∧ Hid (YS.length = nb) ∧ Hid (PoK W w3.heap.size n nb (.slice a2 n c2) (.slice a4 nb c4) zs YS wr)) (fun i _ => nb - (intOf i).toNat)
  case atStart => exact ⟨0, BY, Nat.zero_le _, rfl, HNB, J7⟩
  case round =>
    clear J7
    obtain ⟨k, YS, hk, rfl, HYL, J⟩ := hrel
    by_cases hlt : k < nb
    · obtain ⟨g, c', e3, -⟩ := own_some J.out.r3 (by omega)
      cases e3
      have hsp : (k : Int) < (nb : Int) := by omega
      have cc : wr.cell? ⟨g, k, none⟩ = some (.int .u8 (YS.getD k 0)) := by
        rw [J.out.r3.cellAt k (by simp; omega)]
        simp [HYL.out, hlt]
      have ff := J.out.r3.frozenAt k
      generalize YS.getD k 0 = x at cc
      go_wp2_with fail
      go_roundw
      case rel => exact ⟨k + 1, YS.set k (bits .xor .u8 x 90), hlt, by go_num, Hid.mk' (by rw [List.length_set]; exact HYL.out), Hid.mk' (J.out.turn B3.out.size D3.out k _)⟩
      case measure => simp [intOf]; omega
    · go_wp2_with fail
      refine (EQZ.out _ a2 a c2 c (bs_ro J.out.r2 HN.out H0.out.bytes H0.out.len) (H0.out.below J.out.old)).mono ?_
      rintro e w11 ⟨rfl, d11⟩
      have J11 := Hid.mk' (J.out.below (d11.below _))
      clear d11 J
      go_wp2_with fail
      refine (wawake w11).mono ?_
      rintro e w12 ⟨rfl, b12⟩
      have J12 := Hid.mk' (J11.out.below b12)
      clear b12 J11
      go_wp2_with fail
      go_ret
      exact ⟨rfl, J12.out.old⟩

/-- The bytes that a slice takes are within reach. -/
theorem reach_by {H : Type} {ts : List TypeId} {ds : List (DataW H)} (h : (DataW.weightsEach Tryz.prog ts ds).all (· ≤ reachBytes) = true) {j : Nat} {t e : TypeId} {d : DataW H} {k : Nat} (ht : ts[j]? = some t) (hd : ds[j]? = some d) (hu : Tryz.prog.underlying t = some (.slice e))
    {α : Type} {xs : List α} (hx : d = .nil ∧ xs = [] ∨ ∃ el sp, d = .slice el sp ∧ el.length = xs.length) (hk : k = xs.length := by rfl) : k * Tryz.prog.bytesOf e ≤ 140737488351232 := by
  subst hk
  rcases hx with ⟨_, rfl⟩ | ⟨elems, spare, rfl, he⟩
  · simp
  · have h1 := sized_slice h ht hd hu
    rw [reachBytes] at h1
    have h2 : elems.length * Tryz.prog.bytesOf e ≤ (elems.length + spare.length) * Tryz.prog.bytesOf e := Nat.mul_le_mul_right _ (Nat.le_add_right _ _)
    rw [← he]
    omega
theorem head_bytes : Tryz.prog.bytesOf 46 = 100 := by kernel_rfl

theorem walkWrapStacks (a : Option Addr) (c : Nat) (zs : List Int) (b : Option Addr) (cap : Nat) (xs : List sh46.M) (W : World) (h0 : Bs W a zs) (n0 : (a = none → c = 0) ∧ zs.length ≤ c) (o1 : SlOk sh46 W b cap xs) (l1 : xs.length * Tryz.prog.bytesOf 46 ≤ 140737488351232) :
    Calls Tryz.prog 18 #[.slice a zs.length c, .slice b xs.length cap] W fun e w' => e = .returned (.bool true) ∧ Below W.heap.size W w' := by
  rw [head_bytes] at l1
  refine stacks_any a zs.length c zs b xs.length cap (xs.map sh46.cs) W rfl h0 n0.1 (by simp) ⟨?_, ?_⟩ l1
  · intro H hH
    obtain ⟨m, hm, rfl⟩ := List.mem_map.1 hH
    exact whh_open W m (o1.2.2 m hm)
  · rcases o1.2.1 with h | ⟨y, o, rfl, hc⟩
    · left; simpa using h
    · by_cases hx0 : xs.length = 0
      · left; simpa using hx0
      · right
        refine ⟨y, o, rfl, ?_, ?_⟩
        · obtain ⟨m, hm⟩ : ∃ m, xs[0]? = some m := ⟨_, List.getElem?_eq_getElem (by omega)⟩
          have hl := hh_len (whh_open W m (o1.2.2 m (List.mem_of_getElem? hm)))
          have := hc 0 m hm 0 _ (List.getElem?_eq_getElem (by omega))
          refine Nat.lt_of_not_le (fun hge => ?_)
          have hn : W.heap[y]? = none := Array.getElem?_eq_none hge
          simp [World.cell?, hn] at this
        · intro i H hi j v hv
          rw [List.getElem?_map] at hi
          obtain ⟨m, hm, rfl⟩ := Option.map_eq_some_iff.1 hi
          exact hc i m hm j v hv
end Go.Proofs.YtednmdkjhiihcaaGreat
