/- Stage 12: a header's bytes, to stand ahead of a packet's; Push. -/
import Derived.Test.YtednmdkjhiihcaaGreatRf
import Derived.Test.YtednmdkjhiihcaaGreatRm
namespace Go.Proofs.YtednmdkjhiihcaaGreat
open Go.ChangeShapes Go.WideShapes Go.ChangeAt Go.RowKit
set_option maxRecDepth 10000

def ahB (H : List Value) (ys : List Int) : List Int := if cE H = 0 then bB (num H 0) (pt (num H 0) H) ys else []

set_option maxHeartbeats 2000000 in
theorem ahead_any (H : List Value) (a : Option Addr) (n c : Nat) (ys : List Int) (w : World) (h : Hh H) (hy : ys.length = n) (hB : Bs w a ys) :
    Calls Tryz.prog 32 #[.slice a n c, .agg H.toArray] w fun e w' => ∃ v, e = .returned (.tuple #[v, .int .i64 (puE H ys)]) ∧ w'.ownsRow w.heap.size 5 1 v (ahB H ys).length ((ahB H ys).map (Value.int .u8)) ∧ Below w.heap.size w w' := by
  have hh73 := Hid.mk' (hh_len h)
  obtain ⟨⟨a0, k0, k1⟩, -⟩ := hh_cells h
  have B1 : Hid (Below w.heap.size w (w.alloc (.cells H.toArray 46))) := Hid.mk' ((Below.refl _ _).alloc (Nat.le_refl _) _)
  have R1 : Hid ((w.alloc (.cells H.toArray 46)).heap[w.heap.size]? = some (.cells H.toArray 46 (0, 0))) := Hid.mk' (heap_alloc_new w _)
  have HC : Hid (∀ u, Calls Tryz.prog 11 #[.agg H.toArray] u fun e w' => e = .returned (.int .i64 (cE H)) ∧ Below u.heap.size u w') := Hid.mk' (fun u => check_any H u h)
  by_cases hc : cE H = 0
  · obtain ⟨h1, h6, KH, -, -⟩ := cE_ok h hc
    have hE : puE H ys = bE (num H 0) (pt (num H 0) H) ys := by unfold puE; rw [if_pos hc]
    have hA : ahB H ys = bB (num H 0) (pt (num H 0) H) ys := by unfold ahB; rw [if_pos hc]
    rw [hE, hA]
    rw [hc] at HC
    have FB : Hid (∀ u g, Below w.heap.size w u → Bk (num H 0) u g → Calls Tryz.prog (uB (num H 0)) #[.agg H.toArray, .slice a n c, pp (g + 1), pp (g + 3)] u fun e w' => ∃ v, e = .returned (.tuple #[v, .int .i64 (bE (num H 0) (pt (num H 0) H) ys)]) ∧ w'.ownsRow u.heap.size 5 1 v (bB (num H 0) (pt (num H 0) H) ys).length ((bB (num H 0) (pt (num H 0) H) ys).map (Value.int .u8)) ∧ Below u.heap.size u w') :=
      Hid.mk' (fun u g hu hg => dbytes_any _ h1 h6 H a n c ys g u h hy (hB.below hu) hg)
    obtain ⟨E, HE⟩ : ∃ E, Hid (bE (num H 0) (pt (num H 0) H) ys = E) := ⟨_, rfl⟩
    obtain ⟨BB, HBB⟩ : ∃ BB, Hid (bB (num H 0) (pt (num H 0) H) ys = BB) := ⟨_, rfl⟩
    rw [HE.out, HBB.out] at FB
    rw [HE.out, HBB.out]
    clear hE hA HE HBB KH hc
    generalize num H 0 = k at *
    have cB := call_uB k h1 h6
    clear h hy hB
    go_enter Tryz.func32, Tryz.ntmps32
    go_wp2_with (first | refine wpList_load_mid rfl 46 _ rfl w.heap.size 0 rfl H _ (range_block R1.out) Tryz.underlying46 rfl (by rw [hh73.out]; exact info_hh) ?_)
    refine (HC.out _).mono ?_
    rintro e w2 ⟨rfl, b2⟩
    have B2 := Hid.mk' b2
    have R2 : Hid (w2.heap[w.heap.size]? = some (.cells H.toArray 46 (0, 0))) := Hid.mk' ((b2.block _ (Array.getElem?_eq_some_iff.1 R1.out).1).trans R1.out)
    have c0 : w2.cell? ⟨w.heap.size, 0, none⟩ = some (.int .u8 k) := by rw [cell_of_row w2 w.heap.size 0 _ _ _ R2.out, List.getElem?_toArray]; exact a0
    clear b2
    go_wp2_with fail
    refine (find_any k _ h1 h6).mono ?_
    rintro e w3 ⟨g, rfl, bx, b3⟩
    have J3 := Hid.mk' (DJ.start (B2.out.trans (b3.mono B2.out.size)) bx)
    clear b3 bx c0 R2 B2 R1 HC
    go_upto_region 5 with (first | refine wpList_store_new rfl 96 _ _ rfl _ _ (dk k g) rfl rfl rfl (by kernel_rfl) (dk_one k g) ?_)
    generalize (w3.alloc (.cells (dk k g).toArray 96)) = w4 at J3 ⊢
    have c3 := J3.out.cells.2.2.2.1
    go_wp2_with (first
      | refine wpList_load_mid rfl 46 _ rfl w.heap.size 0 rfl H _ (range_block J3.out.hd) Tryz.underlying46 rfl (by rw [hh73.out]; exact info_hh) ?_
      | (refine (FB.out _ g J3.out.old J3.out.bx).mono ?_; rintro e w5 ⟨v, rfl, own5, b5⟩; have O5 := Hid.mk' (ownsRow_base own5 J3.out.old.size); have B5 : Hid (Below w.heap.size w w5) := Hid.mk' (J3.out.below b5).old; clear own5 b5))
    go_ret2
    exact ⟨v, rfl, O5.out, B5.out⟩
  · have hE : puE H ys = cE H := by unfold puE; rw [if_neg hc]
    have hA : ahB H ys = [] := by unfold ahB; rw [if_neg hc]
    rw [hE, hA]
    generalize cE H = E at *
    have hed : decide (E = 0) = false := by simp; exact hc
    have heb : (E == 0) = false := by simp; exact hc
    clear h hy hB hE hA
    go_enter Tryz.func32, Tryz.ntmps32
    go_wp2_with (first | refine wpList_load_mid rfl 46 _ rfl w.heap.size 0 rfl H _ (range_block R1.out) Tryz.underlying46 rfl (by rw [hh73.out]; exact info_hh) ?_)
    refine (HC.out _).mono ?_
    rintro e w2 ⟨rfl, b2⟩
    have B2 : Hid (Below w.heap.size w w2) := Hid.mk' (B1.out.trans (b2.mono B1.out.size))
    clear b2
    go_wp2_with fail
    go_ret2
    exact ⟨_, rfl, World.ownsRow_nil _ _ _ _, B2.out⟩

set_option maxHeartbeats 2000000 in
theorem push_any (H : List Value) (a : Option Addr) (n c : Nat) (ys : List Int) (w : World) (h : Hh H) (hy : ys.length = n) (hB : Bs w a ys) :
    Calls Tryz.prog 20 #[.slice a n c, .agg H.toArray] w fun e w' => ∃ v, e = .returned (.tuple #[v, .int .i64 (puE H ys)]) ∧ w'.ownsRow w.heap.size 5 1 v (puB H ys).length ((puB H ys).map (Value.int .u8)) ∧ Below w.heap.size w w' := by
  have hh73 := Hid.mk' (hh_len h)
  have HB := Hid.mk' hB
  have B1 : Hid (Below w.heap.size w (w.alloc (.cells H.toArray 46))) := Hid.mk' ((Below.refl _ _).alloc (Nat.le_refl _) _)
  have R1 : Hid ((w.alloc (.cells H.toArray 46)).heap[w.heap.size]? = some (.cells H.toArray 46 (0, 0))) := Hid.mk' (heap_alloc_new w _)
  have HA := Hid.mk' (ahead_any H a n c ys _ h hy (hB.below B1.out))
  by_cases he : puE H ys = 0
  · have P := pu_ok h hB.bytes he
    have hA : ahB H ys = bB (num H 0) (pt (num H 0) H) ys := by unfold ahB; rw [if_pos P.ck]
    rw [he, hA] at HA
    rw [he, P.val]
    have hbb := Hid.mk' (bB_bytes P.kh hB.bytes)
    obtain ⟨BB, HBB⟩ : ∃ BB, Hid (bB (num H 0) (pt (num H 0) H) ys = BB) := ⟨_, rfl⟩
    have hlb : BB.length = sz (num H 0) := by rw [← HBB.out]; exact P.len
    have hs := sz_pos ⟨P.k0, P.k1⟩
    have hrm := P.room
    rw [HBB.out] at HA hbb
    rw [HBB.out]
    rw [hlb] at HA
    have HLB := Hid.mk' hlb
    obtain ⟨q, hq⟩ : ∃ q, q = sz (num H 0) := ⟨_, rfl⟩
    rw [← hq] at HA HLB hs hrm
    rw [hy] at hrm
    have HY := Hid.mk' hy
    have hl2 : Hid ((BB ++ ys).length = q + n) := Hid.mk' (by rw [List.length_append, HLB.out, HY.out])
    rw [hl2.out]
    clear P hA HBB hlb hq he h hy hB
    go_enter Tryz.func20, Tryz.ntmps20
    go_wp2_with (first | refine wpList_load_mid rfl 46 _ rfl w.heap.size 0 rfl H _ (range_block R1.out) Tryz.underlying46 rfl (by rw [hh73.out]; exact info_hh) ?_)
    refine HA.out.mono ?_
    rintro e w2 ⟨v, rfl, own2, b2⟩
    have B2 : Hid (Below w.heap.size w w2) := Hid.mk' (B1.out.trans (b2.mono B1.out.size))
    obtain ⟨a2, c2, rfl, s2, -, -⟩ := K05.own_bs own2 HLB.out hbb.out (by rw [HLB.out]; omega)
    have S2 := Hid.mk' s2
    clear own2 b2 s2 HA R1
    have B3' : Hid (Below w2.heap.size w2 (w2.alloc (.cells #[.slice a2 q c2, .slice a n c] 22))) := Hid.mk' ((Below.refl _ _).alloc (Nat.le_refl _) _)
    have B3 : Hid (Below w.heap.size w (w2.alloc (.cells #[.slice a2 q c2, .slice a n c] 22))) := Hid.mk' (B2.out.trans (B3'.out.mono B2.out.size))
    have KC := Hid.mk' (concat_any w2.heap.size a2 a q n c2 c BB ys 22 _ (heap_alloc_new w2 (.cells #[.slice a2 q c2, .slice a n c] 22)) HLB.out HY.out (S2.out.below B3'.out) (HB.out.below B3.out) (by omega) (by omega))
    go_wp2_with fail
    refine KC.out.mono ?_
    rintro e w4 ⟨v4, rfl, own4, b4⟩
    have O4 := Hid.mk' (ownsRow_base own4 B3.out.size)
    have B4 : Hid (Below w.heap.size w w4) := Hid.mk' (B3.out.trans (b4.mono B3.out.size))
    clear own4 b4 KC
    go_wp2_with fail
    go_ret2
    exact ⟨v4, rfl, O4.out, B4.out⟩
  · rw [pu_no he]
    obtain ⟨E, HE⟩ : ∃ E, Hid (puE H ys = E) := ⟨_, rfl⟩
    rw [HE.out] at HA he
    rw [HE.out]
    have hed : decide (E = 0) = false := by simp; exact he
    have heb : (E == 0) = false := by simp; exact he
    clear h hy hB
    go_enter Tryz.func20, Tryz.ntmps20
    go_wp2_with (first | refine wpList_load_mid rfl 46 _ rfl w.heap.size 0 rfl H _ (range_block R1.out) Tryz.underlying46 rfl (by rw [hh73.out]; exact info_hh) ?_)
    refine HA.out.mono ?_
    rintro e w2 ⟨v, rfl, own2, b2⟩
    have B2 : Hid (Below w.heap.size w w2) := Hid.mk' (B1.out.trans (b2.mono B1.out.size))
    clear b2 own2
    go_wp2_with fail
    go_ret2
    exact ⟨_, rfl, World.ownsRow_nil _ _ _ _, B2.out⟩
end Go.Proofs.YtednmdkjhiihcaaGreat
