/- Stage 12: the statements' own awake. -/
import Derived.Test.YtednmdkjhiihcaaGreatRp
import Derived.Test.YtednmdkjhiihcaaGreatRj
namespace Go.Proofs.YtednmdkjhiihcaaGreat
open Go.ChangeShapes Go.WideShapes Go.ChangeAt Go.RowKit
set_option maxRecDepth 10000

theorem bs_ro {w : World} {base n c : Nat} {t : TypeId} {a : Option Addr} {zs : List Int} (h : w.ownsRow base t 1 (.slice a n c) n (zs.map (Value.int .u8))) (hn : zs.length = n) (hb : Bytes zs) (hl : zs.length ≤ 140737488355328) : Bs w a zs := by
  obtain ⟨a', c', e, hB, -⟩ := K05.own_bs h hn hb hl
  cases e
  exact hB

def wwT : List Value := K06.tgC 5 291 34525
def wwH : List Value := hk 2 wwT
def ww2 : List Int := [1, 2]
def ww6 : List Int := [161, 35, 134, 221, 1, 2]
theorem ww_k : KHd 2 wwT := ⟨by omega, by omega, fun h => by omega, fun _ => ⟨5, 291, 34525, rfl, by omega, by omega, by omega, by omega, by omega, by omega⟩, fun h => by omega, fun h => by omega, fun h => by omega, fun h => by omega⟩
theorem ww_b2 : Bytes ww2 := by intro z hz; simp [ww2] at hz; omega
theorem ww_b6 : Bytes ww6 := by intro z hz; simp [ww6] at hz; omega
theorem ww_pu : puE wwH ww2 = 0 ∧ puB wwH ww2 = ww6 := by constructor <;> kernel_rfl
theorem ww_po : poE 2 ww6 = 0 ∧ poH 2 ww6 = wwH ∧ poR 2 ww6 = ww2 := by refine ⟨?_, ?_, ?_⟩ <;> kernel_rfl
theorem ww_on : onB wwH ww2 = ww6 ∧ onM wwH ww2 0 = 1 := by constructor <;> kernel_rfl
theorem ww_cz : cE hz = 120 := by kernel_rfl

/-- What lies in memory while awake goes on. -/
structure AJ (w : World) (sz : Nat) (M : List Value) (r : Nat) (v2 v5 : Value) (u : World) : Prop where
  hd : u.heap[w.heap.size]? = some (.cells M.toArray 46 (0, 0))
  xx : u.heap[r]? = some (.cells M.toArray 46 (0, 0))
  b2 : u.ownsRow w.heap.size 5 1 v2 6 (ww6.map (Value.int .u8))
  b5 : u.ownsRow w.heap.size 5 1 v5 2 (ww2.map (Value.int .u8))
  l0 : w.heap.size < sz
  lr : r < sz
  l2 : ∀ g, v2.ownBlock = some g → g < sz
  l5 : ∀ g, v5.ownBlock = some g → g < sz
  old : Below w.heap.size w u
theorem AJ.below {w : World} {sz : Nat} {M : List Value} {r : Nat} {v2 v5 : Value} {u v : World} (h : AJ w sz M r v2 v5 u) (b : Below u.heap.size u v) : AJ w sz M r v2 v5 v :=
  ⟨(b.block _ (Array.getElem?_eq_some_iff.1 h.hd).1).trans h.hd, (b.block _ (Array.getElem?_eq_some_iff.1 h.xx).1).trans h.xx, Kept.owns h.b2 (Kept.of_below (S := fun _ => False) b) (fun _ _ h => h), Kept.owns h.b5 (Kept.of_below (S := fun _ => False) b) (fun _ _ h => h), h.l0, h.lr, h.l2, h.l5, h.old.trans (b.mono h.old.size)⟩
theorem AJ.kept {w : World} {sz : Nat} {M : List Value} {r : Nat} {v2 v5 : Value} {u v : World} {p g : Nat} (h : AJ w sz M r v2 v5 u) (k : Kept (pkS p g) u v) (hp : sz ≤ p) (hg : sz ≤ g) : AJ w sz M r v2 v5 v := by
  have h0 := h.l0
  have hr := h.lr
  refine ⟨(k.block _ (Array.getElem?_eq_some_iff.1 h.hd).1 (by rintro (e | e) <;> omega)).trans h.hd, (k.block _ (Array.getElem?_eq_some_iff.1 h.xx).1 (by rintro (e | e) <;> omega)).trans h.xx, Kept.owns h.b2 k (fun i hi => ?_), Kept.owns h.b5 k (fun i hi => ?_), h.l0, h.lr, h.l2, h.l5, h.old.trans (k.below h.old.size (fun i hi => ?_))⟩
  · have := h.l2 i hi; rintro (e | e) <;> omega
  · have := h.l5 i hi; rintro (e | e) <;> omega
  · rintro (e | e) <;> omega

set_option maxHeartbeats 4000000 in
theorem wawake (w : World) : Calls Tryz.prog 5 #[] w fun e w' => e = .returned (.bool true) ∧ Below w.heap.size w w' := by
  have KH := Hid.mk' (hk_hh ww_k)
  have hbl := Hid.mk' (built_2 wwT rfl)
  have hz1 := Hid.mk' (hh_one hz_hh)
  have HPU : Hid (∀ (a : Option Addr) (n c : Nat) (u : World), n = 2 → Bs u a ww2 → Calls Tryz.prog 20 #[.slice a n c, .agg wwH.toArray] u fun e w' => ∃ v, e = .returned (.tuple #[v, .int .i64 0]) ∧ w'.ownsRow u.heap.size 5 1 v 6 (ww6.map (Value.int .u8)) ∧ Below u.heap.size u w') := Hid.mk' (fun a n c u hn hB => by
    have := push_any wwH a n c ww2 u (hk_hh ww_k) (by rw [hn]; rfl) hB
    rw [ww_pu.1, ww_pu.2] at this; exact this)
  have HPO : Hid (∀ (a : Option Addr) (n c : Nat) (u : World), n = 6 → n ≤ c → Bs u a ww6 → Calls Tryz.prog 10 #[.slice a n c, .int .u8 2] u fun e w' => ∃ v, e = .returned (.tuple #[.agg wwH.toArray, v, .int .i64 0]) ∧ w'.ownsRow u.heap.size 5 1 v 2 (ww2.map (Value.int .u8)) ∧ Below u.heap.size u w') := Hid.mk' (fun a n c u hn hc hB => by
    have := pop_any 2 a n c ww6 u (by omega) (by omega) (by rw [hn]; rfl) hB hc
    rw [ww_po.1, ww_po.2.1, ww_po.2.2] at this; exact this)
  have HON : Hid (∀ (p g : Nat) (A D : List Int) (u : World), PkIs u p g A ww2 D 0 → Calls Tryz.prog 12 #[.pointer (some ⟨p, 0, none⟩), .agg wwH.toArray] u fun e w' => e = .returned (.int .i64 0) ∧ Mvd u w' p g ww6 1) := Hid.mk' (fun p g A D u h => by
    have := on_any p g A ww2 D 0 wwH u h (hk_hh ww_k) (by omega)
    rw [ww_pu.1, ww_on.1, ww_on.2] at this; exact this)
  have HCK : Hid (∀ u, Calls Tryz.prog 11 #[.agg hz.toArray] u fun e w' => e = .returned (.int .i64 120) ∧ Below u.heap.size u w') := Hid.mk' (fun u => by
    have := check_any hz u hz_hh
    rw [ww_cz] at this; exact this)
  have heq := eql_same (t := 46) (L := wwH) (hh_eq KH.out)
  obtain ⟨M, HM⟩ : ∃ M, Hid (wwH = M) := ⟨_, rfl⟩
  rw [show hk 2 wwT = wwH from rfl, HM.out] at KH hbl
  rw [HM.out] at HPU HPO HON heq
  have hm73 := Hid.mk' (hh_len KH.out)
  have hm1 := Hid.mk' (hh_one KH.out)
  clear HM KH
  have hbt : Hid (wwT.toArray = #[.int .u8 5, .int .u16 291, .int .u16 34525]) := Hid.mk' rfl
  rw [hbt.out] at hbl
  clear hbt
  have S2 : Hid (Bs ((w.alloc (.cells M.toArray 46)).alloc (.cells #[.int .u8 1, .int .u8 2] 5)) (some ⟨w.heap.size + 1, 0, none⟩) ww2) := Hid.mk' (bs_block (A := []) (D := []) (zs := ww2) (heap_alloc2_new w _ _) 0 rfl ww_b2 (by simp [ww2]))
  have R2 : Hid (((w.alloc (.cells M.toArray 46)).alloc (.cells #[.int .u8 1, .int .u8 2] 5)).heap[w.heap.size]? = some (.cells M.toArray 46 (0, 0))) := Hid.mk' (heap_alloc2_old w _ _)
  have B2 : Hid (Below w.heap.size w ((w.alloc (.cells M.toArray 46)).alloc (.cells #[.int .u8 1, .int .u8 2] 5))) := Hid.mk' (((Below.refl _ _).alloc (Nat.le_refl _) _).alloc (by simp) _)
  go_enter Tryz.func5, Tryz.ntmps5
  go_wp2_with (first
    | refine wpList_buildTo rfl 46 #[(0, .const (.int .u8 2)), (2, .tmp 9)] rfl (some 10) rfl M.toArray (by simpa [Act.eval, Act.put] using hbl.out) ?_
    | refine wpList_store_new rfl 46 _ _ rfl _ hz M (by rfl) (by rfl) (by rw [hm73.out, hz_len]) (by rw [hm73.out]; exact info_hh) hm1.out ?_
    | refine wpList_load_mid rfl 46 _ rfl w.heap.size 0 rfl M _ (range_block R2.out) Tryz.underlying46 rfl (by rw [hm73.out]; exact info_hh) ?_)
  refine (HPU.out _ 2 2 _ rfl S2.out).mono ?_
  rintro e w3 ⟨v2, rfl, own3, b3⟩
  have B3 : Hid (Below w.heap.size w w3) := Hid.mk' (B2.out.trans (b3.mono B2.out.size))
  have R3 : Hid (w3.heap[w.heap.size]? = some (.cells M.toArray 46 (0, 0))) := Hid.mk' ((b3.block _ (Array.getElem?_eq_some_iff.1 R2.out).1).trans R2.out)
  have O3 := Hid.mk' (ownsRow_base own3 B2.out.size)
  clear own3 b3 S2 R2 B2 HPU
  have b4 : Below w3.heap.size w3 (w3.alloc (.cells #[.int .u8 161, .int .u8 35, .int .u8 134, .int .u8 221, .int .u8 1, .int .u8 2] 5)) := (Below.refl _ _).alloc (Nat.le_refl _) _
  have S4 : Hid (Bs (w3.alloc (.cells #[.int .u8 161, .int .u8 35, .int .u8 134, .int .u8 221, .int .u8 1, .int .u8 2] 5)) (some ⟨w3.heap.size, 0, none⟩) ww6) := Hid.mk' (bs_block (A := []) (D := []) (zs := ww6) (heap_alloc_new w3 _) 0 rfl ww_b6 (by simp [ww6]))
  go_wp2_with fail
  refine (HPO.out _ 6 6 _ rfl (Nat.le_refl _) S4.out).mono ?_
  rintro e w5 ⟨v5, rfl, own5, b5⟩
  have b6 : Below w3.heap.size w3 (w5.alloc (.cells M.toArray 46)) := (b4.trans (b5.mono b4.size)).alloc (b4.trans (b5.mono b4.size)).size _
  have bx : Below w5.heap.size w5 (w5.alloc (.cells M.toArray 46)) := (Below.refl _ _).alloc (Nat.le_refl _) _
  have A6 : Hid (AJ w (w5.alloc (.cells M.toArray 46)).heap.size M w5.heap.size v2 v5 (w5.alloc (.cells M.toArray 46))) := Hid.mk' (by
    have o2 := Kept.owns O3.out (Kept.of_below (S := fun _ => False) b6) (fun _ _ h => h)
    have hb := (B3.out.trans (b4.mono B3.out.size)).size
    have o5 := Kept.owns (ownsRow_base own5 hb) (Kept.of_below (S := fun _ => False) bx) (fun _ _ h => h)
    refine ⟨(b6.block _ (Array.getElem?_eq_some_iff.1 R3.out).1).trans R3.out, heap_alloc_new w5 _, o2, o5, ?_, ?_, fun g hg => (o2.lt g hg).2, fun g hg => (o5.lt g hg).2, B3.out.trans (b6.mono B3.out.size)⟩
    · exact Nat.lt_of_lt_of_le (Array.getElem?_eq_some_iff.1 R3.out).1 b6.size
    · exact (Array.getElem?_eq_some_iff.1 (heap_alloc_new w5 (.cells M.toArray 46))).1)
  clear own5 b4 b5 b6 bx S4 O3 R3 B3 HPO
  go_upto_region 4 with (first | refine wpList_store_new rfl 46 _ _ rfl _ hz M (by rfl) (by rfl) (by rw [hm73.out, hz_len]) (by rw [hm73.out]; exact info_hh) hm1.out ?_)
  generalize hr : w5.heap.size = r at A6 ⊢
  generalize (w5.alloc (.cells M.toArray 46)) = w6 at A6 ⊢
  clear hr
  generalize hsz : w6.heap.size = sz at A6
  have HSZ := Hid.mk' hsz
  clear hsz
  have b7 : Below w6.heap.size w6 (w6.alloc (.cells #[.int .u8 1, .int .u8 2] 5)) := (Below.refl _ _).alloc (Nat.le_refl _) _
  have A7 := Hid.mk' (A6.out.below b7)
  have S7 : Hid (Bs (w6.alloc (.cells #[.int .u8 1, .int .u8 2] 5)) (some ⟨w6.heap.size, 0, none⟩) ww2) := Hid.mk' (bs_block (A := []) (D := []) (zs := ww2) (heap_alloc_new w6 _) 0 rfl ww_b2 (by simp [ww2]))
  have HN := Hid.mk' (new_ok (some ⟨w6.heap.size, 0, none⟩) 2 ww2 0 0 _ S7.out (by simp [ww2]) (by omega) (by omega) (fun b hb => by cases hb; exact .inl (by simp)))
  clear b7 A6 S7
  go_wp2_with fail
  refine HN.out.mono ?_
  rintro e w8 ⟨rfl, pk8, b8⟩
  have A8 := Hid.mk' (A7.out.below b8)
  have PK8 := Hid.mk' pk8
  have hp : Hid (sz ≤ (w6.alloc (.cells #[.int .u8 1, .int .u8 2] 5)).heap.size) := Hid.mk' (by have := HSZ.out; simp; omega)
  clear b8 pk8 HN A7 HSZ
  generalize (w6.alloc (.cells #[.int .u8 1, .int .u8 2] 5)).heap.size = p at PK8 hp ⊢
  go_wp2_with (first
    | refine wpList_load_midG (by rfl) 46 _ rfl w.heap.size 0 rfl M _ (range_block A8.out.hd) Tryz.underlying46 rfl (by rw [hm73.out]; exact info_hh) ?_)
  refine (HON.out p _ _ _ _ PK8.out).mono ?_
  rintro e w9 ⟨rfl, g9, A', D', pk9, k9, -⟩
  have A9 := Hid.mk' (A8.out.kept k9 hp.out (by have := hp.out; omega))
  have PK9 := Hid.mk' pk9
  clear k9 pk9 A8 PK8 HON
  obtain ⟨a2, c2, rfl, -, -, -⟩ := K05.own_bs A9.out.b2 (by simp [ww6]) ww_b6 (by simp [ww6])
  obtain ⟨a5, c5, rfl, -, -, -⟩ := K05.own_bs A9.out.b5 (by simp [ww2]) ww_b2 (by simp [ww2])
  have HB2 : Hid (∀ u, AJ w sz M r (.slice a2 6 c2) (.slice a5 2 c5) u → Bs u a2 ww6) := Hid.mk' (fun u hu => bs_ro hu.b2 (by simp [ww6]) ww_b6 (by simp [ww6]))
  have HB5 : Hid (∀ u, AJ w sz M r (.slice a2 6 c2) (.slice a5 2 c5) u → Bs u a5 ww2) := Hid.mk' (fun u hu => bs_ro hu.b5 (by simp [ww2]) ww_b2 (by simp [ww2]))
  have E6 : Hid (∀ (u : World) (x y : Option Addr) (cx cy : Nat), Bs u x ww6 → Bs u y ww6 → Calls Tryz.prog 9 #[.slice x 6 cx, .slice y 6 cy] u fun e w' => e = .returned (.bool true) ∧ Dr u w') := Hid.mk' (fun u x y cx cy h1 h2 => by have := eq_at x y 6 6 cx cy ww6 ww6 u rfl rfl h1 h2; rwa [show decide (ww6 = ww6) = true by simp] at this)
  have E2 : Hid (∀ (u : World) (x y : Option Addr) (cx cy : Nat), Bs u x ww2 → Bs u y ww2 → Calls Tryz.prog 9 #[.slice x 2 cx, .slice y 2 cy] u fun e w' => e = .returned (.bool true) ∧ Dr u w') := Hid.mk' (fun u x y cx cy h1 h2 => by have := eq_at x y 2 2 cx cy ww2 ww2 u rfl rfl h1 h2; rwa [show decide (ww2 = ww2) = true by simp] at this)
  have b10 : Below w9.heap.size w9 (w9.alloc (.cells #[.int .u8 161, .int .u8 35, .int .u8 134, .int .u8 221, .int .u8 1, .int .u8 2] 5)) := (Below.refl _ _).alloc (Nat.le_refl _) _
  have A10 := Hid.mk' (A9.out.below b10)
  have PK10 := Hid.mk' (PK9.out.below b10)
  have S10 : Hid (Bs (w9.alloc (.cells #[.int .u8 161, .int .u8 35, .int .u8 134, .int .u8 221, .int .u8 1, .int .u8 2] 5)) (some ⟨w9.heap.size, 0, none⟩) ww6) := Hid.mk' (bs_block (A := []) (D := []) (zs := ww6) (heap_alloc_new w9 _) 0 rfl ww_b6 (by simp [ww6]))
  clear b10 A9 PK9
  go_wp2_with fail
  refine (E6.out _ a2 _ c2 6 (HB2.out _ A10.out) S10.out).mono ?_
  rintro e w11 ⟨rfl, d11⟩
  have A11 := Hid.mk' (A10.out.below (d11.below _))
  have PK11 := Hid.mk' (PK10.out.dr d11)
  clear d11 A10 PK10 S10
  have b12 : Below w11.heap.size w11 (w11.alloc (.cells #[.int .u8 1, .int .u8 2] 5)) := (Below.refl _ _).alloc (Nat.le_refl _) _
  have A12 := Hid.mk' (A11.out.below b12)
  have PK12 := Hid.mk' (PK11.out.below b12)
  have S12 : Hid (Bs (w11.alloc (.cells #[.int .u8 1, .int .u8 2] 5)) (some ⟨w11.heap.size, 0, none⟩) ww2) := Hid.mk' (bs_block (A := []) (D := []) (zs := ww2) (heap_alloc_new w11 _) 0 rfl ww_b2 (by simp [ww2]))
  clear b12 PK11
  go_wp2_with (first
    | refine wpList_load_midG (by rfl) 46 _ rfl r 0 rfl M _ (range_block A11.out.xx) Tryz.underlying46 rfl (by rw [hm73.out]; exact info_hh) ?_
    | refine wpList_load_midG (by rfl) 46 _ rfl w.heap.size 0 rfl M _ (range_block A11.out.hd) Tryz.underlying46 rfl (by rw [hm73.out]; exact info_hh) ?_)
  refine (E2.out _ a5 _ c5 2 (HB5.out _ A12.out) S12.out).mono ?_
  rintro e w13 ⟨rfl, d13⟩
  have A13 := Hid.mk' (A12.out.below (d13.below _))
  have PK13 := Hid.mk' (PK12.out.dr d13)
  clear d13 A12 PK12 S12 A11
  go_wp2_with fail
  refine (bytes_any p g9 A' ww6 D' 1 _ PK13.out).mono ?_
  rintro e w14 ⟨v14, rfl, own14, b14⟩
  obtain ⟨a14, c14, rfl, s14, -, -⟩ := K05.own_bs own14 rfl ww_b6 (by simp [ww6])
  have A14 := Hid.mk' (A13.out.below b14)
  have PK14 := Hid.mk' (PK13.out.below b14)
  have S14 := Hid.mk' s14
  clear own14 b14 s14 A13 PK13
  go_wp2_with fail
  refine (E6.out _ a14 a2 c14 c2 S14.out (HB2.out _ A14.out)).mono ?_
  rintro e w15 ⟨rfl, d15⟩
  have A15 := Hid.mk' (A14.out.below (d15.below _))
  have PK15 := Hid.mk' (PK14.out.dr d15)
  clear d15 A14 PK14 S14
  go_wp2_with fail
  refine (moves_any p g9 A' ww6 D' 1 _ PK15.out).mono ?_
  rintro e w16 ⟨rfl, rfl⟩
  go_wp2_with fail
  refine (HCK.out _).mono ?_
  rintro e w17 ⟨rfl, b17⟩
  have B17 := Hid.mk' (A15.out.below b17).old
  clear b17
  go_wp2_with fail
  go_ret
  exact ⟨rfl, B17.out⟩
end Go.Proofs.YtednmdkjhiihcaaGreat
