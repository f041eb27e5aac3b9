/- seg: a header's cells and bytes; the contracts of seg.Check, Size, get16, put16, get32, put32, fieldOf. -/
import Derived.Test.YtoakinmgjiklhaaGa
import Derived.Test.YtoakinmgjiklhaaSf
namespace Go.Proofs.Ytoakinmgjiklhaa
open Go.ChangeShapes Go.WideShapes Go.ChangeAt Go.RowKit

/-- A header's cells: SrcPort, DstPort, Seq, Ack, Flags, Window. -/
def sgC (sp dp sq ak fl wn : Int) : List Value := [.int .u16 sp, .int .u16 dp, .int .u32 sq, .int .u32 ak, .int .u8 fl, .int .u16 wn]
/-- A header's bytes, its field being f. -/
def sgB (sp dp sq ak fl wn f : Int) : List Int := [sp / 256, sp % 256, dp / 256, dp % 256, sq / 65536 / 256, sq / 65536 % 256, sq % 65536 / 256, sq % 65536 % 256, ak / 65536 / 256, ak / 65536 % 256, ak % 65536 / 256, ak % 65536 % 256, 80, fl, wn / 256, wn % 256, f / 256, f % 256, 0, 0]
/-- A header's field, ahead of a payload. -/
def sgF (sp dp sq ak fl wn : Int) (ys : List Int) : Int := 65535 - su (sgB sp dp sq ak fl wn 0 ++ ys) (20 + ys.length)
/-- Check's answer. -/
def sgE (fl : Int) : Int := if fl ≤ 63 then 0 else 90

/-- A header's numbers, as their types have them. -/
structure Sg (sp dp sq ak fl wn : Int) : Prop where
  s0 : 0 ≤ sp
  s1 : sp ≤ 65535
  d0 : 0 ≤ dp
  d1 : dp ≤ 65535
  q0 : 0 ≤ sq
  q1 : sq ≤ 4294967295
  a0 : 0 ≤ ak
  a1 : ak ≤ 4294967295
  f0 : 0 ≤ fl
  f1 : fl ≤ 255
  w0 : 0 ≤ wn
  w1 : wn ≤ 65535

theorem info_hd : (Try.prog.info? 25).map (·.size) = some 6 := by kernel_rfl

theorem sgC_one (sp dp sq ak fl wn : Int) : (sgC sp dp sq ak fl wn).toArray.all (·.oneCell') = true := by
  refine all_oneCell_toArray (fun v hv => ?_)
  simp only [sgC, List.mem_cons, List.not_mem_nil, or_false] at hv
  rcases hv with rfl | rfl | rfl | rfl | rfl | rfl <;> rfl

theorem or16 (V b : Int) (h0 : 0 ≤ V) (h1 : V ≤ 255) (b0 : 0 ≤ b) (b1 : b ≤ 255) : bits .or .u16 (V * 256) b = V * 256 + b := by
  rw [u16_or _ _ (by omega) (by omega) (by omega) (by omega)]
  have h := Nat.two_pow_add_eq_or_of_lt (i := 8) (b := b.toNat) (by omega) V.toNat
  have e2 : (V * 256).toNat = 2 ^ 8 * V.toNat := by omega
  rw [e2, ← h]
  omega
theorem or32 (V b : Int) (h0 : 0 ≤ V) (h1 : V ≤ 65535) (b0 : 0 ≤ b) (b1 : b ≤ 65535) : bits .or .u32 (V * 65536) b = V * 65536 + b := by
  rw [u32_or _ _ (by omega) (by omega) (by omega) (by omega)]
  have h := Nat.two_pow_add_eq_or_of_lt (i := 16) (b := b.toNat) (by omega) V.toNat
  have e2 : (V * 65536).toNat = 2 ^ 16 * V.toNat := by omega
  rw [e2, ← h]
  omega
theorem or12 (b : Int) (b0 : 0 ≤ b) (b1 : b ≤ 63) : bits .or .u16 20480 b = 20480 + b := by
  rw [u16_or _ _ (by omega) (by omega) (by omega) (by omega)]
  have h := Nat.two_pow_add_eq_or_of_lt (i := 12) (b := b.toNat) (by omega) 5
  have e2 : (20480 : Int).toNat = 2 ^ 12 * 5 := by decide
  rw [e2, ← h]
  omega

theorem lcheck_any (L : List Value) (fl : Int) (w : World) (hL : L[4]? = some (.int .u8 fl)) : Calls Try.prog 11 #[.agg L.toArray] w fun e w' => e = .returned (.int .i64 (sgE fl)) ∧ Below w.heap.size w w' := by
  have hL' : L.toArray[4]? = some (.int .u8 fl) := by rw [List.getElem?_toArray]; exact hL
  unfold sgE
  by_cases h : fl ≤ 63
  · rw [if_pos h]
    have h' : ¬ 64 ≤ fl := by omega
    go_enter Try.func11, Try.ntmps11
    go_wp2_with fail
    go_ret
    exact ⟨rfl, (Below.refl _ _).alloc (Nat.le_refl _) _⟩
  · rw [if_neg h]
    have h' : 64 ≤ fl := by omega
    go_enter Try.func11, Try.ntmps11
    go_wp2_with fail
    go_ret
    exact ⟨rfl, (Below.refl _ _).alloc (Nat.le_refl _) _⟩

theorem lsize_any (w : World) : Calls Try.prog 13 #[] w fun e w' => e = .returned (.int .i64 20) ∧ w = w' := by
  go_enter Try.func13, Try.ntmps13
  go_wp2_with fail
  go_ret
  exact ⟨rfl, rfl⟩

/-- Two bytes as a number, and four. -/
def rdV (zs : List Int) (k : Nat) : Int := zs.getD k 0 * 256 + zs.getD (k + 1) 0
def rdW (zs : List Int) (k : Nat) : Int := rdV zs k * 65536 + rdV zs (k + 2)
theorem rdV_bd {zs : List Int} (h : Bytes zs) (k : Nat) : 0 ≤ rdV zs k ∧ rdV zs k ≤ 65535 := by
  have h0 := h.getD k
  have h1 := h.getD (k + 1)
  unfold rdV; omega
theorem rdW_bd {zs : List Int} (h : Bytes zs) (k : Nat) : 0 ≤ rdW zs k ∧ rdW zs k ≤ 4294967295 := by
  have h0 := rdV_bd h k
  have h1 := rdV_bd h (k + 2)
  unfold rdW; omega

set_option maxHeartbeats 400000 in
theorem get16_any (b off n c x : Nat) (zs : List Int) (w : World) (hz : zs.length = n) (hB : Bs w (some ⟨b, off, none⟩) zs) (hx : x + 2 ≤ n) :
    Calls Try.prog 28 #[.slice (some ⟨b, off, none⟩) n c, .int .i64 x] w fun e w' => e = .returned (.int .u16 (rdV zs x)) ∧ Dr w w' := by
  unfold rdV
  have hln : n ≤ 140737488355328 := by rw [← hz]; exact hB.len
  have hx0 : (x : Int) < (n : Int) := by omega
  have hx1 : (x : Int) + 1 < (n : Int) := by omega
  have cc : ∀ i, i < n → w.cell? ⟨b, off + i, none⟩ = some (.int .u8 (zs.getD i 0)) := by
    intro i hi
    rcases hB.lies with h0 | ⟨b', off', e, hc⟩
    · omega
    · cases e; exact hc i (by omega)
  have c0 := cc x (by omega)
  have c1 := cc (x + 1) (by omega)
  have k0 := hB.bytes.getD x
  have k1 := hB.bytes.getD (x + 1)
  clear cc hB hz
  generalize zs.getD x 0 = u at *
  generalize zs.getD (x + 1) 0 = v at *
  obtain ⟨u0, u1⟩ := k0
  obtain ⟨v0, v1⟩ := k1
  have hor := or16 u v u0 u1 v0 v1
  go_enter Try.func28, Try.ntmps28
  go_wp2_with fail
  go_quiet (fail)
  go_wp2_with fail
  go_ret
  exact ⟨rfl, ⟨_, rfl⟩⟩

set_option maxHeartbeats 400000 in
theorem get32_any (b off n c x : Nat) (zs : List Int) (w : World) (hz : zs.length = n) (hB : Bs w (some ⟨b, off, none⟩) zs) (hx : x + 4 ≤ n) :
    Calls Try.prog 29 #[.slice (some ⟨b, off, none⟩) n c, .int .i64 x] w fun e w' => e = .returned (.int .u32 (rdW zs x)) ∧ Dr w w' := by
  unfold rdW
  have hln : n ≤ 140737488355328 := by rw [← hz]; exact hB.len
  have KG : Hid (∀ u : World, Dr w u → ∀ k, k + 2 ≤ n → Calls Try.prog 28 #[.slice (some ⟨b, off, none⟩) n c, .int .i64 k] u fun e u' => e = .returned (.int .u16 (rdV zs k)) ∧ Dr u u') := Hid.mk' (fun u h k hk => get16_any b off n c k zs u hz (h.bs hB) hk)
  have k0 := rdV_bd hB.bytes x
  have k1 := rdV_bd hB.bytes (x + 2)
  clear hB hz
  obtain ⟨U, HU⟩ : ∃ U, Hid (rdV zs x = U) := ⟨_, rfl⟩
  obtain ⟨V, HV⟩ : ∃ V, Hid (rdV zs (x + 2) = V) := ⟨_, rfl⟩
  rw [HU.out] at k0 ⊢
  rw [HV.out] at k1 ⊢
  obtain ⟨u0, u1⟩ := k0
  obtain ⟨v0, v1⟩ := k1
  have hor := or32 U V u0 u1 v0 v1
  go_enter Try.func29, Try.ntmps29
  go_wp2_with fail
  have key := KG.out w (Dr.refl w) x (by omega)
  rw [HU.out] at key
  refine key.mono ?_
  rintro e w2 ⟨rfl, d2⟩
  have D2 := Hid.mk' d2
  clear key d2
  go_wp2_with fail
  have key := KG.out w2 D2.out (x + 2) (by omega)
  rw [HV.out] at key
  refine key.mono ?_
  rintro e w3 ⟨rfl, d3⟩
  have D3 := Hid.mk' (D2.out.trans d3)
  clear key d3
  go_wp2_with fail
  go_ret
  exact ⟨rfl, D3.out⟩

set_option maxHeartbeats 400000 in
theorem put16_any (g m x : Nat) (v : Int) (Z : List Value) (t : TypeId) (w : World) (hg : w.heap[g]? = some (.cells Z.toArray t (0, 0))) (hl : Z.length = m) (hx : x + 2 ≤ m) (hm : m ≤ 1000000) (v0 : 0 ≤ v) (v1 : v ≤ 65535) :
    Calls Try.prog 22 #[.slice (some ⟨g, 0, none⟩) m m, .int .i64 x, .int .u16 v] w fun e w' => e = .returned (.tuple #[]) ∧ w'.heap[g]? = some (.cells ((Z.set x (.int .u8 (v / 256))).set (x + 1) (.int .u8 (v % 256))).toArray t (0, 0)) ∧ Kept (fun k => k = g) w w' := by
  have hx0 : (x : Int) < (m : Int) := by omega
  have hx1 : (x : Int) + 1 < (m : Int) := by omega
  obtain ⟨y0, c0⟩ : ∃ y, w.cell? ⟨g, x, none⟩ = some y := ⟨_, by rw [cell_of_row w _ x _ _ _ hg, List.getElem?_toArray, List.getElem?_eq_getElem (by omega)]⟩
  obtain ⟨y1, c1⟩ : ∃ y, w.cell? ⟨g, x + 1, none⟩ = some y := ⟨_, by rw [cell_of_row w _ (x + 1) _ _ _ hg, List.getElem?_toArray, List.getElem?_eq_getElem (by omega)]⟩
  have f0 : w.frozen? ⟨g, x, none⟩ = false := frozen_of_row w _ x _ _ hg
  have f1 : w.frozen? ⟨g, x + 1, none⟩ = false := frozen_of_row w _ (x + 1) _ _ hg
  have HG := Hid.mk' hg
  clear hg
  go_enter Try.func22, Try.ntmps22
  go_wp2_with fail
  have h1 : Hid (((w.setCell ⟨g, x, none⟩ (.int .u8 (v / 256))).setCell ⟨g, x + 1, none⟩ (.int .u8 (v % 256))).heap[g]? = some (.cells ((Z.set x (.int .u8 (v / 256))).set (x + 1) (.int .u8 (v % 256))).toArray t (0, 0))) := Hid.mk' (by
    rw [Go.heap_setCell_same _ _ (x + 1) _ _ _ (Go.heap_setCell_same _ _ x _ _ _ HG.out)]; simp)
  have h2 : Hid (Kept (fun k => k = g) w ((w.setCell ⟨g, x, none⟩ (.int .u8 (v / 256))).setCell ⟨g, x + 1, none⟩ (.int .u8 (v % 256)))) := Hid.mk' (((Kept.refl (fun k => k = g) w).setCell (p := ⟨g, x, none⟩) (fun _ => rfl) _).setCell (p := ⟨g, x + 1, none⟩) (fun _ => rfl) _)
  go_end0
  exact ⟨rfl, h1.out, h2.out⟩

set_option maxHeartbeats 400000 in
theorem put32_any (g m x : Nat) (v : Int) (Z : List Value) (t : TypeId) (w : World) (hg : w.heap[g]? = some (.cells Z.toArray t (0, 0))) (hl : Z.length = m) (hx : x + 4 ≤ m) (hm : m ≤ 1000000) (v0 : 0 ≤ v) (v1 : v ≤ 4294967295) :
    Calls Try.prog 23 #[.slice (some ⟨g, 0, none⟩) m m, .int .i64 x, .int .u32 v] w fun e w' => e = .returned (.tuple #[]) ∧ w'.heap[g]? = some (.cells ((((Z.set x (.int .u8 (v / 65536 / 256))).set (x + 1) (.int .u8 (v / 65536 % 256))).set (x + 2) (.int .u8 (v % 65536 / 256))).set (x + 2 + 1) (.int .u8 (v % 65536 % 256))).toArray t (0, 0)) ∧ Kept (fun k => k = g) w w' := by
  have HG := Hid.mk' hg
  clear hg
  go_enter Try.func23, Try.ntmps23
  go_wp2_with fail
  refine (put16_any g m x (v / 65536) Z t w HG.out hl (by omega) hm (by omega) (by omega)).mono ?_
  rintro e w2 ⟨rfl, hg2, hk2⟩
  have G2 := Hid.mk' hg2
  have K2 := Hid.mk' hk2
  clear hg2 hk2
  go_wp2_with fail
  refine (put16_any g m (x + 2) (v % 65536) _ t w2 G2.out (by rw [List.length_set, List.length_set]; exact hl) (by omega) hm (by omega) (by omega)).mono ?_
  rintro e w3 ⟨rfl, hg3, hk3⟩
  have G3 := Hid.mk' hg3
  have K3 := Hid.mk' (K2.out.trans hk3)
  clear hg3 hk3
  go_wp2_with fail
  go_end0
  exact ⟨rfl, G3.out, K3.out⟩
/-- All the bytes, the field's two being 0. -/
def zf (zs : List Int) : List Int := (zs.set 16 0).set 17 0
theorem zf_length (zs : List Int) : (zf zs).length = zs.length := by unfold zf; simp
theorem zf_bytes {zs : List Int} (h : Bytes zs) : Bytes (zf zs) :=
  bytes_set (bytes_set h 16 0 (by omega) (by omega)) 17 0 (by omega) (by omega)

/-- The total of a header and its payload, by pieces. -/
theorem tot_zf (hs ys : List Int) (h : hs.length = 20) (k : Nat) : tot (zf (hs ++ ys)) (20 + k) = tot (hs.take 16) 16 + tot (hs.drop 18) 2 + tot ys k := by
  have e : zf (hs ++ ys) = hs.take 16 ++ ([0, 0] ++ (hs.drop 18 ++ ys)) := by
    match hs, h with
    | [z0, z1, z2, z3, z4, z5, z6, z7, z8, z9, z10, z11, z12, z13, z14, z15, z16, z17, z18, z19], _ => rfl
  have l16 : (hs.take 16).length = 16 := by rw [List.length_take, h]; rfl
  have l18 : (hs.drop 18).length = 2 := by rw [List.length_drop, h]
  have t1 := tot_app (hs.take 16) ([0, 0] ++ (hs.drop 18 ++ ys)) (by rw [l16]) (2 + (2 + k))
  have t2 : tot ([0, 0] ++ (hs.drop 18 ++ ys)) (2 + (2 + k)) = tot [0, 0] 2 + tot (hs.drop 18 ++ ys) (2 + k) := tot_app [0, 0] (hs.drop 18 ++ ys) (by simp) (2 + k)
  have t3 := tot_app (hs.drop 18) ys (by rw [l18]) k
  rw [l16] at t1
  rw [l18] at t3
  rw [e, show 20 + k = 16 + (2 + (2 + k)) by omega, t1, t2, t3, show tot [0, 0] 2 = 0 by decide]
  omega

set_option maxHeartbeats 1000000 in
theorem fieldOf_any (b off c : Nat) (a : Option Addr) (m d : Nat) (hs ys : List Int) (w : World) (hn : hs.length = 20) (hm : ys.length = m) (hB : Bs w (some ⟨b, off, none⟩) hs) (hY : Bs w a ys) (hc : 20 ≤ c) :
    Calls Try.prog 24 #[.slice (some ⟨b, off, none⟩) 20 c, .slice a m d] w fun e w' => e = .returned (.int .u16 (65535 - su (zf (hs ++ ys)) (20 + m))) ∧ Dr w w' := by
  have l16 : (hs.take 16).length = 16 := by rw [List.length_take, hn]; rfl
  have l18 : (hs.drop 18).length = 2 := by rw [List.length_drop, hn]
  have K1 : Hid (∀ u : World, Dr w u → Calls Try.prog 32 #[.slice (some ⟨b, off, none⟩) 16 c] u fun e w' => e = .returned (.int .u16 (fo (tot (hs.take 16) 16))) ∧ Dr u w') := Hid.mk' (fun u hu => by
    have h1 := sum_any (some ⟨b, off, none⟩) c (hs.take 16) u ((hu.bs hB).take 16 (by omega))
    rw [l16] at h1
    exact h1)
  have K2 : Hid (∀ (u : World) (c9 : Nat), Dr w u → Calls Try.prog 32 #[.slice (some ⟨b, off + 18, none⟩) 2 c9] u fun e w' => e = .returned (.int .u16 (fo (tot (hs.drop 18) 2))) ∧ Dr u w') := Hid.mk' (fun u c9 hu => by
    have h1 := sum_any (some ⟨b, off + 18, none⟩) c9 (hs.drop 18) u ((hu.bs hB).drop 18)
    rw [l18] at h1
    exact h1)
  have K3 : Hid (∀ u : World, Dr w u → Calls Try.prog 32 #[.slice a m d] u fun e w' => e = .returned (.int .u16 (fo (tot ys m))) ∧ Dr u w') := Hid.mk' (fun u hu => by
    have h1 := sum_any a d ys u (hu.bs hY)
    rw [hm] at h1
    exact h1)
  have b1 := (tot_bd (fun z hz => hB.bytes z (List.mem_of_mem_take hz) : Bytes (hs.take 16)) 16).1
  have b2 := (tot_bd (fun z hz => hB.bytes z (List.mem_of_mem_drop hz) : Bytes (hs.drop 18)) 2).1
  have b3 := (tot_bd hY.bytes m).1
  have HR : Hid (fo (fo (fo (tot (hs.take 16) 16) + fo (tot (hs.drop 18) 2)) + fo (tot ys m)) = su (zf (hs ++ ys)) (20 + m)) := Hid.mk' (by
    unfold su
    rw [tot_zf hs ys hn m, fo_add _ _ b1 (fo_nonneg _), fo_add' _ _ b1 b2, fo_add _ _ (by omega) (fo_nonneg _), fo_add' _ _ (by omega) b3])
  rw [← HR.out]
  generalize tot (hs.take 16) 16 = A at *
  generalize tot (hs.drop 18) 2 = B at *
  generalize tot ys m = D at *
  have A0 := fo_nonneg A
  have A1 := fo_le A
  have B0 := fo_nonneg B
  have B1 := fo_le B
  have D0 := fo_nonneg D
  have D1 := fo_le D
  have S0 := fo_nonneg (fo A + fo B)
  have S1 := fo_le (fo A + fo B)
  have T0 := fo_nonneg (fo (fo A + fo B) + fo D)
  have T1 := fo_le (fo (fo A + fo B) + fo D)
  have hcc : (20 : Int) ≤ (c : Int) := by omega
  have hc18 : (18 : Int) ≤ (c : Int) := by omega
  have hc16 : (16 : Int) ≤ (c : Int) := by omega
  have hne : ¬ c = 18 := by omega
  have hA0 : (if c = 18 then some (⟨b, off, none⟩ : Addr) else some ⟨b, off + 18, none⟩) = some ⟨b, off + 18, none⟩ := if_neg hne
  clear HR hB hY hn hm l16 l18 b1 b2 b3
  go_enter Try.func24, Try.ntmps24
  go_wp2_with fail
  go_quiet (first | (go_at_call_of 32 (Value.slice (some ⟨b, off, none⟩) 16 c); exact Calls.quiet_of (K1.out _ ⟨_, rfl⟩)) | (go_at_call 32; exact Calls.quiet_of (K2.out _ _ ⟨_, rfl⟩)) | (go_at_call 31; exact Calls.quiet_of_same (add_any _ _ _ A0 A1 B0 B1)))
  go_wp2_with fail
  refine (K3.out _ ⟨_, rfl⟩).mono ?_
  rintro e w2 ⟨rfl, d2⟩
  have D2 : Hid (Dr w w2) := Hid.mk' (Dr.trans ⟨_, rfl⟩ d2)
  clear d2
  go_wp2_with (go_at_call 31; refine (add_any _ _ _ S0 S1 D0 D1).mono ?_; rintro e w3 ⟨rfl, rfl⟩)
  go_ret
  exact ⟨rfl, D2.out⟩
end Go.Proofs.Ytoakinmgjiklhaa
