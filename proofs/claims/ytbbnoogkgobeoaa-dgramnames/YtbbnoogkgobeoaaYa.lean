/- dgram: a header's cells and bytes; the contracts of dgram.Check, Size, get16, put16, fieldOf. -/
import Derived.Test.YtbbnoogkgobeoaaGa
import Derived.Test.YtbbnoogkgobeoaaSf
namespace Go.Proofs.Ytbbnoogkgobeoaa
open Go.ChangeShapes Go.WideShapes Go.ChangeAt Go.RowKit

/-- A header's cells: SrcPort, DstPort. -/
def dgC (sp dp : Int) : List Value := [.int .u16 sp, .int .u16 dp]
/-- A header's bytes ahead of a payload of m bytes, its field being f. -/
def dgB (sp dp m f : Int) : List Int := [sp / 256, sp % 256, dp / 256, dp % 256, (8 + m) / 256, (8 + m) % 256, f / 256, f % 256]
/-- The field that a sum comes to. -/
def fd (s : Int) : Int := if 65535 - s = 0 then 65535 else 65535 - s
theorem fd_bd {s : Int} (h0 : 0 ≤ s) (h1 : s ≤ 65535) : 0 ≤ fd s ∧ fd s ≤ 65535 := by
  unfold fd; split <;> omega
/-- A header's field, ahead of a payload. -/
def dgF (sp dp : Int) (ys : List Int) : Int := fd (su (dgB sp dp ys.length 0 ++ ys) (8 + ys.length))

/-- A header's numbers, as their types have them. -/
structure Dg (sp dp : Int) : Prop where
  s0 : 0 ≤ sp
  s1 : sp ≤ 65535
  d0 : 0 ≤ dp
  d1 : dp ≤ 65535

theorem info_hd : (Try.prog.info? 24).map (·.size) = some 2 := by kernel_rfl

theorem dgC_one (sp dp : Int) : (dgC sp dp).toArray.all (·.oneCell') = true := by
  refine all_oneCell_toArray (fun v hv => ?_)
  simp only [dgC, List.mem_cons, List.not_mem_nil, or_false] at hv
  rcases hv with rfl | rfl <;> rfl

theorem or16 (V b : Int) (h0 : 0 ≤ V) (h1 : V ≤ 255) (b0 : 0 ≤ b) (b1 : b ≤ 255) : bits .or .u16 (V * 256) b = V * 256 + b := by
  rw [u16_or _ _ (by omega) (by omega) (by omega) (by omega)]
  have h := Nat.two_pow_add_eq_or_of_lt (i := 8) (b := b.toNat) (by omega) V.toNat
  have e2 : (V * 256).toNat = 2 ^ 8 * V.toNat := by omega
  rw [e2, ← h]
  omega

theorem lcheck_any (L : List Value) (w : World) : Calls Try.prog 11 #[.agg L.toArray] w fun e w' => e = .returned (.int .i64 0) ∧ Below w.heap.size w w' := by
  go_enter Try.func11, Try.ntmps11
  go_wp2_with fail
  go_ret
  exact ⟨rfl, (Below.refl _ _).alloc (Nat.le_refl _) _⟩

theorem lsize_any (w : World) : Calls Try.prog 13 #[] w fun e w' => e = .returned (.int .i64 8) ∧ w = w' := by
  go_enter Try.func13, Try.ntmps13
  go_wp2_with fail
  go_ret
  exact ⟨rfl, rfl⟩

/-- Two bytes as a number. -/
def rdV (zs : List Int) (k : Nat) : Int := zs.getD k 0 * 256 + zs.getD (k + 1) 0
theorem rdV_bd {zs : List Int} (h : Bytes zs) (k : Nat) : 0 ≤ rdV zs k ∧ rdV zs k ≤ 65535 := by
  have h0 := h.getD k
  have h1 := h.getD (k + 1)
  unfold rdV; omega

set_option maxHeartbeats 400000 in
theorem get16_any (b off n c x : Nat) (zs : List Int) (w : World) (hz : zs.length = n) (hB : Bs w (some ⟨b, off, none⟩) zs) (hx : x + 2 ≤ n) :
    Calls Try.prog 27 #[.slice (some ⟨b, off, none⟩) n c, .int .i64 x] w fun e w' => e = .returned (.int .u16 (rdV zs x)) ∧ Dr w w' := by
  unfold rdV
  have hln : n ≤ 140737488355328 := by rw [← hz]; exact hB.len
  have hx0 : (x : Int) < (n : Int) := by omega
  have hx1 : (x : Int) + 1 < (n : Int) := by omega
  have cc : ∀ i, i < n → w.cell? ⟨b, off + i, none⟩ = some (.int .u8 (zs.getD i 0)) := by
    intro i hi
    rcases hB.lies with h0 | ⟨b', off', e, hc⟩
    · omega
    · cases e; exact hc i (by omega)
  have c0 := cc x (by omega)
  have c1 := cc (x + 1) (by omega)
  have k0 := hB.bytes.getD x
  have k1 := hB.bytes.getD (x + 1)
  clear cc hB hz
  generalize zs.getD x 0 = u at *
  generalize zs.getD (x + 1) 0 = v at *
  obtain ⟨u0, u1⟩ := k0
  obtain ⟨v0, v1⟩ := k1
  have hor := or16 u v u0 u1 v0 v1
  go_enter Try.func27, Try.ntmps27
  go_wp2_with fail
  go_quiet (fail)
  go_wp2_with fail
  go_ret
  exact ⟨rfl, ⟨_, rfl⟩⟩

set_option maxHeartbeats 400000 in
theorem put16_any (g m x : Nat) (v : Int) (Z : List Value) (t : TypeId) (w : World) (hg : w.heap[g]? = some (.cells Z.toArray t (0, 0))) (hl : Z.length = m) (hx : x + 2 ≤ m) (hm : m ≤ 1000000) (v0 : 0 ≤ v) (v1 : v ≤ 65535) :
    Calls Try.prog 22 #[.slice (some ⟨g, 0, none⟩) m m, .int .i64 x, .int .u16 v] w fun e w' => e = .returned (.tuple #[]) ∧ w'.heap[g]? = some (.cells ((Z.set x (.int .u8 (v / 256))).set (x + 1) (.int .u8 (v % 256))).toArray t (0, 0)) ∧ Kept (fun k => k = g) w w' := by
  have hx0 : (x : Int) < (m : Int) := by omega
  have hx1 : (x : Int) + 1 < (m : Int) := by omega
  obtain ⟨y0, c0⟩ : ∃ y, w.cell? ⟨g, x, none⟩ = some y := ⟨_, by rw [cell_of_row w _ x _ _ _ hg, List.getElem?_toArray, List.getElem?_eq_getElem (by omega)]⟩
  obtain ⟨y1, c1⟩ : ∃ y, w.cell? ⟨g, x + 1, none⟩ = some y := ⟨_, by rw [cell_of_row w _ (x + 1) _ _ _ hg, List.getElem?_toArray, List.getElem?_eq_getElem (by omega)]⟩
  have f0 : w.frozen? ⟨g, x, none⟩ = false := frozen_of_row w _ x _ _ hg
  have f1 : w.frozen? ⟨g, x + 1, none⟩ = false := frozen_of_row w _ (x + 1) _ _ hg
  have HG := Hid.mk' hg
  clear hg
  go_enter Try.func22, Try.ntmps22
  go_wp2_with fail
  have h1 : Hid (((w.setCell ⟨g, x, none⟩ (.int .u8 (v / 256))).setCell ⟨g, x + 1, none⟩ (.int .u8 (v % 256))).heap[g]? = some (.cells ((Z.set x (.int .u8 (v / 256))).set (x + 1) (.int .u8 (v % 256))).toArray t (0, 0))) := Hid.mk' (by
    rw [Go.heap_setCell_same _ _ (x + 1) _ _ _ (Go.heap_setCell_same _ _ x _ _ _ HG.out)]; simp)
  have h2 : Hid (Kept (fun k => k = g) w ((w.setCell ⟨g, x, none⟩ (.int .u8 (v / 256))).setCell ⟨g, x + 1, none⟩ (.int .u8 (v % 256)))) := Hid.mk' (((Kept.refl (fun k => k = g) w).setCell (p := ⟨g, x, none⟩) (fun _ => rfl) _).setCell (p := ⟨g, x + 1, none⟩) (fun _ => rfl) _)
  go_end0
  exact ⟨rfl, h1.out, h2.out⟩

/-- All the bytes, the field's two being 0. -/
def zf (zs : List Int) : List Int := (zs.set 6 0).set 7 0
theorem zf_length (zs : List Int) : (zf zs).length = zs.length := by unfold zf; simp
theorem zf_bytes {zs : List Int} (h : Bytes zs) : Bytes (zf zs) :=
  bytes_set (bytes_set h 6 0 (by omega) (by omega)) 7 0 (by omega) (by omega)

/-- The total of a header and its payload, by pieces. -/
theorem tot_zf (hs ys : List Int) (h : hs.length = 8) (k : Nat) : tot (zf (hs ++ ys)) (8 + k) = tot (hs.take 6) 6 + tot ys k := by
  have e : zf (hs ++ ys) = hs.take 6 ++ ([0, 0] ++ ys) := by
    match hs, h with
    | [z0, z1, z2, z3, z4, z5, z6, z7], _ => rfl
  have l6 : (hs.take 6).length = 6 := by rw [List.length_take, h]; rfl
  have t1 := tot_app (hs.take 6) ([0, 0] ++ ys) (by rw [l6]) (2 + k)
  have t2 : tot ([0, 0] ++ ys) (2 + k) = tot [0, 0] 2 + tot ys k := tot_app [0, 0] ys (by simp) k
  rw [l6] at t1
  rw [e, show 8 + k = 6 + (2 + k) by omega, t1, t2, show tot [0, 0] 2 = 0 by decide]
  omega

set_option maxHeartbeats 1000000 in
theorem fieldOf_any (b off c : Nat) (a : Option Addr) (m d : Nat) (hs ys : List Int) (w : World) (hn : hs.length = 8) (hm : ys.length = m) (hB : Bs w (some ⟨b, off, none⟩) hs) (hY : Bs w a ys) (hc : 8 ≤ c) :
    Calls Try.prog 23 #[.slice (some ⟨b, off, none⟩) 8 c, .slice a m d] w fun e w' => e = .returned (.int .u16 (fd (su (zf (hs ++ ys)) (8 + m)))) ∧ Dr w w' := by
  have l6 : (hs.take 6).length = 6 := by rw [List.length_take, hn]; rfl
  have K1 : Hid (∀ u : World, Dr w u → Calls Try.prog 30 #[.slice (some ⟨b, off, none⟩) 6 c] u fun e w' => e = .returned (.int .u16 (fo (tot (hs.take 6) 6))) ∧ Dr u w') := Hid.mk' (fun u hu => by
    have h1 := sum_any (some ⟨b, off, none⟩) c (hs.take 6) u ((hu.bs hB).take 6 (by omega))
    rw [l6] at h1
    exact h1)
  have K3 : Hid (∀ u : World, Dr w u → Calls Try.prog 30 #[.slice a m d] u fun e w' => e = .returned (.int .u16 (fo (tot ys m))) ∧ Dr u w') := Hid.mk' (fun u hu => by
    have h1 := sum_any a d ys u (hu.bs hY)
    rw [hm] at h1
    exact h1)
  have b1 := (tot_bd (fun z hz => hB.bytes z (List.mem_of_mem_take hz) : Bytes (hs.take 6)) 6).1
  have b3 := (tot_bd hY.bytes m).1
  have HR : Hid (fo (fo (tot (hs.take 6) 6) + fo (tot ys m)) = su (zf (hs ++ ys)) (8 + m)) := Hid.mk' (by
    unfold su
    rw [tot_zf hs ys hn m, fo_add _ _ b1 (fo_nonneg _), fo_add' _ _ b1 b3])
  rw [← HR.out]
  generalize tot (hs.take 6) 6 = A at *
  generalize tot ys m = D at *
  have A0 := fo_nonneg A
  have A1 := fo_le A
  have D0 := fo_nonneg D
  have D1 := fo_le D
  have S0 := fo_nonneg (fo A + fo D)
  have S1 := fo_le (fo A + fo D)
  have hcc : (8 : Int) ≤ (c : Int) := by omega
  have hc6 : (6 : Int) ≤ (c : Int) := by omega
  clear HR hB hY hn hm l6 b1 b3
  obtain ⟨T, HT⟩ : ∃ T, Hid (fo (fo A + fo D) = T) := ⟨_, rfl⟩
  rw [HT.out] at S0 S1 ⊢
  by_cases hz : 65535 - T = 0
  · unfold fd
    rw [if_pos hz]
    have hzb : (65535 - T == 0) = true := by simpa using hz
    go_enter Try.func23, Try.ntmps23
    go_wp2_with fail
    refine (K1.out w (Dr.refl w)).mono ?_
    rintro e w2 ⟨rfl, d2⟩
    have D2 := Hid.mk' d2
    clear d2
    go_wp2_with fail
    refine (K3.out w2 D2.out).mono ?_
    rintro e w3 ⟨rfl, d3⟩
    have D3 := Hid.mk' (D2.out.trans d3)
    clear d3
    go_wp2_with (go_at_call 29; refine (add_any _ _ _ A0 A1 D0 D1).mono ?_; rw [HT.out]; rintro e w4 ⟨rfl, rfl⟩)
    go_ret
    exact ⟨rfl, D3.out⟩
  · unfold fd
    rw [if_neg hz]
    have hzb : (65535 - T == 0) = false := by simpa using hz
    go_enter Try.func23, Try.ntmps23
    go_wp2_with fail
    refine (K1.out w (Dr.refl w)).mono ?_
    rintro e w2 ⟨rfl, d2⟩
    have D2 := Hid.mk' d2
    clear d2
    go_wp2_with fail
    refine (K3.out w2 D2.out).mono ?_
    rintro e w3 ⟨rfl, d3⟩
    have D3 := Hid.mk' (D2.out.trans d3)
    clear d3
    go_wp2_with (go_at_call 29; refine (add_any _ _ _ A0 A1 D0 D1).mono ?_; rw [HT.out]; rintro e w4 ⟨rfl, rfl⟩)
    go_ret
    exact ⟨rfl, D3.out⟩
end Go.Proofs.Ytbbnoogkgobeoaa
