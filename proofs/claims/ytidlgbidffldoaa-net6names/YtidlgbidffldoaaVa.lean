/- net6: a header's cells and bytes; the contracts of net6.Check, Size, get16, put16, get32, put32. -/
import Derived.Test.YtidlgbidffldoaaGa
namespace Go.Proofs.Ytidlgbidffldoaa
open Go.ChangeShapes Go.WideShapes Go.ChangeAt Go.RowKit

/-- A header's cells: Class, Flow, Next, Hops, Src, Dst. -/
def n6C (cl fl nx hp : Int) (s d : List Int) : List Value := [.int .u8 cl, .int .u32 fl, .int .u8 nx, .int .u8 hp] ++ (s.map (Value.int .u8) ++ d.map (Value.int .u8))
/-- A header's first number. -/
def n6M (cl fl : Int) : Int := 1610612736 + cl * 1048576 + fl
/-- A header's bytes ahead of a payload of m bytes. -/
def n6B (cl fl nx hp : Int) (s d : List Int) (m : Int) : List Int := [n6M cl fl / 65536 / 256, n6M cl fl / 65536 % 256, n6M cl fl % 65536 / 256, n6M cl fl % 65536 % 256, m / 256, m % 256, nx, hp] ++ (s ++ d)
/-- Check's answer. -/
def n6E (fl : Int) : Int := if fl ≤ 1048575 then 0 else 80

/-- A header's numbers, as their types have them. -/
structure N6 (cl fl nx hp : Int) (s d : List Int) : Prop where
  c0 : 0 ≤ cl
  c1 : cl ≤ 255
  f0 : 0 ≤ fl
  f1 : fl ≤ 4294967295
  x0 : 0 ≤ nx
  x1 : nx ≤ 255
  h0 : 0 ≤ hp
  h1 : hp ≤ 255
  sl : s.length = 16
  dl : d.length = 16
  sb : Bytes s
  db : Bytes d

theorem info_hd : (Try.prog.info? 25).map (·.size) = some 36 := by kernel_rfl

theorem n6C_length {cl fl nx hp : Int} {s d : List Int} (h : N6 cl fl nx hp s d) : (n6C cl fl nx hp s d).length = 36 := by
  unfold n6C; simp [h.sl, h.dl]
theorem n6C_one (cl fl nx hp : Int) (s d : List Int) : (n6C cl fl nx hp s d).toArray.all (·.oneCell') = true := by
  refine all_oneCell_toArray (fun v hv => ?_)
  unfold n6C at hv
  simp only [List.mem_append, List.mem_map, List.mem_cons, List.not_mem_nil, or_false] at hv
  rcases hv with (rfl | rfl | rfl | rfl) | ⟨z, _, rfl⟩ | ⟨z, _, rfl⟩ <;> rfl

theorem or16 (V b : Int) (h0 : 0 ≤ V) (h1 : V ≤ 255) (b0 : 0 ≤ b) (b1 : b ≤ 255) : bits .or .u16 (V * 256) b = V * 256 + b := by
  rw [u16_or _ _ (by omega) (by omega) (by omega) (by omega)]
  have h := Nat.two_pow_add_eq_or_of_lt (i := 8) (b := b.toNat) (by omega) V.toNat
  have e2 : (V * 256).toNat = 2 ^ 8 * V.toNat := by omega
  rw [e2, ← h]
  omega
theorem or32 (V b : Int) (h0 : 0 ≤ V) (h1 : V ≤ 65535) (b0 : 0 ≤ b) (b1 : b ≤ 65535) : bits .or .u32 (V * 65536) b = V * 65536 + b := by
  rw [u32_or _ _ (by omega) (by omega) (by omega) (by omega)]
  have h := Nat.two_pow_add_eq_or_of_lt (i := 16) (b := b.toNat) (by omega) V.toNat
  have e2 : (V * 65536).toNat = 2 ^ 16 * V.toNat := by omega
  rw [e2, ← h]
  omega
theorem or28 (V : Int) (h0 : 0 ≤ V) (h1 : V ≤ 255) : bits .or .u32 1610612736 (V * 1048576) = 1610612736 + V * 1048576 := by
  rw [u32_or _ _ (by omega) (by omega) (by omega) (by omega)]
  have h := Nat.two_pow_add_eq_or_of_lt (i := 28) (b := (V * 1048576).toNat) (by omega) 6
  have e2 : (1610612736 : Int).toNat = 2 ^ 28 * 6 := by decide
  rw [e2, ← h]
  omega
theorem or20 (V b : Int) (h0 : 0 ≤ V) (h1 : V ≤ 255) (b0 : 0 ≤ b) (b1 : b ≤ 1048575) : bits .or .u32 (1610612736 + V * 1048576) b = 1610612736 + V * 1048576 + b := by
  rw [u32_or _ _ (by omega) (by omega) (by omega) (by omega)]
  have h := Nat.two_pow_add_eq_or_of_lt (i := 20) (b := b.toNat) (by omega) (1536 + V.toNat)
  have e2 : (1610612736 + V * 1048576).toNat = 2 ^ 20 * (1536 + V.toNat) := by omega
  rw [e2, ← h]
  omega
theorem and20 (V : Int) (h0 : 0 ≤ V) (h1 : V ≤ 4294967295) : bits .and .u32 V 1048575 = V % 1048576 := by
  rw [u32_and _ _ (by omega) (by omega) (by omega) (by omega)]
  have h := Nat.and_two_pow_sub_one_eq_mod V.toNat 20
  have e : (1048575 : Int).toNat = 2 ^ 20 - 1 := by decide
  rw [e, h]
  omega

theorem lcheck_any (L : List Value) (fl : Int) (w : World) (hL : L[1]? = some (.int .u32 fl)) : Calls Try.prog 11 #[.agg L.toArray] w fun e w' => e = .returned (.int .i64 (n6E fl)) ∧ Below w.heap.size w w' := by
  have hL' : L.toArray[1]? = some (.int .u32 fl) := by rw [List.getElem?_toArray]; exact hL
  unfold n6E
  by_cases h : fl ≤ 1048575
  · rw [if_pos h]
    go_enter Try.func11, Try.ntmps11
    go_wp2_with fail
    go_ret
    exact ⟨rfl, (Below.refl _ _).alloc (Nat.le_refl _) _⟩
  · rw [if_neg h]
    go_enter Try.func11, Try.ntmps11
    go_wp2_with fail
    go_ret
    exact ⟨rfl, (Below.refl _ _).alloc (Nat.le_refl _) _⟩

theorem lsize_any (w : World) : Calls Try.prog 13 #[] w fun e w' => e = .returned (.int .i64 40) ∧ w = w' := by
  go_enter Try.func13, Try.ntmps13
  go_wp2_with fail
  go_ret
  exact ⟨rfl, rfl⟩

/-- Two bytes as a number, and four. -/
def rdV (zs : List Int) (k : Nat) : Int := zs.getD k 0 * 256 + zs.getD (k + 1) 0
def rdW (zs : List Int) (k : Nat) : Int := rdV zs k * 65536 + rdV zs (k + 2)
theorem rdV_bd {zs : List Int} (h : Bytes zs) (k : Nat) : 0 ≤ rdV zs k ∧ rdV zs k ≤ 65535 := by
  have h0 := h.getD k
  have h1 := h.getD (k + 1)
  unfold rdV; omega
theorem rdW_bd {zs : List Int} (h : Bytes zs) (k : Nat) : 0 ≤ rdW zs k ∧ rdW zs k ≤ 4294967295 := by
  have h0 := rdV_bd h k
  have h1 := rdV_bd h (k + 2)
  unfold rdW; omega

set_option maxHeartbeats 400000 in
theorem get16_any (b off n c x : Nat) (zs : List Int) (w : World) (hz : zs.length = n) (hB : Bs w (some ⟨b, off, none⟩) zs) (hx : x + 2 ≤ n) :
    Calls Try.prog 25 #[.slice (some ⟨b, off, none⟩) n c, .int .i64 x] w fun e w' => e = .returned (.int .u16 (rdV zs x)) ∧ Dr w w' := by
  unfold rdV
  have hln : n ≤ 140737488355328 := by rw [← hz]; exact hB.len
  have hx0 : (x : Int) < (n : Int) := by omega
  have hx1 : (x : Int) + 1 < (n : Int) := by omega
  have cc : ∀ i, i < n → w.cell? ⟨b, off + i, none⟩ = some (.int .u8 (zs.getD i 0)) := by
    intro i hi
    rcases hB.lies with h0 | ⟨b', off', e, hc⟩
    · omega
    · cases e; exact hc i (by omega)
  have c0 := cc x (by omega)
  have c1 := cc (x + 1) (by omega)
  have k0 := hB.bytes.getD x
  have k1 := hB.bytes.getD (x + 1)
  clear cc hB hz
  generalize zs.getD x 0 = u at *
  generalize zs.getD (x + 1) 0 = v at *
  obtain ⟨u0, u1⟩ := k0
  obtain ⟨v0, v1⟩ := k1
  have hor := or16 u v u0 u1 v0 v1
  go_enter Try.func25, Try.ntmps25
  go_wp2_with fail
  go_quiet (fail)
  go_wp2_with fail
  go_ret
  exact ⟨rfl, ⟨_, rfl⟩⟩

set_option maxHeartbeats 400000 in
theorem get32_any (b off n c x : Nat) (zs : List Int) (w : World) (hz : zs.length = n) (hB : Bs w (some ⟨b, off, none⟩) zs) (hx : x + 4 ≤ n) :
    Calls Try.prog 24 #[.slice (some ⟨b, off, none⟩) n c, .int .i64 x] w fun e w' => e = .returned (.int .u32 (rdW zs x)) ∧ Dr w w' := by
  unfold rdW
  have hln : n ≤ 140737488355328 := by rw [← hz]; exact hB.len
  have KG : Hid (∀ u : World, Dr w u → ∀ k, k + 2 ≤ n → Calls Try.prog 25 #[.slice (some ⟨b, off, none⟩) n c, .int .i64 k] u fun e u' => e = .returned (.int .u16 (rdV zs k)) ∧ Dr u u') := Hid.mk' (fun u h k hk => get16_any b off n c k zs u hz (h.bs hB) hk)
  have k0 := rdV_bd hB.bytes x
  have k1 := rdV_bd hB.bytes (x + 2)
  clear hB hz
  obtain ⟨U, HU⟩ : ∃ U, Hid (rdV zs x = U) := ⟨_, rfl⟩
  obtain ⟨V, HV⟩ : ∃ V, Hid (rdV zs (x + 2) = V) := ⟨_, rfl⟩
  rw [HU.out] at k0 ⊢
  rw [HV.out] at k1 ⊢
  obtain ⟨u0, u1⟩ := k0
  obtain ⟨v0, v1⟩ := k1
  have hor := or32 U V u0 u1 v0 v1
  go_enter Try.func24, Try.ntmps24
  go_wp2_with fail
  have key := KG.out w (Dr.refl w) x (by omega)
  rw [HU.out] at key
  refine key.mono ?_
  rintro e w2 ⟨rfl, d2⟩
  have D2 := Hid.mk' d2
  clear key d2
  go_wp2_with fail
  have key := KG.out w2 D2.out (x + 2) (by omega)
  rw [HV.out] at key
  refine key.mono ?_
  rintro e w3 ⟨rfl, d3⟩
  have D3 := Hid.mk' (D2.out.trans d3)
  clear key d3
  go_wp2_with fail
  go_ret
  exact ⟨rfl, D3.out⟩

set_option maxHeartbeats 400000 in
theorem put16_any (g m x : Nat) (v : Int) (Z : List Value) (t : TypeId) (w : World) (hg : w.heap[g]? = some (.cells Z.toArray t (0, 0))) (hl : Z.length = m) (hx : x + 2 ≤ m) (hm : m ≤ 1000000) (v0 : 0 ≤ v) (v1 : v ≤ 65535) :
    Calls Try.prog 22 #[.slice (some ⟨g, 0, none⟩) m m, .int .i64 x, .int .u16 v] w fun e w' => e = .returned (.tuple #[]) ∧ w'.heap[g]? = some (.cells ((Z.set x (.int .u8 (v / 256))).set (x + 1) (.int .u8 (v % 256))).toArray t (0, 0)) ∧ Kept (fun k => k = g) w w' := by
  have hx0 : (x : Int) < (m : Int) := by omega
  have hx1 : (x : Int) + 1 < (m : Int) := by omega
  obtain ⟨y0, c0⟩ : ∃ y, w.cell? ⟨g, x, none⟩ = some y := ⟨_, by rw [cell_of_row w _ x _ _ _ hg, List.getElem?_toArray, List.getElem?_eq_getElem (by omega)]⟩
  obtain ⟨y1, c1⟩ : ∃ y, w.cell? ⟨g, x + 1, none⟩ = some y := ⟨_, by rw [cell_of_row w _ (x + 1) _ _ _ hg, List.getElem?_toArray, List.getElem?_eq_getElem (by omega)]⟩
  have f0 : w.frozen? ⟨g, x, none⟩ = false := frozen_of_row w _ x _ _ hg
  have f1 : w.frozen? ⟨g, x + 1, none⟩ = false := frozen_of_row w _ (x + 1) _ _ hg
  have HG := Hid.mk' hg
  clear hg
  go_enter Try.func22, Try.ntmps22
  go_wp2_with fail
  have h1 : Hid (((w.setCell ⟨g, x, none⟩ (.int .u8 (v / 256))).setCell ⟨g, x + 1, none⟩ (.int .u8 (v % 256))).heap[g]? = some (.cells ((Z.set x (.int .u8 (v / 256))).set (x + 1) (.int .u8 (v % 256))).toArray t (0, 0))) := Hid.mk' (by
    rw [Go.heap_setCell_same _ _ (x + 1) _ _ _ (Go.heap_setCell_same _ _ x _ _ _ HG.out)]; simp)
  have h2 : Hid (Kept (fun k => k = g) w ((w.setCell ⟨g, x, none⟩ (.int .u8 (v / 256))).setCell ⟨g, x + 1, none⟩ (.int .u8 (v % 256)))) := Hid.mk' (((Kept.refl (fun k => k = g) w).setCell (p := ⟨g, x, none⟩) (fun _ => rfl) _).setCell (p := ⟨g, x + 1, none⟩) (fun _ => rfl) _)
  go_end0
  exact ⟨rfl, h1.out, h2.out⟩

set_option maxHeartbeats 400000 in
theorem put32_any (g m x : Nat) (v : Int) (Z : List Value) (t : TypeId) (w : World) (hg : w.heap[g]? = some (.cells Z.toArray t (0, 0))) (hl : Z.length = m) (hx : x + 4 ≤ m) (hm : m ≤ 1000000) (v0 : 0 ≤ v) (v1 : v ≤ 4294967295) :
    Calls Try.prog 21 #[.slice (some ⟨g, 0, none⟩) m m, .int .i64 x, .int .u32 v] w fun e w' => e = .returned (.tuple #[]) ∧ w'.heap[g]? = some (.cells ((((Z.set x (.int .u8 (v / 65536 / 256))).set (x + 1) (.int .u8 (v / 65536 % 256))).set (x + 2) (.int .u8 (v % 65536 / 256))).set (x + 2 + 1) (.int .u8 (v % 65536 % 256))).toArray t (0, 0)) ∧ Kept (fun k => k = g) w w' := by
  have HG := Hid.mk' hg
  clear hg
  go_enter Try.func21, Try.ntmps21
  go_wp2_with fail
  refine (put16_any g m x (v / 65536) Z t w HG.out hl (by omega) hm (by omega) (by omega)).mono ?_
  rintro e w2 ⟨rfl, hg2, hk2⟩
  have G2 := Hid.mk' hg2
  have K2 := Hid.mk' hk2
  clear hg2 hk2
  go_wp2_with fail
  refine (put16_any g m (x + 2) (v % 65536) _ t w2 G2.out (by rw [List.length_set, List.length_set]; exact hl) (by omega) hm (by omega) (by omega)).mono ?_
  rintro e w3 ⟨rfl, hg3, hk3⟩
  have G3 := Hid.mk' hg3
  have K3 := Hid.mk' (K2.out.trans hk3)
  clear hg3 hk3
  go_wp2_with fail
  go_end0
  exact ⟨rfl, G3.out, K3.out⟩
end Go.Proofs.Ytidlgbidffldoaa
