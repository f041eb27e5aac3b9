/- net4: a header's cells and bytes; the contracts of net4.Check, Size, get16, put16, fieldOf. -/
import Derived.Test.YtmeodhdmnoglcaaGa
import Derived.Test.YtmeodhdmnoglcaaSf
namespace Go.Proofs.Ytmeodhdmnoglcaa
open Go.ChangeShapes Go.WideShapes Go.ChangeAt Go.RowKit

/-- A header's cells: Tos, Ttl, Proto, Id, Src, Dst. -/
def n4C (o l p i : Int) (s d : List Int) : List Value := [.int .u8 o, .int .u8 l, .int .u8 p, .int .u16 i] ++ (s.map (Value.int .u8) ++ d.map (Value.int .u8))
/-- A header's bytes ahead of a payload of m bytes, its field being f. -/
def n4B (o l p i : Int) (s d : List Int) (m f : Int) : List Int := [69, o, (20 + m) / 256, (20 + m) % 256, i / 256, i % 256, 0, 0, l, p, f / 256, f % 256] ++ (s ++ d)
/-- A header's field. -/
def n4F (o l p i : Int) (s d : List Int) (m : Int) : Int := 65535 - su (n4B o l p i s d m 0) 20

/-- A header's numbers, as their types have them. -/
structure N4 (o l p i : Int) (s d : List Int) : Prop where
  o0 : 0 ≤ o
  o1 : o ≤ 255
  l0 : 0 ≤ l
  l1 : l ≤ 255
  p0 : 0 ≤ p
  p1 : p ≤ 255
  i0 : 0 ≤ i
  i1 : i ≤ 65535
  sl : s.length = 4
  dl : d.length = 4
  sb : Bytes s
  db : Bytes d

theorem info_hd : (Try.prog.info? 25).map (·.size) = some 12 := by kernel_rfl

theorem n4C_length {o l p i : Int} {s d : List Int} (h : N4 o l p i s d) : (n4C o l p i s d).length = 12 := by
  unfold n4C; simp [h.sl, h.dl]
theorem n4C_one (o l p i : Int) (s d : List Int) : (n4C o l p i s d).toArray.all (·.oneCell') = true := by
  refine all_oneCell_toArray (fun v hv => ?_)
  unfold n4C at hv
  simp only [List.mem_append, List.mem_map, List.mem_cons, List.not_mem_nil, or_false] at hv
  rcases hv with (rfl | rfl | rfl | rfl) | ⟨z, _, rfl⟩ | ⟨z, _, rfl⟩ <;> rfl

theorem four {α : Type} (L : List α) (h : L.length = 4) : ∃ a b c d, L = [a, b, c, d] := by
  match L, h with
  | [a, b, c, d], _ => exact ⟨a, b, c, d, rfl⟩

theorem or16 (V b : Int) (h0 : 0 ≤ V) (h1 : V ≤ 255) (b0 : 0 ≤ b) (b1 : b ≤ 255) : bits .or .u16 (V * 256) b = V * 256 + b := by
  rw [u16_or _ _ (by omega) (by omega) (by omega) (by omega)]
  have h := Nat.two_pow_add_eq_or_of_lt (i := 8) (b := b.toNat) (by omega) V.toNat
  have e2 : (V * 256).toNat = 2 ^ 8 * V.toNat := by omega
  rw [e2, ← h]
  omega

theorem lcheck_any (L : List Value) (w : World) : Calls Try.prog 11 #[.agg L.toArray] w fun e w' => e = .returned (.int .i64 0) ∧ Below w.heap.size w w' := by
  go_enter Try.func11, Try.ntmps11
  go_wp2_with fail
  go_ret
  exact ⟨rfl, (Below.refl _ _).alloc (Nat.le_refl _) _⟩

theorem lsize_any (w : World) : Calls Try.prog 13 #[] w fun e w' => e = .returned (.int .i64 20) ∧ w = w' := by
  go_enter Try.func13, Try.ntmps13
  go_wp2_with fail
  go_ret
  exact ⟨rfl, rfl⟩

set_option maxHeartbeats 400000 in
theorem get16_any (b off n c x : Nat) (zs : List Int) (w : World) (hz : zs.length = n) (hB : Bs w (some ⟨b, off, none⟩) zs) (hx : x + 2 ≤ n) :
    Calls Try.prog 26 #[.slice (some ⟨b, off, none⟩) n c, .int .i64 x] w fun e w' => e = .returned (.int .u16 (zs.getD x 0 * 256 + zs.getD (x + 1) 0)) ∧ Dr w w' := by
  have hln : n ≤ 140737488355328 := by rw [← hz]; exact hB.len
  have hx0 : (x : Int) < (n : Int) := by omega
  have hx1 : (x : Int) + 1 < (n : Int) := by omega
  have cc : ∀ i, i < n → w.cell? ⟨b, off + i, none⟩ = some (.int .u8 (zs.getD i 0)) := by
    intro i hi
    rcases hB.lies with h0 | ⟨b', off', e, hc⟩
    · omega
    · cases e; exact hc i (by omega)
  have c0 := cc x (by omega)
  have c1 := cc (x + 1) (by omega)
  have k0 := hB.bytes.getD x
  have k1 := hB.bytes.getD (x + 1)
  clear cc hB hz
  generalize zs.getD x 0 = u at *
  generalize zs.getD (x + 1) 0 = v at *
  obtain ⟨u0, u1⟩ := k0
  obtain ⟨v0, v1⟩ := k1
  have hor := or16 u v u0 u1 v0 v1
  go_enter Try.func26, Try.ntmps26
  go_wp2_with fail
  go_quiet (fail)
  go_wp2_with fail
  go_ret
  exact ⟨rfl, ⟨_, rfl⟩⟩

set_option maxHeartbeats 400000 in
theorem put16_any (g m x : Nat) (v : Int) (Z : List Value) (t : TypeId) (w : World) (hg : w.heap[g]? = some (.cells Z.toArray t (0, 0))) (hl : Z.length = m) (hx : x + 2 ≤ m) (hm : m ≤ 1000000) (v0 : 0 ≤ v) (v1 : v ≤ 65535) :
    Calls Try.prog 22 #[.slice (some ⟨g, 0, none⟩) m m, .int .i64 x, .int .u16 v] w fun e w' => e = .returned (.tuple #[]) ∧ w'.heap[g]? = some (.cells ((Z.set x (.int .u8 (v / 256))).set (x + 1) (.int .u8 (v % 256))).toArray t (0, 0)) ∧ Kept (fun k => k = g) w w' := by
  have hx0 : (x : Int) < (m : Int) := by omega
  have hx1 : (x : Int) + 1 < (m : Int) := by omega
  obtain ⟨y0, c0⟩ : ∃ y, w.cell? ⟨g, x, none⟩ = some y := ⟨_, by rw [cell_of_row w _ x _ _ _ hg, List.getElem?_toArray, List.getElem?_eq_getElem (by omega)]⟩
  obtain ⟨y1, c1⟩ : ∃ y, w.cell? ⟨g, x + 1, none⟩ = some y := ⟨_, by rw [cell_of_row w _ (x + 1) _ _ _ hg, List.getElem?_toArray, List.getElem?_eq_getElem (by omega)]⟩
  have f0 : w.frozen? ⟨g, x, none⟩ = false := frozen_of_row w _ x _ _ hg
  have f1 : w.frozen? ⟨g, x + 1, none⟩ = false := frozen_of_row w _ (x + 1) _ _ hg
  have HG := Hid.mk' hg
  clear hg
  go_enter Try.func22, Try.ntmps22
  go_wp2_with fail
  have h1 : Hid (((w.setCell ⟨g, x, none⟩ (.int .u8 (v / 256))).setCell ⟨g, x + 1, none⟩ (.int .u8 (v % 256))).heap[g]? = some (.cells ((Z.set x (.int .u8 (v / 256))).set (x + 1) (.int .u8 (v % 256))).toArray t (0, 0))) := Hid.mk' (by
    rw [Go.heap_setCell_same _ _ (x + 1) _ _ _ (Go.heap_setCell_same _ _ x _ _ _ HG.out)]; simp)
  have h2 : Hid (Kept (fun k => k = g) w ((w.setCell ⟨g, x, none⟩ (.int .u8 (v / 256))).setCell ⟨g, x + 1, none⟩ (.int .u8 (v % 256)))) := Hid.mk' (((Kept.refl (fun k => k = g) w).setCell (p := ⟨g, x, none⟩) (fun _ => rfl) _).setCell (p := ⟨g, x + 1, none⟩) (fun _ => rfl) _)
  go_end0
  exact ⟨rfl, h1.out, h2.out⟩

/-- The first twenty bytes, the field's two being 0. -/
def zf (zs : List Int) : List Int := ((zs.take 20).set 10 0).set 11 0
theorem zf_length {zs : List Int} (h : 20 ≤ zs.length) : (zf zs).length = 20 := by unfold zf; simp; omega
theorem zf_bytes {zs : List Int} (h : Bytes zs) : Bytes (zf zs) :=
  bytes_set (bytes_set (fun z hz => h z (List.mem_of_mem_take hz)) 10 0 (by omega) (by omega)) 11 0 (by omega) (by omega)

/-- copy of the beginning of bytes over the whole of a block. -/
theorem run_copy_pre (w : World) (ty : TypeId) (g k n dc sc : Nat) (a : Option Addr) (zs : List Int) (L : List Value) (t : TypeId) (hg : w.heap[g]? = some (.cells L.toArray t (0, 0))) (hB : Bs w a zs) (hn : zs.length = n) (hk : L.length = k) (hkn : k ≤ n) :
    (Builtin.copy_ #[26, 26] ty #[.slice (some ⟨g, 0, none⟩) k dc, .slice a n sc]).run Try.prog w = .ok (goInt k) (w.setCells g 0 ((zs.take k).map (Value.int .u8))) := by
  obtain ⟨i0, hi, hz0, hz1, hz2⟩ := info_parts info_u8
  have hs : (Try.prog.info? 5).map (·.size) = some 1 := by rw [hi]; simp [hz1]
  subst hn
  by_cases h0 : zs.length = 0
  · obtain rfl := List.eq_nil_of_length_eq_zero h0
    obtain rfl : k = 0 := by simpa using hkn
    exact run_copy_none (P := Try.prog) w 26 26 ty 5 _ _ 0 dc 0 sc Try.underlying26 hs rfl
  · rcases hB.lies with h | ⟨b, off, rfl, hc⟩
    · exact absurd h h0
    · have e : (zs.take k).length = k := by rw [List.length_take]; omega
      have := run_copy_cells (P := Try.prog) w 26 26 ty 5 g 0 k dc ⟨b, off, none⟩ zs.length sc ((zs.take k).map (Value.int .u8)) Try.underlying26 hs (by rw [List.length_map, e]; exact (Nat.min_eq_right hkn).symm)
        (fun j v hj => by
          have hlt : j < k := by have := (List.getElem?_eq_some_iff.1 hj).1; simp at this; omega
          have hlt2 : j < zs.length := by omega
          rw [addr_add, hc j hlt2]
          rw [List.getElem?_map, List.getElem?_take_of_lt hlt] at hj
          simp [hlt2] at hj
          simp [hlt2, hj])
        (fun j hj => by
          rw [List.length_map, e] at hj
          rw [Nat.zero_add, cell_of_row w g j _ _ _ hg, Array.getElem?_eq_getElem (by simp; omega)]; rfl)
        (fun j _ => frozen_of_row w g _ _ _ hg) (fun v hv => by rw [List.mem_map] at hv; obtain ⟨z, _, rfl⟩ := hv; rfl)
      rw [List.length_map, e] at this
      exact this

/-- .. as an operation of a plain region. -/
theorem wpList_copy_pre {ops : Array Oper} {rest : List Oper} {op : Oper} {a : Act} {w : World} {Q : Exit → Act → World → Prop} (hgd : op.guard = none) (d s : Operand)
    (ho : op.op = .call { callee := .builtin .copy, args := #[d, s], argTypes := #[26, 26] })
    (g k n dc sc : Nat) (xa : Option Addr) (hd : a.eval d = .slice (some ⟨g, 0, none⟩) k dc) (hs : a.eval s = .slice xa n sc) (zs : List Int) (L : List Value) (t : TypeId) (hg : w.heap[g]? = some (.cells L.toArray t (0, 0))) (hB : Bs w xa zs) (hn : zs.length = n) (hk : L.length = k) (hkn : k ≤ n)
    (h : ∀ w', w'.heap[g]? = some (.cells ((zs.take k).map (Value.int .u8)).toArray t (0, 0)) → Kept (fun j => j = g) w w' → wpList Try.prog ops Q rest (a.put op.dst (goInt k)) w') : wpList Try.prog ops Q (op :: rest) a w := by
  refine wpList_plain hgd fun K hK => ?_
  have hrun := run_copy_pre w op.type g k n dc sc xa zs L t hg hB hn hk hkn
  have hw := heap_whole (M := (zs.take k).map (Value.int .u8)) hg (by rw [List.length_map, List.length_take, hn, hk]; omega)
  generalize (zs.take k).map (Value.int .u8) = M at hrun hw h
  unfold Oper.wp
  simp [execOp, ho, resolve, invoke, builtin, hd, hs, hrun, Result.andThen]
  exact hK _ _ (h _ hw ((Kept.refl (fun k => k = g) w).setCells g 0 _ (fun _ => rfl)))

set_option maxHeartbeats 400000 in
theorem fieldOf_any (a : Option Addr) (n c : Nat) (zs : List Int) (w : World) (hz : zs.length = n) (hB : Bs w a zs) (hn : 20 ≤ n) :
    Calls Try.prog 23 #[.slice a n c] w fun e w' => e = .returned (.int .u16 (65535 - su (zf zs) 20)) ∧ Below w.heap.size w w' := by
  have HB := Hid.mk' hB
  have HN := Hid.mk' hz
  have hln : n ≤ 140737488355328 := by rw [← hz]; exact hB.len
  clear hB hz
  go_enter Try.func23, Try.ntmps23
  go_wp2_with (first | (refine wpList_copy_pre rfl _ _ rfl w.heap.size 20 n 20 c a rfl rfl zs ((List.replicate 20 (0 : Int)).map (Value.int .u8)) 52 (heap_alloc_new w _) (HB.out.below ((Below.refl _ _).alloc (Nat.le_refl _) _)) HN.out (by simp) hn ?_; intro w2 hg2 hk2; have X2 := Hid.mk' hg2; have K2 := Hid.mk' hk2; clear hg2 hk2))
  have hl20 : Hid ((zs.take 20).length = 20) := Hid.mk' (by rw [List.length_take, HN.out]; omega)
  have B2 : Hid (Below w.heap.size w w2) := Hid.mk' (by
    have b1 : Below w.heap.size w (w.alloc (.cells ((List.replicate 20 (0 : Int)).map (Value.int .u8)).toArray 52)) := (Below.refl _ _).alloc (Nat.le_refl _) _
    exact b1.trans (K2.out.below b1.size (fun k hk => by omega)))
  clear K2
  refine (put16_any w.heap.size 20 10 0 ((zs.take 20).map (Value.int .u8)) 52 w2 X2.out (by rw [List.length_map]; exact hl20.out) (by omega) (by omega) (by omega) (by omega)).mono ?_
  rintro e w3 ⟨rfl, hg3, hk3⟩
  have B3 : Hid (Below w.heap.size w w3) := B2.out.trans (hk3.below B2.out.size (fun k hk => by omega))
  have S3 : Hid (Bs w3 (some ⟨w.heap.size, 0, none⟩) (zf zs)) := Hid.mk' (by
    refine bs_block (A := []) (D := []) (t := 52) ?_ 0 rfl (zf_bytes HB.out.bytes) (by rw [zf_length (by rw [HN.out]; exact hn)]; omega)
    rw [hg3]
    simp [zf])
  have HZL : Hid ((zf zs).length = 20) := Hid.mk' (zf_length (by rw [HN.out]; exact hn))
  clear hg3 hk3 X2 B2
  go_wp2_with fail
  have key := field_any (some ⟨w.heap.size, 0, none⟩) 20 (zf zs) w3 S3.out
  rw [HZL.out] at key
  refine key.mono ?_
  rintro e w4 ⟨rfl, d4⟩
  have B4 : Hid (Below w.heap.size w w4) := B3.out.trans (d4.below _)
  clear key d4
  go_wp2_with fail
  go_ret
  exact ⟨rfl, B4.out⟩
end Go.Proofs.Ytmeodhdmnoglcaa
