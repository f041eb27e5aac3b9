/- PeelWheres. -/
import Derived.Test.YthdgfhllieknlaaJo
namespace Go.Proofs.Ythdgfhllieknlaa
open Go.ChangeShapes Go.WideShapes Go.ChangeAt Go.RowKit
set_option maxRecDepth 10000

/-- A link header that came in; a head. -/
theorem lhd_open (W : World) (m : sh33.M) (o : sh33.ok W m) : LHd (sh33.cs m) := by
  obtain ⟨⟨d0, d1, d2, d3, d4, d5⟩, ⟨s0, s1, s2, s3, s4, s5⟩, t⟩ := m
  obtain ⟨⟨k0, k1, k2, k3, k4, k5⟩, ⟨l0, l1, l2, l3, l4, l5⟩, kt⟩ := o
  have six : ∀ (x0 x1 x2 x3 x4 x5 : Int), (Lit.int .u8 x0).wf = true → (Lit.int .u8 x1).wf = true → (Lit.int .u8 x2).wf = true → (Lit.int .u8 x3).wf = true → (Lit.int .u8 x4).wf = true → (Lit.int .u8 x5).wf = true → Bytes [x0, x1, x2, x3, x4, x5] := by
    intro x0 x1 x2 x3 x4 x5 e0 e1 e2 e3 e4 e5
    refine bytes_of_wf (fun z hz => ?_)
    simp only [List.mem_cons, List.not_mem_nil, or_false] at hz
    rcases hz with rfl | rfl | rfl | rfl | rfl | rfl <;> assumption
  exact ⟨[d0, d1, d2, d3, d4, d5], [s0, s1, s2, s3, s4, s5], t, rfl, rfl, rfl, six _ _ _ _ _ _ k0 k1 k2 k3 k4 k5, six _ _ _ _ _ _ l0 l1 l2 l3 l4 l5, (bounds_u16 kt).1, (bounds_u16 kt).2⟩

theorem hh_open (W : World) (m : sh48.M) (o : sh48.ok W m) : Hh (sh48.cs m) := by
  obtain ⟨k, a, b, c, d, e, f⟩ := m
  obtain ⟨ok, oa, ob, oc, od, oe, of⟩ := o
  exact ⟨k, sh33.cs a, sh35.cs b, sh38.cs c, sh42.cs d, sh44.cs e, sh46.cs f, rfl, (bounds_u8 ok).1, (bounds_u8 ok).2, lhd_open W a oa, K06.hd_open W b ob, K07.hd_open W c oc, K08.hd_open W d od, K09.hd_open W e oe, K10.hd_open W f of⟩

theorem hh_set {H : List Value} (h : Hh H) (k : Int) (h0 : 0 ≤ k) (h1 : k ≤ 255) : Hh (H.set 0 (.int .u8 k)) := by
  obtain ⟨_, a, b, c, d, e, f, rfl, p⟩ := h
  exact ⟨k, a, b, c, d, e, f, rfl, h0, h1, p.a, p.b, p.c, p.d, p.e, p.f⟩

/-- A struct is stored into the block that was laid for it just now, whose number is told. -/
theorem wpList_store_newAt {ops : Array Oper} {rest : List Oper} {op : Oper} {a : Act} {w : World} {Q : Exit → Act → World → Prop} (hgd : op.guard = none) (ty : TypeId) (x y : Operand) (ho : op.op = .store ty x y) (t : TypeId)
    (Z L : List Value) (g : Nat) (hg : w.heap.size = g) (hx : a.eval x = .pointer (some ⟨g, 0, none⟩)) (hy : a.eval y = .agg L.toArray) (hl : L.length = Z.length) (hi : (Try.prog.info? ty).map (·.size) = some L.length) (h1 : L.toArray.all (·.oneCell') = true)
    (h : wpList Try.prog ops Q rest (a.put op.dst undef) (w.alloc (.cells L.toArray t))) : wpList Try.prog ops Q (op :: rest) a (w.alloc (.cells Z.toArray t)) := by
  subst hg
  exact wpList_store_new hgd ty x y ho t Z L hx hy hl hi h1 h

set_option maxHeartbeats 2000000 in
theorem wheres_any (H : List Value) (a : Option Addr) (n c : Nat) (zs : List Int) (W : World) (hH : Hh H) (hz' : zs.length = n) (h0 : Bs W a zs) (hn0 : a = none → c = 0) (hc : n ≤ c) :
    Calls Try.prog 4 #[.slice a n c, .agg H.toArray] W fun e w' => e = .returned (.bool true) ∧ Below W.heap.size W w' := by
  have HB := Hid.mk' h0
  have hln := h0.len
  have HN0 := Hid.mk' hn0
  have HZ := Hid.mk' hz'
  have HHH := Hid.mk' hH
  rw [hz'] at hln
  have hh73 := Hid.mk' (hh_len hH)
  have hh1 := Hid.mk' (hh_one hH)
  obtain ⟨⟨a0, -, -⟩, -⟩ := hh_cells hH
  have A0 : H.toArray[0]? = some (.int .u8 (num H 0)) := by simpa using a0
  generalize num H 0 = kH at a0 A0
  clear h0 hn0 hz' hH
  have B1 : Hid (Below W.heap.size W (W.alloc (.cells H.toArray 48))) := Hid.mk' ((Below.refl _ _).alloc (Nat.le_refl _) _)
  have R1 : Hid ((W.alloc (.cells H.toArray 48)).heap[W.heap.size]? = some (.cells H.toArray 48 (0, 0))) := Hid.mk' (heap_alloc_new W _)
  go_enter Try.func4, Try.ntmps4
  go_wp2_with fail
  refine (copy_at a n c zs _ HZ.out (HB.out.below B1.out) HN0.out).mono ?_
  rintro e w1 ⟨v1, rfl, own1, b1⟩
  obtain ⟨a1, c1, rfl, S1, hc1, hn1⟩ := K05.own_bs own1 HZ.out HB.out.bytes (by rw [HZ.out]; omega)
  have HS1 := Hid.mk' S1
  have B2 : Hid (Below W.heap.size W w1) := Hid.mk' (B1.out.trans (b1.mono B1.out.size))
  have R2 : Hid (w1.heap[W.heap.size]? = some (.cells H.toArray 48 (0, 0))) := Hid.mk' ((b1.block _ (Array.getElem?_eq_some_iff.1 R1.out).1).trans R1.out)
  clear own1 b1 S1 hn1 B1 R1
  go_wp2_with fail
  go_loopg [6] 9 (fun f s6 wr => ∃ k : Nat, s6 = .int .u8 k ∧ k ≤ 9 ∧ 9 - k ≤ f ∧ Hid (Below w1.heap.size w1 wr))
  case atStart => exact ⟨0, rfl, by omega, by omega, Below.refl _ _⟩
  case round =>
    obtain ⟨k, rfl, hk, hf, HBL⟩ := hrel
    have B3 : Hid (Below W.heap.size W wr) := Hid.mk' (B2.out.trans (HBL.out.mono B2.out.size))
    by_cases hlt : k < 9
    · have HW1 := Hid.mk' (where_any k a1 n c1 zs wr (by omega) (by omega) HZ.out (HS1.out.below HBL.out) hc1)
      have HW2 : Hid (∀ u, Below W.heap.size W u → Calls Try.prog 15 #[.slice a n c, .int .u8 k] u fun e w' => e = .returned (whV (wh zs k)) ∧ Below u.heap.size u w') := Hid.mk' (fun u hu => rwhere_any k a n c zs u (by omega) (by omega) HZ.out (HB.out.below hu) HN0.out hc)
      generalize wh zs k = r at HW1 HW2
      obtain ⟨x, y, b, E⟩ := r
      simp only [whV] at HW1 HW2
      have hklt : (k : Int) < 9 := by omega
      go_wp2_with fail
      refine HW1.out.mono ?_
      rintro e w2 ⟨rfl, b2⟩
      have R3 : Hid ((w2.alloc (.cells #[.int .i64 x, .int .i64 y] 52)).heap[w2.heap.size]? = some (.cells [Value.int .i64 x, Value.int .i64 y].toArray 52 (0, 0))) := Hid.mk' (heap_alloc_new w2 _)
      have B4 : Hid (Below w1.heap.size w1 (w2.alloc (.cells #[.int .i64 x, .int .i64 y] 52))) := Hid.mk' ((HBL.out.trans (b2.mono HBL.out.size)).alloc (HBL.out.trans (b2.mono HBL.out.size)).size _)
      clear b2 HW1
      go_wp2_with fail
      refine (HW2.out _ (B2.out.trans (B4.out.mono B2.out.size))).mono ?_
      rintro e w3 ⟨rfl, b3⟩
      have B5 : Hid (Below w1.heap.size w1 (w3.alloc (.cells #[.int .i64 x, .int .i64 y] 52))) := Hid.mk' ((B4.out.trans (b3.mono B4.out.size)).alloc (B4.out.trans (b3.mono B4.out.size)).size _)
      have R5 : Hid ((w3.alloc (.cells #[.int .i64 x, .int .i64 y] 52)).heap[w2.heap.size]? = some (.cells [Value.int .i64 x, Value.int .i64 y].toArray 52 (0, 0))) := Hid.mk' (by
        have e1 := (b3.block _ (Array.getElem?_eq_some_iff.1 R3.out).1).trans R3.out
        rw [Below.heap_alloc w3 _ _ (Array.getElem?_eq_some_iff.1 e1).1]; exact e1)
      have R5' : Hid ((w3.alloc (.cells #[.int .i64 x, .int .i64 y] 52)).heap[w3.heap.size]? = some (.cells [Value.int .i64 x, Value.int .i64 y].toArray 52 (0, 0))) := Hid.mk' (heap_alloc_new w3 _)
      have R5h : Hid ((w3.alloc (.cells #[.int .i64 x, .int .i64 y] 52)).heap[W.heap.size]? = some (.cells H.toArray 48 (0, 0))) := Hid.mk' ((B5.out.block _ (Array.getElem?_eq_some_iff.1 R2.out).1).trans R2.out)
      have KH2 := Hid.mk' (hh_set HHH.out k (by omega) (by omega))
      have h273 := Hid.mk' (hh_len KH2.out)
      have R6 : Hid (((w3.alloc (.cells #[.int .i64 x, .int .i64 y] 52)).alloc (.cells (H.set 0 (.int .u8 k)).toArray 48)).heap[w3.heap.size + 1]? = some (.cells (H.set 0 (.int .u8 k)).toArray 48 (0, 0))) := Hid.mk' (by
        have := heap_alloc_new (w3.alloc (.cells #[.int .i64 x, .int .i64 y] 52)) (.cells (H.set 0 (.int .u8 k)).toArray 48)
        rwa [show (w3.alloc (.cells #[.int .i64 x, .int .i64 y] 52)).heap.size = w3.heap.size + 1 by simp] at this)
      have B6 : Hid (Below w1.heap.size w1 ((w3.alloc (.cells #[.int .i64 x, .int .i64 y] 52)).alloc (.cells (H.set 0 (.int .u8 k)).toArray 48))) := Hid.mk' (B5.out.alloc B5.out.size _)
      have HNX : Hid (∀ u, Calls Try.prog 16 #[.agg (H.set 0 (.int .u8 k)).toArray] u fun e w' => e = .returned (.tuple #[.int .u8 (nx (H.set 0 (.int .u8 k))), .bool (!(nx (H.set 0 (.int .u8 k)) == 0))]) ∧ Below u.heap.size u w') := Hid.mk' (fun u => next_any _ u KH2.out)
      have HRX : Hid (∀ u, Calls Try.prog 17 #[.agg (H.set 0 (.int .u8 k)).toArray] u fun e w' => e = .returned (.tuple #[.int .u8 (nx (H.set 0 (.int .u8 k))), .bool (!(nx (H.set 0 (.int .u8 k)) == 0))]) ∧ Below u.heap.size u w') := Hid.mk' (fun u => rnext_any _ u KH2.out)
      generalize nx (H.set 0 (.int .u8 k)) = v at HNX HRX
      generalize (!(v == 0)) = μ at HNX HRX
      clear b3 HW2 R3
      go_wp2_with (first
        | refine wpList_load_mid rfl 48 _ rfl (w3.heap.size + 1) 0 rfl (H.set 0 (.int .u8 k)) _ (range_block R6.out) Try.underlying48 rfl (by rw [h273.out]; exact info_hh) ?_
        | (go_at_call 16; refine (HNX.out _).mono ?_; rintro e w6 ⟨rfl, b6⟩; have R7 : Hid (w6.heap[w3.heap.size + 1]? = some (.cells (H.set 0 (.int .u8 k)).toArray 48 (0, 0))) := Hid.mk' ((b6.block _ (Array.getElem?_eq_some_iff.1 R6.out).1).trans R6.out); have B7 : Hid (Below w1.heap.size w1 w6) := Hid.mk' (B6.out.trans (b6.mono B6.out.size)); clear b6)
        | refine wpList_load_mid rfl 48 _ rfl (w3.heap.size + 1) 0 rfl (H.set 0 (.int .u8 k)) _ (range_block R7.out) Try.underlying48 rfl (by rw [h273.out]; exact info_hh) ?_
        | (go_at_call 17; refine (HRX.out w6).mono ?_; rintro e w8 ⟨rfl, b8⟩; have B8 : Hid (Below w1.heap.size w1 w8) := Hid.mk' (B7.out.trans (b8.mono B7.out.size)); clear b8)
        | refine wpList_load_mid rfl 52 _ rfl w2.heap.size 0 rfl [.int .i64 x, .int .i64 y] _ (range_block R5.out) Try.underlying52 rfl info_rg ?_
        | refine wpList_load_mid rfl 52 _ rfl w3.heap.size 0 rfl [.int .i64 x, .int .i64 y] _ (range_block R5'.out) Try.underlying52 rfl info_rg ?_
        | refine wpList_load_mid rfl 48 _ rfl W.heap.size 0 rfl H _ (range_block R5h.out) Try.underlying48 rfl (by rw [hh73.out]; exact info_hh) ?_
        | refine wpList_store_newAt rfl 48 _ _ rfl _ _ H (w3.heap.size + 1) (by simp) rfl rfl (by rw [hh73.out]; rfl) (by rw [hh73.out]; exact info_hh) hh1.out ?_)
      go_roundg (9 - (k + 1))
      case measure => omega
      case rel => exact ⟨k + 1, by go_num, by omega, by omega, B8⟩
    · have R4 : Hid (wr.heap[W.heap.size]? = some (.cells H.toArray 48 (0, 0))) := Hid.mk' ((HBL.out.block _ (Array.getElem?_eq_some_iff.1 R2.out).1).trans R2.out)
      have hk9 : ¬ (k : Int) < 9 := by omega
      have HNX : Hid (∀ u, Calls Try.prog 16 #[.agg H.toArray] u fun e w' => e = .returned (.tuple #[.int .u8 (nx H), .bool (!(nx H == 0))]) ∧ Below u.heap.size u w') := Hid.mk' (fun u => next_any _ u HHH.out)
      have HRX : Hid (∀ u, Calls Try.prog 17 #[.agg H.toArray] u fun e w' => e = .returned (.tuple #[.int .u8 (nx H), .bool (!(nx H == 0))]) ∧ Below u.heap.size u w') := Hid.mk' (fun u => rnext_any _ u HHH.out)
      generalize nx H = v at HNX HRX
      generalize (!(v == 0)) = μ at HNX HRX
      have EQZ : Hid (∀ (u : World) (x y : Option Addr) (cx cy : Nat), Bs u x zs → Bs u y zs → Calls Try.prog 12 #[.slice x n cx, .slice y n cy] u fun e w' => e = .returned (.bool true) ∧ Dr u w') := Hid.mk' (fun u x y cx cy h1 h2 => by have := eq_at x y n n cx cy zs zs u HZ.out HZ.out h1 h2; rwa [show decide (zs = zs) = true by simp] at this)
      go_wp2_with (first
        | refine wpList_load_mid rfl 48 _ rfl W.heap.size 0 rfl H _ (range_block R4.out) Try.underlying48 rfl (by rw [hh73.out]; exact info_hh) ?_
        | (go_at_call 16; refine (HNX.out _).mono ?_; rintro e w6 ⟨rfl, b6⟩; have B7 : Hid (Below w1.heap.size w1 w6) := Hid.mk' (HBL.out.trans (b6.mono HBL.out.size)); have R7 : Hid (w6.heap[W.heap.size]? = some (.cells H.toArray 48 (0, 0))) := Hid.mk' ((B7.out.block _ (Array.getElem?_eq_some_iff.1 R2.out).1).trans R2.out); clear b6)
        | refine wpList_load_mid rfl 48 _ rfl W.heap.size 0 rfl H _ (range_block R7.out) Try.underlying48 rfl (by rw [hh73.out]; exact info_hh) ?_
        | (go_at_call 17; refine (HRX.out w6).mono ?_; rintro e w8 ⟨rfl, b8⟩; have B8 : Hid (Below w1.heap.size w1 w8) := Hid.mk' (B7.out.trans (b8.mono B7.out.size)); clear b8)
        | (go_at_call 12; refine (EQZ.out w8 a1 a c1 c (HS1.out.below B8.out) (HB.out.below (B2.out.trans (B8.out.mono B2.out.size)))).mono ?_; rintro e w9 ⟨rfl, d9⟩; have B9 : Hid (Below w1.heap.size w1 w9) := Hid.mk' (B8.out.trans ((d9.below _).mono B8.out.size)); clear d9)
        | (go_at_call 13; refine (awake_any w9).mono ?_; rintro e w10 ⟨rfl, b10⟩; have B10 : Hid (Below w1.heap.size w1 w10) := Hid.mk' (B9.out.trans (b10.mono B9.out.size)); clear b10))
      go_ret
      exact ⟨rfl, B2.out.trans (B10.out.mono B2.out.size)⟩

theorem walkPeelWheres (a : Option Addr) (c : Nat) (zs : List Int) (m1 : sh48.M) (W : World) (h0 : Bs W a zs) (n0 : (a = none → c = 0) ∧ zs.length ≤ c) (o1 : sh48.ok W m1) :
    Calls Try.prog 4 #[.slice a zs.length c, .agg (sh48.cs m1).toArray] W fun e w' => e = .returned (.bool true) ∧ Below W.heap.size W w' :=
  wheres_any (sh48.cs m1) a zs.length c zs W (hh_open W m1 o1) rfl h0 n0.1 n0.2
end Go.Proofs.Ythdgfhllieknlaa
