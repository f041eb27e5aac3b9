/- The walk of the statement SharePlays. -/
import Derived.Test.YtbinedhgjmfceaaHu
import Derived.Test.YtbinedhgjmfceaaHw
import Derived.Test.YtbinedhgjmfceaaHx
namespace Go.Proofs.Ytbinedhgjmfceaa
open Go.ChangeShapes Go.WideShapes Go.ChangeAt Go.RowKit

theorem bs_of_sl4 {W : World} {a : Option Addr} {c : Nat} {zs : List Int} (h : SlOk sh5 W a c zs) (hl : zs.length ≤ 140737488355328) : Bs W a zs := by
  obtain ⟨_, h2, h3⟩ := h
  refine ⟨hl, fun z hz => bounds_u8 (h3 z hz), ?_⟩
  rcases h2 with h0 | ⟨b, off, rfl, hc⟩
  · exact .inl h0
  · refine .inr ⟨b, off, rfl, fun i hi => ?_⟩
    have hx : zs[i]? = some zs[i] := List.getElem?_eq_getElem hi
    have k := hc i zs[i] hx 0 (.int .u8 zs[i]) rfl
    have e : off + i * sh5.n + 0 = off + i := by show off + i * 1 + 0 = off + i; omega
    rw [e] at k
    rw [k]
    simp [hi]

theorem one_any (W w : World) (xb N M : Nat) (kd wh x sz n v : Int) (ba : Option Addr) (bl bc : Nat) (ys : List Int) (h : Pls W w xb N M) (hN1 : 1 ≤ N) (hN : N ≤ 12) (hkd : -9223372036854775808 ≤ kd ∧ kd ≤ 9223372036854775807) (hwh : -9223372036854775808 ≤ wh ∧ wh ≤ 9223372036854775807) (hx : -9223372036854775808 ≤ x ∧ x ≤ 9223372036854775807) (v0 : 0 ≤ v) (v1 : v ≤ 18446744073709551615) (hy : ys.length = bl) (hB : Bs W ba ys) (hb : ba = none → bc = 0) (hbl : bl ≤ 140737488351232) :
    Calls Try.prog 8 #[.pointer (some ⟨xb, 0, none⟩), .agg #[.int .i64 kd, .int .i64 wh, .int .i64 x, .int .i64 sz, .int .i64 n, .int .u64 v, .slice ba bl bc]] w fun e w' => e = .returned (.bool true) ∧ One W w' xb N M := by
  obtain ⟨r, hr, hbr⟩ := bring_fix kd 8 (by omega) (by omega) hkd.1 hkd.2
  match r, hr, hbr with
  | 0, _, hbr => exact one_clone W w xb N M kd wh x sz n v ba bl bc h hN1 hN hwh hbr
  | 1, _, hbr => exact one_free W w xb N M kd wh x sz n v ba bl bc h hN1 hN hwh hbr
  | 2, _, hbr => exact one_load W w xb N M kd wh x sz n v ba bl bc h hN1 hN hwh hx hbr
  | 3, _, hbr => exact one_store W w xb N M kd wh x sz n v ba bl bc h hN1 hN hwh hx v0 v1 hbr
  | 4, _, hbr => exact one_skip W w xb N M kd wh x sz n v ba bl bc h hN1 hN hwh 4 (.inl rfl) hbr
  | 5, _, hbr => exact one_skip W w xb N M kd wh x sz n v ba bl bc h hN1 hN hwh 5 (.inr (.inl rfl)) hbr
  | 6, _, hbr => exact one_skip W w xb N M kd wh x sz n v ba bl bc h hN1 hN hwh 6 (.inr (.inr rfl)) hbr
  | 7, _, hbr => exact one_fresh W w xb N M kd wh x sz n v ba bl bc h hN1 hN hwh ys hy hB hb hbl hbr

theorem two_any (W w : World) (xb N M : Nat) (kd wh x sz n v : Int) (ba : Option Addr) (bl bc : Nat) (h : Pls W w xb N M) (hN1 : 1 ≤ N) (hN : N ≤ 12) (hM : M ≤ 1000) (hkd : -9223372036854775808 ≤ kd ∧ kd ≤ 9223372036854775807) (hwh : -9223372036854775808 ≤ wh ∧ wh ≤ 9223372036854775807) :
    Calls Try.prog 9 #[.pointer (some ⟨xb, 0, none⟩), .agg #[.int .i64 kd, .int .i64 wh, .int .i64 x, .int .i64 sz, .int .i64 n, .int .u64 v, .slice ba bl bc]] w fun e w' => e = .returned (.bool true) ∧ Pls W w' xb N (M + 1) := by
  obtain ⟨r, hr, hbr⟩ := bring_fix kd 8 (by omega) (by omega) hkd.1 hkd.2
  by_cases h4 : r < 4 ∨ 6 < r
  · exact two_skip W w xb N M r kd wh x sz n v ba bl bc h h4 hr hbr
  · have h3 : r = 4 ∨ r = 5 ∨ r = 6 := by omega
    rcases h3 with rfl | rfl | rfl
    · exact two_head W w xb N M kd wh x sz n v ba bl bc h hN1 hN hM hwh hbr
    · exact two_tail W w xb N M kd wh x sz n v ba bl bc h hN1 hN hM hwh hbr
    · exact two_data W w xb N M kd wh x sz n v ba bl bc h hN1 hN hM hwh hbr

theorem pls_start (W : World) : Pls W (W.alloc (.cells #[.slice none 0 0, .slice none 0 0] 28)) W.heap.size 0 0 := by
  have b : Below W.heap.size W (W.alloc (.cells #[.slice none 0 0, .slice none 0 0] 28)) := (Below.refl _ _).alloc (Nat.le_refl _) _
  have h1 := (Heap.start W pgS).push (Below.refl _ _) (shT dcS (fun _ => False) [] [] ⟨[], []⟩) (Shs.none_new dcS W) (fun k hk => hk.elim)
  have h2 := h1.push b (cellsT W.heap.size #[.slice none 0 0, .slice none 0 0] 28) (Go.heap_alloc_new W _) (fun k hk => by have hk : k = W.heap.size := hk; omega)
  have h3 := h2.push (Below.refl _ _) (rowT W.heap.size 36 1 (.slice none 0 0) 0 []) (World.ownsRow_nil _ _ _ _) (fun k hk => by simp [rowT, Value.ownBlock] at hk)
  have h4 := h3.push (Below.refl _ _) (rowT W.heap.size 60 1 (.slice none 0 0) 0 []) (World.ownsRow_nil _ _ _ _) (fun k hk => by simp [rowT, Value.ownBlock] at hk)
  exact ⟨_, [], [], _, [], [], ⟨[], []⟩, _, _, h4, rfl, rfl, fun j G e => by simp at e⟩

theorem Pls.cell {W w : World} {xb N M : Nat} (h : Pls W w xb N M) : ∃ al cal, w.cell? ⟨xb, 0, none⟩ = some (.slice al N cal) := by
  obtain ⟨F, sl, pl, F', ml, ql, σ, lv, mv, h1, -⟩ := h.is
  obtain ⟨al, cal, hlv⟩ := own_slice (show w.ownsRow W.heap.size 36 1 lv N (sl.map ptr) from h1.get (i := 3) rfl)
  subst hlv
  exact ⟨al, cal, (both_at h1 2 rfl).1⟩

set_option maxHeartbeats 4000000 in
set_option maxRecDepth 100000 in
theorem plays4 (a0 : Option Addr) (n c0 : Nat) (zs : List Int) (a1 : Option Addr) (ln c1 : Nat) (xs : List Do4) (W : World) (hn : zs.length = n) (hln : xs.length = ln) (h0 : Bs W a0 zs) (n0 : a0 = none → c0 = 0) (o1 : SlOk sh33 W a1 c1 xs) (l1 : ln ≤ 140737488351232) (hbig : n ≤ 140737488351232) (hr : ∀ x ∈ xs, x.2.2.2.2.2.2.2.2.length ≤ 140737488351232) :
    Calls Try.prog 3 #[.slice a0 n c0, .slice a1 ln c1] W fun e w' => e = .returned (.bool true) ∧ Below W.heap.size W w' := by
  have HB := Hid.mk' h0
  have HA0 := Hid.mk' n0
  have HO := Hid.mk' o1
  have HN := Hid.mk' hn
  have HLN := Hid.mk' hln
  have HR := Hid.mk' hr
  have HS := Hid.mk' (pls_start W)
  clear h0 n0 o1 hn hln hr
  go_enter Try.func3, Try.ntmps3
  go_wp2_with fail
  refine (fresh_any W _ W.heap.size 0 0 a0 n c0 zs HS.out (by omega) HN.out HB.out HA0.out hbig).mono ?_
  rintro e w2 ⟨rfl, N0, -, hN0, hP⟩
  have HP := Hid.mk' hP
  clear hP HS
  go_wp2_with fail
  go_loopg [6] 100 (fun f s6 wr => ∃ (i N : Nat), s6 = .int .i64 i ∧ i ≤ ln ∧ i ≤ 100 ∧ 100 - i ≤ f ∧ N ≤ 12 ∧ Hid (Pls W wr W.heap.size N i))
  case atStart => exact ⟨0, N0, rfl, by omega, by omega, by omega, hN0, HP⟩
  case round =>
    clear HP
    obtain ⟨i, N, rfl, hi1, hi2, hf, hN, hP⟩ := hrel
    obtain ⟨al, cal, hx0⟩ := hP.out.cell
    by_cases hin : i < ln ∧ i < 100 ∧ 1 ≤ N
    · obtain ⟨hin1, hin2, hin3⟩ := hin
      have hsp : (i : Int) < (ln : Int) := by omega
      have hsp2 : (i : Int) < 100 := by omega
      have hsp3 : (0 : Int) < (N : Int) := by omega
      obtain ⟨b, off, kd, wh, x, sz, nn, v, ba, bc, yy, hget, ha, hbl, hcells, hbd, hyy⟩ := do4_cells HO.out i (by rw [HLN.out]; exact hin1)
      subst ha
      have hyl : yy.length ≤ 140737488351232 := HR.out _ (List.mem_of_getElem? hget)
      have hyb := bs_of_sl4 hyy (by omega)
      have hyn := hyy.1.1
      obtain ⟨hkd, hwh, hx, hnn, hv⟩ := hbd
      have HC := Hid.mk' hcells
      obtain ⟨q0, q1, q2, q3, q4, q5, q6⟩ := hcells
      have d0 := (hP.out.old.cell (p := ⟨b, off + i * 7, none⟩) hbl).trans q0
      have d1 := (hP.out.old.cell (p := ⟨b, off + i * 7 + 1, none⟩) hbl).trans q1
      have d2 := (hP.out.old.cell (p := ⟨b, off + i * 7 + 2, none⟩) hbl).trans q2
      have d3 := (hP.out.old.cell (p := ⟨b, off + i * 7 + 3, none⟩) hbl).trans q3
      have d4 := (hP.out.old.cell (p := ⟨b, off + i * 7 + 4, none⟩) hbl).trans q4
      have d5 := (hP.out.old.cell (p := ⟨b, off + i * 7 + 5, none⟩) hbl).trans q5
      have d6 := (hP.out.old.cell (p := ⟨b, off + i * 7 + 6, none⟩) hbl).trans q6
      have key := one_any W wr W.heap.size N i kd wh x sz nn v ba yy.length bc yy hP.out hin3 hN hkd hwh hx hv.1 hv.2 rfl hyb hyn hyl
      clear q0 q1 q2 q3 q4 q5 q6 hget hyy hyb hyn hP
      generalize yy.length = yl at *
      go_wp2_with fail
      refine key.mono ?_
      rintro e w5 ⟨rfl, N5, hN5, hN5', hP5⟩
      have P5 := Hid.mk' hP5
      clear key hP5 d0 d1 d2 d3 d4 d5 d6 hx0
      obtain ⟨q0, q1, q2, q3, q4, q5, q6⟩ := HC.out
      have d0 := (P5.out.old.cell (p := ⟨b, off + i * 7, none⟩) hbl).trans q0
      have d1 := (P5.out.old.cell (p := ⟨b, off + i * 7 + 1, none⟩) hbl).trans q1
      have d2 := (P5.out.old.cell (p := ⟨b, off + i * 7 + 2, none⟩) hbl).trans q2
      have d3 := (P5.out.old.cell (p := ⟨b, off + i * 7 + 3, none⟩) hbl).trans q3
      have d4 := (P5.out.old.cell (p := ⟨b, off + i * 7 + 4, none⟩) hbl).trans q4
      have d5 := (P5.out.old.cell (p := ⟨b, off + i * 7 + 5, none⟩) hbl).trans q5
      have d6 := (P5.out.old.cell (p := ⟨b, off + i * 7 + 6, none⟩) hbl).trans q6
      clear q0 q1 q2 q3 q4 q5 q6
      go_wp2_with fail
      refine (two_any W w5 W.heap.size N5 i kd wh x sz nn v ba yl bc P5.out (by omega) hN5' (by omega) hkd hwh).mono ?_
      rintro e w6 ⟨rfl, hP6⟩
      have P6 := Hid.mk' hP6
      clear hP6 P5 d0 d1 d2 d3 d4 d5 d6
      go_wp2_with fail
      refine (shows4 W w6 W.heap.size N5 (i + 1) P6.out (by omega) hN5').mono ?_
      rintro e w7 ⟨rfl, hP7⟩
      have P7 := Hid.mk' hP7
      clear hP7 P6
      go_wp2_with fail
      go_roundg (100 - (i + 1))
      case measure => omega
      case rel => exact ⟨i + 1, N5, by go_num, by omega, by omega, by omega, hN5', P7⟩
    · by_cases h1 : i < ln
      · have h1' : (i : Int) < (ln : Int) := by omega
        by_cases h2 : i < 100
        · have h2' : (i : Int) < 100 := by omega
          obtain rfl : N = 0 := by omega
          go_wp2_with fail
          refine (awake4 wr).mono ?_
          rintro e w5 ⟨rfl, b5⟩
          have B5 : Below W.heap.size W w5 := hP.out.old.trans (b5.mono hP.out.old.size)
          clear b5
          go_wp2_with fail
          go_ret
          exact ⟨rfl, B5⟩
        · have h2' : ¬ (i : Int) < 100 := by omega
          go_wp2_with fail
          refine (awake4 wr).mono ?_
          rintro e w5 ⟨rfl, b5⟩
          have B5 : Below W.heap.size W w5 := hP.out.old.trans (b5.mono hP.out.old.size)
          clear b5
          go_wp2_with fail
          go_ret
          exact ⟨rfl, B5⟩
      · have h1' : ¬ (i : Int) < (ln : Int) := by omega
        go_wp2_with fail
        refine (awake4 wr).mono ?_
        rintro e w5 ⟨rfl, b5⟩
        have B5 : Below W.heap.size W w5 := hP.out.old.trans (b5.mono hP.out.old.size)
        clear b5
        go_wp2_with fail
        go_ret
        exact ⟨rfl, B5⟩

theorem bytes_of_u8 : Try.prog.bytesOf 5 = 1 := by decide +kernel

theorem walkSharePlays (a0 : Option Addr) (c0 : Nat) (zs : List Int) (a1 : Option Addr) (c1 : Nat) (xs : List sh33.M) (W : World) (h0 : Bs W a0 zs) (n0 : (a0 = none → c0 = 0) ∧ zs.length ≤ c0) (o1 : SlOk sh33 W a1 c1 xs) (l1 : xs.length ≤ 140737488351232) (u0 : zs.length ≤ 140737488351232) (r1 : ∀ x ∈ xs, sh33.rch x) :
    Calls Try.prog 3 #[.slice a0 zs.length c0, .slice a1 xs.length c1] W fun e w' => e = .returned (.bool true) ∧ Below W.heap.size W w' :=
  plays4 a0 zs.length c0 zs a1 xs.length c1 xs W rfl rfl h0 n0.1 o1 l1 u0 (fun x hx => by
    have h := (r1 x hx).2.2.2.2.2.2.1
    have e : Try.prog.bytesOf sh5.t = 1 := bytes_of_u8
    rw [e, Nat.mul_one] at h
    exact h)
end Go.Proofs.Ytbinedhgjmfceaa
