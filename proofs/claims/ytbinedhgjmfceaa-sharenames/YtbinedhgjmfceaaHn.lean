/- The contract of the statements' own 'written', the other ways. -/
import Derived.Test.YtbinedhgjmfceaaHm
namespace Go.Proofs.Ytbinedhgjmfceaa
open Go.ChangeShapes Go.WideShapes Go.ChangeAt Go.RowKit

set_option maxHeartbeats 2000000 in
set_option maxRecDepth 100000 in
theorem written1 (W w : World) (F : Nat → Prop) (sl pl : List Nat) (σ : St) (ga ca gb cb N M k s : Nat) (bk : List Bk) (kd wh x sz n v : Int) (ba : Option Addr) (bl bc : Nat) (h : Heap W w (apL W F sl pl σ ga ca gb cb N bk)) (hA : AInv σ bk M) (hM : M ≤ 100) (hN' : N ≤ 100) (hbl : bk.length = N) (hsk : sl[k]? = some s) (hk : k < N)
    (hx : -9223372036854775808 ≤ x ∧ x ≤ 9223372036854775807)
    (hbr : ∀ u : World, Calls Try.prog 14 #[.int .i64 n, .int .i64 4] u fun e w' => e = .returned (.int .i64 1) ∧ u = w') :
    Calls Try.prog 16 #[.pointer (some ⟨s, 0, none⟩), .slice (some ⟨gb, 0, none⟩) N cb, .int .i64 k, .agg (doC kd wh x sz n v ba bl bc)] w fun e w' => e = .returned (.bool true) ∧ Wrt W w' sl ga ca gb cb N M := by
  obtain ⟨⟨bv, X⟩, hb⟩ : ∃ e, bk[k]? = some e := ⟨_, List.getElem?_eq_getElem (by omega)⟩
  obtain ⟨j, G, hi, hG, rfl, hGm, hXl⟩ := hA.at_ k bv X hb
  have H1 := wr_start (kd := kd) (wh := wh) (x := x) (sz := sz) (n := n) (v := v) (ba := ba) (bl := bl) (bc := bc) h rfl
  obtain ⟨ax, cx, rfl⟩ := own_slice (row_at H1.out hb)
  have cb0 := (book_at H1.out hb).1
  obtain ⟨nb, hnb⟩ : ∃ n, n = G.B.length := ⟨_, rfl⟩
  rw [← hnb] at cb0 hXl hb
  have HNB := Hid.mk' hnb.symm
  have HB := Hid.mk' hb
  have HA := Hid.mk' hA
  have HI := Hid.mk' hi
  have HG := Hid.mk' hG
  have HSK := Hid.mk' hsk
  have hkc : (k : Int) < (N : Int) := by omega
  have hl : Hid (σ.hs.length ≤ 1000) := Hid.mk' (by rw [← hA.len]; omega)
  have cat := fun u => brg_any x (nb + 1) u (by omega) (by omega) hx.1 hx.2
  rw [show ((nb + 1 : Nat) : Int) = (nb : Int) + 1 by omega] at cat
  have hat := brg_lt x (nb + 1) (by omega)
  generalize brg x (nb + 1) = at_ at *
  have hpm : Hid ((σ.pG j G).m ≤ M) := by
    show (σ.pG j G).m ≤ M
    unfold St.pG; split
    · omega
    · show 0 ≤ M; omega
  clear h hb hi hG hsk hnb hA
  unfold doC at H1 cb0 ⊢
  go_enter Try.func16, Try.ntmps16
  go_wp2_with fail
  refine (cat _).mono ?_
  rintro e w2 ⟨rfl, hw2⟩
  rw [hw2] at H1
  obtain ⟨-, -, -, -, d4, d5, -⟩ := do_at H1.out
  clear cb0 hw2 cat
  generalize w.heap.size = db at *
  go_wp2_with fail
  refine (hbr w2).mono ?_
  rintro e w3 ⟨rfl, rfl⟩
  have key := sh_own (H1.out.shs 1 rfl) HSK.out HI.out HG.out hl.out
  go_wp2_with fail
  refine key.mono ?_
  rintro e w4 ⟨p, pl', rfl, hp, hnx⟩
  obtain ⟨F', h4⟩ := H1.out.next1 hnx
  have H4 : Hid (Heap W w4 (cellsT db #[.int .i64 kd, .int .i64 wh, .int .i64 x, .int .i64 sz, .int .i64 n, .int .u64 v, .slice ba bl bc] 33 :: apL W F' sl pl' (σ.part k j G) ga ca gb cb N bk)) := h4
  have HP := Hid.mk' hp
  have HPG : Hid ((σ.part k j G).gs[σ.pJ j]? = some (σ.pG j G)) := Hid.mk' (St.part_get HG.out)
  have HPB : Hid ((σ.pG j G).B = G.B) := Hid.mk' (St.pG_B σ j G)
  clear key hnx h4 hp H1 d4 d5
  obtain ⟨g, o, a, hFg, hoa, hdata, hput⟩ := sh_data (H4.out.shs 1 rfl) HP.out HPG.out
  rw [HPB.out, HNB.out] at hoa hdata hput
  have HPUT := Hid.mk' hput
  have key := hdata w4 (Dr.refl _)
  clear hput hdata
  go_wp2_with fail
  refine key.mono ?_
  rintro e w5 ⟨rfl, d5⟩
  have D5 := Hid.mk' d5
  clear key d5
  by_cases hlt : at_ < nb
  · have hlt' : (at_ : Int) < (nb : Int) := by omega
    obtain rfl : o = a := hoa (by omega)
    obtain ⟨c1, c2, hnx⟩ := HPUT.out at_ hlt
    have c1' := (D5.out.cell _).trans c1
    have c2' := (D5.out.frozen _).trans c2
    have hnx := hnx (v % 256) w5 D5.out (by omega) (by omega)
    obtain ⟨F6, h6⟩ := H4.out.next1 hnx
    have h6' : Heap W (w5.setCell ⟨g, o + at_, none⟩ (.int .u8 (v % 256))) (cellsT db #[.int .i64 kd, .int .i64 wh, .int .i64 x, .int .i64 sz, .int .i64 n, .int .u64 v, .slice ba bl bc] 33 :: apL W F6 sl pl' ((σ.part k j G).putG (σ.pJ j) ⟨G.B.set at_ (v % 256), (σ.pG j G).a, (σ.pG j G).d, (σ.pG j G).m⟩) ga ca gb cb N bk) := h6
    obtain ⟨-, -, -, -, -, d5, -⟩ := do_at (H4.out.dr' D5.out)
    obtain ⟨-, -, -, -, -, e5, -⟩ := do_at h6'
    obtain ⟨e1, -⟩ := book_at h6' HB.out
    obtain ⟨gx, cx', hax, hcx⟩ := own_some (row_at h6' HB.out) (by rw [HNB.out]; omega)
    simp only [Value.slice.injEq] at hax
    obtain ⟨rfl, -, rfl⟩ := hax
    rw [HNB.out] at hcx
    obtain ⟨e2, e3⟩ := own_byte (row_at h6' HB.out) HNB.out at_ hlt
    have HF : Hid (Wrt W ((w5.setCell ⟨g, o + at_, none⟩ (.int .u8 (v % 256))).setCell ⟨gx, at_, none⟩ (.int .u8 (v % 256))) sl ga ca gb cb N M) := by
      have h5 := row_put h6' HB.out HNB.out at_ (v % 256)
      refine ⟨F6, pl', _, _, h5.tail, HA.out.put HI.out HG.out _ (by omega) ?_ (by show (G.B.set at_ (v % 256)).length ≤ _; rw [List.length_set, HNB.out]; omega)⟩
      have := hpm.out
      show (σ.pG j G).m ≤ M + 1
      omega
    generalize G.B.getD at_ 0 = z at e2 c1 c1'
    clear h6 h6' hnx c1 c2 H4 HA HI HG HSK hl HB HPUT HP HPG D5
    go_wp2_with fail
    clear c1' c2' d5
    generalize w5.setCell ⟨g, o + at_, none⟩ (.int .u8 (v % 256)) = w6 at *
    go_region_with (fail)
    all_goals
      go_wp2_with fail
      go_ret
      exact ⟨rfl, HF.out.dr ⟨1, rfl⟩⟩
  · have hlt' : ¬ (at_ : Int) < (nb : Int) := by omega
    have HF : Hid (Wrt W w5 sl ga ca gb cb N M) := ⟨F', pl', _, bk, (H4.out.dr' D5.out).tail, (HA.out.parted HI.out HG.out HB.out hGm (by rw [HNB.out]; exact hXl)).more (by omega)⟩
    clear H4 HA HI HG HSK hl HB HPUT HP HPG D5
    go_wp2_with fail
    go_ret
    exact ⟨rfl, HF.out⟩
end Go.Proofs.Ytbinedhgjmfceaa
