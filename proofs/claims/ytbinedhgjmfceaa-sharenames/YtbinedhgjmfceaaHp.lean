/- The contract of the statements' own 'written', the other ways. -/
import Derived.Test.YtbinedhgjmfceaaHm
namespace Go.Proofs.Ytbinedhgjmfceaa
open Go.ChangeShapes Go.WideShapes Go.ChangeAt Go.RowKit

set_option maxHeartbeats 2000000 in
set_option maxRecDepth 100000 in
theorem written3 (W w : World) (F : Nat → Prop) (sl pl : List Nat) (σ : St) (ga ca gb cb N M k s : Nat) (bk : List Bk) (kd wh x sz n v : Int) (ba : Option Addr) (bl bc : Nat) (h : Heap W w (apL W F sl pl σ ga ca gb cb N bk)) (hA : AInv σ bk M) (hM : M ≤ 100) (hN' : N ≤ 100) (hbl : bk.length = N) (hsk : sl[k]? = some s) (hk : k < N)
    (hx : -9223372036854775808 ≤ x ∧ x ≤ 9223372036854775807)
    (hbr : ∀ u : World, Calls Try.prog 14 #[.int .i64 n, .int .i64 4] u fun e w' => e = .returned (.int .i64 3) ∧ u = w') :
    Calls Try.prog 16 #[.pointer (some ⟨s, 0, none⟩), .slice (some ⟨gb, 0, none⟩) N cb, .int .i64 k, .agg (doC kd wh x sz n v ba bl bc)] w fun e w' => e = .returned (.bool true) ∧ Wrt W w' sl ga ca gb cb N M := by
  obtain ⟨⟨bv, X⟩, hb⟩ : ∃ e, bk[k]? = some e := ⟨_, List.getElem?_eq_getElem (by omega)⟩
  obtain ⟨j, G, hi, hG, rfl, hGm, hXl⟩ := hA.at_ k bv X hb
  have H1 := wr_start (kd := kd) (wh := wh) (x := x) (sz := sz) (n := n) (v := v) (ba := ba) (bl := bl) (bc := bc) h rfl
  obtain ⟨ax, cx, rfl⟩ := own_slice (row_at H1.out hb)
  have cb0 := (book_at H1.out hb).1
  obtain ⟨nb, hnb⟩ : ∃ n, n = G.B.length := ⟨_, rfl⟩
  rw [← hnb] at cb0 hXl hb
  have HNB := Hid.mk' hnb.symm
  have HB := Hid.mk' hb
  have HA := Hid.mk' hA
  have HI := Hid.mk' hi
  have HG := Hid.mk' hG
  have HSK := Hid.mk' hsk
  have hkc : (k : Int) < (N : Int) := by omega
  have hl : Hid (σ.hs.length ≤ 1000) := Hid.mk' (by rw [← hA.len]; omega)
  have cat := fun u => brg_any x (nb + 1) u (by omega) (by omega) hx.1 hx.2
  rw [show ((nb + 1 : Nat) : Int) = (nb : Int) + 1 by omega] at cat
  have hat := brg_lt x (nb + 1) (by omega)
  generalize brg x (nb + 1) = at_ at *
  have hpm : Hid ((σ.pG j G).m ≤ M) := by
    show (σ.pG j G).m ≤ M
    unfold St.pG; split
    · omega
    · show 0 ≤ M; omega
  clear h hb hi hG hsk hnb hA
  unfold doC at H1 cb0 ⊢
  go_enter Try.func16, Try.ntmps16
  go_wp2_with fail
  refine (cat _).mono ?_
  rintro e w2 ⟨rfl, hw2⟩
  rw [hw2] at H1
  obtain ⟨-, -, -, -, d4, d5, -⟩ := do_at H1.out
  clear cb0 hw2 cat
  generalize w.heap.size = db at *
  go_wp2_with fail
  refine (hbr w2).mono ?_
  rintro e w3 ⟨rfl, rfl⟩
  have key := sh_own (H1.out.shs 1 rfl) HSK.out HI.out HG.out hl.out
  go_wp2_with fail
  refine key.mono ?_
  rintro e w4 ⟨p, pl', rfl, hp, hnx⟩
  obtain ⟨F', h4⟩ := H1.out.next1 hnx
  have H4 : Hid (Heap W w4 (cellsT db #[.int .i64 kd, .int .i64 wh, .int .i64 x, .int .i64 sz, .int .i64 n, .int .u64 v, .slice ba bl bc] 33 :: apL W F' sl pl' (σ.part k j G) ga ca gb cb N bk)) := h4
  have HP := Hid.mk' hp
  have HPG : Hid ((σ.part k j G).gs[σ.pJ j]? = some (σ.pG j G)) := Hid.mk' (St.part_get HG.out)
  have HPB : Hid ((σ.pG j G).B = G.B) := Hid.mk' (St.pG_B σ j G)
  clear key hnx h4 hp H1 d4 d5
  by_cases h0 : 0 < nb
  · have h0' : (0 : Int) < (nb : Int) := by omega
    obtain ⟨gx, cx', hax, hcx⟩ := own_some (row_at H4.out HB.out) (by rw [HNB.out]; omega)
    simp only [Value.slice.injEq] at hax
    obtain ⟨rfl, -, rfl⟩ := hax
    rw [HNB.out] at hcx
    obtain ⟨e1, e2⟩ := book_at H4.out HB.out
    have h5 := row_cut H4.out HB.out HNB.out (nb - 1) (by omega)
    have H5 := Hid.mk' h5
    have key := sh_tail (-1) (H5.out.shs 1 rfl) HP.out HPG.out (by have := hpm.out; omega)
    have hmay : mayE G.B.length (-1) = 0 := may_zero.2 ⟨by rw [HNB.out]; omega, by rw [HNB.out]; omega⟩
    rw [HPB.out, hmay] at key
    have hh : Hid (tB (-1) G.B = G.B.take (nb - 1)) := Hid.mk' (by unfold tB; rw [if_pos hmay, if_neg (by omega), HNB.out]; congr 1; omega)
    have hmm : Hid (mM G.B.length (-1) (σ.pG j G).m = (σ.pG j G).m + 1) := Hid.mk' (by unfold mM; rw [if_pos hmay])
    rw [hh.out, hmm.out] at key
    have hc0 : ¬ cx = 0 := by omega
    have hnn : (nb : Int) - 1 ≤ (cx : Int) := by omega
    have hn1 : (0 : Int) ≤ (nb : Int) - 1 := by omega
    have hnt : ((nb : Int) - 1).toNat = nb - 1 := by omega
    clear hmay h5 H4
    go_wp2_with fail
    try rw [hnt]
    refine key.mono ?_
    rintro e w6 ⟨rfl, hnx⟩
    obtain ⟨F6, h6⟩ := H5.out.next1 hnx
    have HF : Hid (Wrt W w6 sl ga ca gb cb N M) := by
      refine ⟨F6, pl', _, _, Heap.tail h6, HA.out.put HI.out HG.out (.slice (some ⟨gx, 0, none⟩) (nb - 1) cx) (G' := ⟨G.B.take (nb - 1), _, _, (σ.pG j G).m + 1⟩) (by omega) ?_ ?_⟩
      · have := hpm.out
        show (σ.pG j G).m + 1 ≤ M + 1
        omega
      · show (G.B.take (nb - 1)).length ≤ _
        rw [List.length_take, HNB.out]; omega
    clear key hnx h6 H5 HA HI HG HSK hl HB HP HPG
    go_wp2_with fail
    go_ret
    exact ⟨rfl, HF.out⟩
  · obtain rfl : nb = 0 := by omega
    have key := sh_tail (-1) (H4.out.shs 1 rfl) HP.out HPG.out (by have := hpm.out; omega)
    have hmay : mayE G.B.length (-1) = 6 := by
      unfold mayE
      rw [HNB.out, if_neg (by decide), if_pos (by decide)]
    rw [HPB.out, hmay] at key
    have hh : Hid (tB (-1) G.B = G.B) := Hid.mk' (by unfold tB; rw [if_neg (by rw [hmay]; decide)])
    have hmm : Hid (mM G.B.length (-1) (σ.pG j G).m = (σ.pG j G).m) := Hid.mk' (by unfold mM; rw [if_neg (by rw [hmay]; decide)])
    rw [hh.out, hmm.out] at key
    clear hmay
    go_wp2_with fail
    refine key.mono ?_
    rintro e w6 ⟨rfl, hnx⟩
    obtain ⟨F6, h6⟩ := H4.out.next1 hnx
    have HF : Hid (Wrt W w6 sl ga ca gb cb N M) := by
      have hA2 := HA.out.put HI.out HG.out (.slice ax 0 cx) (G' := ⟨G.B, tA G.B.length (-1) (σ.pG j G).a (σ.pG j G).d, tD G.B.length (-1) (σ.pG j G).d, (σ.pG j G).m⟩) (M' := M + 1) (by omega) (by have := hpm.out; show (σ.pG j G).m ≤ M + 1; omega) (by show G.B.length ≤ _; rw [HNB.out]; omega)
      have e : bk.set k (.slice ax 0 cx, G.B) = bk := by
        obtain ⟨hlt, he⟩ := List.getElem?_eq_some_iff.1 HB.out
        rw [← he, List.set_getElem_self hlt]
      rw [e] at hA2
      exact ⟨F6, pl', _, bk, Heap.tail h6, hA2⟩
    clear key hnx h6 H4 HA HI HG HSK hl HB HP HPG
    go_wp2_with fail
    go_ret
    exact ⟨rfl, HF.out⟩
end Go.Proofs.Ytbinedhgjmfceaa
