/- The contract of the statements' own 'written', the other ways. -/
import Derived.Test.YtbinedhgjmfceaaHm
namespace Go.Proofs.Ytbinedhgjmfceaa
open Go.ChangeShapes Go.WideShapes Go.ChangeAt Go.RowKit

set_option maxHeartbeats 2000000 in
set_option maxRecDepth 100000 in
theorem written2 (W w : World) (F : Nat → Prop) (sl pl : List Nat) (σ : St) (ga ca gb cb N M k s : Nat) (bk : List Bk) (kd wh x sz n v : Int) (ba : Option Addr) (bl bc : Nat) (h : Heap W w (apL W F sl pl σ ga ca gb cb N bk)) (hA : AInv σ bk M) (hM : M ≤ 100) (hN' : N ≤ 100) (hbl : bk.length = N) (hsk : sl[k]? = some s) (hk : k < N)
    (hx : -9223372036854775808 ≤ x ∧ x ≤ 9223372036854775807)
    (hbr : ∀ u : World, Calls Try.prog 14 #[.int .i64 n, .int .i64 4] u fun e w' => e = .returned (.int .i64 2) ∧ u = w') :
    Calls Try.prog 16 #[.pointer (some ⟨s, 0, none⟩), .slice (some ⟨gb, 0, none⟩) N cb, .int .i64 k, .agg (doC kd wh x sz n v ba bl bc)] w fun e w' => e = .returned (.bool true) ∧ Wrt W w' sl ga ca gb cb N M := by
  obtain ⟨⟨bv, X⟩, hb⟩ : ∃ e, bk[k]? = some e := ⟨_, List.getElem?_eq_getElem (by omega)⟩
  obtain ⟨j, G, hi, hG, rfl, hGm, hXl⟩ := hA.at_ k bv X hb
  have H1 := wr_start (kd := kd) (wh := wh) (x := x) (sz := sz) (n := n) (v := v) (ba := ba) (bl := bl) (bc := bc) h rfl
  obtain ⟨ax, cx, rfl⟩ := own_slice (row_at H1.out hb)
  have cb0 := (book_at H1.out hb).1
  obtain ⟨nb, hnb⟩ : ∃ n, n = G.B.length := ⟨_, rfl⟩
  rw [← hnb] at cb0 hXl hb
  have HNB := Hid.mk' hnb.symm
  have HB := Hid.mk' hb
  have HA := Hid.mk' hA
  have HI := Hid.mk' hi
  have HG := Hid.mk' hG
  have HSK := Hid.mk' hsk
  have hkc : (k : Int) < (N : Int) := by omega
  have hl : Hid (σ.hs.length ≤ 1000) := Hid.mk' (by rw [← hA.len]; omega)
  have cat := fun u => brg_any x (nb + 1) u (by omega) (by omega) hx.1 hx.2
  rw [show ((nb + 1 : Nat) : Int) = (nb : Int) + 1 by omega] at cat
  have hat := brg_lt x (nb + 1) (by omega)
  generalize brg x (nb + 1) = at_ at *
  have hpm : Hid ((σ.pG j G).m ≤ M) := by
    show (σ.pG j G).m ≤ M
    unfold St.pG; split
    · omega
    · show 0 ≤ M; omega
  clear h hb hi hG hsk hnb hA
  unfold doC at H1 cb0 ⊢
  go_enter Try.func16, Try.ntmps16
  go_wp2_with fail
  refine (cat _).mono ?_
  rintro e w2 ⟨rfl, hw2⟩
  rw [hw2] at H1
  obtain ⟨-, -, -, -, d4, d5, -⟩ := do_at H1.out
  clear cb0 hw2 cat
  generalize w.heap.size = db at *
  go_wp2_with fail
  refine (hbr w2).mono ?_
  rintro e w3 ⟨rfl, rfl⟩
  have key := sh_own (H1.out.shs 1 rfl) HSK.out HI.out HG.out hl.out
  go_wp2_with fail
  refine key.mono ?_
  rintro e w4 ⟨p, pl', rfl, hp, hnx⟩
  obtain ⟨F', h4⟩ := H1.out.next1 hnx
  have H4 : Hid (Heap W w4 (cellsT db #[.int .i64 kd, .int .i64 wh, .int .i64 x, .int .i64 sz, .int .i64 n, .int .u64 v, .slice ba bl bc] 33 :: apL W F' sl pl' (σ.part k j G) ga ca gb cb N bk)) := h4
  have HP := Hid.mk' hp
  have HPG : Hid ((σ.part k j G).gs[σ.pJ j]? = some (σ.pG j G)) := Hid.mk' (St.part_get HG.out)
  have HPB : Hid ((σ.pG j G).B = G.B) := Hid.mk' (St.pG_B σ j G)
  have HPP := Hid.mk' hp
  have HPJ : Hid (σ.pJ j < (σ.part k j G).gs.length) := Hid.mk' (List.getElem?_eq_some_iff.1 HPG.out).1
  clear key hnx h4 hp H1 d4 d5
  have key := sh_head 1 (H4.out.shs 1 rfl) HP.out HPG.out (by have := hpm.out; omega)
  have hmay : mayE G.B.length 1 = 0 := may_zero.2 ⟨by rw [HNB.out]; omega, by omega⟩
  rw [HPB.out, hmay] at key
  have hh : Hid (hB 1 G.B = 0 :: G.B) := Hid.mk' (by unfold hB; rw [if_pos hmay]; rfl)
  have hmm : Hid (mM G.B.length 1 (σ.pG j G).m = (σ.pG j G).m + 1) := Hid.mk' (by unfold mM; rw [if_pos hmay])
  rw [hh.out, hmm.out] at key
  clear hmay
  go_wp2_with fail
  refine key.mono ?_
  rintro e w5 ⟨rfl, hnx⟩
  obtain ⟨F5, h5⟩ := H4.out.next1 hnx
  have H5 : Hid (Heap W w5 (cellsT db #[.int .i64 kd, .int .i64 wh, .int .i64 x, .int .i64 sz, .int .i64 n, .int .u64 v, .slice ba bl bc] 33 :: apL W F5 sl pl' ((σ.part k j G).putG (σ.pJ j) ⟨0 :: G.B, hA G.B.length 1 (σ.pG j G).a, hD G.B.length 1 (σ.pG j G).a (σ.pG j G).d, (σ.pG j G).m + 1⟩) ga ca gb cb N bk)) := h5
  clear key hnx h5 H4 HP HPG
  have h6 := (H5.out.lit 5 #[.int .u8 0] 1 (by omega) rfl).perm List.perm_append_comm
  have H6 : Hid (Heap W (w5.alloc (.cells #[.int .u8 0] 5)) (rowT W.heap.size 5 1 (.slice (some ⟨w5.heap.size, 0, none⟩) 1 1) 1 [.int .u8 0] :: cellsT db #[.int .i64 kd, .int .i64 wh, .int .i64 x, .int .i64 sz, .int .i64 n, .int .u64 v, .slice ba bl bc] 33 :: apL W F5 sl pl' ((σ.part k j G).putG (σ.pJ j) ⟨0 :: G.B, hA G.B.length 1 (σ.pG j G).a, hD G.B.length 1 (σ.pG j G).a (σ.pG j G).d, (σ.pG j G).m + 1⟩) ga ca gb cb N bk)) := h6
  have e1 := (book_at H6.out.tail HB.out).1
  have HOW : Hid ((w5.alloc (.cells #[.int .u8 0] 5)).ownsRow W.heap.size 5 1 (.slice (some ⟨w5.heap.size, 0, none⟩) 1 1) 1 [.int .u8 0]) := H6.out.get (i := 0) rfl
  have HWS : Hid (W.heap.size ≤ (w5.alloc (.cells #[.int .u8 0] 5)).heap.size) := H6.out.old.size
  have HBS : Hid (Bs (w5.alloc (.cells #[.int .u8 0] 5)) ax G.B) := by
    have hbb := (sh_facts (H5.out.shs 1 rfl) (j := σ.pJ j) (p := p) HPP.out (List.getElem?_set_self HPJ.out)).1
    have hr := row_at H6.out.tail HB.out
    exact bs_rw hr (fun z hz => hbb z (by simp [hz])) (by rw [HNB.out]; omega)
  clear h6 H5
  go_wp2_with (at_builtin; go_loud (refine wpList_app_own rfl _ _ rfl W.heap.size (.slice (some ⟨w5.heap.size, 0, none⟩) 1 1) 1 [.int .u8 0] rfl HOW.out ax cx nb G.B rfl HNB.out HBS.out (by omega) HWS.out ?_; intro v7 w7 hown7 hgr7 hob7; obtain ⟨g7, c7, hv7, hc7⟩ := own_some hown7 (by omega); subst hv7; have H7 := Hid.mk' (H6.out.grown 0 rfl hown7 hgr7 hob7); obtain ⟨f1, f2⟩ := book_at H7.out.tail HB.out; clear hown7 hgr7 hob7 HOW HWS HBS H6 e1))
  go_ret
  refine ⟨rfl, F5, pl', _, bk.set k (.slice (some ⟨g7, 0, none⟩) (1 + nb) c7, 0 :: G.B), (row_new H7.out ?_ (by omega)).tail, ?_⟩
  · unfold rwT
    simp only [List.length_cons, HNB.out, List.map_cons]
    rw [show nb + 1 = 1 + nb by omega]; rfl
  · refine HA.out.put HI.out HG.out _ (by omega) ?_ ?_
    · have := hpm.out
      show (σ.pG j G).m + 1 ≤ M + 1
      omega
    · show (0 :: G.B).length ≤ _
      rw [List.length_cons, HNB.out]; omega
end Go.Proofs.Ytbinedhgjmfceaa
