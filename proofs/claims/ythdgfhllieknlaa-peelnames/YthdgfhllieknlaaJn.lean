/- The statements' own whole: headers put ahead of a payload, the last one first. -/
import Derived.Test.YthdgfhllieknlaaJm
namespace Go.Proofs.Ythdgfhllieknlaa
open Go.ChangeShapes Go.WideShapes Go.ChangeAt Go.RowKit
set_option maxRecDepth 10000

theorem drop_at (out : Hs) (j : Nat) (x : Int × List Value) (h : out[j]? = some x) : out.drop j = x :: out.drop (j + 1) := by
  obtain ⟨hlt, he⟩ := List.getElem?_eq_some_iff.1 h
  rw [← List.getElem_cons_drop hlt, he]

set_option maxHeartbeats 2000000 in
theorem whole_any (va : Value) (out : Hs) (a : Option Addr) (n c : Nat) (ys p : List Int) (w : World) (few : out.length ≤ 100) (hr : Hrow w va out) (hy : ys.length = n) (hB : Bs w a ys) (hn0 : a = none → c = 0) (hl : n ≤ 1000000) (hp : wP out ys = some p) :
    Calls Try.prog 20 #[va, .slice a n c] w fun e w' => ∃ v, e = .returned (.tuple #[v, .bool true]) ∧ w'.ownsRow w.heap.size 5 1 v p.length (p.map (Value.int .u8)) ∧ Bytes p ∧ Below w.heap.size w w' := by
  obtain ⟨⟨base, o1⟩, ok⟩ := hr
  obtain ⟨a1, c1, e1⟩ := own_slice o1
  subst e1
  have O1 := Hid.mk' o1
  have OK := Hid.mk' ok
  have HY := Hid.mk' hy
  have HBY := Hid.mk' hB.bytes
  have HP := Hid.mk' hp
  have HCP := Hid.mk' (copy_at a n c ys w hy hB hn0)
  clear o1 ok hy hB hn0 hp
  obtain ⟨N, HN⟩ : ∃ N, Hid (out.length = N) := ⟨_, rfl⟩
  rw [HN.out] at few O1
  rw [HN.out]
  go_enter Try.func20, Try.ntmps20
  go_wp2_with fail
  refine HCP.out.mono ?_
  rintro e w1 ⟨v1, rfl, own1, b1⟩
  have O2 := Hid.mk' own1
  have B2 := Hid.mk' b1
  clear own1 b1 HCP
  go_wp2_with fail
  go_loopg [6, 7] N (fun f s6 s7 wr => ∃ (m : Nat) (q : List Int), s7 = .int .i64 ((m : Int) - 1) ∧ m ≤ N ∧ m ≤ f ∧ q.length ≤ 1000000 + 40 * (N - m) ∧ Hid (wP (out.drop m) ys = some q) ∧ Hid (Bytes q) ∧ Hid (wr.ownsRow w.heap.size 5 1 s6 q.length (q.map (Value.int .u8))) ∧ Hid (Below w.heap.size w wr))
  case atStart =>
    refine ⟨N, ys, rfl, Nat.le_refl _, Nat.le_refl _, by rw [HY.out]; omega, ?_, HBY, ?_, B2⟩
    · exact Hid.mk' (by rw [List.drop_of_length_le (by rw [HN.out]; omega)]; rfl)
    · rw [HY.out]; exact O2
  case round =>
    obtain ⟨m, q, rfl, hm, hf, hq, HW, HQ, HO, HBL⟩ := hrel
    cases m with
    | zero =>
      have hpq : q = p := by
        have := HW.out
        rw [List.drop_zero, HP.out] at this
        exact (Option.some.inj this).symm
      subst hpq
      go_wp2_with fail
      go_ret2
      exact ⟨_, rfl, HO.out, HQ.out, HBL.out⟩
    | succ j =>
      have hjN : j < N := by omega
      have hj1 : ((j + 1 : Nat) : Int) - 1 = (j : Int) := by omega
      rw [hj1]
      obtain ⟨g, d, e1, -⟩ := own_some O1.out (by omega)
      cases e1
      obtain ⟨⟨k, L⟩, hx⟩ : ∃ x, out[j]? = some x := ⟨_, List.getElem?_eq_getElem (by rw [HN.out]; exact hjN)⟩
      have KX := OK.out (k, L) (List.mem_of_getElem? hx)
      have KH := Hid.mk' (hk_hh KX)
      have RG := Hid.mk' (head_range (Kept.owns O1.out (Kept.of_below (S := fun _ => False) HBL.out) (fun _ _ h => h)) OK.out j k L hx)
      obtain ⟨q', hq'⟩ := wP_drop j HP.out
      have hd := drop_at out j _ hx
      obtain ⟨q2, h1, h2, h3⟩ := wP_cons (hd ▸ hq')
      have hqq : q2 = q := by rw [HW.out] at h1; exact (Option.some.inj h1).symm
      subst hqq
      have HW2 : Hid (wP (out.drop j) ys = some (bB k L q2 ++ q2)) := Hid.mk' (by rw [hq', h3])
      have HQ2 : Hid (Bytes (bB k L q2 ++ q2)) := Hid.mk' (bytes_append (bB_bytes KX HQ.out) HQ.out)
      have hbl := bB_le (ys := q2) KX
      obtain ⟨a6, c6, e6, S6, hc6, -⟩ := K05.own_bs HO.out rfl HQ.out (by omega)
      have HBB := Hid.mk' (bB_bytes (ys := q2) KX HQ.out)
      have HBC := Hid.mk' (bytes_any k L a6 q2.length c6 q2 wr KX rfl S6)
      have HS6 := Hid.mk' S6
      have h2 : bE k L q2 = 0 := h2
      rw [h2] at HBC
      obtain ⟨H, HHk⟩ : ∃ H, Hid (hk k L = H) := ⟨_, rfl⟩
      rw [HHk.out] at KH RG HBC
      obtain ⟨BB, HBBe⟩ : ∃ BB, Hid (bB k L q2 = BB) := ⟨_, rfl⟩
      rw [HBBe.out] at HBC HW2 HQ2 hbl HBB
      have hh73 := Hid.mk' (hh_len KH.out)
      obtain ⟨nq, HNQ⟩ : ∃ nq, Hid (q2.length = nq) := ⟨_, rfl⟩
      obtain ⟨nb, HNB⟩ : ∃ nb, Hid (BB.length = nb) := ⟨_, rfl⟩
      rw [HNQ.out] at hq e6 hc6 HO HBC
      rw [HNB.out] at hbl HBC
      subst e6
      clear hx hq' hd h1 h2 h3 KX S6 HW
      go_wp2_with (first
        | refine wpList_load_mid rfl 48 _ rfl g (j * 73) rfl H _ RG.out Try.underlying48 rfl (by rw [hh73.out]; exact info_hh) ?_
        | (go_at_call 26; refine HBC.out.mono ?_; rintro e w5 ⟨v5, rfl, own5, b5⟩; obtain ⟨a5, c5, e5, S5, hc5, -⟩ := K05.own_bs own5 HNB.out HBB.out (by rw [HNB.out]; omega); cases e5; have HS5 := Hid.mk' S5; have HS6' := Hid.mk' (HS6.out.below b5); have B5 : Hid (Below w.heap.size w w5) := Hid.mk' (HBL.out.trans (b5.mono HBL.out.size)); clear own5 b5 S5)
        | (at_builtin; refine wpList_app_own rfl _ _ rfl w.heap.size (.slice none 0 0) 0 [] rfl (World.ownsRow_nil _ _ _ _) a5 c5 nb BB rfl HNB.out HS5.out (by omega) B5.out.size ?_; intro v7 w7 own7 gr7 ob7; rw [List.nil_append, Nat.zero_add] at own7; have O7 := Hid.mk' own7; have B7' := Hid.mk' (grown_below gr7); have B7 : Hid (Below w.heap.size w w7) := Hid.mk' (B5.out.trans (B7'.out.mono B5.out.size)); have HS7 := Hid.mk' (HS6'.out.below B7'.out); clear own7 gr7 ob7)
        | (at_builtin; go_loud (refine wpList_app_own rfl _ _ rfl w.heap.size v7 nb (BB.map (Value.int .u8)) rfl O7.out a6 c6 nq q2 rfl HNQ.out HS7.out (by omega) B7.out.size ?_; intro v8 w8 own8 gr8 ob8; rw [← List.map_append] at own8; have O8 := Hid.mk' own8; have B8 : Hid (Below w.heap.size w w8) := Hid.mk' (B7.out.grown gr8 B7.out.size (fun i e => (O7.out.lt i e).1)); clear own8 gr8 ob8)))
      go_roundg j
      case measure => omega
      case rel =>
        refine ⟨j, BB ++ q2, by go_num, by omega, Nat.le_refl _, ?_, HW2, HQ2, ?_, B8⟩
        · rw [List.length_append, HNB.out, HNQ.out]; omega
        · rw [List.length_append, HNB.out, HNQ.out]; exact O8
end Go.Proofs.Ythdgfhllieknlaa
