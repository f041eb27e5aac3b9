/- Stage 12: the document's Stack. -/
import Derived.Test.YtednmdkjhiihcaaGreatRx
namespace Go.Proofs.YtednmdkjhiihcaaGreat
open Go.ChangeShapes Go.WideShapes Go.ChangeAt Go.RowKit
set_option maxRecDepth 10000

theorem stP_step {l : List (List Value)} {ys zs : List Int} {j : Nat} (hj : j < l.length) (h : stP (l.drop (j + 1)) ys = (0, zs)) : stP (l.drop j) ys = (puE (l.getD j hz) zs, puB (l.getD j hz) zs) := by
  have hd : l.drop j = l.getD j hz :: l.drop (j + 1) := by
    rw [List.drop_eq_getElem_cons hj, List.getD_eq_getElem?_getD, List.getElem?_eq_getElem hj]; rfl
  rw [hd]
  show (if (stP (l.drop (j + 1)) ys).1 = 0 then _ else _) = _
  rw [h, if_pos rfl]

set_option maxHeartbeats 4000000 in
theorem rstack_any (a : Option Addr) (n c : Nat) (ys : List Int) (b : Option Addr) (len cap : Nat) (l : List (List Value)) (w : World) (hy : ys.length = n) (hB : Bs w a ys) (hn : a = none → c = 0) (hl : l.length = len) (hH : Hb w b l) :
    Calls Tryz.prog 40 #[.slice a n c, .slice b len cap] w fun e w' => ∃ v, e = .returned (.tuple #[v, .int .i64 (skE l ys)]) ∧ w'.ownsRow w.heap.size 5 1 v (skB l ys).length ((skB l ys).map (Value.int .u8)) ∧ Below w.heap.size w w' := by
  have HL := Hid.mk' hl
  have HHb := Hid.mk' hH
  have HCl := Hid.mk' (copy_at a n c ys w hy hB hn)
  have HY := Hid.mk' hB.bytes
  have HYl := Hid.mk' hB.len
  by_cases h8 : 8 < len
  · have e3 : skE l ys = 3 := by unfold skE; rw [if_neg (by omega)]
    have eB : skB l ys = [] := by unfold skB; rw [e3, if_neg (by omega)]
    rw [e3, eB]
    clear hl hH hy hB
    go_enter Tryz.func40, Tryz.ntmps40
    go_wp2_with fail
    refine bodyPost_ret (results_tmp2 rfl _ _ _) rfl ?_
    exact ⟨_, rfl, World.ownsRow_nil _ _ _ _, Below.refl _ _⟩
  · have ok : ∀ j, Hh (l.getD j hz) := getD_hh HHb.out.ok
    have OKg := Hid.mk' ok
    have HY2 := Hid.mk' hy
    clear hl hH hB hy ok
    go_enter Tryz.func40, Tryz.ntmps40
    go_wp2_with (go_at_call 35; refine HCl.out.mono ?_; rintro e w1 ⟨v1, rfl, own1, b1⟩; obtain ⟨a1, c1, rfl⟩ := own_slice own1)
    have HO := Hid.mk' own1
    have HB1 := Hid.mk' b1
    clear own1 b1
    go_loopg [6, 7] len (fun f s6 s7 wr => ∃ (m : Nat) (zs : List Int) (a2 : Option Addr) (c2 : Nat), s7 = .int .i64 ((m : Int) - 1) ∧ s6 = .slice a2 zs.length c2 ∧ m ≤ len ∧ m ≤ f ∧ Hid (stP (l.drop m) ys = (0, zs)) ∧ Hid (wr.ownsRow w.heap.size 5 1 (.slice a2 zs.length c2) zs.length (zs.map (Value.int .u8))) ∧ Hid (Below w.heap.size w wr))
    case atStart =>
      refine ⟨len, ys, a1, c1, rfl, by rw [HY2.out], Nat.le_refl _, Nat.le_refl _, Hid.mk' (by rw [← HL.out, List.drop_length]; rfl), Hid.mk' (by rw [HY2.out]; exact HO.out), HB1⟩
    case round =>
      obtain ⟨m, zs, a2, c2, rfl, rfl, hm, hf, HS, HR, HW⟩ := hrel
      rcases Nat.eq_zero_or_pos m with rfl | hm0
      · go_wp2_with fail
        refine bodyPost_ret (results_tmp2 rfl _ _ _) rfl ?_
        have hS : stP l ys = (0, zs) := by have := HS.out; rwa [List.drop_zero] at this
        have es : skE l ys = 0 := by unfold skE; rw [if_pos (by have := HL.out; omega), hS]
        have eS : skB l ys = zs := by unfold skB; rw [if_pos es, hS]
        rw [es, eS]
        exact ⟨_, rfl, HR.out, HW.out⟩
      · obtain ⟨j, rfl⟩ : ∃ j, m = j + 1 := ⟨m - 1, by omega⟩
        rw [show ((j + 1 : Nat) : Int) - 1 = (j : Int) by go_num]
        have hjl : j < l.length := by have := HL.out; omega
        obtain ⟨y, o, ea, hya, hlies⟩ : ∃ x o, b = some ⟨x, o, none⟩ ∧ x < w.heap.size ∧ ∀ i H, l[i]? = some H → w.rangeAt x (o + i * 73) H := by
          rcases HHb.out.lies with h | h
          · omega
          · exact h
        subst ea
        have hgD : l[j]? = some (l.getD j hz) := by rw [List.getD_eq_getElem?_getD, List.getElem?_eq_getElem hjl]; rfl
        have RG := Hid.mk' (show wr.rangeAt y (o + j * 73) (l.getD j hz) from fun i v hv => (HW.out.cell (p := ⟨y, o + j * 73 + i, none⟩) hya).trans (hlies j _ hgD i v hv))
        have HS2 := Hid.mk' (stP_step hjl HS.out)
        have HBD := Hid.mk' (stP_bad l ys j)
        have hh := OKg.out j
        have hzb : Bytes zs := by have := stP_bytes (l.drop (j + 1)) ys (fun J hJ => HHb.out.ok J (List.mem_of_mem_drop hJ)) HY.out; rwa [HS.out] at this
        have hzl : zs.length ≤ 140737488355328 := by
          rcases stP_len (l.drop (j + 1)) ys (fun J hJ => HHb.out.ok J (List.mem_of_mem_drop hJ)) HY.out with h | ⟨-, h⟩
          · rw [HS.out] at h; exact Nat.le_trans h (by decide)
          · rw [HS.out] at h; rw [show zs = ys from h]; exact HYl.out
        obtain ⟨a4, c4, e4, bs4, -⟩ := bs_own HR.out hzb hzl
        have ea4 : a4 = a2 ∧ c4 = c2 := by cases e4; exact ⟨rfl, rfl⟩
        obtain ⟨rfl, rfl⟩ := ea4
        clear hgD e4 hzb hlies
        obtain ⟨H, hHe⟩ : ∃ H, l.getD j hz = H := ⟨_, rfl⟩
        rw [hHe] at RG HS2 hh
        have PS := Hid.mk' (rpush_any H a4 zs.length c4 zs wr hh rfl bs4)
        have hlen := Hid.mk' (hh_len hh)
        have HEe := Hid.mk' hHe
        have hlt : j < len := by omega
        clear bs4 hHe hh
        by_cases he : puE H zs = 0
        · rw [he] at PS
          go_wp2_with (first
            | refine wpList_load_mid rfl 46 _ rfl y (o + j * 73) rfl H _ RG.out Tryz.underlying46 rfl (by rw [hlen.out]; exact info_hh) ?_
            | (go_at_call 36; refine PS.out.mono ?_; rintro e w2 ⟨v2, rfl, own2, b2⟩; obtain ⟨a3, c3, rfl⟩ := own_slice own2))
          go_roundg j
          case measure => omega
          case rel =>
            refine ⟨j, puB H zs, a3, c3, rfl, rfl, by omega, Nat.le_refl _, Hid.mk' ?_, Hid.mk' (ownsRow_base own2 HW.out.size), Hid.mk' (HW.out.trans (b2.mono HW.out.size))⟩
            rw [HS2.out, he]
        · obtain ⟨E, hE⟩ : ∃ E, Hid (puE H zs = E) := ⟨_, rfl⟩
          rw [hE.out] at PS he HS2
          have hne : ¬ (stP (l.drop j) ys).1 = 0 := by rw [HS2.out]; exact he
          have es : skE l ys = E := by unfold skE; rw [if_pos (by have := HL.out; omega), HBD.out hne, HS2.out]
          have eS : skB l ys = [] := by unfold skB; rw [es, if_neg he]
          have ES := Hid.mk' (And.intro es eS)
          clear hne es eS
          go_wp2_with (first
            | refine wpList_load_mid rfl 46 _ rfl y (o + j * 73) rfl H _ RG.out Tryz.underlying46 rfl (by rw [hlen.out]; exact info_hh) ?_
            | (go_at_call 36; refine PS.out.mono ?_; rintro e w2 ⟨v2, rfl, own2, b2⟩; obtain ⟨a3, c3, rfl⟩ := own_slice own2))
          refine bodyPost_ret (results_tmp2 rfl _ _ _) rfl ?_
          rw [ES.out.1, ES.out.2]
          exact ⟨_, rfl, World.ownsRow_nil _ _ _ _, HW.out.trans (b2.mono HW.out.size)⟩
end Go.Proofs.YtednmdkjhiihcaaGreat
