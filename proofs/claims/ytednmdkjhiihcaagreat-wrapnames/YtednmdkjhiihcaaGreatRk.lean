/- Stage 12: Off; On and Off of a packet that is none. -/
import Derived.Test.YtednmdkjhiihcaaGreatRj
namespace Go.Proofs.YtednmdkjhiihcaaGreat
open Go.ChangeShapes Go.WideShapes Go.ChangeAt Go.RowKit
set_option maxRecDepth 10000

set_option maxHeartbeats 2000000 in
theorem off_any (p g : Nat) (A B D : List Int) (m : Nat) (k : Int) (w : World) (h : PkIs w p g A B D m) (k0 : 0 ≤ k) (k1 : k ≤ 255) (hm : m + 1 ≤ 100000) :
    Calls Tryz.prog 13 #[.pointer (some ⟨p, 0, none⟩), .int .u8 k] w fun e w' => e = .returned (.tuple #[.agg (poH k B).toArray, .int .i64 (poE k B)]) ∧ Mvd w w' p g (ofB k B) (ofM k B m) := by
  have J1 := Hid.mk' (HJ.first w)
  have hbb := h.bytes.mid.2.1
  have hplt := Hid.mk' h.raw.lt
  have hglt := Hid.mk' h.glt
  have hmost := h.most
  have P1 := Hid.mk' (h.below J1.out.old)
  have HF : Hid (∀ u, PkIs u p g A B D m → Calls Tryz.prog 29 #[.slice (some ⟨g, pO A B, none⟩) B.length B.length, .int .u8 k] u fun e w' => e = .returned (.tuple #[.agg (fiH k B).toArray, .int .i64 (sz k : Nat), .int .i64 (poE k B)]) ∧ Below u.heap.size u w') :=
    Hid.mk' (fun u hu => first_any k _ B.length B.length B u k0 k1 rfl hu.bs (Nat.le_refl _))
  have KH := Hid.mk' (fiH_hh (k := k) hbb)
  have hz73 : Hid (hz.toArray.size = 73) := Hid.mk' (by rw [List.size_toArray]; exact hz_len)
  have hz1 := Hid.mk' (hh_one hz_hh)
  have Yes : Hid (poE k B = 0 → fiH k B = poH k B ∧ ofB k B = B.drop (sz k) ∧ ofM k B m = m + 1 ∧ sz k ≤ B.length ∧ sz k ≤ 40) := Hid.mk' (fun he => by
    obtain ⟨h1, h6, hr⟩ := po_in he
    refine ⟨fiH_po he, by unfold ofB poR; rw [if_pos he, if_pos he], by unfold ofM; rw [if_pos he], rE_len h1 h6 hr, (sz_pos ⟨h1, h6⟩).2⟩)
  have No : Hid (¬ poE k B = 0 → poH k B = hz ∧ ofB k B = B ∧ ofM k B m = m) := Hid.mk' (fun he => ⟨(po_no he).1, by unfold ofB; rw [if_neg he], by unfold ofM; rw [if_neg he]⟩)
  obtain ⟨n, hn⟩ : ∃ n, Hid (B.length = n) := ⟨_, rfl⟩
  obtain ⟨x, hx⟩ : ∃ x, Hid (pO A B = x) := ⟨_, rfl⟩
  obtain ⟨E, HE⟩ : ∃ E, Hid (poE k B = E) := ⟨_, rfl⟩
  obtain ⟨M, HM⟩ : ∃ M, Hid (fiH k B = M) := ⟨_, rfl⟩
  obtain ⟨R, HR⟩ : ∃ R, Hid (poH k B = R) := ⟨_, rfl⟩
  obtain ⟨S, HS⟩ : ∃ S, Hid (sz k = S) := ⟨_, rfl⟩
  obtain ⟨NB, HNB⟩ : ∃ NB, Hid (ofB k B = NB) := ⟨_, rfl⟩
  obtain ⟨NM, HNM⟩ : ∃ NM, Hid (ofM k B m = NM) := ⟨_, rfl⟩
  rw [hn.out, hx.out, HE.out, HM.out, HS.out] at HF
  rw [HM.out] at KH
  rw [HE.out, HM.out, HR.out, HS.out, HNB.out, HNM.out, hn.out] at Yes
  rw [HE.out, HR.out, HNB.out, HNM.out] at No
  rw [hn.out] at hmost
  rw [HE.out, HR.out, HNB.out, HNM.out]
  have HD : Hid (∀ u, PkIs u p g A B D m → Calls Tryz.prog 33 #[.pointer (some ⟨p, 0, none⟩)] u fun e w' => e = .returned (.slice (some ⟨g, x, none⟩) n n) ∧ Dr u w') := Hid.mk' (fun u hu => by
    have := data_any p g A B D m u hu
    rw [hn.out, hx.out] at this; exact this)
  have hm73 := Hid.mk' (hh_len KH.out)
  have hm1 := Hid.mk' (hh_one KH.out)
  have hms : Hid (M.toArray.size = 73) := Hid.mk' (by rw [List.size_toArray]; exact hm73.out)
  clear h HE HM HR HS HNB HNM KH hbb hx
  go_enter Tryz.func13, Tryz.ntmps13
  go_wp2_with fail
  refine (wnone_no p g A B D m _ P1.out).mono ?_
  rintro e w2 ⟨rfl, d2⟩
  have P2 := Hid.mk' (P1.out.dr d2)
  have J2 := Hid.mk' (J1.out.dr d2)
  clear P1 J1 d2
  go_wp2_with fail
  refine (HD.out _ P2.out).mono ?_
  rintro e w3 ⟨rfl, d3⟩
  have P3 := Hid.mk' (P2.out.dr d3)
  have J3 := Hid.mk' (J2.out.dr d3)
  clear P2 J2 d3
  go_wp2_with fail
  refine (HF.out _ P3.out).mono ?_
  rintro e w4 ⟨rfl, b4⟩
  have b5 : Below w3.heap.size w3 (w4.alloc (.cells M.toArray 46)) := b4.alloc b4.size _
  have P5 := Hid.mk' (P3.out.below b5)
  have J5 : Hid (PJ w w4.heap.size M (w4.alloc (.cells M.toArray 46))) := Hid.mk' ⟨J3.out.below b5, heap_alloc_new w4 _⟩
  have hq : Hid (w.heap.size < w4.heap.size) := Hid.mk' (Nat.lt_of_lt_of_le J3.out.lt b4.size)
  clear P3 J3 b4 b5 HF HD
  go_upto_region 4 with (first | refine wpList_store_new rfl 46 _ _ rfl _ hz M (by rfl) (by rfl) (by rw [hm73.out, hz_len]) (by rw [hm73.out]; exact info_hh) hm1.out ?_)
  generalize (w4.alloc (.cells M.toArray 46)) = w5 at P5 J5 ⊢
  by_cases he : E = 0
  · obtain ⟨e1, e2, e3, hsl, hs40⟩ := Yes.out he
    have HHD := Hid.mk' (head_any p g A B D m (-(S : Int)) _ P5.out hm)
    have hmy : mayE B.length (-(S : Int)) = 0 := may_zero.2 ⟨by rw [hn.out]; omega, by rw [hn.out]; omega⟩
    have hhb : hB (-(S : Int)) B = B.drop S := by
      unfold hB; rw [if_pos hmy]
      by_cases h0 : S = 0
      · subst h0; rw [if_pos (by omega)]; simp
      · rw [if_neg (by omega), show (-(-(S : Int))).toNat = S by omega]
    have hmm : mM B.length (-(S : Int)) m = m + 1 := by unfold mM; rw [if_pos hmy]
    rw [hmy, hhb, hmm] at HHD
    have E2 := Hid.mk' e2
    have E3 := Hid.mk' e3
    subst he
    subst e1
    clear e2 e3 hmy hhb hmm Yes No
    have hS0 : -(9223372036854775808 : Int) ≤ -(S : Int) ∧ -(S : Int) ≤ 9223372036854775807 := by omega
    go_wp2_with fail
    refine HHD.out.mono ?_
    rintro e w6 ⟨rfl, g6, A6, D6, pk6, -, -, k6, hg6⟩
    have PK6 := Hid.mk' pk6
    have K6 := Hid.mk' k6
    have HG6 := Hid.mk' hg6
    have hp := hplt.out
    have hg := hglt.out
    have hq' := hq.out
    obtain ⟨N, hnl, hbx⟩ : ∃ N : List Value, Hid (N.length = 73) ∧ Hid (w6.heap[w.heap.size]? = some (.cells N.toArray 46 (0, 0))) := by
      obtain ⟨⟨N, hnl, hb⟩, -⟩ := J5.out.ho
      exact ⟨N, hnl, (k6.block _ (Array.getElem?_eq_some_iff.1 hb).1 (by rintro (e | e) <;> omega)).trans hb⟩
    have hmm : Hid (w6.heap[w4.heap.size]? = some (.cells M.toArray 46 (0, 0))) := Hid.mk' ((k6.block _ (Array.getElem?_eq_some_iff.1 J5.out.mm).1 (by rintro (e | e) <;> omega)).trans J5.out.mm)
    have hth : Hid (w6.there w.heap.size 0 M.toArray.size) := Hid.mk' (by have := there_block hbx.out; rw [hnl.out] at this; rw [hms.out]; exact this)
    have KW : Hid (Kept (pkS p g) w w6) := Hid.mk' ((Kept.of_below J5.out.ho.old).trans k6)
    have hs5 := J5.out.ho.old.size
    have hl5 := J5.out.ho.lt
    clear pk6 k6 hg6 HHD hp hg hq'
    go_wp2_with (first
      | refine wpList_load_mid rfl 46 _ rfl w4.heap.size 0 rfl M _ (range_block hmm.out) Tryz.underlying46 rfl (by rw [hm73.out]; exact info_hh) ?_
      | refine wpList_store_mid rfl 46 _ _ rfl w.heap.size 0 M.toArray rfl rfl hth.out (by rw [hms.out]; exact info_hh) hm1.out ?_)
    have kk : Kept (fun j => j = w.heap.size) w6 (w6.setCells w.heap.size 0 M) := (Kept.refl (fun k => k = w.heap.size) w6).setCells w.heap.size 0 M (fun _ => rfl)
    have D1 : (w6.setCells w.heap.size 0 M).heap[w.heap.size]? = some (.cells M.toArray 46 (0, 0)) := heap_whole (L := N) hbx.out (by rw [hm73.out, hnl.out])
    refine ret_cell_tmp rfl w.heap.size 46 M (0, 0) _ rfl D1 Tryz.underlying46 rfl (by rw [hm73.out]; exact info_hh) rfl ?_
    have hp := hplt.out
    have hg := hglt.out
    refine ⟨rfl, g6, A6, D6, by rw [E2.out, E3.out]; exact PK6.out.kept kk (by omega) (by rcases HG6.out with e | e <;> omega), KW.out.then kk (fun i hi e => by have e : i = w.heap.size := e; omega), ?_⟩
    rcases HG6.out with e | e
    · exact .inl e
    · exact .inr (by omega)
  · obtain ⟨e1, e2, e3⟩ := No.out he
    have hed : decide (E = 0) = false := by simp; exact he
    have heb : (E == 0) = false := by simp; exact he
    have E2 := Hid.mk' e2
    have E3 := Hid.mk' e3
    subst e1
    clear e2 e3 Yes No
    have hbx := J5.out.ho.there
    have HTH : Hid (w5.there w.heap.size 0 hz.toArray.size) := Hid.mk' (by rw [hz73.out]; exact hbx)
    clear hbx
    go_wp2_with (first
      | refine wpList_buildTo rfl 46 #[] rfl _ rfl hz.toArray (by exact wbzero) ?_
      | refine wpList_store_mid rfl 46 _ _ rfl w.heap.size 0 hz.toArray rfl rfl HTH.out (by rw [hz73.out]; exact info_hh) hz1.out ?_)
    obtain ⟨D1, D2, D3⟩ := J5.out.ho.done hz hz_len
    refine ret_cell_tmp rfl w.heap.size 46 hz (0, 0) _ rfl D1 Tryz.underlying46 rfl (by rw [hz_len]; exact info_hh) rfl ?_
    have hp := hplt.out
    have hg := hglt.out
    exact ⟨rfl, g, A, D, by rw [E2.out, E3.out]; exact P5.out.kept D3 (by omega) (by omega), Kept.of_below D2, .inl rfl⟩

theorem on_no (v : Value) (H : List Value) (w : World) (h : NoPk w v) (hb : ∀ p, v = .pointer (some ⟨p, 0, none⟩) → p < w.heap.size) : Calls Tryz.prog 12 #[v, .agg H.toArray] w fun e w' => e = .returned (.int .i64 1) ∧ Below w.heap.size w w' := by
  have b1 : Below w.heap.size w (w.alloc (.cells H.toArray 46)) := (Below.refl _ _).alloc (Nat.le_refl _) _
  have N1 : Hid (NoPk (w.alloc (.cells H.toArray 46)) v) := Hid.mk' (by
    rcases h with h | ⟨p, rfl, hc⟩
    · exact .inl h
    · exact .inr ⟨p, rfl, (b1.cell (p := ⟨p, 0, none⟩) (hb p rfl)).trans hc⟩)
  have B1 := Hid.mk' b1
  clear h hb b1
  go_enter Tryz.func12, Tryz.ntmps12
  go_wp2_with fail
  refine (wnone_yes v _ N1.out).mono ?_
  rintro e w2 ⟨rfl, rfl⟩
  go_wp2_with fail
  go_ret
  exact ⟨rfl, B1.out⟩

theorem off_no (v : Value) (k : Int) (w : World) (h : NoPk w v) (hb : ∀ p, v = .pointer (some ⟨p, 0, none⟩) → p < w.heap.size) : Calls Tryz.prog 13 #[v, .int .u8 k] w fun e w' => e = .returned (.tuple #[.agg hz.toArray, .int .i64 1]) ∧ Below w.heap.size w w' := by
  have J1 := Hid.mk' (HJ.first w)
  have hz73 : Hid (hz.toArray.size = 73) := Hid.mk' (by rw [List.size_toArray]; exact hz_len)
  have hz1 := Hid.mk' (hh_one hz_hh)
  have N1 : Hid (NoPk (w.alloc (.cells hz.toArray 46)) v) := Hid.mk' (by
    rcases h with h | ⟨p, rfl, hc⟩
    · exact .inl h
    · exact .inr ⟨p, rfl, (J1.out.old.cell (p := ⟨p, 0, none⟩) (hb p rfl)).trans hc⟩)
  clear h hb
  go_enter Tryz.func13, Tryz.ntmps13
  go_wp2_with fail
  refine (wnone_yes v _ N1.out).mono ?_
  rintro e w2 ⟨rfl, rfl⟩
  have hth := Hid.mk' J1.out.there
  go_wp2_with (first
    | refine wpList_buildTo rfl 46 #[] rfl _ rfl hz.toArray (by exact wbzero) ?_
    | refine wpList_store_new rfl 46 _ _ rfl _ hz hz (by rfl) (by rfl) rfl (by rw [hz_len]; exact info_hh) hz1.out ?_)
  refine ret_cell_tmp rfl w.heap.size 46 hz (0, 0) _ rfl (heap_alloc_new w _) Tryz.underlying46 rfl (by rw [hz_len]; exact info_hh) rfl ?_
  exact ⟨rfl, J1.out.old⟩
end Go.Proofs.YtednmdkjhiihcaaGreat
