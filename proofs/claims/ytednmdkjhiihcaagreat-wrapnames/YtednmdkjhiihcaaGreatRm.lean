/- Stage 12: mathematics: put on and taken off, one header and several. -/
import Derived.Test.YtednmdkjhiihcaaGreatRa
namespace Go.Proofs.YtednmdkjhiihcaaGreat
open Go.ChangeShapes Go.WideShapes Go.ChangeAt Go.RowKit
set_option maxRecDepth 10000

/-- A header that was read is written again. -/
theorem b_again {k : Int} {zs : List Int} (h0 : 1 ≤ k) (h1 : k ≤ 6) (hb : Bytes zs) (he : rE k zs = 0) (hl : zs.length ≤ 2048) : sz k ≤ zs.length ∧ bE k (rL k zs) (zs.drop (sz k)) = 0 ∧ bB k (rL k zs) (zs.drop (sz k)) = zs.take (sz k) := by
  rcases six h0 h1 with rfl | rfl | rfl | rfl | rfl | rfl
  · have hlen : 14 ≤ zs.length := by
      have he : K05.rdE zs = 0 := he
      unfold K05.rdE at he; split at he <;> omega
    have hx := K05.lk_of hb hlen
    have eL : rL 1 zs = K05.lkC (K05.rdD zs) (K05.rdS zs) (K05.rdT zs) := by
      show K05.rdL zs = _
      unfold K05.rdL; rw [if_pos hlen]
    have hn : (zs.drop 14).length ≤ 2034 := by rw [List.length_drop]; omega
    rw [eL]
    refine ⟨hlen, ?_, ?_⟩
    · show K05.byE (zs.drop 14).length = 0
      unfold K05.byE; rw [if_pos hn]
    · show lB _ (zs.drop 14).length = zs.take 14
      rw [lB_of hx]; unfold K05.byB; rw [if_pos hn]
      exact K05.lkB_rd hb hlen
  · exact K06.m_again hb he hl
  · exact K07.m_again hb he hl
  · exact K08.m_again hb he hl
  · exact K09.m_again hb he hl
  · exact K10.m_again hb he hl

theorem bE_room {k : Int} {L : List Value} {ys : List Int} (h : KHd k L) (he : bE k L ys = 0) : ys.length + sz k ≤ 2048 := by
  rcases six h.1 h.2.1 with rfl | rfl | rfl | rfl | rfl | rfl
  · have he : K05.byE ys.length = 0 := he
    show ys.length + 14 ≤ 2048
    unfold K05.byE at he; split at he <;> omega
  · have := (K06.byE_zero (L := L) (ys := ys) he).2; show ys.length + 4 ≤ 2048; omega
  · have := (K07.byE_zero (L := L) (ys := ys) he).2; show ys.length + 20 ≤ 2048; omega
  · have := (K08.byE_zero (L := L) (ys := ys) he).2; show ys.length + 40 ≤ 2048; omega
  · have := (K09.byE_zero (L := L) (ys := ys) he).2; show ys.length + 20 ≤ 2048; omega
  · have := (K10.byE_zero (L := L) (ys := ys) he).2; show ys.length + 8 ≤ 2048; omega

/-- What Push needs to be done. -/
structure PuOk (H : List Value) (ys : List Int) : Prop where
  k0 : 1 ≤ num H 0
  k1 : num H 0 ≤ 6
  kh : KHd (num H 0) (pt (num H 0) H)
  eq : hk (num H 0) (pt (num H 0) H) = H
  ck : cE H = 0
  be : bE (num H 0) (pt (num H 0) H) ys = 0
  room : ys.length + sz (num H 0) ≤ 2048
  len : (bB (num H 0) (pt (num H 0) H) ys).length = sz (num H 0)
  val : puB H ys = bB (num H 0) (pt (num H 0) H) ys ++ ys

theorem pu_ck {H : List Value} {ys : List Int} (he : puE H ys = 0) : cE H = 0 ∧ bE (num H 0) (pt (num H 0) H) ys = 0 := by
  unfold puE at he
  split at he
  · exact ⟨by assumption, he⟩
  · rename_i hc; exact absurd he hc

theorem pu_ok {H : List Value} {ys : List Int} (h : Hh H) (hy : Bytes ys) (he : puE H ys = 0) : PuOk H ys := by
  obtain ⟨hc, hb⟩ := pu_ck he
  obtain ⟨k0, k1, kh, eq, -⟩ := cE_ok h hc
  exact ⟨k0, k1, kh, eq, hc, hb, bE_room kh hb, (b_back kh hy hb).1, by unfold puB; rw [if_pos he]⟩

theorem pu_no {H : List Value} {ys : List Int} (he : ¬ puE H ys = 0) : puB H ys = [] := by unfold puB; rw [if_neg he]

theorem puB_bytes {H : List Value} {ys : List Int} (h : Hh H) (hy : Bytes ys) : Bytes (puB H ys) := by
  by_cases he : puE H ys = 0
  · have p := pu_ok h hy he
    rw [p.val]; exact bytes_append (bB_bytes p.kh hy) hy
  · rw [pu_no he]; intro z hz; cases hz

theorem puB_len {H : List Value} {ys : List Int} (h : Hh H) (hy : Bytes ys) (he : puE H ys = 0) : (puB H ys).length = sz (num H 0) + ys.length := by
  have p := pu_ok h hy he
  rw [p.val, List.length_append, p.len]

theorem puB_most {H : List Value} {ys : List Int} (h : Hh H) (hy : Bytes ys) : (puB H ys).length ≤ 2048 := by
  by_cases he : puE H ys = 0
  · rw [puB_len h hy he]; have := (pu_ok h hy he).room; omega
  · rw [pu_no he]; simp

/-- A header that is put on and taken off again. -/
theorem push_back {H : List Value} {ys : List Int} (h : Hh H) (hy : Bytes ys) (he : puE H ys = 0) : poE (num H 0) (puB H ys) = 0 ∧ poH (num H 0) (puB H ys) = H ∧ poR (num H 0) (puB H ys) = ys := by
  have p := pu_ok h hy he
  obtain ⟨e1, e2, e3⟩ := b_back p.kh hy p.be
  have ho : poE (num H 0) (puB H ys) = 0 := by
    unfold poE; rw [if_pos ⟨p.k0, p.k1⟩, p.val]; exact e3
  refine ⟨ho, ?_, ?_⟩
  · unfold poH; rw [if_pos ho, p.val, e2]; exact p.eq
  · unfold poR; rw [if_pos ho, p.val, List.drop_left' e1]

theorem po_in {k : Int} {zs : List Int} (he : poE k zs = 0) : 1 ≤ k ∧ k ≤ 6 ∧ rE k zs = 0 := by
  unfold poE at he
  split at he
  · rename_i h; exact ⟨h.1, h.2, he⟩
  · omega

/-- A header that is taken off and put on again. -/
theorem pop_back {k : Int} {zs : List Int} (hb : Bytes zs) (he : poE k zs = 0) (hl : zs.length ≤ 2048) : puE (poH k zs) (poR k zs) = 0 ∧ puB (poH k zs) (poR k zs) = zs ∧ num (poH k zs) 0 = k ∧ cE (poH k zs) = 0 := by
  obtain ⟨h0, h1, hr⟩ := po_in he
  obtain ⟨a1, a2, a3⟩ := b_again h0 h1 hb hr hl
  have kh := rL_hd h0 h1 hb
  have eH : poH k zs = hk k (rL k zs) := by unfold poH; rw [if_pos he]
  have eR : poR k zs = zs.drop (sz k) := by unfold poR; rw [if_pos he]
  have hc : cE (hk k (rL k zs)) = 0 := by rw [cE_hk kh]; exact kC_bytes kh a2
  rw [eH, eR]
  have hp : puE (hk k (rL k zs)) (zs.drop (sz k)) = 0 := by
    unfold puE; rw [if_pos hc, hk_kind, pt_hk kh]; exact a2
  refine ⟨hp, ?_, hk_kind _ _, hc⟩
  unfold puB
  rw [if_pos hp, hk_kind, pt_hk kh, a3, List.take_append_drop]

theorem po_no {k : Int} {zs : List Int} (he : ¬ poE k zs = 0) : poH k zs = hz ∧ poR k zs = [] := by
  unfold poH poR; rw [if_neg he, if_neg he]; exact ⟨rfl, rfl⟩

theorem poR_bytes {k : Int} {zs : List Int} (hb : Bytes zs) : Bytes (poR k zs) := by
  unfold poR; split
  · exact fun z hz => hb z (List.mem_of_mem_drop hz)
  · intro z hz; cases hz
theorem poR_len (k : Int) (zs : List Int) : (poR k zs).length ≤ zs.length := by
  unfold poR; split
  · rw [List.length_drop]; omega
  · simp

/-- Several headers put on, the last one first. -/
def stP : List (List Value) → List Int → Int × List Int
  | [], ys => (0, ys)
  | H :: r, ys => if (stP r ys).1 = 0 then (puE H (stP r ys).2, puB H (stP r ys).2) else ((stP r ys).1, [])
def skE (l : List (List Value)) (ys : List Int) : Int := if l.length ≤ 8 then (stP l ys).1 else 3
def skB (l : List (List Value)) (ys : List Int) : List Int := if skE l ys = 0 then (stP l ys).2 else []

theorem stP_bytes : ∀ (l : List (List Value)) (ys : List Int), (∀ H ∈ l, Hh H) → Bytes ys → Bytes (stP l ys).2
  | [], ys, _, hy => hy
  | H :: r, ys, hl, hy => by
    have ih := stP_bytes r ys (fun J hJ => hl J (List.mem_cons_of_mem _ hJ)) hy
    unfold stP; split
    · exact puB_bytes (hl H List.mem_cons_self) ih
    · intro z hz; cases hz

theorem stP_len : ∀ (l : List (List Value)) (ys : List Int), (∀ H ∈ l, Hh H) → Bytes ys → (stP l ys).2.length ≤ 2048 ∨ (l = [] ∧ (stP l ys).2 = ys)
  | [], ys, _, _ => .inr ⟨rfl, rfl⟩
  | H :: r, ys, hl, hy => by
    have ih := stP_bytes r ys (fun J hJ => hl J (List.mem_cons_of_mem _ hJ)) hy
    refine .inl ?_
    unfold stP; split
    · exact puB_most (hl H List.mem_cons_self) ih
    · simp

/-- A stack that was put on: each step. -/
theorem stP_cons {H : List Value} {r : List (List Value)} {ys : List Int} (he : (stP (H :: r) ys).1 = 0) : (stP r ys).1 = 0 ∧ puE H (stP r ys).2 = 0 ∧ (stP (H :: r) ys).2 = puB H (stP r ys).2 := by
  unfold stP at he
  split at he
  · rename_i h
    refine ⟨h, he, ?_⟩
    show (if (stP r ys).1 = 0 then (puE H (stP r ys).2, puB H (stP r ys).2) else ((stP r ys).1, [])).2 = _
    rw [if_pos h]
  · rename_i h; exact absurd he h

theorem stP_drop : ∀ (l : List (List Value)) (ys : List Int) (i : Nat), (stP l ys).1 = 0 → (stP (l.drop i) ys).1 = 0
  | l, ys, 0, h => by simpa using h
  | [], ys, i + 1, h => by simpa using h
  | H :: r, ys, i + 1, h => by
    rw [List.drop_succ_cons]
    exact stP_drop r ys i (stP_cons h).1

/-- Where stacking goes wrong, it stays so. -/
theorem stP_bad : ∀ (l : List (List Value)) (ys : List Int) (i : Nat), ¬ (stP (l.drop i) ys).1 = 0 → (stP l ys).1 = (stP (l.drop i) ys).1
  | l, ys, 0, _ => by simp
  | [], ys, i + 1, h => by simp
  | H :: r, ys, i + 1, h => by
    rw [List.drop_succ_cons] at h ⊢
    have ih := stP_bad r ys i h
    have hr : ¬ (stP r ys).1 = 0 := by rw [ih]; exact h
    rw [← ih]
    show (if (stP r ys).1 = 0 then (puE H (stP r ys).2, puB H (stP r ys).2) else ((stP r ys).1, [])).1 = _
    rw [if_neg hr]

/-- One header is taken off a stack. -/
theorem stP_pop {l : List (List Value)} {ys : List Int} {i : Nat} {H : List Value} (hl : ∀ J ∈ l, Hh J) (hy : Bytes ys) (he : (stP l ys).1 = 0) (hi : l[i]? = some H) :
    poE (num H 0) (stP (l.drop i) ys).2 = 0 ∧ poH (num H 0) (stP (l.drop i) ys).2 = H ∧ poR (num H 0) (stP (l.drop i) ys).2 = (stP (l.drop (i + 1)) ys).2 ∧ Bytes (stP (l.drop i) ys).2 ∧ (stP (l.drop i) ys).2.length ≤ 2048 := by
  have hlt := (List.getElem?_eq_some_iff.1 hi).1
  have hHe := (List.getElem?_eq_some_iff.1 hi).2
  have hd : l.drop i = H :: l.drop (i + 1) := by rw [List.drop_eq_getElem_cons hlt, hHe]
  have h1 := stP_drop l ys i he
  rw [hd] at h1 ⊢
  obtain ⟨a1, a2, a3⟩ := stP_cons h1
  have hH := hl H (List.mem_of_getElem? hi)
  have hb := stP_bytes (l.drop (i + 1)) ys (fun J hJ => hl J (List.mem_of_mem_drop hJ)) hy
  rw [a3]
  obtain ⟨p1, p2, p3⟩ := push_back hH hb a2
  exact ⟨p1, p2, p3, puB_bytes hH hb, puB_most hH hb⟩

/-- A stack as kinds and cells. -/
def toHs (l : List (List Value)) : Hs := l.map (fun H => (num H 0, pt (num H 0) H))

theorem toHs_ok : ∀ (l : List (List Value)) (ys : List Int), (∀ H ∈ l, Hh H) → Bytes ys → (stP l ys).1 = 0 → HsOk (toHs l) ∧ wP (toHs l) ys = some (stP l ys).2 ∧ hsC (toHs l) = l.flatten ∧ ∀ H ∈ l, cE H = 0
  | [], ys, _, _, _ => ⟨HsOk.nil, rfl, rfl, fun H hH => by cases hH⟩
  | H :: r, ys, hl, hy, he => by
    obtain ⟨a1, a2, a3⟩ := stP_cons he
    have hr : ∀ J ∈ r, Hh J := fun J hJ => hl J (List.mem_cons_of_mem _ hJ)
    obtain ⟨i1, i2, i3, i4⟩ := toHs_ok r ys hr hy a1
    have hb := stP_bytes r ys hr hy
    have p := pu_ok (hl H List.mem_cons_self) hb a2
    refine ⟨?_, ?_, ?_, ?_⟩
    · intro x hx
      rcases List.mem_cons.1 hx with rfl | hx
      · exact p.kh
      · exact i1 x hx
    · show (match wP (toHs r) ys with | some q => if bE (num H 0) (pt (num H 0) H) q = 0 then some (bB (num H 0) (pt (num H 0) H) q ++ q) else none | none => none) = _
      rw [i2]; simp only; rw [if_pos p.be, a3, p.val]
    · show hk (num H 0) (pt (num H 0) H) ++ hsC (toHs r) = _
      rw [i3, p.eq]; rfl
    · intro J hJ
      rcases List.mem_cons.1 hJ with rfl | hJ
      · exact p.ck
      · exact i4 J hJ
end Go.Proofs.YtednmdkjhiihcaaGreat
