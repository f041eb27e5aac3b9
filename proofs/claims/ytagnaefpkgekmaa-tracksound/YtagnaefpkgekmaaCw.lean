/- What TrackSound asks (mathematics). -/
import Derived.Test.YtagnaefpkgekmaaCv
import Derived.Test.YtagnaefpkgekmaaCh
import Derived.Test.YtagnaefpkgekmaaCr
namespace Go.Proofs.Ytagnaefpkgekmaa
open Go.ChangeShapes Go.WideShapes Go.ChangeAt Go.RowKit Go.Maps Go.Sort Go.Shelf
set_option maxRecDepth 10000

theorem ok_len {last b : Int} {l : List Kn} (h : okF last l = true) (hb : ∀ p ∈ l, p.1 ≤ b) (hl : last ≤ b) : (l.length : Int) ≤ b - last := by
  induction l generalizing last with
  | nil => simp; omega
  | cons p r ih =>
    obtain ⟨i, n⟩ := p
    have h : (decide (last < i) && isId i && okB n && okF i r) = true := h
    simp only [Bool.and_eq_true, decide_eq_true_eq] at h
    have h1 := h.1.1.1
    have h2 := hb (i, n) List.mem_cons_self
    simp only at h2
    have := ih h.2 (fun p hp => hb p (List.mem_cons_of_mem _ hp)) h2
    simp only [List.length_cons]
    omega
theorem out_len {zs : List Int} {l : List Kn} (h : OutOk zs l) : l.length ≤ 10 := by
  have := ok_len h.ok (b := 9) (fun p hp => (h.hl p hp).1.2) (by omega)
  omega
theorem out_ck {zs : List Int} {l : List Kn} (h : OutOk zs l) : ckN l = 0 := by
  have := out_len h
  unfold ckN
  rw [if_neg (by omega), if_pos h.ok]
theorem out_nf {zs : List Int} {f : Int → Int} (hf : Fn f) (h : ∀ z, f z ≠ 0 → (0 ≤ z ∧ z ≤ 9) ∧ zs.getD (1 + z.toNat) 0 + f z ≤ zs.getD 0 0) : OutOk zs (nf f) := by
  refine ⟨nf_ok hf, fun p hp => ?_⟩
  have h1 := (ok_all (nf_ok hf)).1 p hp
  obtain ⟨i, _, h2, rfl⟩ := (nf_mem f p).1 hp
  have := h i h2
  exact ⟨this.1, h1.2.2, this.2⟩
theorem out_by {zs : List Int} {l : List Kn} (h : OutOk zs l) (z : Int) (hz : byN l z ≠ 0) : (0 ≤ z ∧ z ≤ 9) ∧ zs.getD (1 + z.toNat) 0 + byN l z ≤ zs.getD 0 0 := by
  have hh : hasN l z = true := by
    cases e : hasN l z
    · exact absurd (by_of_not l z e) hz
    · rfl
  have := h.hl _ (by_mem l z hh)
  exact ⟨this.1, this.2.2⟩
theorem say_first {op pl LN : Int} (h : op = 29 ∨ op = 30 ∨ op = 31 ∨ op = 32) : sayN op (soB op pl LN) true ≠ 0 → pl + sayN op (soB op pl LN) true - 1 ≤ LN := by
  rcases h with rfl | rfl | rfl | rfl
  · show sayN 29 (decide (pl < LN)) true ≠ 0 → _
    by_cases e : pl < LN <;> simp [sayN, soB, e] <;> omega
  · show sayN 30 (decide (pl ≤ LN)) true ≠ 0 → _
    by_cases e : pl ≤ LN <;> simp [sayN, soB, e]
  · show sayN 31 (decide (LN < pl)) true ≠ 0 → _
    by_cases e : LN < pl <;> simp [sayN, soB, e] <;> omega
  · show sayN 32 (decide (LN ≤ pl)) true ≠ 0 → _
    by_cases e : LN ≤ pl <;> simp [sayN, soB, e] <;> omega
theorem say_second {op pl LN : Int} (h : op = 29 ∨ op = 30 ∨ op = 31 ∨ op = 32) : sayN op (soB op LN pl) false ≠ 0 → pl + sayN op (soB op LN pl) false - 1 ≤ LN := by
  rcases h with rfl | rfl | rfl | rfl
  · show sayN 29 (decide (LN < pl)) false ≠ 0 → _
    by_cases e : LN < pl <;> simp [sayN, soB, e] <;> omega
  · show sayN 30 (decide (LN ≤ pl)) false ≠ 0 → _
    by_cases e : LN ≤ pl <;> simp [sayN, soB, e] <;> omega
  · show sayN 31 (decide (pl < LN)) false ≠ 0 → _
    by_cases e : pl < LN <;> simp [sayN, soB, e] <;> omega
  · show sayN 32 (decide (pl ≤ LN)) false ≠ 0 → _
    by_cases e : pl ≤ LN <;> simp [sayN, soB, e]
theorem sa_out {zs : List Int} {l : List Kn} (h : OutOk zs l) (op : Int) (ho : op = 29 ∨ op = 30 ∨ op = 31 ∨ op = 32) (yes first : Bool) {i : Nat} (hi : i < 10) {off : Int} (h0 : 0 ≤ off) (hs : sayN op yes first ≠ 0 → zs.getD (1 + i) 0 + off + sayN op yes first - 1 ≤ zs.getD 0 0) :
    ∃ RL, saN l op yes first (ptV i off) = (RL, 0) ∧ OutOk zs RL := by
  have hck := out_ck h
  have hf := fn_by h.ok
  unfold saN
  by_cases e : sayN op yes first = 0
  · rw [if_pos e]
    exact ⟨_, rfl, out_nf hf (fun z hz => out_by h z hz)⟩
  · rw [if_neg e]
    have hs := hs e
    have hsy := sayN_val ho yes first
    generalize sayN op yes first = s at *
    have hid : isId (ptV i off).id = true := by show isId (i : Int) = true; unfold isId; simp; omega
    unfold pvN
    rw [if_pos hck, if_pos hid, if_neg (by show ¬ off + s - 1 < 0; omega)]
    refine ⟨_, rfl, ?_⟩
    have hb0 := hf.low i
    have hb1 := hf.high i
    refine out_nf (hf.upd ((isId_iff _).1 hid) ?_ ?_) (fun z hz => ?_)
    · show 0 ≤ max (byN l i) (min (off + s - 1) 2048); omega
    · show max (byN l i) (min (off + s - 1) 2048) ≤ 2048; omega
    · unfold pvF upd at hz ⊢
      by_cases ez : z = (ptV i off).id
      · rw [if_pos ez] at hz ⊢
        have ez : z = (i : Int) := ez
        subst ez
        have hz : max (byN l i) (min (off + s - 1) 2048) ≠ 0 := hz
        refine ⟨by omega, ?_⟩
        show zs.getD (1 + (i : Int).toNat) 0 + max (byN l i) (min (off + s - 1) 2048) ≤ zs.getD 0 0
        rw [Int.toNat_natCast]
        by_cases eb : byN l i = 0
        · rw [eb] at hz ⊢; omega
        · have := (out_by h i eb).2
          rw [Int.toNat_natCast] at this
          omega
      · rw [if_neg ez] at hz ⊢
        exact out_by h z hz
theorem pt_pt {i : Nat} (hi : i < 10) {off : Int} (h0 : 0 ≤ off) (h1 : off ≤ 2048) : isPt (ptV i off) = true := (isPt_iff _).2 ⟨rfl, by show (0 : Int) ≤ (i : Int) ∧ (i : Int) ≤ 256; omega, h0, h1, rfl, rfl⟩
theorem en_en : isEn enV = true := by decide +kernel
theorem en_npt : isPt enV = false := by decide +kernel
theorem isOr_of {op : Int} (h : op = 29 ∨ op = 30 ∨ op = 31 ∨ op = 32) : isOr op = true := by unfold isOr; simp; omega
/-- What is shown is true: the pointer first. -/
theorem sound_first {zs : List Int} {l : List Kn} (h : OutOk zs l) {op : Int} (ho : op = 29 ∨ op = 30 ∨ op = 31 ∨ op = 32) {i : Nat} (hi : i < 10) {off : Int} (h0 : 0 ≤ off) (h1 : off ≤ 2048) :
    ∃ RL, shN l op (soB op (zs.getD (1 + i) 0 + off) (zs.getD 0 0)) (ptV i off) enV = (RL, 0) ∧ OutOk zs RL := by
  unfold shN
  rw [if_pos (out_ck h), if_pos (isOr_of ho), if_pos (pt_pt hi h0 h1), if_pos en_en]
  exact sa_out h op ho _ _ hi h0 (say_first ho)
theorem sound_second {zs : List Int} {l : List Kn} (h : OutOk zs l) {op : Int} (ho : op = 29 ∨ op = 30 ∨ op = 31 ∨ op = 32) {i : Nat} (hi : i < 10) {off : Int} (h0 : 0 ≤ off) (h1 : off ≤ 2048) :
    ∃ RL, shN l op (soB op (zs.getD 0 0) (zs.getD (1 + i) 0 + off)) enV (ptV i off) = (RL, 0) ∧ OutOk zs RL := by
  unfold shN
  rw [if_pos (out_ck h), if_pos (isOr_of ho), if_neg (by rw [en_npt]; simp), if_pos en_en, if_pos (pt_pt hi h0 h1)]
  exact sa_out h op ho _ _ hi h0 (say_second ho)
/-- What is within lies within the packet. -/
theorem sound_within {zs : List Int} {l : List Kn} (hz : WOk zs) (h : OutOk zs l) {i : Nat} (hi : i < 10) {off far size : Int} (h0 : 0 ≤ off) (h1 : off ≤ 2048) (hs : 1 ≤ size ∧ size ≤ 8) :
    ∃ b, wiN l (ptV i off) far size = (b, 0) ∧ (b = true → 0 ≤ zs.getD (1 + i) 0 + off + far ∧ zs.getD (1 + i) 0 + off + far + size ≤ zs.getD 0 0) := by
  unfold wiN
  rw [if_pos (out_ck h), if_pos (pt_pt hi h0 h1), if_pos hs]
  refine ⟨_, rfl, fun hb => ?_⟩
  unfold wiB at hb
  rw [Bool.and_eq_true, decide_eq_true_eq, decide_eq_true_eq] at hb
  obtain ⟨b1, b2⟩ := hb
  have b1 : -off ≤ far := b1
  have b2 : far ≤ byN l (i : Int) - off - size := b2
  have hp := hz.p0 i hi
  have hb : byN l i ≠ 0 := by omega
  have := (out_by h i hb).2
  rw [Int.toNat_natCast] at this
  omega
end Go.Proofs.Ytagnaefpkgekmaa
