/- The document's has, opens, wrong, Check. -/
import Derived.Test.YtffjddabjjcjpaaFr
import Derived.Test.YtffjddabjjcjpaaId
namespace Go.Proofs.Ytffjddabjjcjpaa
open Go.ChangeShapes Go.WideShapes Go.ChangeAt Go.RowKit
set_option maxRecDepth 10000
variable {L : List Q5}

theorem iw_list {w : World} {base : Nat} {v : Value} {zs : List Int} (h : Iw w base v zs) : ∃ a c, v = .slice a zs.length c ∧ (zs.length = 0 ∨ ∃ b off, a = some ⟨b, off, none⟩ ∧ b < w.heap.size ∧ ∀ (k : Nat) (y : Int), zs[k]? = some y → w.cell? ⟨b, off + k, none⟩ = some (.int .i64 y)) := by
  obtain ⟨a, c, rfl, hl⟩ := h.lies
  refine ⟨a, c, rfl, ?_⟩
  rcases hl with h0 | ⟨b, off, rfl, h1, h2, h3, h4⟩
  · exact .inl (by rw [h0]; rfl)
  · refine .inr ⟨b, off, rfl, h2, fun k y hy => ?_⟩
    have hk := (List.getElem?_eq_some_iff.1 hy).1
    have := (h4 k (by simpa using hk)).1
    rw [this]
    have e : zs[k] = y := (List.getElem?_eq_some_iff.1 hy).2
    simp [hk, e]

theorem has_list (base : Nat) (v : Value) (zs : List Int) (x : Int) (w : World) (hI : Iw w base v zs) (hl : zs.length ≤ 1000) :
    Calls Try.prog 45 #[v, .int .i64 x] w fun e w' => e = .returned (.bool (decide (x ∈ zs))) ∧ w = w' := by
  obtain ⟨a, c, rfl, hz⟩ := iw_list hI
  obtain ⟨q, hq⟩ : ∃ q, Hid (zs.length = q) := ⟨_, Hid.mk' rfl⟩
  rw [hq.out] at hz hl ⊢
  have HZ := Hid.mk' hz
  clear hz hI
  obtain ⟨B, hB⟩ : ∃ B, Hid (decide (x ∈ zs) = B) := ⟨_, Hid.mk' rfl⟩
  rw [hB.out]
  go_enter Try.func45, Try.ntmps45
  go_wp2_with fail
  go_loopw [5] (fun i wr => ∃ k : Nat, k ≤ q ∧ i = .int .i64 k ∧ Hid (∀ j, j < k → zs[j]? ≠ some x) ∧ wr = w) (fun i _ => q - (intOf i).toNat)
  case atStart => exact ⟨0, Nat.zero_le _, rfl, Hid.mk' (fun j hj => by omega), rfl⟩
  case round =>
    obtain ⟨k, hk, rfl, hno, rfl⟩ := hrel
    by_cases hlt : k < q
    · have hlk : (k : Int) < (q : Int) := by omega
      rcases HZ.out with h0 | ⟨b, off, rfl, hb, hc⟩
      · omega
      obtain ⟨y, hy⟩ : ∃ y, zs[k]? = some y := ⟨_, List.getElem?_eq_getElem (by rw [hq.out]; exact hlt)⟩
      have c0 := hc k y hy
      have HY := Hid.mk' hy
      clear hc hy
      by_cases hyx : y = x
      · have hB1 : B = true := by
          rw [← hB.out]
          exact decide_eq_true (List.mem_of_getElem? (by rw [← hyx]; exact HY.out))
        subst hyx hB1
        go_wp2_with fail
        go_ret
        exact ⟨rfl, rfl⟩
      · go_wp2_with fail
        go_roundw
        case rel => exact ⟨k + 1, hlt, by go_num, Hid.mk' (fun j hj => by
            by_cases c : j < k
            · exact hno.out j c
            · have : j = k := by omega
              rw [this, HY.out]
              simpa using hyx), by trivial⟩
        case measure => simp [intOf]; omega
    · have hlk : ¬ (k : Int) < (q : Int) := by omega
      have hkq : k = q := by omega
      have hB0 : B = false := by
        rw [← hB.out]
        refine decide_eq_false (fun h => ?_)
        obtain ⟨j, hj⟩ := List.getElem?_of_mem h
        have := (List.getElem?_eq_some_iff.1 hj).1
        exact hno.out j (by rw [hkq, ← hq.out]; exact this) hj
      subst hB0
      go_wp2_with fail
      go_ret
      exact ⟨rfl, rfl⟩

set_option maxHeartbeats 1000000 in
theorem opens_any (b off c n x : Nat) (w : World) (hL : L.length = n) (hC : Lie w b off L) (hn : n ≤ 256) (hx : x < n) (h34 : opA L x = 34) :
    Calls Try.prog 44 #[.slice (some ⟨b, off, none⟩) n c, .int .i64 x] w fun e w' => e = .returned (.bool (decide (top (stk L x) ≠ -1))) ∧ w = w' := by
  have HC := Hid.mk' hC
  have HL := Hid.mk' hL
  clear hC hL
  have H34 := Hid.mk' h34
  clear h34
  have KC : Hid (∀ (k : Nat), k < n → opA L k = 33 → Calls Try.prog 35 #[.slice (some ⟨b, off, none⟩) n c, .int .i64 k] w fun e w' => e = .returned (.int .i64 (enN L n k)) ∧ w = w') := Hid.mk' (fun k hk h33 => closes_any b off c n k w HL.out HC.out hn hk h33)
  obtain ⟨B, hB⟩ : ∃ B, Hid (decide (top (stk L x) ≠ -1) = B) := ⟨_, Hid.mk' rfl⟩
  rw [hB.out]
  go_enter Try.func44, Try.ntmps44
  go_wp2_with fail
  go_loopw [5] (fun i wr => ∃ k : Nat, k ≤ x ∧ i = .int .i64 k ∧ Hid (∀ j, j < k → ¬ (opA L j = 33 ∧ enN L n j = (x : Int))) ∧ wr = w) (fun i _ => x - (intOf i).toNat)
  case atStart => exact ⟨0, Nat.zero_le _, rfl, Hid.mk' (fun j hj => by omega), rfl⟩
  case round =>
    obtain ⟨k, hk, rfl, hno, rfl⟩ := hrel
    by_cases hlt : k < x
    · have hlk : (k : Int) < (x : Int) := by omega
      have hln : (k : Int) < (n : Int) := by omega
      obtain ⟨p, d, s, o, i, hq, q1, -, -⟩ := at_get (L := L) (k := k) (by rw [HL.out]; omega)
      obtain ⟨c0, -, -, -, -⟩ := HC.out k _ _ _ _ _ hq
      have Q1 := Hid.mk' q1
      clear hq q1
      by_cases hp3 : p = 33
      · subst hp3
        have K := Hid.mk' (KC.out k (by omega) Q1.out)
        obtain ⟨E, hE⟩ : ∃ E, Hid (enN L n k = E) := ⟨_, Hid.mk' rfl⟩
        rw [hE.out] at K
        by_cases hEx : E = (x : Int)
        · have hB1 : B = true := by
            rw [← hB.out]
            obtain ⟨e', e1, e2, e3, e4, e5, e6⟩ := en_some (L := L) (n := n) (j := k) (by rw [hE.out]; omega)
            have : e' = x := by rw [hE.out] at e1; omega
            subst this
            rw [e6]
            exact decide_eq_true (show (k : Int) ≠ -1 by omega)
          subst hEx hB1
          go_wp2_with (go_at_call 35; refine K.out.mono ?_; rintro e w4 ⟨rfl, rfl⟩)
          go_ret
          exact ⟨rfl, rfl⟩
        · go_wp2_with (go_at_call 35; refine K.out.mono ?_; rintro e w4 ⟨rfl, rfl⟩)
          go_roundw
          case rel => exact ⟨k + 1, hlt, by go_num, Hid.mk' (fun j hj => by
              by_cases c : j < k
              · exact hno.out j c
              · have : j = k := by omega
                rw [this, hE.out]
                exact fun h => hEx h.2), by trivial⟩
          case measure => simp [intOf]; omega
      · go_wp2_with fail
        go_roundw
        case rel => exact ⟨k + 1, hlt, by go_num, Hid.mk' (fun j hj => by
            by_cases c : j < k
            · exact hno.out j c
            · have : j = k := by omega
              rw [this, Q1.out]
              exact fun h => hp3 h.1), by trivial⟩
        case measure => simp [intOf]; omega
    · have hlk : ¬ (k : Int) < (x : Int) := by omega
      have hkx : k = x := by omega
      have hB0 : B = false := by
        rw [← hB.out]
        refine decide_eq_false (fun h => ?_)
        rcases top_cases (L := L) x with ⟨-, e⟩ | ⟨r, h1, h2, h3, h4⟩
        · exact h e
        · exact hno.out r (by omega) ⟨h2, en_top H34.out h4 hx⟩
      subst hB0
      go_wp2_with fail
      go_ret
      exact ⟨rfl, rfl⟩

/-- All of one pile are of another's, or not. -/
theorem sub_top {k t : Nat} (hj : isJ (opA L k) = true) (hkt : k < t) : (∀ y, y ∈ inL L t → y ∈ inL L k) ↔ top (stk L t) ≤ k := by
  have hne : opA L k ≠ 33 := by
    intro e
    rw [e] at hj
    simp [isJ] at hj
  constructor
  · intro h
    rcases top_cases (L := L) t with ⟨-, e⟩ | ⟨r, h1, h2, h3, h4⟩
    · omega
    · rw [h4]
      have hr : r ∈ stk L t := by rw [h3]; exact List.mem_cons_self
      have := h r (by unfold inL; rw [List.mem_map]; exact ⟨r, by simpa using hr, rfl⟩)
      unfold inL at this
      rw [List.mem_map] at this
      obtain ⟨r', h5, h6⟩ := this
      have h7 : r' = r := by omega
      rw [h7] at h5
      have := (stk_lt (show r ∈ stk L k by simpa using h5)).1
      omega
  · intro h y hy
    unfold inL at hy ⊢
    rw [List.mem_map] at hy ⊢
    obtain ⟨r, h1, rfl⟩ := hy
    have hr : r ∈ stk L t := by simpa using h1
    refine ⟨r, ?_, rfl⟩
    have hle : r ≤ k := by
      cases hs : stk L t with
      | nil => rw [hs] at hr; simp at hr
      | cons q u =>
        rw [hs] at hr h
        have hq : (q : Int) ≤ k := h
        have hd := stk_dec (L := L) t
        rw [hs] at hd
        rcases List.mem_cons.1 hr with rfl | hr
        · omega
        · have := (List.pairwise_cons.1 hd).1 r hr
          omega
    have hrk : r ≠ k := fun e => hne (by rw [← e]; exact (stk_lt hr).2)
    have := stk_back hr (j := k) (by omega) (by omega)
    simpa using this
end Go.Proofs.Ytffjddabjjcjpaa
