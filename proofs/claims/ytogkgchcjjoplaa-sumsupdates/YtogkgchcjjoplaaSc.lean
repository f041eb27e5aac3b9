/- Contracts of the statements' own helpers: CopyBytes, EqBytes, and of the document's own Sum, Field, Diff. -/
import Derived.Test.YtogkgchcjjoplaaSb
import Derived.Test.YtogkgchcjjoplaaWa
import Derived.Laws.AppendOwnNone
namespace Go.Proofs.Ytogkgchcjjoplaa
open Go.ChangeShapes Go.WideShapes Go.ChangeAt Go.RowKit

theorem info_u8 : (Try.prog.info? 5).map (fun i => (i.zero, i.size, i.bytes)) = some (some (.int .u8 0), 1, 1) := by kernel_rfl

theorem addr_add (b off i : Nat) : Addr.add ⟨b, off, none⟩ i = ⟨b, off + i, none⟩ := by
  unfold Addr.add; split
  · rename_i e; subst e; rfl
  · rfl

/-- A row of bytes of the call's own, as the contracts take it. -/
theorem bs_own {w : World} {base : Nat} {t : TypeId} {v : Value} {zs : List Int} (h : w.ownsRow base t 1 v zs.length (zs.map (Value.int .u8))) (hb : Bytes zs) (hl : zs.length ≤ 140737488355328) :
    ∃ a c, v = .slice a zs.length c ∧ Bs w a zs ∧ (a = none → c = 0) := by
  have h0 := h
  obtain ⟨_, h2⟩ := h
  rcases h2 with ⟨rfl, h3⟩ | ⟨g, cap, cur, rfl, hg, hh, hn, hcap, hsz, htake⟩
  · exact ⟨none, 0, by rw [h3], ⟨hl, hb, .inl h3⟩, fun _ => rfl⟩
  · refine ⟨_, cap, rfl, ⟨hl, hb, .inr ⟨g, 0, rfl, fun i hi => ?_⟩⟩, fun e => by cases e⟩
    have := h0.cellAt i (by simpa using hi)
    rw [Nat.zero_add, this]
    simp [hi]

set_option maxHeartbeats 400000 in
theorem copy_any (a : Option Addr) (c : Nat) (zs : List Int) (w : World) (hB : Bs w a zs) (hn : a = none → c = 0) :
    Calls Try.prog 9 #[.slice a zs.length c] w fun e w' => ∃ v, e = .returned v ∧ w'.ownsRow w.heap.size 5 1 v zs.length (zs.map (Value.int .u8)) ∧ Below w.heap.size w w' := by
  obtain ⟨i0, hi, hz0, hz1, hz2⟩ := info_parts info_u8
  obtain ⟨hl, hby, hat⟩ := hB
  cases a with
  | none =>
    obtain rfl := hn rfl
    rcases hat with h0 | ⟨b, off, h, _⟩
    · obtain rfl := List.eq_nil_of_length_eq_zero h0
      go_enter Try.func9, Try.ntmps9
      go_wp2_with (first | (at_builtin; refine wpList_append_own_none rfl _ _ 22 rfl w.heap.size 5 i0 1 Try.underlying22 hi _ _ _ rfl (World.ownsRow_nil _ _ _ _) rfl ?_))
      go_ret
      exact ⟨_, rfl, World.ownsRow_nil _ _ _ _, Below.refl _ _⟩
    · cases h
  | some ad =>
    have hnews : ∀ j u, (zs.map (Value.int .u8))[j]? = some u → w.cell? (ad.add j) = some u := by
      intro j u hj
      rcases hat with h0 | ⟨b, off, h, hc⟩
      · obtain rfl := List.eq_nil_of_length_eq_zero h0; simp at hj
      · cases h
        have hlt : j < zs.length := by
          have := (List.getElem?_eq_some_iff.1 hj).1; simpa using this
        rw [addr_add, hc j hlt]
        simp [hlt] at hj
        simp [hlt, hj]
    clear hat hn
    go_enter Try.func9, Try.ntmps9
    go_wp2_with (first | (at_builtin; refine wpList_append_own _ rfl _ _ 22 rfl w.heap.size 5 i0 (.int .u8 0) 1 1 Try.underlying22 hi hz0 hz1 hz2 rfl (by decide) _ _ _ rfl (World.ownsRow_nil _ _ _ _) ad zs.length c (zs.map (Value.int .u8)) rfl (by simp) hnews ?c1 ?c2 ?c3 ?c4 ?_))
    case c1 => intro u hu; simp at hu; obtain ⟨z, _, rfl⟩ := hu; rfl
    case c2 => unfold maxLen; omega
    case c3 => omega
    case c4 => exact Nat.le_refl _
    intro v' w1 hown hgrow hiff
    clear hiff
    have hb : Below w.heap.size w w1 := (Below.refl _ _).grown hgrow (Nat.le_refl _) (by intro k hk; simp [Value.ownBlock] at hk)
    clear hgrow
    go_wp2_with fail
    go_ret
    exact ⟨_, rfl, hown, hb⟩

theorem ret_bool {a b : Bool} (h : a = b) : Ending.returned (.bool a) = .returned (.bool b) := by rw [h]

theorem same_of_getD (xs ys : List Int) (hl : xs.length = ys.length) (h : ∀ i, i < xs.length → xs.getD i 0 = ys.getD i 0) : xs = ys := by
  apply List.ext_getElem hl
  intro i h1 h2
  have := h i h1
  rw [List.getD_eq_getElem?_getD, List.getD_eq_getElem?_getD, List.getElem?_eq_getElem h1, List.getElem?_eq_getElem h2] at this
  simpa using this

set_option maxHeartbeats 1000000 in
theorem eq_any (a b : Option Addr) (c d : Nat) (xs ys : List Int) (w : World) (hx : Bs w a xs) (hy : Bs w b ys) :
    Calls Try.prog 14 #[.slice a xs.length c, .slice b ys.length d] w fun e w' => e = .returned (.bool (decide (xs = ys))) ∧ Dr w w' := by
  obtain ⟨hl, hby, hat⟩ := hx
  obtain ⟨hl', hby', hat'⟩ := hy
  by_cases hlen : xs.length = ys.length
  · have h1 : ((xs.length : Int) != (ys.length : Int)) = false := by simp; omega
    have HL : Hid (xs.length = ys.length) := hlen
    clear hlen
    go_enter Try.func14, Try.ntmps14
    go_wp2_with fail
    go_loopw [5] (fun i wr => ∃ k : Nat, k ≤ xs.length ∧ i = .int .i64 k ∧ Dr w wr ∧ Hid (∀ j, j < k → xs.getD j 0 = ys.getD j 0)) (fun i _ => xs.length - (intOf i).toNat)
    case atStart => exact ⟨0, Nat.zero_le _, rfl, Dr.refl w, fun j hj => by omega⟩
    case round =>
      obtain ⟨k, hk, rfl, hdr, hpre⟩ := hrel
      by_cases hlt : k < xs.length
      · rcases hat with h0 | ⟨p, off, rfl, hcell⟩
        · omega
        rcases hat' with h0 | ⟨p', off', rfl, hcell'⟩
        · have := HL.out; omega
        have hlt' : k < ys.length := by have := HL.out; omega
        have hc := (hdr.cell _).trans (hcell k hlt)
        have hc' := (hdr.cell _).trans (hcell' k hlt')
        have HX : ∃ x, Hid (xs.getD k 0 = x) := ⟨_, rfl⟩
        have HY : ∃ y, Hid (ys.getD k 0 = y) := ⟨_, rfl⟩
        obtain ⟨x, HX⟩ := HX
        obtain ⟨y, HY⟩ := HY
        rw [HX.out] at hc
        rw [HY.out] at hc'
        clear hcell hcell'
        have hsp : (k : Int) < (xs.length : Int) := by omega
        have hsp' : (k : Int) < (ys.length : Int) := by omega
        by_cases hxy : x = y
        · subst hxy
          go_wp2_with fail
          go_quiet (fail)
          go_wp2_with fail
          go_roundw
          case rel =>
            refine ⟨k + 1, hlt, by go_num, hdr.more _, fun j hj => ?_⟩
            by_cases hjk : j < k
            · exact hpre j hjk
            · obtain rfl : j = k := by omega
              exact HX.out.trans HY.out.symm
          case measure => simp [intOf]; omega
        · have hne : (x != y) = true := by simpa using hxy
          go_wp2_with fail
          go_quiet (fail)
          go_wp2_with fail
          go_ret
          exact ⟨ret_bool (decide_eq_false (fun e => hxy (by rw [← HX.out, ← HY.out, e]))).symm, hdr.more _⟩
      · go_wp2_with fail
        go_ret
        exact ⟨ret_bool (decide_eq_true (same_of_getD xs ys HL.out (fun i hi => hpre i (by omega)))).symm, hdr⟩
  · have h1 : ((xs.length : Int) != (ys.length : Int)) = true := by simp; omega
    go_enter Try.func14, Try.ntmps14
    go_wp2_with fail
    go_ret
    exact ⟨ret_bool (decide_eq_false (fun e => hlen (by rw [e]))).symm, Dr.refl w⟩

set_option maxHeartbeats 1000000 in
theorem refsum_any (a : Option Addr) (cap : Nat) (zs : List Int) (w : World) (hB : Bs w a zs) :
    Calls Try.prog 11 #[.slice a zs.length cap] w fun e w' => e = .returned (.int .u16 (su zs zs.length)) ∧ w' = w := by
  obtain ⟨hl, hby, hat⟩ := hB
  go_enter Try.func11, Try.ntmps11
  go_wp2_with fail
  go_loop [3, 4] (fun t i => ∃ k : Nat, k ≤ zs.length ∧ i = .int .i64 k ∧ t = .int .i64 (su zs k)) (fun _ i => zs.length - (intOf i).toNat)
  case atStart => exact ⟨0, Nat.zero_le _, rfl, rfl⟩
  case round =>
    obtain ⟨k, hk, rfl, rfl⟩ := hrel
    have tb := su_range zs k
    by_cases hlt : k < zs.length
    · rcases hat with h0 | ⟨b, off, rfl, hcell⟩
      · omega
      have hc := hcell k hlt
      have hbk := hby.getD k
      have HS : Hid (su zs (k + 1) = fo (su zs k + zs.getD k 0 * wt k)) := su_succ hby k
      generalize hz : zs.getD k 0 = z at hc hbk HS
      clear hz hcell
      have hsp : (k : Int) < (zs.length : Int) := by omega
      by_cases hev : k % 2 = 0
      · rw [wt_even k hev] at HS
        have h' : ((k : Int) % 2 == 0) = true := by simp; omega
        by_cases hbig : 65535 < su zs k + z * 256
        · go_wp2_with fail
          go_round
          case rel => exact ⟨k + 1, hlt, by go_num, by rw [HS.out, fo_sub _ (by omega) (by omega), if_pos (by omega)]⟩
          case measure => simp [intOf]; omega
        · go_wp2_with fail
          go_round
          case rel => exact ⟨k + 1, hlt, by go_num, by rw [HS.out, fo_sub _ (by omega) (by omega), if_neg (by omega)]⟩
          case measure => simp [intOf]; omega
      · rw [wt_odd k hev] at HS
        have h' : ((k : Int) % 2 == 0) = false := by simp; omega
        by_cases hbig : 65535 < su zs k + z
        · go_wp2_with fail
          go_round
          case rel => exact ⟨k + 1, hlt, by go_num, by rw [HS.out, Int.mul_one, fo_sub _ (by omega) (by omega), if_pos (by omega)]⟩
          case measure => simp [intOf]; omega
        · go_wp2_with fail
          go_round
          case rel => exact ⟨k + 1, hlt, by go_num, by rw [HS.out, Int.mul_one, fo_sub _ (by omega) (by omega), if_neg (by omega)]⟩
          case measure => simp [intOf]; omega
    · have hkz : k = zs.length := by omega
      subst hkz
      go_wp2_with fail
      go_ret
      exact ⟨rfl, rfl⟩

set_option maxHeartbeats 400000 in
theorem reffield_any (a : Option Addr) (cap : Nat) (zs : List Int) (w : World) (hB : Bs w a zs) :
    Calls Try.prog 13 #[.slice a zs.length cap] w fun e w' => e = .returned (.int .u16 (65535 - su zs zs.length)) ∧ w' = w := by
  have hr := su_range zs zs.length
  go_enter Try.func13, Try.ntmps13
  go_wp2_with fail
  refine (refsum_any a cap zs _ hB).mono ?_
  rintro e w' ⟨rfl, rfl⟩
  go_wp2_with fail
  go_ret
  exact ⟨rfl, rfl⟩

set_option maxHeartbeats 400000 in
theorem refdiff_bad (a b : Option Addr) (ca cb : Nat) (n m : Nat) (w : World) (hn : n ≤ 140737488355328) (hm : m ≤ 140737488355328) (h : ¬ (n = m ∧ n % 2 = 0)) :
    Calls Try.prog 25 #[.slice a n ca, .slice b m cb] w fun e w' => e = .returned (.tuple #[.int .u16 0, .int .i64 2]) ∧ w' = w := by
  by_cases hnm : n = m
  · subst hnm
    have h1 : ((n : Int) != n) = false := by simp
    have h2 : ((n : Int) % 2 != 0) = true := by simp; omega
    go_enter Try.func25, Try.ntmps25
    go_wp2_with fail
    go_ret2
    exact ⟨rfl, rfl⟩
  · have h1 : ((n : Int) != m) = true := by simp; omega
    go_enter Try.func25, Try.ntmps25
    go_wp2_with fail
    go_ret2
    exact ⟨rfl, rfl⟩

set_option maxHeartbeats 400000 in
theorem refdiff_good (a b : Option Addr) (ca cb : Nat) (xs ys : List Int) (w : World) (hx : Bs w a xs) (hy : Bs w b ys) (n : Nat) (hn : xs.length = n) (hm : ys.length = n) (h : n % 2 = 0) :
    Calls Try.prog 25 #[.slice a n ca, .slice b n cb] w fun e w' => e = .returned (.tuple #[.int .u16 (fo (su ys n + (65535 - su xs n))), .int .i64 0]) ∧ w' = w := by
  have h0 := hx.len
  have h1 : ((n : Int) != n) = false := by simp
  have h2 : ((n : Int) % 2 != 0) = false := by simp; omega
  have r1 := su_range xs n
  have r2 := su_range ys n
  have H1 : Hid (xs.length = n) := hn
  have H2 : Hid (ys.length = n) := hm
  clear hn hm
  go_enter Try.func25, Try.ntmps25
  go_wp2_with fail
  have c1 := refsum_any b cb ys w hy
  rw [H2.out] at c1
  refine c1.mono ?_
  rintro e w1 ⟨rfl, rfl⟩
  go_wp2_with fail
  have c2 := refsum_any a ca xs _ hx
  rw [H1.out] at c2
  refine c2.mono ?_
  rintro e w2 ⟨rfl, rfl⟩
  go_wp2_with fail
  refine (refsub_any _ _ _ r2.1 r2.2 r1.1 r1.2).mono ?_
  rintro e w3 ⟨rfl, rfl⟩
  go_wp2_with fail
  go_ret2
  exact ⟨rfl, rfl⟩
end Go.Proofs.Ytogkgchcjjoplaa
