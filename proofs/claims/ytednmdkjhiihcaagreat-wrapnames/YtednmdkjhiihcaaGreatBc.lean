/- Contracts of the statements' own helpers on bytes: CopyBytes, EqBytes. -/
import Derived.Test.YtednmdkjhiihcaaGreatBa
namespace Go.Proofs.YtednmdkjhiihcaaGreat
open Go.ChangeShapes Go.WideShapes Go.ChangeAt Go.RowKit

theorem info_u8 : (Tryz.prog.info? 5).map (fun i => (i.zero, i.size, i.bytes)) = some (some (.int .u8 0), 1, 1) := by kernel_rfl

set_option maxHeartbeats 400000 in
theorem copy_any (a : Option Addr) (c : Nat) (zs : List Int) (w : World) (hB : Bs w a zs) (hn : a = none → c = 0) :
    Calls Tryz.prog 35 #[.slice a zs.length c] w fun e w' => ∃ v, e = .returned v ∧ w'.ownsRow w.heap.size 5 1 v zs.length (zs.map (Value.int .u8)) ∧ Below w.heap.size w w' := by
  obtain ⟨i0, hi, hz0, hz1, hz2⟩ := info_parts info_u8
  obtain ⟨hl, hby, hat⟩ := hB
  cases a with
  | none =>
    obtain rfl := hn rfl
    rcases hat with h0 | ⟨b, off, h, _⟩
    · obtain rfl := List.eq_nil_of_length_eq_zero h0
      go_enter Tryz.func35, Tryz.ntmps35
      go_wp2_with (first | (at_builtin; refine wpList_append_own_none rfl _ _ 22 rfl w.heap.size 5 i0 1 Tryz.underlying22 hi _ _ _ rfl (World.ownsRow_nil _ _ _ _) rfl ?_))
      go_ret
      exact ⟨_, rfl, World.ownsRow_nil _ _ _ _, Below.refl _ _⟩
    · cases h
  | some ad =>
    have hnews : ∀ j u, (zs.map (Value.int .u8))[j]? = some u → w.cell? (ad.add j) = some u := by
      intro j u hj
      rcases hat with h0 | ⟨b, off, h, hc⟩
      · obtain rfl := List.eq_nil_of_length_eq_zero h0; simp at hj
      · cases h
        have hlt : j < zs.length := by
          have := (List.getElem?_eq_some_iff.1 hj).1; simpa using this
        rw [addr_add, hc j hlt]
        simp [hlt] at hj
        simp [hlt, hj]
    clear hat hn
    go_enter Tryz.func35, Tryz.ntmps35
    go_wp2_with (first | (at_builtin; refine wpList_append_own _ rfl _ _ 22 rfl w.heap.size 5 i0 (.int .u8 0) 1 1 Tryz.underlying22 hi hz0 hz1 hz2 rfl (by decide) _ _ _ rfl (World.ownsRow_nil _ _ _ _) ad zs.length c (zs.map (Value.int .u8)) rfl (by simp) hnews ?c1 ?c2 ?c3 ?c4 ?_))
    case c1 => intro u hu; simp at hu; obtain ⟨z, _, rfl⟩ := hu; rfl
    case c2 => unfold maxLen; omega
    case c3 => omega
    case c4 => exact Nat.le_refl _
    intro v' w1 hown hgrow hiff
    clear hiff
    have hb : Below w.heap.size w w1 := (Below.refl _ _).grown hgrow (Nat.le_refl _) (by intro k hk; simp [Value.ownBlock] at hk)
    clear hgrow
    go_wp2_with fail
    go_ret
    exact ⟨_, rfl, hown, hb⟩

set_option maxHeartbeats 1000000 in
theorem eq_any (a b : Option Addr) (c d : Nat) (xs ys : List Int) (w : World) (hx : Bs w a xs) (hy : Bs w b ys) :
    Calls Tryz.prog 9 #[.slice a xs.length c, .slice b ys.length d] w fun e w' => e = .returned (.bool (decide (xs = ys))) ∧ Dr w w' := by
  obtain ⟨hl, hby, hat⟩ := hx
  obtain ⟨hl', hby', hat'⟩ := hy
  by_cases hlen : xs.length = ys.length
  · have h1 : ((xs.length : Int) != (ys.length : Int)) = false := by simp; omega
    have HL : Hid (xs.length = ys.length) := hlen
    clear hlen
    go_enter Tryz.func9, Tryz.ntmps9
    go_wp2_with fail
    go_loopw [5] (fun i wr => ∃ k : Nat, k ≤ xs.length ∧ i = .int .i64 k ∧ Dr w wr ∧ Hid (∀ j, j < k → xs.getD j 0 = ys.getD j 0)) (fun i _ => xs.length - (intOf i).toNat)
    case atStart => exact ⟨0, Nat.zero_le _, rfl, Dr.refl w, fun j hj => by omega⟩
    case round =>
      obtain ⟨k, hk, rfl, hdr, hpre⟩ := hrel
      by_cases hlt : k < xs.length
      · rcases hat with h0 | ⟨p, off, rfl, hcell⟩
        · omega
        rcases hat' with h0 | ⟨p', off', rfl, hcell'⟩
        · have := HL.out; omega
        have hlt' : k < ys.length := by have := HL.out; omega
        have hc := (hdr.cell _).trans (hcell k hlt)
        have hc' := (hdr.cell _).trans (hcell' k hlt')
        have HX : ∃ x, Hid (xs.getD k 0 = x) := ⟨_, rfl⟩
        have HY : ∃ y, Hid (ys.getD k 0 = y) := ⟨_, rfl⟩
        obtain ⟨x, HX⟩ := HX
        obtain ⟨y, HY⟩ := HY
        rw [HX.out] at hc
        rw [HY.out] at hc'
        clear hcell hcell'
        have hsp : (k : Int) < (xs.length : Int) := by omega
        have hsp' : (k : Int) < (ys.length : Int) := by omega
        by_cases hxy : x = y
        · subst hxy
          go_wp2_with fail
          go_quiet (fail)
          go_wp2_with fail
          go_roundw
          case rel =>
            refine ⟨k + 1, hlt, by go_num, hdr.more _, fun j hj => ?_⟩
            by_cases hjk : j < k
            · exact hpre j hjk
            · obtain rfl : j = k := by omega
              exact HX.out.trans HY.out.symm
          case measure => simp [intOf]; omega
        · have hne : (x != y) = true := by simpa using hxy
          go_wp2_with fail
          go_quiet (fail)
          go_wp2_with fail
          go_ret
          exact ⟨ret_bool (decide_eq_false (fun e => hxy (by rw [← HX.out, ← HY.out, e]))).symm, hdr.more _⟩
      · go_wp2_with fail
        go_ret
        exact ⟨ret_bool (decide_eq_true (same_of_getD xs ys HL.out (fun i hi => hpre i (by omega)))).symm, hdr⟩
  · have h1 : ((xs.length : Int) != (ys.length : Int)) = true := by simp; omega
    go_enter Tryz.func9, Tryz.ntmps9
    go_wp2_with fail
    go_ret
    exact ⟨ret_bool (decide_eq_false (fun e => hlen (by rw [e]))).symm, Dr.refl w⟩


/-- The same, the lengths named. -/
theorem eq_at (a b : Option Addr) (n m c d : Nat) (xs ys : List Int) (w : World) (hn : xs.length = n) (hm : ys.length = m) (hx : Bs w a xs) (hy : Bs w b ys) :
    Calls Tryz.prog 9 #[.slice a n c, .slice b m d] w fun e w' => e = .returned (.bool (decide (xs = ys))) ∧ Dr w w' := by
  subst hn; subst hm
  exact eq_any a b c d xs ys w hx hy

theorem copy_at (a : Option Addr) (n c : Nat) (zs : List Int) (w : World) (hn : zs.length = n) (hB : Bs w a zs) (h0 : a = none → c = 0) :
    Calls Tryz.prog 35 #[.slice a n c] w fun e w' => ∃ v, e = .returned v ∧ w'.ownsRow w.heap.size 5 1 v n (zs.map (Value.int .u8)) ∧ Below w.heap.size w w' := by
  subst hn
  exact copy_any a c zs w hB h0
end Go.Proofs.YtednmdkjhiihcaaGreat
