/- Mathematics of sums of pieces; the contract of the statements' own join. -/
import Derived.Test.YtogkgchcjjoplaaSc
namespace Go.Proofs.Ytogkgchcjjoplaa
open Go.ChangeShapes Go.WideShapes Go.ChangeAt Go.RowKit

theorem fo_ext (a b : Int) (ha : 0 ≤ a) (hb : 0 ≤ b) (h : a % 65535 = b % 65535) (hz : a = 0 ↔ b = 0) : fo a = fo b := by
  unfold fo; split <;> split <;> omega

/-- The weighted total where the weights are exchanged. -/
def tox (zs : List Int) : Nat → Int
  | 0 => 0
  | k + 1 => tox zs k + zs.getD k 0 * wt (k + 1)

theorem wt_two (k : Nat) : wt k = 256 ∧ wt (k + 1) = 1 ∨ wt k = 1 ∧ wt (k + 1) = 256 := by
  unfold wt; split <;> split <;> omega

theorem tox_rel {zs : List Int} (h : Bytes zs) : ∀ k : Nat, 0 ≤ tox zs k ∧ (tox zs k - 256 * tot zs k) % 65535 = 0 ∧ (tox zs k = 0 ↔ tot zs k = 0)
  | 0 => by simp [tox, tot]
  | k + 1 => by
    have ih := tox_rel h k
    have hb := h.getD k
    have ht := tot_bd h k
    simp only [tox, tot]
    rcases wt_two k with ⟨h1, h2⟩ | ⟨h1, h2⟩ <;> rw [h1, h2] <;> refine ⟨by omega, by omega, by omega⟩

theorem tot_append (xs ys : List Int) : ∀ m : Nat, tot (xs ++ ys) (xs.length + m) = tot xs xs.length + if xs.length % 2 = 0 then tot ys m else tox ys m
  | 0 => by
    have : tot (xs ++ ys) xs.length = tot xs xs.length := tot_congr _ _ _ (fun i hi => by
      rw [List.getD_eq_getElem?_getD, List.getD_eq_getElem?_getD, List.getElem?_append_left hi])
    rw [Nat.add_zero, this]; simp [tot, tox]
  | m + 1 => by
    have ih := tot_append xs ys m
    have hg : (xs ++ ys).getD (xs.length + m) 0 = ys.getD m 0 := by
      rw [List.getD_eq_getElem?_getD, List.getD_eq_getElem?_getD, List.getElem?_append_right (by omega)]
      congr 2; omega
    rw [← Nat.add_assoc]
    simp only [tot]
    rw [ih, hg]
    by_cases he : xs.length % 2 = 0
    · rw [if_pos he, if_pos he]
      have : wt (xs.length + m) = wt m := by unfold wt; rw [show (xs.length + m) % 2 = m % 2 from by omega]
      rw [this]; omega
    · rw [if_neg he, if_neg he]
      have : wt (xs.length + m) = wt (m + 1) := by unfold wt; rw [show (xs.length + m) % 2 = (m + 1) % 2 from by omega]
      rw [this]; simp only [tox]; omega

/-- A number of sixteen bits, its two bytes exchanged. -/
def swp (t : Int) : Int := t % 256 * 256 + t / 256

theorem su_append {xs ys : List Int} (hx : Bytes xs) (hy : Bytes ys) : su (xs ++ ys) (xs ++ ys).length = fo (su xs xs.length + if xs.length % 2 = 0 then su ys ys.length else swp (su ys ys.length)) := by
  have h1 := tot_bd hx xs.length
  have h2 := tot_bd hy ys.length
  have h3 := tox_rel hy ys.length
  have r := su_range ys ys.length
  rw [List.length_append]
  unfold su
  rw [tot_append]
  by_cases he : xs.length % 2 = 0
  · rw [if_pos he, if_pos he, fo_add _ _ h1.1 (fo_nonneg _), fo_add' _ _ h1.1 h2.1]
  · rw [if_neg he, if_neg he, fo_add _ _ h1.1 (by unfold swp; unfold su at r; omega)]
    have hm := fo_mod _ h2.1
    have hz := fo_eq_zero (tot ys ys.length)
    unfold su at r
    unfold swp
    generalize fo (tot ys ys.length) = t at *
    refine fo_ext _ _ (by omega) (by omega) (by omega) (by omega)

theorem bytes_append {xs ys : List Int} (hx : Bytes xs) (hy : Bytes ys) : Bytes (xs ++ ys) := by
  intro z hz
  rcases List.mem_append.1 hz with h | h
  · exact hx z h
  · exact hy z h

theorem swap_bits (t : Int) (h0 : 0 ≤ t) (h1 : t ≤ 65535) : bits .or .u16 (IntKind.u16.wrap (t * 256)) (t / 256) = swp t := by
  rw [IntKind.wrap_u16, u16_or _ _ (by omega) (by omega) (by omega) (by omega)]
  have e : t * 256 % 65536 = t % 256 * 256 := by omega
  rw [e]
  have h := Nat.two_pow_add_eq_or_of_lt (i := 8) (b := (t / 256).toNat) (by omega) (t % 256).toNat
  have e2 : (t % 256 * 256).toNat = 2 ^ 8 * (t % 256).toNat := by omega
  rw [e2, ← h]
  unfold swp; omega

/-- All numbers of a list are 0. -/
theorem tot_zero {zs : List Int} (h : Bytes zs) : ∀ k : Nat, (tot zs k = 0 ↔ ∀ i, i < k → zs.getD i 0 = 0)
  | 0 => by simp [tot]
  | k + 1 => by
    have ih := tot_zero h k
    have hb := h.getD k
    have ht := tot_bd h k
    simp only [tot]
    have hw : 0 < wt k := by unfold wt; split <;> omega
    have hp : 0 ≤ zs.getD k 0 * wt k := Int.mul_nonneg hb.1 (by omega)
    constructor
    · intro e i hi
      have h0 : zs.getD k 0 * wt k = 0 := by omega
      by_cases hik : i < k
      · exact ih.1 (by omega) i hik
      · obtain rfl : i = k := by omega
        rcases Int.mul_eq_zero.1 h0 with h | h <;> omega
    · intro e
      rw [ih.2 (fun i hi => e i (by omega)), e k (by omega)]; simp

/-- Bytes with their field behind them come to a sum that is the same as 0. -/
theorem su_field {zs : List Int} (h : Bytes zs) (he : zs.length % 2 = 0) :
    su (zs ++ [(65535 - su zs zs.length) / 256, (65535 - su zs zs.length) % 256]) (zs ++ [(65535 - su zs zs.length) / 256, (65535 - su zs zs.length) % 256]).length % 65535 = 0 := by
  have r := su_range zs zs.length
  have h1 := tot_bd h zs.length
  have hm := fo_mod _ h1.1
  rw [List.length_append]
  show fo (tot _ (zs.length + 2)) % 65535 = 0
  rw [tot_append, if_pos he]
  unfold su at *
  generalize fo (tot zs zs.length) = s at *
  have e : tot [(65535 - s) / 256, (65535 - s) % 256] 2 = 65535 - s := by
    simp [tot, wt]; omega
  rw [e, fo_mod _ (by omega)]; omega

/-- A 0 behind an odd number of bytes changes nothing. -/
theorem su_nought {zs : List Int} (ho : ¬ zs.length % 2 = 0) : su (zs ++ [0]) (zs ++ [0]).length = su zs zs.length := by
  rw [List.length_append]
  show fo (tot _ (zs.length + 1)) = _
  rw [tot_append, if_neg ho]
  simp [tox, su]

set_option maxHeartbeats 1000000 in
theorem join_any (a b : Option Addr) (c d : Nat) (xs ys : List Int) (w : World) (hx : Bs w a xs) (hy : Bs w b ys) (hn : a = none → c = 0) (hm : b = none → d = 0) (hl : xs.length + ys.length ≤ 140737488355328) :
    Calls Try.prog 26 #[.slice a xs.length c, .slice b ys.length d] w fun e w' => ∃ v, e = .returned v ∧ w'.ownsRow w.heap.size 5 1 v (xs.length + ys.length) ((xs ++ ys).map (Value.int .u8)) ∧ Below w.heap.size w w' := by
  obtain ⟨i0, hi, hz0, hz1, hz2⟩ := info_parts info_u8
  have news : ∀ (w : World) (ad : Addr) (zs : List Int), Bs w (some ad) zs → ∀ j u, (zs.map (Value.int .u8))[j]? = some u → w.cell? (ad.add j) = some u := by
    intro w ad zs hB j u hj
    rcases hB.lies with h0 | ⟨b, off, h, hc⟩
    · obtain rfl := List.eq_nil_of_length_eq_zero h0; simp at hj
    · cases h
      have hlt : j < zs.length := by
        have := (List.getElem?_eq_some_iff.1 hj).1; simpa using this
      rw [addr_add, hc j hlt]
      simp [hlt] at hj
      simp [hlt, hj]
  have NEWS : Hid (∀ (w : World) (ad : Addr) (zs : List Int), Bs w (some ad) zs → ∀ j u, (zs.map (Value.int .u8))[j]? = some u → w.cell? (ad.add j) = some u) := news
  clear news
  have HN : Hid (a = none → c = 0) := hn
  have HM : Hid (b = none → d = 0) := hm
  clear hn hm
  cases a with
  | none =>
    obtain rfl := HN.out rfl
    have hx0 : xs = [] := by
      rcases hx.lies with h0 | ⟨_, _, h, _⟩
      · exact List.eq_nil_of_length_eq_zero h0
      · cases h
    subst hx0
    cases b with
    | none =>
      obtain rfl := HM.out rfl
      have hy0 : ys = [] := by
        rcases hy.lies with h0 | ⟨_, _, h, _⟩
        · exact List.eq_nil_of_length_eq_zero h0
        · cases h
      subst hy0
      clear HN HM NEWS
      go_enter Try.func26, Try.ntmps26
      go_wp2_with (first | (at_builtin; refine wpList_append_own_none rfl _ _ 22 rfl w.heap.size 5 i0 1 Try.underlying22 hi _ _ _ rfl (World.ownsRow_nil _ _ _ _) rfl ?_))
      go_ret
      exact ⟨_, rfl, World.ownsRow_nil _ _ _ _, Below.refl _ _⟩
    | some ad =>
      have hnews := NEWS.out _ _ _ hy
      clear HN HM NEWS
      have tok : True := trivial
      go_enter Try.func26, Try.ntmps26
      go_wp2_with (first | (at_builtin; have _t := tok; refine wpList_append_own_none rfl _ _ 22 rfl w.heap.size 5 i0 1 Try.underlying22 hi _ _ _ rfl (World.ownsRow_nil _ _ _ _) rfl ?_; clear _t tok) | (at_builtin; refine wpList_append_own _ rfl _ _ 22 rfl w.heap.size 5 i0 (.int .u8 0) 1 1 Try.underlying22 hi hz0 hz1 hz2 rfl (by decide) _ _ _ rfl (World.ownsRow_nil _ _ _ _) ad ys.length d (ys.map (Value.int .u8)) rfl (by simp) hnews ?c1 ?c2 ?c3 ?c4 ?_))
      case c1 => intro u hu; simp at hu; obtain ⟨z, _, rfl⟩ := hu; rfl
      case c2 => unfold maxLen; omega
      case c3 => omega
      case c4 => exact Nat.le_refl _
      intro v' w1 hown hgrow hiff
      clear hiff
      have hb : Below w.heap.size w w1 := (Below.refl _ _).grown hgrow (Nat.le_refl _) (by intro k hk; simp [Value.ownBlock] at hk)
      clear hgrow
      go_wp2_with fail
      go_ret
      exact ⟨_, rfl, by simpa using hown, hb⟩
  | some ad0 =>
    have hnews0 := NEWS.out _ _ _ hx
    have tok : True := trivial
    go_enter Try.func26, Try.ntmps26
    go_wp2_with (first | (at_builtin; have _t := tok; refine wpList_append_own _ rfl _ _ 22 rfl w.heap.size 5 i0 (.int .u8 0) 1 1 Try.underlying22 hi hz0 hz1 hz2 rfl (by decide) _ _ _ rfl (World.ownsRow_nil _ _ _ _) ad0 xs.length c (xs.map (Value.int .u8)) rfl (by simp) hnews0 ?c1 ?c2 ?c3 ?c4 ?_; clear _t tok))
    case c1 => intro u hu; simp at hu; obtain ⟨z, _, rfl⟩ := hu; rfl
    case c2 => unfold maxLen; omega
    case c3 => omega
    case c4 => exact Nat.le_refl _
    intro v' w1 hown hgrow hiff
    clear hiff
    have hb : Below w.heap.size w w1 := (Below.refl _ _).grown hgrow (Nat.le_refl _) (by intro k hk; simp [Value.ownBlock] at hk)
    clear hgrow hnews0
    have hy1 := hy.below hb
    cases b with
    | none =>
      obtain rfl := HM.out rfl
      have hy0 : ys = [] := by
        rcases hy.lies with h0 | ⟨_, _, h, _⟩
        · exact List.eq_nil_of_length_eq_zero h0
        · cases h
      subst hy0
      clear HN HM NEWS
      go_wp2_with (first | (at_builtin; refine wpList_append_own_none rfl _ _ 22 rfl w.heap.size 5 i0 1 Try.underlying22 hi _ _ _ rfl hown rfl ?_))
      go_ret
      exact ⟨_, rfl, by simpa using hown, hb⟩
    | some ad =>
      have hnews := NEWS.out _ _ _ hy1
      clear HN HM NEWS
      go_wp2_with (first | (at_builtin; refine wpList_append_own _ rfl _ _ 22 rfl w.heap.size 5 i0 (.int .u8 0) 1 1 Try.underlying22 hi hz0 hz1 hz2 rfl (by decide) _ _ _ rfl hown ad ys.length d (ys.map (Value.int .u8)) rfl (by simp) hnews ?d1 ?d2 ?d3 ?d4 ?_))
      case d1 => intro u hu; simp at hu; obtain ⟨z, _, rfl⟩ := hu; rfl
      case d2 => unfold maxLen; omega
      case d3 => omega
      case d4 => exact hb.size
      intro v2 w2 hown2 hgrow hiff
      clear hiff
      have hb2 : Below w.heap.size w w2 := hb.grown hgrow hb.size (by
        intro k hk
        obtain ⟨_, h2⟩ := hown
        rcases h2 with ⟨rfl, h3⟩ | ⟨g, cap, cur, rfl, hg, _⟩
        · simp [Value.ownBlock] at hk
        · simp [Value.ownBlock] at hk; omega)
      clear hgrow hown
      go_wp2_with fail
      go_ret
      exact ⟨_, rfl, by simpa using hown2, hb2⟩
end Go.Proofs.Ytogkgchcjjoplaa
