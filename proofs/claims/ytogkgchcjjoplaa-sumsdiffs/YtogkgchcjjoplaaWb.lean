/- The walks of SumsSums and SumsDiffs. -/
import Derived.Test.YtogkgchcjjoplaaSc
namespace Go.Proofs.Ytogkgchcjjoplaa
open Go.ChangeShapes Go.WideShapes Go.ChangeAt Go.RowKit

set_option maxHeartbeats 2000000 in
theorem walkSumsSums (a : Option Addr) (c : Nat) (zs : List Int) (W : World) (h0 : Bs W a zs) (n0 : (a = none → c = 0) ∧ zs.length ≤ c) :
    Calls Try.prog 3 #[.slice a zs.length c] W fun e w' => e = .returned (.bool true) ∧ Below W.heap.size W w' := by
  have H0 : Hid (a = none → c = 0) := n0.1
  clear n0
  go_enter Try.func3, Try.ntmps3
  go_wp2_with fail
  refine (copy_any a c zs _ h0 H0.out).mono ?_
  rintro e w1 ⟨v, rfl, hown, b1⟩
  obtain ⟨a1, c1, rfl, s1, _⟩ := bs_own hown h0.bytes h0.len
  have t1 := h0.below b1
  clear hown
  go_wp2_with fail
  refine (sum_any _ _ _ _ s1).mono ?_
  rintro e w2 ⟨rfl, d2⟩
  go_wp2_with fail
  refine (refsum_any _ _ _ _ (d2.bs t1)).mono ?_
  rintro e w' ⟨rfl, rfl⟩
  go_wp2_with fail
  refine (field_any _ _ _ _ (d2.bs s1)).mono ?_
  rintro e w3 ⟨rfl, d3⟩
  go_wp2_with fail
  refine (reffield_any _ _ _ _ (d3.bs (d2.bs t1))).mono ?_
  rintro e w' ⟨rfl, rfl⟩
  go_wp2_with fail
  refine (eq_any _ _ _ _ zs zs _ (d3.bs (d2.bs s1)) (d3.bs (d2.bs t1))).mono ?_
  rintro e w4 ⟨rfl, d4⟩
  rw [decide_eq_true (rfl : zs = zs)]
  go_wp2_with fail
  refine (awake_any _).mono ?_
  rintro e w5 ⟨rfl, b5⟩
  have b4 : Below W.heap.size W w4 := ((b1.trans (d2.below _)).trans (d3.below _)).trans (d4.below _)
  go_wp2_with fail
  go_ret
  exact ⟨rfl, b4.trans (b5.mono b4.size)⟩

set_option maxHeartbeats 2000000 in
theorem walkSumsDiffs (a : Option Addr) (c : Nat) (xs : List Int) (b : Option Addr) (d : Nat) (ys : List Int) (W : World) (h0 : Bs W a xs) (n0 : (a = none → c = 0) ∧ xs.length ≤ c) (h1 : Bs W b ys) (n1 : (b = none → d = 0) ∧ ys.length ≤ d) :
    Calls Try.prog 5 #[.slice a xs.length c, .slice b ys.length d] W fun e w' => e = .returned (.bool true) ∧ Below W.heap.size W w' := by
  have H0 : Hid (a = none → c = 0) := n0.1
  have H1 : Hid (b = none → d = 0) := n1.1
  clear n0 n1
  go_enter Try.func5, Try.ntmps5
  go_wp2_with fail
  refine (copy_any a c xs _ h0 H0.out).mono ?_
  rintro e w1 ⟨v, rfl, hown, b1⟩
  obtain ⟨a1, c1, rfl, s1, _⟩ := bs_own hown h0.bytes h0.len
  clear hown
  go_wp2_with fail
  refine (copy_any b d ys _ (h1.below b1) H1.out).mono ?_
  rintro e w2 ⟨v, rfl, hown, b2⟩
  obtain ⟨a2, c2, rfl, s2, _⟩ := bs_own hown h1.bytes h1.len
  clear hown
  have b12 : Below W.heap.size W w2 := b1.trans (b2.mono b1.size)
  have s1' := s1.below b2
  have t1 := h0.below b12
  have t2 := h1.below b12
  by_cases hg : xs.length = ys.length ∧ xs.length % 2 = 0
  · obtain ⟨hg1, hg2⟩ := hg
    obtain ⟨n, hn⟩ : ∃ n, xs.length = n := ⟨_, rfl⟩
    have hm : ys.length = n := by omega
    have hn2 : n % 2 = 0 := by omega
    have HN : Hid (xs.length = n) := hn
    have HM : Hid (ys.length = n) := hm
    rw [hn, hm]
    clear hn hm hg1 hg2
    go_wp2_with fail
    refine (diff_good _ _ _ _ xs ys _ s1' s2 n HN.out HM.out hn2).mono ?_
    rintro e w3 ⟨rfl, d3⟩
    go_wp2_with fail
    refine (refdiff_good _ _ _ _ xs ys _ (d3.bs t1) (d3.bs t2) n HN.out HM.out hn2).mono ?_
    rintro e w' ⟨rfl, rfl⟩
    go_wp2_with fail
    have e1 := eq_any a1 a c1 c xs xs _ (d3.bs s1') (d3.bs t1)
    rw [HN.out] at e1
    refine e1.mono ?_
    rintro e w4 ⟨rfl, d4⟩
    rw [decide_eq_true (rfl : xs = xs)]
    clear e1
    go_wp2_with fail
    have e2 := eq_any a2 b c2 d ys ys _ (d4.bs (d3.bs s2)) (d4.bs (d3.bs t2))
    rw [HM.out] at e2
    refine e2.mono ?_
    rintro e w5 ⟨rfl, d5⟩
    rw [decide_eq_true (rfl : ys = ys)]
    clear e2
    go_wp2_with fail
    refine (awake_any _).mono ?_
    rintro e w6 ⟨rfl, b6⟩
    have b5 : Below W.heap.size W w5 := ((b12.trans (d3.below _)).trans (d4.below _)).trans (d5.below _)
    go_wp2_with fail
    go_ret
    exact ⟨rfl, b5.trans (b6.mono b5.size)⟩
  · go_wp2_with fail
    refine (diff_bad _ _ _ _ _ _ _ h0.len h1.len hg).mono ?_
    rintro e w3 ⟨rfl, d3⟩
    go_wp2_with fail
    refine (refdiff_bad _ _ _ _ _ _ _ h0.len h1.len hg).mono ?_
    rintro e w' ⟨rfl, rfl⟩
    go_wp2_with fail
    refine (eq_any a1 a c1 c xs xs _ (d3.bs s1') (d3.bs t1)).mono ?_
    rintro e w4 ⟨rfl, d4⟩
    rw [decide_eq_true (rfl : xs = xs)]
    go_wp2_with fail
    refine (eq_any a2 b c2 d ys ys _ (d4.bs (d3.bs s2)) (d4.bs (d3.bs t2))).mono ?_
    rintro e w5 ⟨rfl, d5⟩
    rw [decide_eq_true (rfl : ys = ys)]
    go_wp2_with fail
    refine (awake_any _).mono ?_
    rintro e w6 ⟨rfl, b6⟩
    have b5 : Below W.heap.size W w5 := ((b12.trans (d3.below _)).trans (d4.below _)).trans (d5.below _)
    go_wp2_with fail
    go_ret
    exact ⟨rfl, b5.trans (b6.mono b5.size)⟩
end Go.Proofs.Ytogkgchcjjoplaa
