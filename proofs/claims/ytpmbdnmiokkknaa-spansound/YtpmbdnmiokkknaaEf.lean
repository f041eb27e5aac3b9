/- The law's inside. -/
import Derived.Test.YtpmbdnmiokkknaaDc
namespace Go.Proofs.Ytpmbdnmiokkknaa
open Go.ChangeShapes Go.WideShapes Go.ChangeAt Go.RowKit
set_option maxRecDepth 10000
set_option linter.unusedVariables false

def inN (l h n : Int) : Int := if l = 0 ∧ h = 18446744073709551615 then n else l + n % (h - l + 1)
theorem inN_in {l h n : Int} (hl : 0 ≤ l) (hh : h ≤ 18446744073709551615) (hlh : l ≤ h) (n0 : 0 ≤ n) (n1 : n ≤ 18446744073709551615) : l ≤ inN l h n ∧ inN l h n ≤ h := by
  unfold inN
  split
  · omega
  · have h1 := Int.emod_nonneg n (show h - l + 1 ≠ 0 by omega)
    have h2 := Int.emod_lt_of_pos n (show 0 < h - l + 1 by omega)
    omega

theorem inside_any (l h n : Int) (w : World) (hl : 0 ≤ l) (hh : h ≤ 18446744073709551615) (hlh : l ≤ h) (n0 : 0 ≤ n) (n1 : n ≤ 18446744073709551615) :
    Calls Try.prog 28 #[spV (l, h), .int .u64 n] w fun e w' => e = .returned (.int .u64 (inN l h n)) ∧ Below w.heap.size w w' := by
  by_cases c : l = 0 ∧ h = 18446744073709551615
  · have e : inN l h n = n := by unfold inN; rw [if_pos c]
    obtain ⟨rfl, rfl⟩ := c
    rw [e]
    clear e
    go_enter Try.func28, Try.ntmps28
    go_wp2_with fail
    go_ret
    exact ⟨rfl, bl1 _ _⟩
  · have e : inN l h n = l + n % (h - l + 1) := by unfold inN; rw [if_neg c]
    rw [e]
    clear e
    have h1 := Int.emod_nonneg n (show h - l + 1 ≠ 0 by omega)
    have h2 := Int.emod_lt_of_pos n (show 0 < h - l + 1 by omega)
    have hw1 : IntKind.u64.wrap (h - l) = h - l := by rw [wrap64]; omega
    have hw2 : IntKind.u64.wrap (h - l + 1) = h - l + 1 := by rw [wrap64]; omega
    have ht : n.tmod (h - l + 1) = n % (h - l + 1) := Int.tmod_eq_emod_of_nonneg n0
    have hw3 : IntKind.u64.wrap (l + n % (h - l + 1)) = l + n % (h - l + 1) := by rw [wrap64]; omega
    have hz : ¬ (h - l + 1 = 0) := by omega
    have X := Hid.mk' (Box.new w l h rfl)
    have c0 := X.out.c0
    have c1 := X.out.c1
    clear h1 h2
    by_cases k : l = 0
    · have k2 : ¬ h = 18446744073709551615 := fun e => c ⟨k, e⟩
      have k' : (l == 0) = true := by simp [k]
      clear c k
      go_enter Try.func28, Try.ntmps28
      go_wp2_with fail
      go_region
      all_goals
        go_wp2_with fail
        go_ret
        exact ⟨rfl, (bl1 w (spO l h)).drew⟩
    · clear c
      go_enter Try.func28, Try.ntmps28
      go_wp2_with fail
      go_region
      all_goals
        go_wp2_with fail
        go_ret
        exact ⟨rfl, (bl1 w (spO l h)).drew⟩
end Go.Proofs.Ytpmbdnmiokkknaa
