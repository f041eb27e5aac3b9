/- The law's number. -/
import Derived.Test.YtpmbdnmiokkknaaEh
namespace Go.Proofs.Ytpmbdnmiokkknaa
open Go.ChangeShapes Go.WideShapes Go.ChangeAt Go.RowKit
set_option maxRecDepth 10000
set_option linter.unusedVariables false

set_option maxHeartbeats 1000000 in
theorem number_any (o a b : Int) (w : World) (ho : 3 ≤ o ∧ o ≤ 13) (b0 : 0 ≤ b) : Calls Try.prog 29 #[.int .u8 o, .int .u64 a, .int .u64 b] w fun e w' => e = .returned (.int .u64 (nuN o a b)) ∧ w = w' := by
  have m0 : 0 ≤ b % 64 := by omega
  have m1 : b % 64 ≤ 64 := by omega
  rcases op_cases ho with rfl | rfl | rfl | rfl | rfl | rfl | rfl | rfl | rfl | rfl | rfl
  all_goals
    clear ho
    go_enter Try.func29, Try.ntmps29
    go_wp2_with fail
    go_ret
    refine ⟨ret_int ?_, rfl⟩
    first | rfl | (rw [wrap64]; rfl)
end Go.Proofs.Ytpmbdnmiokkknaa
