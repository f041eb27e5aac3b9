/- The contracts of the document's Row, Has, Within, off, imm, Check, Args; insn.arguments. -/
import Derived.Test.YtmiiddkpmfiocabIa
import Derived.Test.YtmiiddkpmfiocabBw
namespace Go.Proofs.Ytmiiddkpmfiocab
open Go.ChangeShapes Go.WideShapes Go.ChangeAt Go.RowKit
set_option maxRecDepth 10000




/-- How many registers a helper reads. -/
def argN (i : Int) : Int := if i = 1 ∨ i = 8 then 2 else if i = 2 ∨ i = 5 then 3 else if 16 ≤ i then 3 else 1


theorem arguments_any (i : Int) (w : World) (i0 : -2147483648 ≤ i) (i1 : i ≤ 2147483647) : Calls Try.prog 17 #[.int .i32 i] w fun e w' => e = .returned (.int .i64 (argN i)) ∧ w' = w := by
  go_enter Try.func17, Try.ntmps17
  go_wp2_with fail
  all_goals
    go_ret
    refine ⟨ret_int ?_, rfl⟩
    simp only [beq_iff_eq, beq_eq_false_iff_ne, ne_eq] at *
    unfold argN
    first | (subst_vars; rfl) | (simp [*]; done) | (simp [*]; omega)
end Go.Proofs.Ytmiiddkpmfiocab
