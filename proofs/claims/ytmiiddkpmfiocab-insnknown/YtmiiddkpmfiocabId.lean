/- The contracts of the document's off, imm, Check. -/
import Derived.Test.YtmiiddkpmfiocabIb
import Derived.Test.YtmiiddkpmfiocabIc
namespace Go.Proofs.Ytmiiddkpmfiocab
open Go.ChangeShapes Go.WideShapes Go.ChangeAt Go.RowKit
set_option maxRecDepth 10000



theorem rowN_len (p : Int) : (rowN p).length ≤ 4 := by
  have := classes p
  generalize useN p = u at *
  generalize rowN p = r at *
  generalize okN p = k at *
  simp only [List.mem_cons, Prod.mk.injEq, List.not_mem_nil, or_false] at this
  rcases this with ⟨_, rfl, _⟩ | ⟨_, rfl, _⟩ | ⟨_, rfl, _⟩ | ⟨_, rfl, _⟩ | ⟨_, rfl, _⟩ | ⟨_, rfl, _⟩ | ⟨_, rfl, _⟩ | ⟨_, rfl, _⟩ | ⟨_, rfl, _⟩ | ⟨_, rfl, _⟩ | ⟨_, rfl, _⟩ | ⟨_, rfl, _⟩ | ⟨_, rfl, _⟩ | ⟨_, rfl, _⟩ | ⟨_, rfl, _⟩ | ⟨_, rfl, _⟩ | ⟨_, rfl, _⟩ <;> decide


end Go.Proofs.Ytmiiddkpmfiocab
