/- The shapes of this seat's parameters. -/
import Derived.Test.YthpgicgpoekmeaaOps
namespace Go.Proofs.Ythpgicgpoekmeaa
def sh5 : Sh := shInt 5 .u8 Try.underlying5 (by kernel_rfl)
def sh22 : Sh := shArr sh5 22 6 Try.underlying22 (by kernel_rfl)
def sh23 : Sh := shInt 23 .u16 Try.underlying23 (by kernel_rfl)
def sh25 : Sh := shStruct 25 _ [sh22, sh22, sh23] Try.underlying25 (by kernel_rfl) (by kernel_rfl)
def sh26 : Sh := shSlice sh5 (by decide +kernel) 26 Try.underlying26 (by kernel_rfl)
end Go.Proofs.Ythpgicgpoekmeaa
