/- The shapes of this seat's parameters. -/
import Derived.Test.YtidlgbidffldoaaOps
namespace Go.Proofs.Ytidlgbidffldoaa
def sh5 : Sh := shInt 5 .u8 Try.underlying5 (by kernel_rfl)
def sh22 : Sh := shInt 22 .u32 Try.underlying22 (by kernel_rfl)
def sh23 : Sh := shArr sh5 23 16 Try.underlying23 (by kernel_rfl)
def sh25 : Sh := shStruct 25 _ [sh5, sh22, sh5, sh5, sh23, sh23] Try.underlying25 (by kernel_rfl) (by kernel_rfl)
def sh26 : Sh := shSlice sh5 (by decide +kernel) 26 Try.underlying26 (by kernel_rfl)
end Go.Proofs.Ytidlgbidffldoaa
