/- The shapes of this seat's parameters. -/
import Derived.Test.YtoakinmgjiklhaaOps
namespace Go.Proofs.Ytoakinmgjiklhaa
def sh22 : Sh := shInt 22 .u16 Try.underlying22 (by kernel_rfl)
def sh23 : Sh := shInt 23 .u32 Try.underlying23 (by kernel_rfl)
def sh5 : Sh := shInt 5 .u8 Try.underlying5 (by kernel_rfl)
def sh25 : Sh := shStruct 25 _ [sh22, sh22, sh23, sh23, sh5, sh22] Try.underlying25 (by kernel_rfl) (by kernel_rfl)
def sh26 : Sh := shSlice sh5 (by decide +kernel) 26 Try.underlying26 (by kernel_rfl)
def sh3 : Sh := shInt 3 .i64 Try.underlying3 (by kernel_rfl)
def sh41 : Sh := shArr sh3 41 2 Try.underlying41 (by kernel_rfl)
end Go.Proofs.Ytoakinmgjiklhaa
