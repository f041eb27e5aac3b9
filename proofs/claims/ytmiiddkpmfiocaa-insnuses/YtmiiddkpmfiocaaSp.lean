/- The shapes of this seat's parameters. -/
import Derived.Test.YtmiiddkpmfiocaaOps
namespace Go.Proofs.Ytmiiddkpmfiocaa
def sh5 : Sh := shInt 5 .u8 Try.underlying5 (by kernel_rfl)
def sh22 : Sh := shInt 22 .i16 Try.underlying22 (by kernel_rfl)
def sh21 : Sh := shInt 21 .i32 Try.underlying21 (by kernel_rfl)
def sh24 : Sh := shStruct 24 _ [sh5, sh5, sh5, sh22, sh21] Try.underlying24 (by kernel_rfl) (by kernel_rfl)
def sh25 : Sh := shInt 25 .u64 Try.underlying25 (by kernel_rfl)
def sh9 : Sh := shStr 9 Try.underlying9 (by kernel_rfl)
def sh3 : Sh := shInt 3 .i64 Try.underlying3 (by kernel_rfl)
end Go.Proofs.Ytmiiddkpmfiocaa
