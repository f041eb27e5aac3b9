/- The shapes of this seat's parameters. -/
import Derived.Test.YtbbnoogkgobeoaaOps
namespace Go.Proofs.Ytbbnoogkgobeoaa
def sh22 : Sh := shInt 22 .u16 Try.underlying22 (by kernel_rfl)
def sh24 : Sh := shStruct 24 _ [sh22, sh22] Try.underlying24 (by kernel_rfl) (by kernel_rfl)
def sh5 : Sh := shInt 5 .u8 Try.underlying5 (by kernel_rfl)
def sh25 : Sh := shSlice sh5 (by decide +kernel) 25 Try.underlying25 (by kernel_rfl)
def sh3 : Sh := shInt 3 .i64 Try.underlying3 (by kernel_rfl)
def sh40 : Sh := shArr sh3 40 2 Try.underlying40 (by kernel_rfl)
end Go.Proofs.Ytbbnoogkgobeoaa
