/- The shapes of this seat's parameters. -/
import Derived.Test.YtbinedhgjmfceaaOps
namespace Go.Proofs.Ytbinedhgjmfceaa
def sh5 : Sh := shInt 5 .u8 Try.underlying5 (by kernel_rfl)
def sh22 : Sh := shSlice sh5 (by decide +kernel) 22 Try.underlying22 (by kernel_rfl)
def sh3 : Sh := shInt 3 .i64 Try.underlying3 (by kernel_rfl)
def sh31 : Sh := shInt 31 .u64 Try.underlying31 (by kernel_rfl)
def sh33 : Sh := shStruct 33 _ [sh3, sh3, sh3, sh3, sh3, sh31, sh22] Try.underlying33 (by kernel_rfl) (by kernel_rfl)
def sh23 : Sh := shSlice sh33 (by decide +kernel) 23 Try.underlying23 (by kernel_rfl)
def sh47 : Sh := shSlice sh3 (by decide +kernel) 47 Try.underlying47 (by kernel_rfl)
end Go.Proofs.Ytbinedhgjmfceaa
