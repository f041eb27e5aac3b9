/- The shapes of this seat's parameters. -/
import Derived.Test.YtllhamcolinedaaOps
namespace Go.Proofs.Ytllhamcolinedaa
def sh5 : Sh := shInt 5 .u8 Try.underlying5 (by kernel_rfl)
def sh22 : Sh := shSlice sh5 (by decide +kernel) 22 Try.underlying22 (by kernel_rfl)
def sh3 : Sh := shInt 3 .i64 Try.underlying3 (by kernel_rfl)
def sh23 : Sh := shArr sh3 23 2 Try.underlying23 (by kernel_rfl)
def sh36 : Sh := shInt 36 .u64 Try.underlying36 (by kernel_rfl)
def sh38 : Sh := shStruct 38 _ [sh3, sh3, sh3, sh3, sh36] Try.underlying38 (by kernel_rfl) (by kernel_rfl)
def sh24 : Sh := shSlice sh38 (by decide +kernel) 24 Try.underlying24 (by kernel_rfl)
def sh41 : Sh := shArr sh3 41 4 Try.underlying41 (by kernel_rfl)
end Go.Proofs.Ytllhamcolinedaa
