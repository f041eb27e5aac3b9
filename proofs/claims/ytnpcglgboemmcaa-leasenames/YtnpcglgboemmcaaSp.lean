/- The shapes of this seat's parameters. -/
import Derived.Test.YtnpcglgboemmcaaOps
namespace Go.Proofs.Ytnpcglgboemmcaa
def sh5 : Sh := shInt 5 .u8 Try.underlying5 (by kernel_rfl)
def sh22 : Sh := shSlice sh5 (by decide +kernel) 22 Try.underlying22 (by kernel_rfl)
def sh3 : Sh := shInt 3 .i64 Try.underlying3 (by kernel_rfl)
def sh24 : Sh := shStruct 24 _ [sh3, sh3] Try.underlying24 (by kernel_rfl) (by kernel_rfl)
def sh4 : Sh := shBool 4 Try.underlying4 (by kernel_rfl)
def sh40 : Sh := shStruct 40 _ [sh4, sh3, sh24] Try.underlying40 (by kernel_rfl) (by kernel_rfl)
def sh34 : Sh := shSlice sh40 (by decide +kernel) 34 Try.underlying34 (by kernel_rfl)
def sh53 : Sh := shStruct 53 _ [sh5, sh3, sh22] Try.underlying53 (by kernel_rfl) (by kernel_rfl)
def sh50 : Sh := shSlice sh53 (by decide +kernel) 50 Try.underlying50 (by kernel_rfl)
end Go.Proofs.Ytnpcglgboemmcaa
