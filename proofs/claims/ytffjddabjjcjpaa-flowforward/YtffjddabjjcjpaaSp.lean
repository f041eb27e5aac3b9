/- The shapes of this seat's parameters. -/
import Derived.Test.YtffjddabjjcjpaaOps
namespace Go.Proofs.Ytffjddabjjcjpaa
def sh5 : Sh := shInt 5 .u8 Try.underlying5 (by kernel_rfl)
def sh35 : Sh := shInt 35 .i16 Try.underlying35 (by kernel_rfl)
def sh21 : Sh := shInt 21 .i32 Try.underlying21 (by kernel_rfl)
def sh37 : Sh := shStruct 37 _ [sh5, sh5, sh5, sh35, sh21] Try.underlying37 (by kernel_rfl) (by kernel_rfl)
def sh22 : Sh := shSlice sh37 (by decide +kernel) 22 Try.underlying22 (by kernel_rfl)
def sh3 : Sh := shInt 3 .i64 Try.underlying3 (by kernel_rfl)
def sh4 : Sh := shBool 4 Try.underlying4 (by kernel_rfl)
def sh32 : Sh := shSlice sh4 (by decide +kernel) 32 Try.underlying32 (by kernel_rfl)
end Go.Proofs.Ytffjddabjjcjpaa
