/- The shapes of this seat's parameters. -/
import Derived.Test.YthdgfhllieknlaaOps
namespace Go.Proofs.Ythdgfhllieknlaa
def sh5 : Sh := shInt 5 .u8 Try.underlying5 (by kernel_rfl)
def sh22 : Sh := shSlice sh5 (by decide +kernel) 22 Try.underlying22 (by kernel_rfl)
def sh30 : Sh := shArr sh5 30 6 Try.underlying30 (by kernel_rfl)
def sh31 : Sh := shInt 31 .u16 Try.underlying31 (by kernel_rfl)
def sh33 : Sh := shStruct 33 _ [sh30, sh30, sh31] Try.underlying33 (by kernel_rfl) (by kernel_rfl)
def sh35 : Sh := shStruct 35 _ [sh5, sh31, sh31] Try.underlying35 (by kernel_rfl) (by kernel_rfl)
def sh36 : Sh := shArr sh5 36 4 Try.underlying36 (by kernel_rfl)
def sh38 : Sh := shStruct 38 _ [sh5, sh5, sh5, sh31, sh36, sh36] Try.underlying38 (by kernel_rfl) (by kernel_rfl)
def sh39 : Sh := shInt 39 .u32 Try.underlying39 (by kernel_rfl)
def sh40 : Sh := shArr sh5 40 16 Try.underlying40 (by kernel_rfl)
def sh42 : Sh := shStruct 42 _ [sh5, sh39, sh5, sh5, sh40, sh40] Try.underlying42 (by kernel_rfl) (by kernel_rfl)
def sh44 : Sh := shStruct 44 _ [sh31, sh31, sh39, sh39, sh5, sh31] Try.underlying44 (by kernel_rfl) (by kernel_rfl)
def sh46 : Sh := shStruct 46 _ [sh31, sh31] Try.underlying46 (by kernel_rfl) (by kernel_rfl)
def sh48 : Sh := shStruct 48 _ [sh5, sh33, sh35, sh38, sh42, sh44, sh46] Try.underlying48 (by kernel_rfl) (by kernel_rfl)
def sh3 : Sh := shInt 3 .i64 Try.underlying3 (by kernel_rfl)
def sh59 : Sh := shStruct 59 _ [sh3, sh3, sh3, sh33, sh35, sh38, sh42, sh44, sh46] Try.underlying59 (by kernel_rfl) (by kernel_rfl)
end Go.Proofs.Ythdgfhllieknlaa
