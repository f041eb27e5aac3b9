/- The shapes of this seat's parameters. -/
import Derived.Test.YtednmdkjhiihcaaGreatOps
namespace Go.Proofs.YtednmdkjhiihcaaGreat
def sh5 : Sh := shInt 5 .u8 Tryz.underlying5 (by kernel_rfl)
def sh22 : Sh := shSlice sh5 (by decide +kernel) 22 Tryz.underlying22 (by kernel_rfl)
def sh28 : Sh := shArr sh5 28 6 Tryz.underlying28 (by kernel_rfl)
def sh29 : Sh := shInt 29 .u16 Tryz.underlying29 (by kernel_rfl)
def sh31 : Sh := shStruct 31 _ [sh28, sh28, sh29] Tryz.underlying31 (by kernel_rfl) (by kernel_rfl)
def sh33 : Sh := shStruct 33 _ [sh5, sh29, sh29] Tryz.underlying33 (by kernel_rfl) (by kernel_rfl)
def sh34 : Sh := shArr sh5 34 4 Tryz.underlying34 (by kernel_rfl)
def sh36 : Sh := shStruct 36 _ [sh5, sh5, sh5, sh29, sh34, sh34] Tryz.underlying36 (by kernel_rfl) (by kernel_rfl)
def sh37 : Sh := shInt 37 .u32 Tryz.underlying37 (by kernel_rfl)
def sh38 : Sh := shArr sh5 38 16 Tryz.underlying38 (by kernel_rfl)
def sh40 : Sh := shStruct 40 _ [sh5, sh37, sh5, sh5, sh38, sh38] Tryz.underlying40 (by kernel_rfl) (by kernel_rfl)
def sh42 : Sh := shStruct 42 _ [sh29, sh29, sh37, sh37, sh5, sh29] Tryz.underlying42 (by kernel_rfl) (by kernel_rfl)
def sh44 : Sh := shStruct 44 _ [sh29, sh29] Tryz.underlying44 (by kernel_rfl) (by kernel_rfl)
def sh46 : Sh := shStruct 46 _ [sh5, sh31, sh33, sh36, sh40, sh42, sh44] Tryz.underlying46 (by kernel_rfl) (by kernel_rfl)
def sh23 : Sh := shSlice sh46 (by decide +kernel) 23 Tryz.underlying23 (by kernel_rfl)
end Go.Proofs.YtednmdkjhiihcaaGreat
