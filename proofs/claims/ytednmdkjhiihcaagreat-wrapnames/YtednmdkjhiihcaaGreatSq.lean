/- Further shapes. -/
import Derived.Test.YtednmdkjhiihcaaGreatSp
namespace Go.Proofs.YtednmdkjhiihcaaGreat
def sh3 : Sh := shInt 3 .i64 Tryz.underlying3 (by kernel_rfl)
def sh68 : Sh := shArr sh3 68 2 Tryz.underlying68 (by kernel_rfl)
def sh4 : Sh := shBool 4 Tryz.underlying4 (by kernel_rfl)
def sh70 : Sh := shStruct 70 _ [sh4, sh5, sh46] Tryz.underlying70 (by kernel_rfl) (by kernel_rfl)
end Go.Proofs.YtednmdkjhiihcaaGreat
