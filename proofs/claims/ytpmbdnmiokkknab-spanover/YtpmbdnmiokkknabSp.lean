/- The shapes of this seat's parameters. -/
import Derived.Test.YtpmbdnmiokkknabOps
namespace Go.Proofs.Ytpmbdnmiokkknab
def sh22 : Sh := shInt 22 .u64 Try.underlying22 (by kernel_rfl)
def sh24 : Sh := shStruct 24 _ [sh22, sh22] Try.underlying24 (by kernel_rfl) (by kernel_rfl)
def sh26 : Sh := shStruct 26 _ [sh24, sh24, sh22, sh22] Try.underlying26 (by kernel_rfl) (by kernel_rfl)
def sh5 : Sh := shInt 5 .u8 Try.underlying5 (by kernel_rfl)
end Go.Proofs.Ytpmbdnmiokkknab
