/- The shapes of this seat's parameters. -/
import Derived.Test.YtpmbdnmiokkknaaOps
namespace Go.Proofs.Ytpmbdnmiokkknaa
def sh22 : Sh := shInt 22 .u64 Try.underlying22 (by kernel_rfl)
def sh24 : Sh := shStruct 24 _ [sh22, sh22] Try.underlying24 (by kernel_rfl) (by kernel_rfl)
def sh5 : Sh := shInt 5 .u8 Try.underlying5 (by kernel_rfl)
def sh43 : Sh := shStruct 43 _ [sh24, sh24, sh22, sh22] Try.underlying43 (by kernel_rfl) (by kernel_rfl)
end Go.Proofs.Ytpmbdnmiokkknaa
