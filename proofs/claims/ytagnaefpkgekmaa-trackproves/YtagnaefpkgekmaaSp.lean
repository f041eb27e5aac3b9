/- The shapes of this seat's parameters. -/
import Derived.Test.YtagnaefpkgekmaaOps
namespace Go.Proofs.Ytagnaefpkgekmaa
def sh3 : Sh := shInt 3 .i64 Try.underlying3 (by kernel_rfl)
def sh60 : Sh := shStruct 60 _ [sh3, sh3] Try.underlying60 (by kernel_rfl) (by kernel_rfl)
def sh22 : Sh := shSlice sh60 (by decide +kernel) 22 Try.underlying22 (by kernel_rfl)
def sh5 : Sh := shInt 5 .u8 Try.underlying5 (by kernel_rfl)
def sh35 : Sh := shInt 35 .u64 Try.underlying35 (by kernel_rfl)
def sh37 : Sh := shStruct 37 _ [sh35, sh35] Try.underlying37 (by kernel_rfl) (by kernel_rfl)
def sh39 : Sh := shStruct 39 _ [sh5, sh37, sh3, sh3] Try.underlying39 (by kernel_rfl) (by kernel_rfl)
def sh4 : Sh := shBool 4 Try.underlying4 (by kernel_rfl)
def sh41 : Sh := shStruct 41 _ [sh39, sh39, sh5, sh4, sh3, sh3] Try.underlying41 (by kernel_rfl) (by kernel_rfl)
def sh46 : Sh := shArr sh3 46 10 Try.underlying46 (by kernel_rfl)
def sh48 : Sh := shStruct 48 _ [sh3, sh46] Try.underlying48 (by kernel_rfl) (by kernel_rfl)
end Go.Proofs.Ytagnaefpkgekmaa
