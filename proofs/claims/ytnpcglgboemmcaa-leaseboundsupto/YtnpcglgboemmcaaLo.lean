/- The walk of the statement LeaseBounds, as its frame takes it. -/
import Derived.Test.YtnpcglgboemmcaaLn
namespace Go.Proofs.Ytnpcglgboemmcaa
open Go.ChangeShapes Go.WideShapes Go.ChangeAt Go.RowKit

theorem walkLeaseBounds (a0 : Option Addr) (c0 : Nat) (zs : List Int) (m1 : sh24.M) (a2 : Option Addr) (c2 : Nat) (xs : List sh53.M) (W : World) (h0 : Bs W a0 zs) (n0 : (a0 = none → c0 = 0) ∧ zs.length ≤ c0) (o1 : sh24.ok W m1)
    (o2 : SlOk sh53 W a2 c2 xs) (l2 : szs sh53 xs ≤ 1048576) (u0 : zs.length ≤ 1048576) :
    Calls Try.prog 5 #[.slice a0 zs.length c0, .agg (sh24.cs m1).toArray, .slice a2 xs.length c2] W fun e w' => e = .returned (.bool true) ∧ Below W.heap.size W w' :=
  bounds_any a0 c0 zs m1.1 m1.2 a2 c2 xs W h0 n0 o1.1 o1.2 o2 l2 u0
end Go.Proofs.Ytnpcglgboemmcaa
