/- The laws' spare, spoil, kept. -/
import Derived.Test.YtagnaefpkgekmabCo
namespace Go.Proofs.Ytagnaefpkgekmab
open Go.ChangeShapes Go.WideShapes Go.ChangeAt Go.RowKit Go.Maps Go.Sort Go.Shelf
set_option maxRecDepth 10000

end Go.Proofs.Ytagnaefpkgekmab
