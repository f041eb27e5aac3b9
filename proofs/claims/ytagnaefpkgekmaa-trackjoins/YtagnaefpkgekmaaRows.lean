/-
  No cell of these rows narrows 'for every input' (looked for: loops, veiled, ifaces, maps, wideKeys, modest, calm, conditions, laid).
  DERIVED. THE GIVEN ROWS OF THIS SEAT. 6 by the template 'for every input the law returns true; each argument reads behind the call as it read before'; 0 by the template 'total and deterministic' (their statements: YtagnaefpkgekmaaTotals.lean).
  GIVEN WITH THE SEED: the statements are not yours to turn. If you find one false, say at which input.
  Laid BY PROGRAM, IN A SANDBOX (cutbox-rows.mjs): the forced cells as the released guide's own fill.sh prints them over the translation be849960aa2e89f5… (all of the seat's roots in one cut). By AI agents, Wed Nov 11 2026. No macro, syntax, notation, axiom, sorry.
-/
import Derived.Test.YtagnaefpkgekmaaChecked
import GoSem.Claim
import GoSem.ClaimJoined
import GoSem.ClaimMapViews
import Derived.JoinedTies
import Derived.KernelRfl
namespace Go.Proofs.Ytagnaefpkgekmaa
/- THE CELL 'sum', in the pinned program and in every row, IS THE sha256 OF THE DUMP (.gsa) THAT YtagnaefpkgekmaaProg.lean LOADS. Nothing in Lean hashes anything: it is a label: what it is worth is what the hold of that sum in a sandbox is worth. -/
noncomputable def Try.pinned : Pinned := { name := "ytagnaefpkgekmaa", sum := "be849960aa2e89f5096e1574b3142e64b1a93385cfc2d353c6575e75042f5206", checked := Try.checked }
namespace Rows
def none {H : Type} : Left H := { results := [], args := [] }

/-- 'sallyportlaw16.TrackProves': WHATEVER THE INPUT: true; the input reads as it did. -/
def trackProvesSpec : ChangeSpec := { name := "trackProves", fn := fun _ => fun
  | [d1, d2, d3] => { results := [.lit (.bool true)], args := [d1, d2, d3] }
  | _ => none }
def trackProvesRow : OpenClaim := { program := "ytagnaefpkgekmaa", sum := "be849960aa2e89f5096e1574b3142e64b1a93385cfc2d353c6575e75042f5206", func := "sallyport/sallyportlaw16.TrackProves", spec := "trackProves", unfollowed := true, recurses := true, apart := false }
def TrackProvesSaid : Prop := trackProvesRow.holds Try.pinned (OpenSpec.ofChange trackProvesSpec)

/-- ITS FALSE NEIGHBOUR: 'it returns false'. Refute it at one input. -/
def trackProvesWrong : ChangeSpec := { name := "trackProves", fn := fun _ => fun
  | [d1, d2, d3] => { results := [.lit (.bool false)], args := [d1, d2, d3] }
  | _ => none }
def TrackProvesWrongFalsely : Prop := trackProvesRow.holds Try.pinned (OpenSpec.ofChange trackProvesWrong)

/-- 'sallyportlaw16.TrackJoins': WHATEVER THE INPUT: true; the input reads as it did. -/
def trackJoinsSpec : ChangeSpec := { name := "trackJoins", fn := fun _ => fun
  | [d1, d2] => { results := [.lit (.bool true)], args := [d1, d2] }
  | _ => none }
def trackJoinsRow : OpenClaim := { program := "ytagnaefpkgekmaa", sum := "be849960aa2e89f5096e1574b3142e64b1a93385cfc2d353c6575e75042f5206", func := "sallyport/sallyportlaw16.TrackJoins", spec := "trackJoins", unfollowed := true, recurses := true, apart := false }
def TrackJoinsSaid : Prop := trackJoinsRow.holds Try.pinned (OpenSpec.ofChange trackJoinsSpec)

/-- ITS FALSE NEIGHBOUR: 'it returns false'. Refute it at one input. -/
def trackJoinsWrong : ChangeSpec := { name := "trackJoins", fn := fun _ => fun
  | [d1, d2] => { results := [.lit (.bool false)], args := [d1, d2] }
  | _ => none }
def TrackJoinsWrongFalsely : Prop := trackJoinsRow.holds Try.pinned (OpenSpec.ofChange trackJoinsWrong)

/-- 'sallyportlaw16.TrackTells': WHATEVER THE INPUT: true; the input reads as it did. -/
def trackTellsSpec : ChangeSpec := { name := "trackTells", fn := fun _ => fun
  | [d1, d2] => { results := [.lit (.bool true)], args := [d1, d2] }
  | _ => none }
def trackTellsRow : OpenClaim := { program := "ytagnaefpkgekmaa", sum := "be849960aa2e89f5096e1574b3142e64b1a93385cfc2d353c6575e75042f5206", func := "sallyport/sallyportlaw16.TrackTells", spec := "trackTells", unfollowed := true, recurses := true, apart := false }
def TrackTellsSaid : Prop := trackTellsRow.holds Try.pinned (OpenSpec.ofChange trackTellsSpec)

/-- ITS FALSE NEIGHBOUR: 'it returns false'. Refute it at one input. -/
def trackTellsWrong : ChangeSpec := { name := "trackTells", fn := fun _ => fun
  | [d1, d2] => { results := [.lit (.bool false)], args := [d1, d2] }
  | _ => none }
def TrackTellsWrongFalsely : Prop := trackTellsRow.holds Try.pinned (OpenSpec.ofChange trackTellsWrong)

/-- 'sallyportlaw16.TrackSound': WHATEVER THE INPUT: true; the input reads as it did. -/
def trackSoundSpec : ChangeSpec := { name := "trackSound", fn := fun _ => fun
  | [d1, d2, d3] => { results := [.lit (.bool true)], args := [d1, d2, d3] }
  | _ => none }
def trackSoundRow : OpenClaim := { program := "ytagnaefpkgekmaa", sum := "be849960aa2e89f5096e1574b3142e64b1a93385cfc2d353c6575e75042f5206", func := "sallyport/sallyportlaw16.TrackSound", spec := "trackSound", unfollowed := true, recurses := true, apart := false }
def TrackSoundSaid : Prop := trackSoundRow.holds Try.pinned (OpenSpec.ofChange trackSoundSpec)

/-- ITS FALSE NEIGHBOUR: 'it returns false'. Refute it at one input. -/
def trackSoundWrong : ChangeSpec := { name := "trackSound", fn := fun _ => fun
  | [d1, d2, d3] => { results := [.lit (.bool false)], args := [d1, d2, d3] }
  | _ => none }
def TrackSoundWrongFalsely : Prop := trackSoundRow.holds Try.pinned (OpenSpec.ofChange trackSoundWrong)

/-- 'sallyportlaw16.TrackFinds': WHATEVER THE INPUT: true; the input reads as it did. -/
def trackFindsSpec : ChangeSpec := { name := "trackFinds", fn := fun _ => fun
  | [d1, d2, d3] => { results := [.lit (.bool true)], args := [d1, d2, d3] }
  | _ => none }
def trackFindsRow : OpenClaim := { program := "ytagnaefpkgekmaa", sum := "be849960aa2e89f5096e1574b3142e64b1a93385cfc2d353c6575e75042f5206", func := "sallyport/sallyportlaw16.TrackFinds", spec := "trackFinds", unfollowed := true, recurses := true, apart := false }
def TrackFindsSaid : Prop := trackFindsRow.holds Try.pinned (OpenSpec.ofChange trackFindsSpec)

/-- ITS FALSE NEIGHBOUR: 'it returns false'. Refute it at one input. -/
def trackFindsWrong : ChangeSpec := { name := "trackFinds", fn := fun _ => fun
  | [d1, d2, d3] => { results := [.lit (.bool false)], args := [d1, d2, d3] }
  | _ => none }
def TrackFindsWrongFalsely : Prop := trackFindsRow.holds Try.pinned (OpenSpec.ofChange trackFindsWrong)

/-- 'sallyportlaw16.TrackJoin': WHATEVER THE INPUT: true; the input reads as it did. -/
def trackJoinSpec : ChangeSpec := { name := "trackJoin", fn := fun _ => fun
  | [d1, d2, d3] => { results := [.lit (.bool true)], args := [d1, d2, d3] }
  | _ => none }
def trackJoinRow : OpenClaim := { program := "ytagnaefpkgekmaa", sum := "be849960aa2e89f5096e1574b3142e64b1a93385cfc2d353c6575e75042f5206", func := "sallyport/sallyportlaw16.TrackJoin", spec := "trackJoin", unfollowed := true, recurses := true, apart := false }
def TrackJoinSaid : Prop := trackJoinRow.holds Try.pinned (OpenSpec.ofChange trackJoinSpec)

/-- ITS FALSE NEIGHBOUR: 'it returns false'. Refute it at one input. -/
def trackJoinWrong : ChangeSpec := { name := "trackJoin", fn := fun _ => fun
  | [d1, d2, d3] => { results := [.lit (.bool false)], args := [d1, d2, d3] }
  | _ => none }
def TrackJoinWrongFalsely : Prop := trackJoinRow.holds Try.pinned (OpenSpec.ofChange trackJoinWrong)

/- THE SECOND FORM. 'bulk': how many values and letters a reading holds, each counted each time it is reached (what is shared counts as often as it is met; a slice's spare places count too). A statement '..UptoSaid' is the law's where the arguments, and the package variables that the reading takes, are together of bulk at most 1048576: NARROWER than '..Said'. Prove '..Said' where nothing that the law and all that it calls make is longer than what came in: it says more and counts as full. Else prove '..UptoSaid'. A law counts once. -/
mutual
def uptoBulk {H : Type} : DataW H → Nat
  | .lit (.string bytes) => bytes.length + 1
  | .lit _ => 1
  | .nil => 1
  | .ptr d => uptoBulk d + 1
  | .slice elems spare => uptoBulkAll elems + uptoBulkAll spare + 1
  | .agg parts => uptoBulkAll parts + 1
  | .iface _ d => uptoBulk d + 1
  | .map entries => uptoBulkEntries entries + 1
  | .held _ => 1
def uptoBulkAll {H : Type} : List (DataW H) → Nat
  | [] => 0
  | d :: r => uptoBulk d + uptoBulkAll r
def uptoBulkEntries {H : Type} : List (Lit × DataW H) → Nat
  | [] => 0
  | x :: r => uptoBulkEntry x + uptoBulkEntries r
def uptoBulkEntry {H : Type} : Lit × DataW H → Nat
  | (.string bytes, d) => bytes.length + uptoBulk d + 1
  | (_, d) => uptoBulk d + 1
 end
def uptoSmall : (H : Type) → List (DataW H) → Bool := fun _ ds => decide (uptoBulkAll ds ≤ 1048576)
def OpenSpec.upto (s : _root_.Go.ChangeSpec) : _root_.Go.OpenSpec := { _root_.Go.OpenSpec.ofChange s with cond := some uptoSmall }

/-- 'sallyportlaw16.TrackProves', WHERE WHAT IT READS IS OF BULK AT MOST 1048576: true; the input reads as it did. -/
def trackProvesUptoRow : OpenClaim := { program := "ytagnaefpkgekmaa", sum := "be849960aa2e89f5096e1574b3142e64b1a93385cfc2d353c6575e75042f5206", func := "sallyport/sallyportlaw16.TrackProves", spec := "trackProves", unfollowed := true, recurses := true, apart := false, narrowed := true }
def TrackProvesUptoSaid : Prop := trackProvesUptoRow.holds Try.pinned (OpenSpec.upto trackProvesSpec)

/-- 'sallyportlaw16.TrackJoins', WHERE WHAT IT READS IS OF BULK AT MOST 1048576: true; the input reads as it did. -/
def trackJoinsUptoRow : OpenClaim := { program := "ytagnaefpkgekmaa", sum := "be849960aa2e89f5096e1574b3142e64b1a93385cfc2d353c6575e75042f5206", func := "sallyport/sallyportlaw16.TrackJoins", spec := "trackJoins", unfollowed := true, recurses := true, apart := false, narrowed := true }
def TrackJoinsUptoSaid : Prop := trackJoinsUptoRow.holds Try.pinned (OpenSpec.upto trackJoinsSpec)

/-- 'sallyportlaw16.TrackTells', WHERE WHAT IT READS IS OF BULK AT MOST 1048576: true; the input reads as it did. -/
def trackTellsUptoRow : OpenClaim := { program := "ytagnaefpkgekmaa", sum := "be849960aa2e89f5096e1574b3142e64b1a93385cfc2d353c6575e75042f5206", func := "sallyport/sallyportlaw16.TrackTells", spec := "trackTells", unfollowed := true, recurses := true, apart := false, narrowed := true }
def TrackTellsUptoSaid : Prop := trackTellsUptoRow.holds Try.pinned (OpenSpec.upto trackTellsSpec)

/-- 'sallyportlaw16.TrackSound', WHERE WHAT IT READS IS OF BULK AT MOST 1048576: true; the input reads as it did. -/
def trackSoundUptoRow : OpenClaim := { program := "ytagnaefpkgekmaa", sum := "be849960aa2e89f5096e1574b3142e64b1a93385cfc2d353c6575e75042f5206", func := "sallyport/sallyportlaw16.TrackSound", spec := "trackSound", unfollowed := true, recurses := true, apart := false, narrowed := true }
def TrackSoundUptoSaid : Prop := trackSoundUptoRow.holds Try.pinned (OpenSpec.upto trackSoundSpec)

/-- 'sallyportlaw16.TrackFinds', WHERE WHAT IT READS IS OF BULK AT MOST 1048576: true; the input reads as it did. -/
def trackFindsUptoRow : OpenClaim := { program := "ytagnaefpkgekmaa", sum := "be849960aa2e89f5096e1574b3142e64b1a93385cfc2d353c6575e75042f5206", func := "sallyport/sallyportlaw16.TrackFinds", spec := "trackFinds", unfollowed := true, recurses := true, apart := false, narrowed := true }
def TrackFindsUptoSaid : Prop := trackFindsUptoRow.holds Try.pinned (OpenSpec.upto trackFindsSpec)

/-- 'sallyportlaw16.TrackJoin', WHERE WHAT IT READS IS OF BULK AT MOST 1048576: true; the input reads as it did. -/
def trackJoinUptoRow : OpenClaim := { program := "ytagnaefpkgekmaa", sum := "be849960aa2e89f5096e1574b3142e64b1a93385cfc2d353c6575e75042f5206", func := "sallyport/sallyportlaw16.TrackJoin", spec := "trackJoin", unfollowed := true, recurses := true, apart := false, narrowed := true }
def TrackJoinUptoSaid : Prop := trackJoinUptoRow.holds Try.pinned (OpenSpec.upto trackJoinSpec)

end Rows
end Go.Proofs.Ytagnaefpkgekmaa
