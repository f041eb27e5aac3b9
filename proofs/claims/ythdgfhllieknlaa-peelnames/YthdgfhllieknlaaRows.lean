/-
  No cell of these rows narrows 'for every input' (looked for: loops, veiled, ifaces, maps, wideKeys, modest, calm, conditions, laid).
  DERIVED. THE GIVEN ROWS OF THIS SEAT. 5 by the template 'for every input the law returns true; each argument reads behind the call as it read before'; 0 by the template 'total and deterministic' (their statements: YthdgfhllieknlaaTotals.lean).
  GIVEN WITH THE SEED: the statements are not yours to turn. If you find one false, say at which input.
  Laid BY PROGRAM, IN A SANDBOX (cutbox-rows.mjs): the forced cells as the released guide's own fill.sh prints them over the translation 8c8f7f547ba0eac3… (all of the seat's roots in one cut). By AI agents, Wed Nov 11 2026. No macro, syntax, notation, axiom, sorry.
-/
import Derived.Test.YthdgfhllieknlaaChecked
import GoSem.Claim
import GoSem.ClaimJoined
import GoSem.ClaimMapViews
import Derived.JoinedTies
import Derived.KernelRfl
namespace Go.Proofs.Ythdgfhllieknlaa
/- THE CELL 'sum', in the pinned program and in every row, IS THE sha256 OF THE DUMP (.gsa) THAT YthdgfhllieknlaaProg.lean LOADS. Nothing in Lean hashes anything: it is a label: what it is worth is what the hold of that sum in a sandbox is worth. -/
noncomputable def Try.pinned : Pinned := { name := "ythdgfhllieknlaa", sum := "8c8f7f547ba0eac32465b06d04405b912950e5d72ec52df497ff696ec7807cd7", checked := Try.checked }
namespace Rows
def none {H : Type} : Left H := { results := [], args := [] }

/-- 'sallyportlaw11.PeelPeels': WHATEVER THE INPUT: true; the input reads as it did. -/
def peelPeelsSpec : ChangeSpec := { name := "peelPeels", fn := fun _ => fun
  | [d] => { results := [.lit (.bool true)], args := [d] }
  | _ => none }
def peelPeelsRow : OpenClaim := { program := "ythdgfhllieknlaa", sum := "8c8f7f547ba0eac32465b06d04405b912950e5d72ec52df497ff696ec7807cd7", func := "sallyport/sallyportlaw11.PeelPeels", spec := "peelPeels", unfollowed := true, recurses := true, apart := false }
def PeelPeelsSaid : Prop := peelPeelsRow.holds Try.pinned (OpenSpec.ofChange peelPeelsSpec)

/-- ITS FALSE NEIGHBOUR: 'it returns false'. Refute it at one input. -/
def peelPeelsWrong : ChangeSpec := { name := "peelPeels", fn := fun _ => fun
  | [d] => { results := [.lit (.bool false)], args := [d] }
  | _ => none }
def PeelPeelsWrongFalsely : Prop := peelPeelsRow.holds Try.pinned (OpenSpec.ofChange peelPeelsWrong)

/-- 'sallyportlaw11.PeelWheres': WHATEVER THE INPUT: true; the input reads as it did. -/
def peelWheresSpec : ChangeSpec := { name := "peelWheres", fn := fun _ => fun
  | [d1, d2] => { results := [.lit (.bool true)], args := [d1, d2] }
  | _ => none }
def peelWheresRow : OpenClaim := { program := "ythdgfhllieknlaa", sum := "8c8f7f547ba0eac32465b06d04405b912950e5d72ec52df497ff696ec7807cd7", func := "sallyport/sallyportlaw11.PeelWheres", spec := "peelWheres", unfollowed := true, recurses := true, apart := false }
def PeelWheresSaid : Prop := peelWheresRow.holds Try.pinned (OpenSpec.ofChange peelWheresSpec)

/-- ITS FALSE NEIGHBOUR: 'it returns false'. Refute it at one input. -/
def peelWheresWrong : ChangeSpec := { name := "peelWheres", fn := fun _ => fun
  | [d1, d2] => { results := [.lit (.bool false)], args := [d1, d2] }
  | _ => none }
def PeelWheresWrongFalsely : Prop := peelWheresRow.holds Try.pinned (OpenSpec.ofChange peelWheresWrong)

/-- 'sallyportlaw11.PeelBack': WHATEVER THE INPUT: true; the input reads as it did. -/
def peelBackSpec : ChangeSpec := { name := "peelBack", fn := fun _ => fun
  | [d1, d2] => { results := [.lit (.bool true)], args := [d1, d2] }
  | _ => none }
def peelBackRow : OpenClaim := { program := "ythdgfhllieknlaa", sum := "8c8f7f547ba0eac32465b06d04405b912950e5d72ec52df497ff696ec7807cd7", func := "sallyport/sallyportlaw11.PeelBack", spec := "peelBack", unfollowed := true, recurses := true, apart := false }
def PeelBackSaid : Prop := peelBackRow.holds Try.pinned (OpenSpec.ofChange peelBackSpec)

/-- ITS FALSE NEIGHBOUR: 'it returns false'. Refute it at one input. -/
def peelBackWrong : ChangeSpec := { name := "peelBack", fn := fun _ => fun
  | [d1, d2] => { results := [.lit (.bool false)], args := [d1, d2] }
  | _ => none }
def PeelBackWrongFalsely : Prop := peelBackRow.holds Try.pinned (OpenSpec.ofChange peelBackWrong)

/-- 'sallyportlaw11.PeelAll': WHATEVER THE INPUT: true; the input reads as it did. -/
def peelAllSpec : ChangeSpec := { name := "peelAll", fn := fun _ => fun
  | [d] => { results := [.lit (.bool true)], args := [d] }
  | _ => none }
def peelAllRow : OpenClaim := { program := "ythdgfhllieknlaa", sum := "8c8f7f547ba0eac32465b06d04405b912950e5d72ec52df497ff696ec7807cd7", func := "sallyport/sallyportlaw11.PeelAll", spec := "peelAll", unfollowed := true, recurses := true, apart := false }
def PeelAllSaid : Prop := peelAllRow.holds Try.pinned (OpenSpec.ofChange peelAllSpec)

/-- ITS FALSE NEIGHBOUR: 'it returns false'. Refute it at one input. -/
def peelAllWrong : ChangeSpec := { name := "peelAll", fn := fun _ => fun
  | [d] => { results := [.lit (.bool false)], args := [d] }
  | _ => none }
def PeelAllWrongFalsely : Prop := peelAllRow.holds Try.pinned (OpenSpec.ofChange peelAllWrong)

/-- 'sallyportlaw11.PeelNames': WHATEVER THE INPUT: true; the input reads as it did. -/
def peelNamesSpec : ChangeSpec := { name := "peelNames", fn := fun _ => fun
  | [] => { results := [.lit (.bool true)], args := [] }
  | _ => none }
def peelNamesRow : OpenClaim := { program := "ythdgfhllieknlaa", sum := "8c8f7f547ba0eac32465b06d04405b912950e5d72ec52df497ff696ec7807cd7", func := "sallyport/sallyportlaw11.PeelNames", spec := "peelNames", unfollowed := true, recurses := true, apart := false }
def PeelNamesSaid : Prop := peelNamesRow.holds Try.pinned (OpenSpec.ofChange peelNamesSpec)

/-- ITS FALSE NEIGHBOUR: 'it returns false'. Refute it at one input. -/
def peelNamesWrong : ChangeSpec := { name := "peelNames", fn := fun _ => fun
  | [] => { results := [.lit (.bool false)], args := [] }
  | _ => none }
def PeelNamesWrongFalsely : Prop := peelNamesRow.holds Try.pinned (OpenSpec.ofChange peelNamesWrong)

/- THE SECOND FORM. 'bulk': how many values and letters a reading holds, each counted each time it is reached (what is shared counts as often as it is met; a slice's spare places count too). A statement '..UptoSaid' is the law's where the arguments, and the package variables that the reading takes, are together of bulk at most 1048576: NARROWER than '..Said'. Prove '..Said' where nothing that the law and all that it calls make is longer than what came in: it says more and counts as full. Else prove '..UptoSaid'. A law counts once. -/
mutual
def uptoBulk {H : Type} : DataW H → Nat
  | .lit (.string bytes) => bytes.length + 1
  | .lit _ => 1
  | .nil => 1
  | .ptr d => uptoBulk d + 1
  | .slice elems spare => uptoBulkAll elems + uptoBulkAll spare + 1
  | .agg parts => uptoBulkAll parts + 1
  | .iface _ d => uptoBulk d + 1
  | .map entries => uptoBulkEntries entries + 1
  | .held _ => 1
def uptoBulkAll {H : Type} : List (DataW H) → Nat
  | [] => 0
  | d :: r => uptoBulk d + uptoBulkAll r
def uptoBulkEntries {H : Type} : List (Lit × DataW H) → Nat
  | [] => 0
  | x :: r => uptoBulkEntry x + uptoBulkEntries r
def uptoBulkEntry {H : Type} : Lit × DataW H → Nat
  | (.string bytes, d) => bytes.length + uptoBulk d + 1
  | (_, d) => uptoBulk d + 1
 end
def uptoSmall : (H : Type) → List (DataW H) → Bool := fun _ ds => decide (uptoBulkAll ds ≤ 1048576)
def OpenSpec.upto (s : _root_.Go.ChangeSpec) : _root_.Go.OpenSpec := { _root_.Go.OpenSpec.ofChange s with cond := some uptoSmall }

/-- 'sallyportlaw11.PeelPeels', WHERE WHAT IT READS IS OF BULK AT MOST 1048576: true; the input reads as it did. -/
def peelPeelsUptoRow : OpenClaim := { program := "ythdgfhllieknlaa", sum := "8c8f7f547ba0eac32465b06d04405b912950e5d72ec52df497ff696ec7807cd7", func := "sallyport/sallyportlaw11.PeelPeels", spec := "peelPeels", unfollowed := true, recurses := true, apart := false, narrowed := true }
def PeelPeelsUptoSaid : Prop := peelPeelsUptoRow.holds Try.pinned (OpenSpec.upto peelPeelsSpec)

/-- 'sallyportlaw11.PeelWheres', WHERE WHAT IT READS IS OF BULK AT MOST 1048576: true; the input reads as it did. -/
def peelWheresUptoRow : OpenClaim := { program := "ythdgfhllieknlaa", sum := "8c8f7f547ba0eac32465b06d04405b912950e5d72ec52df497ff696ec7807cd7", func := "sallyport/sallyportlaw11.PeelWheres", spec := "peelWheres", unfollowed := true, recurses := true, apart := false, narrowed := true }
def PeelWheresUptoSaid : Prop := peelWheresUptoRow.holds Try.pinned (OpenSpec.upto peelWheresSpec)

/-- 'sallyportlaw11.PeelBack', WHERE WHAT IT READS IS OF BULK AT MOST 1048576: true; the input reads as it did. -/
def peelBackUptoRow : OpenClaim := { program := "ythdgfhllieknlaa", sum := "8c8f7f547ba0eac32465b06d04405b912950e5d72ec52df497ff696ec7807cd7", func := "sallyport/sallyportlaw11.PeelBack", spec := "peelBack", unfollowed := true, recurses := true, apart := false, narrowed := true }
def PeelBackUptoSaid : Prop := peelBackUptoRow.holds Try.pinned (OpenSpec.upto peelBackSpec)

/-- 'sallyportlaw11.PeelAll', WHERE WHAT IT READS IS OF BULK AT MOST 1048576: true; the input reads as it did. -/
def peelAllUptoRow : OpenClaim := { program := "ythdgfhllieknlaa", sum := "8c8f7f547ba0eac32465b06d04405b912950e5d72ec52df497ff696ec7807cd7", func := "sallyport/sallyportlaw11.PeelAll", spec := "peelAll", unfollowed := true, recurses := true, apart := false, narrowed := true }
def PeelAllUptoSaid : Prop := peelAllUptoRow.holds Try.pinned (OpenSpec.upto peelAllSpec)

/-- 'sallyportlaw11.PeelNames', WHERE WHAT IT READS IS OF BULK AT MOST 1048576: true; the input reads as it did. -/
def peelNamesUptoRow : OpenClaim := { program := "ythdgfhllieknlaa", sum := "8c8f7f547ba0eac32465b06d04405b912950e5d72ec52df497ff696ec7807cd7", func := "sallyport/sallyportlaw11.PeelNames", spec := "peelNames", unfollowed := true, recurses := true, apart := false, narrowed := true }
def PeelNamesUptoSaid : Prop := peelNamesUptoRow.holds Try.pinned (OpenSpec.upto peelNamesSpec)

end Rows
end Go.Proofs.Ythdgfhllieknlaa
