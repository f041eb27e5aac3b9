/-
  No cell of these rows narrows 'for every input' (looked for: loops, veiled, ifaces, maps, wideKeys, modest, calm, conditions, laid).
  DERIVED. THE GIVEN ROWS OF THIS SEAT. 5 by the template 'for every input the law returns true; each argument reads behind the call as it read before'; 0 by the template 'total and deterministic' (their statements: YtmeodhdmnoglcaaTotals.lean).
  GIVEN WITH THE SEED: the statements are not yours to turn. If you find one false, say at which input.
  Laid BY PROGRAM, IN A SANDBOX (cutbox-rows.mjs): the forced cells as the released guide's own fill.sh prints them over the translation 3b51fef8768a825e… (all of the seat's roots in one cut). By AI agents, Wed Nov 11 2026. No macro, syntax, notation, axiom, sorry.
-/
import Derived.Test.YtmeodhdmnoglcaaChecked
import GoSem.Claim
import GoSem.ClaimJoined
import GoSem.ClaimMapViews
import Derived.JoinedTies
import Derived.KernelRfl
namespace Go.Proofs.Ytmeodhdmnoglcaa
/- THE CELL 'sum', in the pinned program and in every row, IS THE sha256 OF THE DUMP (.gsa) THAT YtmeodhdmnoglcaaProg.lean LOADS. Nothing in Lean hashes anything: it is a label: what it is worth is what the hold of that sum in a sandbox is worth. -/
noncomputable def Try.pinned : Pinned := { name := "ytmeodhdmnoglcaa", sum := "3b51fef8768a825e4f15cdb1d43766d5bd25b4630818e092240731d1718927d2", checked := Try.checked }
namespace Rows
def none {H : Type} : Left H := { results := [], args := [] }

/-- 'sallyportlaw07.Net4Bytes': WHATEVER THE INPUT: true; the input reads as it did. -/
def net4BytesSpec : ChangeSpec := { name := "net4Bytes", fn := fun _ => fun
  | [d1, d2] => { results := [.lit (.bool true)], args := [d1, d2] }
  | _ => none }
def net4BytesRow : OpenClaim := { program := "ytmeodhdmnoglcaa", sum := "3b51fef8768a825e4f15cdb1d43766d5bd25b4630818e092240731d1718927d2", func := "sallyport/sallyportlaw07.Net4Bytes", spec := "net4Bytes", apart := false }
def Net4BytesSaid : Prop := net4BytesRow.holds Try.pinned (OpenSpec.ofChange net4BytesSpec)

/-- ITS FALSE NEIGHBOUR: 'it returns false'. Refute it at one input. -/
def net4BytesWrong : ChangeSpec := { name := "net4Bytes", fn := fun _ => fun
  | [d1, d2] => { results := [.lit (.bool false)], args := [d1, d2] }
  | _ => none }
def Net4BytesWrongFalsely : Prop := net4BytesRow.holds Try.pinned (OpenSpec.ofChange net4BytesWrong)

/-- 'sallyportlaw07.Net4Reads': WHATEVER THE INPUT: true; the input reads as it did. -/
def net4ReadsSpec : ChangeSpec := { name := "net4Reads", fn := fun _ => fun
  | [d] => { results := [.lit (.bool true)], args := [d] }
  | _ => none }
def net4ReadsRow : OpenClaim := { program := "ytmeodhdmnoglcaa", sum := "3b51fef8768a825e4f15cdb1d43766d5bd25b4630818e092240731d1718927d2", func := "sallyport/sallyportlaw07.Net4Reads", spec := "net4Reads", apart := false }
def Net4ReadsSaid : Prop := net4ReadsRow.holds Try.pinned (OpenSpec.ofChange net4ReadsSpec)

/-- ITS FALSE NEIGHBOUR: 'it returns false'. Refute it at one input. -/
def net4ReadsWrong : ChangeSpec := { name := "net4Reads", fn := fun _ => fun
  | [d] => { results := [.lit (.bool false)], args := [d] }
  | _ => none }
def Net4ReadsWrongFalsely : Prop := net4ReadsRow.holds Try.pinned (OpenSpec.ofChange net4ReadsWrong)

/-- 'sallyportlaw07.Net4Back': WHATEVER THE INPUT: true; the input reads as it did. -/
def net4BackSpec : ChangeSpec := { name := "net4Back", fn := fun _ => fun
  | [d1, d2, d3] => { results := [.lit (.bool true)], args := [d1, d2, d3] }
  | _ => none }
def net4BackRow : OpenClaim := { program := "ytmeodhdmnoglcaa", sum := "3b51fef8768a825e4f15cdb1d43766d5bd25b4630818e092240731d1718927d2", func := "sallyport/sallyportlaw07.Net4Back", spec := "net4Back", apart := false }
def Net4BackSaid : Prop := net4BackRow.holds Try.pinned (OpenSpec.ofChange net4BackSpec)

/-- ITS FALSE NEIGHBOUR: 'it returns false'. Refute it at one input. -/
def net4BackWrong : ChangeSpec := { name := "net4Back", fn := fun _ => fun
  | [d1, d2, d3] => { results := [.lit (.bool false)], args := [d1, d2, d3] }
  | _ => none }
def Net4BackWrongFalsely : Prop := net4BackRow.holds Try.pinned (OpenSpec.ofChange net4BackWrong)

/-- 'sallyportlaw07.Net4Turned': WHATEVER THE INPUT: true; the input reads as it did. -/
def net4TurnedSpec : ChangeSpec := { name := "net4Turned", fn := fun _ => fun
  | [d1, d2, d3] => { results := [.lit (.bool true)], args := [d1, d2, d3] }
  | _ => none }
def net4TurnedRow : OpenClaim := { program := "ytmeodhdmnoglcaa", sum := "3b51fef8768a825e4f15cdb1d43766d5bd25b4630818e092240731d1718927d2", func := "sallyport/sallyportlaw07.Net4Turned", spec := "net4Turned", apart := false }
def Net4TurnedSaid : Prop := net4TurnedRow.holds Try.pinned (OpenSpec.ofChange net4TurnedSpec)

/-- ITS FALSE NEIGHBOUR: 'it returns false'. Refute it at one input. -/
def net4TurnedWrong : ChangeSpec := { name := "net4Turned", fn := fun _ => fun
  | [d1, d2, d3] => { results := [.lit (.bool false)], args := [d1, d2, d3] }
  | _ => none }
def Net4TurnedWrongFalsely : Prop := net4TurnedRow.holds Try.pinned (OpenSpec.ofChange net4TurnedWrong)

/-- 'sallyportlaw07.Net4Names': WHATEVER THE INPUT: true; the input reads as it did. -/
def net4NamesSpec : ChangeSpec := { name := "net4Names", fn := fun _ => fun
  | [] => { results := [.lit (.bool true)], args := [] }
  | _ => none }
def net4NamesRow : OpenClaim := { program := "ytmeodhdmnoglcaa", sum := "3b51fef8768a825e4f15cdb1d43766d5bd25b4630818e092240731d1718927d2", func := "sallyport/sallyportlaw07.Net4Names", spec := "net4Names", apart := false }
def Net4NamesSaid : Prop := net4NamesRow.holds Try.pinned (OpenSpec.ofChange net4NamesSpec)

/-- ITS FALSE NEIGHBOUR: 'it returns false'. Refute it at one input. -/
def net4NamesWrong : ChangeSpec := { name := "net4Names", fn := fun _ => fun
  | [] => { results := [.lit (.bool false)], args := [] }
  | _ => none }
def Net4NamesWrongFalsely : Prop := net4NamesRow.holds Try.pinned (OpenSpec.ofChange net4NamesWrong)

/- THE SECOND FORM. 'bulk': how many values and letters a reading holds, each counted each time it is reached (what is shared counts as often as it is met; a slice's spare places count too). A statement '..UptoSaid' is the law's where the arguments, and the package variables that the reading takes, are together of bulk at most 1048576: NARROWER than '..Said'. Prove '..Said' where nothing that the law and all that it calls make is longer than what came in: it says more and counts as full. Else prove '..UptoSaid'. A law counts once. -/
mutual
def uptoBulk {H : Type} : DataW H → Nat
  | .lit (.string bytes) => bytes.length + 1
  | .lit _ => 1
  | .nil => 1
  | .ptr d => uptoBulk d + 1
  | .slice elems spare => uptoBulkAll elems + uptoBulkAll spare + 1
  | .agg parts => uptoBulkAll parts + 1
  | .iface _ d => uptoBulk d + 1
  | .map entries => uptoBulkEntries entries + 1
  | .held _ => 1
def uptoBulkAll {H : Type} : List (DataW H) → Nat
  | [] => 0
  | d :: r => uptoBulk d + uptoBulkAll r
def uptoBulkEntries {H : Type} : List (Lit × DataW H) → Nat
  | [] => 0
  | x :: r => uptoBulkEntry x + uptoBulkEntries r
def uptoBulkEntry {H : Type} : Lit × DataW H → Nat
  | (.string bytes, d) => bytes.length + uptoBulk d + 1
  | (_, d) => uptoBulk d + 1
 end
def uptoSmall : (H : Type) → List (DataW H) → Bool := fun _ ds => decide (uptoBulkAll ds ≤ 1048576)
def OpenSpec.upto (s : _root_.Go.ChangeSpec) : _root_.Go.OpenSpec := { _root_.Go.OpenSpec.ofChange s with cond := some uptoSmall }

/-- 'sallyportlaw07.Net4Bytes', WHERE WHAT IT READS IS OF BULK AT MOST 1048576: true; the input reads as it did. -/
def net4BytesUptoRow : OpenClaim := { program := "ytmeodhdmnoglcaa", sum := "3b51fef8768a825e4f15cdb1d43766d5bd25b4630818e092240731d1718927d2", func := "sallyport/sallyportlaw07.Net4Bytes", spec := "net4Bytes", apart := false, narrowed := true }
def Net4BytesUptoSaid : Prop := net4BytesUptoRow.holds Try.pinned (OpenSpec.upto net4BytesSpec)

/-- 'sallyportlaw07.Net4Reads', WHERE WHAT IT READS IS OF BULK AT MOST 1048576: true; the input reads as it did. -/
def net4ReadsUptoRow : OpenClaim := { program := "ytmeodhdmnoglcaa", sum := "3b51fef8768a825e4f15cdb1d43766d5bd25b4630818e092240731d1718927d2", func := "sallyport/sallyportlaw07.Net4Reads", spec := "net4Reads", apart := false, narrowed := true }
def Net4ReadsUptoSaid : Prop := net4ReadsUptoRow.holds Try.pinned (OpenSpec.upto net4ReadsSpec)

/-- 'sallyportlaw07.Net4Back', WHERE WHAT IT READS IS OF BULK AT MOST 1048576: true; the input reads as it did. -/
def net4BackUptoRow : OpenClaim := { program := "ytmeodhdmnoglcaa", sum := "3b51fef8768a825e4f15cdb1d43766d5bd25b4630818e092240731d1718927d2", func := "sallyport/sallyportlaw07.Net4Back", spec := "net4Back", apart := false, narrowed := true }
def Net4BackUptoSaid : Prop := net4BackUptoRow.holds Try.pinned (OpenSpec.upto net4BackSpec)

/-- 'sallyportlaw07.Net4Turned', WHERE WHAT IT READS IS OF BULK AT MOST 1048576: true; the input reads as it did. -/
def net4TurnedUptoRow : OpenClaim := { program := "ytmeodhdmnoglcaa", sum := "3b51fef8768a825e4f15cdb1d43766d5bd25b4630818e092240731d1718927d2", func := "sallyport/sallyportlaw07.Net4Turned", spec := "net4Turned", apart := false, narrowed := true }
def Net4TurnedUptoSaid : Prop := net4TurnedUptoRow.holds Try.pinned (OpenSpec.upto net4TurnedSpec)

/-- 'sallyportlaw07.Net4Names', WHERE WHAT IT READS IS OF BULK AT MOST 1048576: true; the input reads as it did. -/
def net4NamesUptoRow : OpenClaim := { program := "ytmeodhdmnoglcaa", sum := "3b51fef8768a825e4f15cdb1d43766d5bd25b4630818e092240731d1718927d2", func := "sallyport/sallyportlaw07.Net4Names", spec := "net4Names", apart := false, narrowed := true }
def Net4NamesUptoSaid : Prop := net4NamesUptoRow.holds Try.pinned (OpenSpec.upto net4NamesSpec)

end Rows
end Go.Proofs.Ytmeodhdmnoglcaa
