/-
  No cell of these rows narrows 'for every input' (looked for: loops, veiled, ifaces, maps, wideKeys, modest, calm, conditions, laid).
  DERIVED. THE GIVEN ROWS OF THIS SEAT. 4 by the template 'for every input the law returns true; each argument reads behind the call as it read before'; 0 by the template 'total and deterministic' (their statements: YtllhamcolinedaaTotals.lean).
  GIVEN WITH THE SEED: the statements are not yours to turn. If you find one false, say at which input.
  Laid BY PROGRAM, IN A SANDBOX (cutbox-rows.mjs): the forced cells as the released guide's own fill.sh prints them over the translation a97c0a48538e20c9… (all of the seat's roots in one cut). By AI agents, Wed Nov 11 2026. No macro, syntax, notation, axiom, sorry.
-/
import Derived.Test.YtllhamcolinedaaChecked
import GoSem.Claim
import GoSem.ClaimJoined
import GoSem.ClaimMapViews
import Derived.JoinedTies
import Derived.KernelRfl
namespace Go.Proofs.Ytllhamcolinedaa
/- THE CELL 'sum', in the pinned program and in every row, IS THE sha256 OF THE DUMP (.gsa) THAT YtllhamcolinedaaProg.lean LOADS. Nothing in Lean hashes anything: it is a label: what it is worth is what the hold of that sum in a sandbox is worth. -/
noncomputable def Try.pinned : Pinned := { name := "ytllhamcolinedaa", sum := "a97c0a48538e20c91a8bbd7e7af78ce2bab655f258a4d458979426bb99cc9522", checked := Try.checked }
namespace Rows
def none {H : Type} : Left H := { results := [], args := [] }

/-- 'sallyportlaw03.PacketPlays': WHATEVER THE INPUT: true; the input reads as it did. -/
def packetPlaysSpec : ChangeSpec := { name := "packetPlays", fn := fun _ => fun
  | [d1, d2, d3] => { results := [.lit (.bool true)], args := [d1, d2, d3] }
  | _ => none }
def packetPlaysRow : OpenClaim := { program := "ytllhamcolinedaa", sum := "a97c0a48538e20c91a8bbd7e7af78ce2bab655f258a4d458979426bb99cc9522", func := "sallyport/sallyportlaw03.PacketPlays", spec := "packetPlays", apart := false }
def PacketPlaysSaid : Prop := packetPlaysRow.holds Try.pinned (OpenSpec.ofChange packetPlaysSpec)

/-- ITS FALSE NEIGHBOUR: 'it returns false'. Refute it at one input. -/
def packetPlaysWrong : ChangeSpec := { name := "packetPlays", fn := fun _ => fun
  | [d1, d2, d3] => { results := [.lit (.bool false)], args := [d1, d2, d3] }
  | _ => none }
def PacketPlaysWrongFalsely : Prop := packetPlaysRow.holds Try.pinned (OpenSpec.ofChange packetPlaysWrong)

/-- 'sallyportlaw03.PacketRoom': WHATEVER THE INPUT: true; the input reads as it did. -/
def packetRoomSpec : ChangeSpec := { name := "packetRoom", fn := fun _ => fun
  | [d1, d2, d3] => { results := [.lit (.bool true)], args := [d1, d2, d3] }
  | _ => none }
def packetRoomRow : OpenClaim := { program := "ytllhamcolinedaa", sum := "a97c0a48538e20c91a8bbd7e7af78ce2bab655f258a4d458979426bb99cc9522", func := "sallyport/sallyportlaw03.PacketRoom", spec := "packetRoom", apart := false }
def PacketRoomSaid : Prop := packetRoomRow.holds Try.pinned (OpenSpec.ofChange packetRoomSpec)

/-- ITS FALSE NEIGHBOUR: 'it returns false'. Refute it at one input. -/
def packetRoomWrong : ChangeSpec := { name := "packetRoom", fn := fun _ => fun
  | [d1, d2, d3] => { results := [.lit (.bool false)], args := [d1, d2, d3] }
  | _ => none }
def PacketRoomWrongFalsely : Prop := packetRoomRow.holds Try.pinned (OpenSpec.ofChange packetRoomWrong)

/-- 'sallyportlaw03.PacketBack': WHATEVER THE INPUT: true; the input reads as it did. -/
def packetBackSpec : ChangeSpec := { name := "packetBack", fn := fun _ => fun
  | [d1, d2, d3] => { results := [.lit (.bool true)], args := [d1, d2, d3] }
  | _ => none }
def packetBackRow : OpenClaim := { program := "ytllhamcolinedaa", sum := "a97c0a48538e20c91a8bbd7e7af78ce2bab655f258a4d458979426bb99cc9522", func := "sallyport/sallyportlaw03.PacketBack", spec := "packetBack", apart := false }
def PacketBackSaid : Prop := packetBackRow.holds Try.pinned (OpenSpec.ofChange packetBackSpec)

/-- ITS FALSE NEIGHBOUR: 'it returns false'. Refute it at one input. -/
def packetBackWrong : ChangeSpec := { name := "packetBack", fn := fun _ => fun
  | [d1, d2, d3] => { results := [.lit (.bool false)], args := [d1, d2, d3] }
  | _ => none }
def PacketBackWrongFalsely : Prop := packetBackRow.holds Try.pinned (OpenSpec.ofChange packetBackWrong)

/-- 'sallyportlaw03.PacketNames': WHATEVER THE INPUT: true; the input reads as it did. -/
def packetNamesSpec : ChangeSpec := { name := "packetNames", fn := fun _ => fun
  | [] => { results := [.lit (.bool true)], args := [] }
  | _ => none }
def packetNamesRow : OpenClaim := { program := "ytllhamcolinedaa", sum := "a97c0a48538e20c91a8bbd7e7af78ce2bab655f258a4d458979426bb99cc9522", func := "sallyport/sallyportlaw03.PacketNames", spec := "packetNames", apart := false }
def PacketNamesSaid : Prop := packetNamesRow.holds Try.pinned (OpenSpec.ofChange packetNamesSpec)

/-- ITS FALSE NEIGHBOUR: 'it returns false'. Refute it at one input. -/
def packetNamesWrong : ChangeSpec := { name := "packetNames", fn := fun _ => fun
  | [] => { results := [.lit (.bool false)], args := [] }
  | _ => none }
def PacketNamesWrongFalsely : Prop := packetNamesRow.holds Try.pinned (OpenSpec.ofChange packetNamesWrong)

/- THE SECOND FORM. 'bulk': how many values and letters a reading holds, each counted each time it is reached (what is shared counts as often as it is met; a slice's spare places count too). A statement '..UptoSaid' is the law's where the arguments, and the package variables that the reading takes, are together of bulk at most 1048576: NARROWER than '..Said'. Prove '..Said' where nothing that the law and all that it calls make is longer than what came in: it says more and counts as full. Else prove '..UptoSaid'. A law counts once. -/
mutual
def uptoBulk {H : Type} : DataW H → Nat
  | .lit (.string bytes) => bytes.length + 1
  | .lit _ => 1
  | .nil => 1
  | .ptr d => uptoBulk d + 1
  | .slice elems spare => uptoBulkAll elems + uptoBulkAll spare + 1
  | .agg parts => uptoBulkAll parts + 1
  | .iface _ d => uptoBulk d + 1
  | .map entries => uptoBulkEntries entries + 1
  | .held _ => 1
def uptoBulkAll {H : Type} : List (DataW H) → Nat
  | [] => 0
  | d :: r => uptoBulk d + uptoBulkAll r
def uptoBulkEntries {H : Type} : List (Lit × DataW H) → Nat
  | [] => 0
  | x :: r => uptoBulkEntry x + uptoBulkEntries r
def uptoBulkEntry {H : Type} : Lit × DataW H → Nat
  | (.string bytes, d) => bytes.length + uptoBulk d + 1
  | (_, d) => uptoBulk d + 1
 end
def uptoSmall : (H : Type) → List (DataW H) → Bool := fun _ ds => decide (uptoBulkAll ds ≤ 1048576)
def OpenSpec.upto (s : _root_.Go.ChangeSpec) : _root_.Go.OpenSpec := { _root_.Go.OpenSpec.ofChange s with cond := some uptoSmall }

/-- 'sallyportlaw03.PacketPlays', WHERE WHAT IT READS IS OF BULK AT MOST 1048576: true; the input reads as it did. -/
def packetPlaysUptoRow : OpenClaim := { program := "ytllhamcolinedaa", sum := "a97c0a48538e20c91a8bbd7e7af78ce2bab655f258a4d458979426bb99cc9522", func := "sallyport/sallyportlaw03.PacketPlays", spec := "packetPlays", apart := false, narrowed := true }
def PacketPlaysUptoSaid : Prop := packetPlaysUptoRow.holds Try.pinned (OpenSpec.upto packetPlaysSpec)

/-- 'sallyportlaw03.PacketRoom', WHERE WHAT IT READS IS OF BULK AT MOST 1048576: true; the input reads as it did. -/
def packetRoomUptoRow : OpenClaim := { program := "ytllhamcolinedaa", sum := "a97c0a48538e20c91a8bbd7e7af78ce2bab655f258a4d458979426bb99cc9522", func := "sallyport/sallyportlaw03.PacketRoom", spec := "packetRoom", apart := false, narrowed := true }
def PacketRoomUptoSaid : Prop := packetRoomUptoRow.holds Try.pinned (OpenSpec.upto packetRoomSpec)

/-- 'sallyportlaw03.PacketBack', WHERE WHAT IT READS IS OF BULK AT MOST 1048576: true; the input reads as it did. -/
def packetBackUptoRow : OpenClaim := { program := "ytllhamcolinedaa", sum := "a97c0a48538e20c91a8bbd7e7af78ce2bab655f258a4d458979426bb99cc9522", func := "sallyport/sallyportlaw03.PacketBack", spec := "packetBack", apart := false, narrowed := true }
def PacketBackUptoSaid : Prop := packetBackUptoRow.holds Try.pinned (OpenSpec.upto packetBackSpec)

/-- 'sallyportlaw03.PacketNames', WHERE WHAT IT READS IS OF BULK AT MOST 1048576: true; the input reads as it did. -/
def packetNamesUptoRow : OpenClaim := { program := "ytllhamcolinedaa", sum := "a97c0a48538e20c91a8bbd7e7af78ce2bab655f258a4d458979426bb99cc9522", func := "sallyport/sallyportlaw03.PacketNames", spec := "packetNames", apart := false, narrowed := true }
def PacketNamesUptoSaid : Prop := packetNamesUptoRow.holds Try.pinned (OpenSpec.upto packetNamesSpec)

end Rows
end Go.Proofs.Ytllhamcolinedaa
