/-
  No cell of these rows narrows 'for every input' (looked for: loops, veiled, ifaces, maps, wideKeys, modest, calm, conditions, laid).
  DERIVED. THE GIVEN ROWS OF THIS SEAT. 5 by the template 'for every input the law returns true; each argument reads behind the call as it read before'; 0 by the template 'total and deterministic' (their statements: YtbbnoogkgobeoaaTotals.lean).
  GIVEN WITH THE SEED: the statements are not yours to turn. If you find one false, say at which input.
  Laid BY PROGRAM, IN A SANDBOX (cutbox-rows.mjs): the forced cells as the released guide's own fill.sh prints them over the translation 6bb9191bccdd09b8… (all of the seat's roots in one cut). By AI agents, Wed Nov 11 2026. No macro, syntax, notation, axiom, sorry.
-/
import Derived.Test.YtbbnoogkgobeoaaChecked
import GoSem.Claim
import GoSem.ClaimJoined
import GoSem.ClaimMapViews
import Derived.JoinedTies
import Derived.KernelRfl
namespace Go.Proofs.Ytbbnoogkgobeoaa
/- THE CELL 'sum', in the pinned program and in every row, IS THE sha256 OF THE DUMP (.gsa) THAT YtbbnoogkgobeoaaProg.lean LOADS. Nothing in Lean hashes anything: it is a label: what it is worth is what the hold of that sum in a sandbox is worth. -/
noncomputable def Try.pinned : Pinned := { name := "ytbbnoogkgobeoaa", sum := "6bb9191bccdd09b84848f98536bb870ffa739d8e22f4ba750f25193125c2b441", checked := Try.checked }
namespace Rows
def none {H : Type} : Left H := { results := [], args := [] }

/-- 'sallyportlaw10.DgramBytes': WHATEVER THE INPUT: true; the input reads as it did. -/
def dgramBytesSpec : ChangeSpec := { name := "dgramBytes", fn := fun _ => fun
  | [d1, d2] => { results := [.lit (.bool true)], args := [d1, d2] }
  | _ => none }
def dgramBytesRow : OpenClaim := { program := "ytbbnoogkgobeoaa", sum := "6bb9191bccdd09b84848f98536bb870ffa739d8e22f4ba750f25193125c2b441", func := "sallyport/sallyportlaw10.DgramBytes", spec := "dgramBytes", apart := false }
def DgramBytesSaid : Prop := dgramBytesRow.holds Try.pinned (OpenSpec.ofChange dgramBytesSpec)

/-- ITS FALSE NEIGHBOUR: 'it returns false'. Refute it at one input. -/
def dgramBytesWrong : ChangeSpec := { name := "dgramBytes", fn := fun _ => fun
  | [d1, d2] => { results := [.lit (.bool false)], args := [d1, d2] }
  | _ => none }
def DgramBytesWrongFalsely : Prop := dgramBytesRow.holds Try.pinned (OpenSpec.ofChange dgramBytesWrong)

/-- 'sallyportlaw10.DgramReads': WHATEVER THE INPUT: true; the input reads as it did. -/
def dgramReadsSpec : ChangeSpec := { name := "dgramReads", fn := fun _ => fun
  | [d] => { results := [.lit (.bool true)], args := [d] }
  | _ => none }
def dgramReadsRow : OpenClaim := { program := "ytbbnoogkgobeoaa", sum := "6bb9191bccdd09b84848f98536bb870ffa739d8e22f4ba750f25193125c2b441", func := "sallyport/sallyportlaw10.DgramReads", spec := "dgramReads", apart := false }
def DgramReadsSaid : Prop := dgramReadsRow.holds Try.pinned (OpenSpec.ofChange dgramReadsSpec)

/-- ITS FALSE NEIGHBOUR: 'it returns false'. Refute it at one input. -/
def dgramReadsWrong : ChangeSpec := { name := "dgramReads", fn := fun _ => fun
  | [d] => { results := [.lit (.bool false)], args := [d] }
  | _ => none }
def DgramReadsWrongFalsely : Prop := dgramReadsRow.holds Try.pinned (OpenSpec.ofChange dgramReadsWrong)

/-- 'sallyportlaw10.DgramBack': WHATEVER THE INPUT: true; the input reads as it did. -/
def dgramBackSpec : ChangeSpec := { name := "dgramBack", fn := fun _ => fun
  | [d1, d2, d3] => { results := [.lit (.bool true)], args := [d1, d2, d3] }
  | _ => none }
def dgramBackRow : OpenClaim := { program := "ytbbnoogkgobeoaa", sum := "6bb9191bccdd09b84848f98536bb870ffa739d8e22f4ba750f25193125c2b441", func := "sallyport/sallyportlaw10.DgramBack", spec := "dgramBack", apart := false }
def DgramBackSaid : Prop := dgramBackRow.holds Try.pinned (OpenSpec.ofChange dgramBackSpec)

/-- ITS FALSE NEIGHBOUR: 'it returns false'. Refute it at one input. -/
def dgramBackWrong : ChangeSpec := { name := "dgramBack", fn := fun _ => fun
  | [d1, d2, d3] => { results := [.lit (.bool false)], args := [d1, d2, d3] }
  | _ => none }
def DgramBackWrongFalsely : Prop := dgramBackRow.holds Try.pinned (OpenSpec.ofChange dgramBackWrong)

/-- 'sallyportlaw10.DgramTurned': WHATEVER THE INPUT: true; the input reads as it did. -/
def dgramTurnedSpec : ChangeSpec := { name := "dgramTurned", fn := fun _ => fun
  | [d1, d2, d3] => { results := [.lit (.bool true)], args := [d1, d2, d3] }
  | _ => none }
def dgramTurnedRow : OpenClaim := { program := "ytbbnoogkgobeoaa", sum := "6bb9191bccdd09b84848f98536bb870ffa739d8e22f4ba750f25193125c2b441", func := "sallyport/sallyportlaw10.DgramTurned", spec := "dgramTurned", apart := false }
def DgramTurnedSaid : Prop := dgramTurnedRow.holds Try.pinned (OpenSpec.ofChange dgramTurnedSpec)

/-- ITS FALSE NEIGHBOUR: 'it returns false'. Refute it at one input. -/
def dgramTurnedWrong : ChangeSpec := { name := "dgramTurned", fn := fun _ => fun
  | [d1, d2, d3] => { results := [.lit (.bool false)], args := [d1, d2, d3] }
  | _ => none }
def DgramTurnedWrongFalsely : Prop := dgramTurnedRow.holds Try.pinned (OpenSpec.ofChange dgramTurnedWrong)

/-- 'sallyportlaw10.DgramNames': WHATEVER THE INPUT: true; the input reads as it did. -/
def dgramNamesSpec : ChangeSpec := { name := "dgramNames", fn := fun _ => fun
  | [] => { results := [.lit (.bool true)], args := [] }
  | _ => none }
def dgramNamesRow : OpenClaim := { program := "ytbbnoogkgobeoaa", sum := "6bb9191bccdd09b84848f98536bb870ffa739d8e22f4ba750f25193125c2b441", func := "sallyport/sallyportlaw10.DgramNames", spec := "dgramNames", apart := false }
def DgramNamesSaid : Prop := dgramNamesRow.holds Try.pinned (OpenSpec.ofChange dgramNamesSpec)

/-- ITS FALSE NEIGHBOUR: 'it returns false'. Refute it at one input. -/
def dgramNamesWrong : ChangeSpec := { name := "dgramNames", fn := fun _ => fun
  | [] => { results := [.lit (.bool false)], args := [] }
  | _ => none }
def DgramNamesWrongFalsely : Prop := dgramNamesRow.holds Try.pinned (OpenSpec.ofChange dgramNamesWrong)

/- THE SECOND FORM. 'bulk': how many values and letters a reading holds, each counted each time it is reached (what is shared counts as often as it is met; a slice's spare places count too). A statement '..UptoSaid' is the law's where the arguments, and the package variables that the reading takes, are together of bulk at most 1048576: NARROWER than '..Said'. Prove '..Said' where nothing that the law and all that it calls make is longer than what came in: it says more and counts as full. Else prove '..UptoSaid'. A law counts once. -/
mutual
def uptoBulk {H : Type} : DataW H → Nat
  | .lit (.string bytes) => bytes.length + 1
  | .lit _ => 1
  | .nil => 1
  | .ptr d => uptoBulk d + 1
  | .slice elems spare => uptoBulkAll elems + uptoBulkAll spare + 1
  | .agg parts => uptoBulkAll parts + 1
  | .iface _ d => uptoBulk d + 1
  | .map entries => uptoBulkEntries entries + 1
  | .held _ => 1
def uptoBulkAll {H : Type} : List (DataW H) → Nat
  | [] => 0
  | d :: r => uptoBulk d + uptoBulkAll r
def uptoBulkEntries {H : Type} : List (Lit × DataW H) → Nat
  | [] => 0
  | x :: r => uptoBulkEntry x + uptoBulkEntries r
def uptoBulkEntry {H : Type} : Lit × DataW H → Nat
  | (.string bytes, d) => bytes.length + uptoBulk d + 1
  | (_, d) => uptoBulk d + 1
 end
def uptoSmall : (H : Type) → List (DataW H) → Bool := fun _ ds => decide (uptoBulkAll ds ≤ 1048576)
def OpenSpec.upto (s : _root_.Go.ChangeSpec) : _root_.Go.OpenSpec := { _root_.Go.OpenSpec.ofChange s with cond := some uptoSmall }

/-- 'sallyportlaw10.DgramBytes', WHERE WHAT IT READS IS OF BULK AT MOST 1048576: true; the input reads as it did. -/
def dgramBytesUptoRow : OpenClaim := { program := "ytbbnoogkgobeoaa", sum := "6bb9191bccdd09b84848f98536bb870ffa739d8e22f4ba750f25193125c2b441", func := "sallyport/sallyportlaw10.DgramBytes", spec := "dgramBytes", apart := false, narrowed := true }
def DgramBytesUptoSaid : Prop := dgramBytesUptoRow.holds Try.pinned (OpenSpec.upto dgramBytesSpec)

/-- 'sallyportlaw10.DgramReads', WHERE WHAT IT READS IS OF BULK AT MOST 1048576: true; the input reads as it did. -/
def dgramReadsUptoRow : OpenClaim := { program := "ytbbnoogkgobeoaa", sum := "6bb9191bccdd09b84848f98536bb870ffa739d8e22f4ba750f25193125c2b441", func := "sallyport/sallyportlaw10.DgramReads", spec := "dgramReads", apart := false, narrowed := true }
def DgramReadsUptoSaid : Prop := dgramReadsUptoRow.holds Try.pinned (OpenSpec.upto dgramReadsSpec)

/-- 'sallyportlaw10.DgramBack', WHERE WHAT IT READS IS OF BULK AT MOST 1048576: true; the input reads as it did. -/
def dgramBackUptoRow : OpenClaim := { program := "ytbbnoogkgobeoaa", sum := "6bb9191bccdd09b84848f98536bb870ffa739d8e22f4ba750f25193125c2b441", func := "sallyport/sallyportlaw10.DgramBack", spec := "dgramBack", apart := false, narrowed := true }
def DgramBackUptoSaid : Prop := dgramBackUptoRow.holds Try.pinned (OpenSpec.upto dgramBackSpec)

/-- 'sallyportlaw10.DgramTurned', WHERE WHAT IT READS IS OF BULK AT MOST 1048576: true; the input reads as it did. -/
def dgramTurnedUptoRow : OpenClaim := { program := "ytbbnoogkgobeoaa", sum := "6bb9191bccdd09b84848f98536bb870ffa739d8e22f4ba750f25193125c2b441", func := "sallyport/sallyportlaw10.DgramTurned", spec := "dgramTurned", apart := false, narrowed := true }
def DgramTurnedUptoSaid : Prop := dgramTurnedUptoRow.holds Try.pinned (OpenSpec.upto dgramTurnedSpec)

/-- 'sallyportlaw10.DgramNames', WHERE WHAT IT READS IS OF BULK AT MOST 1048576: true; the input reads as it did. -/
def dgramNamesUptoRow : OpenClaim := { program := "ytbbnoogkgobeoaa", sum := "6bb9191bccdd09b84848f98536bb870ffa739d8e22f4ba750f25193125c2b441", func := "sallyport/sallyportlaw10.DgramNames", spec := "dgramNames", apart := false, narrowed := true }
def DgramNamesUptoSaid : Prop := dgramNamesUptoRow.holds Try.pinned (OpenSpec.upto dgramNamesSpec)

end Rows
end Go.Proofs.Ytbbnoogkgobeoaa
