/-
  No cell of these rows narrows 'for every input' (looked for: loops, veiled, ifaces, maps, wideKeys, modest, calm, conditions, laid).
  DERIVED. THE GIVEN ROWS OF THIS SEAT. 4 by the template 'for every input the law returns true; each argument reads behind the call as it read before'; 0 by the template 'total and deterministic' (their statements: YtebffdfimmbbdaaTotals.lean).
  GIVEN WITH THE SEED: the statements are not yours to turn. If you find one false, say at which input.
  Laid BY PROGRAM, IN A SANDBOX (cutbox-rows.mjs): the forced cells as the released guide's own fill.sh prints them over the translation e8968171d846c707… (all of the seat's roots in one cut). By AI agents, Wed Nov 11 2026. No macro, syntax, notation, axiom, sorry.
-/
import Derived.Test.YtebffdfimmbbdaaChecked
import GoSem.Claim
import GoSem.ClaimJoined
import GoSem.ClaimMapViews
import Derived.JoinedTies
import Derived.KernelRfl
namespace Go.Proofs.Ytebffdfimmbbdaa
/- THE CELL 'sum', in the pinned program and in every row, IS THE sha256 OF THE DUMP (.gsa) THAT YtebffdfimmbbdaaProg.lean LOADS. Nothing in Lean hashes anything: it is a label: what it is worth is what the hold of that sum in a sandbox is worth. -/
noncomputable def Try.pinned : Pinned := { name := "ytebffdfimmbbdaa", sum := "e8968171d846c707bf8bdce7d73be58d42a9a3ea35d4af0cec797f0fc45746b5", checked := Try.checked }
namespace Rows
def none {H : Type} : Left H := { results := [], args := [] }

/-- 'leverframelaw11.ConflictNames': WHATEVER THE INPUT: true; the input reads as it did. -/
def conflictNamesSpec : ChangeSpec := { name := "conflictNames", fn := fun _ => fun
  | [] => { results := [.lit (.bool true)], args := [] }
  | _ => none }
def conflictNamesRow : OpenClaim := { program := "ytebffdfimmbbdaa", sum := "e8968171d846c707bf8bdce7d73be58d42a9a3ea35d4af0cec797f0fc45746b5", func := "leverframe/leverframelaw11.ConflictNames", spec := "conflictNames", unfollowed := true, recurses := true, apart := false }
def ConflictNamesSaid : Prop := conflictNamesRow.holds Try.pinned (OpenSpec.ofChange conflictNamesSpec)

/-- ITS FALSE NEIGHBOUR: 'it returns false'. Refute it at one input. -/
def conflictNamesWrong : ChangeSpec := { name := "conflictNames", fn := fun _ => fun
  | [] => { results := [.lit (.bool false)], args := [] }
  | _ => none }
def ConflictNamesWrongFalsely : Prop := conflictNamesRow.holds Try.pinned (OpenSpec.ofChange conflictNamesWrong)

/-- 'leverframelaw11.ConflictBoth': WHATEVER THE INPUT: true; the input reads as it did. -/
def conflictBothSpec : ChangeSpec := { name := "conflictBoth", fn := fun _ => fun
  | [d] => { results := [.lit (.bool true)], args := [d] }
  | _ => none }
def conflictBothRow : OpenClaim := { program := "ytebffdfimmbbdaa", sum := "e8968171d846c707bf8bdce7d73be58d42a9a3ea35d4af0cec797f0fc45746b5", func := "leverframe/leverframelaw11.ConflictBoth", spec := "conflictBoth", unfollowed := true, recurses := true, apart := false }
def ConflictBothSaid : Prop := conflictBothRow.holds Try.pinned (OpenSpec.ofChange conflictBothSpec)

/-- ITS FALSE NEIGHBOUR: 'it returns false'. Refute it at one input. -/
def conflictBothWrong : ChangeSpec := { name := "conflictBoth", fn := fun _ => fun
  | [d] => { results := [.lit (.bool false)], args := [d] }
  | _ => none }
def ConflictBothWrongFalsely : Prop := conflictBothRow.holds Try.pinned (OpenSpec.ofChange conflictBothWrong)

/-- 'leverframelaw11.ConflictFree': WHATEVER THE INPUT: true; the input reads as it did. -/
def conflictFreeSpec : ChangeSpec := { name := "conflictFree", fn := fun _ => fun
  | [d1, d2] => { results := [.lit (.bool true)], args := [d1, d2] }
  | _ => none }
def conflictFreeRow : OpenClaim := { program := "ytebffdfimmbbdaa", sum := "e8968171d846c707bf8bdce7d73be58d42a9a3ea35d4af0cec797f0fc45746b5", func := "leverframe/leverframelaw11.ConflictFree", spec := "conflictFree", unfollowed := true, recurses := true, apart := false }
def ConflictFreeSaid : Prop := conflictFreeRow.holds Try.pinned (OpenSpec.ofChange conflictFreeSpec)

/-- ITS FALSE NEIGHBOUR: 'it returns false'. Refute it at one input. -/
def conflictFreeWrong : ChangeSpec := { name := "conflictFree", fn := fun _ => fun
  | [d1, d2] => { results := [.lit (.bool false)], args := [d1, d2] }
  | _ => none }
def ConflictFreeWrongFalsely : Prop := conflictFreeRow.holds Try.pinned (OpenSpec.ofChange conflictFreeWrong)

/-- 'leverframelaw11.ConflictOwn': WHATEVER THE INPUT: true; the input reads as it did. -/
def conflictOwnSpec : ChangeSpec := { name := "conflictOwn", fn := fun _ => fun
  | [d1, d2, d3] => { results := [.lit (.bool true)], args := [d1, d2, d3] }
  | _ => none }
def conflictOwnRow : OpenClaim := { program := "ytebffdfimmbbdaa", sum := "e8968171d846c707bf8bdce7d73be58d42a9a3ea35d4af0cec797f0fc45746b5", func := "leverframe/leverframelaw11.ConflictOwn", spec := "conflictOwn", unfollowed := true, recurses := true, apart := false }
def ConflictOwnSaid : Prop := conflictOwnRow.holds Try.pinned (OpenSpec.ofChange conflictOwnSpec)

/-- ITS FALSE NEIGHBOUR: 'it returns false'. Refute it at one input. -/
def conflictOwnWrong : ChangeSpec := { name := "conflictOwn", fn := fun _ => fun
  | [d1, d2, d3] => { results := [.lit (.bool false)], args := [d1, d2, d3] }
  | _ => none }
def ConflictOwnWrongFalsely : Prop := conflictOwnRow.holds Try.pinned (OpenSpec.ofChange conflictOwnWrong)

/- THE SECOND FORM. 'bulk': how many values and letters a reading holds, each counted each time it is reached (what is shared counts as often as it is met; a slice's spare places count too). A statement '..UptoSaid' is the law's where the arguments, and the package variables that the reading takes, are together of bulk at most 1048576: NARROWER than '..Said'. Prove '..Said' where nothing that the law and all that it calls make is longer than what came in: it says more and counts as full. Else prove '..UptoSaid'. A law counts once. -/
mutual
def uptoBulk {H : Type} : DataW H → Nat
  | .lit (.string bytes) => bytes.length + 1
  | .lit _ => 1
  | .nil => 1
  | .ptr d => uptoBulk d + 1
  | .slice elems spare => uptoBulkAll elems + uptoBulkAll spare + 1
  | .agg parts => uptoBulkAll parts + 1
  | .iface _ d => uptoBulk d + 1
  | .map entries => uptoBulkEntries entries + 1
  | .held _ => 1
def uptoBulkAll {H : Type} : List (DataW H) → Nat
  | [] => 0
  | d :: r => uptoBulk d + uptoBulkAll r
def uptoBulkEntries {H : Type} : List (Lit × DataW H) → Nat
  | [] => 0
  | x :: r => uptoBulkEntry x + uptoBulkEntries r
def uptoBulkEntry {H : Type} : Lit × DataW H → Nat
  | (.string bytes, d) => bytes.length + uptoBulk d + 1
  | (_, d) => uptoBulk d + 1
 end
def uptoSmall : (H : Type) → List (DataW H) → Bool := fun _ ds => decide (uptoBulkAll ds ≤ 1048576)
def OpenSpec.upto (s : _root_.Go.ChangeSpec) : _root_.Go.OpenSpec := { _root_.Go.OpenSpec.ofChange s with cond := some uptoSmall }

/-- 'leverframelaw11.ConflictNames', WHERE WHAT IT READS IS OF BULK AT MOST 1048576: true; the input reads as it did. -/
def conflictNamesUptoRow : OpenClaim := { program := "ytebffdfimmbbdaa", sum := "e8968171d846c707bf8bdce7d73be58d42a9a3ea35d4af0cec797f0fc45746b5", func := "leverframe/leverframelaw11.ConflictNames", spec := "conflictNames", unfollowed := true, recurses := true, apart := false, narrowed := true }
def ConflictNamesUptoSaid : Prop := conflictNamesUptoRow.holds Try.pinned (OpenSpec.upto conflictNamesSpec)

/-- 'leverframelaw11.ConflictBoth', WHERE WHAT IT READS IS OF BULK AT MOST 1048576: true; the input reads as it did. -/
def conflictBothUptoRow : OpenClaim := { program := "ytebffdfimmbbdaa", sum := "e8968171d846c707bf8bdce7d73be58d42a9a3ea35d4af0cec797f0fc45746b5", func := "leverframe/leverframelaw11.ConflictBoth", spec := "conflictBoth", unfollowed := true, recurses := true, apart := false, narrowed := true }
def ConflictBothUptoSaid : Prop := conflictBothUptoRow.holds Try.pinned (OpenSpec.upto conflictBothSpec)

/-- 'leverframelaw11.ConflictFree', WHERE WHAT IT READS IS OF BULK AT MOST 1048576: true; the input reads as it did. -/
def conflictFreeUptoRow : OpenClaim := { program := "ytebffdfimmbbdaa", sum := "e8968171d846c707bf8bdce7d73be58d42a9a3ea35d4af0cec797f0fc45746b5", func := "leverframe/leverframelaw11.ConflictFree", spec := "conflictFree", unfollowed := true, recurses := true, apart := false, narrowed := true }
def ConflictFreeUptoSaid : Prop := conflictFreeUptoRow.holds Try.pinned (OpenSpec.upto conflictFreeSpec)

/-- 'leverframelaw11.ConflictOwn', WHERE WHAT IT READS IS OF BULK AT MOST 1048576: true; the input reads as it did. -/
def conflictOwnUptoRow : OpenClaim := { program := "ytebffdfimmbbdaa", sum := "e8968171d846c707bf8bdce7d73be58d42a9a3ea35d4af0cec797f0fc45746b5", func := "leverframe/leverframelaw11.ConflictOwn", spec := "conflictOwn", unfollowed := true, recurses := true, apart := false, narrowed := true }
def ConflictOwnUptoSaid : Prop := conflictOwnUptoRow.holds Try.pinned (OpenSpec.upto conflictOwnSpec)

end Rows
end Go.Proofs.Ytebffdfimmbbdaa
