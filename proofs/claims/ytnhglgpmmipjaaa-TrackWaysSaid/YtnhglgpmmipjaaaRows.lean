/-
  No cell of these rows narrows 'for every input' (looked for: loops, veiled, ifaces, maps, wideKeys, modest, calm, conditions, laid).
  DERIVED. THE GIVEN ROWS OF THIS SEAT. 7 by the template 'for every input the law returns true; each argument reads behind the call as it read before'; 0 by the template 'total and deterministic' (their statements: YtnhglgpmmipjaaaTotals.lean).
  GIVEN WITH THE SEED: the statements are not yours to turn. If you find one false, say at which input.
  Laid BY PROGRAM, IN A SANDBOX (cutbox-rows.mjs): the forced cells as the released guide's own fill.sh prints them over the translation 17f3f4c184de5ad4… (all of the seat's roots in one cut). By AI agents, Wed Nov 11 2026. No macro, syntax, notation, axiom, sorry.
-/
import Derived.Test.YtnhglgpmmipjaaaChecked
import GoSem.Claim
import GoSem.ClaimJoined
import GoSem.ClaimMapViews
import Derived.JoinedTies
import Derived.KernelRfl
namespace Go.Proofs.Ytnhglgpmmipjaaa
/- THE CELL 'sum', in the pinned program and in every row, IS THE sha256 OF THE DUMP (.gsa) THAT YtnhglgpmmipjaaaProg.lean LOADS. Nothing in Lean hashes anything: it is a label: what it is worth is what the hold of that sum in a sandbox is worth. -/
noncomputable def Try.pinned : Pinned := { name := "ytnhglgpmmipjaaa", sum := "17f3f4c184de5ad46e483ec53d67cea20046b137ecebffce8759375e30fee48d", checked := Try.checked }
namespace Rows
def none {H : Type} : Left H := { results := [], args := [] }

/-- 'leverframelaw07.TrackNames': WHATEVER THE INPUT: true; the input reads as it did. -/
def trackNamesSpec : ChangeSpec := { name := "trackNames", fn := fun _ => fun
  | [] => { results := [.lit (.bool true)], args := [] }
  | _ => none }
def trackNamesRow : OpenClaim := { program := "ytnhglgpmmipjaaa", sum := "17f3f4c184de5ad46e483ec53d67cea20046b137ecebffce8759375e30fee48d", func := "leverframe/leverframelaw07.TrackNames", spec := "trackNames", unfollowed := true, recurses := true, apart := false }
def TrackNamesSaid : Prop := trackNamesRow.holds Try.pinned (OpenSpec.ofChange trackNamesSpec)

/-- ITS FALSE NEIGHBOUR: 'it returns false'. Refute it at one input. -/
def trackNamesWrong : ChangeSpec := { name := "trackNames", fn := fun _ => fun
  | [] => { results := [.lit (.bool false)], args := [] }
  | _ => none }
def TrackNamesWrongFalsely : Prop := trackNamesRow.holds Try.pinned (OpenSpec.ofChange trackNamesWrong)

/-- 'leverframelaw07.TrackTells': WHATEVER THE INPUT: true; the input reads as it did. -/
def trackTellsSpec : ChangeSpec := { name := "trackTells", fn := fun _ => fun
  | [d1, d2, d3] => { results := [.lit (.bool true)], args := [d1, d2, d3] }
  | _ => none }
def trackTellsRow : OpenClaim := { program := "ytnhglgpmmipjaaa", sum := "17f3f4c184de5ad46e483ec53d67cea20046b137ecebffce8759375e30fee48d", func := "leverframe/leverframelaw07.TrackTells", spec := "trackTells", unfollowed := true, recurses := true, apart := false }
def TrackTellsSaid : Prop := trackTellsRow.holds Try.pinned (OpenSpec.ofChange trackTellsSpec)

/-- ITS FALSE NEIGHBOUR: 'it returns false'. Refute it at one input. -/
def trackTellsWrong : ChangeSpec := { name := "trackTells", fn := fun _ => fun
  | [d1, d2, d3] => { results := [.lit (.bool false)], args := [d1, d2, d3] }
  | _ => none }
def TrackTellsWrongFalsely : Prop := trackTellsRow.holds Try.pinned (OpenSpec.ofChange trackTellsWrong)

/-- 'leverframelaw07.TrackThrough': WHATEVER THE INPUT: true; the input reads as it did. -/
def trackThroughSpec : ChangeSpec := { name := "trackThrough", fn := fun _ => fun
  | [d1, d2, d3, d4] => { results := [.lit (.bool true)], args := [d1, d2, d3, d4] }
  | _ => none }
def trackThroughRow : OpenClaim := { program := "ytnhglgpmmipjaaa", sum := "17f3f4c184de5ad46e483ec53d67cea20046b137ecebffce8759375e30fee48d", func := "leverframe/leverframelaw07.TrackThrough", spec := "trackThrough", apart := false }
def TrackThroughSaid : Prop := trackThroughRow.holds Try.pinned (OpenSpec.ofChange trackThroughSpec)

/-- ITS FALSE NEIGHBOUR: 'it returns false'. Refute it at one input. -/
def trackThroughWrong : ChangeSpec := { name := "trackThrough", fn := fun _ => fun
  | [d1, d2, d3, d4] => { results := [.lit (.bool false)], args := [d1, d2, d3, d4] }
  | _ => none }
def TrackThroughWrongFalsely : Prop := trackThroughRow.holds Try.pinned (OpenSpec.ofChange trackThroughWrong)

/-- 'leverframelaw07.TrackBack': WHATEVER THE INPUT: true; the input reads as it did. -/
def trackBackSpec : ChangeSpec := { name := "trackBack", fn := fun _ => fun
  | [d] => { results := [.lit (.bool true)], args := [d] }
  | _ => none }
def trackBackRow : OpenClaim := { program := "ytnhglgpmmipjaaa", sum := "17f3f4c184de5ad46e483ec53d67cea20046b137ecebffce8759375e30fee48d", func := "leverframe/leverframelaw07.TrackBack", spec := "trackBack", unfollowed := true, recurses := true, apart := false }
def TrackBackSaid : Prop := trackBackRow.holds Try.pinned (OpenSpec.ofChange trackBackSpec)

/-- ITS FALSE NEIGHBOUR: 'it returns false'. Refute it at one input. -/
def trackBackWrong : ChangeSpec := { name := "trackBack", fn := fun _ => fun
  | [d] => { results := [.lit (.bool false)], args := [d] }
  | _ => none }
def TrackBackWrongFalsely : Prop := trackBackRow.holds Try.pinned (OpenSpec.ofChange trackBackWrong)

/-- 'leverframelaw07.TrackWays': WHATEVER THE INPUT: true; the input reads as it did. -/
def trackWaysSpec : ChangeSpec := { name := "trackWays", fn := fun _ => fun
  | [d] => { results := [.lit (.bool true)], args := [d] }
  | _ => none }
def trackWaysRow : OpenClaim := { program := "ytnhglgpmmipjaaa", sum := "17f3f4c184de5ad46e483ec53d67cea20046b137ecebffce8759375e30fee48d", func := "leverframe/leverframelaw07.TrackWays", spec := "trackWays", unfollowed := true, recurses := true, apart := false }
def TrackWaysSaid : Prop := trackWaysRow.holds Try.pinned (OpenSpec.ofChange trackWaysSpec)

/-- ITS FALSE NEIGHBOUR: 'it returns false'. Refute it at one input. -/
def trackWaysWrong : ChangeSpec := { name := "trackWays", fn := fun _ => fun
  | [d] => { results := [.lit (.bool false)], args := [d] }
  | _ => none }
def TrackWaysWrongFalsely : Prop := trackWaysRow.holds Try.pinned (OpenSpec.ofChange trackWaysWrong)

/-- 'leverframelaw07.TrackFewer': WHATEVER THE INPUT: true; the input reads as it did. -/
def trackFewerSpec : ChangeSpec := { name := "trackFewer", fn := fun _ => fun
  | [d1, d2] => { results := [.lit (.bool true)], args := [d1, d2] }
  | _ => none }
def trackFewerRow : OpenClaim := { program := "ytnhglgpmmipjaaa", sum := "17f3f4c184de5ad46e483ec53d67cea20046b137ecebffce8759375e30fee48d", func := "leverframe/leverframelaw07.TrackFewer", spec := "trackFewer", unfollowed := true, recurses := true, apart := false }
def TrackFewerSaid : Prop := trackFewerRow.holds Try.pinned (OpenSpec.ofChange trackFewerSpec)

/-- ITS FALSE NEIGHBOUR: 'it returns false'. Refute it at one input. -/
def trackFewerWrong : ChangeSpec := { name := "trackFewer", fn := fun _ => fun
  | [d1, d2] => { results := [.lit (.bool false)], args := [d1, d2] }
  | _ => none }
def TrackFewerWrongFalsely : Prop := trackFewerRow.holds Try.pinned (OpenSpec.ofChange trackFewerWrong)

/-- 'leverframelaw07.TrackOwn': WHATEVER THE INPUT: true; the input reads as it did. -/
def trackOwnSpec : ChangeSpec := { name := "trackOwn", fn := fun _ => fun
  | [d1, d2] => { results := [.lit (.bool true)], args := [d1, d2] }
  | _ => none }
def trackOwnRow : OpenClaim := { program := "ytnhglgpmmipjaaa", sum := "17f3f4c184de5ad46e483ec53d67cea20046b137ecebffce8759375e30fee48d", func := "leverframe/leverframelaw07.TrackOwn", spec := "trackOwn", unfollowed := true, recurses := true, apart := false }
def TrackOwnSaid : Prop := trackOwnRow.holds Try.pinned (OpenSpec.ofChange trackOwnSpec)

/-- ITS FALSE NEIGHBOUR: 'it returns false'. Refute it at one input. -/
def trackOwnWrong : ChangeSpec := { name := "trackOwn", fn := fun _ => fun
  | [d1, d2] => { results := [.lit (.bool false)], args := [d1, d2] }
  | _ => none }
def TrackOwnWrongFalsely : Prop := trackOwnRow.holds Try.pinned (OpenSpec.ofChange trackOwnWrong)

/- THE SECOND FORM. 'bulk': how many values and letters a reading holds, each counted each time it is reached (what is shared counts as often as it is met; a slice's spare places count too). A statement '..UptoSaid' is the law's where the arguments, and the package variables that the reading takes, are together of bulk at most 1048576: NARROWER than '..Said'. Prove '..Said' where nothing that the law and all that it calls make is longer than what came in: it says more and counts as full. Else prove '..UptoSaid'. A law counts once. -/
mutual
def uptoBulk {H : Type} : DataW H → Nat
  | .lit (.string bytes) => bytes.length + 1
  | .lit _ => 1
  | .nil => 1
  | .ptr d => uptoBulk d + 1
  | .slice elems spare => uptoBulkAll elems + uptoBulkAll spare + 1
  | .agg parts => uptoBulkAll parts + 1
  | .iface _ d => uptoBulk d + 1
  | .map entries => uptoBulkEntries entries + 1
  | .held _ => 1
def uptoBulkAll {H : Type} : List (DataW H) → Nat
  | [] => 0
  | d :: r => uptoBulk d + uptoBulkAll r
def uptoBulkEntries {H : Type} : List (Lit × DataW H) → Nat
  | [] => 0
  | x :: r => uptoBulkEntry x + uptoBulkEntries r
def uptoBulkEntry {H : Type} : Lit × DataW H → Nat
  | (.string bytes, d) => bytes.length + uptoBulk d + 1
  | (_, d) => uptoBulk d + 1
 end
def uptoSmall : (H : Type) → List (DataW H) → Bool := fun _ ds => decide (uptoBulkAll ds ≤ 1048576)
def OpenSpec.upto (s : _root_.Go.ChangeSpec) : _root_.Go.OpenSpec := { _root_.Go.OpenSpec.ofChange s with cond := some uptoSmall }

/-- 'leverframelaw07.TrackNames', WHERE WHAT IT READS IS OF BULK AT MOST 1048576: true; the input reads as it did. -/
def trackNamesUptoRow : OpenClaim := { program := "ytnhglgpmmipjaaa", sum := "17f3f4c184de5ad46e483ec53d67cea20046b137ecebffce8759375e30fee48d", func := "leverframe/leverframelaw07.TrackNames", spec := "trackNames", unfollowed := true, recurses := true, apart := false, narrowed := true }
def TrackNamesUptoSaid : Prop := trackNamesUptoRow.holds Try.pinned (OpenSpec.upto trackNamesSpec)

/-- 'leverframelaw07.TrackTells', WHERE WHAT IT READS IS OF BULK AT MOST 1048576: true; the input reads as it did. -/
def trackTellsUptoRow : OpenClaim := { program := "ytnhglgpmmipjaaa", sum := "17f3f4c184de5ad46e483ec53d67cea20046b137ecebffce8759375e30fee48d", func := "leverframe/leverframelaw07.TrackTells", spec := "trackTells", unfollowed := true, recurses := true, apart := false, narrowed := true }
def TrackTellsUptoSaid : Prop := trackTellsUptoRow.holds Try.pinned (OpenSpec.upto trackTellsSpec)

/-- 'leverframelaw07.TrackThrough', WHERE WHAT IT READS IS OF BULK AT MOST 1048576: true; the input reads as it did. -/
def trackThroughUptoRow : OpenClaim := { program := "ytnhglgpmmipjaaa", sum := "17f3f4c184de5ad46e483ec53d67cea20046b137ecebffce8759375e30fee48d", func := "leverframe/leverframelaw07.TrackThrough", spec := "trackThrough", apart := false, narrowed := true }
def TrackThroughUptoSaid : Prop := trackThroughUptoRow.holds Try.pinned (OpenSpec.upto trackThroughSpec)

/-- 'leverframelaw07.TrackBack', WHERE WHAT IT READS IS OF BULK AT MOST 1048576: true; the input reads as it did. -/
def trackBackUptoRow : OpenClaim := { program := "ytnhglgpmmipjaaa", sum := "17f3f4c184de5ad46e483ec53d67cea20046b137ecebffce8759375e30fee48d", func := "leverframe/leverframelaw07.TrackBack", spec := "trackBack", unfollowed := true, recurses := true, apart := false, narrowed := true }
def TrackBackUptoSaid : Prop := trackBackUptoRow.holds Try.pinned (OpenSpec.upto trackBackSpec)

/-- 'leverframelaw07.TrackWays', WHERE WHAT IT READS IS OF BULK AT MOST 1048576: true; the input reads as it did. -/
def trackWaysUptoRow : OpenClaim := { program := "ytnhglgpmmipjaaa", sum := "17f3f4c184de5ad46e483ec53d67cea20046b137ecebffce8759375e30fee48d", func := "leverframe/leverframelaw07.TrackWays", spec := "trackWays", unfollowed := true, recurses := true, apart := false, narrowed := true }
def TrackWaysUptoSaid : Prop := trackWaysUptoRow.holds Try.pinned (OpenSpec.upto trackWaysSpec)

/-- 'leverframelaw07.TrackFewer', WHERE WHAT IT READS IS OF BULK AT MOST 1048576: true; the input reads as it did. -/
def trackFewerUptoRow : OpenClaim := { program := "ytnhglgpmmipjaaa", sum := "17f3f4c184de5ad46e483ec53d67cea20046b137ecebffce8759375e30fee48d", func := "leverframe/leverframelaw07.TrackFewer", spec := "trackFewer", unfollowed := true, recurses := true, apart := false, narrowed := true }
def TrackFewerUptoSaid : Prop := trackFewerUptoRow.holds Try.pinned (OpenSpec.upto trackFewerSpec)

/-- 'leverframelaw07.TrackOwn', WHERE WHAT IT READS IS OF BULK AT MOST 1048576: true; the input reads as it did. -/
def trackOwnUptoRow : OpenClaim := { program := "ytnhglgpmmipjaaa", sum := "17f3f4c184de5ad46e483ec53d67cea20046b137ecebffce8759375e30fee48d", func := "leverframe/leverframelaw07.TrackOwn", spec := "trackOwn", unfollowed := true, recurses := true, apart := false, narrowed := true }
def TrackOwnUptoSaid : Prop := trackOwnUptoRow.holds Try.pinned (OpenSpec.upto trackOwnSpec)

end Rows
end Go.Proofs.Ytnhglgpmmipjaaa
