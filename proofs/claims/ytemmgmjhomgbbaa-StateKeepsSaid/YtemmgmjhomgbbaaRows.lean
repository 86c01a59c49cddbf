/-
  No cell of these rows narrows 'for every input' (looked for: loops, veiled, ifaces, maps, wideKeys, modest, calm, conditions, laid).
  DERIVED. THE GIVEN ROWS OF THIS SEAT. 5 by the template 'for every input the law returns true; each argument reads behind the call as it read before'; 0 by the template 'total and deterministic' (their statements: YtemmgmjhomgbbaaTotals.lean).
  GIVEN WITH THE SEED: the statements are not yours to turn. If you find one false, say at which input.
  Laid BY PROGRAM, IN A SANDBOX (cutbox-rows.mjs): the forced cells as the released guide's own fill.sh prints them over the translation a50793a0d330f7a3… (all of the seat's roots in one cut). By AI agents, Wed Nov 11 2026. No macro, syntax, notation, axiom, sorry.
-/
import Derived.Test.YtemmgmjhomgbbaaChecked
import GoSem.Claim
import GoSem.ClaimJoined
import GoSem.ClaimMapViews
import Derived.JoinedTies
import Derived.KernelRfl
namespace Go.Proofs.Ytemmgmjhomgbbaa
/- THE CELL 'sum', in the pinned program and in every row, IS THE sha256 OF THE DUMP (.gsa) THAT YtemmgmjhomgbbaaProg.lean LOADS. Nothing in Lean hashes anything: it is a label: what it is worth is what the hold of that sum in a sandbox is worth. -/
noncomputable def Try.pinned : Pinned := { name := "ytemmgmjhomgbbaa", sum := "a50793a0d330f7a3cdd8443638d9383b090bff4c661e767fa9daa7a50a323752", checked := Try.checked }
namespace Rows
def none {H : Type} : Left H := { results := [], args := [] }

/-- 'leverframelaw15.StateNames': WHATEVER THE INPUT: true; the input reads as it did. -/
def stateNamesSpec : ChangeSpec := { name := "stateNames", fn := fun _ => fun
  | [] => { results := [.lit (.bool true)], args := [] }
  | _ => none }
def stateNamesRow : OpenClaim := { program := "ytemmgmjhomgbbaa", sum := "a50793a0d330f7a3cdd8443638d9383b090bff4c661e767fa9daa7a50a323752", func := "leverframe/leverframelaw15.StateNames", spec := "stateNames", unfollowed := true, recurses := true, apart := false }
def StateNamesSaid : Prop := stateNamesRow.holds Try.pinned (OpenSpec.ofChange stateNamesSpec)

/-- ITS FALSE NEIGHBOUR: 'it returns false'. Refute it at one input. -/
def stateNamesWrong : ChangeSpec := { name := "stateNames", fn := fun _ => fun
  | [] => { results := [.lit (.bool false)], args := [] }
  | _ => none }
def StateNamesWrongFalsely : Prop := stateNamesRow.holds Try.pinned (OpenSpec.ofChange stateNamesWrong)

/-- 'leverframelaw15.StateCompares': WHATEVER THE INPUT: true; the input reads as it did. -/
def stateComparesSpec : ChangeSpec := { name := "stateCompares", fn := fun _ => fun
  | [d1, d2] => { results := [.lit (.bool true)], args := [d1, d2] }
  | _ => none }
def stateComparesRow : OpenClaim := { program := "ytemmgmjhomgbbaa", sum := "a50793a0d330f7a3cdd8443638d9383b090bff4c661e767fa9daa7a50a323752", func := "leverframe/leverframelaw15.StateCompares", spec := "stateCompares", unfollowed := true, recurses := true, apart := false }
def StateComparesSaid : Prop := stateComparesRow.holds Try.pinned (OpenSpec.ofChange stateComparesSpec)

/-- ITS FALSE NEIGHBOUR: 'it returns false'. Refute it at one input. -/
def stateComparesWrong : ChangeSpec := { name := "stateCompares", fn := fun _ => fun
  | [d1, d2] => { results := [.lit (.bool false)], args := [d1, d2] }
  | _ => none }
def StateComparesWrongFalsely : Prop := stateComparesRow.holds Try.pinned (OpenSpec.ofChange stateComparesWrong)

/-- 'leverframelaw15.StateHolds': WHATEVER THE INPUT: true; the input reads as it did. -/
def stateHoldsSpec : ChangeSpec := { name := "stateHolds", fn := fun _ => fun
  | [d1, d2, d3] => { results := [.lit (.bool true)], args := [d1, d2, d3] }
  | _ => none }
def stateHoldsRow : OpenClaim := { program := "ytemmgmjhomgbbaa", sum := "a50793a0d330f7a3cdd8443638d9383b090bff4c661e767fa9daa7a50a323752", func := "leverframe/leverframelaw15.StateHolds", spec := "stateHolds", unfollowed := true, recurses := true, apart := false }
def StateHoldsSaid : Prop := stateHoldsRow.holds Try.pinned (OpenSpec.ofChange stateHoldsSpec)

/-- ITS FALSE NEIGHBOUR: 'it returns false'. Refute it at one input. -/
def stateHoldsWrong : ChangeSpec := { name := "stateHolds", fn := fun _ => fun
  | [d1, d2, d3] => { results := [.lit (.bool false)], args := [d1, d2, d3] }
  | _ => none }
def StateHoldsWrongFalsely : Prop := stateHoldsRow.holds Try.pinned (OpenSpec.ofChange stateHoldsWrong)

/-- 'leverframelaw15.StateKeeps': WHATEVER THE INPUT: true; the input reads as it did. -/
def stateKeepsSpec : ChangeSpec := { name := "stateKeeps", fn := fun _ => fun
  | [d1, d2, d3, d4] => { results := [.lit (.bool true)], args := [d1, d2, d3, d4] }
  | _ => none }
def stateKeepsRow : OpenClaim := { program := "ytemmgmjhomgbbaa", sum := "a50793a0d330f7a3cdd8443638d9383b090bff4c661e767fa9daa7a50a323752", func := "leverframe/leverframelaw15.StateKeeps", spec := "stateKeeps", unfollowed := true, recurses := true, apart := false }
def StateKeepsSaid : Prop := stateKeepsRow.holds Try.pinned (OpenSpec.ofChange stateKeepsSpec)

/-- ITS FALSE NEIGHBOUR: 'it returns false'. Refute it at one input. -/
def stateKeepsWrong : ChangeSpec := { name := "stateKeeps", fn := fun _ => fun
  | [d1, d2, d3, d4] => { results := [.lit (.bool false)], args := [d1, d2, d3, d4] }
  | _ => none }
def StateKeepsWrongFalsely : Prop := stateKeepsRow.holds Try.pinned (OpenSpec.ofChange stateKeepsWrong)

/-- 'leverframelaw15.StateRest': WHATEVER THE INPUT: true; the input reads as it did. -/
def stateRestSpec : ChangeSpec := { name := "stateRest", fn := fun _ => fun
  | [d1, d2] => { results := [.lit (.bool true)], args := [d1, d2] }
  | _ => none }
def stateRestRow : OpenClaim := { program := "ytemmgmjhomgbbaa", sum := "a50793a0d330f7a3cdd8443638d9383b090bff4c661e767fa9daa7a50a323752", func := "leverframe/leverframelaw15.StateRest", spec := "stateRest", unfollowed := true, recurses := true, apart := false }
def StateRestSaid : Prop := stateRestRow.holds Try.pinned (OpenSpec.ofChange stateRestSpec)

/-- ITS FALSE NEIGHBOUR: 'it returns false'. Refute it at one input. -/
def stateRestWrong : ChangeSpec := { name := "stateRest", fn := fun _ => fun
  | [d1, d2] => { results := [.lit (.bool false)], args := [d1, d2] }
  | _ => none }
def StateRestWrongFalsely : Prop := stateRestRow.holds Try.pinned (OpenSpec.ofChange stateRestWrong)

/- THE SECOND FORM. 'bulk': how many values and letters a reading holds, each counted each time it is reached (what is shared counts as often as it is met; a slice's spare places count too). A statement '..UptoSaid' is the law's where the arguments, and the package variables that the reading takes, are together of bulk at most 1048576: NARROWER than '..Said'. Prove '..Said' where nothing that the law and all that it calls make is longer than what came in: it says more and counts as full. Else prove '..UptoSaid'. A law counts once. -/
mutual
def uptoBulk {H : Type} : DataW H → Nat
  | .lit (.string bytes) => bytes.length + 1
  | .lit _ => 1
  | .nil => 1
  | .ptr d => uptoBulk d + 1
  | .slice elems spare => uptoBulkAll elems + uptoBulkAll spare + 1
  | .agg parts => uptoBulkAll parts + 1
  | .iface _ d => uptoBulk d + 1
  | .map entries => uptoBulkEntries entries + 1
  | .held _ => 1
def uptoBulkAll {H : Type} : List (DataW H) → Nat
  | [] => 0
  | d :: r => uptoBulk d + uptoBulkAll r
def uptoBulkEntries {H : Type} : List (Lit × DataW H) → Nat
  | [] => 0
  | x :: r => uptoBulkEntry x + uptoBulkEntries r
def uptoBulkEntry {H : Type} : Lit × DataW H → Nat
  | (.string bytes, d) => bytes.length + uptoBulk d + 1
  | (_, d) => uptoBulk d + 1
 end
def uptoSmall : (H : Type) → List (DataW H) → Bool := fun _ ds => decide (uptoBulkAll ds ≤ 1048576)
def OpenSpec.upto (s : _root_.Go.ChangeSpec) : _root_.Go.OpenSpec := { _root_.Go.OpenSpec.ofChange s with cond := some uptoSmall }

/-- 'leverframelaw15.StateNames', WHERE WHAT IT READS IS OF BULK AT MOST 1048576: true; the input reads as it did. -/
def stateNamesUptoRow : OpenClaim := { program := "ytemmgmjhomgbbaa", sum := "a50793a0d330f7a3cdd8443638d9383b090bff4c661e767fa9daa7a50a323752", func := "leverframe/leverframelaw15.StateNames", spec := "stateNames", unfollowed := true, recurses := true, apart := false, narrowed := true }
def StateNamesUptoSaid : Prop := stateNamesUptoRow.holds Try.pinned (OpenSpec.upto stateNamesSpec)

/-- 'leverframelaw15.StateCompares', WHERE WHAT IT READS IS OF BULK AT MOST 1048576: true; the input reads as it did. -/
def stateComparesUptoRow : OpenClaim := { program := "ytemmgmjhomgbbaa", sum := "a50793a0d330f7a3cdd8443638d9383b090bff4c661e767fa9daa7a50a323752", func := "leverframe/leverframelaw15.StateCompares", spec := "stateCompares", unfollowed := true, recurses := true, apart := false, narrowed := true }
def StateComparesUptoSaid : Prop := stateComparesUptoRow.holds Try.pinned (OpenSpec.upto stateComparesSpec)

/-- 'leverframelaw15.StateHolds', WHERE WHAT IT READS IS OF BULK AT MOST 1048576: true; the input reads as it did. -/
def stateHoldsUptoRow : OpenClaim := { program := "ytemmgmjhomgbbaa", sum := "a50793a0d330f7a3cdd8443638d9383b090bff4c661e767fa9daa7a50a323752", func := "leverframe/leverframelaw15.StateHolds", spec := "stateHolds", unfollowed := true, recurses := true, apart := false, narrowed := true }
def StateHoldsUptoSaid : Prop := stateHoldsUptoRow.holds Try.pinned (OpenSpec.upto stateHoldsSpec)

/-- 'leverframelaw15.StateKeeps', WHERE WHAT IT READS IS OF BULK AT MOST 1048576: true; the input reads as it did. -/
def stateKeepsUptoRow : OpenClaim := { program := "ytemmgmjhomgbbaa", sum := "a50793a0d330f7a3cdd8443638d9383b090bff4c661e767fa9daa7a50a323752", func := "leverframe/leverframelaw15.StateKeeps", spec := "stateKeeps", unfollowed := true, recurses := true, apart := false, narrowed := true }
def StateKeepsUptoSaid : Prop := stateKeepsUptoRow.holds Try.pinned (OpenSpec.upto stateKeepsSpec)

/-- 'leverframelaw15.StateRest', WHERE WHAT IT READS IS OF BULK AT MOST 1048576: true; the input reads as it did. -/
def stateRestUptoRow : OpenClaim := { program := "ytemmgmjhomgbbaa", sum := "a50793a0d330f7a3cdd8443638d9383b090bff4c661e767fa9daa7a50a323752", func := "leverframe/leverframelaw15.StateRest", spec := "stateRest", unfollowed := true, recurses := true, apart := false, narrowed := true }
def StateRestUptoSaid : Prop := stateRestUptoRow.holds Try.pinned (OpenSpec.upto stateRestSpec)

end Rows
end Go.Proofs.Ytemmgmjhomgbbaa
