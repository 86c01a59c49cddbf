/-
  No cell of these rows narrows 'for every input' (looked for: loops, veiled, ifaces, maps, wideKeys, modest, calm, conditions, laid).
  DERIVED. THE GIVEN ROWS OF THIS SEAT. 6 by the template 'for every input the law returns true; each argument reads behind the call as it read before'; 0 by the template 'total and deterministic' (their statements: YtjgdgdccnbmbiaaTotals.lean).
  GIVEN WITH THE SEED: the statements are not yours to turn. If you find one false, say at which input.
  Laid BY PROGRAM, IN A SANDBOX (cutbox-rows.mjs): the forced cells as the released guide's own fill.sh prints them over the translation bea883fd2e89a410… (all of the seat's roots in one cut). By AI agents, Wed Nov 11 2026. No macro, syntax, notation, axiom, sorry.
-/
import Derived.Test.YtjgdgdccnbmbiaaChecked
import GoSem.Claim
import GoSem.ClaimJoined
import GoSem.ClaimMapViews
import Derived.JoinedTies
import Derived.KernelRfl
namespace Go.Proofs.Ytjgdgdccnbmbiaa
/- THE CELL 'sum', in the pinned program and in every row, IS THE sha256 OF THE DUMP (.gsa) THAT YtjgdgdccnbmbiaaProg.lean LOADS. Nothing in Lean hashes anything: it is a label: what it is worth is what the hold of that sum in a sandbox is worth. -/
noncomputable def Try.pinned : Pinned := { name := "ytjgdgdccnbmbiaa", sum := "bea883fd2e89a410c9e64820244f961e003b59377cf3cd297198b268d1d0532d", checked := Try.checked }
namespace Rows
def none {H : Type} : Left H := { results := [], args := [] }

/-- 'leverframelaw09.WayNames': WHATEVER THE INPUT: true; the input reads as it did. -/
def wayNamesSpec : ChangeSpec := { name := "wayNames", fn := fun _ => fun
  | [] => { results := [.lit (.bool true)], args := [] }
  | _ => none }
def wayNamesRow : OpenClaim := { program := "ytjgdgdccnbmbiaa", sum := "bea883fd2e89a410c9e64820244f961e003b59377cf3cd297198b268d1d0532d", func := "leverframe/leverframelaw09.WayNames", spec := "wayNames", unfollowed := true, recurses := true, apart := false }
def WayNamesSaid : Prop := wayNamesRow.holds Try.pinned (OpenSpec.ofChange wayNamesSpec)

/-- ITS FALSE NEIGHBOUR: 'it returns false'. Refute it at one input. -/
def wayNamesWrong : ChangeSpec := { name := "wayNames", fn := fun _ => fun
  | [] => { results := [.lit (.bool false)], args := [] }
  | _ => none }
def WayNamesWrongFalsely : Prop := wayNamesRow.holds Try.pinned (OpenSpec.ofChange wayNamesWrong)

/-- 'leverframelaw09.WayTells': WHATEVER THE INPUT: true; the input reads as it did. -/
def wayTellsSpec : ChangeSpec := { name := "wayTells", fn := fun _ => fun
  | [d1, d2, d3] => { results := [.lit (.bool true)], args := [d1, d2, d3] }
  | _ => none }
def wayTellsRow : OpenClaim := { program := "ytjgdgdccnbmbiaa", sum := "bea883fd2e89a410c9e64820244f961e003b59377cf3cd297198b268d1d0532d", func := "leverframe/leverframelaw09.WayTells", spec := "wayTells", unfollowed := true, recurses := true, apart := false }
def WayTellsSaid : Prop := wayTellsRow.holds Try.pinned (OpenSpec.ofChange wayTellsSpec)

/-- ITS FALSE NEIGHBOUR: 'it returns false'. Refute it at one input. -/
def wayTellsWrong : ChangeSpec := { name := "wayTells", fn := fun _ => fun
  | [d1, d2, d3] => { results := [.lit (.bool false)], args := [d1, d2, d3] }
  | _ => none }
def WayTellsWrongFalsely : Prop := wayTellsRow.holds Try.pinned (OpenSpec.ofChange wayTellsWrong)

/-- 'leverframelaw09.WayAll': WHATEVER THE INPUT: true; the input reads as it did. -/
def wayAllSpec : ChangeSpec := { name := "wayAll", fn := fun _ => fun
  | [d] => { results := [.lit (.bool true)], args := [d] }
  | _ => none }
def wayAllRow : OpenClaim := { program := "ytjgdgdccnbmbiaa", sum := "bea883fd2e89a410c9e64820244f961e003b59377cf3cd297198b268d1d0532d", func := "leverframe/leverframelaw09.WayAll", spec := "wayAll", unfollowed := true, recurses := true, apart := false }
def WayAllSaid : Prop := wayAllRow.holds Try.pinned (OpenSpec.ofChange wayAllSpec)

/-- ITS FALSE NEIGHBOUR: 'it returns false'. Refute it at one input. -/
def wayAllWrong : ChangeSpec := { name := "wayAll", fn := fun _ => fun
  | [d] => { results := [.lit (.bool false)], args := [d] }
  | _ => none }
def WayAllWrongFalsely : Prop := wayAllRow.holds Try.pinned (OpenSpec.ofChange wayAllWrong)

/-- 'leverframelaw09.WayGoes': WHATEVER THE INPUT: true; the input reads as it did. -/
def wayGoesSpec : ChangeSpec := { name := "wayGoes", fn := fun _ => fun
  | [d1, d2] => { results := [.lit (.bool true)], args := [d1, d2] }
  | _ => none }
def wayGoesRow : OpenClaim := { program := "ytjgdgdccnbmbiaa", sum := "bea883fd2e89a410c9e64820244f961e003b59377cf3cd297198b268d1d0532d", func := "leverframe/leverframelaw09.WayGoes", spec := "wayGoes", unfollowed := true, recurses := true, apart := false }
def WayGoesSaid : Prop := wayGoesRow.holds Try.pinned (OpenSpec.ofChange wayGoesSpec)

/-- ITS FALSE NEIGHBOUR: 'it returns false'. Refute it at one input. -/
def wayGoesWrong : ChangeSpec := { name := "wayGoes", fn := fun _ => fun
  | [d1, d2] => { results := [.lit (.bool false)], args := [d1, d2] }
  | _ => none }
def WayGoesWrongFalsely : Prop := wayGoesRow.holds Try.pinned (OpenSpec.ofChange wayGoesWrong)

/-- 'leverframelaw09.WayAsks': WHATEVER THE INPUT: true; the input reads as it did. -/
def wayAsksSpec : ChangeSpec := { name := "wayAsks", fn := fun _ => fun
  | [d1, d2] => { results := [.lit (.bool true)], args := [d1, d2] }
  | _ => none }
def wayAsksRow : OpenClaim := { program := "ytjgdgdccnbmbiaa", sum := "bea883fd2e89a410c9e64820244f961e003b59377cf3cd297198b268d1d0532d", func := "leverframe/leverframelaw09.WayAsks", spec := "wayAsks", unfollowed := true, recurses := true, apart := false }
def WayAsksSaid : Prop := wayAsksRow.holds Try.pinned (OpenSpec.ofChange wayAsksSpec)

/-- ITS FALSE NEIGHBOUR: 'it returns false'. Refute it at one input. -/
def wayAsksWrong : ChangeSpec := { name := "wayAsks", fn := fun _ => fun
  | [d1, d2] => { results := [.lit (.bool false)], args := [d1, d2] }
  | _ => none }
def WayAsksWrongFalsely : Prop := wayAsksRow.holds Try.pinned (OpenSpec.ofChange wayAsksWrong)

/-- 'leverframelaw09.WayOwn': WHATEVER THE INPUT: true; the input reads as it did. -/
def wayOwnSpec : ChangeSpec := { name := "wayOwn", fn := fun _ => fun
  | [d1, d2] => { results := [.lit (.bool true)], args := [d1, d2] }
  | _ => none }
def wayOwnRow : OpenClaim := { program := "ytjgdgdccnbmbiaa", sum := "bea883fd2e89a410c9e64820244f961e003b59377cf3cd297198b268d1d0532d", func := "leverframe/leverframelaw09.WayOwn", spec := "wayOwn", unfollowed := true, recurses := true, apart := false }
def WayOwnSaid : Prop := wayOwnRow.holds Try.pinned (OpenSpec.ofChange wayOwnSpec)

/-- ITS FALSE NEIGHBOUR: 'it returns false'. Refute it at one input. -/
def wayOwnWrong : ChangeSpec := { name := "wayOwn", fn := fun _ => fun
  | [d1, d2] => { results := [.lit (.bool false)], args := [d1, d2] }
  | _ => none }
def WayOwnWrongFalsely : Prop := wayOwnRow.holds Try.pinned (OpenSpec.ofChange wayOwnWrong)

/- THE SECOND FORM. 'bulk': how many values and letters a reading holds, each counted each time it is reached (what is shared counts as often as it is met; a slice's spare places count too). A statement '..UptoSaid' is the law's where the arguments, and the package variables that the reading takes, are together of bulk at most 1048576: NARROWER than '..Said'. Prove '..Said' where nothing that the law and all that it calls make is longer than what came in: it says more and counts as full. Else prove '..UptoSaid'. A law counts once. -/
mutual
def uptoBulk {H : Type} : DataW H → Nat
  | .lit (.string bytes) => bytes.length + 1
  | .lit _ => 1
  | .nil => 1
  | .ptr d => uptoBulk d + 1
  | .slice elems spare => uptoBulkAll elems + uptoBulkAll spare + 1
  | .agg parts => uptoBulkAll parts + 1
  | .iface _ d => uptoBulk d + 1
  | .map entries => uptoBulkEntries entries + 1
  | .held _ => 1
def uptoBulkAll {H : Type} : List (DataW H) → Nat
  | [] => 0
  | d :: r => uptoBulk d + uptoBulkAll r
def uptoBulkEntries {H : Type} : List (Lit × DataW H) → Nat
  | [] => 0
  | x :: r => uptoBulkEntry x + uptoBulkEntries r
def uptoBulkEntry {H : Type} : Lit × DataW H → Nat
  | (.string bytes, d) => bytes.length + uptoBulk d + 1
  | (_, d) => uptoBulk d + 1
 end
def uptoSmall : (H : Type) → List (DataW H) → Bool := fun _ ds => decide (uptoBulkAll ds ≤ 1048576)
def OpenSpec.upto (s : _root_.Go.ChangeSpec) : _root_.Go.OpenSpec := { _root_.Go.OpenSpec.ofChange s with cond := some uptoSmall }

/-- 'leverframelaw09.WayNames', WHERE WHAT IT READS IS OF BULK AT MOST 1048576: true; the input reads as it did. -/
def wayNamesUptoRow : OpenClaim := { program := "ytjgdgdccnbmbiaa", sum := "bea883fd2e89a410c9e64820244f961e003b59377cf3cd297198b268d1d0532d", func := "leverframe/leverframelaw09.WayNames", spec := "wayNames", unfollowed := true, recurses := true, apart := false, narrowed := true }
def WayNamesUptoSaid : Prop := wayNamesUptoRow.holds Try.pinned (OpenSpec.upto wayNamesSpec)

/-- 'leverframelaw09.WayTells', WHERE WHAT IT READS IS OF BULK AT MOST 1048576: true; the input reads as it did. -/
def wayTellsUptoRow : OpenClaim := { program := "ytjgdgdccnbmbiaa", sum := "bea883fd2e89a410c9e64820244f961e003b59377cf3cd297198b268d1d0532d", func := "leverframe/leverframelaw09.WayTells", spec := "wayTells", unfollowed := true, recurses := true, apart := false, narrowed := true }
def WayTellsUptoSaid : Prop := wayTellsUptoRow.holds Try.pinned (OpenSpec.upto wayTellsSpec)

/-- 'leverframelaw09.WayAll', WHERE WHAT IT READS IS OF BULK AT MOST 1048576: true; the input reads as it did. -/
def wayAllUptoRow : OpenClaim := { program := "ytjgdgdccnbmbiaa", sum := "bea883fd2e89a410c9e64820244f961e003b59377cf3cd297198b268d1d0532d", func := "leverframe/leverframelaw09.WayAll", spec := "wayAll", unfollowed := true, recurses := true, apart := false, narrowed := true }
def WayAllUptoSaid : Prop := wayAllUptoRow.holds Try.pinned (OpenSpec.upto wayAllSpec)

/-- 'leverframelaw09.WayGoes', WHERE WHAT IT READS IS OF BULK AT MOST 1048576: true; the input reads as it did. -/
def wayGoesUptoRow : OpenClaim := { program := "ytjgdgdccnbmbiaa", sum := "bea883fd2e89a410c9e64820244f961e003b59377cf3cd297198b268d1d0532d", func := "leverframe/leverframelaw09.WayGoes", spec := "wayGoes", unfollowed := true, recurses := true, apart := false, narrowed := true }
def WayGoesUptoSaid : Prop := wayGoesUptoRow.holds Try.pinned (OpenSpec.upto wayGoesSpec)

/-- 'leverframelaw09.WayAsks', WHERE WHAT IT READS IS OF BULK AT MOST 1048576: true; the input reads as it did. -/
def wayAsksUptoRow : OpenClaim := { program := "ytjgdgdccnbmbiaa", sum := "bea883fd2e89a410c9e64820244f961e003b59377cf3cd297198b268d1d0532d", func := "leverframe/leverframelaw09.WayAsks", spec := "wayAsks", unfollowed := true, recurses := true, apart := false, narrowed := true }
def WayAsksUptoSaid : Prop := wayAsksUptoRow.holds Try.pinned (OpenSpec.upto wayAsksSpec)

/-- 'leverframelaw09.WayOwn', WHERE WHAT IT READS IS OF BULK AT MOST 1048576: true; the input reads as it did. -/
def wayOwnUptoRow : OpenClaim := { program := "ytjgdgdccnbmbiaa", sum := "bea883fd2e89a410c9e64820244f961e003b59377cf3cd297198b268d1d0532d", func := "leverframe/leverframelaw09.WayOwn", spec := "wayOwn", unfollowed := true, recurses := true, apart := false, narrowed := true }
def WayOwnUptoSaid : Prop := wayOwnUptoRow.holds Try.pinned (OpenSpec.upto wayOwnSpec)

end Rows
end Go.Proofs.Ytjgdgdccnbmbiaa
