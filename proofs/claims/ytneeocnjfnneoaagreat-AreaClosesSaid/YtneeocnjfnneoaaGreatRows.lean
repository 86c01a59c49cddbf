/-
  No cell of these rows narrows 'for every input' (looked for: loops, veiled, ifaces, maps, wideKeys, modest, calm, conditions, laid).
  DERIVED. THE GIVEN ROWS OF THIS SEAT. 6 by the template 'for every input the law returns true; each argument reads behind the call as it read before'; 0 by the template 'total and deterministic' (their statements: YtneeocnjfnneoaaGreatTotals.lean).
  GIVEN WITH THE SEED: the statements are not yours to turn. If you find one false, say at which input.
  Laid BY PROGRAM, IN A SANDBOX (cutbox-rows.mjs): the forced cells as the released guide's own fill.sh prints them over the translation 27ce9c60e3c8014d… (all of the seat's roots in one cut). By AI agents, Wed Nov 11 2026. No macro, syntax, notation, axiom, sorry.
-/
import Derived.Test.YtneeocnjfnneoaaGreatChecked
import GoSem.Claim
import GoSem.ClaimJoined
import GoSem.ClaimMapViews
import Derived.JoinedTies
import Derived.KernelRfl
namespace Go.Proofs.YtneeocnjfnneoaaGreat
/- THE CELL 'sum', in the pinned program and in every row, IS THE sha256 OF THE DUMP (.gsa) THAT YtneeocnjfnneoaaGreatProg.lean LOADS. Nothing in Lean hashes anything: it is a label: what it is worth is what the hold of that sum in a sandbox is worth. -/
noncomputable def Tryz.pinned : Pinned := { name := "ytneeocnjfnneoaagreat", sum := "27ce9c60e3c8014d99e536522d2f1a40ea8795ce350ba0c3e8dcd89489121d1d", checked := Tryz.checked }
namespace Rows
def none {H : Type} : Left H := { results := [], args := [] }

/-- 'leverframelaw14.AreaNames': WHATEVER THE INPUT: true; the input reads as it did. -/
def areaNamesSpec : ChangeSpec := { name := "areaNames", fn := fun _ => fun
  | [] => { results := [.lit (.bool true)], args := [] }
  | _ => none }
def areaNamesRow : OpenClaim := { program := "ytneeocnjfnneoaagreat", sum := "27ce9c60e3c8014d99e536522d2f1a40ea8795ce350ba0c3e8dcd89489121d1d", func := "leverframe/leverframelaw14.AreaNames", spec := "areaNames", inPlace := ["maps.clone"], unfollowed := true, recurses := true, plainKeys := false, apart := false }
def AreaNamesSaid : Prop := areaNamesRow.holds Tryz.pinned (OpenSpec.ofChange areaNamesSpec)

/-- ITS FALSE NEIGHBOUR: 'it returns false'. Refute it at one input. -/
def areaNamesWrong : ChangeSpec := { name := "areaNames", fn := fun _ => fun
  | [] => { results := [.lit (.bool false)], args := [] }
  | _ => none }
def AreaNamesWrongFalsely : Prop := areaNamesRow.holds Tryz.pinned (OpenSpec.ofChange areaNamesWrong)

/-- 'leverframelaw14.AreaTells': WHATEVER THE INPUT: true; the input reads as it did. -/
def areaTellsSpec : ChangeSpec := { name := "areaTells", fn := fun _ => fun
  | [d1, d2, d3] => { results := [.lit (.bool true)], args := [d1, d2, d3] }
  | _ => none }
def areaTellsRow : OpenClaim := { program := "ytneeocnjfnneoaagreat", sum := "27ce9c60e3c8014d99e536522d2f1a40ea8795ce350ba0c3e8dcd89489121d1d", func := "leverframe/leverframelaw14.AreaTells", spec := "areaTells", inPlace := ["maps.clone"], unfollowed := true, recurses := true, plainKeys := false, apart := false }
def AreaTellsSaid : Prop := areaTellsRow.holds Tryz.pinned (OpenSpec.ofChange areaTellsSpec)

/-- ITS FALSE NEIGHBOUR: 'it returns false'. Refute it at one input. -/
def areaTellsWrong : ChangeSpec := { name := "areaTells", fn := fun _ => fun
  | [d1, d2, d3] => { results := [.lit (.bool false)], args := [d1, d2, d3] }
  | _ => none }
def AreaTellsWrongFalsely : Prop := areaTellsRow.holds Tryz.pinned (OpenSpec.ofChange areaTellsWrong)

/-- 'leverframelaw14.AreaBack': WHATEVER THE INPUT: true; the input reads as it did. -/
def areaBackSpec : ChangeSpec := { name := "areaBack", fn := fun _ => fun
  | [d1, d2, d3] => { results := [.lit (.bool true)], args := [d1, d2, d3] }
  | _ => none }
def areaBackRow : OpenClaim := { program := "ytneeocnjfnneoaagreat", sum := "27ce9c60e3c8014d99e536522d2f1a40ea8795ce350ba0c3e8dcd89489121d1d", func := "leverframe/leverframelaw14.AreaBack", spec := "areaBack", inPlace := ["maps.clone"], unfollowed := true, recurses := true, plainKeys := false, apart := false }
def AreaBackSaid : Prop := areaBackRow.holds Tryz.pinned (OpenSpec.ofChange areaBackSpec)

/-- ITS FALSE NEIGHBOUR: 'it returns false'. Refute it at one input. -/
def areaBackWrong : ChangeSpec := { name := "areaBack", fn := fun _ => fun
  | [d1, d2, d3] => { results := [.lit (.bool false)], args := [d1, d2, d3] }
  | _ => none }
def AreaBackWrongFalsely : Prop := areaBackRow.holds Tryz.pinned (OpenSpec.ofChange areaBackWrong)

/-- 'leverframelaw14.AreaCloses': WHATEVER THE INPUT: true; the input reads as it did. -/
def areaClosesSpec : ChangeSpec := { name := "areaCloses", fn := fun _ => fun
  | [d1, d2] => { results := [.lit (.bool true)], args := [d1, d2] }
  | _ => none }
def areaClosesRow : OpenClaim := { program := "ytneeocnjfnneoaagreat", sum := "27ce9c60e3c8014d99e536522d2f1a40ea8795ce350ba0c3e8dcd89489121d1d", func := "leverframe/leverframelaw14.AreaCloses", spec := "areaCloses", inPlace := ["maps.clone"], unfollowed := true, recurses := true, plainKeys := false, apart := false }
def AreaClosesSaid : Prop := areaClosesRow.holds Tryz.pinned (OpenSpec.ofChange areaClosesSpec)

/-- ITS FALSE NEIGHBOUR: 'it returns false'. Refute it at one input. -/
def areaClosesWrong : ChangeSpec := { name := "areaCloses", fn := fun _ => fun
  | [d1, d2] => { results := [.lit (.bool false)], args := [d1, d2] }
  | _ => none }
def AreaClosesWrongFalsely : Prop := areaClosesRow.holds Tryz.pinned (OpenSpec.ofChange areaClosesWrong)

/-- 'leverframelaw14.AreaUses': WHATEVER THE INPUT: true; the input reads as it did. -/
def areaUsesSpec : ChangeSpec := { name := "areaUses", fn := fun _ => fun
  | [d1, d2] => { results := [.lit (.bool true)], args := [d1, d2] }
  | _ => none }
def areaUsesRow : OpenClaim := { program := "ytneeocnjfnneoaagreat", sum := "27ce9c60e3c8014d99e536522d2f1a40ea8795ce350ba0c3e8dcd89489121d1d", func := "leverframe/leverframelaw14.AreaUses", spec := "areaUses", inPlace := ["maps.clone"], unfollowed := true, recurses := true, plainKeys := false, apart := false }
def AreaUsesSaid : Prop := areaUsesRow.holds Tryz.pinned (OpenSpec.ofChange areaUsesSpec)

/-- ITS FALSE NEIGHBOUR: 'it returns false'. Refute it at one input. -/
def areaUsesWrong : ChangeSpec := { name := "areaUses", fn := fun _ => fun
  | [d1, d2] => { results := [.lit (.bool false)], args := [d1, d2] }
  | _ => none }
def AreaUsesWrongFalsely : Prop := areaUsesRow.holds Tryz.pinned (OpenSpec.ofChange areaUsesWrong)

/-- 'leverframelaw14.AreaChain': WHATEVER THE INPUT: true; the input reads as it did. -/
def areaChainSpec : ChangeSpec := { name := "areaChain", fn := fun _ => fun
  | [d1, d2, d3] => { results := [.lit (.bool true)], args := [d1, d2, d3] }
  | _ => none }
def areaChainRow : OpenClaim := { program := "ytneeocnjfnneoaagreat", sum := "27ce9c60e3c8014d99e536522d2f1a40ea8795ce350ba0c3e8dcd89489121d1d", func := "leverframe/leverframelaw14.AreaChain", spec := "areaChain", inPlace := ["maps.clone"], unfollowed := true, recurses := true, plainKeys := false, apart := false }
def AreaChainSaid : Prop := areaChainRow.holds Tryz.pinned (OpenSpec.ofChange areaChainSpec)

/-- ITS FALSE NEIGHBOUR: 'it returns false'. Refute it at one input. -/
def areaChainWrong : ChangeSpec := { name := "areaChain", fn := fun _ => fun
  | [d1, d2, d3] => { results := [.lit (.bool false)], args := [d1, d2, d3] }
  | _ => none }
def AreaChainWrongFalsely : Prop := areaChainRow.holds Tryz.pinned (OpenSpec.ofChange areaChainWrong)

/- THE SECOND FORM. 'bulk': how many values and letters a reading holds, each counted each time it is reached (what is shared counts as often as it is met; a slice's spare places count too). A statement '..UptoSaid' is the law's where the arguments, and the package variables that the reading takes, are together of bulk at most 1048576: NARROWER than '..Said'. Prove '..Said' where nothing that the law and all that it calls make is longer than what came in: it says more and counts as full. Else prove '..UptoSaid'. A law counts once. -/
mutual
def uptoBulk {H : Type} : DataW H → Nat
  | .lit (.string bytes) => bytes.length + 1
  | .lit _ => 1
  | .nil => 1
  | .ptr d => uptoBulk d + 1
  | .slice elems spare => uptoBulkAll elems + uptoBulkAll spare + 1
  | .agg parts => uptoBulkAll parts + 1
  | .iface _ d => uptoBulk d + 1
  | .map entries => uptoBulkEntries entries + 1
  | .held _ => 1
def uptoBulkAll {H : Type} : List (DataW H) → Nat
  | [] => 0
  | d :: r => uptoBulk d + uptoBulkAll r
def uptoBulkEntries {H : Type} : List (Lit × DataW H) → Nat
  | [] => 0
  | x :: r => uptoBulkEntry x + uptoBulkEntries r
def uptoBulkEntry {H : Type} : Lit × DataW H → Nat
  | (.string bytes, d) => bytes.length + uptoBulk d + 1
  | (_, d) => uptoBulk d + 1
 end
def uptoSmall : (H : Type) → List (DataW H) → Bool := fun _ ds => decide (uptoBulkAll ds ≤ 1048576)
def OpenSpec.upto (s : _root_.Go.ChangeSpec) : _root_.Go.OpenSpec := { _root_.Go.OpenSpec.ofChange s with cond := some uptoSmall }

/-- 'leverframelaw14.AreaNames', WHERE WHAT IT READS IS OF BULK AT MOST 1048576: true; the input reads as it did. -/
def areaNamesUptoRow : OpenClaim := { program := "ytneeocnjfnneoaagreat", sum := "27ce9c60e3c8014d99e536522d2f1a40ea8795ce350ba0c3e8dcd89489121d1d", func := "leverframe/leverframelaw14.AreaNames", spec := "areaNames", inPlace := ["maps.clone"], unfollowed := true, recurses := true, plainKeys := false, apart := false, narrowed := true }
def AreaNamesUptoSaid : Prop := areaNamesUptoRow.holds Tryz.pinned (OpenSpec.upto areaNamesSpec)

/-- 'leverframelaw14.AreaTells', WHERE WHAT IT READS IS OF BULK AT MOST 1048576: true; the input reads as it did. -/
def areaTellsUptoRow : OpenClaim := { program := "ytneeocnjfnneoaagreat", sum := "27ce9c60e3c8014d99e536522d2f1a40ea8795ce350ba0c3e8dcd89489121d1d", func := "leverframe/leverframelaw14.AreaTells", spec := "areaTells", inPlace := ["maps.clone"], unfollowed := true, recurses := true, plainKeys := false, apart := false, narrowed := true }
def AreaTellsUptoSaid : Prop := areaTellsUptoRow.holds Tryz.pinned (OpenSpec.upto areaTellsSpec)

/-- 'leverframelaw14.AreaBack', WHERE WHAT IT READS IS OF BULK AT MOST 1048576: true; the input reads as it did. -/
def areaBackUptoRow : OpenClaim := { program := "ytneeocnjfnneoaagreat", sum := "27ce9c60e3c8014d99e536522d2f1a40ea8795ce350ba0c3e8dcd89489121d1d", func := "leverframe/leverframelaw14.AreaBack", spec := "areaBack", inPlace := ["maps.clone"], unfollowed := true, recurses := true, plainKeys := false, apart := false, narrowed := true }
def AreaBackUptoSaid : Prop := areaBackUptoRow.holds Tryz.pinned (OpenSpec.upto areaBackSpec)

/-- 'leverframelaw14.AreaCloses', WHERE WHAT IT READS IS OF BULK AT MOST 1048576: true; the input reads as it did. -/
def areaClosesUptoRow : OpenClaim := { program := "ytneeocnjfnneoaagreat", sum := "27ce9c60e3c8014d99e536522d2f1a40ea8795ce350ba0c3e8dcd89489121d1d", func := "leverframe/leverframelaw14.AreaCloses", spec := "areaCloses", inPlace := ["maps.clone"], unfollowed := true, recurses := true, plainKeys := false, apart := false, narrowed := true }
def AreaClosesUptoSaid : Prop := areaClosesUptoRow.holds Tryz.pinned (OpenSpec.upto areaClosesSpec)

/-- 'leverframelaw14.AreaUses', WHERE WHAT IT READS IS OF BULK AT MOST 1048576: true; the input reads as it did. -/
def areaUsesUptoRow : OpenClaim := { program := "ytneeocnjfnneoaagreat", sum := "27ce9c60e3c8014d99e536522d2f1a40ea8795ce350ba0c3e8dcd89489121d1d", func := "leverframe/leverframelaw14.AreaUses", spec := "areaUses", inPlace := ["maps.clone"], unfollowed := true, recurses := true, plainKeys := false, apart := false, narrowed := true }
def AreaUsesUptoSaid : Prop := areaUsesUptoRow.holds Tryz.pinned (OpenSpec.upto areaUsesSpec)

/-- 'leverframelaw14.AreaChain', WHERE WHAT IT READS IS OF BULK AT MOST 1048576: true; the input reads as it did. -/
def areaChainUptoRow : OpenClaim := { program := "ytneeocnjfnneoaagreat", sum := "27ce9c60e3c8014d99e536522d2f1a40ea8795ce350ba0c3e8dcd89489121d1d", func := "leverframe/leverframelaw14.AreaChain", spec := "areaChain", inPlace := ["maps.clone"], unfollowed := true, recurses := true, plainKeys := false, apart := false, narrowed := true }
def AreaChainUptoSaid : Prop := areaChainUptoRow.holds Tryz.pinned (OpenSpec.upto areaChainSpec)

end Rows
end Go.Proofs.YtneeocnjfnneoaaGreat
