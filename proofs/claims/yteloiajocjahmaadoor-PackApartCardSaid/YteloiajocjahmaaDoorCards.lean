/-
  DERIVED. GIVEN WITH THE SEED: THE CARDS: each row of YteloiajocjahmaaDoorRows.lean that lists a variable, with what it lists TIED to the program's text (the seventh form; the later family's looks); each row that meets fmt, with fmt's text TOLD by the authors' own Lean function (tested against real Go, not proved from fmt's source: count such statements apart). THE CARD IS WHAT COUNTS. Prove the row's statement (the work); the ties are given (YteloiajocjahmaaDoorTie.lean); close each card by the builder's one call (the guide's Derived/Test/ToyasCard.lean, 'card_holds'). Laid BY PROGRAM, IN A SANDBOX (cutbox-door.mjs). By AI agents, Wed Nov 11 2026. No macro, syntax, notation, axiom, sorry.
-/
import Derived.Test.YteloiajocjahmaaDoorRows
import GoSem.ClaimSeven
namespace Go.Proofs.YteloiajocjahmaaDoor
namespace Rows

/-- THE TIED CARD OF 'leverframelaw12.PackNames'. -/
def packNamesCard : Claim7 := { stood := { row := packNamesRow, standIns := [], harness := (true, "ad783aa3f19bafcf4602424d0746c8449288851ef633538ed96bcb3914aed506"), looks := true }, kinds := [], alts := [], laidByText := true, laidKinds := [.data], laidTests := true, laidLooks := .later }
def PackNamesCardSaid : Prop := Claim7.holds Tryd.pinned (.plain (OpenSpec.ofChange packNamesSpec)) packNamesCard

/-- THE TIED CARD OF 'leverframelaw12.PackBack'. -/
def packBackCard : Claim7 := { stood := { row := packBackRow, standIns := [], harness := (true, "ad783aa3f19bafcf4602424d0746c8449288851ef633538ed96bcb3914aed506"), looks := true }, kinds := [], alts := [], laidByText := true, laidKinds := [.data], laidTests := true, laidLooks := .later }
def PackBackCardSaid : Prop := Claim7.holds Tryd.pinned (.plain (OpenSpec.ofChange packBackSpec)) packBackCard

/-- THE TIED CARD OF 'leverframelaw12.PackKeys'. -/
def packKeysCard : Claim7 := { stood := { row := packKeysRow, standIns := [], harness := (true, "ad783aa3f19bafcf4602424d0746c8449288851ef633538ed96bcb3914aed506"), looks := true }, kinds := [], alts := [], laidByText := true, laidKinds := [.data], laidTests := true, laidLooks := .later }
def PackKeysCardSaid : Prop := Claim7.holds Tryd.pinned (.plain (OpenSpec.ofChange packKeysSpec)) packKeysCard

/-- THE TIED CARD OF 'leverframelaw12.PackApart'. -/
def packApartCard : Claim7 := { stood := { row := packApartRow, standIns := [], harness := (true, "ad783aa3f19bafcf4602424d0746c8449288851ef633538ed96bcb3914aed506"), looks := true }, kinds := [], alts := [], laidByText := true, laidKinds := [.data], laidTests := true, laidLooks := .later }
def PackApartCardSaid : Prop := Claim7.holds Tryd.pinned (.plain (OpenSpec.ofChange packApartSpec)) packApartCard

/-- THE SECOND FORM's CARD OF 'leverframelaw12.PackNames'. -/
def packNamesUptoCard : Claim7 := { stood := { row := packNamesUptoRow, standIns := [], harness := (true, "ad783aa3f19bafcf4602424d0746c8449288851ef633538ed96bcb3914aed506"), looks := true }, kinds := [], alts := [], laidByText := true, laidKinds := [.data], laidTests := true, laidLooks := .later }
def PackNamesUptoCardSaid : Prop := Claim7.holds Tryd.pinned (.plain (OpenSpec.upto packNamesSpec)) packNamesUptoCard

/-- THE SECOND FORM's CARD OF 'leverframelaw12.PackBack'. -/
def packBackUptoCard : Claim7 := { stood := { row := packBackUptoRow, standIns := [], harness := (true, "ad783aa3f19bafcf4602424d0746c8449288851ef633538ed96bcb3914aed506"), looks := true }, kinds := [], alts := [], laidByText := true, laidKinds := [.data], laidTests := true, laidLooks := .later }
def PackBackUptoCardSaid : Prop := Claim7.holds Tryd.pinned (.plain (OpenSpec.upto packBackSpec)) packBackUptoCard

/-- THE SECOND FORM's CARD OF 'leverframelaw12.PackKeys'. -/
def packKeysUptoCard : Claim7 := { stood := { row := packKeysUptoRow, standIns := [], harness := (true, "ad783aa3f19bafcf4602424d0746c8449288851ef633538ed96bcb3914aed506"), looks := true }, kinds := [], alts := [], laidByText := true, laidKinds := [.data], laidTests := true, laidLooks := .later }
def PackKeysUptoCardSaid : Prop := Claim7.holds Tryd.pinned (.plain (OpenSpec.upto packKeysSpec)) packKeysUptoCard

/-- THE SECOND FORM's CARD OF 'leverframelaw12.PackApart'. -/
def packApartUptoCard : Claim7 := { stood := { row := packApartUptoRow, standIns := [], harness := (true, "ad783aa3f19bafcf4602424d0746c8449288851ef633538ed96bcb3914aed506"), looks := true }, kinds := [], alts := [], laidByText := true, laidKinds := [.data], laidTests := true, laidLooks := .later }
def PackApartUptoCardSaid : Prop := Claim7.holds Tryd.pinned (.plain (OpenSpec.upto packApartSpec)) packApartUptoCard
end Rows
end Go.Proofs.YteloiajocjahmaaDoor
