/-
  DERIVED. GIVEN WITH THE SEED: THE CARDS: each row of YteloiajocjahmaaGreatDoorRows.lean that lists a variable, with what it lists TIED to the program's text (the seventh form; the later family's looks); each row that meets fmt, with fmt's text TOLD by the authors' own Lean function (tested against real Go, not proved from fmt's source: count such statements apart). THE CARD IS WHAT COUNTS. Prove the row's statement (the work); the ties are given (YteloiajocjahmaaGreatDoorTie.lean); close each card by the builder's one call (the guide's Derived/Test/ToyasCard.lean, 'card_holds'). Laid BY PROGRAM, IN A SANDBOX (cutbox-door.mjs). By AI agents, Wed Nov 11 2026. No macro, syntax, notation, axiom, sorry.
-/
import Derived.Test.YteloiajocjahmaaGreatDoorRows
import GoSem.ClaimSeven
namespace Go.Proofs.YteloiajocjahmaaGreatDoor
namespace Rows

/-- THE TIED CARD OF 'leverframelaw12.PackTags'. -/
def packTagsCard : Claim7 := { stood := { row := packTagsRow, standIns := [], harness := (true, "dbd10053225fbe3bd04b5820b23be31e19b668c7d5fd54000281fc966f97a6de"), looks := true }, kinds := [], alts := [], laidByText := true, laidKinds := [.data], laidTests := true, laidLooks := .later }
def PackTagsCardSaid : Prop := Claim7.holds Tryz.pinned (.plain (OpenSpec.ofChange packTagsSpec)) packTagsCard

/-- THE SECOND FORM's CARD OF 'leverframelaw12.PackTags'. -/
def packTagsUptoCard : Claim7 := { stood := { row := packTagsUptoRow, standIns := [], harness := (true, "dbd10053225fbe3bd04b5820b23be31e19b668c7d5fd54000281fc966f97a6de"), looks := true }, kinds := [], alts := [], laidByText := true, laidKinds := [.data], laidTests := true, laidLooks := .later }
def PackTagsUptoCardSaid : Prop := Claim7.holds Tryz.pinned (.plain (OpenSpec.upto packTagsSpec)) packTagsUptoCard
end Rows
end Go.Proofs.YteloiajocjahmaaGreatDoor
