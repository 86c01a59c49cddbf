/-
  DERIVED. GIVEN WITH THE SEED: THE CARDS: each row of YteaoeahpmpfgcaaDoorRows.lean that lists a variable, with what it lists TIED to the program's text (the seventh form; the later family's looks); each row that meets fmt, with fmt's text TOLD by the authors' own Lean function (tested against real Go, not proved from fmt's source: count such statements apart). THE CARD IS WHAT COUNTS. Prove the row's statement (the work); the ties are given (YteaoeahpmpfgcaaDoorTie.lean); close each card by the builder's one call (the guide's Derived/Test/ToyasCard.lean, 'card_holds'). Laid BY PROGRAM, IN A SANDBOX (cutbox-door.mjs). By AI agents, Wed Nov 11 2026. No macro, syntax, notation, axiom, sorry.
-/
import Derived.Test.YteaoeahpmpfgcaaDoorRows
import GoSem.ClaimSeven
namespace Go.Proofs.YteaoeahpmpfgcaaDoor
namespace Rows

/-- THE TIED CARD OF 'leverframelaw03.ShaNames'. -/
def shaNamesCard : Claim7 := { stood := { row := shaNamesRow, standIns := [], harness := (true, "7cc537b919a3b72258711a9f98c727a069c900a9f79b8f705d8af77f4a86918b"), looks := false }, kinds := [], alts := [], laidByText := true, laidKinds := [.data], laidTests := true, laidLooks := .later }
def ShaNamesCardSaid : Prop := Claim7.holds Tryd.pinned (.plain (OpenSpec.ofChange shaNamesSpec)) shaNamesCard

/-- THE TIED CARD OF 'leverframelaw03.ShaTells'. -/
def shaTellsCard : Claim7 := { stood := { row := shaTellsRow, standIns := [], harness := (true, "7cc537b919a3b72258711a9f98c727a069c900a9f79b8f705d8af77f4a86918b"), looks := false }, kinds := [], alts := [], laidByText := true, laidKinds := [.data], laidTests := true, laidLooks := .later }
def ShaTellsCardSaid : Prop := Claim7.holds Tryd.pinned (.plain (OpenSpec.ofChange shaTellsSpec)) shaTellsCard

/-- THE TIED CARD OF 'leverframelaw03.ShaBlocks'. -/
def shaBlocksCard : Claim7 := { stood := { row := shaBlocksRow, standIns := [], harness := (true, "7cc537b919a3b72258711a9f98c727a069c900a9f79b8f705d8af77f4a86918b"), looks := false }, kinds := [], alts := [], laidByText := true, laidKinds := [.data], laidTests := true, laidLooks := .later }
def ShaBlocksCardSaid : Prop := Claim7.holds Tryd.pinned (.plain (OpenSpec.ofChange shaBlocksSpec)) shaBlocksCard

/-- THE TIED CARD OF 'leverframelaw03.ShaFilled'. -/
def shaFilledCard : Claim7 := { stood := { row := shaFilledRow, standIns := [], harness := (true, "7cc537b919a3b72258711a9f98c727a069c900a9f79b8f705d8af77f4a86918b"), looks := false }, kinds := [], alts := [], laidByText := true, laidKinds := [.data], laidTests := true, laidLooks := .later }
def ShaFilledCardSaid : Prop := Claim7.holds Tryd.pinned (.plain (OpenSpec.ofChange shaFilledSpec)) shaFilledCard

/-- THE SECOND FORM's CARD OF 'leverframelaw03.ShaNames'. -/
def shaNamesUptoCard : Claim7 := { stood := { row := shaNamesUptoRow, standIns := [], harness := (true, "7cc537b919a3b72258711a9f98c727a069c900a9f79b8f705d8af77f4a86918b"), looks := false }, kinds := [], alts := [], laidByText := true, laidKinds := [.data], laidTests := true, laidLooks := .later }
def ShaNamesUptoCardSaid : Prop := Claim7.holds Tryd.pinned (.plain (OpenSpec.upto shaNamesSpec)) shaNamesUptoCard

/-- THE SECOND FORM's CARD OF 'leverframelaw03.ShaTells'. -/
def shaTellsUptoCard : Claim7 := { stood := { row := shaTellsUptoRow, standIns := [], harness := (true, "7cc537b919a3b72258711a9f98c727a069c900a9f79b8f705d8af77f4a86918b"), looks := false }, kinds := [], alts := [], laidByText := true, laidKinds := [.data], laidTests := true, laidLooks := .later }
def ShaTellsUptoCardSaid : Prop := Claim7.holds Tryd.pinned (.plain (OpenSpec.upto shaTellsSpec)) shaTellsUptoCard

/-- THE SECOND FORM's CARD OF 'leverframelaw03.ShaBlocks'. -/
def shaBlocksUptoCard : Claim7 := { stood := { row := shaBlocksUptoRow, standIns := [], harness := (true, "7cc537b919a3b72258711a9f98c727a069c900a9f79b8f705d8af77f4a86918b"), looks := false }, kinds := [], alts := [], laidByText := true, laidKinds := [.data], laidTests := true, laidLooks := .later }
def ShaBlocksUptoCardSaid : Prop := Claim7.holds Tryd.pinned (.plain (OpenSpec.upto shaBlocksSpec)) shaBlocksUptoCard

/-- THE SECOND FORM's CARD OF 'leverframelaw03.ShaFilled'. -/
def shaFilledUptoCard : Claim7 := { stood := { row := shaFilledUptoRow, standIns := [], harness := (true, "7cc537b919a3b72258711a9f98c727a069c900a9f79b8f705d8af77f4a86918b"), looks := false }, kinds := [], alts := [], laidByText := true, laidKinds := [.data], laidTests := true, laidLooks := .later }
def ShaFilledUptoCardSaid : Prop := Claim7.holds Tryd.pinned (.plain (OpenSpec.upto shaFilledSpec)) shaFilledUptoCard
end Rows
end Go.Proofs.YteaoeahpmpfgcaaDoor
