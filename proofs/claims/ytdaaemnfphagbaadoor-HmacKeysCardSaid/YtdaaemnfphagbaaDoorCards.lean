/-
  DERIVED. GIVEN WITH THE SEED: THE CARDS: each row of YtdaaemnfphagbaaDoorRows.lean that lists a variable, with what it lists TIED to the program's text (the seventh form; the later family's looks); each row that meets fmt, with fmt's text TOLD by the authors' own Lean function (tested against real Go, not proved from fmt's source: count such statements apart). THE CARD IS WHAT COUNTS. Prove the row's statement (the work); the ties are given (YtdaaemnfphagbaaDoorTie.lean); close each card by the builder's one call (the guide's Derived/Test/ToyasCard.lean, 'card_holds'). Laid BY PROGRAM, IN A SANDBOX (cutbox-door.mjs). By AI agents, Wed Nov 11 2026. No macro, syntax, notation, axiom, sorry.
-/
import Derived.Test.YtdaaemnfphagbaaDoorRows
import GoSem.ClaimSeven
namespace Go.Proofs.YtdaaemnfphagbaaDoor
namespace Rows

/-- THE TIED CARD OF 'leverframelaw04.HmacNames'. -/
def hmacNamesCard : Claim7 := { stood := { row := hmacNamesRow, standIns := [], harness := (true, "ea3490ee36dfcf7a4855fa6c80d6f02c00579ded87444b0f39912aaaee46516e"), looks := false }, kinds := [], alts := [], laidByText := true, laidKinds := [.data], laidTests := true, laidLooks := .later }
def HmacNamesCardSaid : Prop := Claim7.holds Tryd.pinned (.plain (OpenSpec.ofChange hmacNamesSpec)) hmacNamesCard

/-- THE TIED CARD OF 'leverframelaw04.HmacTells'. -/
def hmacTellsCard : Claim7 := { stood := { row := hmacTellsRow, standIns := [], harness := (true, "ea3490ee36dfcf7a4855fa6c80d6f02c00579ded87444b0f39912aaaee46516e"), looks := false }, kinds := [], alts := [], laidByText := true, laidKinds := [.data], laidTests := true, laidLooks := .later }
def HmacTellsCardSaid : Prop := Claim7.holds Tryd.pinned (.plain (OpenSpec.ofChange hmacTellsSpec)) hmacTellsCard

/-- THE TIED CARD OF 'leverframelaw04.HmacNested'. -/
def hmacNestedCard : Claim7 := { stood := { row := hmacNestedRow, standIns := [], harness := (true, "ea3490ee36dfcf7a4855fa6c80d6f02c00579ded87444b0f39912aaaee46516e"), looks := false }, kinds := [], alts := [], laidByText := true, laidKinds := [.data], laidTests := true, laidLooks := .later }
def HmacNestedCardSaid : Prop := Claim7.holds Tryd.pinned (.plain (OpenSpec.ofChange hmacNestedSpec)) hmacNestedCard

/-- THE TIED CARD OF 'leverframelaw04.HmacKeys'. -/
def hmacKeysCard : Claim7 := { stood := { row := hmacKeysRow, standIns := [], harness := (true, "ea3490ee36dfcf7a4855fa6c80d6f02c00579ded87444b0f39912aaaee46516e"), looks := false }, kinds := [], alts := [], laidByText := true, laidKinds := [.data], laidTests := true, laidLooks := .later }
def HmacKeysCardSaid : Prop := Claim7.holds Tryd.pinned (.plain (OpenSpec.ofChange hmacKeysSpec)) hmacKeysCard

/-- THE TIED CARD OF 'leverframelaw04.HmacSame'. -/
def hmacSameCard : Claim7 := { stood := { row := hmacSameRow, standIns := [], harness := (true, "ea3490ee36dfcf7a4855fa6c80d6f02c00579ded87444b0f39912aaaee46516e"), looks := false }, kinds := [], alts := [], laidByText := true, laidKinds := [.data], laidTests := true, laidLooks := .later }
def HmacSameCardSaid : Prop := Claim7.holds Tryd.pinned (.plain (OpenSpec.ofChange hmacSameSpec)) hmacSameCard

/-- THE SECOND FORM's CARD OF 'leverframelaw04.HmacNames'. -/
def hmacNamesUptoCard : Claim7 := { stood := { row := hmacNamesUptoRow, standIns := [], harness := (true, "ea3490ee36dfcf7a4855fa6c80d6f02c00579ded87444b0f39912aaaee46516e"), looks := false }, kinds := [], alts := [], laidByText := true, laidKinds := [.data], laidTests := true, laidLooks := .later }
def HmacNamesUptoCardSaid : Prop := Claim7.holds Tryd.pinned (.plain (OpenSpec.upto hmacNamesSpec)) hmacNamesUptoCard

/-- THE SECOND FORM's CARD OF 'leverframelaw04.HmacTells'. -/
def hmacTellsUptoCard : Claim7 := { stood := { row := hmacTellsUptoRow, standIns := [], harness := (true, "ea3490ee36dfcf7a4855fa6c80d6f02c00579ded87444b0f39912aaaee46516e"), looks := false }, kinds := [], alts := [], laidByText := true, laidKinds := [.data], laidTests := true, laidLooks := .later }
def HmacTellsUptoCardSaid : Prop := Claim7.holds Tryd.pinned (.plain (OpenSpec.upto hmacTellsSpec)) hmacTellsUptoCard

/-- THE SECOND FORM's CARD OF 'leverframelaw04.HmacNested'. -/
def hmacNestedUptoCard : Claim7 := { stood := { row := hmacNestedUptoRow, standIns := [], harness := (true, "ea3490ee36dfcf7a4855fa6c80d6f02c00579ded87444b0f39912aaaee46516e"), looks := false }, kinds := [], alts := [], laidByText := true, laidKinds := [.data], laidTests := true, laidLooks := .later }
def HmacNestedUptoCardSaid : Prop := Claim7.holds Tryd.pinned (.plain (OpenSpec.upto hmacNestedSpec)) hmacNestedUptoCard

/-- THE SECOND FORM's CARD OF 'leverframelaw04.HmacKeys'. -/
def hmacKeysUptoCard : Claim7 := { stood := { row := hmacKeysUptoRow, standIns := [], harness := (true, "ea3490ee36dfcf7a4855fa6c80d6f02c00579ded87444b0f39912aaaee46516e"), looks := false }, kinds := [], alts := [], laidByText := true, laidKinds := [.data], laidTests := true, laidLooks := .later }
def HmacKeysUptoCardSaid : Prop := Claim7.holds Tryd.pinned (.plain (OpenSpec.upto hmacKeysSpec)) hmacKeysUptoCard

/-- THE SECOND FORM's CARD OF 'leverframelaw04.HmacSame'. -/
def hmacSameUptoCard : Claim7 := { stood := { row := hmacSameUptoRow, standIns := [], harness := (true, "ea3490ee36dfcf7a4855fa6c80d6f02c00579ded87444b0f39912aaaee46516e"), looks := false }, kinds := [], alts := [], laidByText := true, laidKinds := [.data], laidTests := true, laidLooks := .later }
def HmacSameUptoCardSaid : Prop := Claim7.holds Tryd.pinned (.plain (OpenSpec.upto hmacSameSpec)) hmacSameUptoCard
end Rows
end Go.Proofs.YtdaaemnfphagbaaDoor
