/-
 What the rows' condition on the table of constants gives the walks.
 Conditions: none.
-/
import Derived.Test.YteloiajocjahmaaGreatDoorRows
import Derived.Test.YteloiajocjahmaaGreatDoorSGShaA
import Derived.LaidMore
import Derived.Lib.LaidTab
import Derived.OpenShut
import Derived.Stop.Joined
set_option linter.unusedVariables false
set_option linter.unusedSimpArgs false
set_option maxRecDepth 100000
namespace Go.Proofs.YteloiajocjahmaaGreatDoor
open Go.ChangeShapes Go.WideShapes Go.ChangeAt Go.RowKit

def laid1 : List (String × DataW Unit) := [("leverframe/sha.constants", Rows.laid_leverframe_sha_constants)]
theorem gTab : Tryz.prog.globalNamed "leverframe/sha.constants" = some 0 := by kernel_rfl
theorem tTab : (Tryz.prog.globals[0]?).map (·.type) = some 175 := by kernel_rfl
def kkI : List Int := kk.map Int.ofNat
theorem laid_is_tab : laid1 = [("leverframe/sha.constants", Lib.tabData .u32 kkI)] := by kernel_rfl

/-- The door's own heap meets the condition: three closed facts. -/
theorem door_met (os : Os) (args : Array Value) : laidMetH Tryz.prog laid1 ((World.doorLaid Tryz.prog 14 os).forCall (fun _ _ => 0) ⟨#[], args, []⟩).memory :=
 laidMetH_of_parts3 (fuel := 8) (laidMet_of_run' 8 (by kernel_rfl) (by kernel_rfl)) (by kernel_rfl) (by kernel_rfl)

theorem tab_of_laid {W : World} (h : laidMetH Tryz.prog laid1 W) : Tab W := by
 rw [MakeChecks.laidMetH_plain _ _ _ (by kernel_rfl), laid_is_tab] at h
 have hT := Lib.tabIs_of_head gTab tTab Tryz.underlying175 Tryz.underlying123 (by kernel_rfl) (by kernel_rfl) h
 intro i n hi
 have hlt : i < kkI.length := by
  have := (List.getElem?_eq_some_iff.1 hi).1
  simpa [kkI] using this
 rw [hT.cell gTab i hlt]
 simp only [kkI, List.getD_eq_getElem?_getD, List.getElem?_map, hi, Option.map_some, Option.getD_some]
 rfl
end Go.Proofs.YteloiajocjahmaaGreatDoor
