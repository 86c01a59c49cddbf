/-
 Tags by two keys are told apart.
 Conditions: none.
-/
import Derived.Test.YteloiajocjahmaaDoorSGPckA
import Derived.Test.YteloiajocjahmaaDoorSGHmacN
set_option linter.unusedVariables false
set_option linter.unusedSimpArgs false
set_option maxRecDepth 100000
namespace Go.Proofs.YteloiajocjahmaaDoor
open Go.RowKit

theorem tags_apart : tagL [108] (textL planOne) ≠ tagL [107] (textL planOne) := by
 rw [text_one]
 decide +kernel
theorem read_other : readE [108] (packL [107] planOne) = 120 := by
 have h := packL_len [107] may_one
 have h0 := (text_len may_one).1
 obtain ⟨h3, h4⟩ := pack_parts (textL planOne) (tagL [107] (textL planOne)) (tagL_length _ _)
 have h3' : (packL [107] planOne).take ((packL [107] planOne).length - 32) = textL planOne := h3
 have h4' : (packL [107] planOne).drop ((packL [107] planOne).length - 32) = tagL [107] (textL planOne) := h4
 rw [readE, if_neg (by simp; omega), if_neg (by omega), h3', h4', if_pos tags_apart]
end Go.Proofs.YteloiajocjahmaaDoor
