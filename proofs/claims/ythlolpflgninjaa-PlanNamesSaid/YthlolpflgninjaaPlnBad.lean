/-
  Three plans that may not be.
  Conditions: none.
-/
import Derived.Test.YthlolpflgninjaaPlnAlive
set_option linter.unusedVariables false
set_option linter.unusedSimpArgs false
set_option maxRecDepth 100000
namespace Go.Proofs.Ythlolpflgninjaa
open Go.RowKit

def planA : Pl := ⟨2, 2, pSecs, [(5, 2)], [(4, 1, 0)], [pR]⟩
def pRB : Rt := ⟨8, 4, 0, [1, 2], [], [], 3⟩
def planB : Pl := ⟨2, 1, pSecs, [(5, 2)], [(4, 1, 0)], [pRB]⟩
def pRC : Rt := ⟨8, 4, 0, [2, 3], [], [], 10⟩
def planC : Pl := ⟨2, 1, pSecs, [(5, 2)], [(4, 1, 0)], [pRC]⟩
theorem chk_A : chk8 planA = 8 := by
  rw [chk8, planMay_false (fun h => absurd (show (2 : Int) < 2 from h.par.2) (by decide))]; rfl
theorem chk_B : chk8 planB = 8 := by
  rw [chk8, planMay_false (fun h => by
    obtain ⟨k, hk, hat, hne⟩ := (h.each 0 (show 0 < 1 by decide)).2.2.entry
    have hk1 : k < 1 := hk
    obtain rfl : k = 0 := by omega
    exact hne 0 (show 0 < 2 by decide) rfl)]; rfl
theorem chk_C : chk8 planC = 8 := by
  rw [chk8, planMay_false (p := planC) (fun h => absurd (show (10 : Int) ≤ 9 from (h.each 0 (show 0 < 1 by decide)).2.2.timer.2) (by decide))]; rfl
end Go.Proofs.Ythlolpflgninjaa
