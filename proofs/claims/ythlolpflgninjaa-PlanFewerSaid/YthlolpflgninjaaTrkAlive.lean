/-
  The chapter's sections, and its first examples.
  Conditions: none.
-/
import Derived.Test.YthlolpflgninjaaTrkProg
set_option linter.unusedVariables false
set_option linter.unusedSimpArgs false
set_option maxRecDepth 100000
namespace Go.Proofs.Ythlolpflgninjaa
open Go.RowKit

def sec1 : Sec := (1, 0, [(2, 0), (0, 0)])
def sec2 : Sec := (2, 5, [(1, 0), (3, 0), (3, 1)])
def sec3 : Sec := (3, 0, [(2, 1), (2, 2)])
def secsT : List Sec := [sec1, sec2, sec3]
theorem mayThree : TMay secsT := by
  refine ⟨by decide, fun i h => ?_, fun i j hj hi => ?_, fun i k hi hk => ?_⟩
  · match i, h with
    | 0, _ => exact (show (1 : Int) ≤ sec1.1 ∧ sec1.1 ≤ 99 ∧ shapedB sec1 = true from ⟨by decide, by decide, by decide⟩)
    | 1, _ => exact (show (1 : Int) ≤ sec2.1 ∧ sec2.1 ≤ 99 ∧ shapedB sec2 = true from ⟨by decide, by decide, by decide⟩)
    | 2, _ => exact (show (1 : Int) ≤ sec3.1 ∧ sec3.1 ≤ 99 ∧ shapedB sec3 = true from ⟨by decide, by decide, by decide⟩)
  · match i, j, hj, hi with
    | 1, 0, _, _ => exact (show sec1.1 < sec2.1 ∧ ¬ (sec2.2.1 ≠ 0 ∧ sec1.2.1 = sec2.2.1) from ⟨by decide, by decide⟩)
    | 2, 0, _, _ => exact (show sec1.1 < sec3.1 ∧ ¬ (sec3.2.1 ≠ 0 ∧ sec1.2.1 = sec3.2.1) from ⟨by decide, by decide⟩)
    | 2, 1, _, _ => exact (show sec2.1 < sec3.1 ∧ ¬ (sec3.2.1 ≠ 0 ∧ sec2.2.1 = sec3.2.1) from ⟨by decide, by decide⟩)
  · match i, k, hi, hk with
    | 0, 0, _, _ => exact (show joinedB secsT sec1 0 = true by decide)
    | 0, 1, _, _ => exact (show joinedB secsT sec1 1 = true by decide)
    | 1, 0, _, _ => exact (show joinedB secsT sec2 0 = true by decide)
    | 1, 1, _, _ => exact (show joinedB secsT sec2 1 = true by decide)
    | 1, 2, _, _ => exact (show joinedB secsT sec2 2 = true by decide)
    | 2, 0, _, _ => exact (show joinedB secsT sec3 0 = true by decide)
    | 2, 1, _, _ => exact (show joinedB secsT sec3 1 = true by decide)
theorem chkThree : chkT secsT = 0 := by rw [chkT, mayT_true mayThree]; rfl
theorem findE_of {l : List Sec} {id : Int} (h : TMay l) : findE7 l id = if atS l id < 0 then 6 else 0 := by rw [findE7, mayT_true h]; rfl
theorem next_three (id k : Int) (j : Jn) (h : atS secsT id = 0 ∨ atS secsT id = 1 ∨ atS secsT id = 2) (hk : ¬ (k < 0 ∨ ((secsT.getD (atS secsT id).toNat (0, 0, [])).2.2.length : Int) ≤ k)) (hj : (secsT.getD (atS secsT id).toNat (0, 0, [])).2.2.getD k.toNat (0, 0) = j) :
    nextE7 secsT id k = 0 ∧ nextJ7 secsT id k = j := by
  have hE : findE7 secsT id = 0 := by rw [findE_of mayThree, if_neg (by omega)]
  have hS : findS7 secsT id = secsT.getD (atS secsT id).toNat (0, 0, []) := by rw [findS7, hE, if_pos rfl]
  have hN : nextE7 secsT id k = 0 := by rw [nextE7, hE, if_pos rfl, hS, if_neg hk]
  exact ⟨hN, by rw [nextJ7, hN, if_pos rfl, hS, hj]⟩

/-- A block of joins, or of sections, written down. -/
theorem joins_row {W : World} {b : Nat} {cs : Array Value} {l : List Jn} (h : W.heap[b]? = some (.cells cs 66 (0, 0))) (hl : l.length ≤ 100) (hc : ∀ j (hj : j < l.length), cs[j * 2]? = some (.int .i64 l[j].1) ∧ cs[j * 2 + 1]? = some (.int .i64 l[j].2)) :
    JoinsIn W W.heap.size (.slice (some ⟨b, 0, none⟩) l.length l.length) l :=
  ⟨_, _, rfl, Nat.le_refl _, by unfold maxLen; omega, (fun e => by cases e), fun _ => ⟨b, 0, rfl, heap_lt h, fun j hj => ⟨by show W.cell? ⟨b, 0 + j * 2 + 0, none⟩ = _; rw [cell_of_row _ _ _ _ _ _ h, Nat.zero_add]; exact (hc j hj).1, by show W.cell? ⟨b, 0 + j * 2 + 1, none⟩ = _; rw [cell_of_row _ _ _ _ _ _ h, Nat.zero_add]; exact (hc j hj).2⟩⟩⟩

end Go.Proofs.Ythlolpflgninjaa
