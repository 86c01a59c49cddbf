/-
  The document's own functions Through and Out of package track.
  Conditions: none.
-/
import Derived.Test.YthlolpflgninjaaTrkRefD
set_option linter.unusedVariables false
set_option linter.unusedSimpArgs false
set_option maxRecDepth 100000
namespace Go.Proofs.Ythlolpflgninjaa
open Go.RowKit

def thrE (s : Sec) (a b : Int) : Int := if shapedB s then (if lieS s.2.1 a b < 0 then 2 else 0) else 8
def thrL (s : Sec) (a b : Int) : Int := if thrE s a b = 0 then lieS s.2.1 a b else 0
/-- The first end to which a way leads, whose lie is that one. -/
def outT (s : Sec) (a lie : Int) : Option Nat := (List.range s.2.2.length).find? fun t => decide (lieS s.2.1 a (t : Int) = lie)
def outE (s : Sec) (a lie : Int) : Int := if shapedB s then (if lie < 0 then 2 else match outT s a lie with | none => 2 | some _ => 0) else 8
def outV (s : Sec) (a lie : Int) : Int := if outE s a lie = 0 then (match outT s a lie with | none => 0 | some t => (t : Int)) else 0
theorem outT_none {s : Sec} {a lie : Int} (h : ∀ t, t < s.2.2.length → lieS s.2.1 a (t : Int) ≠ lie) : outT s a lie = none := by
  rw [outT, List.find?_eq_none]
  intro t ht
  simpa using h t (List.mem_range.1 ht)
theorem outT_some {s : Sec} {a lie : Int} {t : Nat} (ht : t < s.2.2.length) (he : lieS s.2.1 a (t : Int) = lie) (h : ∀ j, j < t → lieS s.2.1 a (j : Int) ≠ lie) : outT s a lie = some t := by
  rw [outT]
  have hr : List.range s.2.2.length = List.range t ++ t :: (List.range' (t + 1) (s.2.2.length - t - 1)) := by
    rw [List.range_eq_range', List.range_eq_range', show s.2.2.length = t + (1 + (s.2.2.length - t - 1)) from by omega, ← List.range'_append_1, Nat.zero_add, Nat.add_comm 1, List.range'_succ]
    congr 3
    omega
  rw [hr, List.find?_append, List.find?_eq_none.2 (fun x hx => by simpa using h x (List.mem_range.1 hx)), Option.none_or, List.find?_cons_of_pos (by simpa using he)]

end Go.Proofs.Ythlolpflgninjaa
