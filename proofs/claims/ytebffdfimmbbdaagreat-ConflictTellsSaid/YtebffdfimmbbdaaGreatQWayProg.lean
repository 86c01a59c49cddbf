/-
 What the program's package way answers: its contracts, of whatever text it has (All is not among them yet).
 Conditions: none.
-/
import Derived.Test.YtebffdfimmbbdaaGreatQGWayRefF
import Derived.Test.YtebffdfimmbbdaaGreatQGWayM
import Derived.BigQuiet
set_option linter.unusedVariables false
namespace Go.Proofs.YtebffdfimmbbdaaGreat
open Go.RowKit

structure WaySaid : Prop where
 of : ∀ (v : Value) (p : Pl) (id : Int) (w : World), PlanV w w.heap.size v p →
  Calls Tryz.prog 15 #[v, .int .i64 id] w fun e w' => ∃ u0 u1 u2, e = .returned (.tuple #[.agg #[u0, u1, u2, .int .i64 (wayV p id).near], .int .i64 (wayE p id)]) ∧ WyOwn w' w.heap.size u0 u1 u2 (wayV p id) ∧ Below w.heap.size w w'
theorem leftL_small {p : Pl} {id : Int} (h : wayE p id = 0) : (leftV p id).length ≤ 8 := by
 obtain ⟨hm, ha, hg⟩ := wayE_zero h
 rcases at1_cases kRt p.routes id with h1 | ⟨k, hk, h1, -⟩
 ·omega
 ·have hr := routeIn_of (planMay_iff.1 hm) hk rfl
  rw [leftV, if_pos h, routeN_at hk h1]
  exact Nat.le_trans (leftL_len _ _ _) hr.len.2.1
theorem left_any (p : Pl) (id : Int) : (leftV p id).length ≤ 8 := by
 by_cases h : wayE p id = 0
 ·exact leftL_small h
 ·rw [leftV, if_neg h]; simp
theorem wayE_cases (p : Pl) (id : Int) : wayE p id = 0 ∨ wayE p id = 6 ∨ wayE p id = 8 ∨ wayE p id = 90 := by
 rw [wayE]
 split
 ·split
  ·exact .inr (.inl rfl)
  ·split
   ·exact .inl rfl
   ·exact .inr (.inr (.inr rfl))
 ·exact .inr (.inr (.inl rfl))
end Go.Proofs.YtebffdfimmbbdaaGreat
