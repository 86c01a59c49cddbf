/-
 Areas: what a route uses, what changes, the area of a change: by membership.
 Conditions: none.
-/
import Derived.Test.YtneeocnjfnneoaaQGDifM
set_option linter.unusedVariables false
set_option linter.unusedSimpArgs false
set_option maxRecDepth 100000
namespace Go.Proofs.Ytneeocnjfnneoaa
open Go.RowKit

/-- An area's four lists. -/
structure Ar where
 secs : List Int
 pts : List Int
 sigs : List Int
 routes : List Int
def hasA (x : Ar) (kind id : Int) : Bool := if kind = 1 then decide (id ∈ x.secs) else if kind = 2 then decide (id ∈ x.pts) else if kind = 3 then decide (id ∈ x.sigs) else if kind = 4 then decide (id ∈ x.routes) else false
/-! ### A plan's elements -/
/-! ### The other way round; a version alone -/
/-! ### A route that uses nothing that changes -/

/-- An area's four lists, as they read. -/
structure ArIn (W : World) (B : Nat) (u0 u1 u2 u3 : Value) (x : Ar) : Prop where
 secs : IntsIn W B u0 x.secs
 pts : IntsIn W B u1 x.pts
 sigs : IntsIn W B u2 x.sigs
 routes : IntsIn W B u3 x.routes
theorem ArIn.below {W W' : World} {B : Nat} {u0 u1 u2 u3 : Value} {x : Ar} (h : ArIn W B u0 u1 u2 u3 x) (hb : Below B W W') : ArIn W' B u0 u1 u2 u3 x := ⟨h.secs.below intR hb, h.pts.below intR hb, h.sigs.below intR hb, h.routes.below intR hb⟩
theorem ArIn.more {W : World} {B B' : Nat} {u0 u1 u2 u3 : Value} {x : Ar} (h : ArIn W B u0 u1 u2 u3 x) (hb : B ≤ B') : ArIn W B' u0 u1 u2 u3 x := ⟨h.secs.more intR hb, h.pts.more intR hb, h.sigs.more intR hb, h.routes.more intR hb⟩
def AreaV (W : World) (B : Nat) (v : Value) (x : Ar) : Prop := ∃ u0 u1 u2 u3, v = .agg #[u0, u1, u2, u3] ∧ ArIn W B u0 u1 u2 u3 x
theorem AreaV.below {W W' : World} {B : Nat} {v : Value} {x : Ar} (h : AreaV W B v x) (hb : Below B W W') : AreaV W' B v x := by
 obtain ⟨u0, u1, u2, u3, rfl, hr⟩ := h
 exact ⟨u0, u1, u2, u3, rfl, hr.below hb⟩
theorem AreaV.more {W : World} {B B' : Nat} {v : Value} {x : Ar} (h : AreaV W B v x) (hb : B ≤ B') : AreaV W B' v x := by
 obtain ⟨u0, u1, u2, u3, rfl, hr⟩ := h
 exact ⟨u0, u1, u2, u3, rfl, hr.more hb⟩
/-- The program's answers: to be proved over the program's own text; the walks of the statements take it. -/
structure AreaSaid : Prop where
 has : ∀ (v : Value) (x : Ar) (kind id : Int) (w : World), AreaV w w.heap.size v x → 0 ≤ kind → kind < 256 →
  Calls Try.prog 5 #[v, .int .u8 kind, .int .i64 id] w fun e w' => e = .returned (.bool (hasA x kind id)) ∧ Below w.heap.size w w'
 same : ∀ (v y : Value) (x z : Ar) (w : World), AreaV w w.heap.size v x → AreaV w w.heap.size y z →
  Calls Try.prog 7 #[v, y] w fun e w' => e = .returned (.bool (eqB x z)) ∧ Below w.heap.size w w'
end Go.Proofs.Ytneeocnjfnneoaa
