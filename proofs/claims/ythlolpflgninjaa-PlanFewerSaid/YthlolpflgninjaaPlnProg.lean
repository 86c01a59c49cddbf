/-
  The contracts of package plan, as a structure: to be proved over the program's own text.
  Conditions: none.
-/
import Derived.Test.YthlolpflgninjaaPlnRefH
import Derived.Test.YthlolpflgninjaaPlnRefJ
import Derived.Test.YthlolpflgninjaaPlnRefK
set_option linter.unusedVariables false
set_option linter.unusedSimpArgs false
set_option maxRecDepth 100000
namespace Go.Proofs.Ythlolpflgninjaa
open Go.RowKit

/-- What the program's package plan answers: to be proved over the program's own text; the walks of the statements take it. -/
structure PlanSaid : Prop where
  check : ∀ (v : Value) (p : Pl) (w : World), PlanV w w.heap.size v p →
    Calls Try.prog 12 #[v] w fun e w' => e = .returned (.int .i64 (chk8 p)) ∧ Below w.heap.size w w'
  point : ∀ (v : Value) (p : Pl) (id : Int) (w : World), PlanV w w.heap.size v p →
    Calls Try.prog 15 #[v, .int .i64 id] w fun e w' => e = .returned (.tuple #[.agg #[.int .i64 (elV p kPt p.pts id (0, 0)).1, .int .i64 (elV p kPt p.pts id (0, 0)).2], .int .i64 (elE p kPt p.pts id)]) ∧ Below w.heap.size w w'
  signal : ∀ (v : Value) (p : Pl) (id : Int) (w : World), PlanV w w.heap.size v p →
    Calls Try.prog 17 #[v, .int .i64 id] w fun e w' => e = .returned (.tuple #[.agg #[.int .i64 (elV p kSg p.sigs id (0, 0, 0)).1, .int .i64 (elV p kSg p.sigs id (0, 0, 0)).2.1, .int .i64 (elV p kSg p.sigs id (0, 0, 0)).2.2], .int .i64 (elE p kSg p.sigs id)]) ∧ Below w.heap.size w w'
  route : ∀ (v : Value) (p : Pl) (id : Int) (w : World), PlanV w w.heap.size v p →
    Calls Try.prog 10 #[v, .int .i64 id] w fun e w' => ∃ u3 u4 u5, e = .returned (.tuple #[.agg #[.int .i64 (elV p kRt p.routes id zRt).id, .int .i64 (elV p kRt p.routes id zRt).entry, .int .i64 (elV p kRt p.routes id zRt).exit, u3, u4, u5, .int .i64 (elV p kRt p.routes id zRt).timer], .int .i64 (elE p kRt p.routes id)]) ∧ RtOwn w' w.heap.size u3 u4 u5 (elV p kRt p.routes id zRt) ∧ Below w.heap.size w w'
  stands : ∀ (v : Value) (p : Pl) (sec en : Int) (w : World), PlanV w w.heap.size v p →
    Calls Try.prog 8 #[v, .int .i64 sec, .int .i64 en] w fun e w' => e = .returned (.tuple #[.int .i64 (stN p sec en), .int .i64 (stE p sec en)]) ∧ Below w.heap.size w w'
  same : ∀ (v y : Value) (p q : Pl) (w : World), PlanV w w.heap.size v p → PlanV w w.heap.size y q →
    Calls Try.prog 25 #[v, y] w fun e w' => e = .returned (.bool (eqB p q)) ∧ Below w.heap.size w w'
  twin : ∀ (v : Value) (p : Pl) (w : World), PlanV w w.heap.size v p → FewP p →
    Calls Try.prog 24 #[v] w fun e w' => ∃ u2 u3 u4 u5, e = .returned (.agg #[.int .i64 p.ver, .int .i64 p.par, u2, u3, u4, u5]) ∧ PlOwn w' w.heap.size u2 u3 u4 u5 p ∧ Below w.heap.size w w'
end Go.Proofs.Ythlolpflgninjaa
