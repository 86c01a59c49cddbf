/-
  The contracts of package track, as a structure: to be proved over the program's own text.
  Conditions: none.
-/
import Derived.Test.YthlolpflgninjaaTrkRefG
set_option linter.unusedVariables false
set_option linter.unusedSimpArgs false
set_option maxRecDepth 100000
namespace Go.Proofs.Ythlolpflgninjaa
open Go.RowKit

/-- What the program's package track answers: to be proved over the program's own text (one instance, 'trkSaid'); the walks of the statements take it. -/
structure TrkSaid : Prop where
  check : ∀ (v : Value) (l : List Sec) (w : World), SectsIn w w.heap.size v l →
    Calls Try.prog 31 #[v] w fun e w' => e = .returned (.int .i64 (chkT l)) ∧ Below w.heap.size w w'
  find : ∀ (v : Value) (l : List Sec) (id : Int) (w : World), SectsIn w w.heap.size v l →
    Calls Try.prog 59 #[v, .int .i64 id] w fun e w' => ∃ u, e = .returned (.tuple #[.agg #[.int .i64 (findS7 l id).1, .int .i64 (findS7 l id).2.1, u], .int .i64 (findE7 l id)]) ∧ JoinsOwn w' w.heap.size u (findS7 l id).2.2 ∧ Below w.heap.size w w'
  next : ∀ (v : Value) (l : List Sec) (id k : Int) (w : World), SectsIn w w.heap.size v l →
    Calls Try.prog 26 #[v, .int .i64 id, .int .i64 k] w fun e w' => e = .returned (.tuple #[.agg #[.int .i64 (nextJ7 l id k).1, .int .i64 (nextJ7 l id k).2], .int .i64 (nextE7 l id k)]) ∧ Below w.heap.size w w'
end Go.Proofs.Ythlolpflgninjaa
