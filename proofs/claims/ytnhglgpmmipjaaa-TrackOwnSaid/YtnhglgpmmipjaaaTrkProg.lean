/-
  The contracts of package track, as a structure: to be proved over the program's own text.
  Conditions: none.
-/
import Derived.Test.YtnhglgpmmipjaaaTrkRefG
set_option linter.unusedVariables false
set_option linter.unusedSimpArgs false
set_option maxRecDepth 100000
namespace Go.Proofs.Ytnhglgpmmipjaaa
open Go.RowKit

/-- What the program's package track answers: to be proved over the program's own text (one instance, 'trkSaid'); the walks of the statements take it. -/
structure TrkSaid : Prop where
  check : ∀ (v : Value) (l : List Sec) (w : World), SectsIn w w.heap.size v l →
    Calls Try.prog 20 #[v] w fun e w' => e = .returned (.int .i64 (chkT l)) ∧ Below w.heap.size w w'
  find : ∀ (v : Value) (l : List Sec) (id : Int) (w : World), SectsIn w w.heap.size v l →
    Calls Try.prog 17 #[v, .int .i64 id] w fun e w' => ∃ u, e = .returned (.tuple #[.agg #[.int .i64 (findS7 l id).1, .int .i64 (findS7 l id).2.1, u], .int .i64 (findE7 l id)]) ∧ JoinsOwn w' w.heap.size u (findS7 l id).2.2 ∧ Below w.heap.size w w'
  next : ∀ (v : Value) (l : List Sec) (id k : Int) (w : World), SectsIn w w.heap.size v l →
    Calls Try.prog 11 #[v, .int .i64 id, .int .i64 k] w fun e w' => e = .returned (.tuple #[.agg #[.int .i64 (nextJ7 l id k).1, .int .i64 (nextJ7 l id k).2], .int .i64 (nextE7 l id k)]) ∧ Below w.heap.size w w'
  through : ∀ (v : Value) (s : Sec) (a b : Int) (w : World), SecV w w.heap.size v s →
    Calls Try.prog 12 #[v, .int .i64 a, .int .i64 b] w fun e w' => e = .returned (.tuple #[.int .i64 (thrL s a b), .int .i64 (thrE s a b)]) ∧ Below w.heap.size w w'
  out : ∀ (v : Value) (s : Sec) (a lie : Int) (w : World), SecV w w.heap.size v s →
    Calls Try.prog 13 #[v, .int .i64 a, .int .i64 lie] w fun e w' => e = .returned (.tuple #[.int .i64 (outV s a lie), .int .i64 (outE s a lie)]) ∧ Below w.heap.size w w'
end Go.Proofs.Ytnhglgpmmipjaaa
