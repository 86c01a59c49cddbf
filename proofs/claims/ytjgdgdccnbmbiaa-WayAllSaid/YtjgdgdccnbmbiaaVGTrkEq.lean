/-
  The contracts of package track, as a structure: to be proved over the program's own text.
  Conditions: none.
-/
import Derived.Test.YtjgdgdccnbmbiaaVGTrkRef
import Derived.Test.YtjgdgdccnbmbiaaVGPlnRefB
set_option linter.unusedVariables false
set_option linter.unusedSimpArgs false
set_option maxRecDepth 100000
namespace Go.Proofs.Ytjgdgdccnbmbiaa
open Go.RowKit

/-- What the program's package track answers: to be proved over the program's own text (one instance, 'trkSaid'); the walks of the statements take it. -/
structure TrkSaid : Prop where
  check : ∀ (v : Value) (l : List Sec) (w : World), SectsIn w w.heap.size v l →
    Calls Try.prog 51 #[v] w fun e w' => e = .returned (.int .i64 (chkT l)) ∧ Below w.heap.size w w'
  find : ∀ (v : Value) (l : List Sec) (id : Int) (w : World), SectsIn w w.heap.size v l →
    Calls Try.prog 26 #[v, .int .i64 id] w fun e w' => ∃ u, e = .returned (.tuple #[.agg #[.int .i64 (findS7 l id).1, .int .i64 (findS7 l id).2.1, u], .int .i64 (findE7 l id)]) ∧ JoinsOwn w' w.heap.size u (findS7 l id).2.2 ∧ Below w.heap.size w w'
  next : ∀ (v : Value) (l : List Sec) (id k : Int) (w : World), SectsIn w w.heap.size v l →
    Calls Try.prog 25 #[v, .int .i64 id, .int .i64 k] w fun e w' => e = .returned (.tuple #[.agg #[.int .i64 (nextJ7 l id k).1, .int .i64 (nextJ7 l id k).2], .int .i64 (nextE7 l id k)]) ∧ Below w.heap.size w w'
  through : ∀ (v : Value) (s : Sec) (a b : Int) (w : World), SecV w w.heap.size v s →
    Calls Try.prog 116 #[v, .int .i64 a, .int .i64 b] w fun e w' => e = .returned (.tuple #[.int .i64 (thrL s a b), .int .i64 (thrE s a b)]) ∧ Below w.heap.size w w'
  out : ∀ (v : Value) (s : Sec) (a lie : Int) (w : World), SecV w w.heap.size v s →
    Calls Try.prog 28 #[v, .int .i64 a, .int .i64 lie] w fun e w' => e = .returned (.tuple #[.int .i64 (outV s a lie), .int .i64 (outE s a lie)]) ∧ Below w.heap.size w w'
end Go.Proofs.Ytjgdgdccnbmbiaa

/-
  Two joins, as the language compares them.
  Conditions: none.
-/
set_option linter.unusedVariables false
set_option linter.unusedSimpArgs false
set_option maxRecDepth 100000
namespace Go.Proofs.Ytjgdgdccnbmbiaa
open Go.RowKit

theorem join_eq (a b c d : Int) (w : World) : (Op.equalIn 10000 41 (.agg #[.int .i64 a, .int .i64 b]) (.agg #[.int .i64 c, .int .i64 d])).run Try.prog w = .ok ((a == c) && (b == d)) w := by
  have hagg : (isAgg 3).run Try.prog w = .ok false w := by
    unfold isAgg
    rw [Sem.run_bind, run_underlying Try.underlying3 w]
    simp
  rw [run_equalIn_agg w 9999 41 _ _ (by rw [Program.fieldsOf, Try.underlying41]) (by kernel_rfl)]
  simp only [Program.fieldsOf, Try.underlying41, Op.eqFields]
  have hi : ∀ x y : Int, (Op.equalIn 9999 3 (.int .i64 x) (.int .i64 y)).run Try.prog w = .ok (x == y) w := fun x y => run_equalIn_int w 9998 3 .i64 .i64 x y Try.underlying3
  by_cases h1 : a = c <;> by_cases h2 : b = d <;> simp [part, Sem.run_bind, Sem.run_ite, hagg, hi, h1, h2]
theorem join_ne {a b c d : Int} (h : ¬ (a = c ∧ b = d)) (w : World) : (Op.equalIn 10000 41 (.agg #[.int .i64 a, .int .i64 b]) (.agg #[.int .i64 c, .int .i64 d])).run Try.prog w = .ok false w := by
  rw [join_eq]
  congr 1
  by_cases h1 : a = c
  · have h2 : ¬ b = d := fun h2 => h ⟨h1, h2⟩
    simp [h2]
  · simp [h1]
theorem join_self (a b : Int) (w : World) : (Op.equalIn 10000 41 (.agg #[.int .i64 a, .int .i64 b]) (.agg #[.int .i64 a, .int .i64 b])).run Try.prog w = .ok true w := by
  rw [join_eq]
  simp
end Go.Proofs.Ytjgdgdccnbmbiaa
