/-
 What the program's package sound answers: its contracts, of whatever text it has.
 Conditions: none.
-/
import Derived.Test.YtemmgmjhomgbbaaGreatUSndM
set_option linter.unusedVariables false
set_option linter.unusedSimpArgs false
set_option maxRecDepth 100000
namespace Go.Proofs.YtemmgmjhomgbbaaGreat
open Go.RowKit
structure zBy:Prop where
 check:∀(v:Value) (p:Pl) (w:World),qF w w.heap.size v p →
  Calls Tryz.prog 22 #[v] w fun e w'=>e = .returned (.int .i64 (sndE p))∧Below w.heap.size w w'
end Go.Proofs.YtemmgmjhomgbbaaGreat
