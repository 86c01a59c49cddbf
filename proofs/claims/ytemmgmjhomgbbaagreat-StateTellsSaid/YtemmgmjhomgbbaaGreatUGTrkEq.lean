/-
 The contracts of package track, as a structure: to be proved over the program's own text.
 Conditions: none.
-/
import Derived.Test.YtemmgmjhomgbbaaGreatUGTrkRef
import Derived.Test.YtemmgmjhomgbbaaGreatUGPlnRefB
set_option linter.unusedVariables false
set_option linter.unusedSimpArgs false
set_option maxRecDepth 100000
namespace Go.Proofs.YtemmgmjhomgbbaaGreat
open Go.RowKit
structure TrkSaid:Prop where
 check:∀(v:Value) (l:List Sec) (w:World),zX w w.heap.size v l →
  Calls Tryz.prog 84 #[v] w fun e w'=>e = .returned (.int .i64 (chkT l))∧Below w.heap.size w w'
theorem join_eq (a b c d:Int) (w:World):(Op.equalIn 10000 98 (.agg #[.int .i64 a,.int .i64 b]) (.agg #[.int .i64 c,.int .i64 d])).run Tryz.prog w = .ok ((a==c)&&(b==d)) w:=by
 have hagg:(isAgg 3).run Tryz.prog w = .ok false w:=by
  unfold isAgg
  rw[Sem.run_bind,run_underlying Tryz.underlying3 w]
  simp
 rw[run_equalIn_agg w 9999 98 _ _ (by rw[Program.fieldsOf,Tryz.underlying98]) (by kernel_rfl)]
 simp only[Program.fieldsOf,Tryz.underlying98,Op.eqFields]
 have hi:∀x y:Int,(Op.equalIn 9999 3 (.int .i64 x) (.int .i64 y)).run Tryz.prog w = .ok (x==y) w:=fun x y=>run_equalIn_int w 9998 3 .i64 .i64 x y Tryz.underlying3
 by_cases h1:a=c<;>by_cases h2:b=d<;>simp[part,Sem.run_bind,Sem.run_ite,hagg,hi,h1,h2]
theorem join_ne {a b c d:Int} (h:¬(a=c∧b=d)) (w:World):(Op.equalIn 10000 98 (.agg #[.int .i64 a,.int .i64 b]) (.agg #[.int .i64 c,.int .i64 d])).run Tryz.prog w = .ok false w:=by
 rw[join_eq]
 congr 1
 by_cases h1:a=c
 ·have h2:¬b=d:=fun h2=>h ⟨h1,h2⟩
  simp[h2]
 ·simp[h1]
theorem zDr (a b:Int) (w:World):(Op.equalIn 10000 98 (.agg #[.int .i64 a,.int .i64 b]) (.agg #[.int .i64 a,.int .i64 b])).run Tryz.prog w = .ok true w:=by
 rw[join_eq]
 simp
end Go.Proofs.YtemmgmjhomgbbaaGreat
