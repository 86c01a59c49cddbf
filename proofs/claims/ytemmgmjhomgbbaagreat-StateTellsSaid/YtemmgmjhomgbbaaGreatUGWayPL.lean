/-
 The program's package way: followed, Of, Outs.
 Conditions: none.
-/
import Derived.Test.YtemmgmjhomgbbaaGreatUWayPK
import Derived.Test.YtemmgmjhomgbbaaGreatUGWayRefF
import Derived.Test.YtemmgmjhomgbbaaGreatUPlnP4
set_option linter.unusedVariables false
set_option linter.unusedSimpArgs false
set_option maxRecDepth 100000
namespace Go.Proofs.YtemmgmjhomgbbaaGreat
open Go.RowKit
def FwdP (w:World) (p:Pl) (id:Int) (e:Ending) (w':World):Prop:=
 ∃(F:Nat→Value) (a b:Int) (h2:Value) (t0 t1:Int) (y0 y1 y2:Value) (o:Value),e = .returned (.tuple #[.agg (wkRow F a b h2 t0 t1 y0 y1 y2 (wayV p id).near o),.int .i64 (wayE p id)])∧(wkRow F a b h2 t0 t1 y0 y1 y2 (wayV p id).near o).all (·.oneCell')=true ∧
  kG w' w.heap.size y0 y1 y2 (wayV p id)∧kC w' w.heap.size o (leftV p id)∧Below w.heap.size w w'
theorem FwdP.zero {w w':World} {p:Pl} {id E:Int} (hE:wayE p id=E) (h0:E≠0) {e:Ending} (he:e = .returned (.tuple #[.agg #[.int .i64 0,.int .i64 0,.slice none 0 0,.slice none 0 0,.slice none 0 0,.slice none 0 0,.int .i64 0,.int .i64 0,.int .i64 0,.slice none 0 0,.slice none 0 0,.slice none 0 0,.int .i64 0,.slice none 0 0,.int .i64 0,.int .i64 0,.slice none 0 0,.int .i64 0,.int .i64 0,.slice none 0 0,.slice none 0 0,.slice none 0 0,.int .i64 0,.slice none 0 0],.int .i64 E])) (hb:Below w.heap.size w w'):FwdP w p id e w':=by
 have hv:wayV p id=zWy:=by rw[wayV,if_neg (by omega)]
 have hl:leftV p id=[]:=by rw[leftV,if_neg (by omega)]
 refine⟨zF,0,0,.slice none 0 0,0,0,.slice none 0 0,.slice none 0 0,.slice none 0 0,.slice none 0 0,?_,?_,?_,?_,hb⟩
 ·rw[he,hv,hE];rfl
 ·exact wk_one zF_one 0 0 0 0 _ rfl rfl rfl rfl rfl
 ·rw[hv];exact wyOwn_zero _ _
 ·rw[hl];exact zJ.nil_
end Go.Proofs.YtemmgmjhomgbbaaGreat
