/-
 The document's own functions of package way: asked, Outs.
 Conditions: none.
-/
import Derived.Test.YtemmgmjhomgbbaaGreatUWayRefC
set_option linter.unusedVariables false
set_option linter.unusedSimpArgs false
set_option maxRecDepth 100000
namespace Go.Proofs.YtemmgmjhomgbbaaGreat
open Go.RowKit
theorem rends_one (v y:Value) (p:Pl) (r:Rt) (w:World) (h:qF w w.heap.size v p) (h':vS w w.heap.size y r) (hr:qW p r):
  Calls Tryz.prog 65 #[v,y] w fun e w'=>Below w.heap.size w w'∧∃u z,e = .returned (.tuple #[u,z,.bool (zA8 p r)])∧(zA8 p r=true→jM w' w.heap.size u (insL p r (zS r).length) z (zA6 p r (zS r).length)):=
 (rends_any v y p r w h h' hr).mono fun e w' ⟨b,hh⟩=>⟨b,by
  rcases hh with⟨hg,u,z,e1,ht⟩|⟨hg,e1⟩
  ·exact⟨u,z,by rw[yY hg];exact e1,fun _=>ht⟩
  ·exact⟨_,_,by rw[hangsB_false hg];exact e1,fun h=>by rw[hangsB_false hg] at h;cases h⟩⟩
theorem outsL_at (p:Pl) (r:Rt) {n a:Nat} (h:a<n):(zA6 p r n)[a]'(by rw[kM];exact h)=vQ p r a:=by simp[zA6]
end Go.Proofs.YtemmgmjhomgbbaaGreat
