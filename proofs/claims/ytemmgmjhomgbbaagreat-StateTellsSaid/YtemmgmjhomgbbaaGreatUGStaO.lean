/-
 States: one route set where all else is at rest; states with another part, one more, one fewer.
 Conditions: none.
-/
import Derived.Test.YtemmgmjhomgbbaaGreatUGStaM
import Derived.Test.YtemmgmjhomgbbaaGreatUGWayAsM
set_option linter.unusedVariables false
set_option linter.unusedSimpArgs false
set_option maxRecDepth 100000
namespace Go.Proofs.YtemmgmjhomgbbaaGreat
open Go.RowKit
theorem zBh {α:Type} {k:α→Int} {l:List α} {id:Int} (h:0≤at1 k l id):id∈l.map k:=by
 rcases vF k l id with⟨h1,-⟩|⟨j,hj,h1,h2,-⟩
 ·omega
 ·exact List.mem_map.2 ⟨_,List.getElem_mem hj,h2⟩
theorem zCk {α:Type} {k:α→Int} {l:List α} {id:Int} (h:id∈l.map k):∃j,∃hj:j<l.length,at1 k l id=(j:Int)∧k l[j]=id:=by
 rcases vF k l id with⟨-,h2⟩|⟨j,hj,h1,h2,-⟩
 ·obtain⟨x,hx,e⟩:=List.mem_map.1 h
  obtain⟨j,hj,rfl⟩:=List.getElem_of_mem hx
  exact absurd e (h2 j hj)
 ·exact⟨j,hj,h1,h2⟩
theorem ask_in {p:Pl} {r:Rt} (hr:qW p r) (hh:kK p r) {a:Ak} (ha:a∈(kH p r).asks):a.1∈p.pts.map (fun x:Jn=>x.1)∧1≤a.2.1∧a.2.1≤2:=by
 rcases List.mem_append.1 ha with ha|ha
 ·obtain⟨i,hi,rfl⟩:=List.getElem_of_mem ha
  obtain⟨n,hn,-,h0,h1,h2,h3,-⟩:=asks_at hr _ (Nat.le_refl _) hh i hi
  refine⟨?_,h2,h3⟩
  have hs:=(hr.route.secs n hn).1
  have e:(zS r).getD n 0=(r.path++r.over)[n]'hn:=by
   rw[List.getD,List.getElem?_eq_getElem (show n<(zS r).length from hn),Option.getD_some]
   rfl
  rw[←e] at hs
  rcases vF (fun s:Sec=>s.1) p.secs ((zS r).getD n 0) with⟨g1,-⟩|⟨k,hk,g1,-⟩
  ·have:atS p.secs ((zS r).getD n 0) = -1:=g1
   omega
  ·have g2:atS p.secs ((zS r).getD n 0)=(k:Int):=g1
   rw[secN_at hk g2] at h1
   rw[h1] at h0⊢
   obtain⟨j,hj,hat,-⟩:=((pts_iff hr.plan.secs).1 hr.plan.pts).each k hk h0
   exact zBh (by rw[hat];omega)
 ·obtain⟨f,hf,rfl⟩:=List.mem_map.1 ha
  obtain⟨j,hj,rfl⟩:=List.getElem_of_mem hf
  have h1:=hr.route.flanks j hj
  exact⟨zBh h1.1,h1.2.2.1,h1.2.2.2⟩
theorem pts_rise15 {p:Pl} (h:xU p):∀(i j:Nat) (hj:j<i) (hi:i<p.pts.length),(p.pts[j]'(by omega)).1<p.pts[i].1:=fun i j hj hi=>by
 obtain⟨d,rfl⟩:∃d,i=j+d+1:=⟨i-j-1,by omega⟩
 induction d with
 | zero=>exact(h.pts.each (j+0+1) hi).2.2.1 j rfl
 | succ d ih=>exact Int.lt_trans (ih (by omega) (by omega)) ((h.pts.each (j+(d+1)+1) hi).2.2.1 (j+d+1) (by omega))
end Go.Proofs.YtemmgmjhomgbbaaGreat
