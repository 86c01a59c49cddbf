/-
 Lists turned one element after the other; calls laid one by one; elements of a state of one's own set.
 Conditions: none.
-/
import Derived.Test.YtemmgmjhomgbbaaGreatUGStaMem
import Derived.Test.YtemmgmjhomgbbaaGreatUGStaO
import Derived.Test.YtemmgmjhomgbbaaGreatUGWayM
set_option linter.unusedVariables false
set_option linter.unusedSimpArgs false
set_option maxRecDepth 100000
namespace Go.Proofs.YtemmgmjhomgbbaaGreat
open Go.RowKit
def jC {α:Type} (l m:List α) (i:Nat):List α:=m.take i++l.drop i
theorem zBf {α:Type} (l m:List α):jC l m 0=l:=by simp[jC]
theorem zCi {α:Type} {l m:List α} (h:l.length=m.length) {i:Nat} (hi:i=m.length):jC l m i=m:=by subst hi;rw[jC,List.take_length,←h,List.drop_length,List.append_nil]
theorem zBl {α:Type} {l m:List α} (h:l.length=m.length) {i:Nat} (hi:i≤m.length):(jC l m i).length=m.length:=by simp[jC];omega
theorem zAe {α:Type} {l m:List α} (h:l.length=m.length) {i:Nat} (hi:i<m.length):(jC l m i)[i]'(by rw[zBl h (by omega)];exact hi)=l[i]'(by omega):=by
 unfold jC
 rw[List.getElem_append_right (by simp;omega)]
 simp only[List.getElem_drop]
 congr 1
 simp only[List.length_take]
 omega
theorem zAj {α:Type} {l m:List α} (h:l.length=m.length) {i:Nat} (hi:i<m.length):(jC l m i).set i m[i]=jC l m (i+1):=by
 refine List.ext_getElem? fun j=>?_
 rw[List.getElem?_set]
 unfold jC
 by_cases e:i=j
 ·subst e
  rw[if_pos rfl,if_pos (by simp;omega),List.getElem?_append_left (by simp;omega),List.getElem?_take_of_lt (by omega),List.getElem?_eq_getElem hi]
 ·rw[if_neg e]
  rcases Nat.lt_or_ge j i with h1|h1
  ·rw[List.getElem?_append_left (by simp;omega),List.getElem?_append_left (by simp;omega),List.getElem?_take_of_lt h1,List.getElem?_take_of_lt (by omega)]
  ·rw[List.getElem?_append_right (by simp;omega),List.getElem?_append_right (by simp;omega),List.getElem?_drop,List.getElem?_drop]
   simp only[List.length_take]
   congr 1
   omega
theorem mixT_skip {α:Type} {l m:List α} (h:l.length=m.length) {i:Nat} (hi:i<m.length) (e:m[i]=l[i]'(by omega)):jC l m (i+1)=jC l m i:=by
 rw[←zAj h hi,e,←zAe h hi]
 exact List.set_getElem_self _
theorem zR {W:World} {g b j:Nat} {v:Value} {c cur:Array Value} {T T':TypeId} (h:W.heap[b]? = some (.cells c T (0,0))) (hg:W.heap[g]? = some (.cells cur T' (0,0))) (hT:T≠T'):(W.setCell ⟨g,j,none⟩ v).heap[b]? = some (.cells c T (0,0)):=
 (xE W g j b v (fun e=>by
  rw[e,hg] at h
  injection h with h
  injection h with _ h2 _
  exact hT h2.symm)).trans h
theorem st_setSw2c {W:World} {lo:Nat} {u0 u1 u2:Value} {s:qD} (h:qY W lo u0 u1 u2 s) {i:Nat} (hi:i<s.sw.length) (z:Int):
  ∃g c,u1 = .slice (some ⟨g,0,none⟩) s.sw.length c∧lo≤g∧(∃cur,W.heap[g]? = some (.cells cur 55 (0,0)))∧qY (W.setCell ⟨g,i*3+2,none⟩ (.int .i64 z)) lo u0 u1 u2 ⟨s.tr,s.sw.set i (s.sw[i].1,s.sw[i].2.1,z),s.lk⟩:=by
 obtain⟨g,c,e,hlo,hcur,ho⟩:=zB2 (R:=SigR) (sz:=3) (k:=2) (x:=.int .i64 z) (y:=(s.sw[i].1,s.sw[i].2.1,z)) zAc h.sw hi (by decide) (fun c hc=>by exact⟨hc.1,hc.2.1,rfl⟩)
 exact⟨g,c,e,hlo,hcur,xD trkF h.tr (zU W g _ _) (by decide) hcur,ho,xD lckF h.lk (zU W g _ _) (by decide) hcur⟩
end Go.Proofs.YtemmgmjhomgbbaaGreat
