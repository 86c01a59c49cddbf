/-
 States: what a route holds and asks in one, which states may be, images, what is kept: plain.
 Conditions: none.
-/
import Derived.Test.YtemmgmjhomgbbaaGreatUSndM
set_option linter.unusedVariables false
set_option linter.unusedSimpArgs false
set_option maxRecDepth 100000
namespace Go.Proofs.YtemmgmjhomgbbaaGreat
open Go.RowKit
abbrev Trk:=Int×Int
abbrev Swi:=Int×Int×Int
abbrev Lck:=Int×Int×Int×Int
structure qD where
 tr:List Trk
 sw:List Swi
 lk:List Lck
def heldL (r:Rt) (l:Lck):List Int:=if l.2.1=0 then [] else r.path.drop l.2.2.1.toNat++r.over
def zW (gone:Int) (x:Ak):Bool:=decide (x.2.2<0)||decide (gone≤x.2.2)
def zBs (p:Pl) (r:Rt) (l:Lck):List Ak:=if l.2.1=0 then [] else (kH p r).asks.filter (zW l.2.2.1)
def zH (l:Lck) (n timer:Int):Prop:=
 ((l.2.1=0∨l.2.1=1)∧l.2.2.1=0∧l.2.2.2=0)∨(l.2.1=2∧(0≤l.2.2.1∧l.2.2.1<n)∧l.2.2.2=0) ∨
 (l.2.1=3∧l.2.2.1=n-1∧1≤l.2.2.2∧l.2.2.2≤timer)∨(l.2.1=4∧l.2.2.1=0∧1≤l.2.2.2∧l.2.2.2≤timer)
instance (l:Lck) (n timer:Int):Decidable (zH l n timer):=by unfold zH;infer_instance
def zO (l:Lck) (n timer:Int):Bool:=decide (zH l n timer)
structure vV (p:Pl) (s:qD):Prop where
 nt:s.tr.length=p.secs.length
 ns:s.sw.length=p.pts.length
 nl:s.lk.length=p.routes.length
 tr:∀i (h:i<s.tr.length),s.tr[i].1=(p.secs[i]'(by omega)).1∧s.tr[i].2≤2
 sw:∀i (h:i<s.sw.length),s.sw[i].1=(p.pts[i]'(by omega)).1∧(0≤s.sw[i].2.1∧s.sw[i].2.1≤2)∧0≤s.sw[i].2.2∧s.sw[i].2.2≤2
 lk:∀i (h:i<s.lk.length),s.lk[i].1=(p.routes[i]'(by omega)).id∧zH s.lk[i] (p.routes[i]'(by omega)).path.length (p.routes[i]'(by omega)).timer
def rtN (p:Pl) (i:Nat):Rt:=p.routes.getD i ⟨0,0,0,[],[],[],0⟩
def lkN (s:qD) (i:Nat):Lck:=s.lk.getD i (0,0,0,0)
def jH (p:Pl) (s:qD) (i:Nat):List Int:=heldL (rtN p i) (lkN s i)
def jN (p:Pl) (s:qD) (i:Nat):List Ak:=zBs p (rtN p i) (lkN s i)
def callN (p:Pl) (s:qD) (pt:Int):Int:=(s.sw.getD (at1 (fun x:Jn=>x.1) p.pts pt).toNat (0,0,0)).2.2
structure yD (p:Pl) (s:qD):Prop where
 sound:jB p
 parts:vV p s
 held:∀i k,i<s.lk.length→k<i→∀x,x∈jH p s k→x∉jH p s i
 asked:∀i,i<s.lk.length→∀x∈jN p s i,callN p s x.1=x.2.1
noncomputable def zB1 (p:Pl) (s:qD):Bool:=@decide (yD p s) (Classical.propDecidable _)
theorem zDs {p:Pl} {s:qD}:zB1 p s=true↔yD p s:=by rw[zB1];exact @decide_eq_true_iff _ (Classical.propDecidable _)
theorem yO {p:Pl} {s:qD}:zB1 p s=false↔¬yD p s:=by rw[←Bool.not_eq_true,zDs]
noncomputable def kI (p:Pl) (s:qD):Int:=if vX p then (if zB1 p s then 0 else 8) else 100
def whoL (p:Pl) (s:qD) (sec:Int):Int:=match (List.range s.lk.length).find? fun i=>decide (sec∈jH p s i) with
 | some i=>(lkN s i).1
 | none=>0
def lieL (p:Pl) (s:qD) (pt:Int):Int:=match ((List.range s.lk.length).flatMap (jN p s)).find? fun x=>decide (x.1=pt) with
 | some x=>x.2.1
 | none=>0
noncomputable def whoE (p:Pl) (s:qD) (sec:Int):Int:=if kI p s=0 then (if sec∈p.secs.map (·.1) then 0 else 6) else kI p s
noncomputable def whoV (p:Pl) (s:qD) (sec:Int):Int:=if whoE p s sec=0 then whoL p s sec else 0
noncomputable def lieE (p:Pl) (s:qD) (pt:Int):Int:=if kI p s=0 then (if pt∈p.pts.map (·.1) then 0 else 6) else kI p s
noncomputable def lieV (p:Pl) (s:qD) (pt:Int):Int:=if lieE p s pt=0 then lieL p s pt else 0
def restS (p:Pl):qD:=⟨p.secs.map fun x=>(x.1,2),p.pts.map fun x=>(x.1,0,0),p.routes.map fun r=>(r.id,0,0,0)⟩
def noS:qD:=⟨[],[],[]⟩
noncomputable def restE (p:Pl):Int:=if vX p then 0 else 100
noncomputable def vG (p:Pl):qD:=if vX p then restS p else noS
def fallL (p:Pl) (l:Lck×Nat):Lck:=if l.1.2.1=3∨l.1.2.1=4 then (l.1.1,l.1.2.1,l.1.2.2.1,(rtN p l.2).timer) else l.1
def zBw (p:Pl) (s:qD):qD:=⟨s.tr.map fun x=>(x.1,2),s.sw.map fun x=>(x.1,0,x.2.2),s.lk.zipIdx.map (fallL p)⟩
noncomputable def jF (p:Pl) (s:qD):qD:=if kI p s=0 then zBw p s else noS
def keptS (s:qD):List (Int×Int)×List (Int×Int×Int):=(s.sw.map fun x=>(x.1,x.2.2),s.lk.map fun x=>(x.1,x.2.1,x.2.2.1))
theorem vP {p:Pl} {i:Nat} (h:i<p.routes.length):rtN p i=p.routes[i]:=by rw[rtN,List.getD,List.getElem?_eq_getElem h,Option.getD_some]
theorem lkN_at {s:qD} {i:Nat} (h:i<s.lk.length):lkN s i=s.lk[i]:=by rw[lkN,List.getD,List.getElem?_eq_getElem h,Option.getD_some]
theorem ids_rise {p:Pl} (h:xU p):∀(i j:Nat) (hj:j<i) (hi:i<p.routes.length),(p.routes[j]'(by omega)).id<p.routes[i].id:=fun i j hj hi=>by
 obtain⟨d,rfl⟩:∃d,i=j+d+1:=⟨i-j-1,by omega⟩
 induction d with
 | zero=>exact(h.each (j+0+1) hi).2.1 j rfl
 | succ d ih=>exact Int.lt_trans (ih (by omega) (by omega)) ((h.each (j+(d+1)+1) hi).2.1 (j+d+1) (by omega))
theorem rtId {p:Pl} {s:qD} (h:vV p s) {i:Nat} (hi:i<s.lk.length):(lkN s i).1=(rtN p i).id:=by
 rw[lkN_at hi,vP (by have:=h.nl;omega)]
 exact(h.lk i hi).1
theorem lk_inj {p:Pl} {s:qD} (hm:xU p) (h:vV p s) {i j:Nat} (hi:i<s.lk.length) (hj:j<s.lk.length) (e:(lkN s i).1=(lkN s j).1):i=j:=by
 have hl:=h.nl
 rw[rtId h hi,rtId h hj,vP (by omega),vP (by omega)] at e
 rcases Nat.lt_trichotomy i j with g|g|g
 ·have:=ids_rise hm j i g (by omega);omega
 ·exact g
 ·have:=ids_rise hm i j g (by omega);omega
theorem lk_pos {p:Pl} {s:qD} (hm:xU p) (h:vV p s) {i:Nat} (hi:i<s.lk.length):1≤(lkN s i).1:=by
 have hl:=h.nl
 rw[rtId h hi,vP (by omega)]
 exact(hm.each i (by omega)).1.1
theorem held_apart {p:Pl} {s:qD} (h:yD p s) {i j:Nat} (hi:i<s.lk.length) (hj:j<s.lk.length) {x:Int} (h1:x∈jH p s i) (h2:x∈jH p s j):i=j:=by
 rcases Nat.lt_trichotomy i j with g|g|g
 ·exact absurd h2 (h.held j i hj g x h1)
 ·exact g
 ·exact absurd h1 (h.held i j hi g x h2)
theorem who_iff {p:Pl} {s:qD} (h:yD p s) {i:Nat} (hi:i<s.lk.length) (sec:Int):whoL p s sec=(lkN s i).1↔sec∈jH p s i:=by
 have hm:=h.sound.may
 unfold whoL
 cases hf:(List.range s.lk.length).find? fun i=>decide (sec∈jH p s i) with
 | some j=>
  have h1:sec∈jH p s j:=by simpa using List.find?_some hf
  have h2:=List.mem_range.1 (List.mem_of_find?_eq_some hf)
  constructor
  ·intro e
   have:=lk_inj hm h.parts h2 hi e
   subst this;exact h1
  ·intro g
   rw[held_apart h h2 hi h1 g]
 | none=>
  constructor
  ·intro e
   have:=lk_pos hm h.parts hi
   have e':(0:Int)=(lkN s i).1:=e
   omega
  ·intro g
   exact absurd (decide_eq_true g) (List.find?_eq_none.1 hf i (List.mem_range.2 hi))
theorem who_none {p:Pl} {s:qD} {sec:Int} (h:∀i,i<s.lk.length→sec∉jH p s i):whoL p s sec=0:=by
 unfold whoL
 rw[List.find?_eq_none.2 fun i hi=>by simpa using h i (List.mem_range.1 hi)]
theorem asked_mem {p:Pl} {s:qD} {x:Ak}:x∈(List.range s.lk.length).flatMap (jN p s)↔∃i,i<s.lk.length∧x∈jN p s i:=by
 rw[List.mem_flatMap]
 exact⟨fun⟨i,h1,h2⟩=>⟨i,List.mem_range.1 h1,h2⟩,fun⟨i,h1,h2⟩=>⟨i,List.mem_range.2 h1,h2⟩⟩
theorem lie_of {p:Pl} {s:qD} (h:yD p s) {i:Nat} (hi:i<s.lk.length) {a:Ak} (ha:a∈jN p s i):lieL p s a.1=a.2.1:=by
 unfold lieL
 cases hf:((List.range s.lk.length).flatMap (jN p s)).find? fun x=>decide (x.1=a.1) with
 | some x=>
  have h1:x.1=a.1:=of_decide_eq_true (List.find?_some (p:=fun x:Ak=>decide (x.1=a.1)) hf)
  obtain⟨j,hj,h2⟩:=asked_mem.1 (List.mem_of_find?_eq_some hf)
  show x.2.1=a.2.1
  rw[←h.asked j hj x h2,←h.asked i hi a ha,h1]
 | none=>exact absurd (decide_eq_true (rfl:a.1=a.1)) (List.find?_eq_none.1 hf a (asked_mem.2 ⟨i,hi,ha⟩))
theorem lie_none {p:Pl} {s:qD} {pt:Int} (h:∀i,i<s.lk.length→∀x∈jN p s i,x.1≠pt):lieL p s pt=0:=by
 unfold lieL
 rw[List.find?_eq_none.2 fun x hx=>by
  obtain⟨i,hi,h2⟩:=asked_mem.1 hx
  simpa using h i hi x h2]
theorem image_len (p:Pl) (s:qD):(zBw p s).lk.length=s.lk.length∧(zBw p s).sw.length=s.sw.length∧(zBw p s).tr.length=s.tr.length:=by simp[zBw]
end Go.Proofs.YtemmgmjhomgbbaaGreat
