/-
 What a route comes to: the mathematics.
 Conditions: none.
-/
import Derived.Test.YtemmgmjhomgbbaaGreatUGPlnRefC
import Derived.Test.YtemmgmjhomgbbaaGreatUGPlnRefB
import Derived.Test.YtemmgmjhomgbbaaGreatUGPlnRefD
set_option linter.unusedVariables false
set_option linter.unusedSimpArgs false
set_option maxRecDepth 100000
namespace Go.Proofs.YtemmgmjhomgbbaaGreat
open Go.RowKit
abbrev Ak:=Int×Int×Int
structure Wy where
 path:List Int
 over:List Int
 asks:List Ak
 near:Int
def zS (r:Rt):List Int:=r.path++r.over
def jX (p:Pl) (id:Int):Sec:=p.secs.getD (atS p.secs id).toNat (0,0,[])
def sigN (p:Pl) (id:Int):Sg:=p.sigs.getD (at1 kSg p.sigs id).toNat (0,0,0)
def vI (p:Pl) (r:Rt) (a:Nat) (inn:Int) (e:Nat):Bool:=
 let s:=jX p ((zS r).getD a 0)
 let j:=s.2.2.getD e (0,0)
 decide (0≤xG s.2.1 inn (e:Int))&&(if a+1=r.path.length then decide (r.exit=0∧j.1=0∨r.exit≠0∧qJ p.sigs s.1 (e:Int)=r.exit) else decide (j.1=(zS r).getD (a+1) 0))
def outN (p:Pl) (r:Rt) (a:Nat) (inn:Int):Int:=match (List.range (jX p ((zS r).getD a 0)).2.2.length).find? (vI p r a inn) with
 | some e=>(e:Int)
 | none=>-1
theorem outN_some {p:Pl} {r:Rt} {a:Nat} {inn:Int} {e:Nat} (he:e<(jX p ((zS r).getD a 0)).2.2.length) (h:vI p r a inn e=true) (h0:∀j,j<e→vI p r a inn j=false):outN p r a inn=(e:Int):=by
 have hr:List.range (jX p ((zS r).getD a 0)).2.2.length=List.range e++e::(List.range' (e+1) ((jX p ((zS r).getD a 0)).2.2.length-e-1)):=by
  rw[List.range_eq_range',List.range_eq_range',show(jX p ((zS r).getD a 0)).2.2.length=e+(1+((jX p ((zS r).getD a 0)).2.2.length-e-1)) from by omega,←List.range'_append_1,Nat.zero_add,Nat.add_comm 1,List.range'_succ]
  congr 3
  omega
 rw[outN,hr,List.find?_append,List.find?_eq_none.2 (fun x hx=>by rw[h0 x (List.mem_range.1 hx)];exact Bool.false_ne_true),Option.none_or,List.find?_cons_of_pos h]
theorem outN_none {p:Pl} {r:Rt} {a:Nat} {inn:Int} (h0:∀j,j<(jX p ((zS r).getD a 0)).2.2.length→vI p r a inn j=false):outN p r a inn = -1:=by
 rw[outN,List.find?_eq_none.2 (fun x hx=>by rw[h0 x (List.mem_range.1 hx)];exact Bool.false_ne_true)]
theorem outN_cases (p:Pl) (r:Rt) (a:Nat) (inn:Int):outN p r a inn = -1∨∃e,e<(jX p ((zS r).getD a 0)).2.2.length∧outN p r a inn=(e:Int)∧vI p r a inn e=true:=by
 rw[outN]
 cases h:(List.range (jX p ((zS r).getD a 0)).2.2.length).find? (vI p r a inn) with
 | none=>exact .inl rfl
 | some e=>exact .inr ⟨e,List.mem_range.1 (List.mem_of_find?_eq_some h),rfl,by simpa using List.find?_some h⟩
def jP (p:Pl) (r:Rt):Nat→Option Jn
 | 0=>some ((jX p (sigN p r.entry).2.1).2.2.getD (sigN p r.entry).2.2.toNat (0,0))
 | a+1=>match jP p r a with
  | none=>none
  | some j=>if j.1=(zS r).getD a 0 then (if outN p r a j.2<0 then none else some ((jX p ((zS r).getD a 0)).2.2.getD (outN p r a j.2).toNat (0,0))) else none
def inN (p:Pl) (r:Rt) (a:Nat):Int:=match jP p r a with
 | some j=>j.2
 | none=>0
def yV (r:Rt) (a:Nat):Bool:=decide (a+1=(zS r).length∧0<r.over.length)
def vQ (p:Pl) (r:Rt) (a:Nat):Int:=if yV r a then -1 else outN p r a (inN p r a)
def HangsTo (p:Pl) (r:Rt) (a:Nat):Prop:=∀i,i<a→∃j,jP p r i=some j∧j.1=(zS r).getD i 0∧(yV r i=false→0≤outN p r i j.2)
def kK (p:Pl) (r:Rt):Prop:=HangsTo p r (zS r).length
noncomputable def zA8 (p:Pl) (r:Rt):Bool:=@decide (kK p r) (Classical.propDecidable _)
theorem yY {p:Pl} {r:Rt} (h:kK p r):zA8 p r=true:=by rw[zA8];exact @decide_eq_true _ (Classical.propDecidable _) h
theorem hangsB_false {p:Pl} {r:Rt} (h:¬kK p r):zA8 p r=false:=by rw[zA8];exact @decide_eq_false _ (Classical.propDecidable _) h
theorem hangsB_iff {p:Pl} {r:Rt}:zA8 p r=true↔kK p r:=by rw[zA8];exact @decide_eq_true_iff _ (Classical.propDecidable _)
def insL (p:Pl) (r:Rt) (n:Nat):List Int:=(List.range n).map (inN p r)
def zA6 (p:Pl) (r:Rt) (n:Nat):List Int:=(List.range n).map (vQ p r)
theorem insL_succ (p:Pl) (r:Rt) (n:Nat):insL p r (n+1)=insL p r n++[inN p r n]:=by rw[insL,List.range_succ,List.map_append];rfl
theorem outsL_succ (p:Pl) (r:Rt) (n:Nat):zA6 p r (n+1)=zA6 p r n++[vQ p r n]:=by rw[zA6,List.range_succ,List.map_append];rfl
def askN (p:Pl) (r:Rt) (a:Nat):Option Ak:=
 let s:=jX p ((zS r).getD a 0)
 let lie:=if 0≤vQ p r a then xG s.2.1 (inN p r a) (vQ p r a) else inN p r a
 if s.2.1=0 then none else if 0<lie then some (s.2.1,lie,(a:Int)) else none
def jA (p:Pl) (r:Rt) (n:Nat):List Ak:=(List.range n).filterMap (askN p r)
theorem kX (p:Pl) (r:Rt) (n:Nat):jA p r (n+1)=jA p r n++(askN p r n).toList:=by
 rw[jA,List.range_succ,List.filterMap_append]
 congr 1
def zBu (f:Jn):Ak:=(f.1,f.2,-1)
def kH (p:Pl) (r:Rt):Wy:=⟨r.path,r.over,jA p r (zS r).length++r.flanks.map zBu,(sigN p r.entry).2.1⟩
def leftN (p:Pl) (r:Rt) (a:Nat):Option Jn:=if 0≤vQ p r a then some ((zS r).getD a 0,vQ p r a) else none
def zAl (p:Pl) (r:Rt) (n:Nat):List Jn:=(List.range n).filterMap (leftN p r)
theorem zCt (p:Pl) (r:Rt) (n:Nat):zAl p r (n+1)=zAl p r n++(leftN p r n).toList:=by
 rw[zAl,List.range_succ,List.filterMap_append]
 congr 1
def routeN (p:Pl) (id:Int):Rt:=p.routes.getD (at1 kRt p.routes id).toNat zRt
noncomputable def wayE (p:Pl) (id:Int):Int:=if xW p then (if at1 kRt p.routes id<0 then 6 else if zA8 p (routeN p id) then 0 else 90) else 8
def zWy:Wy:=⟨[],[],[],0⟩
noncomputable def wayV (p:Pl) (id:Int):Wy:=if wayE p id=0 then kH p (routeN p id) else zWy
noncomputable def leftV (p:Pl) (id:Int):List Jn:=if wayE p id=0 then zAl p (routeN p id) (zS (routeN p id)).length else []
structure qW (p:Pl) (r:Rt):Prop where
 plan:xU p
 route:jQ p r
theorem jO {p:Pl} (h:xU p) {u:Nat} (hu:u<p.routes.length) {r:Rt} (hr:p.routes[u]=r):qW p r:=by
 subst hr
 exact⟨h,(h.each u hu).2.2⟩
theorem secN_at {p:Pl} {id:Int} {k:Nat} (hk:k<p.secs.length) (h:atS p.secs id=(k:Int)):jX p id=p.secs[k]:=by rw[jX,h];simp[List.getD,List.getElem?_eq_getElem hk]
theorem sigN_at {p:Pl} {id:Int} {k:Nat} (hk:k<p.sigs.length) (h:at1 kSg p.sigs id=(k:Int)):sigN p id=p.sigs[k]:=by rw[sigN,h];simp[List.getD,List.getElem?_eq_getElem hk]
theorem qW.len {p:Pl} {r:Rt} (h:qW p r):1≤(zS r).length∧(zS r).length≤8∧(zS r).length=r.path.length+r.over.length∧r.over.length≤2:=by
 have h1:=h.route.path
 have h2:=h.route.over
 rw[zS,List.length_append]
 omega
theorem qW.sec {p:Pl} {r:Rt} (h:qW p r) {a:Nat} (ha:a<(zS r).length):∃k,∃hk:k<p.secs.length,atS p.secs ((zS r).getD a 0)=(k:Int)∧jX p ((zS r).getD a 0)=p.secs[k]∧p.secs[k].1=(zS r).getD a 0:=by
 have h0:=(h.route.secs a ha).1
 have e:(zS r).getD a 0=(r.path++r.over)[a]:=by
  have ha':a<(r.path++r.over).length:=ha
  rw[zS,List.getD,List.getElem?_eq_getElem ha'];rfl
 rcases vE p.secs ((r.path++r.over)[a]) with h1|⟨k,hk,h1,h2⟩
 ·omega
 ·exact⟨k,hk,by rw[e];exact h1,by rw[e];exact secN_at hk h1,by rw[e];exact h2⟩
theorem qW.entry {p:Pl} {r:Rt} (h:qW p r):∃k,∃hk:k<p.sigs.length,at1 kSg p.sigs r.entry=(k:Int)∧sigN p r.entry=p.sigs[k]∧∃m,∃hm:m<p.secs.length,atS p.secs p.sigs[k].2.1=(m:Int)∧jX p p.sigs[k].2.1=p.secs[m]∧0≤p.sigs[k].2.2∧p.sigs[k].2.2<p.secs[m].2.2.length:=by
 obtain⟨k,hk,ha,-⟩:=h.route.entry
 obtain⟨-,-,⟨m,hm,h1,h2,h3⟩,-⟩:=h.plan.sigs.each k hk
 exact⟨k,hk,ha,sigN_at hk ha,m,hm,h1,secN_at hm h1,h2,h3⟩
theorem comes_succ {p:Pl} {r:Rt} {a:Nat} {j:Jn} (h:jP p r a=some j) (h1:j.1=(zS r).getD a 0) {e:Nat} (h2:outN p r a j.2=(e:Int)):jP p r (a+1)=some ((jX p ((zS r).getD a 0)).2.2.getD e (0,0)):=by
 rw[jP,h]
 dsimp only
 rw[if_pos h1,if_neg (by omega),h2]
 simp
theorem in_of {p:Pl} {r:Rt} {a:Nat} {j:Jn} (h:jP p r a=some j):inN p r a=j.2:=by rw[inN,h]
theorem zCv {p:Pl} {r:Rt} {a:Nat} {j:Jn} (h:HangsTo p r a) (hc:jP p r a=some j) (h1:j.1=(zS r).getD a 0) (h2:yV r a=false→0≤outN p r a j.2):HangsTo p r (a+1):=fun i hi=>by
 rcases Nat.lt_or_ge i a with h3|h3
 ·exact h i h3
 ·obtain rfl:i=a:=by omega
  exact⟨j,hc,h1,h2⟩
theorem zDm {p:Pl} {r:Rt} {a:Nat} {j:Jn} (ha:a<(zS r).length) (hc:jP p r a=some j) (h:¬(j.1=(zS r).getD a 0∧(yV r a=false→0≤outN p r a j.2))):¬kK p r:=fun hh=>by
 obtain⟨j2,h1,h2,h3⟩:=hh a ha
 rw[hc] at h1
 injection h1 with h1
 subst h1
 exact h ⟨h2,h3⟩
abbrev AsksIn (W:World) (B:Nat) (v:Value) (l:List Ak):Prop:=xC 3 SigR W B v l
abbrev jV (W:World) (lo:Nat) (v:Value) (l:List Ak):Prop:=zJ 108 3 SigR W lo v l
structure WyIn (W:World) (B:Nat) (u0 u1 u2:Value) (x:Wy):Prop where
 path:xB W B u0 x.path
 over:xB W B u1 x.over
 asks:AsksIn W B u2 x.asks
theorem WyIn.below {W W':World} {B:Nat} {u0 u1 u2:Value} {x:Wy} (h:WyIn W B u0 u1 u2 x) (hb:Below B W W'):WyIn W' B u0 u1 u2 x:=⟨h.path.below qI hb,h.over.below qI hb,h.asks.below zP hb⟩
theorem WyIn.more {W:World} {B B':Nat} {u0 u1 u2:Value} {x:Wy} (h:WyIn W B u0 u1 u2 x) (hb:B≤B'):WyIn W B' u0 u1 u2 x:=⟨h.path.more qI hb,h.over.more qI hb,h.asks.more zP hb⟩
def WayV (W:World) (B:Nat) (v:Value) (x:Wy):Prop:=∃u0 u1 u2,v = .agg #[u0,u1,u2,.int .i64 x.near]∧WyIn W B u0 u1 u2 x
theorem WayV.below {W W':World} {B:Nat} {v:Value} {x:Wy} (h:WayV W B v x) (hb:Below B W W'):WayV W' B v x:=by
 obtain⟨u0,u1,u2,rfl,hr⟩:=h
 exact⟨u0,u1,u2,rfl,hr.below hb⟩
theorem WayV.more {W:World} {B B':Nat} {v:Value} {x:Wy} (h:WayV W B v x) (hb:B≤B'):WayV W B' v x:=by
 obtain⟨u0,u1,u2,rfl,hr⟩:=h
 exact⟨u0,u1,u2,rfl,hr.more hb⟩
structure kG (W:World) (lo:Nat) (u0 u1 u2:Value) (x:Wy):Prop where
 path:qV W lo u0 x.path
 over:qV W lo u1 x.over
 asks:jV W lo u2 x.asks
theorem kG.below {W W':World} {lo:Nat} {u0 u1 u2:Value} {x:Wy} (h:kG W lo u0 u1 u2 x) (hb:Below W.heap.size W W'):kG W' lo u0 u1 u2 x:=⟨h.path.below qI hb,h.over.below qI hb,h.asks.below zP hb⟩
theorem kG.mono {W:World} {lo lo':Nat} {u0 u1 u2:Value} {x:Wy} (h:kG W lo u0 u1 u2 x) (hl:lo'≤lo):kG W lo' u0 u1 u2 x:=⟨h.path.mono hl,h.over.mono hl,h.asks.mono hl⟩
theorem kG.in_ {W:World} {lo:Nat} {u0 u1 u2:Value} {x:Wy} (h:kG W lo u0 u1 u2 x):WyIn W W.heap.size u0 u1 u2 x:=⟨h.path.in_ zZ,h.over.in_ zZ,h.asks.in_ jJ⟩
theorem kG.kept {W W':World} {lo g:Nat} {u0 u1 u2:Value} {x:Wy} (h:kG W lo u0 u1 u2 x) (hg:W.grownBy W' (some g)) (hl:g<lo):kG W' lo u0 u1 u2 x:=
 ⟨qK jW h.path hg (fun k hk=>by have:=jS h.path k hk;omega),qK jW h.over hg (fun k hk=>by have:=jS h.over k hk;omega),qK zAc h.asks hg (fun k hk=>by have:=jS h.asks k hk;omega)⟩
theorem wy_eq {a b:Wy}:a=b↔a.near=b.near∧a.path=b.path∧a.over=b.over∧a.asks=b.asks:=by
 constructor
 ·rintro rfl;exact⟨rfl,rfl,rfl,rfl⟩
 ·obtain⟨a0,a1,a2,a3⟩:=a
  obtain⟨b0,b1,b2,b3⟩:=b
  rintro⟨h0,h1,h2,h3⟩
  dsimp only at h0 h1 h2 h3
  subst h0 h1 h2 h3
  rfl
theorem zA2:(Tryz.prog.info? 96).map (·.size)=some 4:=by kernel_rfl
theorem zBj:(Tryz.prog.info? 108).map (fun i=>(i.zero,i.size,i.bytes))=some (some (.agg #[.int .i64 0,.int .i64 0,.int .i64 0]),3,24):=by kernel_rfl
theorem qC {w:World} {b:Nat} {v0 v1 v2 v3:Value} {t:TypeId} {fr:Nat×Nat} (h:w.heap[b]? = some (.cells #[v0,v1,v2,v3] t fr)):w.cell? ⟨b,0,none⟩=some v0∧w.cell? ⟨b,1,none⟩=some v1∧w.cell? ⟨b,2,none⟩=some v2∧w.cell? ⟨b,3,none⟩=some v3:=
 ⟨cell_of_row _ _ _ _ _ _ h,cell_of_row _ _ _ _ _ _ h,cell_of_row _ _ _ _ _ _ h,cell_of_row _ _ _ _ _ _ h⟩
end Go.Proofs.YtemmgmjhomgbbaaGreat
