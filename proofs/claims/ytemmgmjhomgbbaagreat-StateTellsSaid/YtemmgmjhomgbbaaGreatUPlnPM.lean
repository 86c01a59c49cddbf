/-
 Points, signals and routes as the program asks for them: the same as the document's.
 Conditions: of points and signals: sections that may be.
-/
import Derived.Test.YtemmgmjhomgbbaaGreatUGPlnRefC
set_option linter.unusedVariables false
set_option linter.unusedSimpArgs false
set_option maxRecDepth 100000
namespace Go.Proofs.YtemmgmjhomgbbaaGreat
open Go.RowKit
theorem pigeon:∀ {A B:List Int},A.Nodup→A⊆B→B.length≤A.length→B⊆A
 | [],B,_,_,hl=>by
  have:B=[]:=List.eq_nil_of_length_eq_zero (by simpa using hl)
  subst this
  exact fun x hx=>hx
 | a::A,B,hA,h,hl=>by
  have hn:=List.nodup_cons.1 hA
  have ha:a∈B:=h (List.mem_cons_self ..)
  have hle:=List.length_erase_of_mem ha
  have ih:=pigeon (A:=A) (B:=B.erase a) hn.2 (fun x hx=>(List.mem_erase_of_ne (fun e=>hn.1 (by rw[←e];exact hx))).2 (h (List.mem_cons_of_mem _ hx))) (by simp only[List.length_cons] at hl;omega)
  intro b hb
  by_cases e:b=a
  ·rw[e];exact List.mem_cons_self ..
  ·exact List.mem_cons_of_mem _ (ih ((List.mem_erase_of_ne e).2 hb))
def zBo {α:Type} (k:α→Int) (l:List α):Prop:=∀i (h:i<l.length),1≤k l[i]∧k l[i]≤99∧∀j (hj:j+1=i),k (l[j]'(by omega))<k l[i]
noncomputable def yI {α:Type} (k:α→Int) (l:List α):Bool:=@decide (zBo k l) (Classical.propDecidable _)
theorem zAs {α:Type} {k:α→Int} {l:List α} (h:zBo k l):yI k l=true:=by rw[yI];exact @decide_eq_true _ (Classical.propDecidable _) h
theorem yZ {α:Type} {k:α→Int} {l:List α} (h:¬zBo k l):yI k l=false:=by rw[yI];exact @decide_eq_false _ (Classical.propDecidable _) h
theorem riseB_iff {α:Type} {k:α→Int} {l:List α}:yI k l=true↔zBo k l:=by rw[yI];exact @decide_eq_true_iff _ (Classical.propDecidable _)
def LastK {α:Type} (k:α→Int) (l:List α) (i:Nat) (z:Int):Prop:=(i=0∧z=0)∨∃h:i-1<l.length,0<i∧z=k l[i-1]
theorem zBo.pair {α:Type} {k:α→Int} {l:List α} (h:zBo k l):l.Pairwise (fun a b=>k a<k b):=rise_of fun i hi j hj=>(h i hi).2.2 j hj
theorem zBo.uniq {α:Type} {k:α→Int} {l:List α} (h:zBo k l) {i j:Nat} (hi:i<l.length) (hj:j<l.length) (he:k l[i]=k l[j]):i=j:=by
 have h':=List.pairwise_iff_getElem.1 h.pair
 rcases Nat.lt_trichotomy i j with hlt|rfl|hlt
 ·have:=h' i j hi hj hlt;omega
 ·rfl
 ·have:=h' j i hj hi hlt;omega
structure PtsP (p:Pl):Prop where
 n:p.pts.length≤6
 rise:zBo kPt p.pts
 many:p.secs.countP yC=p.pts.length
 each:∀i (h:i<p.secs.length),p.secs[i].2.1≠0→∃j,∃hj:j<p.pts.length,at1 kPt p.pts p.secs[i].2.1=(j:Int)∧p.pts[j].2=p.secs[i].1
theorem secs_uniq {l:List Sec} (h:TMay l) {i j:Nat} (hi:i<l.length) (hj:j<l.length) (he:l[i].1=l[j].1):i=j:=by
 rcases Nat.lt_trichotomy i j with hlt|rfl|hlt
 ·have:=(h.k j i hlt hj).1;omega
 ·rfl
 ·have:=(h.k i j hlt hi).1;omega
theorem secs_point {l:List Sec} (h:TMay l) {i j:Nat} (hi:i<l.length) (hj:j<l.length) (h0:l[i].2.1≠0) (he:l[i].2.1=l[j].2.1):i=j:=by
 rcases Nat.lt_trichotomy i j with hlt|rfl|hlt
 ·exact absurd ⟨by rw[←he];exact h0,he⟩ (h.k j i hlt hj).2
 ·rfl
 ·exact absurd ⟨h0,he.symm⟩ (h.k i j hlt hi).2
theorem atS_at {l:List Sec} (h:TMay l) {i:Nat} (hi:i<l.length):atS l l[i].1=(i:Int):=by
 rcases vE l l[i].1 with h1|⟨j,hj,h1,h2⟩
 ·have:=zDd (l:=l) (id:=l[i].1) hi rfl (fun j hj e=>by have:=secs_uniq h (by omega) hi e;omega)
  exact this
 ·rw[h1,secs_uniq h hj hi h2]
theorem pts_iff {p:Pl} (ht:TMay p.secs):yT p↔PtsP p:=by
 have hpt:(p.secs.filter yC).Pairwise (fun s t:Sec=>s.2.1≠t.2.1):=by
  rw[List.pairwise_filter]
  refine List.pairwise_iff_getElem.2 fun i j hi hj hlt h1 h2 he=>?_
  have:=secs_point ht hi hj (of_decide_eq_true h1) he
  omega
 have hnA:((p.secs.filter yC).map (fun s=>s.2.1)).Nodup:=List.pairwise_map.2 hpt
 have hlA:((p.secs.filter yC).map (fun s=>s.2.1)).length=p.secs.countP yC:=by rw[List.length_map,List.countP_eq_length_filter]
 have hlB:(p.pts.map kPt).length=p.pts.length:=List.length_map ..
 have memA:∀x,x∈(p.secs.filter yC).map (fun s=>s.2.1)↔∃k,∃hk:k<p.secs.length,p.secs[k].2.1≠0∧p.secs[k].2.1=x:=by
  intro x
  rw[List.mem_map]
  constructor
  ·rintro⟨s,hs,rfl⟩
   obtain⟨h1,h2⟩:=List.mem_filter.1 hs
   obtain⟨k,hk,rfl⟩:=List.getElem_of_mem h1
   exact⟨k,hk,of_decide_eq_true h2,rfl⟩
  ·rintro⟨k,hk,h0,rfl⟩
   exact⟨p.secs[k],List.mem_filter.2 ⟨List.getElem_mem hk,decide_eq_true h0⟩,rfl⟩
 have memB:∀x,x∈p.pts.map kPt↔∃j,∃hj:j<p.pts.length,p.pts[j].1=x:=by
  intro x
  rw[List.mem_map]
  constructor
  ·rintro⟨s,hs,rfl⟩
   obtain⟨k,hk,rfl⟩:=List.getElem_of_mem hs
   exact⟨k,hk,rfl⟩
  ·rintro⟨k,hk,rfl⟩
   exact⟨p.pts[k],List.getElem_mem hk,rfl⟩
 constructor
 ·intro h
  have hr:zBo kPt p.pts:=fun i hi=>⟨(h.each i hi).1,(h.each i hi).2.1,fun j hj=>(h.each i hi).2.2.1 j hj⟩
  refine⟨h.n,hr,h.many,fun i hi h0=>?_⟩
  have hBA:p.pts.map kPt⊆(p.secs.filter yC).map (fun s=>s.2.1):=fun x hx=>by
   obtain⟨j,hj,rfl⟩:=(memB x).1 hx
   obtain⟨h1,-,-,k,hk,-,he⟩:=h.each j hj
   exact(memA _).2 ⟨k,hk,by omega,he⟩
  have hnB:(p.pts.map kPt).Nodup:=List.pairwise_map.2 (hr.pair.imp fun {a b} h e=>by omega)
  have hAB:=pigeon hnB hBA (by rw[hlA,hlB,h.many];exact Nat.le_refl _)
  obtain⟨j0,hj0,he0⟩:=(memB _).1 (hAB ((memA _).2 ⟨i,hi,h0,rfl⟩))
  obtain⟨j,hj,ha,he⟩:=at1_mem (k:=kPt) (l:=p.pts) ⟨_,List.getElem_mem hj0,he0⟩
  refine⟨j,hj,ha,?_⟩
  obtain⟨-,-,-,k,hk,hat,hpk⟩:=h.each j hj
  obtain⟨_,hid⟩:=atS_of hat
  have:k=i:=secs_point ht hk hi (by rw[hpk];show kPt p.pts[j]≠0;rw[he];exact h0) (hpk.trans he)
  subst this
  exact hid.symm
 ·intro h
  have hAB:(p.secs.filter yC).map (fun s=>s.2.1)⊆p.pts.map kPt:=fun x hx=>by
   obtain⟨k,hk,h0,rfl⟩:=(memA x).1 hx
   obtain⟨j,hj,ha,-⟩:=h.each k hk h0
   obtain⟨_,he⟩:=at1_of ha
   exact(memB _).2 ⟨j,hj,he⟩
  have hBA:=pigeon hnA hAB (by rw[hlA,hlB,h.many];exact Nat.le_refl _)
  refine⟨h.n,h.many,fun i hi=>⟨(h.rise i hi).1,(h.rise i hi).2.1,(h.rise i hi).2.2,?_⟩⟩
  obtain⟨k,hk,h0,he⟩:=(memA _).1 (hBA ((memB _).2 ⟨i,hi,rfl⟩))
  obtain⟨j,hj,ha,hs⟩:=h.each k hk h0
  obtain⟨_,hej⟩:=at1_of ha
  have:j=i:=h.rise.uniq hj hi (hej.trans he)
  subst this
  exact⟨k,hk,by rw[hs];exact atS_at ht hk,he⟩
def zAm (l:List Sec) (id:Int):Int:=if atS l id<0 then 0 else ((l.getD (atS l id).toNat (0,0,[])).2.2.length:Int)
theorem endsN_none {l:List Sec} {id:Int} (h:atS l id = -1):zAm l id=0:=by rw[zAm,if_pos (by omega)]
theorem endsN_some {l:List Sec} {id:Int} {k:Nat} (hk:k<l.length) (h:atS l id=(k:Int)):zAm l id=(l[k].2.2.length:Int):=by rw[zAm,if_neg (by omega),h];simp[List.getD,List.getElem?_eq_getElem hk]
theorem endsN_iff {l:List Sec} {id e:Int} (h0:0≤e):e<zAm l id↔∃k,∃hk:k<l.length,atS l id=(k:Int)∧e<l[k].2.2.length:=by
 rcases vE l id with h1|⟨j,hj,h1,h2⟩
 ·rw[endsN_none h1]
  exact⟨fun h=>by omega,fun⟨k,hk,h,_⟩=>by omega⟩
 ·rw[endsN_some hj h1]
  exact⟨fun h=>⟨j,hj,h1,h⟩,fun⟨k,hk,h,h3⟩=>by
   obtain rfl:k=j:=by omega
   exact h3⟩
theorem endsN_zero {l:List Sec} (h:TMay l) {id:Int}:zAm l id=0↔atS l id<0:=by
 rcases vE l id with h1|⟨j,hj,h1,h2⟩
 ·rw[endsN_none h1];omega
 ·rw[endsN_some hj h1]
  have:=shaped_two (h.s j hj).2.2
  omega
theorem stands_zero {l:List Sg} {sec en:Int} (h1:∀i (h:i<l.length),1≤l[i].1):qJ l sec en=0↔∀j (h:j<l.length),¬(l[j].2.1=sec∧l[j].2.2=en):=by
 constructor
 ·intro h
  rw[qJ] at h
  cases hf:l.find? (fun s=>decide (s.2.1=sec∧s.2.2=en)) with
  | none=>
   intro j hj
   have:=List.find?_eq_none.1 hf _ (List.getElem_mem hj)
   simpa using this
  | some s=>
   rw[hf] at h
   obtain⟨j,hj,rfl⟩:=List.getElem_of_mem (List.mem_of_find?_eq_some hf)
   have:=h1 j hj
   exact absurd h (by show l[j].1≠0;omega)
 ·exact fun h=>zAb h
structure SigsP (p:Pl):Prop where
 n:p.sigs.length≤10
 rise:zBo kSg p.sigs
 each:∀i (h:i<p.sigs.length),0≤p.sigs[i].2.2∧p.sigs[i].2.2<zAm p.secs p.sigs[i].2.1∧qJ (p.sigs.take i) p.sigs[i].2.1 p.sigs[i].2.2=0
theorem sigs_iff {p:Pl}:vO p↔SigsP p:=by
 constructor
 ·intro h
  have hr:zBo kSg p.sigs:=fun i hi=>⟨(h.each i hi).1,(h.each i hi).2.1,fun j hj=>((h.each i hi).2.2.2 j (by omega)).1⟩
  refine⟨h.n,hr,fun i hi=>?_⟩
  obtain⟨-,-,⟨k,hk,ha,h0,hn⟩,hm⟩:=h.each i hi
  refine⟨h0,(endsN_iff h0).2 ⟨k,hk,ha,hn⟩,zAb fun j hj=>?_⟩
  rw[List.length_take] at hj
  rw[List.getElem_take]
  exact(hm j (by omega)).2
 ·intro h
  refine⟨h.n,fun i hi=>?_⟩
  obtain⟨h0,hn,hs⟩:=h.each i hi
  obtain⟨k,hk,ha,he⟩:=(endsN_iff h0).1 hn
  refine⟨(h.rise i hi).1,(h.rise i hi).2.1,⟨k,hk,ha,h0,he⟩,fun m hm=>⟨List.pairwise_iff_getElem.1 h.rise.pair m i (by omega) hi hm,?_⟩⟩
  have:=(stands_zero (l:=p.sigs.take i) (fun j hj=>by rw[List.getElem_take];rw[List.length_take] at hj;exact(h.rise j (by omega)).1)).1 hs m (by rw[List.length_take];omega)
  rw[List.getElem_take] at this
  exact this
structure zB9 (p:Pl) (r:Rt):Prop where
 entry:∃k,∃hk:k<p.sigs.length,at1 kSg p.sigs r.entry=(k:Int)∧∀i (h:i<(r.path++r.over).length),(r.path++r.over)[i]≠p.sigs[k].2.1
 exit:r.exit≠0→0≤at1 kSg p.sigs r.exit∧r.exit≠r.entry
 over0:r.exit=0→r.over.length=0
 path:1≤r.path.length∧r.path.length≤6
 over:r.over.length≤2
 secs:∀i (h:i<(r.path++r.over).length),0≤atS p.secs (r.path++r.over)[i]∧∀m (hm:m<i),(r.path++r.over)[m]≠(r.path++r.over)[i]
structure FlanksP (p:Pl) (l:List Jn):Prop where
 n:l.length≤3
 each:∀i (h:i<l.length),0≤at1 kPt p.pts l[i].1∧(∀j (hj:j+1=i),(l[j]'(by omega)).1<l[i].1)∧1≤l[i].2∧l[i].2≤2
theorem zDc {p:Pl} {r:Rt}:jQ p r↔(1≤r.timer∧r.timer≤9)∧zB9 p r∧FlanksP p r.flanks:=
 ⟨fun h=>⟨h.timer,⟨h.entry,h.exit,h.over0,h.path,h.over,h.secs⟩,⟨h.flank,h.flanks⟩⟩,fun⟨a,b,c⟩=>⟨b.entry,b.exit,b.over0,b.path,b.over,c.n,a,b.secs,c.each⟩⟩
structure zCx (p:Pl):Prop where
 n:p.routes.length≤16
 rise:zBo kRt p.routes
 each:∀i (h:i<p.routes.length),jQ p p.routes[i]
structure VersP (p:Pl):Prop where
 ver:1≤p.ver∧p.ver≤2147483647
 par:0≤p.par∧p.par<p.ver
theorem zAp {p:Pl}:xU p↔VersP p∧TMay p.secs∧yT p∧vO p∧zCx p:=
 ⟨fun h=>⟨⟨h.ver,h.par⟩,h.secs,h.pts,h.sigs,⟨h.n,fun i hi=>⟨(h.each i hi).1.1,(h.each i hi).1.2,(h.each i hi).2.1⟩,fun i hi=>(h.each i hi).2.2⟩⟩,
  fun⟨a,b,c,d,e⟩=>⟨a.ver,a.par,e.n,b,c,d,fun i hi=>⟨⟨(e.rise i hi).1,(e.rise i hi).2.1⟩,(e.rise i hi).2.2,e.each i hi⟩⟩⟩
noncomputable def xS (P:Prop):Bool:=@decide P (Classical.propDecidable _)
theorem jK {P:Prop} (h:P):xS P=true:=by rw[xS];exact @decide_eq_true _ (Classical.propDecidable _) h
theorem qR {P:Prop} (h:¬P):xS P=false:=by rw[xS];exact @decide_eq_false _ (Classical.propDecidable _) h
theorem zAx {P:Prop}:xS P=true↔P:=by rw[xS];exact @decide_eq_true_iff _ (Classical.propDecidable _)
end Go.Proofs.YtemmgmjhomgbbaaGreat
