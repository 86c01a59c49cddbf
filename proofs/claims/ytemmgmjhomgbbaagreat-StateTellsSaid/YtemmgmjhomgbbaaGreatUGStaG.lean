/-
 Maps whose keys are numbers, out of which nothing is ever taken: what they hold, look-ups, stores.
 Conditions: none.
-/
import Derived.Maps.OwnIn
import Derived.Test.YtemmgmjhomgbbaaGreatUGBase
import Derived.Test.YtemmgmjhomgbbaaGreatUGStaO
import Derived.Test.YtemmgmjhomgbbaaGreatUGWayM
import Derived.Test.YtemmgmjhomgbbaaGreatUGStaMem
set_option linter.unusedVariables false
set_option linter.unusedSimpArgs false
set_option maxRecDepth 100000
namespace Go.Proofs.YtemmgmjhomgbbaaGreat
open Go.RowKit
abbrev KI:=Int
def yA (k:KI):Value:=.int .i64 k
abbrev qT:=List (KI×Value)
def qP:Nat→qT→List MapEntry
 | _,[]=>[]
 | n,p::r=>⟨yA p.1,p.2,n⟩::qP (n+1) r
def yJ (es:qT):Array MapEntry:=(qP 0 es).toArray
theorem zCa:∀(es:qT) (n:Nat),(qP n es).length=es.length
 | [],_=>rfl
 | p::r,n=>by simp[qP,zCa r (n+1)]
theorem ents_sizeI (es:qT):(yJ es).size=es.length:=by simp[yJ,zCa]
theorem zCl:∀(a b:qT) (n:Nat),qP n (a++b)=qP n a++qP (n+a.length) b
 | [],b,n=>by simp[qP]
 | p::r,b,n=>by
  simp only[List.cons_append,qP,zCl r b (n+1),List.length_cons]
  rw[show n+1+r.length=n+(r.length+1) by omega]
theorem zCb:∀(es:qT) (n i:Nat),(qP n es)[i]? = es[i]?.map fun p=>⟨yA p.1,p.2,n+i⟩
 | [],n,i=>by simp[qP]
 | p::r,n,0=>by simp[qP]
 | p::r,n,i+1=>by
  simp only[qP,List.getElem?_cons_succ,zCb r (n+1) i]
  rw[show n+1+i=n+(i+1) by omega]
theorem zDu:∀(es:qT) (n i:Nat) (x:KI) (v:Value),qP n (es.set i (x,v))=(qP n es).set i ⟨yA x,v,n+i⟩
 | [],n,i,x,v=>by simp[qP]
 | p::r,n,0,x,v=>by simp[qP]
 | p::r,n,i+1,x,v=>by
  simp only[List.set_cons_succ,qP,zDu r (n+1) i]
  rw[show n+1+i=n+(i+1) by omega]
def qS:qT→KI→Option Value
 | [],_=>none
 | p::r,x=>if x=p.1 then some p.2 else qS r x
def idxI (x:KI):qT→Nat→Option (Nat×Value)
 | [],_=>none
 | p::r,i=>if x=p.1 then some (i,p.2) else idxI x r (i+1)
theorem idx_lookI (x:KI):∀(es:qT) (n:Nat),(idxI x es n).map (·.2)=qS es x
 | [],n=>rfl
 | p::r,n=>by
  unfold idxI qS
  split
  ·rfl
  ·exact idx_lookI x r (n+1)
theorem idx_atI (x:KI):∀(es:qT) (n:Nat) (i:Nat) (v:Value),idxI x es n=some (i,v)→n≤i∧es[i-n]? = some (x,v)
 | [],n,i,v,h=>by cases h
 | p::r,n,i,v,h=>by
  unfold idxI at h
  split at h
  ·rename_i e
   cases h
   refine⟨Nat.le_refl _,?_⟩
   rw[Nat.sub_self]
   obtain⟨k,u⟩:=p
   cases e
   rfl
  ·obtain⟨h1,h2⟩:=idx_atI x r (n+1) i v h
   refine⟨by omega,?_⟩
   rw[show i-n=i-(n+1)+1 by omega]
   exact h2
theorem idx_noneI {x:KI}:∀ {es:qT} {n:Nat},idxI x es n=none→x∉es.map (·.1)
 | [],n,_=>by simp
 | p::r,n,h=>by
  unfold idxI at h
  split at h
  ·cases h
  ·rename_i e
   simp only[List.map_cons,List.mem_cons,not_or]
   exact⟨e,idx_noneI h⟩
def jZ (es:qT):Prop:=(es.map (·.1)).Nodup
def vU (es:qT) (x:KI) (v:Value):qT:=match idxI x es 0 with
 | some (i,_)=>es.set i (x,v)
 | none=>es++[(x,v)]
theorem look_setI {x:KI} (v:Value):∀(es:qT) (i:Nat) (u:Value),jZ es→es[i]? = some (x,u)→∀y,qS (es.set i (x,v)) y=if y=x then some v else qS es y
 | [],i,u,hn,h,y=>by simp at h
 | p::r,0,u,hn,h,y=>by
  simp at h
  subst h
  simp only[List.set_cons_zero,qS]
  split<;>rfl
 | p::r,i+1,u,hn,h,y=>by
  simp only[List.getElem?_cons_succ] at h
  unfold jZ at hn
  rw[List.map_cons,List.nodup_cons] at hn
  simp only[List.set_cons_succ,qS]
  rw[look_setI v r i u hn.2 h y]
  by_cases e:y=p.1
  ·rw[if_pos e,if_pos e,if_neg]
   intro e2
   exact hn.1 (by rw[←e,e2];exact List.mem_map.2 ⟨_,List.mem_iff_getElem?.2 ⟨i,h⟩,rfl⟩)
  ·rw[if_neg e,if_neg e]
theorem keys_setI {x:KI} (v:Value):∀(es:qT) (i:Nat) (u:Value),es[i]? = some (x,u)→(es.set i (x,v)).map (·.1)=es.map (·.1)
 | [],i,u,h=>by simp at h
 | p::r,0,u,h=>by simp at h;subst h;rfl
 | p::r,i+1,u,h=>by
  simp only[List.getElem?_cons_succ] at h
  simp only[List.set_cons_succ,List.map_cons,keys_setI v r i u h]
theorem look_appendI (x:KI) (v:Value) (y:KI):∀(es:qT),x∉es.map (·.1)→qS (es++[(x,v)]) y=if y=x then some v else qS es y
 | [],_=>by
  simp only[List.nil_append,qS]
 | p::r,h=>by
  simp only[List.map_cons,List.mem_cons,not_or] at h
  simp only[List.cons_append,qS,look_appendI x v y r h.2]
  by_cases e:y=p.1
  ·rw[if_pos e,if_pos e,if_neg fun e2=>h.1 (e2.symm.trans e)]
  ·rw[if_neg e,if_neg e]
theorem look_putI {es:qT} (hn:jZ es) (x:KI) (v:Value) (y:KI):qS (vU es x v) y=if y=x then some v else qS es y:=by
 unfold vU
 cases h:idxI x es 0 with
 | some q=>
  obtain⟨i,u⟩:=q
  exact look_setI v es i u hn (by simpa using(idx_atI x es 0 i u h).2) y
 | none=>exact look_appendI x v y es (idx_noneI h)
theorem put_ndI {es:qT} (hn:jZ es) (x:KI) (v:Value):jZ (vU es x v):=by
 unfold vU
 cases h:idxI x es 0 with
 | some q=>
  obtain⟨i,u⟩:=q
  unfold jZ
  rw[keys_setI v es i u (by simpa using(idx_atI x es 0 i u h).2)]
  exact hn
 | none=>
  have:=idx_noneI h
  unfold jZ at hn⊢
  rw[List.map_append,List.nodup_append]
  refine⟨hn,by simp,?_⟩
  intro a ha b hb
  simp at hb
  subst hb
  exact fun e=>this (e▸ha)
def xF (W:World) (b:Nat) (es:qT):Prop:=W.heap[b]? = some (.map (yJ es) es.length)
theorem xF.lt {W:World} {b:Nat} {es:qT} (h:xF W b es):b<W.heap.size:=(Array.getElem?_eq_some_iff.1 h).1
theorem xF.below {W W':World} {b n:Nat} {es:qT} (h:xF W b es) (hb:Below n W W') (hn:b<n):xF W' b es:=(hb.block b hn).trans h
section
variable {P:Program} {k:TypeId}
theorem zDv {q:IntKind} (x:Int):∀(es:qT) (n i:Nat),Instr.findNow (.int q) (yA x) (qP n es) i=some (idxI x es i)
 | [],n,i=>by simp[qP,Instr.findNow,idxI]
 | p::r,n,i=>by
  simp only[qP,Instr.findNow,Instr.sameNow,yA,if_pos,idxI]
  by_cases e:x=p.1
  ·simp[e]
  ·have:=zDv (q:=q) x r (n+1) (i+1)
   simp only[yA] at this
   have hb:(x==p.1)=false:=by simpa using e
   simp[hb,e,this]
theorem run_findKeyI {q:IntKind} (K:P.underlying k=some (.int q)) (x:Int) (es:qT) (w:World):(Instr.findKey k (yA x) (qP 0 es)).run P w = .ok (idxI x es 0) w:=by
 simp only[Instr.findKey,Sem.run_bind,run_underlying K,Result.andThen_ok,zDv,Sem.run_pure]
theorem run_keyStaysI (x:Int) (w:World):(Instr.keyThatStays (yA x) (yA x)).run P w = .ok (yA x) w:=by
 have h:Instr.sameBits 10000 (yA x) (yA x)=true:=by
  unfold yA
  rw[show(10000:Nat)=9999+1 from rfl]
  simp[Instr.sameBits]
 simp[Instr.keyThatStays,h]
theorem checkKey_int15 (em:Bool) (n:Nat) (t:TypeId) {q:IntKind} (h:P.underlying t=some (.int q)) (k':IntKind) (z:Int) (w:World):(Instr.checkKey em (n+1) t (.int k' z)).run P w = .ok () w:=by
 simp[Instr.checkKey,run_underlying h]
theorem run_checkI {q:IntKind} (K:P.underlying k=some (.int q)) (em:Bool) (x:Int) (w:World):(Instr.checkKey em 10000 k (yA x)).run P w = .ok () w:=checkKey_int15 em 9999 k K .i64 x w
theorem run_lookupI {q:IntKind} (K:P.underlying k=some (.int q)) {t e:TypeId} (ht:P.underlying t=some (.map k e)) {w:World} {b:Nat} {es:qT} (hb:xF w b es) (x:KI) {z:Value} (hz:(zeroValue e).run P w = .ok z w) (ok:Bool):
  (Instr.lookup t (.map (some b)) (yA x) ok).run P w = .ok (if ok then .tuple #[(qS es x).getD z,.bool (qS es x).isSome] else (qS es x).getD z) w:=by
 have hb':w.heap[b]? = some (.map (yJ es) es.length):=hb
 have hl:=idx_lookI x es 0
 have hf:=run_findKeyI K x es w
 simp only[Instr.lookup,Sem.run_bind,run_underlying ht,Result.andThen_ok,MapKept.run_getObj_map hb',Sem.run_pure,run_checkI K]
 rw[show(yJ es).toList=qP 0 es from rfl,hf]
 rw[←hl]
 cases idxI x es 0 with
 | none=>cases ok<;>simp[hz]
 | some qq=>cases ok<;>simp
theorem run_updateI {q:IntKind} (K:P.underlying k=some (.int q)) {t e:TypeId} (ht:P.underlying t=some (.map k e)) {w:World} {b:Nat} {es:qT} (hb:xF w b es) (x:KI) (v:Value):
  ∃w',(Instr.mapUpdate t (.map (some b)) (yA x) v).run P w = .ok () w'∧xF w' b (vU es x v)∧w.grownBy w' (some b)∧w'.heap.size=w.heap.size:=by
 have hb':w.heap[b]? = some (.map (yJ es) es.length):=hb
 have hf:=run_findKeyI K x es w
 have hst:∀o',(setObj b o').run P w = .ok () (ChangeMaps.setBlock w b o'):=fun o'=>by simp[setObj,Sem.run,hb',ChangeMaps.setBlock]
 have hg:∀o',w.grownBy (ChangeMaps.setBlock w b o') (some b):=fun o'=>⟨rfl,rfl,rfl,by simp[ChangeMaps.setBlock],fun i hi hne=>ChangeMaps.heap_setBlock_other hb' o' fun e=>hne (by rw[e])⟩
 cases hi:idxI x es 0 with
 | none=>
  refine⟨ChangeMaps.setBlock w b (.map (yJ (vU es x v)) (vU es x v).length),?_,ChangeMaps.heap_setBlock_same hb' _,hg _,by simp[ChangeMaps.setBlock]⟩
  have e1:vU es x v=es++[(x,v)]:=by unfold vU;rw[hi]
  have e2:yJ (vU es x v)=(yJ es).push ⟨yA x,v,es.length⟩:=by
   rw[e1]
   simp[yJ,zCl,qP]
  simp only[Instr.mapUpdate,Sem.run_bind,run_underlying ht,Result.andThen_ok,MapKept.run_getObj_map hb',run_checkI K]
  rw[show(yJ es).toList=qP 0 es from rfl,hf,hi]
  simp only[Result.andThen_ok,hst]
  rw[e2,e1]
  simp
 | some qq=>
  obtain⟨i,u⟩:=qq
  have hat:=(idx_atI x es 0 i u hi).2
  rw[Nat.sub_zero] at hat
  refine⟨ChangeMaps.setBlock w b (.map (yJ (vU es x v)) (vU es x v).length),?_,ChangeMaps.heap_setBlock_same hb' _,hg _,by simp[ChangeMaps.setBlock]⟩
  have e1:vU es x v=es.set i (x,v):=by unfold vU;rw[hi]
  have hgi:(yJ es)[i]? = some ⟨yA x,u,i⟩:=by
   have:=zCb es 0 i
   rw[hat] at this
   simpa [yJ] using this
  have hlt:i<(yJ es).size:=by
   have:=(List.getElem?_eq_some_iff.1 hat).1
   rw[ents_sizeI];exact this
  have e2:yJ (vU es x v)=(yJ es).modify i fun e=>{ e with key:=yA x,val:=v }:=by
   rw[e1]
   apply Array.toList_inj.1
   rw[show(yJ (es.set i (x,v))).toList=qP 0 (es.set i (x,v)) from rfl,zDu]
   rw[Array.toList_modify]
   apply List.ext_getElem?
   intro j
   rw[List.getElem?_modify,List.getElem?_set]
   have hgj:=zCb es 0 i
   by_cases ej:i=j
   ·subst ej
    rw[show(yJ es).toList=qP 0 es from rfl,hgj,hat]
    have:i<(qP 0 es).length:=by rw[zCa];exact(List.getElem?_eq_some_iff.1 hat).1
    simp[this]
   ·simp[ej,yJ]
  simp only[Instr.mapUpdate,Sem.run_bind,run_underlying ht,Result.andThen_ok,MapKept.run_getObj_map hb',run_checkI K]
  rw[show(yJ es).toList=qP 0 es from rfl,hf,hi]
  have hks:∀W,(Instr.keyThatStays (yA x) (yA x)).run P W = .ok (yA x) W:=fun W=>run_keyStaysI x W
  simp only[Result.andThen_ok,hgi,Option.map_some,Option.getD_some]
  rw[Sem.run_bind,hks]
  simp only[Result.andThen_ok,hst]
  rw[e2,e1]
  simp
end
section
variable {P:Program} {k:TypeId} (w:World) {ops:Array Oper} {rest:List Oper} {o:Oper} {a:Act} {Q:Exit→Act→World→Prop}
theorem yB (hg:o.guard=none) (m x:Operand) (t e:TypeId) (ok:Bool) (hop:o.op=Op.lookup t m x ok) {q:IntKind} (K:P.underlying k=some (.int q)) (ht:P.underlying t=some (.map k e)) {z:Value} (hz:(zeroValue e).run P w = .ok z w) (b:Nat) (es:qT) (y:KI)
  (hm:a.eval m = .map (some b)) (hx:a.eval x=yA y) (hb:xF w b es)
  (hK:wpList P ops Q rest (a.put o.dst (if ok then .tuple #[(qS es y).getD z,.bool (qS es y).isSome] else (qS es y).getD z)) w):
  wpList P ops Q (o::rest) a w:=by
 refine wpList_plain hg fun K' hK'=>?_
 have hrun:=run_lookupI K ht hb y hz ok
 unfold Oper.wp
 simp only[execOp,hop,hm,hx,Sem.run_bind,hrun,Result.andThen,Sem.run_pure]
 exact hK' _ _ hK
theorem zDh (hg:o.guard=none) (m x v:Operand) (t e:TypeId) (hop:o.op=Op.mapUpdate t m x v) {q:IntKind} (K:P.underlying k=some (.int q)) (ht:P.underlying t=some (.map k e)) (b:Nat) (es:qT) (y:KI) (u:Value)
  (hm:a.eval m = .map (some b)) (hx:a.eval x=yA y) (hv:a.eval v=u) (hb:xF w b es)
  (hK:∀w',xF w' b (vU es y u)→w.grownBy w' (some b)→w'.heap.size=w.heap.size→wpList P ops Q rest (a.put o.dst undef) w'):
  wpList P ops Q (o::rest) a w:=by
 refine wpList_plain hg fun K' hK'=>?_
 obtain⟨w',hrun,r1,r2,r3⟩:=run_updateI K ht hb y u
 unfold Oper.wp
 simp[execOp,hop,hm,hx,hv,hrun,Result.andThen]
 exact hK' _ _ (hK w' r1 r2 r3)
end
def putH (es:qT) (id:Int) (xs:List Int):qT:=xs.foldl (fun es x=>vU es x (.int .i64 id)) es
def putA (fs:qT) (xs:List Ak):qT:=xs.foldl (fun es x=>vU es x.1 (.int .i64 x.2.1)) fs
theorem putH_snoc (es:qT) (id:Int) (xs:List Int) (x:Int):putH es id (xs++[x])=vU (putH es id xs) x (.int .i64 id):=by simp[putH]
theorem putA_snoc (fs:qT) (xs:List Ak) (x:Ak):putA fs (xs++[x])=vU (putA fs xs) x.1 (.int .i64 x.2.1):=by simp[putA]
theorem putH_nd {id:Int}:∀(xs:List Int) (es:qT),jZ es→jZ (putH es id xs)
 | [],es,h=>h
 | x::r,es,h=>putH_nd (id:=id) r _ (put_ndI h x _)
theorem putA_nd:∀(xs:List Ak) (fs:qT),jZ fs→jZ (putA fs xs)
 | [],fs,h=>h
 | x::r,fs,h=>putA_nd r _ (put_ndI h x.1 _)
theorem putH_look {id:Int}:∀(xs:List Int) (es:qT),jZ es→∀y,qS (putH es id xs) y=if y∈xs then some (.int .i64 id) else qS es y
 | [],es,h,y=>by simp[putH]
 | x::r,es,h,y=>by
  show qS (putH (vU es x (.int .i64 id)) id r) y=_
  rw[putH_look r _ (put_ndI h x _) y,look_putI h x _ y]
  by_cases e:y=x
  ·subst e;simp
  ·simp[e]
def okH (es:qT) (xs:List Int):Prop:=xs.Nodup∧∀x∈xs,qS es x=none
def okA (fs:qT) (xs:List Ak):Prop:=(∀a∈xs,∀v,qS fs a.1=some v→v = .int .i64 a.2.1)∧∀a∈xs,∀b∈xs,a.1=b.1→a.2.1=b.2.1
theorem okH_nil (es:qT):okH es []:=⟨List.nodup_nil,by simp⟩
theorem okA_nil (fs:qT):okA fs []:=⟨by simp,by simp⟩
theorem okH_snoc {es:qT} (hn:jZ es) {id:Int} {xs:List Int} {x:Int}:okH es (xs++[x])↔okH es xs∧qS (putH es id xs) x=none:=by
 rw[putH_look xs es hn x]
 unfold okH
 rw[List.nodup_append]
 constructor
 ·rintro⟨⟨h1,h2,h3⟩,h4⟩
  have hx:x∉xs:=fun hx=>h3 x hx x (by simp) rfl
  exact⟨⟨h1,fun y hy=>h4 y (List.mem_append_left _ hy)⟩,by rw[if_neg hx];exact h4 x (by simp)⟩
 ·rintro⟨⟨h1,h2⟩,h3⟩
  by_cases hx:x∈xs
  ·rw[if_pos hx] at h3;cases h3
  ·rw[if_neg hx] at h3
   refine⟨⟨h1,by simp,fun a ha b hb=>?_⟩,fun y hy=>?_⟩
   ·rw[List.mem_singleton.1 hb];exact fun e=>hx (e▸ha)
   ·rcases List.mem_append.1 hy with hy|hy
    ·exact h2 y hy
    ·rw[List.mem_singleton.1 hy];exact h3
theorem okH_pre {es:qT} {xs ys:List Int} (h:okH es (xs++ys)):okH es xs:=⟨(List.nodup_append.1 h.1).1,fun x hx=>h.2 x (List.mem_append_left _ hx)⟩
theorem okA_pre {fs:qT} {xs ys:List Ak} (h:okA fs (xs++ys)):okA fs xs:=⟨fun a ha=>h.1 a (List.mem_append_left _ ha),fun a ha b hb=>h.2 a (List.mem_append_left _ ha) b (List.mem_append_left _ hb)⟩
theorem zBg:∀(xs:List Ak) (fs:qT),jZ fs→okA fs xs→∀y v,qS (putA fs xs) y=some v↔(∃a∈xs,a.1=y∧v = .int .i64 a.2.1)∨qS fs y=some v
 | [],fs,hn,h,y,v=>by simp[putA]
 | x::r,fs,hn,h,y,v=>by
  have hr:okA (vU fs x.1 (.int .i64 x.2.1)) r:=by
   refine⟨fun a ha u hu=>?_,fun a ha b hb=>h.2 a (List.mem_cons_of_mem _ ha) b (List.mem_cons_of_mem _ hb)⟩
   rw[look_putI hn] at hu
   by_cases e:a.1=x.1
   ·rw[if_pos e] at hu
    cases hu
    rw[h.2 a (List.mem_cons_of_mem _ ha) x (List.mem_cons_self ..) e]
   ·rw[if_neg e] at hu
    exact h.1 a (List.mem_cons_of_mem _ ha) u hu
  show qS (putA (vU fs x.1 (.int .i64 x.2.1)) r) y=some v↔_
  rw[zBg r _ (put_ndI hn x.1 _) hr y v,look_putI hn]
  constructor
  ·rintro(⟨a,ha,e,hv⟩|hv)
   ·exact .inl ⟨a,List.mem_cons_of_mem _ ha,e,hv⟩
   ·by_cases e:y=x.1
    ·rw[if_pos e] at hv
     exact .inl ⟨x,List.mem_cons_self ..,e.symm,(Option.some.inj hv).symm⟩
    ·rw[if_neg e] at hv
     exact .inr hv
  ·rintro(⟨a,ha,e,hv⟩|hv)
   ·rcases List.mem_cons.1 ha with rfl|ha
    ·exact .inr (by rw[if_pos e.symm,hv])
    ·exact .inl ⟨a,ha,e,hv⟩
   ·by_cases e:y=x.1
    ·rw[if_pos e]
     have:=h.1 x (List.mem_cons_self ..) v (by rw[←e];exact hv)
     exact .inr (by rw[this])
    ·rw[if_neg e];exact .inr hv
theorem okA_snoc {fs:qT} (hn:jZ fs) {xs:List Ak} {x:Ak} (h:okA fs xs):okA fs (xs++[x])↔∀v,qS (putA fs xs) x.1=some v→v = .int .i64 x.2.1:=by
 constructor
 ·intro g v hv
  rcases(zBg xs fs hn h x.1 v).1 hv with⟨a,ha,e,rfl⟩|hv
  ·rw[g.2 a (List.mem_append_left _ ha) x (by simp) e]
  ·exact g.1 x (by simp) v hv
 ·intro g
  have key:∀a∈xs,a.1=x.1→a.2.1=x.2.1:=fun a ha e=>by
   have:=g (.int .i64 a.2.1) ((zBg xs fs hn h x.1 _).2 (.inl ⟨a,ha,e,rfl⟩))
   injection this
  refine⟨fun a ha v hv=>?_,fun a ha b hb e=>?_⟩
  ·rcases List.mem_append.1 ha with ha|ha
   ·exact h.1 a ha v hv
   ·have e:=List.mem_singleton.1 ha
    subst e
    exact g v ((zBg xs fs hn h a.1 v).2 (.inr hv))
  ·rcases List.mem_append.1 ha with h1|h1<;>rcases List.mem_append.1 hb with h2|h2
   ·exact h.2 a h1 b h2 e
   ·rw[List.mem_singleton.1 h2] at e⊢
    exact key a h1 e
   ·rw[List.mem_singleton.1 h1] at e⊢
    exact(key b h2 e.symm).symm
   ·rw[List.mem_singleton.1 h1,List.mem_singleton.1 h2]
structure vM (p:Pl) (s:qD) (i:Nat) (es fs:qT):Prop where
 nd:jZ es
 nd2:jZ fs
 h:∀x v,qS es x=some v↔∃k,k<i∧x∈jH p s k∧v = .int .i64 (lkN s k).1
 l:∀x v,qS fs x=some v↔∃k,k<i∧∃a∈jN p s k,a.1=x∧v = .int .i64 a.2.1
 apart:∀j k,j<i→k<j→∀x,x∈jH p s k→x∉jH p s j
theorem claim_zero (p:Pl) (s:qD):vM p s 0 [] []:=⟨List.nodup_nil,List.nodup_nil,fun x v=>by simp[qS],fun x v=>by simp[qS],fun j k hj=>by omega⟩
theorem claim_step {p:Pl} {s:qD} {i:Nat} {es fs:qT} (h:vM p s i es fs) (h1:okH es (jH p s i)) (h2:okA fs (jN p s i)):vM p s (i+1) (putH es (lkN s i).1 (jH p s i)) (putA fs (jN p s i)):=by
 refine⟨putH_nd _ _ h.nd,putA_nd _ _ h.nd2,fun x v=>?_,fun x v=>?_,fun j k hj hk x hx=>?_⟩
 ·rw[putH_look _ _ h.nd]
  by_cases hx:x∈jH p s i
  ·rw[if_pos hx]
   constructor
   ·intro e;exact⟨i,by omega,hx,(Option.some.inj e).symm⟩
   ·rintro⟨k,hk,hxk,rfl⟩
    by_cases ek:k=i
    ·subst ek;rfl
    ·have:=(h.h x _).2 ⟨k,by omega,hxk,rfl⟩
     rw[h1.2 x hx] at this;cases this
  ·rw[if_neg hx,h.h x v]
   constructor
   ·rintro⟨k,hk,r⟩;exact⟨k,by omega,r⟩
   ·rintro⟨k,hk,hxk,e⟩
    have:k≠i:=fun ek=>hx (ek▸hxk)
    exact⟨k,by omega,hxk,e⟩
 ·rw[zBg _ _ h.nd2 h2,h.l x v]
  constructor
  ·rintro(⟨a,ha,e,hv⟩|⟨k,hk,r⟩)
   ·exact⟨i,by omega,a,ha,e,hv⟩
   ·exact⟨k,by omega,r⟩
  ·rintro⟨k,hk,a,ha,e,hv⟩
   by_cases ek:k=i
   ·subst ek;exact .inl ⟨a,ha,e,hv⟩
   ·exact .inr ⟨k,by omega,a,ha,e,hv⟩
 ·by_cases ej:j=i
  ·subst ej
   intro hxj
   have:=(h.h x _).2 ⟨k,hk,hx,rfl⟩
   rw[h1.2 x hxj] at this;cases this
  ·exact h.apart j k (by omega) hk x hx
theorem held_nodup {p:Pl} {s:qD} (h:xU p) (hp:vV p s) {i:Nat} (hi:i<s.lk.length):(jH p s i).Nodup:=by
 have hi':i<p.routes.length:=by rw[←hp.nl];exact hi
 have hr:=(jO h hi' rfl).route.secs
 unfold jH heldL
 split
 ·exact List.nodup_nil
 ·rw[vP hi']
  have hn:(p.routes[i].path++p.routes[i].over).Nodup:=by
   rw[List.nodup_iff_pairwise_ne,List.pairwise_iff_getElem]
   exact fun a b ha hb hab=>(hr b hb).2 a hab
  rw[List.nodup_append] at hn⊢
  exact⟨List.Nodup.sublist (List.drop_sublist _ _) hn.1,hn.2.1,fun a ha b hb=>hn.2.2 a (List.mem_of_mem_drop ha) b hb⟩
theorem claim_badH {p:Pl} {s:qD} {i:Nat} {es fs:qT} (hs:xU p) (hp:vV p s) (h:vM p s i es fs) (hi:i<s.lk.length) (hb:¬okH es (jH p s i)):¬yD p s:=fun g=>hb ⟨held_nodup hs hp hi,fun x hx=>by
 cases e:qS es x with
 | none=>rfl
 | some v=>
  obtain⟨k,hk,hxk,-⟩:=(h.h x v).1 e
  exact absurd hx (g.held i k hi hk x hxk)⟩
theorem claim_badA {p:Pl} {s:qD} {i:Nat} {es fs:qT} (h:vM p s i es fs) (hi:i<s.lk.length) (hb:¬okA fs (jN p s i)):¬yD p s:=fun g=>hb ⟨fun a ha v hv=>by
 obtain⟨k,hk,b,hb,e,rfl⟩:=(h.l a.1 v).1 hv
 rw[←g.asked i hi a ha,←g.asked k (by omega) b hb,e],fun a ha b hb e=>by rw[←g.asked i hi a ha,←g.asked i hi b hb,e]⟩
theorem claim_bad {p:Pl} {s:qD} {i:Nat} {es fs:qT} (hs:xU p) (hp:vV p s) (h:vM p s i es fs) (hi:i<s.lk.length) (hb:¬(okH es (jH p s i)∧okA fs (jN p s i))):¬yD p s:=by
 by_cases h1:okH es (jH p s i)
 ·exact claim_badA h hi fun h2=>hb ⟨h1,h2⟩
 ·exact claim_badH hs hp h hi h1
theorem zDy {p:Pl} {s:qD} (hm:xU p) (h:vV p s) {n:Nat} (hn:n<s.sw.length):callN p s s.sw[n].1=s.sw[n].2.2:=by
 have hns:=h.ns
 have e:=(h.sw n hn).1
 have ha:at1 (fun x:Jn=>x.1) p.pts s.sw[n].1=(n:Int):=vT (by omega) e.symm (fun j hj=>by rw[e];exact Int.ne_of_lt (pts_rise15 hm n j hj (by omega)))
 unfold callN
 rw[ha,Int.toNat_natCast,List.getD,List.getElem?_eq_getElem hn,Option.getD_some]
theorem claim_call {p:Pl} {s:qD} {es fs:qT} (hs:jB p) (hp:vV p s) (h:vM p s s.lk.length es fs) {n:Nat} (hn:n<s.sw.length) {lie:Int} (hl:qS fs s.sw[n].1=some (.int .i64 lie)) (hne:lie≠s.sw[n].2.2):¬yD p s:=fun g=>by
 obtain⟨k,hk,a,ha,e,ev⟩:=(h.l _ _).1 hl
 injection ev with _ ev
 have:=g.asked k hk a ha
 rw[e,zDy hs.may hp hn] at this
 exact hne (by rw[ev,this])
theorem claim_may {p:Pl} {s:qD} {es fs:qT} (hs:jB p) (hp:vV p s) (h:vM p s s.lk.length es fs) (hc:∀n (hn:n<s.sw.length),∀lie,qS fs s.sw[n].1=some (.int .i64 lie)→lie=s.sw[n].2.2):yD p s:=by
 refine⟨hs,hp,fun i k hi hk=>h.apart i k hi hk,fun i hi x hx=>?_⟩
 have hi':i<p.routes.length:=by rw[←hp.nl];exact hi
 have hxw:x∈(kH p p.routes[i]).asks:=by
  unfold jN zBs at hx
  split at hx
  ·cases hx
  ·rw[vP hi'] at hx
   exact(List.mem_filter.1 hx).1
 obtain⟨j,hj,e1,e2⟩:=zCk (ask_in (jO hs.may hi' rfl) (hs.each i hi').hangs hxw).1
 have hj':j<s.sw.length:=by rw[hp.ns];exact hj
 have e3:s.sw[j].1=x.1:=by rw[(hp.sw j hj').1];exact e2
 have:=hc j hj' x.2.1 (by rw[e3];exact(h.l _ _).2 ⟨i,hi,x,hx,rfl,rfl⟩)
 rw[←e3,zDy hs.may hp hj',this]
theorem claim_who {p:Pl} {s:qD} {es fs:qT} (g:yD p s) (h:vM p s s.lk.length es fs) (sec:Int):(qS es sec).getD (.int .i64 0) = .int .i64 (whoL p s sec):=by
 cases e:qS es sec with
 | none=>
  rw[who_none fun i hi hx=>by
   have:=(h.h sec _).2 ⟨i,hi,hx,rfl⟩
   rw[e] at this;cases this]
  rfl
 | some v=>
  obtain⟨k,hk,hx,rfl⟩:=(h.h sec v).1 e
  rw[(who_iff g hk sec).2 hx]
  rfl
theorem claim_lie {p:Pl} {s:qD} {es fs:qT} (g:yD p s) (h:vM p s s.lk.length es fs) (pt:Int):(qS fs pt).getD (.int .i64 0) = .int .i64 (lieL p s pt):=by
 cases e:qS fs pt with
 | none=>
  rw[lie_none fun i hi x hx he=>by
   have:=(h.l pt _).2 ⟨i,hi,x,hx,he,rfl⟩
   rw[e] at this;cases this]
  rfl
 | some v=>
  obtain⟨k,hk,a,ha,rfl,rfl⟩:=(h.l pt v).1 e
  rw[lie_of g hk ha]
  rfl
theorem zeroI15 (w:World):(zeroValue 3).run Tryz.prog w = .ok (.int .i64 0) w:=Tryz.zeroValue3 w
noncomputable def okB (P:Prop):Bool:=@decide P (Classical.propDecidable _)
theorem yP {P:Prop} (h:P):okB P=true:=by rw[okB];exact @decide_eq_true _ (Classical.propDecidable _) h
theorem zBv {P:Prop} (h:¬P):okB P=false:=by rw[okB];exact @decide_eq_false _ (Classical.propDecidable _) h
theorem zDx {W W':World} {b n:Nat} (hg:W.grownBy W' (some b)) (hb:n≤b) (hn:n≤W.heap.size):Below n W W':=(Below.refl n W).grown hg hn (fun k e=>by cases e;exact hb)
set_option maxHeartbeats 4000000 in
theorem take1_any (x:Int) (pc pl m1 m2:Nat) (es:qT) (a b c d:Int) (w:World) (hc:w.heap[pc]? = some (.cells #[.map (some m1),.map (some m2)] 70 (0,0))) (hl:w.heap[pl]? = some (.cells #[.int .i64 a,.int .u8 b,.int .i64 c,.int .i64 d] 53 (0,0))) (hm:xF w m1 es):
  Calls Tryz.prog 78 #[.int .i64 x,.pointer (some ⟨pc,0,none⟩),.pointer (some ⟨pl,0,none⟩)] w fun e w'=>e = .returned (.bool (!(qS es x).isSome))∧xF w' m1 (vU es x (.int .i64 a))∧w.grownBy w' (some m1):=by
 have HC:=zD0 hc
 have HL:=zD0 hl
 have HM:=zD0 hm
 obtain⟨k0,k1⟩:=zI hc
 obtain⟨l0,l1,l2,l3⟩:=qC hl
 clear hc hl hm
 go_enter Tryz.func78,Tryz.ntmps78
 obtain⟨sm,hsm⟩:∃t:Bool,t=(qS es x).isSome:=⟨_,rfl⟩
 have HS:=zD0 hsm
 rw[←hsm]
 clear hsm
 go_upto_region 2 with(((with_reducible show wpList _ _ _ (⟨some 11,.lookup _ _ _ _,_,_,_,_⟩::_) _ _);refine yB _ rfl (.tmp 9) (.tmp 10) 68 3 true rfl Tryz.underlying3 Tryz.underlying68 (zeroI15 _) m1 es x rfl rfl HM.out ?_;rw[if_pos rfl]);rw[←HS.out])
 generalize (qS es x).getD (.int .i64 0)=u0
 go_upto_region 3 with((with_reducible show wpList _ _ _ (⟨none,.mapUpdate _ _ _ _,_,_,_,_⟩::_) _ _);refine zDh _ rfl (.tmp 15) (.tmp 16) (.tmp 18) 68 3 rfl Tryz.underlying3 Tryz.underlying68 m1 es x (.int .i64 a) rfl rfl rfl HM.out ?_;intro w5 hm5 hg5 hs5;go_frame)
 have H5:=zD0 hm5
 have G5:=zD0 hg5
 clear hm5 hg5 hs5 k0 k1 l0 l1 l2 l3
 go_wp2_with fail
 go_ret
 exact⟨rfl,H5.out,G5.out⟩
set_option maxHeartbeats 4000000 in
theorem take2_any (k:Ak) (pc m1 m2:Nat) (fs:qT) (w:World) (hc:w.heap[pc]? = some (.cells #[.map (some m1),.map (some m2)] 70 (0,0))) (hm:xF w m2 fs) (hv:∀v,qS fs k.1=some v→∃z:Int,v = .int .i64 z):
  Calls Tryz.prog 80 #[.agg #[.int .i64 k.1,.int .i64 k.2.1,.int .i64 k.2.2],.pointer (some ⟨pc,0,none⟩)] w fun e w'=>e = .returned (.bool (okB (∀v,qS fs k.1=some v→v = .int .i64 k.2.1)))∧xF w' m2 (vU fs k.1 (.int .i64 k.2.1))∧w.grownBy w' (some m2):=by
 obtain⟨x,lie,at_⟩:=k
 have HV:=zD0 hv
 have q0:=zB w (.cells #[.int .i64 x,.int .i64 lie,.int .i64 at_] 108)
 have qb:=zD w (.cells #[.int .i64 x,.int .i64 lie,.int .i64 at_] 108)
 have hlt:=hm.lt
 have hc':=(qb.block _ (zA hc)).trans hc
 have hm':xF _ m2 fs:=(qb.block _ hlt).trans hm
 go_enter Tryz.func80,Tryz.ntmps80
 go_upto_region 1 with fail
 generalize hp:w.heap.size=p at q0 qb hlt⊢
 have HP:=zD0 hp
 clear hp
 generalize w.alloc (.cells #[.int .i64 x,.int .i64 lie,.int .i64 at_] 108)=q at q0 qb hc' hm'⊢
 have HC:=zD0 hc'
 have HM:=zD0 hm'
 have Q0:=zD0 q0
 have QB:=zD0 qb
 have HLT:=zD0 hlt
 obtain⟨k0,k1⟩:=zI hc'
 obtain⟨j0,j1,j2⟩:=zC q0
 clear hc hc' hm hm' hv q0 qb hlt
 obtain⟨sm,hsm⟩:∃t:Bool,t=(qS fs x).isSome:=⟨_,rfl⟩
 have HS:=zD0 hsm
 clear hsm
 obtain⟨z,hz⟩:∃z:Int,(qS fs x).getD (.int .i64 0) = .int .i64 z∧(sm=true→qS fs x=some (.int .i64 z)):=by
  cases e:qS fs x with
  | none=>exact⟨0,rfl,fun h=>by rw[HS.out,e] at h;cases h⟩
  | some v=>
   obtain⟨z,rfl⟩:=HV.out v e
   exact⟨z,rfl,fun _=>rfl⟩
 have HZ:=zD0 hz.1
 have HY:=zD0 hz.2
 clear hz
 go_upto_region 2 with(((with_reducible show wpList _ _ _ (⟨some 11,.lookup _ _ _ _,_,_,_,_⟩::_) _ _);refine yB _ rfl (.tmp 8) (.tmp 10) 68 3 true rfl Tryz.underlying3 Tryz.underlying68 (zeroI15 _) m2 fs x rfl rfl HM.out ?_;rw[if_pos rfl]);rw[←HS.out,HZ.out])
 go_upto_region 3 with((with_reducible show wpList _ _ _ (⟨none,.mapUpdate _ _ _ _,_,_,_,_⟩::_) _ _);refine zDh _ rfl (.tmp 15) (.tmp 17) (.tmp 19) 68 3 rfl Tryz.underlying3 Tryz.underlying68 m2 fs x (.int .i64 lie) rfl rfl rfl HM.out ?_;intro w5 hm5 hg5 hs5;go_frame)
 have H5:=zD0 hm5
 have G5:=zD0 hg5
 have J1:=zD0 (zC ((hg5.block _ (zA Q0.out) (fun e=>by have:=HLT.out;cases e;omega)).trans Q0.out))
 have BB:Hid (w.grownBy w5 (some m2)):=zD0 (World.grownBy.trans ⟨QB.out.os,QB.out.tape,QB.out.output,HP.out▸QB.out.size,fun j hj _=>QB.out.block j (HP.out▸hj)⟩ hg5)
 clear hm5 hg5 hs5 k0 k1 j0 j1 j2
 obtain⟨j0,j1,j2⟩:=J1.out
 cases sm with
 | false=>
  have HF:Hid (∀v,qS fs x=some v→v = .int .i64 lie):=zD0 (fun v hv=>by have:=HS.out;rw[hv] at this;cases this)
  go_wp2_with fail
  go_ret
  exact⟨by rw[yP HF.out];rfl,H5.out,BB.out⟩
 | true=>
  by_cases he:z=lie
  ·have he':(z==lie)=true:=by simpa using he
   have HF:Hid (∀v,qS fs x=some v→v = .int .i64 lie):=zD0 (fun v hv=>by
    have:=HY.out rfl
    rw[this] at hv
    rw[←he];exact(Option.some.inj hv).symm)
   clear he
   go_wp2_with fail
   go_ret
   exact⟨by rw[yP HF.out];rfl,H5.out,BB.out⟩
  ·have he':(z==lie)=false:=by simpa using he
   have HF:Hid (¬∀v,qS fs x=some v→v = .int .i64 lie):=zD0 (fun h=>he (by
    have:=h _ (HY.out rfl)
    injection this))
   clear he
   go_wp2_with fail
   go_ret
   exact⟨by rw[zBv HF.out];rfl,H5.out,BB.out⟩
end Go.Proofs.YtemmgmjhomgbbaaGreat
