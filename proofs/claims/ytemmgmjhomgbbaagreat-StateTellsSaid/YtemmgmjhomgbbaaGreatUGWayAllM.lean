/-
 Lists of ways, and lists of lists of ends, of the call's own.
 Conditions: none.
-/
import Derived.Test.YtemmgmjhomgbbaaGreatUGWayRefF
import Derived.Test.YtemmgmjhomgbbaaGreatUGWayRefD
set_option linter.unusedVariables false
set_option linter.unusedSimpArgs false
set_option maxRecDepth 100000
namespace Go.Proofs.YtemmgmjhomgbbaaGreat
open Go.RowKit
def WayO (lo:Nat):El Wy:=fun W B c x=>c 3=some (.int .i64 x.near)∧∃u0 u1 u2,c 0=some u0∧c 1=some u1∧c 2=some u2∧kG W lo u0 u1 u2 x ∧
 (∀k,u0.ownBlock=some k→k<B)∧(∀k,u1.ownBlock=some k→k<B)∧∀k,u2.ownBlock=some k→k<B
theorem wayO (lo:Nat):Elem (WayO lo):=⟨fun⟨h3,u0,u1,u2,h0,h1,h2,h,b0,b1,b2⟩ hb=>⟨h3,u0,u1,u2,h0,h1,h2,⟨yS jW h.path b0 hb,yS jW h.over b1 hb,yS zAc h.asks b2 hb⟩,b0,b1,b2⟩,
 fun⟨h3,u0,u1,u2,h0,h1,h2,h,b0,b1,b2⟩ hb=>⟨h3,u0,u1,u2,h0,h1,h2,h,fun k hk=>Nat.lt_of_lt_of_le (b0 k hk) hb,fun k hk=>Nat.lt_of_lt_of_le (b1 k hk) hb,fun k hk=>Nat.lt_of_lt_of_le (b2 k hk) hb⟩⟩
theorem wayO_cells {lo:Nat} {W:World} {B:Nat} (c c':Nat→Option Value) (x:Wy) (h:∀k,k<4→c k=c' k) (hx:WayO lo W B c x):WayO lo W B c' x:=by
 obtain⟨h3,u0,u1,u2,h0,h1,h2,hr⟩:=hx
 exact⟨(h 3 (by omega)).symm.trans h3,u0,u1,u2,(h 0 (by omega)).symm.trans h0,(h 1 (by omega)).symm.trans h1,(h 2 (by omega)).symm.trans h2,hr⟩
theorem wayO_grown {lo:Nat} {W W':World} {c:Nat→Option Value} {y:Wy} {g:Nat} {T:TypeId} (hT1:T≠3) (hT2:T≠108) (h:WayO lo W W.heap.size c y) (hg:W.grownBy W' (some g)) (hc:∃cur,W.heap[g]? = some (.cells cur T (0,0))):WayO lo W' W'.heap.size c y:=by
 obtain⟨h3,u0,u1,u2,h0,h1,h2,h,b0,b1,b2⟩:=h
 obtain⟨cur,hc⟩:=hc
 refine⟨h3,u0,u1,u2,h0,h1,h2,⟨qK jW h.path hg (fun k hk e=>?_),qK jW h.over hg (fun k hk e=>?_),qK zAc h.asks hg (fun k hk e=>?_)⟩,fun k hk=>Nat.lt_of_lt_of_le (b0 k hk) hg.size,fun k hk=>Nat.lt_of_lt_of_le (b1 k hk) hg.size,fun k hk=>Nat.lt_of_lt_of_le (b2 k hk) hg.size⟩
 ·subst e
  obtain⟨cur',hc',_⟩:=jL h.path hk
  rw[hc] at hc'
  injection hc' with hc'
  injection hc' with _ e
  exact hT1 e
 ·subst e
  obtain⟨cur',hc',_⟩:=jL h.over hk
  rw[hc] at hc'
  injection hc' with hc'
  injection hc' with _ e
  exact hT1 e
 ·subst e
  obtain⟨cur',hc',_⟩:=jL h.asks hk
  rw[hc] at hc'
  injection hc' with hc'
  injection hc' with _ e
  exact hT2 e
abbrev zB0 (W:World) (lo:Nat) (v:Value) (l:List Wy):Prop:=zJ 96 4 (WayO lo) W lo v l
def JsO (lo:Nat):El (List Jn):=fun W B c x=>∃u,c 0=some u∧kC W lo u x∧∀k,u.ownBlock=some k→k<B
theorem jsO (lo:Nat):Elem (JsO lo):=⟨fun⟨u,h0,h,b⟩ hb=>⟨u,h0,yS zAn h b hb,b⟩,fun⟨u,h0,h,b⟩ hb=>⟨u,h0,h,fun k hk=>Nat.lt_of_lt_of_le (b k hk) hb⟩⟩
theorem jsO_grown {lo:Nat} {W W':World} {c:Nat→Option Value} {y:List Jn} {g:Nat} {T:TypeId} (hT:T≠98) (h:JsO lo W W.heap.size c y) (hg:W.grownBy W' (some g)) (hc:∃cur,W.heap[g]? = some (.cells cur T (0,0))):JsO lo W' W'.heap.size c y:=by
 obtain⟨u,h0,h,b⟩:=h
 obtain⟨cur,hc⟩:=hc
 refine⟨u,h0,qK zAn h hg (fun k hk e=>?_),fun k hk=>Nat.lt_of_lt_of_le (b k hk) hg.size⟩
 subst e
 obtain⟨cur',hc',_⟩:=jL h hk
 rw[hc] at hc'
 injection hc' with hc'
 injection hc' with _ e
 exact hT e
abbrev JssOwn (W:World) (lo:Nat) (v:Value) (l:List (List Jn)):Prop:=zJ 58 1 (JsO lo) W lo v l
noncomputable def allE (p:Pl):Int:=if xW p then (if p.routes.all (zA8 p) then 0 else 90) else 8
noncomputable def allW (p:Pl):List Wy:=if allE p=0 then p.routes.map (kH p) else []
def zA5 (p:Pl) (r:Rt):List Jn:=zAl p r (zS r).length
noncomputable def allL (p:Pl):List (List Jn):=if allE p=0 then p.routes.map (zA5 p) else []
theorem all_not {p:Pl} (h:xW p=false):allE p=8:=by rw[allE,h];rfl
theorem all_bad {p:Pl} (h:xU p) {k:Nat} (hk:k<p.routes.length) (hn:¬kK p p.routes[k]):allE p=90:=by
 rw[allE,if_pos (zAi h),if_neg]
 intro h2
 exact hn (hangsB_iff.1 (List.all_eq_true.1 h2 _ (List.getElem_mem hk)))
theorem all_good {p:Pl} (h:xU p) (hn:∀k (hk:k<p.routes.length),kK p p.routes[k]):allE p=0:=by
 rw[allE,if_pos (zAi h),if_pos]
 refine List.all_eq_true.2 fun r hr=>?_
 obtain⟨k,hk,rfl⟩:=List.getElem_of_mem hr
 exact yY (hn k hk)
theorem zBe (p:Pl):(allE p=0∧xU p∧allW p=p.routes.map (kH p)∧allL p=p.routes.map (zA5 p))∨(allE p≠0∧allW p=[]∧allL p=[]):=by
 by_cases h:allE p=0
 ·refine .inl ⟨h,?_,by rw[allW,if_pos h],by rw[allL,if_pos h]⟩
  by_cases hm:xW p=true
  ·exact zDb.1 hm
  ·rw[all_not (by simpa using hm)] at h;omega
 ·exact .inr ⟨h,by rw[allW,if_neg h],by rw[allL,if_neg h]⟩
theorem ids_up {p:Pl} (h:xU p):∀(k j:Nat) (hk:k<p.routes.length) (hj:j<k),(p.routes[j]'(by omega)).id<p.routes[k].id
 | 0,_,_,hj=>absurd hj (by omega)
 | k+1,j,hk,hj=>by
  have h1:=(h.each (k+1) hk).2.1 k rfl
  rcases Nat.lt_or_ge j k with h2|h2
  ·have h3:=ids_up h k j (by omega) h2
   omega
  ·obtain rfl:j=k:=by omega
   exact h1
section
variable {α:Type} {T:TypeId} {sz:Nat} {R:El α} {W W' w2:World} {lo:Nat} {v v2:Value} {xs:List α}
theorem zJ.snocN {ys:List Value} {x:α} {yss:List (List Value)} (hT:∀ {c:Nat→Option Value} {y:α},R W W.heap.size c y→R w2 w2.heap.size c y)
  (ho:W.ownsRow lo T sz v xs.length yss.flatten) (hl:yss.length=xs.length) (hs:∀ys∈yss,ys.length=sz) (hy:ys.length=sz) (hm:xs.length+1≤maxLen)
  (ht:∀(j:Nat) (ys:List Value) (x:α),yss[j]? = some ys→xs[j]? = some x→R W W.heap.size (fun k=>ys[k]?) x) (hx:R W W.heap.size (fun k=>ys[k]?) x)
  (hown:w2.ownsRow lo T sz v2 (xs.length+1) (yss.flatten++ys)):zJ T sz R w2 lo v2 (xs++[x]):=by
 refine⟨yss++[ys],by rw[List.length_append,List.length_singleton,List.flatten_append,List.flatten_singleton];exact hown,by simp[hl],by simpa using hm,fun z hz=>?_,fun j z y hz hy'=>?_⟩
 ·rcases List.mem_append.1 hz with h|h
  ·exact hs z h
  ·rw[List.mem_singleton.1 h];exact hy
 ·rcases Nat.lt_or_ge j xs.length with h|h
  ·rw[List.getElem?_append_left (by omega)] at hz
   rw[List.getElem?_append_left h] at hy'
   exact hT (ht j z y hz hy')
  ·have hj1:j=xs.length:=by
    have:=(List.getElem?_eq_some_iff.1 hy').1
    rw[List.length_append,List.length_singleton] at this
    omega
   subst hj1
   rw[List.getElem?_append_right (by omega),hl,Nat.sub_self] at hz
   rw[List.getElem?_append_right (by omega),Nat.sub_self] at hy'
   cases hz
   cases hy'
   exact hT hx
theorem zJ.keep_ {r:Option Nat} (h:zJ T sz R W lo v xs) (hg:W.grownBy W' r) (hr:∀(n:Nat) (ys:List Value),W.ownsRow lo T sz v n ys→v.ownBlock=none∨v.ownBlock≠r) (hk:∀ {c:Nat→Option Value} {y:α},R W W.heap.size c y→R W' W'.heap.size c y):zJ T sz R W' lo v xs:=by
 obtain⟨yss,ho,hl,hm,hs,ht⟩:=h
 exact⟨yss,ho.kept hg (hr _ _ ho),hl,hm,hs,fun j ys x h1 h2=>hk (ht j ys x h1 h2)⟩
end
theorem zDo {W W':World} {lo base n sz:Nat} {T:TypeId} {v:Value} {zs:List Value} {c:Nat→Option Value} {y:Wy} (hT1:T≠3) (hT2:T≠108) (ho:W.ownsRow base T sz v n zs) (hg:W.grownBy W' v.ownBlock) (h:WayO lo W W.heap.size c y):WayO lo W' W'.heap.size c y:=by
 cases hv:v.ownBlock with
 | none=>
  rw[hv] at hg
  have hbb:Below W.heap.size W W':=(Below.refl _ _).grown hg (Nat.le_refl _) (fun k hk=>by cases hk)
  exact(wayO lo).more ((wayO lo).below h hbb) hbb.size
 | some g=>
  rw[hv] at hg
  obtain⟨c1,h1,_⟩:=jR ho hv
  exact wayO_grown hT1 hT2 h hg ⟨c1,h1⟩
theorem jsO_keep {W W':World} {lo base n sz:Nat} {T:TypeId} {v:Value} {zs:List Value} {c:Nat→Option Value} {y:List Jn} (hT:T≠98) (ho:W.ownsRow base T sz v n zs) (hg:W.grownBy W' v.ownBlock) (h:JsO lo W W.heap.size c y):JsO lo W' W'.heap.size c y:=by
 cases hv:v.ownBlock with
 | none=>
  rw[hv] at hg
  have hbb:Below W.heap.size W W':=(Below.refl _ _).grown hg (Nat.le_refl _) (fun k hk=>by cases hk)
  exact(jsO lo).more ((jsO lo).below h hbb) hbb.size
 | some g=>
  rw[hv] at hg
  obtain⟨c1,h1,_⟩:=jR ho hv
  exact jsO_grown hT h hg ⟨c1,h1⟩
structure Pend (W:World) (lo:Nat) (v1 v2:Value) (l:List Wy) (m:List (List Jn)) (u0 u1 u2 u:Value) (x:Wy) (y:List Jn):Prop where
 le:lo≤W.heap.size
 ways:zB0 W lo v1 l
 jss:JssOwn W lo v2 m
 way:WayO lo W W.heap.size (fun k=>[u0,u1,u2,.int .i64 x.near][k]?) x
 outs:JsO lo W W.heap.size (fun k=>[u][k]?) y
section
variable {W W':World} {lo n:Nat} {v1 v2 v' u0 u1 u2 u:Value} {l:List Wy} {m:List (List Jn)} {x:Wy} {y:List Jn} {yss:List (List Value)}
theorem Pend.below (h:Pend W lo v1 v2 l m u0 u1 u2 u x y) (hb:Below W.heap.size W W'):Pend W' lo v1 v2 l m u0 u1 u2 u x y:=
 ⟨Nat.le_trans h.le hb.size,h.ways.below (wayO lo) hb,h.jss.below (jsO lo) hb,(wayO lo).more ((wayO lo).below h.way hb) hb.size,(jsO lo).more ((jsO lo).below h.outs hb) hb.size⟩
theorem Pend.snocW (h:Pend W lo v1 v2 l m u0 u1 u2 u x y) (hn:l.length=n) (ho:W.ownsRow lo 96 4 v1 n yss.flatten) (hl:yss.length=n) (hs:∀ys∈yss,ys.length=4) (hm:n+1≤maxLen)
  (ht:∀(j:Nat) (ys:List Value) (y:Wy),yss[j]? = some ys→l[j]? = some y→WayO lo W W.heap.size (fun k=>ys[k]?) y)
  (hown:W'.ownsRow lo 96 4 v' (n+1) (yss.flatten++[u0,u1,u2,.int .i64 x.near])) (hg:W.grownBy W' v1.ownBlock):Pend W' lo v' v2 (l++[x]) m u0 u1 u2 u x y:=by
 subst hn
 exact⟨Nat.le_trans h.le hg.size,zJ.snocN (fun h=>zDo (by decide) (by decide) ho hg h) ho hl hs rfl hm ht h.way hown,
  h.jss.keep_ hg (fun n ys h2=>owns_apart (by decide) h2 ho) (fun h=>jsO_keep (by decide) ho hg h),zDo (by decide) (by decide) ho hg h.way,jsO_keep (by decide) ho hg h.outs⟩
theorem Pend.snocJ (h:Pend W lo v1 v2 l m u0 u1 u2 u x y) (hn:m.length=n) (ho:W.ownsRow lo 58 1 v2 n yss.flatten) (hl:yss.length=n) (hs:∀ys∈yss,ys.length=1) (hm:n+1≤maxLen)
  (ht:∀(j:Nat) (ys:List Value) (y:List Jn),yss[j]? = some ys→m[j]? = some y→JsO lo W W.heap.size (fun k=>ys[k]?) y)
  (hown:W'.ownsRow lo 58 1 v' (n+1) (yss.flatten++[u])) (hg:W.grownBy W' v2.ownBlock):Pend W' lo v1 v' l (m++[y]) u0 u1 u2 u x y:=by
 subst hn
 exact⟨Nat.le_trans h.le hg.size,h.ways.keep_ hg (fun n ys h2=>owns_apart (by decide) h2 ho) (fun h=>zDo (by decide) (by decide) ho hg h),
  zJ.snocN (fun h=>jsO_keep (by decide) ho hg h) ho hl hs rfl hm ht h.outs hown,zDo (by decide) (by decide) ho hg h.way,jsO_keep (by decide) ho hg h.outs⟩
end
theorem ways_mono {W:World} {lo lo':Nat} {v:Value} {l:List Wy} (h:zB0 W lo v l) (hl:lo'≤lo):zB0 W lo' v l:=by
 obtain⟨yss,ho,h1,h2,h3,h4⟩:=h
 exact⟨yss,owns_mono ho hl,h1,h2,h3,fun j ys x e1 e2=>by
  obtain⟨g3,u0,u1,u2,g0,g1,g2,g,b⟩:=h4 j ys x e1 e2
  exact⟨g3,u0,u1,u2,g0,g1,g2,g.mono hl,b⟩⟩
theorem jss_mono {W:World} {lo lo':Nat} {v:Value} {l:List (List Jn)} (h:JssOwn W lo v l) (hl:lo'≤lo):JssOwn W lo' v l:=by
 obtain⟨yss,ho,h1,h2,h3,h4⟩:=h
 exact⟨yss,owns_mono ho hl,h1,h2,h3,fun j ys x e1 e2=>by
  obtain⟨u,g0,g,b⟩:=h4 j ys x e1 e2
  exact⟨u,g0,g.mono hl,b⟩⟩
theorem pend_of {W:World} {lo b:Nat} {v1 v2 u0 u1 u2 u:Value} {l:List Wy} {m:List (List Jn)} {x:Wy} {y:List Jn} (hlo:lo≤W.heap.size) (h1:zB0 W lo v1 l) (h2:JssOwn W lo v2 m) (h3:kG W lo u0 u1 u2 x) (h4:kC W lo u y):Pend W lo v1 v2 l m u0 u1 u2 u x y:=
 ⟨hlo,h1,h2,⟨rfl,u0,u1,u2,rfl,rfl,rfl,h3,zB5 h3.path,zB5 h3.over,zB5 h3.asks⟩,u,rfl,h4,zB5 h4⟩
theorem infoWayF:(Tryz.prog.info? 96).map (fun i=>(i.zero,i.size,i.bytes))=some (some (.agg #[.slice none 0 0,.slice none 0 0,.slice none 0 0,.int .i64 0]),4,80):=by kernel_rfl
theorem infoJsF:(Tryz.prog.info? 58).map (fun i=>(i.zero,i.size,i.bytes))=some (some (.slice none 0 0),1,24):=by kernel_rfl
theorem kG.offT {W W':World} {lo k:Nat} {T:TypeId} {u0 u1 u2:Value} {x:Wy} (h:kG W lo u0 u1 u2 x) (hg:W.grownBy W' (some k)) (hT1:T≠3) (hT2:T≠108) (hk:∃cur,W.heap[k]? = some (.cells cur T (0,0))):kG W' lo u0 u1 u2 x:=by
 obtain⟨cur,hc⟩:=hk
 refine⟨qK jW h.path hg fun k' h1 e=>?_,qK jW h.over hg fun k' h1 e=>?_,qK zAc h.asks hg fun k' h1 e=>?_⟩
 ·subst e
  obtain⟨cur',hc',-⟩:=jL h.path h1
  rw[hc] at hc'
  injection hc' with hc'
  injection hc' with _ e
  exact hT1 e
 ·subst e
  obtain⟨cur',hc',-⟩:=jL h.over h1
  rw[hc] at hc'
  injection hc' with hc'
  injection hc' with _ e
  exact hT1 e
 ·subst e
  obtain⟨cur',hc',-⟩:=jL h.asks h1
  rw[hc] at hc'
  injection hc' with hc'
  injection hc' with _ e
  exact hT2 e
theorem zCh {α β:Type} (f:α→β) (l:List α) {i:Nat} (h:i<l.length):(l.map f).take (i+1)=(l.map f).take i++[f l[i]]:=by
 rw[List.take_add_one,List.getElem?_map,List.getElem?_eq_getElem h];rfl
end Go.Proofs.YtemmgmjhomgbbaaGreat
