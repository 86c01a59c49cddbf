/-
 States, as values and slices read them, and as arguments.
 Conditions: none.
-/
import Derived.Test.YtemmgmjhomgbbaaGreatUGStaM
import Derived.Test.YtemmgmjhomgbbaaGreatUGBase
import Derived.Test.YtemmgmjhomgbbaaGreatUGPlnRefB
import Derived.Test.YtemmgmjhomgbbaaGreatUGPlnRefD
set_option linter.unusedVariables false
set_option linter.unusedSimpArgs false
set_option maxRecDepth 100000
namespace Go.Proofs.YtemmgmjhomgbbaaGreat
open Go.RowKit
def TrkR:El Trk:=fun W B c x=>c 0=some (.int .i64 x.1)∧c 1=some (.int .u8 x.2)∧0≤x.2∧x.2<256
theorem xY:Elem TrkR:=⟨fun h _=>h,fun h _=>h⟩
theorem trkF:zAo TrkR:=fun h=>h
theorem zC3 {W:World} {B:Nat} (c c':Nat→Option Value) (x:Trk) (h:∀k,k<2→c k=c' k) (hx:TrkR W B c x):TrkR W B c' x:=
 ⟨(h 0 (by omega)).symm.trans hx.1,(h 1 (by omega)).symm.trans hx.2.1,hx.2.2⟩
theorem trkR_full {W:World} {B:Nat} (c:Nat→Option Value) (x:Trk) (h:TrkR W B c x):∀k,k<2→∃v,c k=some v∧v.oneCell'=true:=fun k hk=>by
 match k,hk with
 | 0,_=>exact⟨_,h.1,rfl⟩
 | 1,_=>exact⟨_,h.2.1,rfl⟩
def LckR:El Lck:=fun W B c x=>c 0=some (.int .i64 x.1)∧c 1=some (.int .u8 x.2.1)∧c 2=some (.int .i64 x.2.2.1)∧c 3=some (.int .i64 x.2.2.2)∧0≤x.2.1∧x.2.1<256
theorem xQ:Elem LckR:=⟨fun h _=>h,fun h _=>h⟩
theorem lckF:zAo LckR:=fun h=>h
theorem zC1 {W:World} {B:Nat} (c c':Nat→Option Value) (x:Lck) (h:∀k,k<4→c k=c' k) (hx:LckR W B c x):LckR W B c' x:=
 ⟨(h 0 (by omega)).symm.trans hx.1,(h 1 (by omega)).symm.trans hx.2.1,(h 2 (by omega)).symm.trans hx.2.2.1,(h 3 (by omega)).symm.trans hx.2.2.2.1,hx.2.2.2.2⟩
theorem lckR_full {W:World} {B:Nat} (c:Nat→Option Value) (x:Lck) (h:LckR W B c x):∀k,k<4→∃v,c k=some v∧v.oneCell'=true:=fun k hk=>by
 match k,hk with
 | 0,_=>exact⟨_,h.1,rfl⟩
 | 1,_=>exact⟨_,h.2.1,rfl⟩
 | 2,_=>exact⟨_,h.2.2.1,rfl⟩
 | 3,_=>exact⟨_,h.2.2.2.1,rfl⟩
abbrev jD (W:World) (B:Nat) (v:Value) (l:List Trk):Prop:=xC 2 TrkR W B v l
abbrev xP (W:World) (B:Nat) (v:Value) (l:List Swi):Prop:=xC 3 SigR W B v l
abbrev xO (W:World) (B:Nat) (v:Value) (l:List Lck):Prop:=xC 4 LckR W B v l
abbrev vY (W:World) (lo:Nat) (v:Value) (l:List Trk):Prop:=zJ 51 2 TrkR W lo v l
abbrev yR (W:World) (lo:Nat) (v:Value) (l:List Swi):Prop:=zJ 55 3 SigR W lo v l
abbrev zAy (W:World) (lo:Nat) (v:Value) (l:List Lck):Prop:=zJ 53 4 LckR W lo v l
structure StIn (W:World) (B:Nat) (u0 u1 u2:Value) (s:qD):Prop where
 tr:jD W B u0 s.tr
 sw:xP W B u1 s.sw
 lk:xO W B u2 s.lk
theorem StIn.below {W W':World} {B:Nat} {u0 u1 u2:Value} {s:qD} (h:StIn W B u0 u1 u2 s) (hb:Below B W W'):StIn W' B u0 u1 u2 s:=⟨h.tr.below xY hb,h.sw.below zP hb,h.lk.below xQ hb⟩
theorem StIn.more {W:World} {B B':Nat} {u0 u1 u2:Value} {s:qD} (h:StIn W B u0 u1 u2 s) (hb:B≤B'):StIn W B' u0 u1 u2 s:=⟨h.tr.more xY hb,h.sw.more zP hb,h.lk.more xQ hb⟩
def qL (W:World) (B:Nat) (v:Value) (s:qD):Prop:=∃u0 u1 u2,v = .agg #[u0,u1,u2]∧StIn W B u0 u1 u2 s
theorem qL.below {W W':World} {B:Nat} {v:Value} {s:qD} (h:qL W B v s) (hb:Below B W W'):qL W' B v s:=by
 obtain⟨u0,u1,u2,rfl,hr⟩:=h
 exact⟨u0,u1,u2,rfl,hr.below hb⟩
theorem qL.more {W:World} {B B':Nat} {v:Value} {s:qD} (h:qL W B v s) (hb:B≤B'):qL W B' v s:=by
 obtain⟨u0,u1,u2,rfl,hr⟩:=h
 exact⟨u0,u1,u2,rfl,hr.more hb⟩
structure qY (W:World) (lo:Nat) (u0 u1 u2:Value) (s:qD):Prop where
 tr:vY W lo u0 s.tr
 sw:yR W lo u1 s.sw
 lk:zAy W lo u2 s.lk
theorem qY.below {W W':World} {lo:Nat} {u0 u1 u2:Value} {s:qD} (h:qY W lo u0 u1 u2 s) (hb:Below W.heap.size W W'):qY W' lo u0 u1 u2 s:=⟨h.tr.below xY hb,h.sw.below zP hb,h.lk.below xQ hb⟩
theorem qY.mono {W:World} {lo lo':Nat} {u0 u1 u2:Value} {s:qD} (h:qY W lo u0 u1 u2 s) (hl:lo'≤lo):qY W lo' u0 u1 u2 s:=⟨h.tr.mono hl,h.sw.mono hl,h.lk.mono hl⟩
theorem qY.in_ {W:World} {lo:Nat} {u0 u1 u2:Value} {s:qD} (h:qY W lo u0 u1 u2 s):StIn W W.heap.size u0 u1 u2 s:=⟨h.tr.in_ zC3,h.sw.in_ jJ,h.lk.in_ zC1⟩
theorem qY.off {W W':World} {lo k:Nat} {u0 u1 u2:Value} {s:qD} (h:qY W lo u0 u1 u2 s) (hg:W.grownBy W' (some k)) (hk:k<lo):qY W' lo u0 u1 u2 s:=
 ⟨qK trkF h.tr hg (fun j hj=>by have:=jS h.tr j hj;omega),qK zAc h.sw hg (fun j hj=>by have:=jS h.sw j hj;omega),qK lckF h.lk hg (fun j hj=>by have:=jS h.lk j hj;omega)⟩
theorem noS_own (W:World) (lo:Nat):qY W lo (.slice none 0 0) (.slice none 0 0) (.slice none 0 0) noS:=⟨zJ.nil_,zJ.nil_,zJ.nil_⟩
def FewS (s:qD):Prop:=s.tr.length≤200∧s.sw.length≤200∧s.lk.length≤200
theorem st_sl {W:World} {B sz:Nat} {α:Type} {R:El α} {v:Value} {l:List α} (h:xC sz R W B v l):∃A c,v = .slice A l.length c:=by
 obtain⟨A,c,e,-,-⟩:=h.slice
 exact⟨A,c,e⟩
section
variable {H:Type} {enc:TypeId×Value→H} {W:World} {v:Value}
theorem u8_field15 {n:Nat} {y:DataW H×List MemPlace} (h:DataW.trod enc Tryz.prog W 0 (fun _=>true) true n 5 [v]=some y):∃z:Int,v = .int .u8 z∧0≤z∧z<256:=by
 obtain⟨z,e,h1,h2⟩:=DataW.trod_int Tryz.underlying5 h
 cases e
 have hw:=bounds_u8 h2
 exact⟨z,rfl,by omega,by omega⟩
theorem tracks_of_trod {n:Nat} {y:DataW H×List MemPlace} (h:DataW.trod enc Tryz.prog W 0 (fun _=>true) true n 28 [v]=some y):∃l,jD W W.heap.size v l:=
 jY (sz:=2) (R:=TrkR) Tryz.underlying28 (by kernel_rfl) (by omega) (fun n cs y ht hcl=>by
  obtain⟨k,hf⟩:=yF Tryz.underlying51 (by kernel_rfl) ht hcl
  obtain⟨v0,y0,e0,h0⟩:=hf 0 _ rfl
  obtain⟨v1,y1,e1,h1⟩:=hf 1 _ rfl
  obtain⟨z0,rfl⟩:=xR h0
  obtain⟨z1,rfl,b1,b2⟩:=u8_field15 h1
  exact⟨(z0,z1),e0,e1,b1,b2⟩) (0,0) (fun c c' x h hx=>zC3 c c' x h hx) h
theorem switches_of_trod {n:Nat} {y:DataW H×List MemPlace} (h:DataW.trod enc Tryz.prog W 0 (fun _=>true) true n 29 [v]=some y):∃l,xP W W.heap.size v l:=
 jY (sz:=3) (R:=SigR) Tryz.underlying29 (by kernel_rfl) (by omega) (fun n cs y ht hcl=>by
  obtain⟨k,hf⟩:=yF Tryz.underlying55 (by kernel_rfl) ht hcl
  obtain⟨v0,y0,e0,h0⟩:=hf 0 _ rfl
  obtain⟨v1,y1,e1,h1⟩:=hf 1 _ rfl
  obtain⟨v2,y2,e2,h2⟩:=hf 2 _ rfl
  obtain⟨z0,rfl⟩:=xR h0
  obtain⟨z1,rfl⟩:=xR h1
  obtain⟨z2,rfl⟩:=xR h2
  exact⟨(z0,z1,z2),e0,e1,e2⟩) (0,0,0) (fun c c' x h hx=>jJ c c' x h hx) h
theorem locks_of_trod {n:Nat} {y:DataW H×List MemPlace} (h:DataW.trod enc Tryz.prog W 0 (fun _=>true) true n 30 [v]=some y):∃l,xO W W.heap.size v l:=
 jY (sz:=4) (R:=LckR) Tryz.underlying30 (by kernel_rfl) (by omega) (fun n cs y ht hcl=>by
  obtain⟨k,hf⟩:=yF Tryz.underlying53 (by kernel_rfl) ht hcl
  obtain⟨v0,y0,e0,h0⟩:=hf 0 _ rfl
  obtain⟨v1,y1,e1,h1⟩:=hf 1 _ rfl
  obtain⟨v2,y2,e2,h2⟩:=hf 2 _ rfl
  obtain⟨v3,y3,e3,h3⟩:=hf 3 _ rfl
  obtain⟨z0,rfl⟩:=xR h0
  obtain⟨z1,rfl,b1,b2⟩:=u8_field15 h1
  obtain⟨z2,rfl⟩:=xR h2
  obtain⟨z3,rfl⟩:=xR h3
  exact⟨(z0,z1,z2,z3),e0,e1,e2,e3,b1,b2⟩) (0,0,0,0) (fun c c' x h hx=>zC1 c c' x h hx) h
end
open Go.ChangeShapes Go.WideShapes Go.ChangeAt Go.Joins Go.Deep
theorem array3_15 {α:Type} {cs:Array α} (h:cs.size=3):∃c0 c1 c2,cs=#[c0,c1,c2]:=by
 obtain⟨l⟩:=cs
 match l,h with
 | [c0,c1,c2],_=>exact⟨c0,c1,c2,rfl⟩
theorem state_of_arg {H:Type} {enc:TypeId×Value→H} {W:World} {base:Nat} {v:Value} {d:DataW H} {p:List MemPlace} (hval:Value.okWide Tryz.prog W .any base 32 v) (h:DataW.Trod enc Tryz.prog W 0 (fun _=>true) true 32 v d p):∃x,qL W W.heap.size v x:=by
 obtain⟨cs,rfl,hsz⟩:=okWide_struct Tryz.underlying32 hval
 have hsz3:cs.size=3:=hsz.trans (by kernel_rfl)
 obtain⟨c0,c1,c2,rfl⟩:=array3_15 hsz3
 obtain⟨fuel,hf0⟩:=h
 obtain⟨n,hf⟩:=yF Tryz.underlying32 (by kernel_rfl) hf0 rfl
 obtain⟨v0,y0,e0,h0⟩:=hf 0 _ rfl
 obtain⟨v1,y1,e1,h1⟩:=hf 1 _ rfl
 obtain⟨v2,y2,e2,h2⟩:=hf 2 _ rfl
 cases e0;cases e1;cases e2
 obtain⟨l0,g0⟩:=tracks_of_trod h0
 obtain⟨l1,g1⟩:=switches_of_trod h1
 obtain⟨l2,g2⟩:=locks_of_trod h2
 exact⟨⟨l0,l1,l2⟩,_,_,_,rfl,⟨g0,g1,g2⟩⟩
theorem flat_set15 {sz:Nat}:∀(yss:List (List Value)) (j k:Nat) (ys:List Value) (x:Value),(∀ys∈yss,ys.length=sz)→yss[j]? = some ys→k<sz→(yss.set j (ys.set k x)).flatten=yss.flatten.set (j*sz+k) x
 | [],j,k,ys,x,_,h,_=>by simp at h
 | y::yss,0,k,ys,x,hl,h,hk=>by
  cases h
  rw[List.set_cons_zero,List.flatten_cons,List.flatten_cons,Nat.zero_mul,Nat.zero_add,List.set_append_left _ _ (by rw[hl _ (by simp)];exact hk)]
 | y::yss,j+1,k,ys,x,hl,h,hk=>by
  have hy:=hl y (by simp)
  rw[List.set_cons_succ,List.flatten_cons,List.flatten_cons,List.set_append_right _ _ (by rw[hy,Nat.succ_mul];omega),hy,show(j+1)*sz+k-sz=j*sz+k from by rw[Nat.succ_mul];omega]
  rw[flat_set15 yss j k ys x (fun z hz=>hl z (by simp[hz])) (by simpa using h) hk]
theorem zB2 {α:Type} {T:TypeId} {sz:Nat} {R:El α} {W:World} {lo:Nat} {v:Value} {l:List α} (hf:zAo R) (h:zJ T sz R W lo v l) {i k:Nat} (hi:i<l.length) (hk:k<sz) {x:Value} {y:α}
  (hxy:∀c:Nat→Option Value,R W W.heap.size c l[i]→R W W.heap.size (fun j=>if j=k then some x else c j) y):
  ∃g c,v = .slice (some ⟨g,0,none⟩) l.length c∧lo≤g∧(∃cur,W.heap[g]? = some (.cells cur T (0,0)))∧zJ T sz R (W.setCell ⟨g,i*sz+k,none⟩ x) lo v (l.set i y):=by
 obtain⟨yss,⟨hlen,hor⟩,hl,hm,hs,ht⟩:=h
 rcases hor with⟨rfl,h0⟩|⟨g,cap,cur,rfl,hb,hgb,hcap,hmx,hsz,htk⟩
 ·omega
 have hyi:i<yss.length:=by omega
 obtain⟨ys,hys⟩:∃ys,yss[i]? = some ys:=⟨_,List.getElem?_eq_getElem hyi⟩
 have hyl:ys.length=sz:=hs ys (List.mem_of_getElem? hys)
 refine⟨g,cap,rfl,hb,⟨cur,hgb⟩,yss.set i (ys.set k x),⟨?_,.inr ⟨g,cap,cur.setIfInBounds (i*sz+k) x,by rw[List.length_set],hb,qG hgb x,by rw[List.length_set];exact hcap,hmx,by rw[Array.size_setIfInBounds];exact hsz,?_⟩⟩,by simpa using hl,by simpa using hm,?_,?_⟩
 ·rw[flat_set15 _ _ _ _ _ hs hys hk,List.length_set,List.length_set];exact hlen
 ·rw[flat_set15 _ _ _ _ _ hs hys hk,List.length_set,Array.toList_setIfInBounds,List.take_set,htk]
 ·intro z hz
  rcases List.mem_or_eq_of_mem_set hz with h|rfl
  ·exact hs z h
  ·rw[List.length_set];exact hyl
 ·intro j zs a h1 h2
  by_cases e:j=i
  ·subst e
   rw[List.getElem?_set_self hyi] at h1
   rw[List.getElem?_set_self hi] at h2
   cases h1
   cases h2
   have h3:=hxy _ (ht j ys _ hys (List.getElem?_eq_getElem hi))
   have h4:(fun j=>if j=k then some x else ys[j]?)=fun j=>(ys.set k x)[j]?:=funext fun j=>by
    rw[List.getElem?_set]
    by_cases g:j=k
    ·subst g;rw[if_pos rfl,if_pos rfl,if_pos (by omega)]
    ·rw[if_neg g,if_neg (fun e=>g e.symm)]
   rw[h4] at h3
   exact hf h3
  ·rw[List.getElem?_set_ne (fun h=>e h.symm)] at h1 h2
   exact hf (ht j zs a h1 h2)
theorem xD {α:Type} {T T':TypeId} {sz:Nat} {R:El α} {W W':World} {lo:Nat} {v:Value} {l:List α} {k:Nat} (hf:zAo R) (h:zJ T sz R W lo v l) (hg:W.grownBy W' (some k)) (hT:T≠T') (hk:∃cur,W.heap[k]? = some (.cells cur T' (0,0))):zJ T sz R W' lo v l:=
 qK hf h hg (fun j hj e=>by
  subst e
  obtain⟨cur,h1⟩:=hk
  obtain⟨yss,ho,-⟩:=h
  obtain⟨cur',h2,-⟩:=jR ho hj
  rw[h1] at h2
  cases h2
  exact hT rfl)
theorem st_setTr {W:World} {lo:Nat} {u0 u1 u2:Value} {s:qD} (h:qY W lo u0 u1 u2 s) {i:Nat} (hi:i<s.tr.length) {z:Int} (hz:0≤z∧z<256):
  ∃g c,u0 = .slice (some ⟨g,0,none⟩) s.tr.length c∧lo≤g∧(∃cur,W.heap[g]? = some (.cells cur 51 (0,0)))∧qY (W.setCell ⟨g,i*2+1,none⟩ (.int .u8 z)) lo u0 u1 u2 ⟨s.tr.set i (s.tr[i].1,z),s.sw,s.lk⟩:=by
 obtain⟨g,c,e,hlo,hcur,ho⟩:=zB2 (R:=TrkR) (sz:=2) (k:=1) (x:=.int .u8 z) (y:=(s.tr[i].1,z)) trkF h.tr hi (by decide) (fun c hc=>by exact⟨hc.1,rfl,hz⟩)
 exact⟨g,c,e,hlo,hcur,ho,xD zAc h.sw (zU W g _ _) (by decide) hcur,xD lckF h.lk (zU W g _ _) (by decide) hcur⟩
theorem zAw {α:Type} {T T':TypeId} {sz sz' n:Nat} {R:El α} {W W':World} {lo lo':Nat} {v u:Value} {l:List α} {ys:List Value} (e:Elem R) (hf:zAo R) (h:zJ T sz R W lo v l) (o:Obj) (hu:W.ownsRow lo' T' sz' u n ys) (hT:T≠T') (hg:(W.alloc o).grownBy W' u.ownBlock):zJ T sz R W' lo v l:=by
 have h1:=h.below e (zD W o)
 cases hv:u.ownBlock with
 | none=>
  rw[hv] at hg
  exact h1.below e ((Below.refl _ _).grown hg (Nat.le_refl _) (fun k hk=>by cases hk))
 | some g=>
  rw[hv] at hg
  obtain⟨cur,h2,-⟩:=jR hu hv
  exact xD hf h1 hg hT ⟨cur,((zD W o).block _ (zA h2)).trans h2⟩
theorem zAu {T T':TypeId} {sz' n b:Nat} {W W':World} {lo':Nat} {u:Value} {ys:List Value} {c:Array Value} (h:W.heap[b]? = some (.cells c T (0,0))) (o:Obj) (hu:W.ownsRow lo' T' sz' u n ys) (hT:T≠T') (hg:(W.alloc o).grownBy W' u.ownBlock):W'.heap[b]? = some (.cells c T (0,0)):=by
 have h1:=((zD W o).block _ (zA h)).trans h
 refine(hg.block b (zA h1) (fun e=>?_)).trans h1
 obtain⟨cur,h2,-⟩:=jR hu e.symm
 rw[h] at h2
 injection h2 with h2
 injection h2 with _ h3 _
 exact hT h3
structure StaSaid:Prop where
 at_:∀(v:Value) (p:Pl) (w:World),qF w w.heap.size v p →
  Calls Tryz.prog 8 #[v] w fun e w'=>∃u0 u1 u2,e = .returned (.tuple #[.agg #[u0,u1,u2],.int .i64 (restE p)])∧qY w' w.heap.size u0 u1 u2 (vG p)∧Below w.heap.size w w'
 check:∀(v y:Value) (p:Pl) (s:qD) (w:World),qF w w.heap.size v p→qL w w.heap.size y s →
  Calls Tryz.prog 17 #[v,y] w fun e w'=>e = .returned (.int .i64 (kI p s))∧Below w.heap.size w w'
 holder:∀(v y:Value) (p:Pl) (s:qD) (sec:Int) (w:World),qF w w.heap.size v p→qL w w.heap.size y s →
  Calls Tryz.prog 10 #[v,y,.int .i64 sec] w fun e w'=>e = .returned (.tuple #[.int .i64 (whoV p s sec),.int .i64 (whoE p s sec)])∧Below w.heap.size w w'
 asked:∀(v y:Value) (p:Pl) (s:qD) (pt:Int) (w:World),qF w w.heap.size v p→qL w w.heap.size y s →
  Calls Tryz.prog 12 #[v,y,.int .i64 pt] w fun e w'=>e = .returned (.tuple #[.int .i64 (lieV p s pt),.int .i64 (lieE p s pt)])∧Below w.heap.size w w'
 image:∀(v y:Value) (p:Pl) (s:qD) (w:World),qF w w.heap.size v p→qL w w.heap.size y s →
  Calls Tryz.prog 14 #[v,y] w fun e w'=>∃u0 u1 u2,e = .returned (.tuple #[.agg #[u0,u1,u2],.int .i64 (kI p s)])∧qY w' w.heap.size u0 u1 u2 (jF p s)∧Below w.heap.size w w'
 kept:∀(v y:Value) (a b:qD) (w:World),qL w w.heap.size v a→qL w w.heap.size y b →
  Calls Tryz.prog 21 #[v,y] w fun e w'=>e = .returned (.bool (eqB (keptS a) (keptS b)))∧Below w.heap.size w w'
 same:∀(v y:Value) (a b:qD) (w:World),qL w w.heap.size v a→qL w w.heap.size y b →
  Calls Tryz.prog 20 #[v,y] w fun e w'=>e = .returned (.bool (eqB a b))∧Below w.heap.size w w'
 twin:∀(v:Value) (s:qD) (w:World),qL w w.heap.size v s→FewS s →
  Calls Tryz.prog 33 #[v] w fun e w'=>∃u0 u1 u2,e = .returned (.agg #[u0,u1,u2])∧qY w' w.heap.size u0 u1 u2 s∧Below w.heap.size w w'
end Go.Proofs.YtemmgmjhomgbbaaGreat
