/-
 A region that draws its order, under a condition on the world that its last operation need not leave standing: a load may be taken first of a cell into which that last operation stores.
 Conditions: from the operation that is taken first a chain of operations, each waiting for the one ahead, leads to the last one.
-/
import Derived.Test.YtemmgmjhomgbbaaGreatUGBase
import Derived.Test.YtemmgmjhomgbbaaGreatUGTrkRef
import Derived.Test.YtemmgmjhomgbbaaGreatUGPlnRefA
set_option linter.unusedVariables false
set_option linter.unusedSimpArgs false
set_option maxRecDepth 100000
namespace Go.Proofs.YtemmgmjhomgbbaaGreat
open Go.RowKit
section
variable {P:Program} {ops:Array Oper} {Q:Exit→Act→World→Prop} {md:Region.Mode} {S:World→Prop} {L:Nat}
def yU (P:Program) (md:Region.Mode) (ops:Array Oper) (Q:Exit→Act→World→Prop) (S:World→Prop) (L:Nat):Nat→Array Bool→Act→World→Prop
 | 0,listed,a,w=>Region.ready md ops listed=[]∧Q .normal a w
 | fuel+1,listed,a,w=>
  (Region.ready md ops listed=[]→Q .normal a w) ∧
  ∀i∈Region.ready md ops listed,wpOp P ops Q i (fun a' w'=>(i≠L→S w')∧yU P md ops Q S L fuel (listed.setIfInBounds i true) a' w') a w
theorem wpAny_of_E:∀(fuel:Nat) (listed:Array Bool) (a:Act) (w:World),yU P md ops Q S L fuel listed a w→wpAny P md ops Q fuel listed a w
 | 0,_,_,_,h=>h
 | fuel+1,_,_,_,h=>⟨h.1,fun i hi=>wpOp_mono (fun a' w' h'=>wpAny_of_E fuel _ a' w' h'.2) (h.2 i hi)⟩
def chainB (md:Region.Mode) (ops:Array Oper):List Nat→Bool
 | c::d::r=>(match ops[d]? with
  | some o=>o.after.toList.any fun e=>Region.binds md e&&e.on==c
  | none=>false)&&chainB md ops (d::r)
 | _=>true
theorem chain_ready {listed:Array Bool} {j:Nat}:∀(r:List Nat) (i:Nat),chainB md ops (i::r)=true→(∀c∈i::r,listed.getD c true=false)→j∈Region.ready md ops listed→j≠i→j∉i::r
 | [],i,_,_,_,hne=>by simpa using hne
 | d::r,i,hc,hu,hr,hne=>by
  rw[chainB,Bool.and_eq_true] at hc
  have hjd:j≠d:=by
   rintro rfl
   obtain⟨_,o,ho,hall⟩:=mem_ready.1 hr
   have h1:=hc.1
   rw[ho] at h1
   obtain⟨e,he,hb⟩:=List.any_eq_true.1 h1
   rw[Bool.and_eq_true,beq_iff_eq] at hb
   have h2:=hall e (by simpa using he) hb.1
   have h3:=hu i (by simp)
   rw[hb.2] at h2
   rcases Nat.lt_or_ge i listed.size with h'|h'
   ·simp[h'] at h2 h3;rw[h3] at h2;cases h2
   ·simp[Array.getElem?_eq_none h'] at h2
  have:=chain_ready r d hc.2 (fun c hcm=>hu c (List.mem_cons_of_mem _ hcm)) hr hjd
  intro hm
  rcases List.mem_cons.1 hm with h|h
  ·exact hne h
  ·exact this h
theorem wpAnyE_first {i:Nat} {oi:Oper} {v:Value} {ch:List Nat} (hi:ops[i]? = some oi) (hsel:∀(j:Nat) (o:Oper) cs b,ops[j]? = some o→o.op ≠ .select cs b)
  (hQ:∀c a w,Q (.panic c) (a.put oi.dst v) w→Q (.panic c) a w) (hch:chainB md ops (i::ch)=true) (hL:L∈i::ch):
  ∀(fuel:Nat) (listed:Array Bool) (a:Act) (w:World),
   (∀j oj,ops[j]? = some oj→j≠i→listed.getD j true=false→(∀e∈oj.after,Region.binds md e=true→e.on≠i)→oi.apart ops oj=true) →
   (∀c∈i::ch,listed.getD c true=false) →
   i∈Region.ready md ops listed→YieldsIf P ops S oi v a→S w →
   yU P md ops Q S L fuel (listed.setIfInBounds i true) (a.put oi.dst v) w→yU P md ops Q S L (fuel+1) listed a w:=by
 intro fuel
 induction fuel with
 | zero=>
  intro listed a w _ hun hr hy hS H
  refine⟨fun h=>(by rw[h] at hr;cases hr),fun j hj=>?_⟩
  by_cases hji:j=i
  ·subst hji;exact hy.wpOp hi hS ⟨fun _=>hS,H⟩
  ·have:=ready_mono hj hji
   rw[H.1] at this
   cases this
 | succ fuel ih=>
  intro listed a w hfree hun hr hy hS H
  refine⟨fun h=>(by rw[h] at hr;cases hr),fun j hj=>?_⟩
  by_cases hji:j=i
  ·subst hji;exact hy.wpOp hi hS ⟨fun _=>hS,H⟩
  ·have hjch:=chain_ready ch i hch hun hj hji
   have hjL:j≠L:=fun e=>hjch (e▸hL)
   have h1:=H.2 j (ready_mono hj hji)
   obtain⟨hjun,oj,hoj,hall⟩:=mem_ready.1 hj
   have hnot:∀e∈oj.after,Region.binds md e=true→e.on≠i:=fun e he hb heq=>by
    have h1:=hall e he hb
    have h0:=(mem_ready.1 hr).1
    rw[heq] at h1
    rcases Nat.lt_or_ge i listed.size with h'|h'
    ·simp[h'] at h0 h1;rw[h0] at h1;cases h1
    ·simp[Array.getElem?_eq_none h'] at h1
   have h2:=wpOp_putIf hoj (hfree j oj hoj hji hjun hnot) (fun cs b=>hsel i oi cs b hi) (fun cs b=>hsel j oj cs b hoj) hQ hy h1
   have hfree':∀k ok,ops[k]? = some ok→k≠i→(listed.setIfInBounds j true).getD k true=false →
     (∀e∈ok.after,Region.binds md e=true→e.on≠i)→oi.apart ops ok=true:=fun k ok hk hki hun hno=>by
    refine hfree k ok hk hki ?_ hno
    by_cases hjk:j=k
    ·subst hjk;exact hjun
    ·rw[getD_set_ne true hjk] at hun;exact hun
   have hun':∀c∈i::ch,(listed.setIfInBounds j true).getD c true=false:=fun c hc=>by
    have hne:j≠c:=by rintro rfl;exact hjch hc
    rw[getD_set_ne true hne]
    exact hun c hc
   refine wpOp_mono (fun a' w' h3=>⟨fun _=>h3.2.1 hjL,ih (listed.setIfInBounds j true) a' w' hfree' hun' (ready_mono hr (Ne.symm hji)) h3.1 (h3.2.1 hjL) ?_⟩) h2
   rw[Array.setIfInBounds_comm _ _ hji]
   exact h3.2.2
theorem kT {i:Nat} {oi:Oper} {v:Value} {fuel:Nat} {listed:Array Bool} {a:Act} {w:World} (ch:List Nat) (hi:ops[i]? = some oi)
  (hs:Region.noSelect ops=true) (hf:Region.free md ops listed i=true) (hr:(Region.ready md ops listed).contains i=true)
  (hQ:∀c a w,Q (.panic c) (a.put oi.dst v) w→Q (.panic c) a w) (hch:chainB md ops (i::ch)=true) (hL:(i::ch).contains L=true) (hun:((i::ch).all fun c=>!listed.getD c true)=true)
  (hy:YieldsIf P ops S oi v a) (hS:S w)
  (h:yU P md ops Q S L fuel (listed.setIfInBounds i true) (a.put oi.dst v) w):yU P md ops Q S L (fuel+1) listed a w:=
 wpAnyE_first hi (Region.noSelect_spec hs) hQ hch (by simpa using hL) fuel listed a w (Region.free_spec hi hf) (fun c hc=>by have:=List.all_eq_true.1 hun c hc;simpa using this) (by simpa using hr) hy hS h
theorem xM {i:Nat} {o:Oper} {fuel:Nat} {listed:Array Bool} {a:Act} {w:World} (hr:Region.ready md ops listed=[i]) (ho:ops[i]? = some o) (hne:(i != L)=true)
  (h:∀K':Act→World→Prop,Shut (∀a w,S w→(S w→yU P md ops Q S L fuel (listed.setIfInBounds i true) a w)→K' a w)→if Region.wanted o (yielded ops a.tmps)=true then Oper.wp P o a w K' Q else K' (a.put o.dst undef) w):
  yU P md ops Q S L (fuel+1) listed a w:=by
 refine⟨fun h0=>absurd (hr▸h0) (by simp),fun j hj=>?_⟩
 rw[hr] at hj
 obtain rfl:j=i:=by simpa using hj
 exact wpOp_step ho (fun K' hK=>h K' (fun a w hS hW=>hK a w ⟨fun _=>hS,hW hS⟩))
theorem kB {o:Oper} {fuel:Nat} {listed:Array Bool} {a:Act} {w:World} (hr:Region.ready md ops listed=[L]) (ho:ops[L]? = some o) (hdone:Region.ready md ops (listed.setIfInBounds L true)=[])
  (h:∀K':Act→World→Prop,Shut (∀a w,Q .normal a w→K' a w)→if Region.wanted o (yielded ops a.tmps)=true then Oper.wp P o a w K' Q else K' (a.put o.dst undef) w):
  yU P md ops Q S L (fuel+1) listed a w:=by
 have done:∀(a:Act) (w:World),Q .normal a w→yU P md ops Q S L fuel (listed.setIfInBounds L true) a w:=fun a w h=>by
  cases fuel with
  | zero=>exact⟨hdone,h⟩
  | succ n=>exact⟨fun _=>h,by rw[hdone];simp⟩
 refine⟨fun h0=>absurd (hr▸h0) (by simp),fun j hj=>?_⟩
 rw[hr] at hj
 obtain rfl:j=L:=by simpa using hj
 exact wpOp_step ho (fun K' hK=>h K' (fun a w hq=>hK a w ⟨fun h=>absurd rfl h,done a w hq⟩))
theorem jG {id:Nat} {a:Act} {w:World} (L:Nat) (hm:P.follows .mixedOrders=true) (hS:S w.drew)
  (h:S w.drew→yU P .any ops Q S L ops.size (Array.replicate ops.size false) a w.drew):(Code.region id ops true).wp P Q a w:=
 wp_region_any hm (wpAny_of_E _ _ _ _ (h hS))
end
section
variable {P:Program} {ops:Array Oper} {md:Region.Mode} {Q:Exit→Act→World→Prop} {S:World→Prop} {L:Nat} {oi:Oper} {fuel:Nat} {listed:Array Bool} {a a':Act} {w:World} {v:Value}
theorem tke (ch:List Nat) (i:Nat) (hS:S w) (h:yU P md ops Q S L fuel (listed.setIfInBounds i true) a' w) (hi:ops[i]? = some oi:=by rfl)
  (hy:∀w',S w'→(execOp a.eval oi).run P w' = .ok (.value v) w':=by intro w' hSw;go_simp;try with_reducible rfl) (ha:a.put oi.dst v=a':=by simp only[zn,Act.put];rfl)
  (hw:Region.wanted oi (yielded ops a.tmps)=true:=by rfl) (hs:Region.noSelect ops=true:=by kernel_rfl) (hf:Region.free md ops listed i=true:=by kernel_rfl) (hr:(Region.ready md ops listed).contains i=true:=by kernel_rfl)
  (hQ:∀c a w,Q (.panic c) (a.put oi.dst v) w→Q (.panic c) a w:=by exact fun _ _ _ h=>h)
  (hch:chainB md ops (i::ch)=true:=by kernel_rfl) (hL:(i::ch).contains L=true:=by kernel_rfl) (hun:((i::ch).all fun c=>!listed.getD c true)=true:=by kernel_rfl):yU P md ops Q S L (fuel+1) listed a w:=
 kT ch hi hs hf hr hQ hch hL hun (Or.inl ⟨hw,hy⟩) hS (ha▸h)
theorem tkd {C:World→Prop} (ch:List Nat) (i:Nat) (hS:S w) (hC:∀w',S w'→C w') (h:yU P md ops Q S L fuel (listed.setIfInBounds i true) a' w) (hi:ops[i]? = some oi:=by rfl)
  (hy:∀w',S w'→C w'→(execOp a.eval oi).run P w' = .ok (.value v) w':=by intro w' hSw hC;go_simp;try with_reducible rfl) (ha:a.put oi.dst v=a':=by simp only[zn,Act.put];rfl)
  (hw:Region.wanted oi (yielded ops a.tmps)=true:=by rfl) (hs:Region.noSelect ops=true:=by kernel_rfl) (hf:Region.free md ops listed i=true:=by kernel_rfl) (hr:(Region.ready md ops listed).contains i=true:=by kernel_rfl)
  (hQ:∀c a w,Q (.panic c) (a.put oi.dst v) w→Q (.panic c) a w:=by exact fun _ _ _ h=>h)
  (hch:chainB md ops (i::ch)=true:=by kernel_rfl) (hL:(i::ch).contains L=true:=by kernel_rfl) (hun:((i::ch).all fun c=>!listed.getD c true)=true:=by kernel_rfl):yU P md ops Q S L (fuel+1) listed a w:=
 kT ch hi hs hf hr hQ hch hL hun (Or.inl ⟨hw,fun w' h'=>hy w' h' (hC w' h')⟩) hS (ha▸h)
end
theorem owns_belowB {w w':World} {B base e size n:Nat} {v:Value} {ys:List Value} (h:w.ownsRow base e size v n ys) (hk:∀k,v.ownBlock=some k→k<B) (hb:Below B w w'):w'.ownsRow base e size v n ys:=by
 refine⟨h.1,?_⟩
 rcases h.2 with h2|⟨g,cap,cur,h1,h2,h3,h4⟩
 ·exact .inl h2
 ·exact .inr ⟨g,cap,cur,h1,h2,(hb.block g (hk g (by rw[h1];rfl))).trans h3,h4⟩
theorem joins_belowB {W W':World} {B lo:Nat} {v:Value} {l:List Jn} (h:kC W lo v l) (hk:∀k,v.ownBlock=some k→k<B) (hb:Below B W W'):kC W' lo v l:=by
 obtain⟨yss,ho,hl,hm,hs,ht⟩:=h
 exact⟨yss,owns_belowB ho hk hb,hl,hm,hs,fun j ys x h1 h2=>ht j ys x h1 h2⟩
def SecO (lo:Nat):El Sec:=fun W B c s=>c 0=some (.int .i64 s.1)∧c 1=some (.int .i64 s.2.1)∧∃u,c 2=some u∧kC W lo u s.2.2∧∀k,u.ownBlock=some k→k<B
theorem secO_ (lo:Nat):Elem (SecO lo):=⟨fun⟨h0,h1,u,h2,h3,h4⟩ hb=>⟨h0,h1,u,h2,joins_belowB h3 h4 hb,h4⟩,fun⟨h0,h1,u,h2,h3,h4⟩ hb=>⟨h0,h1,u,h2,h3,fun k hk=>Nat.lt_of_lt_of_le (h4 k hk) hb⟩⟩
theorem secO_cells {lo:Nat} {W:World} {B:Nat} (c c':Nat→Option Value) (x:Sec) (h:∀k,k<3→c k=c' k) (hx:SecO lo W B c x):SecO lo W B c' x:=by
 obtain⟨h0,h1,u,h2,h3⟩:=hx
 exact⟨(h 0 (by omega)).symm.trans h0,(h 1 (by omega)).symm.trans h1,u,(h 2 (by omega)).symm.trans h2,h3⟩
theorem secO_in {lo:Nat} {W:World} {B:Nat} {c:Nat→Option Value} {s:Sec} (h:SecO lo W B c s):SecR W B c s:=by
 obtain⟨h0,h1,u,h2,h3,h4⟩:=h
 obtain⟨A,cap,e,g1,g2,g3,g4⟩:=h3.in_ kL
 refine⟨h0,h1,u,h2,A,cap,e,g1,g2,g3,fun hp=>?_⟩
 obtain⟨b,off,rfl,hb,hc⟩:=g4 hp
 exact⟨b,off,rfl,h4 b (by rw[e];rfl),hc⟩
abbrev SectsOwn (W:World) (lo:Nat) (v:Value) (l:List Sec):Prop:=zJ 60 3 (SecO lo) W lo v l
theorem SectsOwn.in_ {W:World} {lo:Nat} {v:Value} {l:List Sec} (h:SectsOwn W lo v l):zX W W.heap.size v l:=by
 obtain⟨A,cap,e,g1,g2,g3,g4⟩:=zJ.in_ (fun c c' x hc hx=>secO_cells c c' x hc hx) h
 refine⟨A,cap,e,g1,g2,g3,fun hp=>?_⟩
 obtain⟨b,off,e,hb,hc⟩:=g4 hp
 exact⟨b,off,e,hb,fun j hj=>secO_in (hc j hj)⟩
def zAo {α:Type} (R:El α):Prop:=∀ {W W':World} {B B':Nat} {c:Nat→Option Value} {x:α},R W B c x→R W' B' c x
theorem jW:zAo jU:=fun h=>h
theorem zAn:zAo zBb:=fun h=>h
theorem zAc:zAo SigR:=fun h=>h
section
variable {α:Type} {T:TypeId} {sz:Nat} {R:El α} {W W':World} {lo:Nat} {v:Value} {l:List α}
theorem yS (hf:zAo R) {B:Nat} (h:zJ T sz R W lo v l) (hk:∀k,v.ownBlock=some k→k<B) (hb:Below B W W'):zJ T sz R W' lo v l:=by
 obtain⟨yss,ho,hl,hm,hs,ht⟩:=h
 exact⟨yss,owns_belowB ho hk hb,hl,hm,hs,fun j ys x h1 h2=>hf (ht j ys x h1 h2)⟩
theorem qK (hf:zAo R) {g:Nat} (h:zJ T sz R W lo v l) (hg:W.grownBy W' (some g)) (hc:∀k,v.ownBlock=some k→k≠g):zJ T sz R W' lo v l:=by
 obtain⟨yss,ho,hl,hm,hs,ht⟩:=h
 refine⟨yss,ho.kept hg ?_,hl,hm,hs,fun j ys x h1 h2=>hf (ht j ys x h1 h2)⟩
 cases hv:v.ownBlock with
 | none=>exact .inl rfl
 | some k=>refine .inr (fun e=>?_);injection e with e;exact hc k hv e
theorem own_grown (hf:zAo R) {r:Option Nat} (h:zJ T sz R W lo v l) (hg:W.grownBy W' r) (hc:∀k,v.ownBlock=some k→r≠some k):zJ T sz R W' lo v l:=by
 obtain⟨yss,ho,hl,hm,hs,ht⟩:=h
 refine⟨yss,ho.kept hg ?_,hl,hm,hs,fun j ys x h1 h2=>hf (ht j ys x h1 h2)⟩
 cases hv:v.ownBlock with
 | none=>exact .inl rfl
 | some k=>exact .inr (fun e=>hc k hv e.symm)
theorem jL (h:zJ T sz R W lo v l) {k:Nat} (hk:v.ownBlock=some k):∃cur,W.heap[k]? = some (.cells cur T (0,0))∧lo≤k:=by
 obtain⟨yss,ho,_⟩:=h
 exact jR ho hk
theorem zB5 (h:zJ T sz R W lo v l):∀k,v.ownBlock=some k→k<W.heap.size:=fun k hk=>by
 obtain⟨cur,h1,_⟩:=jL h hk
 exact zA h1
theorem jS (h:zJ T sz R W lo v l):∀k,v.ownBlock=some k→lo≤k:=fun k hk=>(jL h hk).choose_spec.2
end
abbrev qV (W:World) (lo:Nat) (v:Value) (l:List Int):Prop:=zJ 3 1 jU W lo v l
abbrev FlanksOwn (W:World) (lo:Nat) (v:Value) (l:List Jn):Prop:=zJ 140 2 zBb W lo v l
abbrev PointsOwn (W:World) (lo:Nat) (v:Value) (l:List Jn):Prop:=zJ 67 2 zBb W lo v l
abbrev SigsOwn (W:World) (lo:Nat) (v:Value) (l:List Sg):Prop:=zJ 115 3 SigR W lo v l
structure zBz (W:World) (lo:Nat) (u3 u4 u5:Value) (r:Rt):Prop where
 path:qV W lo u3 r.path
 over:qV W lo u4 r.over
 flanks:FlanksOwn W lo u5 r.flanks
theorem zBz.below {W W':World} {lo:Nat} {u3 u4 u5:Value} {r:Rt} (h:zBz W lo u3 u4 u5 r) (hb:Below W.heap.size W W'):zBz W' lo u3 u4 u5 r:=⟨h.path.below qI hb,h.over.below qI hb,h.flanks.below zM hb⟩
theorem zBz.mono {W:World} {lo lo':Nat} {u3 u4 u5:Value} {r:Rt} (h:zBz W lo u3 u4 u5 r) (hl:lo'≤lo):zBz W lo' u3 u4 u5 r:=⟨h.path.mono hl,h.over.mono hl,h.flanks.mono hl⟩
theorem zBz.in_ {W:World} {lo:Nat} {u3 u4 u5:Value} {r:Rt} (h:zBz W lo u3 u4 u5 r):RtIn W W.heap.size u3 u4 u5 r:=⟨h.path.in_ zZ,h.over.in_ zZ,h.flanks.in_ kL⟩
def RouteO (lo:Nat):El Rt:=fun W B c r=>c 0=some (.int .i64 r.id)∧c 1=some (.int .i64 r.entry)∧c 2=some (.int .i64 r.exit)∧c 6=some (.int .i64 r.timer)∧∃u3 u4 u5,c 3=some u3∧c 4=some u4∧c 5=some u5∧zBz W lo u3 u4 u5 r ∧
 (∀k,u3.ownBlock=some k→k<B)∧(∀k,u4.ownBlock=some k→k<B)∧∀k,u5.ownBlock=some k→k<B
theorem routeO (lo:Nat):Elem (RouteO lo):=⟨fun⟨h0,h1,h2,h6,u3,u4,u5,h3,h4,h5,h,b3,b4,b5⟩ hb=>⟨h0,h1,h2,h6,u3,u4,u5,h3,h4,h5,⟨yS jW h.path b3 hb,yS jW h.over b4 hb,yS zAn h.flanks b5 hb⟩,b3,b4,b5⟩,
 fun⟨h0,h1,h2,h6,u3,u4,u5,h3,h4,h5,h,b3,b4,b5⟩ hb=>⟨h0,h1,h2,h6,u3,u4,u5,h3,h4,h5,h,fun k hk=>Nat.lt_of_lt_of_le (b3 k hk) hb,fun k hk=>Nat.lt_of_lt_of_le (b4 k hk) hb,fun k hk=>Nat.lt_of_lt_of_le (b5 k hk) hb⟩⟩
theorem routeO_cells {lo:Nat} {W:World} {B:Nat} (c c':Nat→Option Value) (x:Rt) (h:∀k,k<7→c k=c' k) (hx:RouteO lo W B c x):RouteO lo W B c' x:=by
 obtain⟨h0,h1,h2,h6,u3,u4,u5,h3,h4,h5,hr⟩:=hx
 exact⟨(h 0 (by omega)).symm.trans h0,(h 1 (by omega)).symm.trans h1,(h 2 (by omega)).symm.trans h2,(h 6 (by omega)).symm.trans h6,u3,u4,u5,(h 3 (by omega)).symm.trans h3,(h 4 (by omega)).symm.trans h4,(h 5 (by omega)).symm.trans h5,hr⟩
theorem in_boundB {α:Type} {T:TypeId} {sz:Nat} {R:El α} {W:World} {lo B:Nat} {v:Value} {l:List α} (hf:zAo R) (hR:∀(c c':Nat→Option Value) (x:α),(∀k,k<sz→c k=c' k)→R W W.heap.size c x→R W W.heap.size c' x) (h:zJ T sz R W lo v l) (hk:∀k,v.ownBlock=some k→k<B):xC sz R W B v l:=by
 obtain⟨A,cap,e,g1,g2,g3,g4⟩:=h.in_ hR
 refine⟨A,cap,e,g1,g2,g3,fun hp=>?_⟩
 obtain⟨b,off,rfl,hb,hc⟩:=g4 hp
 exact⟨b,off,rfl,hk b (by rw[e];rfl),fun j hj=>hf (hc j hj)⟩
theorem routeO_in {lo:Nat} {W:World} {B:Nat} {c:Nat→Option Value} {s:Rt} (h:RouteO lo W B c s):RouteR W B c s:=by
 obtain⟨h0,h1,h2,h6,u3,u4,u5,h3,h4,h5,h,b3,b4,b5⟩:=h
 exact⟨h0,h1,h2,h6,u3,u4,u5,h3,h4,h5,⟨in_boundB jW zZ h.path b3,in_boundB jW zZ h.over b4,in_boundB zAn kL h.flanks b5⟩⟩
abbrev RoutesOwn (W:World) (lo:Nat) (v:Value) (l:List Rt):Prop:=zJ 64 7 (RouteO lo) W lo v l
theorem RoutesOwn.in_ {W:World} {lo:Nat} {v:Value} {l:List Rt} (h:RoutesOwn W lo v l):qX W W.heap.size v l:=by
 obtain⟨A,cap,e,g1,g2,g3,g4⟩:=zJ.in_ (fun c c' x hc hx=>routeO_cells c c' x hc hx) h
 refine⟨A,cap,e,g1,g2,g3,fun hp=>?_⟩
 obtain⟨b,off,e,hb,hc⟩:=g4 hp
 exact⟨b,off,e,hb,fun j hj=>routeO_in (hc j hj)⟩
structure PlOwn (W:World) (lo:Nat) (u2 u3 u4 u5:Value) (p:Pl):Prop where
 secs:SectsOwn W lo u2 p.secs
 pts:PointsOwn W lo u3 p.pts
 sigs:SigsOwn W lo u4 p.sigs
 routes:RoutesOwn W lo u5 p.routes
theorem PlOwn.below {W W':World} {lo:Nat} {u2 u3 u4 u5:Value} {p:Pl} (h:PlOwn W lo u2 u3 u4 u5 p) (hb:Below W.heap.size W W'):PlOwn W' lo u2 u3 u4 u5 p:=⟨h.secs.below (secO_ lo) hb,h.pts.below zM hb,h.sigs.below zP hb,h.routes.below (routeO lo) hb⟩
theorem PlOwn.in_ {W:World} {lo:Nat} {u2 u3 u4 u5:Value} {p:Pl} (h:PlOwn W lo u2 u3 u4 u5 p):PlIn W W.heap.size u2 u3 u4 u5 p:=⟨h.secs.in_,h.pts.in_ kL,h.sigs.in_ jJ,h.routes.in_⟩
theorem zAz:(Tryz.prog.info? 3).map (fun i=>(i.zero,i.size,i.bytes))=some (some (.int .i64 0),1,8):=by kernel_rfl
theorem infoFlank:(Tryz.prog.info? 140).map (fun i=>(i.zero,i.size,i.bytes))=some (some (.agg #[.int .i64 0,.int .i64 0]),2,16):=by kernel_rfl
theorem zCu:(Tryz.prog.info? 64).map (·.size)=some 7:=by kernel_rfl
theorem kS {W:World} {B:Nat} (c:Nat→Option Value) (x:Int) (h:jU W B c x):∀k,k<1→∃v,c k=some v∧v.oneCell'=true:=fun k hk=>by
 match k,hk with
 | 0,_=>exact⟨_,h,rfl⟩
theorem own_cat {α:Type} {T:TypeId} {sz:Nat} {R:El α} {W W1 W2:World} {B1 B2 lo n:Nat} {v:Value} {l m:List α} {yss zss:List (List Value)} (hf:zAo R) (ho:W.ownsRow lo T sz v n (yss.flatten++zss.flatten)) (hn:n=l.length+m.length) (hl:yss.length=l.length) (hm:zss.length=m.length)
  (hy:∀ys∈yss,ys.length=sz) (hz:∀ys∈zss,ys.length=sz) (h1:∀(j:Nat) (ys:List Value) (x:α),yss[j]? = some ys→l[j]? = some x→R W1 B1 (fun k=>ys[k]?) x) (h2:∀(j:Nat) (ys:List Value) (x:α),zss[j]? = some ys→m[j]? = some x→R W2 B2 (fun k=>ys[k]?) x) (hmx:n≤maxLen):
  zJ T sz R W lo v (l++m):=by
 refine⟨yss++zss,by rw[List.length_append,←hn,List.flatten_append];exact ho,by simp[hl,hm],by rw[List.length_append,←hn];exact hmx,fun z hz'=>?_,fun j z y hz' hy'=>?_⟩
 ·rcases List.mem_append.1 hz' with h|h
  ·exact hy z h
  ·exact hz z h
 ·rcases Nat.lt_or_ge j l.length with h|h
  ·rw[List.getElem?_append_left (by omega)] at hz'
   rw[List.getElem?_append_left h] at hy'
   exact hf (h1 j z y hz' hy')
  ·rw[List.getElem?_append_right (by omega),hl] at hz'
   rw[List.getElem?_append_right h] at hy'
   exact hf (h2 (j-l.length) z y hz' hy')
theorem own_one {α:Type} {T:TypeId} {sz:Nat} {R:El α} {W W1:World} {B1 lo n:Nat} {v:Value} {l:List α} {yss:List (List Value)} (hf:zAo R) (ho:W.ownsRow lo T sz v n yss.flatten) (hn:n=l.length) (hl:yss.length=l.length)
  (hy:∀ys∈yss,ys.length=sz) (h1:∀(j:Nat) (ys:List Value) (x:α),yss[j]? = some ys→l[j]? = some x→R W1 B1 (fun k=>ys[k]?) x) (hmx:n≤maxLen):zJ T sz R W lo v l:=
 ⟨yss,by rw[←hn];exact ho,hl,by rw[←hn];exact hmx,hy,fun j ys x a b=>hf (h1 j ys x a b)⟩
theorem zK {P:Program} {ops:Array Oper} {rest:List Oper} {op:Oper} {a:Act} {w:World} {Q:Exit→Act→World→Prop} (hgd:op.guard=none) (ty:TypeId) (x y:Operand) (ho:op.op = .store ty x y)
  (b:Nat) (hx:a.eval x = .pointer (some ⟨b,0,none⟩)) {c c':Array Value} (hy:a.eval y = .agg c') {t:TypeId} (hb:w.heap[b]? = some (.cells c t (0,0)))
  (hi:(P.info? ty).map (·.size)=some c'.size) (hs:c.size=c'.size) (h1:c'.all (·.oneCell')=true)
  (h:wpList P ops Q rest (a.put op.dst undef) (w.setRow b c')):wpList P ops Q (op::rest) a w:=
 wpList_plain hgd fun _ hK=>by
  unfold Oper.wp execOp
  simp only[ho,hx,hy,Instr.storeAt,Instr.sureAddr,Sem.run_bind,Sem.run_pure,Result.andThen_ok]
  rw[run_storeVar_row w b t ty c c' hb hi hs h1]
  exact hK _ _ h
set_option maxHeartbeats 4000000 in
theorem zB8 (v:Value) (r:Rt) (w:World) (h:vS w w.heap.size v r) (hl1:r.path.length≤1000) (hl2:r.over.length≤1000):
  Calls Tryz.prog 96 #[v] w fun e w'=>∃u,e = .returned u∧qV w' w.heap.size u (r.path++r.over)∧Below w.heap.size w w':=by
 obtain⟨y3,y4,y5,rfl,hin⟩:=h
 obtain⟨A3,c3,rfl,-,-⟩:=hin.path.slice
 obtain⟨A4,c4,rfl,-,-⟩:=hin.over.slice
 obtain⟨n3,hn3⟩:=zD1 (r.path.length)
 obtain⟨n4,hn4⟩:=zD1 (r.over.length)
 have H3:Hid (xB w w.heap.size (.slice A3 n3 c3) r.path):=zD0 (by rw[hn3];exact hin.path)
 have H4:Hid (xB w w.heap.size (.slice A4 n4 c4) r.over):=zD0 (by rw[hn4];exact hin.over)
 have HN:Hid (n3=r.path.length∧n4=r.over.length):=zD0 ⟨hn3,hn4⟩
 have HL:Hid (n3≤1000∧n4≤1000):=zD0 (by omega)
 rw[←hn3,←hn4]
 obtain⟨i0,hi,hz0,hz1,hz2⟩:=info_parts zAz
 have I0:=zD0 hi
 have I1:=zD0 hz0
 have I2:=zD0 hz1
 have I3:=zD0 hz2
 have hq0:=zB w (.cells #[.int .i64 r.id,.int .i64 r.entry,.int .i64 r.exit,.slice A3 n3 c3,.slice A4 n4 c4,y5,.int .i64 r.timer] 64)
 have hqb:=zD w (.cells #[.int .i64 r.id,.int .i64 r.entry,.int .i64 r.exit,.slice A3 n3 c3,.slice A4 n4 c4,y5,.int .i64 r.timer] 64)
 clear hn3 hn4 hin hl1 hl2 hi hz0 hz1 hz2
 go_enter Tryz.func96,Tryz.ntmps96
 go_upto_region 1 with fail
 generalize w.alloc (.cells #[.int .i64 r.id,.int .i64 r.entry,.int .i64 r.exit,.slice A3 n3 c3,.slice A4 n4 c4,y5,.int .i64 r.timer] 64)=q at hq0 hqb⊢
 have QX:=zD0 hq0
 have QB:=zD0 hqb
 obtain⟨k0,k1,k2,k3,k4,k5,k6⟩:=zL hq0
 obtain⟨yss,hy1,hy2,hy3,hy4,hy5,hy6,hy7⟩:=((H3.out.below qI hqb).more qI hqb.size).cells (by omega) kS zZ
 have Y1:=zD0 hy1
 have Y2:=zD0 hy2
 have Y3:=zD0 hy3
 have Y4:=zD0 hy4
 have Y6:=zD0 hy6
 have Y7:=zD0 hy7
 have YL:Hid (yss.flatten.length=n3*1):=zD0 (by rw[xA _ hy2,hy1,HN.out.1])
 clear hq0 hqb hy1 hy2 hy3 hy4 hy5 hy6 hy7
 go_upto_region 3 with((with_reducible show wpList _ _ _ (⟨some 7,_,_,_,_,_⟩::_) _ _);refine zQ rfl (.tmp 4) (.tmp 6) _ rfl Tryz.underlying61 I0.out I1.out rfl I2.out (by decide) I3.out (by decide) rfl (World.ownsRow_nil q q.heap.size _ _) rfl YL.out Y4.out Y7.out Y6.out (by have:=HL.out;omega) (Nat.le_refl _) ?_;intro v4 w4 hown4 hgrow4;rw[Nat.zero_add,List.nil_append] at hown4;obtain⟨B4,d4,rfl⟩:=xN hown4;have O4:=zD0 hown4;have G4:Hid (Below q.heap.size q w4):=zD0 ((Below.refl _ q).grown hgrow4 (Nat.le_refl _) (fun k hk=>by cases hk));clear hown4 hgrow4)
 have X4:=zD0 ((G4.out.block _ (zA QX.out)).trans QX.out)
 have BW:=zD0 (QB.out.trans (G4.out.mono QB.out.size))
 clear k0 k1 k2 k3 k4 k5 k6
 obtain⟨k0,k1,k2,k3,k4,k5,k6⟩:=zL X4.out
 obtain⟨zss,hz1,hz2,hz3,hz4,hz5,hz6,hz7⟩:=((H4.out.below qI BW.out).more qI BW.out.size).cells (by omega) kS zZ
 have Z1:=zD0 hz1
 have Z2:=zD0 hz2
 have Z3:=zD0 hz3
 have Z4:=zD0 hz4
 have Z6:=zD0 hz6
 have Z7:=zD0 hz7
 have ZL:Hid (zss.flatten.length=n4*1):=zD0 (by rw[xA _ hz2,hz1,HN.out.2])
 clear hz1 hz2 hz3 hz4 hz5 hz6 hz7
 go_wp2_with ((with_reducible show wpList _ _ _ (⟨some 11,_,_,_,_,_⟩::_) _ _);refine zQ rfl (.tmp 8) (.tmp 10) _ rfl Tryz.underlying61 I0.out I1.out rfl I2.out (by decide) I3.out (by decide) rfl O4.out rfl ZL.out Z4.out Z7.out Z6.out (by have:=HL.out;omega) G4.out.size ?_;intro v5 w5 hown5 hgrow5;have O5:=zD0 hown5;have G5:=zD0 hgrow5;clear hown5 hgrow5)
 go_ret
 exact⟨_,rfl,(own_cat (R:=jU) (sz:=1) jW O5.out (by rw[HN.out.1,HN.out.2]) Y1.out Z1.out Y2.out Z2.out Y3.out Z3.out (by have:=HL.out;unfold maxLen;omega)).mono QB.out.size,BW.out.grown G5.out BW.out.size (fun k hk=>Nat.le_trans QB.out.size (jE O4.out k hk))⟩
set_option maxHeartbeats 8000000 in
theorem rtwinroute_any (v:Value) (r:Rt) (w:World) (h:vS w w.heap.size v r) (hl1:r.path.length≤1000) (hl2:r.over.length≤1000) (hl3:r.flanks.length≤1000):
  Calls Tryz.prog 99 #[v] w fun e w'=>∃u3 u4 u5,e = .returned (.agg #[.int .i64 r.id,.int .i64 r.entry,.int .i64 r.exit,u3,u4,u5,.int .i64 r.timer])∧zBz w' w.heap.size u3 u4 u5 r∧Below w.heap.size w w':=by
 obtain⟨y3,y4,y5,rfl,hin⟩:=h
 obtain⟨A3,c3,rfl,-,-⟩:=hin.path.slice
 obtain⟨A4,c4,rfl,-,-⟩:=hin.over.slice
 obtain⟨A5,c5,rfl,-,-⟩:=hin.flanks.slice
 obtain⟨n3,hn3⟩:=zD1 (r.path.length)
 obtain⟨n4,hn4⟩:=zD1 (r.over.length)
 obtain⟨n5,hn5⟩:=zD1 (r.flanks.length)
 have H3:Hid (xB w w.heap.size (.slice A3 n3 c3) r.path):=zD0 (by rw[hn3];exact hin.path)
 have H4:Hid (xB w w.heap.size (.slice A4 n4 c4) r.over):=zD0 (by rw[hn4];exact hin.over)
 have H5:Hid (zT w w.heap.size (.slice A5 n5 c5) r.flanks):=zD0 (by rw[hn5];exact hin.flanks)
 have HN:Hid (n3=r.path.length∧n4=r.over.length∧n5=r.flanks.length):=zD0 ⟨hn3,hn4,hn5⟩
 have HL:Hid (n3≤1000∧n4≤1000∧n5≤1000):=zD0 (by omega)
 rw[←hn3,←hn4,←hn5]
 obtain⟨i0,hi,hz0,hz1,hz2⟩:=info_parts zAz
 have I0:=zD0 hi
 have I1:=zD0 hz0
 have I2:=zD0 hz1
 have I3:=zD0 hz2
 clear hi hz0 hz1 hz2
 obtain⟨j0,hi,hz0,hz1,hz2⟩:=info_parts infoFlank
 have J0:=zD0 hi
 have J1:=zD0 hz0
 have J2:=zD0 hz1
 have J3:=zD0 hz2
 clear hi hz0 hz1 hz2
 have hq:=boxes3 w (.cells #[.int .i64 r.id,.int .i64 r.entry,.int .i64 r.exit,.slice A3 n3 c3,.slice A4 n4 c4,.slice A5 n5 c5,.int .i64 r.timer] 64) (.cells #[.int .i64 0,.int .i64 0,.int .i64 0,.slice none 0 0,.slice none 0 0,.slice none 0 0,.int .i64 0] 64) (.cells #[.int .i64 r.id,.int .i64 r.entry,.int .i64 r.exit,.slice none 0 0,.slice none 0 0,.slice none 0 0,.int .i64 r.timer] 64)
 have hk1:=zL (zB w (.cells #[.int .i64 r.id,.int .i64 r.entry,.int .i64 r.exit,.slice A3 n3 c3,.slice A4 n4 c4,.slice A5 n5 c5,.int .i64 r.timer] 64))
 clear hn3 hn4 hn5 hin hl1 hl2 hl3
 obtain⟨q,hq',q0,q1,q2,qs,qb⟩:=hq
 go_enter Tryz.func99,Tryz.ntmps99
 go_upto_region 2 with fail
 rw[←hq']
 have X1:=zD0 q0
 have X2:=zD0 q1
 have X3:=zD0 q2
 have QS:=zD0 qs
 have QB:=zD0 qb
 clear hk1 hq' q0 q1 q2 qs qb
 obtain⟨k0,k1,k2,k3,k4,k5,k6⟩:=zL X1.out
 obtain⟨m0,m1,m2,m3,m4,m5,m6⟩:=zL X3.out
 obtain⟨yss,hy1,hy2,hy3,hy4,hy5,hy6,hy7⟩:=((H3.out.below qI QB.out).more qI QB.out.size).cells (by omega) kS zZ
 have Y1:=zD0 hy1
 have Y2:=zD0 hy2
 have Y3:=zD0 hy3
 have Y4:=zD0 hy4
 have Y6:=zD0 hy6
 have Y7:=zD0 hy7
 have YL:Hid (yss.flatten.length=n3*1):=zD0 (by rw[xA _ hy2,hy1,HN.out.1])
 clear hy1 hy2 hy3 hy4 hy5 hy6 hy7
 go_upto_region 3 with((with_reducible show wpList _ _ _ (⟨some 17,_,_,_,_,_⟩::_) _ _);refine zQ rfl (.tmp 14) (.tmp 16) _ rfl Tryz.underlying61 I0.out I1.out rfl I2.out (by decide) I3.out (by decide) rfl (World.ownsRow_nil q q.heap.size _ _) rfl YL.out Y4.out Y7.out Y6.out (by have:=HL.out;omega) (Nat.le_refl _) ?_;intro v3 w3 hown3 hgrow3;rw[Nat.zero_add,List.nil_append] at hown3;obtain⟨B3,d3,rfl⟩:=xN hown3;have O3:=zD0 (own_one (R:=jU) (sz:=1) jW hown3 HN.out.1 Y1.out Y2.out Y3.out (by have:=HL.out;unfold maxLen;omega));have G3:Hid (Below q.heap.size q w3):=zD0 ((Below.refl _ q).grown hgrow3 (Nat.le_refl _) (fun k hk=>by cases hk));clear hown3 hgrow3;have Z3:=zD0 ((G3.out.block _ (zA X3.out)).trans X3.out);have z3:=zY Z3.out 3;obtain⟨e0,e1,e2,e3,e4,e5,e6⟩:=zL Z3.out)
 clear k0 k1 k2 k3 k4 k5 k6 m0 m1 m2 m3 m4 m5 m6 e0 e1 e2 e3 e4 e5 e6 z3 Y1 Y2 Y3 Y4 Y6 Y7 YL
 have hg3:=zU w3 (w.heap.size+2) 3 (.slice B3 n3 d3)
 have t3:(w3.setCell ⟨w.heap.size+2,3,none⟩ (.slice B3 n3 d3)).heap[w.heap.size+2]? = some (.cells #[.int .i64 r.id,.int .i64 r.entry,.int .i64 r.exit,.slice B3 n3 d3,.slice none 0 0,.slice none 0 0,.int .i64 r.timer] 64 (0,0)):=qG (k:=3) Z3.out _
 have t1:=(xE w3 (w.heap.size+2) 3 w.heap.size (.slice B3 n3 d3) (by omega)).trans ((G3.out.block _ (zA X1.out)).trans X1.out)
 have t2:=(xE w3 (w.heap.size+2) 3 (w.heap.size+1) (.slice B3 n3 d3) (by omega)).trans ((G3.out.block _ (zA X2.out)).trans X2.out)
 have tb:=qH (QB.out.trans (G3.out.mono QB.out.size)) (show w.heap.size≤w.heap.size+2 by omega) 3 (.slice B3 n3 d3)
 have ts:w.heap.size+3≤(w3.setCell ⟨w.heap.size+2,3,none⟩ (.slice B3 n3 d3)).heap.size:=by have:=G3.out.size;have:=hg3.size;have:=QS.out;omega
 have tO3:zJ 3 1 jU (w3.setCell ⟨w.heap.size+2,3,none⟩ (.slice B3 n3 d3)) (w.heap.size+3) (.slice B3 n3 d3) r.path:=qK (R:=jU) jW (O3.out.mono (by have:=QS.out;omega)) hg3 (fun k hk=>by have:=jS O3.out k hk;have:=QS.out;omega)
 clear QS QB X1 X2 X3 Z3 G3 hg3 O3
 generalize w3.setCell ⟨w.heap.size+2,3,none⟩ (.slice B3 n3 d3)=q3 at t1 t2 t3 tb ts tO3⊢
 have X1:=zD0 t1
 have X2:=zD0 t2
 have X3:=zD0 t3
 have QB:=zD0 tb
 have QS:=zD0 ts
 have O3:=zD0 tO3
 clear t1 t2 t3 tb ts tO3
 obtain⟨k0,k1,k2,k3,k4,k5,k6⟩:=zL X1.out
 obtain⟨m0,m1,m2,m3,m4,m5,m6⟩:=zL X3.out
 obtain⟨yss,hy1,hy2,hy3,hy4,hy5,hy6,hy7⟩:=((H4.out.below qI QB.out).more qI QB.out.size).cells (by omega) kS zZ
 have Y1:=zD0 hy1
 have Y2:=zD0 hy2
 have Y3:=zD0 hy3
 have Y4:=zD0 hy4
 have Y6:=zD0 hy6
 have Y7:=zD0 hy7
 have YL:Hid (yss.flatten.length=n4*1):=zD0 (by rw[xA _ hy2,hy1,HN.out.2.1])
 clear hy1 hy2 hy3 hy4 hy5 hy6 hy7
 go_upto_region 4 with((with_reducible show wpList _ _ _ (⟨some 23,_,_,_,_,_⟩::_) _ _);refine zQ rfl (.tmp 20) (.tmp 22) _ rfl Tryz.underlying61 I0.out I1.out rfl I2.out (by decide) I3.out (by decide) rfl (World.ownsRow_nil q3 q3.heap.size _ _) rfl YL.out Y4.out Y7.out Y6.out (by have:=HL.out;omega) (Nat.le_refl _) ?_;intro v4 w4 hown4 hgrow4;rw[Nat.zero_add,List.nil_append] at hown4;obtain⟨B4,d4,rfl⟩:=xN hown4;have O4:=zD0 (own_one (R:=jU) (sz:=1) jW hown4 HN.out.2.1 Y1.out Y2.out Y3.out (by have:=HL.out;unfold maxLen;omega));have G4:Hid (Below q3.heap.size q3 w4):=zD0 ((Below.refl _ q3).grown hgrow4 (Nat.le_refl _) (fun k hk=>by cases hk));clear hown4 hgrow4;have Z3:=zD0 ((G4.out.block _ (zA X3.out)).trans X3.out);have z4:=zY Z3.out 4;obtain⟨e0,e1,e2,e3,e4,e5,e6⟩:=zL Z3.out)
 clear k0 k1 k2 k3 k4 k5 k6 m0 m1 m2 m3 m4 m5 m6 e0 e1 e2 e3 e4 e5 e6 z4 Y1 Y2 Y3 Y4 Y6 Y7 YL
 have hg4:=zU w4 (w.heap.size+2) 4 (.slice B4 n4 d4)
 have t3:(w4.setCell ⟨w.heap.size+2,4,none⟩ (.slice B4 n4 d4)).heap[w.heap.size+2]? = some (.cells #[.int .i64 r.id,.int .i64 r.entry,.int .i64 r.exit,.slice B3 n3 d3,.slice B4 n4 d4,.slice none 0 0,.int .i64 r.timer] 64 (0,0)):=qG (k:=4) Z3.out _
 have t1:=(xE w4 (w.heap.size+2) 4 w.heap.size (.slice B4 n4 d4) (by omega)).trans ((G4.out.block _ (zA X1.out)).trans X1.out)
 have t2:=(xE w4 (w.heap.size+2) 4 (w.heap.size+1) (.slice B4 n4 d4) (by omega)).trans ((G4.out.block _ (zA X2.out)).trans X2.out)
 have tb:=qH (QB.out.trans (G4.out.mono QB.out.size)) (show w.heap.size≤w.heap.size+2 by omega) 4 (.slice B4 n4 d4)
 have ts:w.heap.size+3≤(w4.setCell ⟨w.heap.size+2,4,none⟩ (.slice B4 n4 d4)).heap.size:=by have:=G4.out.size;have:=hg4.size;have:=QS.out;omega
 have tO4:zJ 3 1 jU (w4.setCell ⟨w.heap.size+2,4,none⟩ (.slice B4 n4 d4)) (w.heap.size+3) (.slice B4 n4 d4) r.over:=qK (R:=jU) jW (O4.out.mono (by have:=QS.out;omega)) hg4 (fun k hk=>by have:=jS O4.out k hk;have:=QS.out;omega)
 have tO3:=qK (R:=jU) jW (O3.out.below qI G4.out) hg4 (fun k hk=>by have:=jS O3.out k hk;omega)
 clear QS QB X1 X2 X3 Z3 G4 hg4 O3 O4
 generalize w4.setCell ⟨w.heap.size+2,4,none⟩ (.slice B4 n4 d4)=q4 at t1 t2 t3 tb ts tO3 tO4⊢
 have X1:=zD0 t1
 have X2:=zD0 t2
 have X3:=zD0 t3
 have QB:=zD0 tb
 have QS:=zD0 ts
 have O3:=zD0 tO3
 have O4:=zD0 tO4
 clear t1 t2 t3 tb ts tO3 tO4
 obtain⟨k0,k1,k2,k3,k4,k5,k6⟩:=zL X1.out
 obtain⟨m0,m1,m2,m3,m4,m5,m6⟩:=zL X3.out
 obtain⟨yss,hy1,hy2,hy3,hy4,hy5,hy6,hy7⟩:=((H5.out.below zM QB.out).more zM QB.out.size).cells (by omega) joinR_full kL
 have Y1:=zD0 hy1
 have Y2:=zD0 hy2
 have Y3:=zD0 hy3
 have Y4:=zD0 hy4
 have Y6:=zD0 hy6
 have Y7:=zD0 hy7
 have YL:Hid (yss.flatten.length=n5*2):=zD0 (by rw[xA _ hy2,hy1,HN.out.2.2])
 clear hy1 hy2 hy3 hy4 hy5 hy6 hy7
 go_upto_region 5 with((with_reducible show wpList _ _ _ (⟨some 29,_,_,_,_,_⟩::_) _ _);refine zQ rfl (.tmp 26) (.tmp 28) _ rfl Tryz.underlying62 J0.out J1.out rfl J2.out (by decide) J3.out (by decide) rfl (World.ownsRow_nil q4 q4.heap.size _ _) rfl YL.out Y4.out Y7.out Y6.out (by have:=HL.out;omega) (Nat.le_refl _) ?_;intro v5 w5 hown5 hgrow5;rw[Nat.zero_add,List.nil_append] at hown5;obtain⟨B5,d5,rfl⟩:=xN hown5;have O5:=zD0 (own_one (R:=zBb) (sz:=2) zAn hown5 HN.out.2.2 Y1.out Y2.out Y3.out (by have:=HL.out;unfold maxLen;omega));have G5:Hid (Below q4.heap.size q4 w5):=zD0 ((Below.refl _ q4).grown hgrow5 (Nat.le_refl _) (fun k hk=>by cases hk));clear hown5 hgrow5;have Z3:=zD0 ((G5.out.block _ (zA X3.out)).trans X3.out);have z5:=zY Z3.out 5;obtain⟨e0,e1,e2,e3,e4,e5,e6⟩:=zL Z3.out)
 clear k0 k1 k2 k3 k4 k5 k6 m0 m1 m2 m3 m4 m5 m6 e0 e1 e2 e3 e4 e5 e6 z5 Y1 Y2 Y3 Y4 Y6 Y7 YL
 have hg5:=zU w5 (w.heap.size+2) 5 (.slice B5 n5 d5)
 have t3:(w5.setCell ⟨w.heap.size+2,5,none⟩ (.slice B5 n5 d5)).heap[w.heap.size+2]? = some (.cells #[.int .i64 r.id,.int .i64 r.entry,.int .i64 r.exit,.slice B3 n3 d3,.slice B4 n4 d4,.slice B5 n5 d5,.int .i64 r.timer] 64 (0,0)):=qG (k:=5) Z3.out _
 have t1:=(xE w5 (w.heap.size+2) 5 w.heap.size (.slice B5 n5 d5) (by omega)).trans ((G5.out.block _ (zA X1.out)).trans X1.out)
 have t2:=(xE w5 (w.heap.size+2) 5 (w.heap.size+1) (.slice B5 n5 d5) (by omega)).trans ((G5.out.block _ (zA X2.out)).trans X2.out)
 have tb:=qH (QB.out.trans (G5.out.mono QB.out.size)) (show w.heap.size≤w.heap.size+2 by omega) 5 (.slice B5 n5 d5)
 have ts:w.heap.size+3≤(w5.setCell ⟨w.heap.size+2,5,none⟩ (.slice B5 n5 d5)).heap.size:=by have:=G5.out.size;have:=hg5.size;have:=QS.out;omega
 have tO5:zJ 140 2 zBb (w5.setCell ⟨w.heap.size+2,5,none⟩ (.slice B5 n5 d5)) (w.heap.size+3) (.slice B5 n5 d5) r.flanks:=qK (R:=zBb) zAn (O5.out.mono (by have:=QS.out;omega)) hg5 (fun k hk=>by have:=jS O5.out k hk;have:=QS.out;omega)
 have tO3:=qK (R:=jU) jW (O3.out.below qI G5.out) hg5 (fun k hk=>by have:=jS O3.out k hk;omega)
 have tO4:=qK (R:=jU) jW (O4.out.below qI G5.out) hg5 (fun k hk=>by have:=jS O4.out k hk;omega)
 clear QS QB X1 X2 X3 Z3 G5 hg5 O3 O4 O5
 generalize w5.setCell ⟨w.heap.size+2,5,none⟩ (.slice B5 n5 d5)=q5 at t1 t2 t3 tb ts tO3 tO4 tO5⊢
 have X1:=zD0 t1
 have X2:=zD0 t2
 have X3:=zD0 t3
 have QB:=zD0 tb
 have QS:=zD0 ts
 have O3:=zD0 tO3
 have O4:=zD0 tO4
 have O5:=zD0 tO5
 clear t1 t2 t3 tb ts tO3 tO4 tO5
 obtain⟨m0,m1,m2,m3,m4,m5,m6⟩:=zL X3.out
 go_wp2_with ((with_reducible show wpList _ _ _ (⟨none,_,_,_,_,_⟩::_) _ _);refine zK rfl _ (.tmp 2) (.tmp 31) rfl (w.heap.size+1) rfl (c':=#[.int .i64 r.id,.int .i64 r.entry,.int .i64 r.exit,.slice B3 n3 d3,.slice B4 n4 d4,.slice B5 n5 d5,.int .i64 r.timer]) rfl X2.out zCu rfl (by simp[Value.oneCell']) ?_)
 refine bodyPost_ret (results_cell_row rfl _ _ (w.heap.size+1) 64 #[.int .i64 r.id,.int .i64 r.entry,.int .i64 r.exit,.slice B3 n3 d3,.slice B4 n4 d4,.slice B5 n5 d5,.int .i64 r.timer] (0,0) _ rfl (setRow_heap _ _ _ _ _ _ X2.out) Tryz.underlying64 rfl zCu) rfl ⟨_,_,_,rfl,?_,below_setRow QB.out (Nat.le_succ _) _⟩
 have hg:=qB q5 (w.heap.size+1) #[.int .i64 r.id,.int .i64 r.entry,.int .i64 r.exit,.slice B3 n3 d3,.slice B4 n4 d4,.slice B5 n5 d5,.int .i64 r.timer]
 exact⟨(qK (R:=jU) jW O3.out hg (fun k hk=>by have:=jS O3.out k hk;omega)).mono (by omega),(qK (R:=jU) jW O4.out hg (fun k hk=>by have:=jS O4.out k hk;omega)).mono (by omega),(qK (R:=zBb) zAn O5.out hg (fun k hk=>by have:=jS O5.out k hk;omega)).mono (by omega)⟩
end Go.Proofs.YtemmgmjhomgbbaaGreat
