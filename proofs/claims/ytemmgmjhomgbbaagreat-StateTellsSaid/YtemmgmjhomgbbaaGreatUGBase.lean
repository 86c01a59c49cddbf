/-
 What every stage's texts share: the heap, blocks of cells, rows of the call's own, boxes. No type of the program is named.
 Conditions: none.
-/
import Derived.Test.YtemmgmjhomgbbaaGreatProg
import Derived.Test.YtemmgmjhomgbbaaGreatChecked
import Derived.Deep.MidRow
import Derived.Laws.Rows
import Derived.Laws.Tables
import Derived.Below
import Derived.Deep.WholeRow
import Derived.Laws.CopyOwn
import Derived.ProofKit
import Derived.OpenShut
import Derived.ShutString
import Derived.ChangeOld
import Derived.Laws.BytesString
import Derived.Laws.IdiomStrings
import Derived.WalkKit
import Derived.Deep.RegionHeld3
import Derived.Lib.Hide
import Derived.OwnWalk
import Derived.StillTailTactics
import Derived.Great.BuildSlice
import Derived.Lib.SmallJoins
import Derived.Deep.Slices
import Derived.Deep.Fields
import Derived.ChangeSame
import Derived.BigRegion
import Derived.Deep.CutRange
import Derived.Test.YtemmgmjhomgbbaaGreatRows
set_option linter.unusedVariables false
set_option linter.unusedSimpArgs false
set_option maxRecDepth 100000
namespace Go.Proofs.YtemmgmjhomgbbaaGreat
open Go.RowKit
theorem zD0 {p:Prop} (h:p):Hid p:=Lib.hid h
theorem zD1 {α:Type _} (a:α):∃z,z=a:=⟨a,rfl⟩
theorem zB (w:World) (o:Obj):(w.alloc o).heap[w.heap.size]? = some o:=by
 show(w.heap.push o)[w.heap.size]? = some o
 simp
theorem yQ (w:World) (o:Obj):(w.alloc o).heap.size=w.heap.size+1:=by
 show(w.heap.push o).size=_
 simp
theorem qZ (w:World) (o:Obj) {b:Nat} (h:b<w.heap.size):(w.alloc o).heap[b]? = w.heap[b]?:=by
 show(w.heap.push o)[b]? = w.heap[b]?
 rw[Array.getElem?_push,if_neg (by omega)]
theorem zA {w:World} {b:Nat} {o:Obj} (h:w.heap[b]? = some o):b<w.heap.size:=(Array.getElem?_eq_some_iff.1 h).1
theorem zD (w:World) (o:Obj):Below w.heap.size w (w.alloc o):=(Below.refl _ w).alloc (Nat.le_refl _) o
theorem zG {W:World} {p:Addr} {v:Value} (h:W.cell? p=some v):p.block<W.heap.size:=by
 rcases Nat.lt_or_ge p.block W.heap.size with hlt|hge
 ·exact hlt
 ·simp[World.cell?,Array.getElem?_eq_none hge] at h
theorem zAt {w w':World} {base e size n:Nat} {v:Value} {ys:List Value} (h:w.ownsRow base e size v n ys) (hb:Below w.heap.size w w'):w'.ownsRow base e size v n ys:=by
 refine⟨h.1,?_⟩
 rcases h.2 with h2|⟨g,cap,cur,h1,h2,h3,h4⟩
 ·exact .inl h2
 ·exact .inr ⟨g,cap,cur,h1,h2,(hb.block g (Array.getElem?_eq_some_iff.1 h3).1).trans h3,h4⟩
theorem owns_mono {W:World} {lo lo' e size n:Nat} {v:Value} {ys:List Value} (h:W.ownsRow lo e size v n ys) (hl:lo'≤lo):W.ownsRow lo' e size v n ys:=by
 refine⟨h.1,?_⟩
 rcases h.2 with h2|⟨g,cap,cur,h1,h2,h3,h4⟩
 ·exact .inl h2
 ·exact .inr ⟨g,cap,cur,h1,Nat.le_trans hl h2,h3,h4⟩
theorem jR {w:World} {base e size n:Nat} {v:Value} {ys:List Value} (h:w.ownsRow base e size v n ys) {g:Nat} (hg:v.ownBlock=some g):∃cur,w.heap[g]? = some (.cells cur e (0,0))∧base≤g:=by
 rcases h.2 with⟨rfl,_⟩|⟨b,cap,cur,rfl,hb,h3,_⟩
 ·cases hg
 ·cases hg;exact⟨cur,h3,hb⟩
theorem jE {w:World} {base e size n:Nat} {v:Value} {ys:List Value} (h:w.ownsRow base e size v n ys):∀k,v.ownBlock=some k→base≤k:=fun k hk=>(h.lt k hk).1
theorem owns_apart {w:World} {base e size n base' e' size' n':Nat} {v v':Value} {ys ys':List Value} (hne:e≠e') (h:w.ownsRow base e size v n ys) (h':w.ownsRow base' e' size' v' n' ys'):v.ownBlock=none∨v.ownBlock≠v'.ownBlock:=by
 cases hb:v.ownBlock with
 | none=>exact .inl rfl
 | some g=>
  refine .inr fun e1=>?_
  obtain⟨c1,h1,_⟩:=jR h hb
  obtain⟨c2,h2,_⟩:=jR h' e1.symm
  rw[h1] at h2
  cases h2
  exact hne rfl
theorem zI {w:World} {b:Nat} {v1 v2:Value} {t:TypeId} {fr:Nat×Nat} (h:w.heap[b]? = some (.cells #[v1,v2] t fr)):w.cell? ⟨b,0,none⟩=some v1∧w.cell? ⟨b,1,none⟩=some v2:=
 ⟨by rw[cell_of_row _ _ _ _ _ _ h];rfl,by rw[cell_of_row _ _ _ _ _ _ h];rfl⟩
theorem zY {w:World} {b:Nat} {c:Array Value} {t:TypeId} (h:w.heap[b]? = some (.cells c t (0,0))) (j:Nat):w.frozen? ⟨b,j,none⟩=false:=by simp[World.frozen?,h]
theorem heap_other {W W':World} {g b:Nat} {cur:Array Value} {c:Array Value} {t e:TypeId} {fr fr':Nat×Nat} (hne:t≠e) (h:W.heap[b]? = some (.cells c t fr)) (hg:W.heap[g]? = some (.cells cur e fr')) (hgr:W.grownBy W' (some g)):W'.heap[b]? = some (.cells c t fr):=
 (hgr.block b (zA h) (fun e1=>by
  obtain rfl:b=g:=by simpa using e1
  rw[h] at hg
  cases hg
  exact hne rfl)).trans h
theorem heap_set2 {W:World} {b:Nat} {c0 c1:Value} {t:TypeId} (h:W.heap[b]? = some (.cells #[c0,c1] t (0,0))) (x y:Value):((W.setCell ⟨b,0,none⟩ x).setCell ⟨b,1,none⟩ y).heap[b]? = some (.cells #[x,y] t (0,0)):=by
 simp only[World.setCell,Array.getElem?_modify,if_true,h,Option.map_some]
 rfl
theorem grown_set (W:World) (b j:Nat) (x:Value):W.grownBy (W.setCell ⟨b,j,none⟩ x) (some b):=⟨rfl,rfl,rfl,by simp[World.setCell],fun i _ hi=>Below.heap_setCell W ⟨b,j,none⟩ x i (fun e=>hi (by rw[e]))⟩
theorem xE (W:World) (b j i:Nat) (x:Value) (h:i≠b):(W.setCell ⟨b,j,none⟩ x).heap[i]? = W.heap[i]?:=Below.heap_setCell W ⟨b,j,none⟩ x i h
theorem qH {B b:Nat} {w W:World} (h:Below B w W) (hb:B≤b) (j:Nat) (x:Value):Below B w (W.setCell ⟨b,j,none⟩ x):=h.setCell (p:=⟨b,j,none⟩) hb x
theorem below_set2 {B b:Nat} {w W:World} (h:Below B w W) (hb:B≤b) (x y:Value):Below B w ((W.setCell ⟨b,0,none⟩ x).setCell ⟨b,1,none⟩ y):=qH (qH h hb 0 x) hb 1 y
theorem zV (w:World) (o1 o2:Obj):((w.alloc o1).alloc o2).heap[w.heap.size]? = some o1∧((w.alloc o1).alloc o2).heap[w.heap.size+1]? = some o2∧Below w.heap.size w ((w.alloc o1).alloc o2):=by
 refine⟨?_,?_,(zD w _).alloc (by simp) _⟩
 ·rw[qZ _ _ (by rw[yQ];omega)];exact zB _ _
 ·have:=zB (w.alloc o1) o2
  rwa [yQ] at this
theorem boxes3 (w:World) (a b c:Obj):∃q,q=((w.alloc a).alloc b).alloc c∧q.heap[w.heap.size]? = some a∧q.heap[w.heap.size+1]? = some b∧q.heap[w.heap.size+1+1]? = some c∧q.heap.size=w.heap.size+3∧Below w.heap.size w q:=by
 refine⟨_,rfl,?_,?_,?_,by simp,(((Below.refl _ w).alloc (Nat.le_refl _) _).alloc (by simp) _).alloc (by simp;omega) _⟩
 ·rw[qZ _ _ (by simp;omega),qZ _ _ (by simp)];exact zB _ _
 ·rw[qZ _ _ (by simp)]
  have:=zB (w.alloc a) b
  simpa using this
 ·have:=zB ((w.alloc a).alloc b) c
  simpa using this
theorem xN {w:World} {base e size n:Nat} {v:Value} {ys:List Value} (h:w.ownsRow base e size v n ys):∃A c,v = .slice A n c:=by
 rcases h.2 with⟨h1,h2⟩|⟨gg,cap,cur,h1,_⟩
 ·exact⟨none,0,by rw[h1,h2]⟩
 ·exact⟨_,_,h1⟩
theorem addr_plain {W:World} {a:Addr} {j:Nat} (hj:j=0) {v:Value} (h:W.cell? (a.add j)=some v):∃b off,a=⟨b,off,none⟩:=by
 subst hj
 obtain⟨b,off,spot⟩:=a
 have hspot:spot=none:=World.cell?_spot h
 subst hspot
 exact⟨b,off,rfl⟩
theorem wp_store_2 {P:Program} {op:Oper} {a:Act} {w:World} {K:Act→World→Prop} {Q:Exit→Act→World→Prop} (ty:TypeId) (x y:Operand) (ho:op.op = .store ty x y)
  (b:Nat) (hx:a.eval x = .pointer (some ⟨b,0,none⟩)) {c1 c2 v1 v2:Value} (hy:a.eval y = .agg #[v1,v2]) {t:TypeId} (hb:w.heap[b]? = some (.cells #[c1,c2] t (0,0)))
  (hi:(P.info? ty).map (·.size)=some 2) (h1:v1.oneCell'=true) (h2:v2.oneCell'=true)
  (h:K (a.put op.dst undef) (w.setRow b #[v1,v2])):op.wp P a w K Q:=by
 unfold Oper.wp execOp
 simp only[ho,hx,hy,Instr.storeAt,Instr.sureAddr,Sem.run_bind,Sem.run_pure,Result.andThen_ok]
 rw[run_storeVar_row w b t ty #[c1,c2] #[v1,v2] hb hi rfl (by simp[h1,h2])]
 exact h
theorem zB6 {P:Program} {fn:Func} {p u:Tmp} {ty:TypeId} (h:fn.results=#[.cell p ty,.tmp u]) (tmps:Array Value) (w:World) (g:Nat) {v1 v2:Value} {t:TypeId} {fr:Nat×Nat} (hp:tmps.getD p undef = .pointer (some ⟨g,0,none⟩)) (hb:w.heap[g]? = some (.cells #[v1,v2] t fr))
  {fs:Array Field} (hu:P.underlying ty=some (.struct fs)) (hi:(P.info? ty).map (·.size)=some 2) (x:Value) (hx:tmps.getD u undef=x):(results fn tmps).run P w = .ok (.tuple #[.agg #[v1,v2],x]) w:=by
 have hp':tmps[p]?.getD undef = .pointer (some ⟨g,0,none⟩):=by simpa using hp
 rw[results_cell_tmp h,hp,hx]
 simp[asAddr,run_loadVar_row w g t ty #[v1,v2] fr _ hb hu rfl (by simpa using hi)]
theorem laidOut_:laidOutB Tryz.prog=true:=by kernel_rfl
theorem own_:ownKnob Tryz.prog.godebug=none:=by kernel_rfl
theorem qB (w:World) (g:Nat) (cs:Array Value):w.grownBy (w.setRow g cs) (some g):=
 ⟨rfl,rfl,rfl,by simp[World.setRow],fun b _ hb=>setRow_other _ _ _ _ (fun e=>hb (by rw[e]))⟩
theorem zB3 {a b c:World} {r:Option Nat} (h:a.grownBy b r) (k:b.grownBy c r):a.grownBy c r:=
 ⟨k.os.trans h.os,k.tape.trans h.tape,k.output.trans h.output,Nat.le_trans h.size k.size,fun i hi hne=>(k.block i (Nat.lt_of_lt_of_le hi h.size) hne).trans (h.block i hi hne)⟩
theorem zC {w:World} {b:Nat} {v1 v2 v3:Value} {t:TypeId} {fr:Nat×Nat} (h:w.heap[b]? = some (.cells #[v1,v2,v3] t fr)):w.cell? ⟨b,0,none⟩=some v1∧w.cell? ⟨b,1,none⟩=some v2∧w.cell? ⟨b,2,none⟩=some v3:=
 ⟨cell_of_row _ _ _ _ _ _ h,cell_of_row _ _ _ _ _ _ h,cell_of_row _ _ _ _ _ _ h⟩
section
variable {P:Program} {ops:Array Oper} {md:Region.Mode} {Q:Exit→Act→World→Prop} {S:World→Prop} {oi:Oper} {fuel:Nat} {listed:Array Bool} {a a':Act} {w:World} {v:Value}
theorem zn:(∀(α:Type) (xs:List α) (i:Nat) (h:i<xs.toArray.size),xs.toArray[i]=xs[i]'(by simpa using h))∧(∀(α:Type) (a:α) (l:List α) (i:Nat) (h:i+1<(a::l).length),(a::l)[i+1]=l[i]'(by simpa using h))∧(∀(α:Type) (a:α) (l:List α) (h:0<(a::l).length),(a::l)[0]=a)∧(∀(α:Type) (l:List α) (i:Nat) (a:α),l.toArray.setIfInBounds i a=(l.set i a).toArray)∧(∀(α:Type) (l:List α) (a b:α),(a::l).set 0 b=b::l)∧(∀(α:Type) (l:List α) (a b:α) (i:Nat),(a::l).set (i+1) b=a::l.set i b):=
 ⟨fun _ _ _ h=>List.getElem_toArray h,fun _ _ _ _ _=>List.getElem_cons_succ ..,fun _ _ _ _=>rfl,fun _ _ _ _=>List.setIfInBounds_toArray ..,fun _ _ _ _=>rfl,fun _ _ _ _ _=>rfl⟩
theorem tk (i:Nat) (hS:S w) (h:wpAnyH P md ops Q S fuel (listed.setIfInBounds i true) a' w) (hi:ops[i]? = some oi:=by rfl)
  (hy:∀w',S w'→(execOp a.eval oi).run P w' = .ok (.value v) w':=by intro w' hSw;go_simp;try with_reducible rfl) (ha:a.put oi.dst v=a':=by simp only[zn,Act.put];rfl)
  (hw:Region.wanted oi (yielded ops a.tmps)=true:=by rfl) (hs:Region.noSelect ops=true:=by kernel_rfl) (hf:Region.free md ops listed i=true:=by kernel_rfl) (hr:(Region.ready md ops listed).contains i=true:=by kernel_rfl)
  (hQ:∀c a w,Q (.panic c) (a.put oi.dst v) w→Q (.panic c) a w:=by exact fun _ _ _ h=>h):wpAnyH P md ops Q S (fuel+1) listed a w:=
 wpAnyH_take hi hs hf hr hQ (Or.inl ⟨hw,hy⟩) hS (ha▸h)
theorem tkc {C:World→Prop} (i:Nat) (hS:S w) (hC:∀w',S w'→C w') (h:wpAnyH P md ops Q S fuel (listed.setIfInBounds i true) a' w) (hi:ops[i]? = some oi:=by rfl)
  (hy:∀w',S w'→C w'→(execOp a.eval oi).run P w' = .ok (.value v) w':=by intro w' hSw hC;go_simp;try with_reducible rfl) (ha:a.put oi.dst v=a':=by simp only[zn,Act.put];rfl)
  (hw:Region.wanted oi (yielded ops a.tmps)=true:=by rfl) (hs:Region.noSelect ops=true:=by kernel_rfl) (hf:Region.free md ops listed i=true:=by kernel_rfl) (hr:(Region.ready md ops listed).contains i=true:=by kernel_rfl)
  (hQ:∀c a w,Q (.panic c) (a.put oi.dst v) w→Q (.panic c) a w:=by exact fun _ _ _ h=>h):wpAnyH P md ops Q S (fuel+1) listed a w:=
 wpAnyH_take hi hs hf hr hQ (Or.inl ⟨hw,fun w' h'=>hy w' h' (hC w' h')⟩) hS (ha▸h)
theorem tks (i:Nat) (hS:S w) (h:wpAnyH P md ops Q S fuel (listed.setIfInBounds i true) a' w) (hi:ops[i]? = some oi:=by rfl) (ha:a.put oi.dst undef=a':=by simp only[zn,Act.put];rfl)
  (hw:Region.wanted oi (yielded ops a.tmps)=false:=by rfl) (hs:Region.noSelect ops=true:=by kernel_rfl) (hf:Region.free md ops listed i=true:=by kernel_rfl) (hr:(Region.ready md ops listed).contains i=true:=by kernel_rfl)
  (hQ:∀c a w,Q (.panic c) (a.put oi.dst undef) w→Q (.panic c) a w:=by exact fun _ _ _ h=>h):wpAnyH P md ops Q S (fuel+1) listed a w:=
 wpAnyH_take hi hs hf hr hQ (Or.inr ⟨hw,rfl⟩) hS (ha▸h)
theorem tkr (i:Nat) (h:∀K':Act→World→Prop,Shut (∀a w,S w→(S w→wpAnyH P md ops Q S fuel (listed.setIfInBounds i true) a w)→K' a w)→if Region.wanted oi (yielded ops a.tmps)=true then Oper.wp P oi a w K' Q else K' (a.put oi.dst undef) w)
  (hi:ops[i]? = some oi:=by rfl) (hr:Region.ready md ops listed=[i]:=by kernel_rfl):wpAnyH P md ops Q S (fuel+1) listed a w:=
 wpAnyH_ready hr (by simp) (AllReadyH.cons hi h AllReadyH.nil)
end
open Go.ChangeShapes Go.WideShapes Go.ChangeAt Go.RowKit Go.Joins Go.Deep
abbrev El (α:Type):=World→Nat→(Nat→Option Value)→α→Prop
structure Elem {α:Type} (R:El α):Prop where
 below:∀ {W W':World} {B:Nat} {c:Nat→Option Value} {x:α},R W B c x→Below B W W'→R W' B c x
 more:∀ {W:World} {B B':Nat} {c:Nat→Option Value} {x:α},R W B c x→B≤B'→R W B' c x
def xC {α:Type} (sz:Nat) (R:El α) (W:World) (B:Nat) (v:Value) (xs:List α):Prop:=
 ∃(A:Option Addr) (cap:Nat),v = .slice A xs.length cap∧xs.length≤cap∧cap≤maxLen∧(A=none→cap=0) ∧
  (0<xs.length→∃b off,A=some ⟨b,off,none⟩∧b<B∧∀j (h:j<xs.length),R W B (fun k=>W.cell? ⟨b,off+j*sz+k,none⟩) xs[j])
section
variable {α:Type} {sz:Nat} {R:El α} {W W':World} {B:Nat} {v:Value} {xs:List α}
theorem xC.nil_:xC sz R W B (.slice none 0 0) ([]:List α):=⟨none,0,rfl,Nat.le_refl _,Nat.zero_le _,fun _=>rfl,fun h=>absurd h (by simp)⟩
theorem xC.below (e:Elem R) (h:xC sz R W B v xs) (hb:Below B W W'):xC sz R W' B v xs:=by
 obtain⟨A,cap,h0,h1,h2,hn,h3⟩:=h
 refine⟨A,cap,h0,h1,h2,hn,fun hp=>?_⟩
 obtain⟨b,off,ha,hlt,hc⟩:=h3 hp
 refine⟨b,off,ha,hlt,fun j hj=>?_⟩
 have hf:(fun k=>W'.cell? ⟨b,off+j*sz+k,none⟩)=fun k=>W.cell? ⟨b,off+j*sz+k,none⟩:=funext fun k=>hb.cell (p:=⟨b,_,none⟩) hlt
 rw[hf]
 exact e.below (hc j hj) hb
theorem xC.more (e:Elem R) {B':Nat} (h:xC sz R W B v xs) (hB:B≤B'):xC sz R W B' v xs:=by
 obtain⟨A,cap,h0,h1,h2,hn,h3⟩:=h
 refine⟨A,cap,h0,h1,h2,hn,fun hp=>?_⟩
 obtain⟨b,off,ha,hlt,hc⟩:=h3 hp
 exact⟨b,off,ha,by omega,fun j hj=>e.more (hc j hj) hB⟩
theorem xC.slice (h:xC sz R W B v xs):∃A c,v = .slice A xs.length c∧xs.length≤c∧c≤maxLen:=by
 obtain⟨A,cap,h0,h1,h2,_⟩:=h
 exact⟨A,cap,h0,h1,h2⟩
theorem xC.at {A:Option Addr} {n cap:Nat} (h:xC sz R W B (.slice A n cap) xs) {j:Nat} (hj:j<xs.length):
  ∃b off,A=some ⟨b,off,none⟩∧b<B∧R W B (fun k=>W.cell? ⟨b,off+j*sz+k,none⟩) xs[j]:=by
 obtain⟨A',cap',e,_,_,_,h3⟩:=h
 cases e
 obtain⟨b,off,ha,hb,hc⟩:=h3 (by omega)
 exact⟨b,off,ha,hb,hc j hj⟩
theorem jY {H:Type} {enc:TypeId×Value→H} {tS T:TypeId} (hu:Tryz.prog.underlying tS=some (.slice T)) (hC:Tryz.prog.cellsOf T=sz) (hsz:0<sz)
  (hel:∀(n:Nat) (cs:List Value) (y:DataW H×List MemPlace),DataW.trod enc Tryz.prog W 0 (fun _=>true) true n T cs=some y→cs.length=sz→∃x:α,R W W.heap.size (fun k=>cs[k]?) x) (x0:α)
  (hR:∀(c c':Nat→Option Value) (x:α),(∀k,k<sz→c k=c' k)→R W W.heap.size c x→R W W.heap.size c' x)
  {n:Nat} {y:DataW H×List MemPlace} (h:DataW.trod enc Tryz.prog W 0 (fun _=>true) true n tS [v]=some y):
  ∃xs:List α,xC sz R W W.heap.size v xs:=by
 rcases open_slice hu h with⟨hcs,_⟩|⟨a,len,cap,m,n',D,Pl,hcs,_,hl,hm,hmm,_,hi⟩
 ·simp at hcs
  subst hcs
  exact⟨[],xC.nil_⟩
 ·simp at hcs
  subst hcs
  simp only[if_true] at hmm
  have each:∀i,∃x:α,i<m→(∃u,W.cell? (a.add (i*sz))=some u)∧R W W.heap.size (fun k=>W.cell? (a.add (i*sz+k))) x:=fun i=>by
   by_cases him:i<m
   ·obtain⟨cs',hc,ht⟩:=hi i him
    rw[hC] at hc
    obtain⟨_,hcl,hat⟩:=World.cells?_some hc
    obtain⟨x,hx⟩:=hel _ _ _ ht hcl
    have hcell:∀k,k<sz→cs'[k]? = W.cell? (a.add (i*sz+k)):=fun k hk=>by
     have h0:=hat k (by omega)
     rw[Addr.add_add] at h0
     rw[h0,List.getElem?_eq_getElem (by omega)]
    refine⟨x,fun _=>⟨⟨cs'[0]'(by omega),?_⟩,hR _ _ x hcell hx⟩⟩
    have h0:=hcell 0 hsz
    rw[Nat.add_zero,List.getElem?_eq_getElem (by omega)] at h0
    exact h0.symm
   ·exact⟨x0,fun h=>absurd h him⟩
  obtain⟨f,hf⟩:=Classical.axiomOfChoice each
  have hlen:((List.range len).map f).length=len:=by simp
  refine⟨(List.range len).map f,some a,cap,by rw[hlen],by rw[hlen];exact hl,hm,fun e=>(by cases e),fun hp=>?_⟩
  rw[hlen] at hp
  obtain⟨⟨u0,h0⟩,_⟩:=hf 0 (by omega)
  obtain⟨b,off,rfl⟩:=addr_plain (by omega) h0
  refine⟨b,off,rfl,by simpa [Addr.add] using zG h0,fun j hj=>?_⟩
  rw[hlen] at hj
  have h1:=(hf j (by omega)).2
  have he:(fun k=>W.cell? ((⟨b,off,none⟩:Addr).add (j*sz+k)))=fun k=>W.cell? ⟨b,off+j*sz+k,none⟩:=funext fun k=>by rw[Addr.add_lit,Nat.add_assoc]
  rw[he] at h1
  simpa using h1
end
def zJ {α:Type} (T:TypeId) (sz:Nat) (R:El α) (W:World) (lo:Nat) (v:Value) (xs:List α):Prop:=
 ∃yss:List (List Value),W.ownsRow lo T sz v xs.length yss.flatten∧yss.length=xs.length∧xs.length≤maxLen∧(∀ys∈yss,ys.length=sz) ∧
  ∀(j:Nat) (ys:List Value) (x:α),yss[j]? = some ys→xs[j]? = some x→R W W.heap.size (fun k=>ys[k]?) x
theorem flat_at {sz:Nat}:∀(yss:List (List Value)) (j k:Nat) (ys:List Value),(∀ys∈yss,ys.length=sz)→yss[j]? = some ys→k<sz→yss.flatten[j*sz+k]? = ys[k]?
 | [],j,k,ys,_,h,_=>by simp at h
 | y::yss,0,k,ys,hl,h,hk=>by
  cases h
  rw[List.flatten_cons,Nat.zero_mul,Nat.zero_add,List.getElem?_append_left (by rw[hl _ (by simp)];exact hk)]
 | y::yss,j+1,k,ys,hl,h,hk=>by
  have hy:=hl y (by simp)
  rw[List.flatten_cons,List.getElem?_append_right (by rw[hy,Nat.succ_mul];omega),hy,show(j+1)*sz+k-sz=j*sz+k from by rw[Nat.succ_mul];omega]
  exact flat_at yss j k ys (fun z hz=>hl z (by simp[hz])) (by simpa using h) hk
theorem xA {sz:Nat}:∀(yss:List (List Value)),(∀ys∈yss,ys.length=sz)→yss.flatten.length=yss.length*sz
 | [],_=>by simp
 | y::yss,h=>by
  rw[List.flatten_cons,List.length_append,h y (by simp),xA yss (fun z hz=>h z (by simp[hz])),List.length_cons,Nat.succ_mul];omega
section
variable {α:Type} {T:TypeId} {sz:Nat} {R:El α} {W W':World} {lo:Nat} {v:Value} {xs:List α}
theorem zJ.nil_:zJ T sz R W lo (.slice none 0 0) ([]:List α):=⟨[],World.ownsRow_nil _ _ _ _,rfl,by simp,by simp,fun j ys x h=>by simp at h⟩
theorem zJ.below (e:Elem R) (h:zJ T sz R W lo v xs) (hb:Below W.heap.size W W'):zJ T sz R W' lo v xs:=by
 obtain⟨yss,ho,hl,hm,hs,ht⟩:=h
 exact⟨yss,zAt ho hb,hl,hm,hs,fun j ys x h1 h2=>e.more (e.below (ht j ys x h1 h2) hb) hb.size⟩
theorem zJ.mono {lo':Nat} (h:zJ T sz R W lo v xs) (hl:lo'≤lo):zJ T sz R W lo' v xs:=by
 obtain⟨yss,ho,h⟩:=h
 exact⟨yss,owns_mono ho hl,h⟩
theorem zJ.in_ (hR:∀(c c':Nat→Option Value) (x:α),(∀k,k<sz→c k=c' k)→R W W.heap.size c x→R W W.heap.size c' x) (h:zJ T sz R W lo v xs):xC sz R W W.heap.size v xs:=by
 obtain⟨yss,ho,hl,hm,hs,ht⟩:=h
 have ho':=ho
 rcases ho.2 with⟨rfl,h0⟩|⟨g,cap,cur,rfl,_,hgb,hcap,hmx,_⟩
 ·exact⟨none,0,by rw[h0],by omega,Nat.zero_le _,fun _=>rfl,fun h=>absurd h (by omega)⟩
 ·refine⟨_,cap,rfl,hcap,hmx,(fun e=>by cases e),fun _=>⟨g,0,rfl,(Array.getElem?_eq_some_iff.1 hgb).1,fun j hj=>?_⟩⟩
  have hx:xs[j]? = some xs[j]:=List.getElem?_eq_getElem hj
  have hy:yss[j]? = some (yss[j]'(by omega)):=List.getElem?_eq_getElem (by omega)
  refine hR _ _ _ (fun k hk=>?_) (ht j _ _ hy hx)
  have hjk:j*sz+k<xs.length*sz:=by
   have:=Nat.mul_le_mul_right sz (show j+1≤xs.length from hj)
   rw[Nat.succ_mul] at this
   omega
  rw[Nat.zero_add,ho'.cellAt (j*sz+k) hjk,flat_at yss j k _ hs hy hk]
theorem zJ.snoc {w1 w2:World} {v2:Value} {ys:List Value} {x:α} {o:Obj} {yss:List (List Value)} (e:Elem R) (hT:∀ {W W':World} {c:Nat→Option Value} {y:α} {g:Nat},lo≤g→R W W.heap.size c y→W.grownBy W' (some g)→(∃cur,W.heap[g]? = some (.cells cur T (0,0)))→R W' W'.heap.size c y)
  (ho:W.ownsRow lo T sz v xs.length yss.flatten) (hl:yss.length=xs.length) (hs:∀ys∈yss,ys.length=sz) (hy:ys.length=sz) (hm:xs.length+1≤maxLen)
  (ht:∀(j:Nat) (ys:List Value) (x:α),yss[j]? = some ys→xs[j]? = some x→R W W.heap.size (fun k=>ys[k]?) x) (hb:Below W.heap.size W w1) (hx:R w1 w1.heap.size (fun k=>ys[k]?) x)
  (hown:w2.ownsRow lo T sz v2 (xs.length+1) (yss.flatten++ys)) (hgr:(w1.alloc o).grownBy w2 v.ownBlock):zJ T sz R w2 lo v2 (xs++[x]):=by
 have hba:Below W.heap.size W (w1.alloc o):=hb.alloc hb.size o
 have hxa:R (w1.alloc o) (w1.alloc o).heap.size (fun k=>ys[k]?) x:=e.more (e.below hx (zD w1 o)) (zD w1 o).size
 have keep:∀(c:Nat→Option Value) (y:α),R (w1.alloc o) (w1.alloc o).heap.size c y→R w2 w2.heap.size c y:=fun c y h=>by
  cases hv:v.ownBlock with
  | none=>
   rw[hv] at hgr
   have hbb:Below (w1.alloc o).heap.size (w1.alloc o) w2:=(Below.refl _ _).grown hgr (Nat.le_refl _) (fun k hk=>by cases hk)
   exact e.more (e.below h hbb) hbb.size
  | some g=>
   rw[hv] at hgr
   obtain⟨c1,h1,_⟩:=jR ho hv
   exact hT (jE ho g hv) h hgr ⟨c1,(hba.block g (Array.getElem?_eq_some_iff.1 h1).1).trans h1⟩
 refine⟨yss++[ys],by rw[List.length_append,List.length_singleton,List.flatten_append,List.flatten_singleton];exact hown,by simp[hl],by simpa using hm,fun z hz=>?_,fun j z y hz hy'=>?_⟩
 ·rcases List.mem_append.1 hz with h|h
  ·exact hs z h
  ·rw[List.mem_singleton.1 h];exact hy
 ·rcases Nat.lt_or_ge j xs.length with h|h
  ·rw[List.getElem?_append_left (by omega)] at hz
   rw[List.getElem?_append_left h] at hy'
   exact keep _ _ (e.more (e.below (ht j z y hz hy') hba) hba.size)
  ·have hj1:j=xs.length:=by
    have:=(List.getElem?_eq_some_iff.1 hy').1
    rw[List.length_append,List.length_singleton] at this
    omega
   subst hj1
   rw[List.getElem?_append_right (by omega),hl,Nat.sub_self] at hz
   rw[List.getElem?_append_right (by omega),Nat.sub_self] at hy'
   cases hz
   cases hy'
   exact keep _ _ hxa
end
abbrev Jn:=Int×Int
abbrev Sec:=Int×Int×List Jn
def zBb:El Jn:=fun W B c x=>c 0=some (.int .i64 x.1)∧c 1=some (.int .i64 x.2)
theorem zM:Elem zBb:=⟨fun h _=>h,fun h _=>h⟩
theorem kL {W:World} {B:Nat} (c c':Nat→Option Value) (x:Jn) (h:∀k,k<2→c k=c' k) (hx:zBb W B c x):zBb W B c' x:=
 ⟨(h 0 (by omega)).symm.trans hx.1,(h 1 (by omega)).symm.trans hx.2⟩
abbrev zT (W:World) (B:Nat) (v:Value) (l:List Jn):Prop:=xC 2 zBb W B v l
def SecR:El Sec:=fun W B c s=>c 0=some (.int .i64 s.1)∧c 1=some (.int .i64 s.2.1)∧∃u,c 2=some u∧zT W B u s.2.2
theorem zN:Elem SecR:=⟨fun⟨h0,h1,u,h2,h3⟩ hb=>⟨h0,h1,u,h2,h3.below zM hb⟩,fun⟨h0,h1,u,h2,h3⟩ hb=>⟨h0,h1,u,h2,h3.more zM hb⟩⟩
theorem secR_cells {W:World} {B:Nat} (c c':Nat→Option Value) (x:Sec) (h:∀k,k<3→c k=c' k) (hx:SecR W B c x):SecR W B c' x:=by
 obtain⟨h0,h1,u,h2,h3⟩:=hx
 exact⟨(h 0 (by omega)).symm.trans h0,(h 1 (by omega)).symm.trans h1,u,(h 2 (by omega)).symm.trans h2,h3⟩
abbrev zX (W:World) (B:Nat) (v:Value) (l:List Sec):Prop:=xC 3 SecR W B v l
def SecV (W:World) (B:Nat) (v:Value) (s:Sec):Prop:=∃u,v = .agg #[.int .i64 s.1,.int .i64 s.2.1,u]∧zT W B u s.2.2
theorem SecV.below {W W':World} {B:Nat} {v:Value} {s:Sec} (h:SecV W B v s) (hb:Below B W W'):SecV W' B v s:=by
 obtain⟨u,rfl,hu⟩:=h
 exact⟨u,rfl,hu.below zM hb⟩
theorem SecV.more {W:World} {B B':Nat} {v:Value} {s:Sec} (h:SecV W B v s) (hb:B≤B'):SecV W B' v s:=by
 obtain⟨u,rfl,hu⟩:=h
 exact⟨u,rfl,hu.more zM hb⟩
section
variable {H:Type} {enc:TypeId×Value→H} {W:World} {base:Nat} {v:Value} {d:DataW H} {p:List MemPlace}
theorem joins_of_trod {n:Nat} {y:DataW H×List MemPlace} (h:DataW.trod enc Tryz.prog W 0 (fun _=>true) true n 58 [v]=some y):∃l,zT W W.heap.size v l:=
 jY (sz:=2) (R:=zBb) Tryz.underlying58 (by kernel_rfl) (by omega) (fun n cs y ht hcl=>by
  have hC3:Tryz.prog.cellsOf 3=1:=by kernel_rfl
  match cs,hcl with
  | [c0,c1],_=>
   obtain⟨y0,y1,k,_,_,h0,h1⟩:=trod_struct2 Tryz.underlying98 ht
   simp only[hC3,List.drop_zero,List.drop_succ_cons,List.take_succ_cons,List.take_zero] at h0 h1
   obtain⟨z0,e0,_,_⟩:=DataW.trod_int Tryz.underlying3 h0
   obtain⟨z1,e1,_,_⟩:=DataW.trod_int Tryz.underlying3 h1
   cases e0
   cases e1
   exact⟨(z0,z1),rfl,rfl⟩) (0,0) (fun c c' x h hx=>kL c c' x h hx) h
theorem sects_of_trod {n:Nat} {y:DataW H×List MemPlace} (h:DataW.trod enc Tryz.prog W 0 (fun _=>true) true n 22 [v]=some y):∃l,zX W W.heap.size v l:=
 jY (sz:=3) (R:=SecR) Tryz.underlying22 (by kernel_rfl) (by omega) (fun n cs y ht hcl=>by
  have hC3:Tryz.prog.cellsOf 3=1:=by kernel_rfl
  have hC4:Tryz.prog.cellsOf 58=1:=by kernel_rfl
  match cs,hcl with
  | [c0,c1,c2],_=>
   obtain⟨xs,k,_,_,_,hxl,hf⟩:=DataW.trod_struct Tryz.underlying60 ht
   match xs,hxl with
   | [x0,x1,x2],_=>
    have h0:DataW.trod enc Tryz.prog W 0 (fun _=>true) true k 3 (List.take (Tryz.prog.cellsOf 3) (List.drop 0 [c0,c1,c2]))=some x0:=hf 0 _ rfl
    have h1:DataW.trod enc Tryz.prog W 0 (fun _=>true) true k 3 (List.take (Tryz.prog.cellsOf 3) (List.drop 1 [c0,c1,c2]))=some x1:=hf 1 _ rfl
    have h2:DataW.trod enc Tryz.prog W 0 (fun _=>true) true k 58 (List.take (Tryz.prog.cellsOf 58) (List.drop 2 [c0,c1,c2]))=some x2:=hf 2 _ rfl
    rw[hC3] at h0 h1
    rw[hC4] at h2
    simp only[List.drop_zero,List.drop_succ_cons,List.take_succ_cons,List.take_zero] at h0 h1 h2
    obtain⟨z0,e0,_,_⟩:=DataW.trod_int Tryz.underlying3 h0
    obtain⟨z1,e1,_,_⟩:=DataW.trod_int Tryz.underlying3 h1
    obtain⟨l,hl⟩:=joins_of_trod h2
    cases e0
    cases e1
    exact⟨(z0,z1,l),rfl,rfl,c2,rfl,hl⟩) (0,0,[]) (fun c c' x h hx=>secR_cells c c' x h hx) h
end
abbrev Sg:=Int×Int×Int
structure Rt where
 id:Int
 entry:Int
 exit:Int
 path:List Int
 over:List Int
 flanks:List Jn
 timer:Int
structure Pl where
 ver:Int
 par:Int
 secs:List Sec
 pts:List Jn
 sigs:List Sg
 routes:List Rt
def jU:El Int:=fun W B c x=>c 0=some (.int .i64 x)
theorem qI:Elem jU:=⟨fun h _=>h,fun h _=>h⟩
theorem zZ {W:World} {B:Nat} (c c':Nat→Option Value) (x:Int) (h:∀k,k<1→c k=c' k) (hx:jU W B c x):jU W B c' x:=(h 0 (by omega)).symm.trans hx
def SigR:El Sg:=fun W B c x=>c 0=some (.int .i64 x.1)∧c 1=some (.int .i64 x.2.1)∧c 2=some (.int .i64 x.2.2)
theorem zP:Elem SigR:=⟨fun h _=>h,fun h _=>h⟩
theorem jJ {W:World} {B:Nat} (c c':Nat→Option Value) (x:Sg) (h:∀k,k<3→c k=c' k) (hx:SigR W B c x):SigR W B c' x:=
 ⟨(h 0 (by omega)).symm.trans hx.1,(h 1 (by omega)).symm.trans hx.2.1,(h 2 (by omega)).symm.trans hx.2.2⟩
abbrev xB (W:World) (B:Nat) (v:Value) (l:List Int):Prop:=xC 1 jU W B v l
abbrev xI (W:World) (B:Nat) (v:Value) (l:List Sg):Prop:=xC 3 SigR W B v l
structure RtIn (W:World) (B:Nat) (u3 u4 u5:Value) (r:Rt):Prop where
 path:xB W B u3 r.path
 over:xB W B u4 r.over
 flanks:zT W B u5 r.flanks
theorem RtIn.below {W W':World} {B:Nat} {u3 u4 u5:Value} {r:Rt} (h:RtIn W B u3 u4 u5 r) (hb:Below B W W'):RtIn W' B u3 u4 u5 r:=⟨h.path.below qI hb,h.over.below qI hb,h.flanks.below zM hb⟩
theorem RtIn.more {W:World} {B B':Nat} {u3 u4 u5:Value} {r:Rt} (h:RtIn W B u3 u4 u5 r) (hb:B≤B'):RtIn W B' u3 u4 u5 r:=⟨h.path.more qI hb,h.over.more qI hb,h.flanks.more zM hb⟩
def RouteR:El Rt:=fun W B c r=>c 0=some (.int .i64 r.id)∧c 1=some (.int .i64 r.entry)∧c 2=some (.int .i64 r.exit)∧c 6=some (.int .i64 r.timer)∧∃u3 u4 u5,c 3=some u3∧c 4=some u4∧c 5=some u5∧RtIn W B u3 u4 u5 r
theorem qM:Elem RouteR:=⟨fun⟨h0,h1,h2,h6,u3,u4,u5,h3,h4,h5,h⟩ hb=>⟨h0,h1,h2,h6,u3,u4,u5,h3,h4,h5,h.below hb⟩,fun⟨h0,h1,h2,h6,u3,u4,u5,h3,h4,h5,h⟩ hb=>⟨h0,h1,h2,h6,u3,u4,u5,h3,h4,h5,h.more hb⟩⟩
theorem routeR_cells {W:World} {B:Nat} (c c':Nat→Option Value) (x:Rt) (h:∀k,k<7→c k=c' k) (hx:RouteR W B c x):RouteR W B c' x:=by
 obtain⟨h0,h1,h2,h6,u3,u4,u5,h3,h4,h5,hr⟩:=hx
 exact⟨(h 0 (by omega)).symm.trans h0,(h 1 (by omega)).symm.trans h1,(h 2 (by omega)).symm.trans h2,(h 6 (by omega)).symm.trans h6,u3,u4,u5,(h 3 (by omega)).symm.trans h3,(h 4 (by omega)).symm.trans h4,(h 5 (by omega)).symm.trans h5,hr⟩
abbrev qX (W:World) (B:Nat) (v:Value) (l:List Rt):Prop:=xC 7 RouteR W B v l
def vS (W:World) (B:Nat) (v:Value) (r:Rt):Prop:=∃u3 u4 u5,v = .agg #[.int .i64 r.id,.int .i64 r.entry,.int .i64 r.exit,u3,u4,u5,.int .i64 r.timer]∧RtIn W B u3 u4 u5 r
theorem vS.below {W W':World} {B:Nat} {v:Value} {r:Rt} (h:vS W B v r) (hb:Below B W W'):vS W' B v r:=by
 obtain⟨u3,u4,u5,rfl,hr⟩:=h
 exact⟨u3,u4,u5,rfl,hr.below hb⟩
theorem vS.more {W:World} {B B':Nat} {v:Value} {r:Rt} (h:vS W B v r) (hb:B≤B'):vS W B' v r:=by
 obtain⟨u3,u4,u5,rfl,hr⟩:=h
 exact⟨u3,u4,u5,rfl,hr.more hb⟩
structure PlIn (W:World) (B:Nat) (u2 u3 u4 u5:Value) (p:Pl):Prop where
 secs:zX W B u2 p.secs
 pts:zT W B u3 p.pts
 sigs:xI W B u4 p.sigs
 routes:qX W B u5 p.routes
theorem PlIn.below {W W':World} {B:Nat} {u2 u3 u4 u5:Value} {p:Pl} (h:PlIn W B u2 u3 u4 u5 p) (hb:Below B W W'):PlIn W' B u2 u3 u4 u5 p:=⟨h.secs.below zN hb,h.pts.below zM hb,h.sigs.below zP hb,h.routes.below qM hb⟩
theorem PlIn.more {W:World} {B B':Nat} {u2 u3 u4 u5:Value} {p:Pl} (h:PlIn W B u2 u3 u4 u5 p) (hb:B≤B'):PlIn W B' u2 u3 u4 u5 p:=⟨h.secs.more zN hb,h.pts.more zM hb,h.sigs.more zP hb,h.routes.more qM hb⟩
def qF (W:World) (B:Nat) (v:Value) (p:Pl):Prop:=∃u2 u3 u4 u5,v = .agg #[.int .i64 p.ver,.int .i64 p.par,u2,u3,u4,u5]∧PlIn W B u2 u3 u4 u5 p
theorem qF.below {W W':World} {B:Nat} {v:Value} {p:Pl} (h:qF W B v p) (hb:Below B W W'):qF W' B v p:=by
 obtain⟨u2,u3,u4,u5,rfl,hr⟩:=h
 exact⟨u2,u3,u4,u5,rfl,hr.below hb⟩
theorem qF.more {W:World} {B B':Nat} {v:Value} {p:Pl} (h:qF W B v p) (hb:B≤B'):qF W B' v p:=by
 obtain⟨u2,u3,u4,u5,rfl,hr⟩:=h
 exact⟨u2,u3,u4,u5,rfl,hr.more hb⟩
section
variable {H:Type} {enc:TypeId×Value→H} {W:World} {base:Nat} {v:Value} {d:DataW H} {p:List MemPlace}
theorem yF {t:TypeId} {fs:Array Field} {fuel:Nat} {cs:List Value} {x:DataW H×List MemPlace} (ht:Tryz.prog.underlying t=some (.struct fs)) (hone:oneCellFields Tryz.prog fs=true)
  (h:DataW.trod enc Tryz.prog W 0 (fun _=>true) true fuel t cs=some x) (hl:cs.length=fs.size):
  ∃n,∀(i:Nat) (f:Field),fs[i]? = some f→∃v y,cs[i]? = some v∧DataW.trod enc Tryz.prog W 0 (fun _=>true) true n f.type [v]=some y:=by
 obtain⟨xs,n,_,_,_,hxl,hf⟩:=DataW.trod_struct ht h
 refine⟨n,fun i f hi=>?_⟩
 have hlt:i<fs.size:=(Array.getElem?_eq_some_iff.1 hi).1
 obtain⟨o,k⟩:=hone_of hone i f hi
 have h1:=hf i f hi
 rw[o,k,List.getElem?_eq_getElem (by omega:i<xs.length)] at h1
 refine⟨cs[i]'(by omega),xs[i]'(by omega),List.getElem?_eq_getElem (by omega),?_⟩
 rw[←h1]
 congr 1
 rw[List.drop_eq_getElem_cons (by omega:i<cs.length)]
 rfl
theorem xR {n:Nat} {v:Value} {y:DataW H×List MemPlace} (h:DataW.trod enc Tryz.prog W 0 (fun _=>true) true n 3 [v]=some y):∃z:Int,v = .int .i64 z:=by
 obtain⟨z,e,_,_⟩:=DataW.trod_int Tryz.underlying3 h
 cases e
 exact⟨z,rfl⟩
theorem ints_of_trod {n:Nat} {y:DataW H×List MemPlace} (h:DataW.trod enc Tryz.prog W 0 (fun _=>true) true n 61 [v]=some y):∃l,xB W W.heap.size v l:=
 jY (sz:=1) (R:=jU) Tryz.underlying61 (by kernel_rfl) (by omega) (fun n cs y ht hcl=>by
  match cs,hcl with
  | [c0],_=>
   obtain⟨z,rfl⟩:=xR ht
   exact⟨z,rfl⟩) 0 (fun c c' x h hx=>zZ c c' x h hx) h
theorem flanks_of_trod {n:Nat} {y:DataW H×List MemPlace} (h:DataW.trod enc Tryz.prog W 0 (fun _=>true) true n 62 [v]=some y):∃l,zT W W.heap.size v l:=
 jY (sz:=2) (R:=zBb) Tryz.underlying62 (by kernel_rfl) (by omega) (fun n cs y ht hcl=>by
  obtain⟨k,hf⟩:=yF Tryz.underlying140 (by kernel_rfl) ht hcl
  obtain⟨v0,y0,e0,h0⟩:=hf 0 _ rfl
  obtain⟨v1,y1,e1,h1⟩:=hf 1 _ rfl
  obtain⟨z0,rfl⟩:=xR h0
  obtain⟨z1,rfl⟩:=xR h1
  exact⟨(z0,z1),e0,e1⟩) (0,0) (fun c c' x h hx=>kL c c' x h hx) h
theorem points_of_trod {n:Nat} {y:DataW H×List MemPlace} (h:DataW.trod enc Tryz.prog W 0 (fun _=>true) true n 23 [v]=some y):∃l,zT W W.heap.size v l:=
 jY (sz:=2) (R:=zBb) Tryz.underlying23 (by kernel_rfl) (by omega) (fun n cs y ht hcl=>by
  obtain⟨k,hf⟩:=yF Tryz.underlying67 (by kernel_rfl) ht hcl
  obtain⟨v0,y0,e0,h0⟩:=hf 0 _ rfl
  obtain⟨v1,y1,e1,h1⟩:=hf 1 _ rfl
  obtain⟨z0,rfl⟩:=xR h0
  obtain⟨z1,rfl⟩:=xR h1
  exact⟨(z0,z1),e0,e1⟩) (0,0) (fun c c' x h hx=>kL c c' x h hx) h
theorem signals_of_trod {n:Nat} {y:DataW H×List MemPlace} (h:DataW.trod enc Tryz.prog W 0 (fun _=>true) true n 24 [v]=some y):∃l,xI W W.heap.size v l:=
 jY (sz:=3) (R:=SigR) Tryz.underlying24 (by kernel_rfl) (by omega) (fun n cs y ht hcl=>by
  obtain⟨k,hf⟩:=yF Tryz.underlying115 (by kernel_rfl) ht hcl
  obtain⟨v0,y0,e0,h0⟩:=hf 0 _ rfl
  obtain⟨v1,y1,e1,h1⟩:=hf 1 _ rfl
  obtain⟨v2,y2,e2,h2⟩:=hf 2 _ rfl
  obtain⟨z0,rfl⟩:=xR h0
  obtain⟨z1,rfl⟩:=xR h1
  obtain⟨z2,rfl⟩:=xR h2
  exact⟨(z0,z1,z2),e0,e1,e2⟩) (0,0,0) (fun c c' x h hx=>jJ c c' x h hx) h
theorem routes_of_trod {n:Nat} {y:DataW H×List MemPlace} (h:DataW.trod enc Tryz.prog W 0 (fun _=>true) true n 25 [v]=some y):∃l,qX W W.heap.size v l:=
 jY (sz:=7) (R:=RouteR) Tryz.underlying25 (by kernel_rfl) (by omega) (fun n cs y ht hcl=>by
  obtain⟨k,hf⟩:=yF Tryz.underlying64 (by kernel_rfl) ht hcl
  obtain⟨v0,y0,e0,h0⟩:=hf 0 _ rfl
  obtain⟨v1,y1,e1,h1⟩:=hf 1 _ rfl
  obtain⟨v2,y2,e2,h2⟩:=hf 2 _ rfl
  obtain⟨v3,y3,e3,h3⟩:=hf 3 _ rfl
  obtain⟨v4,y4,e4,h4⟩:=hf 4 _ rfl
  obtain⟨v5,y5,e5,h5⟩:=hf 5 _ rfl
  obtain⟨v6,y6,e6,h6⟩:=hf 6 _ rfl
  obtain⟨z0,rfl⟩:=xR h0
  obtain⟨z1,rfl⟩:=xR h1
  obtain⟨z2,rfl⟩:=xR h2
  obtain⟨z6,rfl⟩:=xR h6
  obtain⟨l3,g3⟩:=ints_of_trod h3
  obtain⟨l4,g4⟩:=ints_of_trod h4
  obtain⟨l5,g5⟩:=flanks_of_trod h5
  exact⟨⟨z0,z1,z2,l3,l4,l5,z6⟩,e0,e1,e2,e6,v3,v4,v5,e3,e4,e5,⟨g3,g4,g5⟩⟩) ⟨0,0,0,[],[],[],0⟩ (fun c c' x h hx=>routeR_cells c c' x h hx) h
theorem array6 {α:Type} {cs:Array α} (h:cs.size=6):∃c0 c1 c2 c3 c4 c5,cs=#[c0,c1,c2,c3,c4,c5]:=by
 obtain⟨l⟩:=cs
 match l,h with
 | [c0,c1,c2,c3,c4,c5],_=>exact⟨c0,c1,c2,c3,c4,c5,rfl⟩
theorem plan_of_arg (hval:Value.okWide Tryz.prog W .any base 27 v) (h:DataW.Trod enc Tryz.prog W 0 (fun _=>true) true 27 v d p):∃x,qF W W.heap.size v x:=by
 obtain⟨cs,rfl,hsz⟩:=okWide_struct Tryz.underlying27 hval
 have hsz6:cs.size=6:=hsz.trans (by kernel_rfl)
 obtain⟨c0,c1,c2,c3,c4,c5,rfl⟩:=array6 hsz6
 obtain⟨fuel,hf0⟩:=h
 obtain⟨n,hf⟩:=yF Tryz.underlying27 (by kernel_rfl) hf0 rfl
 obtain⟨v0,y0,e0,h0⟩:=hf 0 _ rfl
 obtain⟨v1,y1,e1,h1⟩:=hf 1 _ rfl
 obtain⟨v2,y2,e2,h2⟩:=hf 2 _ rfl
 obtain⟨v3,y3,e3,h3⟩:=hf 3 _ rfl
 obtain⟨v4,y4,e4,h4⟩:=hf 4 _ rfl
 obtain⟨v5,y5,e5,h5⟩:=hf 5 _ rfl
 cases e0;cases e1;cases e2;cases e3;cases e4;cases e5
 obtain⟨z0,rfl⟩:=xR h0
 obtain⟨z1,rfl⟩:=xR h1
 obtain⟨l2,g2⟩:=sects_of_trod h2
 obtain⟨l3,g3⟩:=points_of_trod h3
 obtain⟨l4,g4⟩:=signals_of_trod h4
 obtain⟨l5,g5⟩:=routes_of_trod h5
 exact⟨⟨z0,z1,l2,l3,l4,l5⟩,_,_,_,_,rfl,⟨g2,g3,g4,g5⟩⟩
end
theorem kD {W:World} {B:Nat} {v:Value} {p:Pl} (h:qF W B v p):∃A2 c2 A3 c3 A4 c4 A5 c5 n2 n3 n4 n5,v = .agg #[.int .i64 p.ver,.int .i64 p.par,.slice A2 n2 c2,.slice A3 n3 c3,.slice A4 n4 c4,.slice A5 n5 c5] ∧
  n2≤9223372036854775807∧n3≤9223372036854775807∧n4≤9223372036854775807∧n5≤9223372036854775807∧Hid (n2≤c2∧n3≤c3∧n4≤c4∧n5≤c5) ∧
  Hid (PlIn W B (.slice A2 n2 c2) (.slice A3 n3 c3) (.slice A4 n4 c4) (.slice A5 n5 c5) p)∧Hid (n2=p.secs.length∧n3=p.pts.length∧n4=p.sigs.length∧n5=p.routes.length):=by
 obtain⟨y2,y3,y4,y5,rfl,hin⟩:=h
 have HIN0:=zD0 hin
 obtain⟨A2,c2,rfl,hcl2,hcm2⟩:=hin.secs.slice
 obtain⟨A3,c3,rfl,hcl3,hcm3⟩:=hin.pts.slice
 obtain⟨A4,c4,rfl,hcl4,hcm4⟩:=hin.sigs.slice
 obtain⟨A5,c5,rfl,hcl5,hcm5⟩:=hin.routes.slice
 unfold maxLen at hcm2 hcm3 hcm4 hcm5
 exact⟨A2,c2,A3,c3,A4,c4,A5,c5,_,_,_,_,rfl,by omega,by omega,by omega,by omega,zD0 ⟨hcl2,hcl3,hcl4,hcl5⟩,zD0 hin,zD0 ⟨rfl,rfl,rfl,rfl⟩⟩
theorem kN {α:Type} {sz:Nat} {R:El α} {W:World} {B:Nat} {v:Value} {l:List α} (h:xC sz R W B v l):∃A c n,v = .slice A n c∧n≤9223372036854775807∧Hid (n=l.length)∧Hid (xC sz R W B (.slice A n c) l):=by
 obtain⟨A,c,e,h1,h2⟩:=h.slice
 subst e
 unfold maxLen at h2
 exact⟨A,c,_,rfl,by omega,zD0 rfl,zD0 h⟩
end Go.Proofs.YtemmgmjhomgbbaaGreat
