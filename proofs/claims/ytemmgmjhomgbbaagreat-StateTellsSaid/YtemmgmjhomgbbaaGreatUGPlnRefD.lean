/-
 The document's own functions Same, SameAll of package track and SameRoute, Same of package plan, for any two.
 Conditions: none.
-/
import Derived.Test.YtemmgmjhomgbbaaGreatUGPlnRefA
import Derived.BigQuiet
import Derived.Deep.RegionHeld3
import Derived.Test.YtemmgmjhomgbbaaGreatUGPlnRefB
import Derived.Test.YtemmgmjhomgbbaaGreatUGTrkRef
import Derived.Test.YtemmgmjhomgbbaaGreatUGPlnRefC
set_option linter.unusedVariables false
set_option linter.unusedSimpArgs false
set_option maxRecDepth 100000
namespace Go.Proofs.YtemmgmjhomgbbaaGreat
open Go.RowKit
noncomputable def eqB {α:Type} (a b:α):Bool:=@decide (a=b) (Classical.propDecidable _)
theorem yK {α:Type} {a b:α} (h:a=b):eqB a b=true:=by rw[eqB];exact @decide_eq_true _ (Classical.propDecidable _) h
theorem kF {α:Type} {a b:α} (h:¬a=b):eqB a b=false:=by rw[eqB];exact @decide_eq_false _ (Classical.propDecidable _) h
theorem eqB_iff {α:Type} {a b:α}:eqB a b=true↔a=b:=by rw[eqB];exact @decide_eq_true_iff _ (Classical.propDecidable _)
theorem zCo {α:Type} {l m:List α} (hn:l.length=m.length) (h:∀j (h1:j<l.length) (h2:j<m.length),l[j]=m[j]):l=m:=List.ext_getElem hn h
theorem getElem_congr' {α:Type} {l m:List α} {i:Nat} {h1:i<l.length} {h2:i<m.length} (h:l=m):l[i]=m[i]:=by subst h;rfl
structure C3 (w:World) (b:Nat) (v0 v1 v2:Value):Prop where
 c0:w.cell? ⟨b,0,none⟩=some v0
theorem sigR_full {W:World} {B:Nat} (c:Nat→Option Value) (x:Sg) (h:SigR W B c x):∀k,k<3→∃v,c k=some v∧v.oneCell'=true:=fun k hk=>by
 match k,hk with
 | 0,_=>exact⟨_,h.1,rfl⟩
 | 1,_=>exact⟨_,h.2.1,rfl⟩
 | 2,_=>exact⟨_,h.2.2,rfl⟩
theorem snoc_take {α:Type} {l:List α} {i:Nat} (h:i<l.length):l.take i++[l[i]]=l.take (i+1):=by
 rw[List.take_add_one,List.getElem?_eq_getElem h];rfl
structure PlanSaid:Prop where
 check:∀(v:Value) (p:Pl) (w:World),qF w w.heap.size v p →
  Calls Tryz.prog 59 #[v] w fun e w'=>e = .returned (.int .i64 (chk8 p))∧Below w.heap.size w w'
def pS1:Sec:=(1,0,[(2,0),(0,0)])
def pS2:Sec:=(2,5,[(1,0),(3,0),(3,1)])
def pS3:Sec:=(3,0,[(2,1),(2,2)])
def pSecs:List Sec:=[pS1,pS2,pS3]
theorem zBr {α:Type} {sz:Nat} {R:El α} {W:World} {b:Nat} {cs:Array Value} {t:TypeId} {l:List α} (h:W.heap[b]? = some (.cells cs t (0,0))) (hl:l.length≤100) (hc:∀j (hj:j<l.length),R W W.heap.size (fun k=>W.cell? ⟨b,0+j*sz+k,none⟩) l[j]):
  xC sz R W W.heap.size (.slice (some ⟨b,0,none⟩) l.length l.length) l:=
 ⟨_,_,rfl,Nat.le_refl _,by unfold maxLen;omega,(fun e=>by cases e),fun _=>⟨b,0,rfl,zA h,hc⟩⟩
theorem xZ {W:World} (b:Nat) (c:Array Value) (t:TypeId) (j:Nat) (v:Value) (h:W.heap[b]? = some (.cells c t (0,0))) (hv:c[j]? = some v):W.cell? ⟨b,j,none⟩=some v:=by rw[cell_of_row _ _ _ _ _ _ h];exact hv
structure OneAt (W:World) (s:Nat) (A:Option Addr) (t:Int):Prop where
 r1:W.heap[s]? = some (.cells #[.int .i64 2,.int .i64 0,.int .i64 0,.int .i64 0] 98 (0,0))
 r2:W.heap[s+1]? = some (.cells #[.int .i64 1,.int .i64 0,.int .i64 3,.int .i64 0,.int .i64 3,.int .i64 1] 98 (0,0))
 r3:W.heap[s+2]? = some (.cells #[.int .i64 2,.int .i64 1,.int .i64 2,.int .i64 2] 98 (0,0))
 r4:W.heap[s+3]? = some (.cells #[.int .i64 1,.int .i64 0,.slice (some ⟨s,0,none⟩) 2 2,.int .i64 2,.int .i64 5,.slice (some ⟨s+1,0,none⟩) 3 3,.int .i64 3,.int .i64 0,.slice (some ⟨s+2,0,none⟩) 2 2] 60 (0,0))
 r5:W.heap[s+4]? = some (.cells #[.int .i64 5,.int .i64 2] 67 (0,0))
 r6:W.heap[s+5]? = some (.cells #[.int .i64 4,.int .i64 1,.int .i64 0] 115 (0,0))
 r8:W.heap[s+7]? = some (.cells #[.int .i64 8,.int .i64 4,.int .i64 0,.slice A 2 2,.slice none 0 0,.slice none 0 0,.int .i64 t] 64 (0,0))
abbrev oneV (par:Int) (s:Nat):Value:=.agg #[.int .i64 2,.int .i64 par,.slice (some ⟨s+3,0,none⟩) 3 3,.slice (some ⟨s+4,0,none⟩) 1 1,.slice (some ⟨s+5,0,none⟩) 1 1,.slice (some ⟨s+7,0,none⟩) 1 1]
theorem OneAt.plan {W:World} {s:Nat} {A:Option Addr} {t:Int} {l:List Int} (h:OneAt W s A t) (hl:xB W W.heap.size (.slice A 2 2) l) (par:Int):
  qF W W.heap.size (oneV par s) ⟨2,par,pSecs,[(5,2)],[(4,1,0)],[⟨8,4,0,l,[],[],t⟩]⟩:=by
 have J1:zT W W.heap.size (.slice (some ⟨s,0,none⟩) 2 2) pS1.2.2:=zBr (l:=[(2,0),(0,0)]) h.r1 (by decide) (fun j hj=>by
  match j,hj with
  | 0,_=>exact⟨xZ _ _ _ 0 _ h.r1 rfl,xZ _ _ _ 1 _ h.r1 rfl⟩
  | 1,_=>exact⟨xZ _ _ _ 2 _ h.r1 rfl,xZ _ _ _ 3 _ h.r1 rfl⟩)
 have J2:zT W W.heap.size (.slice (some ⟨s+1,0,none⟩) 3 3) pS2.2.2:=zBr (l:=[(1,0),(3,0),(3,1)]) h.r2 (by decide) (fun j hj=>by
  match j,hj with
  | 0,_=>exact⟨xZ _ _ _ 0 _ h.r2 rfl,xZ _ _ _ 1 _ h.r2 rfl⟩
  | 1,_=>exact⟨xZ _ _ _ 2 _ h.r2 rfl,xZ _ _ _ 3 _ h.r2 rfl⟩
  | 2,_=>exact⟨xZ _ _ _ 4 _ h.r2 rfl,xZ _ _ _ 5 _ h.r2 rfl⟩)
 have J3:zT W W.heap.size (.slice (some ⟨s+2,0,none⟩) 2 2) pS3.2.2:=zBr (l:=[(2,1),(2,2)]) h.r3 (by decide) (fun j hj=>by
  match j,hj with
  | 0,_=>exact⟨xZ _ _ _ 0 _ h.r3 rfl,xZ _ _ _ 1 _ h.r3 rfl⟩
  | 1,_=>exact⟨xZ _ _ _ 2 _ h.r3 rfl,xZ _ _ _ 3 _ h.r3 rfl⟩)
 have SS:zX W W.heap.size (.slice (some ⟨s+3,0,none⟩) 3 3) pSecs:=zBr (l:=pSecs) h.r4 (by decide) (fun j hj=>by
  match j,hj with
  | 0,_=>exact⟨xZ _ _ _ 0 _ h.r4 rfl,xZ _ _ _ 1 _ h.r4 rfl,_,xZ _ _ _ 2 _ h.r4 rfl,J1⟩
  | 1,_=>exact⟨xZ _ _ _ 3 _ h.r4 rfl,xZ _ _ _ 4 _ h.r4 rfl,_,xZ _ _ _ 5 _ h.r4 rfl,J2⟩
  | 2,_=>exact⟨xZ _ _ _ 6 _ h.r4 rfl,xZ _ _ _ 7 _ h.r4 rfl,_,xZ _ _ _ 8 _ h.r4 rfl,J3⟩)
 have PP:zT W W.heap.size (.slice (some ⟨s+4,0,none⟩) 1 1) [(5,2)]:=zBr (l:=[(5,2)]) h.r5 (by decide) (fun j hj=>by
  match j,hj with
  | 0,_=>exact⟨xZ _ _ _ 0 _ h.r5 rfl,xZ _ _ _ 1 _ h.r5 rfl⟩)
 have GG:xI W W.heap.size (.slice (some ⟨s+5,0,none⟩) 1 1) [(4,1,0)]:=zBr (l:=[(4,1,0)]) h.r6 (by decide) (fun j hj=>by
  match j,hj with
  | 0,_=>exact⟨xZ _ _ _ 0 _ h.r6 rfl,xZ _ _ _ 1 _ h.r6 rfl,xZ _ _ _ 2 _ h.r6 rfl⟩)
 have RR:qX W W.heap.size (.slice (some ⟨s+7,0,none⟩) 1 1) [⟨8,4,0,l,[],[],t⟩]:=zBr (l:=[(⟨8,4,0,l,[],[],t⟩:Rt)]) h.r8 (by simp) (fun j hj=>by
  match j,hj with
  | 0,_=>exact⟨xZ _ _ _ 0 _ h.r8 rfl,xZ _ _ _ 1 _ h.r8 rfl,xZ _ _ _ 2 _ h.r8 rfl,xZ _ _ _ 6 _ h.r8 rfl,_,_,_,xZ _ _ _ 3 _ h.r8 rfl,xZ _ _ _ 4 _ h.r8 rfl,xZ _ _ _ 5 _ h.r8 rfl,⟨hl,xC.nil_,xC.nil_⟩⟩)
 exact⟨_,_,_,_,rfl,⟨SS,PP,GG,RR⟩⟩
end Go.Proofs.YtemmgmjhomgbbaaGreat
