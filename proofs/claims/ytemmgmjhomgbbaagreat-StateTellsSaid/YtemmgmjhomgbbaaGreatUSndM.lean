/-
 Plans that may run: the mathematics.
 Conditions: none.
-/
import Derived.Test.YtemmgmjhomgbbaaGreatUGWayRefF
set_option linter.unusedVariables false
set_option linter.unusedSimpArgs false
namespace Go.Proofs.YtemmgmjhomgbbaaGreat
open Go.RowKit
def OnceA (l:List Ak):Prop:=∀i (hi:i<l.length) k (hk:k<i),(l[k]'(by omega)).1≠l[i].1
def StandsR (p:Pl) (r:Rt):Prop:=∀i (hi:i<r.path.length),(i+1<r.path.length→qJ p.sigs r.path[i] (vQ p r i)=0)∧(i+1=r.path.length→qJ p.sigs r.path[i] (vQ p r i)=r.exit)
structure Sound (p:Pl) (r:Rt):Prop where
 hangs:kK p r
 once:OnceA (kH p r).asks
 stands:StandsR p r
noncomputable def zA9 (p:Pl) (r:Rt):Bool:=@decide (Sound p r) (Classical.propDecidable _)
theorem soundB_true {p:Pl} {r:Rt} (h:Sound p r):zA9 p r=true:=by rw[zA9];exact @decide_eq_true _ (Classical.propDecidable _) h
theorem zCp {p:Pl} {r:Rt} (h:¬Sound p r):zA9 p r=false:=by rw[zA9];exact @decide_eq_false _ (Classical.propDecidable _) h
theorem soundB_iff {p:Pl} {r:Rt}:zA9 p r=true↔Sound p r:=by rw[zA9];exact @decide_eq_true_iff _ (Classical.propDecidable _)
structure jB (p:Pl):Prop where
 may:xU p
 each:∀k (hk:k<p.routes.length),Sound p p.routes[k]
noncomputable def vX (p:Pl):Bool:=@decide (jB p) (Classical.propDecidable _)
theorem kW {p:Pl} (h:jB p):vX p=true:=by rw[vX];exact @decide_eq_true _ (Classical.propDecidable _) h
theorem vR {p:Pl} (h:¬jB p):vX p=false:=by rw[vX];exact @decide_eq_false _ (Classical.propDecidable _) h
theorem soundP_iff {p:Pl}:vX p=true↔jB p:=by rw[vX];exact @decide_eq_true_iff _ (Classical.propDecidable _)
noncomputable def sndE (p:Pl):Int:=if vX p then 0 else 100
theorem sndE_zero {p:Pl}:sndE p=0↔jB p:=by
 rw[sndE]
 by_cases h:jB p
 ·rw[kW h,if_pos rfl];exact⟨fun _=>h,fun _=>rfl⟩
 ·rw[vR h];simp[h]
theorem zC4 (p:Pl):(sndE p=0∧jB p)∨(sndE p=100∧¬jB p):=by
 by_cases h:jB p
 ·exact .inl ⟨sndE_zero.2 h,h⟩
 ·exact .inr ⟨by rw[sndE,vR h];rfl,h⟩
theorem once_not {l:List Ak} {i k:Nat} (hi:i<l.length) (hk:k<i) (h:(l[k]'(by omega)).1=l[i].1):¬OnceA l:=fun ho=>ho i hi k hk h
end Go.Proofs.YtemmgmjhomgbbaaGreat
