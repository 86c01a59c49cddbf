/-
 What a route asks: the mathematics.
 Conditions: none.
-/
import Derived.Test.YtemmgmjhomgbbaaGreatUGWayPG
import Derived.Test.YtemmgmjhomgbbaaGreatUGWayRefD
import Derived.Test.YtemmgmjhomgbbaaGreatUPlnPM
set_option linter.unusedVariables false
set_option linter.unusedSimpArgs false
set_option maxRecDepth 100000
namespace Go.Proofs.YtemmgmjhomgbbaaGreat
open Go.RowKit
theorem asks_at {p:Pl} {r:Rt} (hr:qW p r):∀(n:Nat),n≤(zS r).length→kK p r→∀i (hi:i<(jA p r n).length),
  ∃a,a<n∧(jA p r n)[i].2.2=(a:Int)∧(jA p r n)[i].1≠0∧(jA p r n)[i].1=(jX p ((zS r).getD a 0)).2.1∧1≤(jA p r n)[i].2.1∧(jA p r n)[i].2.1≤2∧(∀j (hj:j<i),(jA p r n)[j].2.2<(a:Int))
 | 0,_,_,i,hi=>absurd hi (by simp[jA])
 | n+1,hn,hh,i,hi=>by
  have ih:=asks_at hr n (by omega) hh
  have hs:=kX p r n
  have ha:n<(zS r).length:=by omega
  cases hk:askN p r n with
  | none=>
   have he:jA p r (n+1)=jA p r n:=by rw[hs,hk];simp
   rw[he] at hi
   obtain⟨a,h1,h2⟩:=ih i hi
   refine⟨a,by omega,?_⟩
   simp only[he]
   exact h2
  | some k=>
   have he:jA p r (n+1)=jA p r n++[k]:=by rw[hs,hk];rfl
   simp only[he]
   rw[he,List.length_append] at hi
   rcases Nat.lt_or_ge i (jA p r n).length with h3|h3
   ·obtain⟨a,h1,h2,h4,h5,h6,h7,h8⟩:=ih i h3
    refine⟨a,by omega,?_⟩
    rw[List.getElem_append_left h3]
    exact⟨h2,h4,h5,h6,h7,fun j hj=>by rw[List.getElem_append_left (by omega)];exact h8 j hj⟩
   ·obtain rfl:i=(jA p r n).length:=by simp at hi;omega
    refine⟨n,by omega,?_⟩
    rw[List.getElem_append_right (Nat.le_refl _)]
    simp only[Nat.sub_self,List.getElem_cons_zero]
    obtain⟨L,hL⟩:=zD1 ((if 0≤vQ p r n then xG (jX p ((zS r).getD n 0)).2.1 (inN p r n) (vQ p r n) else inN p r n))
    have hk2:(if (jX p ((zS r).getD n 0)).2.1=0 then none else if 0<L then some ((jX p ((zS r).getD n 0)).2.1,L,(n:Int)) else none)=some k:=by rw[hL];exact hk
    obtain⟨j,hc,hj,hl⟩:=hh n ha
    have hin:=in_of hc
    have hrg:=HereIn.range hr ha ⟨hc,hj⟩
    obtain⟨ks,hks,hat,hsk,-⟩:=hr.sec ha
    have hsh:=(hr.plan.secs.s ks hks).2.2
    rw[←hsk] at hsh
    by_cases h0:(jX p ((zS r).getD n 0)).2.1=0
    ·rw[if_pos h0] at hk2;cases hk2
    ·rw[if_neg h0] at hk2
     by_cases hp:0<L
     ·rw[if_pos hp] at hk2
      injection hk2 with hk2
      have h3':(jX p ((zS r).getD n 0)).2.2.length=3:=by
       rw[qQ,if_neg h0] at hsh
       simp only[Bool.and_eq_true,decide_eq_true_eq] at hsh
       exact hsh.2.2
      have hle:L≤2:=by
       rw[hL]
       split
       ·rw[xG,if_neg h0]
        split
        ·rename_i h4;omega
        ·split
         ·rename_i h5;omega
         ·omega
       ·rw[hin];omega
      have g1:k.1=(jX p ((zS r).getD n 0)).2.1:=by rw[←hk2]
      have g2:k.2.1=L:=by rw[←hk2]
      have g3:k.2.2=(n:Int):=by rw[←hk2]
      refine⟨g3,by rw[g1];exact h0,g1,by rw[g2];omega,by rw[g2];exact hle,fun j2 hj2=>?_⟩
      rw[List.getElem_append_left hj2]
      obtain⟨a2,h9,h10,-⟩:=ih j2 hj2
      rw[h10];omega
     ·rw[if_neg hp] at hk2;cases hk2
theorem goes_left {p:Pl} {r:Rt} (hh:kK p r):∀m,m≤(zS r).length→(∀i,i<m→yV r i=false)→zAl p r m=(List.range m).map fun i=>((zS r).getD i 0,vQ p r i)
 | 0,_,_=>rfl
 | m+1,hm,hb=>by
  rw[zCt,goes_left hh m (by omega) (fun i hi=>hb i (by omega)),List.range_succ,List.map_append]
  congr 1
  obtain⟨j,hc,-,ho⟩:=hh m (by omega)
  have h1:=ho (hb m (by omega))
  have h2:vQ p r m=outN p r m j.2:=by rw[vQ,hb m (by omega),in_of hc];rfl
  rw[leftN,if_pos (by omega)]
  rfl
def outsN (r:Rt):Nat:=if 0<r.over.length then (zS r).length-1 else (zS r).length
theorem outs_parts {p:Pl} {r:Rt} (hr:qW p r) (hh:kK p r):(zAl p r (zS r).length).length=outsN r∧(∀i,i<outsN r→yV r i=false)∧(∀i (hi:i<(zAl p r (zS r).length).length),(zAl p r (zS r).length)[i]=((zS r).getD i 0,vQ p r i)):=by
 have hl:=hr.len
 have hb:∀i,i<outsN r→yV r i=false:=fun i hi=>decide_eq_false (fun h=>by rw[outsN,if_pos h.2] at hi;omega)
 have he:zAl p r (zS r).length=zAl p r (outsN r):=by
  rw[outsN]
  split
  ·rename_i h
   have h1:zAl p r ((zS r).length-1+1)=zAl p r ((zS r).length-1)++(leftN p r ((zS r).length-1)).toList:=zCt p r _
   have h2:vQ p r ((zS r).length-1) = -1:=by rw[vQ,yV,decide_eq_true ⟨by omega,h⟩];rfl
   rw[show(zS r).length-1+1=(zS r).length from by omega,leftN,h2,if_neg (by omega)] at h1
   simpa using h1
  ·rfl
 have h3:=goes_left hh (outsN r) (by rw[outsN];split<;>omega) hb
 rw[he]
 refine⟨by rw[h3];simp,hb,fun i hi=>?_⟩
 simp only[h3,List.getElem_map,List.getElem_range]
end Go.Proofs.YtemmgmjhomgbbaaGreat
