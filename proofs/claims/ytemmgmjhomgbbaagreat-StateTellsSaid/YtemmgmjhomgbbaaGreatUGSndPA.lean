/-
 The program's package sound: twice, stands.
 Conditions: none.
-/
import Derived.Test.YtemmgmjhomgbbaaGreatUSndM
import Derived.Test.YtemmgmjhomgbbaaGreatUGWayM
import Derived.Test.YtemmgmjhomgbbaaGreatUGBase
import Derived.ScopeJumps
import Derived.WalkMore
import Derived.Test.YtemmgmjhomgbbaaGreatUGWayAsM
import Derived.Test.YtemmgmjhomgbbaaGreatUGWayAllM
import Derived.Test.YtemmgmjhomgbbaaGreatUWayPQ
import Derived.BigQuiet
import Derived.Test.YtemmgmjhomgbbaaGreatUGSndM
import Derived.Test.YtemmgmjhomgbbaaGreatUGPlnRefC
import Derived.Test.YtemmgmjhomgbbaaGreatUGPlnRefD
import Derived.Test.YtemmgmjhomgbbaaGreatUPlnFar
set_option linter.unusedVariables false
set_option linter.unusedSimpArgs false
set_option maxRecDepth 100000
namespace Go.Proofs.YtemmgmjhomgbbaaGreat
open Go.RowKit
noncomputable def zCc (l:List Ak):Bool:=@decide (¬OnceA l) (Classical.propDecidable _)
theorem twice_false {l:List Ak} (h:OnceA l):zCc l=false:=by rw[zCc];exact @decide_eq_false _ (Classical.propDecidable _) (fun h2=>h2 h)
theorem twice_not {l:List Ak} (h:¬OnceA l):zCc l=true:=by rw[zCc];exact @decide_eq_true _ (Classical.propDecidable _) h
theorem twice_once {l:List Ak} (h:zCc l=false):OnceA l:=by
 by_cases h2:OnceA l
 ·exact h2
 ·rw[twice_not h2] at h;cases h
theorem twice_true {l:List Ak} {i k:Nat} (hi:i<l.length) (hk:k<i) (h:(l[k]'(by omega)).1=l[i].1):zCc l=true:=twice_not (once_not hi hk h)
set_option maxHeartbeats 4000000 in
theorem sstands_any (v:Value) (l:List Sg) (sec en:Int) (w:World) (h:xI w w.heap.size v l):
  Calls Tryz.prog 46 #[v,.agg #[.int .i64 sec,.int .i64 en]] w fun e w'=>e = .returned (.int .i64 (qJ l sec en))∧Below w.heap.size w w':=by
 have H_:=zD0 h
 obtain⟨A,c,rfl,hcl,hcm⟩:=h.slice
 have hml:l.length≤9223372036854775807:=by unfold maxLen at hcm;omega
 obtain⟨n,hn⟩:=zD1 (l.length)
 have HN:=zD0 hn
 have HA:=zD0 (show xI w w.heap.size (.slice A n c) l by rw[hn];exact H_.out)
 have HC:Hid (n≤c):=zD0 (by rw[hn];exact hcl)
 rw[←hn] at hml⊢
 clear hn H_ hcl hcm h
 have hq0:=zB w (.cells #[.int .i64 sec,.int .i64 en] 98)
 have hqb:=zD w (.cells #[.int .i64 sec,.int .i64 en] 98)
 go_enter Tryz.func46,Tryz.ntmps46
 go_upto_region 1 with fail
 generalize w.alloc (.cells #[.int .i64 sec,.int .i64 en] 98)=wq at hq0 hqb⊢
 generalize w.heap.size=p0 at hq0⊢
 have XJ:=zD0 hq0
 have BQ:=zD0 hqb
 clear hq0 hqb
 go_wp2_with fail
 go_loopw [9] (fun s9 wr=>∃i:Nat,i≤n∧s9 = .int .i64 i∧(∀j (hj:j<i) (hl:j<l.length),¬(l[j].2.1=sec∧l[j].2.2=en))∧Below wq.heap.size wq wr) (fun s9 _=>n-(intOf s9).toNat)
 case atStart=>exact⟨0,by omega,by go_num,fun j hj=>absurd hj (by omega),Below.refl _ _⟩
 case round=>
  obtain⟨i,hi,rfl,hall,hb⟩:=hrel
  have HALL:=zD0 hall
  have BW0:=zD0 hb
  have BW:Hid (Below w.heap.size w wr):=zD0 (BQ.out.trans (hb.mono BQ.out.size))
  clear hall hb
  by_cases hlt:i<n
  ·have hlt':(i:Int)<n:=by omega
   have hir:i<l.length:=by rw[←HN.out];exact hlt
   obtain⟨bk,off,rfl,hbk,hc0,hc1,hc2⟩:=((HA.out.below zP BW.out).more zP BW.out.size).at hir
   obtain⟨a,b,c_,hx⟩:∃a b c,l[i]=(a,b,c):=⟨_,_,_,rfl⟩
   have HX:=zD0 hx
   rw[hx] at hc0 hc1 hc2
   have hg0:wr.cell? ⟨bk,off+i*3,none⟩=some (.int .i64 a):=hc0
   have hg1:wr.cell? ⟨bk,off+i*3+1,none⟩=some (.int .i64 b):=hc1
   have hg2:wr.cell? ⟨bk,off+i*3+2,none⟩=some (.int .i64 c_):=hc2
   clear hc0 hc1 hc2 hx hbk
   obtain⟨q,hq⟩:=zD1 (wr.alloc (.cells #[.int .i64 a,.int .i64 b,.int .i64 c_] 115))
   have x1:=zB wr (.cells #[.int .i64 a,.int .i64 b,.int .i64 c_] 115)
   have b1:=zD wr (.cells #[.int .i64 a,.int .i64 b,.int .i64 c_] 115)
   rw[←hq] at x1 b1
   go_upto_region 4 with fail
   rw[←hq]
   have X1:=zD0 x1
   have B1:=zD0 (BW.out.trans (b1.mono BW.out.size))
   generalize wr.heap.size=p1 at X1⊢
   clear hq hg0 hg1 hg2
   have XJ1:=zD0 ((b1.block _ (zA ((BW0.out.block _ (zA XJ.out)).trans XJ.out))).trans ((BW0.out.block _ (zA XJ.out)).trans XJ.out))
   have B0:=zD0 (BW0.out.trans (b1.mono BW0.out.size))
   clear x1 b1
   obtain⟨k0,k1,k2⟩:=zC X1.out
   obtain⟨m0,m1⟩:=zI XJ1.out
   have NX:Hid (¬(b=sec∧c_=en)→∀j (hj:j<i+1) (hl:j<l.length),¬(l[j].2.1=sec∧l[j].2.2=en)):=zD0 (fun h0 j hj hl=>by
    rcases Nat.lt_or_ge j i with h|h
    ·exact HALL.out j h hl
    ·obtain rfl:j=i:=by omega
     rw[HX.out];exact h0)
   by_cases h1:b=sec
   ·have d1:(b==sec)=true:=by simpa using h1
    by_cases h2:c_=en
    ·have d2:(c_==en)=true:=by simpa using h2
     have HR:Hid (qJ l sec en=a):=zD0 (by rw[zA7 hir (by rw[HX.out];exact⟨h1,h2⟩) (fun j hj=>HALL.out j hj (by omega)),HX.out])
     clear h1 h2 NX
     go_wp2_with fail
     go_ret
     exact⟨by rw[HR.out];rfl,B1.out⟩
    ·have d2:(c_==en)=false:=by simpa using h2
     have NN:=zD0 (NX.out (fun h=>h2 h.2))
     clear h1 h2 NX
     go_wp2_with fail
     go_roundw
     case measure=>simp[intOf];omega
     case rel=>exact⟨i+1,by omega,by go_num,NN.out,B0.out⟩
   ·have d1:(b==sec)=false:=by simpa using h1
    have NN:=zD0 (NX.out (fun h=>h1 h.1))
    clear h1 NX
    go_wp2_with fail
    go_roundw
    case measure=>simp[intOf];omega
    case rel=>exact⟨i+1,by omega,by go_num,NN.out,B0.out⟩
  ·obtain rfl:i=n:=by omega
   have hlt':¬(i:Int)<i:=by omega
   have HR:Hid (qJ l sec en=0):=zD0 (zAb fun j hj=>HALL.out j (by rw[HN.out];exact hj) hj)
   go_wp2_with fail
   go_ret
   exact⟨by rw[HR.out];rfl,BW.out⟩
set_option maxHeartbeats 4000000 in
theorem twice_any (v:Value) (l:List Ak) (w:World) (h:AsksIn w w.heap.size v l):
  Calls Tryz.prog 45 #[v] w fun e w'=>e = .returned (.bool (zCc l))∧Below w.heap.size w w':=by
 have H_:=zD0 h
 obtain⟨A,c,rfl,hcl,hcm⟩:=h.slice
 have hml:l.length≤9223372036854775807:=by unfold maxLen at hcm;omega
 obtain⟨n,hn⟩:=zD1 (l.length)
 have HN:=zD0 hn
 have HA:=zD0 (show AsksIn w w.heap.size (.slice A n c) l by rw[hn];exact H_.out)
 have HC:Hid (n≤c):=zD0 (by rw[hn];exact hcl)
 rw[←hn] at hml⊢
 clear hn H_ hcl hcm h
 go_enter Tryz.func45,Tryz.ntmps45
 go_wp2_with fail
 go_loopw [9] (fun s9 wr=>∃i:Nat,i≤n∧s9 = .int .i64 i∧(∀a (ha:a<l.length),a<i→∀k (hk:k<a),(l[k]'(by omega)).1≠l[a].1)∧Below w.heap.size w wr) (fun s9 _=>n-(intOf s9).toNat)
 case atStart=>exact⟨0,by omega,by go_num,fun a ha h=>absurd h (by omega),Below.refl _ _⟩
 case round=>
  obtain⟨i,hi,rfl,hall,hb⟩:=hrel
  have HALL:=zD0 hall
  have BW:=zD0 hb
  clear hall hb
  by_cases hlt:i<n
  ·have hlt':(i:Int)<n:=by omega
   have xir:i<l.length:=by rw[←HN.out];exact hlt
   obtain⟨xk,xf,xe,hbk,hc0,hc1,hc2⟩:=((HA.out.below zP BW.out).more zP BW.out.size).at xir
   cases xe
   obtain⟨x0,x1,x2,hx⟩:∃a b c,l[i]=(a,b,c):=⟨_,_,_,rfl⟩
   have xX:=zD0 hx
   rw[hx] at hc0 hc1 hc2
   have hg0:wr.cell? ⟨xk,xf+i*3,none⟩=some (.int .i64 x0):=hc0
   have hg1:wr.cell? ⟨xk,xf+i*3+1,none⟩=some (.int .i64 x1):=hc1
   have hg2:wr.cell? ⟨xk,xf+i*3+2,none⟩=some (.int .i64 x2):=hc2
   clear hc0 hc1 hc2 hx hbk
   obtain⟨q,hq⟩:=zD1 (wr.alloc (.cells #[.int .i64 x0,.int .i64 x1,.int .i64 x2] 108))
   have y1:=zB wr (.cells #[.int .i64 x0,.int .i64 x1,.int .i64 x2] 108)
   have b1:=zD wr (.cells #[.int .i64 x0,.int .i64 x1,.int .i64 x2] 108)
   rw[←hq] at y1 b1
   go_upto_region 4 with fail
   rw[←hq]
   have X1:=zD0 y1
   have B1:=zD0 (BW.out.trans (b1.mono BW.out.size))
   generalize wr.heap.size=p1 at X1⊢
   clear hq hg0 hg1 hg2
   clear y1 b1
   have hic:(i:Int)≤c:=by have:=HC.out;omega
   have hir_:IntKind.i64.wrap (i:Int)=(i:Int):=kA (by omega) (by omega)
   go_wp2_with fail
   go_loopw [18] (fun s18 wy=>∃k:Nat,k≤i∧s18 = .int .i64 k∧(∀m (hm:m<l.length),m<k→l[m].1≠x0)∧Below q.heap.size q wy) (fun s18 _=>i-(intOf s18).toNat)
   case atStart=>exact⟨0,by omega,by go_num,fun m hm h=>absurd h (by omega),Below.refl _ _⟩
   case round=>
    obtain⟨wy,hwy⟩:=zD1 (wr)
    subst hwy
    obtain⟨k,hk,rfl,hall,hb⟩:=hrel
    have HK:=zD0 hall
    have BY:=zD0 hb
    have BZ:Hid (Below w.heap.size w wy):=zD0 (B1.out.trans (hb.mono B1.out.size))
    clear hall hb
    by_cases hlk:k<i
    ·have hlk':(k:Int)<i:=by omega
     have yir:k<l.length:=by omega
     obtain⟨yk,yf,ye,hbk,hc0,hc1,hc2⟩:=((HA.out.below zP BZ.out).more zP BZ.out.size).at yir
     cases ye
     obtain⟨y0,y1,y2,hx⟩:∃a b c,l[k]=(a,b,c):=⟨_,_,_,rfl⟩
     have yX:=zD0 hx
     rw[hx] at hc0 hc1 hc2
     have hg0:wy.cell? ⟨xk,xf+k*3,none⟩=some (.int .i64 y0):=hc0
     have hg1:wy.cell? ⟨xk,xf+k*3+1,none⟩=some (.int .i64 y1):=hc1
     have hg2:wy.cell? ⟨xk,xf+k*3+2,none⟩=some (.int .i64 y2):=hc2
     clear hc0 hc1 hc2 hx hbk
     obtain⟨q2,hq⟩:=zD1 (wy.alloc (.cells #[.int .i64 y0,.int .i64 y1,.int .i64 y2] 108))
     have z1:=zB wy (.cells #[.int .i64 y0,.int .i64 y1,.int .i64 y2] 108)
     have b1:=zD wy (.cells #[.int .i64 y0,.int .i64 y1,.int .i64 y2] 108)
     rw[←hq] at z1 b1
     go_upto_region 7 with fail
     rw[←hq]
     have X2:=zD0 z1
     have B2:=zD0 (BZ.out.trans (b1.mono BZ.out.size))
     generalize wy.heap.size=p2 at X2⊢
     clear hq hg0 hg1 hg2
     have X1b:=zD0 ((b1.block _ (zA ((BY.out.block _ (zA X1.out)).trans X1.out))).trans ((BY.out.block _ (zA X1.out)).trans X1.out))
     have B3:=zD0 (BY.out.trans (b1.mono BY.out.size))
     clear z1 b1
     obtain⟨k0,k1,k2⟩:=zC X1b.out
     obtain⟨m0,m1,m2⟩:=zC X2.out
     by_cases he:x0=y0
     ·have d1:(x0==y0)=true:=by simpa using he
      have HR:Hid (zCc l=true):=zD0 (twice_true xir (k:=k) (by omega) (by rw[xX.out,yX.out];exact he.symm))
      clear he
      go_wp2_with fail
      go_ret
      exact⟨by rw[HR.out];rfl,B2.out⟩
     ·have d1:(x0==y0)=false:=by simpa using he
      have NX:Hid (∀m (hm:m<l.length),m<k+1→l[m].1≠x0):=zD0 (fun m hm h=>by
       rcases Nat.lt_or_ge m k with h2|h2
       ·exact HK.out m hm h2
       ·obtain rfl:m=k:=by omega
        rw[yX.out];exact fun h3=>he h3.symm)
      clear he
      go_wp2_with fail
      go_roundw
      case measure=>simp[intOf];omega
      case rel=>exact⟨k+1,by omega,by go_num,NX.out,B3.out⟩
    ·obtain rfl:k=i:=by omega
     have hlk':¬(k:Int)<k:=by omega
     have NX:Hid (∀a (ha:a<l.length),a<k+1→∀m (hm:m<a),(l[m]'(by omega)).1≠l[a].1):=zD0 (fun a ha h m hm=>by
      rcases Nat.lt_or_ge a k with h2|h2
      ·exact HALL.out a ha h2 m hm
      ·obtain rfl:a=k:=by omega
       rw[xX.out];exact HK.out m (by omega) hm)
     go_wp2_with fail
     go_roundw
     case measure=>simp[intOf];omega
     case rel=>exact⟨k+1,by omega,by go_num,NX.out,BZ.out⟩
  ·obtain rfl:i=n:=by omega
   have hlt':¬(i:Int)<i:=by omega
   have HR:Hid (zCc l=false):=zD0 (twice_false fun a ha=>HALL.out a ha (by rw[HN.out];exact ha))
   go_wp2_with fail
   go_ret
   exact⟨by rw[HR.out];rfl,BW.out⟩
theorem wp_scope_ahead {P:Program} {Q:Exit→Act→World→Prop} {a:Act} {w:World} {c rest:Code} (l:Nat) (hf:findLabel c l=some rest)
  (h:c.wp P (Exit.jump l (fun a w=>rest.wp P (Exit.noGoto Q) a w) Q) a w):(Code.scope c).wp P Q a w:=
 wp_scope_jumps l (fun a w=>rest.wp P (Exit.noGoto Q) a w) (fun _ _=>0) hf h fun a w hJ=>wp_mono hJ fun e a w hq=>by
  cases e with
  | goto l'=>exact hq.elim
  | normal=>exact hq
  | exit id=>exact hq
  | ret=>exact hq
  | panic ch=>exact hq
  | outgrown=>exact hq
theorem jump_ret {l:Nat} {J:Act→World→Prop} {Q:Exit→Act→World→Prop} {a:Act} {w:World}:Exit.jump l J Q .ret a w=Q .ret a w:=rfl
theorem stands_mem {l:List Sg} {a b x:Int} (h:qJ l a b=x) (h0:x≠0):∃k,∃hk:k<l.length,l[k].1=x∧l[k].2.1=a∧l[k].2.2=b:=by
 rw[qJ] at h
 cases hf:l.find? (fun s=>decide (s.2.1=a∧s.2.2=b)) with
 | none=>rw[hf] at h;exact absurd h.symm h0
 | some s=>
  rw[hf] at h
  obtain⟨k,hk,rfl⟩:=List.getElem_of_mem (List.mem_of_find?_eq_some hf)
  have h1:l[k].2.1=a∧l[k].2.2=b:=by simpa using List.find?_some hf
  exact⟨k,hk,h,h1.1,h1.2⟩
theorem sigs_one_id {p:Pl} (h:vO p) {i j:Nat} (hi:i<p.sigs.length) (hj:j<p.sigs.length) (he:p.sigs[i].1=p.sigs[j].1):i=j:=by
 rcases Nat.lt_trichotomy i j with h1|h1|h1
 ·have:=((h.each j hj).2.2.2 i h1).1;omega
 ·exact h1
 ·have:=((h.each i hi).2.2.2 j h1).1;omega
def PstN (p:Pl) (r:Rt) (n:Nat):Prop:=∀i (hi:i<r.path.length),i<n→qJ p.sigs r.path[i] (vQ p r i)=0∨qJ p.sigs r.path[i] (vQ p r i)=r.exit
theorem path_getD {r:Rt} {i:Nat} (hi:i<r.path.length):(zS r).getD i 0=r.path[i]:=by
 rw[zS,List.getD,List.getElem?_append_left hi,List.getElem?_eq_getElem hi];rfl
theorem last_out {p:Pl} {r:Rt} (hr:qW p r) (hh:kK p r) {i:Nat} (hi:i+1=r.path.length):r.exit=0∨qJ p.sigs (r.path[i]'(by omega)) (vQ p r i)=r.exit:=by
 have hl:=hr.len
 have hi':i<r.path.length:=by omega
 have ha:i<(zS r).length:=by omega
 obtain⟨j,hc,h1,ho⟩:=hh i ha
 have hb:yV r i=false:=decide_eq_false (fun h=>by omega)
 have h2:=ho hb
 rcases outN_cases p r i j.2 with h3|⟨e,-,h3,h4⟩
 ·omega
 ·rw[vI] at h4
  simp only[Bool.and_eq_true,if_pos hi,decide_eq_true_eq] at h4
  rcases h4.2 with h5|h5
  ·exact .inl h5.1
  ·obtain⟨k,hk,-,h6,h7⟩:=hr.sec ha
   right
   rw[←path_getD hi',vQ,hb,in_of hc]
   show qJ p.sigs ((zS r).getD i 0) (outN p r i j.2)=r.exit
   rw[h3,←h7,←h6]
   exact h5.2
theorem stands_pst {p:Pl} {r:Rt} (hr:qW p r) (hh:kK p r):StandsR p r↔PstN p r r.path.length:=by
 constructor
 ·intro h i hi _
  rcases Nat.lt_or_ge (i+1) r.path.length with h1|h1
  ·exact .inl ((h i hi).1 h1)
  ·exact .inr ((h i hi).2 (by omega))
 ·intro h i hi
  refine⟨fun h1=>?_,fun h1=>?_⟩
  ·rcases h i hi hi with h2|h2
   ·exact h2
   ·by_cases h0:r.exit=0
    ·rw[h2,h0]
    ·exfalso
     obtain⟨m,hm⟩:∃m,m+1=r.path.length:=⟨r.path.length-1,by omega⟩
     rcases last_out hr hh hm with h3|h3
     ·exact h0 h3
     ·obtain⟨k1,hk1,e1,e2,-⟩:=stands_mem h2 h0
      obtain⟨k2,hk2,e4,e5,-⟩:=stands_mem h3 h0
      obtain rfl:=sigs_one_id hr.plan.sigs hk1 hk2 (e1.trans e4.symm)
      have hm':m<(r.path++r.over).length:=by rw[List.length_append];omega
      have hd:=(hr.route.secs m hm').2 i (by omega)
      rw[List.getElem_append_left hi,List.getElem_append_left (by omega)] at hd
      exact hd (e2.symm.trans e5)
  ·rcases last_out hr hh h1 with h3|h3
   ·rcases h i hi hi with h2|h2
    ·rw[h2,h3]
    ·exact h2
   ·exact h3
theorem left_path {p:Pl} {r:Rt} (hr:qW p r) (hh:kK p r):r.path.length≤(zA5 p r).length∧∀i (hi:i<r.path.length) (hl:i<(zA5 p r).length),(zA5 p r)[i]=(r.path[i],vQ p r i):=by
 obtain⟨h1,-,h3⟩:=outs_parts hr hh
 have hl:=hr.len
 have h4:r.path.length≤outsN r:=by
  rw[outsN]
  split<;>omega
 have h1':(zA5 p r).length=outsN r:=h1
 refine⟨by omega,fun i hi hli=>?_⟩
 have:=h3 i hli
 rw[path_getD hi] at this
 exact this
theorem jsO_cellsS {lo:Nat} {W:World} {B:Nat} (c c':Nat→Option Value) (x:List Jn) (h:∀k,k<1→c k=c' k) (hx:JsO lo W B c x):JsO lo W B c' x:=by
 obtain⟨u,h0,hr⟩:=hx
 exact⟨u,(h 0 (by omega)).symm.trans h0,hr⟩
theorem all_hangs {p:Pl} (h:allE p=0) {k:Nat} (hk:k<p.routes.length):kK p p.routes[k]:=by
 rcases zBe p with⟨-,hm,-⟩|⟨h1,-⟩
 ·by_cases hh:kK p p.routes[k]
  ·exact hh
  ·rw[all_bad hm hk hh] at h;cases h
 ·exact absurd h h1
theorem snd_bad {p:Pl} {k:Nat} (hk:k<p.routes.length) (h:¬Sound p p.routes[k]):sndE p=100:=by
 rcases zC4 p with⟨-,h1⟩|⟨h1,-⟩
 ·exact absurd (h1.each k hk) h
 ·exact h1
theorem snd_all {p:Pl} (h:allE p≠0):sndE p=100:=by
 rcases zC4 p with⟨-,h1⟩|⟨h1,-⟩
 ·exact absurd (all_good h1.may fun k hk=>(h1.each k hk).hangs) h
 ·exact h1
set_option maxHeartbeats 16000000 in
theorem scheck_any (v:Value) (p:Pl) (w:World) (h:qF w w.heap.size v p):
  Calls Tryz.prog 22 #[v] w fun e w'=>e = .returned (.int .i64 (sndE p))∧Below w.heap.size w w':=by
 obtain⟨A2,c2,A3,c3,A4,c4,A5,c5,n2,n3,n4,n5,rfl,hm2,hm3,hm4,hm5,HCP,HIN,HN⟩:=kD h
 have hq0:=zB w (.cells #[.int .i64 p.ver,.int .i64 p.par,.slice A2 n2 c2,.slice A3 n3 c3,.slice A4 n4 c4,.slice A5 n5 c5] 27)
 have hqb:=zD w (.cells #[.int .i64 p.ver,.int .i64 p.par,.slice A2 n2 c2,.slice A3 n3 c3,.slice A4 n4 c4,.slice A5 n5 c5] 27)
 go_enter Tryz.func22,Tryz.ntmps22
 go_wp2_with fail
 apply wp_scope_ahead 0
 ·rfl
 generalize w.alloc (.cells #[.int .i64 p.ver,.int .i64 p.par,.slice A2 n2 c2,.slice A3 n3 c3,.slice A4 n4 c4,.slice A5 n5 c5] 27)=q at hq0 hqb⊢
 have XP:=zD0 hq0
 have BQ:=zD0 hqb
 clear hq0 hqb
 obtain⟨k0,k1,k2,k3,k4,k5⟩:=zE XP.out
 go_wp2_with fail
 refine(pall_any _ p q ⟨_,_,_,_,rfl,(HIN.out.below BQ.out).more BQ.out.size⟩).mono ?_
 rintro e w1 ⟨u1,u2,rfl,hw,hj,b1⟩
 have B0:Hid (Below w.heap.size w w1):=zD0 (BQ.out.trans (b1.mono BQ.out.size))
 have XP1:=zD0 ((b1.block _ (zA XP.out)).trans XP.out)
 have HI:=zD0 ((HIN.out.below B0.out).more B0.out.size)
 clear b1 k0 k1 k2 k3 k4 k5 XP BQ HIN
 obtain⟨E,hE⟩:=zD1 (allE p)
 rw[←hE]
 obtain⟨k0,k1,k2,k3,k4,k5⟩:=zE XP1.out
 by_cases h0:E=0
 rotate_left
 ·have d0:(E != 0)=true:=by simpa using h0
  have HB:Hid (sndE p=100):=zD0 (snd_all (by rw[←hE];exact h0))
  clear h0 hE hw hj
  go_wp2_with fail
  go_step3
  show _∧_
  refine⟨rfl,?_⟩
  go_wp2_with fail
  rw[Exit.noGoto_ret]
  go_ret
  exact⟨by rw[HB.out];rfl,B0.out⟩
 subst h0
 have HA:=zD0 hE.symm
 obtain⟨hm,ha1,ha2⟩:xU p∧allW p=p.routes.map (kH p)∧allL p=p.routes.map (zA5 p):=by
  rcases zBe p with⟨-,h1,h2,h3⟩|⟨h1,-⟩
  ·exact⟨h1,h2,h3⟩
  ·exact absurd hE.symm h1
 have HPM:=zD0 hm
 rw[ha1] at hw
 rw[ha2] at hj
 obtain⟨W1,e1,rfl⟩:=hw.slice
 obtain⟨W2,e2,rfl⟩:=hj.slice
 have WO:=zD0 hw
 have JO:=zD0 hj
 rw[List.length_map] at WO JO⊢
 rw[←HN.out.2.2.2] at WO JO⊢
 rw[List.length_map,←HN.out.2.2.2]
 have d0:((0:Int) != 0)=false:=by decide
 clear hE hm ha1 ha2 hw hj
 go_wp2_with fail
 clear k0 k1 k2 k3 k4 k5
 go_loopw [22] (fun s22 wr=>∃i:Nat,i≤n5∧s22 = .int .i64 i∧(∀m (hm:m<p.routes.length),m<i→Sound p p.routes[m])∧Below w1.heap.size w1 wr) (fun s22 _=>n5-(intOf s22).toNat)
 case atStart=>exact⟨0,by omega,by go_num,fun m hm h=>absurd h (by omega),Below.refl _ _⟩
 case round=>
  obtain⟨wx,hwx⟩:=zD1 (wr)
  subst hwx
  obtain⟨i,hi,rfl,hall,hb⟩:=hrel
  have HALL:=zD0 hall
  have BW:=zD0 hb
  clear hall hb
  by_cases hlt:i<n5
  ·have hlt':(i:Int)<n5:=by omega
   have hir:i<p.routes.length:=by have:=HN.out;omega
   obtain⟨bk,off,e5,-,hc0,hc1,hc2,hc6,u3,u4,u5,hc3,hc4,hc5,hri⟩:=(((HI.out.below BW.out).more BW.out.size).routes).at hir
   cases e5
   obtain⟨r,hr⟩:=zD1 (p.routes[i])
   rw[←hr] at hc0 hc1 hc2 hc6 hri
   obtain⟨D3,d3,rfl,hcl3,hcm3⟩:=hri.path.slice
   obtain⟨D4,d4,rfl,-,-⟩:=hri.over.slice
   obtain⟨D5,d5,rfl,-,-⟩:=hri.flanks.slice
   obtain⟨l3,hl3⟩:=zD1 (r.path.length)
   obtain⟨l4,hl4⟩:=zD1 (r.over.length)
   obtain⟨l5,hl5⟩:=zD1 (r.flanks.length)
   rw[←hl3] at hc3
   rw[←hl4] at hc4
   rw[←hl5] at hc5
   have hg0:wx.cell? ⟨bk,off+i*7,none⟩=some (.int .i64 r.id):=hc0
   have hg1:wx.cell? ⟨bk,off+i*7+1,none⟩=some (.int .i64 r.entry):=hc1
   have hg2:wx.cell? ⟨bk,off+i*7+2,none⟩=some (.int .i64 r.exit):=hc2
   have hg3:wx.cell? ⟨bk,off+i*7+3,none⟩=some (.slice D3 l3 d3):=hc3
   have hg4:wx.cell? ⟨bk,off+i*7+4,none⟩=some (.slice D4 l4 d4):=hc4
   have hg5:wx.cell? ⟨bk,off+i*7+5,none⟩=some (.slice D5 l5 d5):=hc5
   have hg6:wx.cell? ⟨bk,off+i*7+6,none⟩=some (.int .i64 r.timer):=hc6
   have HR_:=zD0 hr
   have HRI:Hid (qW p r):=zD0 (jO HPM.out hir hr.symm)
   have HL3:=zD0 hl3
   clear hc0 hc1 hc2 hc3 hc4 hc5 hc6 hri hr hcl3 hcm3 hl3 hl4 hl5
   have HH:Hid (kK p r):=zD0 (by rw[HR_.out];exact all_hangs HA.out hir)
   have LP:=zD0 (left_path HRI.out HH.out)
   obtain⟨qr,hq⟩:=zD1 (wx.alloc (.cells #[.int .i64 r.id,.int .i64 r.entry,.int .i64 r.exit,.slice D3 l3 d3,.slice D4 l4 d4,.slice D5 l5 d5,.int .i64 r.timer] 64))
   have x1:=zB wx (.cells #[.int .i64 r.id,.int .i64 r.entry,.int .i64 r.exit,.slice D3 l3 d3,.slice D4 l4 d4,.slice D5 l5 d5,.int .i64 r.timer] 64)
   have b1:=zD wx (.cells #[.int .i64 r.id,.int .i64 r.entry,.int .i64 r.exit,.slice D3 l3 d3,.slice D4 l4 d4,.slice D5 l5 d5,.int .i64 r.timer] 64)
   rw[←hq] at x1 b1
   go_upto_region 6 with fail
   rw[←hq]
   have XR:=zD0 x1
   have BR:=zD0 (BW.out.trans (b1.mono BW.out.size))
   generalize wx.heap.size=pr at XR⊢
   clear hq hg0 hg1 hg2 hg3 hg4 hg5 hg6
   clear x1 b1
   obtain⟨pb,po,e,-,ph3,pu0,pu1,pu2,ph0,ph1,ph2,pw,-⟩:=((WO.out.below (wayO _) BR.out).in_ wayO_cells).at (show i<(p.routes.map (kH p)).length by rw[List.length_map];exact hir)
   cases e
   obtain⟨rb,ro,e,-,ru,rh0,rw_,-⟩:=((JO.out.below (jsO _) BR.out).in_ jsO_cellsS).at (show i<(p.routes.map (zA5 p)).length by rw[List.length_map];exact hir)
   cases e
   rw[List.getElem_map,←HR_.out] at pw rw_
   have AS:=zD0 (pw.asks.in_ jJ)
   obtain⟨U,uc,rfl⟩:=rw_.slice
   obtain⟨nu,hnu⟩:=zD1 ((zA5 p r).length)
   rw[←hnu] at rh0 rw_
   have LJ:=zD0 (rw_.in_ kL)
   have HNU:Hid (nu=(zA5 p r).length∧nu≤uc):=zD0 ⟨hnu,by
    obtain⟨_,_,e,h1,_⟩:=LJ.out.slice
    rw[←hnu] at e h1
    cases e
    exact h1⟩
   have G2:Hid (qr.cell? ⟨pb,po+i*4+2,none⟩=some pu2):=zD0 ph2
   have GU:Hid (qr.cell? ⟨rb,ro+i,none⟩=some (.slice U nu uc)):=zD0 (by have h:=rh0;simpa using h)
   clear ph0 ph1 ph2 ph3 pw rh0 rw_ hnu
   have g2:=G2.out
   go_wp2_with fail
   refine(twice_any _ (kH p r).asks qr AS.out).mono ?_
   rintro e w3 ⟨rfl,b⟩
   have B3_:Hid (Below w1.heap.size w1 w3):=zD0 (BR.out.trans (b.mono BR.out.size))
   have XR3_:=zD0 ((b.block _ (zA XR.out)).trans XR.out)
   have GU3:=zD0 ((b.cell (zG GU.out)).trans GU.out)
   have LJ3:=zD0 ((LJ.out.below zM b).more zM b.size)
   clear b g2 G2 AS GU LJ XR BR
   cases htw:zCc (kH p r).asks with
   | true=>
    have HB:Hid (sndE p=100):=zD0 (snd_bad hir fun hs=>by
     rw[←HR_.out] at hs
     rw[twice_false hs.once] at htw
     cases htw)
    clear htw
    go_wp2_with fail
    go_step3
    show _∧_
    refine⟨rfl,?_⟩
    go_wp2_with fail
    rw[Exit.noGoto_ret]
    go_ret
    exact⟨by rw[HB.out];rfl,B0.out.trans (B3_.out.mono B0.out.size)⟩
   | false=>
   have HON:Hid (OnceA (kH p r).asks):=zD0 (twice_once htw)
   clear htw
   have gu:=GU3.out
   obtain⟨k0,k1,k2,k3,k4,k5,k6⟩:=zL XR3_.out
   have hlu:(l3:Int)≤uc:=by have:=HNU.out;have:=LP.out.1;have:=HL3.out;omega
   have hl6:l3≤6:=by have:=HRI.out.route.path;have:=HL3.out;omega
   have hwl:IntKind.i64.wrap (l3:Int)=(l3:Int):=kA (by omega) (by omega)
   have BD:Hid (∀nq,Below w3.heap.size w3 (w3.drewN nq)):=zD0 (fun nq=>zBx w3 nq)
   go_upto_region 7 with fail
   go_quiet (fail)
   have hdb:=BD.out nq
   generalize w3.drewN nq=v3 at hdb⊢
   have B3:Hid (Below w1.heap.size w1 v3):=zD0 (B3_.out.trans (hdb.mono B3_.out.size))
   have XR3:=zD0 ((hdb.block _ (zA XR3_.out)).trans XR3_.out)
   have LJ:=zD0 ((LJ3.out.below zM hdb).more zM hdb.size)
   clear hdb BD gu k0 k1 k2 k3 k4 k5 k6 GU3 LJ3 XR3_ B3_ hlu hwl
   go_wp2_with fail
   go_loopw [42] (fun s42 wy=>∃k:Nat,k≤l3∧s42 = .int .i64 k∧PstN p r k∧Below v3.heap.size v3 wy) (fun s42 _=>l3-(intOf s42).toNat)
   case atStart=>exact⟨0,by omega,by go_num,fun m hm h=>absurd h (by omega),Below.refl _ _⟩
   case round=>
    obtain⟨wy,hwy⟩:=zD1 (wr)
    subst hwy
    obtain⟨k,hk,rfl,hall,hb⟩:=hrel
    have HK:=zD0 hall
    have BY:=zD0 hb
    have BZ:Hid (Below w1.heap.size w1 wy):=zD0 (B3.out.trans (hb.mono B3.out.size))
    clear hall hb
    by_cases hlk:k<l3
    ·have hlk':(k:Int)<l3:=by omega
     have hkp:k<r.path.length:=by have:=HL3.out;omega
     have hkl:k<(zA5 p r).length:=by have:=(LP.out.1);omega
     obtain⟨j0,j1,hx⟩:∃a b,(zA5 p r)[k]=(a,b):=⟨_,_,rfl⟩
     have HX:Hid (r.path[k]=j0∧vQ p r k=j1):=zD0 (by
      have h1:=LP.out.2 k hkp hkl
      rw[hx] at h1
      injection h1 with h1 h2
      exact⟨h1.symm,h2.symm⟩)
     obtain⟨bo,oo,e7,-,hh0,hh1⟩:=(LJ.out.below zM BY.out).at hkl
     cases e7
     rw[hx] at hh0 hh1
     have hg0:wy.cell? ⟨bo,oo+k*2,none⟩=some (.int .i64 j0):=hh0
     have hg1:wy.cell? ⟨bo,oo+k*2+1,none⟩=some (.int .i64 j1):=hh1
     clear hx hh0 hh1
     obtain⟨q2,hq⟩:=zD1 (wy.alloc (.cells #[.int .i64 j0,.int .i64 j1] 98))
     have x1:=zB wy (.cells #[.int .i64 j0,.int .i64 j1] 98)
     have b1:=zD wy (.cells #[.int .i64 j0,.int .i64 j1] 98)
     rw[←hq] at x1 b1
     go_upto_region 10 with fail
     rw[←hq]
     have X2:=zD0 x1
     have B2:=zD0 (BZ.out.trans (b1.mono BZ.out.size))
     generalize wy.heap.size=p2 at X2⊢
     clear hq hg0 hg1
     have B2y:=zD0 (BY.out.trans (b1.mono BY.out.size))
     have B1y:=zD0 b1
     have XP2:=zD0 ((B2.out.block _ (zA XP1.out)).trans XP1.out)
     have SG2:=zD0 (((HI.out.below B2.out).more B2.out.size).sigs)
     clear x1 b1
     obtain⟨k0,k1,k2,k3,k4,k5⟩:=zE XP2.out
     obtain⟨m0,m1⟩:=zI X2.out
     go_wp2_with fail
     refine(sstands_any _ p.sigs j0 j1 q2 SG2.out).mono ?_
     rintro e w4 ⟨rfl,b⟩
     have XR4:=zD0 (((B2y.out.trans (b.mono B2y.out.size)).block _ (zA XR3.out)).trans XR3.out)
     have B4:=zD0 (B2.out.trans (b.mono B2.out.size))
     have B4y:=zD0 (B2y.out.trans (b.mono B2y.out.size))
     obtain⟨sg,hsg⟩:=zD1 (qJ p.sigs j0 j1)
     have HSG:Hid (qJ p.sigs r.path[k] (vQ p r k)=sg):=zD0 (by rw[HX.out.1,HX.out.2];exact hsg.symm)
     rw[←hsg]
     clear b hsg k0 k1 k2 k3 k4 k5 m0 m1 XP2 SG2 B2 B2y B1y
     obtain⟨k0,k1,k2,k3,k4,k5,k6⟩:=zL XR4.out
     have NX:Hid (sg=0∨sg=r.exit→PstN p r (k+1)):=zD0 (fun h a ha hak=>by
      rcases Nat.lt_or_ge a k with h2|h2
      ·exact HK.out a ha h2
      ·obtain rfl:a=k:=by omega
       rw[HSG.out];exact h)
     by_cases h0:sg=0
     ·have d1:(sg != 0)=false:=by simpa using h0
      have NN:=zD0 (NX.out (.inl h0))
      clear h0 NX
      go_wp2_with fail
      go_roundw
      case measure=>simp[intOf];omega
      case rel=>exact⟨k+1,by omega,by go_num,NN.out,B4y.out⟩
     ·have d1:(sg != 0)=true:=by simpa using h0
      by_cases h1:sg=r.exit
      ·have d2:(sg != r.exit)=false:=by simpa using h1
       have NN:=zD0 (NX.out (.inr h1))
       clear h0 h1 NX
       go_wp2_with fail
       go_roundw
       case measure=>simp[intOf];omega
       case rel=>exact⟨k+1,by omega,by go_num,NN.out,B4y.out⟩
      ·have d2:(sg != r.exit)=true:=by simpa using h1
       have HB:Hid (sndE p=100):=zD0 (snd_bad hir fun hs=>by
        rw[←HR_.out] at hs
        have h2:=(stands_pst HRI.out HH.out).1 hs.stands k hkp hkp
        rw[HSG.out] at h2
        rcases h2 with h2|h2
        ·exact h0 h2
        ·exact h1 h2)
       clear h0 h1 NX
       go_wp2_with fail
       go_step3
       show _∧_
       refine⟨rfl,?_⟩
       go_wp2_with fail
       rw[Exit.noGoto_ret]
       go_ret
       exact⟨by rw[HB.out];rfl,B0.out.trans (B4.out.mono B0.out.size)⟩
    ·obtain rfl:k=l3:=by omega
     have hlk':¬(k:Int)<k:=by omega
     have NX:Hid (∀m (hm:m<p.routes.length),m<i+1→Sound p p.routes[m]):=zD0 (fun m hm h=>by
      rcases Nat.lt_or_ge m i with h2|h2
      ·exact HALL.out m hm h2
      ·obtain rfl:m=i:=by omega
       rw[←HR_.out]
       exact⟨HH.out,HON.out,(stands_pst HRI.out HH.out).2 fun a ha _=>HK.out a ha (by have:=HL3.out;omega)⟩)
     go_wp2_with fail
     go_roundw
     case measure=>simp[intOf];omega
     case rel=>exact⟨i+1,by omega,by go_num,NX.out,BZ.out⟩
  ·obtain rfl:i=n5:=by omega
   have hlt':¬(i:Int)<i:=by omega
   have HB:Hid (sndE p=0):=zD0 (sndE_zero.2 ⟨HPM.out,fun m hm=>HALL.out m hm (by have:=HN.out;omega)⟩)
   go_wp2_with fail
   rw[jump_ret]
   go_ret
   exact⟨by rw[HB.out];rfl,B0.out.trans (BW.out.mono B0.out.size)⟩
theorem sndSaid (hp:PlanSaid):zBy:=⟨scheck_any⟩
end Go.Proofs.YtemmgmjhomgbbaaGreat
