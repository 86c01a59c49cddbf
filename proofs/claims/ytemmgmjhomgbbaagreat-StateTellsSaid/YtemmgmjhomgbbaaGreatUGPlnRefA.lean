/-
 The document's own functions of package plan: PointAt, SignalAt, RouteAt, At, Ints, Great.
 Conditions: none.
-/
import Derived.Test.YtemmgmjhomgbbaaGreatUGBase
import Derived.Test.YtemmgmjhomgbbaaGreatUGTrkRef
import Derived.BigQuiet
set_option linter.unusedVariables false
set_option linter.unusedSimpArgs false
set_option maxRecDepth 100000
namespace Go.Proofs.YtemmgmjhomgbbaaGreat
open Go.RowKit
def at1 {α:Type} (k:α→Int) (l:List α) (id:Int):Int:=match l.findIdx? (fun s=>decide (k s=id)) with
 | some i=>(i:Int)
 | none=>-1
theorem yM {α:Type} {k:α→Int} {l:List α} {id:Int} (h:∀j (h:j<l.length),k l[j]≠id):at1 k l id = -1:=by
 have:l.findIdx? (fun s=>decide (k s=id))=none:=by
  rw[List.findIdx?_eq_none_iff]
  intro x hx
  obtain⟨j,hj,rfl⟩:=List.getElem_of_mem hx
  exact decide_eq_false (h j hj)
 rw[at1,this]
theorem vT {α:Type} {k:α→Int} {l:List α} {id:Int} {i:Nat} (hi:i<l.length) (he:k l[i]=id) (h:∀j (h:j<i),k (l[j]'(by omega))≠id):at1 k l id=(i:Int):=by
 have:l.findIdx? (fun s=>decide (k s=id))=some i:=by
  rw[List.findIdx?_eq_some_iff_getElem]
  exact⟨hi,decide_eq_true he,fun j hj=>by simpa using h j hj⟩
 rw[at1,this]
theorem vF {α:Type} (k:α→Int) (l:List α) (id:Int):(at1 k l id = -1∧∀j (h:j<l.length),k l[j]≠id)∨∃(i:Nat) (h:i<l.length),at1 k l id=(i:Int)∧k l[i]=id∧∀j (hj:j<i),k (l[j]'(by omega))≠id:=by
 rw[at1]
 cases h:l.findIdx? (fun s=>decide (k s=id)) with
 | none=>
  refine .inl ⟨rfl,fun j hj=>?_⟩
  have:=List.findIdx?_eq_none_iff.1 h _ (List.getElem_mem hj)
  exact of_decide_eq_false this
 | some i=>
  obtain⟨hi,he,h2⟩:=List.findIdx?_eq_some_iff_getElem.1 h
  exact .inr ⟨i,hi,rfl,of_decide_eq_true he,fun j hj=>by simpa using h2 j hj⟩
theorem kU (v:Value) (l:List Jn) (id:Int) (w:World) (h:zT w w.heap.size v l):
  Calls Tryz.prog 97 #[v,.int .i64 id] w fun e w'=>e = .returned (.int .i64 (at1 (fun x=>x.1) l id))∧w'=w:=by
 obtain⟨A,c,n,rfl,hml,HN,HA⟩:=kN h
 go_enter Tryz.func97,Tryz.ntmps97
 go_wp2_with fail
 go_loopw [5] (fun s5 wr=>∃i:Nat,i≤n∧s5 = .int .i64 i∧(∀j (hj:j<i) (hl:j<l.length),(fun x:Jn=>x.1) l[j]≠id)∧wr=w) (fun s5 _=>n-(intOf s5).toNat)
 case atStart=>exact⟨0,by omega,by go_num,fun j hj=>absurd hj (by omega),rfl⟩
 case round=>
  obtain⟨i,hi,rfl,hall,rfl⟩:=hrel
  have HALL:=zD0 hall
  clear hall
  by_cases hlt:i<n
  ·have hlt':(i:Int)<n:=by omega
   have hir:i<l.length:=by rw[←HN.out];exact hlt
   obtain⟨b,off,rfl,hb,hc0,-⟩:=HA.out.at hir
   obtain⟨z,hz⟩:=zD1 ((fun x:Jn=>x.1) l[i])
   have hcell:wr.cell? ⟨b,off+i*2,none⟩=some (.int .i64 z):=by rw[hz];simpa using hc0
   have HZ:=zD0 hz
   clear hc0 hz
   by_cases he:z=id
   ·have HR:Hid (at1 (fun x:Jn=>x.1) l id=(i:Int)):=zD0 (vT hir (HZ.out.symm.trans he) fun j hj=>HALL.out j hj (by omega))
    go_wp2_with fail
    go_ret
    exact⟨by rw[HR.out];rfl,rfl⟩
   ·have HS:Hid (∀j (hj:j<i+1) (hl:j<l.length),(fun x:Jn=>x.1) l[j]≠id):=zD0 (fun j hj hl=>by
     rcases Nat.lt_or_ge j i with h|h
     ·exact HALL.out j h hl
     ·obtain rfl:j=i:=by omega
      exact fun h2=>he (HZ.out.trans h2))
    go_wp2_with fail
    go_roundw
    case measure=>simp[intOf];omega
    case rel=>exact⟨i+1,by omega,by go_num,HS.out,trivial⟩
  ·obtain rfl:i=n:=by omega
   have hlt':¬(i:Int)<i:=by omega
   have HR:Hid (at1 (fun x:Jn=>x.1) l id = -1):=zD0 (yM fun j hj=>HALL.out j (by rw[HN.out];exact hj) hj)
   go_wp2_with fail
   go_ret
   exact⟨by rw[HR.out];rfl,rfl⟩
theorem zA0 (v:Value) (l:List Sg) (id:Int) (w:World) (h:xI w w.heap.size v l):
  Calls Tryz.prog 95 #[v,.int .i64 id] w fun e w'=>e = .returned (.int .i64 (at1 (fun x=>x.1) l id))∧w'=w:=by
 obtain⟨A,c,n,rfl,hml,HN,HA⟩:=kN h
 go_enter Tryz.func95,Tryz.ntmps95
 go_wp2_with fail
 go_loopw [5] (fun s5 wr=>∃i:Nat,i≤n∧s5 = .int .i64 i∧(∀j (hj:j<i) (hl:j<l.length),(fun x:Sg=>x.1) l[j]≠id)∧wr=w) (fun s5 _=>n-(intOf s5).toNat)
 case atStart=>exact⟨0,by omega,by go_num,fun j hj=>absurd hj (by omega),rfl⟩
 case round=>
  obtain⟨i,hi,rfl,hall,rfl⟩:=hrel
  have HALL:=zD0 hall
  clear hall
  by_cases hlt:i<n
  ·have hlt':(i:Int)<n:=by omega
   have hir:i<l.length:=by rw[←HN.out];exact hlt
   obtain⟨b,off,rfl,hb,hc0,-⟩:=HA.out.at hir
   obtain⟨z,hz⟩:=zD1 ((fun x:Sg=>x.1) l[i])
   have hcell:wr.cell? ⟨b,off+i*3,none⟩=some (.int .i64 z):=by rw[hz];simpa using hc0
   have HZ:=zD0 hz
   clear hc0 hz
   by_cases he:z=id
   ·have HR:Hid (at1 (fun x:Sg=>x.1) l id=(i:Int)):=zD0 (vT hir (HZ.out.symm.trans he) fun j hj=>HALL.out j hj (by omega))
    go_wp2_with fail
    go_ret
    exact⟨by rw[HR.out];rfl,rfl⟩
   ·have HS:Hid (∀j (hj:j<i+1) (hl:j<l.length),(fun x:Sg=>x.1) l[j]≠id):=zD0 (fun j hj hl=>by
     rcases Nat.lt_or_ge j i with h|h
     ·exact HALL.out j h hl
     ·obtain rfl:j=i:=by omega
      exact fun h2=>he (HZ.out.trans h2))
    go_wp2_with fail
    go_roundw
    case measure=>simp[intOf];omega
    case rel=>exact⟨i+1,by omega,by go_num,HS.out,trivial⟩
  ·obtain rfl:i=n:=by omega
   have hlt':¬(i:Int)<i:=by omega
   have HR:Hid (at1 (fun x:Sg=>x.1) l id = -1):=zD0 (yM fun j hj=>HALL.out j (by rw[HN.out];exact hj) hj)
   go_wp2_with fail
   go_ret
   exact⟨by rw[HR.out];rfl,rfl⟩
theorem rrouteat_any (v:Value) (l:List Rt) (id:Int) (w:World) (h:qX w w.heap.size v l):
  Calls Tryz.prog 67 #[v,.int .i64 id] w fun e w'=>e = .returned (.int .i64 (at1 (fun x=>x.id) l id))∧w'=w:=by
 obtain⟨A,c,n,rfl,hml,HN,HA⟩:=kN h
 go_enter Tryz.func67,Tryz.ntmps67
 go_wp2_with fail
 go_loopw [5] (fun s5 wr=>∃i:Nat,i≤n∧s5 = .int .i64 i∧(∀j (hj:j<i) (hl:j<l.length),(fun x:Rt=>x.id) l[j]≠id)∧wr=w) (fun s5 _=>n-(intOf s5).toNat)
 case atStart=>exact⟨0,by omega,by go_num,fun j hj=>absurd hj (by omega),rfl⟩
 case round=>
  obtain⟨i,hi,rfl,hall,rfl⟩:=hrel
  have HALL:=zD0 hall
  clear hall
  by_cases hlt:i<n
  ·have hlt':(i:Int)<n:=by omega
   have hir:i<l.length:=by rw[←HN.out];exact hlt
   obtain⟨b,off,rfl,hb,hc0,-⟩:=HA.out.at hir
   obtain⟨z,hz⟩:=zD1 ((fun x:Rt=>x.id) l[i])
   have hcell:wr.cell? ⟨b,off+i*7,none⟩=some (.int .i64 z):=by rw[hz];simpa using hc0
   have HZ:=zD0 hz
   clear hc0 hz
   by_cases he:z=id
   ·have HR:Hid (at1 (fun x:Rt=>x.id) l id=(i:Int)):=zD0 (vT hir (HZ.out.symm.trans he) fun j hj=>HALL.out j hj (by omega))
    go_wp2_with fail
    go_ret
    exact⟨by rw[HR.out];rfl,rfl⟩
   ·have HS:Hid (∀j (hj:j<i+1) (hl:j<l.length),(fun x:Rt=>x.id) l[j]≠id):=zD0 (fun j hj hl=>by
     rcases Nat.lt_or_ge j i with h|h
     ·exact HALL.out j h hl
     ·obtain rfl:j=i:=by omega
      exact fun h2=>he (HZ.out.trans h2))
    go_wp2_with fail
    go_roundw
    case measure=>simp[intOf];omega
    case rel=>exact⟨i+1,by omega,by go_num,HS.out,trivial⟩
  ·obtain rfl:i=n:=by omega
   have hlt':¬(i:Int)<i:=by omega
   have HR:Hid (at1 (fun x:Rt=>x.id) l id = -1):=zD0 (yM fun j hj=>HALL.out j (by rw[HN.out];exact hj) hj)
   go_wp2_with fail
   go_ret
   exact⟨by rw[HR.out];rfl,rfl⟩
theorem zE {w:World} {b:Nat} {v0 v1 v2 v3 v4 v5:Value} {t:TypeId} {fr:Nat×Nat} (h:w.heap[b]? = some (.cells #[v0,v1,v2,v3,v4,v5] t fr)):w.cell? ⟨b,0,none⟩=some v0∧w.cell? ⟨b,1,none⟩=some v1∧w.cell? ⟨b,2,none⟩=some v2∧w.cell? ⟨b,3,none⟩=some v3∧w.cell? ⟨b,4,none⟩=some v4∧w.cell? ⟨b,5,none⟩=some v5:=
 ⟨cell_of_row _ _ _ _ _ _ h,cell_of_row _ _ _ _ _ _ h,cell_of_row _ _ _ _ _ _ h,cell_of_row _ _ _ _ _ _ h,cell_of_row _ _ _ _ _ _ h,cell_of_row _ _ _ _ _ _ h⟩
theorem zL {w:World} {b:Nat} {v0 v1 v2 v3 v4 v5 v6:Value} {t:TypeId} {fr:Nat×Nat} (h:w.heap[b]? = some (.cells #[v0,v1,v2,v3,v4,v5,v6] t fr)):w.cell? ⟨b,0,none⟩=some v0∧w.cell? ⟨b,1,none⟩=some v1∧w.cell? ⟨b,2,none⟩=some v2∧w.cell? ⟨b,3,none⟩=some v3∧w.cell? ⟨b,4,none⟩=some v4∧w.cell? ⟨b,5,none⟩=some v5∧w.cell? ⟨b,6,none⟩=some v6:=
 ⟨cell_of_row _ _ _ _ _ _ h,cell_of_row _ _ _ _ _ _ h,cell_of_row _ _ _ _ _ _ h,cell_of_row _ _ _ _ _ _ h,cell_of_row _ _ _ _ _ _ h,cell_of_row _ _ _ _ _ _ h,cell_of_row _ _ _ _ _ _ h⟩
def qJ (l:List Sg) (sec en:Int):Int:=match l.find? (fun s=>decide (s.2.1=sec∧s.2.2=en)) with
 | some s=>s.1
 | none=>0
theorem zAb {l:List Sg} {sec en:Int} (h:∀j (h:j<l.length),¬(l[j].2.1=sec∧l[j].2.2=en)):qJ l sec en=0:=by
 have:l.find? (fun s=>decide (s.2.1=sec∧s.2.2=en))=none:=by
  rw[List.find?_eq_none]
  intro x hx
  obtain⟨j,hj,rfl⟩:=List.getElem_of_mem hx
  simpa using h j hj
 rw[qJ,this]
theorem zA7 {l:List Sg} {sec en:Int} {i:Nat} (hi:i<l.length) (he:l[i].2.1=sec∧l[i].2.2=en) (h:∀j (h:j<i),¬((l[j]'(by omega)).2.1=sec∧(l[j]'(by omega)).2.2=en)):qJ l sec en=l[i].1:=by
 have:l.find? (fun s=>decide (s.2.1=sec∧s.2.2=en))=some l[i]:=by
  rw[List.find?_eq_some_iff_getElem]
  exact⟨decide_eq_true he,i,hi,rfl,fun j hj=>by simp only[Bool.not_eq_true',decide_eq_false_iff_not];exact h j hj⟩
 rw[qJ,this]
set_option maxHeartbeats 4000000 in
theorem rat8_any (v:Value) (p:Pl) (sec en:Int) (w:World) (h:qF w w.heap.size v p):
  Calls Tryz.prog 68 #[v,.int .i64 sec,.int .i64 en] w fun e w'=>e = .returned (.int .i64 (qJ p.sigs sec en))∧Below w.heap.size w w':=by
 obtain⟨y2,y3,y4,y5,rfl,hin⟩:=h
 have HG:=zD0 hin.sigs
 obtain⟨A,c,rfl,hcl,hcm⟩:=hin.sigs.slice
 have hml:p.sigs.length≤9223372036854775807:=by unfold maxLen at hcm;omega
 generalize hl:p.sigs=l at *
 obtain⟨n,hn⟩:=zD1 (l.length)
 have HN:=zD0 hn
 have HA:=zD0 (show xI w w.heap.size (.slice A n c) l by rw[hn];exact HG.out)
 rw[←hn] at hml⊢
 have hq0:=zB w (.cells #[.int .i64 p.ver,.int .i64 p.par,y2,y3,.slice A n c,y5] 27)
 have hqb:=zD w (.cells #[.int .i64 p.ver,.int .i64 p.par,y2,y3,.slice A n c,y5] 27)
 clear hn HG hcl hcm hin hl
 go_enter Tryz.func68,Tryz.ntmps68
 go_upto_region 1 with fail
 generalize w.alloc (.cells #[.int .i64 p.ver,.int .i64 p.par,y2,y3,.slice A n c,y5] 27)=q at hq0 hqb⊢
 have QB:=zD0 hqb
 have HQ:=zD0 ((HA.out.below zP hqb).more zP hqb.size)
 obtain⟨k0,k1,k2,k3,k4,k5⟩:=zE hq0
 clear hq0 hqb k0 k1 k2 k3 k5
 go_wp2_with fail
 go_loopw [7] (fun s7 wr=>∃i:Nat,i≤n∧s7 = .int .i64 i∧(∀j (hj:j<i) (hl:j<l.length),¬(l[j].2.1=sec∧l[j].2.2=en))∧wr=q) (fun s7 _=>n-(intOf s7).toNat)
 case atStart=>exact⟨0,by omega,by go_num,fun j hj=>absurd hj (by omega),rfl⟩
 case round=>
  obtain⟨i,hi,rfl,hall,rfl⟩:=hrel
  have HALL:=zD0 hall
  clear hall
  by_cases hlt:i<n
  ·have hlt':(i:Int)<n:=by omega
   have hir:i<l.length:=by rw[←HN.out];exact hlt
   obtain⟨b,off,rfl,hb,hc0,hc1,hc2⟩:=HQ.out.at hir
   obtain⟨x0,x1,x2,hx⟩:∃x0 x1 x2,l[i]=(x0,x1,x2):=⟨_,_,_,rfl⟩
   have HX:=zD0 hx
   rw[hx] at hc0 hc1 hc2
   have hg0:wr.cell? ⟨b,off+i*3,none⟩=some (.int .i64 x0):=hc0
   have hg1:wr.cell? ⟨b,off+i*3+1,none⟩=some (.int .i64 x1):=hc1
   have hg2:wr.cell? ⟨b,off+i*3+2,none⟩=some (.int .i64 x2):=hc2
   have NX:Hid (¬(x1=sec∧x2=en)→∀j (hj:j<i+1) (hl:j<l.length),¬(l[j].2.1=sec∧l[j].2.2=en)):=zD0 (fun h0 j hj hl=>by
    rcases Nat.lt_or_ge j i with h|h
    ·exact HALL.out j h hl
    ·obtain rfl:j=i:=by omega
     rw[HX.out];exact h0)
   clear hc0 hc1 hc2 hx hb
   by_cases h1:x1=sec
   ·have d1:(x1==sec)=true:=by simpa using h1
    by_cases h2:x2=en
    ·have d2:(x2==en)=true:=by simpa using h2
     have HR:Hid (qJ l sec en=x0):=zD0 (by rw[zA7 hir (by rw[HX.out];exact⟨h1,h2⟩) (fun j hj=>HALL.out j hj (by omega)),HX.out])
     clear h1 h2 NX
     go_wp2_with fail
     go_ret
     exact⟨by rw[HR.out];rfl,QB.out⟩
    ·have d2:(x2==en)=false:=by simpa using h2
     have NN:=zD0 (NX.out (fun h=>h2 h.2))
     clear h1 h2 NX
     go_wp2_with fail
     go_roundw
     case measure=>simp[intOf];omega
     case rel=>exact⟨i+1,by omega,by go_num,NN.out,trivial⟩
   ·have d1:(x1==sec)=false:=by simpa using h1
    have NN:=zD0 (NX.out (fun h=>h1 h.1))
    clear h1 NX
    go_wp2_with fail
    go_roundw
    case measure=>simp[intOf];omega
    case rel=>exact⟨i+1,by omega,by go_num,NN.out,trivial⟩
  ·obtain rfl:i=n:=by omega
   have hlt':¬(i:Int)<i:=by omega
   have HR:Hid (qJ l sec en=0):=zD0 (zAb fun j hj=>HALL.out j (by rw[HN.out];exact hj) hj)
   go_wp2_with fail
   go_ret
   exact⟨by rw[HR.out];rfl,QB.out⟩
structure FewP (p:Pl):Prop where
 secs:Few p.secs
 pts:p.pts.length≤40
 sigs:p.sigs.length≤40
 routes:p.routes.length≤40
 each:∀j (h:j<p.routes.length),p.routes[j].path.length≤20∧p.routes[j].over.length≤20∧p.routes[j].flanks.length≤20
abbrev yC:Sec→Bool:=fun s=>decide (s.2.1≠0)
structure yT (p:Pl):Prop where
 n:p.pts.length≤6
 many:p.secs.countP yC=p.pts.length
 each:∀i (h:i<p.pts.length),1≤p.pts[i].1∧p.pts[i].1≤99∧(∀j (hj:j+1=i),(p.pts[j]'(by omega)).1<p.pts[i].1)∧∃k,∃hk:k<p.secs.length,atS p.secs p.pts[i].2=(k:Int)∧p.secs[k].2.1=p.pts[i].1
noncomputable def vW (p:Pl):Bool:=@decide (yT p) (Classical.propDecidable _)
theorem ptsMay_true {p:Pl} (h:yT p):vW p=true:=by rw[vW];exact @decide_eq_true _ (Classical.propDecidable _) h
theorem kJ {p:Pl} (h:¬yT p):vW p=false:=by rw[vW];exact @decide_eq_false _ (Classical.propDecidable _) h
theorem ptsMay_iff {p:Pl}:vW p=true↔yT p:=by rw[vW];exact @decide_eq_true_iff _ (Classical.propDecidable _)
theorem count_take {α:Type} (f:α→Bool) {l:List α} {i:Nat} (hi:i<l.length):(l.take (i+1)).countP f=(l.take i).countP f+if f l[i] then 1 else 0:=by
 rw[List.take_add_one,List.getElem?_eq_getElem hi,List.countP_append]
 simp[List.countP_cons]
theorem count_le {α:Type} (f:α→Bool) (l:List α) (i:Nat):(l.take i).countP f≤i:=Nat.le_trans List.countP_le_length (by rw[List.length_take];omega)
set_option maxHeartbeats 8000000 in
theorem rpoints_any (v:Value) (p:Pl) (w:World) (h:qF w w.heap.size v p):
  Calls Tryz.prog 62 #[v] w fun e w'=>e = .returned (.bool (vW p))∧Below w.heap.size w w':=by
 obtain⟨y2,y3,y4,y5,rfl,hin⟩:=h
 have HIN:=zD0 hin
 obtain⟨A2,c2,rfl,hcl2,hcm2⟩:=hin.secs.slice
 obtain⟨A3,c3,rfl,hcl3,hcm3⟩:=hin.pts.slice
 unfold maxLen at hcm2 hcm3
 obtain⟨n2,hn2⟩:=zD1 (p.secs.length)
 obtain⟨n3,hn3⟩:=zD1 (p.pts.length)
 have hm2:n2≤9223372036854775807:=by omega
 have hm3:n3≤9223372036854775807:=by omega
 have HS:Hid (zX w w.heap.size (.slice A2 n2 c2) p.secs):=zD0 (by rw[hn2];exact hin.secs)
 have HA:Hid (zT w w.heap.size (.slice A3 n3 c3) p.pts):=zD0 (by rw[hn3];exact hin.pts)
 have HN2:=zD0 hn2
 have HN3:=zD0 hn3
 rw[←hn2,←hn3]
 have hq0:=zB w (.cells #[.int .i64 p.ver,.int .i64 p.par,.slice A2 n2 c2,.slice A3 n3 c3,y4,y5] 27)
 have hqb:=zD w (.cells #[.int .i64 p.ver,.int .i64 p.par,.slice A2 n2 c2,.slice A3 n3 c3,y4,y5] 27)
 clear hn2 hn3 HIN hcl2 hcm2 hcl3 hcm3 hin
 go_enter Tryz.func62,Tryz.ntmps62
 go_upto_region 1 with fail
 generalize w.alloc (.cells #[.int .i64 p.ver,.int .i64 p.par,.slice A2 n2 c2,.slice A3 n3 c3,y4,y5] 27)=q at hq0 hqb⊢
 have QB:=zD0 hqb
 have QX:=zD0 hq0
 have HSQ:=zD0 ((HS.out.below zN hqb).more zN hqb.size)
 obtain⟨k0,k1,k2,k3,k4,k5⟩:=zE hq0
 clear hq0 hqb k0 k1 k4 k5
 go_wp2_with fail
 go_loopw [3,4] (fun s3 s4 wr=>∃i m:Nat,i≤n2∧s4 = .int .i64 i∧s3 = .int .i64 m∧m≤i∧m=(p.secs.take i).countP yC∧wr=q) (fun _ s4 _=>n2-(intOf s4).toNat)
 case atStart=>exact⟨0,0,by omega,by go_num,by go_num,by omega,by simp,rfl⟩
 case round=>
  obtain⟨i,m,hi,rfl,rfl,hmi,hm,rfl⟩:=hrel
  have HM:=zD0 hm
  clear hm
  by_cases hlt:i<n2
  ·have hlt':(i:Int)<n2:=by omega
   have hir:i<p.secs.length:=by rw[←HN2.out];exact hlt
   obtain⟨b,off,rfl,hb,hc0,hc1,-⟩:=HSQ.out.at hir
   obtain⟨z,hz⟩:=zD1 (p.secs[i].2.1)
   have hcell:wr.cell? ⟨b,off+i*3+1,none⟩=some (.int .i64 z):=by rw[hz];exact hc1
   have HZ:=zD0 hz
   clear hc0 hc1 hz hb
   by_cases he:z=0
   ·have hne:(z != 0)=false:=by simpa using he
    have HS1:Hid (m=(p.secs.take (i+1)).countP yC):=zD0 (by rw[count_take yC hir,if_neg (by simp[yC,←HZ.out,he]),←HM.out];rfl)
    clear he
    go_wp2_with fail
    go_roundw
    case measure=>simp[intOf];omega
    case rel=>exact⟨i+1,m,by omega,by go_num,rfl,by omega,HS1.out,trivial⟩
   ·have hne:(z != 0)=true:=by simpa using he
    have HS1:Hid (m+1=(p.secs.take (i+1)).countP yC):=zD0 (by rw[count_take yC hir,if_pos (by simp[yC,←HZ.out,he]),←HM.out])
    clear he
    go_wp2_with fail
    go_roundw
    case measure=>simp[intOf];omega
    case rel=>exact⟨i+1,m+1,by omega,by go_num,by go_num,by omega,HS1.out,trivial⟩
  ·obtain rfl:i=n2:=by omega
   have hlt':¬(i:Int)<i:=by omega
   have MANY:Hid (m=p.secs.countP yC):=zD0 (by rw[HM.out,HN2.out,List.take_length])
   have MLE:Hid (m≤i):=zD0 hmi
   clear HM
   go_wp2_with fail
   go_loopw [5] (fun s5 wr=>∃a:Nat,a≤n3∧s5 = .int .i64 a∧(∀a' (ha:a'<a) (hl:a'<p.pts.length),1≤p.pts[a'].1∧p.pts[a'].1≤99∧(∀j (hj:j+1=a'),(p.pts[j]'(by omega)).1<p.pts[a'].1)∧∃k,∃hk:k<p.secs.length,atS p.secs p.pts[a'].2=(k:Int)∧p.secs[k].2.1=p.pts[a'].1)∧wr.heap[w.heap.size]? = some (.cells #[.int .i64 p.ver,.int .i64 p.par,.slice A2 i c2,.slice A3 n3 c3,y4,y5] 27 (0,0))∧Below w.heap.size w wr) (fun s5 _=>n3-(intOf s5).toNat)
   case atStart=>exact⟨0,by omega,by go_num,fun a' ha=>absurd ha (by omega),QX.out,QB.out⟩
   case round=>
    obtain⟨a,ha,rfl,hall,hx,hbw⟩:=hrel
    have HALL:=zD0 hall
    have XW:=zD0 hx
    have BW:=zD0 hbw
    clear hall hx hbw k2 k3 HSQ QB QX
    obtain⟨k0,k1,k2,k3,k4,k5⟩:=zE XW.out
    by_cases hlt:a<n3
    ·have hlt2:(a:Int)<n3:=by omega
     have har:a<p.pts.length:=by rw[←HN3.out];exact hlt
     obtain⟨b,off,rfl,hb,hc0,hc1⟩:=((HA.out.below zM BW.out).more zM BW.out.size).at har
     obtain⟨x0,x1,hx⟩:∃x0 x1,p.pts[a]=(x0,x1):=⟨_,_,rfl⟩
     have HX:=zD0 hx
     rw[hx] at hc0 hc1
     have hg0:wr.cell? ⟨b,off+a*2,none⟩=some (.int .i64 x0):=hc0
     have hg1:wr.cell? ⟨b,off+a*2+1,none⟩=some (.int .i64 x1):=hc1
     have hz0:=zB wr (.cells #[.int .i64 x0,.int .i64 x1] 67)
     have hzb:=zD wr (.cells #[.int .i64 x0,.int .i64 x1] 67)
     obtain⟨q6,hq6⟩:=zD1 (wr.alloc (.cells #[.int .i64 x0,.int .i64 x1] 67))
     rw[←hq6] at hz0 hzb
     clear hc0 hc1 hx hb
     go_upto_region 11 with fail
     rw[←hq6]
     have B6:=zD0 (BW.out.trans (hzb.mono BW.out.size))
     have X6:=zD0 hz0
     have XW6:=zD0 ((hzb.block _ (zA XW.out)).trans XW.out)
     generalize wr.heap.size=p6 at X6⊢
     clear hz0 hzb hq6 k0 k1 k2 k3 k4 k5 hg0 hg1 BW XW
     obtain⟨k0,k1,k2,k3,k4,k5⟩:=zE XW6.out
     obtain⟨z0,z1⟩:=zI X6.out
     have HS6:=zD0 ((HS.out.below zN B6.out).more zN B6.out.size)
     have HA6:=zD0 ((HA.out.below zM B6.out).more zM B6.out.size)
     have BD:Hid (∀nq,Below w.heap.size w (q6.drewN nq)):=zD0 (fun nq=>⟨B6.out.os,B6.out.tape,B6.out.output,B6.out.size,B6.out.block⟩)
     have XD:Hid (∀nq,(q6.drewN nq).heap[w.heap.size]? = some (.cells #[.int .i64 p.ver,.int .i64 p.par,.slice A2 i c2,.slice (some ⟨b,off,none⟩) n3 c3,y4,y5] 27 (0,0))):=zD0 (fun nq=>XW6.out)
     have ME:Hid (∀h:yT p,1≤x0∧x0≤99∧(∀j (hj:j+1=a),(p.pts[j]'(by omega)).1<x0)∧∃k,∃hk:k<p.secs.length,atS p.secs x1=(k:Int)∧p.secs[k].2.1=x0):=zD0 (fun h=>by have:=h.each a har;rw[HX.out] at this;exact this)
     go_upto_region 12 with(refine(zAf _ p.secs x1 _ HS6.out).mono ?_;rintro e w' ⟨rfl,hw'⟩;rw[hw'];clear hw' w')
     obtain⟨kk,hkk⟩:=zD1 (atS p.secs x1)
     have HKK:=zD0 hkk
     rw[←hkk]
     clear hkk
     by_cases h1:x0<1
     ·have d1:decide (x0<1)=true:=decide_eq_true h1
      have HF:Hid (vW p=false):=zD0 (kJ fun h=>by have:=ME.out h;omega)
      clear h1
      go_quiet (fail)
      have hdb:=BD.out nq
      have hdx:=XD.out nq
      generalize q6.drewN nq=q7 at hdb hdx⊢
      have B7:=zD0 hdb
      have X7:=zD0 hdx
      clear hdb hdx BD XD
      go_wp2_with fail
      go_ret
      exact⟨by rw[HF.out];rfl,B7.out⟩
     have d1:decide (x0<1)=false:=decide_eq_false h1
     by_cases h2:99<x0
     ·have d2:decide (99<x0)=true:=decide_eq_true h2
      have HF:Hid (vW p=false):=zD0 (kJ fun h=>by have:=ME.out h;omega)
      clear h1 h2
      go_quiet (fail)
      have hdb:=BD.out nq
      have hdx:=XD.out nq
      generalize q6.drewN nq=q7 at hdb hdx⊢
      have B7:=zD0 hdb
      have X7:=zD0 hdx
      clear hdb hdx BD XD
      go_wp2_with fail
      go_ret
      exact⟨by rw[HF.out];rfl,B7.out⟩
     have d2:decide (99<x0)=false:=decide_eq_false h2
     have H12:Hid (1≤x0∧x0≤99):=zD0 (by omega)
     clear h1 h2
     have PREV:Hid (∃pv:Int,(0<a→q6.cell? ⟨b,off+(a-1)*2,none⟩=some (.int .i64 pv))∧(∀j (hj:j+1=a),(p.pts[j]'(by omega)).1=pv)):=zD0 (by
      rcases Nat.eq_zero_or_pos a with h0|hp
      ·exact⟨0,fun h=>absurd h (by omega),fun j hj=>by omega⟩
      ·have hr1:a-1<p.pts.length:=by omega
       obtain⟨b',off',e',hb',hd0,hd1⟩:=HA6.out.at hr1
       cases e'
       refine⟨p.pts[a-1].1,fun _=>hd0,fun j hj=>?_⟩
       obtain rfl:j=a-1:=by omega
       rfl)
     obtain⟨pv,hpv,hpv2⟩:=PREV.out
     have PV2:=zD0 hpv2
     have PV:=zD0 hpv
     clear hpv hpv2 PREV
     by_cases h3:0<a∧x0≤pv
     ·have hap:0<a:=h3.1
      have d4:decide (x0≤pv)=true:=decide_eq_true h3.2
      have g3:=PV.out h3.1
      obtain⟨y1,hy1⟩:=zD1 (a-1)
      have g4:(a:Int)-1=(y1:Int):=by omega
      have g5:(y1:Int)<n3:=by omega
      have g6:q6.cell? ⟨b,off+y1*2,none⟩=some (.int .i64 pv):=by rw[hy1];exact g3
      clear hy1
      have HF:Hid (vW p=false):=zD0 (kJ fun h=>by
       have h5:=(ME.out h).2.2.1 (a-1) (by omega)
       rw[PV2.out (a-1) (by omega)] at h5
       omega)
      clear h3
      go_quiet (fail)
      have hdb:=BD.out nq
      have hdx:=XD.out nq
      generalize q6.drewN nq=q7 at hdb hdx⊢
      have B7:=zD0 hdb
      have X7:=zD0 hdx
      clear hdb hdx BD XD
      go_wp2_with fail
      go_ret
      exact⟨by rw[HF.out];rfl,B7.out⟩
     have d34:a=0∨(decide (x0≤pv)=false∧0<a):=by
      by_cases h:0<a
      ·exact .inr ⟨decide_eq_false (fun h2=>h3 ⟨h,h2⟩),h⟩
      ·exact .inl (by omega)
     have HPR:Hid (∀j (hj:j+1=a),(p.pts[j]'(by omega)).1<x0):=zD0 (fun j hj=>by
      rw[PV2.out j hj]
      have:=fun h2=>h3 ⟨(by omega:0<a),h2⟩
      omega)
     have ATC:=zD0 (vE p.secs x1)
     have NX:Hid (∀k (hk:k<p.secs.length),kk=(k:Int)→p.secs[k].2.1=x0→∀a' (ha:a'<a+1) (hl:a'<p.pts.length),1≤p.pts[a'].1∧p.pts[a'].1≤99∧(∀j (hj:j+1=a'),(p.pts[j]'(by omega)).1<p.pts[a'].1)∧∃k,∃hk:k<p.secs.length,atS p.secs p.pts[a'].2=(k:Int)∧p.secs[k].2.1=p.pts[a'].1):=zD0 (fun k hk hkk he a' ha' hl=>by
      rcases Nat.lt_or_ge a' a with h|h
      ·exact HALL.out a' h hl
      ·obtain rfl:a'=a:=by omega
       rw[HX.out]
       exact⟨H12.out.1,H12.out.2,HPR.out,k,hk,HKK.out.symm.trans hkk,he⟩)
     clear h3
     rcases d34 with rfl|⟨d4,hap⟩
     ·by_cases h6:kk<0
      ·have d6:decide (kk<0)=true:=decide_eq_true h6
       have HF:Hid (vW p=false):=zD0 (kJ fun h=>by
        obtain⟨k,_,hk,_⟩:=(ME.out h).2.2.2
        have:=HKK.out
        omega)
       clear h6
       go_quiet (fail)
       have hdb:=BD.out nq
       have hdx:=XD.out nq
       generalize q6.drewN nq=q7 at hdb hdx⊢
       have B7:=zD0 hdb
       have X7:=zD0 hdx
       clear hdb hdx BD XD
       go_wp2_with fail
       go_ret
       exact⟨by rw[HF.out];rfl,B7.out⟩
      ·obtain⟨k,hkr,hk1⟩:∃k,∃hk:k<p.secs.length,kk=(k:Int):=by
        rcases ATC.out with h|⟨k,hk,h,_⟩
        ·have:=HKK.out;omega
        ·exact⟨k,hk,HKK.out.trans h⟩
       subst hk1
       have d6:decide ((k:Int)<0)=false:=decide_eq_false h6
       have hkn:(k:Int)<i:=by have:=HN2.out;omega
       obtain⟨b2,off2,e2,hb2,hs0,hs1,-⟩:=HS6.out.at hkr
       cases e2
       obtain⟨z,hz⟩:=zD1 (p.secs[k].2.1)
       have hg:q6.cell? ⟨b2,off2+k*3+1,none⟩=some (.int .i64 z):=by rw[hz];exact hs1
       have HZ:=zD0 hz
       clear hs0 hs1 hz hb2 h6
       by_cases h7:z=x0
       ·have d7:(z != x0)=false:=by simpa using h7
        have NN:=zD0 (NX.out k hkr rfl (HZ.out.symm.trans h7))
        clear h7 NX
        go_quiet (fail)
        have hdb:=BD.out nq
        have hdx:=XD.out nq
        generalize q6.drewN nq=q7 at hdb hdx⊢
        have B7:=zD0 hdb
        have X7:=zD0 hdx
        clear hdb hdx BD XD
        go_wp2_with fail
        go_roundw
        case measure=>simp[intOf];omega
        case rel=>exact⟨0+1,by omega,by go_num,NN.out,X7.out,B7.out⟩
       ·have d7:(z != x0)=true:=by simpa using h7
        have HF:Hid (vW p=false):=zD0 (kJ fun h=>by
         obtain⟨k',hk',hk2,hk3⟩:=(ME.out h).2.2.2
         obtain rfl:k'=k:=by have:=HKK.out;omega
         exact h7 (HZ.out.trans hk3))
        clear h7
        go_quiet (fail)
        have hdb:=BD.out nq
        have hdx:=XD.out nq
        generalize q6.drewN nq=q7 at hdb hdx⊢
        have B7:=zD0 hdb
        have X7:=zD0 hdx
        clear hdb hdx BD XD
        go_wp2_with fail
        go_ret
        exact⟨by rw[HF.out];rfl,B7.out⟩
     ·have g3:=PV.out hap
      obtain⟨y1,hy1⟩:=zD1 (a-1)
      have g4:(a:Int)-1=(y1:Int):=by omega
      have g5:(y1:Int)<n3:=by omega
      have g6:q6.cell? ⟨b,off+y1*2,none⟩=some (.int .i64 pv):=by rw[hy1];exact g3
      clear hy1
      by_cases h6:kk<0
      ·have d6:decide (kk<0)=true:=decide_eq_true h6
       have HF:Hid (vW p=false):=zD0 (kJ fun h=>by
        obtain⟨k,_,hk,_⟩:=(ME.out h).2.2.2
        have:=HKK.out
        omega)
       clear h6
       go_quiet (fail)
       have hdb:=BD.out nq
       have hdx:=XD.out nq
       generalize q6.drewN nq=q7 at hdb hdx⊢
       have B7:=zD0 hdb
       have X7:=zD0 hdx
       clear hdb hdx BD XD
       go_wp2_with fail
       go_ret
       exact⟨by rw[HF.out];rfl,B7.out⟩
      ·obtain⟨k,hkr,hk1⟩:∃k,∃hk:k<p.secs.length,kk=(k:Int):=by
        rcases ATC.out with h|⟨k,hk,h,_⟩
        ·have:=HKK.out;omega
        ·exact⟨k,hk,HKK.out.trans h⟩
       subst hk1
       have d6:decide ((k:Int)<0)=false:=decide_eq_false h6
       have hkn:(k:Int)<i:=by have:=HN2.out;omega
       obtain⟨b2,off2,e2,hb2,hs0,hs1,-⟩:=HS6.out.at hkr
       cases e2
       obtain⟨z,hz⟩:=zD1 (p.secs[k].2.1)
       have hg:q6.cell? ⟨b2,off2+k*3+1,none⟩=some (.int .i64 z):=by rw[hz];exact hs1
       have HZ:=zD0 hz
       clear hs0 hs1 hz hb2 h6
       by_cases h7:z=x0
       ·have d7:(z != x0)=false:=by simpa using h7
        have NN:=zD0 (NX.out k hkr rfl (HZ.out.symm.trans h7))
        clear h7 NX
        go_quiet (fail)
        have hdb:=BD.out nq
        have hdx:=XD.out nq
        generalize q6.drewN nq=q7 at hdb hdx⊢
        have B7:=zD0 hdb
        have X7:=zD0 hdx
        clear hdb hdx BD XD
        go_wp2_with fail
        go_roundw
        case measure=>simp[intOf];omega
        case rel=>exact⟨a+1,by omega,by go_num,NN.out,X7.out,B7.out⟩
       ·have d7:(z != x0)=true:=by simpa using h7
        have HF:Hid (vW p=false):=zD0 (kJ fun h=>by
         obtain⟨k',hk',hk2,hk3⟩:=(ME.out h).2.2.2
         obtain rfl:k'=k:=by have:=HKK.out;omega
         exact h7 (HZ.out.trans hk3))
        clear h7
        go_quiet (fail)
        have hdb:=BD.out nq
        have hdx:=XD.out nq
        generalize q6.drewN nq=q7 at hdb hdx⊢
        have B7:=zD0 hdb
        have X7:=zD0 hdx
        clear hdb hdx BD XD
        go_wp2_with fail
        go_ret
        exact⟨by rw[HF.out];rfl,B7.out⟩
    ·obtain rfl:a=n3:=by omega
     have hlt2:¬(a:Int)<a:=by omega
     have hmm:m≤9223372036854775807:=by have:=MLE.out;omega
     by_cases h6:a≤6
     ·have d6:decide ((a:Int)≤6)=true:=decide_eq_true (by omega)
      by_cases hma:m=a
      ·have dm:((m:Int)==a)=true:=by rw[hma];simp
       have HR:Hid (vW p=true):=zD0 (ptsMay_true ⟨by rw[←HN3.out];exact h6,by rw[←MANY.out,←HN3.out];exact hma,fun a' ha'=>HALL.out a' (by rw[HN3.out];exact ha') ha'⟩)
       clear h6 hma
       go_wp2_with fail
       go_ret
       exact⟨by rw[HR.out];rfl,BW.out⟩
      ·have dm:((m:Int)==a)=false:=by rw[beq_eq_false_iff_ne];omega
       have HF:Hid (vW p=false):=zD0 (kJ fun h=>hma (by rw[MANY.out,HN3.out];exact h.many))
       clear h6 hma
       go_wp2_with fail
       go_ret
       exact⟨by rw[HF.out];rfl,BW.out⟩
     ·have d6:decide ((a:Int)≤6)=false:=decide_eq_false (by omega)
      have HF:Hid (vW p=false):=zD0 (kJ fun h=>h6 (by rw[HN3.out];exact h.n))
      clear h6
      go_wp2_with fail
      go_ret
      exact⟨by rw[HF.out];rfl,BW.out⟩
structure vO (p:Pl):Prop where
 n:p.sigs.length≤10
 each:∀i (h:i<p.sigs.length),1≤p.sigs[i].1∧p.sigs[i].1≤99∧(∃k,∃hk:k<p.secs.length,atS p.secs p.sigs[i].2.1=(k:Int)∧0≤p.sigs[i].2.2∧p.sigs[i].2.2<p.secs[k].2.2.length)∧∀m (hm:m<i),(p.sigs[m]'(by omega)).1<p.sigs[i].1∧¬((p.sigs[m]'(by omega)).2.1=p.sigs[i].2.1∧(p.sigs[m]'(by omega)).2.2=p.sigs[i].2.2)
noncomputable def vD (p:Pl):Bool:=@decide (vO p) (Classical.propDecidable _)
theorem sigsMay_true {p:Pl} (h:vO p):vD p=true:=by rw[vD];exact @decide_eq_true _ (Classical.propDecidable _) h
theorem kY {p:Pl} (h:¬vO p):vD p=false:=by rw[vD];exact @decide_eq_false _ (Classical.propDecidable _) h
theorem sigsMay_iff {p:Pl}:vD p=true↔vO p:=by rw[vD];exact @decide_eq_true_iff _ (Classical.propDecidable _)
set_option maxHeartbeats 8000000 in
theorem rsignals_any (v:Value) (p:Pl) (w:World) (h:qF w w.heap.size v p):
  Calls Tryz.prog 63 #[v] w fun e w'=>e = .returned (.bool (vD p))∧Below w.heap.size w w':=by
 obtain⟨y2,y3,y4,y5,rfl,hin⟩:=h
 have HIN:=zD0 hin
 obtain⟨A2,c2,rfl,hcl2,hcm2⟩:=hin.secs.slice
 obtain⟨A4,c4,rfl,hcl4,hcm4⟩:=hin.sigs.slice
 unfold maxLen at hcm2 hcm4
 obtain⟨n2,hn2⟩:=zD1 (p.secs.length)
 obtain⟨n4,hn4⟩:=zD1 (p.sigs.length)
 have hm2:n2≤9223372036854775807:=by omega
 have hm4:n4≤9223372036854775807:=by omega
 have HS:Hid (zX w w.heap.size (.slice A2 n2 c2) p.secs):=zD0 (by rw[hn2];exact hin.secs)
 have HA:Hid (xI w w.heap.size (.slice A4 n4 c4) p.sigs):=zD0 (by rw[hn4];exact hin.sigs)
 have HN2:=zD0 hn2
 have HN4:=zD0 hn4
 rw[←hn2,←hn4]
 have hq0:=zB w (.cells #[.int .i64 p.ver,.int .i64 p.par,.slice A2 n2 c2,y3,.slice A4 n4 c4,y5] 27)
 have hqb:=zD w (.cells #[.int .i64 p.ver,.int .i64 p.par,.slice A2 n2 c2,y3,.slice A4 n4 c4,y5] 27)
 clear hn2 hn4 HIN hcl2 hcm2 hcl4 hcm4 hin
 go_enter Tryz.func63,Tryz.ntmps63
 go_upto_region 1 with fail
 generalize w.alloc (.cells #[.int .i64 p.ver,.int .i64 p.par,.slice A2 n2 c2,y3,.slice A4 n4 c4,y5] 27)=q at hq0 hqb⊢
 have QB:=zD0 hqb
 have QX:=zD0 hq0
 clear hq0 hqb
 go_wp2_with fail
 go_loopw [3] (fun s3 wr=>∃a:Nat,a≤n4∧s3 = .int .i64 a∧(∀a' (ha:a'<a) (hl:a'<p.sigs.length),1≤p.sigs[a'].1∧p.sigs[a'].1≤99∧(∃k,∃hk:k<p.secs.length,atS p.secs p.sigs[a'].2.1=(k:Int)∧0≤p.sigs[a'].2.2∧p.sigs[a'].2.2<p.secs[k].2.2.length)∧∀m (hm:m<a'),(p.sigs[m]'(by omega)).1<p.sigs[a'].1∧¬((p.sigs[m]'(by omega)).2.1=p.sigs[a'].2.1∧(p.sigs[m]'(by omega)).2.2=p.sigs[a'].2.2))∧wr.heap[w.heap.size]? = some (.cells #[.int .i64 p.ver,.int .i64 p.par,.slice A2 n2 c2,y3,.slice A4 n4 c4,y5] 27 (0,0))∧Below w.heap.size w wr) (fun s3 _=>n4-(intOf s3).toNat)
 case atStart=>exact⟨0,by omega,by go_num,fun a' ha=>absurd ha (by omega),QX.out,QB.out⟩
 case round=>
  obtain⟨a,ha,rfl,hall,hx,hbw⟩:=hrel
  have HALL:=zD0 hall
  have XW:=zD0 hx
  have BW:=zD0 hbw
  clear hall hx hbw QB QX
  obtain⟨k0,k1,k2,k3,k4,k5⟩:=zE XW.out
  by_cases hlt:a<n4
  ·have hlt2:(a:Int)<n4:=by omega
   have har:a<p.sigs.length:=by rw[←HN4.out];exact hlt
   obtain⟨b,off,rfl,hb,hc0,hc1,hc2⟩:=((HA.out.below zP BW.out).more zP BW.out.size).at har
   obtain⟨x0,x1,x2,hx⟩:∃x0 x1 x2,p.sigs[a]=(x0,x1,x2):=⟨_,_,_,rfl⟩
   have HX:=zD0 hx
   rw[hx] at hc0 hc1 hc2
   have hg0:wr.cell? ⟨b,off+a*3,none⟩=some (.int .i64 x0):=hc0
   have hg1:wr.cell? ⟨b,off+a*3+1,none⟩=some (.int .i64 x1):=hc1
   have hg2:wr.cell? ⟨b,off+a*3+2,none⟩=some (.int .i64 x2):=hc2
   have hz0:=zB wr (.cells #[.int .i64 x0,.int .i64 x1,.int .i64 x2] 115)
   have hzb:=zD wr (.cells #[.int .i64 x0,.int .i64 x1,.int .i64 x2] 115)
   obtain⟨q6,hq6⟩:=zD1 (wr.alloc (.cells #[.int .i64 x0,.int .i64 x1,.int .i64 x2] 115))
   rw[←hq6] at hz0 hzb
   clear hc0 hc1 hc2 hx hb
   go_upto_region 5 with fail
   rw[←hq6]
   have B6:=zD0 (BW.out.trans (hzb.mono BW.out.size))
   have X6:=zD0 hz0
   have XW6:=zD0 ((hzb.block _ (zA XW.out)).trans XW.out)
   generalize wr.heap.size=p4 at X6⊢
   clear hz0 hzb hq6 k0 k1 k2 k3 k4 k5 hg0 hg1 hg2 BW XW
   obtain⟨k0,k1,k2,k3,k4,k5⟩:=zE XW6.out
   obtain⟨z0,z1,z2⟩:=zC X6.out
   have HS6:=zD0 ((HS.out.below zN B6.out).more zN B6.out.size)
   have BD:Hid (∀nq,Below w.heap.size w (q6.drewN nq)):=zD0 (fun nq=>⟨B6.out.os,B6.out.tape,B6.out.output,B6.out.size,B6.out.block⟩)
   have XD:Hid (∀nq,(q6.drewN nq).heap[w.heap.size]? = some (.cells #[.int .i64 p.ver,.int .i64 p.par,.slice A2 n2 c2,y3,.slice (some ⟨b,off,none⟩) n4 c4,y5] 27 (0,0))):=zD0 (fun nq=>XW6.out)
   have YD:Hid (∀nq,(q6.drewN nq).heap[p4]? = some (.cells #[.int .i64 x0,.int .i64 x1,.int .i64 x2] 115 (0,0))):=zD0 (fun nq=>X6.out)
   have ME:Hid (∀h:vO p,1≤x0∧x0≤99∧(∃k,∃hk:k<p.secs.length,atS p.secs x1=(k:Int)∧0≤x2∧x2<p.secs[k].2.2.length)∧∀m (hm:m<a),(p.sigs[m]'(by omega)).1<x0∧¬((p.sigs[m]'(by omega)).2.1=x1∧(p.sigs[m]'(by omega)).2.2=x2)):=zD0 (fun h=>by have:=h.each a har;rw[HX.out] at this;exact this)
   go_upto_region 6 with(refine(zAf _ p.secs x1 _ HS6.out).mono ?_;rintro e w' ⟨rfl,hw'⟩;rw[hw'];clear hw' w')
   obtain⟨kk,hkk⟩:=zD1 (atS p.secs x1)
   have HKK:=zD0 hkk
   rw[←hkk]
   clear hkk
   by_cases h1:x0<1
   ·have d1:decide (x0<1)=true:=decide_eq_true h1
    have HF:Hid (vD p=false):=zD0 (kY fun h=>by have:=ME.out h;omega)
    clear h1
    go_quiet (fail)
    have hdb:=BD.out nq
    have hdx:=XD.out nq
    have hdy:=YD.out nq
    generalize q6.drewN nq=q7 at hdb hdx hdy⊢
    have B7:=zD0 hdb
    have X7:=zD0 hdx
    have Y7:=zD0 hdy
    clear hdb hdx hdy BD XD YD
    go_wp2_with fail
    go_ret
    exact⟨by rw[HF.out];rfl,B7.out⟩
   have d1:decide (x0<1)=false:=decide_eq_false h1
   by_cases h2:99<x0
   ·have d2:decide (99<x0)=true:=decide_eq_true h2
    have HF:Hid (vD p=false):=zD0 (kY fun h=>by have:=ME.out h;omega)
    clear h1 h2
    go_quiet (fail)
    have hdb:=BD.out nq
    have hdx:=XD.out nq
    have hdy:=YD.out nq
    generalize q6.drewN nq=q7 at hdb hdx hdy⊢
    have B7:=zD0 hdb
    have X7:=zD0 hdx
    have Y7:=zD0 hdy
    clear hdb hdx hdy BD XD YD
    go_wp2_with fail
    go_ret
    exact⟨by rw[HF.out];rfl,B7.out⟩
   have d2:decide (99<x0)=false:=decide_eq_false h2
   have H12:Hid (1≤x0∧x0≤99):=zD0 (by omega)
   clear h1 h2
   have ATC:=zD0 (vE p.secs x1)
   by_cases h6:kk<0
   ·have d6:decide (kk<0)=true:=decide_eq_true h6
    have HF:Hid (vD p=false):=zD0 (kY fun h=>by
     obtain⟨k,_,hk,_⟩:=(ME.out h).2.2.1
     have:=HKK.out
     omega)
    clear h6
    go_quiet (fail)
    have hdb:=BD.out nq
    have hdx:=XD.out nq
    have hdy:=YD.out nq
    generalize q6.drewN nq=q7 at hdb hdx hdy⊢
    have B7:=zD0 hdb
    have X7:=zD0 hdx
    have Y7:=zD0 hdy
    clear hdb hdx hdy BD XD YD
    go_wp2_with fail
    go_ret
    exact⟨by rw[HF.out];rfl,B7.out⟩
   obtain⟨k,hkr,hk1⟩:∃k,∃hk:k<p.secs.length,kk=(k:Int):=by
    rcases ATC.out with h|⟨k,hk,h,_⟩
    ·have:=HKK.out;omega
    ·exact⟨k,hk,HKK.out.trans h⟩
   subst hk1
   have d6:decide ((k:Int)<0)=false:=decide_eq_false h6
   clear h6
   by_cases h7:x2<0
   ·have d7:decide (x2<0)=true:=decide_eq_true h7
    have HF:Hid (vD p=false):=zD0 (kY fun h=>by obtain⟨k',_,_,h3,_⟩:=(ME.out h).2.2.1;omega)
    clear h7
    go_quiet (fail)
    have hdb:=BD.out nq
    have hdx:=XD.out nq
    have hdy:=YD.out nq
    generalize q6.drewN nq=q7 at hdb hdx hdy⊢
    have B7:=zD0 hdb
    have X7:=zD0 hdx
    have Y7:=zD0 hdy
    clear hdb hdx hdy BD XD YD
    go_wp2_with fail
    go_ret
    exact⟨by rw[HF.out];rfl,B7.out⟩
   have d7:decide (x2<0)=false:=decide_eq_false h7
   have hkn:(k:Int)<n2:=by have:=HN2.out;omega
   obtain⟨b2,off2,e2,hb2,hs0,hs1,u2,hs2,hu2⟩:=HS6.out.at hkr
   cases e2
   obtain⟨Au,cu,rfl,-,-⟩:=hu2.slice
   obtain⟨ne,hne⟩:=zD1 (p.secs[k].2.2.length)
   have hg:q6.cell? ⟨b2,off2+k*3+2,none⟩=some (.slice Au ne cu):=by rw[hne];exact hs2
   have HNE:=zD0 hne
   clear hs0 hs1 hs2 hu2 hne hb2
   by_cases h8:(ne:Int)≤x2
   ·have d8:decide ((ne:Int)≤x2)=true:=decide_eq_true h8
    have HF:Hid (vD p=false):=zD0 (kY fun h=>by
     obtain⟨k',hk',hk2,_,hk3⟩:=(ME.out h).2.2.1
     obtain rfl:k'=k:=by have:=HKK.out;omega
     rw[←HNE.out] at hk3
     omega)
    clear h7 h8
    go_quiet (fail)
    have hdb:=BD.out nq
    have hdx:=XD.out nq
    have hdy:=YD.out nq
    generalize q6.drewN nq=q7 at hdb hdx hdy⊢
    have B7:=zD0 hdb
    have X7:=zD0 hdx
    have Y7:=zD0 hdy
    clear hdb hdx hdy BD XD YD
    go_wp2_with fail
    go_ret
    exact⟨by rw[HF.out];rfl,B7.out⟩
   have d8:decide ((ne:Int)≤x2)=false:=decide_eq_false h8
   have KOK:Hid (∃k,∃hk:k<p.secs.length,atS p.secs x1=(k:Int)∧0≤x2∧x2<p.secs[k].2.2.length):=zD0 ⟨k,hkr,HKK.out.symm,by omega,by rw[←HNE.out];omega⟩
   clear h7 h8
   go_quiet (fail)
   have hdb:=BD.out nq
   have hdx:=XD.out nq
   have hdy:=YD.out nq
   generalize q6.drewN nq=q7 at hdb hdx hdy⊢
   have B7:=zD0 hdb
   have X7:=zD0 hdx
   have Y7:=zD0 hdy
   clear hdb hdx hdy BD XD YD
   clear k0 k1 k2 k3 k4 k5 z0 z1 z2 hg B6 X6 XW6 HS6 d1 d2 d6 d7 d8
   go_wp2_with fail
   go_loopw [6] (fun s6 wr=>∃m:Nat,m≤a∧s6 = .int .i64 m∧(∀j (hj:j<m) (hl:j<p.sigs.length),p.sigs[j].1<x0∧¬(p.sigs[j].2.1=x1∧p.sigs[j].2.2=x2))∧wr.heap[w.heap.size]? = some (.cells #[.int .i64 p.ver,.int .i64 p.par,.slice (some ⟨b2,off2,none⟩) n2 c2,y3,.slice (some ⟨b,off,none⟩) n4 c4,y5] 27 (0,0))∧wr.heap[p4]? = some (.cells #[.int .i64 x0,.int .i64 x1,.int .i64 x2] 115 (0,0))∧Below w.heap.size w wr) (fun s6 _=>a-(intOf s6).toNat)
   case atStart=>exact⟨0,by omega,by go_num,fun j hj=>absurd hj (by omega),X7.out,Y7.out,B7.out⟩
   case round=>
    obtain⟨m,hm,rfl,hms,hx,hy,hbm⟩:=hrel
    have HMS:=zD0 hms
    have XM:=zD0 hx
    have YM:=zD0 hy
    have BM:=zD0 hbm
    clear hms hx hy hbm X7 Y7 B7
    obtain⟨k0,k1,k2,k3,k4,k5⟩:=zE XM.out
    obtain⟨z0,z1,z2⟩:=zC YM.out
    by_cases hma:m<a
    ·have hma':(m:Int)<a:=by omega
     have hmn:(m:Int)<n4:=by omega
     have hmr:m<p.sigs.length:=by omega
     obtain⟨b',off',e',hb',hd0,hd1,hd2⟩:=((HA.out.below zP BM.out).more zP BM.out.size).at hmr
     cases e'
     obtain⟨t0,t1,t2,ht⟩:∃t0 t1 t2,p.sigs[m]=(t0,t1,t2):=⟨_,_,_,rfl⟩
     have HT:=zD0 ht
     rw[ht] at hd0 hd1 hd2
     have hg0:wr.cell? ⟨b,off+m*3,none⟩=some (.int .i64 t0):=hd0
     have hg1:wr.cell? ⟨b,off+m*3+1,none⟩=some (.int .i64 t1):=hd1
     have hg2:wr.cell? ⟨b,off+m*3+2,none⟩=some (.int .i64 t2):=hd2
     have hz0:=zB wr (.cells #[.int .i64 t0,.int .i64 t1,.int .i64 t2] 115)
     have hzb:=zD wr (.cells #[.int .i64 t0,.int .i64 t1,.int .i64 t2] 115)
     obtain⟨q8,hq8⟩:=zD1 (wr.alloc (.cells #[.int .i64 t0,.int .i64 t1,.int .i64 t2] 115))
     rw[←hq8] at hz0 hzb
     clear hd0 hd1 hd2 ht hb'
     go_upto_region 12 with fail
     rw[←hq8]
     have B8:=zD0 (BM.out.trans (hzb.mono BM.out.size))
     have T8:=zD0 hz0
     have X8:=zD0 ((hzb.block _ (zA XM.out)).trans XM.out)
     have Y8:=zD0 ((hzb.block _ (zA YM.out)).trans YM.out)
     generalize wr.heap.size=p7 at T8⊢
     clear hz0 hzb hq8 k0 k1 k2 k3 k4 k5 z0 z1 z2 hg0 hg1 hg2 BM XM YM
     obtain⟨z0,z1,z2⟩:=zC Y8.out
     obtain⟨r0,r1,r2⟩:=zC T8.out
     have NX:Hid (t0<x0→¬(t1=x1∧t2=x2)→∀j (hj:j<m+1) (hl:j<p.sigs.length),p.sigs[j].1<x0∧¬(p.sigs[j].2.1=x1∧p.sigs[j].2.2=x2)):=zD0 (fun h1 h2 j hj hl=>by
      rcases Nat.lt_or_ge j m with h|h
      ·exact HMS.out j h hl
      ·obtain rfl:j=m:=by omega
       rw[HT.out];exact⟨h1,h2⟩)
     have HNF:Hid (¬(t0<x0∧¬(t1=x1∧t2=x2))→vD p=false):=zD0 (fun hn=>kY fun h=>hn (by
      have:=(ME.out h).2.2.2 m hma
      rw[HT.out] at this
      exact this))
     by_cases h1:x0≤t0
     ·have d1:decide (x0≤t0)=true:=decide_eq_true h1
      have HF:=zD0 (HNF.out (fun h=>by omega))
      clear h1
      go_wp2_with fail
      go_ret
      exact⟨by rw[HF.out];rfl,B8.out⟩
     have d1:decide (x0≤t0)=false:=decide_eq_false h1
     by_cases h2:t1=x1
     ·have d2:(t1==x1)=true:=by simpa using h2
      by_cases h3:t2=x2
      ·have d3:(t2==x2)=true:=by simpa using h3
       have HF:=zD0 (HNF.out (fun h=>h.2 ⟨h2,h3⟩))
       clear h1 h2 h3
       go_wp2_with fail
       go_ret
       exact⟨by rw[HF.out];rfl,B8.out⟩
      ·have d3:(t2==x2)=false:=by simpa using h3
       have NN:=zD0 (NX.out (by omega) (fun h=>h3 h.2))
       clear h1 h2 h3
       go_wp2_with fail
       go_roundw
       case measure=>simp[intOf];omega
       case rel=>exact⟨m+1,by omega,by go_num,NN.out,X8.out,Y8.out,B8.out⟩
     ·have d2:(t1==x1)=false:=by simpa using h2
      have NN:=zD0 (NX.out (by omega) (fun h=>h2 h.1))
      clear h1 h2
      go_wp2_with fail
      go_roundw
      case measure=>simp[intOf];omega
      case rel=>exact⟨m+1,by omega,by go_num,NN.out,X8.out,Y8.out,B8.out⟩
    ·obtain rfl:m=a:=by omega
     have hma':¬(m:Int)<m:=by omega
     have NN:Hid (∀a' (ha:a'<m+1) (hl:a'<p.sigs.length),1≤p.sigs[a'].1∧p.sigs[a'].1≤99∧(∃k,∃hk:k<p.secs.length,atS p.secs p.sigs[a'].2.1=(k:Int)∧0≤p.sigs[a'].2.2∧p.sigs[a'].2.2<p.secs[k].2.2.length)∧∀m (hm:m<a'),(p.sigs[m]'(by omega)).1<p.sigs[a'].1∧¬((p.sigs[m]'(by omega)).2.1=p.sigs[a'].2.1∧(p.sigs[m]'(by omega)).2.2=p.sigs[a'].2.2)):=zD0 (fun a' ha' hl=>by
      rcases Nat.lt_or_ge a' m with h|h
      ·exact HALL.out a' h hl
      ·obtain rfl:a'=m:=by omega
       rw[HX.out]
       exact⟨H12.out.1,H12.out.2,KOK.out,fun j hj=>HMS.out j hj (by omega)⟩)
     go_wp2_with fail
     go_roundw
     case measure=>simp[intOf];omega
     case rel=>exact⟨m+1,by omega,by go_num,NN.out,XM.out,BM.out⟩
  ·obtain rfl:a=n4:=by omega
   have hlt2:¬(a:Int)<a:=by omega
   by_cases h6:a≤10
   ·have d6:decide ((a:Int)≤10)=true:=decide_eq_true (by omega)
    have HR:Hid (vD p=true):=zD0 (sigsMay_true ⟨by rw[←HN4.out];exact h6,fun a' ha'=>HALL.out a' (by rw[HN4.out];exact ha') ha'⟩)
    clear h6
    go_wp2_with fail
    go_ret
    exact⟨by rw[HR.out];rfl,BW.out⟩
   ·have d6:decide ((a:Int)≤10)=false:=decide_eq_false (by omega)
    have HF:Hid (vD p=false):=zD0 (kY fun h=>h6 (by rw[HN4.out];exact h.n))
    clear h6
    go_wp2_with fail
    go_ret
    exact⟨by rw[HF.out];rfl,BW.out⟩
end Go.Proofs.YtemmgmjhomgbbaaGreat
