/-
 The program's package track: may, leads, cmp.Compare, the search by halves, at.
 Conditions: none.
-/
import Derived.Test.YtemmgmjhomgbbaaGreatUGTrkEq
import Derived.BigQuiet
set_option linter.unusedVariables false
set_option linter.unusedSimpArgs false
set_option maxRecDepth 100000
namespace Go.Proofs.YtemmgmjhomgbbaaGreat
open Go.RowKit
def kZ (e:Int):Bool:=decide (0≤e∧e<3)
theorem kE (e:Int) (w:World):Calls Tryz.prog 138 #[.int .i64 e] w fun r w'=>r = .returned (.bool (kZ e))∧w=w':=by
 by_cases h0:0≤e
 ·by_cases h3:e<3
  ·have d0:decide (0≤e)=true:=decide_eq_true h0
   have d3:decide (e<3)=true:=decide_eq_true h3
   have HR:Hid (kZ e=true):=zD0 (decide_eq_true ⟨h0,h3⟩)
   go_enter Tryz.func138,Tryz.ntmps138
   go_wp2_with fail
   go_ret
   exact⟨by rw[HR.out];rfl,rfl⟩
  ·have d0:decide (0≤e)=true:=decide_eq_true h0
   have d3:decide (e<3)=false:=decide_eq_false h3
   have HR:Hid (kZ e=false):=zD0 (decide_eq_false fun h=>h3 h.2)
   go_enter Tryz.func138,Tryz.ntmps138
   go_wp2_with fail
   go_ret
   exact⟨by rw[HR.out];rfl,rfl⟩
 ·have d0:decide (0≤e)=false:=decide_eq_false h0
  have HR:Hid (kZ e=false):=zD0 (decide_eq_false fun h=>h0 h.1)
  go_enter Tryz.func138,Tryz.ntmps138
  go_wp2_with fail
  go_ret
  exact⟨by rw[HR.out];rfl,rfl⟩
def zBt (s:Sec) (e:Int):Bool:=decide (0≤e∧e<s.2.2.length)
def zAq (s:Sec) (e:Int):Jn:=if zBt s e then s.2.2.getD e.toNat (0,0) else (0,0)
set_option maxHeartbeats 4000000 in
theorem leads_any (v:Value) (s:Sec) (k:Int) (w:World) (h:SecV w w.heap.size v s):
  Calls Tryz.prog 136 #[v,.int .i64 k] w fun r w'=>r = .returned (.tuple #[.agg #[.int .i64 (zAq s k).1,.int .i64 (zAq s k).2],.bool (zBt s k)])∧Below w.heap.size w w':=by
 obtain⟨u,rfl,hu⟩:=h
 have HU0:=zD0 hu
 obtain⟨A,c,rfl,hul,hum⟩:=hu.slice
 obtain⟨id,pt,es⟩:=s
 dsimp only at HU0 hul hum⊢
 obtain⟨n,hn⟩:=zD1 (es.length)
 have HN:=zD0 hn
 have HU:Hid (zT w w.heap.size (.slice A n c) es):=zD0 (by rw[hn];exact HU0.out)
 have hnm:n≤9223372036854775807:=by unfold maxLen at hum;omega
 have hq:=zV w (.cells #[.int .i64 id,.int .i64 pt,.slice A n c] 60) (.cells #[.int .i64 0,.int .i64 0] 98)
 rw[←hn]
 clear hu HU0 hul hum hn
 go_enter Tryz.func136,Tryz.ntmps136
 go_upto_region 1 with fail
 generalize (w.alloc (.cells #[.int .i64 id,.int .i64 pt,.slice A n c] 60)).alloc (.cells #[.int .i64 0,.int .i64 0] 98)=q at hq⊢
 obtain⟨q0,q1,qb⟩:=hq
 have X0:=zD0 q0
 have X1:=zD0 q1
 have QB:=zD0 qb
 have HQ:=zD0 ((HU.out.below zM qb).more zM qb.size)
 have HB:Hid (Below w.heap.size w q):=QB
 clear q0 q1 qb
 obtain⟨k0,k1,k2⟩:=zC X0.out
 obtain⟨r0,r1⟩:=zI X1.out
 have f0:=zY X1.out 0
 have f1:=zY X1.out 1
 by_cases h0:k<0
 ·have d0:decide (k<0)=true:=decide_eq_true h0
  have HE:Hid (zBt (id,pt,es) k=false):=zD0 (decide_eq_false fun h=>by omega)
  have HJ:Hid (zAq (id,pt,es) k=(0,0)):=zD0 (by rw[zAq,HE.out];rfl)
  go_wp2_with fail
  refine bodyPost_ret (zB6 rfl _ _ (w.heap.size+1) rfl (heap_set2 X1.out _ _) Tryz.underlying98 vH (.bool false) rfl) rfl ⟨by rw[HE.out,HJ.out],below_set2 HB.out (Nat.le_succ _) _ _⟩
 have d0:decide (k<0)=false:=decide_eq_false h0
 by_cases hk:(n:Int)≤k
 ·have dk:decide ((n:Int)≤k)=true:=decide_eq_true hk
  have HE:Hid (zBt (id,pt,es) k=false):=zD0 (decide_eq_false fun h=>by have h2:k<(es.length:Int):=h.2;rw[←HN.out] at h2;omega)
  have HJ:Hid (zAq (id,pt,es) k=(0,0)):=zD0 (by rw[zAq,HE.out];rfl)
  go_wp2_with fail
  refine bodyPost_ret (zB6 rfl _ _ (w.heap.size+1) rfl (heap_set2 X1.out _ _) Tryz.underlying98 vH (.bool false) rfl) rfl ⟨by rw[HE.out,HJ.out],below_set2 HB.out (Nat.le_succ _) _ _⟩
 have dk:decide ((n:Int)≤k)=false:=decide_eq_false hk
 have HE:Hid (zBt (id,pt,es) k=true):=zD0 (decide_eq_true ⟨by omega,by show k<(es.length:Int);rw[←HN.out];omega⟩)
 obtain⟨j,rfl⟩:∃j:Nat,k=(j:Int):=⟨k.toNat,by omega⟩
 have hjr:j<es.length:=by rw[←HN.out];omega
 have hjn:(j:Int)<n:=by omega
 obtain⟨b,o,rfl,hb,hc0,hc1⟩:=HQ.out.at hjr
 obtain⟨x,y,hxy⟩:∃x y,es[j]=(x,y):=⟨_,_,rfl⟩
 have HJ:Hid (zAq (id,pt,es) j=(x,y)):=zD0 (by rw[zAq,HE.out,if_pos rfl,←hxy];simp[List.getD,List.getElem?_eq_getElem hjr])
 rw[hxy] at hc0 hc1
 dsimp only at hc0 hc1
 have hg0:q.cell? ⟨b,o+j*2,none⟩=some (.int .i64 x):=hc0
 have hg1:q.cell? ⟨b,o+j*2+1,none⟩=some (.int .i64 y):=hc1
 clear hxy hc0 hc1 hb
 go_wp2_with fail
 refine bodyPost_ret (zB6 rfl _ _ (w.heap.size+1) rfl (heap_set2 X1.out _ _) Tryz.underlying98 vH (.bool true) rfl) rfl ⟨by rw[HE.out,HJ.out],below_set2 HB.out (Nat.le_succ _) _ _⟩
theorem nan7_any (x:Int) (w:World):Calls Tryz.prog 142 #[.int .i64 x] w fun e w'=>e = .returned (.bool false)∧w=w':=by
 go_enter Tryz.func142,Tryz.ntmps142
 go_wp2_with fail
 go_ret
 exact⟨by simp,rfl⟩
def cmpZ (x y:Int):Int:=if x<y then -1 else if y<x then 1 else 0
theorem compare7_any (x y:Int) (w:World):Calls Tryz.prog 141 #[.int .i64 x,.int .i64 y] w fun e w'=>e = .returned (.int .i64 (cmpZ x y))∧w=w':=by
 by_cases h:x<y
 ·have HR:Hid (cmpZ x y = -1):=zD0 (by rw[cmpZ,if_pos h])
  go_enter Tryz.func141,Tryz.ntmps141
  go_wp2_with (refine(nan7_any _ _).mono ?_;rintro e w' ⟨rfl,rfl⟩)
  go_ret
  exact⟨by rw[HR.out];rfl,rfl⟩
 ·by_cases h2:y<x
  ·have HR:Hid (cmpZ x y=1):=zD0 (by rw[cmpZ,if_neg h,if_pos h2])
   go_enter Tryz.func141,Tryz.ntmps141
   go_wp2_with (refine(nan7_any _ _).mono ?_;rintro e w' ⟨rfl,rfl⟩)
   go_ret
   exact⟨by rw[HR.out];rfl,rfl⟩
  ·have HR:Hid (cmpZ x y=0):=zD0 (by rw[cmpZ,if_neg h,if_neg h2])
   go_enter Tryz.func141,Tryz.ntmps141
   go_wp2_with (refine(nan7_any _ _).mono ?_;rintro e w' ⟨rfl,rfl⟩)
   go_ret
   exact⟨by rw[HR.out];rfl,rfl⟩
theorem acmp_any (id pt:Int) (A:Option Addr) (n c:Nat) (k:Int) (w:World):
  Calls Tryz.prog 140 #[.agg #[.int .i64 id,.int .i64 pt,.slice A n c],.int .i64 k] w fun e w'=>e = .returned (.int .i64 (cmpZ id k))∧Below w.heap.size w w':=by
 have hb:Below w.heap.size w (w.alloc (.cells #[.int .i64 id,.int .i64 pt,.slice A n c] 60)):=zD w _
 have HB:=zD0 hb
 clear hb
 go_enter Tryz.func140,Tryz.ntmps140
 go_wp2_with (refine(compare7_any _ _ _).mono ?_;rintro e w' ⟨rfl,rfl⟩)
 go_ret
 exact⟨rfl,HB.out⟩
def Rises (l:List Sec):Prop:=∀i j (hj:j<i) (hi:i<l.length),(l[j]'(by omega)).1<l[i].1
theorem Rises.le {l:List Sec} (h:Rises l) {i j:Nat} (hj:j≤i) (hi:i<l.length):(l[j]'(by omega)).1≤l[i].1:=by
 rcases Nat.lt_or_ge j i with h1|h1
 ·exact Int.le_of_lt (h i j h1 hi)
 ·obtain rfl:j=i:=by omega
  exact Int.le_refl _
def Found (l:List Sec) (id:Int) (i:Nat) (b:Bool):Prop:=(b=true→∃h:i<l.length,l[i].1=id∧∀j (hj:j<i),(l[j]'(by omega)).1≠id)∧(b=false→∀j (hj:j<l.length),l[j].1≠id)
set_option maxHeartbeats 4000000 in
theorem bsearch_any (v:Value) (l:List Sec) (id:Int) (w:World) (h:zX w w.heap.size v l) (hr:Rises l) (hl16:l.length≤16):
  Calls Tryz.prog 139 #[v,.int .i64 id,.func (.func 140) #[] #[]] w fun e w'=>
   (∃(i:Nat) (b:Bool),e = .returned (.tuple #[.int .i64 i,.bool b])∧Found l id i b)∧Below w.heap.size w w':=by
 have H:=zD0 h
 obtain⟨A,c,rfl,hcl,hcm⟩:=h.slice
 have hml:l.length≤16:=hl16
 obtain⟨n,hn⟩:=zD1 (l.length)
 have HN:=zD0 hn
 have HR:=zD0 hr
 have HA:=zD0 (show zX w w.heap.size (.slice A n c) l by rw[hn];exact H.out)
 rw[←hn] at hml⊢
 clear hn H hcl hcm h hr hl16
 go_enter Tryz.func139,Tryz.ntmps139
 go_wp2_with fail
 go_loopw [9,10] (fun s9 s10 wr=>∃i j:Nat,s9 = .int .i64 i∧s10 = .int .i64 j∧i≤j∧j≤n∧(∀k (hk:k<i) (hl:k<l.length),l[k].1<id)∧(∀k (hk:j≤k) (hl:k<l.length),id≤l[k].1)∧Below w.heap.size w wr) (fun s9 s10 _=>(intOf s10).toNat-(intOf s9).toNat)
 case atStart=>exact⟨0,n,by go_num,rfl,by omega,Nat.le_refl _,fun k hk=>absurd hk (by omega),fun k hk hl=>by have:=HN.out;omega,Below.refl _ _⟩
 case round=>
  obtain⟨i,j,rfl,rfl,hij,hjn,hlo,hhi,hb⟩:=hrel
  have LO:=zD0 hlo
  have HI:=zD0 hhi
  have BW:=zD0 hb
  clear hlo hhi hb
  by_cases hlt:i<j
  ·have hlt':(i:Int)<j:=by omega
   obtain⟨m,hm⟩:=zD1 ((i+j)/2)
   have hmi:((i:Int)+j)/2=(m:Int):=by omega
   have hmn:m<n:=by omega
   have hmij:i≤m∧m<j:=by omega
   have MIJ:=zD0 hmij
   have hmr:m<l.length:=by rw[←HN.out];exact hmn
   obtain⟨b,off,rfl,hb,hc0,hc1,u,hc2,hu⟩:=((HA.out.below zN BW.out).more zN BW.out.size).at hmr
   obtain⟨Au,cu,rfl,-,-⟩:=hu.slice
   obtain⟨z,hz⟩:=zD1 (l[m].1)
   obtain⟨pt,hpt⟩:=zD1 (l[m].2.1)
   obtain⟨ne,hne⟩:=zD1 (l[m].2.2.length)
   have hg0:wr.cell? ⟨b,off+m*3,none⟩=some (.int .i64 z):=by rw[hz];exact hc0
   have hg1:wr.cell? ⟨b,off+m*3+1,none⟩=some (.int .i64 pt):=by rw[hpt];exact hc1
   have hg2:wr.cell? ⟨b,off+m*3+2,none⟩=some (.slice Au ne cu):=by rw[hne];exact hc2
   have HZ:=zD0 hz
   clear hc0 hc1 hc2 hu hpt hne hz hm hb hmij
   by_cases hzi:z<id
   ·have hd:decide (cmpZ z id<0)=true:=decide_eq_true (by rw[cmpZ,if_pos hzi];decide)
    have NX:Hid (∀k (hk:k<m+1) (hl:k<l.length),l[k].1<id):=zD0 (fun k hk hl=>by
     have h1:=HR.out.le (i:=m) (j:=k) (by omega) hmr
     have h2:=HZ.out
     omega)
    clear hzi
    go_wp2_with (refine(acmp_any _ _ _ _ _ _ _).mono ?_;rintro e w1 ⟨rfl,b1⟩;have B1:=zD0 (BW.out.trans (b1.mono BW.out.size));clear b1)
    go_roundw
    case measure=>simp[intOf];have:=MIJ.out;omega
    case rel=>exact⟨m+1,j,by go_num,rfl,by have:=MIJ.out;omega,hjn,NX.out,HI.out,B1.out⟩
   ·have hd:decide (cmpZ z id<0)=false:=decide_eq_false (by rw[cmpZ,if_neg hzi];split<;>decide)
    have NX:Hid (∀k (hk:m≤k) (hl:k<l.length),id≤l[k].1):=zD0 (fun k hk hl=>by
     have h1:=HR.out.le (i:=k) (j:=m) hk hl
     have h2:=HZ.out
     omega)
    clear hzi
    go_wp2_with (refine(acmp_any _ _ _ _ _ _ _).mono ?_;rintro e w1 ⟨rfl,b1⟩;have B1:=zD0 (BW.out.trans (b1.mono BW.out.size));clear b1)
    go_roundw
    case measure=>simp[intOf];have:=MIJ.out;omega
    case rel=>exact⟨i,m,rfl,by go_num,by have:=MIJ.out;omega,by omega,LO.out,NX.out,B1.out⟩
  ·obtain rfl:j=i:=by omega
   have hlt':¬(j:Int)<j:=by omega
   by_cases hjl:j<n
   ·have hjl':decide ((j:Int)<n)=true:=decide_eq_true (by omega)
    have hjr:j<l.length:=by rw[←HN.out];exact hjl
    obtain⟨b,off,rfl,hb,hc0,hc1,u,hc2,hu⟩:=((HA.out.below zN BW.out).more zN BW.out.size).at hjr
    obtain⟨Au,cu,rfl,-,-⟩:=hu.slice
    obtain⟨z,hz⟩:=zD1 (l[j].1)
    obtain⟨pt,hpt⟩:=zD1 (l[j].2.1)
    obtain⟨ne,hne⟩:=zD1 (l[j].2.2.length)
    have hg0:wr.cell? ⟨b,off+j*3,none⟩=some (.int .i64 z):=by rw[hz];exact hc0
    have hg1:wr.cell? ⟨b,off+j*3+1,none⟩=some (.int .i64 pt):=by rw[hpt];exact hc1
    have hg2:wr.cell? ⟨b,off+j*3+2,none⟩=some (.slice Au ne cu):=by rw[hne];exact hc2
    have HZ:=zD0 hz
    clear hc0 hc1 hc2 hu hpt hne hz hb
    by_cases hzi:z=id
    ·have hd:(cmpZ z id==0)=true:=by rw[cmpZ,if_neg (by omega),if_neg (by omega)];rfl
     have FIN:Hid (∃h:j<l.length,l[j].1=id∧∀k (hk:k<j),(l[k]'(by omega)).1≠id):=zD0 ⟨hjr,by rw[←HZ.out];exact hzi,fun k hk=>by have:=LO.out k hk (by omega);omega⟩
     clear hzi
     go_wp2_with (refine(acmp_any _ _ _ _ _ _ _).mono ?_;rintro e w1 ⟨rfl,b1⟩;have B1:=zD0 (BW.out.trans (b1.mono BW.out.size));clear b1)
     go_ret2
     exact⟨⟨j,true,rfl,(fun _=>FIN.out),fun h=>Bool.noConfusion h⟩,B1.out⟩
    ·have hd:(cmpZ z id==0)=false:=by
      rw[cmpZ,beq_eq_false_iff_ne]
      by_cases h1:z<id
      ·rw[if_pos h1];decide
      ·rw[if_neg h1,if_pos (by omega)];decide
     have FIN:Hid (∀k (hk:k<l.length),l[k].1≠id):=zD0 (fun k hk=>by
      rcases Nat.lt_or_ge k j with h1|h1
      ·have:=LO.out k h1 hk;omega
      ·have h2:=HI.out k h1 hk
       rcases Nat.lt_or_ge j k with h3|h3
       ·have h4:=HR.out k j h3 hk
        have h5:=HI.out j (Nat.le_refl _) hjr
        omega
       ·obtain rfl:k=j:=by omega
        rw[←HZ.out];exact hzi)
     clear hzi
     go_wp2_with (refine(acmp_any _ _ _ _ _ _ _).mono ?_;rintro e w1 ⟨rfl,b1⟩;have B1:=zD0 (BW.out.trans (b1.mono BW.out.size));clear b1)
     go_ret2
     exact⟨⟨j,false,rfl,(fun h=>Bool.noConfusion h),fun _=>FIN.out⟩,B1.out⟩
   ·have hjl':decide ((j:Int)<n)=false:=decide_eq_false (by omega)
    have FIN:Hid (∀k (hk:k<l.length),l[k].1≠id):=zD0 (fun k hk=>by have:=LO.out k (by have:=HN.out;omega) hk;omega)
    go_wp2_with fail
    go_ret2
    exact⟨⟨j,.inl ⟨rfl,(fun h=>Bool.noConfusion h),fun _=>FIN.out⟩⟩,BW.out⟩
def atB (l:List Sec) (id:Int):Bool:=decide (0≤atS l id)
def atV (l:List Sec) (id:Int):Sec:=if atB l id then l.getD (atS l id).toNat (0,0,[]) else (0,0,[])
theorem secV_zero (W:World) (B:Nat):SecV W B (.agg #[.int .i64 0,.int .i64 0,.slice none 0 0]) (0,0,[]):=⟨_,rfl,xC.nil_⟩
set_option maxHeartbeats 4000000 in
theorem at_any (v:Value) (l:List Sec) (id:Int) (w:World) (h:zX w w.heap.size v l) (hr:Rises l) (hl16:l.length≤16):
  Calls Tryz.prog 135 #[v,.int .i64 id] w fun e w'=>∃x,e = .returned (.tuple #[x,.bool (atB l id)])∧SecV w' w'.heap.size x (atV l id)∧Below w.heap.size w w':=by
 have H:=zD0 h
 have HR:=zD0 hr
 obtain⟨A,c,rfl,-,-⟩:=h.slice
 obtain⟨n,hn⟩:=zD1 (l.length)
 have HN:=zD0 hn
 have HL:=zD0 hl16
 rw[←hn] at H⊢
 clear h hn hr hl16
 have hq0:=zB w (.cells #[.int .i64 0,.int .i64 0,.slice none 0 0] 60)
 have hqb:=zD w (.cells #[.int .i64 0,.int .i64 0,.slice none 0 0] 60)
 go_enter Tryz.func135,Tryz.ntmps135
 go_wp2_with fail
 obtain⟨q,hq⟩:=zD1 (w.alloc (.cells #[.int .i64 0,.int .i64 0,.slice none 0 0] 60))
 rw[←hq] at hq0 hqb⊢
 have QB:=zD0 hqb
 refine(bsearch_any _ l id q ((H.out.below zN QB.out).more zN QB.out.size) HR.out HL.out).mono ?_
 rintro e w1 ⟨⟨i,g,rfl,ht,hf⟩,b1⟩
 have B1:=zD0 (QB.out.trans (b1.mono QB.out.size))
 have X1:=zD0 ((b1.block _ (zA hq0)).trans hq0)
 have H1:=zD0 ((H.out.below zN B1.out).more zN B1.out.size)
 clear b1 hq0 hqb hq
 obtain⟨r0,r1,r2⟩:=zC X1.out
 have f0:=zY X1.out 0
 have f1:=zY X1.out 1
 have f2:=zY X1.out 2
 cases g with
 | false=>
  have hn1:=atS_none (hf rfl)
  have HB:Hid (atB l id=false):=zD0 (by rw[atB,hn1];rfl)
  have HV:Hid (atV l id=(0,0,[])):=zD0 (by rw[atV,HB.out];rfl)
  clear hn1 ht hf
  go_wp2_with fail
  refine bodyPost_ret (zDw rfl _ _ w.heap.size rfl (heap_set3 X1.out _ _ _) Tryz.underlying60 zA4 (.bool false) rfl) rfl ⟨_,by rw[HB.out],by rw[HV.out];exact secV_zero _ _,zC5 B1.out (Nat.le_refl _) _ _ _⟩
 | true=>
  obtain⟨hir,hie,hlt⟩:=ht rfl
  have hs1:=zDd hir hie hlt
  have HB:Hid (atB l id=true):=zD0 (by rw[atB,hs1];exact decide_eq_true (by omega))
  have HV:Hid (atV l id=l[i]):=zD0 (by rw[atV,HB.out,if_pos rfl,hs1];simp[List.getD,List.getElem?_eq_getElem hir])
  have hin:(i:Int)<n:=by rw[HN.out];omega
  obtain⟨b,off,rfl,hb,hc0,hc1,u,hc2,hu⟩:=H1.out.at hir
  obtain⟨s,hs⟩:=zD1 (l[i])
  rw[←hs] at hc0 hc1 hu HV
  obtain⟨Au,cu,rfl,-,-⟩:=hu.slice
  have hg0:w1.cell? ⟨b,off+i*3,none⟩=some (.int .i64 s.1):=hc0
  have hg1:w1.cell? ⟨b,off+i*3+1,none⟩=some (.int .i64 s.2.1):=hc1
  have hg2:w1.cell? ⟨b,off+i*3+2,none⟩=some (.slice Au s.2.2.length cu):=hc2
  have HU:=zD0 (hu.more zM (Nat.le_refl _))
  have HU0:Hid (zT w w.heap.size (.slice Au s.2.2.length cu) s.2.2):=zD0 (by
   obtain⟨b',off',e',hb',hd0,hd1,u',hd2,hu'⟩:=H.out.at hir
   cases e'
   have he:=(B1.out.cell (p:=⟨b,off+i*3+2,none⟩) hb').trans hd2
   rw[←hs] at hu'
   rw[hg2] at he
   cases he
   exact hu')
  clear hc0 hc1 hc2 hu hs hb ht hf hs1 hlt hie
  go_wp2_with fail
  refine bodyPost_ret (zDw rfl _ _ w.heap.size rfl (heap_set3 X1.out _ _ _) Tryz.underlying60 zA4 (.bool true) rfl) rfl ⟨_,by rw[HB.out],?_,zC5 B1.out (Nat.le_refl _) _ _ _⟩
  rw[HV.out]
  exact⟨_,rfl,(HU0.out.below zM (zC5 B1.out (Nat.le_refl _) _ _ _)).more zM (zC5 B1.out (Nat.le_refl _) _ _ _).size⟩
def joinsB (l:List Sec) (a o:Jn):Bool:=atB l a.1&&(zBt (atV l a.1) a.2&&decide (zAq (atV l a.1) a.2=o))
set_option maxHeartbeats 4000000 in
theorem joins_any (v:Value) (l:List Sec) (a o:Jn) (w:World) (h:zX w w.heap.size v l) (hr:Rises l) (hl16:l.length≤16):
  Calls Tryz.prog 120 #[v,.agg #[.int .i64 a.1,.int .i64 a.2],.agg #[.int .i64 o.1,.int .i64 o.2]] w fun e w'=>e = .returned (.bool (joinsB l a o))∧Below w.heap.size w w':=by
 have H:=zD0 h
 have HR:=zD0 hr
 have HL:=zD0 hl16
 obtain⟨A,c,rfl,-,-⟩:=h.slice
 obtain⟨n,hn⟩:=zD1 (l.length)
 rw[←hn] at H⊢
 clear h hn hr hl16
 obtain⟨a1,a2⟩:=a
 obtain⟨o1,o2⟩:=o
 have J0:Hid (joinsB l (a1,a2) (o1,o2)=(atB l a1&&(zBt (atV l a1) a2&&decide (zAq (atV l a1) a2=(o1,o2))))):=zD0 rfl
 dsimp only
 generalize hj:joinsB l (a1,a2) (o1,o2)=jb at J0⊢
 clear hj
 have hq:=zV w (.cells #[.int .i64 a1,.int .i64 a2] 98) (.cells #[.int .i64 o1,.int .i64 o2] 98)
 go_enter Tryz.func120,Tryz.ntmps120
 go_upto_region 1 with fail
 generalize (w.alloc (.cells #[.int .i64 a1,.int .i64 a2] 98)).alloc (.cells #[.int .i64 o1,.int .i64 o2] 98)=q at hq⊢
 obtain⟨q0,q1,qb⟩:=hq
 have X0:=zD0 q0
 have X1:=zD0 q1
 have QB:=zD0 qb
 clear q0 q1 qb
 obtain⟨k0,k1⟩:=zI X0.out
 go_wp2_with fail
 refine(at_any _ l a1 q ((H.out.below zN QB.out).more zN QB.out.size) HR.out HL.out).mono ?_
 rintro e w1 ⟨x,rfl,hx,b1⟩
 have X01:=zD0 ((b1.block _ (zA X0.out)).trans X0.out)
 have X11:=zD0 ((b1.block _ (zA X1.out)).trans X1.out)
 have B1:=zD0 (QB.out.trans (b1.mono QB.out.size))
 generalize atV l a1=s at hx J0
 have HX:=zD0 hx
 obtain⟨u,rfl,hu⟩:=hx
 obtain⟨Au,cu,rfl,-,-⟩:=hu.slice
 obtain⟨id,pt,es⟩:=s
 dsimp only at HX hu⊢
 obtain⟨m,hm⟩:=zD1 (es.length)
 rw[←hm] at HX⊢
 clear b1 k0 k1 hu hm
 have hy0:=zB w1 (.cells #[.int .i64 id,.int .i64 pt,.slice Au m cu] 60)
 have hyb:=zD w1 (.cells #[.int .i64 id,.int .i64 pt,.slice Au m cu] 60)
 obtain⟨q7,hq7⟩:=zD1 (w1.alloc (.cells #[.int .i64 id,.int .i64 pt,.slice Au m cu] 60))
 rw[←hq7] at hy0 hyb
 cases hg:atB l a1 with
 | false=>
  have HJ:Hid (jb=false):=zD0 (by rw[J0.out,hg];rfl)
  clear hg
  go_wp2_with fail
  go_ret
  exact⟨by rw[HJ.out];rfl,by rw[←hq7];exact B1.out.trans (hyb.mono B1.out.size)⟩
 | true=>
  have J1:Hid (jb=(zBt (id,pt,es) a2&&decide (zAq (id,pt,es) a2=(o1,o2)))):=zD0 (by rw[J0.out,hg];rfl)
  clear hg
  go_upto_region 4 with fail
  rw[←hq7]
  have B7:=zD0 (B1.out.trans (hyb.mono B1.out.size))
  have X7:=zD0 hy0
  have X07:=zD0 ((hyb.block _ (zA X01.out)).trans X01.out)
  have X17:=zD0 ((hyb.block _ (zA X11.out)).trans X11.out)
  have HX7:=zD0 ((HX.out.below hyb).more hyb.size)
  generalize w1.heap.size=p7 at X7⊢
  clear hy0 hyb hq7
  obtain⟨k0,k1,k2⟩:=zC X7.out
  obtain⟨r0,r1⟩:=zI X07.out
  go_wp2_with fail
  refine(leads_any _ (id,pt,es) a2 q7 HX7.out).mono ?_
  rintro e w2 ⟨rfl,b2⟩
  have X12:=zD0 ((b2.block _ (zA X17.out)).trans X17.out)
  have B2:=zD0 (B7.out.trans (b2.mono B7.out.size))
  clear b2 k0 k1 k2 r0 r1
  generalize zAq (id,pt,es) a2=y at J1⊢
  obtain⟨y1,y2⟩:=y
  have hz0:=zB w2 (.cells #[.int .i64 y1,.int .i64 y2] 98)
  have hzb:=zD w2 (.cells #[.int .i64 y1,.int .i64 y2] 98)
  obtain⟨q9,hq9⟩:=zD1 (w2.alloc (.cells #[.int .i64 y1,.int .i64 y2] 98))
  rw[←hq9] at hz0 hzb
  go_upto_region 5 with fail
  rw[←hq9]
  have B9:=zD0 (B2.out.trans (hzb.mono B2.out.size))
  have X9:=zD0 hz0
  have X19:=zD0 ((hzb.block _ (zA X12.out)).trans X12.out)
  generalize w2.heap.size=p9 at X9⊢
  clear hz0 hzb hq9
  obtain⟨k0,k1⟩:=zI X9.out
  obtain⟨r0,r1⟩:=zI X19.out
  cases hg:zBt (id,pt,es) a2 with
  | false=>
   have HJ:Hid (jb=false):=zD0 (by rw[J1.out,hg];rfl)
   clear hg
   go_wp2_with fail
   go_ret
   exact⟨by rw[HJ.out];rfl,B9.out⟩
  | true=>
   by_cases he:y1=o1∧y2=o2
   ·have HJ:Hid (jb=true):=zD0 (by rw[J1.out,hg,he.1,he.2];simp)
    obtain⟨rfl,rfl⟩:=he
    have hj:=zDr y1 y2
    clear hg
    go_wp2_with fail
    go_ret
    exact⟨by rw[HJ.out];rfl,B9.out⟩
   ·have HJ:Hid (jb=false):=zD0 (by rw[J1.out,hg,decide_eq_false (fun h=>by injection h with h1 h2;exact he ⟨h1,h2⟩)];rfl)
    have hj:=join_ne he
    clear hg he
    go_wp2_with fail
    go_ret
    exact⟨by rw[HJ.out];rfl,B9.out⟩
theorem xT {P:Program} {ops:Array Oper} {rest:List Oper} {op:Oper} {a:Act} {w:World} {Q:Exit→Act→World→Prop} (hgd:op.guard=none) (ty:TypeId) (x y:Operand) (ho:op.op = .store ty x y)
  (b:Nat) (hx:a.eval x = .pointer (some ⟨b,0,none⟩)) {c c':Array Value} (hy:a.eval y = .agg c') {t:TypeId} (hb:w.heap[b]? = some (.cells c t (0,0)))
  (hi:(P.info? ty).map (·.size)=some c'.size) (hs:c.size=c'.size) (h1:c'.all (·.oneCell')=true)
  (h:wpList P ops Q rest (a.put op.dst undef) (w.setRow b c')):wpList P ops Q (op::rest) a w:=
 wpList_plain hgd fun _ hK=>by
  unfold Oper.wp execOp
  simp only[ho,hx,hy,Instr.storeAt,Instr.sureAddr,Sem.run_bind,Sem.run_pure,Result.andThen_ok]
  rw[run_storeVar_row w b t ty c c' hb hi hs h1]
  exact hK _ _ h
theorem kO {P:Program} {fn:Func} {p u:Tmp} {ty:TypeId} (h:fn.results=#[.cell p ty,.tmp u]) (tmps:Array Value) (w:World) (g:Nat) {c:Array Value} {t:TypeId} {fr:Nat×Nat} (hp:tmps.getD p undef = .pointer (some ⟨g,0,none⟩)) (hb:w.heap[g]? = some (.cells c t fr))
  {n:Nat} {e:TypeId} (hu:P.underlying ty=some (.array n e)) (hi:(P.info? ty).map (·.size)=some c.size) (x:Value) (hx:tmps.getD u undef=x):(results fn tmps).run P w = .ok (.tuple #[.agg c,x]) w:=by
 have hp':tmps[p]?.getD undef = .pointer (some ⟨g,0,none⟩):=by simpa using hp
 rw[results_cell_tmp h,hp,hx]
 simp[asAddr,run_loadVar_row w g t ty c fr _ hb hu rfl (by simpa using hi)]
def zBq:Array Value:=#[.bool false,.int .i64 0,.bool false,.int .i64 0,.bool false,.int .i64 0,.bool false,.int .i64 0,.bool false,.int .i64 0,.bool false,.int .i64 0,.bool false,.int .i64 0,.bool false,.int .i64 0,.bool false,.int .i64 0]
def ways1:Array Value:=#[.bool false,.int .i64 0,.bool true,.int .i64 0,.bool false,.int .i64 0,.bool true,.int .i64 0,.bool false,.int .i64 0,.bool false,.int .i64 0,.bool false,.int .i64 0,.bool false,.int .i64 0,.bool false,.int .i64 0]
def ways2:Array Value:=#[.bool false,.int .i64 0,.bool true,.int .i64 1,.bool true,.int .i64 2,.bool true,.int .i64 1,.bool false,.int .i64 0,.bool false,.int .i64 0,.bool true,.int .i64 2,.bool false,.int .i64 0,.bool false,.int .i64 0]
theorem zBi:zBq.all (·.oneCell')=true:=by kernel_rfl
theorem ways1_one:ways1.all (·.oneCell')=true:=by kernel_rfl
theorem ways2_one:ways2.all (·.oneCell')=true:=by kernel_rfl
def kQ (s:Sec):Array Value:=if qQ s then (if s.2.1=0 then ways1 else ways2) else zBq
theorem ways_size (s:Sec):(kQ s).size=18∧(kQ s).all (·.oneCell')=true:=by
 rw[kQ]
 split
 ·split
  ·exact⟨rfl,ways1_one⟩
  ·exact⟨rfl,ways2_one⟩
 ·exact⟨rfl,zBi⟩
theorem infoWays:(Tryz.prog.info? 170).map (·.size)=some 18:=by kernel_rfl
set_option maxHeartbeats 4000000 in
theorem zCy (v:Value) (s:Sec) (w:World) (h:SecV w w.heap.size v s):
  Calls Tryz.prog 119 #[v] w fun e w'=>e = .returned (.tuple #[.agg (kQ s),.bool (qQ s)])∧Below w.heap.size w w':=by
 obtain⟨u,rfl,hu⟩:=h
 obtain⟨A,c,rfl,-,-⟩:=hu.slice
 obtain⟨id,pt,l⟩:=s
 dsimp only at hu⊢
 obtain⟨n,hn⟩:=zD1 (l.length)
 have HS:Hid (qQ (id,pt,l)=if pt=0 then decide (n=2) else decide (1≤pt)&&(decide (pt≤99)&&decide (n=3))):=zD0 (by rw[hn];rfl)
 have HW:Hid (kQ (id,pt,l)=if qQ (id,pt,l) then (if pt=0 then ways1 else ways2) else zBq):=zD0 rfl
 rw[←hn]
 clear hu hn
 have hq:=zV w (.cells #[.int .i64 id,.int .i64 pt,.slice A n c] 60) (.cells zBq 170)
 go_enter Tryz.func119,Tryz.ntmps119
 go_upto_region 1 with fail
 obtain⟨q,hqe⟩:=zD1 ((w.alloc (.cells #[.int .i64 id,.int .i64 pt,.slice A n c] 60)).alloc (.cells zBq 170))
 have hqs:q.heap.size=w.heap.size+2:=by rw[hqe];simp
 rw[←hqe] at hq
 change Code.wp _ _ _ _ ((w.alloc _).alloc (.cells zBq _))
 rw[←hqe]
 obtain⟨q0,q1,qb⟩:=hq
 have X0:=zD0 q0
 have X1:=zD0 q1
 have QB:=zD0 qb
 have QS:=zD0 hqs
 clear q0 q1 qb hqe hqs
 obtain⟨k0,k1,k2⟩:=zC X0.out
 have NO:Hid (qQ (id,pt,l)=false→∀c:Bool,c=false→(Ending.returned (.tuple #[.agg zBq,.bool c]):Ending) = .returned (.tuple #[.agg (kQ (id,pt,l)),.bool (qQ (id,pt,l))])):=zD0 (fun h c hc=>by rw[HW.out,h,hc];rfl)
 by_cases h0:pt=0
 ·subst h0
  by_cases h2:n=2
  ·have HR:Hid (qQ (id,0,l)=true):=zD0 (by rw[HS.out,if_pos rfl];exact decide_eq_true h2)
   have HV:Hid (kQ (id,0,l)=ways1):=zD0 (by rw[HW.out,HR.out];rfl)
   have d2:((n:Int)==2)=true:=by simpa using(by omega:(n:Int)=2)
   clear h2
   have hz0:=zB q (.cells #[.bool true,.int .i64 0] 167)
   have hzb:=zD q (.cells #[.bool true,.int .i64 0] 167)
   obtain⟨q4,hq4⟩:=zD1 (q.alloc (.cells #[.bool true,.int .i64 0] 167))
   rw[←hq4] at hz0 hzb
   go_upto_region 3 with fail
   rw[←hq4]
   have B4:=zD0 (QB.out.trans (hzb.mono QB.out.size))
   have X4:=zD0 hz0
   have X14:=zD0 ((hzb.block _ (zA X1.out)).trans X1.out)
   generalize q.heap.size=p4 at X4⊢
   clear k0 k1 k2 hz0 hzb hq4
   obtain⟨k0,k1⟩:=zI X4.out
   go_wp2_with ((with_reducible show wpList _ _ _ (⟨none,_,_,_,_,_⟩::_) _ _);refine xT rfl _ (.tmp 2) (.tmp 21) rfl (w.heap.size+1) rfl (c':=ways1) rfl X14.out (by kernel_rfl) rfl ways1_one ?_)
   refine bodyPost_ret (kO rfl _ _ (w.heap.size+1) rfl (setRow_heap _ _ _ _ _ _ X14.out) Tryz.underlying170 (by kernel_rfl) (.bool true) rfl) rfl ⟨by rw[HR.out,HV.out],below_setRow B4.out (Nat.le_succ _) _⟩
  ·have d2:((n:Int)==2)=false:=by rw[beq_eq_false_iff_ne];omega
   have hbad:=(show qQ (id,0,l)=false from by rw[HS.out,if_pos rfl];exact decide_eq_false h2)
   have NR:=zD0 (NO.out hbad _ rfl)
   clear hbad
   go_wp2_with ((with_reducible show wpList _ _ _ (⟨none,_,_,_,_,_⟩::_) _ _);refine xT rfl _ (.tmp 2) (.tmp 46) rfl (w.heap.size+1) rfl (c':=zBq) rfl X1.out (by kernel_rfl) rfl zBi ?_)
   refine bodyPost_ret (kO rfl _ _ (w.heap.size+1) rfl (setRow_heap _ _ _ _ _ _ X1.out) Tryz.underlying170 (by kernel_rfl) (.bool false) rfl) rfl ⟨NR.out,below_setRow QB.out (Nat.le_succ _) _⟩
 ·have d0:(pt==0)=false:=by rw[beq_eq_false_iff_ne];exact h0
  by_cases h1:1≤pt
  ·have d1:decide (1≤pt)=true:=decide_eq_true h1
   by_cases h2:pt≤99
   ·have d99:decide (pt≤99)=true:=decide_eq_true h2
    by_cases h3:n=3
    ·have d3:((n:Int)==3)=true:=by simpa using(by omega:(n:Int)=3)
     have HR:Hid (qQ (id,pt,l)=true):=zD0 (by rw[HS.out,if_neg h0,d1,d99,decide_eq_true h3];rfl)
     have HV:Hid (kQ (id,pt,l)=ways2):=zD0 (by rw[HW.out,HR.out,if_pos rfl,if_neg h0])
     have hz:=zV q (.cells #[.bool true,.int .i64 1] 167) (.cells #[.bool true,.int .i64 2] 167)
     obtain⟨q4,hq4⟩:=zD1 ((q.alloc (.cells #[.bool true,.int .i64 1] 167)).alloc (.cells #[.bool true,.int .i64 2] 167))
     rw[←hq4] at hz
     obtain⟨hz0,hz1,hzb⟩:=hz
     clear h0 h1 h2 h3
     go_upto_region 6 with fail
     rw[←hq4]
     have B4:=zD0 (QB.out.trans (hzb.mono QB.out.size))
     have X4:=zD0 hz0
     have X5:=zD0 hz1
     have X14:=zD0 ((hzb.block _ (zA X1.out)).trans X1.out)
     generalize q.heap.size=p4 at X4 X5⊢
     clear k0 k1 k2 hz0 hz1 hzb hq4
     obtain⟨k0,k1⟩:=zI X4.out
     obtain⟨r0,r1⟩:=zI X5.out
     go_wp2_with ((with_reducible show wpList _ _ _ (⟨none,_,_,_,_,_⟩::_) _ _);refine xT rfl _ (.tmp 2) (.tmp 45) rfl (w.heap.size+1) rfl (c':=ways2) rfl X14.out (by kernel_rfl) rfl ways2_one ?_)
     refine bodyPost_ret (kO rfl _ _ (w.heap.size+1) rfl (setRow_heap _ _ _ _ _ _ X14.out) Tryz.underlying170 (by kernel_rfl) (.bool true) rfl) rfl ⟨by rw[HR.out,HV.out],below_setRow B4.out (Nat.le_succ _) _⟩
    ·have d3:((n:Int)==3)=false:=by rw[beq_eq_false_iff_ne];omega
     have hbad:=(show qQ (id,pt,l)=false from by rw[HS.out,if_neg h0,decide_eq_false h3,Bool.and_false,Bool.and_false])
     have NR:=zD0 (NO.out hbad _ rfl)
     clear hbad
     go_wp2_with ((with_reducible show wpList _ _ _ (⟨none,_,_,_,_,_⟩::_) _ _);refine xT rfl _ (.tmp 2) (.tmp 46) rfl (w.heap.size+1) rfl (c':=zBq) rfl X1.out (by kernel_rfl) rfl zBi ?_)
     refine bodyPost_ret (kO rfl _ _ (w.heap.size+1) rfl (setRow_heap _ _ _ _ _ _ X1.out) Tryz.underlying170 (by kernel_rfl) (.bool false) rfl) rfl ⟨NR.out,below_setRow QB.out (Nat.le_succ _) _⟩
   ·have d99:decide (pt≤99)=false:=decide_eq_false h2
    have hbad:=(show qQ (id,pt,l)=false from by rw[HS.out,if_neg h0,decide_eq_false h2,Bool.false_and,Bool.and_false])
    have NR:=zD0 (NO.out hbad _ rfl)
    clear hbad
    go_wp2_with ((with_reducible show wpList _ _ _ (⟨none,_,_,_,_,_⟩::_) _ _);refine xT rfl _ (.tmp 2) (.tmp 46) rfl (w.heap.size+1) rfl (c':=zBq) rfl X1.out (by kernel_rfl) rfl zBi ?_)
    refine bodyPost_ret (kO rfl _ _ (w.heap.size+1) rfl (setRow_heap _ _ _ _ _ _ X1.out) Tryz.underlying170 (by kernel_rfl) (.bool false) rfl) rfl ⟨NR.out,below_setRow QB.out (Nat.le_succ _) _⟩
  ·have d1:decide (1≤pt)=false:=decide_eq_false h1
   have hbad:=(show qQ (id,pt,l)=false from by rw[HS.out,if_neg h0,decide_eq_false h1,Bool.false_and])
   have NR:=zD0 (NO.out hbad _ rfl)
   clear hbad
   go_wp2_with ((with_reducible show wpList _ _ _ (⟨none,_,_,_,_,_⟩::_) _ _);refine xT rfl _ (.tmp 2) (.tmp 46) rfl (w.heap.size+1) rfl (c':=zBq) rfl X1.out (by kernel_rfl) rfl zBi ?_)
   refine bodyPost_ret (kO rfl _ _ (w.heap.size+1) rfl (setRow_heap _ _ _ _ _ _ X1.out) Tryz.underlying170 (by kernel_rfl) (.bool false) rfl) rfl ⟨NR.out,below_setRow QB.out (Nat.le_succ _) _⟩
def sameP (a b:Int):Bool:=decide (a=b)
theorem other_any (id pt:Int) (A:Option Addr) (n c:Nat) (p:Nat) (i5 pt5:Int) (zz5:Value) (w:World) (h:w.heap[p]? = some (.cells #[.int .i64 i5,.int .i64 pt5,zz5] 60 (0,0))):
  Calls Tryz.prog 118 #[.agg #[.int .i64 id,.int .i64 pt,.slice A n c],.pointer (some ⟨p,0,none⟩)] w fun e w'=>e = .returned (.bool (sameP pt pt5))∧Below w.heap.size w w':=by
 have hq0:=zB w (.cells #[.int .i64 id,.int .i64 pt,.slice A n c] 60)
 have hqb:=zD w (.cells #[.int .i64 id,.int .i64 pt,.slice A n c] 60)
 have hx:=(hqb.block _ (zA h)).trans h
 go_enter Tryz.func118,Tryz.ntmps118
 go_upto_region 1 with fail
 generalize w.alloc (.cells #[.int .i64 id,.int .i64 pt,.slice A n c] 60)=q at hq0 hqb hx⊢
 have QB:=zD0 hqb
 obtain⟨k0,k1,k2⟩:=zC hq0
 obtain⟨r0,r1,r2⟩:=zC hx
 clear hq0 hqb hx h
 by_cases he:pt=pt5
 ·have HD:Hid (sameP pt pt5=true):=zD0 (decide_eq_true he)
  have hb:(pt==pt5)=true:=by simpa using he
  clear he
  go_wp2_with fail
  go_ret
  exact⟨by rw[HD.out];rfl,QB.out⟩
 ·have HD:Hid (sameP pt pt5=false):=zD0 (decide_eq_false he)
  have hb:(pt==pt5)=false:=by simpa using he
  clear he
  go_wp2_with fail
  go_ret
  exact⟨by rw[HD.out];rfl,QB.out⟩
def hasP (l:List Sec) (pt:Int):Bool:=l.any fun s=>decide (s.2.1=pt)
theorem hasP_false {l:List Sec} {pt:Int} (h:∀j (h:j<l.length),l[j].2.1≠pt):hasP l pt=false:=by
 rw[hasP,List.any_eq_false]
 intro x hx
 obtain⟨j,hj,rfl⟩:=List.getElem_of_mem hx
 simpa using h j hj
theorem hasP_true {l:List Sec} {pt:Int} {j:Nat} (hj:j<l.length) (h:l[j].2.1=pt):hasP l pt=true:=by
 rw[hasP,List.any_eq_true]
 exact⟨_,List.getElem_mem hj,decide_eq_true h⟩
theorem hasP_iff {l:List Sec} {pt:Int}:hasP l pt=true↔∃j,∃h:j<l.length,l[j].2.1=pt:=by
 rw[hasP,List.any_eq_true]
 constructor
 ·rintro⟨x,hx,he⟩
  obtain⟨j,hj,rfl⟩:=List.getElem_of_mem hx
  exact⟨j,hj,of_decide_eq_true he⟩
 ·rintro⟨j,hj,he⟩
  exact⟨_,List.getElem_mem hj,decide_eq_true he⟩
set_option maxHeartbeats 4000000 in
theorem indexf_any (v:Value) (l:List Sec) (p:Nat) (i5 pt5:Int) (zz5:Value) (w:World) (h:zX w w.heap.size v l) (hp:w.heap[p]? = some (.cells #[.int .i64 i5,.int .i64 pt5,zz5] 60 (0,0))):
  Calls Tryz.prog 51 #[v,.func (.func 118) #[] #[.pointer (some ⟨p,0,none⟩)]] w fun e w'=>(∃r:Int,e = .returned (.int .i64 r)∧decide (0≤r)=hasP l pt5)∧Below w.heap.size w w':=by
 have H:=zD0 h
 have XP:=zD0 hp
 obtain⟨A,c,rfl,hcl,hcm⟩:=h.slice
 have hml:l.length≤9223372036854775807:=by unfold maxLen at hcm;omega
 obtain⟨n,hn⟩:=zD1 (l.length)
 have HN:=zD0 hn
 have HA:=zD0 (show zX w w.heap.size (.slice A n c) l by rw[hn];exact H.out)
 rw[←hn] at hml⊢
 clear hn H hcl hcm h hp
 go_enter Tryz.func51,Tryz.ntmps51
 go_wp2_with fail
 go_loopw [8] (fun s8 wr=>∃i:Nat,i≤n∧s8 = .int .i64 i∧(∀j (hj:j<i) (hl:j<l.length),l[j].2.1≠pt5)∧Below w.heap.size w wr) (fun s8 _=>n-(intOf s8).toNat)
 case atStart=>exact⟨0,by omega,by go_num,fun j hj=>absurd hj (by omega),Below.refl _ _⟩
 case round=>
  obtain⟨i,hi,rfl,hall,hb⟩:=hrel
  have HALL:=zD0 hall
  have BW:=zD0 hb
  clear hall hb
  by_cases hlt:i<n
  ·have hlt':(i:Int)<n:=by omega
   have hir:i<l.length:=by rw[←HN.out];exact hlt
   obtain⟨b,off,rfl,hb,hc0,hc1,u,hc2,hu⟩:=((HA.out.below zN BW.out).more zN BW.out.size).at hir
   obtain⟨Au,cu,rfl,-,-⟩:=hu.slice
   obtain⟨id,pt,es,hs⟩:∃id pt es,l[i]=(id,pt,es):=⟨_,_,_,rfl⟩
   rw[hs] at hc0 hc1 hc2
   have HS:=zD0 hs
   have hg0:wr.cell? ⟨b,off+i*3,none⟩=some (.int .i64 id):=hc0
   have hg1:wr.cell? ⟨b,off+i*3+1,none⟩=some (.int .i64 pt):=hc1
   obtain⟨ne,hne⟩:=zD1 (es.length)
   have hg2:wr.cell? ⟨b,off+i*3+2,none⟩=some (.slice Au ne cu):=by rw[hne];exact hc2
   have XW:=zD0 ((BW.out.block _ (zA XP.out)).trans XP.out)
   clear hc0 hc1 hc2 hu hne hs hb
   by_cases he:pt=pt5
   ·have HD:Hid (sameP pt pt5=true):=zD0 (decide_eq_true he)
    have HR:Hid (decide (0≤(i:Int))=hasP l pt5):=zD0 (by rw[hasP_true hir (by rw[HS.out];exact he)];exact decide_eq_true (by omega))
    clear he
    have hd:=HD.out
    go_wp2_with fail
    refine(other_any id pt Au ne cu p i5 pt5 zz5 wr XW.out).mono ?_
    rintro e w1 ⟨rfl,b1⟩
    have B1:=zD0 (BW.out.trans (b1.mono BW.out.size))
    clear b1
    go_wp2_with fail
    go_ret
    exact⟨⟨_,rfl,HR.out⟩,B1.out⟩
   ·have HD:Hid (sameP pt pt5=false):=zD0 (decide_eq_false he)
    have NX:Hid (∀j (hj:j<i+1) (hl:j<l.length),l[j].2.1≠pt5):=zD0 (fun j hj hl=>by
     rcases Nat.lt_or_ge j i with h|h
     ·exact HALL.out j h hl
     ·obtain rfl:j=i:=by omega
      rw[HS.out];exact he)
    clear he
    have hd:=HD.out
    go_wp2_with fail
    refine(other_any id pt Au ne cu p i5 pt5 zz5 wr XW.out).mono ?_
    rintro e w1 ⟨rfl,b1⟩
    have B1:=zD0 (BW.out.trans (b1.mono BW.out.size))
    clear b1
    go_wp2_with fail
    go_roundw
    case measure=>simp[intOf];omega
    case rel=>exact⟨i+1,by omega,by go_num,NX.out,B1.out⟩
  ·obtain rfl:i=n:=by omega
   have hlt':¬(i:Int)<i:=by omega
   have HR:Hid (decide (0≤(-1:Int))=hasP l pt5):=zD0 (by rw[hasP_false fun j hj=>HALL.out j (by rw[HN.out];exact hj) hj];rfl)
   go_wp2_with fail
   go_ret
   exact⟨⟨_,rfl,HR.out⟩,BW.out⟩
theorem zDz (v:Value) (l:List Sec) (p:Nat) (i5 pt5:Int) (zz5:Value) (w:World) (h:zX w w.heap.size v l) (hp:w.heap[p]? = some (.cells #[.int .i64 i5,.int .i64 pt5,zz5] 60 (0,0))):
  Calls Tryz.prog 25 #[v,.func (.func 118) #[] #[.pointer (some ⟨p,0,none⟩)]] w fun e w'=>e = .returned (.bool (hasP l pt5))∧Below w.heap.size w w':=by
 have H:=zD0 h
 have XP:=zD0 hp
 obtain⟨A,c,rfl,-,-⟩:=h.slice
 obtain⟨n,hn⟩:=zD1 (l.length)
 rw[←hn] at H⊢
 clear h hp hn
 generalize hg:hasP l pt5=g
 have HG:=zD0 hg
 clear hg
 go_enter Tryz.func25,Tryz.ntmps25
 go_wp2_with fail
 refine(indexf_any _ l p i5 pt5 zz5 w H.out XP.out).mono ?_
 rintro e w1 ⟨⟨r,rfl,hr⟩,b1⟩
 have B1:=zD0 b1
 have hr':decide (0≤r)=g:=hr.trans HG.out
 clear b1 hr
 go_wp2_with fail
 go_ret
 exact⟨rfl,B1.out⟩
theorem xC.take {α:Type} {sz:Nat} {R:El α} {W:World} {B n c:Nat} {A:Option Addr} {xs:List α} (h:xC sz R W B (.slice A n c) xs) {i:Nat} (hi:i≤n):xC sz R W B (.slice A i c) (xs.take i):=by
 obtain⟨A',cap,e,h1,h2,hn,h3⟩:=h
 cases e
 have hl:(xs.take i).length=i:=by rw[List.length_take];omega
 refine⟨A,c,by rw[hl],by omega,h2,hn,fun hp=>?_⟩
 obtain⟨b,off,ha,hb,hc⟩:=h3 (by omega)
 refine⟨b,off,ha,hb,fun j hj=>?_⟩
 rw[List.getElem_take]
 exact hc j (by omega)
theorem xV {W:World} {p:Nat} {c:Array Value} {t:TypeId} {fr:Nat×Nat} (h:W.heap[p]? = some (.cells c t fr)) (j:Nat) (v:Value) (hv:c[j]? = some v):W.cell? ⟨p,j,none⟩=some v:=by rw[cell_of_row _ _ j c t fr h];exact hv
set_option maxHeartbeats 8000000 in
theorem kV (v:Value) (s:Sec) (a b:Int) (w:World) (h:SecV w w.heap.size v s):
  Calls Tryz.prog 130 #[v,.int .i64 a,.int .i64 b] w fun e w'=>e = .returned (.tuple #[.int .i64 (vN s a b),.int .i64 (vC s a b)])∧Below w.heap.size w w':=by
 have H:=zD0 h
 obtain⟨u,rfl,hu⟩:=h
 obtain⟨A,c,rfl,-,-⟩:=hu.slice
 obtain⟨id,pt,l⟩:=s
 dsimp only at hu H⊢
 obtain⟨n,hn⟩:=zD1 (l.length)
 have HE0:Hid (vC (id,pt,l) a b=if qQ (id,pt,l) then (if xG pt a b<0 then 2 else 0) else 8):=zD0 rfl
 have HL0:Hid (vN (id,pt,l) a b=if vC (id,pt,l) a b=0 then xG pt a b else 0):=zD0 rfl
 have HWY:Hid (kQ (id,pt,l)=if qQ (id,pt,l) then (if pt=0 then ways1 else ways2) else zBq):=zD0 rfl
 rw[←hn] at H⊢
 clear hu hn
 have hq0:=zB w (.cells #[.int .i64 id,.int .i64 pt,.slice A n c] 60)
 have hqb:=zD w (.cells #[.int .i64 id,.int .i64 pt,.slice A n c] 60)
 go_enter Tryz.func130,Tryz.ntmps130
 go_upto_region 1 with fail
 generalize w.alloc (.cells #[.int .i64 id,.int .i64 pt,.slice A n c] 60)=q at hq0 hqb⊢
 have X0:=zD0 hq0
 have QB:=zD0 hqb
 clear hq0 hqb
 obtain⟨k0,k1,k2⟩:=zC X0.out
 go_wp2_with fail
 refine(zCy _ (id,pt,l) q ((H.out.below QB.out).more QB.out.size)).mono ?_
 rintro e w1 ⟨rfl,b1⟩
 have B1:=zD0 (QB.out.trans (b1.mono QB.out.size))
 clear b1 k0 k1 k2
 have hz0:=zB w1 (.cells (kQ (id,pt,l)) 170)
 have hzb:=zD w1 (.cells (kQ (id,pt,l)) 170)
 obtain⟨q8,hq8⟩:=zD1 (w1.alloc (.cells (kQ (id,pt,l)) 170))
 rw[←hq8] at hz0 hzb
 have hi18:(Tryz.prog.info? 170).map (·.size)=some 18:=by kernel_rfl
 have h18:(kQ (id,pt,l)).size=18∧(kQ (id,pt,l)).all (·.oneCell')=true:=by
  rw[kQ]
  split
  ·split
   ·exact⟨rfl,ways1_one⟩
   ·exact⟨rfl,ways2_one⟩
  ·exact⟨rfl,zBi⟩
 have H18:=zD0 h18
 have HI18:=zD0 hi18
 clear h18 hi18
 generalize hW:kQ (id,pt,l)=W18 at hz0 hzb hq8 H18 HWY⊢
 clear hW
 generalize hs:qQ (id,pt,l)=sh at HE0 HWY⊢
 clear hs
 go_upto_region 2 with((with_reducible show wpList _ _ _ (⟨none,_,_,_,_,_⟩::_) _ _);refine xT (c:=zBq) rfl _ (.tmp 8) (.tmp 13) rfl w1.heap.size rfl rfl (zB _ _) (by rw[H18.out.1];exact HI18.out) (by rw[H18.out.1];rfl) H18.out.2 ?_;rw[World.setRow_alloc_new])
 rw[←hq8]
 have B8:=zD0 (B1.out.trans (hzb.mono B1.out.size))
 have X8:=zD0 hz0
 generalize w1.heap.size=p8 at X8⊢
 clear hz0 hzb hq8
 cases sh with
 | false=>
  have HE:Hid (vC (id,pt,l) a b=8):=zD0 (HE0.out.trans rfl)
  have HL:Hid (vN (id,pt,l) a b=0):=zD0 (by rw[HL0.out,HE.out];rfl)
  clear HE0 HL0
  go_wp2_with fail
  refine bodyPost_ret (results_tmp2 rfl _ _ _) rfl ?_
  exact⟨by rw[HE.out,HL.out];rfl,B8.out⟩
 | true=>
  have HE1:Hid (vC (id,pt,l) a b=if xG pt a b<0 then 2 else 0):=zD0 (HE0.out.trans (if_pos rfl))
  have HW1:Hid (W18=if pt=0 then ways1 else ways2):=zD0 (HWY.out.trans (if_pos rfl))
  clear HE0 HWY
  by_cases ha:a=0∨a=1∨a=2
  ·by_cases hb:b=0∨b=1∨b=2
   ·by_cases h0:pt=0
    ·subst h0
     have X9:Hid (q8.heap[p8]? = some (.cells ways1 170 (0,0))):=zD0 (by rw[X8.out,HW1.out,if_pos rfl])
     clear X8 HW1
     rcases ha with rfl|rfl|rfl<;>rcases hb with rfl|rfl|rfl
     ·have hb1:=xV X9.out 0 (.bool false) rfl
      have hb2:=xV X9.out 1 (.int .i64 0) rfl
      have hm0:kZ 0=true:=rfl
      have hm1:kZ 0=true:=rfl
      have HE:Hid (vC (id,0,l) 0 0=2):=zD0 (by rw[HE1.out,show xG 0 0 0 = -1 from rfl];rfl)
      have HL:Hid (vN (id,0,l) 0 0=0):=zD0 (by rw[HL0.out,HE.out];rfl)
      clear HE1 HL0
      go_wp2_with (refine(kE _ _).mono ?_;rintro e w' ⟨rfl,rfl⟩)
      refine bodyPost_ret (results_tmp2 rfl _ _ _) rfl ?_
      exact⟨by rw[HE.out,HL.out];rfl,B8.out⟩
     ·have hb1:=xV X9.out 2 (.bool true) rfl
      have hb2:=xV X9.out 3 (.int .i64 0) rfl
      have hm0:kZ 0=true:=rfl
      have hm1:kZ 1=true:=rfl
      have HE:Hid (vC (id,0,l) 0 1=0):=zD0 (by rw[HE1.out,show xG 0 0 1=0 from rfl];rfl)
      have HL:Hid (vN (id,0,l) 0 1=0):=zD0 (by rw[HL0.out,HE.out,show xG 0 0 1=0 from rfl];rfl)
      clear HE1 HL0
      go_wp2_with (refine(kE _ _).mono ?_;rintro e w' ⟨rfl,rfl⟩)
      refine bodyPost_ret (results_tmp2 rfl _ _ _) rfl ?_
      exact⟨by rw[HE.out,HL.out];rfl,B8.out⟩
     ·have hb1:=xV X9.out 4 (.bool false) rfl
      have hb2:=xV X9.out 5 (.int .i64 0) rfl
      have hm0:kZ 0=true:=rfl
      have hm1:kZ 2=true:=rfl
      have HE:Hid (vC (id,0,l) 0 2=2):=zD0 (by rw[HE1.out,show xG 0 0 2 = -1 from rfl];rfl)
      have HL:Hid (vN (id,0,l) 0 2=0):=zD0 (by rw[HL0.out,HE.out];rfl)
      clear HE1 HL0
      go_wp2_with (refine(kE _ _).mono ?_;rintro e w' ⟨rfl,rfl⟩)
      refine bodyPost_ret (results_tmp2 rfl _ _ _) rfl ?_
      exact⟨by rw[HE.out,HL.out];rfl,B8.out⟩
     ·have hb1:=xV X9.out 6 (.bool true) rfl
      have hb2:=xV X9.out 7 (.int .i64 0) rfl
      have hm0:kZ 1=true:=rfl
      have hm1:kZ 0=true:=rfl
      have HE:Hid (vC (id,0,l) 1 0=0):=zD0 (by rw[HE1.out,show xG 0 1 0=0 from rfl];rfl)
      have HL:Hid (vN (id,0,l) 1 0=0):=zD0 (by rw[HL0.out,HE.out,show xG 0 1 0=0 from rfl];rfl)
      clear HE1 HL0
      go_wp2_with (refine(kE _ _).mono ?_;rintro e w' ⟨rfl,rfl⟩)
      refine bodyPost_ret (results_tmp2 rfl _ _ _) rfl ?_
      exact⟨by rw[HE.out,HL.out];rfl,B8.out⟩
     ·have hb1:=xV X9.out 8 (.bool false) rfl
      have hb2:=xV X9.out 9 (.int .i64 0) rfl
      have hm0:kZ 1=true:=rfl
      have hm1:kZ 1=true:=rfl
      have HE:Hid (vC (id,0,l) 1 1=2):=zD0 (by rw[HE1.out,show xG 0 1 1 = -1 from rfl];rfl)
      have HL:Hid (vN (id,0,l) 1 1=0):=zD0 (by rw[HL0.out,HE.out];rfl)
      clear HE1 HL0
      go_wp2_with (refine(kE _ _).mono ?_;rintro e w' ⟨rfl,rfl⟩)
      refine bodyPost_ret (results_tmp2 rfl _ _ _) rfl ?_
      exact⟨by rw[HE.out,HL.out];rfl,B8.out⟩
     ·have hb1:=xV X9.out 10 (.bool false) rfl
      have hb2:=xV X9.out 11 (.int .i64 0) rfl
      have hm0:kZ 1=true:=rfl
      have hm1:kZ 2=true:=rfl
      have HE:Hid (vC (id,0,l) 1 2=2):=zD0 (by rw[HE1.out,show xG 0 1 2 = -1 from rfl];rfl)
      have HL:Hid (vN (id,0,l) 1 2=0):=zD0 (by rw[HL0.out,HE.out];rfl)
      clear HE1 HL0
      go_wp2_with (refine(kE _ _).mono ?_;rintro e w' ⟨rfl,rfl⟩)
      refine bodyPost_ret (results_tmp2 rfl _ _ _) rfl ?_
      exact⟨by rw[HE.out,HL.out];rfl,B8.out⟩
     ·have hb1:=xV X9.out 12 (.bool false) rfl
      have hb2:=xV X9.out 13 (.int .i64 0) rfl
      have hm0:kZ 2=true:=rfl
      have hm1:kZ 0=true:=rfl
      have HE:Hid (vC (id,0,l) 2 0=2):=zD0 (by rw[HE1.out,show xG 0 2 0 = -1 from rfl];rfl)
      have HL:Hid (vN (id,0,l) 2 0=0):=zD0 (by rw[HL0.out,HE.out];rfl)
      clear HE1 HL0
      go_wp2_with (refine(kE _ _).mono ?_;rintro e w' ⟨rfl,rfl⟩)
      refine bodyPost_ret (results_tmp2 rfl _ _ _) rfl ?_
      exact⟨by rw[HE.out,HL.out];rfl,B8.out⟩
     ·have hb1:=xV X9.out 14 (.bool false) rfl
      have hb2:=xV X9.out 15 (.int .i64 0) rfl
      have hm0:kZ 2=true:=rfl
      have hm1:kZ 1=true:=rfl
      have HE:Hid (vC (id,0,l) 2 1=2):=zD0 (by rw[HE1.out,show xG 0 2 1 = -1 from rfl];rfl)
      have HL:Hid (vN (id,0,l) 2 1=0):=zD0 (by rw[HL0.out,HE.out];rfl)
      clear HE1 HL0
      go_wp2_with (refine(kE _ _).mono ?_;rintro e w' ⟨rfl,rfl⟩)
      refine bodyPost_ret (results_tmp2 rfl _ _ _) rfl ?_
      exact⟨by rw[HE.out,HL.out];rfl,B8.out⟩
     ·have hb1:=xV X9.out 16 (.bool false) rfl
      have hb2:=xV X9.out 17 (.int .i64 0) rfl
      have hm0:kZ 2=true:=rfl
      have hm1:kZ 2=true:=rfl
      have HE:Hid (vC (id,0,l) 2 2=2):=zD0 (by rw[HE1.out,show xG 0 2 2 = -1 from rfl];rfl)
      have HL:Hid (vN (id,0,l) 2 2=0):=zD0 (by rw[HL0.out,HE.out];rfl)
      clear HE1 HL0
      go_wp2_with (refine(kE _ _).mono ?_;rintro e w' ⟨rfl,rfl⟩)
      refine bodyPost_ret (results_tmp2 rfl _ _ _) rfl ?_
      exact⟨by rw[HE.out,HL.out];rfl,B8.out⟩
    ·have X9:Hid (q8.heap[p8]? = some (.cells ways2 170 (0,0))):=zD0 (by rw[X8.out,HW1.out,if_neg h0])
     clear X8 HW1
     rcases ha with rfl|rfl|rfl<;>rcases hb with rfl|rfl|rfl
     ·have hb1:=xV X9.out 0 (.bool false) rfl
      have hb2:=xV X9.out 1 (.int .i64 0) rfl
      have hm0:kZ 0=true:=rfl
      have hm1:kZ 0=true:=rfl
      have HE:Hid (vC (id,pt,l) 0 0=2):=zD0 (by rw[HE1.out,show xG pt 0 0 = -1 from by simp[xG,h0]];rfl)
      have HL:Hid (vN (id,pt,l) 0 0=0):=zD0 (by rw[HL0.out,HE.out];rfl)
      clear HE1 HL0
      go_wp2_with (refine(kE _ _).mono ?_;rintro e w' ⟨rfl,rfl⟩)
      refine bodyPost_ret (results_tmp2 rfl _ _ _) rfl ?_
      exact⟨by rw[HE.out,HL.out];rfl,B8.out⟩
     ·have hb1:=xV X9.out 2 (.bool true) rfl
      have hb2:=xV X9.out 3 (.int .i64 1) rfl
      have hm0:kZ 0=true:=rfl
      have hm1:kZ 1=true:=rfl
      have HE:Hid (vC (id,pt,l) 0 1=0):=zD0 (by rw[HE1.out,show xG pt 0 1=1 from by simp[xG,h0]];rfl)
      have HL:Hid (vN (id,pt,l) 0 1=1):=zD0 (by rw[HL0.out,HE.out,show xG pt 0 1=1 from by simp[xG,h0]];rfl)
      clear HE1 HL0
      go_wp2_with (refine(kE _ _).mono ?_;rintro e w' ⟨rfl,rfl⟩)
      refine bodyPost_ret (results_tmp2 rfl _ _ _) rfl ?_
      exact⟨by rw[HE.out,HL.out];rfl,B8.out⟩
     ·have hb1:=xV X9.out 4 (.bool true) rfl
      have hb2:=xV X9.out 5 (.int .i64 2) rfl
      have hm0:kZ 0=true:=rfl
      have hm1:kZ 2=true:=rfl
      have HE:Hid (vC (id,pt,l) 0 2=0):=zD0 (by rw[HE1.out,show xG pt 0 2=2 from by simp[xG,h0]];rfl)
      have HL:Hid (vN (id,pt,l) 0 2=2):=zD0 (by rw[HL0.out,HE.out,show xG pt 0 2=2 from by simp[xG,h0]];rfl)
      clear HE1 HL0
      go_wp2_with (refine(kE _ _).mono ?_;rintro e w' ⟨rfl,rfl⟩)
      refine bodyPost_ret (results_tmp2 rfl _ _ _) rfl ?_
      exact⟨by rw[HE.out,HL.out];rfl,B8.out⟩
     ·have hb1:=xV X9.out 6 (.bool true) rfl
      have hb2:=xV X9.out 7 (.int .i64 1) rfl
      have hm0:kZ 1=true:=rfl
      have hm1:kZ 0=true:=rfl
      have HE:Hid (vC (id,pt,l) 1 0=0):=zD0 (by rw[HE1.out,show xG pt 1 0=1 from by simp[xG,h0]];rfl)
      have HL:Hid (vN (id,pt,l) 1 0=1):=zD0 (by rw[HL0.out,HE.out,show xG pt 1 0=1 from by simp[xG,h0]];rfl)
      clear HE1 HL0
      go_wp2_with (refine(kE _ _).mono ?_;rintro e w' ⟨rfl,rfl⟩)
      refine bodyPost_ret (results_tmp2 rfl _ _ _) rfl ?_
      exact⟨by rw[HE.out,HL.out];rfl,B8.out⟩
     ·have hb1:=xV X9.out 8 (.bool false) rfl
      have hb2:=xV X9.out 9 (.int .i64 0) rfl
      have hm0:kZ 1=true:=rfl
      have hm1:kZ 1=true:=rfl
      have HE:Hid (vC (id,pt,l) 1 1=2):=zD0 (by rw[HE1.out,show xG pt 1 1 = -1 from by simp[xG,h0]];rfl)
      have HL:Hid (vN (id,pt,l) 1 1=0):=zD0 (by rw[HL0.out,HE.out];rfl)
      clear HE1 HL0
      go_wp2_with (refine(kE _ _).mono ?_;rintro e w' ⟨rfl,rfl⟩)
      refine bodyPost_ret (results_tmp2 rfl _ _ _) rfl ?_
      exact⟨by rw[HE.out,HL.out];rfl,B8.out⟩
     ·have hb1:=xV X9.out 10 (.bool false) rfl
      have hb2:=xV X9.out 11 (.int .i64 0) rfl
      have hm0:kZ 1=true:=rfl
      have hm1:kZ 2=true:=rfl
      have HE:Hid (vC (id,pt,l) 1 2=2):=zD0 (by rw[HE1.out,show xG pt 1 2 = -1 from by simp[xG,h0]];rfl)
      have HL:Hid (vN (id,pt,l) 1 2=0):=zD0 (by rw[HL0.out,HE.out];rfl)
      clear HE1 HL0
      go_wp2_with (refine(kE _ _).mono ?_;rintro e w' ⟨rfl,rfl⟩)
      refine bodyPost_ret (results_tmp2 rfl _ _ _) rfl ?_
      exact⟨by rw[HE.out,HL.out];rfl,B8.out⟩
     ·have hb1:=xV X9.out 12 (.bool true) rfl
      have hb2:=xV X9.out 13 (.int .i64 2) rfl
      have hm0:kZ 2=true:=rfl
      have hm1:kZ 0=true:=rfl
      have HE:Hid (vC (id,pt,l) 2 0=0):=zD0 (by rw[HE1.out,show xG pt 2 0=2 from by simp[xG,h0]];rfl)
      have HL:Hid (vN (id,pt,l) 2 0=2):=zD0 (by rw[HL0.out,HE.out,show xG pt 2 0=2 from by simp[xG,h0]];rfl)
      clear HE1 HL0
      go_wp2_with (refine(kE _ _).mono ?_;rintro e w' ⟨rfl,rfl⟩)
      refine bodyPost_ret (results_tmp2 rfl _ _ _) rfl ?_
      exact⟨by rw[HE.out,HL.out];rfl,B8.out⟩
     ·have hb1:=xV X9.out 14 (.bool false) rfl
      have hb2:=xV X9.out 15 (.int .i64 0) rfl
      have hm0:kZ 2=true:=rfl
      have hm1:kZ 1=true:=rfl
      have HE:Hid (vC (id,pt,l) 2 1=2):=zD0 (by rw[HE1.out,show xG pt 2 1 = -1 from by simp[xG,h0]];rfl)
      have HL:Hid (vN (id,pt,l) 2 1=0):=zD0 (by rw[HL0.out,HE.out];rfl)
      clear HE1 HL0
      go_wp2_with (refine(kE _ _).mono ?_;rintro e w' ⟨rfl,rfl⟩)
      refine bodyPost_ret (results_tmp2 rfl _ _ _) rfl ?_
      exact⟨by rw[HE.out,HL.out];rfl,B8.out⟩
     ·have hb1:=xV X9.out 16 (.bool false) rfl
      have hb2:=xV X9.out 17 (.int .i64 0) rfl
      have hm0:kZ 2=true:=rfl
      have hm1:kZ 2=true:=rfl
      have HE:Hid (vC (id,pt,l) 2 2=2):=zD0 (by rw[HE1.out,show xG pt 2 2 = -1 from by simp[xG,h0]];rfl)
      have HL:Hid (vN (id,pt,l) 2 2=0):=zD0 (by rw[HL0.out,HE.out];rfl)
      clear HE1 HL0
      go_wp2_with (refine(kE _ _).mono ?_;rintro e w' ⟨rfl,rfl⟩)
      refine bodyPost_ret (results_tmp2 rfl _ _ _) rfl ?_
      exact⟨by rw[HE.out,HL.out];rfl,B8.out⟩
   ·have HE:Hid (vC (id,pt,l) a b=2):=zD0 (by
     rw[HE1.out,show xG pt a b = -1 from by
      rw[xG]
      split
      ·rw[if_neg (by omega)]
      ·rw[if_neg (by omega),if_neg (by rintro⟨rfl,h⟩;exact hb (.inl rfl))]]
     rfl)
    have HL:Hid (vN (id,pt,l) a b=0):=zD0 (by rw[HL0.out,HE.out];rfl)
    have hm0:kZ a=true:=decide_eq_true (by omega)
    have hm1:kZ b=false:=decide_eq_false (by omega)
    clear HE1 HL0 ha hb
    go_wp2_with (refine(kE _ _).mono ?_;rintro e w' ⟨rfl,rfl⟩)
    refine bodyPost_ret (results_tmp2 rfl _ _ _) rfl ?_
    exact⟨by rw[HE.out,HL.out];rfl,B8.out⟩
  ·have HE:Hid (vC (id,pt,l) a b=2):=zD0 (by
    rw[HE1.out,show xG pt a b = -1 from by
     rw[xG]
     split
     ·rw[if_neg (by omega)]
     ·rw[if_neg (by omega),if_neg (by omega)]]
    rfl)
   have HL:Hid (vN (id,pt,l) a b=0):=zD0 (by rw[HL0.out,HE.out];rfl)
   have hm0:kZ a=false:=decide_eq_false (by omega)
   clear HE1 HL0 ha
   go_wp2_with (refine(kE _ _).mono ?_;rintro e w' ⟨rfl,rfl⟩)
   refine bodyPost_ret (results_tmp2 rfl _ _ _) rfl ?_
   exact⟨by rw[HE.out,HL.out];rfl,B8.out⟩
end Go.Proofs.YtemmgmjhomgbbaaGreat
