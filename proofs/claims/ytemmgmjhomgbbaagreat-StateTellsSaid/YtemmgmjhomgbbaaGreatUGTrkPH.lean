/-
 The program's package track: ordered.
 Conditions: none.
-/
import Derived.Test.YtemmgmjhomgbbaaGreatUGTrkPA
set_option linter.unusedVariables false
set_option linter.unusedSimpArgs false
set_option maxRecDepth 100000
namespace Go.Proofs.YtemmgmjhomgbbaaGreat
open Go.RowKit
structure OrdT (l:List Sec):Prop where
 s:∀i (h:i<l.length),1≤l[i].1∧l[i].1≤99∧qQ l[i]=true
 k:∀i j (hj:j<i) (hi:i<l.length),(l[j]'(by omega)).1<l[i].1∧¬(l[i].2.1≠0∧(l[j]'(by omega)).2.1=l[i].2.1)
noncomputable def ordT (l:List Sec):Bool:=@decide (OrdT l) (Classical.propDecidable _)
theorem ordT_true {l:List Sec} (h:OrdT l):ordT l=true:=by rw[ordT];exact @decide_eq_true _ (Classical.propDecidable _) h
theorem zBk {l:List Sec} (h:¬OrdT l):ordT l=false:=by rw[ordT];exact @decide_eq_false _ (Classical.propDecidable _) h
theorem ordT_iff {l:List Sec}:ordT l=true↔OrdT l:=by rw[ordT];exact @decide_eq_true_iff _ (Classical.propDecidable _)
def LastT (l:List Sec) (i:Nat) (z:Int):Prop:=(i=0∧z=0)∨∃h:i-1<l.length,0<i∧z=l[i-1].1
set_option maxHeartbeats 8000000 in
theorem zDj (v:Value) (l:List Sec) (w:World) (h:zX w w.heap.size v l):
  Calls Tryz.prog 101 #[v] w fun e w'=>e = .returned (.bool (ordT l))∧Below w.heap.size w w':=by
 have H:=zD0 h
 obtain⟨A,c,rfl,hcl,hcm⟩:=h.slice
 have hml:l.length≤9223372036854775807:=by unfold maxLen at hcm;omega
 obtain⟨n,hn⟩:=zD1 (l.length)
 have HN:=zD0 hn
 have HA:=zD0 (show zX w w.heap.size (.slice A n c) l by rw[hn];exact H.out)
 rw[←hn] at hml hcl⊢
 clear hn H hcm h
 go_enter Tryz.func101,Tryz.ntmps101
 go_wp2_with fail
 go_loopw [3,11] (fun s3 s11 wr=>∃(i:Nat) (z:Int),i≤n∧s11 = .int .i64 i∧s3 = .int .i64 z∧LastT l i z∧(∀i' (hi:i'<i) (hl:i'<l.length),(1≤l[i'].1∧l[i'].1≤99∧qQ l[i']=true)∧∀j (hj:j<i'),(l[j]'(by omega)).1<l[i'].1∧¬(l[i'].2.1≠0∧(l[j]'(by omega)).2.1=l[i'].2.1))∧Below w.heap.size w wr) (fun _ s11 _=>n-(intOf s11).toNat)
 case atStart=>exact⟨0,0,by omega,by go_num,by go_num,.inl ⟨rfl,rfl⟩,fun i' hi=>absurd hi (by omega),Below.refl _ _⟩
 case round=>
  obtain⟨i,z,hi,rfl,rfl,hz,hall,hb⟩:=hrel
  have HZ:=zD0 hz
  have HALL:=zD0 hall
  have BW:=zD0 hb
  clear hall hb hz
  by_cases hlt:i<n
  ·have hlt':(i:Int)<n:=by omega
   have hic:(i:Int)≤c:=by omega
   have hir:i<l.length:=by rw[←HN.out];exact hlt
   have HTK0:=zD0 (((HA.out.below zN BW.out).more zN BW.out.size).take (Nat.le_of_lt hlt))
   obtain⟨b,off,rfl,hb,hc0,hc1,u,hc2,hu⟩:=((HA.out.below zN BW.out).more zN BW.out.size).at hir
   obtain⟨id,pt,es,hs⟩:∃id pt es,l[i]=(id,pt,es):=⟨_,_,_,rfl⟩
   have HS:=zD0 hs
   rw[hs] at hc0 hc1 hu
   dsimp only at hc0 hc1 hu
   obtain⟨Au,cu,rfl,-,-⟩:=hu.slice
   obtain⟨ne,hne⟩:=zD1 (es.length)
   rw[←hne] at hc2
   have hg0:wr.cell? ⟨b,off+i*3,none⟩=some (.int .i64 id):=hc0
   have hg1:wr.cell? ⟨b,off+i*3+1,none⟩=some (.int .i64 pt):=hc1
   have hg2:wr.cell? ⟨b,off+i*3+2,none⟩=some (.slice Au ne cu):=hc2
   have HSV:Hid (SecV wr wr.heap.size (.agg #[.int .i64 id,.int .i64 pt,.slice Au ne cu]) (id,pt,es)):=zD0 ⟨_,rfl,by rw[hne];exact hu⟩
   have hx4:=zB wr (.cells #[.int .i64 id,.int .i64 pt,.slice Au ne cu] 60)
   have hb4:=zD wr (.cells #[.int .i64 id,.int .i64 pt,.slice Au ne cu] 60)
   obtain⟨q,hq⟩:=zD1 (wr.alloc (.cells #[.int .i64 id,.int .i64 pt,.slice Au ne cu] 60))
   rw[←hq] at hx4 hb4
   have X4:=zD0 hx4
   have B4:=zD0 hb4
   have HQ:=zD0 hq
   have BQ:=zD0 (BW.out.trans (hb4.mono BW.out.size))
   have HTK:=zD0 ((HTK0.out.below zN hb4).more zN hb4.size)
   have HSVQ:Hid (SecV q q.heap.size (.agg #[.int .i64 id,.int .i64 pt,.slice Au ne cu]) (id,pt,es)):=zD0 ((HSV.out.below hb4).more hb4.size)
   clear hc0 hc1 hc2 hu hne hs hx4 hb4 hq hb
   go_upto_region 5 with fail
   rw[←HQ.out]
   clear hg0 hg1 hg2 HQ HTK0 HSV
   generalize hp4:wr.heap.size=p4 at X4⊢
   clear hp4
   obtain⟨k0,k1,k2⟩:=zC X4.out
   by_cases h1:id≤z
   ·have h1d:decide (id≤z)=true:=decide_eq_true h1
    have HF:Hid (ordT l=false):=zD0 (zBk fun h=>by
     rcases HZ.out with⟨rfl,hz0⟩|⟨hr,hp,hz0⟩
     ·have:=(h.s 0 hir).1;rw[HS.out] at this;dsimp only at this;omega
     ·have:=(h.k i (i-1) (by omega) hir).1;rw[HS.out,←hz0] at this;dsimp only at this;omega)
    clear h1
    go_wp2_with fail
    go_ret
    exact⟨by rw[HF.out];rfl,BQ.out⟩
   have h1d:decide (id≤z)=false:=decide_eq_false h1
   have H1:=zD0 h1
   clear h1
   by_cases h2:99<id
   ·have h2d:decide (99<id)=true:=decide_eq_true h2
    have HF:Hid (ordT l=false):=zD0 (zBk fun h=>by have:=(h.s i hir).2.1;rw[HS.out] at this;exact absurd this (by omega))
    clear h2
    go_wp2_with fail
    go_ret
    exact⟨by rw[HF.out];rfl,BQ.out⟩
   have h2d:decide (99<id)=false:=decide_eq_false h2
   have H2:=zD0 h2
   clear h2
   have REST:Hid (¬(pt≠0∧hasP (l.take i) pt=true)→qQ (id,pt,es)=true→LastT l (i+1) id∧(∀i' (hi:i'<i+1) (hl:i'<l.length),(1≤l[i'].1∧l[i'].1≤99∧qQ l[i']=true)∧∀j (hj:j<i'),(l[j]'(by omega)).1<l[i'].1∧¬(l[i'].2.1≠0∧(l[j]'(by omega)).2.1=l[i'].2.1))):=zD0 (fun hp hsh=>by
    refine⟨.inr ⟨hir,by omega,?_⟩,fun i' hi' hl=>?_⟩
    ·show id=l[i].1
     rw[HS.out]
    ·rcases Nat.lt_or_ge i' i with h|h
     ·exact HALL.out i' h hl
     ·obtain rfl:i'=i:=by omega
      have hlast:∀j (hj:j<i'),(l[j]'(by omega)).1≤z∧1≤(l[j]'(by omega)).1:=fun j hj=>by
       refine⟨?_,((HALL.out j hj (by omega)).1).1⟩
       rcases HZ.out with⟨rfl,hz0⟩|⟨hr,hpp,hz0⟩
       ·omega
       ·rcases Nat.lt_or_ge j (i'-1) with h3|h3
        ·have:=((HALL.out (i'-1) (by omega) hr).2 j h3).1
         omega
        ·obtain rfl:j=i'-1:=by omega
         omega
      have hz1:0≤z:=by
       rcases HZ.out with⟨_,hz0⟩|⟨hr,hpp,hz0⟩
       ·omega
       ·have:=((HALL.out (i'-1) (by omega) hr).1).1;omega
      rw[HS.out]
      have g1:=H1.out
      have g2:=H2.out
      refine⟨⟨by show 1≤id;omega,by show id≤99;omega,hsh⟩,fun j hj=>⟨?_,fun hc=>hp ⟨hc.1,?_⟩⟩⟩
      ·have:=(hlast j hj).1;show l[j].1<id;omega
      ·exact hasP_iff.2 ⟨j,by rw[List.length_take];omega,by rw[List.getElem_take];exact hc.2⟩)
   by_cases h3:pt=0
   ·have h3b:(pt != 0)=false:=by simpa using h3
    have RST:=zD0 (REST.out (fun h=>h.1 h3))
    clear h3 REST
    go_wp2_with fail
    refine(zCy _ (id,pt,es) q HSVQ.out).mono ?_
    rintro e w2 ⟨rfl,b2⟩
    have B2:=zD0 (BQ.out.trans (b2.mono BQ.out.size))
    have X2:=zD0 ((b2.block _ (zA X4.out)).trans X4.out)
    clear b2 k0 k1 k2
    have hz0:=zD w2 (.cells (kQ (id,pt,es)) 170)
    have hx0:=(hz0.block _ (zA X2.out)).trans X2.out
    obtain⟨q8,hq8⟩:=zD1 (w2.alloc (.cells (kQ (id,pt,es)) 170))
    rw[←hq8] at hz0 hx0
    have H18:=zD0 (ways_size (id,pt,es))
    have HI18:=zD0 infoWays
    generalize hW:kQ (id,pt,es)=W18 at hq8 H18⊢
    clear hW
    generalize hs:qQ (id,pt,es)=sh at RST⊢
    have HSH:=zD0 hs
    clear hs
    go_upto_region 9 with((with_reducible show wpList _ _ _ (⟨none,_,_,_,_,_⟩::_) _ _);refine xT (c:=zBq) rfl _ (.tmp 7) (.tmp 41) rfl w2.heap.size rfl rfl (zB _ _) (by rw[H18.out.1];exact HI18.out) (by rw[H18.out.1];rfl) H18.out.2 ?_;rw[World.setRow_alloc_new])
    rw[←hq8]
    have B8:=zD0 (B2.out.trans (hz0.mono B2.out.size))
    have X8:=zD0 hx0
    clear hz0 hx0 hq8
    obtain⟨k0,k1,k2⟩:=zC X8.out
    cases sh with
    | false=>
     have HF:Hid (ordT l=false):=zD0 (zBk fun h=>by have:=(h.s i hir).2.2;rw[HS.out,HSH.out] at this;cases this)
     go_wp2_with fail
     go_ret
     exact⟨by rw[HF.out];rfl,B8.out⟩
    | true=>
     have RS:=zD0 (RST.out rfl)
     clear RST
     go_wp2_with fail
     go_roundw
     case measure=>simp[intOf];omega
     case rel=>exact⟨i+1,id,by omega,by go_num,rfl,RS.out.1,RS.out.2,B8.out⟩
   have h3b:(pt != 0)=true:=by simpa using h3
   cases h4:hasP (l.take i) pt with
   | true=>
    have HF:Hid (ordT l=false):=zD0 (zBk fun h=>by
     obtain⟨j,hj,he⟩:=hasP_iff.1 h4
     rw[List.length_take] at hj
     rw[List.getElem_take] at he
     have h5:=(h.k i j (by omega) hir).2
     rw[HS.out] at h5
     exact h5 ⟨h3,he⟩)
    clear h3
    have hd4:=h4
    go_wp2_with (refine(zDz _ (l.take i) p4 id pt (.slice Au ne cu) q HTK.out X4.out).mono ?_;rintro e w2 ⟨rfl,b2⟩;have B2:=zD0 (BQ.out.trans (b2.mono BQ.out.size));clear b2)
    go_ret
    exact⟨by rw[HF.out];rfl,B2.out⟩
   | false=>
    have RST:=zD0 (REST.out (fun h=>by rw[h4] at h;exact absurd h.2 (by decide)))
    have hd4:=h4
    clear h3 REST
    go_upto_region 8 with(refine(zDz _ (l.take i) p4 id pt (.slice Au ne cu) q HTK.out X4.out).mono ?_;rintro e w5 ⟨rfl,b5⟩;have B5:=zD0 b5;clear b5)
    have BQ5:=zD0 (BQ.out.trans (B5.out.mono BQ.out.size))
    have X45:=zD0 ((B5.out.block _ (zA X4.out)).trans X4.out)
    have HSV5:=zD0 ((HSVQ.out.below B5.out).more B5.out.size)
    clear h4 hd4 k0 k1 k2 BQ X4 HSVQ
    have BQ:=BQ5
    have X4:=X45
    clear BQ5 X45 B5
    obtain⟨k0,k1,k2⟩:=zC X4.out
    go_wp2_with fail
    refine(zCy _ (id,pt,es) _ HSV5.out).mono ?_
    rintro e w2 ⟨rfl,b2⟩
    have B2:=zD0 (BQ.out.trans (b2.mono BQ.out.size))
    have X2:=zD0 ((b2.block _ (zA X4.out)).trans X4.out)
    clear b2 k0 k1 k2
    have hz0:=zD w2 (.cells (kQ (id,pt,es)) 170)
    have hx0:=(hz0.block _ (zA X2.out)).trans X2.out
    obtain⟨q8,hq8⟩:=zD1 (w2.alloc (.cells (kQ (id,pt,es)) 170))
    rw[←hq8] at hz0 hx0
    have H18:=zD0 (ways_size (id,pt,es))
    have HI18:=zD0 infoWays
    generalize hW:kQ (id,pt,es)=W18 at hq8 H18⊢
    clear hW
    generalize hs:qQ (id,pt,es)=sh at RST⊢
    have HSH:=zD0 hs
    clear hs
    go_upto_region 9 with((with_reducible show wpList _ _ _ (⟨none,_,_,_,_,_⟩::_) _ _);refine xT (c:=zBq) rfl _ (.tmp 7) (.tmp 41) rfl w2.heap.size rfl rfl (zB _ _) (by rw[H18.out.1];exact HI18.out) (by rw[H18.out.1];rfl) H18.out.2 ?_;rw[World.setRow_alloc_new])
    rw[←hq8]
    have B8:=zD0 (B2.out.trans (hz0.mono B2.out.size))
    have X8:=zD0 hx0
    clear hz0 hx0 hq8
    obtain⟨k0,k1,k2⟩:=zC X8.out
    cases sh with
    | false=>
     have HF:Hid (ordT l=false):=zD0 (zBk fun h=>by have:=(h.s i hir).2.2;rw[HS.out,HSH.out] at this;cases this)
     go_wp2_with fail
     go_ret
     exact⟨by rw[HF.out];rfl,B8.out⟩
    | true=>
     have RS:=zD0 (RST.out rfl)
     clear RST
     go_wp2_with fail
     go_roundw
     case measure=>simp[intOf];omega
     case rel=>exact⟨i+1,id,by omega,by go_num,rfl,RS.out.1,RS.out.2,B8.out⟩
  ·obtain rfl:i=n:=by omega
   have hlt':¬(i:Int)<i:=by omega
   have HR:Hid (ordT l=true):=zD0 (ordT_true ⟨fun a ha=>(HALL.out a (by rw[HN.out];exact ha) ha).1,fun a b hb ha=>(HALL.out a (by rw[HN.out];exact ha) ha).2 b hb⟩)
   go_wp2_with fail
   go_ret
   exact⟨by rw[HR.out];rfl,BW.out⟩
def JndT (l:List Sec):Prop:=∀i k (hi:i<l.length),k<l[i].2.2.length→jI l l[i] k=true
noncomputable def jndT (l:List Sec):Bool:=@decide (JndT l) (Classical.propDecidable _)
theorem jndT_true {l:List Sec} (h:JndT l):jndT l=true:=by rw[jndT];exact @decide_eq_true _ (Classical.propDecidable _) h
theorem jndT_false {l:List Sec} (h:¬JndT l):jndT l=false:=by rw[jndT];exact @decide_eq_false _ (Classical.propDecidable _) h
theorem jndT_iff {l:List Sec}:jndT l=true↔JndT l:=by rw[jndT];exact @decide_eq_true_iff _ (Classical.propDecidable _)
theorem joined_joins {l:List Sec} {s:Sec} {k:Nat} {a b:Int} (hj:s.2.2.getD k (0,0)=(a,b)) (h0:¬(a=0∧b=0)) (hh:¬(a=s.1∧b=(k:Int))):jI l s k=joinsB l (a,b) (s.1,(k:Int)):=by
 rw[zB4 hj,if_neg h0,joinsB]
 dsimp only
 rcases vE l a with ha|⟨i,hi,ha,hie⟩
 ·rw[if_pos (.inl (by omega)),atB,ha];rfl
 ·have hB:atB l a=true:=by rw[atB,ha];exact decide_eq_true (by omega)
  have hV:atV l a=l[i]:=by rw[atV,hB,if_pos rfl,ha];simp[List.getD,List.getElem?_eq_getElem hi]
  have hG:l.getD (atS l a).toNat (0,0,[])=l[i]:=by rw[ha];simp[List.getD,List.getElem?_eq_getElem hi]
  rw[hB,hV,hG,Bool.true_and,ha]
  by_cases hb:0≤b∧b<(l[i].2.2.length:Int)
  ·have hL:zBt l[i] b=true:=decide_eq_true hb
   rw[if_neg (by rintro(h|h|h|h);omega;omega;omega;exact hh h),hL,Bool.true_and,zAq,hL,if_pos rfl]
  ·have hL:zBt l[i] b=false:=decide_eq_false hb
   rw[if_pos (by by_cases h1:b<0;exact .inr (.inl h1);exact .inr (.inr (.inl (by omega)))),hL];rfl
set_option maxHeartbeats 8000000 in
theorem joined7_any (v:Value) (l:List Sec) (w:World) (h:zX w w.heap.size v l) (hr:Rises l) (hl16:l.length≤16):
  Calls Tryz.prog 102 #[v] w fun e w'=>e = .returned (.bool (jndT l))∧Below w.heap.size w w':=by
 have H:=zD0 h
 have HRI:=zD0 hr
 obtain⟨A,c,rfl,-,-⟩:=h.slice
 obtain⟨n,hn⟩:=zD1 (l.length)
 have HN:=zD0 hn
 have hml:n≤16:=by omega
 have HA:=zD0 (show zX w w.heap.size (.slice A n c) l by rw[hn];exact H.out)
 rw[←hn]
 clear hn H h hr hl16
 go_enter Tryz.func102,Tryz.ntmps102
 go_wp2_with fail
 go_loopw [10] (fun s10 wr=>∃i:Nat,i≤n∧s10 = .int .i64 i∧(∀a (ha:a<i) (hl:a<l.length) b,b<l[a].2.2.length→jI l l[a] b=true)∧Below w.heap.size w wr) (fun s10 _=>n-(intOf s10).toNat)
 case atStart=>exact⟨0,by omega,by go_num,fun a ha=>absurd ha (by omega),Below.refl _ _⟩
 case round=>
  obtain⟨i,hi,rfl,hall,hb⟩:=hrel
  have HALL:=zD0 hall
  have BW:=zD0 hb
  clear hall hb
  by_cases hlt:i<n
  ·have hlt':(i:Int)<n:=by omega
   have hir:i<l.length:=by rw[←HN.out];exact hlt
   obtain⟨b,off,rfl,hb,hc0,hc1,u,hc2,hu⟩:=((HA.out.below zN BW.out).more zN BW.out.size).at hir
   obtain⟨s,hs⟩:=zD1 (l[i])
   have HS:=zD0 hs
   rw[←hs] at hc0 hc1 hu
   obtain⟨id,pt,es⟩:=s
   dsimp only at hc0 hc1 hu
   obtain⟨Au,cu,rfl,hul,hum⟩:=hu.slice
   obtain⟨ne,hne⟩:=zD1 (es.length)
   have HNE:=zD0 hne
   have hnm:ne≤9223372036854775807:=by unfold maxLen at hum;omega
   rw[←hne] at hc2
   have hg0:wr.cell? ⟨b,off+i*3,none⟩=some (.int .i64 id):=hc0
   have hg1:wr.cell? ⟨b,off+i*3+1,none⟩=some (.int .i64 pt):=hc1
   have hg2:wr.cell? ⟨b,off+i*3+2,none⟩=some (.slice Au ne cu):=hc2
   have HJI:Hid (zT wr wr.heap.size (.slice Au ne cu) es):=zD0 (by rw[hne];exact hu)
   have hx4:=zB wr (.cells #[.int .i64 id,.int .i64 pt,.slice Au ne cu] 60)
   have hb4:=zD wr (.cells #[.int .i64 id,.int .i64 pt,.slice Au ne cu] 60)
   obtain⟨q,hq⟩:=zD1 (wr.alloc (.cells #[.int .i64 id,.int .i64 pt,.slice Au ne cu] 60))
   rw[←hq] at hx4 hb4
   have X4:=zD0 hx4
   have HQ:=zD0 hq
   have BQ:=zD0 (BW.out.trans (hb4.mono BW.out.size))
   have HJQ:=zD0 ((HJI.out.below zM hb4).more zM hb4.size)
   clear hc0 hc1 hc2 hu hul hum hne hs hx4 hb4 hq hb
   go_upto_region 4 with fail
   rw[←HQ.out]
   clear hg0 hg1 hg2 HQ HJI
   generalize hp4:wr.heap.size=p4 at X4⊢
   clear hp4
   obtain⟨k0,k1,k2⟩:=zC X4.out
   go_wp2_with fail
   clear k0 k1 k2
   go_loopw [17] (fun s17 wr=>∃m:Nat,m≤ne∧s17 = .int .i64 m∧(∀b,b<m→jI l (id,pt,es) b=true)∧wr.heap[p4]? = some (.cells #[.int .i64 id,.int .i64 pt,.slice Au ne cu] 60 (0,0))∧zT wr wr.heap.size (.slice Au ne cu) es∧Below w.heap.size w wr) (fun s17 _=>ne-(intOf s17).toNat)
   case atStart=>exact⟨0,by omega,by go_num,fun b hb=>absurd hb (by omega),X4.out,HJQ.out,BQ.out⟩
   case round=>
    obtain⟨m,hm,rfl,hms,hx4,hji,hb⟩:=hrel
    have HMS:=zD0 hms
    have XX4:=zD0 hx4
    have HJM:=zD0 hji
    have BM:=zD0 hb
    clear hms hx4 hji hb X4 BQ HJQ BW
    by_cases hmn:m<ne
    ·have hmn':(m:Int)<ne:=by omega
     have hmr:m<es.length:=by rw[←HNE.out];exact hmn
     obtain⟨be,oe,rfl,hbe,hd0,hd1⟩:=HJM.out.at hmr
     obtain⟨j1,j2,hj⟩:∃j1 j2,es[m]=(j1,j2):=⟨_,_,rfl⟩
     rw[hj] at hd0 hd1
     have HJ:Hid (es.getD m (0,0)=(j1,j2)):=zD0 (by rw[←hj];simp[List.getD,List.getElem?_eq_getElem hmr])
     have hg0:wr.cell? ⟨be,oe+m*2,none⟩=some (.int .i64 j1):=hd0
     have hg1:wr.cell? ⟨be,oe+m*2+1,none⟩=some (.int .i64 j2):=hd1
     have hz:=zV wr (.cells #[.int .i64 j1,.int .i64 j2] 98) (.cells #[.int .i64 id,.int .i64 (m:Int)] 98)
     obtain⟨k0,k1,k2⟩:=zC XX4.out
     obtain⟨q7,hq7⟩:=zD1 ((wr.alloc (.cells #[.int .i64 j1,.int .i64 j2] 98)).alloc (.cells #[.int .i64 id,.int .i64 (m:Int)] 98))
     rw[←hq7] at hz
     obtain⟨hz0,hz1,hzb⟩:=hz
     have HQ:=zD0 hq7
     have k0':(wr.alloc (.cells #[.int .i64 j1,.int .i64 j2] 98)).cell? ⟨p4,0,none⟩=some (.int .i64 id):=(zC (((zD wr (.cells #[.int .i64 j1,.int .i64 j2] 98)).block _ (zA XX4.out)).trans XX4.out)).1
     clear hj hd0 hd1 hbe hq7
     go_upto_region 8 with fail
     rw[←HQ.out]
     have X6:=zD0 hz0
     have X7:=zD0 hz1
     have B7:=zD0 (BM.out.trans (hzb.mono BM.out.size))
     have Y4:=zD0 ((hzb.block _ (zA XX4.out)).trans XX4.out)
     have HJ7:=zD0 ((HJM.out.below zM hzb).more zM hzb.size)
     generalize hp6:wr.heap.size=p6 at X6 X7⊢
     clear hz0 hz1 hzb HQ k0 k1 k2 k0' hg0 hg1 hp6 XX4 HJM BM
     obtain⟨k0,k1⟩:=zI X6.out
     obtain⟨r0,r1⟩:=zI X7.out
     have NEXT:Hid (jI l (id,pt,es) m=true→∀b,b<m+1→jI l (id,pt,es) b=true):=zD0 (fun h b hb=>by
      rcases Nat.lt_or_ge b m with h1|h1
      ·exact HMS.out b h1
      ·obtain rfl:b=m:=by omega
       exact h)
     have FAIL:Hid (jI l (id,pt,es) m=false→jndT l=false):=zD0 (fun h=>jndT_false fun hj=>by
      have:=hj i m hir (by rw[←HS.out,←HNE.out];exact hmn)
      rw[←HS.out,h] at this
      cases this)
     by_cases h0:j1=0∧j2=0
     ·have NX:=zD0 (NEXT.out (by rw[zB4 HJ.out,if_pos h0]))
      obtain⟨rfl,rfl⟩:=h0
      have he:=zDr 0 0
      go_wp2_with fail
      go_roundw
      case measure=>simp[intOf];omega
      case rel=>exact⟨m+1,by omega,by go_num,NX.out,Y4.out,HJ7.out,B7.out⟩
     ·have he0:=join_ne h0
      by_cases h1:j1=id∧j2=(m:Int)
      ·have HF:=zD0 (FAIL.out (by rw[zB4 HJ.out,if_neg h0,if_pos (.inr (.inr (.inr h1)))]))
       have he1:∀w:World,(Op.equalIn 10000 98 (.agg #[.int .i64 j1,.int .i64 j2]) (.agg #[.int .i64 id,.int .i64 (m:Int)])).run Tryz.prog w = .ok true w:=fun w=>by rw[h1.1,h1.2];exact zDr _ _ w
       clear h0 h1
       go_wp2_with fail
       go_ret
       exact⟨by rw[HF.out];rfl,B7.out⟩
      ·have he1:=join_ne h1
       have HJJ:=zD0 (joined_joins (l:=l) (s:=(id,pt,es)) (k:=m) HJ.out h0 h1)
       clear h0 h1
       cases hg:joinsB l (j1,j2) (id,(m:Int)) with
       | false=>
        have HF:=zD0 (FAIL.out (HJJ.out.trans hg))
        have hgg:=hg
        go_wp2_with (refine(joins_any _ l (j1,j2) (id,(m:Int)) q7 ((HA.out.below zN B7.out).more zN B7.out.size) HRI.out (by rw[←HN.out];omega)).mono ?_;rintro e w2 ⟨rfl,b2⟩;have B2:=zD0 (B7.out.trans (b2.mono B7.out.size));clear b2)
        go_ret
        exact⟨by rw[HF.out];rfl,B2.out⟩
       | true=>
        have NX:=zD0 (NEXT.out (HJJ.out.trans hg))
        have hgg:=hg
        go_wp2_with (refine(joins_any _ l (j1,j2) (id,(m:Int)) q7 ((HA.out.below zN B7.out).more zN B7.out.size) HRI.out (by rw[←HN.out];omega)).mono ?_;rintro e w2 ⟨rfl,b2⟩;have B2:=zD0 b2;clear b2)
        go_roundw
        case measure=>simp[intOf];omega
        case rel=>exact⟨m+1,by omega,by go_num,NX.out,(B2.out.block _ (zA Y4.out)).trans Y4.out,(HJ7.out.below zM B2.out).more zM B2.out.size,B7.out.trans (B2.out.mono B7.out.size)⟩
    ·obtain rfl:m=ne:=by omega
     have hmn':¬(m:Int)<m:=by omega
     have HNK:Hid (∀a (ha:a<i+1) (hl:a<l.length) b,b<l[a].2.2.length→jI l l[a] b=true):=zD0 (fun a ha hl b hb=>by
      rcases Nat.lt_or_ge a i with h|h
      ·exact HALL.out a h hl b hb
      ·obtain rfl:a=i:=by omega
       rw[←HS.out] at hb⊢
       exact HMS.out b (by rw[HNE.out];exact hb))
     go_wp2_with fail
     go_roundw
     case measure=>simp[intOf];omega
     case rel=>exact⟨i+1,by omega,by go_num,HNK.out,BM.out⟩
  ·obtain rfl:i=n:=by omega
   have hlt':¬(i:Int)<i:=by omega
   have HR:Hid (jndT l=true):=zD0 (jndT_true fun a b ha hb=>HALL.out a (by rw[HN.out];exact ha) ha b hb)
   go_wp2_with fail
   go_ret
   exact⟨by rw[HR.out];rfl,BW.out⟩
theorem may_three {l:List Sec}:TMay l↔l.length≤16∧OrdT l∧JndT l:=⟨fun h=>⟨h.n,⟨h.s,h.k⟩,h.e⟩,fun⟨a,b,c⟩=>⟨a,b.s,b.k,c⟩⟩
theorem OrdT.rises {l:List Sec} (h:OrdT l):Rises l:=fun i j hj hi=>(h.k i j hj hi).1
set_option maxHeartbeats 4000000 in
theorem pcheck_any (v:Value) (l:List Sec) (w:World) (h:zX w w.heap.size v l):
  Calls Tryz.prog 84 #[v] w fun e w'=>e = .returned (.int .i64 (chkT l))∧Below w.heap.size w w':=by
 have H:=zD0 h
 obtain⟨A,c,rfl,hcl,hcm⟩:=h.slice
 obtain⟨n,hn⟩:=zD1 (l.length)
 have hml:n≤9223372036854775807:=by unfold maxLen at hcm;omega
 have HN:=zD0 hn
 have H0:Hid (mayT l=false→chkT l=8):=zD0 (fun h=>by rw[chkT,h];rfl)
 have H1:Hid (mayT l=true→chkT l=0):=zD0 (fun h=>by rw[chkT,h];rfl)
 rw[←hn] at H⊢
 clear h hn hcl hcm
 go_enter Tryz.func84,Tryz.ntmps84
 by_cases h16:16<n
 ·have h16':(16:Int)<n:=by omega
  have HC:=zD0 (H0.out (vL fun h=>by have:=h.n;rw[←HN.out] at this;omega))
  go_wp2_with fail
  go_ret
  exact⟨by rw[HC.out];rfl,Below.refl _ _⟩
 have h16':¬(16:Int)<n:=by omega
 have L16:Hid (l.length≤16):=zD0 (by rw[←HN.out];omega)
 cases ho:ordT l with
 | false=>
  have HC:=zD0 (H0.out (vL fun h=>by rw[ordT_true (may_three.1 h).2.1] at ho;cases ho))
  have hoo:=ho
  go_wp2_with (refine(zDj _ l w H.out).mono ?_;rintro e w2 ⟨rfl,b2⟩;have B2:=zD0 b2;clear b2)
  go_ret
  exact⟨by rw[HC.out];rfl,B2.out⟩
 | true=>
  have ORD:=zD0 (ordT_iff.1 ho)
  have hoo:=ho
  cases hj:jndT l with
  | false=>
   have HC:=zD0 (H0.out (vL fun h=>by rw[jndT_true (may_three.1 h).2.2] at hj;cases hj))
   have hjj:=hj
   go_wp2_with (first|(refine(zDj _ l w H.out).mono ?_;rintro e w2 ⟨rfl,b2⟩;have B2:=zD0 b2;clear b2)|(refine(joined7_any _ l w2 ((H.out.below zN B2.out).more zN B2.out.size) ORD.out.rises L16.out).mono ?_;rintro e w3 ⟨rfl,b3⟩;have B3:=zD0 (B2.out.trans (b3.mono B2.out.size));clear b3))
   go_ret
   exact⟨by rw[HC.out];rfl,B3.out⟩
  | true=>
   have HC:=zD0 (H1.out (zDl (may_three.2 ⟨L16.out,ORD.out,jndT_iff.1 hj⟩)))
   have hjj:=hj
   go_wp2_with (first|(refine(zDj _ l w H.out).mono ?_;rintro e w2 ⟨rfl,b2⟩;have B2:=zD0 b2;clear b2)|(refine(joined7_any _ l w2 ((H.out.below zN B2.out).more zN B2.out.size) ORD.out.rises L16.out).mono ?_;rintro e w3 ⟨rfl,b3⟩;have B3:=zD0 (B2.out.trans (b3.mono B2.out.size));clear b3))
   go_ret
   exact⟨by rw[HC.out];rfl,B3.out⟩
end Go.Proofs.YtemmgmjhomgbbaaGreat
