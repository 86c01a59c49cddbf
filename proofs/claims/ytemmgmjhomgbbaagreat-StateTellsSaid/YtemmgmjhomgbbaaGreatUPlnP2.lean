/-
 The program's package plan: leads, points, signals, routes, Check.
 Conditions: none.
-/
import Derived.Test.YtemmgmjhomgbbaaGreatUPlnP1
import Derived.Test.YtemmgmjhomgbbaaGreatUGTrkPH
set_option linter.unusedVariables false
set_option linter.unusedSimpArgs false
set_option maxRecDepth 100000
namespace Go.Proofs.YtemmgmjhomgbbaaGreat
open Go.RowKit
set_option maxHeartbeats 16000000 in
theorem leads_prog (v y:Value) (p:Pl) (r:Rt) (w:World) (h:qF w w.heap.size v p) (h':vS w w.heap.size y r) (ht:TMay p.secs):
  Calls Tryz.prog 109 #[v,y] w fun e w'=>e = .returned (.bool (xS (zB9 p r)))∧Below w.heap.size w w':=by
 have HT:=zD0 ht
 clear ht
 obtain⟨A2,c2,A3,c3,A4,c4,A5,c5,n2,n3,n4,n5,rfl,hm2,hm3,hm4,hm5,HCP,HIN,HN⟩:=kD h
 obtain⟨z3,z4,z5,rfl,hrt⟩:=h'
 have HRT0:=zD0 hrt
 obtain⟨C3,e3,rfl,hdl3,hdm3⟩:=hrt.path.slice
 obtain⟨C4,e4,rfl,hdl4,hdm4⟩:=hrt.over.slice
 obtain⟨C5,e5,rfl,hdl5,hdm5⟩:=hrt.flanks.slice
 unfold maxLen at hdm3 hdm4 hdm5
 obtain⟨l3,hl3⟩:=zD1 (r.path.length)
 obtain⟨l4,hl4⟩:=zD1 (r.over.length)
 obtain⟨l5,hl5⟩:=zD1 (r.flanks.length)
 have hk3:l3≤9223372036854775807:=by omega
 have hk4:l4≤9223372036854775807:=by omega
 have hk5:l5≤9223372036854775807:=by omega
 have HRT:Hid (RtIn w w.heap.size (.slice C3 l3 e3) (.slice C4 l4 e4) (.slice C5 l5 e5) r):=zD0 (by rw[hl3,hl4,hl5];exact HRT0.out)
 have HL:Hid (l3=r.path.length∧l4=r.over.length∧l5=r.flanks.length):=zD0 ⟨hl3,hl4,hl5⟩
 rw[←hl3,←hl4,←hl5]
 clear hl3 hl4 hl5 HRT0 hrt hdl3 hdm3 hdl4 hdm4 hdl5 hdm5
 have hq:=zV w (.cells #[.int .i64 p.ver,.int .i64 p.par,.slice A2 n2 c2,.slice A3 n3 c3,.slice A4 n4 c4,.slice A5 n5 c5] 27) (.cells #[.int .i64 r.id,.int .i64 r.entry,.int .i64 r.exit,.slice C3 l3 e3,.slice C4 l4 e4,.slice C5 l5 e5,.int .i64 r.timer] 64)
 go_enter Tryz.func109,Tryz.ntmps109
 go_upto_region 1 with fail
 generalize (w.alloc (.cells #[.int .i64 p.ver,.int .i64 p.par,.slice A2 n2 c2,.slice A3 n3 c3,.slice A4 n4 c4,.slice A5 n5 c5] 27)).alloc (.cells #[.int .i64 r.id,.int .i64 r.entry,.int .i64 r.exit,.slice C3 l3 e3,.slice C4 l4 e4,.slice C5 l5 e5,.int .i64 r.timer] 64)=q at hq⊢
 obtain⟨q0,q1,qb⟩:=hq
 have XP:=zD0 q0
 have XR:=zD0 q1
 have BQ:=zD0 qb
 clear q0 q1 qb
 obtain⟨m0,m1,m2,m3,m4,m5,m6⟩:=zL XR.out
 obtain⟨k0,k1,k2,k3,k4,k5⟩:=zE XP.out
 have HI:=zD0 ((HIN.out.below BQ.out).more BQ.out.size)
 have HR:=zD0 ((HRT.out.below BQ.out).more BQ.out.size)
 have FA:=zD0 (find_at1 kSg p.sigs r.entry (0,0,0))
 go_wp2_with fail
 refine(find_sg _ p.sigs r.entry _ (((HIN.out.below BQ.out).more BQ.out.size).sigs)).mono ?_
 rintro e w1 ⟨rfl,b1⟩
 generalize zAk kSg p.sigs r.entry (0,0,0)=fv at FA⊢
 generalize zBa kSg p.sigs r.entry=fb at FA⊢
 obtain⟨f0,f1,f2⟩:=fv
 dsimp only
 clear k0 k1 k2 k3 k4 k5 m0 m1 m2 m3 m4 m5 m6
 replace BQ:=zD0 (BQ.out.trans (b1.mono BQ.out.size))
 replace XP:=zD0 ((b1.block _ (zA XP.out)).trans XP.out)
 replace XR:=zD0 ((b1.block _ (zA XR.out)).trans XR.out)
 replace HI:=zD0 ((HI.out.below b1).more b1.size)
 replace HR:=zD0 ((HR.out.below b1).more b1.size)
 clear b1
 obtain⟨q3,hq⟩:=zD1 (w1.alloc (.cells #[.int .i64 f0,.int .i64 f1,.int .i64 f2] 115))
 have x1:=zB w1 (.cells #[.int .i64 f0,.int .i64 f1,.int .i64 f2] 115)
 have b1:=zD w1 (.cells #[.int .i64 f0,.int .i64 f1,.int .i64 f2] 115)
 rw[←hq] at x1 b1
 go_upto_region 2 with fail
 rw[←hq]
 have X5:=zD0 x1
 generalize w1.heap.size=pX5 at X5⊢
 clear x1 hq
 replace BQ:=zD0 (BQ.out.trans (b1.mono BQ.out.size))
 replace XP:=zD0 ((b1.block _ (zA XP.out)).trans XP.out)
 replace XR:=zD0 ((b1.block _ (zA XR.out)).trans XR.out)
 replace HI:=zD0 ((HI.out.below b1).more b1.size)
 replace HR:=zD0 ((HR.out.below b1).more b1.size)
 clear b1
 obtain⟨m0,m1,m2,m3,m4,m5,m6⟩:=zL XR.out
 obtain⟨k0,k1,k2,k3,k4,k5⟩:=zE XP.out
 rcases FA.out with⟨rfl,-,ha⟩|⟨k,hk,rfl,hv,ha,-⟩
 ·have HF:Hid (xS (zB9 p r)=false):=zD0 (qR fun h=>by obtain⟨k,hk,h2,-⟩:=h.entry;omega)
  go_wp2_with fail
  go_ret
  exact⟨by rw[HF.out];rfl,BQ.out⟩
 have KA:Hid (at1 kSg p.sigs r.entry=(k:Int)∧p.sigs[k].2.1=f1):=zD0 ⟨ha,by rw[←hv]⟩
 clear ha hv
 go_wp2_with fail
 refine(leaves_any _ _ p r _ ⟨_,_,_,_,rfl,HI.out⟩ ⟨_,_,_,rfl,HR.out⟩).mono ?_
 rintro e w2 ⟨rfl,b1⟩
 clear k0 k1 k2 k3 k4 k5 m0 m1 m2 m3 m4 m5 m6
 replace BQ:=zD0 (BQ.out.trans (b1.mono BQ.out.size))
 replace XP:=zD0 ((b1.block _ (zA XP.out)).trans XP.out)
 replace XR:=zD0 ((b1.block _ (zA XR.out)).trans XR.out)
 replace X5:=zD0 ((b1.block _ (zA X5.out)).trans X5.out)
 replace HI:=zD0 ((HI.out.below b1).more b1.size)
 replace HR:=zD0 ((HR.out.below b1).more b1.size)
 clear b1
 obtain⟨m0,m1,m2,m3,m4,m5,m6⟩:=zL XR.out
 obtain⟨k0,k1,k2,k3,k4,k5⟩:=zE XP.out
 cases hlv:xS (zC6 p r) with
 | false=>
  have HF:Hid (xS (zB9 p r)=false):=zD0 (qR fun h=>by rw[jK ⟨h.over0,h.exit⟩] at hlv;cases hlv)
  clear hlv
  go_wp2_with fail
  go_ret
  exact⟨by rw[HF.out];rfl,BQ.out⟩
 | true=>
 have LV:=zD0 (zAx.1 hlv)
 clear hlv
 by_cases h1:l3<1
 ·have d1:decide ((l3:Int)<1)=true:=decide_eq_true (by omega)
  have HF:Hid (xS (zB9 p r)=false):=zD0 (qR fun h=>by have:=h.path.1;rw[←HL.out.1] at this;omega)
  clear h1
  go_wp2_with fail
  go_ret
  exact⟨by rw[HF.out];rfl,BQ.out⟩
 have d1:decide ((l3:Int)<1)=false:=decide_eq_false (by omega)
 by_cases h6:6<l3
 ·have d6:decide ((6:Int)<l3)=true:=decide_eq_true (by omega)
  have HF:Hid (xS (zB9 p r)=false):=zD0 (qR fun h=>by have:=h.path.2;rw[←HL.out.1] at this;omega)
  clear h1 h6
  go_wp2_with fail
  go_ret
  exact⟨by rw[HF.out];rfl,BQ.out⟩
 have d6:decide ((6:Int)<l3)=false:=decide_eq_false (by omega)
 by_cases h2:2<l4
 ·have d2:decide ((2:Int)<l4)=true:=decide_eq_true (by omega)
  have HF:Hid (xS (zB9 p r)=false):=zD0 (qR fun h=>by have:=h.over;rw[←HL.out.2.1] at this;omega)
  clear h1 h6 h2
  go_wp2_with fail
  go_ret
  exact⟨by rw[HF.out];rfl,BQ.out⟩
 have d2:decide ((2:Int)<l4)=false:=decide_eq_false (by omega)
 have LN:Hid ((1≤l3∧l3≤6)∧l4≤2):=zD0 (by omega)
 clear h1 h6 h2
 obtain⟨q6,hq⟩:=zD1 (w2.alloc (.cells #[.slice C3 l3 e3,.slice C4 l4 e4] 61))
 have x1:=zB w2 (.cells #[.slice C3 l3 e3,.slice C4 l4 e4] 61)
 have b1:=zD w2 (.cells #[.slice C3 l3 e3,.slice C4 l4 e4] 61)
 rw[←hq] at x1 b1
 have X6:=zD0 x1
 have HQ:=zD0 hq
 have B6:=zD0 b1
 clear x1 b1 hq
 go_wp2_with fail
 rw[←HQ.out]
 have b1:=B6.out
 clear HQ B6 k0 k1 k2 k3 k4 k5 m0 m1 m2 m3 m4 m5 m6 d1 d2 d6
 generalize w2.heap.size=p6 at X6⊢
 replace BQ:=zD0 (BQ.out.trans (b1.mono BQ.out.size))
 replace XP:=zD0 ((b1.block _ (zA XP.out)).trans XP.out)
 replace XR:=zD0 ((b1.block _ (zA XR.out)).trans XR.out)
 replace X5:=zD0 ((b1.block _ (zA X5.out)).trans X5.out)
 replace HI:=zD0 ((HI.out.below b1).more b1.size)
 replace HR:=zD0 ((HR.out.below b1).more b1.size)
 clear b1
 refine(concat_any p6 C3 C4 l3 e3 l4 e4 r.path r.over q6 X6.out HR.out.path HR.out.over HL.out.1 HL.out.2.1 (by have:=LN.out;omega) (by have:=LN.out;omega)).mono ?_
 rintro e w6 ⟨A6,c6,N,rfl,hN,hI,b1⟩
 replace BQ:=zD0 (BQ.out.trans (b1.mono BQ.out.size))
 replace XP:=zD0 ((b1.block _ (zA XP.out)).trans XP.out)
 replace X5:=zD0 ((b1.block _ (zA X5.out)).trans X5.out)
 replace HI:=zD0 ((HI.out.below b1).more b1.size)
 clear b1
 have LI:=zD0 hI
 have HNN:=zD0 hN
 have hNm:N≤9223372036854775807:=by have:=LN.out;have:=HL.out;rw[hN,List.length_append];omega
 have HC6:Hid (N≤c6):=zD0 (by
  obtain⟨A',cap,e6,h1,-,-,-⟩:=hI
  injection e6 with _ _ e7
  rw[hN,e7]
  exact h1)
 obtain⟨al,hal⟩:=zD1 (r.path++r.over)
 rw[←hal] at LI HNN
 have HAL:=zD0 hal
 clear hN hI hal XR HR X6
 go_wp2_with fail
 go_loopw [50] (fun s50 wr=>∃i:Nat,i≤N∧s50 = .int .i64 i∧(∀i' (hi:i'<i) (hl:i'<al.length),al[i']≠f1∧0≤atS p.secs al[i']∧∀m (hm:m<i'),al[m]'(by omega)≠al[i'])∧Below w6.heap.size w6 wr) (fun s50 _=>N-(intOf s50).toNat)
 case atStart=>exact⟨0,by omega,by go_num,fun i' hi=>absurd hi (by omega),Below.refl _ _⟩
 case round=>
  obtain⟨i,hi,rfl,hall,hb⟩:=hrel
  have HALL:=zD0 hall
  have BW:=zD0 hb
  have BV:=zD0 (BQ.out.trans (hb.mono BQ.out.size))
  have YP:=zD0 ((hb.block _ (zA XP.out)).trans XP.out)
  have Y5:=zD0 ((hb.block _ (zA X5.out)).trans X5.out)
  have LW:=zD0 ((LI.out.below qI hb).more qI hb.size)
  have IW:=zD0 ((HI.out.below hb).more hb.size)
  clear hall hb
  by_cases hlt:i<N
  ·have hlt':(i:Int)<N:=by omega
   have hic:(i:Int)≤c6:=by have:=HC6.out;omega
   have hir:i<al.length:=by rw[←HNN.out];exact hlt
   have LT:=zD0 (LW.out.take (Nat.le_of_lt hlt))
   obtain⟨bk,off,rfl,hbk,hc0⟩:=LW.out.at hir
   obtain⟨a,hz⟩:=zD1 (al[i])
   have hg0:wr.cell? ⟨bk,off+i,none⟩=some (.int .i64 a):=by rw[hz];simpa [jU] using hc0
   have HZ:=zD0 hz
   clear hc0 hz hbk
   obtain⟨g0,g1,g2⟩:=zC Y5.out
   obtain⟨k0,k1,k2,k3,k4,k5⟩:=zE YP.out
   have FAIL:Hid (¬(a≠f1∧0≤atS p.secs a∧∀m (hm:m<i),al[m]'(by omega)≠a)→xS (zB9 p r)=false):=zD0 (fun hn=>qR fun h=>hn (by
    have h2:=h.secs i (by rw[←HAL.out];exact hir)
    obtain⟨k2,hk2,he2,hne2⟩:=h.entry
    have h3:=hne2 i (by rw[←HAL.out];exact hir)
    obtain rfl:k2=k:=by have:=KA.out.1;omega
    rw[KA.out.2] at h3
    have hs:=HAL.out
    subst hs
    rw[HZ.out]
    exact⟨h3,h2.1,h2.2⟩))
   by_cases h1:a=f1
   ·have hd:(a==f1)=true:=by simpa using h1
    have HF:=zD0 (FAIL.out fun h=>h.1 h1)
    clear h1
    go_wp2_with fail
    go_ret
    exact⟨by rw[HF.out];rfl,BV.out⟩
   have hd:(a==f1)=false:=by simpa using h1
   go_wp2_with fail
   refine(ends_any _ p.secs a wr IW.out.secs).mono ?_
   rintro e w7 ⟨rfl,b1⟩
   have B7:=zD0 (BW.out.trans (b1.mono BW.out.size))
   have BX:=zD0 (BV.out.trans (b1.mono BV.out.size))
   have LT7:=zD0 ((LT.out.below qI b1).more qI b1.size)
   have ENZ:=zD0 (endsN_zero HT.out (id:=a))
   generalize zAm p.secs a=en at ENZ⊢
   clear b1 k0 k1 k2 k3 k4 k5 g0 g1 g2 hg0
   by_cases h2:en=0
   ·have hd2:(en==0)=true:=by simpa using h2
    have HF:=zD0 (FAIL.out fun h=>by have:=ENZ.out.1 h2;omega)
    clear h1 h2
    go_wp2_with fail
    go_ret
    exact⟨by rw[HF.out];rfl,BX.out⟩
   have hd2:(en==0)=false:=by simpa using h2
   have AT0:Hid (0≤atS p.secs a):=zD0 (by
    rcases Int.lt_or_le (atS p.secs a) 0 with h|h
    ·exact absurd (ENZ.out.2 h) h2
    ·exact h)
   have A1:=zD0 h1
   clear h1 h2
   go_wp2_with fail
   refine(contains_any _ (al.take i) a _ LT7.out).mono ?_
   rintro e w8 ⟨rfl,rfl⟩
   have INB:=zD0 (inB_true (l:=al.take i) (x:=a))
   generalize inB (al.take i) a=ib at INB⊢
   cases ib with
   | true=>
    have HF:=zD0 (FAIL.out fun h=>by
     obtain⟨j,hj,he⟩:=INB.out.1 rfl
     rw[List.length_take] at hj
     rw[List.getElem_take] at he
     exact h.2.2 j (by omega) he)
    go_wp2_with fail
    go_ret
    exact⟨by rw[HF.out];rfl,BX.out⟩
   | false=>
    have NX:Hid (∀i' (hi:i'<i+1) (hl:i'<al.length),al[i']≠f1∧0≤atS p.secs al[i']∧∀m (hm:m<i'),al[m]'(by omega)≠al[i']):=zD0 (fun i' hi' hl=>by
     rcases Nat.lt_or_ge i' i with h|h
     ·exact HALL.out i' h hl
     ·obtain rfl:i'=i:=by omega
      rw[←HZ.out]
      refine⟨A1.out,AT0.out,fun m hm he=>?_⟩
      have:=INB.out.2 ⟨m,by rw[List.length_take];omega,by rw[List.getElem_take];exact he⟩
      cases this)
    go_wp2_with fail
    go_roundw
    case measure=>simp[intOf];omega
    case rel=>exact⟨i+1,by omega,by go_num,NX.out,B7.out⟩
  ·obtain rfl:i=N:=by omega
   have hlt':¬(i:Int)<i:=by omega
   have HF:Hid (xS (zB9 p r)=true):=zD0 (jK (by
    have hs:=HAL.out
    subst hs
    have HA:=fun a (ha:a<(r.path++r.over).length)=>HALL.out a (by rw[HNN.out];exact ha) ha
    exact⟨⟨k,hk,KA.out.1,fun a ha=>by rw[KA.out.2];exact(HA a ha).1⟩,LV.out.2,LV.out.1,by rw[←HL.out.1];exact LN.out.1,by rw[←HL.out.2.1];exact LN.out.2,fun a ha=>(HA a ha).2⟩))
   go_wp2_with fail
   go_ret
   exact⟨by rw[HF.out];rfl,BV.out⟩
set_option maxHeartbeats 16000000 in
theorem points_prog (v:Value) (p:Pl) (w:World) (h:qF w w.heap.size v p) (ht:TMay p.secs):
  Calls Tryz.prog 85 #[v] w fun e w'=>e = .returned (.bool (xS (yT p)))∧Below w.heap.size w w':=by
 have HT:=zD0 ht
 clear ht
 obtain⟨A2,c2,A3,c3,A4,c4,A5,c5,n2,n3,n4,n5,rfl,hm2,hm3,hm4,hm5,HCP,HIN,HN⟩:=kD h
 have hq0:=zB w (.cells #[.int .i64 p.ver,.int .i64 p.par,.slice A2 n2 c2,.slice A3 n3 c3,.slice A4 n4 c4,.slice A5 n5 c5] 27)
 have hqb:=zD w (.cells #[.int .i64 p.ver,.int .i64 p.par,.slice A2 n2 c2,.slice A3 n3 c3,.slice A4 n4 c4,.slice A5 n5 c5] 27)
 go_enter Tryz.func85,Tryz.ntmps85
 go_upto_region 1 with fail
 generalize w.alloc (.cells #[.int .i64 p.ver,.int .i64 p.par,.slice A2 n2 c2,.slice A3 n3 c3,.slice A4 n4 c4,.slice A5 n5 c5] 27)=q at hq0 hqb⊢
 have XP:=zD0 hq0
 have BQ:=zD0 hqb
 clear hq0 hqb
 obtain⟨k0,k1,k2,k3,k4,k5⟩:=zE XP.out
 by_cases h1:6<n3
 ·have d1:decide ((6:Int)<n3)=true:=decide_eq_true (by omega)
  have HF:Hid (xS (yT p)=false):=zD0 (qR fun h=>by have:=(pts_iff HT.out).1 h;have:=this.n;have:=HN.out;omega)
  clear h1
  go_wp2_with fail
  go_ret
  exact⟨by rw[HF.out];rfl,BQ.out⟩
 have d1:decide ((6:Int)<n3)=false:=decide_eq_false (by omega)
 have LIM:Hid (n3≤6):=zD0 (by omega)
 clear h1
 have HI:=zD0 ((HIN.out.below BQ.out).more BQ.out.size)
 go_wp2_with fail
 refine(rising_pt _ p.pts _ HI.out.pts).mono ?_
 rintro e w1 ⟨rfl,b1⟩
 clear k0 k1 k2 k3 k4 k5
 replace BQ:=zD0 (BQ.out.trans (b1.mono BQ.out.size))
 replace XP:=zD0 ((b1.block _ (zA XP.out)).trans XP.out)
 replace HI:=zD0 ((HI.out.below b1).more b1.size)
 clear b1
 obtain⟨k0,k1,k2,k3,k4,k5⟩:=zE XP.out
 cases hrs:yI kPt p.pts with
 | false=>
  have HF:Hid (xS (yT p)=false):=zD0 (qR fun h=>by rw[zAs (((pts_iff HT.out).1 h).rise)] at hrs;cases hrs)
  clear hrs
  go_wp2_with fail
  go_ret
  exact⟨by rw[HF.out];rfl,BQ.out⟩
 | true=>
 have RISE:=zD0 (riseB_iff.1 hrs)
 clear hrs
 go_wp2_with fail
 clear k0 k1 k2 k3 k4 k5
 go_loopw [3,21] (fun s3 s21 wr=>∃(i m:Nat),i≤n2∧s21 = .int .i64 i∧s3 = .int .i64 m∧m=(p.secs.take i).countP yC∧(∀i' (hi:i'<i) (hl:i'<p.secs.length),p.secs[i'].2.1≠0→∃j,∃hj:j<p.pts.length,at1 kPt p.pts p.secs[i'].2.1=(j:Int)∧p.pts[j].2=p.secs[i'].1)∧wr.heap[w.heap.size]? = some (.cells #[.int .i64 p.ver,.int .i64 p.par,.slice A2 n2 c2,.slice A3 n3 c3,.slice A4 n4 c4,.slice A5 n5 c5] 27 (0,0))∧Below w.heap.size w wr) (fun _ s21 _=>n2-(intOf s21).toNat)
 case atStart=>exact⟨0,0,by omega,by go_num,by go_num,rfl,fun i' hi=>absurd hi (by omega),XP.out,BQ.out⟩
 case round=>
  obtain⟨i,m,hi,rfl,rfl,hm,hall,hxp,hb⟩:=hrel
  have HM_:=zD0 hm
  have HALL:=zD0 hall
  clear XP BQ
  have BW:=zD0 hb
  have XP:=zD0 hxp
  have hmi:m≤i:=by rw[hm];exact count_le _ _ _
  clear hall hb hm hxp
  by_cases hlt:i<n2
  ·have hlt':(i:Int)<n2:=by omega
   have hir:i<p.secs.length:=by rw[←HN.out.1];exact hlt
   obtain⟨bk,off,rfl,hbk,hc0,hc1,u,hc2,hu⟩:=((HIN.out.secs.below zN BW.out).more zN BW.out.size).at hir
   obtain⟨B3,d3,rfl,hu1,hu2⟩:=hu.slice
   obtain⟨a,pt,es,hx⟩:∃a pt es,p.secs[i]=(a,pt,es):=⟨_,_,_,rfl⟩
   have HX:=zD0 hx
   rw[hx] at hc0 hc1 hc2 hu hu1
   dsimp only at hc0 hc1 hc2 hu hu1
   obtain⟨m3,e3⟩:=zD1 (es.length)
   rw[←e3] at hc2 hu hu1
   have HM:=zD0 e3
   have HU:=zD0 hu
   have hm3:m3≤9223372036854775807:=by unfold maxLen at hu2;omega
   have hg0:wr.cell? ⟨bk,off+i*3,none⟩=some (.int .i64 a):=hc0
   have hg1:wr.cell? ⟨bk,off+i*3+1,none⟩=some (.int .i64 pt):=hc1
   have hg2:wr.cell? ⟨bk,off+i*3+2,none⟩=some (.slice B3 m3 d3):=hc2
   clear hc0 hc1 hc2 hx hbk hu e3 hu1 hu2
   obtain⟨q,hq⟩:=zD1 (wr.alloc (.cells #[.int .i64 a,.int .i64 pt,.slice B3 m3 d3] 60))
   have x1:=zB wr (.cells #[.int .i64 a,.int .i64 pt,.slice B3 m3 d3] 60)
   have b1:=zD wr (.cells #[.int .i64 a,.int .i64 pt,.slice B3 m3 d3] 60)
   rw[←hq] at x1 b1
   go_upto_region 7 with fail
   rw[←hq]
   have XS:=zD0 x1
   generalize wr.heap.size=pXS at XS⊢
   clear x1 hq hg0 hg1 hg2
   replace BW:=zD0 (BW.out.trans (b1.mono BW.out.size))
   replace XP:=zD0 ((b1.block _ (zA XP.out)).trans XP.out)
   clear b1
   obtain⟨g0,g1,g2⟩:=zC XS.out
   obtain⟨k0,k1,k2,k3,k4,k5⟩:=zE XP.out
   have CNT:Hid ((p.secs.take (i+1)).countP yC=m+if pt≠0 then 1 else 0):=zD0 (by
    rw[count_take yC hir,HM_.out,HX.out]
    by_cases h:pt=0
    ·rw[if_neg (by show¬decide (pt≠0)=true;simpa using h),if_neg (by simpa using h)]
    ·rw[if_pos (by show decide (pt≠0)=true;simpa using h),if_pos h])
   have NXT:Hid ((pt≠0→∃j,∃hj:j<p.pts.length,at1 kPt p.pts pt=(j:Int)∧p.pts[j].2=a)→∀i' (hi:i'<i+1) (hl:i'<p.secs.length),p.secs[i'].2.1≠0→∃j,∃hj:j<p.pts.length,at1 kPt p.pts p.secs[i'].2.1=(j:Int)∧p.pts[j].2=p.secs[i'].1):=zD0 (fun h0 i' hi' hl=>by
    rcases Nat.lt_or_ge i' i with h|h
    ·exact HALL.out i' h hl
    ·obtain rfl:i'=i:=by omega
     rw[HX.out];exact h0)
   have FAIL:Hid (pt≠0→¬(∃j,∃hj:j<p.pts.length,at1 kPt p.pts pt=(j:Int)∧p.pts[j].2=a)→xS (yT p)=false):=zD0 (fun h0 hn=>qR fun h=>hn (by
    have:=((pts_iff HT.out).1 h).each i hir
    rw[HX.out] at this
    exact this h0))
   by_cases h0:pt=0
   ·have hd:(pt==0)=true:=by simpa using h0
    have NX:=zD0 (NXT.out fun h=>absurd h0 h)
    have CN:Hid (m=(p.secs.take (i+1)).countP yC):=zD0 (by rw[CNT.out,if_neg (by simpa using h0),Nat.add_zero])
    clear h0
    go_wp2_with fail
    go_roundw
    case measure=>simp[intOf];omega
    case rel=>exact⟨i+1,m,by omega,by go_num,rfl,CN.out,NX.out,XP.out,BW.out⟩
   have hd:(pt==0)=false:=by simpa using h0
   have CN:Hid (m+1=(p.secs.take (i+1)).countP yC):=zD0 (by rw[CNT.out,if_pos h0])
   have P0:=zD0 h0
   clear h0
   have FA:=zD0 (find_at1 kPt p.pts pt (0,0))
   go_wp2_with fail
   refine(find_pt _ p.pts pt _ (((HIN.out.below BW.out).more BW.out.size).pts)).mono ?_
   rintro e w2 ⟨rfl,b1⟩
   generalize zAk kPt p.pts pt (0,0)=fv at FA⊢
   generalize zBa kPt p.pts pt=fb at FA⊢
   obtain⟨f0,f1⟩:=fv
   dsimp only
   clear g0 g1 g2 k0 k1 k2 k3 k4 k5
   replace BW:=zD0 (BW.out.trans (b1.mono BW.out.size))
   replace XP:=zD0 ((b1.block _ (zA XP.out)).trans XP.out)
   replace XS:=zD0 ((b1.block _ (zA XS.out)).trans XS.out)
   clear b1
   obtain⟨q3,hq⟩:=zD1 (w2.alloc (.cells #[.int .i64 f0,.int .i64 f1] 67))
   have x1:=zB w2 (.cells #[.int .i64 f0,.int .i64 f1] 67)
   have b1:=zD w2 (.cells #[.int .i64 f0,.int .i64 f1] 67)
   rw[←hq] at x1 b1
   go_upto_region 9 with fail
   rw[←hq]
   have XQ:=zD0 x1
   generalize w2.heap.size=pXQ at XQ⊢
   clear x1 hq
   replace BW:=zD0 (BW.out.trans (b1.mono BW.out.size))
   replace XP:=zD0 ((b1.block _ (zA XP.out)).trans XP.out)
   replace XS:=zD0 ((b1.block _ (zA XS.out)).trans XS.out)
   clear b1
   obtain⟨g0,g1,g2⟩:=zC XS.out
   obtain⟨j0,j1⟩:=zI XQ.out
   rcases FA.out with⟨rfl,-,ha⟩|⟨j,hj,rfl,hv,ha,-⟩
   ·have HF:=zD0 (FAIL.out P0.out (fun⟨j,hj,h,_⟩=>by omega))
    go_wp2_with fail
    go_ret
    exact⟨by rw[HF.out];rfl,BW.out⟩
   by_cases h1:f1=a
   ·have d1:(f1 != a)=false:=by simpa using h1
    have NX:=zD0 (NXT.out fun _=>⟨j,hj,ha,by rw[←hv];exact h1⟩)
    have hwm:IntKind.i64.wrap ((m:Int)+1)=((m+1:Nat):Int):=by rw[kA (by omega) (by omega)];omega
    clear h1 ha hv
    go_wp2_with fail
    go_roundw
    case measure=>simp[intOf];omega
    case rel=>exact⟨i+1,m+1,by omega,by go_num,by go_num,CN.out,NX.out,XP.out,BW.out⟩
   ·have d1:(f1 != a)=true:=by simpa using h1
    have HF:=zD0 (FAIL.out P0.out (fun⟨j2,hj2,h2,h3⟩=>by
     obtain rfl:j2=j:=by omega
     rw[←hv] at h3
     exact h1 h3))
    clear h1 ha hv
    go_wp2_with fail
    go_ret
    exact⟨by rw[HF.out];rfl,BW.out⟩
  ·obtain rfl:i=n2:=by omega
   have hlt':¬(i:Int)<i:=by omega
   obtain⟨k0,k1,k2,k3,k4,k5⟩:=zE XP.out
   have ALL:Hid (m=p.secs.countP yC):=zD0 (by rw[HM_.out,HN.out.1,List.take_length])
   by_cases h1:m=n3
   ·subst h1
    have HF:Hid (xS (yT p)=true):=zD0 (jK ((pts_iff HT.out).2 ⟨by rw[←HN.out.2.1];exact LIM.out,RISE.out,ALL.out.symm.trans HN.out.2.1,fun a ha=>HALL.out a (by rw[HN.out.1];exact ha) ha⟩))
    go_wp2_with fail
    go_ret
    exact⟨by rw[HF.out];rfl,BW.out⟩
   ·have d1:((m:Int)==n3)=false:=by simpa using(show¬(m:Int)=n3 by omega)
    have d2:(m==n3)=false:=by simpa using h1
    have HF:Hid (xS (yT p)=false):=zD0 (qR fun h=>h1 (by rw[ALL.out,h.many];exact HN.out.2.1.symm))
    clear h1
    go_wp2_with fail
    go_ret
    exact⟨by rw[HF.out];rfl,BW.out⟩
set_option maxHeartbeats 16000000 in
theorem signals_prog (v:Value) (p:Pl) (w:World) (h:qF w w.heap.size v p):
  Calls Tryz.prog 86 #[v] w fun e w'=>e = .returned (.bool (xS (vO p)))∧Below w.heap.size w w':=by
 obtain⟨A2,c2,A3,c3,A4,c4,A5,c5,n2,n3,n4,n5,rfl,hm2,hm3,hm4,hm5,HCP,HIN,HN⟩:=kD h
 have hq0:=zB w (.cells #[.int .i64 p.ver,.int .i64 p.par,.slice A2 n2 c2,.slice A3 n3 c3,.slice A4 n4 c4,.slice A5 n5 c5] 27)
 have hqb:=zD w (.cells #[.int .i64 p.ver,.int .i64 p.par,.slice A2 n2 c2,.slice A3 n3 c3,.slice A4 n4 c4,.slice A5 n5 c5] 27)
 go_enter Tryz.func86,Tryz.ntmps86
 go_upto_region 1 with fail
 generalize w.alloc (.cells #[.int .i64 p.ver,.int .i64 p.par,.slice A2 n2 c2,.slice A3 n3 c3,.slice A4 n4 c4,.slice A5 n5 c5] 27)=q at hq0 hqb⊢
 have XP:=zD0 hq0
 have BQ:=zD0 hqb
 clear hq0 hqb
 obtain⟨k0,k1,k2,k3,k4,k5⟩:=zE XP.out
 by_cases h1:10<n4
 ·have d1:decide ((10:Int)<n4)=true:=decide_eq_true (by omega)
  have HF:Hid (xS (vO p)=false):=zD0 (qR fun h=>by have:=sigs_iff.1 h;have:=this.n;have:=HN.out;omega)
  clear h1
  go_wp2_with fail
  go_ret
  exact⟨by rw[HF.out];rfl,BQ.out⟩
 have d1:decide ((10:Int)<n4)=false:=decide_eq_false (by omega)
 have LIM:Hid (n4≤10):=zD0 (by omega)
 clear h1
 have HI:=zD0 ((HIN.out.below BQ.out).more BQ.out.size)
 go_wp2_with fail
 refine(rising_sg _ p.sigs _ HI.out.sigs).mono ?_
 rintro e w1 ⟨rfl,b1⟩
 clear k0 k1 k2 k3 k4 k5
 replace BQ:=zD0 (BQ.out.trans (b1.mono BQ.out.size))
 replace XP:=zD0 ((b1.block _ (zA XP.out)).trans XP.out)
 replace HI:=zD0 ((HI.out.below b1).more b1.size)
 clear b1
 obtain⟨k0,k1,k2,k3,k4,k5⟩:=zE XP.out
 cases hrs:yI kSg p.sigs with
 | false=>
  have HF:Hid (xS (vO p)=false):=zD0 (qR fun h=>by rw[zAs ((sigs_iff.1 h).rise)] at hrs;cases hrs)
  clear hrs
  go_wp2_with fail
  go_ret
  exact⟨by rw[HF.out];rfl,BQ.out⟩
 | true=>
 have RISE:=zD0 (riseB_iff.1 hrs)
 clear hrs
 go_wp2_with fail
 clear k0 k1 k2 k3 k4 k5
 go_loopw [18] (fun s18 wr=>∃i:Nat,i≤n4∧s18 = .int .i64 i∧(∀i' (hi:i'<i) (hl:i'<p.sigs.length),0≤p.sigs[i'].2.2∧p.sigs[i'].2.2<zAm p.secs p.sigs[i'].2.1∧qJ (p.sigs.take i') p.sigs[i'].2.1 p.sigs[i'].2.2=0)∧wr.heap[w.heap.size]? = some (.cells #[.int .i64 p.ver,.int .i64 p.par,.slice A2 n2 c2,.slice A3 n3 c3,.slice A4 n4 c4,.slice A5 n5 c5] 27 (0,0))∧Below w.heap.size w wr) (fun s18 _=>n4-(intOf s18).toNat)
 case atStart=>exact⟨0,by omega,by go_num,fun i' hi=>absurd hi (by omega),XP.out,BQ.out⟩
 case round=>
  obtain⟨i,hi,rfl,hall,hxp,hb⟩:=hrel
  have HALL:=zD0 hall
  clear XP BQ HI
  have BW:=zD0 hb
  have XP:=zD0 hxp
  clear hall hb hxp
  by_cases hlt:i<n4
  ·have hlt':(i:Int)<n4:=by omega
   have hic:(i:Int)≤c4:=by have:=HCP.out;omega
   have hir:i<p.sigs.length:=by rw[←HN.out.2.2.1];exact hlt
   have HTK0:=zD0 (((HIN.out.sigs.below zP BW.out).more zP BW.out.size).take (Nat.le_of_lt hlt))
   have HI0:=zD0 ((HIN.out.below BW.out).more BW.out.size)
   obtain⟨bk,off,rfl,hbk,hc0,hc1,hc2⟩:=((HIN.out.sigs.below zP BW.out).more zP BW.out.size).at hir
   obtain⟨a,b,c_,hx⟩:∃a b c,p.sigs[i]=(a,b,c):=⟨_,_,_,rfl⟩
   have HX:=zD0 hx
   rw[hx] at hc0 hc1 hc2
   have hg0:wr.cell? ⟨bk,off+i*3,none⟩=some (.int .i64 a):=hc0
   have hg1:wr.cell? ⟨bk,off+i*3+1,none⟩=some (.int .i64 b):=hc1
   have hg2:wr.cell? ⟨bk,off+i*3+2,none⟩=some (.int .i64 c_):=hc2
   clear hc0 hc1 hc2 hx hbk
   obtain⟨q,hq⟩:=zD1 (wr.alloc (.cells #[.int .i64 a,.int .i64 b,.int .i64 c_] 115))
   have x1:=zB wr (.cells #[.int .i64 a,.int .i64 b,.int .i64 c_] 115)
   have b1:=zD wr (.cells #[.int .i64 a,.int .i64 b,.int .i64 c_] 115)
   rw[←hq] at x1 b1
   go_upto_region 6 with fail
   rw[←hq]
   have X4:=zD0 x1
   generalize wr.heap.size=pX4 at X4⊢
   clear x1 hq hg0 hg1 hg2
   have HTK:=zD0 ((HTK0.out.below zP b1).more zP b1.size)
   have HI:=zD0 ((HI0.out.below b1).more b1.size)
   clear HTK0 HI0
   replace BW:=zD0 (BW.out.trans (b1.mono BW.out.size))
   replace XP:=zD0 ((b1.block _ (zA XP.out)).trans XP.out)
   clear b1
   have FAIL:Hid (¬(0≤c_∧c_<zAm p.secs b∧qJ (p.sigs.take i) b c_=0)→xS (vO p)=false):=zD0 (fun hn=>qR fun h=>hn (by
    have:=(sigs_iff.1 h).each i hir
    rw[HX.out] at this
    exact this))
   have NXT:Hid ((0≤c_∧c_<zAm p.secs b∧qJ (p.sigs.take i) b c_=0)→∀i' (hi:i'<i+1) (hl:i'<p.sigs.length),0≤p.sigs[i'].2.2∧p.sigs[i'].2.2<zAm p.secs p.sigs[i'].2.1∧qJ (p.sigs.take i') p.sigs[i'].2.1 p.sigs[i'].2.2=0):=zD0 (fun h0 i' hi' hl=>by
    rcases Nat.lt_or_ge i' i with h|h
    ·exact HALL.out i' h hl
    ·obtain rfl:i'=i:=by omega
     rw[HX.out];exact h0)
   by_cases h0:c_<0
   ·have d0:decide (c_<0)=true:=decide_eq_true h0
    have HF:=zD0 (FAIL.out fun h=>by omega)
    clear h0
    refine wp_region_held_drew (S:=fun v=>Below q.heap.size q v) (by kernel_rfl) (Below.refl q.heap.size q).drew (fun zD2=>?_)
    refine tk 0 zD2 ?_;refine tkc 1 zD2 (fun w' hSw=>zC ((hSw.block _ (zA X4.out)).trans X4.out)) ?_;refine tk 2 zD2 ?_;refine tk 3 zD2 ?_;refine tks 4 zD2 ?_;refine tks 5 zD2 ?_;refine tks 6 zD2 ?_;refine tks 7 zD2 ?_;refine tks 8 zD2 ?_;refine tks 9 zD2 ?_;refine tks 10 zD2 ?_;refine tks 11 zD2 ?_;refine tk 12 zD2 ?_;refine tk 13 zD2 ?_;refine tks 14 zD2 ?_;refine tks 15 zD2 ?_;refine tks 16 zD2 ?_;refine tks 17 zD2 ?_;refine tks 18 zD2 ?_;refine tks 19 zD2 ?_;refine tks 20 zD2 ?_;refine tks 21 zD2 ?_;refine tks 22 zD2 ?_;refine tks 23 zD2 ?_;refine tk 24 zD2 ?_
    refine wpAnyH_done (by kernel_rfl) ?_ _
    have b2:=(Below.refl q.heap.size q).drew
    replace BW:=zD0 (BW.out.trans (b2.mono BW.out.size))
    replace XP:=zD0 ((b2.block _ (zA XP.out)).trans XP.out)
    clear b2
    go_wp2_with fail
    go_ret
    exact⟨by rw[HF.out];rfl,BW.out⟩
   have d0:decide (c_<0)=false:=decide_eq_false h0
   by_cases h1:zAm p.secs b≤c_
   ·have d1:decide (zAm p.secs b≤c_)=true:=decide_eq_true h1
    have HF:=zD0 (FAIL.out fun h=>by omega)
    clear h0 h1
    refine wp_region_held_drew (S:=fun v=>Below q.heap.size q v) (by kernel_rfl) (Below.refl q.heap.size q).drew (fun zD2=>?_)
    refine tk 0 zD2 ?_;refine tkc 1 zD2 (fun w' hSw=>zC ((hSw.block _ (zA X4.out)).trans X4.out)) ?_;refine tk 2 zD2 ?_;refine tk 3 zD2 ?_;refine tk 4 zD2 ?_;refine tkc 5 zD2 (fun w' hSw=>zC ((hSw.block _ (zA X4.out)).trans X4.out)) ?_;refine tk 6 zD2 ?_;refine tkc 7 zD2 (fun w' hSw=>zE ((hSw.block _ (zA XP.out)).trans XP.out)) ?_;refine tk 8 zD2 ?_;refine tkc 9 zD2 (fun w' hSw=>zC ((hSw.block _ (zA X4.out)).trans X4.out)) ?_
    refine tkr 10 (fun K hK=>?_)
    rw[if_pos (by rfl)]
    go_simp
    refine(ends_any _ p.secs b q.drew ((HI.out.secs.below zN (Below.refl q.heap.size q).drew))).mono ?_
    rintro e wA ⟨rfl,bA⟩
    have SA:Hid (Below q.heap.size q wA):=zD0 ((Below.refl q.heap.size q).drew.trans bA)
    clear bA
    try go_wp2_with fail
    refine hK.out _ _ ?_ fun zD2=>?_;exact SA.out;clear hK K;try simp only[zn,Act.put]
    refine tk 11 zD2 ?_;refine tk 12 zD2 ?_;refine tk 13 zD2 ?_;refine tks 14 zD2 ?_;refine tks 15 zD2 ?_;refine tks 16 zD2 ?_;refine tks 17 zD2 ?_;refine tks 18 zD2 ?_;refine tks 19 zD2 ?_;refine tks 20 zD2 ?_;refine tks 21 zD2 ?_;refine tks 22 zD2 ?_;refine tks 23 zD2 ?_;refine tk 24 zD2 ?_
    refine wpAnyH_done (by kernel_rfl) ?_ _
    have b2:=SA.out
    replace BW:=zD0 (BW.out.trans (b2.mono BW.out.size))
    replace XP:=zD0 ((b2.block _ (zA XP.out)).trans XP.out)
    clear b2
    go_wp2_with fail
    go_ret
    exact⟨by rw[HF.out];rfl,BW.out⟩
   have d1:decide (zAm p.secs b≤c_)=false:=decide_eq_false h1
   by_cases h2:qJ (p.sigs.take i) b c_=0
   ·have d2:(qJ (p.sigs.take i) b c_ != 0)=false:=by simpa using h2
    have NX:=zD0 (NXT.out ⟨by omega,by omega,h2⟩)
    clear h0 h1 h2
    refine wp_region_held_drew (S:=fun v=>Below q.heap.size q v) (by kernel_rfl) (Below.refl q.heap.size q).drew (fun zD2=>?_)
    refine tk 0 zD2 ?_;refine tkc 1 zD2 (fun w' hSw=>zC ((hSw.block _ (zA X4.out)).trans X4.out)) ?_;refine tk 2 zD2 ?_;refine tk 3 zD2 ?_;refine tk 4 zD2 ?_;refine tkc 5 zD2 (fun w' hSw=>zC ((hSw.block _ (zA X4.out)).trans X4.out)) ?_;refine tk 6 zD2 ?_;refine tkc 7 zD2 (fun w' hSw=>zE ((hSw.block _ (zA XP.out)).trans XP.out)) ?_;refine tk 8 zD2 ?_;refine tkc 9 zD2 (fun w' hSw=>zC ((hSw.block _ (zA X4.out)).trans X4.out)) ?_
    refine tkr 10 (fun K hK=>?_)
    rw[if_pos (by rfl)]
    go_simp
    refine(ends_any _ p.secs b q.drew ((HI.out.secs.below zN (Below.refl q.heap.size q).drew))).mono ?_
    rintro e wA ⟨rfl,bA⟩
    have SA:Hid (Below q.heap.size q wA):=zD0 ((Below.refl q.heap.size q).drew.trans bA)
    clear bA
    try go_wp2_with fail
    refine hK.out _ _ ?_ fun zD2=>?_;exact SA.out;clear hK K;try simp only[zn,Act.put]
    refine tk 11 zD2 ?_;refine tk 12 zD2 ?_;refine tk 13 zD2 ?_;refine tk 14 zD2 ?_;refine tkc 15 zD2 (fun w' hSw=>zE ((hSw.block _ (zA XP.out)).trans XP.out)) ?_;refine tk 16 zD2 ?_;refine tk 17 zD2 ?_;refine tk 18 zD2 ?_;refine tkc 19 zD2 (fun w' hSw=>zC ((hSw.block _ (zA X4.out)).trans X4.out)) ?_;refine tk 20 zD2 ?_;refine tkc 21 zD2 (fun w' hSw=>zC ((hSw.block _ (zA X4.out)).trans X4.out)) ?_
    refine tkr 22 (fun K hK=>?_)
    rw[if_pos (by rfl)]
    go_simp
    refine(stands_any _ (p.sigs.take i) b c_ wA ((HTK.out.below zP SA.out).more zP SA.out.size)).mono ?_
    rintro e wB ⟨rfl,bB⟩
    have SB:Hid (Below q.heap.size q wB):=zD0 (SA.out.trans (bB.mono SA.out.size))
    clear bB
    try go_wp2_with fail
    refine hK.out _ _ ?_ fun zD2=>?_;exact SB.out;clear hK K;try simp only[zn,Act.put]
    refine tk 23 zD2 ?_;refine tk 24 zD2 ?_
    refine wpAnyH_done (by kernel_rfl) ?_ _
    have b2:=SB.out
    replace BW:=zD0 (BW.out.trans (b2.mono BW.out.size))
    replace XP:=zD0 ((b2.block _ (zA XP.out)).trans XP.out)
    clear b2
    go_wp2_with fail
    go_roundw
    case measure=>simp[intOf];omega
    case rel=>exact⟨i+1,by omega,by go_num,NX.out,XP.out,BW.out⟩
   ·have d2:(qJ (p.sigs.take i) b c_ != 0)=true:=by simpa using h2
    have HF:=zD0 (FAIL.out fun h=>h2 h.2.2)
    clear h0 h1 h2
    refine wp_region_held_drew (S:=fun v=>Below q.heap.size q v) (by kernel_rfl) (Below.refl q.heap.size q).drew (fun zD2=>?_)
    refine tk 0 zD2 ?_;refine tkc 1 zD2 (fun w' hSw=>zC ((hSw.block _ (zA X4.out)).trans X4.out)) ?_;refine tk 2 zD2 ?_;refine tk 3 zD2 ?_;refine tk 4 zD2 ?_;refine tkc 5 zD2 (fun w' hSw=>zC ((hSw.block _ (zA X4.out)).trans X4.out)) ?_;refine tk 6 zD2 ?_;refine tkc 7 zD2 (fun w' hSw=>zE ((hSw.block _ (zA XP.out)).trans XP.out)) ?_;refine tk 8 zD2 ?_;refine tkc 9 zD2 (fun w' hSw=>zC ((hSw.block _ (zA X4.out)).trans X4.out)) ?_
    refine tkr 10 (fun K hK=>?_)
    rw[if_pos (by rfl)]
    go_simp
    refine(ends_any _ p.secs b q.drew ((HI.out.secs.below zN (Below.refl q.heap.size q).drew))).mono ?_
    rintro e wA ⟨rfl,bA⟩
    have SA:Hid (Below q.heap.size q wA):=zD0 ((Below.refl q.heap.size q).drew.trans bA)
    clear bA
    try go_wp2_with fail
    refine hK.out _ _ ?_ fun zD2=>?_;exact SA.out;clear hK K;try simp only[zn,Act.put]
    refine tk 11 zD2 ?_;refine tk 12 zD2 ?_;refine tk 13 zD2 ?_;refine tk 14 zD2 ?_;refine tkc 15 zD2 (fun w' hSw=>zE ((hSw.block _ (zA XP.out)).trans XP.out)) ?_;refine tk 16 zD2 ?_;refine tk 17 zD2 ?_;refine tk 18 zD2 ?_;refine tkc 19 zD2 (fun w' hSw=>zC ((hSw.block _ (zA X4.out)).trans X4.out)) ?_;refine tk 20 zD2 ?_;refine tkc 21 zD2 (fun w' hSw=>zC ((hSw.block _ (zA X4.out)).trans X4.out)) ?_
    refine tkr 22 (fun K hK=>?_)
    rw[if_pos (by rfl)]
    go_simp
    refine(stands_any _ (p.sigs.take i) b c_ wA ((HTK.out.below zP SA.out).more zP SA.out.size)).mono ?_
    rintro e wB ⟨rfl,bB⟩
    have SB:Hid (Below q.heap.size q wB):=zD0 (SA.out.trans (bB.mono SA.out.size))
    clear bB
    try go_wp2_with fail
    refine hK.out _ _ ?_ fun zD2=>?_;exact SB.out;clear hK K;try simp only[zn,Act.put]
    refine tk 23 zD2 ?_;refine tk 24 zD2 ?_
    refine wpAnyH_done (by kernel_rfl) ?_ _
    have b2:=SB.out
    replace BW:=zD0 (BW.out.trans (b2.mono BW.out.size))
    replace XP:=zD0 ((b2.block _ (zA XP.out)).trans XP.out)
    clear b2
    go_wp2_with fail
    go_ret
    exact⟨by rw[HF.out];rfl,BW.out⟩
  ·obtain rfl:i=n4:=by omega
   have hlt':¬(i:Int)<i:=by omega
   have HF:Hid (xS (vO p)=true):=zD0 (jK (sigs_iff.2 ⟨by rw[←HN.out.2.2.1];exact LIM.out,RISE.out,fun a ha=>HALL.out a (by rw[HN.out.2.2.1];exact ha) ha⟩))
   go_wp2_with fail
   go_ret
   exact⟨by rw[HF.out];rfl,BW.out⟩
set_option maxHeartbeats 16000000 in
theorem routes_prog (v:Value) (p:Pl) (w:World) (h:qF w w.heap.size v p) (ht:TMay p.secs) (hr:zBo kPt p.pts):
  Calls Tryz.prog 87 #[v] w fun e w'=>e = .returned (.bool (xS (zCx p)))∧Below w.heap.size w w':=by
 have HT:=zD0 ht
 have HRI:=zD0 hr
 clear ht hr
 obtain⟨A2,c2,A3,c3,A4,c4,A5,c5,n2,n3,n4,n5,rfl,hm2,hm3,hm4,hm5,HCP,HIN,HN⟩:=kD h
 have hq0:=zB w (.cells #[.int .i64 p.ver,.int .i64 p.par,.slice A2 n2 c2,.slice A3 n3 c3,.slice A4 n4 c4,.slice A5 n5 c5] 27)
 have hqb:=zD w (.cells #[.int .i64 p.ver,.int .i64 p.par,.slice A2 n2 c2,.slice A3 n3 c3,.slice A4 n4 c4,.slice A5 n5 c5] 27)
 go_enter Tryz.func87,Tryz.ntmps87
 go_upto_region 1 with fail
 generalize w.alloc (.cells #[.int .i64 p.ver,.int .i64 p.par,.slice A2 n2 c2,.slice A3 n3 c3,.slice A4 n4 c4,.slice A5 n5 c5] 27)=q at hq0 hqb⊢
 have XP:=zD0 hq0
 have BQ:=zD0 hqb
 clear hq0 hqb
 obtain⟨k0,k1,k2,k3,k4,k5⟩:=zE XP.out
 by_cases h1:16<n5
 ·have d1:decide ((16:Int)<n5)=true:=decide_eq_true (by omega)
  have HF:Hid (xS (zCx p)=false):=zD0 (qR fun h=>by have:=h;have:=this.n;have:=HN.out;omega)
  clear h1
  go_wp2_with fail
  go_ret
  exact⟨by rw[HF.out];rfl,BQ.out⟩
 have d1:decide ((16:Int)<n5)=false:=decide_eq_false (by omega)
 have LIM:Hid (n5≤16):=zD0 (by omega)
 clear h1
 have HI:=zD0 ((HIN.out.below BQ.out).more BQ.out.size)
 go_wp2_with fail
 refine(rising_rt _ p.routes _ HI.out.routes).mono ?_
 rintro e w1 ⟨rfl,b1⟩
 clear k0 k1 k2 k3 k4 k5
 replace BQ:=zD0 (BQ.out.trans (b1.mono BQ.out.size))
 replace XP:=zD0 ((b1.block _ (zA XP.out)).trans XP.out)
 replace HI:=zD0 ((HI.out.below b1).more b1.size)
 clear b1
 obtain⟨k0,k1,k2,k3,k4,k5⟩:=zE XP.out
 cases hrs:yI kRt p.routes with
 | false=>
  have HF:Hid (xS (zCx p)=false):=zD0 (qR fun h=>by rw[zAs (h.rise)] at hrs;cases hrs)
  clear hrs
  go_wp2_with fail
  go_ret
  exact⟨by rw[HF.out];rfl,BQ.out⟩
 | true=>
 have RISE:=zD0 (riseB_iff.1 hrs)
 clear hrs
 go_wp2_with fail
 clear k0 k1 k2 k3 k4 k5
 go_loopw [18] (fun s18 wr=>∃i:Nat,i≤n5∧s18 = .int .i64 i∧(∀i' (hi:i'<i) (hl:i'<p.routes.length),jQ p p.routes[i'])∧wr.heap[w.heap.size]? = some (.cells #[.int .i64 p.ver,.int .i64 p.par,.slice A2 n2 c2,.slice A3 n3 c3,.slice A4 n4 c4,.slice A5 n5 c5] 27 (0,0))∧Below w.heap.size w wr) (fun s18 _=>n5-(intOf s18).toNat)
 case atStart=>exact⟨0,by omega,by go_num,fun i' hi=>absurd hi (by omega),XP.out,BQ.out⟩
 case round=>
  obtain⟨i,hi,rfl,hall,hxp,hb⟩:=hrel
  have HALL:=zD0 hall
  clear XP BQ HI
  have BW:=zD0 hb
  have XP:=zD0 hxp
  clear hall hb hxp
  by_cases hlt:i<n5
  ·have hlt':(i:Int)<n5:=by omega
   have hir:i<p.routes.length:=by rw[←HN.out.2.2.2];exact hlt
   have HI0:=zD0 ((HIN.out.below BW.out).more BW.out.size)
   obtain⟨bk,off,rfl,hbk,hc0,hc1,hc2,hc6,u3,u4,u5,hc3,hc4,hc5,hr⟩:=((HIN.out.routes.below qM BW.out).more qM BW.out.size).at hir
   obtain⟨B3,d3,rfl,-,-⟩:=hr.path.slice
   obtain⟨B4,d4,rfl,-,-⟩:=hr.over.slice
   obtain⟨B5,d5,rfl,-,-⟩:=hr.flanks.slice
   obtain⟨a,en,ex,lp,lo,lf,tm,hx⟩:∃a en ex lp lo lf tm,p.routes[i]=(⟨a,en,ex,lp,lo,lf,tm⟩:Rt):=⟨_,_,_,_,_,_,_,rfl⟩
   have HX:=zD0 hx
   rw[hx] at hc0 hc1 hc2 hc3 hc4 hc5 hc6 hr
   dsimp only at hc0 hc1 hc2 hc3 hc4 hc5 hc6 hr
   obtain⟨m3,e3⟩:=zD1 (lp.length)
   obtain⟨m4,e4⟩:=zD1 (lo.length)
   obtain⟨m5,e5⟩:=zD1 (lf.length)
   rw[←e3] at hc3 hr
   rw[←e4] at hc4 hr
   rw[←e5] at hc5 hr
   have HR:=zD0 hr
   have HM:Hid (m3=lp.length∧m4=lo.length∧m5=lf.length):=zD0 ⟨e3,e4,e5⟩
   have hg0:wr.cell? ⟨bk,off+i*7,none⟩=some (.int .i64 a):=hc0
   have hg1:wr.cell? ⟨bk,off+i*7+1,none⟩=some (.int .i64 en):=hc1
   have hg2:wr.cell? ⟨bk,off+i*7+2,none⟩=some (.int .i64 ex):=hc2
   have hg3:wr.cell? ⟨bk,off+i*7+3,none⟩=some (.slice B3 m3 d3):=hc3
   have hg4:wr.cell? ⟨bk,off+i*7+4,none⟩=some (.slice B4 m4 d4):=hc4
   have hg5:wr.cell? ⟨bk,off+i*7+5,none⟩=some (.slice B5 m5 d5):=hc5
   have hg6:wr.cell? ⟨bk,off+i*7+6,none⟩=some (.int .i64 tm):=hc6
   clear hc0 hc1 hc2 hc3 hc4 hc5 hc6 hx hbk hr e3 e4 e5
   obtain⟨q,hq⟩:=zD1 (wr.alloc (.cells #[.int .i64 a,.int .i64 en,.int .i64 ex,.slice B3 m3 d3,.slice B4 m4 d4,.slice B5 m5 d5,.int .i64 tm] 64))
   have x1:=zB wr (.cells #[.int .i64 a,.int .i64 en,.int .i64 ex,.slice B3 m3 d3,.slice B4 m4 d4,.slice B5 m5 d5,.int .i64 tm] 64)
   have b1:=zD wr (.cells #[.int .i64 a,.int .i64 en,.int .i64 ex,.slice B3 m3 d3,.slice B4 m4 d4,.slice B5 m5 d5,.int .i64 tm] 64)
   rw[←hq] at x1 b1
   go_upto_region 6 with fail
   rw[←hq]
   have X4:=zD0 x1
   generalize wr.heap.size=pX4 at X4⊢
   clear x1 hq hg0 hg1 hg2 hg3 hg4 hg5 hg6
   have HI:=zD0 ((HI0.out.below b1).more b1.size)
   have HRV:=zD0 ((HR.out.below b1).more b1.size)
   clear HI0 HR
   replace BW:=zD0 (BW.out.trans (b1.mono BW.out.size))
   replace XP:=zD0 ((b1.block _ (zA XP.out)).trans XP.out)
   clear b1
   obtain⟨m0,m1,m2,m3_,m4_,m5_,m6⟩:=zL X4.out
   obtain⟨k0,k1,k2,k3,k4,k5⟩:=zE XP.out
   have FAIL:Hid (¬jQ p p.routes[i]→xS (zCx p)=false):=zD0 (fun hn=>qR fun h=>hn (h.each i hir))
   have NXT:Hid (jQ p p.routes[i]→∀i' (hi:i'<i+1) (hl:i'<p.routes.length),jQ p p.routes[i']):=zD0 (fun h0 i' hi' hl=>by
    rcases Nat.lt_or_ge i' i with h|h
    ·exact HALL.out i' h hl
    ·obtain rfl:i'=i:=by omega
     exact h0)
   obtain⟨rr,hrr⟩:=zD1 (p.routes[i])
   rw[←hrr] at FAIL NXT
   have HRR:Hid (rr=⟨a,en,ex,lp,lo,lf,tm⟩):=zD0 (hrr.trans HX.out)
   clear hrr
   by_cases h0:tm<1
   ·have d0:decide (tm<1)=true:=decide_eq_true h0
    have HF:=zD0 (FAIL.out fun h=>by have:=h.timer.1;rw[HRR.out] at this;exact absurd this (by show¬1≤tm;omega))
    clear h0
    go_wp2_with fail
    go_ret
    exact⟨by rw[HF.out];rfl,BW.out⟩
   have d0:decide (tm<1)=false:=decide_eq_false h0
   by_cases h1:9<tm
   ·have d1:decide (9<tm)=true:=decide_eq_true h1
    have HF:=zD0 (FAIL.out fun h=>by have:=h.timer.2;rw[HRR.out] at this;exact absurd this (by show¬tm≤9;omega))
    clear h0 h1
    go_wp2_with fail
    go_ret
    exact⟨by rw[HF.out];rfl,BW.out⟩
   have d1:decide (9<tm)=false:=decide_eq_false h1
   have TMB:Hid (1≤tm∧tm≤9):=zD0 (by omega)
   clear h0 h1
   go_wp2_with fail
   refine(leads_prog _ _ p ⟨a,en,ex,lp,lo,lf,tm⟩ q ⟨_,_,_,_,rfl,HI.out⟩ ⟨_,_,_,rfl,HRV.out⟩ HT.out).mono ?_
   rintro e w2 ⟨rfl,b1⟩
   clear m0 m1 m2 m3_ m4_ m5_ m6 k0 k1 k2 k3 k4 k5
   replace BW:=zD0 (BW.out.trans (b1.mono BW.out.size))
   replace XP:=zD0 ((b1.block _ (zA XP.out)).trans XP.out)
   replace X4:=zD0 ((b1.block _ (zA X4.out)).trans X4.out)
   replace HI:=zD0 ((HI.out.below b1).more b1.size)
   replace HRV:=zD0 ((HRV.out.below b1).more b1.size)
   clear b1
   rw[←HRR.out]
   cases hld:xS (zB9 p rr) with
   | false=>
    have HF:=zD0 (FAIL.out fun h=>by rw[jK (zDc.1 h).2.1] at hld;cases hld)
    clear hld
    go_wp2_with fail
    go_ret
    exact⟨by rw[HF.out];rfl,BW.out⟩
   | true=>
   have LD:=zD0 (zAx.1 hld)
   clear hld
   obtain⟨m0,m1,m2,m3_,m4_,m5_,m6⟩:=zL X4.out
   obtain⟨k0,k1,k2,k3,k4,k5⟩:=zE XP.out
   go_wp2_with fail
   refine(flanks_any _ _ p lf w2 ⟨_,_,_,_,rfl,HI.out⟩ HRV.out.flanks HRI.out).mono ?_
   rintro e w3 ⟨rfl,b1⟩
   clear m0 m1 m2 m3_ m4_ m5_ m6 k0 k1 k2 k3 k4 k5
   replace BW:=zD0 (BW.out.trans (b1.mono BW.out.size))
   replace XP:=zD0 ((b1.block _ (zA XP.out)).trans XP.out)
   clear b1
   cases hfl:xS (FlanksP p lf) with
   | false=>
    have HF:=zD0 (FAIL.out fun h=>by have h2:=(zDc.1 h).2.2;rw[HRR.out] at h2;rw[jK h2] at hfl;cases hfl)
    clear hfl
    go_wp2_with fail
    go_ret
    exact⟨by rw[HF.out];rfl,BW.out⟩
   | true=>
    have NX:=zD0 (NXT.out (zDc.2 ⟨by rw[HRR.out];exact TMB.out,LD.out,by rw[HRR.out];exact zAx.1 hfl⟩))
    clear hfl
    go_wp2_with fail
    go_roundw
    case measure=>simp[intOf];omega
    case rel=>exact⟨i+1,by omega,by go_num,NX.out,XP.out,BW.out⟩
  ·obtain rfl:i=n5:=by omega
   have hlt':¬(i:Int)<i:=by omega
   have HF:Hid (xS (zCx p)=true):=zD0 (jK ⟨by rw[←HN.out.2.2.2];exact LIM.out,RISE.out,fun a ha=>HALL.out a (by rw[HN.out.2.2.2];exact ha) ha⟩)
   go_wp2_with fail
   go_ret
   exact⟨by rw[HF.out];rfl,BW.out⟩
set_option maxHeartbeats 16000000 in
theorem check_prog (v:Value) (p:Pl) (w:World) (h:qF w w.heap.size v p):
  Calls Tryz.prog 59 #[v] w fun e w'=>e = .returned (.int .i64 (chk8 p))∧Below w.heap.size w w':=by
 obtain⟨A2,c2,A3,c3,A4,c4,A5,c5,n2,n3,n4,n5,rfl,hm2,hm3,hm4,hm5,HCP,HIN,HN⟩:=kD h
 have hq0:=zB w (.cells #[.int .i64 p.ver,.int .i64 p.par,.slice A2 n2 c2,.slice A3 n3 c3,.slice A4 n4 c4,.slice A5 n5 c5] 27)
 have hqb:=zD w (.cells #[.int .i64 p.ver,.int .i64 p.par,.slice A2 n2 c2,.slice A3 n3 c3,.slice A4 n4 c4,.slice A5 n5 c5] 27)
 go_enter Tryz.func59,Tryz.ntmps59
 go_upto_region 1 with fail
 generalize w.alloc (.cells #[.int .i64 p.ver,.int .i64 p.par,.slice A2 n2 c2,.slice A3 n3 c3,.slice A4 n4 c4,.slice A5 n5 c5] 27)=q at hq0 hqb⊢
 have XP:=zD0 hq0
 have BQ:=zD0 hqb
 clear hq0 hqb
 have HI:=zD0 ((HIN.out.below BQ.out).more BQ.out.size)
 have NO:Hid (¬xU p→chk8 p=8):=zD0 (fun h=>by rw[chk8,xJ h];rfl)
 have YES:Hid (xU p→chk8 p=0):=zD0 (fun h=>by rw[chk8,zAi h];rfl)
 obtain⟨k0,k1,k2,k3,k4,k5⟩:=zE XP.out
 go_wp2_with fail
 refine(versions_any _ p _ ⟨_,_,_,_,rfl,HI.out⟩).mono ?_
 rintro e w1 ⟨rfl,b1⟩
 clear k0 k1 k2 k3 k4 k5
 replace BQ:=zD0 (BQ.out.trans (b1.mono BQ.out.size))
 replace XP:=zD0 ((b1.block _ (zA XP.out)).trans XP.out)
 replace HI:=zD0 ((HI.out.below b1).more b1.size)
 clear b1
 cases h1:xS (VersP p) with
 | false=>
  have HF:=zD0 (NO.out fun h=>by rw[jK (zAp.1 h).1] at h1;cases h1)
  clear h1
  go_wp2_with fail
  go_ret
  exact⟨by rw[HF.out];rfl,BQ.out⟩
 | true=>
 have S1:=zD0 (zAx.1 h1)
 clear h1
 obtain⟨k0,k1,k2,k3,k4,k5⟩:=zE XP.out
 have CK1:Hid (mayT p.secs=false→chkT p.secs=8):=zD0 (fun h=>by rw[chkT,h];rfl)
 have CK0:Hid (mayT p.secs=true→chkT p.secs=0):=zD0 (fun h=>by rw[chkT,h];rfl)
 go_wp2_with fail
 refine(pcheck_any _ p.secs _ HI.out.secs).mono ?_
 rintro e w2 ⟨rfl,b1⟩
 clear k0 k1 k2 k3 k4 k5
 replace BQ:=zD0 (BQ.out.trans (b1.mono BQ.out.size))
 replace XP:=zD0 ((b1.block _ (zA XP.out)).trans XP.out)
 replace HI:=zD0 ((HI.out.below b1).more b1.size)
 clear b1
 generalize chkT p.secs=ck at CK0 CK1⊢
 cases hm:mayT p.secs with
 | false=>
  obtain rfl:=CK1.out hm
  have HF:=zD0 (NO.out fun h=>by rw[zDl (zAp.1 h).2.1] at hm;cases hm)
  clear hm
  go_wp2_with fail
  go_ret
  exact⟨by rw[HF.out];rfl,BQ.out⟩
 | true=>
 obtain rfl:=CK0.out hm
 have S2:=zD0 (mayT_iff.1 hm)
 clear hm
 obtain⟨k0,k1,k2,k3,k4,k5⟩:=zE XP.out
 go_wp2_with fail
 refine(points_prog _ p _ ⟨_,_,_,_,rfl,HI.out⟩ S2.out).mono ?_
 rintro e w3 ⟨rfl,b1⟩
 clear k0 k1 k2 k3 k4 k5
 replace BQ:=zD0 (BQ.out.trans (b1.mono BQ.out.size))
 replace XP:=zD0 ((b1.block _ (zA XP.out)).trans XP.out)
 replace HI:=zD0 ((HI.out.below b1).more b1.size)
 clear b1
 cases h3:xS (yT p) with
 | false=>
  have HF:=zD0 (NO.out fun h=>by rw[jK (zAp.1 h).2.2.1] at h3;cases h3)
  clear h3
  go_wp2_with fail
  go_ret
  exact⟨by rw[HF.out];rfl,BQ.out⟩
 | true=>
 have S3:=zD0 (zAx.1 h3)
 clear h3
 obtain⟨k0,k1,k2,k3,k4,k5⟩:=zE XP.out
 go_wp2_with fail
 refine(signals_prog _ p _ ⟨_,_,_,_,rfl,HI.out⟩).mono ?_
 rintro e w4 ⟨rfl,b1⟩
 clear k0 k1 k2 k3 k4 k5
 replace BQ:=zD0 (BQ.out.trans (b1.mono BQ.out.size))
 replace XP:=zD0 ((b1.block _ (zA XP.out)).trans XP.out)
 replace HI:=zD0 ((HI.out.below b1).more b1.size)
 clear b1
 cases h4:xS (vO p) with
 | false=>
  have HF:=zD0 (NO.out fun h=>by rw[jK (zAp.1 h).2.2.2.1] at h4;cases h4)
  clear h4
  go_wp2_with fail
  go_ret
  exact⟨by rw[HF.out];rfl,BQ.out⟩
 | true=>
 have S4:=zD0 (zAx.1 h4)
 clear h4
 obtain⟨k0,k1,k2,k3,k4,k5⟩:=zE XP.out
 go_wp2_with fail
 refine(routes_prog _ p _ ⟨_,_,_,_,rfl,HI.out⟩ S2.out ((pts_iff S2.out).1 S3.out).rise).mono ?_
 rintro e w5 ⟨rfl,b1⟩
 clear k0 k1 k2 k3 k4 k5
 replace BQ:=zD0 (BQ.out.trans (b1.mono BQ.out.size))
 replace XP:=zD0 ((b1.block _ (zA XP.out)).trans XP.out)
 replace HI:=zD0 ((HI.out.below b1).more b1.size)
 clear b1
 cases h5:xS (zCx p) with
 | false=>
  have HF:=zD0 (NO.out fun h=>by rw[jK (zAp.1 h).2.2.2.2] at h5;cases h5)
  clear h5
  go_wp2_with fail
  go_ret
  exact⟨by rw[HF.out];rfl,BQ.out⟩
 | true=>
 have S5:=zD0 (zAx.1 h5)
 clear h5
 have HF:=zD0 (YES.out (zAp.2 ⟨S1.out,S2.out,S3.out,S4.out,S5.out⟩))
 go_wp2_with fail
 go_ret
 exact⟨by rw[HF.out];rfl,BQ.out⟩
end Go.Proofs.YtemmgmjhomgbbaaGreat
