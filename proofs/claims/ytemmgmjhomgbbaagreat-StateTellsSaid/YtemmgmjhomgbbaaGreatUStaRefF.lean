/-
 The document's own package state: parts.
 Conditions: none.
-/
import Derived.Test.YtemmgmjhomgbbaaGreatUGStaRefD
import Derived.Test.YtemmgmjhomgbbaaGreatUGStaPC
set_option linter.unusedVariables false
set_option linter.unusedSimpArgs false
set_option maxRecDepth 100000
namespace Go.Proofs.YtemmgmjhomgbbaaGreat
open Go.RowKit
set_option maxHeartbeats 16000000 in
theorem rparts15_any (v y:Value) (p:Pl) (s:qD) (w:World) (h:qF w w.heap.size v p) (h':qL w w.heap.size y s):
  Calls Tryz.prog 58 #[v,y] w fun e w'=>e = .returned (.bool (kP p s))∧Below w.heap.size w w':=by
 obtain⟨p2,p3,p4,p5,rfl,h⟩:=h
 obtain⟨A2,a2,rfl,hcl,hcm⟩:=h.secs.slice
 obtain⟨b2,hb2⟩:=zD1 (p.secs.length)
 have P2:Hid (zX w w.heap.size (.slice A2 b2 a2) p.secs):=zD0 (by rw[hb2];exact h.secs)
 have hbb2:b2≤9223372036854775807:=by unfold maxLen at hcm;omega
 rw[←hb2]
 clear hcl hcm
 obtain⟨A3,a3,rfl,hcl,hcm⟩:=h.pts.slice
 obtain⟨b3,hb3⟩:=zD1 (p.pts.length)
 have P3:Hid (zT w w.heap.size (.slice A3 b3 a3) p.pts):=zD0 (by rw[hb3];exact h.pts)
 have hbb3:b3≤9223372036854775807:=by unfold maxLen at hcm;omega
 rw[←hb3]
 clear hcl hcm
 obtain⟨A4,a4,rfl,hcl,hcm⟩:=h.sigs.slice
 obtain⟨b4,hb4⟩:=zD1 (p.sigs.length)
 have P4:Hid (xI w w.heap.size (.slice A4 b4 a4) p.sigs):=zD0 (by rw[hb4];exact h.sigs)
 have hbb4:b4≤9223372036854775807:=by unfold maxLen at hcm;omega
 rw[←hb4]
 clear hcl hcm
 obtain⟨A5,a5,rfl,hcl,hcm⟩:=h.routes.slice
 obtain⟨b5,hb5⟩:=zD1 (p.routes.length)
 have P5:Hid (qX w w.heap.size (.slice A5 b5 a5) p.routes):=zD0 (by rw[hb5];exact h.routes)
 have hbb5:b5≤9223372036854775807:=by unfold maxLen at hcm;omega
 rw[←hb5]
 clear hcl hcm
 have HBL:Hid (b2=p.secs.length∧b3=p.pts.length∧b4=p.sigs.length∧b5=p.routes.length):=zD0 ⟨hb2,hb3,hb4,hb5⟩
 clear h hb2 hb3 hb4 hb5
 obtain⟨_,_,_,rfl,h'⟩:=h'
 obtain⟨S0,Sc0,rfl,hcl,hcm⟩:=h'.tr.slice
 obtain⟨Sn0,hS0⟩:=zD1 (s.tr.length)
 have HS0:Hid (jD w w.heap.size (.slice S0 Sn0 Sc0) s.tr):=zD0 (by rw[hS0];exact h'.tr)
 have hbS0:Sn0≤9223372036854775807:=by unfold maxLen at hcm;omega
 rw[←hS0]
 clear hcl hcm
 obtain⟨S1,Sc1,rfl,hcl,hcm⟩:=h'.sw.slice
 obtain⟨Sn1,hS1⟩:=zD1 (s.sw.length)
 have HS1:Hid (xP w w.heap.size (.slice S1 Sn1 Sc1) s.sw):=zD0 (by rw[hS1];exact h'.sw)
 have hbS1:Sn1≤9223372036854775807:=by unfold maxLen at hcm;omega
 rw[←hS1]
 clear hcl hcm
 obtain⟨S2,Sc2,rfl,hcl,hcm⟩:=h'.lk.slice
 obtain⟨Sn2,hS2⟩:=zD1 (s.lk.length)
 have HS2:Hid (xO w w.heap.size (.slice S2 Sn2 Sc2) s.lk):=zD0 (by rw[hS2];exact h'.lk)
 have hbS2:Sn2≤9223372036854775807:=by unfold maxLen at hcm;omega
 rw[←hS2]
 clear hcl hcm
 have NS:Hid (Sn0=s.tr.length∧Sn1=s.sw.length∧Sn2=s.lk.length):=zD0 ⟨hS0,hS1,hS2⟩
 clear h' hS0 hS1 hS2
 have hq:=zV w (.cells #[.int .i64 p.ver,.int .i64 p.par,.slice A2 b2 a2,.slice A3 b3 a3,.slice A4 b4 a4,.slice A5 b5 a5] 27) (.cells #[.slice S0 Sn0 Sc0,.slice S1 Sn1 Sc1,.slice S2 Sn2 Sc2] 32)
 go_enter Tryz.func58,Tryz.ntmps58
 go_upto_region 1 with fail
 generalize (w.alloc (.cells #[.int .i64 p.ver,.int .i64 p.par,.slice A2 b2 a2,.slice A3 b3 a3,.slice A4 b4 a4,.slice A5 b5 a5] 27)).alloc (.cells #[.slice S0 Sn0 Sc0,.slice S1 Sn1 Sc1,.slice S2 Sn2 Sc2] 32)=q at hq⊢
 obtain⟨q0,q1,qb⟩:=hq
 have X:=zD0 q0
 have Y:=zD0 q1
 have BQ:=zD0 qb
 clear q0 q1 qb
 obtain⟨k0,k1,k2,k3,k4,k5⟩:=zE X.out
 obtain⟨m0,m1,m2⟩:=zC Y.out
 by_cases e0:Sn0=b2
 rotate_left
 ·have d0:((Sn0:Int) != b2)=true:=by simpa using(show¬(Sn0:Int)=b2 by omega)
  have HF:Hid (kP p s=false):=zD0 (jT fun h=>e0 (by rw[NS.out.1,HBL.out.1];exact h.nt))
  clear e0
  go_wp2_with fail
  go_ret
  exact⟨by rw[HF.out];rfl,BQ.out⟩
 have d0:((Sn0:Int) != b2)=false:=by simpa using(show(Sn0:Int)=b2 by omega)
 have L0:=zD0 e0
 clear e0
 by_cases e1:Sn1=b3
 rotate_left
 ·have d1:((Sn1:Int) != b3)=true:=by simpa using(show¬(Sn1:Int)=b3 by omega)
  have HF:Hid (kP p s=false):=zD0 (jT fun h=>e1 (by rw[NS.out.2.1,HBL.out.2.1];exact h.ns))
  clear e1
  go_wp2_with fail
  go_ret
  exact⟨by rw[HF.out];rfl,BQ.out⟩
 have d1:((Sn1:Int) != b3)=false:=by simpa using(show(Sn1:Int)=b3 by omega)
 have L1:=zD0 e1
 clear e1
 by_cases e2:Sn2=b5
 rotate_left
 ·have d2:((Sn2:Int) != b5)=true:=by simpa using(show¬(Sn2:Int)=b5 by omega)
  have HF:Hid (kP p s=false):=zD0 (jT fun h=>e2 (by rw[NS.out.2.2,HBL.out.2.2.2];exact h.nl))
  clear e2
  go_wp2_with fail
  go_ret
  exact⟨by rw[HF.out];rfl,BQ.out⟩
 have d2:((Sn2:Int) != b5)=false:=by simpa using(show(Sn2:Int)=b5 by omega)
 have L2:=zD0 e2
 clear e2
 have BS:=zD0 (Below.refl q.heap.size q)
 go_upto_region 4 with fail
 clear k0 k1 k2 k3 k4 k5 m0 m1 m2
 go_loopw [5] (fun s5 wr=>∃i:Nat,i≤Sn0∧s5 = .int .i64 i∧(∀j (hj:j<i) (hl:j<s.tr.length) (hm:j<p.secs.length),s.tr[j].1=p.secs[j].1∧s.tr[j].2≤2)∧Below q.heap.size q wr) (fun s5 _=>Sn0-(intOf s5).toNat)
 case atStart=>exact⟨0,by omega,by go_num,fun j hj=>absurd hj (by omega),BS.out⟩
 case round=>
  obtain⟨wx,hwx⟩:=zD1 (wr)
  subst hwx
  obtain⟨i,hi,rfl,hall,hbw⟩:=hrel
  have HALL:=zD0 hall
  have BW:=zD0 hbw
  clear hall hbw
  have BF:=zD0 (BQ.out.trans (BW.out.mono BQ.out.size))
  have XPw:=zD0 ((BW.out.block _ (zA X.out)).trans X.out)
  have YPw:=zD0 ((BW.out.block _ (zA Y.out)).trans Y.out)
  have BD:Hid (∀nq,Below q.heap.size q (wx.drewN nq)):=zD0 (fun nq=>⟨BW.out.os,BW.out.tape,BW.out.output,BW.out.size,BW.out.block⟩)
  obtain⟨k0,k1,k2,k3,k4,k5⟩:=zE XPw.out
  obtain⟨m0,m1,m2⟩:=zC YPw.out
  by_cases hlt:i<Sn0
  ·have hlt':(i:Int)<Sn0:=by omega
   have hlm:(i:Int)<b2:=by have:=L0.out;omega
   have hir:i<s.tr.length:=by have:=NS.out;omega
   have him:i<p.secs.length:=by have:=HBL.out;have:=L0.out;omega
   obtain⟨ba,oa,rfl,hba,hc0,hc1,hu0,hu1⟩:=((HS0.out.below xY BF.out).more xY BF.out.size).at hir
   obtain⟨a0_,ha0⟩:=zD1 (s.tr[i].1)
   obtain⟨a1_,ha1⟩:=zD1 (s.tr[i].2)
   rw[←ha0] at hc0
   rw[←ha1] at hc1
   have G0:Hid (wx.cell? ⟨ba,oa+i*2,none⟩=some (.int .i64 a0_)):=zD0 hc0
   have HA0:=zD0 ha0
   have G1:Hid (wx.cell? ⟨ba,oa+i*2+1,none⟩=some (.int .u8 a1_)):=zD0 hc1
   have HA1:=zD0 ha1
   obtain⟨bb,ob,rfl,hbb,hd0,-⟩:=((P2.out.below zN BF.out).more zN BF.out.size).at him
   obtain⟨r0_,hr0⟩:=zD1 (p.secs[i].1)
   rw[←hr0] at hd0
   have D0:Hid (wx.cell? ⟨bb,ob+i*3,none⟩=some (.int .i64 r0_)):=zD0 (by simpa using hd0)
   have HR0:=zD0 hr0
   clear hd0 hr0 hbb
   clear hc0 ha0 hc1 ha1 hba hu0 hu1
   go_upto_region 6 with fail
   clear k0 k1 k2 k3 k4 k5 m0 m1 m2
   by_cases he:a0_=r0_
   rotate_left
   ·have hd_:(a0_ != r0_)=true:=by simpa using he
    have SD:=(Below.refl wx.heap.size wx).drew
    refine wp_region_held_drew (S:=fun v=>Below wx.heap.size wx v) (by kernel_rfl) SD (fun zD2=>?_)
    refine tk 0 zD2 ?_;refine tkc 1 zD2 (fun w' hSw=>zC ((hSw.block _ (zA YPw.out)).trans YPw.out)) ?_;refine tk 2 zD2 ?_;refine tk 3 zD2 ?_;refine tk 4 zD2 ?_;refine tkc 5 zD2 (fun w' hSw=>(hSw.cell (zG G0.out)).trans G0.out) ?_;refine tk 6 zD2 ?_;refine tkc 7 zD2 (fun w' hSw=>zE ((hSw.block _ (zA XPw.out)).trans XPw.out)) ?_;refine tk 8 zD2 ?_;refine tk 9 zD2 ?_;refine tk 10 zD2 ?_;refine tkc 11 zD2 (fun w' hSw=>(hSw.cell (zG D0.out)).trans D0.out) ?_;refine tk 12 zD2 ?_;refine tk 13 zD2 ?_;refine tks 14 zD2 ?_;refine tks 15 zD2 ?_;refine tks 16 zD2 ?_;refine tks 17 zD2 ?_;refine tks 18 zD2 ?_;refine tks 19 zD2 ?_;refine tks 20 zD2 ?_;refine tk 21 zD2 ?_
    refine wpAnyH_done (by kernel_rfl) ?_ _
    have B7:=zD0 (BW.out.trans ((Below.refl wx.heap.size wx).drew.mono BW.out.size))
    clear SD
    generalize wx.drew=q7 at B7⊢
    have HF:Hid (kP p s=false):=zD0 (jT fun h=>by
     have h:=h.tr i hir
     rw[←HA0.out,←HR0.out] at h
     exact he h.1)
    go_wp2_with fail
    go_ret
    exact⟨by rw[HF.out];rfl,BQ.out.trans (B7.out.mono BQ.out.size)⟩
   have hd_:(a0_ != r0_)=false:=by simpa using he
   by_cases hz:a1_>2
   ·have hz_:decide (a1_>2)=true:=decide_eq_true hz
    have SD:=(Below.refl wx.heap.size wx).drew
    refine wp_region_held_drew (S:=fun v=>Below wx.heap.size wx v) (by kernel_rfl) SD (fun zD2=>?_)
    refine tk 0 zD2 ?_;refine tkc 1 zD2 (fun w' hSw=>zC ((hSw.block _ (zA YPw.out)).trans YPw.out)) ?_;refine tk 2 zD2 ?_;refine tk 3 zD2 ?_;refine tk 4 zD2 ?_;refine tkc 5 zD2 (fun w' hSw=>(hSw.cell (zG G0.out)).trans G0.out) ?_;refine tk 6 zD2 ?_;refine tkc 7 zD2 (fun w' hSw=>zE ((hSw.block _ (zA XPw.out)).trans XPw.out)) ?_;refine tk 8 zD2 ?_;refine tk 9 zD2 ?_;refine tk 10 zD2 ?_;refine tkc 11 zD2 (fun w' hSw=>(hSw.cell (zG D0.out)).trans D0.out) ?_;refine tk 12 zD2 ?_;refine tk 13 zD2 ?_;refine tk 14 zD2 ?_;refine tkc 15 zD2 (fun w' hSw=>zC ((hSw.block _ (zA YPw.out)).trans YPw.out)) ?_;refine tk 16 zD2 ?_;refine tk 17 zD2 ?_;refine tk 18 zD2 ?_;refine tkc 19 zD2 (fun w' hSw=>(hSw.cell (zG G1.out)).trans G1.out) ?_;refine tk 20 zD2 ?_;refine tk 21 zD2 ?_
    refine wpAnyH_done (by kernel_rfl) ?_ _
    have B7:=zD0 (BW.out.trans ((Below.refl wx.heap.size wx).drew.mono BW.out.size))
    clear SD
    generalize wx.drew=q7 at B7⊢
    have HF:Hid (kP p s=false):=zD0 (jT fun h=>by
     have h:=h.tr i hir
     rw[←HA0.out,←HR0.out] at h
     exact by have h2:=h.2;rw[←HA1.out] at h2;omega)
    go_wp2_with fail
    go_ret
    exact⟨by rw[HF.out];rfl,BQ.out.trans (B7.out.mono BQ.out.size)⟩
   have hz_:decide (a1_>2)=false:=decide_eq_false hz
   have HE:=zD0 he
   clear he
   have SD:=(Below.refl wx.heap.size wx).drew
   refine wp_region_held_drew (S:=fun v=>Below wx.heap.size wx v) (by kernel_rfl) SD (fun zD2=>?_)
   refine tk 0 zD2 ?_;refine tkc 1 zD2 (fun w' hSw=>zC ((hSw.block _ (zA YPw.out)).trans YPw.out)) ?_;refine tk 2 zD2 ?_;refine tk 3 zD2 ?_;refine tk 4 zD2 ?_;refine tkc 5 zD2 (fun w' hSw=>(hSw.cell (zG G0.out)).trans G0.out) ?_;refine tk 6 zD2 ?_;refine tkc 7 zD2 (fun w' hSw=>zE ((hSw.block _ (zA XPw.out)).trans XPw.out)) ?_;refine tk 8 zD2 ?_;refine tk 9 zD2 ?_;refine tk 10 zD2 ?_;refine tkc 11 zD2 (fun w' hSw=>(hSw.cell (zG D0.out)).trans D0.out) ?_;refine tk 12 zD2 ?_;refine tk 13 zD2 ?_;refine tk 14 zD2 ?_;refine tkc 15 zD2 (fun w' hSw=>zC ((hSw.block _ (zA YPw.out)).trans YPw.out)) ?_;refine tk 16 zD2 ?_;refine tk 17 zD2 ?_;refine tk 18 zD2 ?_;refine tkc 19 zD2 (fun w' hSw=>(hSw.cell (zG G1.out)).trans G1.out) ?_;refine tk 20 zD2 ?_;refine tk 21 zD2 ?_
   refine wpAnyH_done (by kernel_rfl) ?_ _
   have B7:=zD0 (BW.out.trans ((Below.refl wx.heap.size wx).drew.mono BW.out.size))
   clear SD
   generalize wx.drew=q7 at B7⊢
   have NX:Hid (∀j (hj:j<i+1) (hl:j<s.tr.length) (hm:j<p.secs.length),s.tr[j].1=p.secs[j].1∧s.tr[j].2≤2):=zD0 (fun j hj h1 h2=>by
    rcases Nat.lt_or_ge j i with h|h
    ·exact HALL.out j h h1 h2
    ·obtain rfl:j=i:=by omega
     exact⟨by rw[←HA0.out,←HR0.out];exact HE.out,by rw[←HA1.out];omega⟩)
   go_wp2_with fail
   go_roundw
   case measure=>simp[intOf];omega
   case rel=>exact⟨i+1,by omega,by go_num,NX.out,B7.out⟩
  ·obtain rfl:Sn0=i:=by omega
   have hlt':¬(Sn0:Int)<Sn0:=by omega
   have ALL0:Hid (∀j (hl:j<s.tr.length) (hm:j<p.secs.length),s.tr[j].1=p.secs[j].1∧s.tr[j].2≤2):=zD0 (fun j h1 h2=>HALL.out j (by rw[NS.out.1];exact h1) h1 h2)
   have BS:=BW
   clear HALL BF BD XPw YPw
   go_upto_region 9 with fail
   clear k0 k1 k2 k3 k4 k5 m0 m1 m2
   go_loopw [6] (fun s6 wr=>∃i:Nat,i≤Sn1∧s6 = .int .i64 i∧(∀j (hj:j<i) (hl:j<s.sw.length) (hm:j<p.pts.length),s.sw[j].1=p.pts[j].1∧(0≤s.sw[j].2.1∧s.sw[j].2.1≤2)∧0≤s.sw[j].2.2∧s.sw[j].2.2≤2)∧Below q.heap.size q wr) (fun s6 _=>Sn1-(intOf s6).toNat)
   case atStart=>exact⟨0,by omega,by go_num,fun j hj=>absurd hj (by omega),BS.out⟩
   case round=>
    obtain⟨wx,hwx⟩:=zD1 (wr)
    subst hwx
    obtain⟨i,hi,rfl,hall,hbw⟩:=hrel
    have HALL:=zD0 hall
    have BW:=zD0 hbw
    clear hall hbw
    have BF:=zD0 (BQ.out.trans (BW.out.mono BQ.out.size))
    have XPw:=zD0 ((BW.out.block _ (zA X.out)).trans X.out)
    have YPw:=zD0 ((BW.out.block _ (zA Y.out)).trans Y.out)
    have BD:Hid (∀nq,Below q.heap.size q (wx.drewN nq)):=zD0 (fun nq=>⟨BW.out.os,BW.out.tape,BW.out.output,BW.out.size,BW.out.block⟩)
    obtain⟨k0,k1,k2,k3,k4,k5⟩:=zE XPw.out
    obtain⟨m0,m1,m2⟩:=zC YPw.out
    by_cases hlt:i<Sn1
    ·have hlt':(i:Int)<Sn1:=by omega
     have hlm:(i:Int)<b3:=by have:=L1.out;omega
     have hir:i<s.sw.length:=by have:=NS.out;omega
     have him:i<p.pts.length:=by have:=HBL.out;have:=L1.out;omega
     obtain⟨ba,oa,rfl,hba,hc0,hc1,hc2⟩:=((HS1.out.below zP BF.out).more zP BF.out.size).at hir
     obtain⟨a0_,ha0⟩:=zD1 (s.sw[i].1)
     obtain⟨a1_,ha1⟩:=zD1 (s.sw[i].2.1)
     obtain⟨a2_,ha2⟩:=zD1 (s.sw[i].2.2)
     rw[←ha0] at hc0
     rw[←ha1] at hc1
     rw[←ha2] at hc2
     have G0:Hid (wx.cell? ⟨ba,oa+i*3,none⟩=some (.int .i64 a0_)):=zD0 hc0
     have HA0:=zD0 ha0
     have G1:Hid (wx.cell? ⟨ba,oa+i*3+1,none⟩=some (.int .i64 a1_)):=zD0 hc1
     have HA1:=zD0 ha1
     have G2:Hid (wx.cell? ⟨ba,oa+i*3+2,none⟩=some (.int .i64 a2_)):=zD0 hc2
     have HA2:=zD0 ha2
     obtain⟨bb,ob,rfl,hbb,hd0,-⟩:=((P3.out.below zM BF.out).more zM BF.out.size).at him
     obtain⟨r0_,hr0⟩:=zD1 (p.pts[i].1)
     rw[←hr0] at hd0
     have D0:Hid (wx.cell? ⟨bb,ob+i*2,none⟩=some (.int .i64 r0_)):=zD0 (by simpa using hd0)
     have HR0:=zD0 hr0
     clear hd0 hr0 hbb
     clear hc0 ha0 hc1 ha1 hc2 ha2 hba
     have hg0:=G0.out
     have hg1:=G1.out
     have hg2:=G2.out
     have x7:=zB wx (.cells #[.int .i64 a0_,.int .i64 a1_,.int .i64 a2_] 55)
     have b7:=zD wx (.cells #[.int .i64 a0_,.int .i64 a1_,.int .i64 a2_] 55)
     go_upto_region 12 with fail
     clear k0 k1 k2 k3 k4 k5 m0 m1 m2 hg0 hg1 hg2
     generalize wx.alloc (.cells #[.int .i64 a0_,.int .i64 a1_,.int .i64 a2_] 55)=wy at x7 b7⊢
     generalize wx.heap.size=p7 at x7⊢
     have D0':=zD0 ((b7.cell (zG D0.out)).trans D0.out)
     have BY:=zD0 (BW.out.trans (b7.mono BW.out.size))
     have X7:=zD0 x7
     clear x7 b7 XPw YPw BD
     have XPw:=zD0 ((BY.out.block _ (zA X.out)).trans X.out)
     by_cases he:a0_=r0_
     rotate_left
     ·have hd_:(a0_ != r0_)=true:=by simpa using he
      have SD:=(Below.refl wy.heap.size wy).drew
      refine wp_region_held_drew (S:=fun v=>Below wy.heap.size wy v) (by kernel_rfl) SD (fun zD2=>?_)
      refine tk 0 zD2 ?_;refine tkc 1 zD2 (fun w' hSw=>zC ((hSw.block _ (zA X7.out)).trans X7.out)) ?_;refine tk 2 zD2 ?_;refine tkc 3 zD2 (fun w' hSw=>zE ((hSw.block _ (zA XPw.out)).trans XPw.out)) ?_;refine tk 4 zD2 ?_;refine tk 5 zD2 ?_;refine tk 6 zD2 ?_
      refine wpAnyH_take (i:=7) (v:=?_) rfl (by kernel_rfl) (by kernel_rfl) (by kernel_rfl) (fun _ _ _ h=>h) (Or.inl ⟨by rfl,?_⟩) zD2 ?_
      rotate_left
      ·intro w' hSw;have cD0':=(hSw.cell (zG D0'.out)).trans D0'.out;go_simp;try with_reducible rfl
      simp only[zn,Act.put]
      refine tk 8 zD2 ?_;refine tk 9 zD2 ?_;refine tks 10 zD2 ?_;refine tks 11 zD2 ?_;refine tks 12 zD2 ?_;refine tk 13 zD2 ?_;refine tk 14 zD2 ?_;refine tks 15 zD2 ?_;refine tks 16 zD2 ?_;refine tks 17 zD2 ?_;refine tk 18 zD2 ?_;refine tk 19 zD2 ?_;refine tks 20 zD2 ?_;refine tks 21 zD2 ?_;refine tks 22 zD2 ?_;refine tk 23 zD2 ?_;refine tk 24 zD2 ?_;refine tks 25 zD2 ?_;refine tks 26 zD2 ?_;refine tks 27 zD2 ?_;refine tk 28 zD2 ?_
      refine wpAnyH_done (by kernel_rfl) ?_ _
      have B7:=zD0 (BY.out.trans ((Below.refl wy.heap.size wy).drew.mono BY.out.size))
      clear SD
      generalize wy.drew=q7 at B7⊢
      have HF:Hid (kP p s=false):=zD0 (jT fun h=>by
       have h:=h.sw i hir
       rw[←HA0.out,←HR0.out] at h
       exact he h.1)
      go_wp2_with fail
      go_ret
      exact⟨by rw[HF.out];rfl,BQ.out.trans (B7.out.mono BQ.out.size)⟩
     have hd_:(a0_ != r0_)=false:=by simpa using he
     have HE:=zD0 he
     clear he
     by_cases hz0:a1_<0
     ·have hz0_:decide (a1_<0)=true:=decide_eq_true hz0
      have SD:=(Below.refl wy.heap.size wy).drew
      refine wp_region_held_drew (S:=fun v=>Below wy.heap.size wy v) (by kernel_rfl) SD (fun zD2=>?_)
      refine tk 0 zD2 ?_;refine tkc 1 zD2 (fun w' hSw=>zC ((hSw.block _ (zA X7.out)).trans X7.out)) ?_;refine tk 2 zD2 ?_;refine tkc 3 zD2 (fun w' hSw=>zE ((hSw.block _ (zA XPw.out)).trans XPw.out)) ?_;refine tk 4 zD2 ?_;refine tk 5 zD2 ?_;refine tk 6 zD2 ?_
      refine wpAnyH_take (i:=7) (v:=?_) rfl (by kernel_rfl) (by kernel_rfl) (by kernel_rfl) (fun _ _ _ h=>h) (Or.inl ⟨by rfl,?_⟩) zD2 ?_
      rotate_left
      ·intro w' hSw;have cD0':=(hSw.cell (zG D0'.out)).trans D0'.out;go_simp;try with_reducible rfl
      simp only[zn,Act.put]
      refine tk 8 zD2 ?_;refine tk 9 zD2 ?_;refine tk 10 zD2 ?_;refine tkc 11 zD2 (fun w' hSw=>zC ((hSw.block _ (zA X7.out)).trans X7.out)) ?_;refine tk 12 zD2 ?_;refine tk 13 zD2 ?_;refine tk 14 zD2 ?_;refine tks 15 zD2 ?_;refine tks 16 zD2 ?_;refine tks 17 zD2 ?_;refine tk 18 zD2 ?_;refine tk 19 zD2 ?_;refine tks 20 zD2 ?_;refine tks 21 zD2 ?_;refine tks 22 zD2 ?_;refine tk 23 zD2 ?_;refine tk 24 zD2 ?_;refine tks 25 zD2 ?_;refine tks 26 zD2 ?_;refine tks 27 zD2 ?_;refine tk 28 zD2 ?_
      refine wpAnyH_done (by kernel_rfl) ?_ _
      have B7:=zD0 (BY.out.trans ((Below.refl wy.heap.size wy).drew.mono BY.out.size))
      clear SD
      generalize wy.drew=q7 at B7⊢
      have HF:Hid (kP p s=false):=zD0 (jT fun h=>by
       have h:=h.sw i hir
       rw[←HA0.out,←HR0.out] at h
       exact by have h2:=h.2.1.1;rw[←HA1.out] at h2;omega)
      go_wp2_with fail
      go_ret
      exact⟨by rw[HF.out];rfl,BQ.out.trans (B7.out.mono BQ.out.size)⟩
     have hz0_:decide (a1_<0)=false:=decide_eq_false hz0
     by_cases hz1:a1_>2
     ·have hz1_:decide (a1_>2)=true:=decide_eq_true hz1
      have SD:=(Below.refl wy.heap.size wy).drew
      refine wp_region_held_drew (S:=fun v=>Below wy.heap.size wy v) (by kernel_rfl) SD (fun zD2=>?_)
      refine tk 0 zD2 ?_;refine tkc 1 zD2 (fun w' hSw=>zC ((hSw.block _ (zA X7.out)).trans X7.out)) ?_;refine tk 2 zD2 ?_;refine tkc 3 zD2 (fun w' hSw=>zE ((hSw.block _ (zA XPw.out)).trans XPw.out)) ?_;refine tk 4 zD2 ?_;refine tk 5 zD2 ?_;refine tk 6 zD2 ?_
      refine wpAnyH_take (i:=7) (v:=?_) rfl (by kernel_rfl) (by kernel_rfl) (by kernel_rfl) (fun _ _ _ h=>h) (Or.inl ⟨by rfl,?_⟩) zD2 ?_
      rotate_left
      ·intro w' hSw;have cD0':=(hSw.cell (zG D0'.out)).trans D0'.out;go_simp;try with_reducible rfl
      simp only[zn,Act.put]
      refine tk 8 zD2 ?_;refine tk 9 zD2 ?_;refine tk 10 zD2 ?_;refine tkc 11 zD2 (fun w' hSw=>zC ((hSw.block _ (zA X7.out)).trans X7.out)) ?_;refine tk 12 zD2 ?_;refine tk 13 zD2 ?_;refine tk 14 zD2 ?_;refine tk 15 zD2 ?_;refine tkc 16 zD2 (fun w' hSw=>zC ((hSw.block _ (zA X7.out)).trans X7.out)) ?_;refine tk 17 zD2 ?_;refine tk 18 zD2 ?_;refine tk 19 zD2 ?_;refine tks 20 zD2 ?_;refine tks 21 zD2 ?_;refine tks 22 zD2 ?_;refine tk 23 zD2 ?_;refine tk 24 zD2 ?_;refine tks 25 zD2 ?_;refine tks 26 zD2 ?_;refine tks 27 zD2 ?_;refine tk 28 zD2 ?_
      refine wpAnyH_done (by kernel_rfl) ?_ _
      have B7:=zD0 (BY.out.trans ((Below.refl wy.heap.size wy).drew.mono BY.out.size))
      clear SD
      generalize wy.drew=q7 at B7⊢
      have HF:Hid (kP p s=false):=zD0 (jT fun h=>by
       have h:=h.sw i hir
       rw[←HA0.out,←HR0.out] at h
       exact by have h2:=h.2.1.2;rw[←HA1.out] at h2;omega)
      go_wp2_with fail
      go_ret
      exact⟨by rw[HF.out];rfl,BQ.out.trans (B7.out.mono BQ.out.size)⟩
     have hz1_:decide (a1_>2)=false:=decide_eq_false hz1
     by_cases hz2:a2_<0
     ·have hz2_:decide (a2_<0)=true:=decide_eq_true hz2
      have SD:=(Below.refl wy.heap.size wy).drew
      refine wp_region_held_drew (S:=fun v=>Below wy.heap.size wy v) (by kernel_rfl) SD (fun zD2=>?_)
      refine tk 0 zD2 ?_;refine tkc 1 zD2 (fun w' hSw=>zC ((hSw.block _ (zA X7.out)).trans X7.out)) ?_;refine tk 2 zD2 ?_;refine tkc 3 zD2 (fun w' hSw=>zE ((hSw.block _ (zA XPw.out)).trans XPw.out)) ?_;refine tk 4 zD2 ?_;refine tk 5 zD2 ?_;refine tk 6 zD2 ?_
      refine wpAnyH_take (i:=7) (v:=?_) rfl (by kernel_rfl) (by kernel_rfl) (by kernel_rfl) (fun _ _ _ h=>h) (Or.inl ⟨by rfl,?_⟩) zD2 ?_
      rotate_left
      ·intro w' hSw;have cD0':=(hSw.cell (zG D0'.out)).trans D0'.out;go_simp;try with_reducible rfl
      simp only[zn,Act.put]
      refine tk 8 zD2 ?_;refine tk 9 zD2 ?_;refine tk 10 zD2 ?_;refine tkc 11 zD2 (fun w' hSw=>zC ((hSw.block _ (zA X7.out)).trans X7.out)) ?_;refine tk 12 zD2 ?_;refine tk 13 zD2 ?_;refine tk 14 zD2 ?_;refine tk 15 zD2 ?_;refine tkc 16 zD2 (fun w' hSw=>zC ((hSw.block _ (zA X7.out)).trans X7.out)) ?_;refine tk 17 zD2 ?_;refine tk 18 zD2 ?_;refine tk 19 zD2 ?_;refine tk 20 zD2 ?_;refine tkc 21 zD2 (fun w' hSw=>zC ((hSw.block _ (zA X7.out)).trans X7.out)) ?_;refine tk 22 zD2 ?_;refine tk 23 zD2 ?_;refine tk 24 zD2 ?_;refine tks 25 zD2 ?_;refine tks 26 zD2 ?_;refine tks 27 zD2 ?_;refine tk 28 zD2 ?_
      refine wpAnyH_done (by kernel_rfl) ?_ _
      have B7:=zD0 (BY.out.trans ((Below.refl wy.heap.size wy).drew.mono BY.out.size))
      clear SD
      generalize wy.drew=q7 at B7⊢
      have HF:Hid (kP p s=false):=zD0 (jT fun h=>by
       have h:=h.sw i hir
       rw[←HA0.out,←HR0.out] at h
       exact by have h2:=h.2.2.1;rw[←HA2.out] at h2;omega)
      go_wp2_with fail
      go_ret
      exact⟨by rw[HF.out];rfl,BQ.out.trans (B7.out.mono BQ.out.size)⟩
     have hz2_:decide (a2_<0)=false:=decide_eq_false hz2
     by_cases hz3:a2_>2
     ·have hz3_:decide (a2_>2)=true:=decide_eq_true hz3
      have SD:=(Below.refl wy.heap.size wy).drew
      refine wp_region_held_drew (S:=fun v=>Below wy.heap.size wy v) (by kernel_rfl) SD (fun zD2=>?_)
      refine tk 0 zD2 ?_;refine tkc 1 zD2 (fun w' hSw=>zC ((hSw.block _ (zA X7.out)).trans X7.out)) ?_;refine tk 2 zD2 ?_;refine tkc 3 zD2 (fun w' hSw=>zE ((hSw.block _ (zA XPw.out)).trans XPw.out)) ?_;refine tk 4 zD2 ?_;refine tk 5 zD2 ?_;refine tk 6 zD2 ?_
      refine wpAnyH_take (i:=7) (v:=?_) rfl (by kernel_rfl) (by kernel_rfl) (by kernel_rfl) (fun _ _ _ h=>h) (Or.inl ⟨by rfl,?_⟩) zD2 ?_
      rotate_left
      ·intro w' hSw;have cD0':=(hSw.cell (zG D0'.out)).trans D0'.out;go_simp;try with_reducible rfl
      simp only[zn,Act.put]
      refine tk 8 zD2 ?_;refine tk 9 zD2 ?_;refine tk 10 zD2 ?_;refine tkc 11 zD2 (fun w' hSw=>zC ((hSw.block _ (zA X7.out)).trans X7.out)) ?_;refine tk 12 zD2 ?_;refine tk 13 zD2 ?_;refine tk 14 zD2 ?_;refine tk 15 zD2 ?_;refine tkc 16 zD2 (fun w' hSw=>zC ((hSw.block _ (zA X7.out)).trans X7.out)) ?_;refine tk 17 zD2 ?_;refine tk 18 zD2 ?_;refine tk 19 zD2 ?_;refine tk 20 zD2 ?_;refine tkc 21 zD2 (fun w' hSw=>zC ((hSw.block _ (zA X7.out)).trans X7.out)) ?_;refine tk 22 zD2 ?_;refine tk 23 zD2 ?_;refine tk 24 zD2 ?_;refine tk 25 zD2 ?_;refine tkc 26 zD2 (fun w' hSw=>zC ((hSw.block _ (zA X7.out)).trans X7.out)) ?_;refine tk 27 zD2 ?_;refine tk 28 zD2 ?_
      refine wpAnyH_done (by kernel_rfl) ?_ _
      have B7:=zD0 (BY.out.trans ((Below.refl wy.heap.size wy).drew.mono BY.out.size))
      clear SD
      generalize wy.drew=q7 at B7⊢
      have HF:Hid (kP p s=false):=zD0 (jT fun h=>by
       have h:=h.sw i hir
       rw[←HA0.out,←HR0.out] at h
       exact by have h2:=h.2.2.2;rw[←HA2.out] at h2;omega)
      go_wp2_with fail
      go_ret
      exact⟨by rw[HF.out];rfl,BQ.out.trans (B7.out.mono BQ.out.size)⟩
     have hz3_:decide (a2_>2)=false:=decide_eq_false hz3
     have SD:=(Below.refl wy.heap.size wy).drew
     refine wp_region_held_drew (S:=fun v=>Below wy.heap.size wy v) (by kernel_rfl) SD (fun zD2=>?_)
     refine tk 0 zD2 ?_;refine tkc 1 zD2 (fun w' hSw=>zC ((hSw.block _ (zA X7.out)).trans X7.out)) ?_;refine tk 2 zD2 ?_;refine tkc 3 zD2 (fun w' hSw=>zE ((hSw.block _ (zA XPw.out)).trans XPw.out)) ?_;refine tk 4 zD2 ?_;refine tk 5 zD2 ?_;refine tk 6 zD2 ?_
     refine wpAnyH_take (i:=7) (v:=?_) rfl (by kernel_rfl) (by kernel_rfl) (by kernel_rfl) (fun _ _ _ h=>h) (Or.inl ⟨by rfl,?_⟩) zD2 ?_
     rotate_left
     ·intro w' hSw;have cD0':=(hSw.cell (zG D0'.out)).trans D0'.out;go_simp;try with_reducible rfl
     simp only[zn,Act.put]
     refine tk 8 zD2 ?_;refine tk 9 zD2 ?_;refine tk 10 zD2 ?_;refine tkc 11 zD2 (fun w' hSw=>zC ((hSw.block _ (zA X7.out)).trans X7.out)) ?_;refine tk 12 zD2 ?_;refine tk 13 zD2 ?_;refine tk 14 zD2 ?_;refine tk 15 zD2 ?_;refine tkc 16 zD2 (fun w' hSw=>zC ((hSw.block _ (zA X7.out)).trans X7.out)) ?_;refine tk 17 zD2 ?_;refine tk 18 zD2 ?_;refine tk 19 zD2 ?_;refine tk 20 zD2 ?_;refine tkc 21 zD2 (fun w' hSw=>zC ((hSw.block _ (zA X7.out)).trans X7.out)) ?_;refine tk 22 zD2 ?_;refine tk 23 zD2 ?_;refine tk 24 zD2 ?_;refine tk 25 zD2 ?_;refine tkc 26 zD2 (fun w' hSw=>zC ((hSw.block _ (zA X7.out)).trans X7.out)) ?_;refine tk 27 zD2 ?_;refine tk 28 zD2 ?_
     refine wpAnyH_done (by kernel_rfl) ?_ _
     have B7:=zD0 (BY.out.trans ((Below.refl wy.heap.size wy).drew.mono BY.out.size))
     clear SD
     generalize wy.drew=q7 at B7⊢
     have NX:Hid (∀j (hj:j<i+1) (hl:j<s.sw.length) (hm:j<p.pts.length),s.sw[j].1=p.pts[j].1∧(0≤s.sw[j].2.1∧s.sw[j].2.1≤2)∧0≤s.sw[j].2.2∧s.sw[j].2.2≤2):=zD0 (fun j hj h1 h2=>by
      rcases Nat.lt_or_ge j i with h|h
      ·exact HALL.out j h h1 h2
      ·obtain rfl:j=i:=by omega
       exact⟨by rw[←HA0.out,←HR0.out];exact HE.out,⟨by rw[←HA1.out];omega,by rw[←HA1.out];omega⟩,by rw[←HA2.out];omega,by rw[←HA2.out];omega⟩)
     go_wp2_with fail
     go_roundw
     case measure=>simp[intOf];omega
     case rel=>exact⟨i+1,by omega,by go_num,NX.out,B7.out⟩
    ·obtain rfl:Sn1=i:=by omega
     have hlt':¬(Sn1:Int)<Sn1:=by omega
     have ALL1:Hid (∀j (hl:j<s.sw.length) (hm:j<p.pts.length),s.sw[j].1=p.pts[j].1∧(0≤s.sw[j].2.1∧s.sw[j].2.1≤2)∧0≤s.sw[j].2.2∧s.sw[j].2.2≤2):=zD0 (fun j h1 h2=>HALL.out j (by rw[NS.out.2.1];exact h1) h1 h2)
     have BS:=BW
     clear HALL BF BD XPw YPw
     go_upto_region 15 with fail
     clear k0 k1 k2 k3 k4 k5 m0 m1 m2
     go_loopw [8] (fun s8 wr=>∃i:Nat,i≤Sn2∧s8 = .int .i64 i∧(∀j (hj:j<i) (hl:j<s.lk.length) (hm:j<p.routes.length),s.lk[j].1=p.routes[j].id∧zH s.lk[j] p.routes[j].path.length p.routes[j].timer)∧Below q.heap.size q wr) (fun s8 _=>Sn2-(intOf s8).toNat)
     case atStart=>exact⟨0,by omega,by go_num,fun j hj=>absurd hj (by omega),BS.out⟩
     case round=>
      obtain⟨wx,hwx⟩:=zD1 (wr)
      subst hwx
      obtain⟨i,hi,rfl,hall,hbw⟩:=hrel
      have HALL:=zD0 hall
      have BW:=zD0 hbw
      clear hall hbw
      have BF:=zD0 (BQ.out.trans (BW.out.mono BQ.out.size))
      have XPw:=zD0 ((BW.out.block _ (zA X.out)).trans X.out)
      have YPw:=zD0 ((BW.out.block _ (zA Y.out)).trans Y.out)
      have BD:Hid (∀nq,Below q.heap.size q (wx.drewN nq)):=zD0 (fun nq=>⟨BW.out.os,BW.out.tape,BW.out.output,BW.out.size,BW.out.block⟩)
      obtain⟨k0,k1,k2,k3,k4,k5⟩:=zE XPw.out
      obtain⟨m0,m1,m2⟩:=zC YPw.out
      by_cases hlt:i<Sn2
      ·have hlt':(i:Int)<Sn2:=by omega
       have hlm:(i:Int)<b5:=by have:=L2.out;omega
       have hir:i<s.lk.length:=by have:=NS.out;omega
       have him:i<p.routes.length:=by have:=HBL.out;have:=L2.out;omega
       obtain⟨ba,oa,rfl,hba,hc0,hc1,hc2,hc3,hu0,hu1⟩:=((HS2.out.below xQ BF.out).more xQ BF.out.size).at hir
       obtain⟨a0_,ha0⟩:=zD1 (s.lk[i].1)
       obtain⟨a1_,ha1⟩:=zD1 (s.lk[i].2.1)
       obtain⟨a2_,ha2⟩:=zD1 (s.lk[i].2.2.1)
       obtain⟨a3_,ha3⟩:=zD1 (s.lk[i].2.2.2)
       rw[←ha0] at hc0
       rw[←ha1] at hc1
       rw[←ha2] at hc2
       rw[←ha3] at hc3
       have G0:Hid (wx.cell? ⟨ba,oa+i*4,none⟩=some (.int .i64 a0_)):=zD0 hc0
       have HA0:=zD0 ha0
       have G1:Hid (wx.cell? ⟨ba,oa+i*4+1,none⟩=some (.int .u8 a1_)):=zD0 hc1
       have HA1:=zD0 ha1
       have G2:Hid (wx.cell? ⟨ba,oa+i*4+2,none⟩=some (.int .i64 a2_)):=zD0 hc2
       have HA2:=zD0 ha2
       have G3:Hid (wx.cell? ⟨ba,oa+i*4+3,none⟩=some (.int .i64 a3_)):=zD0 hc3
       have HA3:=zD0 ha3
       obtain⟨bb,ob,rfl,hbb,hd0,-,-,hd6,u3,u4,u5,hd3,-,-,hri⟩:=((P5.out.below qM BF.out).more qM BF.out.size).at him
       obtain⟨D3_,d3_,rfl,hy1,hy2⟩:=hri.path.slice
       obtain⟨r0_,hr0⟩:=zD1 (p.routes[i].id)
       obtain⟨l3_,hl3⟩:=zD1 (p.routes[i].path.length)
       obtain⟨r6_,hr6⟩:=zD1 (p.routes[i].timer)
       rw[←hr0] at hd0
       rw[←hl3] at hd3
       rw[←hr6] at hd6
       have hl3m:l3_≤9223372036854775807:=by unfold maxLen at hy2;omega
       have D0:Hid (wx.cell? ⟨bb,ob+i*7,none⟩=some (.int .i64 r0_)):=zD0 hd0
       have D3:Hid (wx.cell? ⟨bb,ob+i*7+3,none⟩=some (.slice D3_ l3_ d3_)):=zD0 hd3
       have D6:Hid (wx.cell? ⟨bb,ob+i*7+6,none⟩=some (.int .i64 r6_)):=zD0 hd6
       have HR0:=zD0 hr0
       have HR3:=zD0 hl3
       have HR6:=zD0 hr6
       clear hd0 hd3 hd6 hr0 hl3 hr6 hbb hy1 hy2 hri
       clear hc0 ha0 hc1 ha1 hc2 ha2 hc3 ha3 hba hu0 hu1
       go_upto_region 17 with fail
       clear k0 k1 k2 k3 k4 k5 m0 m1 m2
       by_cases he:a0_=r0_
       rotate_left
       ·have hd_:(a0_ != r0_)=true:=by simpa using he
        have SD:=(Below.refl wx.heap.size wx).drew
        refine wp_region_held_drew (S:=fun v=>Below wx.heap.size wx v) (by kernel_rfl) SD (fun zD2=>?_)
        refine tk 0 zD2 ?_;refine tkc 1 zD2 (fun w' hSw=>zC ((hSw.block _ (zA YPw.out)).trans YPw.out)) ?_;refine tk 2 zD2 ?_;refine tk 3 zD2 ?_;refine tk 4 zD2 ?_;refine tkc 5 zD2 (fun w' hSw=>(hSw.cell (zG G0.out)).trans G0.out) ?_;refine tk 6 zD2 ?_;refine tkc 7 zD2 (fun w' hSw=>zE ((hSw.block _ (zA XPw.out)).trans XPw.out)) ?_;refine tk 8 zD2 ?_;refine tk 9 zD2 ?_;refine tk 10 zD2 ?_;refine tkc 11 zD2 (fun w' hSw=>(hSw.cell (zG D0.out)).trans D0.out) ?_;refine tk 12 zD2 ?_;refine tk 13 zD2 ?_;refine tks 14 zD2 ?_;refine tks 15 zD2 ?_;refine tks 16 zD2 ?_;refine tks 17 zD2 ?_;refine tks 18 zD2 ?_;refine tks 19 zD2 ?_;refine tks 20 zD2 ?_;refine tks 21 zD2 ?_;refine tks 22 zD2 ?_;refine tks 23 zD2 ?_;refine tks 24 zD2 ?_;refine tks 25 zD2 ?_;refine tks 26 zD2 ?_;refine tks 27 zD2 ?_;refine tks 28 zD2 ?_;refine tks 29 zD2 ?_;refine tks 30 zD2 ?_;refine tks 31 zD2 ?_;refine tks 32 zD2 ?_;refine tks 33 zD2 ?_;refine tk 34 zD2 ?_
        refine wpAnyH_done (by kernel_rfl) ?_ _
        have B7:=zD0 (BW.out.trans ((Below.refl wx.heap.size wx).drew.mono BW.out.size))
        clear SD
        generalize wx.drew=q7 at B7⊢
        have HF:Hid (kP p s=false):=zD0 (jT fun h=>by
         have h:=h.lk i hir
         rw[←HA0.out,←HR0.out] at h
         exact he h.1)
        go_wp2_with fail
        go_ret
        exact⟨by rw[HF.out];rfl,BQ.out.trans (B7.out.mono BQ.out.size)⟩
       have hd_:(a0_ != r0_)=false:=by simpa using he
       have HE:=zD0 he
       clear he
       obtain⟨GG,hGG⟩:=zD1 (zO (a0_,a1_,a2_,a3_) l3_ r6_)
       have HG:=zD0 hGG
       clear hGG
       have SD:=(Below.refl wx.heap.size wx).drew
       refine wp_region_held_drew (S:=fun v=>Below wx.heap.size wx v) (by kernel_rfl) SD (fun zD2=>?_)
       refine tk 0 zD2 ?_;refine tkc 1 zD2 (fun w' hSw=>zC ((hSw.block _ (zA YPw.out)).trans YPw.out)) ?_;refine tk 2 zD2 ?_;refine tk 3 zD2 ?_;refine tk 4 zD2 ?_;refine tkc 5 zD2 (fun w' hSw=>(hSw.cell (zG G0.out)).trans G0.out) ?_;refine tk 6 zD2 ?_;refine tkc 7 zD2 (fun w' hSw=>zE ((hSw.block _ (zA XPw.out)).trans XPw.out)) ?_;refine tk 8 zD2 ?_;refine tk 9 zD2 ?_;refine tk 10 zD2 ?_;refine tkc 11 zD2 (fun w' hSw=>(hSw.cell (zG D0.out)).trans D0.out) ?_;refine tk 12 zD2 ?_;refine tk 13 zD2 ?_;refine tk 14 zD2 ?_;refine tkc 15 zD2 (fun w' hSw=>zC ((hSw.block _ (zA YPw.out)).trans YPw.out)) ?_;refine tk 16 zD2 ?_;refine tk 17 zD2 ?_
       refine wpAnyH_take (i:=18) (v:=?_) rfl (by kernel_rfl) (by kernel_rfl) (by kernel_rfl) (fun _ _ _ h=>h) (Or.inl ⟨by rfl,?_⟩) zD2 ?_
       rotate_left
       ·intro w' hSw;have cG0:=(hSw.cell (zG G0.out)).trans G0.out;have cG1:=(hSw.cell (zG G1.out)).trans G1.out;have cG2:=(hSw.cell (zG G2.out)).trans G2.out;have cG3:=(hSw.cell (zG G3.out)).trans G3.out;go_simp;try with_reducible rfl
       simp only[zn,Act.put]
       refine tk 19 zD2 ?_;refine tkc 20 zD2 (fun w' hSw=>zE ((hSw.block _ (zA XPw.out)).trans XPw.out)) ?_;refine tk 21 zD2 ?_;refine tk 22 zD2 ?_;refine tk 23 zD2 ?_;refine tkc 24 zD2 (fun w' hSw=>(hSw.cell (zG D3.out)).trans D3.out) ?_;refine tk 25 zD2 ?_;refine tk 26 zD2 ?_;refine tkc 27 zD2 (fun w' hSw=>zE ((hSw.block _ (zA XPw.out)).trans XPw.out)) ?_;refine tk 28 zD2 ?_;refine tk 29 zD2 ?_;refine tk 30 zD2 ?_;refine tkc 31 zD2 (fun w' hSw=>(hSw.cell (zG D6.out)).trans D6.out) ?_
       refine tkr 32 (fun K hK=>?_)
       go_simp
       refine(rphase15_any a0_ a1_ a2_ a3_ l3_ r6_ hl3m wx.drew).mono ?_
       rintro e v5 ⟨rfl,b⟩
       rw[←HG.out]
       have B5:Hid (Below wx.heap.size wx v5):=zD0 (SD.trans (b.mono SD.size))
       clear b
       try go_wp2_with fail
       refine hK.out _ _ ?_ fun zD2=>?_;exact B5.out;clear hK K;try simp only[zn,Act.put]
       refine tk 33 zD2 ?_;refine tk 34 zD2 ?_
       refine wpAnyH_done (by kernel_rfl) ?_ _
       have B7:=zD0 (BW.out.trans (B5.out.mono BW.out.size))
       clear SD B5
       cases GG with
       | false=>
        have HF:Hid (kP p s=false):=zD0 (jT fun h=>by
         have h:=h.lk i hir
         rw[←HA0.out,←HR0.out] at h
         exact(by
          have e:s.lk[i]=(a0_,a1_,a2_,a3_):=by rw[HA0.out,HA1.out,HA2.out,HA3.out]
          have h2:=h.2
          rw[e,←HR3.out,←HR6.out] at h2
          have h3:=HG.out
          rw[zO,decide_eq_true h2] at h3
          cases h3))
        go_wp2_with fail
        go_ret
        exact⟨by rw[HF.out];rfl,BQ.out.trans (B7.out.mono BQ.out.size)⟩
       | true=>
        have HPH:Hid (zH s.lk[i] p.routes[i].path.length p.routes[i].timer):=zD0 (by
         have e:s.lk[i]=(a0_,a1_,a2_,a3_):=by rw[HA0.out,HA1.out,HA2.out,HA3.out]
         rw[e,←HR3.out,←HR6.out]
         exact of_decide_eq_true HG.out.symm)
        have NX:Hid (∀j (hj:j<i+1) (hl:j<s.lk.length) (hm:j<p.routes.length),s.lk[j].1=p.routes[j].id∧zH s.lk[j] p.routes[j].path.length p.routes[j].timer):=zD0 (fun j hj h1 h2=>by
         rcases Nat.lt_or_ge j i with h|h
         ·exact HALL.out j h h1 h2
         ·obtain rfl:j=i:=by omega
          exact⟨by rw[←HA0.out,←HR0.out];exact HE.out,HPH.out⟩)
        go_wp2_with fail
        go_roundw
        case measure=>simp[intOf];omega
        case rel=>exact⟨i+1,by omega,by go_num,NX.out,B7.out⟩
      ·obtain rfl:Sn2=i:=by omega
       have hlt':¬(Sn2:Int)<Sn2:=by omega
       have ALL2:Hid (∀j (hl:j<s.lk.length) (hm:j<p.routes.length),s.lk[j].1=p.routes[j].id∧zH s.lk[j] p.routes[j].path.length p.routes[j].timer):=zD0 (fun j h1 h2=>HALL.out j (by rw[NS.out.2.2];exact h1) h1 h2)
       have BS:=BW
       clear HALL BF BD XPw YPw
       have HF:Hid (kP p s=true):=zD0 (zC2 ⟨by rw[←NS.out.1,←HBL.out.1,L0.out],by rw[←NS.out.2.1,←HBL.out.2.1,L1.out],by rw[←NS.out.2.2,←HBL.out.2.2.2,L2.out],fun i h=>ALL0.out i h (by have:=NS.out;have:=HBL.out;have:=L0.out;omega),fun i h=>ALL1.out i h (by have:=NS.out;have:=HBL.out;have:=L1.out;omega),fun i h=>ALL2.out i h (by have:=NS.out;have:=HBL.out;have:=L2.out;omega)⟩)
       go_wp2_with fail
       go_ret
       exact⟨by rw[HF.out];rfl,BQ.out.trans (BS.out.mono BQ.out.size)⟩
end Go.Proofs.YtemmgmjhomgbbaaGreat
