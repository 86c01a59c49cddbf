/-
 The statement StateTells: the program tells of a state what the document's own package tells.
 Conditions: none.
-/
import Derived.Test.YtemmgmjhomgbbaaGreatUGStaRefL
import Derived.Test.YtemmgmjhomgbbaaGreatUGStaRef
import Derived.Test.YtemmgmjhomgbbaaGreatUStaMix
import Derived.Test.YtemmgmjhomgbbaaGreatUGStaMem
set_option linter.unusedVariables false
set_option linter.unusedSimpArgs false
set_option maxRecDepth 100000
namespace Go.Proofs.YtemmgmjhomgbbaaGreat
open Go.RowKit
theorem image_small15 (p:Pl) (s:qD):(jF p s).tr.length≤16∧(jF p s).sw.length≤16∧(jF p s).lk.length≤16:=by
 rw[jF]
 by_cases h:kI p s=0
 ·rw[if_pos h]
  have hm:=zDk h
  have h1:=hm.parts.nt
  have h2:=hm.parts.ns
  have h3:=hm.parts.nl
  have g1:=hm.sound.may.secs.n
  have g2:=hm.sound.may.pts.n
  have g3:=hm.sound.may.n
  have e:=image_len p s
  omega
 ·rw[if_neg h];exact⟨by decide,by decide,by decide⟩
set_option maxHeartbeats 32000000 in
theorem walk_state_tells (hc:StaSaid) (v y:Value) (p:Pl) (s:qD) (sec pt:Int) (w:World) (h:qF w w.heap.size v p) (h':qL w w.heap.size y s):
  Calls Tryz.prog 3 #[v,y,.int .i64 sec,.int .i64 pt] w fun e w'=>e = .returned (.bool true)∧Below w.heap.size w w':=by
 obtain⟨p2,p3,p4,p5,rfl,h⟩:=h
 obtain⟨A2,a2,rfl,hcl,hcm⟩:=h.secs.slice
 obtain⟨b2,hb2⟩:=zD1 (p.secs.length)
 have P2:Hid (zX w w.heap.size (.slice A2 b2 a2) p.secs):=zD0 (by rw[hb2];exact h.secs)
 have hbb2:b2≤9223372036854775807:=by unfold maxLen at hcm;omega
 rw[←hb2]
 clear hcl hcm
 obtain⟨A3,a3,rfl,hcl,hcm⟩:=h.pts.slice
 obtain⟨b3,hb3⟩:=zD1 (p.pts.length)
 have P3:Hid (zT w w.heap.size (.slice A3 b3 a3) p.pts):=zD0 (by rw[hb3];exact h.pts)
 have hbb3:b3≤9223372036854775807:=by unfold maxLen at hcm;omega
 rw[←hb3]
 clear hcl hcm
 obtain⟨A4,a4,rfl,hcl,hcm⟩:=h.sigs.slice
 obtain⟨b4,hb4⟩:=zD1 (p.sigs.length)
 have P4:Hid (xI w w.heap.size (.slice A4 b4 a4) p.sigs):=zD0 (by rw[hb4];exact h.sigs)
 have hbb4:b4≤9223372036854775807:=by unfold maxLen at hcm;omega
 rw[←hb4]
 clear hcl hcm
 obtain⟨A5,a5,rfl,hcl,hcm⟩:=h.routes.slice
 obtain⟨b5,hb5⟩:=zD1 (p.routes.length)
 have P5:Hid (qX w w.heap.size (.slice A5 b5 a5) p.routes):=zD0 (by rw[hb5];exact h.routes)
 have hbb5:b5≤9223372036854775807:=by unfold maxLen at hcm;omega
 rw[←hb5]
 clear hcl hcm
 have HBL:Hid (b2=p.secs.length∧b3=p.pts.length∧b4=p.sigs.length∧b5=p.routes.length):=zD0 ⟨hb2,hb3,hb4,hb5⟩
 clear h hb2 hb3 hb4 hb5
 obtain⟨_,_,_,rfl,h'⟩:=h'
 obtain⟨S0,Sc0,rfl,hcl,hcm⟩:=h'.tr.slice
 obtain⟨Sn0,hS0⟩:=zD1 (s.tr.length)
 have HS0:Hid (jD w w.heap.size (.slice S0 Sn0 Sc0) s.tr):=zD0 (by rw[hS0];exact h'.tr)
 have hbS0:Sn0≤9223372036854775807:=by unfold maxLen at hcm;omega
 rw[←hS0]
 clear hcl hcm
 obtain⟨S1,Sc1,rfl,hcl,hcm⟩:=h'.sw.slice
 obtain⟨Sn1,hS1⟩:=zD1 (s.sw.length)
 have HS1:Hid (xP w w.heap.size (.slice S1 Sn1 Sc1) s.sw):=zD0 (by rw[hS1];exact h'.sw)
 have hbS1:Sn1≤9223372036854775807:=by unfold maxLen at hcm;omega
 rw[←hS1]
 clear hcl hcm
 obtain⟨S2,Sc2,rfl,hcl,hcm⟩:=h'.lk.slice
 obtain⟨Sn2,hS2⟩:=zD1 (s.lk.length)
 have HS2:Hid (xO w w.heap.size (.slice S2 Sn2 Sc2) s.lk):=zD0 (by rw[hS2];exact h'.lk)
 have hbS2:Sn2≤9223372036854775807:=by unfold maxLen at hcm;omega
 rw[←hS2]
 clear hcl hcm
 have NS:Hid (Sn0=s.tr.length∧Sn1=s.sw.length∧Sn2=s.lk.length):=zD0 ⟨hS0,hS1,hS2⟩
 clear h' hS0 hS1 hS2
 have PV:Hid (∀W,Below w.heap.size w W→qF W W.heap.size (.agg #[.int .i64 p.ver,.int .i64 p.par,.slice A2 b2 a2,.slice A3 b3 a3,.slice A4 b4 a4,.slice A5 b5 a5]) p):=zD0 (fun W b=>⟨_,_,_,_,rfl,⟨(P2.out.below zN b).more zN b.size,(P3.out.below zM b).more zM b.size,(P4.out.below zP b).more zP b.size,(P5.out.below qM b).more qM b.size⟩⟩)
 have SV:Hid (∀W,Below w.heap.size w W→qL W W.heap.size (.agg #[.slice S0 Sn0 Sc0,.slice S1 Sn1 Sc1,.slice S2 Sn2 Sc2]) s):=zD0 (fun W b=>⟨_,_,_,rfl,⟨(HS0.out.below xY b).more xY b.size,(HS1.out.below zP b).more zP b.size,(HS2.out.below xQ b).more xQ b.size⟩⟩)
 clear P2 P3 P4 P5 HBL hbb2 hbb3 hbb4 hbb5 hbS0 hbS1 hbS2 HS0 HS1 HS2 NS
 have hq:=zV w (.cells #[.int .i64 p.ver,.int .i64 p.par,.slice A2 b2 a2,.slice A3 b3 a3,.slice A4 b4 a4,.slice A5 b5 a5] 27) (.cells #[.slice S0 Sn0 Sc0,.slice S1 Sn1 Sc1,.slice S2 Sn2 Sc2] 32)
 go_enter Tryz.func3,Tryz.ntmps3
 go_upto_region 1 with fail
 generalize (w.alloc (.cells #[.int .i64 p.ver,.int .i64 p.par,.slice A2 b2 a2,.slice A3 b3 a3,.slice A4 b4 a4,.slice A5 b5 a5] 27)).alloc (.cells #[.slice S0 Sn0 Sc0,.slice S1 Sn1 Sc1,.slice S2 Sn2 Sc2] 32)=q at hq⊢
 obtain⟨q0,q1,qb⟩:=hq
 have X0:=zD0 q0
 have X1:=zD0 q1
 have BQ:=zD0 qb
 clear q0 q1 qb
 obtain⟨k0,k1,k2,k3,k4,k5⟩:=zE X0.out
 obtain⟨l0,l1,l2⟩:=zC X1.out
 go_wp2_with fail
 refine(rgreatP_any _ p q (PV.out q BQ.out)).mono ?_
 rintro e w1 ⟨⟨g,rfl⟩,b⟩
 clear k0 k1 k2 k3 k4 k5 l0 l1 l2
 replace X0:=zD0 ((b.block _ (zA X0.out)).trans X0.out)
 replace X1:=zD0 ((b.block _ (zA X1.out)).trans X1.out)
 replace BQ:=zD0 (BQ.out.trans (b.mono BQ.out.size))
 clear b
 cases g with
 | true=>
  go_wp2_with fail
  go_ret
  exact⟨rfl,BQ.out⟩
 | false=>
 obtain⟨l0,l1,l2⟩:=zC X1.out
 go_wp2_with fail
 refine(rgreatS_any _ s w1 (SV.out w1 BQ.out)).mono ?_
 rintro e w2 ⟨⟨g,rfl,hfa⟩,b⟩
 clear l0 l1 l2
 replace X0:=zD0 ((b.block _ (zA X0.out)).trans X0.out)
 replace X1:=zD0 ((b.block _ (zA X1.out)).trans X1.out)
 replace BQ:=zD0 (BQ.out.trans (b.mono BQ.out.size))
 clear b
 cases g with
 | true=>
  go_wp2_with fail
  go_ret
  exact⟨rfl,BQ.out⟩
 | false=>
 have FA:=zD0 (hfa rfl)
 clear hfa
 obtain⟨l0,l1,l2⟩:=zC X1.out
 go_wp2_with fail
 refine(rtwin15_any _ s w2 (SV.out w2 BQ.out) FA.out).mono ?_
 rintro e w3 ⟨u0,u1,u2,rfl,ho,b⟩
 clear l0 l1 l2
 replace X0:=zD0 ((b.block _ (zA X0.out)).trans X0.out)
 replace X1:=zD0 ((b.block _ (zA X1.out)).trans X1.out)
 replace BQ:=zD0 (BQ.out.trans (b.mono BQ.out.size))
 clear b
 obtain⟨A0,xa0,rfl⟩:=ho.tr.slice
 obtain⟨A1,xa1,rfl⟩:=ho.sw.slice
 obtain⟨A2,xa2,rfl⟩:=ho.lk.slice
 obtain⟨na0,hna0⟩:=zD1 (s.tr.length)
 obtain⟨na1,hna1⟩:=zD1 (s.sw.length)
 obtain⟨na2,hna2⟩:=zD1 (s.lk.length)
 rw[←hna0,←hna1,←hna2] at ho
 rw[←hna0,←hna1,←hna2]
 have Hna:Hid (na0=s.tr.length∧na1=s.sw.length∧na2=s.lk.length):=zD0 ⟨hna0,hna1,hna2⟩
 clear hna0 hna1 hna2
 go_upto_region 4 with((with_reducible show wpList _ _ _ (⟨none,.store _ _ _,_,_,_,_⟩::_) _ _);refine zK rfl _ (.tmp 9) (.tmp 36) rfl w3.heap.size rfl (c':=#[.slice A0 na0 xa0,.slice A1 na1 xa1,.slice A2 na2 xa2]) rfl (zB w3 (.cells #[.slice none 0 0,.slice none 0 0,.slice none 0 0] 32)) zAv rfl (by simp[Value.oneCell']) ?_)
 rw[World.setRow_alloc_new]
 have hx1:=zB w3 (.cells #[.slice A0 na0 xa0,.slice A1 na1 xa1,.slice A2 na2 xa2] 32)
 have b:=zD w3 (.cells #[.slice A0 na0 xa0,.slice A1 na1 xa1,.slice A2 na2 xa2] 32)
 have hO:=ho.below b
 generalize w3.alloc (.cells #[.slice A0 na0 xa0,.slice A1 na1 xa1,.slice A2 na2 xa2] 32)=w4 at b hx1 hO⊢
 obtain⟨p9,hp6⟩:=zD1 (w3.heap.size)
 rw[←hp6] at hx1⊢
 replace X0:=zD0 ((b.block _ (zA X0.out)).trans X0.out)
 replace X1:=zD0 ((b.block _ (zA X1.out)).trans X1.out)
 replace BQ:=zD0 (BQ.out.trans (b.mono BQ.out.size))
 have X9:=zD0 hx1
 have AO:=zD0 hO
 clear b hx1 hp6 hO ho
 obtain⟨k0,k1,k2,k3,k4,k5⟩:=zE X0.out
 go_wp2_with fail
 refine(hc.at_ _ p w4 (PV.out w4 BQ.out)).mono ?_
 rintro e w5 ⟨u0,u1,u2,rfl,ho,b⟩
 clear k0 k1 k2 k3 k4 k5
 obtain⟨er,her⟩:=zD1 (restE p)
 rw[←her]
 have Her:=zD0 her
 clear her
 replace X0:=zD0 ((b.block _ (zA X0.out)).trans X0.out)
 replace X1:=zD0 ((b.block _ (zA X1.out)).trans X1.out)
 replace X9:=zD0 ((b.block _ (zA X9.out)).trans X9.out)
 replace AO:=zD0 (AO.out.below b)
 replace BQ:=zD0 (BQ.out.trans (b.mono BQ.out.size))
 clear b
 obtain⟨B0,xb0,rfl⟩:=ho.tr.slice
 obtain⟨B1,xb1,rfl⟩:=ho.sw.slice
 obtain⟨B2,xb2,rfl⟩:=ho.lk.slice
 obtain⟨nb0,hnb0⟩:=zD1 ((vG p).tr.length)
 obtain⟨nb1,hnb1⟩:=zD1 ((vG p).sw.length)
 obtain⟨nb2,hnb2⟩:=zD1 ((vG p).lk.length)
 rw[←hnb0,←hnb1,←hnb2] at ho
 rw[←hnb0,←hnb1,←hnb2]
 have Hnb:Hid (nb0=(vG p).tr.length∧nb1=(vG p).sw.length∧nb2=(vG p).lk.length):=zD0 ⟨hnb0,hnb1,hnb2⟩
 clear hnb0 hnb1 hnb2
 go_upto_region 5 with((with_reducible show wpList _ _ _ (⟨none,.store _ _ _,_,_,_,_⟩::_) _ _);refine zK rfl _ (.tmp 10) (.tmp 40) rfl w5.heap.size rfl (c':=#[.slice B0 nb0 xb0,.slice B1 nb1 xb1,.slice B2 nb2 xb2]) rfl (zB w5 (.cells #[.slice none 0 0,.slice none 0 0,.slice none 0 0] 32)) zAv rfl (by simp[Value.oneCell']) ?_)
 rw[World.setRow_alloc_new]
 have hx1:=zB w5 (.cells #[.slice B0 nb0 xb0,.slice B1 nb1 xb1,.slice B2 nb2 xb2] 32)
 have b:=zD w5 (.cells #[.slice B0 nb0 xb0,.slice B1 nb1 xb1,.slice B2 nb2 xb2] 32)
 have hO:=ho.below b
 generalize w5.alloc (.cells #[.slice B0 nb0 xb0,.slice B1 nb1 xb1,.slice B2 nb2 xb2] 32)=w6 at b hx1 hO⊢
 obtain⟨p10,hp6⟩:=zD1 (w5.heap.size)
 rw[←hp6] at hx1⊢
 replace X0:=zD0 ((b.block _ (zA X0.out)).trans X0.out)
 replace X1:=zD0 ((b.block _ (zA X1.out)).trans X1.out)
 replace X9:=zD0 ((b.block _ (zA X9.out)).trans X9.out)
 replace AO:=zD0 (AO.out.below b)
 replace BQ:=zD0 (BQ.out.trans (b.mono BQ.out.size))
 have X10:=zD0 hx1
 have BO:=zD0 hO
 clear b hx1 hp6 hO ho
 obtain⟨k0,k1,k2,k3,k4,k5⟩:=zE X0.out
 go_wp2_with fail
 refine(rat15_any _ p w6 (PV.out w6 BQ.out)).mono ?_
 rintro e w7 ⟨u0,u1,u2,rfl,ho,b⟩
 clear k0 k1 k2 k3 k4 k5
 rw[←Her.out]
 replace X0:=zD0 ((b.block _ (zA X0.out)).trans X0.out)
 replace X1:=zD0 ((b.block _ (zA X1.out)).trans X1.out)
 replace X9:=zD0 ((b.block _ (zA X9.out)).trans X9.out)
 replace X10:=zD0 ((b.block _ (zA X10.out)).trans X10.out)
 replace AO:=zD0 (AO.out.below b)
 replace BO:=zD0 (BO.out.below b)
 replace BQ:=zD0 (BQ.out.trans (b.mono BQ.out.size))
 clear b
 obtain⟨C0,xc0,rfl⟩:=ho.tr.slice
 obtain⟨C1,xc1,rfl⟩:=ho.sw.slice
 obtain⟨C2,xc2,rfl⟩:=ho.lk.slice
 obtain⟨nc0,hnc0⟩:=zD1 ((vG p).tr.length)
 obtain⟨nc1,hnc1⟩:=zD1 ((vG p).sw.length)
 obtain⟨nc2,hnc2⟩:=zD1 ((vG p).lk.length)
 rw[←hnc0,←hnc1,←hnc2] at ho
 rw[←hnc0,←hnc1,←hnc2]
 have Hnc:Hid (nc0=(vG p).tr.length∧nc1=(vG p).sw.length∧nc2=(vG p).lk.length):=zD0 ⟨hnc0,hnc1,hnc2⟩
 clear hnc0 hnc1 hnc2
 go_upto_region 6 with((with_reducible show wpList _ _ _ (⟨none,.store _ _ _,_,_,_,_⟩::_) _ _);refine zK rfl _ (.tmp 12) (.tmp 45) rfl w7.heap.size rfl (c':=#[.slice C0 nc0 xc0,.slice C1 nc1 xc1,.slice C2 nc2 xc2]) rfl (zB w7 (.cells #[.slice none 0 0,.slice none 0 0,.slice none 0 0] 32)) zAv rfl (by simp[Value.oneCell']) ?_)
 rw[World.setRow_alloc_new]
 have hx1:=zB w7 (.cells #[.slice C0 nc0 xc0,.slice C1 nc1 xc1,.slice C2 nc2 xc2] 32)
 have b:=zD w7 (.cells #[.slice C0 nc0 xc0,.slice C1 nc1 xc1,.slice C2 nc2 xc2] 32)
 have hO:=ho.below b
 generalize w7.alloc (.cells #[.slice C0 nc0 xc0,.slice C1 nc1 xc1,.slice C2 nc2 xc2] 32)=w8 at b hx1 hO⊢
 obtain⟨p12,hp6⟩:=zD1 (w7.heap.size)
 rw[←hp6] at hx1⊢
 replace X0:=zD0 ((b.block _ (zA X0.out)).trans X0.out)
 replace X1:=zD0 ((b.block _ (zA X1.out)).trans X1.out)
 replace X9:=zD0 ((b.block _ (zA X9.out)).trans X9.out)
 replace X10:=zD0 ((b.block _ (zA X10.out)).trans X10.out)
 replace AO:=zD0 (AO.out.below b)
 replace BO:=zD0 (BO.out.below b)
 replace BQ:=zD0 (BQ.out.trans (b.mono BQ.out.size))
 have X12:=zD0 hx1
 have CO:=zD0 hO
 clear b hx1 hp6 hO ho
 obtain⟨k0,k1,k2,k3,k4,k5⟩:=zE X0.out
 obtain⟨l0,l1,l2⟩:=zC X9.out
 go_wp2_with fail
 refine(hc.holder _ _ p s sec w8 (PV.out w8 BQ.out) ⟨_,_,_,rfl,AO.out.in_⟩).mono ?_
 rintro e w9 ⟨rfl,b⟩
 clear k0 k1 k2 k3 k4 k5 l0 l1 l2
 obtain⟨wv,hwv⟩:=zD1 (whoV p s sec)
 rw[←hwv]
 have Hwv:=zD0 hwv
 clear hwv
 obtain⟨we,hwe⟩:=zD1 (whoE p s sec)
 rw[←hwe]
 have Hwe:=zD0 hwe
 clear hwe
 replace X0:=zD0 ((b.block _ (zA X0.out)).trans X0.out)
 replace X1:=zD0 ((b.block _ (zA X1.out)).trans X1.out)
 replace X9:=zD0 ((b.block _ (zA X9.out)).trans X9.out)
 replace X10:=zD0 ((b.block _ (zA X10.out)).trans X10.out)
 replace X12:=zD0 ((b.block _ (zA X12.out)).trans X12.out)
 replace AO:=zD0 (AO.out.below b)
 replace BO:=zD0 (BO.out.below b)
 replace CO:=zD0 (CO.out.below b)
 replace BQ:=zD0 (BQ.out.trans (b.mono BQ.out.size))
 clear b
 obtain⟨k0,k1,k2,k3,k4,k5⟩:=zE X0.out
 obtain⟨l0,l1,l2⟩:=zC X1.out
 go_wp2_with fail
 refine(rholder15_any zC7 _ _ p s sec w9 (PV.out w9 BQ.out) (SV.out w9 BQ.out)).mono ?_
 rintro e w10 ⟨rfl,b⟩
 clear k0 k1 k2 k3 k4 k5 l0 l1 l2
 rw[←Hwv.out,←Hwe.out]
 replace X0:=zD0 ((b.block _ (zA X0.out)).trans X0.out)
 replace X1:=zD0 ((b.block _ (zA X1.out)).trans X1.out)
 replace X9:=zD0 ((b.block _ (zA X9.out)).trans X9.out)
 replace X10:=zD0 ((b.block _ (zA X10.out)).trans X10.out)
 replace X12:=zD0 ((b.block _ (zA X12.out)).trans X12.out)
 replace AO:=zD0 (AO.out.below b)
 replace BO:=zD0 (BO.out.below b)
 replace CO:=zD0 (CO.out.below b)
 replace BQ:=zD0 (BQ.out.trans (b.mono BQ.out.size))
 clear b
 obtain⟨k0,k1,k2,k3,k4,k5⟩:=zE X0.out
 obtain⟨l0,l1,l2⟩:=zC X9.out
 go_wp2_with fail
 refine(hc.asked _ _ p s pt w10 (PV.out w10 BQ.out) ⟨_,_,_,rfl,AO.out.in_⟩).mono ?_
 rintro e w11 ⟨rfl,b⟩
 clear k0 k1 k2 k3 k4 k5 l0 l1 l2
 obtain⟨lv,hlv⟩:=zD1 (lieV p s pt)
 rw[←hlv]
 have Hlv:=zD0 hlv
 clear hlv
 obtain⟨le,hle⟩:=zD1 (lieE p s pt)
 rw[←hle]
 have Hle:=zD0 hle
 clear hle
 replace X0:=zD0 ((b.block _ (zA X0.out)).trans X0.out)
 replace X1:=zD0 ((b.block _ (zA X1.out)).trans X1.out)
 replace X9:=zD0 ((b.block _ (zA X9.out)).trans X9.out)
 replace X10:=zD0 ((b.block _ (zA X10.out)).trans X10.out)
 replace X12:=zD0 ((b.block _ (zA X12.out)).trans X12.out)
 replace AO:=zD0 (AO.out.below b)
 replace BO:=zD0 (BO.out.below b)
 replace CO:=zD0 (CO.out.below b)
 replace BQ:=zD0 (BQ.out.trans (b.mono BQ.out.size))
 clear b
 obtain⟨k0,k1,k2,k3,k4,k5⟩:=zE X0.out
 obtain⟨l0,l1,l2⟩:=zC X1.out
 go_wp2_with fail
 refine(rasked15_any zC7 _ _ p s pt w11 (PV.out w11 BQ.out) (SV.out w11 BQ.out)).mono ?_
 rintro e w12 ⟨rfl,b⟩
 clear k0 k1 k2 k3 k4 k5 l0 l1 l2
 rw[←Hlv.out,←Hle.out]
 replace X0:=zD0 ((b.block _ (zA X0.out)).trans X0.out)
 replace X1:=zD0 ((b.block _ (zA X1.out)).trans X1.out)
 replace X9:=zD0 ((b.block _ (zA X9.out)).trans X9.out)
 replace X10:=zD0 ((b.block _ (zA X10.out)).trans X10.out)
 replace X12:=zD0 ((b.block _ (zA X12.out)).trans X12.out)
 replace AO:=zD0 (AO.out.below b)
 replace BO:=zD0 (BO.out.below b)
 replace CO:=zD0 (CO.out.below b)
 replace BQ:=zD0 (BQ.out.trans (b.mono BQ.out.size))
 clear b
 obtain⟨v0,hv0⟩:=zD1 (w12)
 subst hv0
 obtain⟨k0,k1,k2,k3,k4,k5⟩:=zE X0.out
 obtain⟨l0,l1,l2⟩:=zC X9.out
 go_wp2_with fail
 refine(hc.image _ _ p s v0 (PV.out v0 BQ.out) ⟨_,_,_,rfl,AO.out.in_⟩).mono ?_
 rintro e v1 ⟨u0,u1,u2,rfl,ho,b⟩
 clear k0 k1 k2 k3 k4 k5 l0 l1 l2
 obtain⟨se,hse⟩:=zD1 (kI p s)
 rw[←hse]
 have Hse:=zD0 hse
 clear hse
 have AV:=zD0 AO.out.in_
 have Y1:=X1
 have Y9:=X9
 have BQ0:=BQ
 have BD:=zD0 b
 replace X0:=zD0 ((b.block _ (zA X0.out)).trans X0.out)
 replace X1:=zD0 ((b.block _ (zA X1.out)).trans X1.out)
 replace X9:=zD0 ((b.block _ (zA X9.out)).trans X9.out)
 replace X10:=zD0 ((b.block _ (zA X10.out)).trans X10.out)
 replace X12:=zD0 ((b.block _ (zA X12.out)).trans X12.out)
 replace AO:=zD0 (AO.out.below b)
 replace BO:=zD0 (BO.out.below b)
 replace CO:=zD0 (CO.out.below b)
 replace BQ:=zD0 (BQ.out.trans (b.mono BQ.out.size))
 clear b
 obtain⟨D0,xd0,rfl⟩:=ho.tr.slice
 obtain⟨D1,xd1,rfl⟩:=ho.sw.slice
 obtain⟨D2,xd2,rfl⟩:=ho.lk.slice
 obtain⟨nd0,hnd0⟩:=zD1 ((jF p s).tr.length)
 obtain⟨nd1,hnd1⟩:=zD1 ((jF p s).sw.length)
 obtain⟨nd2,hnd2⟩:=zD1 ((jF p s).lk.length)
 rw[←hnd0,←hnd1,←hnd2] at ho
 rw[←hnd0,←hnd1,←hnd2]
 have Hnd:Hid (nd0=(jF p s).tr.length∧nd1=(jF p s).sw.length∧nd2=(jF p s).lk.length):=zD0 ⟨hnd0,hnd1,hnd2⟩
 clear hnd0 hnd1 hnd2
 go_upto_region 11 with((with_reducible show wpList _ _ _ (⟨none,.store _ _ _,_,_,_,_⟩::_) _ _);refine zK rfl _ (.tmp 22) (.tmp 79) rfl v1.heap.size rfl (c':=#[.slice D0 nd0 xd0,.slice D1 nd1 xd1,.slice D2 nd2 xd2]) rfl (zB v1 (.cells #[.slice none 0 0,.slice none 0 0,.slice none 0 0] 32)) zAv rfl (by simp[Value.oneCell']) ?_)
 rw[World.setRow_alloc_new]
 have hx1:=zB v1 (.cells #[.slice D0 nd0 xd0,.slice D1 nd1 xd1,.slice D2 nd2 xd2] 32)
 have b:=zD v1 (.cells #[.slice D0 nd0 xd0,.slice D1 nd1 xd1,.slice D2 nd2 xd2] 32)
 have hO:=ho.below b
 generalize v1.alloc (.cells #[.slice D0 nd0 xd0,.slice D1 nd1 xd1,.slice D2 nd2 xd2] 32)=v2 at b hx1 hO⊢
 obtain⟨p22,hp6⟩:=zD1 (v1.heap.size)
 rw[←hp6] at hx1⊢
 replace X0:=zD0 ((b.block _ (zA X0.out)).trans X0.out)
 replace X1:=zD0 ((b.block _ (zA X1.out)).trans X1.out)
 replace X9:=zD0 ((b.block _ (zA X9.out)).trans X9.out)
 replace X10:=zD0 ((b.block _ (zA X10.out)).trans X10.out)
 replace X12:=zD0 ((b.block _ (zA X12.out)).trans X12.out)
 replace AO:=zD0 (AO.out.below b)
 replace BO:=zD0 (BO.out.below b)
 replace CO:=zD0 (CO.out.below b)
 replace BQ:=zD0 (BQ.out.trans (b.mono BQ.out.size))
 replace BD:=zD0 (BD.out.trans (b.mono BD.out.size))
 have X22:=zD0 hx1
 have DO:=zD0 hO
 clear b hx1 hp6 hO ho
 obtain⟨k0,k1,k2,k3,k4,k5⟩:=zE X0.out
 obtain⟨l0,l1,l2⟩:=zC X1.out
 go_wp2_with fail
 refine(rimage15_any _ _ p s v2 (PV.out v2 BQ.out) (SV.out v2 BQ.out)).mono ?_
 rintro e v3 ⟨u0,u1,u2,rfl,ho,b⟩
 clear k0 k1 k2 k3 k4 k5 l0 l1 l2
 rw[←Hse.out]
 replace X0:=zD0 ((b.block _ (zA X0.out)).trans X0.out)
 replace X1:=zD0 ((b.block _ (zA X1.out)).trans X1.out)
 replace X9:=zD0 ((b.block _ (zA X9.out)).trans X9.out)
 replace X10:=zD0 ((b.block _ (zA X10.out)).trans X10.out)
 replace X12:=zD0 ((b.block _ (zA X12.out)).trans X12.out)
 replace X22:=zD0 ((b.block _ (zA X22.out)).trans X22.out)
 replace AO:=zD0 (AO.out.below b)
 replace BO:=zD0 (BO.out.below b)
 replace CO:=zD0 (CO.out.below b)
 replace DO:=zD0 (DO.out.below b)
 replace BQ:=zD0 (BQ.out.trans (b.mono BQ.out.size))
 replace BD:=zD0 (BD.out.trans (b.mono BD.out.size))
 clear b
 obtain⟨E0,xe0,rfl⟩:=ho.tr.slice
 obtain⟨E1,xe1,rfl⟩:=ho.sw.slice
 obtain⟨E2,xe2,rfl⟩:=ho.lk.slice
 obtain⟨ne0,hne0⟩:=zD1 ((jF p s).tr.length)
 obtain⟨ne1,hne1⟩:=zD1 ((jF p s).sw.length)
 obtain⟨ne2,hne2⟩:=zD1 ((jF p s).lk.length)
 rw[←hne0,←hne1,←hne2] at ho
 rw[←hne0,←hne1,←hne2]
 have Hne:Hid (ne0=(jF p s).tr.length∧ne1=(jF p s).sw.length∧ne2=(jF p s).lk.length):=zD0 ⟨hne0,hne1,hne2⟩
 clear hne0 hne1 hne2
 go_upto_region 12 with((with_reducible show wpList _ _ _ (⟨none,.store _ _ _,_,_,_,_⟩::_) _ _);refine zK rfl _ (.tmp 24) (.tmp 85) rfl v3.heap.size rfl (c':=#[.slice E0 ne0 xe0,.slice E1 ne1 xe1,.slice E2 ne2 xe2]) rfl (zB v3 (.cells #[.slice none 0 0,.slice none 0 0,.slice none 0 0] 32)) zAv rfl (by simp[Value.oneCell']) ?_)
 rw[World.setRow_alloc_new]
 have hx1:=zB v3 (.cells #[.slice E0 ne0 xe0,.slice E1 ne1 xe1,.slice E2 ne2 xe2] 32)
 have b:=zD v3 (.cells #[.slice E0 ne0 xe0,.slice E1 ne1 xe1,.slice E2 ne2 xe2] 32)
 have hO:=ho.below b
 generalize v3.alloc (.cells #[.slice E0 ne0 xe0,.slice E1 ne1 xe1,.slice E2 ne2 xe2] 32)=v4 at b hx1 hO⊢
 obtain⟨p24,hp6⟩:=zD1 (v3.heap.size)
 rw[←hp6] at hx1⊢
 replace X0:=zD0 ((b.block _ (zA X0.out)).trans X0.out)
 replace X1:=zD0 ((b.block _ (zA X1.out)).trans X1.out)
 replace X9:=zD0 ((b.block _ (zA X9.out)).trans X9.out)
 replace X10:=zD0 ((b.block _ (zA X10.out)).trans X10.out)
 replace X12:=zD0 ((b.block _ (zA X12.out)).trans X12.out)
 replace X22:=zD0 ((b.block _ (zA X22.out)).trans X22.out)
 replace AO:=zD0 (AO.out.below b)
 replace BO:=zD0 (BO.out.below b)
 replace CO:=zD0 (CO.out.below b)
 replace DO:=zD0 (DO.out.below b)
 replace BQ:=zD0 (BQ.out.trans (b.mono BQ.out.size))
 replace BD:=zD0 (BD.out.trans (b.mono BD.out.size))
 have X24:=zD0 hx1
 have EO:=zD0 hO
 clear b hx1 hp6 hO ho
 have HRR:Hid (eqB (vG p) (vG p)=true):=zD0 (yK rfl)
 have HII:Hid (eqB (jF p s) (jF p s)=true):=zD0 (yK rfl)
 have HSS:Hid (eqB s s=true):=zD0 (yK rfl)
 have dE:(er != er)=false:=by simp
 have dWV:(wv != wv)=false:=by simp
 have dWE:(we != we)=false:=by simp
 have dLV:(lv != lv)=false:=by simp
 have dLE:(le != le)=false:=by simp
 have dSE:(se != se)=false:=by simp
 refine wp_region_held_drew (S:=fun v=>Below v4.heap.size v4 v) (by kernel_rfl) (Below.refl v4.heap.size v4).drew (fun zD2=>?_)
 refine tkc 0 zD2 (fun w' hSw=>zC ((hSw.block _ (zA X10.out)).trans X10.out)) ?_;refine tkc 1 zD2 (fun w' hSw=>zC ((hSw.block _ (zA X12.out)).trans X12.out)) ?_
 have tb:=(Below.refl v4.heap.size v4).drew
 generalize v4.drew=z0 at tb zD2⊢
 have HB:=zD0 tb
 clear tb
 refine tkr 2 (fun K hK=>?_)
 go_simp
 refine(zDi _ _ (vG p) (vG p) z0 ⟨_,_,_,rfl,(BO.out.in_.below HB.out).more HB.out.size⟩ ⟨_,_,_,rfl,(CO.out.in_.below HB.out).more HB.out.size⟩).mono ?_
 rintro e z1 ⟨rfl,b⟩
 rw[HRR.out]
 have tb:=HB.out.trans (b.mono HB.out.size)
 clear HB b
 have HB:=zD0 tb
 clear tb
 try go_wp2_with fail
 refine hK.out _ _ ?_ fun zD2=>?_;exact HB.out;clear hK K;try simp only[zn,Act.put]
 refine tk 3 zD2 ?_;refine tk 4 zD2 ?_;refine tk 5 zD2 ?_;refine tk 6 zD2 ?_;refine tk 7 zD2 ?_;refine tk 8 zD2 ?_;refine tk 9 zD2 ?_;refine tk 10 zD2 ?_;refine tk 11 zD2 ?_;refine tk 12 zD2 ?_;refine tk 13 zD2 ?_;refine tk 14 zD2 ?_;refine tk 15 zD2 ?_;refine tk 16 zD2 ?_;refine tk 17 zD2 ?_;refine tk 18 zD2 ?_;refine tk 19 zD2 ?_;refine tk 20 zD2 ?_;refine tk 21 zD2 ?_;refine tk 22 zD2 ?_;refine tk 23 zD2 ?_;refine tk 24 zD2 ?_;refine tk 25 zD2 ?_;refine tk 26 zD2 ?_;refine tk 27 zD2 ?_;refine tk 28 zD2 ?_;refine tk 29 zD2 ?_;refine tkc 30 zD2 (fun w' hSw=>zC ((hSw.block _ (zA X22.out)).trans X22.out)) ?_;refine tkc 31 zD2 (fun w' hSw=>zC ((hSw.block _ (zA X24.out)).trans X24.out)) ?_
 refine tkr 32 (fun K hK=>?_)
 rw[if_pos (by rfl)]
 go_simp
 refine(zDi _ _ (jF p s) (jF p s) z1 ⟨_,_,_,rfl,(DO.out.in_.below HB.out).more HB.out.size⟩ ⟨_,_,_,rfl,(EO.out.in_.below HB.out).more HB.out.size⟩).mono ?_
 rintro e z2 ⟨rfl,b⟩
 rw[HII.out]
 have tb:=HB.out.trans (b.mono HB.out.size)
 clear HB b
 have HB:=zD0 tb
 clear tb
 try go_wp2_with fail
 refine hK.out _ _ ?_ fun zD2=>?_;exact HB.out;clear hK K;try simp only[zn,Act.put]
 refine tk 33 zD2 ?_;refine tk 34 zD2 ?_;refine tk 35 zD2 ?_;refine tk 36 zD2 ?_;refine tk 37 zD2 ?_;refine tk 38 zD2 ?_;refine tk 39 zD2 ?_;refine tk 40 zD2 ?_;refine tkc 41 zD2 (fun w' hSw=>zE ((hSw.block _ (zA X0.out)).trans X0.out)) ?_;refine tkc 42 zD2 (fun w' hSw=>zC ((hSw.block _ (zA X9.out)).trans X9.out)) ?_;refine tkc 44 zD2 (fun w' hSw=>zE ((hSw.block _ (zA X0.out)).trans X0.out)) ?_;refine tkc 45 zD2 (fun w' hSw=>zC ((hSw.block _ (zA X1.out)).trans X1.out)) ?_
 refine tkr 43 (fun K hK=>?_)
 rw[if_pos (by rfl)]
 go_simp
 refine(hc.check _ _ p s z2 (PV.out z2 (BQ.out.trans (HB.out.mono BQ.out.size))) ⟨_,_,_,rfl,(AO.out.in_.below HB.out).more HB.out.size⟩).mono ?_
 rintro e z3 ⟨rfl,b⟩
 rw[←Hse.out]
 have tb:=HB.out.trans (b.mono HB.out.size)
 clear HB b
 have HB:=zD0 tb
 clear tb
 try go_wp2_with fail
 refine hK.out _ _ ?_ fun zD2=>?_;exact HB.out;clear hK K;try simp only[zn,Act.put]
 refine tkr 46 (fun K hK=>?_)
 rw[if_pos (by rfl)]
 go_simp
 refine(zBd zC7 _ _ p s z3 (PV.out z3 (BQ.out.trans (HB.out.mono BQ.out.size))) (SV.out z3 (BQ.out.trans (HB.out.mono BQ.out.size)))).mono ?_
 rintro e z4 ⟨rfl,b⟩
 rw[←Hse.out]
 have tb:=HB.out.trans (b.mono HB.out.size)
 clear HB b
 have HB:=zD0 tb
 clear tb
 try go_wp2_with fail
 refine hK.out _ _ ?_ fun zD2=>?_;exact HB.out;clear hK K;try simp only[zn,Act.put]
 refine tk 47 zD2 ?_;refine tk 48 zD2 ?_
 refine wpAnyH_done (by kernel_rfl) ?_ _
 have D4:=zD0 (DO.out.below HB.out)
 have Z22:=zD0 ((HB.out.block _ (zA X22.out)).trans X22.out)
 have BE:=zD0 (BD.out.trans (HB.out.mono BD.out.size))
 clear HB X0 X10 X12 X24 AO BO CO DO EO BD X1 X9 BQ X22
 have HDN:Hid (nd0≤16∧nd1≤16∧nd2≤16):=zD0 (by
  have h:=image_small15 p s
  have:=Hnd.out
  omega)
 have hm0:nd0≤9223372036854775807:=by have:=HDN.out;omega
 have hm1:nd1≤9223372036854775807:=by have:=HDN.out;omega
 have hm2:nd2≤9223372036854775807:=by have:=HDN.out;omega
 obtain⟨tt0,htt⟩:=zD1 (jF p s)
 have TL0:Hid (tt0.tr.length=nd0∧tt0.sw.length=nd1∧tt0.lk.length=nd2):=zD0 (by rw[htt];have:=Hnd.out;omega)
 have tTO:qY z4 v0.heap.size (.slice D0 nd0 xd0) (.slice D1 nd1 xd1) (.slice D2 nd2 xd2) tt0:=by rw[htt];exact D4.out
 clear D4 htt dE dWV dWE dLV dLE dSE
 have TO:=zD0 tTO
 clear tTO
 obtain⟨l0,l1,l2⟩:=zC Z22.out
 go_upto_region 15 with fail
 go_loopw [26] (fun s26 wr=>∃i:Nat,i≤nd0∧s26 = .int .i64 i∧(∃tt:qD,qY wr v0.heap.size (.slice D0 nd0 xd0) (.slice D1 nd1 xd1) (.slice D2 nd2 xd2) tt∧tt.tr.length=nd0∧tt.sw.length=nd1∧tt.lk.length=nd2)∧wr.heap[p22]? = some (.cells #[.slice D0 nd0 xd0,.slice D1 nd1 xd1,.slice D2 nd2 xd2] 32 (0,0))∧Below v0.heap.size v0 wr) (fun s26 _=>nd0-(intOf s26).toNat)
 case atStart=>exact⟨0,by omega,by go_num,⟨tt0,TO.out,TL0.out.1,TL0.out.2.1,TL0.out.2.2⟩,Z22.out,BE.out⟩
 case round=>
  clear TO Z22 BE TL0 l0 l1 l2
  obtain⟨wx,hwx⟩:=zD1 (wr)
  subst hwx
  obtain⟨i,hi,rfl,⟨tt,hto,ha_,hb_,hc_⟩,hx22,hbe⟩:=hrel
  have TO:=zD0 hto
  have Z22:=zD0 hx22
  have BE:=zD0 hbe
  have HTL:Hid (tt.tr.length=nd0∧tt.sw.length=nd1∧tt.lk.length=nd2):=zD0 ⟨ha_,hb_,hc_⟩
  clear hto hx22 hbe ha_ hb_ hc_
  obtain⟨l0,l1,l2⟩:=zC Z22.out
  by_cases hlt:i<nd0
  ·have hlt':(i:Int)<nd0:=by omega
   have his:i<tt.tr.length:=by have:=HTL.out;omega
   obtain⟨bq,oq,ebq,hbq,hc0,hc1,hr1,hr2⟩:=TO.out.in_.tr.at his
   obtain⟨g,cg,eg,hlog,⟨cur,hcur⟩,hset⟩:=st_setTr TO.out his (z:=9) (by decide)
   injection eg with e1 e2 e3
   have hat:=e1
   rw[ebq] at e1
   injection e1 with e1
   injection e1 with e1 e4
   subst e1
   subst e4
   subst hat
   have g9:=hc1
   simp only[Nat.zero_add] at g9
   have fz:=zY hcur (i*2+1)
   have hX:=zR (j:=i*2+1) (v:=.int .u8 9) Z22.out hcur (by decide)
   have hE:=qH BE.out hlog (i*2+1) (.int .u8 9)
   have HL2:Hid (_∧_∧_):=HTL
   clear e2 e3 ebq hlog hbq
   go_upto_region 16 with fail
   clear l0 l1 l2 g9 fz hcur TO Z22 BE
   generalize wx.setCell ⟨bq,i*2+1,none⟩ (.int .u8 9)=wy at hX hE hset⊢
   have TO:=zD0 hset
   have Z22:=zD0 hX
   have BE:=zD0 hE
   clear hset hX hE
   go_wp2_with fail
   go_roundw
   case measure=>simp[intOf];omega
   case rel=>exact⟨i+1,by omega,by go_num,⟨_,TO.out,by simpa using HL2.out.1,by simpa using HL2.out.2.1,by simpa using HL2.out.2.2⟩,Z22.out,BE.out⟩
  ·obtain rfl:nd0=i:=by omega
   have hlt':¬(nd0:Int)<nd0:=by omega
   obtain⟨tt0,htt⟩:=zD1 (tt)
   subst htt
   have TL0:=HTL
   clear HTL l0 l1 l2
   obtain⟨l0,l1,l2⟩:=zC Z22.out
   go_upto_region 19 with fail
   go_loopw [27] (fun s27 wr=>∃i:Nat,i≤nd2∧s27 = .int .i64 i∧(∃tt:qD,qY wr v0.heap.size (.slice D0 nd0 xd0) (.slice D1 nd1 xd1) (.slice D2 nd2 xd2) tt∧tt.tr.length=nd0∧tt.sw.length=nd1∧tt.lk.length=nd2)∧wr.heap[p22]? = some (.cells #[.slice D0 nd0 xd0,.slice D1 nd1 xd1,.slice D2 nd2 xd2] 32 (0,0))∧Below v0.heap.size v0 wr) (fun s27 _=>nd2-(intOf s27).toNat)
   case atStart=>exact⟨0,by omega,by go_num,⟨tt0,TO.out,TL0.out.1,TL0.out.2.1,TL0.out.2.2⟩,Z22.out,BE.out⟩
   case round=>
    clear TO Z22 BE TL0 l0 l1 l2
    obtain⟨wx,hwx⟩:=zD1 (wr)
    subst hwx
    obtain⟨i,hi,rfl,⟨tt,hto,ha_,hb_,hc_⟩,hx22,hbe⟩:=hrel
    have TO:=zD0 hto
    have Z22:=zD0 hx22
    have BE:=zD0 hbe
    have HTL:Hid (tt.tr.length=nd0∧tt.sw.length=nd1∧tt.lk.length=nd2):=zD0 ⟨ha_,hb_,hc_⟩
    clear hto hx22 hbe ha_ hb_ hc_
    obtain⟨l0,l1,l2⟩:=zC Z22.out
    by_cases hlt:i<nd2
    ·have hlt':(i:Int)<nd2:=by omega
     have his:i<tt.lk.length:=by have:=HTL.out;omega
     obtain⟨bq,oq,ebq,hbq,hc0,hc1,hc2,hc3,hr1,hr2⟩:=TO.out.in_.lk.at his
     obtain⟨g,cg,eg,hlog,⟨cur,hcur⟩,hset⟩:=zBp TO.out his 99
     injection eg with e1 e2 e3
     have hat:=e1
     rw[ebq] at e1
     injection e1 with e1
     injection e1 with e1 e4
     subst e1
     subst e4
     subst hat
     have g9:=hc3
     simp only[Nat.zero_add] at g9
     have fz:=zY hcur (i*4+3)
     have hX:=zR (j:=i*4+3) (v:=.int .i64 99) Z22.out hcur (by decide)
     have hE:=qH BE.out hlog (i*4+3) (.int .i64 99)
     have HL2:Hid (_∧_∧_):=HTL
     clear e2 e3 ebq hlog hbq
     go_upto_region 20 with fail
     clear l0 l1 l2 g9 fz hcur TO Z22 BE
     generalize wx.setCell ⟨bq,i*4+3,none⟩ (.int .i64 99)=wy at hX hE hset⊢
     have TO:=zD0 hset
     have Z22:=zD0 hX
     have BE:=zD0 hE
     clear hset hX hE
     go_wp2_with fail
     go_roundw
     case measure=>simp[intOf];omega
     case rel=>exact⟨i+1,by omega,by go_num,⟨_,TO.out,by simpa using HL2.out.1,by simpa using HL2.out.2.1,by simpa using HL2.out.2.2⟩,Z22.out,BE.out⟩
    ·obtain rfl:nd2=i:=by omega
     have hlt':¬(nd2:Int)<nd2:=by omega
     obtain⟨tt0,htt⟩:=zD1 (tt)
     subst htt
     have TL0:=HTL
     clear HTL l0 l1 l2
     obtain⟨l0,l1,l2⟩:=zC Z22.out
     go_upto_region 23 with fail
     go_loopw [28] (fun s28 wr=>∃i:Nat,i≤nd1∧s28 = .int .i64 i∧(∃tt:qD,qY wr v0.heap.size (.slice D0 nd0 xd0) (.slice D1 nd1 xd1) (.slice D2 nd2 xd2) tt∧tt.tr.length=nd0∧tt.sw.length=nd1∧tt.lk.length=nd2)∧wr.heap[p22]? = some (.cells #[.slice D0 nd0 xd0,.slice D1 nd1 xd1,.slice D2 nd2 xd2] 32 (0,0))∧Below v0.heap.size v0 wr) (fun s28 _=>nd1-(intOf s28).toNat)
     case atStart=>exact⟨0,by omega,by go_num,⟨tt0,TO.out,TL0.out.1,TL0.out.2.1,TL0.out.2.2⟩,Z22.out,BE.out⟩
     case round=>
      clear TO Z22 BE TL0 l0 l1 l2
      obtain⟨wx,hwx⟩:=zD1 (wr)
      subst hwx
      obtain⟨i,hi,rfl,⟨tt,hto,ha_,hb_,hc_⟩,hx22,hbe⟩:=hrel
      have TO:=zD0 hto
      have Z22:=zD0 hx22
      have BE:=zD0 hbe
      have HTL:Hid (tt.tr.length=nd0∧tt.sw.length=nd1∧tt.lk.length=nd2):=zD0 ⟨ha_,hb_,hc_⟩
      clear hto hx22 hbe ha_ hb_ hc_
      obtain⟨l0,l1,l2⟩:=zC Z22.out
      by_cases hlt:i<nd1
      ·have hlt':(i:Int)<nd1:=by omega
       have his:i<tt.sw.length:=by have:=HTL.out;omega
       obtain⟨bq,oq,ebq,hbq,hc0,hc1,hc2⟩:=TO.out.in_.sw.at his
       obtain⟨g,cg,eg,hlog,⟨cur,hcur⟩,hset⟩:=st_setSw2c TO.out his 9
       injection eg with e1 e2 e3
       have hat:=e1
       rw[ebq] at e1
       injection e1 with e1
       injection e1 with e1 e4
       subst e1
       subst e4
       subst hat
       have g9:=hc2
       simp only[Nat.zero_add] at g9
       have fz:=zY hcur (i*3+2)
       have hX:=zR (j:=i*3+2) (v:=.int .i64 9) Z22.out hcur (by decide)
       have hE:=qH BE.out hlog (i*3+2) (.int .i64 9)
       have HL2:Hid (_∧_∧_):=HTL
       clear e2 e3 ebq hlog hbq
       go_upto_region 24 with fail
       clear l0 l1 l2 g9 fz hcur TO Z22 BE
       generalize wx.setCell ⟨bq,i*3+2,none⟩ (.int .i64 9)=wy at hX hE hset⊢
       have TO:=zD0 hset
       have Z22:=zD0 hX
       have BE:=zD0 hE
       clear hset hX hE
       go_wp2_with fail
       go_roundw
       case measure=>simp[intOf];omega
       case rel=>exact⟨i+1,by omega,by go_num,⟨_,TO.out,by simpa using HL2.out.1,by simpa using HL2.out.2.1,by simpa using HL2.out.2.2⟩,Z22.out,BE.out⟩
      ·obtain rfl:nd1=i:=by omega
       have hlt':¬(nd1:Int)<nd1:=by omega
       obtain⟨tt0,htt⟩:=zD1 (tt)
       subst htt
       have TL0:=HTL
       clear HTL l0 l1 l2
       obtain⟨m0,m1,m2⟩:=zC Z22.out
       obtain⟨k0,k1,k2⟩:=zC ((BE.out.block _ (zA Y1.out)).trans Y1.out)
       obtain⟨l0,l1,l2⟩:=zC ((BE.out.block _ (zA Y9.out)).trans Y9.out)
       go_wp2_with fail
       refine(zDi _ _ s s wx ⟨_,_,_,rfl,(AV.out.below BE.out).more BE.out.size⟩ (SV.out wx (BQ0.out.trans (BE.out.mono BQ0.out.size)))).mono ?_
       rintro e wf ⟨rfl,b⟩
       rw[HSS.out]
       have BF:=zD0 ((BQ0.out.trans (BE.out.mono BQ0.out.size)).trans (b.mono (Nat.le_trans BQ0.out.size BE.out.size)))
       clear b k0 k1 k2 l0 l1 l2 m0 m1 m2
       go_wp2_with fail
       go_ret
       exact⟨rfl,BF.out⟩
end Go.Proofs.YtemmgmjhomgbbaaGreat
