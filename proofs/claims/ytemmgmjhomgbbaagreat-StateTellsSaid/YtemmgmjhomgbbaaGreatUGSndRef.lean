/-
 The document's own package sound: Sound.
 Conditions: none.
-/
import Derived.Test.YtemmgmjhomgbbaaGreatUSndM
import Derived.Test.YtemmgmjhomgbbaaGreatUGWayRefF
import Derived.Test.YtemmgmjhomgbbaaGreatUGWayAllM
import Derived.BigQuiet
set_option linter.unusedVariables false
set_option linter.unusedSimpArgs false
set_option maxRecDepth 100000
namespace Go.Proofs.YtemmgmjhomgbbaaGreat
open Go.RowKit
set_option maxHeartbeats 16000000 in
theorem rsound_any (v y:Value) (p:Pl) (r:Rt) (kr:Nat) (hkr:kr<p.routes.length) (hr:p.routes[kr]=r) (w:World) (h:qF w w.heap.size v p) (h':vS w w.heap.size y r) (hm:xU p):
  Calls Tryz.prog 48 #[v,y] w fun e w'=>e = .returned (.bool (zA9 p r))∧Below w.heap.size w w':=by
 obtain⟨A2,c2,A3,c3,A4,c4,A5,c5,n2,n3,n4,n5,rfl,hm2,hm3,hm4,hm5,HCP,HIN,HN⟩:=kD h
 obtain⟨y3,y4,y5,rfl,hrt⟩:=h'
 have HRT0:=zD0 hrt
 obtain⟨D3,d3,rfl,hcl3,hcm3⟩:=hrt.path.slice
 obtain⟨D4,d4,rfl,-,-⟩:=hrt.over.slice
 obtain⟨D5,d5,rfl,-,-⟩:=hrt.flanks.slice
 obtain⟨l3,hl3⟩:=zD1 (r.path.length)
 obtain⟨l4,hl4⟩:=zD1 (r.over.length)
 obtain⟨l5,hl5⟩:=zD1 (r.flanks.length)
 have HRT:Hid (RtIn w w.heap.size (.slice D3 l3 d3) (.slice D4 l4 d4) (.slice D5 l5 d5) r):=zD0 (by rw[hl3,hl4,hl5];exact HRT0.out)
 have HL3:=zD0 hl3
 rw[←hl3,←hl4,←hl5]
 have HRI:=zD0 (jO hm hkr hr)
 have HPM:=zD0 hm
 have HKR:Hid (∃_:kr<p.routes.length,p.routes[kr]=r):=zD0 ⟨hkr,hr⟩
 have HAT:Hid (at1 (fun x:Rt=>x.id) p.routes r.id=(kr:Int)):=zD0 (vT hkr (by rw[hr]) fun j hj=>by
  have h1:=ids_up hm kr j hkr hj
  rw[hr] at h1
  omega)
 have hl6:l3≤6:=by have:=HRI.out.route.path;omega
 clear hl3 hl4 hl5 hrt HRT0 hcl3 hcm3 hm hkr hr
 have hq:=zV w (.cells #[.int .i64 p.ver,.int .i64 p.par,.slice A2 n2 c2,.slice A3 n3 c3,.slice A4 n4 c4,.slice A5 n5 c5] 27) (.cells #[.int .i64 r.id,.int .i64 r.entry,.int .i64 r.exit,.slice D3 l3 d3,.slice D4 l4 d4,.slice D5 l5 d5,.int .i64 r.timer] 64)
 go_enter Tryz.func48,Tryz.ntmps48
 go_upto_region 1 with fail
 generalize (w.alloc (.cells #[.int .i64 p.ver,.int .i64 p.par,.slice A2 n2 c2,.slice A3 n3 c3,.slice A4 n4 c4,.slice A5 n5 c5] 27)).alloc (.cells #[.int .i64 r.id,.int .i64 r.entry,.int .i64 r.exit,.slice D3 l3 d3,.slice D4 l4 d4,.slice D5 l5 d5,.int .i64 r.timer] 64)=q at hq⊢
 obtain⟨q0,q1,qb⟩:=hq
 generalize w.heap.size+1=p3 at q1⊢
 have XP:=zD0 q0
 have XR:=zD0 q1
 have BQ:=zD0 qb
 clear q0 q1 qb
 obtain⟨k0,k1,k2,k3,k4,k5⟩:=zE XP.out
 obtain⟨m0,m1,m2,m3,m4,m5,m6⟩:=zL XR.out
 go_wp2_with fail
 refine(rends_any _ _ p r q ⟨_,_,_,_,rfl,(HIN.out.below BQ.out).more BQ.out.size⟩ ⟨_,_,_,rfl,(HRT.out.below BQ.out).more BQ.out.size⟩ HRI.out).mono ?_
 rintro e w1 ⟨b1,hcase⟩
 have B1:Hid (Below w.heap.size w w1):=zD0 (BQ.out.trans (b1.mono BQ.out.size))
 have XP1:=zD0 ((b1.block _ (zA XP.out)).trans XP.out)
 have XR1:=zD0 ((b1.block _ (zA XR.out)).trans XR.out)
 have HI:=zD0 ((HIN.out.below B1.out).more B1.out.size)
 have PT:=zD0 ((HRT.out.path.below qI B1.out).more qI B1.out.size)
 clear b1 k0 k1 k2 k3 k4 k5 m0 m1 m2 m3 m4 m5 m6 XP XR BQ HIN HRT
 rcases hcase with⟨hh,u,z,rfl,hu⟩|⟨hh,rfl⟩
 rotate_left
 ·have HR:Hid (zA9 p r=false):=zD0 (zCp fun h=>hh h.hangs)
  clear hh
  go_wp2_with fail
  go_ret
  exact⟨by rw[HR.out];rfl,B1.out⟩
 have HH:=zD0 hh
 obtain⟨nl,hnl⟩:=zD1 ((zS r).length)
 rw[←hnl] at hu
 have HNL:=zD0 hnl
 have ht:=hu.b
 obtain⟨AO,cO,rfl⟩:=ht.slice
 have OI:Hid (xB w1 w1.heap.size (.slice AO nl cO) (zA6 p r nl)):=zD0 (by have:=ht.in_ zZ;rw[kM] at this;exact this)
 rw[kM]
 clear ht hu hnl hh
 go_upto_region 4 with fail
 obtain⟨x,hx⟩:=zD1 (kH p r)
 have HXV:=zD0 hx
 obtain⟨z0,hz0⟩:=zD1 (x.path.length)
 obtain⟨z1,hz1⟩:=zD1 (x.over.length)
 obtain⟨z2,hz2⟩:=zD1 (x.asks.length)
 have HZ:Hid (z0=x.path.length∧z1=x.over.length∧z2=x.asks.length):=zD0 ⟨hz0,hz1,hz2⟩
 have PI:Hid (∀V:World,Below w1.heap.size w1 V→qF V V.heap.size (.agg #[.int .i64 p.ver,.int .i64 p.par,.slice A2 n2 c2,.slice A3 n3 c3,.slice A4 n4 c4,.slice A5 n5 c5]) p):=zD0 (fun V hb=>⟨_,_,_,_,rfl,(HI.out.below hb).more hb.size⟩)
 have RI:Hid (∀V:World,Below w1.heap.size w1 V→qX V V.heap.size (.slice A5 n5 c5) p.routes):=zD0 (fun V hb=>((HI.out.below hb).more hb.size).routes)
 clear hx hz0 hz1 hz2
 go_cut [8] from 22 to 28 (fun s8 wx=>∃p8 U0 f0 U1 f1 U2 f2,s8 = .pointer (some ⟨p8,0,none⟩)∧wx.heap[p8]? = some (.cells #[.slice U0 z0 f0,.slice U1 z1 f1,.slice U2 z2 f2,.int .i64 x.near] 96 (0,0))∧kG wx w1.heap.size (.slice U0 z0 f0) (.slice U1 z1 f1) (.slice U2 z2 f2) x∧Below w1.heap.size w1 wx)
 case first=>
  refine wp_region_held_drew (S:=fun v=>Below w1.heap.size w1 v) (by kernel_rfl) (Below.refl w1.heap.size w1).drew (fun zD2=>?_)
  refine tkc 0 zD2 (fun w' hSw=>zE ((hSw.block _ (zA XP1.out)).trans XP1.out)) ?_;refine tk 1 zD2 ?_;refine tkc 2 zD2 (fun w' hSw=>zE ((hSw.block _ (zA XP1.out)).trans XP1.out)) ?_;refine tk 3 zD2 ?_;refine tkc 4 zD2 (fun w' hSw=>zL ((hSw.block _ (zA XR1.out)).trans XR1.out)) ?_
  have tb:=(Below.refl w1.heap.size w1).drew
  generalize w1.drew=q0_ at tb zD2⊢
  have HB:=zD0 tb
  clear tb
  refine wpAnyH_ready (rs:=[5,7]) (by kernel_rfl) (by simp) ?_
  refine AllReadyH.cons rfl (fun K hK=>?_) (AllReadyH.cons rfl (fun K hK=>?_) AllReadyH.nil)
  ·go_simp
   refine(rrouteat_any _ p.routes r.id q0_ (RI.out (q0_) HB.out)).mono ?_
   rintro e w' ⟨rfl,hw⟩
   rw[hw,HAT.out]
   clear hw w'
   try go_wp2_with fail
   refine hK.out _ _ ?_ fun zD2=>?_;exact HB.out;clear hK K;try simp only[zn,Act.put]
   refine wpAnyH_ready (rs:=[6,7]) (by kernel_rfl) (by simp) ?_
   refine AllReadyH.cons rfl (fun K hK=>?_) (AllReadyH.cons rfl (fun K hK=>?_) AllReadyH.nil)
   ·go_simp
    refine(zDn _ p r kr HKR.out.1 HKR.out.2 q0_ (PI.out (q0_) HB.out) HPM.out (yY HH.out)).mono ?_
    rintro e qA_ ⟨u0,u1,u2,rfl,hu0,b⟩
    rw[←HXV.out] at hu0⊢
    obtain⟨U0,f0,rfl⟩:=hu0.path.slice
    obtain⟨U1,f1,rfl⟩:=hu0.over.slice
    obtain⟨U2,f2,rfl⟩:=hu0.asks.slice
    have hu:=hu0.mono HB.out.size
    clear hu0
    rw[←HZ.out.1,←HZ.out.2.1,←HZ.out.2.2] at hu⊢
    have HB':=zD0 (HB.out.trans (b.mono HB.out.size))
    have OU:Hid (kG qA_ w1.heap.size (.slice U0 z0 f0) (.slice U1 z1 f1) (.slice U2 z2 f2) x):=zD0 hu
    clear hu
    clear HB
    have HB:=HB'
    clear HB' b
    try go_wp2_with fail
    refine hK.out _ _ ?_ fun zD2=>?_;exact HB.out;clear hK K;try simp only[zn,Act.put]
    refine tkr 7 (fun K hK=>?_)
    go_simp
    have tb:=HB.out.alloc HB.out.size (.cells #[.slice none 0 0,.slice none 0 0,.slice none 0 0,.int .i64 0] 96)
    have t6:=zB qA_ (.cells #[.slice none 0 0,.slice none 0 0,.slice none 0 0,.int .i64 0] 96)
    have tO:=OU.out.below (zD qA_ (.cells #[.slice none 0 0,.slice none 0 0,.slice none 0 0,.int .i64 0] 96))
    refine hK.out _ _ ?_ fun zD2=>?_;exact tb;clear hK K;try simp only[zn,Act.put]
    generalize qA_.alloc (.cells #[.slice none 0 0,.slice none 0 0,.slice none 0 0,.int .i64 0] 96)=qB_ at tb t6 tO zD2⊢
    obtain⟨p8,hp⟩:=zD1 (qA_.heap.size)
    rw[←hp] at t6⊢
    have PLB:Hid (w1.heap.size≤p8):=zD0 (by rw[hp];exact HB.out.size)
    clear HB hp OU
    have HB:=zD0 tb
    have XB:=zD0 t6
    have OU:=zD0 tO
    clear tb t6 tO
    refine tkr 8 (fun K hK=>?_)
    rw[if_pos (by rfl)]
    refine qE 96 (.tmp 8) (.tmp 28) rfl p8 rfl (c':=#[.slice U0 z0 f0,.slice U1 z1 f1,.slice U2 z2 f2,.int .i64 x.near]) rfl XB.out zA2 rfl (by simp[Value.oneCell']) ?_
    have tb:=below_setRow HB.out PLB.out #[.slice U0 z0 f0,.slice U1 z1 f1,.slice U2 z2 f2,.int .i64 x.near]
    have t6:=setRow_heap _ _ _ #[.slice U0 z0 f0,.slice U1 z1 f1,.slice U2 z2 f2,.int .i64 x.near] _ _ XB.out
    have tO:kG (qB_.setRow p8 #[.slice U0 z0 f0,.slice U1 z1 f1,.slice U2 z2 f2,.int .i64 x.near]) w1.heap.size (.slice U0 z0 f0) (.slice U1 z1 f1) (.slice U2 z2 f2) x:=OU.out.offT (qB qB_ p8 #[.slice U0 z0 f0,.slice U1 z1 f1,.slice U2 z2 f2,.int .i64 x.near]) (by decide) (by decide) ⟨_,XB.out⟩
    refine hK.out _ _ ?_ fun zD2=>?_;exact tb;clear hK K;try simp only[zn,Act.put]
    generalize qB_.setRow p8 #[.slice U0 z0 f0,.slice U1 z1 f1,.slice U2 z2 f2,.int .i64 x.near]=qC_ at tb t6 tO zD2⊢
    refine wpAnyH_done (by kernel_rfl) ?_ _
    go_wp2_with fail
    go_meet
    exact⟨p8,U0,f0,U1,f1,U2,f2,rfl,t6,tO,tb⟩
   ·go_simp
    have tb:=HB.out.alloc HB.out.size (.cells #[.slice none 0 0,.slice none 0 0,.slice none 0 0,.int .i64 0] 96)
    have t6:=zB q0_ (.cells #[.slice none 0 0,.slice none 0 0,.slice none 0 0,.int .i64 0] 96)
    refine hK.out _ _ ?_ fun zD2=>?_;exact tb;clear hK K;try simp only[zn,Act.put]
    generalize q0_.alloc (.cells #[.slice none 0 0,.slice none 0 0,.slice none 0 0,.int .i64 0] 96)=qA_ at tb t6 zD2⊢
    obtain⟨p8,hp⟩:=zD1 (q0_.heap.size)
    rw[←hp] at t6⊢
    have PLB:Hid (w1.heap.size≤p8):=zD0 (by rw[hp];exact HB.out.size)
    clear HB hp
    have HB:=zD0 tb
    have XB:=zD0 t6
    clear tb t6
    refine tkr 6 (fun K hK=>?_)
    go_simp
    refine(zDn _ p r kr HKR.out.1 HKR.out.2 qA_ (PI.out (qA_) HB.out) HPM.out (yY HH.out)).mono ?_
    rintro e qB_ ⟨u0,u1,u2,rfl,hu0,b⟩
    rw[←HXV.out] at hu0⊢
    obtain⟨U0,f0,rfl⟩:=hu0.path.slice
    obtain⟨U1,f1,rfl⟩:=hu0.over.slice
    obtain⟨U2,f2,rfl⟩:=hu0.asks.slice
    have hu:=hu0.mono HB.out.size
    clear hu0
    rw[←HZ.out.1,←HZ.out.2.1,←HZ.out.2.2] at hu⊢
    have HB':=zD0 (HB.out.trans (b.mono HB.out.size))
    have OU:Hid (kG qB_ w1.heap.size (.slice U0 z0 f0) (.slice U1 z1 f1) (.slice U2 z2 f2) x):=zD0 hu
    clear hu
    have XBk:=zD0 ((b.block _ (zA XB.out)).trans XB.out)
    clear HB XB
    have HB:=HB'
    have XB:=XBk
    clear HB' b XBk
    try go_wp2_with fail
    refine hK.out _ _ ?_ fun zD2=>?_;exact HB.out;clear hK K;try simp only[zn,Act.put]
    refine tkr 8 (fun K hK=>?_)
    rw[if_pos (by rfl)]
    refine qE 96 (.tmp 8) (.tmp 28) rfl p8 rfl (c':=#[.slice U0 z0 f0,.slice U1 z1 f1,.slice U2 z2 f2,.int .i64 x.near]) rfl XB.out zA2 rfl (by simp[Value.oneCell']) ?_
    have tb:=below_setRow HB.out PLB.out #[.slice U0 z0 f0,.slice U1 z1 f1,.slice U2 z2 f2,.int .i64 x.near]
    have t6:=setRow_heap _ _ _ #[.slice U0 z0 f0,.slice U1 z1 f1,.slice U2 z2 f2,.int .i64 x.near] _ _ XB.out
    have tO:kG (qB_.setRow p8 #[.slice U0 z0 f0,.slice U1 z1 f1,.slice U2 z2 f2,.int .i64 x.near]) w1.heap.size (.slice U0 z0 f0) (.slice U1 z1 f1) (.slice U2 z2 f2) x:=OU.out.offT (qB qB_ p8 #[.slice U0 z0 f0,.slice U1 z1 f1,.slice U2 z2 f2,.int .i64 x.near]) (by decide) (by decide) ⟨_,XB.out⟩
    refine hK.out _ _ ?_ fun zD2=>?_;exact tb;clear hK K;try simp only[zn,Act.put]
    generalize qB_.setRow p8 #[.slice U0 z0 f0,.slice U1 z1 f1,.slice U2 z2 f2,.int .i64 x.near]=qC_ at tb t6 tO zD2⊢
    refine wpAnyH_done (by kernel_rfl) ?_ _
    go_wp2_with fail
    go_meet
    exact⟨p8,U0,f0,U1,f1,U2,f2,rfl,t6,tO,tb⟩
  ·go_simp
   have tb:=HB.out.alloc HB.out.size (.cells #[.slice none 0 0,.slice none 0 0,.slice none 0 0,.int .i64 0] 96)
   have t6:=zB q0_ (.cells #[.slice none 0 0,.slice none 0 0,.slice none 0 0,.int .i64 0] 96)
   refine hK.out _ _ ?_ fun zD2=>?_;exact tb;clear hK K;try simp only[zn,Act.put]
   generalize q0_.alloc (.cells #[.slice none 0 0,.slice none 0 0,.slice none 0 0,.int .i64 0] 96)=qA_ at tb t6 zD2⊢
   obtain⟨p8,hp⟩:=zD1 (q0_.heap.size)
   rw[←hp] at t6⊢
   have PLB:Hid (w1.heap.size≤p8):=zD0 (by rw[hp];exact HB.out.size)
   clear HB hp
   have HB:=zD0 tb
   have XB:=zD0 t6
   clear tb t6
   refine tkr 5 (fun K hK=>?_)
   go_simp
   refine(rrouteat_any _ p.routes r.id qA_ (RI.out (qA_) HB.out)).mono ?_
   rintro e w' ⟨rfl,hw⟩
   rw[hw,HAT.out]
   clear hw w'
   try go_wp2_with fail
   refine hK.out _ _ ?_ fun zD2=>?_;exact HB.out;clear hK K;try simp only[zn,Act.put]
   refine tkr 6 (fun K hK=>?_)
   go_simp
   refine(zDn _ p r kr HKR.out.1 HKR.out.2 qA_ (PI.out (qA_) HB.out) HPM.out (yY HH.out)).mono ?_
   rintro e qB_ ⟨u0,u1,u2,rfl,hu0,b⟩
   rw[←HXV.out] at hu0⊢
   obtain⟨U0,f0,rfl⟩:=hu0.path.slice
   obtain⟨U1,f1,rfl⟩:=hu0.over.slice
   obtain⟨U2,f2,rfl⟩:=hu0.asks.slice
   have hu:=hu0.mono HB.out.size
   clear hu0
   rw[←HZ.out.1,←HZ.out.2.1,←HZ.out.2.2] at hu⊢
   have HB':=zD0 (HB.out.trans (b.mono HB.out.size))
   have OU:Hid (kG qB_ w1.heap.size (.slice U0 z0 f0) (.slice U1 z1 f1) (.slice U2 z2 f2) x):=zD0 hu
   clear hu
   have XBk:=zD0 ((b.block _ (zA XB.out)).trans XB.out)
   clear HB XB
   have HB:=HB'
   have XB:=XBk
   clear HB' b XBk
   try go_wp2_with fail
   refine hK.out _ _ ?_ fun zD2=>?_;exact HB.out;clear hK K;try simp only[zn,Act.put]
   refine tkr 8 (fun K hK=>?_)
   rw[if_pos (by rfl)]
   refine qE 96 (.tmp 8) (.tmp 28) rfl p8 rfl (c':=#[.slice U0 z0 f0,.slice U1 z1 f1,.slice U2 z2 f2,.int .i64 x.near]) rfl XB.out zA2 rfl (by simp[Value.oneCell']) ?_
   have tb:=below_setRow HB.out PLB.out #[.slice U0 z0 f0,.slice U1 z1 f1,.slice U2 z2 f2,.int .i64 x.near]
   have t6:=setRow_heap _ _ _ #[.slice U0 z0 f0,.slice U1 z1 f1,.slice U2 z2 f2,.int .i64 x.near] _ _ XB.out
   have tO:kG (qB_.setRow p8 #[.slice U0 z0 f0,.slice U1 z1 f1,.slice U2 z2 f2,.int .i64 x.near]) w1.heap.size (.slice U0 z0 f0) (.slice U1 z1 f1) (.slice U2 z2 f2) x:=OU.out.offT (qB qB_ p8 #[.slice U0 z0 f0,.slice U1 z1 f1,.slice U2 z2 f2,.int .i64 x.near]) (by decide) (by decide) ⟨_,XB.out⟩
   refine hK.out _ _ ?_ fun zD2=>?_;exact tb;clear hK K;try simp only[zn,Act.put]
   generalize qB_.setRow p8 #[.slice U0 z0 f0,.slice U1 z1 f1,.slice U2 z2 f2,.int .i64 x.near]=qC_ at tb t6 tO zD2⊢
   refine wpAnyH_done (by kernel_rfl) ?_ _
   go_wp2_with fail
   go_meet
   exact⟨p8,U0,f0,U1,f1,U2,f2,rfl,t6,tO,tb⟩
 case rest=>
  obtain⟨p8,U0,f0,U1,f1,U2,f2,rfl,hx8,hwo,hbv⟩:=hcut
  obtain⟨v2,hv2⟩:=zD1 (wc)
  subst hv2
  have X8:=zD0 hx8
  have AS:=zD0 (hwo.asks.in_ jJ)
  have hz9:z2≤9223372036854775807:=by
   obtain⟨_,_,_,_,h1⟩:=AS.out.slice
   unfold maxLen at h1
   have:=HZ.out
   omega
  clear hx8 hwo PI RI
  have tB:=B1.out.trans (hbv.mono B1.out.size)
  have tP:=(hbv.block _ (zA XP1.out)).trans XP1.out
  have tR:=(hbv.block _ (zA XR1.out)).trans XR1.out
  have tO:=(OI.out.below qI hbv).more qI hbv.size
  have tH:=(HI.out.below hbv).more hbv.size
  have tT:=(PT.out.below qI hbv).more qI hbv.size
  clear B1 XP1 XR1 OI HI PT hbv
  have B1:=zD0 tB
  have XP1:=zD0 tP
  have XR1:=zD0 tR
  have OI:=zD0 tO
  have HI:=zD0 tH
  have PT:=zD0 tT
  clear tB tP tR tO tH tT
  go_wp2_with fail
  go_loopw [9] (fun s9 wr=>∃i:Nat,i≤z2∧s9 = .int .i64 i∧(∀a (ha:a<x.asks.length),a<i→∀k (hk:k<a),(x.asks[k]'(by omega)).1≠x.asks[a].1)∧Below v2.heap.size v2 wr) (fun s9 _=>z2-(intOf s9).toNat)
  case atStart=>exact⟨0,by omega,by go_num,fun a ha h=>absurd h (by omega),Below.refl _ _⟩
  case round=>
   obtain⟨i,hi,rfl,hall,hb⟩:=hrel
   have HALL:=zD0 hall
   have BW:=zD0 hb
   clear hall hb
   have X8a:=zD0 ((BW.out.block _ (zA X8.out)).trans X8.out)
   obtain⟨k0,k1,k2,k3⟩:=qC X8a.out
   by_cases hlt:i<z2
   ·have hlt':(i:Int)<z2:=by omega
    have hia:i<x.asks.length:=by have:=HZ.out;omega
    go_wp2_with fail
    clear k0 k1 k2 k3
    go_loopw [10] (fun s10 wy=>∃k:Nat,k≤i∧s10 = .int .i64 k∧(∀m (hm:m<i),m<k→(x.asks[m]'(by omega)).1≠x.asks[i].1)∧Below v2.heap.size v2 wy) (fun s10 _=>i-(intOf s10).toNat)
    case atStart=>exact⟨0,by omega,by go_num,fun m hm h=>absurd h (by omega),BW.out⟩
    case round=>
     obtain⟨wy,hwy⟩:=zD1 (wr)
     subst hwy
     obtain⟨k,hk,rfl,hall,hb⟩:=hrel
     have HK:=zD0 hall
     have BY:=zD0 hb
     clear hall hb
     by_cases hlk:k<i
     ·have hlk':(k:Int)<i:=by omega
      have hkz:(k:Int)<z2:=by omega
      have hka:k<x.asks.length:=by omega
      have X8b:=zD0 ((BY.out.block _ (zA X8.out)).trans X8.out)
      obtain⟨k0,k1,k2,k3⟩:=qC X8b.out
      obtain⟨e1,he1⟩:=zD1 (x.asks[i])
      obtain⟨e2,he2⟩:=zD1 (x.asks[k])
      have HE1:=zD0 he1
      have HE2:=zD0 he2
      obtain⟨bo,oo,e7,-,hg0,-⟩:=(AS.out.below zP BY.out).at hia
      cases e7
      obtain⟨bo',oo',e7,-,hg1,-⟩:=(AS.out.below zP BY.out).at hka
      cases e7
      rw[←he1] at hg0
      rw[←he2] at hg1
      have G0:wy.cell? ⟨bo,oo+i*3,none⟩=some (.int .i64 e1.1):=hg0
      have G1:wy.cell? ⟨bo,oo+k*3,none⟩=some (.int .i64 e2.1):=hg1
      clear hg0 hg1 he1 he2
      have BD:Hid (∀nq,Below wy.heap.size wy (wy.drewN nq)):=zD0 (fun nq=>zBx wy nq)
      go_upto_region 11 with fail
      by_cases he:e2.1=e1.1
      ·have d1:(e2.1==e1.1)=true:=by simpa using he
       have HR:Hid (zA9 p r=false):=zD0 (zCp fun h=>by
        have h1:=h.once
        rw[←HXV.out] at h1
        exact once_not hia (by omega) (by rw[←HE1.out,←HE2.out];exact he) h1)
       clear he
       go_quiet (fail)
       have hdb:=BD.out nq
       generalize wy.drewN nq=v3 at hdb⊢
       have B3:=zD0 (B1.out.trans ((BY.out.trans (hdb.mono BY.out.size)).mono B1.out.size))
       clear hdb BD G0 G1 k0 k1 k2 k3
       go_wp2_with fail
       go_ret
       exact⟨by rw[HR.out];rfl,B3.out⟩
      ·have d1:(e2.1==e1.1)=false:=by simpa using he
       have NX:Hid (∀m (hm:m<i),m<k+1→(x.asks[m]'(by omega)).1≠x.asks[i].1):=zD0 (fun m hm h=>by
        rcases Nat.lt_or_ge m k with h2|h2
        ·exact HK.out m hm h2
        ·obtain rfl:m=k:=by omega
         rw[←HE1.out,←HE2.out];exact he)
       clear he
       go_quiet (fail)
       have hdb:=BD.out nq
       generalize wy.drewN nq=v3 at hdb⊢
       have B3:=zD0 (BY.out.trans (hdb.mono BY.out.size))
       clear hdb BD G0 G1 k0 k1 k2 k3
       go_wp2_with fail
       go_roundw
       case measure=>simp[intOf];omega
       case rel=>exact⟨k+1,by omega,by go_num,NX.out,B3.out⟩
     ·obtain rfl:k=i:=by omega
      have hlk':¬(k:Int)<k:=by omega
      have NX:Hid (∀a (ha:a<x.asks.length),a<k+1→∀m (hm:m<a),(x.asks[m]'(by omega)).1≠x.asks[a].1):=zD0 (fun a ha h m hm=>by
       rcases Nat.lt_or_ge a k with h2|h2
       ·exact HALL.out a ha h2 m hm
       ·obtain rfl:a=k:=by omega
        exact HK.out m hm hm)
      go_wp2_with fail
      go_roundw
      case measure=>simp[intOf];omega
      case rel=>exact⟨k+1,by omega,by go_num,NX.out,BY.out⟩
   ·obtain rfl:i=z2:=by omega
    have hlt':¬(i:Int)<i:=by omega
    have HO:Hid (OnceA (kH p r).asks):=zD0 (by
     rw[←HXV.out]
     exact fun a ha k hk=>HALL.out a ha (by have:=HZ.out;omega) k hk)
    go_wp2_with fail
    clear k0 k1 k2 k3 HALL
    go_loopw [11] (fun s11 wr3=>∃i3:Nat,i3≤l3∧s11 = .int .i64 i3∧(∀a (ha:a<r.path.length),a<i3→(a+1<r.path.length→qJ p.sigs r.path[a] (vQ p r a)=0)∧(a+1=r.path.length→qJ p.sigs r.path[a] (vQ p r a)=r.exit))∧Below v2.heap.size v2 wr3) (fun s11 _=>l3-(intOf s11).toNat)
    case atStart=>exact⟨0,by omega,by go_num,fun a ha h=>absurd h (by omega),BW.out⟩
    case round=>
     obtain⟨wr3,hwr⟩:=zD1 (wr)
     subst hwr
     obtain⟨i3,hi3,rfl,hall,hb⟩:=hrel
     have HA3:=zD0 hall
     have BW3:=zD0 hb
     clear hall hb
     have XR3:=zD0 ((BW3.out.block _ (zA XR1.out)).trans XR1.out)
     have XP3:=zD0 ((BW3.out.block _ (zA XP1.out)).trans XP1.out)
     have HI3:=zD0 ((HI.out.below BW3.out).more BW3.out.size)
     obtain⟨k0,k1,k2,k3,k4,k5,k6⟩:=zL XR3.out
     by_cases hl:i3<l3
     ·have hl':(i3:Int)<l3:=by omega
      have hip:i3<r.path.length:=by have:=HL3.out;omega
      have hil:i3<nl:=by have:=HNL.out;have:=HRI.out.len;omega
      have hil':(i3:Int)<nl:=by omega
      obtain⟨z,hz⟩:=zD1 (r.path[i3])
      obtain⟨X,hX⟩:=zD1 (vQ p r i3)
      obtain⟨sg,hsg⟩:=zD1 (qJ p.sigs z X)
      have HS:=zD0 hsg
      have HSE:Hid (qJ p.sigs r.path[i3] (vQ p r i3)=sg):=zD0 (by rw[hsg,hz,hX])
      obtain⟨bl,ofl,e2,-,hc0⟩:=(PT.out.below qI BW3.out).at hip
      cases e2
      obtain⟨bo,ofo,e3,-,hd0⟩:=(OI.out.below qI BW3.out).at (show i3<(zA6 p r nl).length by rw[kM];exact hil)
      cases e3
      have G0:Hid (wr3.cell? ⟨bl,ofl+i3,none⟩=some (.int .i64 z)):=zD0 (by rw[hz];simpa [jU] using hc0)
      have G1:Hid (wr3.cell? ⟨bo,ofo+i3,none⟩=some (.int .i64 X)):=zD0 (by rw[outsL_at p r hil,←hX] at hd0;simpa [jU] using hd0)
      clear hz hX hsg hc0 hd0
      go_upto_region 16 with fail
      clear k0 k1 k2 k3 k4 k5 k6
      refine wp_region_held_drew (S:=fun v=>Below wr3.heap.size wr3 v) (by kernel_rfl) (Below.refl wr3.heap.size wr3).drew (fun zD2=>?_)
      refine tkc 0 zD2 (fun w' hSw=>zE ((hSw.block _ (zA XP3.out)).trans XP3.out)) ?_;refine tk 1 zD2 ?_;refine tkc 2 zD2 (fun w' hSw=>zL ((hSw.block _ (zA XR3.out)).trans XR3.out)) ?_;refine tk 3 zD2 ?_;refine tk 4 zD2 ?_;refine tkc 5 zD2 (fun w' hSw=>(hSw.cell (zG G0.out)).trans G0.out) ?_;refine tk 6 zD2 ?_;refine tk 7 zD2 ?_;refine tk 8 zD2 ?_;refine tkc 9 zD2 (fun w' hSw=>(hSw.cell (zG G1.out)).trans G1.out) ?_
      refine tkr 10 (fun K hK=>?_)
      go_simp
      refine(rat8_any _ p z X wr3.drew ⟨_,_,_,_,rfl,(HI3.out.below (Below.refl wr3.heap.size wr3).drew).more (Below.refl wr3.heap.size wr3).drew.size⟩).mono ?_
      rintro e v5 ⟨rfl,b⟩
      rw[←HS.out]
      have B5_:Hid (Below wr3.heap.size wr3 v5):=zD0 ((Below.refl wr3.heap.size wr3).drew.trans (b.mono (Below.refl wr3.heap.size wr3).drew.size))
      clear b
      try go_wp2_with fail
      refine hK.out _ _ ?_ fun zD2=>?_;exact B5_.out;clear hK K;try simp only[zn,Act.put]
      refine tk 11 zD2 ?_
      refine wpAnyH_done (by kernel_rfl) ?_ _
      have B5:Hid (Below v2.heap.size v2 v5):=zD0 (BW3.out.trans (B5_.out.mono BW3.out.size))
      have XR5:=zD0 ((B5.out.block _ (zA XR1.out)).trans XR1.out)
      have B6:=zD0 (B1.out.trans (B5.out.mono B1.out.size))
      obtain⟨k0,k1,k2,k3,k4,k5,k6⟩:=zL XR5.out
      have hw1:IntKind.i64.wrap ((l3:Int)-1)=(l3:Int)-1:=kA (by omega) (by omega)
      have NX:Hid ((i3+1<r.path.length→sg=0)→(i3+1=r.path.length→sg=r.exit)→∀a (ha:a<r.path.length),a<i3+1→(a+1<r.path.length→qJ p.sigs r.path[a] (vQ p r a)=0)∧(a+1=r.path.length→qJ p.sigs r.path[a] (vQ p r a)=r.exit)):=zD0 (fun h1 h2 a ha h=>by
       rcases Nat.lt_or_ge a i3 with h3|h3
       ·exact HA3.out a ha h3
       ·obtain rfl:a=i3:=by omega
        rw[HSE.out];exact⟨h1,h2⟩)
      have BAD:Hid (¬((i3+1<r.path.length→sg=0)∧(i3+1=r.path.length→sg=r.exit))→zA9 p r=false):=zD0 (fun h=>zCp fun hs=>h (by
       have h3:=hs.stands i3 hip
       rw[HSE.out] at h3
       exact h3))
      by_cases hla:i3+1=l3
      ·have d2:((i3:Int)==(l3:Int)-1)=true:=by simp;omega
       have d3:¬((i3:Int)<(l3:Int)-1):=by omega
       have e9:i3+1=r.path.length:=by have:=HL3.out;omega
       by_cases hs:sg=r.exit
       ·have d4:(sg != r.exit)=false:=by simpa using hs
        have NN:=zD0 (NX.out (fun h=>absurd h (by omega)) (fun _=>hs))
        clear hs NX BAD hla e9
        by_cases h0:sg=0
        ·have d1:(sg != 0)=false:=by simpa using h0
         clear h0
         go_wp2_with fail
         go_roundw
         case measure=>simp[intOf];omega
         case rel=>exact⟨i3+1,by omega,by go_num,NN.out,B5.out⟩
        ·have d1:(sg != 0)=true:=by simpa using h0
         clear h0
         go_wp2_with fail
         go_roundw
         case measure=>simp[intOf];omega
         case rel=>exact⟨i3+1,by omega,by go_num,NN.out,B5.out⟩
       ·have d4:(sg != r.exit)=true:=by simpa using hs
        have HR:=zD0 (BAD.out (fun h=>hs (h.2 e9)))
        clear hs NX BAD hla e9
        by_cases h0:sg=0
        ·have d1:(sg != 0)=false:=by simpa using h0
         clear h0
         go_wp2_with fail
         go_ret
         exact⟨by rw[HR.out];rfl,B6.out⟩
        ·have d1:(sg != 0)=true:=by simpa using h0
         clear h0
         go_wp2_with fail
         go_ret
         exact⟨by rw[HR.out];rfl,B6.out⟩
      ·have d2:((i3:Int)==(l3:Int)-1)=false:=by simp;omega
       have d3:(i3:Int)<(l3:Int)-1:=by omega
       have e9:i3+1<r.path.length:=by have:=HL3.out;omega
       by_cases h0:sg=0
       ·have d1:(sg != 0)=false:=by simpa using h0
        have NN:=zD0 (NX.out (fun _=>h0) (fun h=>absurd h (by omega)))
        clear h0 NX BAD hla e9
        go_wp2_with fail
        go_roundw
        case measure=>simp[intOf];omega
        case rel=>exact⟨i3+1,by omega,by go_num,NN.out,B5.out⟩
       ·have d1:(sg != 0)=true:=by simpa using h0
        have HR:=zD0 (BAD.out (fun h=>h0 (h.1 e9)))
        clear h0 NX BAD hla e9
        go_wp2_with fail
        go_ret
        exact⟨by rw[HR.out];rfl,B6.out⟩
     ·obtain rfl:i3=l3:=by omega
      have hl':¬(i3:Int)<i3:=by omega
      have HR:Hid (zA9 p r=true):=zD0 (soundB_true ⟨HH.out,HO.out,fun a ha=>HA3.out a ha (by have:=HL3.out;omega)⟩)
      go_wp2_with fail
      go_ret
      exact⟨by rw[HR.out];rfl,B1.out.trans (BW3.out.mono B1.out.size)⟩
set_option maxHeartbeats 8000000 in
theorem rmay10_any (v:Value) (p:Pl) (w:World) (h:qF w w.heap.size v p):
  Calls Tryz.prog 23 #[v] w fun e w'=>e = .returned (.bool (vX p))∧Below w.heap.size w w':=by
 obtain⟨A2,c2,A3,c3,A4,c4,A5,c5,n2,n3,n4,n5,rfl,hm2,hm3,hm4,hm5,HCP,HIN,HN⟩:=kD h
 have hq0:=zB w (.cells #[.int .i64 p.ver,.int .i64 p.par,.slice A2 n2 c2,.slice A3 n3 c3,.slice A4 n4 c4,.slice A5 n5 c5] 27)
 have hqb:=zD w (.cells #[.int .i64 p.ver,.int .i64 p.par,.slice A2 n2 c2,.slice A3 n3 c3,.slice A4 n4 c4,.slice A5 n5 c5] 27)
 go_enter Tryz.func23,Tryz.ntmps23
 go_upto_region 1 with fail
 generalize w.alloc (.cells #[.int .i64 p.ver,.int .i64 p.par,.slice A2 n2 c2,.slice A3 n3 c3,.slice A4 n4 c4,.slice A5 n5 c5] 27)=q at hq0 hqb⊢
 have XP:=zD0 hq0
 have BQ:=zD0 hqb
 clear hq0 hqb
 obtain⟨k0,k1,k2,k3,k4,k5⟩:=zE XP.out
 go_wp2_with fail
 refine(rmay8_any _ p q ⟨_,_,_,_,rfl,(HIN.out.below BQ.out).more BQ.out.size⟩).mono ?_
 rintro e w1 ⟨rfl,b1⟩
 have XP1:=zD0 ((b1.block _ (zA XP.out)).trans XP.out)
 have B1:=zD0 (BQ.out.trans (b1.mono BQ.out.size))
 have HI:=zD0 ((HIN.out.below B1.out).more B1.out.size)
 clear b1 k0 k1 k2 k3 k4 k5 XP BQ HIN
 cases hpm:xW p with
 | false=>
  have HB:Hid (vX p=false):=zD0 (vR fun h=>by rw[zAi h.may] at hpm;cases hpm)
  clear hpm
  go_wp2_with fail
  go_ret
  exact⟨by rw[HB.out];rfl,B1.out⟩
 | true=>
 have HPM:=zD0 (zDb.1 hpm)
 clear hpm
 go_wp2_with fail
 go_loopw [3] (fun s3 wr=>∃i:Nat,i≤n5∧s3 = .int .i64 i∧(∀m (hm:m<p.routes.length),m<i→Sound p p.routes[m])∧Below w1.heap.size w1 wr) (fun s3 _=>n5-(intOf s3).toNat)
 case atStart=>exact⟨0,by omega,by go_num,fun m hm h=>absurd h (by omega),Below.refl _ _⟩
 case round=>
  obtain⟨i,hi,rfl,hall,hb⟩:=hrel
  have HALL:=zD0 hall
  have BW:=zD0 hb
  clear hall hb
  have XPw:=zD0 ((BW.out.block _ (zA XP1.out)).trans XP1.out)
  have HIw:=zD0 ((HI.out.below BW.out).more BW.out.size)
  obtain⟨k0,k1,k2,k3,k4,k5⟩:=zE XPw.out
  by_cases hlt:i<n5
  ·have hlt':(i:Int)<n5:=by omega
   have hir:i<p.routes.length:=by have:=HN.out;omega
   obtain⟨bk,off,e5,-,hc0,hc1,hc2,hc6,u3,u4,u5,hc3,hc4,hc5,hri⟩:=(HIw.out.routes).at hir
   cases e5
   obtain⟨r,hr⟩:=zD1 (p.routes[i])
   rw[←hr] at hc0 hc1 hc2 hc6 hri
   obtain⟨D3,d3,rfl⟩:∃A c,u3 = .slice A r.path.length c:=by
    obtain⟨A,c,e,-⟩:=hri.path.slice
    exact⟨A,c,e⟩
   obtain⟨D4,d4,rfl⟩:∃A c,u4 = .slice A r.over.length c:=by
    obtain⟨A,c,e,-⟩:=hri.over.slice
    exact⟨A,c,e⟩
   obtain⟨D5,d5,rfl⟩:∃A c,u5 = .slice A r.flanks.length c:=by
    obtain⟨A,c,e,-⟩:=hri.flanks.slice
    exact⟨A,c,e⟩
   obtain⟨l3,hl3⟩:=zD1 (r.path.length)
   obtain⟨l4,hl4⟩:=zD1 (r.over.length)
   obtain⟨l5,hl5⟩:=zD1 (r.flanks.length)
   have RV:Hid (vS wr wr.heap.size (.agg #[.int .i64 r.id,.int .i64 r.entry,.int .i64 r.exit,.slice D3 l3 d3,.slice D4 l4 d4,.slice D5 l5 d5,.int .i64 r.timer]) r):=zD0 ⟨_,_,_,rfl,by rw[hl3,hl4,hl5];exact hri⟩
   rw[←hl3] at hc3
   rw[←hl4] at hc4
   rw[←hl5] at hc5
   have G0:Hid (wr.cell? ⟨bk,off+i*7,none⟩=some (.int .i64 r.id)):=zD0 hc0
   have G1:Hid (wr.cell? ⟨bk,off+i*7+1,none⟩=some (.int .i64 r.entry)):=zD0 hc1
   have G2:Hid (wr.cell? ⟨bk,off+i*7+2,none⟩=some (.int .i64 r.exit)):=zD0 hc2
   have G3:Hid (wr.cell? ⟨bk,off+i*7+3,none⟩=some (.slice D3 l3 d3)):=zD0 hc3
   have G4:Hid (wr.cell? ⟨bk,off+i*7+4,none⟩=some (.slice D4 l4 d4)):=zD0 hc4
   have G5:Hid (wr.cell? ⟨bk,off+i*7+5,none⟩=some (.slice D5 l5 d5)):=zD0 hc5
   have G6:Hid (wr.cell? ⟨bk,off+i*7+6,none⟩=some (.int .i64 r.timer)):=zD0 hc6
   have HR:=zD0 hr.symm
   clear hc0 hc1 hc2 hc3 hc4 hc5 hc6 hri hr hl3 hl4 hl5
   have HIR:=zD0 hir
   obtain⟨S,hS⟩:=zD1 (zA9 p r)
   have HSB:=zD0 hS
   clear hS
   go_upto_region 6 with fail
   clear k0 k1 k2 k3 k4 k5
   refine wp_region_held_drew (S:=fun v=>Below wr.heap.size wr v) (by kernel_rfl) (Below.refl wr.heap.size wr).drew (fun zD2=>?_)
   refine tkc 0 zD2 (fun w' hSw=>zE ((hSw.block _ (zA XPw.out)).trans XPw.out)) ?_;refine tk 1 zD2 ?_;refine tkc 2 zD2 (fun w' hSw=>zE ((hSw.block _ (zA XPw.out)).trans XPw.out)) ?_;refine tk 3 zD2 ?_;refine tk 4 zD2 ?_
   refine wpAnyH_take (i:=5) (v:=?_) rfl (by kernel_rfl) (by kernel_rfl) (by kernel_rfl) (fun _ _ _ h=>h) (Or.inl ⟨by rfl,?_⟩) zD2 ?_
   rotate_left
   ·intro w' hSw;have cg0:=(hSw.cell (zG G0.out)).trans G0.out;have cg1:=(hSw.cell (zG G1.out)).trans G1.out;have cg2:=(hSw.cell (zG G2.out)).trans G2.out;have cg3:=(hSw.cell (zG G3.out)).trans G3.out;have cg4:=(hSw.cell (zG G4.out)).trans G4.out;have cg5:=(hSw.cell (zG G5.out)).trans G5.out;have cg6:=(hSw.cell (zG G6.out)).trans G6.out;go_simp;try with_reducible rfl
   simp only[zn,Act.put]
   refine tkr 6 (fun K hK=>?_)
   go_simp
   refine(rsound_any _ _ p r i HIR.out HR.out wr.drew ⟨_,_,_,_,rfl,(HIw.out.below (Below.refl wr.heap.size wr).drew).more (Below.refl wr.heap.size wr).drew.size⟩ ((RV.out.below (Below.refl wr.heap.size wr).drew).more (Below.refl wr.heap.size wr).drew.size) HPM.out).mono ?_
   rintro e v5 ⟨rfl,b⟩
   rw[←HSB.out]
   have B5:Hid (Below wr.heap.size wr v5):=zD0 (((Below.refl wr.heap.size wr).drew).trans (b.mono ((Below.refl wr.heap.size wr).drew).size))
   clear b
   try go_wp2_with fail
   refine hK.out _ _ ?_ fun zD2=>?_;exact B5.out;clear hK K;try simp only[zn,Act.put]
   refine tk 7 zD2 ?_
   refine wpAnyH_done (by kernel_rfl) ?_ _
   have B6:=zD0 (BW.out.trans (B5.out.mono BW.out.size))
   clear B5
   cases S with
   | false=>
    have HB:Hid (vX p=false):=zD0 (vR fun h=>by
     have h1:=h.each i HIR.out
     rw[HR.out] at h1
     rw[soundB_true h1] at HSB
     exact absurd HSB.out (by simp))
    go_wp2_with fail
    go_ret
    exact⟨by rw[HB.out];rfl,B1.out.trans (B6.out.mono B1.out.size)⟩
   | true=>
    have NX:Hid (∀m (hm:m<p.routes.length),m<i+1→Sound p p.routes[m]):=zD0 (fun m hm h=>by
     rcases Nat.lt_or_ge m i with h2|h2
     ·exact HALL.out m hm h2
     ·obtain rfl:m=i:=by omega
      rw[HR.out];exact soundB_iff.1 HSB.out.symm)
    go_wp2_with fail
    go_roundw
    case measure=>simp[intOf];omega
    case rel=>exact⟨i+1,by omega,by go_num,NX.out,B6.out⟩
  ·obtain rfl:i=n5:=by omega
   have hlt':¬(i:Int)<i:=by omega
   have HB:Hid (vX p=true):=zD0 (kW ⟨HPM.out,fun m hm=>HALL.out m hm (by have:=HN.out;omega)⟩)
   go_wp2_with fail
   go_ret
   exact⟨by rw[HB.out];rfl,B1.out.trans (BW.out.mono B1.out.size)⟩
end Go.Proofs.YtemmgmjhomgbbaaGreat
