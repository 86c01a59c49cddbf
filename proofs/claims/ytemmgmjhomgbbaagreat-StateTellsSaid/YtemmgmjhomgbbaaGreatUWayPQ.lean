/-
 The program's package way: All.
 Conditions: none.
-/
import Derived.Test.YtemmgmjhomgbbaaGreatUWayPK
import Derived.Test.YtemmgmjhomgbbaaGreatUGWayPL
import Derived.Test.YtemmgmjhomgbbaaGreatUGWayAllM
set_option linter.unusedVariables false
set_option linter.unusedSimpArgs false
set_option maxRecDepth 100000
namespace Go.Proofs.YtemmgmjhomgbbaaGreat
open Go.RowKit
theorem yW {W W':World} {base n sz:Nat} {T T':TypeId} {v:Value} {ys:List Value} {k:Nat} {cs:Array Value} (ho:W.ownsRow base T sz v n ys) (hg:W.grownBy W' v.ownBlock) (hT:T≠T') (hx:W.heap[k]? = some (.cells cs T' (0,0))):W'.heap[k]? = some (.cells cs T' (0,0)):=by
 rw[hg.block k (zA hx) (fun e=>?_)]
 ·exact hx
 ·obtain⟨c1,h1,_⟩:=jR ho (g:=k) (by first|exact e|exact e.symm)
  rw[hx] at h1
  injection h1 with h1
  injection h1 with _ e2
  exact hT e2.symm
theorem zCn {W:World} {k:Nat} {T:TypeId} {cs:Array Value} (h:W.heap[k]? = some (.cells cs T (0,0))):∀(j:Nat) (u:Value),cs.toList[j]? = some u→W.cell? ⟨k,j,none⟩=some u:=fun j u hj=>by
 rw[cell_of_row _ _ j _ _ _ h];simpa using hj
set_option maxHeartbeats 16000000 in
theorem pall_any (v:Value) (p:Pl) (w:World) (h:qF w w.heap.size v p):
  Calls Tryz.prog 44 #[v] w fun e w'=>∃u1 u2,e = .returned (.tuple #[u1,u2,.int .i64 (allE p)])∧zB0 w' w.heap.size u1 (allW p)∧JssOwn w' w.heap.size u2 (allL p)∧Below w.heap.size w w':=by
 obtain⟨v2,v3,v4,v5,rfl,hin⟩:=h
 have HIN:=zD0 hin
 obtain⟨A2,c2,rfl,-,-⟩:=hin.secs.slice
 obtain⟨A3,c3,rfl,-,-⟩:=hin.pts.slice
 obtain⟨A4,c4,rfl,-,-⟩:=hin.sigs.slice
 obtain⟨A5,c5,rfl,-,-⟩:=hin.routes.slice
 obtain⟨n2,hn2⟩:=zD1 (p.secs.length)
 obtain⟨n3,hn3⟩:=zD1 (p.pts.length)
 obtain⟨n4,hn4⟩:=zD1 (p.sigs.length)
 obtain⟨n5,hn5⟩:=zD1 (p.routes.length)
 have HPV:Hid (PlIn w w.heap.size (.slice A2 n2 c2) (.slice A3 n3 c3) (.slice A4 n4 c4) (.slice A5 n5 c5) p):=zD0 (by rw[hn2,hn3,hn4,hn5];exact HIN.out)
 rw[←hn2,←hn3,←hn4,←hn5]
 clear hn2 hn3 hn4 hn5 hin HIN
 obtain⟨i0,hi,hz0,hz1,hz2⟩:=info_parts infoWayF
 have I0:=zD0 hi
 have I1:=zD0 hz0
 have I2:=zD0 hz1
 have I3:=zD0 hz2
 clear hi hz0 hz1 hz2
 obtain⟨j0_,hi,hz0,hz1,hz2⟩:=info_parts infoJsF
 have K0:=zD0 hi
 have K1:=zD0 hz0
 have K2:=zD0 hz1
 have K3:=zD0 hz2
 clear hi hz0 hz1 hz2
 have hq0:=zB w (.cells #[.int .i64 p.ver,.int .i64 p.par,.slice A2 n2 c2,.slice A3 n3 c3,.slice A4 n4 c4,.slice A5 n5 c5] 27)
 have hqb:=zD w (.cells #[.int .i64 p.ver,.int .i64 p.par,.slice A2 n2 c2,.slice A3 n3 c3,.slice A4 n4 c4,.slice A5 n5 c5] 27)
 go_enter Tryz.func44,Tryz.ntmps44
 go_upto_region 1 with fail
 generalize w.alloc (.cells #[.int .i64 p.ver,.int .i64 p.par,.slice A2 n2 c2,.slice A3 n3 c3,.slice A4 n4 c4,.slice A5 n5 c5] 27)=q at hq0 hqb⊢
 have XP:=zD0 hq0
 have BQ:=zD0 hqb
 clear hq0 hqb
 obtain⟨k0,k1,k2,k3,k4,k5⟩:=zE XP.out
 go_wp2_with fail
 refine(planSaid.check _ p q ⟨_,_,_,_,rfl,(HPV.out.below BQ.out).more BQ.out.size⟩).mono ?_
 rintro e w1 ⟨rfl,b1⟩
 have X1:=zD0 ((b1.block _ (zA XP.out)).trans XP.out)
 have B1:=zD0 (BQ.out.trans (b1.mono BQ.out.size))
 clear b1 k0 k1 k2 k3 k4 k5
 obtain⟨E0,hE0⟩:=zD1 (chk8 p)
 rw[←hE0]
 cases hpm:xW p with
 | false=>
  obtain rfl:E0=8:=by rw[hE0,chk8,hpm];rfl
  have AE:Hid (allE p=8):=zD0 (all_not hpm)
  have AC:=zD0 (zBe p)
  clear hpm hE0
  go_wp2_with fail
  go_ret3
  refine⟨_,_,by rw[AE.out];rfl,?_,?_,B1.out⟩
  ·rcases AC.out with⟨h,-⟩|⟨-,h,-⟩
   ·rw[AE.out] at h;omega
   ·rw[h];exact zJ.nil_
  ·rcases AC.out with⟨h,-⟩|⟨-,-,h⟩
   ·rw[AE.out] at h;omega
   ·rw[h];exact zJ.nil_
 | true=>
 obtain rfl:E0=0:=by rw[hE0,chk8,hpm];rfl
 have HPM:=zD0 (zDb.1 hpm)
 have HN5:Hid (n5=p.routes.length):=zD0 (by
  obtain⟨A_,c_,e_,-⟩:=HPV.out.routes
  cases e_;rfl)
 have HM:Hid (n5≤16):=zD0 (by rw[HN5.out];exact HPM.out.n)
 clear hpm hE0
 have HI:=zD0 ((HPV.out.below B1.out).more B1.out.size)
 have hm5:n5≤9223372036854775807:=by have:=HM.out;omega
 obtain⟨k0,k1,k2,k3,k4,k5⟩:=zE X1.out
 go_wp2_with fail
 clear k0 k1 k2 k3 k4 k5
 go_loopw [2,3,16] (fun s2 s3 s16 wr=>∃(i:Nat) (sa sb:Value),i≤n5∧s16 = .int .i64 i∧sa=s2∧sb=s3∧zB0 wr w1.heap.size sa ((p.routes.map (kH p)).take i)∧JssOwn wr w1.heap.size sb ((p.routes.map (zA5 p)).take i)∧(∀k (hk:k<p.routes.length),k<i→kK p p.routes[k])∧Below w1.heap.size w1 wr) (fun _ _ s16 _=>n5-(intOf s16).toNat)
 case atStart=>exact⟨0,_,_,by omega,by go_num,rfl,rfl,zJ.nil_,zJ.nil_,fun k _ h=>absurd h (by omega),Below.refl _ _⟩
 case round=>
  obtain⟨i,sa,sb,hi,rfl,rfl,rfl,hw5,hj6,hgd,hb⟩:=hrel
  have W5:=zD0 hw5
  have J6:=zD0 hj6
  have GD:=zD0 hgd
  have BW:=zD0 hb
  clear hw5 hj6 hgd hb
  by_cases hlt:i<n5
  ·have hlt':(i:Int)<n5:=by omega
   have hil:i<p.routes.length:=by have:=HN5.out;omega
   have HI16:Hid (i<16):=zD0 (by have:=HM.out;omega)
   have HIr:=zD0 ((HI.out.below BW.out).more BW.out.size)
   have XR:=zD0 ((BW.out.block _ (zA X1.out)).trans X1.out)
   obtain⟨br,ofr,rfl,hbr,g0,g1,g2,g6,y3,y4,y5,g3,g4,g5,hrv⟩:=HIr.out.routes.at hil
   obtain⟨r,hr⟩:=zD1 (p.routes[i])
   rw[←hr] at g0 g1 g2 g6 hrv
   have HRQ:Hid (∀h:i<p.routes.length,p.routes[i]=r):=zD0 fun _=>hr.symm
   have HRI:Hid (qW p r):=zD0 (jO HPM.out hil hr.symm)
   obtain⟨D3,g3_,rfl,-,-⟩:=hrv.path.slice
   obtain⟨D4,g4_,rfl,-,-⟩:=hrv.over.slice
   obtain⟨D5,g5_,rfl,-,-⟩:=hrv.flanks.slice
   obtain⟨l3,hl3⟩:=zD1 (r.path.length)
   obtain⟨l4,hl4⟩:=zD1 (r.over.length)
   obtain⟨l5,hl5⟩:=zD1 (r.flanks.length)
   rw[←hl3] at g3 hrv
   rw[←hl4] at g4 hrv
   rw[←hl5] at g5 hrv
   have hr0:wr.cell? ⟨br,ofr+i*7,none⟩=some (.int .i64 r.id):=g0
   have hr1:wr.cell? ⟨br,ofr+i*7+1,none⟩=some (.int .i64 r.entry):=g1
   have hr2:wr.cell? ⟨br,ofr+i*7+2,none⟩=some (.int .i64 r.exit):=g2
   have hr3:wr.cell? ⟨br,ofr+i*7+3,none⟩=some (.slice D3 l3 g3_):=g3
   have hr4:wr.cell? ⟨br,ofr+i*7+4,none⟩=some (.slice D4 l4 g4_):=g4
   have hr5:wr.cell? ⟨br,ofr+i*7+5,none⟩=some (.slice D5 l5 g5_):=g5
   have hr6:wr.cell? ⟨br,ofr+i*7+6,none⟩=some (.int .i64 r.timer):=g6
   have HRV:=zD0 hrv
   have XX0:=zB wr (.cells #[.int .i64 0,.int .i64 0,.int .i64 0,.slice none 0 0,.slice none 0 0,.slice none 0 0,.int .i64 0] 64)
   have hz0:=below_setRow (zD wr (.cells #[.int .i64 0,.int .i64 0,.int .i64 0,.slice none 0 0,.slice none 0 0,.slice none 0 0,.int .i64 0] 64)) (Nat.le_refl _) #[.int .i64 r.id,.int .i64 r.entry,.int .i64 r.exit,.slice D3 l3 g3_,.slice D4 l4 g4_,.slice D5 l5 g5_,.int .i64 r.timer]
   have hz1:=setRow_heap (wr.alloc (.cells #[.int .i64 0,.int .i64 0,.int .i64 0,.slice none 0 0,.slice none 0 0,.slice none 0 0,.int .i64 0] 64)) wr.heap.size _ #[.int .i64 r.id,.int .i64 r.entry,.int .i64 r.exit,.slice D3 l3 g3_,.slice D4 l4 g4_,.slice D5 l5 g5_,.int .i64 r.timer] 64 _ XX0
   clear g0 g1 g2 g6 g3 g4 g5 hrv hbr hr hl3 hl4 hl5
   go_upto_region 7 with((with_reducible show wpList _ _ _ (⟨none,_,_,_,_,_⟩::_) _ _);refine zK rfl _ (.tmp 6) (.tmp 19) rfl wr.heap.size rfl (c':=#[.int .i64 r.id,.int .i64 r.entry,.int .i64 r.exit,.slice D3 l3 g3_,.slice D4 l4 g4_,.slice D5 l5 g5_,.int .i64 r.timer]) rfl XX0 zCu rfl (by simp[Value.oneCell']) ?_)
   generalize (wr.alloc (.cells #[.int .i64 0,.int .i64 0,.int .i64 0,.slice none 0 0,.slice none 0 0,.slice none 0 0,.int .i64 0] 64)).setRow wr.heap.size #[.int .i64 r.id,.int .i64 r.entry,.int .i64 r.exit,.slice D3 l3 g3_,.slice D4 l4 g4_,.slice D5 l5 g5_,.int .i64 r.timer]=q1 at hz0 hz1⊢
   obtain⟨p6,hp6⟩:=zD1 (wr.heap.size)
   rw[←hp6] at hz1⊢
   have X6:=zD0 hz1
   have C1:=zD0 hz0
   clear hz0 hz1 XX0 hp6 hr0 hr1 hr2 hr3 hr4 hr5 hr6
   have hz0:=zD q1 (.cells #[.int .i64 0,.int .i64 0,.slice none 0 0,.slice none 0 0,.slice none 0 0,.slice none 0 0,.int .i64 0,.int .i64 0,.int .i64 0,.slice none 0 0,.slice none 0 0,.slice none 0 0,.int .i64 0,.slice none 0 0,.int .i64 0,.int .i64 0,.slice none 0 0,.int .i64 0,.int .i64 0,.slice none 0 0,.slice none 0 0,.slice none 0 0,.int .i64 0,.slice none 0 0] 117)
   have hz1:=zB q1 (.cells #[.int .i64 0,.int .i64 0,.slice none 0 0,.slice none 0 0,.slice none 0 0,.slice none 0 0,.int .i64 0,.int .i64 0,.int .i64 0,.slice none 0 0,.slice none 0 0,.slice none 0 0,.int .i64 0,.slice none 0 0,.int .i64 0,.int .i64 0,.slice none 0 0,.int .i64 0,.int .i64 0,.slice none 0 0,.slice none 0 0,.slice none 0 0,.int .i64 0,.slice none 0 0] 117)
   go_upto_region 8 with fail
   generalize q1.alloc (.cells #[.int .i64 0,.int .i64 0,.slice none 0 0,.slice none 0 0,.slice none 0 0,.slice none 0 0,.int .i64 0,.int .i64 0,.int .i64 0,.slice none 0 0,.slice none 0 0,.slice none 0 0,.int .i64 0,.slice none 0 0,.int .i64 0,.int .i64 0,.slice none 0 0,.int .i64 0,.int .i64 0,.slice none 0 0,.slice none 0 0,.slice none 0 0,.int .i64 0,.slice none 0 0] 117)=q2 at hz0 hz1⊢
   obtain⟨p7,hp7⟩:=zD1 (q1.heap.size)
   rw[←hp7] at hz1⊢
   have X70:=zD0 hz1
   have C2:Hid (Below wr.heap.size wr q2):=zD0 (C1.out.trans (hz0.mono C1.out.size))
   have X62:=zD0 ((hz0.block _ (zA X6.out)).trans X6.out)
   have LQ:Hid (p7<q2.heap.size):=zD0 (zA hz1)
   have L7:Hid (wr.heap.size≤p7):=zD0 (by rw[hp7];exact C1.out.size)
   clear hz0 hz1 hp7
   have XR2:=zD0 ((C2.out.block _ (zA XR.out)).trans XR.out)
   obtain⟨k0,k1,k2,k3,k4,k5⟩:=zE XR2.out
   obtain⟨m0,m1,m2,m3,m4,m5,m6⟩:=zL X62.out
   go_wp2_with fail
   refine(pfollow_any _ _ p r q2 ⟨_,_,_,_,rfl,(HIr.out.below C2.out).more C2.out.size⟩ ⟨_,_,_,rfl,(HRV.out.below C2.out).more C2.out.size⟩ HRI.out).mono ?_
   rintro e w3 ⟨F,a,b,h2,t0,t1,y0,y1,y2,x,o,l,E,rfl,hone,hwy,hjo,hcase,b3⟩
   obtain⟨row,hrow⟩:=zD1 (wkRow F a b h2 t0 t1 y0 y1 y2 x.near o)
   rw[←hrow]
   have HSIZE:Hid (row.size=24):=zD0 (by rw[hrow];rfl)
   have HR1:Hid (row.all (·.oneCell')=true):=zD0 (by rw[hrow];exact hone)
   have INF:Hid ((Tryz.prog.info? 117).map (·.size)=some row.size):=zD0 (by rw[HSIZE.out];exact zAd)
   have hz1:=(b3.block _ (zA X70.out)).trans X70.out
   have hkp:=qB w3 p7 row
   have hjk:kC (w3.setRow p7 row) q2.heap.size o l:=qK zAn hjo hkp (fun k hk=>by have:=jS hjo k hk;have:=LQ.out;omega)
   have hwk:=hwy.kept hkp LQ.out
   have hb4:=below_setRow (C2.out.trans (b3.mono C2.out.size)) L7.out row
   have h7:=setRow_heap w3 p7 _ row 117 _ hz1
   have HZ1:=zD0 hz1
   have HC:=zD0 hcase
   have HROW:=zD0 hrow
   clear hone hwy hjo hcase b3 hz1 hkp k0 k1 k2 k3 k4 k5 m0 m1 m2 m3 m4 m5 m6 hrow
   go_upto_region 9 with((with_reducible show wpList _ _ _ (⟨none,_,_,_,_,_⟩::_) _ _);refine zK rfl _ (.tmp 7) (.tmp 24) rfl p7 rfl (c':=row) rfl HZ1.out INF.out (by rw[HSIZE.out];rfl) HR1.out ?_)
   generalize w3.setRow p7 row=w4 at hjk hwk hb4 h7⊢
   have X7:=zD0 h7
   have C4:=zD0 hb4
   have WO:=zD0 hwk
   have JO:=zD0 hjk
   have BW4:Hid (Below w1.heap.size w1 w4):=zD0 (BW.out.trans (C4.out.mono BW.out.size))
   clear hjk hwk hb4 h7 HZ1
   rcases HC.out with⟨hh,rfl,hxw,hyl⟩|⟨hh,rfl,-,-⟩
   rotate_left
   ·have AE:Hid (allE p=90):=zD0 (all_bad HPM.out hil (by rw[HRQ.out hil];exact hh))
    have AC:=zD0 (zBe p)
    clear hh
    go_wp2_with fail
    go_ret3
    refine⟨_,_,by rw[AE.out];rfl,?_,?_,B1.out.trans (BW4.out.mono B1.out.size)⟩
    ·rcases AC.out with⟨h,-⟩|⟨-,h,-⟩
     ·rw[AE.out] at h;omega
     ·rw[h];exact zJ.nil_
    ·rcases AC.out with⟨h,-⟩|⟨-,-,h⟩
     ·rw[AE.out] at h;omega
     ·rw[h];exact zJ.nil_
   have HH:Hid (kK p p.routes[i]):=zD0 (by rw[HRQ.out hil];exact hh)
   have HXW:Hid (x=kH p p.routes[i]):=zD0 (by rw[HRQ.out hil];exact hxw)
   have HYL:Hid (l=zA5 p p.routes[i]):=zD0 (by rw[HRQ.out hil];exact hyl)
   clear hh hxw hyl HC
   obtain⟨U0,f0,rfl⟩:=WO.out.path.slice
   obtain⟨U1,f1,rfl⟩:=WO.out.over.slice
   obtain⟨U2,f2,rfl⟩:=WO.out.asks.slice
   obtain⟨U,uc,rfl⟩:=JO.out.slice
   obtain⟨z0,hz0⟩:=zD1 (x.path.length)
   obtain⟨z1,hz1⟩:=zD1 (x.over.length)
   obtain⟨z2,hz2⟩:=zD1 (x.asks.length)
   obtain⟨nu,hnu⟩:=zD1 (l.length)
   rw[←hz0,←hz1,←hz2] at WO HROW
   rw[←hnu] at JO HROW
   clear hz0 hz1 hz2 hnu
   have HWC:Hid (∀v:World,v.heap[p7]? = some (.cells row 117 (0,0))→v.cell? ⟨p7,19,none⟩=some (.slice U0 z0 f0)∧v.cell? ⟨p7,20,none⟩=some (.slice U1 z1 f1)∧v.cell? ⟨p7,21,none⟩=some (.slice U2 z2 f2)∧v.cell? ⟨p7,22,none⟩=some (.int .i64 x.near)∧v.cell? ⟨p7,23,none⟩=some (.slice U nu uc)):=zD0 (fun v hv=>by
    refine⟨?_,?_,?_,?_,?_⟩
    ·rw[cell_of_row _ _ 19 _ _ _ hv,HROW.out];rfl
    ·rw[cell_of_row _ _ 20 _ _ _ hv,HROW.out];rfl
    ·rw[cell_of_row _ _ 21 _ _ _ hv,HROW.out];rfl
    ·rw[cell_of_row _ _ 22 _ _ _ hv,HROW.out];rfl
    ·rw[cell_of_row _ _ 23 _ _ _ hv,HROW.out];rfl)
   have P0:Hid (Pend w4 w1.heap.size sa sb ((p.routes.map (kH p)).take i) ((p.routes.map (zA5 p)).take i) (.slice U0 z0 f0) (.slice U1 z1 f1) (.slice U2 z2 f2) (.slice U nu uc) x l):=zD0 (pend_of (b:=0) BW4.out.size (W5.out.below (wayO _) C4.out) (J6.out.below (jsO _) C4.out) (WO.out.mono (Nat.le_trans BW.out.size C2.out.size)) (JO.out.mono (Nat.le_trans BW.out.size C2.out.size)))
   have LW:Hid (((p.routes.map (kH p)).take i).length=i):=zD0 (by rw[List.length_take,List.length_map];omega)
   have LJ:Hid (((p.routes.map (zA5 p)).take i).length=i):=zD0 (by rw[List.length_take,List.length_map];omega)
   clear W5 J6 WO JO HROW
   go_upto_region 11 with fail
   refine wp_region_held_drew (S:=fun v=>Below w1.heap.size w4 v∧v.heap[p7]? = some (.cells row 117 (0,0))) (by kernel_rfl) ⟨(Below.refl w1.heap.size w4).drew,((Below.refl w4.heap.size w4).drew.block _ (zA X7.out)).trans X7.out⟩ (fun zD2=>?_)
   refine tk 0 zD2 ?_;refine tk 1 zD2 ?_;refine tkc 2 zD2 (fun w' hSw=>HWC.out w' hSw.2) ?_;refine tk 5 zD2 ?_;refine tk 6 zD2 ?_;refine tkc 7 zD2 (fun w' hSw=>HWC.out w' hSw.2) ?_
   have tb:=(Below.refl w1.heap.size w4).drew
   have tx:=((Below.refl w4.heap.size w4).drew.block _ (zA X7.out)).trans X7.out
   have tP:=P0.out.below (Below.refl w4.heap.size w4).drew
   generalize w4.drew=V0 at tb tx tP zD2⊢
   have HB:=zD0 tb
   have HX:=zD0 tx
   have HP_:=zD0 tP
   clear tb tx tP P0
   refine wpAnyH_ready (rs:=[3,8]) (by kernel_rfl) (by simp) ?_
   refine AllReadyH.cons rfl (fun K hK=>?_) (AllReadyH.cons rfl (fun K hK=>?_) AllReadyH.nil)
   ·go_simp
    have tb:=HB.out.alloc HP_.out.le (.cells #[.slice U0 z0 f0,.slice U1 z1 f1,.slice U2 z2 f2,.int .i64 x.near] 96)
    have tx:=((zD V0 (.cells #[.slice U0 z0 f0,.slice U1 z1 f1,.slice U2 z2 f2,.int .i64 x.near] 96)).block _ (zA HX.out)).trans HX.out
    have tP:=HP_.out.below (zD V0 (.cells #[.slice U0 z0 f0,.slice U1 z1 f1,.slice U2 z2 f2,.int .i64 x.near] 96))
    have ta:=zB V0 (.cells #[.slice U0 z0 f0,.slice U1 z1 f1,.slice U2 z2 f2,.int .i64 x.near] 96)
    refine hK.out _ _ ?_ fun zD2=>?_;exact⟨tb,tx⟩;clear hK K;try simp only[zn,Act.put]
    generalize V0.alloc (.cells #[.slice U0 z0 f0,.slice U1 z1 f1,.slice U2 z2 f2,.int .i64 x.near] 96)=V1 at tb tx tP ta  zD2⊢
    obtain⟨pa,hp⟩:=zD1 (V0.heap.size)
    rw[←hp] at ta⊢
    have XA:=zD0 ta
    clear ta hp
    clear HB HX HP_
    have HB:=zD0 tb
    have HX:=zD0 tx
    have HP_:=zD0 tP
    clear tb tx tP
    refine wpAnyH_ready (rs:=[4,8]) (by kernel_rfl) (by simp) ?_
    refine AllReadyH.cons rfl (fun K hK=>?_) (AllReadyH.cons rfl (fun K hK=>?_) AllReadyH.nil)
    ·rw[if_pos (by rfl)]
     obtain⟨yss,hown,hyl,-,hys,hyr⟩:=HP_.out.ways
     rw[LW.out] at hown hyl
     have O:=zD0 hown
     have YL:=zD0 hyl
     have YS:=zD0 hys
     have YR:=zD0 hyr
     clear hown hyl hys hyr
     refine qO (.tmp 29) (.tmp 32) _ rfl Tryz.underlying89 I0.out I1.out rfl I2.out (by decide) I3.out (by decide) rfl O.out rfl (m:=1) (news:=[.slice U0 z0 f0,.slice U1 z1 f1,.slice U2 z2 f2,.int .i64 x.near]) rfl (fun h=>by cases h) (fun a ha j u hj=>by cases ha;rw[Addr.add_lit,Nat.zero_add];exact zCn XA.out j u hj) (by simp[Value.oneCell']) (by have:=HI16.out;omega) HP_.out.le ?_
     intro vA V2 hownA hgrowA
     have tP:=HP_.out.snocW LW.out O.out YL.out YS.out (by unfold maxLen;have:=HI16.out;omega) YR.out hownA hgrowA
     have tb:=HB.out.grown hgrowA HP_.out.le (jE O.out)
     have tx:=yW O.out hgrowA (by decide) HX.out
     clear hownA hgrowA O YL YS YR yss
     refine hK.out _ _ ?_ fun zD2=>?_;exact⟨tb,tx⟩;clear hK K;try simp only[zn,Act.put]
     clear HB HX HP_ XA
     have HB:=zD0 tb
     have HX:=zD0 tx
     have HP_:=zD0 tP
     clear tb tx tP
     refine tkr 8 (fun K hK=>?_)
     go_simp
     have tb:=HB.out.alloc HP_.out.le (.cells #[.slice U nu uc] 58)
     have tx:=((zD V2 (.cells #[.slice U nu uc] 58)).block _ (zA HX.out)).trans HX.out
     have tP:=HP_.out.below (zD V2 (.cells #[.slice U nu uc] 58))
     have ta:=zB V2 (.cells #[.slice U nu uc] 58)
     refine hK.out _ _ ?_ fun zD2=>?_;exact⟨tb,tx⟩;clear hK K;try simp only[zn,Act.put]
     generalize V2.alloc (.cells #[.slice U nu uc] 58)=V3 at tb tx tP ta  zD2⊢
     obtain⟨pb,hp⟩:=zD1 (V2.heap.size)
     rw[←hp] at ta⊢
     have XB:=zD0 ta
     clear ta hp
     clear HB HX HP_
     have HB:=zD0 tb
     have HX:=zD0 tx
     have HP_:=zD0 tP
     clear tb tx tP
     refine tkr 9 (fun K hK=>?_)
     rw[if_pos (by rfl)]
     obtain⟨yss,hown,hyl,-,hys,hyr⟩:=HP_.out.jss
     rw[LJ.out] at hown hyl
     have O:=zD0 hown
     have YL:=zD0 hyl
     have YS:=zD0 hys
     have YR:=zD0 hyr
     clear hown hyl hys hyr
     refine qO (.tmp 34) (.tmp 37) _ rfl Tryz.underlying90 K0.out K1.out rfl K2.out (by decide) K3.out (by decide) rfl O.out rfl (m:=1) (news:=[.slice U nu uc]) rfl (fun h=>by cases h) (fun a ha j u hj=>by cases ha;rw[Addr.add_lit,Nat.zero_add];exact zCn XB.out j u hj) (by simp[Value.oneCell']) (by have:=HI16.out;omega) HP_.out.le ?_
     intro vA V4 hownA hgrowA
     have tP:=HP_.out.snocJ LJ.out O.out YL.out YS.out (by unfold maxLen;have:=HI16.out;omega) YR.out hownA hgrowA
     have tb:=HB.out.grown hgrowA HP_.out.le (jE O.out)
     have tx:=yW O.out hgrowA (by decide) HX.out
     clear hownA hgrowA O YL YS YR yss
     refine hK.out _ _ ?_ fun zD2=>?_;exact⟨tb,tx⟩;clear hK K;try simp only[zn,Act.put]
     clear HB HX HP_ XB
     have HB:=zD0 tb
     have HX:=zD0 tx
     have HP_:=zD0 tP
     clear tb tx tP
     refine tk 10 zD2 ?_;refine tk 11 zD2 ?_
     refine wpAnyH_done (by kernel_rfl) ?_ _
     go_wp2_with fail
     go_roundw
     case measure=>simp[intOf];omega
     case rel=>
      refine⟨i+1,_,_,by omega,by go_num,rfl,rfl,?_,?_,fun k hk hki=>?_,BW4.out.trans (HB.out.mono (Nat.le_refl _))⟩
      ·rw[zCh _ _ hil,←HXW.out];exact HP_.out.ways
      ·rw[zCh _ _ hil,←HYL.out];exact HP_.out.jss
      ·rcases Nat.lt_or_ge k i with h|h
       ·exact GD.out k hk h
       ·obtain rfl:k=i:=by omega
        exact HH.out
    ·go_simp
     have tb:=HB.out.alloc HP_.out.le (.cells #[.slice U nu uc] 58)
     have tx:=((zD V1 (.cells #[.slice U nu uc] 58)).block _ (zA HX.out)).trans HX.out
     have tP:=HP_.out.below (zD V1 (.cells #[.slice U nu uc] 58))
     have ta:=zB V1 (.cells #[.slice U nu uc] 58)
     have tXA:=((zD V1 (.cells #[.slice U nu uc] 58)).block _ (zA XA.out)).trans XA.out
     refine hK.out _ _ ?_ fun zD2=>?_;exact⟨tb,tx⟩;clear hK K;try simp only[zn,Act.put]
     generalize V1.alloc (.cells #[.slice U nu uc] 58)=V2 at tb tx tP ta tXA zD2⊢
     obtain⟨pb,hp⟩:=zD1 (V1.heap.size)
     rw[←hp] at ta⊢
     have XB:=zD0 ta
     clear ta hp
     clear HB HX HP_ XA
     have HB:=zD0 tb
     have HX:=zD0 tx
     have HP_:=zD0 tP
     clear tb tx tP
     have XA:=zD0 tXA
     clear tXA
     refine tkr 4 (fun K hK=>?_)
     rw[if_pos (by rfl)]
     obtain⟨yss,hown,hyl,-,hys,hyr⟩:=HP_.out.ways
     rw[LW.out] at hown hyl
     have O:=zD0 hown
     have YL:=zD0 hyl
     have YS:=zD0 hys
     have YR:=zD0 hyr
     clear hown hyl hys hyr
     refine qO (.tmp 29) (.tmp 32) _ rfl Tryz.underlying89 I0.out I1.out rfl I2.out (by decide) I3.out (by decide) rfl O.out rfl (m:=1) (news:=[.slice U0 z0 f0,.slice U1 z1 f1,.slice U2 z2 f2,.int .i64 x.near]) rfl (fun h=>by cases h) (fun a ha j u hj=>by cases ha;rw[Addr.add_lit,Nat.zero_add];exact zCn XA.out j u hj) (by simp[Value.oneCell']) (by have:=HI16.out;omega) HP_.out.le ?_
     intro vA V3 hownA hgrowA
     have tP:=HP_.out.snocW LW.out O.out YL.out YS.out (by unfold maxLen;have:=HI16.out;omega) YR.out hownA hgrowA
     have tb:=HB.out.grown hgrowA HP_.out.le (jE O.out)
     have tx:=yW O.out hgrowA (by decide) HX.out
     have tXB:=yW O.out hgrowA (by decide) XB.out
     clear hownA hgrowA O YL YS YR yss
     refine hK.out _ _ ?_ fun zD2=>?_;exact⟨tb,tx⟩;clear hK K;try simp only[zn,Act.put]
     clear HB HX HP_ XA XB
     have HB:=zD0 tb
     have HX:=zD0 tx
     have HP_:=zD0 tP
     clear tb tx tP
     have XB:=zD0 tXB
     clear tXB
     refine tkr 9 (fun K hK=>?_)
     rw[if_pos (by rfl)]
     obtain⟨yss,hown,hyl,-,hys,hyr⟩:=HP_.out.jss
     rw[LJ.out] at hown hyl
     have O:=zD0 hown
     have YL:=zD0 hyl
     have YS:=zD0 hys
     have YR:=zD0 hyr
     clear hown hyl hys hyr
     refine qO (.tmp 34) (.tmp 37) _ rfl Tryz.underlying90 K0.out K1.out rfl K2.out (by decide) K3.out (by decide) rfl O.out rfl (m:=1) (news:=[.slice U nu uc]) rfl (fun h=>by cases h) (fun a ha j u hj=>by cases ha;rw[Addr.add_lit,Nat.zero_add];exact zCn XB.out j u hj) (by simp[Value.oneCell']) (by have:=HI16.out;omega) HP_.out.le ?_
     intro vA V4 hownA hgrowA
     have tP:=HP_.out.snocJ LJ.out O.out YL.out YS.out (by unfold maxLen;have:=HI16.out;omega) YR.out hownA hgrowA
     have tb:=HB.out.grown hgrowA HP_.out.le (jE O.out)
     have tx:=yW O.out hgrowA (by decide) HX.out
     clear hownA hgrowA O YL YS YR yss
     refine hK.out _ _ ?_ fun zD2=>?_;exact⟨tb,tx⟩;clear hK K;try simp only[zn,Act.put]
     clear HB HX HP_ XB
     have HB:=zD0 tb
     have HX:=zD0 tx
     have HP_:=zD0 tP
     clear tb tx tP
     refine tk 10 zD2 ?_;refine tk 11 zD2 ?_
     refine wpAnyH_done (by kernel_rfl) ?_ _
     go_wp2_with fail
     go_roundw
     case measure=>simp[intOf];omega
     case rel=>
      refine⟨i+1,_,_,by omega,by go_num,rfl,rfl,?_,?_,fun k hk hki=>?_,BW4.out.trans (HB.out.mono (Nat.le_refl _))⟩
      ·rw[zCh _ _ hil,←HXW.out];exact HP_.out.ways
      ·rw[zCh _ _ hil,←HYL.out];exact HP_.out.jss
      ·rcases Nat.lt_or_ge k i with h|h
       ·exact GD.out k hk h
       ·obtain rfl:k=i:=by omega
        exact HH.out
   ·go_simp
    have tb:=HB.out.alloc HP_.out.le (.cells #[.slice U nu uc] 58)
    have tx:=((zD V0 (.cells #[.slice U nu uc] 58)).block _ (zA HX.out)).trans HX.out
    have tP:=HP_.out.below (zD V0 (.cells #[.slice U nu uc] 58))
    have ta:=zB V0 (.cells #[.slice U nu uc] 58)
    refine hK.out _ _ ?_ fun zD2=>?_;exact⟨tb,tx⟩;clear hK K;try simp only[zn,Act.put]
    generalize V0.alloc (.cells #[.slice U nu uc] 58)=V1 at tb tx tP ta  zD2⊢
    obtain⟨pb,hp⟩:=zD1 (V0.heap.size)
    rw[←hp] at ta⊢
    have XB:=zD0 ta
    clear ta hp
    clear HB HX HP_
    have HB:=zD0 tb
    have HX:=zD0 tx
    have HP_:=zD0 tP
    clear tb tx tP
    refine tkr 3 (fun K hK=>?_)
    go_simp
    have tb:=HB.out.alloc HP_.out.le (.cells #[.slice U0 z0 f0,.slice U1 z1 f1,.slice U2 z2 f2,.int .i64 x.near] 96)
    have tx:=((zD V1 (.cells #[.slice U0 z0 f0,.slice U1 z1 f1,.slice U2 z2 f2,.int .i64 x.near] 96)).block _ (zA HX.out)).trans HX.out
    have tP:=HP_.out.below (zD V1 (.cells #[.slice U0 z0 f0,.slice U1 z1 f1,.slice U2 z2 f2,.int .i64 x.near] 96))
    have ta:=zB V1 (.cells #[.slice U0 z0 f0,.slice U1 z1 f1,.slice U2 z2 f2,.int .i64 x.near] 96)
    have tXB:=((zD V1 (.cells #[.slice U0 z0 f0,.slice U1 z1 f1,.slice U2 z2 f2,.int .i64 x.near] 96)).block _ (zA XB.out)).trans XB.out
    refine hK.out _ _ ?_ fun zD2=>?_;exact⟨tb,tx⟩;clear hK K;try simp only[zn,Act.put]
    generalize V1.alloc (.cells #[.slice U0 z0 f0,.slice U1 z1 f1,.slice U2 z2 f2,.int .i64 x.near] 96)=V2 at tb tx tP ta tXB zD2⊢
    obtain⟨pa,hp⟩:=zD1 (V1.heap.size)
    rw[←hp] at ta⊢
    have XA:=zD0 ta
    clear ta hp
    clear HB HX HP_ XB
    have HB:=zD0 tb
    have HX:=zD0 tx
    have HP_:=zD0 tP
    clear tb tx tP
    have XB:=zD0 tXB
    clear tXB
    refine tkr 4 (fun K hK=>?_)
    rw[if_pos (by rfl)]
    obtain⟨yss,hown,hyl,-,hys,hyr⟩:=HP_.out.ways
    rw[LW.out] at hown hyl
    have O:=zD0 hown
    have YL:=zD0 hyl
    have YS:=zD0 hys
    have YR:=zD0 hyr
    clear hown hyl hys hyr
    refine qO (.tmp 29) (.tmp 32) _ rfl Tryz.underlying89 I0.out I1.out rfl I2.out (by decide) I3.out (by decide) rfl O.out rfl (m:=1) (news:=[.slice U0 z0 f0,.slice U1 z1 f1,.slice U2 z2 f2,.int .i64 x.near]) rfl (fun h=>by cases h) (fun a ha j u hj=>by cases ha;rw[Addr.add_lit,Nat.zero_add];exact zCn XA.out j u hj) (by simp[Value.oneCell']) (by have:=HI16.out;omega) HP_.out.le ?_
    intro vA V3 hownA hgrowA
    have tP:=HP_.out.snocW LW.out O.out YL.out YS.out (by unfold maxLen;have:=HI16.out;omega) YR.out hownA hgrowA
    have tb:=HB.out.grown hgrowA HP_.out.le (jE O.out)
    have tx:=yW O.out hgrowA (by decide) HX.out
    have tXB:=yW O.out hgrowA (by decide) XB.out
    clear hownA hgrowA O YL YS YR yss
    refine hK.out _ _ ?_ fun zD2=>?_;exact⟨tb,tx⟩;clear hK K;try simp only[zn,Act.put]
    clear HB HX HP_ XA XB
    have HB:=zD0 tb
    have HX:=zD0 tx
    have HP_:=zD0 tP
    clear tb tx tP
    have XB:=zD0 tXB
    clear tXB
    refine tkr 9 (fun K hK=>?_)
    rw[if_pos (by rfl)]
    obtain⟨yss,hown,hyl,-,hys,hyr⟩:=HP_.out.jss
    rw[LJ.out] at hown hyl
    have O:=zD0 hown
    have YL:=zD0 hyl
    have YS:=zD0 hys
    have YR:=zD0 hyr
    clear hown hyl hys hyr
    refine qO (.tmp 34) (.tmp 37) _ rfl Tryz.underlying90 K0.out K1.out rfl K2.out (by decide) K3.out (by decide) rfl O.out rfl (m:=1) (news:=[.slice U nu uc]) rfl (fun h=>by cases h) (fun a ha j u hj=>by cases ha;rw[Addr.add_lit,Nat.zero_add];exact zCn XB.out j u hj) (by simp[Value.oneCell']) (by have:=HI16.out;omega) HP_.out.le ?_
    intro vA V4 hownA hgrowA
    have tP:=HP_.out.snocJ LJ.out O.out YL.out YS.out (by unfold maxLen;have:=HI16.out;omega) YR.out hownA hgrowA
    have tb:=HB.out.grown hgrowA HP_.out.le (jE O.out)
    have tx:=yW O.out hgrowA (by decide) HX.out
    clear hownA hgrowA O YL YS YR yss
    refine hK.out _ _ ?_ fun zD2=>?_;exact⟨tb,tx⟩;clear hK K;try simp only[zn,Act.put]
    clear HB HX HP_ XB
    have HB:=zD0 tb
    have HX:=zD0 tx
    have HP_:=zD0 tP
    clear tb tx tP
    refine tk 10 zD2 ?_;refine tk 11 zD2 ?_
    refine wpAnyH_done (by kernel_rfl) ?_ _
    go_wp2_with fail
    go_roundw
    case measure=>simp[intOf];omega
    case rel=>
     refine⟨i+1,_,_,by omega,by go_num,rfl,rfl,?_,?_,fun k hk hki=>?_,BW4.out.trans (HB.out.mono (Nat.le_refl _))⟩
     ·rw[zCh _ _ hil,←HXW.out];exact HP_.out.ways
     ·rw[zCh _ _ hil,←HYL.out];exact HP_.out.jss
     ·rcases Nat.lt_or_ge k i with h|h
      ·exact GD.out k hk h
      ·obtain rfl:k=i:=by omega
       exact HH.out
  ·have hlt':¬((i:Int)<n5):=by omega
   have hin:i=p.routes.length:=by have:=HN5.out;omega
   have AE:Hid (allE p=0):=zD0 (all_good HPM.out fun k hk=>GD.out k hk (by omega))
   have AC:=zD0 (zBe p)
   have HWS:Hid (zB0 wr w1.heap.size sa (p.routes.map (kH p))):=zD0 (by have h:=W5.out;rw[List.take_of_length_le (by rw[List.length_map];omega)] at h;exact h)
   have HJS:Hid (JssOwn wr w1.heap.size sb (p.routes.map (zA5 p))):=zD0 (by have h:=J6.out;rw[List.take_of_length_le (by rw[List.length_map];omega)] at h;exact h)
   clear hin W5 J6
   go_wp2_with fail
   go_ret3
   rcases AC.out with⟨-,-,h1,h2⟩|⟨h,-⟩
   ·exact⟨_,_,by rw[AE.out];rfl,by rw[h1];exact ways_mono HWS.out B1.out.size,by rw[h2];exact jss_mono HJS.out B1.out.size,B1.out.trans (BW.out.mono B1.out.size)⟩
   ·exact absurd AE.out h
end Go.Proofs.YtemmgmjhomgbbaaGreat
