/-
 The document's own function of package way: Made.
 Conditions: none.
-/
import Derived.Test.YtemmgmjhomgbbaaGreatUGWayRefD
import Derived.Test.YtemmgmjhomgbbaaGreatUGPlnRefD
import Derived.Test.YtemmgmjhomgbbaaGreatUGWayM
import Derived.BigQuiet
set_option linter.unusedVariables false
set_option linter.unusedSimpArgs false
set_option maxRecDepth 100000
namespace Go.Proofs.YtemmgmjhomgbbaaGreat
open Go.RowKit
def WyBox (W:World) (pz:Nat) (row:Array Value):Prop:=W.heap[pz]? = some (.cells row 96 (0,0))
set_option maxHeartbeats 16000000 in
theorem zDn (v:Value) (p:Pl) (r:Rt) (kr:Nat) (hkr:kr<p.routes.length) (hr:p.routes[kr]=r) (w:World) (h:qF w w.heap.size v p) (hm:xU p) (hg:zA8 p r=true):
  Calls Tryz.prog 66 #[v,.int .i64 kr] w fun e w'=>∃u0 u1 u2,e = .returned (.agg #[u0,u1,u2,.int .i64 (kH p r).near])∧kG w' w.heap.size u0 u1 u2 (kH p r)∧Below w.heap.size w w':=by
 have HRI:Hid (qW p r):=zD0 (jO hm hkr hr)
 have HG:=zD0 hg
 clear hm hg
 obtain⟨A2,c2,A3,c3,A4,c4,A5,c5,n2,n3,n4,n5,rfl,hm2,hm3,hm4,hm5,HCP,HIN,HN⟩:=kD h
 have hq:=zV w (.cells #[.int .i64 p.ver,.int .i64 p.par,.slice A2 n2 c2,.slice A3 n3 c3,.slice A4 n4 c4,.slice A5 n5 c5] 27) (.cells #[.slice none 0 0,.slice none 0 0,.slice none 0 0,.int .i64 0] 96)
 go_enter Tryz.func66,Tryz.ntmps66
 go_upto_region 1 with fail
 generalize (w.alloc (.cells #[.int .i64 p.ver,.int .i64 p.par,.slice A2 n2 c2,.slice A3 n3 c3,.slice A4 n4 c4,.slice A5 n5 c5] 27)).alloc (.cells #[.slice none 0 0,.slice none 0 0,.slice none 0 0,.int .i64 0] 96)=q at hq⊢
 obtain⟨q0,q1,qb⟩:=hq
 have XP:=zD0 q0
 have X4:=zD0 q1
 have BQ:=zD0 qb
 clear q0 q1 qb
 have HI:=zD0 ((HIN.out.below BQ.out).more BQ.out.size)
 have hkr':(kr:Int)<n5:=by have:=HN.out;omega
 obtain⟨br,ofr,rfl,hbr,g0,g1,g2,g6,y3,y4,y5,g3,g4,g5,hrv⟩:=HI.out.routes.at hkr
 rw[hr] at g0 g1 g2 g6 hrv
 have hr0:q.cell? ⟨br,ofr+kr*7,none⟩=some (.int .i64 r.id):=g0
 have hr1:q.cell? ⟨br,ofr+kr*7+1,none⟩=some (.int .i64 r.entry):=g1
 have hr2:q.cell? ⟨br,ofr+kr*7+2,none⟩=some (.int .i64 r.exit):=g2
 have hr3:q.cell? ⟨br,ofr+kr*7+3,none⟩=some y3:=g3
 have hr4:q.cell? ⟨br,ofr+kr*7+4,none⟩=some y4:=g4
 have hr5:q.cell? ⟨br,ofr+kr*7+5,none⟩=some y5:=g5
 have hr6:q.cell? ⟨br,ofr+kr*7+6,none⟩=some (.int .i64 r.timer):=g6
 have HRV:=zD0 hrv
 clear g0 g1 g2 g6 g3 g4 g5 hrv hbr hkr hr
 obtain⟨k0,k1,k2,k3,k4,k5⟩:=zE XP.out
 go_wp2_with fail
 refine(rtwinroute_any _ r q ⟨_,_,_,rfl,HRV.out⟩ (by have:=HRI.out.len;omega) (by have:=HRI.out.len;omega) (by have:=HRI.out.route.flank;omega)).mono ?_
 rintro e w1 ⟨u3,u4,u5,rfl,hu,b1⟩
 obtain⟨D3,f3,rfl⟩:=hu.path.slice
 obtain⟨D4,f4,rfl⟩:=hu.over.slice
 obtain⟨D5,f5,rfl⟩:=hu.flanks.slice
 obtain⟨l3,hl3⟩:=zD1 (r.path.length)
 obtain⟨l4,hl4⟩:=zD1 (r.over.length)
 obtain⟨l5,hl5⟩:=zD1 (r.flanks.length)
 have RO1:Hid (zBz w1 q.heap.size (.slice D3 l3 f3) (.slice D4 l4 f4) (.slice D5 l5 f5) r):=zD0 (by rw[hl3,hl4,hl5];exact hu)
 have HL:Hid (l3=r.path.length∧l4=r.over.length∧l5=r.flanks.length):=zD0 ⟨hl3,hl4,hl5⟩
 rw[←hl3,←hl4,←hl5]
 have B1:=zD0 b1
 clear hl3 hl4 hl5 hu b1 hr0 hr1 hr2 hr3 hr4 hr5 hr6 HRV k0 k1 k2 k3 k4 k5
 have hz0:=below_setRow (zD w1 (.cells #[.int .i64 0,.int .i64 0,.int .i64 0,.slice none 0 0,.slice none 0 0,.slice none 0 0,.int .i64 0] 64)) (Nat.le_refl _) #[.int .i64 r.id,.int .i64 r.entry,.int .i64 r.exit,.slice D3 l3 f3,.slice D4 l4 f4,.slice D5 l5 f5,.int .i64 r.timer]
 have hz1:=setRow_heap (w1.alloc (.cells #[.int .i64 0,.int .i64 0,.int .i64 0,.slice none 0 0,.slice none 0 0,.slice none 0 0,.int .i64 0] 64)) w1.heap.size _ #[.int .i64 r.id,.int .i64 r.entry,.int .i64 r.exit,.slice D3 l3 f3,.slice D4 l4 f4,.slice D5 l5 f5,.int .i64 r.timer] 64 _ (zB _ _)
 have hza:=zB w1 (.cells #[.int .i64 0,.int .i64 0,.int .i64 0,.slice none 0 0,.slice none 0 0,.slice none 0 0,.int .i64 0] 64)
 go_upto_region 2 with((with_reducible show wpList _ _ _ (⟨none,_,_,_,_,_⟩::_) _ _);refine zK rfl _ (.tmp 5) (.tmp 20) rfl w1.heap.size rfl (c':=#[.int .i64 r.id,.int .i64 r.entry,.int .i64 r.exit,.slice D3 l3 f3,.slice D4 l4 f4,.slice D5 l5 f5,.int .i64 r.timer]) rfl hza zCu rfl (by simp[Value.oneCell']) ?_)
 generalize (w1.alloc (.cells #[.int .i64 0,.int .i64 0,.int .i64 0,.slice none 0 0,.slice none 0 0,.slice none 0 0,.int .i64 0] 64)).setRow w1.heap.size #[.int .i64 r.id,.int .i64 r.entry,.int .i64 r.exit,.slice D3 l3 f3,.slice D4 l4 f4,.slice D5 l5 f5,.int .i64 r.timer]=q5 at hz0 hz1⊢
 obtain⟨p5,hp5⟩:=zD1 (w1.heap.size)
 rw[←hp5] at hz1⊢
 have X5:=zD0 hz1
 have BQ5:Hid (Below q.heap.size q q5):=zD0 (B1.out.trans (hz0.mono B1.out.size))
 have RO5:=zD0 (RO1.out.below hz0)
 have XP5:=zD0 ((BQ5.out.block _ (zA XP.out)).trans XP.out)
 have BW5:Hid (Below w.heap.size w q5):=zD0 (BQ.out.trans (BQ5.out.mono BQ.out.size))
 clear hz0 hz1 hza hp5 RO1 B1
 obtain⟨k0,k1,k2,k3,k4,k5⟩:=zE XP5.out
 obtain⟨m0,m1,m2,m3,m4,m5,m6⟩:=zL X5.out
 go_wp2_with fail
 refine(rends_one _ _ p r q5 ⟨_,_,_,_,rfl,(HIN.out.below BW5.out).more BW5.out.size⟩ ⟨_,_,_,rfl,RO5.out.in_⟩ HRI.out).mono ?_
 rintro e wE ⟨bE,uI,uO,rfl,hT⟩
 have T:=zD0 (hT HG.out)
 have XE5:=zD0 ((bE.block _ (zA X5.out)).trans X5.out)
 have ROE:=zD0 (RO5.out.below bE)
 have BQE:Hid (Below q.heap.size q wE):=zD0 (BQ5.out.trans (bE.mono BQ5.out.size))
 clear hT bE k0 k1 k2 k3 k4 k5 m0 m1 m2 m3 m4 m5 m6 X5 XP5 RO5
 rw[HG.out]
 obtain⟨m0,m1,m2,m3,m4,m5,m6⟩:=zL XE5.out
 go_wp2_with fail
 refine(zB8 _ r wE ⟨_,_,_,rfl,ROE.out.in_⟩ (by have:=HRI.out.len;omega) (by have:=HRI.out.len;omega)).mono ?_
 rintro e wS ⟨u',rfl,hu,b9⟩
 obtain⟨AL,cL,rfl⟩:=hu.slice
 obtain⟨nl,hnl⟩:=zD1 ((r.path++r.over).length)
 have HNL:Hid (nl=(zS r).length):=zD0 hnl
 have LI:Hid (xB wS wS.heap.size (.slice AL nl cL) (zS r)):=zD0 (by rw[hnl];exact hu.in_ zZ)
 rw[←hnl]
 have hta:=(T.out.a.below qI b9)
 have htb:=(T.out.b.below qI b9)
 obtain⟨AI,cI,rfl⟩:=hta.slice
 obtain⟨AO,cO,rfl⟩:=htb.slice
 have II:Hid (xB wS wS.heap.size (.slice AI nl cI) (insL p r nl)):=zD0 (by have:=hta.in_ zZ;rw[zCf,←HNL.out] at this;exact this)
 have OI:Hid (xB wS wS.heap.size (.slice AO nl cO) (zA6 p r nl)):=zD0 (by have:=htb.in_ zZ;rw[kM,←HNL.out] at this;exact this)
 rw[zCf,kM,←HNL.out]
 have X5S:=zD0 ((b9.block _ (zA XE5.out)).trans XE5.out)
 have ROS:=zD0 (ROE.out.below b9)
 have BQS:Hid (Below q.heap.size q wS):=zD0 (BQE.out.trans (b9.mono BQE.out.size))
 have XPS:=zD0 ((BQS.out.block _ (zA XP.out)).trans XP.out)
 have BWS:Hid (Below w.heap.size w wS):=zD0 (BQ.out.trans (BQS.out.mono BQ.out.size))
 have hnl8:nl≤8:=by have:=HRI.out.len;have:=HNL.out;omega
 clear hnl hu b9 hta htb T XE5 ROE BQE BQ5 BW5 m0 m1 m2 m3 m4 m5 m6
 have HIS:=zD0 ((HIN.out.below BWS.out).more BWS.out.size)
 obtain⟨kg,hkg,hat1,hsg,-⟩:=HRI.out.entry
 have hkg':(kg:Int)<n4:=by have:=HN.out;omega
 obtain⟨bg,og,rfl,hbg,hd0,hd1,hd2⟩:=HIS.out.sigs.at hkg
 obtain⟨gsec,hgs⟩:=zD1 (p.sigs[kg].2.1)
 rw[←hgs] at hd1
 have HNEAR:Hid (gsec=(kH p r).near):=zD0 (by rw[hgs,kH,hsg])
 have hg1:wS.cell? ⟨bg,og+kg*3+1,none⟩=some (.int .i64 gsec):=hd1
 have XC:Hid (∀W,Below wS.heap.size wS W→Calls Tryz.prog 95 #[.slice (some ⟨bg,og,none⟩) n4 c4,.int .i64 r.entry] W fun e w'=>e = .returned (.int .i64 (kg:Int))∧w'=W):=zD0 (fun W hb=>by
  have:=zA0 _ p.sigs r.entry W ((HIS.out.sigs.below zP hb).more zP hb.size)
  rw[show at1 (fun x=>x.1) p.sigs r.entry=(kg:Int) from hat1] at this
  exact this)
 clear hd0 hd1 hd2 hgs hsg hat1 hkg hbg
 go_upto_region 4 with fail
 go_cut [10] from 30 to 44 (fun s10 wx=>∃pz,s10 = .pointer (some ⟨pz,0,none⟩)∧WyBox wx pz #[.slice D3 l3 f3,.slice D4 l4 f4,.slice none 0 0,.int .i64 gsec]∧wS.heap.size≤pz∧Below wS.heap.size wS wx)
 case first=>
  refine wp_region_held_drew (S:=fun v=>Below wS.heap.size wS v) (by kernel_rfl) (Below.refl wS.heap.size wS).drew (fun zD2=>?_)
  refine tk 0 zD2 ?_;refine tkc 1 zD2 (fun w' hSw=>zL ((hSw.block _ (zA X5S.out)).trans X5S.out)) ?_;refine tk 2 zD2 ?_;refine tkc 3 zD2 (fun w' hSw=>zL ((hSw.block _ (zA X5S.out)).trans X5S.out)) ?_;refine tk 4 zD2 ?_;refine tkc 5 zD2 (fun w' hSw=>zE ((hSw.block _ (zA XPS.out)).trans XPS.out)) ?_;refine tk 6 zD2 ?_;refine tkc 7 zD2 (fun w' hSw=>zE ((hSw.block _ (zA XPS.out)).trans XPS.out)) ?_;refine tk 8 zD2 ?_;refine tkc 9 zD2 (fun w' hSw=>zL ((hSw.block _ (zA X5S.out)).trans X5S.out)) ?_
  refine wpAnyH_ready (rs:=[10,15]) (by kernel_rfl) (by simp) ?_
  refine AllReadyH.cons rfl (fun K hK=>?_) (AllReadyH.cons rfl (fun K hK=>?_) AllReadyH.nil)
  ·go_simp
   refine(XC.out wS.drew (Below.refl wS.heap.size wS).drew).mono ?_
   rintro e w' ⟨rfl,rfl⟩
   try go_wp2_with fail
   refine hK.out _ _ ?_ fun zD2=>?_;exact(Below.refl wS.heap.size wS).drew;clear hK K;try simp only[zn,Act.put]
   refine tk 11 zD2 ?_;refine tk 12 zD2 ?_;refine tkc 13 zD2 (fun w' hSw=>(hSw.cell (zG hg1)).trans hg1) ?_;refine tk 14 zD2 ?_
   refine tkr 15 (fun K hK=>?_)
   go_simp
   refine hK.out _ _ ?_ fun zD2=>?_;exact(zD wS (.cells #[.slice none 0 0,.slice none 0 0,.slice none 0 0,.int .i64 0] 96)).drew;clear hK K;try simp only[zn,Act.put]
   refine tkr 16 (fun K hK=>?_)
   rw[if_pos (by rfl)]
   refine qE 96 (.tmp 10) (.tmp 44) rfl wS.heap.size rfl (c':=#[.slice D3 l3 f3,.slice D4 l4 f4,.slice none 0 0,.int .i64 gsec]) rfl (show(wS.alloc (.cells #[.slice none 0 0,.slice none 0 0,.slice none 0 0,.int .i64 0] 96)).drew.heap[wS.heap.size]? = some (.cells #[.slice none 0 0,.slice none 0 0,.slice none 0 0,.int .i64 0] 96 (0,0)) from zB _ _) zA2 rfl (by simp[Value.oneCell']) ?_
   refine hK.out _ _ ?_ fun zD2=>?_;exact below_setRow (zD wS (.cells #[.slice none 0 0,.slice none 0 0,.slice none 0 0,.int .i64 0] 96)).drew (Nat.le_refl _) _;clear hK K;try simp only[zn,Act.put]
   refine wpAnyH_done (by kernel_rfl) ?_ _
   go_wp2_with fail
   go_meet
   exact⟨wS.heap.size,rfl,setRow_heap _ _ _ _ _ _ (show(wS.alloc (.cells #[.slice none 0 0,.slice none 0 0,.slice none 0 0,.int .i64 0] 96)).drew.heap[wS.heap.size]? = some (.cells #[.slice none 0 0,.slice none 0 0,.slice none 0 0,.int .i64 0] 96 (0,0)) from zB _ _),Nat.le_refl _,below_setRow (zD wS (.cells #[.slice none 0 0,.slice none 0 0,.slice none 0 0,.int .i64 0] 96)).drew (Nat.le_refl _) _⟩
  ·go_simp
   have hz0:Below wS.heap.size wS (wS.alloc (.cells #[.slice none 0 0,.slice none 0 0,.slice none 0 0,.int .i64 0] 96)).drew:=(zD _ _).drew
   have hz1:(wS.alloc (.cells #[.slice none 0 0,.slice none 0 0,.slice none 0 0,.int .i64 0] 96)).drew.heap[wS.heap.size]? = some (.cells #[.slice none 0 0,.slice none 0 0,.slice none 0 0,.int .i64 0] 96 (0,0)):=zB _ _
   refine hK.out _ _ ?_ fun zD2=>?_;exact hz0;clear hK K;try simp only[zn,Act.put]
   generalize (wS.alloc (.cells #[.slice none 0 0,.slice none 0 0,.slice none 0 0,.int .i64 0] 96)).drew=wB at hz0 hz1 zD2⊢
   have HZ0:=zD0 hz0
   have HZ1:=zD0 hz1
   clear hz0 hz1
   refine tkr 10 (fun K hK=>?_)
   go_simp
   refine(XC.out wB HZ0.out).mono ?_
   rintro e w' ⟨rfl,rfl⟩
   try go_wp2_with fail
   refine hK.out _ _ ?_ fun zD2=>?_;exact HZ0.out;clear hK K;try simp only[zn,Act.put]
   refine tk 11 zD2 ?_;refine tk 12 zD2 ?_;refine tkc 13 zD2 (fun w' hSw=>(hSw.cell (zG hg1)).trans hg1) ?_;refine tk 14 zD2 ?_
   refine tkr 16 (fun K hK=>?_)
   rw[if_pos (by rfl)]
   refine qE 96 (.tmp 10) (.tmp 44) rfl wS.heap.size rfl (c':=#[.slice D3 l3 f3,.slice D4 l4 f4,.slice none 0 0,.int .i64 gsec]) rfl HZ1.out zA2 rfl (by simp[Value.oneCell']) ?_
   refine hK.out _ _ ?_ fun zD2=>?_;exact below_setRow HZ0.out (Nat.le_refl _) _;clear hK K;try simp only[zn,Act.put]
   refine wpAnyH_done (by kernel_rfl) ?_ _
   go_wp2_with fail
   go_meet
   exact⟨wS.heap.size,rfl,setRow_heap _ _ _ _ _ _ HZ1.out,Nat.le_refl _,below_setRow HZ0.out (Nat.le_refl _) _⟩
 case rest=>
  obtain⟨pw,rfl,hbx,hpw,hbl⟩:=hcut
  obtain⟨wX,hwX⟩:=zD1 (wc)
  subst hwX
  have XW:=zD0 hbx
  have PW:Hid (wS.heap.size≤pw∧pw<wX.heap.size):=zD0 ⟨hpw,zA hbx⟩
  have BX:=zD0 hbl
  clear hbx hpw hbl hg1 XC hkg'
  go_wp2_with fail
  go_loopw [11,12,13] (fun s11 s12 s13 wr=>∃(i L:Nat) (A:Option Addr) (c:Nat),i≤nl∧s11 = .int .i64 i∧L=(jA p r i).length∧jV wr wX.heap.size (.slice A L c) (jA p r i)∧WyBox wr pw #[.slice D3 l3 f3,.slice D4 l4 f4,.slice A L c,.int .i64 gsec]∧wX.grownBy wr (some pw)) (fun s11 _ _ _=>nl-(intOf s11).toNat)
  case atStart=>exact⟨0,0,none,0,by omega,by go_num,rfl,zJ.nil_,XW.out,⟨rfl,rfl,rfl,Nat.le_refl _,fun _ _ _=>rfl⟩⟩
  case round=>
   obtain⟨i,L,A,c,hi,rfl,hL,ho,hx,hgb⟩:=hrel
   have HLL:=zD0 hL
   have LLE:Hid (L≤i):=zD0 (by rw[hL];exact Nat.le_trans (List.length_filterMap_le _ _) (by simp))
   have OW:=zD0 ho
   have XWr:=zD0 hx
   have GB:=zD0 hgb
   have SZ:Hid (wX.heap.size≤wr.heap.size):=zD0 hgb.size
   have BSr:Hid (Below wS.heap.size wS wr):=zD0 (BX.out.trans (zCd hgb PW.out.1 BX.out.size))
   clear hL ho hx hgb
   have BWr:Hid (Below w.heap.size w wr):=zD0 (BWS.out.trans (BSr.out.mono BWS.out.size))
   have XPr:=zD0 ((BSr.out.block _ (zA XPS.out)).trans XPS.out)
   by_cases hlt:i<nl
   ·have hlt':(i:Int)<nl:=by omega
    have hia:i<(zS r).length:=by have:=HNL.out;omega
    have hii:i<(insL p r nl).length:=by rw[zCf];exact hlt
    have hio:i<(zA6 p r nl).length:=by rw[kM];exact hlt
    obtain⟨bl,ofl,e2,hbl,hc0⟩:=(LI.out.below qI BSr.out).at hia
    obtain⟨bi,ofi,e3,hbi,hd0⟩:=(II.out.below qI BSr.out).at hii
    obtain⟨bo,ofo,e4,hbo,hf0⟩:=(OI.out.below qI BSr.out).at hio
    cases e2
    cases e3
    cases e4
    obtain⟨z,hz⟩:=zD1 ((zS r).getD i 0)
    obtain⟨X1,hX1⟩:=zD1 (inN p r i)
    obtain⟨X2,hX2⟩:=zD1 (vQ p r i)
    have hl1:wr.cell? ⟨bl,ofl+i,none⟩=some (.int .i64 z):=by rw[hz,List.getD,List.getElem?_eq_getElem hia];simpa [jU] using hc0
    have hi1:wr.cell? ⟨bi,ofi+i,none⟩=some (.int .i64 X1):=by rw[show(insL p r nl)[i]=X1 from by simp[insL,hX1]] at hd0;simpa [jU] using hd0
    have ho1:wr.cell? ⟨bo,ofo+i,none⟩=some (.int .i64 X2):=by rw[outsL_at p r hlt,←hX2] at hf0;simpa [jU] using hf0
    obtain⟨ks,hks,hatk,hsk,-⟩:=HRI.out.sec hia
    have hks':(ks:Int)<n2:=by have:=HN.out;omega
    have HIr:=zD0 ((HIN.out.below BWr.out).more BWr.out.size)
    obtain⟨bs,os,e5,hbs,hh0,hh1,u,hh2,hu⟩:=HIr.out.secs.at hks
    cases e5
    obtain⟨Ae,ce,rfl,huc,hue⟩:=hu.slice
    obtain⟨sid,spt,es,hx⟩:∃a b c,p.secs[ks]=(a,b,c):=⟨_,_,_,rfl⟩
    rw[hx] at hh0 hh1 hh2 hu huc hsk
    dsimp only at hh0 hh1 hh2 hu huc
    obtain⟨ne,hne⟩:=zD1 (es.length)
    rw[←hne] at hh2 hu
    have HES:Hid (zT wr wr.heap.size (.slice Ae ne ce) es):=zD0 hu
    have hs0:wr.cell? ⟨bs,os+ks*3,none⟩=some (.int .i64 sid):=hh0
    have hs1:wr.cell? ⟨bs,os+ks*3+1,none⟩=some (.int .i64 spt):=hh1
    have hs2:wr.cell? ⟨bs,os+ks*3+2,none⟩=some (.slice Ae ne ce):=hh2
    have ASKE:Hid (askN p r i=if spt=0 then none else if 0<(if 0≤X2 then xG spt X1 X2 else X1) then some (spt,(if 0≤X2 then xG spt X1 X2 else X1),(i:Int)) else none):=zD0 (by rw[askN,hsk,←hX1,←hX2])
    have XE:Hid (∀W,Below wr.heap.size wr W→Calls Tryz.prog 94 #[.slice (some ⟨bs,os,none⟩) n2 c2,.int .i64 z] W fun e w'=>e = .returned (.int .i64 (ks:Int))∧w'=W):=zD0 (fun W hb=>by
     have:=zAf _ p.secs z W ((HIr.out.secs.below zN hb).more zN hb.size)
     rw[hz,hatk,←hz] at this
     exact this)
    clear hc0 hd0 hf0 hh0 hh1 hh2 hu huc hue hx hne hsk hatk hz hX1 hX2 hbl hbi hbo hbs hks hia hii hio
    go_upto_region 8 with fail
    go_cut [12] from 51 to 61 (fun s12 wx=>∃pz,s12 = .pointer (some ⟨pz,0,none⟩)∧SecBox wx wr.heap.size pz #[.int .i64 sid,.int .i64 spt,.slice Ae ne ce]∧Below wr.heap.size wr wx)
    case first=>
     refine wp_region_held_drew (S:=fun v=>Below wr.heap.size wr v) (by kernel_rfl) (Below.refl wr.heap.size wr).drew (fun zD2=>?_)
     refine tk 0 zD2 ?_;refine tkc 1 zD2 (fun w' hSw=>zE ((hSw.block _ (zA XPr.out)).trans XPr.out)) ?_;refine tk 2 zD2 ?_;refine tkc 3 zD2 (fun w' hSw=>zE ((hSw.block _ (zA XPr.out)).trans XPr.out)) ?_;refine tk 4 zD2 ?_;refine tk 5 zD2 ?_;refine tk 6 zD2 ?_;refine tkc 7 zD2 (fun w' hSw=>(hSw.cell (zG hl1)).trans hl1) ?_
     refine wpAnyH_ready (rs:=[8,11]) (by kernel_rfl) (by simp) ?_
     refine AllReadyH.cons rfl (fun K hK=>?_) (AllReadyH.cons rfl (fun K hK=>?_) AllReadyH.nil)
     ·go_simp
      refine(XE.out wr.drew (Below.refl wr.heap.size wr).drew).mono ?_
      rintro e w' ⟨rfl,rfl⟩
      try go_wp2_with fail
      refine hK.out _ _ ?_ fun zD2=>?_;exact(Below.refl wr.heap.size wr).drew;clear hK K;try simp only[zn,Act.put]
      refine tk 9 zD2 ?_
      refine wpAnyH_take (i:=10) (v:=?_) rfl (by kernel_rfl) (by kernel_rfl) (by kernel_rfl) (fun _ _ _ h=>h) (Or.inl ⟨by rfl,?_⟩) zD2 ?_
      rotate_left
      ·intro w' hSw;have cs0:=(hSw.cell (zG hs0)).trans hs0;have cs1:=(hSw.cell (zG hs1)).trans hs1;have cs2:=(hSw.cell (zG hs2)).trans hs2;go_simp;try with_reducible rfl
      simp only[zn,Act.put]
      refine tkr 11 (fun K hK=>?_)
      go_simp
      refine hK.out _ _ ?_ fun zD2=>?_;exact(zD wr (.cells #[.int .i64 0,.int .i64 0,.slice none 0 0] 60)).drew;clear hK K;try simp only[zn,Act.put]
      refine tkr 12 (fun K hK=>?_)
      rw[if_pos (by rfl)]
      refine qE 60 (.tmp 12) (.tmp 61) rfl wr.heap.size rfl (c':=#[.int .i64 sid,.int .i64 spt,.slice Ae ne ce]) rfl (show(wr.alloc (.cells #[.int .i64 0,.int .i64 0,.slice none 0 0] 60)).drew.heap[wr.heap.size]? = some (.cells #[.int .i64 0,.int .i64 0,.slice none 0 0] 60 (0,0)) from zB _ _) zA4 rfl (by simp[Value.oneCell']) ?_
      refine hK.out _ _ ?_ fun zD2=>?_;exact below_setRow (zD wr (.cells #[.int .i64 0,.int .i64 0,.slice none 0 0] 60)).drew (Nat.le_refl _) _;clear hK K;try simp only[zn,Act.put]
      refine wpAnyH_done (by kernel_rfl) ?_ _
      go_wp2_with fail
      go_meet
      exact⟨wr.heap.size,rfl,⟨setRow_heap _ _ _ _ _ _ (show(wr.alloc (.cells #[.int .i64 0,.int .i64 0,.slice none 0 0] 60)).drew.heap[wr.heap.size]? = some (.cells #[.int .i64 0,.int .i64 0,.slice none 0 0] 60 (0,0)) from zB _ _),Nat.le_refl _⟩,below_setRow (zD wr (.cells #[.int .i64 0,.int .i64 0,.slice none 0 0] 60)).drew (Nat.le_refl _) _⟩
     ·go_simp
      have hz0:Below wr.heap.size wr (wr.alloc (.cells #[.int .i64 0,.int .i64 0,.slice none 0 0] 60)).drew:=(zD _ _).drew
      have hz1:(wr.alloc (.cells #[.int .i64 0,.int .i64 0,.slice none 0 0] 60)).drew.heap[wr.heap.size]? = some (.cells #[.int .i64 0,.int .i64 0,.slice none 0 0] 60 (0,0)):=zB _ _
      refine hK.out _ _ ?_ fun zD2=>?_;exact hz0;clear hK K;try simp only[zn,Act.put]
      generalize (wr.alloc (.cells #[.int .i64 0,.int .i64 0,.slice none 0 0] 60)).drew=wB at hz0 hz1 zD2⊢
      have HZ0:=zD0 hz0
      have HZ1:=zD0 hz1
      clear hz0 hz1
      refine tkr 8 (fun K hK=>?_)
      go_simp
      refine(XE.out wB HZ0.out).mono ?_
      rintro e w' ⟨rfl,rfl⟩
      try go_wp2_with fail
      refine hK.out _ _ ?_ fun zD2=>?_;exact HZ0.out;clear hK K;try simp only[zn,Act.put]
      refine tk 9 zD2 ?_
      refine wpAnyH_take (i:=10) (v:=?_) rfl (by kernel_rfl) (by kernel_rfl) (by kernel_rfl) (fun _ _ _ h=>h) (Or.inl ⟨by rfl,?_⟩) zD2 ?_
      rotate_left
      ·intro w' hSw;have cs0:=(hSw.cell (zG hs0)).trans hs0;have cs1:=(hSw.cell (zG hs1)).trans hs1;have cs2:=(hSw.cell (zG hs2)).trans hs2;go_simp;try with_reducible rfl
      simp only[zn,Act.put]
      refine tkr 12 (fun K hK=>?_)
      rw[if_pos (by rfl)]
      refine qE 60 (.tmp 12) (.tmp 61) rfl wr.heap.size rfl (c':=#[.int .i64 sid,.int .i64 spt,.slice Ae ne ce]) rfl HZ1.out zA4 rfl (by simp[Value.oneCell']) ?_
      refine hK.out _ _ ?_ fun zD2=>?_;exact below_setRow HZ0.out (Nat.le_refl _) _;clear hK K;try simp only[zn,Act.put]
      refine wpAnyH_done (by kernel_rfl) ?_ _
      go_wp2_with fail
      go_meet
      exact⟨wr.heap.size,rfl,⟨setRow_heap _ _ _ _ _ _ HZ1.out,Nat.le_refl _⟩,below_setRow HZ0.out (Nat.le_refl _) _⟩
    case rest=>
     obtain⟨pz,rfl,hbx,hbl⟩:=hcut
     obtain⟨w8,hw8⟩:=zD1 (wc)
     subst hw8
     have X12:=zD0 hbx.1
     have OW8:=zD0 (OW.out.below zP hbl)
     have XW8:=zD0 ((hbl.block _ (zA XWr.out)).trans XWr.out)
     have GB8:=zD0 (yN GB.out hbl SZ.out)
     have SZ8:Hid (wX.heap.size≤w8.heap.size):=zD0 (Nat.le_trans SZ.out hbl.size)
     have HE8:Hid (zT w8 w8.heap.size (.slice Ae ne ce) es):=zD0 ((HES.out.below zM hbl).more zM hbl.size)
     have hi2:=(hbl.cell (zG hi1)).trans hi1
     have ho2:=(hbl.cell (zG ho1)).trans ho1
     clear hbx hbl hl1 hi1 ho1 hs0 hs1 hs2 OW XWr GB HES XE BSr BWr XPr hks' HIr
     obtain⟨s0,s1,s2⟩:=zC X12.out
     by_cases hp:spt=0
     ·have NO:Hid (jA p r (i+1)=jA p r i):=zD0 (by rw[kX,ASKE.out,if_pos hp];simp)
      have dp:(spt==0)=true:=by simpa using hp
      clear hp
      go_wp2_with fail
      go_roundw
      case measure=>simp[intOf];omega
      case rel=>exact⟨i+1,L,A,c,by omega,by go_num,by rw[NO.out];exact HLL.out,by rw[NO.out];exact OW8.out,XW8.out,GB8.out⟩
     have dp:(spt==0)=false:=by simpa using hp
     by_cases hx2:0≤X2
     ·have d2:(0≤X2)=True:=eq_true hx2
      have ASK0:Hid (askN p r i=if 0<xG spt X1 X2 then some (spt,xG spt X1 X2,(i:Int)) else none):=zD0 (by rw[ASKE.out,if_neg hp,if_pos hx2])
      clear hp hx2
      go_upto_region 12 with fail
      clear s0 s1 s2
      refine wp_region_held_drew (S:=fun v=>Below w8.heap.size w8 v) (by kernel_rfl) (Below.refl w8.heap.size w8).drew (fun zD2=>?_)
      refine tkc 0 zD2 (fun w' hSw=>zC ((hSw.block _ (zA X12.out)).trans X12.out)) ?_;refine tk 1 zD2 ?_;refine tk 2 zD2 ?_;refine tk 3 zD2 ?_;refine tkc 4 zD2 (fun w' hSw=>(hSw.cell (zG hi2)).trans hi2) ?_;refine tk 5 zD2 ?_;refine tk 6 zD2 ?_;refine tk 7 zD2 ?_;refine tkc 8 zD2 (fun w' hSw=>(hSw.cell (zG ho2)).trans ho2) ?_
      refine tkr 9 (fun K hK=>?_)
      go_simp
      refine(rlie_any _ (sid,spt,es) X1 X2 w8.drew ⟨_,rfl,HE8.out.below zM (Below.refl w8.heap.size w8).drew⟩).mono ?_
      rintro e wL ⟨rfl,bL⟩
      have BL:Hid (Below w8.heap.size w8 wL):=zD0 ((Below.refl w8.heap.size w8).drew.trans bL)
      clear bL
      try go_wp2_with fail
      refine hK.out _ _ ?_ fun zD2=>?_;exact BL.out;clear hK K;try simp only[zn,Act.put]
      refine tk 10 zD2 ?_
      refine wpAnyH_done (by kernel_rfl) ?_ _
      have OW9:=zD0 (OW8.out.below zP BL.out)
      have XW9:=zD0 ((BL.out.block _ (zA XW8.out)).trans XW8.out)
      have GB9:=zD0 (yN GB8.out BL.out SZ8.out)
      have SZ9:Hid (wX.heap.size≤wL.heap.size):=zD0 (Nat.le_trans SZ8.out BL.out.size)
      have X129:=zD0 ((BL.out.block _ (zA X12.out)).trans X12.out)
      clear hi2 ho2 OW8 XW8 GB8 SZ8 X12 HE8 BL
      obtain⟨ly,hly⟩:=zD1 (xG spt X1 X2)
      rw[←hly] at ASK0
      have ASK:=ASK0
      rw[←hly]
      clear hly ASK0
      by_cases hly:0<ly
      rotate_left
      ·have d9:(0<ly)=False:=eq_false hly
       have NO:Hid (jA p r (i+1)=jA p r i):=zD0 (by rw[kX,ASK.out,if_neg hly];simp)
       clear hly
       go_wp2_with fail
       go_roundw
       case measure=>simp[intOf];omega
       case rel=>exact⟨i+1,L,A,c,by omega,by go_num,by rw[NO.out];exact HLL.out,by rw[NO.out];exact OW9.out,XW9.out,GB9.out⟩
      have d9:(0<ly)=True:=eq_true hly
      have YES:Hid (jA p r (i+1)=jA p r i++[(spt,ly,(i:Int))]):=zD0 (by rw[kX,ASK.out,if_pos hly];rfl)
      clear hly
      obtain⟨i0,hii,hz0,hzz,hz2⟩:=info_parts zBj
      have I0:=zD0 hii
      have I1:=zD0 hz0
      have I2:=zD0 hzz
      have I3:=zD0 hz2
      obtain⟨yss,hown,hyl,hm,hys,hyr⟩:=OW9.out
      rw[←HLL.out] at hown
      have O:=zD0 hown
      have YL:=zD0 hyl
      have YS:=zD0 hys
      have YR:=zD0 hyr
      have X4c:=XW9.out
      obtain⟨x0,x1,x2,x3⟩:=qC X4c
      obtain⟨s0,s1,s2⟩:=zC X129.out
      clear hii hz0 hzz hz2 hown hyl hm hys hyr X4c
      go_wp2_with ((with_reducible show wpList _ _ _ (⟨some 94,_,_,_,_,_⟩::_) _ _);refine zQ rfl (.tmp 87) (.tmp 93) _ rfl Tryz.underlying94 I0.out I1.out rfl I2.out (by decide) I3.out (by decide) rfl (O.out.alloc _) (m:=1) rfl (news:=[.int .i64 spt,.int .i64 ly,.int .i64 (i:Int)]) rfl (fun h=>by cases h) (fun a ha j u hj=>by cases ha;rw[Addr.add_lit,Nat.zero_add,World.cell?_alloc_new];simpa using hj) (by simp[Value.oneCell']) (by have:=LLE.out;omega) (by have:=SZ9.out;simp;omega) ?_;intro v5 w5 hown5 hgrow5;have S5:Hid (jV w5 wX.heap.size v5 (jA p r (i+1))):=zD0 (by rw[YES.out];exact zJ.snoc (w1:=wL) (x:=(spt,ly,(i:Int))) (ys:=[.int .i64 spt,.int .i64 ly,.int .i64 (i:Int)]) zP (fun _ h _ _=>h) (by rw[←HLL.out];exact O.out) YL.out YS.out rfl (by have:=LLE.out;have:=HLL.out;unfold maxLen;omega) YR.out (Below.refl _ _) ⟨rfl,rfl,rfl⟩ (by rw[←HLL.out];exact hown5) hgrow5);have B5:=zD0 (((Below.refl wX.heap.size wL).alloc SZ9.out _).grown hgrow5 (by have:=SZ9.out;simp;omega) (jE O.out));obtain⟨A5,c5_,rfl⟩:=xN hown5;clear hown5 hgrow5;have X5':=zD0 ((B5.out.block _ PW.out.2).trans XW9.out);have X5c:=X5'.out;have fz:=zY X5c 2;clear x0 x1 x2 x3 s0 s1 s2;obtain⟨x0,x1,x2,x3⟩:=qC X5c;clear X5c)
      go_roundw
      case measure=>simp[intOf];omega
      case rel=>exact⟨i+1,L+1,A5,c5_,by omega,by go_num,by rw[YES.out,List.length_append,←HLL.out];rfl,qK zAc S5.out (zU w5 pw 2 _) (fun k hk=>by have:=jS S5.out k hk;have:=PW.out;omega),qG (k:=2) X5'.out _,(yN GB9.out B5.out (Nat.le_refl _)).trans (zU w5 pw 2 _)⟩
     ·have d2:(0≤X2)=False:=eq_false hx2
      have ASK0:Hid (askN p r i=if 0<X1 then some (spt,X1,(i:Int)) else none):=zD0 (by rw[ASKE.out,if_neg hp,if_neg hx2])
      clear hp hx2
      have X128:=X12
      obtain⟨ly,rfl⟩:=zD1 (X1)
      have ASK:=ASK0
      go_upto_region 13 with fail
      clear s0 s1 s2 hi2 ho2 ASK0
      by_cases hly:0<ly
      rotate_left
      ·have d9:(0<ly)=False:=eq_false hly
       have NO:Hid (jA p r (i+1)=jA p r i):=zD0 (by rw[kX,ASK.out,if_neg hly];simp)
       clear hly
       go_wp2_with fail
       go_roundw
       case measure=>simp[intOf];omega
       case rel=>exact⟨i+1,L,A,c,by omega,by go_num,by rw[NO.out];exact HLL.out,by rw[NO.out];exact OW8.out,XW8.out,GB8.out⟩
      have d9:(0<ly)=True:=eq_true hly
      have YES:Hid (jA p r (i+1)=jA p r i++[(spt,ly,(i:Int))]):=zD0 (by rw[kX,ASK.out,if_pos hly];rfl)
      clear hly
      obtain⟨i0,hii,hz0,hzz,hz2⟩:=info_parts zBj
      have I0:=zD0 hii
      have I1:=zD0 hz0
      have I2:=zD0 hzz
      have I3:=zD0 hz2
      obtain⟨yss,hown,hyl,hm,hys,hyr⟩:=OW8.out
      rw[←HLL.out] at hown
      have O:=zD0 hown
      have YL:=zD0 hyl
      have YS:=zD0 hys
      have YR:=zD0 hyr
      have X4c:=XW8.out
      obtain⟨x0,x1,x2,x3⟩:=qC X4c
      obtain⟨s0,s1,s2⟩:=zC X128.out
      clear hii hz0 hzz hz2 hown hyl hm hys hyr X4c
      go_wp2_with ((with_reducible show wpList _ _ _ (⟨some 94,_,_,_,_,_⟩::_) _ _);refine zQ rfl (.tmp 87) (.tmp 93) _ rfl Tryz.underlying94 I0.out I1.out rfl I2.out (by decide) I3.out (by decide) rfl (O.out.alloc _) (m:=1) rfl (news:=[.int .i64 spt,.int .i64 ly,.int .i64 (i:Int)]) rfl (fun h=>by cases h) (fun a ha j u hj=>by cases ha;rw[Addr.add_lit,Nat.zero_add,World.cell?_alloc_new];simpa using hj) (by simp[Value.oneCell']) (by have:=LLE.out;omega) (by have:=SZ8.out;simp;omega) ?_;intro v5 w5 hown5 hgrow5;have S5:Hid (jV w5 wX.heap.size v5 (jA p r (i+1))):=zD0 (by rw[YES.out];exact zJ.snoc (w1:=w8) (x:=(spt,ly,(i:Int))) (ys:=[.int .i64 spt,.int .i64 ly,.int .i64 (i:Int)]) zP (fun _ h _ _=>h) (by rw[←HLL.out];exact O.out) YL.out YS.out rfl (by have:=LLE.out;have:=HLL.out;unfold maxLen;omega) YR.out (Below.refl _ _) ⟨rfl,rfl,rfl⟩ (by rw[←HLL.out];exact hown5) hgrow5);have B5:=zD0 (((Below.refl wX.heap.size w8).alloc SZ8.out _).grown hgrow5 (by have:=SZ8.out;simp;omega) (jE O.out));obtain⟨A5,c5_,rfl⟩:=xN hown5;clear hown5 hgrow5;have X5':=zD0 ((B5.out.block _ PW.out.2).trans XW8.out);have X5c:=X5'.out;have fz:=zY X5c 2;clear x0 x1 x2 x3 s0 s1 s2;obtain⟨x0,x1,x2,x3⟩:=qC X5c;clear X5c)
      go_roundw
      case measure=>simp[intOf];omega
      case rel=>exact⟨i+1,L+1,A5,c5_,by omega,by go_num,by rw[YES.out,List.length_append,←HLL.out];rfl,qK zAc S5.out (zU w5 pw 2 _) (fun k hk=>by have:=jS S5.out k hk;have:=PW.out;omega),qG (k:=2) X5'.out _,(yN GB8.out B5.out (Nat.le_refl _)).trans (zU w5 pw 2 _)⟩
   ·obtain rfl:nl=i:=by omega
    have hlt':¬(nl:Int)<nl:=by omega
    obtain⟨wY,hY⟩:=zD1 (wr)
    subst hY
    have HL0:=HLL
    have LN8:Hid (L≤8):=zD0 (by have:=LLE.out;omega)
    go_wp2_with fail
    go_loopw [14] (fun s14 wr=>∃(i L:Nat) (A:Option Addr) (c:Nat),i≤l5∧s14 = .int .i64 i∧L=(jA p r nl++(r.flanks.take i).map zBu).length∧jV wr wX.heap.size (.slice A L c) (jA p r nl++(r.flanks.take i).map zBu)∧WyBox wr pw #[.slice D3 l3 f3,.slice D4 l4 f4,.slice A L c,.int .i64 gsec]∧wX.grownBy wr (some pw)) (fun s14 _=>l5-(intOf s14).toNat)
    case atStart=>exact⟨0,L,A,c,by omega,by go_num,by simpa using HL0.out,by simpa using OW.out,XWr.out,GB.out⟩
    case round=>
     clear HLL OW XWr GB SZ BSr BWr XPr LLE HL0 LN8
     obtain⟨j,L,A,c,hi,rfl,hL,ho,hx,hgb⟩:=hrel
     have HLL:=zD0 hL
     have LLE:Hid (L≤8+j):=zD0 (by
      rw[hL,List.length_append,List.length_map,List.length_take]
      have h1:(jA p r nl).length≤nl:=Nat.le_trans (List.length_filterMap_le _ _) (by simp)
      omega)
     have OW:=zD0 ho
     have XWr:=zD0 hx
     have GB:=zD0 hgb
     have SZ:Hid (wX.heap.size≤wr.heap.size):=zD0 hgb.size
     have BSr:Hid (Below wS.heap.size wS wr):=zD0 (BX.out.trans (zCd hgb PW.out.1 BX.out.size))
     clear hL ho hx hgb
     have BWr:Hid (Below w.heap.size w wr):=zD0 (BWS.out.trans (BSr.out.mono BWS.out.size))
     have X5r:=zD0 ((BSr.out.block _ (zA X5S.out)).trans X5S.out)
     have HL5:Hid (l5≤3):=zD0 (by have:=HRI.out.route.flank;have:=HL.out;omega)
     obtain⟨m0,m1,m2,m3,m4,m5,m6⟩:=zL X5r.out
     by_cases hlt:j<l5
     ·have hlt':(j:Int)<l5:=by omega
      have hjf:j<r.flanks.length:=by have:=HL.out;omega
      obtain⟨bf,off,e2,hbf,hd0,hd1⟩:=((ROS.out.in_).flanks.below zM BSr.out).at hjf
      cases e2
      obtain⟨a1,a2,ht⟩:∃a b,r.flanks[j]=(a,b):=⟨_,_,rfl⟩
      rw[ht] at hd0 hd1
      have hf0:wr.cell? ⟨bf,off+j*2,none⟩=some (.int .i64 a1):=hd0
      have hf1:wr.cell? ⟨bf,off+j*2+1,none⟩=some (.int .i64 a2):=hd1
      have HBF:Hid (bf<wX.heap.size):=zD0 (Nat.lt_of_lt_of_le hbf BX.out.size)
      have HP5:Hid (p5<wX.heap.size):=zD0 (Nat.lt_of_lt_of_le (zA X5S.out) BX.out.size)
      have YES:Hid (jA p r nl++(r.flanks.take (j+1)).map zBu=(jA p r nl++(r.flanks.take j).map zBu)++[(a1,a2,(-1:Int))]):=zD0 (by rw[←snoc_take hjf,List.map_append,ht,←List.append_assoc];rfl)
      have HX2:Hid (wr.cell? ⟨pw,2,none⟩=some (.slice A L c)):=zD0 (qC XWr.out).2.2.1
      obtain⟨i0,hii,hz0,hzz,hz2⟩:=info_parts zBj
      have I0:=zD0 hii
      have I1:=zD0 hz0
      have I2:=zD0 hzz
      have I3:=zD0 hz2
      obtain⟨yss,hown,hyl,hm,hys,hyr⟩:=OW.out
      rw[←HLL.out] at hown
      have O:=zD0 hown
      have YL:=zD0 hyl
      have YS:=zD0 hys
      have YR:=zD0 hyr
      clear hii hz0 hzz hz2 hown hyl hm hys hyr hd0 hd1 ht hjf hbf
      have hl53:l5≤3:=HL5.out
      go_upto_region 18 with fail
      clear m0 m1 m2 m3 m4 m5 m6
      refine jG (S:=fun v'=>Below wX.heap.size wr v') 18 (by kernel_rfl) (Below.refl wX.heap.size wr).drew (fun zD2=>?_)
      refine tke [1,16,18] 0 zD2 ?_;refine tkd [16,18] 1 zD2 (fun w' hSw=>(hSw.cell (p:=⟨pw,2,none⟩) PW.out.2).trans HX2.out) ?_;refine tke [3,5,6,7,14,15,16,18] 2 zD2 ?_;refine tkd [5,6,7,14,15,16,18] 3 zD2 (fun w' hSw=>zL ((hSw.block p5 HP5.out).trans X5r.out)) ?_;refine tke [5,6,7,14,15,16,18] 4 zD2 ?_;refine tke [6,7,14,15,16,18] 5 zD2 ?_;refine tke [7,14,15,16,18] 6 zD2 ?_
      refine kT [14,15,16,18] (i:=7) (v:=?_) rfl (by kernel_rfl) (by kernel_rfl) (by kernel_rfl) (fun _ _ _ h=>h) (by kernel_rfl) (by kernel_rfl) (by kernel_rfl) (Or.inl ⟨by rfl,?_⟩) zD2 ?_
      rotate_left
      ·intro w' hSw;have cf0:=(hSw.cell (p:=⟨bf,off+j*2,none⟩) HBF.out).trans hf0;have cf1:=(hSw.cell (p:=⟨bf,off+j*2+1,none⟩) HBF.out).trans hf1;go_simp;try with_reducible rfl
      simp only[zn,Act.put]
      refine tke [9,11,12,13,14,15,16,18] 8 zD2 ?_;refine tkd [11,12,13,14,15,16,18] 9 zD2 (fun w' hSw=>zL ((hSw.block p5 HP5.out).trans X5r.out)) ?_;refine tke [11,12,13,14,15,16,18] 10 zD2 ?_;refine tke [12,13,14,15,16,18] 11 zD2 ?_;refine tke [13,14,15,16,18] 12 zD2 ?_
      refine kT [14,15,16,18] (i:=13) (v:=?_) rfl (by kernel_rfl) (by kernel_rfl) (by kernel_rfl) (fun _ _ _ h=>h) (by kernel_rfl) (by kernel_rfl) (by kernel_rfl) (Or.inl ⟨by rfl,?_⟩) zD2 ?_
      rotate_left
      ·intro w' hSw;have cf0:=(hSw.cell (p:=⟨bf,off+j*2,none⟩) HBF.out).trans hf0;have cf1:=(hSw.cell (p:=⟨bf,off+j*2+1,none⟩) HBF.out).trans hf1;go_simp;try with_reducible rfl
      simp only[zn,Act.put]
      refine tke [15,16,18] 14 zD2 ?_
      refine xM (i:=15) (by kernel_rfl) rfl (by kernel_rfl) (fun K hK=>?_)
      go_simp
      refine hK.out _ _ ?_ fun zD2=>?_;exact((Below.refl wX.heap.size wr).drew.alloc SZ.out _);clear hK K;try simp only[zn,Act.put]
      refine xM (i:=16) (by kernel_rfl) rfl (by kernel_rfl) (fun K hK=>?_)
      rw[if_pos (by rfl)]
      refine qO (.tmp 104) (.tmp 118) _ rfl Tryz.underlying94 I0.out I1.out rfl I2.out (by decide) I3.out (by decide) rfl (zAt O.out ((Below.refl wr.heap.size wr).alloc (Nat.le_refl _) _).drew) rfl (m:=1) (news:=[.int .i64 a1,.int .i64 a2,.int .i64 (-1)]) rfl (fun h=>by cases h) (fun a ha j u hj=>by cases ha;rw[Addr.add_lit,Nat.zero_add];show(wr.alloc (.cells #[.int .i64 a1,.int .i64 a2,.int .i64 (-1)] 108)).cell? ⟨wr.heap.size,j,none⟩=_;rw[World.cell?_alloc_new];simpa using hj) (by simp[Value.oneCell']) (by have:=LLE.out;omega) (by have:=SZ.out;simp;omega) ?_
      intro v5 w5 hown5 hgrow6
      have hgrow5:World.grownBy (wr.alloc (.cells #[.int .i64 a1,.int .i64 a2,.int .i64 (-1)] 108)) w5 (Value.ownBlock (.slice A L c)):=⟨hgrow6.os,hgrow6.tape,hgrow6.output,hgrow6.size,hgrow6.block⟩
      have S5:Hid (jV w5 wX.heap.size v5 (jA p r nl++(r.flanks.take (j+1)).map zBu)):=zD0 (by
       rw[YES.out]
       exact zJ.snoc (w1:=wr) (x:=(a1,a2,(-1:Int))) (ys:=[.int .i64 a1,.int .i64 a2,.int .i64 (-1)]) zP (fun _ h _ _=>h) (by rw[←HLL.out];exact O.out) YL.out YS.out rfl (by have:=LLE.out;have:=HLL.out;unfold maxLen;omega) YR.out (Below.refl _ _) ⟨rfl,rfl,rfl⟩ (by rw[←HLL.out];exact hown5) hgrow5)
      have B5:Hid (Below wX.heap.size wr w5):=zD0 (((Below.refl wX.heap.size wr).alloc SZ.out _).grown hgrow5 (by have:=SZ.out;simp;omega) (jE O.out))
      have LN5:Hid (L+1=(jA p r nl++(r.flanks.take (j+1)).map zBu).length):=zD0 (by rw[YES.out,List.length_append (bs:=[_]),←HLL.out];rfl)
      obtain⟨A5,c5_,rfl⟩:=xN hown5
      clear hown5 hgrow5 hgrow6
      refine hK.out _ _ ?_ fun zD2=>?_;exact B5.out;clear hK K;try simp only[zn,Act.put]
      refine tke [18] 17 zD2 ?_
      have X5':=zD0 ((B5.out.block _ PW.out.2).trans XWr.out)
      have X5c:=X5'.out
      obtain⟨y0,y1,y2,y3_⟩:=qC X5c
      have fz:=zY X5c 2
      clear X5c
      refine kB (by kernel_rfl) rfl (by kernel_rfl) (fun K hK=>?_)
      rw[if_pos (by rfl)]
      go_simp
      refine hK.out _ _ ?_
      clear hK K
      have tO:jV (w5.setCell ⟨pw,2,none⟩ (.slice A5 (L+1) c5_)) wX.heap.size (.slice A5 (L+1) c5_) (jA p r nl++(r.flanks.take (j+1)).map zBu):=qK zAc S5.out (zU w5 pw 2 (.slice A5 (L+1) c5_)) (fun k hk=>by have:=jS S5.out k hk;have:=PW.out;omega)
      have tX:WyBox (w5.setCell ⟨pw,2,none⟩ (.slice A5 (L+1) c5_)) pw #[.slice D3 l3 f3,.slice D4 l4 f4,.slice A5 (L+1) c5_,.int .i64 gsec]:=qG (k:=2) X5'.out _
      have tG:=(yN GB.out B5.out (Nat.le_refl _)).trans (zU w5 pw 2 (.slice A5 (L+1) c5_))
      generalize w5.setCell ⟨pw,2,none⟩ (.slice A5 (L+1) c5_)=wD at tO tX tG⊢
      clear hf0 hf1 y0 y1 y2 y3_ fz
      go_wp2_with fail
      go_roundw
      case measure=>simp[intOf];omega
      case rel=>exact⟨j+1,L+1,A5,c5_,by omega,by go_num,LN5.out,tO,tX,tG⟩
     ·obtain rfl:l5=j:=by omega
      have hlt':¬(l5:Int)<l5:=by omega
      have X4r:=zD0 ((BSr.out.block _ (zA ((BQS.out.block _ (zA X4.out)).trans X4.out))).trans ((BQS.out.block _ (zA X4.out)).trans X4.out))
      have X4c:=XWr.out
      obtain⟨y0,y1,y2,y3_⟩:=qC X4c
      clear X4c
      have WO:Hid (kG wr q.heap.size (.slice D3 l3 f3) (.slice D4 l4 f4) (.slice A L c) (kH p r)):=zD0 ⟨ROS.out.path.below qI BSr.out,ROS.out.over.below qI BSr.out,by
       have h1:=OW.out.mono (show q.heap.size≤wX.heap.size from Nat.le_trans BQS.out.size BX.out.size)
       rw[List.take_of_length_le (by have:=HL.out;omega),HNL.out] at h1
       exact h1⟩
      have HQ4:Hid (w.heap.size+1<q.heap.size):=zD0 (zA X4.out)
      have hn:=HNEAR.out
      subst hn
      go_wp2_with ((with_reducible show wpList _ _ _ (⟨none,_,_,_,_,_⟩::_) _ _);refine zK rfl _ (.tmp 4) (.tmp 121) rfl (w.heap.size+1) rfl (c':=#[.slice D3 l3 f3,.slice D4 l4 f4,.slice A L c,.int .i64 (kH p r).near]) rfl X4r.out zA2 rfl (by simp[Value.oneCell']) ?_)
      refine bodyPost_ret (results_cell_row rfl _ _ (w.heap.size+1) 96 #[.slice D3 l3 f3,.slice D4 l4 f4,.slice A L c,.int .i64 (kH p r).near] (0,0) _ rfl (setRow_heap _ _ _ _ _ _ X4r.out) Tryz.underlying96 rfl zA2) rfl ⟨_,_,_,rfl,?_,below_setRow BWr.out (Nat.le_succ _) _⟩
      exact(WO.out.kept (qB wr (w.heap.size+1) _) HQ4.out).mono BQ.out.size
theorem wyOwn_zero (W:World) (lo:Nat):kG W lo (.slice none 0 0) (.slice none 0 0) (.slice none 0 0) zWy:=⟨zJ.nil_,zJ.nil_,zJ.nil_⟩
structure WaySaid:Prop where
end Go.Proofs.YtemmgmjhomgbbaaGreat
