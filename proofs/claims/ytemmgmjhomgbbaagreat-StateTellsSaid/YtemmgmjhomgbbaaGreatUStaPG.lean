/-
 The program's package state: claimed: what the routes of a state hold and ask, or the error.
 Conditions: none.
-/
import Derived.Test.YtemmgmjhomgbbaaGreatUGStaPE
import Derived.Test.YtemmgmjhomgbbaaGreatUGStaPC
import Derived.Test.YtemmgmjhomgbbaaGreatUWayPQ
import Derived.Test.YtemmgmjhomgbbaaGreatUGSndM
set_option linter.unusedVariables false
set_option linter.unusedSimpArgs false
set_option maxRecDepth 100000
namespace Go.Proofs.YtemmgmjhomgbbaaGreat
open Go.RowKit
theorem zA1:(Tryz.prog.info? 70).map (·.size)=some 2:=by kernel_rfl
theorem zDg {p:Pl} {s:qD} (hm:xU p) (h:vV p s) {i:Nat} (hi:i<s.lk.length):s.lk[i].2.1≠0→0≤s.lk[i].2.2.1∧s.lk[i].2.2.1<((rtN p i).path.length:Int):=fun h0=>by
 have hi':i<p.routes.length:=by rw[←h.nl];exact hi
 have:=(h.lk i hi).2
 have hr:=(jO hm hi' rfl).route.path.1
 rw[vP hi']
 unfold zH at this
 omega
theorem way_eight15 {p:Pl} (hm:xU p) {i:Nat} (hi:i<p.routes.length):(kH p p.routes[i]).path.length+(kH p p.routes[i]).over.length≤1000:=by
 have h:=(jO hm hi rfl).len
 show p.routes[i].path.length+p.routes[i].over.length≤1000
 omega
theorem heldW_at {p:Pl} {s:qD} {i:Nat} (hi:i<s.lk.length):jH p s i=yE (kH p (rtN p i)) s.lk[i].2.1 s.lk[i].2.2.1:=by rw[held_way,lkN_at hi]
theorem askedW_at {p:Pl} {s:qD} {i:Nat} (hi:i<s.lk.length):jN p s i=kR (kH p (rtN p i)) s.lk[i].2.1 s.lk[i].2.2.1:=by rw[asked_way,lkN_at hi]
theorem bad_staE {p:Pl} {s:qD} (h:jB p) (g:¬yD p s):kI p s=8:=by rw[kI,if_pos (kW h),yO.2 g];rfl
theorem claim_vals {p:Pl} {s:qD} {i:Nat} {es fs:qT} (h:vM p s i es fs):∀y v,qS fs y=some v→∃z:Int,v = .int .i64 z:=fun y v hv=>by
 obtain⟨k,-,a,-,-,e⟩:=(h.l y v).1 hv
 exact⟨_,e⟩
theorem map_setRow15 {W:World} {m b:Nat} {es:qT} {c:Array Value} (h:xF W m es) (hne:m≠b):xF (W.setRow b c) m es:=(setRow_other W b m c hne).trans h
def ClmP (p:Pl) (s:qD) (w':World) (c0 c1:Option Nat):Prop:=kI p s=0→∃m1 m2 es fs,c0=some m1∧c1=some m2∧xF w' m1 es∧xF w' m2 fs∧vM p s s.lk.length es fs
set_option maxHeartbeats 16000000 in
theorem zDf (hs:zBy) (v y:Value) (p:Pl) (s:qD) (w:World) (h:qF w w.heap.size v p) (h':qL w w.heap.size y s):
  Calls Tryz.prog 24 #[v,y] w fun e w'=>(∃c0 c1,e = .returned (.tuple #[.agg #[.map c0,.map c1],.int .i64 (kI p s)])∧Hid (ClmP p s w' c0 c1))∧Below w.heap.size w w':=by
 obtain⟨p2,p3,p4,p5,rfl,h⟩:=h
 obtain⟨A2,a2,rfl,-,-⟩:=h.secs.slice
 obtain⟨b2,hb2⟩:=zD1 (p.secs.length)
 have P2:Hid (zX w w.heap.size (.slice A2 b2 a2) p.secs):=zD0 (by rw[hb2];exact h.secs)
 rw[←hb2]
 obtain⟨A3,a3,rfl,-,-⟩:=h.pts.slice
 obtain⟨b3,hb3⟩:=zD1 (p.pts.length)
 have P3:Hid (zT w w.heap.size (.slice A3 b3 a3) p.pts):=zD0 (by rw[hb3];exact h.pts)
 rw[←hb3]
 obtain⟨A4,a4,rfl,-,-⟩:=h.sigs.slice
 obtain⟨b4,hb4⟩:=zD1 (p.sigs.length)
 have P4:Hid (xI w w.heap.size (.slice A4 b4 a4) p.sigs):=zD0 (by rw[hb4];exact h.sigs)
 rw[←hb4]
 obtain⟨A5,a5,rfl,-,-⟩:=h.routes.slice
 obtain⟨b5,hb5⟩:=zD1 (p.routes.length)
 have P5:Hid (qX w w.heap.size (.slice A5 b5 a5) p.routes):=zD0 (by rw[hb5];exact h.routes)
 rw[←hb5]
 clear h hb2 hb3 hb4 hb5
 obtain⟨_,_,_,rfl,h'⟩:=h'
 obtain⟨S0,Sc0,rfl,hcl0,hcm0⟩:=h'.tr.slice
 obtain⟨Sn0,hS0⟩:=zD1 (s.tr.length)
 have HS0:Hid (jD w w.heap.size (.slice S0 Sn0 Sc0) s.tr):=zD0 (by rw[hS0];exact h'.tr)
 have hSn0:Sn0≤9223372036854775807:=by unfold maxLen at hcm0;omega
 rw[←hS0]
 obtain⟨S1,Sc1,rfl,hcl1,hcm1⟩:=h'.sw.slice
 obtain⟨Sn1,hS1⟩:=zD1 (s.sw.length)
 have HS1:Hid (xP w w.heap.size (.slice S1 Sn1 Sc1) s.sw):=zD0 (by rw[hS1];exact h'.sw)
 have hSn1:Sn1≤9223372036854775807:=by unfold maxLen at hcm1;omega
 rw[←hS1]
 obtain⟨S2,Sc2,rfl,hcl2,hcm2⟩:=h'.lk.slice
 obtain⟨Sn2,hS2⟩:=zD1 (s.lk.length)
 have HS2:Hid (xO w w.heap.size (.slice S2 Sn2 Sc2) s.lk):=zD0 (by rw[hS2];exact h'.lk)
 have hSn2:Sn2≤9223372036854775807:=by unfold maxLen at hcm2;omega
 rw[←hS2]
 have NS:Hid (Sn0=s.tr.length∧Sn1=s.sw.length∧Sn2=s.lk.length):=zD0 ⟨hS0,hS1,hS2⟩
 clear hS0 hS1 hS2 hcl0 hcm0 hcl1 hcm1 hcl2 hcm2 h'
 obtain⟨hx,hy,hz,hqb⟩:=vK w (.cells #[.int .i64 p.ver,.int .i64 p.par,.slice A2 b2 a2,.slice A3 b3 a3,.slice A4 b4 a4,.slice A5 b5 a5] 27) (.cells #[.slice S0 Sn0 Sc0,.slice S1 Sn1 Sc1,.slice S2 Sn2 Sc2] 32) (.cells #[.map none,.map none] 70)
 go_enter Tryz.func24,Tryz.ntmps24
 go_upto_region 1 with fail
 generalize ((w.alloc (.cells #[.int .i64 p.ver,.int .i64 p.par,.slice A2 b2 a2,.slice A3 b3 a3,.slice A4 b4 a4,.slice A5 b5 a5] 27)).alloc (.cells #[.slice S0 Sn0 Sc0,.slice S1 Sn1 Sc1,.slice S2 Sn2 Sc2] 32)).alloc (.cells #[.map none,.map none] 70)=q at hx hy hz hqb⊢
 obtain⟨p0,hp⟩:=zD1 (w.heap.size)
 rw[←hp] at hx hy hz⊢
 have PW:Hid (p0=w.heap.size):=zD0 hp
 have X:=zD0 hx
 have Y:=zD0 hy
 have Z:=zD0 hz
 have BQ:=zD0 hqb
 clear hx hy hz hqb hp
 have PV:Hid (∀W,Below w.heap.size w W→qF W W.heap.size (.agg #[.int .i64 p.ver,.int .i64 p.par,.slice A2 b2 a2,.slice A3 b3 a3,.slice A4 b4 a4,.slice A5 b5 a5]) p):=zD0 (fun W b=>⟨_,_,_,_,rfl,⟨(P2.out.below zN b).more zN b.size,(P3.out.below zM b).more zM b.size,(P4.out.below zP b).more zP b.size,(P5.out.below qM b).more qM b.size⟩⟩)
 have SV:Hid (∀W,Below w.heap.size w W→qL W W.heap.size (.agg #[.slice S0 Sn0 Sc0,.slice S1 Sn1 Sc1,.slice S2 Sn2 Sc2]) s):=zD0 (fun W b=>⟨_,_,_,rfl,⟨(HS0.out.below xY b).more xY b.size,(HS1.out.below zP b).more zP b.size,(HS2.out.below xQ b).more xQ b.size⟩⟩)
 clear P2 P3 P4 P5
 obtain⟨k0,k1,k2,k3,k4,k5⟩:=zE X.out
 go_wp2_with fail
 refine(hs.check _ p q (PV.out q BQ.out)).mono ?_
 rintro e w1 ⟨rfl,b1⟩
 clear k0 k1 k2 k3 k4 k5
 have tX:=((b1).block _ (zA X.out)).trans X.out
 have tY:=((b1).block _ (zA Y.out)).trans Y.out
 have tZ:=((b1).block _ (zA Z.out)).trans Z.out
 have tB:=BQ.out.trans ((b1).mono (by have:=BQ.out.size;have:=PW.out;omega))
 clear X Y Z BQ
 have X:=zD0 tX
 have Y:=zD0 tY
 have Z:=zD0 tZ
 have BQ:=zD0 tB
 clear tX tY tZ tB
 clear b1
 rcases zC4 p with⟨he,hS⟩|⟨he,hS⟩
 rotate_left
 ·rw[he]
  have HE:Hid (kI p s=100):=zD0 (by rw[kI,vR hS];rfl)
  clear he hS
  go_wp2_with ((with_reducible show wpList _ _ _ (⟨none,.store _ _ _,_,_,_,_⟩::_) _ _);refine zK rfl _ (.tmp 4) (.tmp 21) rfl (p0+2) rfl (c':=#[.map none,.map none]) rfl Z.out zA1 rfl (by simp[Value.oneCell']) ?_)
  exact bodyPost_ret (qA (c:=#[.map none,.map none]) rfl _ _ (p0+2) rfl (setRow_heap _ _ _ _ _ _ Z.out) Tryz.underlying70 zA1 (.int .i64 100) rfl) rfl ⟨⟨none,none,by rw[HE.out],zD0 fun h=>absurd h (by rw[HE.out];decide)⟩,below_setRow BQ.out (by have:=PW.out;omega) _⟩
 rw[he]
 have HSD:=zD0 hS
 have hAE:allE p=0:=all_good hS.may (fun k hk=>(hS.each k hk).hangs)
 have hAW:allW p=p.routes.map (kH p):=by
  rcases zBe p with⟨-,-,h2,-⟩|⟨h1,-⟩
  ·exact h2
  ·exact absurd hAE h1
 have AE:=zD0 hAE
 have AW:=zD0 hAW
 clear he hS hAE hAW
 obtain⟨k0,k1,k2,k3,k4,k5⟩:=zE X.out
 go_wp2_with fail
 refine(pall_any _ p w1 (PV.out w1 BQ.out)).mono ?_
 rintro e w2 ⟨u1,u2,rfl,hw,hj,b1⟩
 obtain⟨W1,e1,rfl⟩:=hw.slice
 rw[AE.out]
 rw[AW.out] at hw⊢
 obtain⟨wn,hwn⟩:=zD1 ((p.routes.map (kH p)).length)
 have WO:Hid (zB0 w2 w1.heap.size (.slice W1 wn e1) (p.routes.map (kH p))):=zD0 (by rw[hwn];exact hw)
 have WN:Hid (wn=p.routes.length):=zD0 (by rw[hwn,List.length_map])
 have hwb:wn≤9223372036854775807:=by rw[WN.out];have:=HSD.out.may.n;omega
 rw[←hwn]
 have WS:Hid (xC 4 (WayO w1.heap.size) w2 w2.heap.size (.slice W1 wn e1) (p.routes.map (kH p))):=zD0 (WO.out.in_ wayO_cells)
 clear hw hj hwn k0 k1 k2 k3 k4 k5 WO
 have tX:=((b1).block _ (zA X.out)).trans X.out
 have tY:=((b1).block _ (zA Y.out)).trans Y.out
 have tZ:=((b1).block _ (zA Z.out)).trans Z.out
 have tB:=BQ.out.trans ((b1).mono (by have:=BQ.out.size;have:=PW.out;omega))
 clear X Y Z BQ
 have X:=zD0 tX
 have Y:=zD0 tY
 have Z:=zD0 tZ
 have BQ:=zD0 tB
 clear tX tY tZ tB
 clear b1
 have d0:((0:Int) != 0)=false:=by decide
 obtain⟨k0,k1,k2,k3,k4,k5⟩:=zE X.out
 obtain⟨j0,j1,j2⟩:=zC Y.out
 go_wp2_with fail
 refine(fits_any _ _ p s w2 (PV.out w2 BQ.out) (SV.out w2 BQ.out)).mono ?_
 rintro e w3 ⟨rfl,b1⟩
 clear k0 k1 k2 k3 k4 k5 j0 j1 j2 d0
 have WS':Hid (xC 4 (WayO w1.heap.size) w3 w3.heap.size (.slice W1 wn e1) (p.routes.map (kH p))):=zD0 ((WS.out.below (wayO w1.heap.size) b1).more (wayO w1.heap.size) b1.size)
 have tX:=((b1).block _ (zA X.out)).trans X.out
 have tY:=((b1).block _ (zA Y.out)).trans Y.out
 have tZ:=((b1).block _ (zA Z.out)).trans Z.out
 have tB:=BQ.out.trans ((b1).mono (by have:=BQ.out.size;have:=PW.out;omega))
 clear X Y Z BQ
 have X:=zD0 tX
 have Y:=zD0 tY
 have Z:=zD0 tZ
 have BQ:=zD0 tB
 clear tX tY tZ tB
 clear b1 WS
 by_cases hP:vV p s
 rotate_left
 ·rw[jT hP]
  have HE:Hid (kI p s=8):=zD0 (bad_staE HSD.out fun g=>hP g.parts)
  clear hP
  go_wp2_with ((with_reducible show wpList _ _ _ (⟨none,.store _ _ _,_,_,_,_⟩::_) _ _);refine zK rfl _ (.tmp 4) (.tmp 37) rfl (p0+2) rfl (c':=#[.map none,.map none]) rfl Z.out zA1 rfl (by simp[Value.oneCell']) ?_)
  exact bodyPost_ret (qA (c:=#[.map none,.map none]) rfl _ _ (p0+2) rfl (setRow_heap _ _ _ _ _ _ Z.out) Tryz.underlying70 zA1 (.int .i64 8) rfl) rfl ⟨⟨none,none,by rw[HE.out],zD0 fun h=>absurd h (by rw[HE.out];decide)⟩,below_setRow BQ.out (by have:=PW.out;omega) _⟩
 rw[zC2 hP]
 have HP:=zD0 hP
 have WNL:Hid (wn=s.lk.length∧Sn2=wn):=zD0 ⟨by rw[WN.out,hP.nl],by rw[NS.out.2.2,hP.nl,WN.out]⟩
 clear hP
 have hmm:=@run_makeMap Tryz.prog
 obtain⟨hx,hy,hz,hqb⟩:=vK w3 (.map #[] 0) (.map #[] 0) (.cells #[.map (some w3.heap.size),.map (some (w3.heap.size+1))] 70)
 go_upto_region 10 with fail
 generalize ((w3.alloc (.map #[] 0)).alloc (.map #[] 0)).alloc (.cells #[.map (some w3.heap.size),.map (some (w3.heap.size+1))] 70)=q4 at hx hy hz hqb⊢
 obtain⟨m1,hm1⟩:=zD1 (w3.heap.size)
 obtain⟨m2,hm2⟩:=zD1 (w3.heap.size+1)
 obtain⟨pc,hpc⟩:=zD1 (w3.heap.size+2)
 rw[←hpc] at hz⊢
 rw[←hm2] at hy hz⊢
 rw[←hm1] at hx hz⊢
 have MM:Hid (m1=w3.heap.size∧m2=m1+1∧pc=m1+2):=zD0 ⟨hm1,by omega,by omega⟩
 have A1:Hid (xF q4 m1 []):=zD0 hx
 have A2:Hid (xF q4 m2 []):=zD0 hy
 have C:=zD0 hz
 have XL:Hid (p0+2<m1):=zD0 (by rw[hm1];exact zA Z.out)
 have B4:Hid (Below m1 w3 q4):=zD0 (by rw[hm1];exact hqb)
 clear hx hy hz hqb hm1 hm2 hpc hmm
 go_wp2_with fail
 go_loopw [43] (fun s43 wr=>∃i:Nat,i≤wn∧s43 = .int .i64 i∧(∃es fs,xF wr m1 es∧xF wr m2 fs∧Hid (vM p s i es fs))∧wr.heap[pc]? = some (.cells #[.map (some m1),.map (some m2)] 70 (0,0))∧Below m1 w3 wr) (fun s43 _=>wn-(intOf s43).toNat)
 case atStart=>exact⟨0,by omega,by go_num,⟨[],[],A1.out,A2.out,zD0 (claim_zero p s)⟩,C.out,B4.out⟩
 case round=>
  obtain⟨i,hi,rfl,⟨es,fs,h1,h2,CL⟩,hc,hb⟩:=hrel
  have M1:=zD0 h1
  have M2:=zD0 h2
  have CW:=zD0 hc
  have BW:=zD0 hb
  have hMW:m1≤w3.heap.size:=Nat.le_of_eq MM.out.1
  have hMR:m1≤wr.heap.size:=Nat.le_trans hMW hb.size
  have HMR:=zD0 hMR
  have XW:=zD0 ((hb.block _ (by have:=XL.out;omega)).trans X.out)
  have YW:=zD0 ((hb.block _ (by have:=XL.out;omega)).trans Y.out)
  have ZW:=zD0 ((hb.block _ (by have:=XL.out;omega)).trans Z.out)
  have BA:Hid (Below w.heap.size w wr):=zD0 (BQ.out.trans (hb.mono (by have:=XL.out;have:=PW.out;omega)))
  clear h1 h2 hc hb hMW hMR
  by_cases hlt:i<wn
  ·have hlt':(i:Int)<wn:=by omega
   have hlt2:(i:Int)<Sn2:=by rw[WNL.out.2];omega
   have hir:i<p.routes.length:=by have:=WN.out;omega
   have hil:i<s.lk.length:=by have:=WNL.out.1;omega
   obtain⟨bw,ow,ew,hbw,ha3,A0_,A1_,A2_,ha0,ha1,ha2,hwa,-⟩:=(WS'.out.below (wayO w1.heap.size) (show Below w3.heap.size w3 wr by rw[←MM.out.1];exact BW.out)).at (j:=i) (by rw[List.length_map];exact hir)
   cases ew
   rw[List.getElem_map] at ha3 hwa
   obtain⟨x,hx⟩:=zD1 (kH p p.routes[i])
   rw[←hx] at ha3 hwa
   obtain⟨B0_,d0_,rfl⟩:=hwa.path.slice
   obtain⟨B1_,d1_,rfl⟩:=hwa.over.slice
   obtain⟨B2_,d2_,rfl⟩:=hwa.asks.slice
   obtain⟨n0,hn0⟩:=zD1 (x.path.length)
   obtain⟨n1,hn1⟩:=zD1 (x.over.length)
   obtain⟨n2,hn2⟩:=zD1 (x.asks.length)
   obtain⟨nr,hnr⟩:=zD1 (x.near)
   have IN:=zD0 hwa.in_
   rw[←hn0,←hn1,←hn2] at IN
   rw[←hn0] at ha0
   rw[←hn1] at ha1
   rw[←hn2] at ha2
   rw[←hnr] at ha3
   have HNN:Hid (n0=x.path.length∧n1=x.over.length∧n2=x.asks.length):=zD0 ⟨hn0,hn1,hn2⟩
   obtain⟨bk,off,ek,hbk,hc0,hc1,hc2,hc3,-,-⟩:=(HS2.out.below xQ BA.out).at hil
   cases ek
   obtain⟨a,b,c,d,hl⟩:∃a b c d,s.lk[i]=(a,b,c,d):=⟨_,_,_,_,rfl⟩
   have HE:Hid (jH p s i=yE x b c∧jN p s i=kR x b c∧(lkN s i).1=a):=zD0 ⟨by rw[heldW_at hil,vP hir,hl,hx],by rw[askedW_at hil,vP hir,hl,hx],by rw[lkN_at hil,hl]⟩
   have HG:Hid (b≠0→0≤c∧c<(x.path.length:Int)):=zD0 (by have h:=zDg HSD.out.may HP.out hil;rw[hl,vP hir] at h;rw[hx];exact h)
   have H8:Hid (x.path.length+x.over.length≤1000):=zD0 (by rw[hx];exact way_eight15 HSD.out.may hir)
   have HIL:=zD0 hil
   rw[hl] at hc0 hc1 hc2 hc3
   dsimp only at hc0 hc1 hc2 hc3
   have HBK:Hid (bk<m1):=zD0 (by have:=XL.out;have:=PW.out;omega)
   have G0:Hid (wr.cell? ⟨bk,off+i*4,none⟩=some (.int .i64 a)):=zD0 hc0
   have G1:Hid (wr.cell? ⟨bk,off+i*4+1,none⟩=some (.int .u8 b)):=zD0 hc1
   have G2:Hid (wr.cell? ⟨bk,off+i*4+2,none⟩=some (.int .i64 c)):=zD0 hc2
   have G3:Hid (wr.cell? ⟨bk,off+i*4+3,none⟩=some (.int .i64 d)):=zD0 hc3
   have g0:wr.cell? ⟨bw,ow+i*4,none⟩=some (.slice B0_ n0 d0_):=ha0
   have g1:wr.cell? ⟨bw,ow+i*4+1,none⟩=some (.slice B1_ n1 d1_):=ha1
   have g2:wr.cell? ⟨bw,ow+i*4+2,none⟩=some (.slice B2_ n2 d2_):=ha2
   have g3:wr.cell? ⟨bw,ow+i*4+3,none⟩=some (.int .i64 nr):=ha3
   obtain⟨q5,hq5⟩:=zD1 (wr.alloc (.cells #[.slice B0_ n0 d0_,.slice B1_ n1 d1_,.slice B2_ n2 d2_,.int .i64 nr] 96))
   have x5:=zB wr (.cells #[.slice B0_ n0 d0_,.slice B1_ n1 d1_,.slice B2_ n2 d2_,.int .i64 nr] 96)
   have b5:=zD wr (.cells #[.slice B0_ n0 d0_,.slice B1_ n1 d1_,.slice B2_ n2 d2_,.int .i64 nr] 96)
   rw[←hq5] at x5 b5
   have HQ5:=zD0 hq5
   have B5:=zD0 b5
   have X5:=zD0 x5
   clear hc0 hc1 hc2 hc3 ha0 ha1 ha2 ha3 hwa hn0 hn1 hn2 hnr hx hl hbw hbk hq5 x5 b5 hir hil
   go_upto_region 13 with fail
   rw[←HQ5.out]
   clear g0 g1 g2 g3 HQ5
   have C5:=zD0 ((B5.out.block _ (zA CW.out)).trans CW.out)
   have Y5:=zD0 ((B5.out.block _ (zA YW.out)).trans YW.out)
   have Z5:=zD0 ((B5.out.block _ (zA ZW.out)).trans ZW.out)
   have M15:Hid (xF q5 m1 es):=zD0 ((B5.out.block _ M1.out.lt).trans M1.out)
   have M25:Hid (xF q5 m2 fs):=zD0 ((B5.out.block _ M2.out.lt).trans M2.out)
   have IN5:Hid (WyIn q5 q5.heap.size (.slice B0_ n0 d0_) (.slice B1_ n1 d1_) (.slice B2_ n2 d2_) x):=zD0 ((IN.out.below B5.out).more B5.out.size)
   have G05:=zD0 ((B5.out.cell (zG G0.out)).trans G0.out)
   have G15:=zD0 ((B5.out.cell (zG G1.out)).trans G1.out)
   have G25:=zD0 ((B5.out.cell (zG G2.out)).trans G2.out)
   have G35:=zD0 ((B5.out.cell (zG G3.out)).trans G3.out)
   have BW5:Hid (Below m1 w3 q5):=zD0 (BW.out.trans (B5.out.mono HMR.out))
   obtain⟨pw,hpw⟩:=zD1 (wr.heap.size)
   rw[←hpw] at X5⊢
   have PWN:Hid (pw≠m1∧pw≠m2):=zD0 (by have h1:=M1.out.lt;have h2:=M2.out.lt;omega)
   obtain⟨CF,hCF⟩:=zD1 (okB (okH es (yE x b c)∧okA fs (kR x b c)))
   have HCF:=zD0 hCF
   clear hpw hCF G0 G1 G2 G3 IN M1 M2 CW YW ZW B5 BW BA XW
   refine wp_region_held_drew (S:=fun v=>Below m1 q5 v∧v.heap[pc]? = some (.cells #[.map (some m1),.map (some m2)] 70 (0,0))∧v.heap[pw]? = some (.cells #[.slice B0_ n0 d0_,.slice B1_ n1 d1_,.slice B2_ n2 d2_,.int .i64 nr] 96 (0,0))) (by kernel_rfl) ⟨(Below.refl m1 q5).drew,C5.out,X5.out⟩ (fun zD2=>?_)
   refine tkc 0 zD2 (fun w' hSw=>zI hSw.2.1) ?_;refine tkc 1 zD2 (fun w' hSw=>qC hSw.2.2) ?_;refine tk 2 zD2 ?_
   refine wpAnyH_take (i:=3) (v:=?_) rfl (by kernel_rfl) (by kernel_rfl) (by kernel_rfl) (fun _ _ _ h=>h) (Or.inl ⟨by rfl,?_⟩) zD2 ?_
   rotate_left
   ·intro w' hSw;obtain⟨cy0,cy1,cy2⟩:=zC ((hSw.1.block _ (by have:=XL.out;omega)).trans Y5.out);go_simp;try with_reducible rfl
   simp only[zn,Act.put]
   refine tk 4 zD2 ?_;refine tk 5 zD2 ?_
   refine wpAnyH_take (i:=6) (v:=?_) rfl (by kernel_rfl) (by kernel_rfl) (by kernel_rfl) (fun _ _ _ h=>h) (Or.inl ⟨by rfl,?_⟩) zD2 ?_
   rotate_left
   ·intro w' hSw;have cl0:=(hSw.1.cell (p:=⟨bk,off+i*4,none⟩) HBK.out).trans G05.out;have cl1:=(hSw.1.cell (p:=⟨bk,off+i*4+1,none⟩) HBK.out).trans G15.out;have cl2:=(hSw.1.cell (p:=⟨bk,off+i*4+2,none⟩) HBK.out).trans G25.out;have cl3:=(hSw.1.cell (p:=⟨bk,off+i*4+3,none⟩) HBK.out).trans G35.out;go_simp;try with_reducible rfl
   simp only[zn,Act.put]
   refine tkr 7 (fun K hK=>?_)
   go_simp
   refine(take_any B0_ B1_ B2_ n0 n1 n2 d0_ d1_ d2_ nr x a b c d m1 m2 es fs q5.drew ((IN5.out.below (Below.refl _ _).drew).more (Below.refl q5.heap.size q5).drew.size) HNN.out HG.out H8.out (by have:=MM.out;omega) M15.out M25.out CL.out.nd CL.out.nd2 (claim_vals CL.out)).mono ?_
   rintro e w6 ⟨rfl,⟨es',fs',h1,h2,HES⟩,HFR⟩
   rw[←HCF.out]
   have BM:Hid (Below m1 q5 w6):=zD0 ((Below.refl m1 q5).drew.trans (HFR.out.1 m1 (Nat.le_refl _) (by have:=MM.out;omega)))
   have CP:Hid (w6.heap[pc]? = some (.cells #[.map (some m1),.map (some m2)] 70 (0,0))):=zD0 ((HFR.out.2 pc (zA C5.out) (by have:=MM.out;omega) (by have:=MM.out;omega)).trans C5.out)
   have XP:Hid (w6.heap[pw]? = some (.cells #[.slice B0_ n0 d0_,.slice B1_ n1 d1_,.slice B2_ n2 d2_,.int .i64 nr] 96 (0,0))):=zD0 ((HFR.out.2 pw (zA X5.out) PWN.out.1 PWN.out.2).trans X5.out)
   have N1:=zD0 h1
   have N2:=zD0 h2
   clear h1 h2 HFR
   try go_wp2_with fail
   refine hK.out _ _ ?_ fun zD2=>?_;exact⟨BM.out,CP.out,XP.out⟩;clear hK K;try simp only[zn,Act.put]
   refine tk 8 zD2 ?_
   refine wpAnyH_done (by kernel_rfl) ?_ _
   have BW6:Hid (Below m1 w3 w6):=zD0 (BW5.out.trans BM.out)
   have C6:=zD0 CP.out
   have Z6:=zD0 ((BM.out.block _ XL.out).trans Z5.out)
   clear BM CP BW5 C5 Z5 M15 M25 IN5 X5 Y5 G05 G15 G25 G35 HBK
   cases hcf:CF with
   | true=>
    have OKS:okH es (yE x b c)∧okA fs (kR x b c):=by
     have h:=HCF.out
     rw[hcf] at h
     refine Classical.byContradiction fun hn=>?_
     rw[zBv hn] at h
     cases h
    obtain⟨rfl,rfl⟩:=HES.out OKS.1 OKS.2
    have CL':Hid (vM p s (i+1) (putH es a (yE x b c)) (putA fs (kR x b c))):=zD0 (by
     have h:=claim_step CL.out (by rw[HE.out.1];exact OKS.1) (by rw[HE.out.2.1];exact OKS.2)
     rw[HE.out.1,HE.out.2.1,HE.out.2.2] at h
     exact h)
    clear hcf OKS HCF HES CL
    go_wp2_with fail
    go_roundw
    case measure=>simp[intOf];omega
    case rel=>exact⟨i+1,by omega,by go_num,⟨_,_,N1.out,N2.out,CL'⟩,C6.out,BW6.out⟩
   | false=>
    have HE8:Hid (kI p s=8):=zD0 (by
     refine bad_staE HSD.out (claim_bad HSD.out.may HP.out CL.out HIL.out fun h=>?_)
     rw[HE.out.1,HE.out.2.1] at h
     have h2:=HCF.out
     rw[hcf,yP h] at h2
     cases h2)
    have BF:Hid (Below w.heap.size w w6):=zD0 (BQ.out.trans (BW6.out.mono (by have:=XL.out;have:=PW.out;omega)))
    clear hcf HCF HES CL
    go_wp2_with ((with_reducible show wpList _ _ _ (⟨none,.store _ _ _,_,_,_,_⟩::_) _ _);refine zK rfl _ (.tmp 4) (.tmp 57) rfl (p0+2) rfl (c':=#[.map none,.map none]) rfl Z6.out zA1 rfl (by simp[Value.oneCell']) ?_)
    exact bodyPost_ret (qA (c:=#[.map none,.map none]) rfl _ _ (p0+2) rfl (setRow_heap _ _ _ _ _ _ Z6.out) Tryz.underlying70 zA1 (.int .i64 8) rfl) rfl ⟨⟨none,none,by rw[HE8.out],zD0 fun h=>absurd h (by rw[HE8.out];decide)⟩,below_setRow BF.out (by have:=PW.out;omega) _⟩
  ·obtain rfl:i=wn:=by omega
   obtain⟨wo,hwo⟩:=zD1 (wr)
   subst hwo
   have hlt':¬(i:Int)<i:=by omega
   have CL':Hid (vM p s s.lk.length es fs):=zD0 (by rw[←WNL.out.1];exact CL.out)
   obtain⟨j0,j1,j2⟩:=zC YW.out
   go_upto_region 17 with fail
   clear j0 j1 j2
   go_loopw [62] (fun s62 wz=>∃j:Nat,j≤Sn1∧s62 = .int .i64 j∧Hid (∀m (hm:m<s.sw.length),m<j→∀lie,qS fs s.sw[m].1=some (.int .i64 lie)→lie=s.sw[m].2.2)∧Below wo.heap.size wo wz) (fun s62 _=>Sn1-(intOf s62).toNat)
   case atStart=>exact⟨0,by omega,by go_num,zD0 (fun m hm h=>absurd h (by omega)),Below.refl _ _⟩
   case round=>
    obtain⟨wz,hwz⟩:=zD1 (wr)
    subst hwz
    obtain⟨j,hj,rfl,HALL,hbz⟩:=hrel
    have CZ:=zD0 ((hbz.block _ (zA CW.out)).trans CW.out)
    have ZZ:=zD0 ((hbz.block _ (zA ZW.out)).trans ZW.out)
    have M1Z:Hid (xF wz m1 es):=zD0 ((hbz.block _ M1.out.lt).trans M1.out)
    have M2Z:Hid (xF wz m2 fs):=zD0 ((hbz.block _ M2.out.lt).trans M2.out)
    have BZ:Hid (Below w.heap.size w wz):=zD0 (BA.out.trans (hbz.mono BA.out.size))
    have BZR:=zD0 hbz
    clear hbz
    by_cases hlj:j<Sn1
    ·have hlj':(j:Int)<Sn1:=by omega
     have hjr:j<s.sw.length:=by have:=NS.out.2.1;omega
     obtain⟨bk,off,ek,hbk,hc0,hc1,hc2⟩:=(HS1.out.below zP BZ.out).at hjr
     cases ek
     obtain⟨ka,kb,kc,hl⟩:∃a b c,s.sw[j]=(a,b,c):=⟨_,_,_,rfl⟩
     have HK:=zD0 hl
     have HJ:=zD0 hjr
     rw[hl] at hc0 hc1 hc2
     dsimp only at hc0 hc1 hc2
     have g0:wz.cell? ⟨bk,off+j*3,none⟩=some (.int .i64 ka):=hc0
     have g1:wz.cell? ⟨bk,off+j*3+1,none⟩=some (.int .i64 kb):=hc1
     have g2:wz.cell? ⟨bk,off+j*3+2,none⟩=some (.int .i64 kc):=hc2
     obtain⟨q7,hq7⟩:=zD1 (wz.alloc (.cells #[.int .i64 ka,.int .i64 kb,.int .i64 kc] 55))
     have x7:=zB wz (.cells #[.int .i64 ka,.int .i64 kb,.int .i64 kc] 55)
     have b7:=zD wz (.cells #[.int .i64 ka,.int .i64 kb,.int .i64 kc] 55)
     rw[←hq7] at x7 b7
     have HQ7:=zD0 hq7
     have B7:=zD0 b7
     have X7:=zD0 x7
     clear hc0 hc1 hc2 hl hbk hq7 x7 b7
     go_upto_region 19 with fail
     rw[←HQ7.out]
     clear g0 g1 g2 HQ7
     have C7:=zD0 ((B7.out.block _ (zA CZ.out)).trans CZ.out)
     have Z7:=zD0 ((B7.out.block _ (zA ZZ.out)).trans ZZ.out)
     have M27:Hid (xF q7 m2 fs):=zD0 ((B7.out.block _ M2Z.out.lt).trans M2Z.out)
     have BF:Hid (Below w.heap.size w q7∧Below wo.heap.size wo q7):=zD0 ⟨BZ.out.trans (B7.out.mono BZ.out.size),BZR.out.trans (B7.out.mono BZR.out.size)⟩
     obtain⟨k0,k1⟩:=zI C7.out
     generalize wz.heap.size=pz at X7⊢
     obtain⟨m0,m1_,m2_⟩:=zC X7.out
     obtain⟨sm,hsm⟩:∃t:Bool,t=(qS fs ka).isSome:=⟨_,rfl⟩
     have HS:=zD0 hsm
     clear hsm
     obtain⟨z,hz⟩:∃z:Int,(qS fs ka).getD (.int .i64 0) = .int .i64 z∧(sm=true→qS fs ka=some (.int .i64 z)):=by
      cases e:qS fs ka with
      | none=>exact⟨0,rfl,fun h=>by rw[HS.out,e] at h;cases h⟩
      | some v=>
       obtain⟨z,rfl⟩:=claim_vals CL'.out ka v e
       exact⟨z,rfl,fun _=>rfl⟩
     have HZ:=zD0 hz.1
     have HY:=zD0 hz.2
     clear hz
     go_upto_region 20 with(((with_reducible show wpList _ _ _ (⟨some 71,.lookup _ _ _ _,_,_,_,_⟩::_) _ _);refine yB _ rfl (.tmp 68) (.tmp 70) 68 3 true rfl Tryz.underlying3 Tryz.underlying68 (zeroI15 _) m2 fs ka rfl rfl M27.out ?_;rw[if_pos rfl]);rw[←HS.out,HZ.out])
     cases hsmc:sm with
     | false=>
      have HN:Hid (∀m (hm:m<s.sw.length),m<j+1→∀lie,qS fs s.sw[m].1=some (.int .i64 lie)→lie=s.sw[m].2.2):=zD0 (fun m hm h lie hlie=>by
       rcases Nat.lt_or_ge m j with h2|h2
       ·exact HALL.out m hm h2 lie hlie
       ·obtain rfl:m=j:=by omega
        have h3:=HS.out
        rw[HK.out] at hlie
        rw[hsmc,hlie] at h3
        cases h3)
      clear hsmc
      go_wp2_with fail
      go_roundw
      case measure=>simp[intOf];omega
      case rel=>exact⟨j+1,by omega,by go_num,HN,BF.out.2⟩
     | true=>
      by_cases hzk:z=kc
      ·have hzk':(z != kc)=false:=by simpa using hzk
       have HN:Hid (∀m (hm:m<s.sw.length),m<j+1→∀lie,qS fs s.sw[m].1=some (.int .i64 lie)→lie=s.sw[m].2.2):=zD0 (fun m hm h lie hlie=>by
        rcases Nat.lt_or_ge m j with h2|h2
        ·exact HALL.out m hm h2 lie hlie
        ·obtain rfl:m=j:=by omega
         have h3:=HY.out hsmc
         rw[HK.out] at hlie⊢
         rw[h3] at hlie
         injection hlie with hlie
         injection hlie with _ hlie
         rw[←hlie];exact hzk)
       clear hsmc hzk
       go_wp2_with fail
       go_roundw
       case measure=>simp[intOf];omega
       case rel=>exact⟨j+1,by omega,by go_num,HN,BF.out.2⟩
      ·have hzk':(z != kc)=true:=by simpa using hzk
       have HE8:Hid (kI p s=8):=zD0 (bad_staE HSD.out (claim_call HSD.out HP.out CL'.out HJ.out (lie:=z) (by rw[HK.out];exact HY.out hsmc) (by rw[HK.out];exact hzk)))
       have BF1:=zD0 BF.out.1
       clear hsmc hzk
       go_wp2_with ((with_reducible show wpList _ _ _ (⟨none,.store _ _ _,_,_,_,_⟩::_) _ _);refine zK rfl _ (.tmp 4) (.tmp 81) rfl (p0+2) rfl (c':=#[.map none,.map none]) rfl Z7.out zA1 rfl (by simp[Value.oneCell']) ?_)
       exact bodyPost_ret (qA (c:=#[.map none,.map none]) rfl _ _ (p0+2) rfl (setRow_heap _ _ _ _ _ _ Z7.out) Tryz.underlying70 zA1 (.int .i64 8) rfl) rfl ⟨⟨none,none,by rw[HE8.out],zD0 fun h=>absurd h (by rw[HE8.out];decide)⟩,below_setRow BF1.out (by have:=PW.out;omega) _⟩
    ·obtain rfl:j=Sn1:=by omega
     have hlj':¬(j:Int)<j:=by omega
     have HE0:Hid (kI p s=0):=zD0 (by rw[kI,if_pos (kW HSD.out),if_pos (zDs.2 (claim_may HSD.out HP.out CL'.out fun n hn lie h=>HALL.out n hn (by have:=NS.out.2.1;omega) lie h))])
     obtain⟨k0,k1⟩:=zI CZ.out
     go_wp2_with ((with_reducible show wpList _ _ _ (⟨none,.store _ _ _,_,_,_,_⟩::_) _ _);refine zK rfl _ (.tmp 4) (.tmp 83) rfl (p0+2) rfl (c':=#[.map (some m1),.map (some m2)]) rfl ZZ.out zA1 rfl (by simp[Value.oneCell']) ?_)
     exact bodyPost_ret (qA (c:=#[.map (some m1),.map (some m2)]) rfl _ _ (p0+2) rfl (setRow_heap _ _ _ _ _ _ ZZ.out) Tryz.underlying70 zA1 (.int .i64 0) rfl) rfl ⟨⟨some m1,some m2,by rw[HE0.out],zD0 fun _=>⟨m1,m2,es,fs,rfl,rfl,map_setRow15 M1Z.out (by have:=XL.out;omega),map_setRow15 M2Z.out (by have:=XL.out;have:=MM.out;omega),CL'.out⟩⟩,below_setRow BZ.out (by have:=PW.out;omega) _⟩
end Go.Proofs.YtemmgmjhomgbbaaGreat
