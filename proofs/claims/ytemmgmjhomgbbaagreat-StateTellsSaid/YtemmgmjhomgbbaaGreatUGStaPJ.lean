/-
 The program's package state: Image.
 Conditions: none.
-/
import Derived.Test.YtemmgmjhomgbbaaGreatUGStaPI
import Derived.Test.YtemmgmjhomgbbaaGreatUStaPH
import Derived.Test.YtemmgmjhomgbbaaGreatUStaMix
import Derived.Test.YtemmgmjhomgbbaaGreatUGStaPC
import Derived.Test.YtemmgmjhomgbbaaGreatUGStaMem
import Derived.Test.YtemmgmjhomgbbaaGreatUGSndPA
set_option linter.unusedVariables false
set_option linter.unusedSimpArgs false
set_option maxRecDepth 100000
namespace Go.Proofs.YtemmgmjhomgbbaaGreat
open Go.RowKit
theorem st_setSw1 {W:World} {lo:Nat} {u0 u1 u2:Value} {s:qD} (h:qY W lo u0 u1 u2 s) {i:Nat} (hi:i<s.sw.length) (z:Int):
  ∃g c,u1 = .slice (some ⟨g,0,none⟩) s.sw.length c∧lo≤g∧(∃cur,W.heap[g]? = some (.cells cur 55 (0,0)))∧qY (W.setCell ⟨g,i*3+1,none⟩ (.int .i64 z)) lo u0 u1 u2 ⟨s.tr,s.sw.set i (s.sw[i].1,z,s.sw[i].2.2),s.lk⟩:=by
 obtain⟨g,c,e,hlo,hcur,ho⟩:=zB2 (R:=SigR) (sz:=3) (k:=1) (x:=.int .i64 z) (y:=(s.sw[i].1,z,s.sw[i].2.2)) zAc h.sw hi (by decide) (fun c hc=>by exact⟨hc.1,rfl,hc.2.2⟩)
 exact⟨g,c,e,hlo,hcur,xD trkF h.tr (zU W g _ _) (by decide) hcur,ho,xD lckF h.lk (zU W g _ _) (by decide) hcur⟩
theorem zBp {W:World} {lo:Nat} {u0 u1 u2:Value} {s:qD} (h:qY W lo u0 u1 u2 s) {i:Nat} (hi:i<s.lk.length) (z:Int):
  ∃g c,u2 = .slice (some ⟨g,0,none⟩) s.lk.length c∧lo≤g∧(∃cur,W.heap[g]? = some (.cells cur 53 (0,0)))∧qY (W.setCell ⟨g,i*4+3,none⟩ (.int .i64 z)) lo u0 u1 u2 ⟨s.tr,s.sw,s.lk.set i (s.lk[i].1,s.lk[i].2.1,s.lk[i].2.2.1,z)⟩:=by
 obtain⟨g,c,e,hlo,hcur,ho⟩:=zB2 (R:=LckR) (sz:=4) (k:=3) (x:=.int .i64 z) (y:=(s.lk[i].1,s.lk[i].2.1,s.lk[i].2.2.1,z)) lckF h.lk hi (by decide) (fun c hc=>by exact⟨hc.1,hc.2.1,hc.2.2.1,rfl,hc.2.2.2.2⟩)
 exact⟨g,c,e,hlo,hcur,xD trkF h.tr (zU W g _ _) (by decide) hcur,xD zAc h.sw (zU W g _ _) (by decide) hcur,ho⟩
def trI (s:qD):List Trk:=s.tr.map fun x=>(x.1,2)
def swI (s:qD):List Swi:=s.sw.map fun x=>(x.1,0,x.2.2)
def lkI (p:Pl) (s:qD):List Lck:=s.lk.zipIdx.map (fallL p)
theorem yG (s:qD):s.tr.length=(trI s).length:=by simp[trI]
theorem vZ (s:qD):s.sw.length=(swI s).length:=by simp[swI]
theorem qU (p:Pl) (s:qD):s.lk.length=(lkI p s).length:=by simp[lkI]
theorem trI_at {s:qD} {i:Nat} (h:i<(trI s).length):(trI s)[i]=((s.tr[i]'(by rw[yG];exact h)).1,2):=by simp[trI]
theorem swI_at {s:qD} {i:Nat} (h:i<(swI s).length):(swI s)[i]=((s.sw[i]'(by rw[vZ];exact h)).1,0,(s.sw[i]'(by rw[vZ];exact h)).2.2):=by simp[swI]
theorem lkI_at {p:Pl} {s:qD} {i:Nat} (h:i<(lkI p s).length):(lkI p s)[i]=fallL p (s.lk[i]'(by rw[qU p];exact h),i):=by simp[lkI]
theorem fallY15 {p:Pl} {l:Lck} {i:Nat} (h:l.2.1=3∨l.2.1=4):fallL p (l,i)=(l.1,l.2.1,l.2.2.1,(rtN p i).timer):=by unfold fallL;rw[if_pos h]
theorem fallN15 {p:Pl} {a b c d:Int} {i:Nat} (h3:¬b=3) (h4:¬b=4):fallL p ((a,b,c,d),i)=(a,b,c,d):=by unfold fallL;rw[if_neg (by rintro(h|h);exact h3 h;exact h4 h)]
set_option maxHeartbeats 16000000 in
theorem image15_any (hs:zBy) (v y:Value) (p:Pl) (s:qD) (w:World) (h:qF w w.heap.size v p) (h':qL w w.heap.size y s):
  Calls Tryz.prog 14 #[v,y] w fun e w'=>∃u0 u1 u2,e = .returned (.tuple #[.agg #[u0,u1,u2],.int .i64 (kI p s)])∧qY w' w.heap.size u0 u1 u2 (jF p s)∧Below w.heap.size w w':=by
 obtain⟨p2,p3,p4,p5,rfl,h⟩:=h
 obtain⟨A2,a2,rfl,-,-⟩:=h.secs.slice
 obtain⟨b2,hb2⟩:=zD1 (p.secs.length)
 have P2:Hid (zX w w.heap.size (.slice A2 b2 a2) p.secs):=zD0 (by rw[hb2];exact h.secs)
 rw[←hb2]
 clear hb2
 obtain⟨A3,a3,rfl,-,-⟩:=h.pts.slice
 obtain⟨b3,hb3⟩:=zD1 (p.pts.length)
 have P3:Hid (zT w w.heap.size (.slice A3 b3 a3) p.pts):=zD0 (by rw[hb3];exact h.pts)
 rw[←hb3]
 clear hb3
 obtain⟨A4,a4,rfl,-,-⟩:=h.sigs.slice
 obtain⟨b4,hb4⟩:=zD1 (p.sigs.length)
 have P4:Hid (xI w w.heap.size (.slice A4 b4 a4) p.sigs):=zD0 (by rw[hb4];exact h.sigs)
 rw[←hb4]
 clear hb4
 obtain⟨A5,a5,rfl,-,-⟩:=h.routes.slice
 obtain⟨b5,hb5⟩:=zD1 (p.routes.length)
 have P5:Hid (qX w w.heap.size (.slice A5 b5 a5) p.routes):=zD0 (by rw[hb5];exact h.routes)
 rw[←hb5]
 clear h
 have HB5:Hid (b5=p.routes.length):=zD0 hb5
 clear hb5
 obtain⟨_,_,_,rfl,h'⟩:=h'
 obtain⟨S0,Sc0,rfl,-,-⟩:=h'.tr.slice
 obtain⟨Sn0,hS0⟩:=zD1 (s.tr.length)
 have HS0:Hid (jD w w.heap.size (.slice S0 Sn0 Sc0) s.tr):=zD0 (by rw[hS0];exact h'.tr)
 rw[←hS0]
 obtain⟨S1,Sc1,rfl,-,-⟩:=h'.sw.slice
 obtain⟨Sn1,hS1⟩:=zD1 (s.sw.length)
 have HS1:Hid (xP w w.heap.size (.slice S1 Sn1 Sc1) s.sw):=zD0 (by rw[hS1];exact h'.sw)
 rw[←hS1]
 obtain⟨S2,Sc2,rfl,-,-⟩:=h'.lk.slice
 obtain⟨Sn2,hS2⟩:=zD1 (s.lk.length)
 have HS2:Hid (xO w w.heap.size (.slice S2 Sn2 Sc2) s.lk):=zD0 (by rw[hS2];exact h'.lk)
 rw[←hS2]
 clear h'
 have NSS:Hid (Sn0=s.tr.length∧Sn1=s.sw.length∧Sn2=s.lk.length):=zD0 ⟨hS0,hS1,hS2⟩
 clear hS0 hS1 hS2
 obtain⟨hx,hy,hz,hqb⟩:=vK w (.cells #[.int .i64 p.ver,.int .i64 p.par,.slice A2 b2 a2,.slice A3 b3 a3,.slice A4 b4 a4,.slice A5 b5 a5] 27) (.cells #[.slice S0 Sn0 Sc0,.slice S1 Sn1 Sc1,.slice S2 Sn2 Sc2] 32) (.cells #[.slice none 0 0,.slice none 0 0,.slice none 0 0] 32)
 go_enter Tryz.func14,Tryz.ntmps14
 go_upto_region 1 with fail
 generalize ((w.alloc (.cells #[.int .i64 p.ver,.int .i64 p.par,.slice A2 b2 a2,.slice A3 b3 a3,.slice A4 b4 a4,.slice A5 b5 a5] 27)).alloc (.cells #[.slice S0 Sn0 Sc0,.slice S1 Sn1 Sc1,.slice S2 Sn2 Sc2] 32)).alloc (.cells #[.slice none 0 0,.slice none 0 0,.slice none 0 0] 32)=q at hx hy hz hqb⊢
 have BQ:=zD0 hqb
 have X:=zD0 hx
 have Y:=zD0 hy
 have Z:=zD0 hz
 clear hx hy hz hqb
 have PV:Hid (∀W,Below w.heap.size w W→qF W W.heap.size (.agg #[.int .i64 p.ver,.int .i64 p.par,.slice A2 b2 a2,.slice A3 b3 a3,.slice A4 b4 a4,.slice A5 b5 a5]) p):=zD0 (fun W b=>⟨_,_,_,_,rfl,⟨(P2.out.below zN b).more zN b.size,(P3.out.below zM b).more zM b.size,(P4.out.below zP b).more zP b.size,(P5.out.below qM b).more qM b.size⟩⟩)
 have SV:Hid (∀W,Below w.heap.size w W→qL W W.heap.size (.agg #[.slice S0 Sn0 Sc0,.slice S1 Sn1 Sc1,.slice S2 Sn2 Sc2]) s):=zD0 (fun W b=>⟨_,_,_,rfl,⟨(HS0.out.below xY b).more xY b.size,(HS1.out.below zP b).more zP b.size,(HS2.out.below xQ b).more xQ b.size⟩⟩)
 obtain⟨k0,k1,k2,k3,k4,k5⟩:=zE X.out
 obtain⟨j0,j1,j2⟩:=zC Y.out
 go_wp2_with fail
 refine(check15_any hs _ _ p s q (PV.out q BQ.out) (SV.out q BQ.out)).mono ?_
 rintro e w1 ⟨rfl,b1⟩
 have X1:=zD0 ((b1.block _ (zA X.out)).trans X.out)
 have Y1:=zD0 ((b1.block _ (zA Y.out)).trans Y.out)
 have Z1:=zD0 ((b1.block _ (zA Z.out)).trans Z.out)
 have B1:=zD0 (BQ.out.trans (b1.mono BQ.out.size))
 clear b1 k0 k1 k2 k3 k4 k5 j0 j1 j2 X Y Z BQ
 obtain⟨E,hE⟩:=zD1 (kI p s)
 have HE:=zD0 hE
 rw[←hE]
 clear hE
 by_cases h0:E=0
 rotate_left
 ·have h0':(E != 0)=true:=by simpa using h0
  have HR:Hid (kI p s=E∧jF p s=noS):=zD0 ⟨HE.out.symm,by rw[jF,←HE.out,if_neg h0]⟩
  clear h0
  go_wp2_with ((with_reducible show wpList _ _ _ (⟨none,.store _ _ _,_,_,_,_⟩::_) _ _);refine zK rfl _ (.tmp 4) (.tmp 16) rfl (w.heap.size+2) rfl (c':=#[.slice none 0 0,.slice none 0 0,.slice none 0 0]) rfl Z1.out xL rfl (by simp[Value.oneCell']) ?_)
  exact bodyPost_ret (qA (c:=#[.slice none 0 0,.slice none 0 0,.slice none 0 0]) rfl _ _ (w.heap.size+2) rfl (setRow_heap _ _ _ _ _ _ Z1.out) Tryz.underlying32 xL (.int .i64 E) rfl) rfl ⟨_,_,_,by rw[HR.out.1],by rw[HR.out.2];exact noS_own _ _,below_setRow B1.out (by omega) _⟩
 have HM:Hid (yD p s):=zD0 (by
  have e0:=HE.out
  rw[h0] at e0
  refine Classical.byContradiction fun hn=>?_
  rw[kI,yO.2 hn] at e0
  split at e0<;>cases e0)
 have HR:Hid (kI p s=0∧jF p s=⟨trI s,swI s,lkI p s⟩):=zD0 ⟨by rw[←HE.out,h0],by rw[jF,←HE.out,if_pos h0];rfl⟩
 subst h0
 have FW:Hid (FewS s∧s.lk.length=p.routes.length∧s.tr.length≤16∧s.sw.length≤16∧s.lk.length≤16):=zD0 (by
  have h1:=HM.out.parts.nt
  have h2:=HM.out.parts.ns
  have h3:=HM.out.parts.nl
  have g1:=HM.out.sound.may.secs.n
  have g2:=HM.out.sound.may.pts.n
  have g3:=HM.out.sound.may.n
  unfold FewS
  omega)
 have d0:((0:Int) != 0)=false:=by decide
 obtain⟨j0,j1,j2⟩:=zC Y1.out
 go_wp2_with fail
 refine(twin15_any _ s w1 (SV.out w1 B1.out) FW.out.1).mono ?_
 rintro e w2 ⟨u0,u1,u2,rfl,ho,b2⟩
 have hX2:=(b2.block _ (zA X1.out)).trans X1.out
 have hY2:=(b2.block _ (zA Y1.out)).trans Y1.out
 have hZ2:=(b2.block _ (zA Z1.out)).trans Z1.out
 have hB2:=B1.out.trans (b2.mono B1.out.size)
 have W12:=zD0 b2.size
 have PX:Hid (w.heap.size+2<w1.heap.size):=zD0 (zA Z1.out)
 obtain⟨T0,x0_,rfl⟩:=ho.tr.slice
 obtain⟨T1,x1_,rfl⟩:=ho.sw.slice
 obtain⟨T2,x2_,rfl⟩:=ho.lk.slice
 obtain⟨t0_,ht0⟩:=zD1 (s.tr.length)
 obtain⟨t1_,ht1⟩:=zD1 (s.sw.length)
 obtain⟨t2_,ht2⟩:=zD1 (s.lk.length)
 rw[←ht0,←ht1,←ht2] at ho
 rw[←ht0,←ht1,←ht2]
 have HT:Hid (t0_=s.tr.length∧t1_=s.sw.length∧t2_=s.lk.length):=zD0 ⟨ht0,ht1,ht2⟩
 have hm0:t0_≤9223372036854775807:=by have:=FW.out;omega
 have hm1:t1_≤9223372036854775807:=by have:=FW.out;omega
 have hm2:t2_≤9223372036854775807:=by have:=FW.out;omega
 have HO2:=zD0 ho
 have HY2:=zD0 hY2
 clear b2 j0 j1 j2 d0 ht0 ht1 ht2 ho hY2
 go_upto_region 5 with((with_reducible show wpList _ _ _ (⟨none,.store _ _ _,_,_,_,_⟩::_) _ _);refine zK rfl _ (.tmp 3) (.tmp 19) rfl (w.heap.size+1) rfl (c':=#[.slice T0 t0_ x0_,.slice T1 t1_ x1_,.slice T2 t2_ x2_]) rfl HY2.out xL rfl (by simp[Value.oneCell']) ?_)
 have hg:=qB w2 (w.heap.size+1) #[.slice T0 t0_ x0_,.slice T1 t1_ x1_,.slice T2 t2_ x2_]
 have tO:qY (w2.setRow (w.heap.size+1) #[.slice T0 t0_ x0_,.slice T1 t1_ x1_,.slice T2 t2_ x2_]) w1.heap.size (.slice T0 t0_ x0_) (.slice T1 t1_ x1_) (.slice T2 t2_ x2_) s:=HO2.out.off hg (by have:=PX.out;omega)
 have tX:=(setRow_other w2 (w.heap.size+1) w.heap.size #[.slice T0 t0_ x0_,.slice T1 t1_ x1_,.slice T2 t2_ x2_] (by omega)).trans hX2
 have tZ:=(setRow_other w2 (w.heap.size+1) (w.heap.size+2) #[.slice T0 t0_ x0_,.slice T1 t1_ x1_,.slice T2 t2_ x2_] (by omega)).trans hZ2
 have tY:=setRow_heap w2 (w.heap.size+1) _ #[.slice T0 t0_ x0_,.slice T1 t1_ x1_,.slice T2 t2_ x2_] _ _ HY2.out
 have tB:=below_setRow hB2 (Nat.le_succ w.heap.size) #[.slice T0 t0_ x0_,.slice T1 t1_ x1_,.slice T2 t2_ x2_]
 generalize w2.setRow (w.heap.size+1) #[.slice T0 t0_ x0_,.slice T1 t1_ x1_,.slice T2 t2_ x2_]=w3 at tO tX tY tZ tB⊢
 have O3:=zD0 tO
 have X3:=zD0 tX
 have Y3:=zD0 tY
 have Z3:=zD0 tZ
 have B3:=zD0 tB
 clear tO tX tY tZ tB hg HO2 HY2 hX2 hZ2 hB2
 obtain⟨m0,m1,m2⟩:=zC Y3.out
 go_wp2_with fail
 clear m0 m1 m2
 go_loopw [23] (fun s23 wr=>∃i:Nat,i≤t0_∧s23 = .int .i64 i∧(qY wr w1.heap.size (.slice T0 t0_ x0_) (.slice T1 t1_ x1_) (.slice T2 t2_ x2_) ⟨jC s.tr (trI s) i,s.sw,s.lk⟩∧wr.heap[w.heap.size]? = some (.cells #[.int .i64 p.ver,.int .i64 p.par,.slice A2 b2 a2,.slice A3 b3 a3,.slice A4 b4 a4,.slice A5 b5 a5] 27 (0,0))∧wr.heap[w.heap.size+1]? = some (.cells #[.slice T0 t0_ x0_,.slice T1 t1_ x1_,.slice T2 t2_ x2_] 32 (0,0))∧wr.heap[w.heap.size+2]? = some (.cells #[.slice none 0 0,.slice none 0 0,.slice none 0 0] 32 (0,0))∧Below w.heap.size w wr)) (fun s23 _=>t0_-(intOf s23).toNat)
 case atStart=>exact⟨0,by omega,by go_num,by rw[zBf];exact O3.out,X3.out,Y3.out,Z3.out,B3.out⟩
 case round=>
  obtain⟨wx,hwx⟩:=zD1 (wr)
  subst hwx
  obtain⟨i,hi,rfl,how,hxx,hyy,hzz,hbb⟩:=hrel
  have OW:=zD0 how
  have XW:=zD0 hxx
  have YW:=zD0 hyy
  have ZW:=zD0 hzz
  have BW:=zD0 hbb
  clear how hxx hyy hzz hbb
  by_cases hlt:i<t0_
  ·have hlt':(i:Int)<t0_:=by omega
   have hir:i<(trI s).length:=by rw[←yG s];have:=HT.out;omega
   have his:i<(jC s.tr (trI s) i).length:=by rw[zBl (yG s) (by omega)];exact hir
   obtain⟨g,cg,eg,hlog,⟨cur,hcur⟩,hset⟩:=st_setTr OW.out his (z:=2) (by decide)
   injection eg with e1 e2 e3
   subst e1
   obtain⟨bq,oq,ebq,-,-,hq,-⟩:=OW.out.in_.tr.at his
   cases ebq
   have g9:=hq
   simp only[Nat.zero_add] at g9
   clear hq
   have fz:=zY hcur (i*2+1)
   have HCUR:=zD0 hcur
   have HLO:=zD0 hlog
   have HN:Hid (qY (wx.setCell ⟨g,i*2+1,none⟩ (.int .u8 2)) w1.heap.size (.slice (some ⟨g,0,none⟩) t0_ x0_) (.slice T1 t1_ x1_) (.slice T2 t2_ x2_) ⟨jC s.tr (trI s) (i+1),s.sw,s.lk⟩):=zD0 (by
    have h:=hset
    have e:(jC s.tr (trI s) i).set i (((jC s.tr (trI s) i)[i].1,2))=jC s.tr (trI s) (i+1):=by
     rw[←zAj (yG s) hir,trI_at hir]
     simp only[zAe (yG s) hir]
    rw[e] at h
    exact h)
   clear hset e2 e3 hlog
   obtain⟨m0,m1,m2⟩:=zC YW.out
   go_upto_region 9 with fail
   have tX:=zR (j:=i*2+1) (v:=.int .u8 2) XW.out HCUR.out (by decide)
   have tY:=zR (j:=i*2+1) (v:=.int .u8 2) YW.out HCUR.out (by decide)
   have tZ:=zR (j:=i*2+1) (v:=.int .u8 2) ZW.out HCUR.out (by decide)
   have tB:=qH BW.out (show w.heap.size≤g by have:=HLO.out;have:=PX.out;omega) (i*2+1) (.int .u8 2)
   have tO:=HN.out
   generalize wx.setCell ⟨g,i*2+1,none⟩ (.int .u8 2)=wy at tX tY tZ tB tO⊢
   have TX:=zD0 tX
   have TY:=zD0 tY
   have TZ:=zD0 tZ
   have TB:=zD0 tB
   have TO:=zD0 tO
   clear tX tY tZ tB tO m0 m1 m2 fz g9 HN XW YW ZW BW OW HCUR hcur
   go_wp2_with fail
   go_roundw
   case measure=>simp[intOf];omega
   case rel=>exact⟨i+1,by omega,by go_num,TO.out,TX.out,TY.out,TZ.out,TB.out⟩
  ·obtain rfl:t0_=i:=by omega
   have hlt':¬(t0_:Int)<t0_:=by omega
   have OF:Hid (qY wx w1.heap.size (.slice T0 t0_ x0_) (.slice T1 t1_ x1_) (.slice T2 t2_ x2_) ⟨trI s,s.sw,s.lk⟩):=zD0 (by have h:=OW.out;rw[zCi (yG s) (by rw[←yG s];have:=HT.out;omega)] at h;exact h)
   clear O3 X3 Y3 Z3 B3 OW
   obtain⟨w3,hw3⟩:=zD1 (wx)
   subst hw3
   have O3:=OF
   have X3:=XW
   have Y3:=YW
   have Z3:=ZW
   have B3:=BW
   clear OF XW YW ZW BW
   obtain⟨m0,m1,m2⟩:=zC Y3.out
   go_wp2_with fail
   clear m0 m1 m2
   go_loopw [35] (fun s35 wr=>∃i:Nat,i≤t1_∧s35 = .int .i64 i∧(qY wr w1.heap.size (.slice T0 t0_ x0_) (.slice T1 t1_ x1_) (.slice T2 t2_ x2_) ⟨trI s,jC s.sw (swI s) i,s.lk⟩∧wr.heap[w.heap.size]? = some (.cells #[.int .i64 p.ver,.int .i64 p.par,.slice A2 b2 a2,.slice A3 b3 a3,.slice A4 b4 a4,.slice A5 b5 a5] 27 (0,0))∧wr.heap[w.heap.size+1]? = some (.cells #[.slice T0 t0_ x0_,.slice T1 t1_ x1_,.slice T2 t2_ x2_] 32 (0,0))∧wr.heap[w.heap.size+2]? = some (.cells #[.slice none 0 0,.slice none 0 0,.slice none 0 0] 32 (0,0))∧Below w.heap.size w wr)) (fun s35 _=>t1_-(intOf s35).toNat)
   case atStart=>exact⟨0,by omega,by go_num,by rw[zBf];exact O3.out,X3.out,Y3.out,Z3.out,B3.out⟩
   case round=>
    obtain⟨wx,hwx⟩:=zD1 (wr)
    subst hwx
    obtain⟨i,hi,rfl,how,hxx,hyy,hzz,hbb⟩:=hrel
    have OW:=zD0 how
    have XW:=zD0 hxx
    have YW:=zD0 hyy
    have ZW:=zD0 hzz
    have BW:=zD0 hbb
    clear how hxx hyy hzz hbb
    by_cases hlt:i<t1_
    ·have hlt':(i:Int)<t1_:=by omega
     have hir:i<(swI s).length:=by rw[←vZ s];have:=HT.out;omega
     have his:i<(jC s.sw (swI s) i).length:=by rw[zBl (vZ s) (by omega)];exact hir
     obtain⟨g,cg,eg,hlog,⟨cur,hcur⟩,hset⟩:=st_setSw1 OW.out his 0
     injection eg with e1 e2 e3
     subst e1
     obtain⟨bq,oq,ebq,-,-,hq,-⟩:=OW.out.in_.sw.at his
     cases ebq
     have g9:=hq
     simp only[Nat.zero_add] at g9
     clear hq
     have fz:=zY hcur (i*3+1)
     have HCUR:=zD0 hcur
     have HLO:=zD0 hlog
     have HN:Hid (qY (wx.setCell ⟨g,i*3+1,none⟩ (.int .i64 0)) w1.heap.size (.slice T0 t0_ x0_) (.slice (some ⟨g,0,none⟩) t1_ x1_) (.slice T2 t2_ x2_) ⟨trI s,jC s.sw (swI s) (i+1),s.lk⟩):=zD0 (by
      have h:=hset
      have e:(jC s.sw (swI s) i).set i (((jC s.sw (swI s) i)[i].1,0,(jC s.sw (swI s) i)[i].2.2))=jC s.sw (swI s) (i+1):=by
       rw[←zAj (vZ s) hir,swI_at hir]
       simp only[zAe (vZ s) hir]
      rw[e] at h
      exact h)
     clear hset e2 e3 hlog
     obtain⟨m0,m1,m2⟩:=zC YW.out
     go_upto_region 14 with fail
     have tX:=zR (j:=i*3+1) (v:=.int .i64 0) XW.out HCUR.out (by decide)
     have tY:=zR (j:=i*3+1) (v:=.int .i64 0) YW.out HCUR.out (by decide)
     have tZ:=zR (j:=i*3+1) (v:=.int .i64 0) ZW.out HCUR.out (by decide)
     have tB:=qH BW.out (show w.heap.size≤g by have:=HLO.out;have:=PX.out;omega) (i*3+1) (.int .i64 0)
     have tO:=HN.out
     generalize wx.setCell ⟨g,i*3+1,none⟩ (.int .i64 0)=wy at tX tY tZ tB tO⊢
     have TX:=zD0 tX
     have TY:=zD0 tY
     have TZ:=zD0 tZ
     have TB:=zD0 tB
     have TO:=zD0 tO
     clear tX tY tZ tB tO m0 m1 m2 fz g9 HN XW YW ZW BW OW HCUR hcur
     go_wp2_with fail
     go_roundw
     case measure=>simp[intOf];omega
     case rel=>exact⟨i+1,by omega,by go_num,TO.out,TX.out,TY.out,TZ.out,TB.out⟩
    ·obtain rfl:t1_=i:=by omega
     have hlt':¬(t1_:Int)<t1_:=by omega
     have OF:Hid (qY wx w1.heap.size (.slice T0 t0_ x0_) (.slice T1 t1_ x1_) (.slice T2 t2_ x2_) ⟨trI s,swI s,s.lk⟩):=zD0 (by have h:=OW.out;rw[zCi (vZ s) (by rw[←vZ s];have:=HT.out;omega)] at h;exact h)
     clear O3 X3 Y3 Z3 B3 OW
     obtain⟨w3,hw3⟩:=zD1 (wx)
     subst hw3
     have O3:=OF
     have X3:=XW
     have Y3:=YW
     have Z3:=ZW
     have B3:=BW
     clear OF XW YW ZW BW
     obtain⟨m0,m1,m2⟩:=zC Y3.out
     go_wp2_with fail
     clear m0 m1 m2
     go_loopw [47] (fun s47 wr=>∃i:Nat,i≤t2_∧s47 = .int .i64 i∧(qY wr w1.heap.size (.slice T0 t0_ x0_) (.slice T1 t1_ x1_) (.slice T2 t2_ x2_) ⟨trI s,swI s,jC s.lk (lkI p s) i⟩∧wr.heap[w.heap.size]? = some (.cells #[.int .i64 p.ver,.int .i64 p.par,.slice A2 b2 a2,.slice A3 b3 a3,.slice A4 b4 a4,.slice A5 b5 a5] 27 (0,0))∧wr.heap[w.heap.size+1]? = some (.cells #[.slice T0 t0_ x0_,.slice T1 t1_ x1_,.slice T2 t2_ x2_] 32 (0,0))∧wr.heap[w.heap.size+2]? = some (.cells #[.slice none 0 0,.slice none 0 0,.slice none 0 0] 32 (0,0))∧Below w.heap.size w wr)) (fun s47 _=>t2_-(intOf s47).toNat)
     case atStart=>exact⟨0,by omega,by go_num,by rw[zBf];exact O3.out,X3.out,Y3.out,Z3.out,B3.out⟩
     case round=>
      obtain⟨wx,hwx⟩:=zD1 (wr)
      subst hwx
      obtain⟨i,hi,rfl,how,hxx,hyy,hzz,hbb⟩:=hrel
      have OW:=zD0 how
      have XW:=zD0 hxx
      have YW:=zD0 hyy
      have ZW:=zD0 hzz
      have BW:=zD0 hbb
      clear how hxx hyy hzz hbb
      by_cases hlt:i<t2_
      ·have hlt':(i:Int)<t2_:=by omega
       have hir:i<(lkI p s).length:=by rw[←qU p s];have:=HT.out;omega
       have his:i<(jC s.lk (lkI p s) i).length:=by rw[zBl (qU p s) (by omega)];exact hir
       have hlt5:(i:Int)<b5:=by have:=HB5.out;have:=FW.out.2.1;have:=HT.out;omega
       obtain⟨bk,off,ek,hbk,hc0,hc1,hc2,hc3,-,-⟩:=OW.out.in_.lk.at his
       obtain⟨a_,b_,c_,d_,hl⟩:∃a b c d,s.lk[i]'(by rw[qU p];exact hir)=(a,b,c,d):=⟨_,_,_,_,rfl⟩
       have HLK:=zD0 hl
       have hmx:=zAe (qU p s) hir
       rw[hmx,hl] at hc0 hc1 hc2 hc3
       dsimp only at hc0 hc1 hc2 hc3
       have f0:wx.cell? ⟨bk,off+i*4,none⟩=some (.int .i64 a_):=by simpa using hc0
       have f1:wx.cell? ⟨bk,off+i*4+1,none⟩=some (.int .u8 b_):=by simpa using hc1
       have f2:wx.cell? ⟨bk,off+i*4+2,none⟩=some (.int .i64 c_):=by simpa using hc2
       have f3:wx.cell? ⟨bk,off+i*4+3,none⟩=some (.int .i64 d_):=by simpa using hc3
       have F3:=zD0 f3
       obtain⟨tm,htm⟩:∃z,z=(p.routes[i]'(by rw[←FW.out.2.1,qU p];exact hir)).timer:=⟨_,rfl⟩
       have HRT:=zD0 htm.symm
       obtain⟨bj,oj,ej,hbj,-,-,-,hr6,-⟩:=P5.out.at (j:=i) (by rw[←FW.out.2.1,qU p];exact hir)
       cases ej
       rw[←htm] at hr6
       have r0:w.cell? ⟨bj,oj+i*7+6,none⟩=some (.int .i64 tm):=hr6
       have R0:=zD0 (And.intro hbj r0)
       subst ek
       clear hc0 hc1 hc2 hc3 hbk hl hmx htm hbj hr6 r0
       obtain⟨q7,hq7⟩:=zD1 (wx.alloc (.cells #[.int .i64 a_,.int .u8 b_,.int .i64 c_,.int .i64 d_] 53))
       have x7:=zB wx (.cells #[.int .i64 a_,.int .u8 b_,.int .i64 c_,.int .i64 d_] 53)
       have b7:=zD wx (.cells #[.int .i64 a_,.int .u8 b_,.int .i64 c_,.int .i64 d_] 53)
       rw[←hq7] at x7 b7
       have HQ7:=zD0 hq7
       have X7:=zD0 x7
       have XQ:=zD0 ((b7.block _ (zA XW.out)).trans XW.out)
       have YQ:=zD0 ((b7.block _ (zA YW.out)).trans YW.out)
       have ZQ:=zD0 ((b7.block _ (zA ZW.out)).trans ZW.out)
       have OQ:=zD0 (OW.out.below b7)
       have BQ7:=zD0 (BW.out.trans (b7.mono BW.out.size))
       have r1:q7.cell? ⟨bj,oj+i*7+6,none⟩=some (.int .i64 tm):=(BQ7.out.cell (p:=⟨bj,oj+i*7+6,none⟩) R0.out.1).trans R0.out.2
       have F37:=zD0 ((b7.cell (zG F3.out)).trans F3.out)
       clear x7 b7 hq7 F3
       go_upto_region 18 with fail
       rw[←HQ7.out]
       clear f0 f1 f2 f3 HQ7 XW YW ZW BW OW
       generalize wx.heap.size=p7 at X7⊢
       obtain⟨f0,f1,f2,f3⟩:=qC X7.out
       by_cases h3:b_=3
       ·have hb:(b_==3)=true:=by simpa using h3
        have hlow:(s.lk[i]'(by rw[qU p];exact hir)).2.1=3∨(s.lk[i]'(by rw[qU p];exact hir)).2.1=4:=by rw[HLK.out];exact Or.inl h3
        have HF:Hid ((jC s.lk (lkI p s) i).set i ((jC s.lk (lkI p s) i)[i].1,(jC s.lk (lkI p s) i)[i].2.1,(jC s.lk (lkI p s) i)[i].2.2.1,tm)=jC s.lk (lkI p s) (i+1)):=zD0 (by
         rw[←zAj (qU p s) hir,lkI_at hir]
         simp only[zAe (qU p s) hir]
         rw[fallY15 hlow,vP (by rw[←FW.out.2.1,qU p];exact hir),HRT.out])
        obtain⟨g,cg,eg,hlog,⟨cur,hcur⟩,hset⟩:=zBp OQ.out his tm
        injection eg with e1 e2 e3
        injection e1 with e1
        injection e1 with e1 e4
        subst e1
        subst e4
        have f9:=F37.out
        rw[Nat.zero_add] at f9
        have fz:=zY hcur (i*4+3)
        have HCUR:=zD0 hcur
        have HLO:=zD0 hlog
        have HN:Hid (qY (q7.setCell ⟨bk,i*4+3,none⟩ (.int .i64 tm)) w1.heap.size (.slice T0 t0_ x0_) (.slice T1 t1_ x1_) (.slice (some ⟨bk,0,none⟩) t2_ x2_) ⟨trI s,swI s,jC s.lk (lkI p s) (i+1)⟩):=zD0 (by
         have h:=hset
         rw[HF.out] at h
         exact h)
        clear h3 hset e2 e3 hlog hlow HF
        obtain⟨m0,m1,m2⟩:=zC YQ.out
        obtain⟨k0,k1,k2,k3,k4,k5⟩:=zE XQ.out
        go_upto_region 19 with fail
        clear f0 f1 f2 f3
        go_region
        have hd:=(Below.refl (q7.setCell ⟨bk,i*4+3,none⟩ (.int .i64 tm)).heap.size (q7.setCell ⟨bk,i*4+3,none⟩ (.int .i64 tm))).drew
        have tX:=(hd.block _ (zA (zR (j:=i*4+3) (v:=.int .i64 tm) XQ.out HCUR.out (by decide)))).trans (zR (j:=i*4+3) (v:=.int .i64 tm) XQ.out HCUR.out (by decide))
        have tY:=(hd.block _ (zA (zR (j:=i*4+3) (v:=.int .i64 tm) YQ.out HCUR.out (by decide)))).trans (zR (j:=i*4+3) (v:=.int .i64 tm) YQ.out HCUR.out (by decide))
        have tZ:=(hd.block _ (zA (zR (j:=i*4+3) (v:=.int .i64 tm) ZQ.out HCUR.out (by decide)))).trans (zR (j:=i*4+3) (v:=.int .i64 tm) ZQ.out HCUR.out (by decide))
        have tB0:=qH BQ7.out (show w.heap.size≤bk by have:=HLO.out;have:=PX.out;omega) (i*4+3) (.int .i64 tm)
        have tB:=tB0.trans (hd.mono tB0.size)
        have tO:=HN.out.below hd
        generalize (q7.setCell ⟨bk,i*4+3,none⟩ (.int .i64 tm)).drew=wy at hd tX tY tZ tB tO⊢
        have TX:=zD0 tX
        have TY:=zD0 tY
        have TZ:=zD0 tZ
        have TB:=zD0 tB
        have TO:=zD0 tO
        clear hd tX tY tZ tB0 tB tO m0 m1 m2 k0 k1 k2 k3 k4 k5 fz f9 F37 HN XQ YQ ZQ BQ7 OQ HCUR hcur
        go_wp2_with fail
        go_roundw
        case measure=>simp[intOf];omega
        case rel=>exact⟨i+1,by omega,by go_num,TO.out,TX.out,TY.out,TZ.out,TB.out⟩
       ·by_cases h4:b_=4
        ·have hb:(b_==3)=false:=by simpa using h3
         have hb4:(b_==4)=true:=by simpa using h4
         have hlow:(s.lk[i]'(by rw[qU p];exact hir)).2.1=3∨(s.lk[i]'(by rw[qU p];exact hir)).2.1=4:=by rw[HLK.out];exact Or.inr h4
         have HF:Hid ((jC s.lk (lkI p s) i).set i ((jC s.lk (lkI p s) i)[i].1,(jC s.lk (lkI p s) i)[i].2.1,(jC s.lk (lkI p s) i)[i].2.2.1,tm)=jC s.lk (lkI p s) (i+1)):=zD0 (by
          rw[←zAj (qU p s) hir,lkI_at hir]
          simp only[zAe (qU p s) hir]
          rw[fallY15 hlow,vP (by rw[←FW.out.2.1,qU p];exact hir),HRT.out])
         obtain⟨g,cg,eg,hlog,⟨cur,hcur⟩,hset⟩:=zBp OQ.out his tm
         injection eg with e1 e2 e3
         injection e1 with e1
         injection e1 with e1 e4
         subst e1
         subst e4
         have f9:=F37.out
         rw[Nat.zero_add] at f9
         have fz:=zY hcur (i*4+3)
         have HCUR:=zD0 hcur
         have HLO:=zD0 hlog
         have HN:Hid (qY (q7.setCell ⟨bk,i*4+3,none⟩ (.int .i64 tm)) w1.heap.size (.slice T0 t0_ x0_) (.slice T1 t1_ x1_) (.slice (some ⟨bk,0,none⟩) t2_ x2_) ⟨trI s,swI s,jC s.lk (lkI p s) (i+1)⟩):=zD0 (by
          have h:=hset
          rw[HF.out] at h
          exact h)
         clear h3 h4 hset e2 e3 hlog hlow HF
         obtain⟨m0,m1,m2⟩:=zC YQ.out
         obtain⟨k0,k1,k2,k3,k4,k5⟩:=zE XQ.out
         go_upto_region 19 with fail
         clear f0 f1 f2 f3
         go_region
         have hd:=(Below.refl (q7.setCell ⟨bk,i*4+3,none⟩ (.int .i64 tm)).heap.size (q7.setCell ⟨bk,i*4+3,none⟩ (.int .i64 tm))).drew
         have tX:=(hd.block _ (zA (zR (j:=i*4+3) (v:=.int .i64 tm) XQ.out HCUR.out (by decide)))).trans (zR (j:=i*4+3) (v:=.int .i64 tm) XQ.out HCUR.out (by decide))
         have tY:=(hd.block _ (zA (zR (j:=i*4+3) (v:=.int .i64 tm) YQ.out HCUR.out (by decide)))).trans (zR (j:=i*4+3) (v:=.int .i64 tm) YQ.out HCUR.out (by decide))
         have tZ:=(hd.block _ (zA (zR (j:=i*4+3) (v:=.int .i64 tm) ZQ.out HCUR.out (by decide)))).trans (zR (j:=i*4+3) (v:=.int .i64 tm) ZQ.out HCUR.out (by decide))
         have tB0:=qH BQ7.out (show w.heap.size≤bk by have:=HLO.out;have:=PX.out;omega) (i*4+3) (.int .i64 tm)
         have tB:=tB0.trans (hd.mono tB0.size)
         have tO:=HN.out.below hd
         generalize (q7.setCell ⟨bk,i*4+3,none⟩ (.int .i64 tm)).drew=wy at hd tX tY tZ tB tO⊢
         have TX:=zD0 tX
         have TY:=zD0 tY
         have TZ:=zD0 tZ
         have TB:=zD0 tB
         have TO:=zD0 tO
         clear hd tX tY tZ tB0 tB tO m0 m1 m2 k0 k1 k2 k3 k4 k5 fz f9 F37 HN XQ YQ ZQ BQ7 OQ HCUR hcur
         go_wp2_with fail
         go_roundw
         case measure=>simp[intOf];omega
         case rel=>exact⟨i+1,by omega,by go_num,TO.out,TX.out,TY.out,TZ.out,TB.out⟩
        ·have hb:(b_==3)=false:=by simpa using h3
         have hb4:(b_==4)=false:=by simpa using h4
         have HN:Hid (qY q7 w1.heap.size (.slice T0 t0_ x0_) (.slice T1 t1_ x1_) (.slice (some ⟨bk,off,none⟩) t2_ x2_) ⟨trI s,swI s,jC s.lk (lkI p s) (i+1)⟩):=zD0 (by
          rw[mixT_skip (qU p s) hir (by rw[lkI_at hir,HLK.out];exact fallN15 h3 h4)]
          exact OQ.out)
         clear h3 h4
         go_wp2_with fail
         go_roundw
         case measure=>simp[intOf];omega
         case rel=>exact⟨i+1,by omega,by go_num,HN.out,XQ.out,YQ.out,ZQ.out,BQ7.out⟩
      ·obtain rfl:t2_=i:=by omega
       have hlt':¬(t2_:Int)<t2_:=by omega
       have OF:Hid (qY wx w1.heap.size (.slice T0 t0_ x0_) (.slice T1 t1_ x1_) (.slice T2 t2_ x2_) ⟨trI s,swI s,lkI p s⟩):=zD0 (by have h:=OW.out;rw[zCi (qU p s) (by rw[←qU p s];have:=HT.out;omega)] at h;exact h)
       obtain⟨m0,m1,m2⟩:=zC YW.out
       go_wp2_with ((with_reducible show wpList _ _ _ (⟨none,.store _ _ _,_,_,_,_⟩::_) _ _);refine zK rfl _ (.tmp 4) (.tmp 72) rfl (w.heap.size+2) rfl (c':=#[.slice T0 t0_ x0_,.slice T1 t1_ x1_,.slice T2 t2_ x2_]) rfl ZW.out xL rfl (by simp[Value.oneCell']) ?_)
       have hg:=qB wx (w.heap.size+2) #[.slice T0 t0_ x0_,.slice T1 t1_ x1_,.slice T2 t2_ x2_]
       exact bodyPost_ret (qA (c:=#[.slice T0 t0_ x0_,.slice T1 t1_ x1_,.slice T2 t2_ x2_]) rfl _ _ (w.heap.size+2) rfl (setRow_heap _ _ _ _ _ _ ZW.out) Tryz.underlying32 xL (.int .i64 0) rfl) rfl ⟨_,_,_,by rw[HR.out.1],by rw[HR.out.2];exact(OF.out.off hg (by have:=PX.out;omega)).mono (by have:=PX.out;omega),below_setRow BW.out (by omega) _⟩
theorem staSaid (hs:zBy):StaSaid where
 at_:=at15_any hs
 check:=check15_any hs
 holder:=holder15_any hs
 asked:=asked15_any hs
 image:=image15_any hs
 kept:=kept15_any
 same:=same15_any
 twin:=twin15_any
end Go.Proofs.YtemmgmjhomgbbaaGreat
