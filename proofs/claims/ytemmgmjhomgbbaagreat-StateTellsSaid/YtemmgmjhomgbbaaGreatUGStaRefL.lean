/-
 The document's own package state: At.
 Conditions: none.
-/
import Derived.Test.YtemmgmjhomgbbaaGreatUGStaRefH
import Derived.Test.YtemmgmjhomgbbaaGreatUGStaPI
import Derived.Test.YtemmgmjhomgbbaaGreatUGStaPJ
import Derived.Test.YtemmgmjhomgbbaaGreatUStaRefJ
import Derived.Test.YtemmgmjhomgbbaaGreatUGStaRef
set_option linter.unusedVariables false
set_option linter.unusedSimpArgs false
set_option maxRecDepth 100000
namespace Go.Proofs.YtemmgmjhomgbbaaGreat
open Go.RowKit
set_option maxHeartbeats 16000000 in
theorem rat15_any (v:Value) (p:Pl) (w:World) (h:qF w w.heap.size v p):
  Calls Tryz.prog 9 #[v] w fun e w'=>∃u0 u1 u2,e = .returned (.tuple #[.agg #[u0,u1,u2],.int .i64 (restE p)])∧qY w' w.heap.size u0 u1 u2 (vG p)∧Below w.heap.size w w':=by
 obtain⟨p2,p3,p4,p5,rfl,h⟩:=h
 obtain⟨A2,a2,rfl,-,-⟩:=h.secs.slice
 obtain⟨b2,hb2⟩:=zD1 (p.secs.length)
 have P2:Hid (zX w w.heap.size (.slice A2 b2 a2) p.secs):=zD0 (by rw[hb2];exact h.secs)
 rw[←hb2]
 obtain⟨A3,a3,rfl,-,-⟩:=h.pts.slice
 obtain⟨b3,hb3⟩:=zD1 (p.pts.length)
 have P3:Hid (zT w w.heap.size (.slice A3 b3 a3) p.pts):=zD0 (by rw[hb3];exact h.pts)
 rw[←hb3]
 obtain⟨A4,a4,rfl,-,-⟩:=h.sigs.slice
 obtain⟨b4,hb4⟩:=zD1 (p.sigs.length)
 have P4:Hid (xI w w.heap.size (.slice A4 b4 a4) p.sigs):=zD0 (by rw[hb4];exact h.sigs)
 rw[←hb4]
 obtain⟨A5,a5,rfl,-,-⟩:=h.routes.slice
 obtain⟨b5,hb5⟩:=zD1 (p.routes.length)
 have P5:Hid (qX w w.heap.size (.slice A5 b5 a5) p.routes):=zD0 (by rw[hb5];exact h.routes)
 rw[←hb5]
 clear h
 have HBN:Hid (b2=p.secs.length∧b3=p.pts.length∧b5=p.routes.length):=zD0 ⟨hb2,hb3,hb5⟩
 clear hb2 hb3 hb4 hb5
 have hq:=zV w (.cells #[.int .i64 p.ver,.int .i64 p.par,.slice A2 b2 a2,.slice A3 b3 a3,.slice A4 b4 a4,.slice A5 b5 a5] 27) (.cells #[.slice none 0 0,.slice none 0 0,.slice none 0 0] 32)
 go_enter Tryz.func9,Tryz.ntmps9
 go_upto_region 1 with fail
 generalize (w.alloc (.cells #[.int .i64 p.ver,.int .i64 p.par,.slice A2 b2 a2,.slice A3 b3 a3,.slice A4 b4 a4,.slice A5 b5 a5] 27)).alloc (.cells #[.slice none 0 0,.slice none 0 0,.slice none 0 0] 32)=q at hq⊢
 obtain⟨hx,hz,hqb⟩:=hq
 have X:=zD0 hx
 have Z:=zD0 hz
 have BQ:=zD0 hqb
 clear hx hz hqb
 have PV:Hid (∀W,Below w.heap.size w W→qF W W.heap.size (.agg #[.int .i64 p.ver,.int .i64 p.par,.slice A2 b2 a2,.slice A3 b3 a3,.slice A4 b4 a4,.slice A5 b5 a5]) p):=zD0 (fun W b=>⟨_,_,_,_,rfl,⟨(P2.out.below zN b).more zN b.size,(P3.out.below zM b).more zM b.size,(P4.out.below zP b).more zP b.size,(P5.out.below qM b).more qM b.size⟩⟩)
 obtain⟨k0,k1,k2,k3,k4,k5⟩:=zE X.out
 go_wp2_with fail
 refine(rmay10_any _ p q (PV.out q BQ.out)).mono ?_
 rintro e w1 ⟨rfl,b1⟩
 have X1:=zD0 ((b1.block _ (zA X.out)).trans X.out)
 have Z1:=zD0 ((b1.block _ (zA Z.out)).trans Z.out)
 have B1:=zD0 (BQ.out.trans (b1.mono BQ.out.size))
 clear b1 k0 k1 k2 k3 k4 k5 X Z BQ PV
 obtain⟨g,hg⟩:=zD1 (vX p)
 rw[←hg]
 have HG:=zD0 hg
 clear hg
 cases g with
 | false=>
  have HE:Hid (restE p=100∧vG p=noS):=zD0 ⟨by rw[restE,←HG.out];rfl,by rw[vG,←HG.out];rfl⟩
  go_wp2_with ((with_reducible show wpList _ _ _ (⟨none,.store _ _ _,_,_,_,_⟩::_) _ _);refine zK rfl _ (.tmp 2) (.tmp 11) rfl (w.heap.size+1) rfl (c':=#[.slice none 0 0,.slice none 0 0,.slice none 0 0]) rfl Z1.out xL rfl (by simp[Value.oneCell']) ?_)
  exact bodyPost_ret (qA (c:=#[.slice none 0 0,.slice none 0 0,.slice none 0 0]) rfl _ _ (w.heap.size+1) rfl (setRow_heap _ _ _ _ _ _ Z1.out) Tryz.underlying32 xL (.int .i64 100) rfl) rfl ⟨_,_,_,by rw[HE.out.1],by rw[HE.out.2];exact noS_own _ _,below_setRow B1.out (Nat.le_succ _) _⟩
 | true=>
 have HSD:Hid (jB p):=zD0 (soundP_iff.1 HG.out.symm)
 have HR:Hid (restE p=0∧vG p=⟨p.secs.map (fun x:Sec=>(x.1,(2:Int))),p.pts.map (fun x:Jn=>(x.1,(0:Int),(0:Int))),p.routes.map (fun x:Rt=>(x.id,(0:Int),(0:Int),(0:Int)))⟩):=zD0 ⟨by rw[restE,kW HSD.out];rfl,by rw[vG,kW HSD.out];rfl⟩
 have B16:Hid (b2≤16∧b3≤16∧b5≤16):=zD0 (by have h1:=HSD.out.may.secs.n;have h2:=HSD.out.may.pts.n;have h3:=HSD.out.may.n;have:=HBN.out;omega)
 have hb2:b2≤9223372036854775807:=by have:=B16.out;omega
 have hb3:b3≤9223372036854775807:=by have:=B16.out;omega
 have hb5:b5≤9223372036854775807:=by have:=B16.out;omega
 clear HG
 have x5:=zB w1 (.cells #[.slice none 0 0,.slice none 0 0,.slice none 0 0] 32)
 have b5_:=zD w1 (.cells #[.slice none 0 0,.slice none 0 0,.slice none 0 0] 32)
 go_upto_region 4 with fail
 generalize w1.alloc (.cells #[.slice none 0 0,.slice none 0 0,.slice none 0 0] 32)=q5 at x5 b5_⊢
 obtain⟨px,hpx⟩:=zD1 (w1.heap.size)
 rw[←hpx] at x5 b5_⊢
 have PX:Hid (w.heap.size+1<px):=zD0 (by rw[hpx];exact zA Z1.out)
 have XX:=zD0 x5
 have BX:=zD0 b5_
 have PW:Hid (px=w1.heap.size):=zD0 hpx
 clear x5 b5_ hpx
 obtain⟨k0,k1,k2,k3,k4,k5⟩:=zE ((BX.out.block _ (by have:=PX.out;omega)).trans X1.out)
 go_wp2_with fail
 clear k0 k1 k2 k3 k4 k5
 go_loopw [5] (fun s5 wr=>∃i:Nat,i≤b2∧s5 = .int .i64 i∧(∃A c,wr.heap[px]? = some (.cells #[.slice A i c,.slice none 0 0,.slice none 0 0] 32 (0,0))∧vY wr px (.slice A i c) ((p.secs.take i).map (fun x:Sec=>(x.1,(2:Int)))))∧Below px w1 wr) (fun s5 _=>b2-(intOf s5).toNat)
 case atStart=>exact⟨0,by omega,by go_num,⟨none,0,XX.out,zJ.nil_⟩,BX.out⟩
 case round=>
  obtain⟨wx,hwx⟩:=zD1 (wr)
  subst hwx
  obtain⟨i,hi,rfl,⟨A,c,hxx,how⟩,hbw⟩:=hrel
  have XW:=zD0 hxx
  have OW:=zD0 how
  have BW:=zD0 hbw
  clear hxx how hbw
  obtain⟨k0,k1,k2,k3,k4,k5⟩:=zE ((BW.out.block _ (by have:=PX.out;omega)).trans X1.out)
  by_cases hlt:i<b2
  ·have hlt':(i:Int)<b2:=by omega
   have hir:i<p.secs.length:=by have:=HBN.out;omega
   obtain⟨bk_,ok_,hek,hbk,hge,-⟩:=(P2.out.below zN B1.out).at hir
   cases hek
   obtain⟨a,ha⟩:=zD1 (p.secs[i].1)
   rw[←ha] at hge
   have GE1:Hid (w1.cell? ⟨bk_,ok_+i*3,none⟩=some (.int .i64 a)):=zD0 (by simpa using hge)
   have GB:Hid (bk_<px):=zD0 (by have:=PX.out;omega)
   have HX:Hid (a=p.secs[i].1):=zD0 ha
   clear hge ha hbk
   have HT:Hid ((p.secs.take (i+1)).map (fun x:Sec=>(x.1,(2:Int)))=(p.secs.take i).map (fun x:Sec=>(x.1,(2:Int)))++[(a,(2:Int))]):=zD0 (by rw[List.take_succ_eq_append_getElem hir,List.map_append,HX.out];rfl)
   have HLN:Hid (((p.secs.take i).map (fun x:Sec=>(x.1,(2:Int)))).length=i):=zD0 (by rw[List.length_map,List.length_take];omega)
   have hb16:=B16.out
   go_upto_region 7 with fail
   clear k0 k1 k2 k3 k4 k5
   obtain⟨i0_,hii,hz0,hz1,hz2⟩:=info_parts info_trk
   have I0:=zD0 hii
   have I1:=zD0 hz0
   have I2:=zD0 hz1
   have I3:=zD0 hz2
   have SD:=(Below.refl wx.heap.size wx).drew
   refine jG (S:=fun v'=>v'.heap[px]? = wx.heap[px]? ∧ Below px w1 v') 12 (by kernel_rfl) ⟨rfl,BW.out.drew⟩ (fun zD2=>?_)
   refine tke [1,10,12] 0 zD2 ?_;refine tkd [10,12] 1 zD2 (fun w' hSw=>zC (hSw.1.trans XW.out)) ?_;refine tke [3,5,6,7,8,9,10,12] 2 zD2 ?_
   refine kT [5,6,7,8,9,10,12] (i:=3) (v:=?_) rfl (by kernel_rfl) (by kernel_rfl) (by kernel_rfl) (fun _ _ _ h=>h) (by kernel_rfl) (by kernel_rfl) (by kernel_rfl) (Or.inl ⟨by rfl,?_⟩) zD2 ?_
   rotate_left
   ·intro w' hSw;obtain⟨cv0,cv1,cv2,cv3,cv4,cv5⟩:=zE ((hSw.2.block _ (by have:=PX.out;omega)).trans X1.out);go_simp;try with_reducible rfl
   simp only[zn,Act.put]
   refine tke [5,6,7,8,9,10,12] 4 zD2 ?_;refine tke [6,7,8,9,10,12] 5 zD2 ?_;refine tke [7,8,9,10,12] 6 zD2 ?_;refine tkd [8,9,10,12] 7 zD2 (fun w' hSw=>(hSw.2.cell GB.out).trans GE1.out) ?_;refine tke [9,10,12] 8 zD2 ?_
   have XP:=zD0 ((SD.block _ (zA XW.out)).trans XW.out)
   have OP:=zD0 (OW.out.below xY SD)
   have BP:Hid (Below px w1 wx.drew):=zD0 BW.out.drew
   have XE:Hid (wx.drew.heap[px]? = wx.heap[px]?):=zD0 rfl
   clear SD
   generalize wx.drew=q3 at XP OP BP XE zD2⊢
   obtain⟨yss,hown,hyl,hm_,hys,hyr⟩:=OP.out
   have O:Hid (q3.ownsRow px 51 2 (.slice A i c) i yss.flatten):=zD0 (by have h:=hown;rw[HLN.out] at h;exact h)
   have YL:=zD0 hyl
   have YS:=zD0 hys
   have YR:=zD0 hyr
   have PQ:Hid (px≤q3.heap.size):=zD0 (Nat.le_trans (Nat.le_of_eq PW.out) BP.out.size)
   clear hii hz0 hz1 hz2 hown hyl hm_ hys hyr
   refine xM (i:=9) (by kernel_rfl) rfl (by kernel_rfl) (fun K hK=>?_)
   go_simp
   refine hK.out _ _ ?_ fun zD2=>?_;exact⟨((zD q3 _).block _ (zA XP.out)).trans XE.out,BP.out.trans ((zD q3 _).mono (Nat.le_trans (Nat.le_of_eq PW.out) BP.out.size))⟩;clear hK K;try simp only[zn,Act.put]
   refine xM (i:=10) (by kernel_rfl) rfl (by kernel_rfl) (fun K hK=>?_)
   rw[if_pos (by rfl)]
   refine qO (.tmp 20) (.tmp 28) _ rfl Tryz.underlying28 I0.out I1.out rfl I2.out (by decide) I3.out (by decide) rfl (O.out.alloc _) rfl (m:=1) (news:=[.int .i64 a,.int .u8 2]) rfl (fun h=>by cases h) (fun a ha j u hj=>by cases ha;rw[Addr.add_lit,Nat.zero_add,World.cell?_alloc_new];simpa using hj) (by simp[Value.oneCell']) (by omega) (by have:=PQ.out;simp;omega) ?_
   intro v4 w9 hown4 hgrow4
   have hX9:=zAu XP.out _ O.out (by decide) hgrow4
   have S4:=zJ.snoc (w1:=q3) (x:=(a,(2:Int))) (ys:=[.int .i64 a,.int .u8 2]) xY (fun _ h _ _=>h) (show q3.ownsRow px 51 2 (.slice A i c) ((p.secs.take i).map (fun x:Sec=>(x.1,(2:Int)))).length yss.flatten by rw[HLN.out];exact O.out) YL.out YS.out rfl (by have:=HLN.out;unfold maxLen;omega) YR.out (Below.refl _ _) ⟨rfl,rfl,show(0:Int)≤2 by decide,show(2:Int)<256 by decide⟩ (by rw[HLN.out];exact hown4) hgrow4
   obtain⟨A8,c8,e8⟩:=S4.slice
   obtain⟨L,hL⟩:=zD1 (((p.secs.take i).map (fun x:Sec=>(x.1,(2:Int)))++[(a,(2:Int))]).length)
   rw[←hL] at e8
   subst e8
   have HL:Hid (L=i+1):=zD0 (by rw[hL,List.length_append,HLN.out];rfl)
   clear hL
   have B9:Below px w1 w9:=(BP.out.alloc (Nat.le_trans (Nat.le_of_eq PW.out) BP.out.size) _).grown hgrow4 (by have:=PQ.out;simp;omega) (jE O.out)
   have hTR:=xD (R:=TrkR) trkF S4 (zU w9 px 0 (.slice A8 L c8)) (by decide) ⟨_,hX9⟩
   have hBY:=qH B9 (Nat.le_refl px) 0 (.slice A8 L c8)
   have hXY:=qG (k:=0) hX9 (.slice A8 L c8)
   refine hK.out _ _ ?_ fun zD2=>?_;exact⟨hX9.trans XW.out.symm,B9⟩;clear hK K;try simp only[zn,Act.put]
   refine tke [12] 11 zD2 ?_
   obtain⟨n0_,n1_,n2_⟩:=zC hX9
   have fz:=zY hX9 0
   refine kB (by kernel_rfl) rfl (by kernel_rfl) (fun K hK=>?_)
   rw[if_pos (by rfl)]
   go_simp
   refine hK.out _ _ ?_
   clear hK K
   generalize w9.setCell ⟨px,0,none⟩ (.slice A8 L c8)=wy at hTR hBY hXY⊢
   clear fz n0_ n1_ n2_ O YL YS YR S4 hX9 hown4 hgrow4 XP OP BP XE B9
   obtain rfl:=HL.out
   have XN:Hid (wy.heap[px]? = some (.cells #[.slice A8 (i+1) c8,.slice none 0 0,.slice none 0 0] 32 (0,0))):=zD0 hXY
   have ON:Hid (vY wy px (.slice A8 (i+1) c8) ((p.secs.take (i+1)).map (fun x:Sec=>(x.1,(2:Int))))):=zD0 (by rw[HT.out];exact hTR)
   have BN:=zD0 hBY
   clear hXY hTR hBY
   go_wp2_with fail
   go_roundw
   case measure=>simp[intOf];omega
   case rel=>exact⟨i+1,by omega,by go_num,⟨A8,c8,XN.out,ON.out⟩,BN.out⟩
  ·obtain rfl:b2=i:=by omega
   have hlt':¬(b2:Int)<b2:=by omega
   have OF:Hid (vY wx px (.slice A b2 c) (p.secs.map (fun x:Sec=>(x.1,(2:Int))))):=zD0 (by have h:=OW.out;rw[List.take_of_length_le (by have:=HBN.out;omega)] at h;exact h)
   obtain⟨D0,hD0⟩:=zD1 (A)
   subst hD0
   obtain⟨g0,hgk0⟩:=zD1 (c)
   subst hgk0
   go_wp2_with fail
   clear k0 k1 k2 k3 k4 k5
   have XX:=XW
   have BX:=BW
   have O0:=OF
   go_loopw [6] (fun s6 wr=>∃i:Nat,i≤b3∧s6 = .int .i64 i∧(∃A c,wr.heap[px]? = some (.cells #[.slice D0 b2 g0,.slice A i c,.slice none 0 0] 32 (0,0))∧yR wr px (.slice A i c) ((p.pts.take i).map (fun x:Jn=>(x.1,(0:Int),(0:Int)))))∧Below px w1 wr∧vY wr px (.slice D0 b2 g0) (p.secs.map (fun x:Sec=>(x.1,(2:Int))))) (fun s6 _=>b3-(intOf s6).toNat)
   case atStart=>exact⟨0,by omega,by go_num,⟨none,0,XX.out,zJ.nil_⟩,BX.out,O0.out⟩
   case round=>
    obtain⟨wx,hwx⟩:=zD1 (wr)
    subst hwx
    obtain⟨i,hi,rfl,⟨A,c,hxx,how⟩,hbw,hO0⟩:=hrel
    have XW:=zD0 hxx
    have OW:=zD0 how
    have BW:=zD0 hbw
    have OJ0:=zD0 hO0
    clear hxx how hbw hO0
    obtain⟨k0,k1,k2,k3,k4,k5⟩:=zE ((BW.out.block _ (by have:=PX.out;omega)).trans X1.out)
    by_cases hlt:i<b3
    ·have hlt':(i:Int)<b3:=by omega
     have hir:i<p.pts.length:=by have:=HBN.out;omega
     obtain⟨bk_,ok_,hek,hbk,hge,-⟩:=(P3.out.below zM B1.out).at hir
     cases hek
     obtain⟨a,ha⟩:=zD1 (p.pts[i].1)
     rw[←ha] at hge
     have GE1:Hid (w1.cell? ⟨bk_,ok_+i*2,none⟩=some (.int .i64 a)):=zD0 (by simpa using hge)
     have GB:Hid (bk_<px):=zD0 (by have:=PX.out;omega)
     have HX:Hid (a=p.pts[i].1):=zD0 ha
     clear hge ha hbk
     have HT:Hid ((p.pts.take (i+1)).map (fun x:Jn=>(x.1,(0:Int),(0:Int)))=(p.pts.take i).map (fun x:Jn=>(x.1,(0:Int),(0:Int)))++[(a,(0:Int),(0:Int))]):=zD0 (by rw[List.take_succ_eq_append_getElem hir,List.map_append,HX.out];rfl)
     have HLN:Hid (((p.pts.take i).map (fun x:Jn=>(x.1,(0:Int),(0:Int)))).length=i):=zD0 (by rw[List.length_map,List.length_take];omega)
     have hb16:=B16.out
     go_upto_region 11 with fail
     clear k0 k1 k2 k3 k4 k5
     obtain⟨i0_,hii,hz0,hz1,hz2⟩:=info_parts info_swi
     have I0:=zD0 hii
     have I1:=zD0 hz0
     have I2:=zD0 hz1
     have I3:=zD0 hz2
     have SD:=(Below.refl wx.heap.size wx).drew
     refine jG (S:=fun v'=>v'.heap[px]? = wx.heap[px]? ∧ Below px w1 v') 12 (by kernel_rfl) ⟨rfl,BW.out.drew⟩ (fun zD2=>?_)
     refine tke [1,10,12] 0 zD2 ?_;refine tkd [10,12] 1 zD2 (fun w' hSw=>zC (hSw.1.trans XW.out)) ?_;refine tke [3,5,6,7,8,9,10,12] 2 zD2 ?_
     refine kT [5,6,7,8,9,10,12] (i:=3) (v:=?_) rfl (by kernel_rfl) (by kernel_rfl) (by kernel_rfl) (fun _ _ _ h=>h) (by kernel_rfl) (by kernel_rfl) (by kernel_rfl) (Or.inl ⟨by rfl,?_⟩) zD2 ?_
     rotate_left
     ·intro w' hSw;obtain⟨cv0,cv1,cv2,cv3,cv4,cv5⟩:=zE ((hSw.2.block _ (by have:=PX.out;omega)).trans X1.out);go_simp;try with_reducible rfl
     simp only[zn,Act.put]
     refine tke [5,6,7,8,9,10,12] 4 zD2 ?_;refine tke [6,7,8,9,10,12] 5 zD2 ?_;refine tke [7,8,9,10,12] 6 zD2 ?_;refine tkd [8,9,10,12] 7 zD2 (fun w' hSw=>(hSw.2.cell GB.out).trans GE1.out) ?_;refine tke [9,10,12] 8 zD2 ?_
     have XP:=zD0 ((SD.block _ (zA XW.out)).trans XW.out)
     have OP:=zD0 (OW.out.below zP SD)
     have BP:Hid (Below px w1 wx.drew):=zD0 BW.out.drew
     have OQ0:=zD0 (OJ0.out.below xY SD)
     have XE:Hid (wx.drew.heap[px]? = wx.heap[px]?):=zD0 rfl
     clear SD
     generalize wx.drew=q3 at XP OP BP XE zD2 OQ0⊢
     obtain⟨yss,hown,hyl,hm_,hys,hyr⟩:=OP.out
     have O:Hid (q3.ownsRow px 55 3 (.slice A i c) i yss.flatten):=zD0 (by have h:=hown;rw[HLN.out] at h;exact h)
     have YL:=zD0 hyl
     have YS:=zD0 hys
     have YR:=zD0 hyr
     have PQ:Hid (px≤q3.heap.size):=zD0 (Nat.le_trans (Nat.le_of_eq PW.out) BP.out.size)
     clear hii hz0 hz1 hz2 hown hyl hm_ hys hyr
     refine xM (i:=9) (by kernel_rfl) rfl (by kernel_rfl) (fun K hK=>?_)
     go_simp
     refine hK.out _ _ ?_ fun zD2=>?_;exact⟨((zD q3 _).block _ (zA XP.out)).trans XE.out,BP.out.trans ((zD q3 _).mono (Nat.le_trans (Nat.le_of_eq PW.out) BP.out.size))⟩;clear hK K;try simp only[zn,Act.put]
     refine xM (i:=10) (by kernel_rfl) rfl (by kernel_rfl) (fun K hK=>?_)
     rw[if_pos (by rfl)]
     refine qO (.tmp 39) (.tmp 47) _ rfl Tryz.underlying29 I0.out I1.out rfl I2.out (by decide) I3.out (by decide) rfl (O.out.alloc _) rfl (m:=1) (news:=[.int .i64 a,.int .i64 0,.int .i64 0]) rfl (fun h=>by cases h) (fun a ha j u hj=>by cases ha;rw[Addr.add_lit,Nat.zero_add,World.cell?_alloc_new];simpa using hj) (by simp[Value.oneCell']) (by omega) (by have:=PQ.out;simp;omega) ?_
     intro v4 w9 hown4 hgrow4
     have hX9:=zAu XP.out _ O.out (by decide) hgrow4
     have S4:=zJ.snoc (w1:=q3) (x:=(a,(0:Int),(0:Int))) (ys:=[.int .i64 a,.int .i64 0,.int .i64 0]) zP (fun _ h _ _=>h) (show q3.ownsRow px 55 3 (.slice A i c) ((p.pts.take i).map (fun x:Jn=>(x.1,(0:Int),(0:Int)))).length yss.flatten by rw[HLN.out];exact O.out) YL.out YS.out rfl (by have:=HLN.out;unfold maxLen;omega) YR.out (Below.refl _ _) ⟨rfl,rfl,rfl⟩ (by rw[HLN.out];exact hown4) hgrow4
     obtain⟨A8,c8,e8⟩:=S4.slice
     obtain⟨L,hL⟩:=zD1 (((p.pts.take i).map (fun x:Jn=>(x.1,(0:Int),(0:Int)))++[(a,(0:Int),(0:Int))]).length)
     rw[←hL] at e8
     subst e8
     have HL:Hid (L=i+1):=zD0 (by rw[hL,List.length_append,HLN.out];rfl)
     clear hL
     have B9:Below px w1 w9:=(BP.out.alloc (Nat.le_trans (Nat.le_of_eq PW.out) BP.out.size) _).grown hgrow4 (by have:=PQ.out;simp;omega) (jE O.out)
     have hTR:=xD (R:=SigR) zAc S4 (zU w9 px 1 (.slice A8 L c8)) (by decide) ⟨_,hX9⟩
     have hT0:=xD (R:=TrkR) trkF (zAw (R:=TrkR) xY trkF OQ0.out _ O.out (by decide) hgrow4) (zU w9 px 1 (.slice A8 L c8)) (by decide) ⟨_,hX9⟩
     have hBY:=qH B9 (Nat.le_refl px) 1 (.slice A8 L c8)
     have hXY:=qG (k:=1) hX9 (.slice A8 L c8)
     refine hK.out _ _ ?_ fun zD2=>?_;exact⟨hX9.trans XW.out.symm,B9⟩;clear hK K;try simp only[zn,Act.put]
     refine tke [12] 11 zD2 ?_
     obtain⟨n0_,n1_,n2_⟩:=zC hX9
     have fz:=zY hX9 1
     refine kB (by kernel_rfl) rfl (by kernel_rfl) (fun K hK=>?_)
     rw[if_pos (by rfl)]
     go_simp
     refine hK.out _ _ ?_
     clear hK K
     generalize w9.setCell ⟨px,1,none⟩ (.slice A8 L c8)=wy at hTR hBY hXY hT0⊢
     clear fz n0_ n1_ n2_ O YL YS YR S4 hX9 hown4 hgrow4 XP OP BP XE B9
     obtain rfl:=HL.out
     have XN:Hid (wy.heap[px]? = some (.cells #[.slice D0 b2 g0,.slice A8 (i+1) c8,.slice none 0 0] 32 (0,0))):=zD0 hXY
     have ON:Hid (yR wy px (.slice A8 (i+1) c8) ((p.pts.take (i+1)).map (fun x:Jn=>(x.1,(0:Int),(0:Int))))):=zD0 (by rw[HT.out];exact hTR)
     have BN:=zD0 hBY
     have ON0:=zD0 hT0
     clear hXY hTR hBY hT0
     go_wp2_with fail
     go_roundw
     case measure=>simp[intOf];omega
     case rel=>exact⟨i+1,by omega,by go_num,⟨A8,c8,XN.out,ON.out⟩,BN.out,ON0.out⟩
    ·obtain rfl:b3=i:=by omega
     have hlt':¬(b3:Int)<b3:=by omega
     have OF:Hid (yR wx px (.slice A b3 c) (p.pts.map (fun x:Jn=>(x.1,(0:Int),(0:Int))))):=zD0 (by have h:=OW.out;rw[List.take_of_length_le (by have:=HBN.out;omega)] at h;exact h)
     obtain⟨D1,hD1⟩:=zD1 (A)
     subst hD1
     obtain⟨g1,hgk1⟩:=zD1 (c)
     subst hgk1
     go_wp2_with fail
     clear k0 k1 k2 k3 k4 k5
     have XX:=XW
     have BX:=BW
     have O1:=OF
     have O0:=OJ0
     go_loopw [7] (fun s7 wr=>∃i:Nat,i≤b5∧s7 = .int .i64 i∧(∃A c,wr.heap[px]? = some (.cells #[.slice D0 b2 g0,.slice D1 b3 g1,.slice A i c] 32 (0,0))∧zAy wr px (.slice A i c) ((p.routes.take i).map (fun x:Rt=>(x.id,(0:Int),(0:Int),(0:Int)))))∧Below px w1 wr∧vY wr px (.slice D0 b2 g0) (p.secs.map (fun x:Sec=>(x.1,(2:Int))))∧yR wr px (.slice D1 b3 g1) (p.pts.map (fun x:Jn=>(x.1,(0:Int),(0:Int))))) (fun s7 _=>b5-(intOf s7).toNat)
     case atStart=>exact⟨0,by omega,by go_num,⟨none,0,XX.out,zJ.nil_⟩,BX.out,O0.out,O1.out⟩
     case round=>
      obtain⟨wx,hwx⟩:=zD1 (wr)
      subst hwx
      obtain⟨i,hi,rfl,⟨A,c,hxx,how⟩,hbw,hO0,hO1⟩:=hrel
      have XW:=zD0 hxx
      have OW:=zD0 how
      have BW:=zD0 hbw
      have OJ0:=zD0 hO0
      have OJ1:=zD0 hO1
      clear hxx how hbw hO0 hO1
      obtain⟨k0,k1,k2,k3,k4,k5⟩:=zE ((BW.out.block _ (by have:=PX.out;omega)).trans X1.out)
      by_cases hlt:i<b5
      ·have hlt':(i:Int)<b5:=by omega
       have hir:i<p.routes.length:=by have:=HBN.out;omega
       obtain⟨bk_,ok_,hek,hbk,hge,-⟩:=(P5.out.below qM B1.out).at hir
       cases hek
       obtain⟨a,ha⟩:=zD1 (p.routes[i].id)
       rw[←ha] at hge
       have GE1:Hid (w1.cell? ⟨bk_,ok_+i*7,none⟩=some (.int .i64 a)):=zD0 (by simpa using hge)
       have GB:Hid (bk_<px):=zD0 (by have:=PX.out;omega)
       have HX:Hid (a=p.routes[i].id):=zD0 ha
       clear hge ha hbk
       have HT:Hid ((p.routes.take (i+1)).map (fun x:Rt=>(x.id,(0:Int),(0:Int),(0:Int)))=(p.routes.take i).map (fun x:Rt=>(x.id,(0:Int),(0:Int),(0:Int)))++[(a,(0:Int),(0:Int),(0:Int))]):=zD0 (by rw[List.take_succ_eq_append_getElem hir,List.map_append,HX.out];rfl)
       have HLN:Hid (((p.routes.take i).map (fun x:Rt=>(x.id,(0:Int),(0:Int),(0:Int)))).length=i):=zD0 (by rw[List.length_map,List.length_take];omega)
       have hb16:=B16.out
       go_upto_region 15 with fail
       clear k0 k1 k2 k3 k4 k5
       obtain⟨i0_,hii,hz0,hz1,hz2⟩:=info_parts info_lck
       have I0:=zD0 hii
       have I1:=zD0 hz0
       have I2:=zD0 hz1
       have I3:=zD0 hz2
       have SD:=(Below.refl wx.heap.size wx).drew
       refine jG (S:=fun v'=>v'.heap[px]? = wx.heap[px]? ∧ Below px w1 v') 12 (by kernel_rfl) ⟨rfl,BW.out.drew⟩ (fun zD2=>?_)
       refine tke [1,10,12] 0 zD2 ?_;refine tkd [10,12] 1 zD2 (fun w' hSw=>zC (hSw.1.trans XW.out)) ?_;refine tke [3,5,6,7,8,9,10,12] 2 zD2 ?_
       refine kT [5,6,7,8,9,10,12] (i:=3) (v:=?_) rfl (by kernel_rfl) (by kernel_rfl) (by kernel_rfl) (fun _ _ _ h=>h) (by kernel_rfl) (by kernel_rfl) (by kernel_rfl) (Or.inl ⟨by rfl,?_⟩) zD2 ?_
       rotate_left
       ·intro w' hSw;obtain⟨cv0,cv1,cv2,cv3,cv4,cv5⟩:=zE ((hSw.2.block _ (by have:=PX.out;omega)).trans X1.out);go_simp;try with_reducible rfl
       simp only[zn,Act.put]
       refine tke [5,6,7,8,9,10,12] 4 zD2 ?_;refine tke [6,7,8,9,10,12] 5 zD2 ?_;refine tke [7,8,9,10,12] 6 zD2 ?_;refine tkd [8,9,10,12] 7 zD2 (fun w' hSw=>(hSw.2.cell GB.out).trans GE1.out) ?_;refine tke [9,10,12] 8 zD2 ?_
       have XP:=zD0 ((SD.block _ (zA XW.out)).trans XW.out)
       have OP:=zD0 (OW.out.below xQ SD)
       have BP:Hid (Below px w1 wx.drew):=zD0 BW.out.drew
       have OQ0:=zD0 (OJ0.out.below xY SD)
       have OQ1:=zD0 (OJ1.out.below zP SD)
       have XE:Hid (wx.drew.heap[px]? = wx.heap[px]?):=zD0 rfl
       clear SD
       generalize wx.drew=q3 at XP OP BP XE zD2 OQ0 OQ1⊢
       obtain⟨yss,hown,hyl,hm_,hys,hyr⟩:=OP.out
       have O:Hid (q3.ownsRow px 53 4 (.slice A i c) i yss.flatten):=zD0 (by have h:=hown;rw[HLN.out] at h;exact h)
       have YL:=zD0 hyl
       have YS:=zD0 hys
       have YR:=zD0 hyr
       have PQ:Hid (px≤q3.heap.size):=zD0 (Nat.le_trans (Nat.le_of_eq PW.out) BP.out.size)
       clear hii hz0 hz1 hz2 hown hyl hm_ hys hyr
       refine xM (i:=9) (by kernel_rfl) rfl (by kernel_rfl) (fun K hK=>?_)
       go_simp
       refine hK.out _ _ ?_ fun zD2=>?_;exact⟨((zD q3 _).block _ (zA XP.out)).trans XE.out,BP.out.trans ((zD q3 _).mono (Nat.le_trans (Nat.le_of_eq PW.out) BP.out.size))⟩;clear hK K;try simp only[zn,Act.put]
       refine xM (i:=10) (by kernel_rfl) rfl (by kernel_rfl) (fun K hK=>?_)
       rw[if_pos (by rfl)]
       refine qO (.tmp 58) (.tmp 66) _ rfl Tryz.underlying30 I0.out I1.out rfl I2.out (by decide) I3.out (by decide) rfl (O.out.alloc _) rfl (m:=1) (news:=[.int .i64 a,.int .u8 0,.int .i64 0,.int .i64 0]) rfl (fun h=>by cases h) (fun a ha j u hj=>by cases ha;rw[Addr.add_lit,Nat.zero_add,World.cell?_alloc_new];simpa using hj) (by simp[Value.oneCell']) (by omega) (by have:=PQ.out;simp;omega) ?_
       intro v4 w9 hown4 hgrow4
       have hX9:=zAu XP.out _ O.out (by decide) hgrow4
       have S4:=zJ.snoc (w1:=q3) (x:=(a,(0:Int),(0:Int),(0:Int))) (ys:=[.int .i64 a,.int .u8 0,.int .i64 0,.int .i64 0]) xQ (fun _ h _ _=>h) (show q3.ownsRow px 53 4 (.slice A i c) ((p.routes.take i).map (fun x:Rt=>(x.id,(0:Int),(0:Int),(0:Int)))).length yss.flatten by rw[HLN.out];exact O.out) YL.out YS.out rfl (by have:=HLN.out;unfold maxLen;omega) YR.out (Below.refl _ _) ⟨rfl,rfl,rfl,rfl,show(0:Int)≤0 by decide,show(0:Int)<256 by decide⟩ (by rw[HLN.out];exact hown4) hgrow4
       obtain⟨A8,c8,e8⟩:=S4.slice
       obtain⟨L,hL⟩:=zD1 (((p.routes.take i).map (fun x:Rt=>(x.id,(0:Int),(0:Int),(0:Int)))++[(a,(0:Int),(0:Int),(0:Int))]).length)
       rw[←hL] at e8
       subst e8
       have HL:Hid (L=i+1):=zD0 (by rw[hL,List.length_append,HLN.out];rfl)
       clear hL
       have B9:Below px w1 w9:=(BP.out.alloc (Nat.le_trans (Nat.le_of_eq PW.out) BP.out.size) _).grown hgrow4 (by have:=PQ.out;simp;omega) (jE O.out)
       have hTR:=xD (R:=LckR) lckF S4 (zU w9 px 2 (.slice A8 L c8)) (by decide) ⟨_,hX9⟩
       have hT0:=xD (R:=TrkR) trkF (zAw (R:=TrkR) xY trkF OQ0.out _ O.out (by decide) hgrow4) (zU w9 px 2 (.slice A8 L c8)) (by decide) ⟨_,hX9⟩
       have hT1:=xD (R:=SigR) zAc (zAw (R:=SigR) zP zAc OQ1.out _ O.out (by decide) hgrow4) (zU w9 px 2 (.slice A8 L c8)) (by decide) ⟨_,hX9⟩
       have hBY:=qH B9 (Nat.le_refl px) 2 (.slice A8 L c8)
       have hXY:=qG (k:=2) hX9 (.slice A8 L c8)
       refine hK.out _ _ ?_ fun zD2=>?_;exact⟨hX9.trans XW.out.symm,B9⟩;clear hK K;try simp only[zn,Act.put]
       refine tke [12] 11 zD2 ?_
       obtain⟨n0_,n1_,n2_⟩:=zC hX9
       have fz:=zY hX9 2
       refine kB (by kernel_rfl) rfl (by kernel_rfl) (fun K hK=>?_)
       rw[if_pos (by rfl)]
       go_simp
       refine hK.out _ _ ?_
       clear hK K
       generalize w9.setCell ⟨px,2,none⟩ (.slice A8 L c8)=wy at hTR hBY hXY hT0 hT1⊢
       clear fz n0_ n1_ n2_ O YL YS YR S4 hX9 hown4 hgrow4 XP OP BP XE B9
       obtain rfl:=HL.out
       have XN:Hid (wy.heap[px]? = some (.cells #[.slice D0 b2 g0,.slice D1 b3 g1,.slice A8 (i+1) c8] 32 (0,0))):=zD0 hXY
       have ON:Hid (zAy wy px (.slice A8 (i+1) c8) ((p.routes.take (i+1)).map (fun x:Rt=>(x.id,(0:Int),(0:Int),(0:Int))))):=zD0 (by rw[HT.out];exact hTR)
       have BN:=zD0 hBY
       have ON0:=zD0 hT0
       have ON1:=zD0 hT1
       clear hXY hTR hBY hT0 hT1
       go_wp2_with fail
       go_roundw
       case measure=>simp[intOf];omega
       case rel=>exact⟨i+1,by omega,by go_num,⟨A8,c8,XN.out,ON.out⟩,BN.out,ON0.out,ON1.out⟩
      ·obtain rfl:b5=i:=by omega
       have hlt':¬(b5:Int)<b5:=by omega
       have OF:Hid (zAy wx px (.slice A b5 c) (p.routes.map (fun x:Rt=>(x.id,(0:Int),(0:Int),(0:Int))))):=zD0 (by have h:=OW.out;rw[List.take_of_length_le (by have:=HBN.out;omega)] at h;exact h)
       obtain⟨D2,hD2⟩:=zD1 (A)
       subst hD2
       obtain⟨g2,hgk2⟩:=zD1 (c)
       subst hgk2
       clear k0 k1 k2 k3 k4 k5
       obtain⟨k0,k1,k2,k3,k4,k5⟩:=zE ((BW.out.block _ (by have:=PX.out;omega)).trans X1.out)
       obtain⟨m0,m1,m2⟩:=zC XW.out
       have ZF:=zD0 ((BW.out.block _ (by have:=PX.out;omega)).trans Z1.out)
       have BF:Hid (Below w.heap.size w wx):=zD0 (B1.out.trans (BW.out.mono (by have:=PX.out;omega)))
       go_wp2_with ((with_reducible show wpList _ _ _ (⟨none,.store _ _ _,_,_,_,_⟩::_) _ _);refine zK rfl _ (.tmp 2) (.tmp 69) rfl (w.heap.size+1) rfl (c':=#[.slice D0 b2 g0,.slice D1 b3 g1,.slice D2 b5 g2]) rfl ZF.out xL rfl (by simp[Value.oneCell']) ?_)
       have hg:=qB wx (w.heap.size+1) #[.slice D0 b2 g0,.slice D1 b3 g1,.slice D2 b5 g2]
       exact bodyPost_ret (qA (c:=#[.slice D0 b2 g0,.slice D1 b3 g1,.slice D2 b5 g2]) rfl _ _ (w.heap.size+1) rfl (setRow_heap _ _ _ _ _ _ ZF.out) Tryz.underlying32 xL (.int .i64 0) rfl) rfl ⟨_,_,_,by rw[HR.out.1],by rw[HR.out.2];exact(qY.off (k:=w.heap.size+1) (lo:=px) ⟨OJ0.out,OJ1.out,OF.out⟩ hg (by have:=PX.out;omega)).mono (by have:=PX.out;omega),below_setRow BF.out (Nat.le_succ _) _⟩
set_option maxHeartbeats 16000000 in
theorem rfallen15_any (v y:Value) (p:Pl) (s:qD) (w:World) (h:qF w w.heap.size v p) (h':qL w w.heap.size y s) (hm:yD p s):
  Calls Tryz.prog 34 #[v,y] w fun e w'=>∃u0 u1 u2,e = .returned (.agg #[u0,u1,u2])∧qY w' w.heap.size u0 u1 u2 (zBw p s)∧Below w.heap.size w w':=by
 obtain⟨p2,p3,p4,p5,rfl,h⟩:=h
 obtain⟨A2,a2,rfl,-,-⟩:=h.secs.slice
 obtain⟨b2,hb2⟩:=zD1 (p.secs.length)
 have P2:Hid (zX w w.heap.size (.slice A2 b2 a2) p.secs):=zD0 (by rw[hb2];exact h.secs)
 rw[←hb2]
 clear hb2
 obtain⟨A3,a3,rfl,-,-⟩:=h.pts.slice
 obtain⟨b3,hb3⟩:=zD1 (p.pts.length)
 have P3:Hid (zT w w.heap.size (.slice A3 b3 a3) p.pts):=zD0 (by rw[hb3];exact h.pts)
 rw[←hb3]
 clear hb3
 obtain⟨A4,a4,rfl,-,-⟩:=h.sigs.slice
 obtain⟨b4,hb4⟩:=zD1 (p.sigs.length)
 have P4:Hid (xI w w.heap.size (.slice A4 b4 a4) p.sigs):=zD0 (by rw[hb4];exact h.sigs)
 rw[←hb4]
 clear hb4
 obtain⟨A5,a5,rfl,-,-⟩:=h.routes.slice
 obtain⟨b5,hb5⟩:=zD1 (p.routes.length)
 have P5:Hid (qX w w.heap.size (.slice A5 b5 a5) p.routes):=zD0 (by rw[hb5];exact h.routes)
 rw[←hb5]
 clear h
 have HB5:Hid (b5=p.routes.length):=zD0 hb5
 clear hb5
 obtain⟨_,_,_,rfl,h'⟩:=h'
 obtain⟨S0,Sc0,rfl,-,-⟩:=h'.tr.slice
 obtain⟨Sn0,hS0⟩:=zD1 (s.tr.length)
 have HS0:Hid (jD w w.heap.size (.slice S0 Sn0 Sc0) s.tr):=zD0 (by rw[hS0];exact h'.tr)
 rw[←hS0]
 obtain⟨S1,Sc1,rfl,-,-⟩:=h'.sw.slice
 obtain⟨Sn1,hS1⟩:=zD1 (s.sw.length)
 have HS1:Hid (xP w w.heap.size (.slice S1 Sn1 Sc1) s.sw):=zD0 (by rw[hS1];exact h'.sw)
 rw[←hS1]
 obtain⟨S2,Sc2,rfl,-,-⟩:=h'.lk.slice
 obtain⟨Sn2,hS2⟩:=zD1 (s.lk.length)
 have HS2:Hid (xO w w.heap.size (.slice S2 Sn2 Sc2) s.lk):=zD0 (by rw[hS2];exact h'.lk)
 rw[←hS2]
 clear h'
 have NSS:Hid (Sn0=s.tr.length∧Sn1=s.sw.length∧Sn2=s.lk.length):=zD0 ⟨hS0,hS1,hS2⟩
 clear hS0 hS1 hS2
 have HM:=zD0 hm
 clear hm
 obtain⟨hx,hy,hz,hqb⟩:=vK w (.cells #[.int .i64 p.ver,.int .i64 p.par,.slice A2 b2 a2,.slice A3 b3 a3,.slice A4 b4 a4,.slice A5 b5 a5] 27) (.cells #[.slice S0 Sn0 Sc0,.slice S1 Sn1 Sc1,.slice S2 Sn2 Sc2] 32) (.cells #[.slice none 0 0,.slice none 0 0,.slice none 0 0] 32)
 go_enter Tryz.func34,Tryz.ntmps34
 go_upto_region 1 with fail
 generalize ((w.alloc (.cells #[.int .i64 p.ver,.int .i64 p.par,.slice A2 b2 a2,.slice A3 b3 a3,.slice A4 b4 a4,.slice A5 b5 a5] 27)).alloc (.cells #[.slice S0 Sn0 Sc0,.slice S1 Sn1 Sc1,.slice S2 Sn2 Sc2] 32)).alloc (.cells #[.slice none 0 0,.slice none 0 0,.slice none 0 0] 32)=w1 at hx hy hz hqb⊢
 have B1:=zD0 hqb
 have X1:=zD0 hx
 have Y1:=zD0 hy
 have Z1:=zD0 hz
 clear hx hy hz hqb
 have SV:Hid (∀W,Below w.heap.size w W→qL W W.heap.size (.agg #[.slice S0 Sn0 Sc0,.slice S1 Sn1 Sc1,.slice S2 Sn2 Sc2]) s):=zD0 (fun W b=>⟨_,_,_,rfl,⟨(HS0.out.below xY b).more xY b.size,(HS1.out.below zP b).more zP b.size,(HS2.out.below xQ b).more xQ b.size⟩⟩)
 have HR:Hid (zBw p s=⟨trI s,swI s,lkI p s⟩):=zD0 rfl
 have FW:Hid (FewS s∧s.lk.length=p.routes.length∧s.tr.length≤16∧s.sw.length≤16∧s.lk.length≤16):=zD0 (by
  have h1:=HM.out.parts.nt
  have h2:=HM.out.parts.ns
  have h3:=HM.out.parts.nl
  have g1:=HM.out.sound.may.secs.n
  have g2:=HM.out.sound.may.pts.n
  have g3:=HM.out.sound.may.n
  unfold FewS
  omega)
 obtain⟨j0,j1,j2⟩:=zC Y1.out
 go_wp2_with fail
 refine(rtwin15_any _ s w1 (SV.out w1 B1.out) FW.out.1).mono ?_
 rintro e w2 ⟨u0,u1,u2,rfl,ho,b2⟩
 have hX2:=(b2.block _ (zA X1.out)).trans X1.out
 have hY2:=(b2.block _ (zA Y1.out)).trans Y1.out
 have hZ2:=(b2.block _ (zA Z1.out)).trans Z1.out
 have hB2:=B1.out.trans (b2.mono B1.out.size)
 have W12:=zD0 b2.size
 have PX:Hid (w.heap.size+2<w1.heap.size):=zD0 (zA Z1.out)
 obtain⟨T0,x0_,rfl⟩:=ho.tr.slice
 obtain⟨T1,x1_,rfl⟩:=ho.sw.slice
 obtain⟨T2,x2_,rfl⟩:=ho.lk.slice
 obtain⟨t0_,ht0⟩:=zD1 (s.tr.length)
 obtain⟨t1_,ht1⟩:=zD1 (s.sw.length)
 obtain⟨t2_,ht2⟩:=zD1 (s.lk.length)
 rw[←ht0,←ht1,←ht2] at ho
 rw[←ht0,←ht1,←ht2]
 have HT:Hid (t0_=s.tr.length∧t1_=s.sw.length∧t2_=s.lk.length):=zD0 ⟨ht0,ht1,ht2⟩
 have hm0:t0_≤9223372036854775807:=by have:=FW.out;omega
 have hm1:t1_≤9223372036854775807:=by have:=FW.out;omega
 have hm2:t2_≤9223372036854775807:=by have:=FW.out;omega
 have HO2:=zD0 ho
 have HY2:=zD0 hY2
 clear b2 j0 j1 j2 ht0 ht1 ht2 ho hY2
 go_upto_region 2 with((with_reducible show wpList _ _ _ (⟨none,.store _ _ _,_,_,_,_⟩::_) _ _);refine zK rfl _ (.tmp 3) (.tmp 9) rfl (w.heap.size+1) rfl (c':=#[.slice T0 t0_ x0_,.slice T1 t1_ x1_,.slice T2 t2_ x2_]) rfl HY2.out xL rfl (by simp[Value.oneCell']) ?_)
 have hg:=qB w2 (w.heap.size+1) #[.slice T0 t0_ x0_,.slice T1 t1_ x1_,.slice T2 t2_ x2_]
 have tO:qY (w2.setRow (w.heap.size+1) #[.slice T0 t0_ x0_,.slice T1 t1_ x1_,.slice T2 t2_ x2_]) w1.heap.size (.slice T0 t0_ x0_) (.slice T1 t1_ x1_) (.slice T2 t2_ x2_) s:=HO2.out.off hg (by have:=PX.out;omega)
 have tX:=(setRow_other w2 (w.heap.size+1) w.heap.size #[.slice T0 t0_ x0_,.slice T1 t1_ x1_,.slice T2 t2_ x2_] (by omega)).trans hX2
 have tZ:=(setRow_other w2 (w.heap.size+1) (w.heap.size+2) #[.slice T0 t0_ x0_,.slice T1 t1_ x1_,.slice T2 t2_ x2_] (by omega)).trans hZ2
 have tY:=setRow_heap w2 (w.heap.size+1) _ #[.slice T0 t0_ x0_,.slice T1 t1_ x1_,.slice T2 t2_ x2_] _ _ HY2.out
 have tB:=below_setRow hB2 (Nat.le_succ w.heap.size) #[.slice T0 t0_ x0_,.slice T1 t1_ x1_,.slice T2 t2_ x2_]
 generalize w2.setRow (w.heap.size+1) #[.slice T0 t0_ x0_,.slice T1 t1_ x1_,.slice T2 t2_ x2_]=w3 at tO tX tY tZ tB⊢
 have O3:=zD0 tO
 have X3:=zD0 tX
 have Y3:=zD0 tY
 have Z3:=zD0 tZ
 have B3:=zD0 tB
 clear tO tX tY tZ tB hg HO2 HY2 hX2 hZ2 hB2
 obtain⟨m0,m1,m2⟩:=zC Y3.out
 go_wp2_with fail
 clear m0 m1 m2
 go_loopw [5] (fun s5 wr=>∃i:Nat,i≤t0_∧s5 = .int .i64 i∧(qY wr w1.heap.size (.slice T0 t0_ x0_) (.slice T1 t1_ x1_) (.slice T2 t2_ x2_) ⟨jC s.tr (trI s) i,s.sw,s.lk⟩∧wr.heap[w.heap.size]? = some (.cells #[.int .i64 p.ver,.int .i64 p.par,.slice A2 b2 a2,.slice A3 b3 a3,.slice A4 b4 a4,.slice A5 b5 a5] 27 (0,0))∧wr.heap[w.heap.size+1]? = some (.cells #[.slice T0 t0_ x0_,.slice T1 t1_ x1_,.slice T2 t2_ x2_] 32 (0,0))∧wr.heap[w.heap.size+2]? = some (.cells #[.slice none 0 0,.slice none 0 0,.slice none 0 0] 32 (0,0))∧Below w.heap.size w wr)) (fun s5 _=>t0_-(intOf s5).toNat)
 case atStart=>exact⟨0,by omega,by go_num,by rw[zBf];exact O3.out,X3.out,Y3.out,Z3.out,B3.out⟩
 case round=>
  obtain⟨wx,hwx⟩:=zD1 (wr)
  subst hwx
  obtain⟨i,hi,rfl,how,hxx,hyy,hzz,hbb⟩:=hrel
  have OW:=zD0 how
  have XW:=zD0 hxx
  have YW:=zD0 hyy
  have ZW:=zD0 hzz
  have BW:=zD0 hbb
  clear how hxx hyy hzz hbb
  by_cases hlt:i<t0_
  ·have hlt':(i:Int)<t0_:=by omega
   have hir:i<(trI s).length:=by rw[←yG s];have:=HT.out;omega
   have his:i<(jC s.tr (trI s) i).length:=by rw[zBl (yG s) (by omega)];exact hir
   obtain⟨g,cg,eg,hlog,⟨cur,hcur⟩,hset⟩:=st_setTr OW.out his (z:=2) (by decide)
   injection eg with e1 e2 e3
   subst e1
   obtain⟨bq,oq,ebq,-,-,hq,-⟩:=OW.out.in_.tr.at his
   cases ebq
   have g9:=hq
   simp only[Nat.zero_add] at g9
   clear hq
   have fz:=zY hcur (i*2+1)
   have HCUR:=zD0 hcur
   have HLO:=zD0 hlog
   have HN:Hid (qY (wx.setCell ⟨g,i*2+1,none⟩ (.int .u8 2)) w1.heap.size (.slice (some ⟨g,0,none⟩) t0_ x0_) (.slice T1 t1_ x1_) (.slice T2 t2_ x2_) ⟨jC s.tr (trI s) (i+1),s.sw,s.lk⟩):=zD0 (by
    have h:=hset
    have e:(jC s.tr (trI s) i).set i (((jC s.tr (trI s) i)[i].1,2))=jC s.tr (trI s) (i+1):=by
     rw[←zAj (yG s) hir,trI_at hir]
     simp only[zAe (yG s) hir]
    rw[e] at h
    exact h)
   clear hset e2 e3 hlog
   obtain⟨m0,m1,m2⟩:=zC YW.out
   go_upto_region 4 with fail
   have tX:=zR (j:=i*2+1) (v:=.int .u8 2) XW.out HCUR.out (by decide)
   have tY:=zR (j:=i*2+1) (v:=.int .u8 2) YW.out HCUR.out (by decide)
   have tZ:=zR (j:=i*2+1) (v:=.int .u8 2) ZW.out HCUR.out (by decide)
   have tB:=qH BW.out (show w.heap.size≤g by have:=HLO.out;have:=PX.out;omega) (i*2+1) (.int .u8 2)
   have tO:=HN.out
   generalize wx.setCell ⟨g,i*2+1,none⟩ (.int .u8 2)=wy at tX tY tZ tB tO⊢
   have TX:=zD0 tX
   have TY:=zD0 tY
   have TZ:=zD0 tZ
   have TB:=zD0 tB
   have TO:=zD0 tO
   clear tX tY tZ tB tO m0 m1 m2 fz g9 HN XW YW ZW BW OW HCUR hcur
   go_wp2_with fail
   go_roundw
   case measure=>simp[intOf];omega
   case rel=>exact⟨i+1,by omega,by go_num,TO.out,TX.out,TY.out,TZ.out,TB.out⟩
  ·obtain rfl:t0_=i:=by omega
   have hlt':¬(t0_:Int)<t0_:=by omega
   have OF:Hid (qY wx w1.heap.size (.slice T0 t0_ x0_) (.slice T1 t1_ x1_) (.slice T2 t2_ x2_) ⟨trI s,s.sw,s.lk⟩):=zD0 (by have h:=OW.out;rw[zCi (yG s) (by rw[←yG s];have:=HT.out;omega)] at h;exact h)
   clear O3 X3 Y3 Z3 B3 OW
   obtain⟨w3,hw3⟩:=zD1 (wx)
   subst hw3
   have O3:=OF
   have X3:=XW
   have Y3:=YW
   have Z3:=ZW
   have B3:=BW
   clear OF XW YW ZW BW
   obtain⟨m0,m1,m2⟩:=zC Y3.out
   go_wp2_with fail
   clear m0 m1 m2
   go_loopw [6] (fun s6 wr=>∃i:Nat,i≤t1_∧s6 = .int .i64 i∧(qY wr w1.heap.size (.slice T0 t0_ x0_) (.slice T1 t1_ x1_) (.slice T2 t2_ x2_) ⟨trI s,jC s.sw (swI s) i,s.lk⟩∧wr.heap[w.heap.size]? = some (.cells #[.int .i64 p.ver,.int .i64 p.par,.slice A2 b2 a2,.slice A3 b3 a3,.slice A4 b4 a4,.slice A5 b5 a5] 27 (0,0))∧wr.heap[w.heap.size+1]? = some (.cells #[.slice T0 t0_ x0_,.slice T1 t1_ x1_,.slice T2 t2_ x2_] 32 (0,0))∧wr.heap[w.heap.size+2]? = some (.cells #[.slice none 0 0,.slice none 0 0,.slice none 0 0] 32 (0,0))∧Below w.heap.size w wr)) (fun s6 _=>t1_-(intOf s6).toNat)
   case atStart=>exact⟨0,by omega,by go_num,by rw[zBf];exact O3.out,X3.out,Y3.out,Z3.out,B3.out⟩
   case round=>
    obtain⟨wx,hwx⟩:=zD1 (wr)
    subst hwx
    obtain⟨i,hi,rfl,how,hxx,hyy,hzz,hbb⟩:=hrel
    have OW:=zD0 how
    have XW:=zD0 hxx
    have YW:=zD0 hyy
    have ZW:=zD0 hzz
    have BW:=zD0 hbb
    clear how hxx hyy hzz hbb
    by_cases hlt:i<t1_
    ·have hlt':(i:Int)<t1_:=by omega
     have hir:i<(swI s).length:=by rw[←vZ s];have:=HT.out;omega
     have his:i<(jC s.sw (swI s) i).length:=by rw[zBl (vZ s) (by omega)];exact hir
     obtain⟨g,cg,eg,hlog,⟨cur,hcur⟩,hset⟩:=st_setSw1 OW.out his 0
     injection eg with e1 e2 e3
     subst e1
     obtain⟨bq,oq,ebq,-,-,hq,-⟩:=OW.out.in_.sw.at his
     cases ebq
     have g9:=hq
     simp only[Nat.zero_add] at g9
     clear hq
     have fz:=zY hcur (i*3+1)
     have HCUR:=zD0 hcur
     have HLO:=zD0 hlog
     have HN:Hid (qY (wx.setCell ⟨g,i*3+1,none⟩ (.int .i64 0)) w1.heap.size (.slice T0 t0_ x0_) (.slice (some ⟨g,0,none⟩) t1_ x1_) (.slice T2 t2_ x2_) ⟨trI s,jC s.sw (swI s) (i+1),s.lk⟩):=zD0 (by
      have h:=hset
      have e:(jC s.sw (swI s) i).set i (((jC s.sw (swI s) i)[i].1,0,(jC s.sw (swI s) i)[i].2.2))=jC s.sw (swI s) (i+1):=by
       rw[←zAj (vZ s) hir,swI_at hir]
       simp only[zAe (vZ s) hir]
      rw[e] at h
      exact h)
     clear hset e2 e3 hlog
     obtain⟨m0,m1,m2⟩:=zC YW.out
     go_upto_region 8 with fail
     have tX:=zR (j:=i*3+1) (v:=.int .i64 0) XW.out HCUR.out (by decide)
     have tY:=zR (j:=i*3+1) (v:=.int .i64 0) YW.out HCUR.out (by decide)
     have tZ:=zR (j:=i*3+1) (v:=.int .i64 0) ZW.out HCUR.out (by decide)
     have tB:=qH BW.out (show w.heap.size≤g by have:=HLO.out;have:=PX.out;omega) (i*3+1) (.int .i64 0)
     have tO:=HN.out
     generalize wx.setCell ⟨g,i*3+1,none⟩ (.int .i64 0)=wy at tX tY tZ tB tO⊢
     have TX:=zD0 tX
     have TY:=zD0 tY
     have TZ:=zD0 tZ
     have TB:=zD0 tB
     have TO:=zD0 tO
     clear tX tY tZ tB tO m0 m1 m2 fz g9 HN XW YW ZW BW OW HCUR hcur
     go_wp2_with fail
     go_roundw
     case measure=>simp[intOf];omega
     case rel=>exact⟨i+1,by omega,by go_num,TO.out,TX.out,TY.out,TZ.out,TB.out⟩
    ·obtain rfl:t1_=i:=by omega
     have hlt':¬(t1_:Int)<t1_:=by omega
     have OF:Hid (qY wx w1.heap.size (.slice T0 t0_ x0_) (.slice T1 t1_ x1_) (.slice T2 t2_ x2_) ⟨trI s,swI s,s.lk⟩):=zD0 (by have h:=OW.out;rw[zCi (vZ s) (by rw[←vZ s];have:=HT.out;omega)] at h;exact h)
     clear O3 X3 Y3 Z3 B3 OW
     obtain⟨w3,hw3⟩:=zD1 (wx)
     subst hw3
     have O3:=OF
     have X3:=XW
     have Y3:=YW
     have Z3:=ZW
     have B3:=BW
     clear OF XW YW ZW BW
     obtain⟨m0,m1,m2⟩:=zC Y3.out
     go_wp2_with fail
     clear m0 m1 m2
     go_loopw [7] (fun s7 wr=>∃i:Nat,i≤t2_∧s7 = .int .i64 i∧(qY wr w1.heap.size (.slice T0 t0_ x0_) (.slice T1 t1_ x1_) (.slice T2 t2_ x2_) ⟨trI s,swI s,jC s.lk (lkI p s) i⟩∧wr.heap[w.heap.size]? = some (.cells #[.int .i64 p.ver,.int .i64 p.par,.slice A2 b2 a2,.slice A3 b3 a3,.slice A4 b4 a4,.slice A5 b5 a5] 27 (0,0))∧wr.heap[w.heap.size+1]? = some (.cells #[.slice T0 t0_ x0_,.slice T1 t1_ x1_,.slice T2 t2_ x2_] 32 (0,0))∧wr.heap[w.heap.size+2]? = some (.cells #[.slice none 0 0,.slice none 0 0,.slice none 0 0] 32 (0,0))∧Below w.heap.size w wr)) (fun s7 _=>t2_-(intOf s7).toNat)
     case atStart=>exact⟨0,by omega,by go_num,by rw[zBf];exact O3.out,X3.out,Y3.out,Z3.out,B3.out⟩
     case round=>
      obtain⟨wx,hwx⟩:=zD1 (wr)
      subst hwx
      obtain⟨i,hi,rfl,how,hxx,hyy,hzz,hbb⟩:=hrel
      have OW:=zD0 how
      have XW:=zD0 hxx
      have YW:=zD0 hyy
      have ZW:=zD0 hzz
      have BW:=zD0 hbb
      clear how hxx hyy hzz hbb
      by_cases hlt:i<t2_
      ·have hlt':(i:Int)<t2_:=by omega
       have hir:i<(lkI p s).length:=by rw[←qU p s];have:=HT.out;omega
       have his:i<(jC s.lk (lkI p s) i).length:=by rw[zBl (qU p s) (by omega)];exact hir
       have hlt5:(i:Int)<b5:=by have:=HB5.out;have:=FW.out.2.1;have:=HT.out;omega
       obtain⟨bk,off,ek,hbk,hc0,hc1,hc2,hc3,-,-⟩:=OW.out.in_.lk.at his
       obtain⟨a_,b_,c_,d_,hl⟩:∃a b c d,s.lk[i]'(by rw[qU p];exact hir)=(a,b,c,d):=⟨_,_,_,_,rfl⟩
       have HLK:=zD0 hl
       have hmx:=zAe (qU p s) hir
       rw[hmx,hl] at hc0 hc1 hc2 hc3
       dsimp only at hc0 hc1 hc2 hc3
       have f0:wx.cell? ⟨bk,off+i*4,none⟩=some (.int .i64 a_):=by simpa using hc0
       have f1:wx.cell? ⟨bk,off+i*4+1,none⟩=some (.int .u8 b_):=by simpa using hc1
       have f2:wx.cell? ⟨bk,off+i*4+2,none⟩=some (.int .i64 c_):=by simpa using hc2
       have f3:wx.cell? ⟨bk,off+i*4+3,none⟩=some (.int .i64 d_):=by simpa using hc3
       have F3:=zD0 f3
       obtain⟨tm,htm⟩:∃z,z=(p.routes[i]'(by rw[←FW.out.2.1,qU p];exact hir)).timer:=⟨_,rfl⟩
       have HRT:=zD0 htm.symm
       obtain⟨bj,oj,ej,hbj,-,-,-,hr6,-⟩:=P5.out.at (j:=i) (by rw[←FW.out.2.1,qU p];exact hir)
       cases ej
       rw[←htm] at hr6
       have r0:w.cell? ⟨bj,oj+i*7+6,none⟩=some (.int .i64 tm):=hr6
       have R0:=zD0 (And.intro hbj r0)
       subst ek
       clear hc0 hc1 hc2 hc3 hbk hl hmx htm hbj hr6 r0
       have XQ:=XW
       have YQ:=YW
       have ZQ:=ZW
       have OQ:=OW
       have BQ7:=BW
       have r1:wx.cell? ⟨bj,oj+i*7+6,none⟩=some (.int .i64 tm):=(BW.out.cell (p:=⟨bj,oj+i*7+6,none⟩) R0.out.1).trans R0.out.2
       have F37:=F3
       clear XW YW ZW BW OW f0 f2 f3 F3
       by_cases h3:b_=3
       ·have hb:(b_==3)=true:=by simpa using h3
        have hlow:(s.lk[i]'(by rw[qU p];exact hir)).2.1=3∨(s.lk[i]'(by rw[qU p];exact hir)).2.1=4:=by rw[HLK.out];exact Or.inl h3
        have HF:Hid ((jC s.lk (lkI p s) i).set i ((jC s.lk (lkI p s) i)[i].1,(jC s.lk (lkI p s) i)[i].2.1,(jC s.lk (lkI p s) i)[i].2.2.1,tm)=jC s.lk (lkI p s) (i+1)):=zD0 (by
         rw[←zAj (qU p s) hir,lkI_at hir]
         simp only[zAe (qU p s) hir]
         rw[fallY15 hlow,vP (by rw[←FW.out.2.1,qU p];exact hir),HRT.out])
        obtain⟨g,cg,eg,hlog,⟨cur,hcur⟩,hset⟩:=zBp OQ.out his tm
        injection eg with e1 e2 e3
        injection e1 with e1
        injection e1 with e1 e4
        subst e1
        subst e4
        have f9:=F37.out
        rw[Nat.zero_add] at f9
        rw[Nat.zero_add] at f1
        have fz:=zY hcur (i*4+3)
        have HCUR:=zD0 hcur
        have HLO:=zD0 hlog
        have HN:Hid (qY (wx.setCell ⟨bk,i*4+3,none⟩ (.int .i64 tm)) w1.heap.size (.slice T0 t0_ x0_) (.slice T1 t1_ x1_) (.slice (some ⟨bk,0,none⟩) t2_ x2_) ⟨trI s,swI s,jC s.lk (lkI p s) (i+1)⟩):=zD0 (by
         have h:=hset
         rw[HF.out] at h
         exact h)
        clear h3 hset e2 e3 hlog hlow HF
        obtain⟨m0,m1,m2⟩:=zC YQ.out
        obtain⟨k0,k1,k2,k3,k4,k5⟩:=zE XQ.out
        go_upto_region 14 with fail
        clear f1
        go_region
        have hd:=(Below.refl (wx.setCell ⟨bk,i*4+3,none⟩ (.int .i64 tm)).heap.size (wx.setCell ⟨bk,i*4+3,none⟩ (.int .i64 tm))).drew
        have tX:=(hd.block _ (zA (zR (j:=i*4+3) (v:=.int .i64 tm) XQ.out HCUR.out (by decide)))).trans (zR (j:=i*4+3) (v:=.int .i64 tm) XQ.out HCUR.out (by decide))
        have tY:=(hd.block _ (zA (zR (j:=i*4+3) (v:=.int .i64 tm) YQ.out HCUR.out (by decide)))).trans (zR (j:=i*4+3) (v:=.int .i64 tm) YQ.out HCUR.out (by decide))
        have tZ:=(hd.block _ (zA (zR (j:=i*4+3) (v:=.int .i64 tm) ZQ.out HCUR.out (by decide)))).trans (zR (j:=i*4+3) (v:=.int .i64 tm) ZQ.out HCUR.out (by decide))
        have tB0:=qH BQ7.out (show w.heap.size≤bk by have:=HLO.out;have:=PX.out;omega) (i*4+3) (.int .i64 tm)
        have tB:=tB0.trans (hd.mono tB0.size)
        have tO:=HN.out.below hd
        generalize (wx.setCell ⟨bk,i*4+3,none⟩ (.int .i64 tm)).drew=wy at hd tX tY tZ tB tO⊢
        have TX:=zD0 tX
        have TY:=zD0 tY
        have TZ:=zD0 tZ
        have TB:=zD0 tB
        have TO:=zD0 tO
        clear hd tX tY tZ tB0 tB tO m0 m1 m2 k0 k1 k2 k3 k4 k5 fz f9 F37 HN XQ YQ ZQ BQ7 OQ HCUR hcur
        go_wp2_with fail
        go_roundw
        case measure=>simp[intOf];omega
        case rel=>exact⟨i+1,by omega,by go_num,TO.out,TX.out,TY.out,TZ.out,TB.out⟩
       ·by_cases h4:b_=4
        ·have hb:(b_==3)=false:=by simpa using h3
         have hb4:(b_==4)=true:=by simpa using h4
         have hlow:(s.lk[i]'(by rw[qU p];exact hir)).2.1=3∨(s.lk[i]'(by rw[qU p];exact hir)).2.1=4:=by rw[HLK.out];exact Or.inr h4
         have HF:Hid ((jC s.lk (lkI p s) i).set i ((jC s.lk (lkI p s) i)[i].1,(jC s.lk (lkI p s) i)[i].2.1,(jC s.lk (lkI p s) i)[i].2.2.1,tm)=jC s.lk (lkI p s) (i+1)):=zD0 (by
          rw[←zAj (qU p s) hir,lkI_at hir]
          simp only[zAe (qU p s) hir]
          rw[fallY15 hlow,vP (by rw[←FW.out.2.1,qU p];exact hir),HRT.out])
         obtain⟨g,cg,eg,hlog,⟨cur,hcur⟩,hset⟩:=zBp OQ.out his tm
         injection eg with e1 e2 e3
         injection e1 with e1
         injection e1 with e1 e4
         subst e1
         subst e4
         have f9:=F37.out
         rw[Nat.zero_add] at f9
         rw[Nat.zero_add] at f1
         have fz:=zY hcur (i*4+3)
         have HCUR:=zD0 hcur
         have HLO:=zD0 hlog
         have HN:Hid (qY (wx.setCell ⟨bk,i*4+3,none⟩ (.int .i64 tm)) w1.heap.size (.slice T0 t0_ x0_) (.slice T1 t1_ x1_) (.slice (some ⟨bk,0,none⟩) t2_ x2_) ⟨trI s,swI s,jC s.lk (lkI p s) (i+1)⟩):=zD0 (by
          have h:=hset
          rw[HF.out] at h
          exact h)
         clear h3 h4 hset e2 e3 hlog hlow HF
         obtain⟨m0,m1,m2⟩:=zC YQ.out
         obtain⟨k0,k1,k2,k3,k4,k5⟩:=zE XQ.out
         go_upto_region 14 with fail
         clear f1
         go_region
         have hd:=(Below.refl (wx.setCell ⟨bk,i*4+3,none⟩ (.int .i64 tm)).heap.size (wx.setCell ⟨bk,i*4+3,none⟩ (.int .i64 tm))).drew
         have tX:=(hd.block _ (zA (zR (j:=i*4+3) (v:=.int .i64 tm) XQ.out HCUR.out (by decide)))).trans (zR (j:=i*4+3) (v:=.int .i64 tm) XQ.out HCUR.out (by decide))
         have tY:=(hd.block _ (zA (zR (j:=i*4+3) (v:=.int .i64 tm) YQ.out HCUR.out (by decide)))).trans (zR (j:=i*4+3) (v:=.int .i64 tm) YQ.out HCUR.out (by decide))
         have tZ:=(hd.block _ (zA (zR (j:=i*4+3) (v:=.int .i64 tm) ZQ.out HCUR.out (by decide)))).trans (zR (j:=i*4+3) (v:=.int .i64 tm) ZQ.out HCUR.out (by decide))
         have tB0:=qH BQ7.out (show w.heap.size≤bk by have:=HLO.out;have:=PX.out;omega) (i*4+3) (.int .i64 tm)
         have tB:=tB0.trans (hd.mono tB0.size)
         have tO:=HN.out.below hd
         generalize (wx.setCell ⟨bk,i*4+3,none⟩ (.int .i64 tm)).drew=wy at hd tX tY tZ tB tO⊢
         have TX:=zD0 tX
         have TY:=zD0 tY
         have TZ:=zD0 tZ
         have TB:=zD0 tB
         have TO:=zD0 tO
         clear hd tX tY tZ tB0 tB tO m0 m1 m2 k0 k1 k2 k3 k4 k5 fz f9 F37 HN XQ YQ ZQ BQ7 OQ HCUR hcur
         go_wp2_with fail
         go_roundw
         case measure=>simp[intOf];omega
         case rel=>exact⟨i+1,by omega,by go_num,TO.out,TX.out,TY.out,TZ.out,TB.out⟩
        ·have hb:(b_==3)=false:=by simpa using h3
         have hb4:(b_==4)=false:=by simpa using h4
         have HN:Hid (qY wx w1.heap.size (.slice T0 t0_ x0_) (.slice T1 t1_ x1_) (.slice (some ⟨bk,off,none⟩) t2_ x2_) ⟨trI s,swI s,jC s.lk (lkI p s) (i+1)⟩):=zD0 (by
          rw[mixT_skip (qU p s) hir (by rw[lkI_at hir,HLK.out];exact fallN15 h3 h4)]
          exact OQ.out)
         clear h3 h4
         obtain⟨m0,m1,m2⟩:=zC YQ.out
         go_wp2_with fail
         go_roundw
         case measure=>simp[intOf];omega
         case rel=>exact⟨i+1,by omega,by go_num,HN.out,XQ.out,YQ.out,ZQ.out,BQ7.out⟩
      ·obtain rfl:t2_=i:=by omega
       have hlt':¬(t2_:Int)<t2_:=by omega
       have OF:Hid (qY wx w1.heap.size (.slice T0 t0_ x0_) (.slice T1 t1_ x1_) (.slice T2 t2_ x2_) ⟨trI s,swI s,lkI p s⟩):=zD0 (by have h:=OW.out;rw[zCi (qU p s) (by rw[←qU p s];have:=HT.out;omega)] at h;exact h)
       obtain⟨m0,m1,m2⟩:=zC YW.out
       go_wp2_with ((with_reducible show wpList _ _ _ (⟨none,.store _ _ _,_,_,_,_⟩::_) _ _);refine zK rfl _ (.tmp 4) (.tmp 68) rfl (w.heap.size+2) rfl (c':=#[.slice T0 t0_ x0_,.slice T1 t1_ x1_,.slice T2 t2_ x2_]) rfl ZW.out xL rfl (by simp[Value.oneCell']) ?_)
       have hg:=qB wx (w.heap.size+2) #[.slice T0 t0_ x0_,.slice T1 t1_ x1_,.slice T2 t2_ x2_]
       exact bodyPost_ret (results_cell_row rfl _ _ (w.heap.size+2) 32 #[.slice T0 t0_ x0_,.slice T1 t1_ x1_,.slice T2 t2_ x2_] (0,0) _ rfl (setRow_heap _ _ _ _ _ _ ZW.out) Tryz.underlying32 rfl xL) rfl ⟨_,_,_,rfl,by rw[HR.out];exact(OF.out.off hg (by have:=PX.out;omega)).mono (by have:=PX.out;omega),below_setRow BW.out (by omega) _⟩
set_option maxHeartbeats 16000000 in
theorem rimage15_any (v y:Value) (p:Pl) (s:qD) (w:World) (h:qF w w.heap.size v p) (h':qL w w.heap.size y s):
  Calls Tryz.prog 15 #[v,y] w fun e w'=>∃u0 u1 u2,e = .returned (.tuple #[.agg #[u0,u1,u2],.int .i64 (kI p s)])∧qY w' w.heap.size u0 u1 u2 (jF p s)∧Below w.heap.size w w':=by
 obtain⟨p2,p3,p4,p5,rfl,h⟩:=h
 obtain⟨A2,a2,rfl,-,-⟩:=h.secs.slice
 obtain⟨b2,hb2⟩:=zD1 (p.secs.length)
 have P2:Hid (zX w w.heap.size (.slice A2 b2 a2) p.secs):=zD0 (by rw[hb2];exact h.secs)
 rw[←hb2]
 clear hb2
 obtain⟨A3,a3,rfl,-,-⟩:=h.pts.slice
 obtain⟨b3,hb3⟩:=zD1 (p.pts.length)
 have P3:Hid (zT w w.heap.size (.slice A3 b3 a3) p.pts):=zD0 (by rw[hb3];exact h.pts)
 rw[←hb3]
 clear hb3
 obtain⟨A4,a4,rfl,-,-⟩:=h.sigs.slice
 obtain⟨b4,hb4⟩:=zD1 (p.sigs.length)
 have P4:Hid (xI w w.heap.size (.slice A4 b4 a4) p.sigs):=zD0 (by rw[hb4];exact h.sigs)
 rw[←hb4]
 clear hb4
 obtain⟨A5,a5,rfl,-,-⟩:=h.routes.slice
 obtain⟨b5,hb5⟩:=zD1 (p.routes.length)
 have P5:Hid (qX w w.heap.size (.slice A5 b5 a5) p.routes):=zD0 (by rw[hb5];exact h.routes)
 rw[←hb5]
 clear h
 have HB5:Hid (b5=p.routes.length):=zD0 hb5
 clear hb5
 obtain⟨_,_,_,rfl,h'⟩:=h'
 obtain⟨S0,Sc0,rfl,-,-⟩:=h'.tr.slice
 obtain⟨Sn0,hS0⟩:=zD1 (s.tr.length)
 have HS0:Hid (jD w w.heap.size (.slice S0 Sn0 Sc0) s.tr):=zD0 (by rw[hS0];exact h'.tr)
 rw[←hS0]
 obtain⟨S1,Sc1,rfl,-,-⟩:=h'.sw.slice
 obtain⟨Sn1,hS1⟩:=zD1 (s.sw.length)
 have HS1:Hid (xP w w.heap.size (.slice S1 Sn1 Sc1) s.sw):=zD0 (by rw[hS1];exact h'.sw)
 rw[←hS1]
 obtain⟨S2,Sc2,rfl,-,-⟩:=h'.lk.slice
 obtain⟨Sn2,hS2⟩:=zD1 (s.lk.length)
 have HS2:Hid (xO w w.heap.size (.slice S2 Sn2 Sc2) s.lk):=zD0 (by rw[hS2];exact h'.lk)
 rw[←hS2]
 clear h'
 have NSS:Hid (Sn0=s.tr.length∧Sn1=s.sw.length∧Sn2=s.lk.length):=zD0 ⟨hS0,hS1,hS2⟩
 clear hS0 hS1 hS2
 have PV:Hid (∀W,Below w.heap.size w W→qF W W.heap.size (.agg #[.int .i64 p.ver,.int .i64 p.par,.slice A2 b2 a2,.slice A3 b3 a3,.slice A4 b4 a4,.slice A5 b5 a5]) p):=zD0 (fun W b=>⟨_,_,_,_,rfl,⟨(P2.out.below zN b).more zN b.size,(P3.out.below zM b).more zM b.size,(P4.out.below zP b).more zP b.size,(P5.out.below qM b).more qM b.size⟩⟩)
 have SV:Hid (∀W,Below w.heap.size w W→qL W W.heap.size (.agg #[.slice S0 Sn0 Sc0,.slice S1 Sn1 Sc1,.slice S2 Sn2 Sc2]) s):=zD0 (fun W b=>⟨_,_,_,rfl,⟨(HS0.out.below xY b).more xY b.size,(HS1.out.below zP b).more zP b.size,(HS2.out.below xQ b).more xQ b.size⟩⟩)
 obtain⟨hx,hy,hz,hqb⟩:=vK w (.cells #[.int .i64 p.ver,.int .i64 p.par,.slice A2 b2 a2,.slice A3 b3 a3,.slice A4 b4 a4,.slice A5 b5 a5] 27) (.cells #[.slice S0 Sn0 Sc0,.slice S1 Sn1 Sc1,.slice S2 Sn2 Sc2] 32) (.cells #[.slice none 0 0,.slice none 0 0,.slice none 0 0] 32)
 go_enter Tryz.func15,Tryz.ntmps15
 go_upto_region 1 with fail
 generalize ((w.alloc (.cells #[.int .i64 p.ver,.int .i64 p.par,.slice A2 b2 a2,.slice A3 b3 a3,.slice A4 b4 a4,.slice A5 b5 a5] 27)).alloc (.cells #[.slice S0 Sn0 Sc0,.slice S1 Sn1 Sc1,.slice S2 Sn2 Sc2] 32)).alloc (.cells #[.slice none 0 0,.slice none 0 0,.slice none 0 0] 32)=q at hx hy hz hqb⊢
 have BQ:=zD0 hqb
 have X:=zD0 hx
 have Y:=zD0 hy
 have Z:=zD0 hz
 clear hx hy hz hqb
 obtain⟨k0,k1,k2,k3,k4,k5⟩:=zE X.out
 obtain⟨j0,j1,j2⟩:=zC Y.out
 go_wp2_with fail
 refine(zBd zC7 _ _ p s q (PV.out q BQ.out) (SV.out q BQ.out)).mono ?_
 rintro e w1 ⟨rfl,b1⟩
 have X1:=zD0 ((b1.block _ (zA X.out)).trans X.out)
 have Y1:=zD0 ((b1.block _ (zA Y.out)).trans Y.out)
 have Z1:=zD0 ((b1.block _ (zA Z.out)).trans Z.out)
 have B1:=zD0 (BQ.out.trans (b1.mono BQ.out.size))
 clear b1 k0 k1 k2 k3 k4 k5 j0 j1 j2 X Y Z BQ
 obtain⟨E,hE⟩:=zD1 (kI p s)
 have HE:=zD0 hE
 rw[←hE]
 clear hE
 by_cases h0:E=0
 rotate_left
 ·have h0':(E != 0)=true:=by simpa using h0
  have HR:Hid (kI p s=E∧jF p s=noS):=zD0 ⟨HE.out.symm,by rw[jF,←HE.out,if_neg h0]⟩
  clear h0
  go_wp2_with ((with_reducible show wpList _ _ _ (⟨none,.store _ _ _,_,_,_,_⟩::_) _ _);refine zK rfl _ (.tmp 4) (.tmp 12) rfl (w.heap.size+2) rfl (c':=#[.slice none 0 0,.slice none 0 0,.slice none 0 0]) rfl Z1.out xL rfl (by simp[Value.oneCell']) ?_)
  exact bodyPost_ret (qA (c:=#[.slice none 0 0,.slice none 0 0,.slice none 0 0]) rfl _ _ (w.heap.size+2) rfl (setRow_heap _ _ _ _ _ _ Z1.out) Tryz.underlying32 xL (.int .i64 E) rfl) rfl ⟨_,_,_,by rw[HR.out.1],by rw[HR.out.2];exact noS_own _ _,below_setRow B1.out (by omega) _⟩
 have HR:Hid (kI p s=0∧jF p s=zBw p s∧yD p s):=zD0 ⟨by rw[←HE.out,h0],by rw[jF,←HE.out,if_pos h0],zDk (by rw[←HE.out,h0])⟩
 subst h0
 have d0:((0:Int) != 0)=false:=by decide
 obtain⟨k0,k1,k2,k3,k4,k5⟩:=zE X1.out
 obtain⟨j0,j1,j2⟩:=zC Y1.out
 go_wp2_with fail
 refine(rfallen15_any _ _ p s w1 (PV.out w1 B1.out) (SV.out w1 B1.out) HR.out.2.2).mono ?_
 rintro e w2 ⟨u0,u1,u2,rfl,ho,b2⟩
 have Z2:=zD0 ((b2.block _ (zA Z1.out)).trans Z1.out)
 have B2:=zD0 (B1.out.trans (b2.mono B1.out.size))
 have PX:Hid (w.heap.size+2<w1.heap.size):=zD0 (zA Z1.out)
 obtain⟨T0,x0_,rfl⟩:=ho.tr.slice
 obtain⟨T1,x1_,rfl⟩:=ho.sw.slice
 obtain⟨T2,x2_,rfl⟩:=ho.lk.slice
 obtain⟨t0_,ht0⟩:=zD1 ((zBw p s).tr.length)
 obtain⟨t1_,ht1⟩:=zD1 ((zBw p s).sw.length)
 obtain⟨t2_,ht2⟩:=zD1 ((zBw p s).lk.length)
 rw[←ht0,←ht1,←ht2] at ho
 rw[←ht0,←ht1,←ht2]
 have HO2:=zD0 ho
 clear b2 j0 j1 j2 k0 k1 k2 k3 k4 k5 d0 ht0 ht1 ht2 ho
 go_wp2_with ((with_reducible show wpList _ _ _ (⟨none,.store _ _ _,_,_,_,_⟩::_) _ _);refine zK rfl _ (.tmp 4) (.tmp 16) rfl (w.heap.size+2) rfl (c':=#[.slice T0 t0_ x0_,.slice T1 t1_ x1_,.slice T2 t2_ x2_]) rfl Z2.out xL rfl (by simp[Value.oneCell']) ?_)
 have hg:=qB w2 (w.heap.size+2) #[.slice T0 t0_ x0_,.slice T1 t1_ x1_,.slice T2 t2_ x2_]
 exact bodyPost_ret (qA (c:=#[.slice T0 t0_ x0_,.slice T1 t1_ x1_,.slice T2 t2_ x2_]) rfl _ _ (w.heap.size+2) rfl (setRow_heap _ _ _ _ _ _ Z2.out) Tryz.underlying32 xL (.int .i64 0) rfl) rfl ⟨_,_,_,by rw[HR.out.1],by rw[HR.out.2.1];exact(HO2.out.off hg (by have:=PX.out;omega)).mono (by have:=PX.out;omega),below_setRow B2.out (by omega) _⟩
end Go.Proofs.YtemmgmjhomgbbaaGreat
