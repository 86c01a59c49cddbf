/-
 One element more for a list of the call's own, whatever it holds; a whole struct stored into a block.
 Conditions: none.
-/
import Derived.Test.YtemmgmjhomgbbaaGreatUGTrkRef
import Derived.Test.YtemmgmjhomgbbaaGreatUGPlnRefB
import Derived.Test.YtemmgmjhomgbbaaGreatUGStaPA
import Derived.Test.YtemmgmjhomgbbaaGreatUGStaPE
import Derived.Test.YtemmgmjhomgbbaaGreatUGStaO
import Derived.Test.YtemmgmjhomgbbaaGreatUGStaMem
import Derived.Test.YtemmgmjhomgbbaaGreatUGSndM
import Derived.Test.YtemmgmjhomgbbaaGreatUPlnP3
set_option linter.unusedVariables false
set_option linter.unusedSimpArgs false
set_option maxRecDepth 100000
namespace Go.Proofs.YtemmgmjhomgbbaaGreat
open Go.RowKit
theorem zDt {P:Program} {op:Oper} {a:Act} {w:World} {K:Act→World→Prop} {Q:Exit→Act→World→Prop} (ty:TypeId) (x y:Operand) (ho:op.op = .store ty x y)
  (b:Nat) (hx:a.eval x = .pointer (some ⟨b,0,none⟩)) {c c':Array Value} (hy:a.eval y = .agg c') {t:TypeId} (hb:w.heap[b]? = some (.cells c t (0,0)))
  (hi:(P.info? ty).map (·.size)=some c'.size) (hs:c.size=c'.size) (h1:c'.all (·.oneCell')=true)
  (h:K (a.put op.dst undef) (w.setRow b c')):op.wp P a w K Q:=by
 unfold Oper.wp execOp
 simp only[ho,hx,hy,Instr.storeAt,Instr.sureAddr,Sem.run_bind,Sem.run_pure,Result.andThen_ok]
 rw[run_storeVar_row w b t ty c c' hb hi hs h1]
 exact h
section
variable {α:Type} {T tS:TypeId} {sz:Nat} {R:El α} {W:World} {lo n c ty:Nat} {A:Option Addr} {L:List α} {x:α} {ys:List Value}
end
theorem xL:(Tryz.prog.info? 32).map (·.size)=some 3:=by kernel_rfl
set_option maxHeartbeats 8000000 in
theorem twin15_any (v:Value) (s:qD) (w:World) (h:qL w w.heap.size v s) (hf:FewS s):
  Calls Tryz.prog 33 #[v] w fun e w'=>∃u0 u1 u2,e = .returned (.agg #[u0,u1,u2])∧qY w' w.heap.size u0 u1 u2 s∧Below w.heap.size w w':=by
 obtain⟨_,_,_,rfl,h'⟩:=h
 obtain⟨S0,Sc0,rfl,-,-⟩:=h'.tr.slice
 obtain⟨Sn0,hS0⟩:=zD1 (s.tr.length)
 have HS0:Hid (jD w w.heap.size (.slice S0 Sn0 Sc0) s.tr):=zD0 (by rw[hS0];exact h'.tr)
 rw[←hS0]
 clear hS0
 obtain⟨S1,Sc1,rfl,-,-⟩:=h'.sw.slice
 obtain⟨Sn1,hS1⟩:=zD1 (s.sw.length)
 have HS1:Hid (xP w w.heap.size (.slice S1 Sn1 Sc1) s.sw):=zD0 (by rw[hS1];exact h'.sw)
 rw[←hS1]
 clear hS1
 obtain⟨S2,Sc2,rfl,-,-⟩:=h'.lk.slice
 obtain⟨Sn2,hS2⟩:=zD1 (s.lk.length)
 have HS2:Hid (xO w w.heap.size (.slice S2 Sn2 Sc2) s.lk):=zD0 (by rw[hS2];exact h'.lk)
 rw[←hS2]
 clear hS2
 have FW:=zD0 hf
 clear h' hf
 have hq:=zV w (.cells #[.slice S0 Sn0 Sc0,.slice S1 Sn1 Sc1,.slice S2 Sn2 Sc2] 32) (.cells #[.slice none 0 0,.slice none 0 0,.slice none 0 0] 32)
 have hqs:((w.alloc (.cells #[.slice S0 Sn0 Sc0,.slice S1 Sn1 Sc1,.slice S2 Sn2 Sc2] 32)).alloc (.cells #[.slice none 0 0,.slice none 0 0,.slice none 0 0] 32)).heap.size=w.heap.size+2:=by simp
 go_enter Tryz.func33,Tryz.ntmps33
 go_upto_region 1 with fail
 generalize (w.alloc (.cells #[.slice S0 Sn0 Sc0,.slice S1 Sn1 Sc1,.slice S2 Sn2 Sc2] 32)).alloc (.cells #[.slice none 0 0,.slice none 0 0,.slice none 0 0] 32)=q at hq hqs⊢
 obtain⟨q0,q1,qb⟩:=hq
 have X0:=zD0 q0
 have X1:=zD0 q1
 have BQ:=zD0 qb
 have QS:=zD0 hqs
 clear q0 q1 qb hqs
 refine wp_region_held_drew (S:=fun v=>Below (w.heap.size+1) q v) (by kernel_rfl) ((Below.refl _ q).drew) (fun zD2=>?_)
 refine tk 0 zD2 ?_;refine tkc 1 zD2 (fun w' hSw=>zC ((hSw.block _ (Nat.lt_succ_self _)).trans X0.out)) ?_;refine tk 3 zD2 ?_;refine tkc 4 zD2 (fun w' hSw=>zC ((hSw.block _ (Nat.lt_succ_self _)).trans X0.out)) ?_;refine tk 6 zD2 ?_;refine tkc 7 zD2 (fun w' hSw=>zC ((hSw.block _ (Nat.lt_succ_self _)).trans X0.out)) ?_
 have tb:=(Below.refl q.heap.size q).drew
 generalize q.drew=q0 at tb zD2⊢
 have HB:=zD0 tb
 clear tb
 refine tkr 2 (fun K hK=>?_)
 go_simp
 refine(clone_trk _ s.tr q0 ((HS0.out.below xY (BQ.out.trans (HB.out.mono BQ.out.size))).more xY (Nat.le_trans BQ.out.size HB.out.size)) (by have:=FW.out;unfold FewS at this;omega)).mono ?_
 rintro e q1 ⟨o0,rfl,ho,b⟩
 have tb:=HB.out.trans (b.mono HB.out.size)
 have tO:vY q1 q.heap.size o0 s.tr:=zJ.mono ho HB.out.size
 clear HB b
 have HB:=zD0 tb
 have O0:=zD0 tO
 clear ho tb tO
 try go_wp2_with fail
 refine hK.out _ _ ?_ fun zD2=>?_;exact HB.out.mono (by have:=QS.out;omega);clear hK K;try simp only[zn,Act.put]
 refine tkr 5 (fun K hK=>?_)
 go_simp
 refine(clone_swi _ s.sw q1 ((HS1.out.below zP (BQ.out.trans (HB.out.mono BQ.out.size))).more zP (Nat.le_trans BQ.out.size HB.out.size)) (by have:=FW.out;unfold FewS at this;omega)).mono ?_
 rintro e q2 ⟨o1,rfl,ho,b⟩
 have tb:=HB.out.trans (b.mono HB.out.size)
 have t0:=O0.out.below xY b
 have tO:yR q2 q.heap.size o1 s.sw:=zJ.mono ho HB.out.size
 clear HB b O0
 have HB:=zD0 tb
 have O0:=zD0 t0
 have O1:=zD0 tO
 clear ho tb tO t0
 try go_wp2_with fail
 refine hK.out _ _ ?_ fun zD2=>?_;exact HB.out.mono (by have:=QS.out;omega);clear hK K;try simp only[zn,Act.put]
 refine tkr 8 (fun K hK=>?_)
 go_simp
 refine(clone_lck _ s.lk q2 ((HS2.out.below xQ (BQ.out.trans (HB.out.mono BQ.out.size))).more xQ (Nat.le_trans BQ.out.size HB.out.size)) (by have:=FW.out;unfold FewS at this;omega)).mono ?_
 rintro e q3 ⟨o2,rfl,ho,b⟩
 have tb:=HB.out.trans (b.mono HB.out.size)
 have t0:=O0.out.below xY b
 have t1:=O1.out.below zP b
 have tO:zAy q3 q.heap.size o2 s.lk:=zJ.mono ho HB.out.size
 clear HB b O0 O1
 have HB:=zD0 tb
 have O0:=zD0 t0
 have O1:=zD0 t1
 have O2:=zD0 tO
 clear ho tb tO t0 t1
 try go_wp2_with fail
 refine hK.out _ _ ?_ fun zD2=>?_;exact HB.out.mono (by have:=QS.out;omega);clear hK K;try simp only[zn,Act.put]
 obtain⟨A0,c0,e0⟩:=O0.out.slice
 obtain⟨m0,hm0⟩:=zD1 (s.tr.length)
 rw[←hm0] at e0
 subst e0
 clear hm0
 obtain⟨A1,c1,e1⟩:=O1.out.slice
 obtain⟨m1,hm1⟩:=zD1 (s.sw.length)
 rw[←hm1] at e1
 subst e1
 clear hm1
 obtain⟨A2,c2,e2⟩:=O2.out.slice
 obtain⟨m2,hm2⟩:=zD1 (s.lk.length)
 rw[←hm2] at e2
 subst e2
 clear hm2
 refine tk 9 zD2 ?_
 refine tkr 10 (fun K hK=>?_)
 rw[if_pos (by rfl)]
 refine zDt 32 (.tmp 2) (.tmp 12) rfl (w.heap.size+1) rfl (c':=#[.slice A0 m0 c0,.slice A1 m1 c1,.slice A2 m2 c2]) rfl ((HB.out.block _ (zA X1.out)).trans X1.out) xL rfl (by simp[Value.oneCell']) ?_
 have hrow:=(HB.out.block _ (zA X1.out)).trans X1.out
 have hg:=qB q3 (w.heap.size+1) #[.slice A0 m0 c0,.slice A1 m1 c1,.slice A2 m2 c2]
 have tb:Below (w.heap.size+1) q (q3.setRow (w.heap.size+1) #[.slice A0 m0 c0,.slice A1 m1 c1,.slice A2 m2 c2]):=(HB.out.mono (by have:=QS.out;omega)).trans ((Below.refl _ q3).grown hg (by have:=QS.out;have:=HB.out.size;omega) (fun k e=>by injection e with e;omega))
 have tO:qY (q3.setRow (w.heap.size+1) #[.slice A0 m0 c0,.slice A1 m1 c1,.slice A2 m2 c2]) q.heap.size (.slice A0 m0 c0) (.slice A1 m1 c1) (.slice A2 m2 c2) s:=qY.off ⟨O0.out,O1.out,O2.out⟩ hg (by have:=QS.out;omega)
 have t6:=setRow_heap q3 _ _ #[.slice A0 m0 c0,.slice A1 m1 c1,.slice A2 m2 c2] _ _ hrow
 refine hK.out _ _ ?_ fun zD2=>?_;exact tb;clear hK K;try simp only[zn,Act.put]
 generalize q3.setRow (w.heap.size+1) #[.slice A0 m0 c0,.slice A1 m1 c1,.slice A2 m2 c2]=q5 at tb tO t6 zD2⊢
 clear hrow hg
 have BL:=zD0 (BQ.out.trans (tb.mono (by omega)))
 have OL:=zD0 (tO.mono BQ.out.size)
 have X6:=zD0 t6
 clear tb tO t6 HB
 refine wpAnyH_done (by kernel_rfl) ?_ _
 go_wp2_with fail
 refine bodyPost_ret (results_cell_row rfl _ _ (w.heap.size+1) 32 #[.slice A0 m0 c0,.slice A1 m1 c1,.slice A2 m2 c2] (0,0) _ rfl X6.out Tryz.underlying32 rfl xL) rfl ⟨_,_,_,rfl,OL.out,BL.out⟩
set_option maxHeartbeats 16000000 in
theorem at15_any (hs:zBy) (v:Value) (p:Pl) (w:World) (h:qF w w.heap.size v p):
  Calls Tryz.prog 8 #[v] w fun e w'=>∃u0 u1 u2,e = .returned (.tuple #[.agg #[u0,u1,u2],.int .i64 (restE p)])∧qY w' w.heap.size u0 u1 u2 (vG p)∧Below w.heap.size w w':=by
 obtain⟨p2,p3,p4,p5,rfl,h⟩:=h
 obtain⟨A2,a2,rfl,-,-⟩:=h.secs.slice
 obtain⟨b2,hb2⟩:=zD1 (p.secs.length)
 have P2:Hid (zX w w.heap.size (.slice A2 b2 a2) p.secs):=zD0 (by rw[hb2];exact h.secs)
 rw[←hb2]
 obtain⟨A3,a3,rfl,-,-⟩:=h.pts.slice
 obtain⟨b3,hb3⟩:=zD1 (p.pts.length)
 have P3:Hid (zT w w.heap.size (.slice A3 b3 a3) p.pts):=zD0 (by rw[hb3];exact h.pts)
 rw[←hb3]
 obtain⟨A4,a4,rfl,-,-⟩:=h.sigs.slice
 obtain⟨b4,hb4⟩:=zD1 (p.sigs.length)
 have P4:Hid (xI w w.heap.size (.slice A4 b4 a4) p.sigs):=zD0 (by rw[hb4];exact h.sigs)
 rw[←hb4]
 obtain⟨A5,a5,rfl,-,-⟩:=h.routes.slice
 obtain⟨b5,hb5⟩:=zD1 (p.routes.length)
 have P5:Hid (qX w w.heap.size (.slice A5 b5 a5) p.routes):=zD0 (by rw[hb5];exact h.routes)
 rw[←hb5]
 clear h
 have HBN:Hid (b2=p.secs.length∧b3=p.pts.length∧b5=p.routes.length):=zD0 ⟨hb2,hb3,hb5⟩
 clear hb2 hb3 hb4 hb5
 have hq:=zV w (.cells #[.int .i64 p.ver,.int .i64 p.par,.slice A2 b2 a2,.slice A3 b3 a3,.slice A4 b4 a4,.slice A5 b5 a5] 27) (.cells #[.slice none 0 0,.slice none 0 0,.slice none 0 0] 32)
 go_enter Tryz.func8,Tryz.ntmps8
 go_upto_region 1 with fail
 generalize (w.alloc (.cells #[.int .i64 p.ver,.int .i64 p.par,.slice A2 b2 a2,.slice A3 b3 a3,.slice A4 b4 a4,.slice A5 b5 a5] 27)).alloc (.cells #[.slice none 0 0,.slice none 0 0,.slice none 0 0] 32)=q at hq⊢
 obtain⟨hx,hz,hqb⟩:=hq
 have X:=zD0 hx
 have Z:=zD0 hz
 have BQ:=zD0 hqb
 clear hx hz hqb
 have PV:Hid (∀W,Below w.heap.size w W→qF W W.heap.size (.agg #[.int .i64 p.ver,.int .i64 p.par,.slice A2 b2 a2,.slice A3 b3 a3,.slice A4 b4 a4,.slice A5 b5 a5]) p):=zD0 (fun W b=>⟨_,_,_,_,rfl,⟨(P2.out.below zN b).more zN b.size,(P3.out.below zM b).more zM b.size,(P4.out.below zP b).more zP b.size,(P5.out.below qM b).more qM b.size⟩⟩)
 obtain⟨k0,k1,k2,k3,k4,k5⟩:=zE X.out
 go_wp2_with fail
 refine(hs.check _ p q (PV.out q BQ.out)).mono ?_
 rintro e w1 ⟨rfl,b1⟩
 have X1:=zD0 ((b1.block _ (zA X.out)).trans X.out)
 have Z1:=zD0 ((b1.block _ (zA Z.out)).trans Z.out)
 have B1:=zD0 (BQ.out.trans (b1.mono BQ.out.size))
 clear b1 k0 k1 k2 k3 k4 k5 X Z BQ PV
 rcases zC4 p with⟨he,hS⟩|⟨he,hS⟩
 rotate_left
 ·rw[he]
  have HE:Hid (restE p=100∧vG p=noS):=zD0 ⟨by rw[restE,vR hS];rfl,by rw[vG,vR hS];rfl⟩
  clear he hS
  go_wp2_with ((with_reducible show wpList _ _ _ (⟨none,.store _ _ _,_,_,_,_⟩::_) _ _);refine zK rfl _ (.tmp 2) (.tmp 16) rfl (w.heap.size+1) rfl (c':=#[.slice none 0 0,.slice none 0 0,.slice none 0 0]) rfl Z1.out xL rfl (by simp[Value.oneCell']) ?_)
  exact bodyPost_ret (qA (c:=#[.slice none 0 0,.slice none 0 0,.slice none 0 0]) rfl _ _ (w.heap.size+1) rfl (setRow_heap _ _ _ _ _ _ Z1.out) Tryz.underlying32 xL (.int .i64 100) rfl) rfl ⟨_,_,_,by rw[HE.out.1],by rw[HE.out.2];exact noS_own _ _,below_setRow B1.out (Nat.le_succ _) _⟩
 rw[he]
 have HSD:=zD0 hS
 have HR:Hid (restE p=0∧vG p=⟨p.secs.map (fun x:Sec=>(x.1,(2:Int))),p.pts.map (fun x:Jn=>(x.1,(0:Int),(0:Int))),p.routes.map (fun x:Rt=>(x.id,(0:Int),(0:Int),(0:Int)))⟩):=zD0 ⟨by rw[restE,kW hS];rfl,by rw[vG,kW hS];rfl⟩
 have B16:Hid (b2≤16∧b3≤16∧b5≤16):=zD0 (by have h1:=hS.may.secs.n;have h2:=hS.may.pts.n;have h3:=hS.may.n;have:=HBN.out;omega)
 have hb2:b2≤9223372036854775807:=by have:=B16.out;omega
 have hb3:b3≤9223372036854775807:=by have:=B16.out;omega
 have hb5:b5≤9223372036854775807:=by have:=B16.out;omega
 clear he hS
 have d0:((0:Int) != 0)=false:=by decide
 have x5:=zB w1 (.cells #[.slice none 0 0,.slice none 0 0,.slice none 0 0] 32)
 have b5_:=zD w1 (.cells #[.slice none 0 0,.slice none 0 0,.slice none 0 0] 32)
 go_upto_region 5 with fail
 generalize w1.alloc (.cells #[.slice none 0 0,.slice none 0 0,.slice none 0 0] 32)=q5 at x5 b5_⊢
 obtain⟨px,hpx⟩:=zD1 (w1.heap.size)
 rw[←hpx] at x5 b5_⊢
 have PX:Hid (w.heap.size+1<px):=zD0 (by rw[hpx];exact zA Z1.out)
 have XX:=zD0 x5
 have BX:=zD0 b5_
 have PW:Hid (px=w1.heap.size):=zD0 hpx
 clear x5 b5_ hpx d0
 obtain⟨k0,k1,k2,k3,k4,k5⟩:=zE ((BX.out.block _ (by have:=PX.out;omega)).trans X1.out)
 go_wp2_with fail
 clear k0 k1 k2 k3 k4 k5
 go_loopw [21] (fun s21 wr=>∃i:Nat,i≤b2∧s21 = .int .i64 i∧(∃A c,wr.heap[px]? = some (.cells #[.slice A i c,.slice none 0 0,.slice none 0 0] 32 (0,0))∧vY wr px (.slice A i c) ((p.secs.take i).map (fun x:Sec=>(x.1,(2:Int)))))∧Below px w1 wr) (fun s21 _=>b2-(intOf s21).toNat)
 case atStart=>exact⟨0,by omega,by go_num,⟨none,0,XX.out,zJ.nil_⟩,BX.out⟩
 case round=>
  obtain⟨wx,hwx⟩:=zD1 (wr)
  subst hwx
  obtain⟨i,hi,rfl,⟨A,c,hxx,how⟩,hbw⟩:=hrel
  have XW:=zD0 hxx
  have OW:=zD0 how
  have BW:=zD0 hbw
  clear hxx how hbw
  by_cases hlt:i<b2
  ·have hlt':(i:Int)<b2:=by omega
   have hir:i<p.secs.length:=by have:=HBN.out;omega
   have BWW:Hid (Below w.heap.size w wx):=zD0 (B1.out.trans (BW.out.mono (by have:=PX.out;omega)))
   obtain⟨bk,off,rfl,hbk,hc0,hc1,u,hc2,hu⟩:=((P2.out.below zN BWW.out).more zN BWW.out.size).at hir
   obtain⟨B3,d3,rfl,hu1,hu2⟩:=hu.slice
   obtain⟨a,pt,es,hx⟩:∃a pt es,p.secs[i]=(a,pt,es):=⟨_,_,_,rfl⟩
   have HX:=zD0 hx
   rw[hx] at hc0 hc1 hc2
   dsimp only at hc0 hc1 hc2
   obtain⟨m3,e3⟩:=zD1 (es.length)
   rw[←e3] at hc2
   have hg0:wx.cell? ⟨bk,off+i*3,none⟩=some (.int .i64 a):=hc0
   have hg1:wx.cell? ⟨bk,off+i*3+1,none⟩=some (.int .i64 pt):=hc1
   have hg2:wx.cell? ⟨bk,off+i*3+2,none⟩=some (.slice B3 m3 d3):=hc2
   clear hc0 hc1 hc2 hx hbk hu hu1 hu2 e3
   have HT:Hid ((p.secs.take (i+1)).map (fun x:Sec=>(x.1,(2:Int)))=(p.secs.take i).map (fun x:Sec=>(x.1,(2:Int)))++[(a,(2:Int))]):=zD0 (by rw[List.take_succ_eq_append_getElem hir,List.map_append,HX.out];rfl)
   have HLN:Hid (((p.secs.take i).map (fun x:Sec=>(x.1,(2:Int)))).length=i):=zD0 (by rw[List.length_map,List.length_take];omega)
   have hb16:=B16.out
   obtain⟨q3,hq3⟩:=zD1 (wx.alloc (.cells #[.int .i64 a,.int .i64 pt,.slice B3 m3 d3] 60))
   have x3:=zB wx (.cells #[.int .i64 a,.int .i64 pt,.slice B3 m3 d3] 60)
   have b3_:=zD wx (.cells #[.int .i64 a,.int .i64 pt,.slice B3 m3 d3] 60)
   rw[←hq3] at x3 b3_
   have HQ3:=zD0 hq3
   have X3:=zD0 x3
   have XP:=zD0 ((b3_.block _ (zA XW.out)).trans XW.out)
   have OP:=zD0 (OW.out.below xY b3_)
   have BP:Hid (Below px w1 q3):=zD0 (BW.out.trans (b3_.mono (Nat.le_trans (Nat.le_of_eq PW.out) BW.out.size)))
   clear x3 b3_ hq3
   go_upto_region 8 with fail
   rw[←HQ3.out]
   clear HQ3 hg0 hg1 hg2
   generalize wx.heap.size=p7 at X3⊢
   obtain⟨i0_,hii,hz0,hz1,hz2⟩:=info_parts info_trk
   have I0:=zD0 hii
   have I1:=zD0 hz0
   have I2:=zD0 hz1
   have I3:=zD0 hz2
   obtain⟨yss,hown,hyl,hm_,hys,hyr⟩:=OP.out
   have O:Hid (q3.ownsRow px 51 2 (.slice A i c) i yss.flatten):=zD0 (by have h:=hown;rw[HLN.out] at h;exact h)
   have YL:=zD0 hyl
   have YS:=zD0 hys
   have YR:=zD0 hyr
   have PQ:Hid (px≤q3.heap.size):=zD0 (Nat.le_trans (Nat.le_of_eq PW.out) BP.out.size)
   clear hii hz0 hz1 hz2 hown hyl hm_ hys hyr
   obtain⟨e0,e1,e2⟩:=zC X3.out
   obtain⟨m0,m1,m2⟩:=zC XP.out
   go_upto_region 9 with((with_reducible show wpList _ _ _ (⟨some 31,_,_,_,_,_⟩::_) _ _);refine zQ rfl (.tmp 26) (.tmp 30) _ rfl Tryz.underlying28 I0.out I1.out rfl I2.out (by decide) I3.out (by decide) rfl (O.out.alloc _) rfl (m:=1) (news:=[.int .i64 a,.int .u8 2]) rfl (fun h=>by cases h) (fun a ha j u hj=>by cases ha;rw[Addr.add_lit,Nat.zero_add,World.cell?_alloc_new];simpa using hj) (by simp[Value.oneCell']) (by omega) (by have:=PQ.out;simp;omega) ?_;intro v4 w9 hown4 hgrow4;have hX9:=zAu XP.out _ O.out (by decide) hgrow4;have S4:=zJ.snoc (w1:=q3) (x:=(a,(2:Int))) (ys:=[.int .i64 a,.int .u8 2]) xY (fun _ h _ _=>h) (show q3.ownsRow px 51 2 (.slice A i c) ((p.secs.take i).map (fun x:Sec=>(x.1,(2:Int)))).length yss.flatten by rw[HLN.out];exact O.out) YL.out YS.out rfl (by have:=HLN.out;unfold maxLen;omega) YR.out (Below.refl _ _) ⟨rfl,rfl,show(0:Int)≤2 by decide,show(2:Int)<256 by decide⟩ (by rw[HLN.out];exact hown4) hgrow4;obtain⟨A8,c8,e8⟩:=S4.slice;obtain⟨L,hL⟩:∃z,z=((p.secs.take i).map (fun x:Sec=>(x.1,(2:Int)))++[(a,(2:Int))]).length:=⟨_,rfl⟩;rw[←hL] at e8;subst e8;have HL:Hid (L=i+1):=zD0 (by rw[hL,List.length_append,HLN.out];rfl);clear hL;obtain⟨n0_,n1_,n2_⟩:=zC hX9;have fz:=zY hX9 0)
   have hTR:=xD (R:=TrkR) trkF S4 (zU w9 px 0 (.slice A8 L c8)) (by decide) ⟨_,hX9⟩
   have hBY:=qH ((BP.out.alloc (Nat.le_trans (Nat.le_of_eq PW.out) BP.out.size) _).grown hgrow4 (by have:=PQ.out;simp;omega) (jE O.out)) (Nat.le_refl px) 0 (.slice A8 L c8)
   have hXY:=qG (k:=0) hX9 (.slice A8 L c8)
   generalize w9.setCell ⟨px,0,none⟩ (.slice A8 L c8)=wy at hTR hBY hXY⊢
   clear fz n0_ n1_ n2_ m0 m1 m2 O YL YS YR S4 hX9 hown4 hgrow4 XP OP BP X3 e0 e1 e2
   obtain rfl:=HL.out
   have XN:Hid (wy.heap[px]? = some (.cells #[.slice A8 (i+1) c8,.slice none 0 0,.slice none 0 0] 32 (0,0))):=zD0 hXY
   have ON:Hid (vY wy px (.slice A8 (i+1) c8) ((p.secs.take (i+1)).map (fun x:Sec=>(x.1,(2:Int))))):=zD0 (by rw[HT.out];exact hTR)
   have BN:=zD0 hBY
   clear hXY hTR hBY
   go_wp2_with fail
   go_roundw
   case measure=>simp[intOf];omega
   case rel=>exact⟨i+1,by omega,by go_num,⟨A8,c8,XN.out,ON.out⟩,BN.out⟩
  ·obtain rfl:b2=i:=by omega
   have hlt':¬(b2:Int)<b2:=by omega
   have OF:Hid (vY wx px (.slice A b2 c) (p.secs.map (fun x:Sec=>(x.1,(2:Int))))):=zD0 (by have h:=OW.out;rw[List.take_of_length_le (by have:=HBN.out;omega)] at h;exact h)
   obtain⟨D0,hD0⟩:=zD1 (A)
   subst hD0
   obtain⟨g0,hgk0⟩:=zD1 (c)
   subst hgk0
   obtain⟨m0,m1,m2⟩:=zC XW.out
   obtain⟨k0,k1,k2,k3,k4,k5⟩:=zE ((BW.out.block _ (by have:=PX.out;omega)).trans X1.out)
   go_wp2_with fail
   clear k0 k1 k2 k3 k4 k5 m0 m1 m2
   have XX:=XW
   have BX:=BW
   have O0:=OF
   go_loopw [37] (fun s37 wr=>∃i:Nat,i≤b3∧s37 = .int .i64 i∧(∃A c,wr.heap[px]? = some (.cells #[.slice D0 b2 g0,.slice A i c,.slice none 0 0] 32 (0,0))∧yR wr px (.slice A i c) ((p.pts.take i).map (fun x:Jn=>(x.1,(0:Int),(0:Int)))))∧Below px w1 wr∧vY wr px (.slice D0 b2 g0) (p.secs.map (fun x:Sec=>(x.1,(2:Int))))) (fun s37 _=>b3-(intOf s37).toNat)
   case atStart=>exact⟨0,by omega,by go_num,⟨none,0,XX.out,zJ.nil_⟩,BX.out,O0.out⟩
   case round=>
    obtain⟨wx,hwx⟩:=zD1 (wr)
    subst hwx
    obtain⟨i,hi,rfl,⟨A,c,hxx,how⟩,hbw,hO0⟩:=hrel
    have XW:=zD0 hxx
    have OW:=zD0 how
    have BW:=zD0 hbw
    have OJ0:=zD0 hO0
    clear hxx how hbw hO0
    by_cases hlt:i<b3
    ·have hlt':(i:Int)<b3:=by omega
     have hir:i<p.pts.length:=by have:=HBN.out;omega
     have BWW:Hid (Below w.heap.size w wx):=zD0 (B1.out.trans (BW.out.mono (by have:=PX.out;omega)))
     obtain⟨bk,off,rfl,hbk,hc0,hc1⟩:=((P3.out.below zM BWW.out).more zM BWW.out.size).at hir
     obtain⟨a,b,hx⟩:∃a b,p.pts[i]=(a,b):=⟨_,_,rfl⟩
     have HX:=zD0 hx
     rw[hx] at hc0 hc1
     dsimp only at hc0 hc1
     have hg0:wx.cell? ⟨bk,off+i*2,none⟩=some (.int .i64 a):=hc0
     have hg1:wx.cell? ⟨bk,off+i*2+1,none⟩=some (.int .i64 b):=hc1
     clear hc0 hc1 hx hbk
     have HT:Hid ((p.pts.take (i+1)).map (fun x:Jn=>(x.1,(0:Int),(0:Int)))=(p.pts.take i).map (fun x:Jn=>(x.1,(0:Int),(0:Int)))++[(a,(0:Int),(0:Int))]):=zD0 (by rw[List.take_succ_eq_append_getElem hir,List.map_append,HX.out];rfl)
     have HLN:Hid (((p.pts.take i).map (fun x:Jn=>(x.1,(0:Int),(0:Int)))).length=i):=zD0 (by rw[List.length_map,List.length_take];omega)
     have hb16:=B16.out
     obtain⟨q3,hq3⟩:=zD1 (wx.alloc (.cells #[.int .i64 a,.int .i64 b] 67))
     have x3:=zB wx (.cells #[.int .i64 a,.int .i64 b] 67)
     have b3_:=zD wx (.cells #[.int .i64 a,.int .i64 b] 67)
     rw[←hq3] at x3 b3_
     have HQ3:=zD0 hq3
     have X3:=zD0 x3
     have XP:=zD0 ((b3_.block _ (zA XW.out)).trans XW.out)
     have OP:=zD0 (OW.out.below zP b3_)
     have OQ0:=zD0 (OJ0.out.below xY b3_)
     have BP:Hid (Below px w1 q3):=zD0 (BW.out.trans (b3_.mono (Nat.le_trans (Nat.le_of_eq PW.out) BW.out.size)))
     clear x3 b3_ hq3
     go_upto_region 13 with fail
     rw[←HQ3.out]
     clear HQ3 hg0 hg1
     generalize wx.heap.size=p7 at X3⊢
     obtain⟨i0_,hii,hz0,hz1,hz2⟩:=info_parts info_swi
     have I0:=zD0 hii
     have I1:=zD0 hz0
     have I2:=zD0 hz1
     have I3:=zD0 hz2
     obtain⟨yss,hown,hyl,hm_,hys,hyr⟩:=OP.out
     have O:Hid (q3.ownsRow px 55 3 (.slice A i c) i yss.flatten):=zD0 (by have h:=hown;rw[HLN.out] at h;exact h)
     have YL:=zD0 hyl
     have YS:=zD0 hys
     have YR:=zD0 hyr
     have PQ:Hid (px≤q3.heap.size):=zD0 (Nat.le_trans (Nat.le_of_eq PW.out) BP.out.size)
     clear hii hz0 hz1 hz2 hown hyl hm_ hys hyr
     obtain⟨e0,e1⟩:=zI X3.out
     obtain⟨m0,m1,m2⟩:=zC XP.out
     go_upto_region 14 with((with_reducible show wpList _ _ _ (⟨some 47,_,_,_,_,_⟩::_) _ _);refine zQ rfl (.tmp 42) (.tmp 46) _ rfl Tryz.underlying29 I0.out I1.out rfl I2.out (by decide) I3.out (by decide) rfl (O.out.alloc _) rfl (m:=1) (news:=[.int .i64 a,.int .i64 0,.int .i64 0]) rfl (fun h=>by cases h) (fun a ha j u hj=>by cases ha;rw[Addr.add_lit,Nat.zero_add,World.cell?_alloc_new];simpa using hj) (by simp[Value.oneCell']) (by omega) (by have:=PQ.out;simp;omega) ?_;intro v4 w9 hown4 hgrow4;have hX9:=zAu XP.out _ O.out (by decide) hgrow4;have S4:=zJ.snoc (w1:=q3) (x:=(a,(0:Int),(0:Int))) (ys:=[.int .i64 a,.int .i64 0,.int .i64 0]) zP (fun _ h _ _=>h) (show q3.ownsRow px 55 3 (.slice A i c) ((p.pts.take i).map (fun x:Jn=>(x.1,(0:Int),(0:Int)))).length yss.flatten by rw[HLN.out];exact O.out) YL.out YS.out rfl (by have:=HLN.out;unfold maxLen;omega) YR.out (Below.refl _ _) ⟨rfl,rfl,rfl⟩ (by rw[HLN.out];exact hown4) hgrow4;obtain⟨A8,c8,e8⟩:=S4.slice;obtain⟨L,hL⟩:∃z,z=((p.pts.take i).map (fun x:Jn=>(x.1,(0:Int),(0:Int)))++[(a,(0:Int),(0:Int))]).length:=⟨_,rfl⟩;rw[←hL] at e8;subst e8;have HL:Hid (L=i+1):=zD0 (by rw[hL,List.length_append,HLN.out];rfl);clear hL;obtain⟨n0_,n1_,n2_⟩:=zC hX9;have fz:=zY hX9 1)
     have hTR:=xD (R:=SigR) zAc S4 (zU w9 px 1 (.slice A8 L c8)) (by decide) ⟨_,hX9⟩
     have hT0:=xD (R:=TrkR) trkF (zAw (R:=TrkR) xY trkF OQ0.out _ O.out (by decide) hgrow4) (zU w9 px 1 (.slice A8 L c8)) (by decide) ⟨_,hX9⟩
     have hBY:=qH ((BP.out.alloc (Nat.le_trans (Nat.le_of_eq PW.out) BP.out.size) _).grown hgrow4 (by have:=PQ.out;simp;omega) (jE O.out)) (Nat.le_refl px) 1 (.slice A8 L c8)
     have hXY:=qG (k:=1) hX9 (.slice A8 L c8)
     generalize w9.setCell ⟨px,1,none⟩ (.slice A8 L c8)=wy at hTR hBY hXY hT0⊢
     clear fz n0_ n1_ n2_ m0 m1 m2 O YL YS YR S4 hX9 hown4 hgrow4 XP OP BP X3 e0 e1
     obtain rfl:=HL.out
     have XN:Hid (wy.heap[px]? = some (.cells #[.slice D0 b2 g0,.slice A8 (i+1) c8,.slice none 0 0] 32 (0,0))):=zD0 hXY
     have ON:Hid (yR wy px (.slice A8 (i+1) c8) ((p.pts.take (i+1)).map (fun x:Jn=>(x.1,(0:Int),(0:Int))))):=zD0 (by rw[HT.out];exact hTR)
     have BN:=zD0 hBY
     have ON0:=zD0 hT0
     clear hXY hTR hBY hT0
     go_wp2_with fail
     go_roundw
     case measure=>simp[intOf];omega
     case rel=>exact⟨i+1,by omega,by go_num,⟨A8,c8,XN.out,ON.out⟩,BN.out,ON0.out⟩
    ·obtain rfl:b3=i:=by omega
     have hlt':¬(b3:Int)<b3:=by omega
     have OF:Hid (yR wx px (.slice A b3 c) (p.pts.map (fun x:Jn=>(x.1,(0:Int),(0:Int))))):=zD0 (by have h:=OW.out;rw[List.take_of_length_le (by have:=HBN.out;omega)] at h;exact h)
     obtain⟨D1,hD1⟩:=zD1 (A)
     subst hD1
     obtain⟨g1,hgk1⟩:=zD1 (c)
     subst hgk1
     obtain⟨m0,m1,m2⟩:=zC XW.out
     obtain⟨k0,k1,k2,k3,k4,k5⟩:=zE ((BW.out.block _ (by have:=PX.out;omega)).trans X1.out)
     go_wp2_with fail
     clear k0 k1 k2 k3 k4 k5 m0 m1 m2
     have XX:=XW
     have BX:=BW
     have O1:=OF
     have O0:=OJ0
     go_loopw [53] (fun s53 wr=>∃i:Nat,i≤b5∧s53 = .int .i64 i∧(∃A c,wr.heap[px]? = some (.cells #[.slice D0 b2 g0,.slice D1 b3 g1,.slice A i c] 32 (0,0))∧zAy wr px (.slice A i c) ((p.routes.take i).map (fun x:Rt=>(x.id,(0:Int),(0:Int),(0:Int)))))∧Below px w1 wr∧vY wr px (.slice D0 b2 g0) (p.secs.map (fun x:Sec=>(x.1,(2:Int))))∧yR wr px (.slice D1 b3 g1) (p.pts.map (fun x:Jn=>(x.1,(0:Int),(0:Int))))) (fun s53 _=>b5-(intOf s53).toNat)
     case atStart=>exact⟨0,by omega,by go_num,⟨none,0,XX.out,zJ.nil_⟩,BX.out,O0.out,O1.out⟩
     case round=>
      obtain⟨wx,hwx⟩:=zD1 (wr)
      subst hwx
      obtain⟨i,hi,rfl,⟨A,c,hxx,how⟩,hbw,hO0,hO1⟩:=hrel
      have XW:=zD0 hxx
      have OW:=zD0 how
      have BW:=zD0 hbw
      have OJ0:=zD0 hO0
      have OJ1:=zD0 hO1
      clear hxx how hbw hO0 hO1
      by_cases hlt:i<b5
      ·have hlt':(i:Int)<b5:=by omega
       have hir:i<p.routes.length:=by have:=HBN.out;omega
       have BWW:Hid (Below w.heap.size w wx):=zD0 (B1.out.trans (BW.out.mono (by have:=PX.out;omega)))
       obtain⟨bk,off,rfl,hbk,hc0,hc1,hc2,hc6,u3,u4,u5,hc3,hc4,hc5,hr⟩:=((P5.out.below qM BWW.out).more qM BWW.out.size).at hir
       obtain⟨B3,d3,rfl,hk3,hm3⟩:=hr.path.slice
       obtain⟨B4,d4,rfl,-,-⟩:=hr.over.slice
       obtain⟨B5,d5,rfl,-,-⟩:=hr.flanks.slice
       obtain⟨a,en,ex,lp,lo,lf,tm,hx⟩:∃a en ex lp lo lf tm,p.routes[i]=(⟨a,en,ex,lp,lo,lf,tm⟩:Rt):=⟨_,_,_,_,_,_,_,rfl⟩
       have HX:=zD0 hx
       rw[hx] at hc0 hc1 hc2 hc3 hc4 hc5 hc6 hr hk3
       dsimp only at hc0 hc1 hc2 hc3 hc4 hc5 hc6 hr hk3
       obtain⟨m3,e3⟩:=zD1 (lp.length)
       obtain⟨m4,e4⟩:=zD1 (lo.length)
       obtain⟨m5,e5⟩:=zD1 (lf.length)
       rw[←e3] at hc3 hk3
       rw[←e4] at hc4
       rw[←e5] at hc5
       have HM:Hid (m3=lp.length∧m3≤9223372036854775807):=zD0 ⟨e3,by unfold maxLen at hm3;omega⟩
       have hg0:wx.cell? ⟨bk,off+i*7,none⟩=some (.int .i64 a):=hc0
       have hg1:wx.cell? ⟨bk,off+i*7+1,none⟩=some (.int .i64 en):=hc1
       have hg2:wx.cell? ⟨bk,off+i*7+2,none⟩=some (.int .i64 ex):=hc2
       have hg3:wx.cell? ⟨bk,off+i*7+3,none⟩=some (.slice B3 m3 d3):=hc3
       have hg4:wx.cell? ⟨bk,off+i*7+4,none⟩=some (.slice B4 m4 d4):=hc4
       have hg5:wx.cell? ⟨bk,off+i*7+5,none⟩=some (.slice B5 m5 d5):=hc5
       have hg6:wx.cell? ⟨bk,off+i*7+6,none⟩=some (.int .i64 tm):=hc6
       clear hc0 hc1 hc2 hc3 hc4 hc5 hc6 hx hbk hr hk3 hm3 e3 e4 e5
       have HT:Hid ((p.routes.take (i+1)).map (fun x:Rt=>(x.id,(0:Int),(0:Int),(0:Int)))=(p.routes.take i).map (fun x:Rt=>(x.id,(0:Int),(0:Int),(0:Int)))++[(a,(0:Int),(0:Int),(0:Int))]):=zD0 (by rw[List.take_succ_eq_append_getElem hir,List.map_append,HX.out];rfl)
       have HLN:Hid (((p.routes.take i).map (fun x:Rt=>(x.id,(0:Int),(0:Int),(0:Int)))).length=i):=zD0 (by rw[List.length_map,List.length_take];omega)
       have hb16:=B16.out
       obtain⟨q3,hq3⟩:=zD1 (wx.alloc (.cells #[.int .i64 a,.int .i64 en,.int .i64 ex,.slice B3 m3 d3,.slice B4 m4 d4,.slice B5 m5 d5,.int .i64 tm] 64))
       have x3:=zB wx (.cells #[.int .i64 a,.int .i64 en,.int .i64 ex,.slice B3 m3 d3,.slice B4 m4 d4,.slice B5 m5 d5,.int .i64 tm] 64)
       have b3_:=zD wx (.cells #[.int .i64 a,.int .i64 en,.int .i64 ex,.slice B3 m3 d3,.slice B4 m4 d4,.slice B5 m5 d5,.int .i64 tm] 64)
       rw[←hq3] at x3 b3_
       have HQ3:=zD0 hq3
       have X3:=zD0 x3
       have XP:=zD0 ((b3_.block _ (zA XW.out)).trans XW.out)
       have OP:=zD0 (OW.out.below xQ b3_)
       have OQ0:=zD0 (OJ0.out.below xY b3_)
       have OQ1:=zD0 (OJ1.out.below zP b3_)
       have BP:Hid (Below px w1 q3):=zD0 (BW.out.trans (b3_.mono (Nat.le_trans (Nat.le_of_eq PW.out) BW.out.size)))
       clear x3 b3_ hq3
       go_upto_region 18 with fail
       rw[←HQ3.out]
       clear HQ3 hg0 hg1 hg2 hg3 hg4 hg5 hg6
       generalize wx.heap.size=p7 at X3⊢
       obtain⟨i0_,hii,hz0,hz1,hz2⟩:=info_parts info_lck
       have I0:=zD0 hii
       have I1:=zD0 hz0
       have I2:=zD0 hz1
       have I3:=zD0 hz2
       obtain⟨yss,hown,hyl,hm_,hys,hyr⟩:=OP.out
       have O:Hid (q3.ownsRow px 53 4 (.slice A i c) i yss.flatten):=zD0 (by have h:=hown;rw[HLN.out] at h;exact h)
       have YL:=zD0 hyl
       have YS:=zD0 hys
       have YR:=zD0 hyr
       have PQ:Hid (px≤q3.heap.size):=zD0 (Nat.le_trans (Nat.le_of_eq PW.out) BP.out.size)
       clear hii hz0 hz1 hz2 hown hyl hm_ hys hyr
       obtain⟨e0,e1,e2,e3,e4,e5,e6⟩:=zL X3.out
       obtain⟨m0,m1,m2⟩:=zC XP.out
       go_upto_region 19 with((with_reducible show wpList _ _ _ (⟨some 63,_,_,_,_,_⟩::_) _ _);refine zQ rfl (.tmp 58) (.tmp 62) _ rfl Tryz.underlying30 I0.out I1.out rfl I2.out (by decide) I3.out (by decide) rfl (O.out.alloc _) rfl (m:=1) (news:=[.int .i64 a,.int .u8 0,.int .i64 0,.int .i64 0]) rfl (fun h=>by cases h) (fun a ha j u hj=>by cases ha;rw[Addr.add_lit,Nat.zero_add,World.cell?_alloc_new];simpa using hj) (by simp[Value.oneCell']) (by omega) (by have:=PQ.out;simp;omega) ?_;intro v4 w9 hown4 hgrow4;have hX9:=zAu XP.out _ O.out (by decide) hgrow4;have S4:=zJ.snoc (w1:=q3) (x:=(a,(0:Int),(0:Int),(0:Int))) (ys:=[.int .i64 a,.int .u8 0,.int .i64 0,.int .i64 0]) xQ (fun _ h _ _=>h) (show q3.ownsRow px 53 4 (.slice A i c) ((p.routes.take i).map (fun x:Rt=>(x.id,(0:Int),(0:Int),(0:Int)))).length yss.flatten by rw[HLN.out];exact O.out) YL.out YS.out rfl (by have:=HLN.out;unfold maxLen;omega) YR.out (Below.refl _ _) ⟨rfl,rfl,rfl,rfl,show(0:Int)≤0 by decide,show(0:Int)<256 by decide⟩ (by rw[HLN.out];exact hown4) hgrow4;obtain⟨A8,c8,e8⟩:=S4.slice;obtain⟨L,hL⟩:∃z,z=((p.routes.take i).map (fun x:Rt=>(x.id,(0:Int),(0:Int),(0:Int)))++[(a,(0:Int),(0:Int),(0:Int))]).length:=⟨_,rfl⟩;rw[←hL] at e8;subst e8;have HL:Hid (L=i+1):=zD0 (by rw[hL,List.length_append,HLN.out];rfl);clear hL;obtain⟨n0_,n1_,n2_⟩:=zC hX9;have fz:=zY hX9 2)
       have hTR:=xD (R:=LckR) lckF S4 (zU w9 px 2 (.slice A8 L c8)) (by decide) ⟨_,hX9⟩
       have hT0:=xD (R:=TrkR) trkF (zAw (R:=TrkR) xY trkF OQ0.out _ O.out (by decide) hgrow4) (zU w9 px 2 (.slice A8 L c8)) (by decide) ⟨_,hX9⟩
       have hT1:=xD (R:=SigR) zAc (zAw (R:=SigR) zP zAc OQ1.out _ O.out (by decide) hgrow4) (zU w9 px 2 (.slice A8 L c8)) (by decide) ⟨_,hX9⟩
       have hBY:=qH ((BP.out.alloc (Nat.le_trans (Nat.le_of_eq PW.out) BP.out.size) _).grown hgrow4 (by have:=PQ.out;simp;omega) (jE O.out)) (Nat.le_refl px) 2 (.slice A8 L c8)
       have hXY:=qG (k:=2) hX9 (.slice A8 L c8)
       generalize w9.setCell ⟨px,2,none⟩ (.slice A8 L c8)=wy at hTR hBY hXY hT0 hT1⊢
       clear fz n0_ n1_ n2_ m0 m1 m2 O YL YS YR S4 hX9 hown4 hgrow4 XP OP BP X3 e0 e1 e2 e3 e4 e5 e6
       obtain rfl:=HL.out
       have XN:Hid (wy.heap[px]? = some (.cells #[.slice D0 b2 g0,.slice D1 b3 g1,.slice A8 (i+1) c8] 32 (0,0))):=zD0 hXY
       have ON:Hid (zAy wy px (.slice A8 (i+1) c8) ((p.routes.take (i+1)).map (fun x:Rt=>(x.id,(0:Int),(0:Int),(0:Int))))):=zD0 (by rw[HT.out];exact hTR)
       have BN:=zD0 hBY
       have ON0:=zD0 hT0
       have ON1:=zD0 hT1
       clear hXY hTR hBY hT0 hT1
       go_wp2_with fail
       go_roundw
       case measure=>simp[intOf];omega
       case rel=>exact⟨i+1,by omega,by go_num,⟨A8,c8,XN.out,ON.out⟩,BN.out,ON0.out,ON1.out⟩
      ·obtain rfl:b5=i:=by omega
       have hlt':¬(b5:Int)<b5:=by omega
       have OF:Hid (zAy wx px (.slice A b5 c) (p.routes.map (fun x:Rt=>(x.id,(0:Int),(0:Int),(0:Int))))):=zD0 (by have h:=OW.out;rw[List.take_of_length_le (by have:=HBN.out;omega)] at h;exact h)
       obtain⟨D2,hD2⟩:=zD1 (A)
       subst hD2
       obtain⟨g2,hgk2⟩:=zD1 (c)
       subst hgk2
       obtain⟨m0,m1,m2⟩:=zC XW.out
       have ZF:=zD0 ((BW.out.block _ (by have:=PX.out;omega)).trans Z1.out)
       have BF:Hid (Below w.heap.size w wx):=zD0 (B1.out.trans (BW.out.mono (by have:=PX.out;omega)))
       go_wp2_with ((with_reducible show wpList _ _ _ (⟨none,.store _ _ _,_,_,_,_⟩::_) _ _);refine zK rfl _ (.tmp 2) (.tmp 66) rfl (w.heap.size+1) rfl (c':=#[.slice D0 b2 g0,.slice D1 b3 g1,.slice D2 b5 g2]) rfl ZF.out xL rfl (by simp[Value.oneCell']) ?_)
       have hg:=qB wx (w.heap.size+1) #[.slice D0 b2 g0,.slice D1 b3 g1,.slice D2 b5 g2]
       exact bodyPost_ret (qA (c:=#[.slice D0 b2 g0,.slice D1 b3 g1,.slice D2 b5 g2]) rfl _ _ (w.heap.size+1) rfl (setRow_heap _ _ _ _ _ _ ZF.out) Tryz.underlying32 xL (.int .i64 0) rfl) rfl ⟨_,_,_,by rw[HR.out.1],by rw[HR.out.2];exact(qY.off (k:=w.heap.size+1) (lo:=px) ⟨OJ0.out,OJ1.out,OF.out⟩ hg (by have:=PX.out;omega)).mono (by have:=PX.out;omega),below_setRow BF.out (Nat.le_succ _) _⟩
end Go.Proofs.YtemmgmjhomgbbaaGreat
