/-
 The document's own package state: Twin.
 Conditions: none.
-/
import Derived.Test.YtemmgmjhomgbbaaGreatUGStaPA
import Derived.Test.YtemmgmjhomgbbaaGreatUGStaMem
import Derived.Test.YtemmgmjhomgbbaaGreatUGPlnRefB
import Derived.Test.YtemmgmjhomgbbaaGreatUGStaPI
import Derived.Test.YtemmgmjhomgbbaaGreatUGTrkRef
import Derived.Test.YtemmgmjhomgbbaaGreatUGPlnRefD
import Derived.BigQuiet
set_option linter.unusedVariables false
set_option linter.unusedSimpArgs false
set_option maxRecDepth 100000
namespace Go.Proofs.YtemmgmjhomgbbaaGreat
open Go.RowKit
theorem zAv:(Tryz.prog.info? 32).map (·.size)=some 3:=by kernel_rfl
theorem zBn {α:Type} {T:TypeId} {sz n:Nat} {R:El α} {W V:World} {lo:Nat} {v:Value} {l:List α} {yss:List (List Value)} (hf:zAo R) (ho:V.ownsRow lo T sz v (0+n) ([]++yss.flatten)) (hn:n=l.length) (h1:yss.length=n) (hm:n≤maxLen) (h2:∀ys∈yss,ys.length=sz) (h3:∀(j:Nat) (ys:List Value) (x:α),yss[j]? = some ys→l[j]? = some x→R W W.heap.size (fun k=>ys[k]?) x):zJ T sz R V lo v l:=
 ⟨yss,by rw[Nat.zero_add,List.nil_append,hn] at ho;exact ho,by rw[h1,hn],by rw[←hn];exact hm,h2,fun j ys x a b=>hf (h3 j ys x a b)⟩
set_option maxHeartbeats 16000000 in
theorem rtwin15_any (v:Value) (s:qD) (w:World) (h:qL w w.heap.size v s) (hf:FewS s):
  Calls Tryz.prog 7 #[v] w fun e w'=>∃u0 u1 u2,e = .returned (.agg #[u0,u1,u2])∧qY w' w.heap.size u0 u1 u2 s∧Below w.heap.size w w':=by
 obtain⟨_,_,_,rfl,h'⟩:=h
 obtain⟨S0,Sc0,rfl,-,-⟩:=h'.tr.slice
 obtain⟨Sn0,hS0⟩:=zD1 (s.tr.length)
 have HS0:Hid (jD w w.heap.size (.slice S0 Sn0 Sc0) s.tr):=zD0 (by rw[hS0];exact h'.tr)
 rw[←hS0]
 obtain⟨S1,Sc1,rfl,-,-⟩:=h'.sw.slice
 obtain⟨Sn1,hS1⟩:=zD1 (s.sw.length)
 have HS1:Hid (xP w w.heap.size (.slice S1 Sn1 Sc1) s.sw):=zD0 (by rw[hS1];exact h'.sw)
 rw[←hS1]
 obtain⟨S2,Sc2,rfl,-,-⟩:=h'.lk.slice
 obtain⟨Sn2,hS2⟩:=zD1 (s.lk.length)
 have HS2:Hid (xO w w.heap.size (.slice S2 Sn2 Sc2) s.lk):=zD0 (by rw[hS2];exact h'.lk)
 rw[←hS2]
 have HSN:Hid (Sn0=s.tr.length∧Sn1=s.sw.length∧Sn2=s.lk.length∧Sn0≤200∧Sn1≤200∧Sn2≤200):=zD0 ⟨hS0,hS1,hS2,by rw[hS0];exact hf.1,by rw[hS1];exact hf.2.1,by rw[hS2];exact hf.2.2⟩
 clear h' hf hS0 hS1 hS2
 obtain⟨ia0,hi,hz0,hz1,hz2⟩:=info_parts info_trk
 have I0a:=zD0 hi
 have I0b:=zD0 hz0
 have I0c:=zD0 hz1
 have I0d:=zD0 hz2
 clear hi hz0 hz1 hz2
 obtain⟨ia1,hi,hz0,hz1,hz2⟩:=info_parts info_swi
 have I1a:=zD0 hi
 have I1b:=zD0 hz0
 have I1c:=zD0 hz1
 have I1d:=zD0 hz2
 clear hi hz0 hz1 hz2
 obtain⟨ia2,hi,hz0,hz1,hz2⟩:=info_parts info_lck
 have I2a:=zD0 hi
 have I2b:=zD0 hz0
 have I2c:=zD0 hz1
 have I2d:=zD0 hz2
 clear hi hz0 hz1 hz2
 have hq:=zV w (.cells #[.slice S0 Sn0 Sc0,.slice S1 Sn1 Sc1,.slice S2 Sn2 Sc2] 32) (.cells #[.slice none 0 0,.slice none 0 0,.slice none 0 0] 32)
 have hqs:((w.alloc (.cells #[.slice S0 Sn0 Sc0,.slice S1 Sn1 Sc1,.slice S2 Sn2 Sc2] 32)).alloc (.cells #[.slice none 0 0,.slice none 0 0,.slice none 0 0] 32)).heap.size=w.heap.size+2:=by simp
 go_enter Tryz.func7,Tryz.ntmps7
 go_upto_region 1 with fail
 generalize (w.alloc (.cells #[.slice S0 Sn0 Sc0,.slice S1 Sn1 Sc1,.slice S2 Sn2 Sc2] 32)).alloc (.cells #[.slice none 0 0,.slice none 0 0,.slice none 0 0] 32)=q at hq hqs⊢
 obtain⟨q0,q1,qb⟩:=hq
 have X0:=zD0 q0
 have X1:=zD0 q1
 have BQ:=zD0 qb
 have QS:=zD0 hqs
 clear q0 q1 qb hqs
 refine wp_region_held_drew (S:=fun v=>Below (w.heap.size+1) q v) (by kernel_rfl) ((Below.refl _ q).drew) (fun zD2=>?_)
 refine tk 0 zD2 ?_;refine tkc 1 zD2 (fun w' hSw=>zC ((hSw.block _ (Nat.lt_succ_self _)).trans X0.out)) ?_;refine tk 3 zD2 ?_;refine tkc 4 zD2 (fun w' hSw=>zC ((hSw.block _ (Nat.lt_succ_self _)).trans X0.out)) ?_;refine tk 6 zD2 ?_;refine tkc 7 zD2 (fun w' hSw=>zC ((hSw.block _ (Nat.lt_succ_self _)).trans X0.out)) ?_
 have tb:=(Below.refl q.heap.size q).drew
 generalize q.drew=v0 at tb zD2⊢
 have HB:=zD0 tb
 clear tb
 refine tkr 2 (fun K hK=>?_)
 rw[if_pos (by rfl)]
 obtain⟨yss,hy1,hy2,hy3,hy4,hy5,hy6,hy7⟩:=((HS0.out.below xY (BQ.out.trans (HB.out.mono BQ.out.size))).more xY (Nat.le_trans BQ.out.size HB.out.size)).cells (by have:=HSN.out;omega) trkR_full zC3
 have YL:yss.flatten.length=Sn0*2:=by rw[xA _ hy2,hy1,HSN.out.1]
 refine qO _ _ _ rfl Tryz.underlying28 I0a.out I0b.out rfl I0c.out (by decide) I0d.out (by decide) rfl (base:=q.heap.size) (n:=0) (ys:=[]) ⟨rfl,.inl ⟨rfl,rfl⟩⟩ rfl YL hy4 hy7 hy6 (by have:=HSN.out;omega) HB.out.size ?_
 intro v4 zz1 hown1 hgrow1
 have tO:vY zz1 q.heap.size v4 s.tr:=zBn (W:=v0) trkF hown1 HSN.out.1 (by rw[hy1,HSN.out.1]) (by have:=HSN.out;unfold maxLen;omega) hy2 hy3
 have bb:Below v0.heap.size v0 zz1:=(Below.refl _ _).grown hgrow1 (Nat.le_refl _) (fun k hk=>by cases hk)
 have tb:=HB.out.trans (bb.mono HB.out.size)
 clear hy1 hy2 hy3 hy4 hy5 hy6 hy7 YL hown1 hgrow1 bb HB
 have HB:=zD0 tb
 have O0:=zD0 tO
 clear tb tO
 refine hK.out _ _ ?_ fun zD2=>?_;exact HB.out.mono (by have:=QS.out;omega);clear hK K;try simp only[zn,Act.put]
 refine tkr 5 (fun K hK=>?_)
 rw[if_pos (by rfl)]
 obtain⟨yss,hy1,hy2,hy3,hy4,hy5,hy6,hy7⟩:=((HS1.out.below zP (BQ.out.trans (HB.out.mono BQ.out.size))).more zP (Nat.le_trans BQ.out.size HB.out.size)).cells (by have:=HSN.out;omega) sigR_full jJ
 have YL:yss.flatten.length=Sn1*3:=by rw[xA _ hy2,hy1,HSN.out.2.1]
 refine qO _ _ _ rfl Tryz.underlying29 I1a.out I1b.out rfl I1c.out (by decide) I1d.out (by decide) rfl (base:=q.heap.size) (n:=0) (ys:=[]) ⟨rfl,.inl ⟨rfl,rfl⟩⟩ rfl YL hy4 hy7 hy6 (by have:=HSN.out;omega) HB.out.size ?_
 intro v4 zz2 hown1 hgrow1
 have tO:yR zz2 q.heap.size v4 s.sw:=zBn (W:=zz1) zAc hown1 HSN.out.2.1 (by rw[hy1,HSN.out.2.1]) (by have:=HSN.out;unfold maxLen;omega) hy2 hy3
 have bb:Below zz1.heap.size zz1 zz2:=(Below.refl _ _).grown hgrow1 (Nat.le_refl _) (fun k hk=>by cases hk)
 have tb:=HB.out.trans (bb.mono HB.out.size)
 have t0:=O0.out.below xY bb
 clear hy1 hy2 hy3 hy4 hy5 hy6 hy7 YL hown1 hgrow1 bb HB O0
 have HB:=zD0 tb
 have O1:=zD0 tO
 have O0:=zD0 t0
 clear tb tO t0
 refine hK.out _ _ ?_ fun zD2=>?_;exact HB.out.mono (by have:=QS.out;omega);clear hK K;try simp only[zn,Act.put]
 refine tkr 8 (fun K hK=>?_)
 rw[if_pos (by rfl)]
 obtain⟨yss,hy1,hy2,hy3,hy4,hy5,hy6,hy7⟩:=((HS2.out.below xQ (BQ.out.trans (HB.out.mono BQ.out.size))).more xQ (Nat.le_trans BQ.out.size HB.out.size)).cells (by have:=HSN.out;omega) lckR_full zC1
 have YL:yss.flatten.length=Sn2*4:=by rw[xA _ hy2,hy1,HSN.out.2.2.1]
 refine qO _ _ _ rfl Tryz.underlying30 I2a.out I2b.out rfl I2c.out (by decide) I2d.out (by decide) rfl (base:=q.heap.size) (n:=0) (ys:=[]) ⟨rfl,.inl ⟨rfl,rfl⟩⟩ rfl YL hy4 hy7 hy6 (by have:=HSN.out;omega) HB.out.size ?_
 intro v4 zz3 hown1 hgrow1
 have tO:zAy zz3 q.heap.size v4 s.lk:=zBn (W:=zz2) lckF hown1 HSN.out.2.2.1 (by rw[hy1,HSN.out.2.2.1]) (by have:=HSN.out;unfold maxLen;omega) hy2 hy3
 have bb:Below zz2.heap.size zz2 zz3:=(Below.refl _ _).grown hgrow1 (Nat.le_refl _) (fun k hk=>by cases hk)
 have tb:=HB.out.trans (bb.mono HB.out.size)
 have t0:=O0.out.below xY bb
 have t1:=O1.out.below zP bb
 clear hy1 hy2 hy3 hy4 hy5 hy6 hy7 YL hown1 hgrow1 bb HB O0 O1
 have HB:=zD0 tb
 have O2:=zD0 tO
 have O0:=zD0 t0
 have O1:=zD0 t1
 clear tb tO t0 t1
 refine hK.out _ _ ?_ fun zD2=>?_;exact HB.out.mono (by have:=QS.out;omega);clear hK K;try simp only[zn,Act.put]
 obtain⟨A0,c0,e0⟩:=O0.out.slice
 obtain⟨m0,hm0⟩:=zD1 (s.tr.length)
 rw[←hm0] at e0
 subst e0
 clear hm0
 obtain⟨A1,c1,e1⟩:=O1.out.slice
 obtain⟨m1,hm1⟩:=zD1 (s.sw.length)
 rw[←hm1] at e1
 subst e1
 clear hm1
 obtain⟨A2,c2,e2⟩:=O2.out.slice
 obtain⟨m2,hm2⟩:=zD1 (s.lk.length)
 rw[←hm2] at e2
 subst e2
 clear hm2
 refine tk 9 zD2 ?_
 refine tkr 10 (fun K hK=>?_)
 rw[if_pos (by rfl)]
 refine zDt 32 (.tmp 2) (.tmp 12) rfl (w.heap.size+1) rfl (c':=#[.slice A0 m0 c0,.slice A1 m1 c1,.slice A2 m2 c2]) rfl ((HB.out.block _ (zA X1.out)).trans X1.out) zAv rfl (by simp[Value.oneCell']) ?_
 have hrow:=(HB.out.block _ (zA X1.out)).trans X1.out
 have hg:=qB zz3 (w.heap.size+1) #[.slice A0 m0 c0,.slice A1 m1 c1,.slice A2 m2 c2]
 have tb:Below (w.heap.size+1) q (zz3.setRow (w.heap.size+1) #[.slice A0 m0 c0,.slice A1 m1 c1,.slice A2 m2 c2]):=(HB.out.mono (by have:=QS.out;omega)).trans ((Below.refl _ zz3).grown hg (by have:=QS.out;have:=HB.out.size;omega) (fun k e=>by injection e with e;omega))
 have tO:qY (zz3.setRow (w.heap.size+1) #[.slice A0 m0 c0,.slice A1 m1 c1,.slice A2 m2 c2]) q.heap.size (.slice A0 m0 c0) (.slice A1 m1 c1) (.slice A2 m2 c2) s:=qY.off ⟨O0.out,O1.out,O2.out⟩ hg (by have:=QS.out;omega)
 have t6:=setRow_heap zz3 _ _ #[.slice A0 m0 c0,.slice A1 m1 c1,.slice A2 m2 c2] _ _ hrow
 refine hK.out _ _ ?_ fun zD2=>?_;exact tb;clear hK K;try simp only[zn,Act.put]
 generalize zz3.setRow (w.heap.size+1) #[.slice A0 m0 c0,.slice A1 m1 c1,.slice A2 m2 c2]=vz at tb tO t6 zD2⊢
 clear hrow hg
 have BL:=zD0 (BQ.out.trans (tb.mono (by omega)))
 have OL:=zD0 (tO.mono BQ.out.size)
 have X6:=zD0 t6
 clear tb tO t6 HB
 refine wpAnyH_done (by kernel_rfl) ?_ _
 go_wp2_with fail
 refine bodyPost_ret (results_cell_row rfl _ _ (w.heap.size+1) 32 #[.slice A0 m0 c0,.slice A1 m1 c1,.slice A2 m2 c2] (0,0) _ rfl X6.out Tryz.underlying32 rfl zAv) rfl ⟨_,_,_,rfl,OL.out,BL.out⟩
set_option maxHeartbeats 4000000 in
theorem rgreatS_any (v:Value) (s:qD) (w:World) (h:qL w w.heap.size v s):
  Calls Tryz.prog 6 #[v] w fun e w'=>(∃g:Bool,e = .returned (.bool g)∧(g=false→FewS s))∧Below w.heap.size w w':=by
 obtain⟨u0,u1,u2,rfl,hin⟩:=h
 obtain⟨S0,t0,rfl⟩:=st_sl hin.tr
 obtain⟨s0,hs0⟩:=zD1 (s.tr.length)
 obtain⟨S1,t1,rfl⟩:=st_sl hin.sw
 obtain⟨s1,hs1⟩:=zD1 (s.sw.length)
 obtain⟨S2,t2,rfl⟩:=st_sl hin.lk
 obtain⟨s2,hs2⟩:=zD1 (s.lk.length)
 rw[←hs0] at hin
 rw[←hs0]
 rw[←hs1] at hin
 rw[←hs1]
 rw[←hs2] at hin
 rw[←hs2]
 have HN:Hid (s0=s.tr.length∧s1=s.sw.length∧s2=s.lk.length):=zD0 ⟨hs0,hs1,hs2⟩
 clear hs0 hs1 hs2
 have h0:=zB w (.cells #[.slice S0 s0 t0,.slice S1 s1 t1,.slice S2 s2 t2] 32)
 have hb:=zD w (.cells #[.slice S0 s0 t0,.slice S1 s1 t1,.slice S2 s2 t2] 32)
 go_enter Tryz.func6,Tryz.ntmps6
 go_upto_region 1 with fail
 generalize w.alloc (.cells #[.slice S0 s0 t0,.slice S1 s1 t1,.slice S2 s2 t2] 32)=q at h0 hb⊢
 obtain⟨k0,k1,k2⟩:=zC h0
 have BQ:=zD0 hb
 clear h0 hb hin
 by_cases g0:(s0:Int)>200
 ·have d0:decide ((s0:Int)>200)=true:=decide_eq_true g0
  go_wp2_with fail
  go_ret
  exact⟨by first|exact⟨true,rfl,fun e=>by cases e⟩|exact .inr rfl,BQ.out⟩
 have d0:decide ((s0:Int)>200)=false:=decide_eq_false g0
 by_cases g1:(s1:Int)>200
 ·have d1:decide ((s1:Int)>200)=true:=decide_eq_true g1
  go_wp2_with fail
  go_ret
  exact⟨by first|exact⟨true,rfl,fun e=>by cases e⟩|exact .inr rfl,BQ.out⟩
 have d1:decide ((s1:Int)>200)=false:=decide_eq_false g1
 by_cases g2:(s2:Int)>200
 ·have d2:decide ((s2:Int)>200)=true:=decide_eq_true g2
  go_wp2_with fail
  go_ret
  exact⟨by first|exact⟨true,rfl,fun e=>by cases e⟩|exact .inr rfl,BQ.out⟩
 have d2:decide ((s2:Int)>200)=false:=decide_eq_false g2
 have HF:Hid (FewS s):=zD0 (by have:=HN.out;unfold FewS;omega)
 go_wp2_with fail
 go_ret
 exact⟨by first|exact⟨false,rfl,fun _=>HF.out⟩|exact .inl ⟨rfl,HF.out⟩,BQ.out⟩
set_option maxHeartbeats 16000000 in
theorem rgreatP_any (v:Value) (p:Pl) (w:World) (h:qF w w.heap.size v p):
  Calls Tryz.prog 5 #[v] w fun e w'=>(∃g:Bool,e = .returned (.bool g))∧Below w.heap.size w w':=by
 obtain⟨y2,y3,y4,y5,rfl,hin⟩:=h
 obtain⟨A2,c2,rfl,-,-⟩:=hin.secs.slice
 obtain⟨n2,hn2⟩:=zD1 (p.secs.length)
 obtain⟨A3,c3,rfl,-,-⟩:=hin.pts.slice
 obtain⟨n3,hn3⟩:=zD1 (p.pts.length)
 obtain⟨A4,c4,rfl,-,-⟩:=hin.sigs.slice
 obtain⟨n4,hn4⟩:=zD1 (p.sigs.length)
 obtain⟨AR,cR,rfl,-,-⟩:=hin.routes.slice
 obtain⟨nR,hnR⟩:=zD1 (p.routes.length)
 rw[←hn2] at hin
 rw[←hn2]
 rw[←hn3] at hin
 rw[←hn3]
 rw[←hn4] at hin
 rw[←hn4]
 rw[←hnR] at hin
 rw[←hnR]
 have HN:Hid (n2=p.secs.length∧nR=p.routes.length):=zD0 ⟨hn2,hnR⟩
 clear hn2 hn3 hn4 hnR
 have h0:=zB w (.cells #[.int .i64 p.ver,.int .i64 p.par,.slice A2 n2 c2,.slice A3 n3 c3,.slice A4 n4 c4,.slice AR nR cR] 27)
 have hb:=zD w (.cells #[.int .i64 p.ver,.int .i64 p.par,.slice A2 n2 c2,.slice A3 n3 c3,.slice A4 n4 c4,.slice AR nR cR] 27)
 go_enter Tryz.func5,Tryz.ntmps5
 go_upto_region 1 with fail
 generalize w.alloc (.cells #[.int .i64 p.ver,.int .i64 p.par,.slice A2 n2 c2,.slice A3 n3 c3,.slice A4 n4 c4,.slice AR nR cR] 27)=q at h0 hb⊢
 have X0:=zD0 h0
 have BQ:=zD0 hb
 have HIN:=zD0 ((hin.below hb).more hb.size)
 clear h0 hb hin
 obtain⟨k0,k1,k2,k3,k4,k5⟩:=zE X0.out
 by_cases gn2:(n2:Int)>100
 ·have dn2:decide ((n2:Int)>100)=true:=decide_eq_true gn2
  go_wp2_with fail
  go_ret
  exact⟨by first|exact⟨true,rfl⟩|exact .inr rfl,BQ.out⟩
 have dn2:decide ((n2:Int)>100)=false:=decide_eq_false gn2
 by_cases gn3:(n3:Int)>100
 ·have dn3:decide ((n3:Int)>100)=true:=decide_eq_true gn3
  go_wp2_with fail
  go_ret
  exact⟨by first|exact⟨true,rfl⟩|exact .inr rfl,BQ.out⟩
 have dn3:decide ((n3:Int)>100)=false:=decide_eq_false gn3
 by_cases gn4:(n4:Int)>100
 ·have dn4:decide ((n4:Int)>100)=true:=decide_eq_true gn4
  go_wp2_with fail
  go_ret
  exact⟨by first|exact⟨true,rfl⟩|exact .inr rfl,BQ.out⟩
 have dn4:decide ((n4:Int)>100)=false:=decide_eq_false gn4
 by_cases gnR:(nR:Int)>100
 ·have dnR:decide ((nR:Int)>100)=true:=decide_eq_true gnR
  go_wp2_with fail
  go_ret
  exact⟨by first|exact⟨true,rfl⟩|exact .inr rfl,BQ.out⟩
 have dnR:decide ((nR:Int)>100)=false:=decide_eq_false gnR
 have N2:Hid (n2≤100):=zD0 (by omega)
 have NR:Hid (nR≤100):=zD0 (by omega)
 go_upto_region 5 with fail
 clear gn2 dn2 gn3 dn3 gn4 dn4 gnR dnR k0 k1 k2 k3 k4 k5
 have hn2:n2≤100:=N2.out
 go_loopw [4,3] (fun s4 s3 wr=>∃(i:Nat) (n:Int),s4 = .int .i64 i∧s3 = .int .i64 n∧i≤n2∧wr=q) (fun s4 _ _=>n2-(intOf s4).toNat)
 case atStart=>exact⟨0,0,by go_num,rfl,by omega,rfl⟩
 case round=>
  obtain⟨i,n,rfl,rfl,hi,rfl⟩:=hrel
  obtain⟨k0,k1,k2,k3,k4,k5⟩:=zE X0.out
  by_cases hlt:i<n2
  ·have hlt':(i:Int)<n2:=by omega
   have hir:i<p.secs.length:=by have:=HN.out;omega
   obtain⟨bs,os,rfl,hbs,hs0,hs1,ue,hs2,hj⟩:=HIN.out.secs.at hir
   obtain⟨Au,cu,rfl,-,-⟩:=hj.slice
   have g2:wr.cell? ⟨bs,os+i*3+2,none⟩=some (.slice Au p.secs[i].2.2.length cu):=by simpa using hs2
   obtain⟨nu,hnu⟩:=zD1 (p.secs[i].2.2.length)
   rw[←hnu] at g2
   clear hs0 hs1 hs2 hj hnu hbs
   go_wp2_with fail
   go_roundw
   case measure=>simp[intOf];omega
   case rel=>exact⟨i+1,_,by go_num,rfl,by first|trivial|exact⟨by omega,rfl⟩⟩
  ·obtain rfl:n2=i:=by omega
   have hlt':¬(n2:Int)<n2:=by omega
   go_upto_region 9 with fail
   clear hlt hlt' k0 k1 k2 k3 k4 k5
   obtain⟨q,hq⟩:=zD1 (wr)
   rw[←hq] at X0 BQ HIN⊢
   clear hq
   have hnR:nR≤100:=NR.out
   go_loopw [5,3] (fun s5 s3 wr=>∃(i:Nat) (n:Int),s5 = .int .i64 i∧s3 = .int .i64 n∧i≤nR∧Below q.heap.size q wr) (fun s5 _ _=>nR-(intOf s5).toNat)
   case atStart=>exact⟨0,_,by go_num,rfl,by omega,Below.refl _ _⟩
   case round=>
    obtain⟨i,n,rfl,rfl,hi,hb⟩:=hrel
    have BW:=zD0 hb
    clear hb
    obtain⟨k0,k1,k2,k3,k4,k5⟩:=zE ((BW.out.block _ (zA X0.out)).trans X0.out)
    by_cases hlt:i<nR
    ·have hlt':(i:Int)<nR:=by omega
     have hir:i<p.routes.length:=by have:=HN.out;omega
     obtain⟨br,orr,rfl,hbk,hc0,hc1,hc2,hc6,u3,u4,u5,hc3,hc4,hc5,hu⟩:=HIN.out.routes.at hir
     obtain⟨P0,pd0,rfl,-,-⟩:=hu.path.slice
     obtain⟨P1,pd1,rfl,-,-⟩:=hu.over.slice
     obtain⟨P2,pd2,rfl,-,-⟩:=hu.flanks.slice
     obtain⟨pn0,hn0⟩:=zD1 (p.routes[i].path.length)
     obtain⟨pn1,hn1⟩:=zD1 (p.routes[i].over.length)
     obtain⟨pn2,hn2⟩:=zD1 (p.routes[i].flanks.length)
     rw[←hn0] at hc3
     rw[←hn1] at hc4
     rw[←hn2] at hc5
     have HB:=zD0 hbk
     have G3:Hid (q.cell? ⟨br,orr+i*7+3,none⟩=some (.slice P0 pn0 pd0)):=zD0 hc3
     have G4:Hid (q.cell? ⟨br,orr+i*7+4,none⟩=some (.slice P1 pn1 pd1)):=zD0 hc4
     have G5:Hid (q.cell? ⟨br,orr+i*7+5,none⟩=some (.slice P2 pn2 pd2)):=zD0 hc5
     clear hc0 hc1 hc2 hc3 hc4 hc5 hc6 hu hn0 hn1 hn2 hbk hir
     go_upto_region 11 with fail
     clear k0 k1 k2 k3 k4 k5
     refine wp_region_held_drew (S:=fun v=>Below q.heap.size q v) (by kernel_rfl) BW.out.drew (fun zD2=>?_)
     refine tk 0 zD2 ?_;refine tk 1 zD2 ?_;refine tkc 2 zD2 (fun w' hSw=>zE (hSw.block _ (zA X0.out) |>.trans X0.out)) ?_;refine tk 3 zD2 ?_;refine tk 4 zD2 ?_;refine tk 5 zD2 ?_;refine tkc 6 zD2 (fun w' hSw=>(hSw.cell (p:=⟨br,orr+i*7+3,none⟩) HB.out).trans G3.out) ?_;refine tk 7 zD2 ?_;refine tk 8 zD2 ?_;refine tk 9 zD2 ?_;refine tk 10 zD2 ?_;refine tkc 11 zD2 (fun w' hSw=>zE (hSw.block _ (zA X0.out) |>.trans X0.out)) ?_;refine tk 12 zD2 ?_;refine tk 13 zD2 ?_;refine tk 14 zD2 ?_;refine tkc 15 zD2 (fun w' hSw=>(hSw.cell (p:=⟨br,orr+i*7+4,none⟩) HB.out).trans G4.out) ?_;refine tk 16 zD2 ?_;refine tk 17 zD2 ?_;refine tk 18 zD2 ?_;refine tk 19 zD2 ?_;refine tkc 20 zD2 (fun w' hSw=>zE (hSw.block _ (zA X0.out) |>.trans X0.out)) ?_;refine tk 21 zD2 ?_;refine tk 22 zD2 ?_;refine tk 23 zD2 ?_;refine tkc 24 zD2 (fun w' hSw=>(hSw.cell (p:=⟨br,orr+i*7+5,none⟩) HB.out).trans G5.out) ?_;refine tk 25 zD2 ?_;refine tk 26 zD2 ?_;refine tk 27 zD2 ?_;refine tk 28 zD2 ?_
     have tb:=BW.out.drew
     generalize wr.drew=q0 at tb zD2⊢
     have BE:=zD0 tb
     clear tb
     refine wpAnyH_done (by kernel_rfl) ?_ _
     go_wp2_with fail
     go_roundw
     case measure=>simp[intOf];omega
     case rel=>exact⟨i+1,_,by go_num,rfl,by omega,BE.out⟩
    ·obtain rfl:nR=i:=by omega
     have hlt':¬(nR:Int)<nR:=by omega
     have BF:=zD0 (BQ.out.trans (BW.out.mono BQ.out.size))
     by_cases gn:n>1000
     ·have dn:decide (n>1000)=true:=decide_eq_true gn
      clear gn
      go_wp2_with fail
      go_ret
      exact⟨by first|exact⟨_,rfl⟩|exact .inr rfl,BF.out⟩
     ·have dn:decide (n>1000)=false:=decide_eq_false gn
      clear gn
      go_wp2_with fail
      go_ret
      exact⟨by first|exact⟨_,rfl⟩|exact .inl rfl,BF.out⟩
theorem st_eq15r {a b:qD}:a=b↔a.tr=b.tr∧a.sw=b.sw∧a.lk=b.lk:=by cases a;cases b;simp
set_option maxHeartbeats 16000000 in
theorem zDi (v y:Value) (a b:qD) (w:World) (h:qL w w.heap.size v a) (h':qL w w.heap.size y b):
  Calls Tryz.prog 16 #[v,y] w fun e w'=>e = .returned (.bool (eqB a b))∧Below w.heap.size w w':=by
 obtain⟨_,_,_,rfl,h⟩:=h
 obtain⟨R0,Rc0,rfl,hcl,hcm⟩:=h.tr.slice
 obtain⟨Rn0,hR0⟩:=zD1 (a.tr.length)
 have HR0:Hid (jD w w.heap.size (.slice R0 Rn0 Rc0) a.tr):=zD0 (by rw[hR0];exact h.tr)
 have hbR0:Rn0≤9223372036854775807:=by unfold maxLen at hcm;omega
 rw[←hR0]
 clear hcl hcm
 obtain⟨R1,Rc1,rfl,hcl,hcm⟩:=h.sw.slice
 obtain⟨Rn1,hR1⟩:=zD1 (a.sw.length)
 have HR1:Hid (xP w w.heap.size (.slice R1 Rn1 Rc1) a.sw):=zD0 (by rw[hR1];exact h.sw)
 have hbR1:Rn1≤9223372036854775807:=by unfold maxLen at hcm;omega
 rw[←hR1]
 clear hcl hcm
 obtain⟨R2,Rc2,rfl,hcl,hcm⟩:=h.lk.slice
 obtain⟨Rn2,hR2⟩:=zD1 (a.lk.length)
 have HR2:Hid (xO w w.heap.size (.slice R2 Rn2 Rc2) a.lk):=zD0 (by rw[hR2];exact h.lk)
 have hbR2:Rn2≤9223372036854775807:=by unfold maxLen at hcm;omega
 rw[←hR2]
 clear hcl hcm
 have NR:Hid (Rn0=a.tr.length∧Rn1=a.sw.length∧Rn2=a.lk.length):=zD0 ⟨hR0,hR1,hR2⟩
 clear hR0 hR1 hR2 h
 obtain⟨_,_,_,rfl,h'⟩:=h'
 obtain⟨S0,Sc0,rfl,hcl,hcm⟩:=h'.tr.slice
 obtain⟨Sn0,hS0⟩:=zD1 (b.tr.length)
 have HS0:Hid (jD w w.heap.size (.slice S0 Sn0 Sc0) b.tr):=zD0 (by rw[hS0];exact h'.tr)
 have hbS0:Sn0≤9223372036854775807:=by unfold maxLen at hcm;omega
 rw[←hS0]
 clear hcl hcm
 obtain⟨S1,Sc1,rfl,hcl,hcm⟩:=h'.sw.slice
 obtain⟨Sn1,hS1⟩:=zD1 (b.sw.length)
 have HS1:Hid (xP w w.heap.size (.slice S1 Sn1 Sc1) b.sw):=zD0 (by rw[hS1];exact h'.sw)
 have hbS1:Sn1≤9223372036854775807:=by unfold maxLen at hcm;omega
 rw[←hS1]
 clear hcl hcm
 obtain⟨S2,Sc2,rfl,hcl,hcm⟩:=h'.lk.slice
 obtain⟨Sn2,hS2⟩:=zD1 (b.lk.length)
 have HS2:Hid (xO w w.heap.size (.slice S2 Sn2 Sc2) b.lk):=zD0 (by rw[hS2];exact h'.lk)
 have hbS2:Sn2≤9223372036854775807:=by unfold maxLen at hcm;omega
 rw[←hS2]
 clear hcl hcm
 have NS:Hid (Sn0=b.tr.length∧Sn1=b.sw.length∧Sn2=b.lk.length):=zD0 ⟨hS0,hS1,hS2⟩
 clear hS0 hS1 hS2 h'
 have hq:=zV w (.cells #[.slice R0 Rn0 Rc0,.slice R1 Rn1 Rc1,.slice R2 Rn2 Rc2] 32) (.cells #[.slice S0 Sn0 Sc0,.slice S1 Sn1 Sc1,.slice S2 Sn2 Sc2] 32)
 go_enter Tryz.func16,Tryz.ntmps16
 go_upto_region 1 with fail
 generalize (w.alloc (.cells #[.slice R0 Rn0 Rc0,.slice R1 Rn1 Rc1,.slice R2 Rn2 Rc2] 32)).alloc (.cells #[.slice S0 Sn0 Sc0,.slice S1 Sn1 Sc1,.slice S2 Sn2 Sc2] 32)=q at hq⊢
 obtain⟨q0,q1,qb⟩:=hq
 have X:=zD0 q0
 have Y:=zD0 q1
 have BQ:=zD0 qb
 clear q0 q1 qb
 obtain⟨k0,k1,k2⟩:=zC X.out
 obtain⟨m0,m1,m2⟩:=zC Y.out
 by_cases e0:Rn0=Sn0
 rotate_left
 ·have d0:((Rn0:Int) != Sn0)=true:=by simpa using(show¬(Rn0:Int)=Sn0 by omega)
  have HF:Hid (eqB a b=false):=zD0 (kF fun h=>e0 (by rw[NR.out.1,NS.out.1];exact congrArg (fun z:qD=>z.tr.length) h))
  clear e0
  go_wp2_with fail
  go_ret
  exact⟨by rw[HF.out];rfl,BQ.out⟩
 have d0:((Rn0:Int) != Sn0)=false:=by simpa using(show(Rn0:Int)=Sn0 by omega)
 have L0:=zD0 e0
 clear e0
 by_cases e1:Rn1=Sn1
 rotate_left
 ·have d1:((Rn1:Int) != Sn1)=true:=by simpa using(show¬(Rn1:Int)=Sn1 by omega)
  have HF:Hid (eqB a b=false):=zD0 (kF fun h=>e1 (by rw[NR.out.2.1,NS.out.2.1];exact congrArg (fun z:qD=>z.sw.length) h))
  clear e1
  go_wp2_with fail
  go_ret
  exact⟨by rw[HF.out];rfl,BQ.out⟩
 have d1:((Rn1:Int) != Sn1)=false:=by simpa using(show(Rn1:Int)=Sn1 by omega)
 have L1:=zD0 e1
 clear e1
 by_cases e2:Rn2=Sn2
 rotate_left
 ·have d2:((Rn2:Int) != Sn2)=true:=by simpa using(show¬(Rn2:Int)=Sn2 by omega)
  have HF:Hid (eqB a b=false):=zD0 (kF fun h=>e2 (by rw[NR.out.2.2,NS.out.2.2];exact congrArg (fun z:qD=>z.lk.length) h))
  clear e2
  go_wp2_with fail
  go_ret
  exact⟨by rw[HF.out];rfl,BQ.out⟩
 have d2:((Rn2:Int) != Sn2)=false:=by simpa using(show(Rn2:Int)=Sn2 by omega)
 have L2:=zD0 e2
 clear e2
 have BS:=zD0 (Below.refl q.heap.size q)
 go_upto_region 4 with fail
 clear k0 k1 k2 m0 m1 m2
 go_loopw [5] (fun s5 wr=>∃i:Nat,i≤Rn0∧s5 = .int .i64 i∧(∀j (hj:j<i) (hl:j<a.tr.length) (hm:j<b.tr.length),a.tr[j]=b.tr[j])∧Below q.heap.size q wr) (fun s5 _=>Rn0-(intOf s5).toNat)
 case atStart=>exact⟨0,by omega,by go_num,fun j hj=>absurd hj (by omega),BS.out⟩
 case round=>
  obtain⟨wx,hwx⟩:=zD1 (wr)
  subst hwx
  obtain⟨i,hi,rfl,hall,hbw⟩:=hrel
  have HALL:=zD0 hall
  have BW:=zD0 hbw
  clear hall hbw
  have BF:=zD0 (BQ.out.trans (BW.out.mono BQ.out.size))
  obtain⟨k0,k1,k2⟩:=zC ((BW.out.block _ (zA X.out)).trans X.out)
  obtain⟨m0,m1,m2⟩:=zC ((BW.out.block _ (zA Y.out)).trans Y.out)
  have BD:Hid (∀nq,Below q.heap.size q (wx.drewN nq)):=zD0 (fun nq=>⟨BW.out.os,BW.out.tape,BW.out.output,BW.out.size,BW.out.block⟩)
  by_cases hlt:i<Rn0
  ·have hlt':(i:Int)<Rn0:=by omega
   have hlm:i<Sn0:=by have:=L0.out;omega
   have hir:i<a.tr.length:=by have:=NR.out;omega
   have him:i<b.tr.length:=by have:=NS.out;have:=L0.out;omega
   obtain⟨ba,oa,rfl,hba,hc0,hc1,-,-⟩:=((HR0.out.below xY BF.out).more xY BF.out.size).at hir
   obtain⟨bb,ob,rfl,hbb,hd0,hd1,-,-⟩:=((HS0.out.below xY BF.out).more xY BF.out.size).at him
   obtain⟨x,hx⟩:=zD1 (a.tr[i])
   obtain⟨y,hy⟩:=zD1 (b.tr[i])
   rw[←hx] at hc0 hc1
   rw[←hy] at hd0 hd1
   have hg0:wx.cell? ⟨ba,oa+i*2,none⟩=some (.int .i64 x.1):=hc0
   have hh0:wx.cell? ⟨bb,ob+i*2,none⟩=some (.int .i64 y.1):=hd0
   have hg1:wx.cell? ⟨ba,oa+i*2+1,none⟩=some (.int .u8 x.2):=hc1
   have hh1:wx.cell? ⟨bb,ob+i*2+1,none⟩=some (.int .u8 y.2):=hd1
   have HX:=zD0 hx
   have HY:=zD0 hy
   clear hc0 hc1 hd0 hd1 hx hy hba hbb
   go_upto_region 6 with fail
   by_cases he:x=y
   ·have hcmp:∀w':World,(Op.equalIn 10000 51 (.agg #[.int .i64 x.1,.int .u8 x.2]) (.agg #[.int .i64 y.1,.int .u8 y.2])).run Tryz.prog w' = .ok true w':=eq_trk_eq he
    have NX:Hid (∀j (hj:j<i+1) (hl:j<a.tr.length) (hm:j<b.tr.length),a.tr[j]=b.tr[j]):=zD0 (fun j hj h1 h2=>by
     rcases Nat.lt_or_ge j i with h|h
     ·exact HALL.out j h h1 h2
     ·obtain rfl:j=i:=by omega
      rw[←HX.out,←HY.out];exact he)
    clear he
    go_quiet (fail)
    have hdb:=BD.out nq
    generalize wx.drewN nq=q7 at hdb⊢
    have B7:=zD0 hdb
    clear hdb BD hcmp hg0 hh0 hg1 hh1 k0 k1 k2 m0 m1 m2
    go_wp2_with fail
    go_roundw
    case measure=>simp[intOf];omega
    case rel=>exact⟨i+1,by omega,by go_num,NX.out,B7.out⟩
   ·have hcmp:∀w':World,(Op.equalIn 10000 51 (.agg #[.int .i64 x.1,.int .u8 x.2]) (.agg #[.int .i64 y.1,.int .u8 y.2])).run Tryz.prog w' = .ok false w':=eq_trk_ne he
    have HF:Hid (eqB a b=false):=zD0 (kF fun h=>he (by rw[HX.out,HY.out];exact getElem_congr' (congrArg qD.tr h)))
    clear he
    go_quiet (fail)
    have hdb:=BD.out nq
    generalize wx.drewN nq=q7 at hdb⊢
    have B7:=zD0 hdb
    clear hdb BD hcmp hg0 hh0 hg1 hh1 k0 k1 k2 m0 m1 m2
    go_wp2_with fail
    go_ret
    exact⟨by rw[HF.out];rfl,BQ.out.trans (B7.out.mono BQ.out.size)⟩
  ·obtain rfl:Rn0=i:=by omega
   have hlt':¬(Rn0:Int)<Rn0:=by omega
   have ALL0:Hid (∀j (hl:j<a.tr.length) (hm:j<b.tr.length),a.tr[j]=b.tr[j]):=zD0 (fun j h1 h2=>HALL.out j (by rw[NR.out.1];exact h1) h1 h2)
   have BS:=BW
   clear HALL BF BD
   go_upto_region 9 with fail
   clear k0 k1 k2 m0 m1 m2
   go_loopw [6] (fun s6 wr=>∃i:Nat,i≤Rn1∧s6 = .int .i64 i∧(∀j (hj:j<i) (hl:j<a.sw.length) (hm:j<b.sw.length),a.sw[j]=b.sw[j])∧Below q.heap.size q wr) (fun s6 _=>Rn1-(intOf s6).toNat)
   case atStart=>exact⟨0,by omega,by go_num,fun j hj=>absurd hj (by omega),BS.out⟩
   case round=>
    obtain⟨wx,hwx⟩:=zD1 (wr)
    subst hwx
    obtain⟨i,hi,rfl,hall,hbw⟩:=hrel
    have HALL:=zD0 hall
    have BW:=zD0 hbw
    clear hall hbw
    have BF:=zD0 (BQ.out.trans (BW.out.mono BQ.out.size))
    obtain⟨k0,k1,k2⟩:=zC ((BW.out.block _ (zA X.out)).trans X.out)
    obtain⟨m0,m1,m2⟩:=zC ((BW.out.block _ (zA Y.out)).trans Y.out)
    have BD:Hid (∀nq,Below q.heap.size q (wx.drewN nq)):=zD0 (fun nq=>⟨BW.out.os,BW.out.tape,BW.out.output,BW.out.size,BW.out.block⟩)
    by_cases hlt:i<Rn1
    ·have hlt':(i:Int)<Rn1:=by omega
     have hlm:i<Sn1:=by have:=L1.out;omega
     have hir:i<a.sw.length:=by have:=NR.out;omega
     have him:i<b.sw.length:=by have:=NS.out;have:=L1.out;omega
     obtain⟨ba,oa,rfl,hba,hc0,hc1,hc2⟩:=((HR1.out.below zP BF.out).more zP BF.out.size).at hir
     obtain⟨bb,ob,rfl,hbb,hd0,hd1,hd2⟩:=((HS1.out.below zP BF.out).more zP BF.out.size).at him
     obtain⟨x,hx⟩:=zD1 (a.sw[i])
     obtain⟨y,hy⟩:=zD1 (b.sw[i])
     rw[←hx] at hc0 hc1 hc2
     rw[←hy] at hd0 hd1 hd2
     have hg0:wx.cell? ⟨ba,oa+i*3,none⟩=some (.int .i64 x.1):=hc0
     have hh0:wx.cell? ⟨bb,ob+i*3,none⟩=some (.int .i64 y.1):=hd0
     have hg1:wx.cell? ⟨ba,oa+i*3+1,none⟩=some (.int .i64 x.2.1):=hc1
     have hh1:wx.cell? ⟨bb,ob+i*3+1,none⟩=some (.int .i64 y.2.1):=hd1
     have hg2:wx.cell? ⟨ba,oa+i*3+2,none⟩=some (.int .i64 x.2.2):=hc2
     have hh2:wx.cell? ⟨bb,ob+i*3+2,none⟩=some (.int .i64 y.2.2):=hd2
     have HX:=zD0 hx
     have HY:=zD0 hy
     clear hc0 hc1 hc2 hd0 hd1 hd2 hx hy hba hbb
     go_upto_region 11 with fail
     by_cases he:x=y
     ·have hcmp:∀w':World,(Op.equalIn 10000 55 (.agg #[.int .i64 x.1,.int .i64 x.2.1,.int .i64 x.2.2]) (.agg #[.int .i64 y.1,.int .i64 y.2.1,.int .i64 y.2.2])).run Tryz.prog w' = .ok true w':=eq_swi_eq he
      have NX:Hid (∀j (hj:j<i+1) (hl:j<a.sw.length) (hm:j<b.sw.length),a.sw[j]=b.sw[j]):=zD0 (fun j hj h1 h2=>by
       rcases Nat.lt_or_ge j i with h|h
       ·exact HALL.out j h h1 h2
       ·obtain rfl:j=i:=by omega
        rw[←HX.out,←HY.out];exact he)
      clear he
      go_quiet (fail)
      have hdb:=BD.out nq
      generalize wx.drewN nq=q7 at hdb⊢
      have B7:=zD0 hdb
      clear hdb BD hcmp hg0 hh0 hg1 hh1 hg2 hh2 k0 k1 k2 m0 m1 m2
      go_wp2_with fail
      go_roundw
      case measure=>simp[intOf];omega
      case rel=>exact⟨i+1,by omega,by go_num,NX.out,B7.out⟩
     ·have hcmp:∀w':World,(Op.equalIn 10000 55 (.agg #[.int .i64 x.1,.int .i64 x.2.1,.int .i64 x.2.2]) (.agg #[.int .i64 y.1,.int .i64 y.2.1,.int .i64 y.2.2])).run Tryz.prog w' = .ok false w':=eq_swi_ne he
      have HF:Hid (eqB a b=false):=zD0 (kF fun h=>he (by rw[HX.out,HY.out];exact getElem_congr' (congrArg qD.sw h)))
      clear he
      go_quiet (fail)
      have hdb:=BD.out nq
      generalize wx.drewN nq=q7 at hdb⊢
      have B7:=zD0 hdb
      clear hdb BD hcmp hg0 hh0 hg1 hh1 hg2 hh2 k0 k1 k2 m0 m1 m2
      go_wp2_with fail
      go_ret
      exact⟨by rw[HF.out];rfl,BQ.out.trans (B7.out.mono BQ.out.size)⟩
    ·obtain rfl:Rn1=i:=by omega
     have hlt':¬(Rn1:Int)<Rn1:=by omega
     have ALL1:Hid (∀j (hl:j<a.sw.length) (hm:j<b.sw.length),a.sw[j]=b.sw[j]):=zD0 (fun j h1 h2=>HALL.out j (by rw[NR.out.2.1];exact h1) h1 h2)
     have BS:=BW
     clear HALL BF BD
     go_upto_region 14 with fail
     clear k0 k1 k2 m0 m1 m2
     go_loopw [7] (fun s7 wr=>∃i:Nat,i≤Rn2∧s7 = .int .i64 i∧(∀j (hj:j<i) (hl:j<a.lk.length) (hm:j<b.lk.length),a.lk[j]=b.lk[j])∧Below q.heap.size q wr) (fun s7 _=>Rn2-(intOf s7).toNat)
     case atStart=>exact⟨0,by omega,by go_num,fun j hj=>absurd hj (by omega),BS.out⟩
     case round=>
      obtain⟨wx,hwx⟩:=zD1 (wr)
      subst hwx
      obtain⟨i,hi,rfl,hall,hbw⟩:=hrel
      have HALL:=zD0 hall
      have BW:=zD0 hbw
      clear hall hbw
      have BF:=zD0 (BQ.out.trans (BW.out.mono BQ.out.size))
      obtain⟨k0,k1,k2⟩:=zC ((BW.out.block _ (zA X.out)).trans X.out)
      obtain⟨m0,m1,m2⟩:=zC ((BW.out.block _ (zA Y.out)).trans Y.out)
      have BD:Hid (∀nq,Below q.heap.size q (wx.drewN nq)):=zD0 (fun nq=>⟨BW.out.os,BW.out.tape,BW.out.output,BW.out.size,BW.out.block⟩)
      by_cases hlt:i<Rn2
      ·have hlt':(i:Int)<Rn2:=by omega
       have hlm:i<Sn2:=by have:=L2.out;omega
       have hir:i<a.lk.length:=by have:=NR.out;omega
       have him:i<b.lk.length:=by have:=NS.out;have:=L2.out;omega
       obtain⟨ba,oa,rfl,hba,hc0,hc1,hc2,hc3,-,-⟩:=((HR2.out.below xQ BF.out).more xQ BF.out.size).at hir
       obtain⟨bb,ob,rfl,hbb,hd0,hd1,hd2,hd3,-,-⟩:=((HS2.out.below xQ BF.out).more xQ BF.out.size).at him
       obtain⟨x,hx⟩:=zD1 (a.lk[i])
       obtain⟨y,hy⟩:=zD1 (b.lk[i])
       rw[←hx] at hc0 hc1 hc2 hc3
       rw[←hy] at hd0 hd1 hd2 hd3
       have hg0:wx.cell? ⟨ba,oa+i*4,none⟩=some (.int .i64 x.1):=hc0
       have hh0:wx.cell? ⟨bb,ob+i*4,none⟩=some (.int .i64 y.1):=hd0
       have hg1:wx.cell? ⟨ba,oa+i*4+1,none⟩=some (.int .u8 x.2.1):=hc1
       have hh1:wx.cell? ⟨bb,ob+i*4+1,none⟩=some (.int .u8 y.2.1):=hd1
       have hg2:wx.cell? ⟨ba,oa+i*4+2,none⟩=some (.int .i64 x.2.2.1):=hc2
       have hh2:wx.cell? ⟨bb,ob+i*4+2,none⟩=some (.int .i64 y.2.2.1):=hd2
       have hg3:wx.cell? ⟨ba,oa+i*4+3,none⟩=some (.int .i64 x.2.2.2):=hc3
       have hh3:wx.cell? ⟨bb,ob+i*4+3,none⟩=some (.int .i64 y.2.2.2):=hd3
       have HX:=zD0 hx
       have HY:=zD0 hy
       clear hc0 hc1 hc2 hc3 hd0 hd1 hd2 hd3 hx hy hba hbb
       go_upto_region 16 with fail
       by_cases he:x=y
       ·have hcmp:∀w':World,(Op.equalIn 10000 53 (.agg #[.int .i64 x.1,.int .u8 x.2.1,.int .i64 x.2.2.1,.int .i64 x.2.2.2]) (.agg #[.int .i64 y.1,.int .u8 y.2.1,.int .i64 y.2.2.1,.int .i64 y.2.2.2])).run Tryz.prog w' = .ok true w':=eq_lck_eq he
        have NX:Hid (∀j (hj:j<i+1) (hl:j<a.lk.length) (hm:j<b.lk.length),a.lk[j]=b.lk[j]):=zD0 (fun j hj h1 h2=>by
         rcases Nat.lt_or_ge j i with h|h
         ·exact HALL.out j h h1 h2
         ·obtain rfl:j=i:=by omega
          rw[←HX.out,←HY.out];exact he)
        clear he
        go_quiet (fail)
        have hdb:=BD.out nq
        generalize wx.drewN nq=q7 at hdb⊢
        have B7:=zD0 hdb
        clear hdb BD hcmp hg0 hh0 hg1 hh1 hg2 hh2 hg3 hh3 k0 k1 k2 m0 m1 m2
        go_wp2_with fail
        go_roundw
        case measure=>simp[intOf];omega
        case rel=>exact⟨i+1,by omega,by go_num,NX.out,B7.out⟩
       ·have hcmp:∀w':World,(Op.equalIn 10000 53 (.agg #[.int .i64 x.1,.int .u8 x.2.1,.int .i64 x.2.2.1,.int .i64 x.2.2.2]) (.agg #[.int .i64 y.1,.int .u8 y.2.1,.int .i64 y.2.2.1,.int .i64 y.2.2.2])).run Tryz.prog w' = .ok false w':=eq_lck_ne he
        have HF:Hid (eqB a b=false):=zD0 (kF fun h=>he (by rw[HX.out,HY.out];exact getElem_congr' (congrArg qD.lk h)))
        clear he
        go_quiet (fail)
        have hdb:=BD.out nq
        generalize wx.drewN nq=q7 at hdb⊢
        have B7:=zD0 hdb
        clear hdb BD hcmp hg0 hh0 hg1 hh1 hg2 hh2 hg3 hh3 k0 k1 k2 m0 m1 m2
        go_wp2_with fail
        go_ret
        exact⟨by rw[HF.out];rfl,BQ.out.trans (B7.out.mono BQ.out.size)⟩
      ·obtain rfl:Rn2=i:=by omega
       have hlt':¬(Rn2:Int)<Rn2:=by omega
       have ALL2:Hid (∀j (hl:j<a.lk.length) (hm:j<b.lk.length),a.lk[j]=b.lk[j]):=zD0 (fun j h1 h2=>HALL.out j (by rw[NR.out.2.2];exact h1) h1 h2)
       have BS:=BW
       clear HALL BF BD
       have HF:Hid (eqB a b=true):=zD0 (yK (st_eq15r.2 ⟨zCo (by rw[←NR.out.1,←NS.out.1,L0.out]) ALL0.out,zCo (by rw[←NR.out.2.1,←NS.out.2.1,L1.out]) ALL1.out,zCo (by rw[←NR.out.2.2,←NS.out.2.2,L2.out]) ALL2.out⟩))
       go_wp2_with fail
       go_ret
       exact⟨by rw[HF.out];rfl,BQ.out.trans (BS.out.mono BQ.out.size)⟩
end Go.Proofs.YtemmgmjhomgbbaaGreat
