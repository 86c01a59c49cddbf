/-
 The program's package way: ask, stay.
 Conditions: fewer than fifty asks.
-/
import Derived.Test.YtemmgmjhomgbbaaGreatUGWayPA
import Derived.Test.YtemmgmjhomgbbaaGreatUGPlnRefB
import Derived.Test.YtemmgmjhomgbbaaGreatUGTrkRef
import Derived.Test.YtemmgmjhomgbbaaGreatUGTrkPA
import Derived.OwnWalk
import Derived.BigQuiet
set_option linter.unusedVariables false
set_option linter.unusedSimpArgs false
set_option maxRecDepth 100000
namespace Go.Proofs.YtemmgmjhomgbbaaGreat
open Go.RowKit
theorem yH {P:Program} {fn:Func} (h:fn.results=#[]) (tmps:Array Value) (w:World):(results fn tmps).run P w = .ok (.tuple #[]) w:=by simp[results,h]
def FarB2 (w w':World) (g:Nat) (v:Value):Prop:=∀b,b<w.heap.size→b≠g→v.ownBlock≠some b→w'.heap[b]? = w.heap[b]?
def addA (x:Wy) (pt lie a:Int):Wy:=if pt=0 then x else ⟨x.path,x.over,x.asks++[(pt,lie,a)],x.near⟩
set_option maxHeartbeats 8000000 in
theorem pask_any {lo g:Nat} {F:Nat→Value} {p:Pl} {r:Rt} {s:Sec} {h2:Value} {t:Jn} {y0 y1 y2:Value} {x:Wy} {o:Value} {l:List Jn} (w:World) (h:WkS w lo g F p r s h2 t y0 y1 y2 x o l) (a:Nat) (lie:Int) (hx:x.asks.length≤50):
  Calls Tryz.prog 131 #[.pointer (some ⟨g,0,none⟩),.int .i64 a,.int .i64 lie] w fun e w'=>e = .returned (.tuple #[])∧(∃u2,WkS w' lo g F p r s h2 t y0 y1 u2 (addA x s.2.1 lie a) o l)∧Below lo w w'∧FarB2 w w' g y2:=by
 have WK0:=zD0 h
 obtain⟨sid,spt,es⟩:=s
 have WK:Hid (WkS w lo g F p r (sid,spt,es) h2 t y0 y1 y2 x o l):=WK0
 have K15:Hid (w.cell? ⟨g,15,none⟩=some (.int .i64 spt)):=zD0 (WK.out.cell 15 rfl)
 clear h WK0
 have k15:=K15.out
 show Calls _ _ _ _ (fun e w'=>e = .returned (.tuple #[])∧(∃u2,WkS w' lo g F p r (sid,spt,es) h2 t y0 y1 u2 (addA x spt lie a) o l)∧Below lo w w'∧FarB2 w w' g y2)
 by_cases hz:spt=0
 ·subst hz
  have HA:Hid (addA x 0 lie a=x):=zD0 (by rw[addA,if_pos rfl])
  rw[HA.out]
  go_enter Tryz.func131,Tryz.ntmps131
  go_wp2_with fail
  refine bodyPost_end (yH rfl _ _) rfl ⟨rfl,⟨_,WK.out⟩,Below.refl _ _,fun _ _ _ _=>rfl⟩
 have hd:(spt != 0)=true:=by simpa using hz
 have HZ:=zD0 hz
 obtain⟨A,c,eA⟩:=WK.out.way.asks.slice
 obtain⟨n,hn⟩:=zD1 (x.asks.length)
 have HLL:=zD0 hn
 have LLE:Hid (n≤50):=zD0 (by omega)
 have HY:Hid (y2 = .slice A n c):=zD0 (by rw[eA,hn])
 have SZ:Hid (g+1≤w.heap.size):=zD0 WK.out.lt
 obtain⟨yss,hown,hyl,hm,hys,hyr⟩:=WK.out.way.asks
 rw[←HLL.out,HY.out] at hown
 have O:=zD0 hown
 have YL:=zD0 hyl
 have YS:=zD0 hys
 have YR:=zD0 hyr
 have K21:Hid (w.cell? ⟨g,21,none⟩=some (.slice A n c)):=zD0 (WK.out.cell 21 (congrArg some HY.out))
 obtain⟨i0,hii,hz0,hzz,hz2⟩:=info_parts zBj
 have I0:=zD0 hii
 have I1:=zD0 hz0
 have I2:=zD0 hzz
 have I3:=zD0 hz2
 clear hii hz0 hzz hz2 hown hyl hm hys hyr hn eA hx hz
 go_enter Tryz.func131,Tryz.ntmps131
 go_upto_region 1 with fail
 refine jG (S:=fun v'=>Below (g+1) w v') 19 (by kernel_rfl) (Below.refl (g+1) w).drew (fun zD2=>?_)
 refine tke [16,17,18,19] 0 zD2 ?_;refine tke [2,3,4,5,15,19] 1 zD2 ?_;refine tke [3,4,5,15,19] 2 zD2 ?_;refine tke [4,5,15,19] 3 zD2 ?_;refine tke [5,15,19] 4 zD2 ?_;refine tkd [15,19] 5 zD2 (fun w' hSw=>(hSw.cell (p:=⟨g,21,none⟩) (Nat.lt_succ_self g)).trans K21.out) ?_;refine tke [7,8,9,10,13,14,15,19] 6 zD2 ?_;refine tke [8,9,10,13,14,15,19] 7 zD2 ?_;refine tke [9,10,13,14,15,19] 8 zD2 ?_;refine tke [10,13,14,15,19] 9 zD2 ?_;refine tkd [13,14,15,19] 10 zD2 (fun w' hSw=>(hSw.cell (p:=⟨g,15,none⟩) (Nat.lt_succ_self g)).trans K15.out) ?_;refine tke [13,14,15,19] 11 zD2 ?_;refine tke [13,14,15,19] 12 zD2 ?_;refine tke [14,15,19] 13 zD2 ?_
 refine xM (i:=14) (by kernel_rfl) rfl (by kernel_rfl) (fun K hK=>?_)
 go_simp
 refine hK.out _ _ ?_ fun zD2=>?_;exact((Below.refl (g+1) w).drew.alloc SZ.out _);clear hK K;try simp only[zn,Act.put]
 refine xM (i:=15) (by kernel_rfl) rfl (by kernel_rfl) (fun K hK=>?_)
 rw[if_pos (by rfl)]
 refine qO (.tmp 17) (.tmp 26) _ rfl Tryz.underlying94 I0.out I1.out rfl I2.out (by decide) I3.out (by decide) rfl (zAt O.out ((Below.refl w.heap.size w).alloc (Nat.le_refl _) _).drew) rfl (m:=1) (news:=[.int .i64 spt,.int .i64 lie,.int .i64 (a:Int)]) rfl (fun h=>by cases h) (fun a ha j u hj=>by cases ha;rw[Addr.add_lit,Nat.zero_add];show(w.alloc (.cells #[.int .i64 spt,.int .i64 lie,.int .i64 (a:Int)] 108)).cell? ⟨w.heap.size,j,none⟩=_;rw[World.cell?_alloc_new];simpa using hj) (by simp[Value.oneCell']) (by have:=LLE.out;omega) (by have:=SZ.out;simp;omega) ?_
 intro v5 w5 hown5 hgrow6
 have hgrow5:World.grownBy (w.alloc (.cells #[.int .i64 spt,.int .i64 lie,.int .i64 (a:Int)] 108)) w5 (Value.ownBlock (.slice A n c)):=⟨hgrow6.os,hgrow6.tape,hgrow6.output,hgrow6.size,hgrow6.block⟩
 have S5:Hid (jV w5 (g+1) v5 (x.asks++[(spt,lie,(a:Int))])):=zD0 (zJ.snoc (w1:=w) (x:=(spt,lie,(a:Int))) (ys:=[.int .i64 spt,.int .i64 lie,.int .i64 (a:Int)]) zP (fun _ h _ _=>h) (by rw[←HLL.out];exact O.out) YL.out YS.out rfl (by have:=LLE.out;have:=HLL.out;unfold maxLen;omega) YR.out (Below.refl _ _) ⟨rfl,rfl,rfl⟩ (by rw[←HLL.out];exact hown5) hgrow5)
 have B5:Hid (Below (g+1) w w5):=zD0 (((Below.refl (g+1) w).alloc SZ.out _).grown hgrow5 (by have:=SZ.out;simp;omega) (jE O.out))
 have SE:Hid (WkS (w5.setCell ⟨g,21,none⟩ v5) lo g F p r (sid,spt,es) h2 t y0 y1 v5 (addA x spt lie (a:Int)) o l∧Below lo w (w5.setCell ⟨g,21,none⟩ v5)):=zD0 (by
  have q0:=zD w (.cells #[.int .i64 spt,.int .i64 lie,.int .i64 (a:Int)] 108)
  have h0:=WK.out.below q0
  obtain⟨k1,k2⟩:=h0.addAsk (addA x spt lie (a:Int)) v5 (by rw[addA,if_neg HZ.out];exact⟨rfl,rfl,rfl⟩) (by rw[HY.out];exact hgrow5) (by rw[addA,if_neg HZ.out];exact S5.out)
  exact⟨k1,(q0.mono WK.out.size).trans k2⟩)
 have FE:Hid (FarB2 w (w5.setCell ⟨g,21,none⟩ v5) g y2):=zD0 (fun b hb hne ho=>by
  rw[xE w5 g 21 b v5 hne,hgrow5.block b (by simp;omega) (fun e=>ho (by rw[HY.out];exact e.symm))]
  exact qZ _ _ hb)
 have kw:w5.cell? ⟨g,21,none⟩=some (.slice A n c):=(B5.out.cell (p:=⟨g,21,none⟩) (Nat.lt_succ_self g)).trans K21.out
 have fw:w5.frozen? ⟨g,21,none⟩=false:=(B5.out.frozen (p:=⟨g,21,none⟩) (Nat.lt_succ_self g)).trans (WK.out.frozen 21)
 obtain⟨A5,c5_,rfl⟩:=xN hown5
 clear hown5 hgrow5 hgrow6
 refine hK.out _ _ ?_ fun zD2=>?_;exact B5.out;clear hK K;try simp only[zn,Act.put]
 refine tke [17,18,19] 16 zD2 ?_;refine tke [18,19] 17 zD2 ?_;refine tke [19] 18 zD2 ?_
 refine kB (by kernel_rfl) rfl (by kernel_rfl) (fun K hK=>?_)
 rw[if_pos (by rfl)]
 go_simp
 refine hK.out _ _ ?_
 clear hK K
 refine bodyPost_end (yH rfl _ _) rfl ⟨rfl,⟨_,SE.out.1⟩,SE.out.2,FE.out⟩
def stayA (x:Wy) (s:Sec) (inn a:Int):Wy:=if xG s.2.1 inn 0<0 then x else addA x s.2.1 (xG s.2.1 inn 0) a
set_option maxHeartbeats 8000000 in
theorem pstay_any {lo g:Nat} {F:Nat→Value} {p:Pl} {r:Rt} {s:Sec} {h2:Value} {t:Jn} {y0 y1 y2:Value} {x:Wy} {o:Value} {l:List Jn} (w:World) (h:WkS w lo g F p r s h2 t y0 y1 y2 x o l) (a:Nat) (hx:x.asks.length≤50) (hs:qQ s=true):
  Calls Tryz.prog 115 #[.pointer (some ⟨g,0,none⟩),.int .i64 a] w fun e w'=>e = .returned (.tuple #[])∧(∃u2,WkS w' lo g F p r s h2 t y0 y1 u2 (stayA x s t.2 a) o l)∧Below lo w w':=by
 have WK0:=zD0 h
 obtain⟨sid,spt,es⟩:=s
 obtain⟨t0,t1⟩:=t
 have WK:Hid (WkS w lo g F p r (sid,spt,es) h2 (t0,t1) y0 y1 y2 x o l):=WK0
 have HX:=zD0 hx
 obtain⟨Ae,ce,eA,-,-⟩:=WK.out.ends.slice
 obtain⟨ne,hne⟩:=zD1 (es.length)
 have HH:Hid (h2 = .slice Ae ne ce):=zD0 (by rw[eA,hne])
 have HE:Hid (zT w w.heap.size (.slice Ae es.length ce) es):=zD0 (by have:=WK.out.ends.more zM WK.out.size;rw[eA] at this;exact this)
 have SZ:Hid (g<w.heap.size):=zD0 WK.out.lt
 have K14:Hid (w.cell? ⟨g,14,none⟩=some (.int .i64 sid)):=zD0 (WK.out.cell 14 rfl)
 have K15:Hid (w.cell? ⟨g,15,none⟩=some (.int .i64 spt)):=zD0 (WK.out.cell 15 rfl)
 have K16:Hid (w.cell? ⟨g,16,none⟩=some (.slice Ae es.length ce)):=zD0 (WK.out.cell 16 (congrArg some eA))
 have K18:Hid (w.cell? ⟨g,18,none⟩=some (.int .i64 t1)):=zD0 (WK.out.cell 18 rfl)
 show Calls _ _ _ _ (fun e w'=>e = .returned (.tuple #[])∧(∃u2,WkS w' lo g F p r (sid,spt,es) h2 (t0,t1) y0 y1 u2 (stayA x (sid,spt,es) t1 a) o l)∧Below lo w w')
 obtain⟨Z,hZ⟩:=zD1 (xG spt t1 0)
 by_cases hl:Z<0
 ·have HTE:Hid (vC (sid,spt,es) t1 0=2):=zD0 (by rw[vC,hs,if_pos rfl,if_pos (by rw[←hZ];exact hl)])
  have HTL:Hid (vN (sid,spt,es) t1 0=0):=zD0 (by rw[vN,HTE.out];rfl)
  have HST:Hid (stayA x (sid,spt,es) t1 a=x):=zD0 (by rw[stayA,if_pos (by rw[←hZ];exact hl)])
  rw[HST.out]
  clear h WK0 hx hs eA hne hZ hl
  go_enter Tryz.func115,Tryz.ntmps115
  go_upto_region 0 with fail
  refine wp_region_held_drew (S:=fun v=>Below w.heap.size w v) (by kernel_rfl) (Below.refl w.heap.size w).drew (fun zD2=>?_)
  refine tk 0 zD2 ?_;refine tk 1 zD2 ?_;refine tk 2 zD2 ?_
  refine wpAnyH_take (i:=3) (v:=?_) rfl (by kernel_rfl) (by kernel_rfl) (by kernel_rfl) (fun _ _ _ h=>h) (Or.inl ⟨by rfl,?_⟩) zD2 ?_
  rotate_left
  ·intro w' hSw;have ch0:=(hSw.cell (p:=⟨g,14,none⟩) SZ.out).trans K14.out;have ch1:=(hSw.cell (p:=⟨g,15,none⟩) SZ.out).trans K15.out;have ch2:=(hSw.cell (p:=⟨g,16,none⟩) SZ.out).trans K16.out;go_simp;try with_reducible rfl
  simp only[zn,Act.put]
  refine tk 4 zD2 ?_;refine tk 5 zD2 ?_;refine tk 6 zD2 ?_;refine tk 7 zD2 ?_;refine tkc 8 zD2 (fun w' hSw=>(hSw.cell (p:=⟨g,18,none⟩) SZ.out).trans K18.out) ?_
  refine tkr 9 (fun K hK=>?_)
  go_simp
  refine(kV _ (sid,spt,es) t1 0 w.drew ⟨_,rfl,HE.out.below zM (Below.refl w.heap.size w).drew⟩).mono ?_
  rintro e wL ⟨rfl,bL⟩
  have BL:Hid (Below w.heap.size w wL):=zD0 ((Below.refl w.heap.size w).drew.trans bL)
  clear bL
  rw[HTL.out,HTE.out]
  try go_wp2_with fail
  refine hK.out _ _ ?_ fun zD2=>?_;exact BL.out;clear hK K;try simp only[zn,Act.put]
  refine tk 10 zD2 ?_;refine tk 11 zD2 ?_;refine tk 12 zD2 ?_;refine tk 13 zD2 ?_;refine tk 14 zD2 ?_
  refine wpAnyH_done (by kernel_rfl) ?_ _
  go_wp2_with fail
  refine bodyPost_end (yH rfl _ _) rfl ⟨rfl,⟨_,WK.out.below BL.out⟩,BL.out.mono WK.out.size⟩
 ·have HTE:Hid (vC (sid,spt,es) t1 0=0):=zD0 (by rw[vC,hs,if_pos rfl,if_neg (by rw[←hZ];exact hl)])
  have HTL:Hid (vN (sid,spt,es) t1 0=Z):=zD0 (by rw[vN,HTE.out,if_pos rfl];exact hZ.symm)
  have HST:Hid (stayA x (sid,spt,es) t1 a=addA x spt Z a):=zD0 (by rw[stayA,if_neg (by rw[←hZ];exact hl),hZ])
  rw[HST.out]
  clear h WK0 hx hs eA hne hZ hl
  go_enter Tryz.func115,Tryz.ntmps115
  go_upto_region 0 with fail
  refine wp_region_held_drew (S:=fun v=>Below w.heap.size w v) (by kernel_rfl) (Below.refl w.heap.size w).drew (fun zD2=>?_)
  refine tk 0 zD2 ?_;refine tk 1 zD2 ?_;refine tk 2 zD2 ?_
  refine wpAnyH_take (i:=3) (v:=?_) rfl (by kernel_rfl) (by kernel_rfl) (by kernel_rfl) (fun _ _ _ h=>h) (Or.inl ⟨by rfl,?_⟩) zD2 ?_
  rotate_left
  ·intro w' hSw;have ch0:=(hSw.cell (p:=⟨g,14,none⟩) SZ.out).trans K14.out;have ch1:=(hSw.cell (p:=⟨g,15,none⟩) SZ.out).trans K15.out;have ch2:=(hSw.cell (p:=⟨g,16,none⟩) SZ.out).trans K16.out;go_simp;try with_reducible rfl
  simp only[zn,Act.put]
  refine tk 4 zD2 ?_;refine tk 5 zD2 ?_;refine tk 6 zD2 ?_;refine tk 7 zD2 ?_;refine tkc 8 zD2 (fun w' hSw=>(hSw.cell (p:=⟨g,18,none⟩) SZ.out).trans K18.out) ?_
  refine tkr 9 (fun K hK=>?_)
  go_simp
  refine(kV _ (sid,spt,es) t1 0 w.drew ⟨_,rfl,HE.out.below zM (Below.refl w.heap.size w).drew⟩).mono ?_
  rintro e wL ⟨rfl,bL⟩
  have BL:Hid (Below w.heap.size w wL):=zD0 ((Below.refl w.heap.size w).drew.trans bL)
  clear bL
  rw[HTL.out,HTE.out]
  try go_wp2_with fail
  refine hK.out _ _ ?_ fun zD2=>?_;exact BL.out;clear hK K;try simp only[zn,Act.put]
  refine tk 10 zD2 ?_;refine tk 11 zD2 ?_;refine tk 12 zD2 ?_;refine tk 13 zD2 ?_;refine tk 14 zD2 ?_
  refine wpAnyH_done (by kernel_rfl) ?_ _
  go_wp2_with fail
  refine(pask_any wL (WK.out.below BL.out) a Z HX.out).mono ?_
  rintro e wR ⟨rfl,hu,bR,-⟩
  have HU:=zD0 hu
  have BR:=zD0 ((BL.out.mono WK.out.size).trans bR)
  clear hu bR
  go_wp2_with fail
  refine bodyPost_end (yH rfl _ _) rfl ⟨rfl,HU.out,BR.out⟩
end Go.Proofs.YtemmgmjhomgbbaaGreat
