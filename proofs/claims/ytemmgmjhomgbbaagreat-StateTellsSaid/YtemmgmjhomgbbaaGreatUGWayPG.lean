/-
 The program's package way: out, enter, start.
 Conditions: none.
-/
import Derived.Test.YtemmgmjhomgbbaaGreatUWayPF
import Derived.Test.YtemmgmjhomgbbaaGreatUPlnP3
import Derived.Test.YtemmgmjhomgbbaaGreatUWayPH
set_option linter.unusedVariables false
set_option linter.unusedSimpArgs false
set_option maxRecDepth 100000
namespace Go.Proofs.YtemmgmjhomgbbaaGreat
open Go.RowKit
set_option maxHeartbeats 4000000 in
theorem pout_next {lo g:Nat} {F:Nat→Value} {p:Pl} {r:Rt} {s:Sec} {h2:Value} {t:Jn} {y0 y1 y2:Value} {x:Wy} {o:Value} {l:List Jn} (w:World) (h:WkS w lo g F p r s h2 t y0 y1 y2 x o l) (a:Nat) (ha:a+1<(zS r).length) (hne:a+1≠r.path.length) (hr:qW p r):
  Calls Tryz.prog 117 #[.pointer (some ⟨g,0,none⟩),.int .i64 a] w fun e w'=>∃k,e = .returned (.func (.func 132) #[] #[.pointer (some ⟨k,0,none⟩)])∧w'.heap[k]? = some (.cells #[.int .i64 ((zS r).getD (a+1) 0)] 3 (0,0))∧Below w.heap.size w w':=by
 have WK:=zD0 h
 have HR:=zD0 hr
 obtain⟨A9,c9,e9,hcl9,hcm9⟩:=h.path.slice
 obtain⟨n9,hn9⟩:=zD1 ((r.path).length)
 have HN9:=zD0 hn9
 have hm9:n9≤9223372036854775807:=by rw[hn9];unfold maxLen at hcm9;omega
 have HF9:Hid (F 9 = .slice A9 n9 c9):=zD0 (by rw[e9,hn9])
 obtain⟨A13,c13,e13⟩:=h.all.slice
 obtain⟨n13,hn13⟩:=zD1 ((zS r).length)
 have HN13:=zD0 hn13
 have hm13:n13≤8:=by have:=hr.len;omega
 have HF13:Hid (F 13 = .slice A13 n13 c13):=zD0 (by rw[e13,hn13])
 have hl9:n9≤6:=by have:=hr.route.path;omega
 have HA13:Hid (qV w lo (.slice A13 n13 c13) (zS r)):=zD0 (by rw[←HF13.out];exact h.all)
 have HAL:=zD0 ha
 have k9:w.cell? ⟨g,9,none⟩=some (.slice A9 n9 c9):=WK.out.cell 9 (congrArg some HF9.out)
 have k13:w.cell? ⟨g,13,none⟩=some (.slice A13 n13 c13):=WK.out.cell 13 (congrArg some HF13.out)
 obtain⟨b,off,e2,hbl,hc0⟩:=(HA13.out.in_ zZ).at ha
 cases e2
 obtain⟨nx,hnx⟩:=zD1 ((zS r).getD (a+1) 0)
 have hx:w.cell? ⟨b,off+(a+1),none⟩=some (.int .i64 nx):=by rw[hnx,List.getD,List.getElem?_eq_getElem ha];simpa [jU] using hc0
 rw[←hnx]
 have d1:((a:Int) != (n9:Int)-1)=true:=by simp;omega
 have hal:(a:Int)+1<n13:=by omega
 have hw1:IntKind.i64.wrap ((a:Int)+1)=(a:Int)+1:=kA (by omega) (by omega)
 have hw2:IntKind.i64.wrap ((n9:Int)-1)=(n9:Int)-1:=kA (by omega) (by omega)
 have ht1:((a:Int)+1).toNat=a+1:=by omega
 have hp1:(0:Int)≤(a:Int)+1:=by omega
 clear h hr ha hne hnx hc0 hbl e9 e13 hcl9 hcm9 hn9 hn13
 go_enter Tryz.func117,Tryz.ntmps117
 go_wp2_with fail
 go_ret
 exact⟨_,rfl,zB w _,zD w _⟩
set_option maxHeartbeats 4000000 in
theorem pout_none {lo g:Nat} {F:Nat→Value} {p:Pl} {r:Rt} {s:Sec} {h2:Value} {t:Jn} {y0 y1 y2:Value} {x:Wy} {o:Value} {l:List Jn} (w:World) (h:WkS w lo g F p r s h2 t y0 y1 y2 x o l) (a:Nat) (hne:a+1=r.path.length) (hx0:r.exit=0) (hr:qW p r):
  Calls Tryz.prog 117 #[.pointer (some ⟨g,0,none⟩),.int .i64 a] w fun e w'=>e = .returned (.func (.func 133) #[] #[])∧Below w.heap.size w w':=by
 have WK:=zD0 h
 obtain⟨A9,c9,e9,hcl9,hcm9⟩:=h.path.slice
 obtain⟨n9,hn9⟩:=zD1 ((r.path).length)
 have HN9:=zD0 hn9
 have hm9:n9≤9223372036854775807:=by rw[hn9];unfold maxLen at hcm9;omega
 have HF9:Hid (F 9 = .slice A9 n9 c9):=zD0 (by rw[e9,hn9])
 have hl9:n9≤6:=by have:=hr.route.path;omega
 have k9:w.cell? ⟨g,9,none⟩=some (.slice A9 n9 c9):=WK.out.cell 9 (congrArg some HF9.out)
 have k8:w.cell? ⟨g,8,none⟩=some (.int .i64 0):=WK.out.cell 8 (congrArg some (h.exit.trans (by rw[hx0])))
 have d1:((a:Int) != (n9:Int)-1)=false:=by simp;omega
 have hw2:IntKind.i64.wrap ((n9:Int)-1)=(n9:Int)-1:=kA (by omega) (by omega)
 clear h hr hne e9 hcl9 hcm9 hn9 hx0
 go_enter Tryz.func117,Tryz.ntmps117
 go_wp2_with fail
 go_ret
 exact⟨rfl,Below.refl _ _⟩
set_option maxHeartbeats 8000000 in
theorem penter_any {lo g:Nat} {F:Nat→Value} {p:Pl} {r:Rt} {s:Sec} {h2:Value} {t:Jn} {y0 y1 y2:Value} {x:Wy} {o:Value} {l:List Jn} (w:World) (h:WkS w lo g F p r s h2 t y0 y1 y2 x o l) (a:Nat) (ha:a<(zS r).length) (hr:qW p r):
  Calls Tryz.prog 90 #[.pointer (some ⟨g,0,none⟩),.int .i64 a] w fun e w'=>e = .returned (.bool (zBm t.1 ((zS r).getD a 0)))∧(∃u,WkS w' lo g F p r (jX p ((zS r).getD a 0)) u t y0 y1 y2 x o l)∧Below lo w w':=by
 have WK0:=zD0 h
 obtain⟨t0,t1⟩:=t
 have WK:Hid (WkS w lo g F p r s h2 (t0,t1) y0 y1 y2 x o l):=WK0
 have HR:=zD0 hr
 obtain⟨A13,c13,e13⟩:=h.all.slice
 obtain⟨n13,hn13⟩:=zD1 ((zS r).length)
 have HN13:=zD0 hn13
 have hm13:n13≤8:=by have:=hr.len;omega
 have HF13:Hid (F 13 = .slice A13 n13 c13):=zD0 (by rw[e13,hn13])
 have HA13:Hid (qV w lo (.slice A13 n13 c13) (zS r)):=zD0 (by rw[←HF13.out];exact h.all)
 have k13:w.cell? ⟨g,13,none⟩=some (.slice A13 n13 c13):=WK.out.cell 13 (congrArg some HF13.out)
 obtain⟨b,off,e2,hbl,hc0⟩:=(HA13.out.in_ zZ).at ha
 cases e2
 obtain⟨ks,hks,hat,hsk,hid⟩:=HR.out.sec ha
 obtain⟨nx,hnx⟩:=zD1 ((zS r).getD a 0)
 have hx:w.cell? ⟨b,off+a,none⟩=some (.int .i64 nx):=by rw[hnx,List.getD,List.getElem?_eq_getElem ha];simpa [jU] using hc0
 rw[←hnx] at hat hsk hid⊢
 have hal:(a:Int)<n13:=by omega
 obtain⟨sid,spt,es,hse⟩:∃a b c,p.secs[ks]=(a,b,c):=⟨_,_,_,rfl⟩
 have HSE:Hid (p.secs[ks]=(sid,spt,es)):=zD0 hse
 have HSN:Hid (jX p nx=(sid,spt,es)):=zD0 (hsk.trans hse)
 have HID:Hid (sid=nx):=zD0 (by rw[hse] at hid;exact hid)
 have HAT:=zD0 hat
 rw[HSN.out]
 clear h WK0 hr ha hnx hc0 hbl e13 hn13 hat hsk hid hse
 dsimp only
 go_enter Tryz.func90,Tryz.ntmps90
 go_wp2_with fail
 refine(psection_any w WK.out nx ks hks HAT.out).mono ?_
 rintro e w1 ⟨u,rfl,hu,b1⟩
 rw[HSE.out] at hu⊢
 obtain⟨Au,cu,rfl,-,-⟩:=hu.slice
 obtain⟨ne,hne⟩:=zD1 (es.length)
 have HU:Hid (zT w1 lo (.slice Au ne cu) (sid,spt,es).2.2):=zD0 (by rw[hne];exact hu)
 have W1:=zD0 (WK.out.below b1)
 have B1:=zD0 (b1.mono WK.out.size)
 rw[←hne]
 have f14:=W1.out.frozen 14
 have f15:=W1.out.frozen 15
 have f16:=W1.out.frozen 16
 have c14:w1.cell? ⟨g,14,none⟩=some (.int .i64 s.1):=W1.out.cell 14 rfl
 have c15:w1.cell? ⟨g,15,none⟩=some (.int .i64 s.2.1):=W1.out.cell 15 rfl
 have c16:w1.cell? ⟨g,16,none⟩=some h2:=W1.out.cell 16 rfl
 clear hu b1 hne k13
 go_upto_region 2 with fail
 have q:=W1.out.setHere (sid,spt,es) (.slice Au ne cu) HU.out
 dsimp only at q
 generalize ((w1.setCell ⟨g,14,none⟩ (.int .i64 sid)).setCell ⟨g,15,none⟩ (.int .i64 spt)).setCell ⟨g,16,none⟩ (.slice Au ne cu)=wH at q⊢
 have WH:=zD0 q.1
 have BH:=zD0 (B1.out.trans q.2)
 clear q f14 f15 f16 c14 c15 c16
 have c14:wH.cell? ⟨g,14,none⟩=some (.int .i64 sid):=WH.out.cell 14 rfl
 have c17:wH.cell? ⟨g,17,none⟩=some (.int .i64 t0):=WH.out.cell 17 rfl
 have BD:Hid (∀nq,Below wH.heap.size wH (wH.drewN nq)):=zD0 (fun nq=>zBx wH nq)
 by_cases he:t0=sid
 ·have HD:Hid (zBm t0 nx=true):=zD0 (decide_eq_true (he.trans HID.out))
  have hd:(t0==sid)=true:=by simpa using he
  clear he
  go_quiet (fail)
  have hdb:=BD.out nq
  generalize wH.drewN nq=wZ at hdb⊢
  have BZ:=zD0 hdb
  clear hdb BD c14 c17
  go_wp2_with fail
  go_ret
  exact⟨by rw[HD.out];rfl,⟨_,WH.out.below BZ.out⟩,BH.out.trans (BZ.out.mono WH.out.size)⟩
 ·have HD:Hid (zBm t0 nx=false):=zD0 (decide_eq_false (fun e=>he (e.trans HID.out.symm)))
  have hd:(t0==sid)=false:=by simpa using he
  clear he
  go_quiet (fail)
  have hdb:=BD.out nq
  generalize wH.drewN nq=wZ at hdb⊢
  have BZ:=zD0 hdb
  clear hdb BD c14 c17
  go_wp2_with fail
  go_ret
  exact⟨by rw[HD.out];rfl,⟨_,WH.out.below BZ.out⟩,BH.out.trans (BZ.out.mono WH.out.size)⟩
theorem WkS.there {W:World} {lo g:Nat} {F:Nat→Value} {p:Pl} {r:Rt} {s:Sec} {h2:Value} {t:Jn} {y0 y1 y2:Value} {x:Wy} {o:Value} {l:List Jn} (h:WkS W lo g F p r s h2 t y0 y1 y2 x o l) (k n:Nat) (hn:k+n≤24):W.there g k n:=fun j hj=>
 ⟨by rw[cell_of_row _ _ (k+j) _ _ _ h.row,Array.getElem?_eq_getElem (show k+j<24 by omega)];rfl,h.frozen _⟩
set_option maxHeartbeats 16000000 in
theorem pstart_any {lo g:Nat} {F:Nat→Value} {p:Pl} {r:Rt} {s:Sec} {h2:Value} {t:Jn} {y0 y1 y2:Value} {x:Wy} {o:Value} {l:List Jn} (w:World) (h:WkS w lo g F p r s h2 t y0 y1 y2 x o l) (hr:qW p r):
  Calls Tryz.prog 89 #[.pointer (some ⟨g,0,none⟩)] w fun e w'=>e = .returned (.tuple #[])∧(∃u u0 u1 t',jP p r 0=some t'∧WkS w' lo g F p r (jX p (sigN p r.entry).2.1) u t' u0 u1 (.slice none 0 0) ⟨r.path,r.over,[],(sigN p r.entry).2.1⟩ o l)∧Below lo w w':=by
 have WK:=zD0 h
 have HR:=zD0 hr
 obtain⟨kg,hkg,hatg,hsg,ks,hks,hats,hss,he0,he1⟩:=hr.entry
 have HC0:Hid (jP p r 0=some (p.secs[ks].2.2.getD p.sigs[kg].2.2.toNat (0,0))):=zD0 (by rw[jP,hsg,hss])
 obtain⟨gid,sc,en,hsge⟩:∃a b c,p.sigs[kg]=(a,b,c):=⟨_,_,_,rfl⟩
 have HSG:Hid (p.sigs[kg]=(gid,sc,en)):=zD0 hsge
 have HSN:Hid (sigN p r.entry=(gid,sc,en)):=zD0 (hsg.trans hsge)
 rw[hsge] at hats hss he0 he1
 have HC1:=HC0.out
 rw[hsge] at HC1
 obtain⟨sid,spt,es,hsse⟩:∃a b c,p.secs[ks]=(a,b,c):=⟨_,_,_,rfl⟩
 have HSS:Hid (p.secs[ks]=(sid,spt,es)):=zD0 hsse
 have HSC:Hid (jX p sc=(sid,spt,es)):=zD0 (hss.trans hsse)
 rw[hsse] at he1 HC1
 have HE1:Hid (en.toNat<es.length):=zD0 (by have h1:en<es.length:=he1;have h0:0≤en:=he0;omega)
 have HCN:Hid (jP p r 0=some (es.getD en.toNat (0,0))):=zD0 HC1
 have HAG:=zD0 hatg
 have HAS:=zD0 hats
 have hen0:(0:Int)≤en:=he0
 have hen1:en<es.length:=he1
 have k7:w.cell? ⟨g,7,none⟩=some (.int .i64 r.entry):=WK.out.cell 7 (congrArg some h.entry)
 rw[HSN.out]
 clear HC1 HC0 hsge hsse h hr hatg hsg hats hss he0 he1
 dsimp only
 rw[HSC.out]
 go_enter Tryz.func89,Tryz.ntmps89
 go_wp2_with fail
 refine(zAa w WK.out r.entry kg hkg HAG.out).mono ?_
 rintro e w1 ⟨rfl,b1⟩
 rw[HSG.out]
 have B1:=zD0 b1
 have XX0:=zB w1 (.cells #[.int .i64 0,.int .i64 0,.int .i64 0] 115)
 have hz0:=below_setRow (zD w1 (.cells #[.int .i64 0,.int .i64 0,.int .i64 0] 115)) (Nat.le_refl _) #[.int .i64 gid,.int .i64 sc,.int .i64 en]
 have hz1:=setRow_heap (w1.alloc (.cells #[.int .i64 0,.int .i64 0,.int .i64 0] 115)) w1.heap.size _ #[.int .i64 gid,.int .i64 sc,.int .i64 en] 115 _ XX0
 clear b1 k7
 go_upto_region 1 with((with_reducible show wpList _ _ _ (⟨none,_,_,_,_,_⟩::_) _ _);refine zK rfl _ (.tmp 2) (.tmp 9) rfl w1.heap.size rfl (c':=#[.int .i64 gid,.int .i64 sc,.int .i64 en]) rfl XX0 zBc rfl (by simp[Value.oneCell']) ?_)
 generalize (w1.alloc (.cells #[.int .i64 0,.int .i64 0,.int .i64 0] 115)).setRow w1.heap.size #[.int .i64 gid,.int .i64 sc,.int .i64 en]=q at hz0 hz1⊢
 have BQ:Hid (Below w.heap.size w q):=zD0 (B1.out.trans (hz0.mono B1.out.size))
 have SZ:=zD0 WK.out.lt
 have PG:Hid (w1.heap.size≠g):=zD0 (by have:=B1.out.size;have:=SZ.out;omega)
 obtain⟨p2,hp2⟩:=zD1 (w1.heap.size)
 rw[←hp2] at hz1 PG⊢
 have X2:=zD0 hz1
 have WQ:=zD0 (WK.out.below BQ.out)
 clear hz0 hz1 XX0 hp2 B1
 obtain⟨m0,m1,m2⟩:=zC X2.out
 go_wp2_with fail
 refine(psection_any q WQ.out sc ks hks HAS.out).mono ?_
 rintro e w2 ⟨u,rfl,hu,b2⟩
 rw[HSS.out] at hu⊢
 obtain⟨Au,cu,rfl,-,-⟩:=hu.slice
 obtain⟨ne,hne⟩:=zD1 (es.length)
 have HNE:=zD0 hne
 have HU:Hid (zT w2 lo (.slice Au ne cu) (sid,spt,es).2.2):=zD0 (by rw[hne];exact hu)
 have W2:=zD0 (WQ.out.below b2)
 have X22:=zD0 ((b2.block _ (zA X2.out)).trans X2.out)
 have B2:Hid (Below lo w w2):=zD0 ((BQ.out.trans (b2.mono BQ.out.size)).mono WK.out.size)
 rw[←hne]
 have f14:=W2.out.frozen 14
 have f15:=W2.out.frozen 15
 have f16:=W2.out.frozen 16
 have c14:w2.cell? ⟨g,14,none⟩=some (.int .i64 s.1):=W2.out.cell 14 rfl
 have c15:w2.cell? ⟨g,15,none⟩=some (.int .i64 s.2.1):=W2.out.cell 15 rfl
 have c16:w2.cell? ⟨g,16,none⟩=some h2:=W2.out.cell 16 rfl
 rw[←hne] at hen1
 clear hu b2 hne m0 m1 m2
 go_upto_region 2 with fail
 have qh:=W2.out.setHere (sid,spt,es) (.slice Au ne cu) HU.out
 have qx:=((grown3 w2 g 14 15 16 (.int .i64 sid) (.int .i64 spt) (.slice Au ne cu)).block p2 (zA X22.out) (fun e=>PG.out (by injection e))).trans X22.out
 dsimp only at qh
 generalize ((w2.setCell ⟨g,14,none⟩ (.int .i64 sid)).setCell ⟨g,15,none⟩ (.int .i64 spt)).setCell ⟨g,16,none⟩ (.slice Au ne cu)=wH at qh qx⊢
 have WH:=zD0 qh.1
 have BH:=zD0 (B2.out.trans qh.2)
 have XH2:=zD0 qx
 clear qh qx f14 f15 f16 c14 c15 c16
 obtain⟨ee,rfl⟩:∃n:Nat,en=(n:Int):=⟨en.toNat,by omega⟩
 have hee:ee<es.length:=by have:=HE1.out;simpa using this
 obtain⟨j0,j1,hj⟩:∃a b,es[ee]=(a,b):=⟨_,_,rfl⟩
 have HT:Hid (jP p r 0=some (j0,j1)):=zD0 (by rw[HCN.out,List.getD,Int.toNat_natCast,List.getElem?_eq_getElem hee,hj];rfl)
 obtain⟨be,oe,e5,hbe,hh0,hh1⟩:=WH.out.ends.at hee
 cases e5
 have g0:wH.cell? ⟨be,oe+ee*2,none⟩=some (.int .i64 es[ee].1):=hh0
 have g1:wH.cell? ⟨be,oe+ee*2+1,none⟩=some (.int .i64 es[ee].2):=hh1
 rw[hj] at g0 g1
 have DJ0:Hid (wH.cell? ⟨be,oe+ee*2,none⟩=some (.int .i64 j0)):=zD0 g0
 have DJ1:Hid (wH.cell? ⟨be,oe+ee*2+1,none⟩=some (.int .i64 j1)):=zD0 g1
 have D16:Hid (wH.cell? ⟨g,16,none⟩=some (.slice (some ⟨be,oe,none⟩) ne cu)):=zD0 (WH.out.cell 16 rfl)
 clear hh0 hh1 g0 g1 hbe hj
 refine jG (S:=fun v'=>Below wH.heap.size wH v') 12 (by kernel_rfl) (Below.refl wH.heap.size wH).drew (fun zD2=>?_)
 refine tke [10,11,12] 0 zD2 ?_;refine tke [2,3,4,5,8,9,12] 1 zD2 ?_;refine tke [3,4,5,8,9,12] 2 zD2 ?_;refine tke [4,5,8,9,12] 3 zD2 ?_;refine tke [5,8,9,12] 4 zD2 ?_;refine tkd [8,9,12] 5 zD2 (fun w' hSw=>(hSw.cell (p:=⟨g,16,none⟩) WH.out.lt).trans D16.out) ?_;refine tke [7,8,9,12] 6 zD2 ?_;refine tkd [8,9,12] 7 zD2 (fun w' hSw=>zC ((hSw.block _ (zA XH2.out)).trans XH2.out)) ?_;refine tke [9,12] 8 zD2 ?_
 refine kT [12] (i:=9) (v:=?_) rfl (by kernel_rfl) (by kernel_rfl) (by kernel_rfl) (fun _ _ _ h=>h) (by kernel_rfl) (by kernel_rfl) (by kernel_rfl) (Or.inl ⟨by rfl,?_⟩) zD2 ?_
 rotate_left
 ·intro w' hSw;have cj0:=(hSw.cell (zG DJ0.out)).trans DJ0.out;have cj1:=(hSw.cell (zG DJ1.out)).trans DJ1.out;go_simp;try with_reducible rfl
 simp only[zn,Act.put]
 refine tke [11,12] 10 zD2 ?_;refine tke [12] 11 zD2 ?_
 have WD:=zD0 (WH.out.below (Below.refl wH.heap.size wH).drew)
 have ht17:=WD.out.there 17 2 (by omega)
 refine kB (by kernel_rfl) rfl (by kernel_rfl) (fun K hK=>?_)
 rw[if_pos (by rfl)]
 refine wp_store_mid 98 (.tmp 28) (.tmp 26) rfl g 17 #[.int .i64 j0,.int .i64 j1] rfl rfl ht17 vH (by simp[Value.oneCell']) ?_
 refine hK.out _ _ ?_
 clear hK K
 have qa:WkS (wH.drew.setCells g 17 [.int .i64 j0,.int .i64 j1]) lo g F p r (sid,spt,es) (.slice (some ⟨be,oe,none⟩) ne cu) (j0,j1) y0 y1 y2 x o l∧Below lo wH.drew (wH.drew.setCells g 17 [.int .i64 j0,.int .i64 j1]):=WD.out.setAt (j0,j1)
 have qx:(wH.drew.setCells g 17 [.int .i64 j0,.int .i64 j1]).heap[p2]? = some (.cells #[.int .i64 gid,.int .i64 sc,.int .i64 (ee:Int)] 115 (0,0)):=((grown2 wH.drew g 17 18 (.int .i64 j0) (.int .i64 j1)).block p2 (zA XH2.out) (fun e=>PG.out (by injection e))).trans XH2.out
 generalize wH.drew.setCells g 17 [.int .i64 j0,.int .i64 j1]=wJ at qa qx⊢
 have WJ:=zD0 qa.1
 have BJ:Hid (Below lo w wJ):=zD0 ((BH.out.trans (Below.refl lo wH).drew).trans qa.2)
 have XJ2:=zD0 qx
 clear qa qx ht17 WD
 obtain⟨A9,c9,e9,-,-⟩:=WJ.out.path.slice
 obtain⟨A10,c10,e10,-,-⟩:=WJ.out.over.slice
 obtain⟨n9,hn9⟩:=zD1 (r.path.length)
 obtain⟨n10,hn10⟩:=zD1 (r.over.length)
 have G9:Hid (wJ.cell? ⟨g,9,none⟩=some (.slice A9 n9 c9)):=zD0 (WJ.out.cell 9 (congrArg some (show F 9 = .slice A9 n9 c9 by rw[e9,hn9])))
 have G10:Hid (wJ.cell? ⟨g,10,none⟩=some (.slice A10 n10 c10)):=zD0 (WJ.out.cell 10 (congrArg some (show F 10 = .slice A10 n10 c10 by rw[e10,hn10])))
 have HI9:Hid (xB wJ wJ.heap.size (.slice A9 n9 c9) r.path):=zD0 (by have:=WJ.out.path.more qI WJ.out.size;rw[e9,←hn9] at this;exact this)
 have HI10:Hid (xB wJ wJ.heap.size (.slice A10 n10 c10) r.over):=zD0 (by have:=WJ.out.over.more qI WJ.out.size;rw[e10,←hn10] at this;exact this)
 have HLE9:Hid (r.path.length≤1000):=zD0 (by have:=HR.out.route.path;omega)
 have HLE10:Hid (r.over.length≤1000):=zD0 (by have:=HR.out.route.over;omega)
 clear e9 e10 hn9 hn10
 go_upto_region 3 with fail
 refine jG (S:=fun v'=>Below wJ.heap.size wJ v') 18 (by kernel_rfl) (Below.refl wJ.heap.size wJ).drew (fun zD2=>?_)
 refine tke [16,17,18] 0 zD2 ?_;refine tke [2,3,4,5,6,15,18] 1 zD2 ?_;refine tke [3,4,5,6,15,18] 2 zD2 ?_;refine tke [4,5,6,15,18] 3 zD2 ?_;refine tke [5,6,15,18] 4 zD2 ?_;refine tkd [6,15,18] 5 zD2 (fun w' hSw=>(hSw.cell (p:=⟨g,9,none⟩) WJ.out.lt).trans G9.out) ?_;refine tke [8,9,10,11,12,15,18] 7 zD2 ?_;refine tke [9,10,11,12,15,18] 8 zD2 ?_;refine tke [10,11,12,15,18] 9 zD2 ?_;refine tke [11,12,15,18] 10 zD2 ?_;refine tkd [12,15,18] 11 zD2 (fun w' hSw=>(hSw.cell (p:=⟨g,10,none⟩) WJ.out.lt).trans G10.out) ?_;refine tke [14,15,18] 13 zD2 ?_;refine tkd [15,18] 14 zD2 (fun w' hSw=>zC ((hSw.block _ (zA XJ2.out)).trans XJ2.out)) ?_
 refine xM (i:=6) (by kernel_rfl) rfl (by kernel_rfl) (fun K hK=>?_)
 go_simp
 refine(clone_int _ r.path wJ.drew ((HI9.out.below qI (Below.refl wJ.heap.size wJ).drew).more qI (Below.refl wJ.heap.size wJ).drew.size) HLE9.out).mono ?_
 rintro e w9 ⟨u,rfl,hu,b⟩
 obtain⟨U9,d9,rfl⟩:=hu.slice
 obtain⟨m9,hm9⟩:=zD1 ((r.path).length)
 have OU9:Hid (qV w9 wJ.drew.heap.size (.slice U9 m9 d9) r.path):=zD0 (by rw[hm9];exact hu)
 rw[←hm9]
 have B9:Hid (Below wJ.heap.size wJ w9):=zD0 (((Below.refl wJ.heap.size wJ).drew).trans (b.mono ((Below.refl wJ.heap.size wJ).drew).size))
 clear hm9 hu b
 try go_wp2_with fail
 refine hK.out _ _ ?_ fun zD2=>?_;exact B9.out;clear hK K;try simp only[zn,Act.put]
 refine xM (i:=12) (by kernel_rfl) rfl (by kernel_rfl) (fun K hK=>?_)
 go_simp
 refine(clone_int _ r.over w9 ((HI10.out.below qI B9.out).more qI B9.out.size) HLE10.out).mono ?_
 rintro e w10 ⟨u,rfl,hu,b⟩
 obtain⟨U10,d10,rfl⟩:=hu.slice
 obtain⟨m10,hm10⟩:=zD1 ((r.over).length)
 have OU10:Hid (qV w10 w9.heap.size (.slice U10 m10 d10) r.over):=zD0 (by rw[hm10];exact hu)
 rw[←hm10]
 have B10:Hid (Below wJ.heap.size wJ w10):=zD0 ((B9.out).trans (b.mono (B9.out).size))
 have OU9':=zD0 (OU9.out.below qI b)
 clear hm10 hu b
 try go_wp2_with fail
 refine hK.out _ _ ?_ fun zD2=>?_;exact B10.out;clear hK K;try simp only[zn,Act.put]
 refine tke [18] 15 zD2 ?_;refine tke [17,18] 16 zD2 ?_;refine tke [18] 17 zD2 ?_
 have WX:=zD0 (WJ.out.below B10.out)
 have ht19:=WX.out.there 19 4 (by omega)
 refine kB (by kernel_rfl) rfl (by kernel_rfl) (fun K hK=>?_)
 rw[if_pos (by rfl)]
 refine wp_store_mid 96 (.tmp 46) (.tmp 44) rfl g 19 #[.slice U9 m9 d9,.slice U10 m10 d10,.slice none 0 0,.int .i64 sc] rfl rfl ht19 zA2 (by simp[Value.oneCell']) ?_
 refine hK.out _ _ ?_
 clear hK K
 have qw:=WX.out.setWay ⟨r.path,r.over,[],sc⟩ (.slice U9 m9 d9) (.slice U10 m10 d10) (.slice none 0 0) ⟨OU9'.out.mono WJ.out.lt,OU10.out.mono (Nat.le_trans WJ.out.lt B9.out.size),zJ.nil_⟩
 refine bodyPost_end (yH rfl _ _) rfl ⟨rfl,⟨_,_,_,_,HT.out,qw.1⟩,((BJ.out.trans (B10.out.mono WJ.out.size)).trans qw.2)⟩
theorem end_join {l:List Sec} (h:TMay l) {i k:Nat} (hi:i<l.length) (hk:k<l[i].2.2.length):l[i].2.2.getD k (0,0)=(0,0) ∨
  ((l[i].2.2.getD k (0,0)).1≠0∧∃m,∃hm:m<l.length,atS l (l[i].2.2.getD k (0,0)).1=(m:Int)∧0≤(l[i].2.2.getD k (0,0)).2∧(l[i].2.2.getD k (0,0)).2<l[m].2.2.length):=by
 have hj:=h.e i k hi hk
 rw[jI] at hj
 generalize l[i].2.2.getD k (0,0)=J at hj⊢
 obtain⟨x,y⟩:=J
 dsimp only at hj⊢
 split at hj
 ·rename_i h0
  exact .inl (by rw[h0.1,h0.2])
 ·rename_i h0
  split at hj
  ·simp at hj
  ·rename_i h3
   rcases vE l x with hx|⟨m,hm,hx,hid⟩
   ·exact absurd (.inl (by omega)) h3
   ·rw[hx,Int.toNat_natCast] at h3
    have hg:l.getD m (0,0,[])=l[m]:=by rw[List.getD_eq_getElem?_getD,List.getElem?_eq_getElem hm];rfl
    rw[hg] at h3
    have h1:=(h.s m hm).1
    exact .inr ⟨by omega,m,hm,hx,by omega,by omega⟩
structure HereIn (p:Pl) (r:Rt) (a:Nat) (t:Jn):Prop where
 comes:jP p r a=some t
 here:t.1=(zS r).getD a 0
theorem comes_end {p:Pl} {r:Rt} (h:qW p r):∀(a:Nat) (t:Jn),a≤(zS r).length→jP p r a=some t→∃i,∃hi:i<p.secs.length,∃k,k<p.secs[i].2.2.length∧t=p.secs[i].2.2.getD k (0,0)
 | 0,t,_,hc=>by
  obtain⟨kg,hkg,hatg,hsg,ks,hks,hats,hss,he0,he1⟩:=h.entry
  rw[jP,hsg,hss] at hc
  injection hc with hc
  exact⟨ks,hks,p.sigs[kg].2.2.toNat,by omega,hc.symm⟩
 | a+1,t,ha,hc=>by
  rw[jP] at hc
  cases hp:jP p r a with
  | none=>rw[hp] at hc;cases hc
  | some j=>
   rw[hp] at hc
   dsimp only at hc
   split at hc
   ·split at hc
    ·cases hc
    ·rename_i h1 h2
     injection hc with hc
     obtain⟨k,hk,hat,hsk,-⟩:=h.sec (show a<(zS r).length by omega)
     rcases outN_cases p r a j.2 with h3|⟨e,he,heq,-⟩
     ·omega
     ·rw[heq,Int.toNat_natCast,hsk] at hc
      rw[hsk] at he
      exact⟨k,hk,e,he,hc.symm⟩
   ·cases hc
theorem HereIn.range {p:Pl} {r:Rt} (h:qW p r) {a:Nat} {t:Jn} (ha:a<(zS r).length) (hh:HereIn p r a t):0≤t.2∧t.2<(jX p ((zS r).getD a 0)).2.2.length:=by
 obtain⟨i,hi,k,hk,ht⟩:=comes_end h a t (Nat.le_of_lt ha) hh.comes
 obtain⟨ks,hks,hat,hsk,hid⟩:=h.sec ha
 have h1:=(h.plan.secs.s ks hks).1
 rcases end_join h.plan.secs hi hk with h0|⟨-,m,hm,h2,h3,h4⟩
 ·rw[←ht] at h0
  have:=hh.here
  rw[h0] at this
  have h5:(0:Int)=(zS r).getD a 0:=this
  rw[←h5] at hid
  omega
 ·rw[←ht] at h2 h3 h4
  rw[hh.here,hat] at h2
  obtain rfl:ks=m:=by omega
  rw[hsk]
  exact⟨h3,h4⟩
theorem qW.shaped {p:Pl} {r:Rt} (h:qW p r) {a:Nat} (ha:a<(zS r).length):qQ (jX p ((zS r).getD a 0))=true∧(jX p ((zS r).getD a 0)).1=(zS r).getD a 0:=by
 obtain⟨k,hk,-,hs,hid⟩:=h.sec ha
 rw[hs]
 exact⟨(h.plan.secs.s k hk).2.2,hid⟩
theorem right_next {p:Pl} {r:Rt} {a:Nat} {inn:Int} {e:Nat} (hne:a+1≠r.path.length):vI p r a inn e=okE (jX p ((zS r).getD a 0)) inn (fun _ j=>nextB ((zS r).getD (a+1) 0) j) e:=by
 simp only[vI,okE,if_neg hne,nextB]
theorem right_none {p:Pl} {r:Rt} (h:qW p r) {a:Nat} (ha:a<(zS r).length) {inn:Int} {e:Nat} (he:e<(jX p ((zS r).getD a 0)).2.2.length) (hne:a+1=r.path.length) (hx:r.exit=0):vI p r a inn e=okE (jX p ((zS r).getD a 0)) inn (fun _ j=>noneB j) e:=by
 simp only[vI,okE,if_pos hne,noneB]
 congr 1
 obtain⟨k,hk,-,hs,hid⟩:=h.sec ha
 rw[hs] at he⊢
 rcases end_join h.plan.secs hk he with h0|⟨h1,-⟩
 ·rw[h0]
  rw[decide_eq_true (.inl ⟨hx,rfl⟩),decide_eq_true rfl]
 ·rw[decide_eq_false (fun h2=>h2.elim (fun h3=>h1 h3.2) (fun h3=>h3.1 hx)),decide_eq_false (fun h2=>h1 (by rw[h2]))]
theorem stands_is {p:Pl} (h:xU p) {sec:Int} {en:Nat} {id:Int} {k:Nat} (hk:k<p.sigs.length) (hat:at1 kSg p.sigs id=(k:Int)):qJ p.sigs sec (en:Int)=id↔p.sigs[k].2.1=sec∧p.sigs[k].2.2=(en:Int):=by
 have hid:p.sigs[k].1=id:=by
  rcases vF kSg p.sigs id with⟨h1,-⟩|⟨i,hi,h1,h2,-⟩
  ·omega
  ·obtain rfl:i=k:=by omega
   exact h2
 have hu:∀i j (hi:i<p.sigs.length) (hj:j<p.sigs.length),i<j→¬(p.sigs[i].2.1=p.sigs[j].2.1∧p.sigs[i].2.2=p.sigs[j].2.2)∧p.sigs[i].1<p.sigs[j].1:=fun i j hi hj hij=>⟨((h.sigs.each j hj).2.2.2 i hij).2,((h.sigs.each j hj).2.2.2 i hij).1⟩
 constructor
 ·intro he
  by_cases hz:∃i,∃hi:i<p.sigs.length,p.sigs[i].2.1=sec∧p.sigs[i].2.2=(en:Int)
  ·obtain⟨i,hi,h1,h2⟩:=hz
   have h3:=zA7 hi ⟨h1,h2⟩ (fun j hj=>fun h4=>(hu j i (by omega) hi hj).1 ⟨h4.1.trans h1.symm,h4.2.trans h2.symm⟩)
   rw[he] at h3
   have:i=k:=by
    rcases Nat.lt_trichotomy i k with h4|h4|h4
    ·have:=(hu i k hi hk h4).2;omega
    ·exact h4
    ·have:=(hu k i hk hi h4).2;omega
   subst this
   exact⟨h1,h2⟩
  ·have h3:=zAb (l:=p.sigs) (sec:=sec) (en:=(en:Int)) (fun j hj h4=>hz ⟨j,hj,h4⟩)
   rw[h3] at he
   have:=(h.sigs.each k hk).1
   omega
 ·rintro⟨h1,h2⟩
  rw[zA7 hk ⟨h1,h2⟩ (fun j hj=>fun h4=>(hu j k (by omega) hk hj).1 ⟨h4.1.trans h1.symm,h4.2.trans h2.symm⟩)]
  exact hid
theorem right_exit {p:Pl} {r:Rt} (h:qW p r) {a:Nat} {inn:Int} {e:Nat} (hne:a+1=r.path.length) (hx:¬r.exit=0) {k:Nat} (hk:k<p.sigs.length) (hat:at1 kSg p.sigs r.exit=(k:Int)):vI p r a inn e=okE (jX p ((zS r).getD a 0)) inn (fun e _=>exitB p.sigs[k].2.1 p.sigs[k].2.2 (jX p ((zS r).getD a 0)).1 e) e:=by
 simp only[vI,okE,if_pos hne,exitB]
 congr 1
 rw[decide_eq_decide]
 rw[←stands_is h.plan hk hat]
 constructor
 ·rintro(h1|h1)
  ·exact absurd h1.1 hx
  ·exact h1.2
 ·exact fun h1=>.inr ⟨hx,h1⟩
structure SoFar (p:Pl) (r:Rt) (a:Nat) (x:Wy) (l:List Jn):Prop where
 hangs:HangsTo p r a
 path:x.path=r.path
 over:x.over=r.over
 near:x.near=(sigN p r.entry).2.1
 asks:x.asks=jA p r a
 outs:l=zAl p r a
theorem SoFar.small {p:Pl} {r:Rt} {a:Nat} {x:Wy} {l:List Jn} (h:SoFar p r a x l) (ha:a≤8):x.asks.length≤50∧l.length≤50:=by
 rw[h.asks,h.outs]
 have h1:(jA p r a).length≤a:=Nat.le_trans (List.length_filterMap_le _ _) (by simp)
 have h2:(zAl p r a).length≤a:=Nat.le_trans (List.length_filterMap_le _ _) (by simp)
 omega
theorem lie_pos {pt a b:Int} (hp:pt≠0) (h:0≤xG pt a b):0<xG pt a b:=by
 rw[xG,if_neg hp] at h⊢
 split
 ·rename_i h1;omega
 ·rename_i h1
  rw[if_neg h1] at h
  split
  ·rename_i h2;omega
  ·rename_i h2;rw[if_neg h2] at h;omega
theorem addA_parts (x:Wy) (pt lie a:Int):(addA x pt lie a).path=x.path∧(addA x pt lie a).over=x.over∧(addA x pt lie a).near=x.near:=by
 rw[addA]
 split
 ·exact⟨rfl,rfl,rfl⟩
 ·exact⟨rfl,rfl,rfl⟩
theorem SoFar.left {p:Pl} {r:Rt} (hr:qW p r) {a:Nat} {x:Wy} {l:List Jn} {t:Jn} (h:SoFar p r a x l) (ha:a<(zS r).length) (hh:HereIn p r a t) (hb:yV r a=false) {e:Nat} (he:outN p r a t.2=(e:Int)) (h0:0≤xG (jX p ((zS r).getD a 0)).2.1 t.2 (e:Int)):
  SoFar p r (a+1) (addA x (jX p ((zS r).getD a 0)).2.1 (xG (jX p ((zS r).getD a 0)).2.1 t.2 (e:Int)) (a:Int)) (l++[((jX p ((zS r).getD a 0)).1,(e:Int))])∧jP p r (a+1)=some ((jX p ((zS r).getD a 0)).2.2.getD e (0,0)):=by
 have hin:=in_of hh.comes
 have hoa:vQ p r a=(e:Int):=by rw[vQ,hb,hin];exact he
 obtain⟨q1,q2,q3⟩:=addA_parts x (jX p ((zS r).getD a 0)).2.1 (xG (jX p ((zS r).getD a 0)).2.1 t.2 (e:Int)) (a:Int)
 refine⟨⟨zCv h.hangs hh.comes hh.here (fun _=>by omega),q1.trans h.path,q2.trans h.over,q3.trans h.near,?_,?_⟩,comes_succ hh.comes hh.here he⟩
 ·rw[kX,addA,←h.asks,askN]
  simp only[hoa,hin]
  by_cases hp:(jX p ((zS r).getD a 0)).2.1=0
  ·rw[if_pos hp,if_pos hp];simp
  ·rw[if_neg hp,if_neg hp,if_pos (show(0:Int)≤(e:Int) by omega),if_pos (lie_pos hp h0)];rfl
 ·rw[zCt,←h.outs,leftN,if_pos (by omega),hoa,(hr.shaped ha).2];rfl
theorem SoFar.stay {p:Pl} {r:Rt} (hr:qW p r) {a:Nat} {x:Wy} {l:List Jn} {t:Jn} (h:SoFar p r a x l) (ha:a<(zS r).length) (hh:HereIn p r a t) (hb:yV r a=true):
  SoFar p r (a+1) (stayA x (jX p ((zS r).getD a 0)) t.2 (a:Int)) l:=by
 have hin:=in_of hh.comes
 have hoa:vQ p r a = -1:=by rw[vQ,hb];rfl
 have hrg:=hh.range hr ha
 have hsh:=(hr.shaped ha).1
 generalize hS:jX p ((zS r).getD a 0)=s at hrg hsh⊢
 have hl:zAl p r (a+1)=zAl p r a:=by rw[zCt,leftN,hoa,if_neg (by omega)];simp
 have hk:askN p r a=if s.2.1=0 then none else if 0<t.2 then some (s.2.1,t.2,(a:Int)) else none:=by
  rw[askN]
  simp only[hoa,hin,hS]
  rw[if_neg (show¬(0:Int) ≤ -1 by omega)]
 have hpt:s.2.1≠0→s.2.2.length=3:=fun hp=>by
  rw[qQ,if_neg hp] at hsh
  simp only[Bool.and_eq_true,decide_eq_true_eq] at hsh
  exact hsh.2.2
 have hsx:stayA x s t.2 (a:Int)=(if s.2.1=0 then x else if 0<t.2 then ⟨x.path,x.over,x.asks++[(s.2.1,t.2,(a:Int))],x.near⟩ else x):=by
  rw[stayA]
  by_cases hp:s.2.1=0
  ·rw[if_pos hp]
   split
   ·rfl
   ·rw[addA,if_pos hp]
  ·have h3:=hpt hp
   have hlie:xG s.2.1 t.2 0=if t.2=1∨t.2=2 then t.2 else -1:=by
    rw[xG,if_neg hp,if_neg (by omega)]
    by_cases h4:t.2=1∨t.2=2
    ·rw[if_pos ⟨rfl,h4⟩,if_pos h4]
    ·rw[if_neg (fun h5=>h4 h5.2),if_neg h4]
   rw[if_neg hp]
   by_cases h4:0<t.2
   ·have hl1:xG s.2.1 t.2 0=t.2:=by rw[hlie,if_pos (show t.2=1∨t.2=2 by omega)]
    rw[if_pos h4,hl1,if_neg (show¬t.2<0 by omega),addA,if_neg hp]
   ·have hl1:xG s.2.1 t.2 0 = -1:=by rw[hlie,if_neg (show¬(t.2=1∨t.2=2) by omega)]
    rw[if_neg h4,hl1,if_pos (show(-1:Int)<0 by omega)]
 rw[hsx]
 have hg:=zCv h.hangs hh.comes hh.here (fun h1=>by rw[hb] at h1;cases h1)
 by_cases hp:s.2.1=0
 ·rw[if_pos hp]
  rw[if_pos hp] at hk
  exact⟨hg,h.path,h.over,h.near,by rw[kX,hk,h.asks];simp,by rw[hl];exact h.outs⟩
 ·rw[if_neg hp]
  rw[if_neg hp] at hk
  by_cases h4:0<t.2
  ·rw[if_pos h4]
   rw[if_pos h4] at hk
   exact⟨hg,h.path,h.over,h.near,by rw[kX,hk,←h.asks];rfl,by rw[hl];exact h.outs⟩
  ·rw[if_neg h4]
   rw[if_neg h4] at hk
   exact⟨hg,h.path,h.over,h.near,by rw[kX,hk,h.asks];simp,by rw[hl];exact h.outs⟩
def PassP (w:World) (lo g:Nat) (F:Nat→Value) (p:Pl) (r:Rt) (h2:Value) (y0 y1:Value) (a:Nat) (e:Ending) (w':World):Prop:=
 ((e = .returned (.bool true)∧∃t' u2 x' u l',WkS w' lo g F p r (jX p ((zS r).getD a 0)) h2 t' y0 y1 u2 x' u l'∧SoFar p r (a+1) x' l'∧(a+1<(zS r).length→jP p r (a+1)=some t'))∨(e = .returned (.bool false)∧¬kK p r))∧Below lo w w'
theorem zDp {w w':World} {lo g:Nat} {F:Nat→Value} {p:Pl} {r:Rt} {h2:Value} {t:Jn} {y0 y1:Value} {x:Wy} {l:List Jn} {a:Nat} {f:Nat→Jn→Bool} {e:Ending} (hr:qW p r) (ha:a<(zS r).length) (hh:HereIn p r a t) (hs:SoFar p r a x l) (hb:yV r a=false)
  (hf:∀i,i<(jX p ((zS r).getD a 0)).2.2.length→vI p r a t.2 i=okE (jX p ((zS r).getD a 0)) t.2 f i) (h:zCe w lo g F p r (jX p ((zS r).getD a 0)) h2 t y0 y1 x l a f e w'):PassP w lo g F p r h2 y0 y1 a e w':=by
 obtain⟨h1,hbl⟩:=h
 refine⟨?_,hbl⟩
 rcases h1 with⟨i,hi,hok,hno,he,u2,u,hw⟩|⟨hno,he⟩
 ·have ho:outN p r a t.2=(i:Int):=outN_some hi ((hf i hi).trans hok) (fun j hj=>(hf j (by omega)).trans (hno j hj))
  have h0:0≤xG (jX p ((zS r).getD a 0)).2.1 t.2 (i:Int):=by
   rw[okE,Bool.and_eq_true,decide_eq_true_eq] at hok
   exact hok.1
  obtain⟨q1,q2⟩:=hs.left hr ha hh hb ho h0
  exact .inl ⟨he,_,_,_,_,_,hw,q1,fun _=>q2⟩
 ·have ho:outN p r a t.2 = -1:=outN_none (fun j hj=>(hf j hj).trans (hno j hj))
  exact .inr ⟨he,zDm ha hh.comes (fun h2=>by have:=h2.2 hb;omega)⟩
set_option maxHeartbeats 8000000 in
theorem ppass_any {lo g:Nat} {F:Nat→Value} {p:Pl} {r:Rt} {h2:Value} {t:Jn} {y0 y1 y2:Value} {x:Wy} {o:Value} {l:List Jn} (w:World) (a:Nat) (h:WkS w lo g F p r (jX p ((zS r).getD a 0)) h2 t y0 y1 y2 x o l) (ha:a<(zS r).length) (hh:HereIn p r a t) (hs:SoFar p r a x l) (hr:qW p r):
  Calls Tryz.prog 91 #[.pointer (some ⟨g,0,none⟩),.int .i64 a] w fun e w'=>PassP w lo g F p r h2 y0 y1 a e w':=by
 have WK:=zD0 h
 have HR:=zD0 hr
 have HA:=zD0 ha
 have HH:=zD0 hh
 have HS:=zD0 hs
 have SH:=zD0 (hr.shaped ha).1
 have SM:=zD0 (hs.small (by have:=hr.len;omega))
 obtain⟨A9,c9,e9,-,-⟩:=h.path.slice
 obtain⟨A13,c13,e13⟩:=h.all.slice
 obtain⟨n9,hn9⟩:=zD1 (r.path.length)
 obtain⟨n13,hn13⟩:=zD1 ((zS r).length)
 have k9:w.cell? ⟨g,9,none⟩=some (.slice A9 n9 c9):=WK.out.cell 9 (congrArg some (show F 9 = .slice A9 n9 c9 by rw[e9,hn9]))
 have k13:w.cell? ⟨g,13,none⟩=some (.slice A13 n13 c13):=WK.out.cell 13 (congrArg some (show F 13 = .slice A13 n13 c13 by rw[e13,hn13]))
 have HN:Hid (n9=r.path.length∧n13=(zS r).length∧n13=n9+r.over.length∧n13≤8∧1≤n9):=zD0 (by have:=hr.len;have:=hr.route.path;omega)
 have hb9:n9≤8:=by have:=HN.out;omega
 have hb13:n13≤8:=by have:=HN.out;omega
 have hw:IntKind.i64.wrap ((n13:Int)-1)=(n13:Int)-1:=kA (by omega) (by omega)
 clear h hr hh hs e9 e13 hn9 hn13
 go_enter Tryz.func91,Tryz.ntmps91
 cases hl:yV r a with
 | true=>
  have hlast:a+1=(zS r).length∧0<r.over.length:=of_decide_eq_true hl
  have LB:=zD0 hl
  have HL:Hid (a+1=(zS r).length):=zD0 hlast.1
  have d1:decide (n9≤a)=true:=decide_eq_true (by have:=HN.out;omega)
  have d1':n9≤a:=by have:=HN.out;omega
  have d2:((a:Int)==(n13:Int)-1)=true:=by have:=HN.out;simp;omega
  clear hl hlast ha
  go_wp2_with fail
  refine(pstay_any w WK.out a SM.out.1 SH.out).mono ?_
  rintro e w1 ⟨rfl,⟨u2,hu⟩,b1⟩
  have U:=zD0 hu
  have B1:=zD0 b1
  clear hu b1
  go_wp2_with fail
  go_ret
  exact⟨.inl ⟨rfl,_,_,_,_,_,U.out,HS.out.stay HR.out HA.out HH.out LB.out,fun h3=>absurd HL.out (by omega)⟩,B1.out⟩
 | false=>
  have LB:=zD0 hl
  have h0:¬(a+1=(zS r).length∧0<r.over.length):=of_decide_eq_false hl
  by_cases hp:n9≤a
  ·have HNX:Hid (a+1<(zS r).length∧a+1≠r.path.length):=zD0 (by have:=HN.out;omega)
   have d1:decide (n9≤a)=true:=decide_eq_true hp
   have d2:((a:Int)==(n13:Int)-1)=false:=by have:=HN.out;simp;omega
   clear hl h0 ha
   go_wp2_with fail
   refine(pout_next w WK.out a HNX.out.1 HNX.out.2 HR.out).mono ?_
   rintro e w1 ⟨k,rfl,hk,b1⟩
   have XK:=zD0 hk
   have W1:=zD0 (WK.out.below b1)
   have B1:Hid (Below lo w w1):=zD0 (b1.mono WK.out.size)
   clear b1 hk
   go_wp2_with fail
   refine(pleave_next w1 W1.out a (fun _ j=>nextB ((zS r).getD (a+1) 0) j) k SM.out.1 SM.out.2 SH.out (fun W e j0 j1 hb=>next_any e j0 j1 _ k W ((hb.block _ (zA XK.out)).trans XK.out))).mono ?_
   rintro e w2 hq
   have HP:Hid (PassP w lo g F p r h2 y0 y1 a e w2):=zD0 (by
    obtain⟨q1,q2⟩:=zDp HR.out HA.out HH.out HS.out LB.out (fun i _=>right_next HNX.out.2) hq
    exact⟨q1,B1.out.trans q2⟩)
   have HE:Hid (∃b,e = .returned (.bool b)):=zD0 (by
    obtain⟨q1,-⟩:=hq
    rcases q1 with⟨_,_,_,_,q,_⟩|⟨_,q⟩
    ·exact⟨_,q⟩
    ·exact⟨_,q⟩)
   clear hq
   obtain⟨b,rfl⟩:=HE.out
   go_wp2_with fail
   go_ret
   exact HP.out
  have d1:decide (n9≤a)=false:=decide_eq_false hp
  by_cases hn:a+1=r.path.length
  ·have HNX:=zD0 hn
   by_cases hx:r.exit=0
   ·have HX0:=zD0 hx
    clear hl h0 ha hn hx
    go_wp2_with fail
    refine(pout_none w WK.out a HNX.out HX0.out HR.out).mono ?_
    rintro e w1 ⟨rfl,b1⟩
    have W1:=zD0 (WK.out.below b1)
    have B1:Hid (Below lo w w1):=zD0 (b1.mono WK.out.size)
    clear b1
    go_wp2_with fail
    refine(pleave_none w1 W1.out a (fun _ j=>noneB j) SM.out.1 SM.out.2 SH.out (fun W e j0 j1 hb=>none_any e j0 j1 W)).mono ?_
    rintro e w2 hq
    have HP:Hid (PassP w lo g F p r h2 y0 y1 a e w2):=zD0 (by
     obtain⟨q1,q2⟩:=zDp HR.out HA.out HH.out HS.out LB.out (fun i hi=>right_none HR.out HA.out hi HNX.out HX0.out) hq
     exact⟨q1,B1.out.trans q2⟩)
    have HE:Hid (∃b,e = .returned (.bool b)):=zD0 (by
     obtain⟨q1,-⟩:=hq
     rcases q1 with⟨_,_,_,_,q,_⟩|⟨_,q⟩
     ·exact⟨_,q⟩
     ·exact⟨_,q⟩)
    clear hq
    obtain⟨b,rfl⟩:=HE.out
    go_wp2_with fail
    go_ret
    exact HP.out
   ·have HX0:=zD0 hx
    obtain⟨ke,hke,hat⟩:∃k:Nat,k<p.sigs.length∧at1 kSg p.sigs r.exit=(k:Int):=by
     have:=(HR.out.route.exit hx).1
     rcases vF kSg p.sigs r.exit with h|⟨k,hk,h,-⟩
     ·exact absurd h.1 (by intro h1;have h2:(0:Int)≤at1 kSg p.sigs r.exit:=this;omega)
     ·exact⟨k,hk,h⟩
    have HAT:=zD0 hat
    clear hl h0 ha hn hx hat
    go_wp2_with fail
    refine(pout_exit w WK.out a HNX.out HX0.out HR.out ke hke HAT.out).mono ?_
    rintro e w1 ⟨k6,k7,rfl,hk6,hk7,b1⟩
    have X6:=zD0 hk6
    have X7:=zD0 hk7
    have W1:=zD0 (WK.out.below b1)
    have B1:Hid (Below lo w w1):=zD0 (b1.mono WK.out.size)
    clear b1 hk6 hk7
    go_wp2_with fail
    refine(pleave_exit w1 W1.out a (fun e _=>exitB p.sigs[ke].2.1 p.sigs[ke].2.2 (jX p ((zS r).getD a 0)).1 e) k6 k7 SM.out.1 SM.out.2 SH.out (fun W e j0 j1 hb=>exit_any e j0 j1 _ _ _ _ k6 k7 W ((hb.block _ (zA X6.out)).trans X6.out) ((hb.block _ (zA X7.out)).trans X7.out))).mono ?_
    rintro e w2 hq
    have HP:Hid (PassP w lo g F p r h2 y0 y1 a e w2):=zD0 (by
     obtain⟨q1,q2⟩:=zDp HR.out HA.out HH.out HS.out LB.out (fun i _=>right_exit HR.out HNX.out HX0.out hke HAT.out) hq
     exact⟨q1,B1.out.trans q2⟩)
    have HE:Hid (∃b,e = .returned (.bool b)):=zD0 (by
     obtain⟨q1,-⟩:=hq
     rcases q1 with⟨_,_,_,_,q,_⟩|⟨_,q⟩
     ·exact⟨_,q⟩
     ·exact⟨_,q⟩)
    clear hq
    obtain⟨b,rfl⟩:=HE.out
    go_wp2_with fail
    go_ret
    exact HP.out
  ·have HNX:Hid (a+1<(zS r).length∧a+1≠r.path.length):=zD0 (by have:=HN.out;omega)
   clear hl h0 ha hn
   go_wp2_with fail
   refine(pout_next w WK.out a HNX.out.1 HNX.out.2 HR.out).mono ?_
   rintro e w1 ⟨k,rfl,hk,b1⟩
   have XK:=zD0 hk
   have W1:=zD0 (WK.out.below b1)
   have B1:Hid (Below lo w w1):=zD0 (b1.mono WK.out.size)
   clear b1 hk
   go_wp2_with fail
   refine(pleave_next w1 W1.out a (fun _ j=>nextB ((zS r).getD (a+1) 0) j) k SM.out.1 SM.out.2 SH.out (fun W e j0 j1 hb=>next_any e j0 j1 _ k W ((hb.block _ (zA XK.out)).trans XK.out))).mono ?_
   rintro e w2 hq
   have HP:Hid (PassP w lo g F p r h2 y0 y1 a e w2):=zD0 (by
    obtain⟨q1,q2⟩:=zDp HR.out HA.out HH.out HS.out LB.out (fun i _=>right_next HNX.out.2) hq
    exact⟨q1,B1.out.trans q2⟩)
   have HE:Hid (∃b,e = .returned (.bool b)):=zD0 (by
    obtain⟨q1,-⟩:=hq
    rcases q1 with⟨_,_,_,_,q,_⟩|⟨_,q⟩
    ·exact⟨_,q⟩
    ·exact⟨_,q⟩)
   clear hq
   obtain⟨b,rfl⟩:=HE.out
   go_wp2_with fail
   go_ret
   exact HP.out
end Go.Proofs.YtemmgmjhomgbbaaGreat
