/-
 The program's package way: leave.
 Conditions: fewer than fifty asks and ends.
-/
import Derived.Test.YtemmgmjhomgbbaaGreatUWayPD
set_option linter.unusedVariables false
set_option linter.unusedSimpArgs false
set_option maxRecDepth 100000
namespace Go.Proofs.YtemmgmjhomgbbaaGreat
open Go.RowKit
theorem infoJoinO:(Tryz.prog.info? 98).map (fun i=>(i.zero,i.size,i.bytes))=some (some (.agg #[.int .i64 0,.int .i64 0]),2,16):=by kernel_rfl
def okE (s:Sec) (inn:Int) (f:Nat→Jn→Bool) (e:Nat):Bool:=decide (0≤xG s.2.1 inn (e:Int))&&f e (s.2.2.getD e (0,0))
def zCe (w:World) (lo g:Nat) (F:Nat→Value) (p:Pl) (r:Rt) (s:Sec) (h2:Value) (t:Jn) (y0 y1:Value) (x:Wy) (l:List Jn) (a:Nat) (f:Nat→Jn→Bool) (e:Ending) (w':World):Prop:=
 ((∃i:Nat,i<s.2.2.length∧okE s t.2 f i=true∧(∀j,j<i→okE s t.2 f j=false)∧e = .returned (.bool true)∧∃u2 u,WkS w' lo g F p r s h2 (s.2.2.getD i (0,0)) y0 y1 u2 (addA x s.2.1 (xG s.2.1 t.2 (i:Int)) a) u (l++[(s.1,(i:Int))])) ∨
  ((∀j,j<s.2.2.length→okE s t.2 f j=false)∧e = .returned (.bool false)))∧Below lo w w'
set_option maxHeartbeats 16000000 in
theorem pleave_next {lo g:Nat} {F:Nat→Value} {p:Pl} {r:Rt} {s:Sec} {h2:Value} {t:Jn} {y0 y1 y2:Value} {x:Wy} {o:Value} {l:List Jn} (w:World) (h:WkS w lo g F p r s h2 t y0 y1 y2 x o l) (a:Nat) (f:Nat→Jn→Bool) (k0:Nat) (hx:x.asks.length≤50) (hlo:l.length≤50) (hs:qQ s=true)
  (hf:∀(W:World) (e:Nat) (j0 j1:Int),Below w.heap.size w W→Calls Tryz.prog 132 #[.int .i64 e,.agg #[.int .i64 j0,.int .i64 j1],.pointer (some ⟨k0,0,none⟩)] W fun e' W'=>e' = .returned (.bool (f e (j0,j1)))∧Below W.heap.size W W'):
  Calls Tryz.prog 116 #[.pointer (some ⟨g,0,none⟩),.int .i64 a,.func (.func 132) #[] #[.pointer (some ⟨k0,0,none⟩)]] w fun e w'=>zCe w lo g F p r s h2 t y0 y1 x l a f e w':=by
 have WK0:=zD0 h
 obtain⟨sid,spt,es⟩:=s
 obtain⟨t0,t1⟩:=t
 have WK:Hid (WkS w lo g F p r (sid,spt,es) h2 (t0,t1) y0 y1 y2 x o l):=WK0
 have HX:=zD0 hx
 have HFN:=zD0 hf
 have HLC:=zD0 hlo
 obtain⟨Ae,ce,eA,hcl,hcm⟩:=WK.out.ends.slice
 obtain⟨ne,hne⟩:=zD1 (es.length)
 have HNE:=zD0 hne
 have hnm:ne≤9223372036854775807:=by have hcl':es.length≤ce:=hcl;rw[hne];unfold maxLen at hcm;omega
 have HE0:Hid (zT w w.heap.size (.slice Ae ne ce) es):=zD0 (by have:=WK.out.ends.more zM WK.out.size;rw[eA,←hne] at this;exact this)
 have HH2:Hid (h2 = .slice Ae ne ce):=zD0 (by rw[eA,←hne])
 have SZ:Hid (g<w.heap.size):=zD0 WK.out.lt
 have HSH:=zD0 hs
 have k16:w.cell? ⟨g,16,none⟩=some (.slice Ae ne ce):=WK.out.cell 16 (congrArg some HH2.out)
 have LP:Hid (∀e w',zCe w lo g F p r (sid,spt,es) h2 (t0,t1) y0 y1 x l a f e w'→zCe w lo g F p r (sid,spt,es) h2 (t0,t1) y0 y1 x l a f e w'):=zD0 (fun _ _ h=>h)
 clear h WK0 hx hf hlo hs eA hcl hcm hne
 go_enter Tryz.func116,Tryz.ntmps116
 go_wp2_with fail
 go_loopw [17] (fun s17 wr=>∃i:Nat,i≤ne∧s17 = .int .i64 i∧(∀j,j<i→okE (sid,spt,es) t1 f j=false)∧Below w.heap.size w wr) (fun s17 _=>ne-(intOf s17).toNat)
 case atStart=>exact⟨0,by omega,by go_num,fun j hj=>absurd hj (by omega),Below.refl _ _⟩
 case round=>
  obtain⟨i,hi,rfl,hall,hb⟩:=hrel
  have HALL:=zD0 hall
  have BW:=zD0 hb
  clear hall hb k16
  by_cases hlt:i<ne
  ·have hlt':(i:Int)<ne:=by omega
   have hie:i<es.length:=by rw[←HNE.out];exact hlt
   obtain⟨be,oe,e5,hbe,hh0,hh1⟩:=((HE0.out.below zM BW.out).more zM BW.out.size).at hie
   cases e5
   obtain⟨j0,j1,ht⟩:∃a b,es[i]=(a,b):=⟨_,_,rfl⟩
   rw[ht] at hh0 hh1
   have HGD:Hid (es.getD i (0,0)=(j0,j1)):=zD0 (by rw[List.getD,List.getElem?_eq_getElem hie,ht];rfl)
   have he0:wr.cell? ⟨be,oe+i*2,none⟩=some (.int .i64 j0):=hh0
   have he1:wr.cell? ⟨be,oe+i*2+1,none⟩=some (.int .i64 j1):=hh1
   obtain⟨Z,hZ⟩:=zD1 (xG spt t1 (i:Int))
   have HZ:=zD0 hZ
   have XX0:=zB wr (.cells #[.int .i64 0,.int .i64 0] 98)
   have hz0:=below_setRow (zD wr (.cells #[.int .i64 0,.int .i64 0] 98)) (Nat.le_refl _) #[.int .i64 j0,.int .i64 j1]
   have hz1:=setRow_heap (wr.alloc (.cells #[.int .i64 0,.int .i64 0] 98)) wr.heap.size _ #[.int .i64 j0,.int .i64 j1] 98 _ XX0
   clear hh0 hh1 hbe ht hZ
   go_upto_region 4 with((with_reducible show wpList _ _ _ (⟨none,_,_,_,_,_⟩::_) _ _);refine zK rfl _ (.tmp 8) (.tmp 21) rfl wr.heap.size rfl (c':=#[.int .i64 j0,.int .i64 j1]) rfl XX0 vH rfl (by simp[Value.oneCell']) ?_)
   generalize (wr.alloc (.cells #[.int .i64 0,.int .i64 0] 98)).setRow wr.heap.size #[.int .i64 j0,.int .i64 j1]=wq at hz0 hz1⊢
   obtain⟨p8,hp8⟩:=zD1 (wr.heap.size)
   rw[←hp8] at hz1⊢
   have X8:=zD0 hz1
   have BQ:Hid (Below w.heap.size w wq):=zD0 (BW.out.trans (hz0.mono BW.out.size))
   have P8:Hid (p8≠g∧o.ownBlock≠some p8∧y2.ownBlock≠some p8):=zD0 (by
    have h1:=BW.out.size
    have h2:=SZ.out
    exact⟨by omega,fun e=>by have:=zB5 WK.out.outs p8 e;omega,fun e=>by have:=zB5 WK.out.way.asks p8 e;omega⟩)
   have WQ:=zD0 (WK.out.below BQ.out)
   have SZR:=zD0 WQ.out.lt
   have L14:Hid (wq.cell? ⟨g,14,none⟩=some (.int .i64 sid)):=zD0 (WQ.out.cell 14 rfl)
   have L15:Hid (wq.cell? ⟨g,15,none⟩=some (.int .i64 spt)):=zD0 (WQ.out.cell 15 rfl)
   have L16:Hid (wq.cell? ⟨g,16,none⟩=some (.slice (some ⟨be,oe,none⟩) ne ce)):=zD0 (WQ.out.cell 16 (congrArg some HH2.out))
   have L18:Hid (wq.cell? ⟨g,18,none⟩=some (.int .i64 t1)):=zD0 (WQ.out.cell 18 rfl)
   have HEQ:Hid (zT wq wq.heap.size (.slice (some ⟨be,oe,none⟩) ne ce) es):=zD0 ((HE0.out.below zM BQ.out).more zM BQ.out.size)
   clear hz0 hz1 XX0 hp8 he0 he1
   by_cases hl:Z<0
   ·have HTE:Hid (vC (sid,spt,es) t1 i=2):=zD0 (by rw[vC,HSH.out,if_pos rfl,if_pos (by rw[←HZ.out];exact hl)])
    have HTL:Hid (vN (sid,spt,es) t1 i=0):=zD0 (by rw[vN,HTE.out];rfl)
    have NX:Hid (∀j,j<i+1→okE (sid,spt,es) t1 f j=false):=zD0 (fun j hj=>by
     rcases Nat.lt_or_ge j i with h|h
     ·exact HALL.out j h
     ·obtain rfl:j=i:=by omega
      rw[okE,decide_eq_false (by rw[←HZ.out];omega)];rfl)
    clear hl
    refine wp_region_held_drew (S:=fun v=>Below wq.heap.size wq v) (by kernel_rfl) (Below.refl wq.heap.size wq).drew (fun zD2=>?_)
    refine tk 0 zD2 ?_;refine tk 1 zD2 ?_;refine tk 2 zD2 ?_
    refine wpAnyH_take (i:=3) (v:=?_) rfl (by kernel_rfl) (by kernel_rfl) (by kernel_rfl) (fun _ _ _ h=>h) (Or.inl ⟨by rfl,?_⟩) zD2 ?_
    rotate_left
    ·intro w' hSw;have ch0:=(hSw.cell (p:=⟨g,14,none⟩) SZR.out).trans L14.out;have ch1:=(hSw.cell (p:=⟨g,15,none⟩) SZR.out).trans L15.out;have ch2:=(hSw.cell (p:=⟨g,16,none⟩) SZR.out).trans L16.out;go_simp;try with_reducible rfl
    simp only[zn,Act.put]
    refine tk 4 zD2 ?_;refine tk 5 zD2 ?_;refine tk 6 zD2 ?_;refine tk 7 zD2 ?_;refine tkc 8 zD2 (fun w' hSw=>(hSw.cell (p:=⟨g,18,none⟩) SZR.out).trans L18.out) ?_;refine tk 9 zD2 ?_
    refine tkr 10 (fun K hK=>?_)
    go_simp
    refine(kV _ (sid,spt,es) t1 i wq.drew ⟨_,rfl,(HEQ.out.below zM (Below.refl wq.heap.size wq).drew)⟩).mono ?_
    rintro e wL ⟨rfl,bL⟩
    have BL:Hid (Below wq.heap.size wq wL):=zD0 ((Below.refl wq.heap.size wq).drew.trans bL)
    clear bL
    rw[HTL.out,HTE.out]
    try go_wp2_with fail
    refine hK.out _ _ ?_ fun zD2=>?_;exact BL.out;clear hK K;try simp only[zn,Act.put]
    refine tk 11 zD2 ?_;refine tk 12 zD2 ?_;refine tk 13 zD2 ?_;refine tk 14 zD2 ?_;refine tk 15 zD2 ?_
    refine wpAnyH_done (by kernel_rfl) ?_ _
    have BN:Hid (Below w.heap.size w wL):=zD0 (BQ.out.trans (BL.out.mono BQ.out.size))
    go_wp2_with fail
    go_roundw
    case measure=>simp[intOf];omega
    case rel=>exact⟨i+1,by omega,by go_num,NX.out,BN.out⟩
   have HTE:Hid (vC (sid,spt,es) t1 i=0):=zD0 (by rw[vC,HSH.out,if_pos rfl,if_neg (by rw[←HZ.out];exact hl)])
   have HTL:Hid (vN (sid,spt,es) t1 i=Z):=zD0 (by rw[vN,HTE.out,if_pos rfl];exact HZ.out.symm)
   have HL:=zD0 hl
   clear hl
   refine wp_region_held_drew (S:=fun v=>Below wq.heap.size wq v) (by kernel_rfl) (Below.refl wq.heap.size wq).drew (fun zD2=>?_)
   refine tk 0 zD2 ?_;refine tk 1 zD2 ?_;refine tk 2 zD2 ?_
   refine wpAnyH_take (i:=3) (v:=?_) rfl (by kernel_rfl) (by kernel_rfl) (by kernel_rfl) (fun _ _ _ h=>h) (Or.inl ⟨by rfl,?_⟩) zD2 ?_
   rotate_left
   ·intro w' hSw;have ch0:=(hSw.cell (p:=⟨g,14,none⟩) SZR.out).trans L14.out;have ch1:=(hSw.cell (p:=⟨g,15,none⟩) SZR.out).trans L15.out;have ch2:=(hSw.cell (p:=⟨g,16,none⟩) SZR.out).trans L16.out;go_simp;try with_reducible rfl
   simp only[zn,Act.put]
   refine tk 4 zD2 ?_;refine tk 5 zD2 ?_;refine tk 6 zD2 ?_;refine tk 7 zD2 ?_;refine tkc 8 zD2 (fun w' hSw=>(hSw.cell (p:=⟨g,18,none⟩) SZR.out).trans L18.out) ?_;refine tk 9 zD2 ?_
   refine tkr 10 (fun K hK=>?_)
   go_simp
   refine(kV _ (sid,spt,es) t1 i wq.drew ⟨_,rfl,(HEQ.out.below zM (Below.refl wq.heap.size wq).drew)⟩).mono ?_
   rintro e wL ⟨rfl,bL⟩
   have BL:Hid (Below wq.heap.size wq wL):=zD0 ((Below.refl wq.heap.size wq).drew.trans bL)
   clear bL
   rw[HTL.out,HTE.out]
   try go_wp2_with fail
   refine hK.out _ _ ?_ fun zD2=>?_;exact BL.out;clear hK K;try simp only[zn,Act.put]
   refine tk 11 zD2 ?_;refine tk 12 zD2 ?_;refine tk 13 zD2 ?_;refine tk 14 zD2 ?_;refine tk 15 zD2 ?_
   refine wpAnyH_done (by kernel_rfl) ?_ _
   have BN:Hid (Below w.heap.size w wL):=zD0 (BQ.out.trans (BL.out.mono BQ.out.size))
   have XL8:=zD0 ((BL.out.block _ (zA X8.out)).trans X8.out)
   obtain⟨m0,m1⟩:=zI XL8.out
   obtain⟨G,hG⟩:=zD1 (f i (j0,j1))
   have HG:=zD0 hG
   clear hG
   cases G with
   | false=>
    have NX:Hid (∀j,j<i+1→okE (sid,spt,es) t1 f j=false):=zD0 (fun j hj=>by
     rcases Nat.lt_or_ge j i with h|h
     ·exact HALL.out j h
     ·obtain rfl:j=i:=by omega
      rw[okE,HGD.out,←HG.out,Bool.and_false])
    go_wp2_with fail
    refine(HFN.out wL i j0 j1 BN.out).mono ?_
    rintro e wC ⟨rfl,bC⟩
    rw[←HG.out]
    have BC:Hid (Below w.heap.size w wC):=zD0 (BN.out.trans (bC.mono BN.out.size))
    clear bC m0 m1
    go_wp2_with fail
    go_roundw
    case measure=>simp[intOf];omega
    case rel=>exact⟨i+1,by omega,by go_num,NX.out,BC.out⟩
   | true=>
    have OK:Hid (okE (sid,spt,es) t1 f i=true):=zD0 (by rw[okE,HGD.out,←HG.out,Bool.and_true];exact decide_eq_true (by have:=HL.out;rw[←HZ.out];omega))
    go_wp2_with fail
    refine(HFN.out wL i j0 j1 BN.out).mono ?_
    rintro e wC ⟨rfl,bC⟩
    rw[←HG.out]
    have BC:Hid (Below w.heap.size w wC):=zD0 (BN.out.trans (bC.mono BN.out.size))
    have XC8:=zD0 ((bC.block _ (zA XL8.out)).trans XL8.out)
    have WC:=zD0 (WK.out.below BC.out)
    clear bC m0 m1
    go_wp2_with fail
    refine(pask_any wC WC.out a Z HX.out).mono ?_
    rintro e wR ⟨rfl,⟨u2,hu⟩,bR,hfar⟩
    have UR:Hid (WkS wR lo g F p r (sid,spt,es) h2 (t0,t1) y0 y1 u2 (addA x spt Z a) o l):=zD0 hu
    have BR:Hid (Below lo w wR):=zD0 ((BC.out.mono WK.out.size).trans bR)
    have XR8:Hid (wR.heap[p8]? = some (.cells #[.int .i64 j0,.int .i64 j1] 98 (0,0))):=zD0 ((hfar p8 (zA XC8.out) P8.out.1 P8.out.2.2).trans XC8.out)
    clear hu bR hfar
    have P8':Hid (p8≠g∧o.ownBlock≠some p8):=zD0 ⟨P8.out.1,P8.out.2.1⟩
    clear P8
    have P8:=P8'
    clear P8'
    obtain⟨Ao,co_,eO⟩:=UR.out.outs.slice
    obtain⟨no,hno⟩:=zD1 (l.length)
    have HLO:=zD0 hno
    have LLE:Hid (no≤50):=zD0 (by rw[hno];exact HLC.out)
    have HO:Hid (o = .slice Ao no co_):=zD0 (by rw[eO,hno])
    have SR:Hid (g+1≤wR.heap.size):=zD0 UR.out.lt
    obtain⟨yss,hown,hyl,hm,hys,hyr⟩:=UR.out.outs
    rw[←HLO.out,HO.out] at hown
    have O:=zD0 hown
    have YL:=zD0 hyl
    have YS:=zD0 hys
    have YR:=zD0 hyr
    have R23:Hid (wR.cell? ⟨g,23,none⟩=some (.slice Ao no co_)):=zD0 (UR.out.cell 23 (congrArg some HO.out))
    have R14:Hid (wR.cell? ⟨g,14,none⟩=some (.int .i64 sid)):=zD0 (UR.out.cell 14 rfl)
    obtain⟨i0,hii,hz0,hzz,hz2⟩:=info_parts infoJoinO
    have I0:=zD0 hii
    have I1:=zD0 hz0
    have I2:=zD0 hzz
    have I3:=zD0 hz2
    clear hii hz0 hzz hz2 hown hyl hm hys hyr hno eO
    go_upto_region 7 with fail
    refine jG (S:=fun v'=>Below (g+1) wR v') 16 (by kernel_rfl) (Below.refl (g+1) wR).drew (fun zD2=>?_)
    refine tke [14,15,16] 0 zD2 ?_;refine tke [2,3,4,13,16] 1 zD2 ?_;refine tke [3,4,13,16] 2 zD2 ?_;refine tke [4,13,16] 3 zD2 ?_;refine tkd [13,16] 4 zD2 (fun w' hSw=>(hSw.cell (p:=⟨g,23,none⟩) (Nat.lt_succ_self g)).trans R23.out) ?_;refine tke [6,7,8,9,11,12,13,16] 5 zD2 ?_;refine tke [7,8,9,11,12,13,16] 6 zD2 ?_;refine tke [8,9,11,12,13,16] 7 zD2 ?_;refine tke [9,11,12,13,16] 8 zD2 ?_;refine tkd [11,12,13,16] 9 zD2 (fun w' hSw=>(hSw.cell (p:=⟨g,14,none⟩) (Nat.lt_succ_self g)).trans R14.out) ?_;refine tke [11,12,13,16] 10 zD2 ?_;refine tke [12,13,16] 11 zD2 ?_
    refine xM (i:=12) (by kernel_rfl) rfl (by kernel_rfl) (fun K hK=>?_)
    go_simp
    refine hK.out _ _ ?_ fun zD2=>?_;exact((Below.refl (g+1) wR).drew.alloc SR.out _);clear hK K;try simp only[zn,Act.put]
    refine xM (i:=13) (by kernel_rfl) rfl (by kernel_rfl) (fun K hK=>?_)
    rw[if_pos (by rfl)]
    refine qO (.tmp 53) (.tmp 61) _ rfl Tryz.underlying58 I0.out I1.out rfl I2.out (by decide) I3.out (by decide) rfl (zAt O.out ((Below.refl wR.heap.size wR).alloc (Nat.le_refl _) _).drew) rfl (m:=1) (news:=[.int .i64 sid,.int .i64 (i:Int)]) rfl (fun h=>by cases h) (fun a ha j u hj=>by cases ha;rw[Addr.add_lit,Nat.zero_add];show(wR.alloc (.cells #[.int .i64 sid,.int .i64 (i:Int)] 98)).cell? ⟨wR.heap.size,j,none⟩=_;rw[World.cell?_alloc_new];simpa using hj) (by simp[Value.oneCell']) (by have:=LLE.out;omega) (by have:=SR.out;simp;omega) ?_
    intro v5 w5 hown5 hgrow6
    have hgrow5:World.grownBy (wR.alloc (.cells #[.int .i64 sid,.int .i64 (i:Int)] 98)) w5 (Value.ownBlock (.slice Ao no co_)):=⟨hgrow6.os,hgrow6.tape,hgrow6.output,hgrow6.size,hgrow6.block⟩
    have S5:Hid (kC w5 (g+1) v5 (l++[(sid,(i:Int))])):=zD0 (zJ.snoc (w1:=wR) (x:=(sid,(i:Int))) (ys:=[.int .i64 sid,.int .i64 (i:Int)]) zM (fun _ h _ _=>h) (by rw[←HLO.out];exact O.out) YL.out YS.out rfl (by have:=LLE.out;have:=HLO.out;unfold maxLen;omega) YR.out (Below.refl _ _) ⟨rfl,rfl⟩ (by rw[←HLO.out];exact hown5) hgrow5)
    have B5:Hid (Below (g+1) wR w5):=zD0 (((Below.refl (g+1) wR).alloc SR.out _).grown hgrow5 (by have:=SR.out;simp;omega) (jE O.out))
    have SE:Hid (WkS (w5.setCell ⟨g,23,none⟩ v5) lo g F p r (sid,spt,es) h2 (t0,t1) y0 y1 u2 (addA x spt Z (a:Int)) v5 (l++[(sid,(i:Int))])∧Below lo wR (w5.setCell ⟨g,23,none⟩ v5)):=zD0 (by
     have q0:=zD wR (.cells #[.int .i64 sid,.int .i64 (i:Int)] 98)
     have h0:=UR.out.below q0
     obtain⟨k1,k2⟩:=h0.addOut (l++[(sid,(i:Int))]) v5 (by rw[HO.out];exact hgrow5) S5.out
     exact⟨k1,(q0.mono UR.out.size).trans k2⟩)
    have FE:Hid ((w5.setCell ⟨g,23,none⟩ v5).heap[p8]? = some (.cells #[.int .i64 j0,.int .i64 j1] 98 (0,0))):=zD0 (by
     have h8:=zA XR8.out
     rw[xE w5 g 23 p8 v5 P8.out.1,hgrow5.block p8 (by simp;omega) (fun e=>P8.out.2 (by rw[HO.out];exact e.symm))]
     exact(qZ _ _ h8).trans XR8.out)
    have kw:w5.cell? ⟨g,23,none⟩=some (.slice Ao no co_):=(B5.out.cell (p:=⟨g,23,none⟩) (Nat.lt_succ_self g)).trans R23.out
    have fw:w5.frozen? ⟨g,23,none⟩=false:=(B5.out.frozen (p:=⟨g,23,none⟩) (Nat.lt_succ_self g)).trans (UR.out.frozen 23)
    obtain⟨A5,c5_,rfl⟩:=xN hown5
    clear hown5 hgrow5 hgrow6
    refine hK.out _ _ ?_ fun zD2=>?_;exact B5.out;clear hK K;try simp only[zn,Act.put]
    refine tke [15,16] 14 zD2 ?_;refine tke [16] 15 zD2 ?_
    refine kB (by kernel_rfl) rfl (by kernel_rfl) (fun K hK=>?_)
    rw[if_pos (by rfl)]
    go_simp
    refine hK.out _ _ ?_
    clear hK K
    have hse:=SE.out
    have hfe:=FE.out
    generalize w5.setCell ⟨g,23,none⟩ (.slice A5 (no+1) c5_)=wS at hse hfe⊢
    have US:=zD0 hse.1
    have BS:Hid (Below lo w wS):=zD0 (BR.out.trans hse.2)
    clear SE FE S5 kw fw
    obtain⟨m0,m1⟩:=zI hfe
    have f17:=US.out.frozen 17
    have f18:=US.out.frozen 18
    have g17:wS.cell? ⟨g,17,none⟩=some (.int .i64 t0):=US.out.cell 17 rfl
    have g18:wS.cell? ⟨g,18,none⟩=some (.int .i64 t1):=US.out.cell 18 rfl
    clear hse hfe
    go_wp2_with fail
    go_ret
    have q:=US.out.setAt (j0,j1)
    exact⟨.inl ⟨i,by rw[←HNE.out];exact hlt,OK.out,HALL.out,rfl,_,_,by rw[show((sid,spt,es):Sec).2.2.getD i (0,0)=(j0,j1) from HGD.out];rw[show xG ((sid,spt,es):Sec).2.1 ((t0,t1):Jn).2 (i:Int)=Z from HZ.out.symm];exact q.1⟩,BS.out.trans q.2⟩
  ·obtain rfl:ne=i:=by omega
   have hlt':¬(ne:Int)<ne:=by omega
   go_wp2_with fail
   go_ret
   exact⟨.inr ⟨fun j hj=>HALL.out j (by rw[HNE.out];exact hj),rfl⟩,BW.out.mono WK.out.size⟩
end Go.Proofs.YtemmgmjhomgbbaaGreat
