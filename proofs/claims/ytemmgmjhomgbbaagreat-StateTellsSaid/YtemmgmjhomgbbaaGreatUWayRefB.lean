/-
 The document's own function of package way: out.
 Conditions: none.
-/
import Derived.Test.YtemmgmjhomgbbaaGreatUGWayM
import Derived.BigQuiet
set_option linter.unusedVariables false
set_option linter.unusedSimpArgs false
set_option maxRecDepth 100000
namespace Go.Proofs.YtemmgmjhomgbbaaGreat
open Go.RowKit
theorem qE {P:Program} {op:Oper} {a:Act} {w:World} {K:Act→World→Prop} {Q:Exit→Act→World→Prop} (ty:TypeId) (x y:Operand) (ho:op.op = .store ty x y)
  (b:Nat) (hx:a.eval x = .pointer (some ⟨b,0,none⟩)) {c c':Array Value} (hy:a.eval y = .agg c') {t:TypeId} (hb:w.heap[b]? = some (.cells c t (0,0)))
  (hi:(P.info? ty).map (·.size)=some c'.size) (hs:c.size=c'.size) (h1:c'.all (·.oneCell')=true)
  (h:K (a.put op.dst undef) (w.setRow b c')):op.wp P a w K Q:=by
 unfold Oper.wp execOp
 simp only[ho,hx,hy,Instr.storeAt,Instr.sureAddr,Sem.run_bind,Sem.run_pure,Result.andThen_ok]
 rw[run_storeVar_row w b t ty c c' hb hi hs h1]
 exact h
def SecBox (W:World) (lo pz:Nat) (row:Array Value):Prop:=W.heap[pz]? = some (.cells row 60 (0,0))∧lo≤pz
set_option maxHeartbeats 16000000 in
theorem rout9_any (v y lv:Value) (p:Pl) (r:Rt) (a:Nat) (inn:Int) (w:World) (h:qF w w.heap.size v p) (h':vS w w.heap.size y r) (hl:xB w w.heap.size lv (zS r)) (hr:qW p r) (ha:a<(zS r).length) (hn:a+1=r.path.length∨a+1<(zS r).length):
  Calls Tryz.prog 98 #[v,y,lv,.int .i64 a,.int .i64 inn] w fun e w'=>e = .returned (.int .i64 (outN p r a inn))∧Below w.heap.size w w':=by
 have HRI:=zD0 hr
 have HA:=zD0 ha
 have HNX:=zD0 hn
 have HLL:=zD0 hl
 clear hr ha hn
 obtain⟨A2,c2,A3,c3,A4,c4,A5,c5,n2,n3,n4,n5,rfl,hm2,hm3,hm4,hm5,HCP,HIN,HN⟩:=kD h
 obtain⟨z3,z4,z5,rfl,hrt⟩:=h'
 have HRT0:=zD0 hrt
 obtain⟨C3,e3,rfl,hdl3,hdm3⟩:=hrt.path.slice
 obtain⟨C4,e4,rfl,hdl4,hdm4⟩:=hrt.over.slice
 obtain⟨C5,e5,rfl,hdl5,hdm5⟩:=hrt.flanks.slice
 unfold maxLen at hdm3 hdm4 hdm5
 obtain⟨l3,hl3⟩:=zD1 (r.path.length)
 obtain⟨l4,hl4⟩:=zD1 (r.over.length)
 obtain⟨l5,hl5⟩:=zD1 (r.flanks.length)
 have hk3:l3≤9223372036854775807:=by omega
 have hk4:l4≤9223372036854775807:=by omega
 have hk5:l5≤9223372036854775807:=by omega
 have HRT:Hid (RtIn w w.heap.size (.slice C3 l3 e3) (.slice C4 l4 e4) (.slice C5 l5 e5) r):=zD0 (by rw[hl3,hl4,hl5];exact HRT0.out)
 have HL:Hid (l3=r.path.length∧l4=r.over.length∧l5=r.flanks.length):=zD0 ⟨hl3,hl4,hl5⟩
 rw[←hl3,←hl4,←hl5]
 clear hl3 hl4 hl5 HRT0 hrt hdl3 hdm3 hdl4 hdm4 hdl5 hdm5
 obtain⟨AL,cl,rfl,-,-⟩:=hl.slice
 obtain⟨nl,hnl⟩:=zD1 ((zS r).length)
 have HNL:=zD0 hnl
 have LI0:Hid (xB w w.heap.size (.slice AL nl cl) (zS r)):=zD0 (by rw[hnl];exact HLL.out)
 rw[←hnl]
 have hal:(a:Int)<nl:=by have:=HA.out;omega
 clear hl hnl HLL
 have hq:=zV w (.cells #[.int .i64 p.ver,.int .i64 p.par,.slice A2 n2 c2,.slice A3 n3 c3,.slice A4 n4 c4,.slice A5 n5 c5] 27) (.cells #[.int .i64 r.id,.int .i64 r.entry,.int .i64 r.exit,.slice C3 l3 e3,.slice C4 l4 e4,.slice C5 l5 e5,.int .i64 r.timer] 64)
 go_enter Tryz.func98,Tryz.ntmps98
 go_upto_region 1 with fail
 generalize (w.alloc (.cells #[.int .i64 p.ver,.int .i64 p.par,.slice A2 n2 c2,.slice A3 n3 c3,.slice A4 n4 c4,.slice A5 n5 c5] 27)).alloc (.cells #[.int .i64 r.id,.int .i64 r.entry,.int .i64 r.exit,.slice C3 l3 e3,.slice C4 l4 e4,.slice C5 l5 e5,.int .i64 r.timer] 64)=q at hq⊢
 obtain⟨q0,q1,qb⟩:=hq
 have XP:=zD0 q0
 have XR:=zD0 q1
 have BQ:=zD0 qb
 clear q0 q1 qb
 have HI:=zD0 ((HIN.out.below BQ.out).more BQ.out.size)
 have HR:=zD0 ((HRT.out.below BQ.out).more BQ.out.size)
 have LI:=zD0 ((LI0.out.below qI BQ.out).more qI BQ.out.size)
 clear LI0 HRT
 obtain⟨ks,hks,hat,hsn,hsid⟩:=HRI.out.sec HA.out
 obtain⟨z,hz⟩:=zD1 ((zS r).getD a 0)
 rw[←hz] at hat hsn hsid
 have HZ:=zD0 hz
 obtain⟨bl,ofl,rfl,hbl,hc0⟩:=LI.out.at HA.out
 have hl0:q.cell? ⟨bl,ofl+a,none⟩=some (.int .i64 z):=by rw[hz,List.getD,List.getElem?_eq_getElem HA.out];simpa [jU] using hc0
 have hks':(ks:Int)<n2:=by have:=HN.out;omega
 obtain⟨bs,ofs,rfl,hbs,hd0,hd1,u,hd2,hu⟩:=HI.out.secs.at hks
 obtain⟨Ae,ce,rfl,huc,hue⟩:=hu.slice
 obtain⟨sid,spt,es,hx⟩:∃a b c,p.secs[ks]=(a,b,c):=⟨_,_,_,rfl⟩
 rw[hx] at hd0 hd1 hd2 hu huc hsn
 dsimp only at hd0 hd1 hd2 hu huc
 obtain⟨ne,hne⟩:=zD1 (es.length)
 rw[←hne] at hd2 hu
 have hnem:ne≤9223372036854775807:=by rw[hne];unfold maxLen at hue;omega
 have HNE:=zD0 hne
 have HSN:=zD0 hsn
 have HES:=zD0 hu
 have hs0:q.cell? ⟨bs,ofs+ks*3,none⟩=some (.int .i64 sid):=hd0
 have hs1:q.cell? ⟨bs,ofs+ks*3+1,none⟩=some (.int .i64 spt):=hd1
 have hs2:q.cell? ⟨bs,ofs+ks*3+2,none⟩=some (.slice Ae ne ce):=hd2
 clear hz hc0 hbl hd0 hd1 hd2 hu hue huc hx hne hsn hsid hbs
 have HAT:=zD0 hat
 go_cut [11] from 13 to 23 (fun s11 wx=>∃pz,s11 = .pointer (some ⟨pz,0,none⟩)∧SecBox wx q.heap.size pz #[.int .i64 sid,.int .i64 spt,.slice Ae ne ce]∧Below q.heap.size q wx)
 case first=>
  refine wp_region_held_drew (S:=fun v=>Below q.heap.size q v) (by kernel_rfl) (Below.refl q.heap.size q).drew (fun zD2=>?_)
  refine tk 0 zD2 ?_;refine tkc 1 zD2 (fun w' hSw=>zE ((hSw.block _ (zA XP.out)).trans XP.out)) ?_;refine tk 2 zD2 ?_;refine tkc 3 zD2 (fun w' hSw=>zE ((hSw.block _ (zA XP.out)).trans XP.out)) ?_;refine tk 4 zD2 ?_;refine tk 5 zD2 ?_;refine tk 6 zD2 ?_;refine tkc 7 zD2 (fun w' hSw=>(hSw.cell (zG hl0)).trans hl0) ?_
  refine wpAnyH_ready (rs:=[8,11]) (by kernel_rfl) (by simp) ?_
  refine AllReadyH.cons rfl (fun K hK=>?_) (AllReadyH.cons rfl (fun K hK=>?_) AllReadyH.nil)
  ·go_simp
   refine(zAf _ p.secs z q.drew ((HI.out.secs.below zN (Below.refl q.heap.size q).drew).more zN (Below.refl q.heap.size q).drew.size)).mono ?_
   rintro e w' ⟨rfl,rfl⟩
   try go_wp2_with fail
   refine hK.out _ _ ?_ fun zD2=>?_;exact(Below.refl q.heap.size q).drew;clear hK K;try simp only[zn,Act.put]
   refine tk 9 zD2 ?_
   refine wpAnyH_take (i:=10) (v:=?_) rfl (by kernel_rfl) (by kernel_rfl) (by kernel_rfl) (fun _ _ _ h=>h) (Or.inl ⟨by rfl,?_⟩) zD2 ?_
   rotate_left
   ·intro w' hSw;have cs0:=(hSw.cell (zG hs0)).trans hs0;have cs1:=(hSw.cell (zG hs1)).trans hs1;have cs2:=(hSw.cell (zG hs2)).trans hs2;go_simp;try with_reducible rfl
   simp only[zn,Act.put]
   refine tkr 11 (fun K hK=>?_)
   go_simp
   refine hK.out _ _ ?_ fun zD2=>?_;exact(zD q (.cells #[.int .i64 0,.int .i64 0,.slice none 0 0] 60)).drew;clear hK K;try simp only[zn,Act.put]
   refine tkr 12 (fun K hK=>?_)
   rw[if_pos (by rfl)]
   refine qE 60 (.tmp 11) (.tmp 23) rfl q.heap.size rfl (c':=#[.int .i64 sid,.int .i64 spt,.slice Ae ne ce]) rfl (show(q.alloc (.cells #[.int .i64 0,.int .i64 0,.slice none 0 0] 60)).drew.heap[q.heap.size]? = some (.cells #[.int .i64 0,.int .i64 0,.slice none 0 0] 60 (0,0)) from zB _ _) zA4 rfl (by simp[Value.oneCell']) ?_
   refine hK.out _ _ ?_ fun zD2=>?_;exact below_setRow (zD q (.cells #[.int .i64 0,.int .i64 0,.slice none 0 0] 60)).drew (Nat.le_refl _) _;clear hK K;try simp only[zn,Act.put]
   refine wpAnyH_done (by kernel_rfl) ?_ _
   go_wp2_with fail
   go_meet
   exact⟨q.heap.size,rfl,⟨setRow_heap _ _ _ _ _ _ (show(q.alloc (.cells #[.int .i64 0,.int .i64 0,.slice none 0 0] 60)).drew.heap[q.heap.size]? = some (.cells #[.int .i64 0,.int .i64 0,.slice none 0 0] 60 (0,0)) from zB _ _),Nat.le_refl _⟩,below_setRow (zD q (.cells #[.int .i64 0,.int .i64 0,.slice none 0 0] 60)).drew (Nat.le_refl _) _⟩
  ·go_simp
   have hz0:Below q.heap.size q (q.alloc (.cells #[.int .i64 0,.int .i64 0,.slice none 0 0] 60)).drew:=(zD _ _).drew
   have hz1:(q.alloc (.cells #[.int .i64 0,.int .i64 0,.slice none 0 0] 60)).drew.heap[q.heap.size]? = some (.cells #[.int .i64 0,.int .i64 0,.slice none 0 0] 60 (0,0)):=zB _ _
   refine hK.out _ _ ?_ fun zD2=>?_;exact hz0;clear hK K;try simp only[zn,Act.put]
   generalize (q.alloc (.cells #[.int .i64 0,.int .i64 0,.slice none 0 0] 60)).drew=wB at hz0 hz1 zD2⊢
   have HZ0:=zD0 hz0
   have HZ1:=zD0 hz1
   clear hz0 hz1
   refine tkr 8 (fun K hK=>?_)
   go_simp
   refine(zAf _ p.secs z wB ((HI.out.secs.below zN HZ0.out).more zN HZ0.out.size)).mono ?_
   rintro e w' ⟨rfl,rfl⟩
   try go_wp2_with fail
   refine hK.out _ _ ?_ fun zD2=>?_;exact HZ0.out;clear hK K;try simp only[zn,Act.put]
   refine tk 9 zD2 ?_
   refine wpAnyH_take (i:=10) (v:=?_) rfl (by kernel_rfl) (by kernel_rfl) (by kernel_rfl) (fun _ _ _ h=>h) (Or.inl ⟨by rfl,?_⟩) zD2 ?_
   rotate_left
   ·intro w' hSw;have cs0:=(hSw.cell (zG hs0)).trans hs0;have cs1:=(hSw.cell (zG hs1)).trans hs1;have cs2:=(hSw.cell (zG hs2)).trans hs2;go_simp;try with_reducible rfl
   simp only[zn,Act.put]
   refine tkr 12 (fun K hK=>?_)
   rw[if_pos (by rfl)]
   refine qE 60 (.tmp 11) (.tmp 23) rfl q.heap.size rfl (c':=#[.int .i64 sid,.int .i64 spt,.slice Ae ne ce]) rfl HZ1.out zA4 rfl (by simp[Value.oneCell']) ?_
   refine hK.out _ _ ?_ fun zD2=>?_;exact below_setRow HZ0.out (Nat.le_refl _) _;clear hK K;try simp only[zn,Act.put]
   refine wpAnyH_done (by kernel_rfl) ?_ _
   go_wp2_with fail
   go_meet
   exact⟨q.heap.size,rfl,⟨setRow_heap _ _ _ _ _ _ HZ1.out,Nat.le_refl _⟩,below_setRow HZ0.out (Nat.le_refl _) _⟩
 case rest=>
  obtain⟨pz,rfl,hbx,hbl⟩:=hcut
  have X11:=zD0 hbx.1
  have b1:=hbl
  have BL:=zD0 hbl
  have BV:=zD0 (Below.refl q.heap.size q)
  clear hbx hbl
  have LIW:=zD0 ((LI.out.below qI b1).more qI b1.size)
  clear LI
  have LI:=zD0 LIW.out
  clear LIW
  replace BV:=zD0 (BV.out.trans (b1.mono BV.out.size))
  replace XP:=zD0 ((b1.block _ (zA XP.out)).trans XP.out)
  replace XR:=zD0 ((b1.block _ (zA XR.out)).trans XR.out)
  replace HI:=zD0 ((HI.out.below b1).more b1.size)
  replace HR:=zD0 ((HR.out.below b1).more b1.size)
  clear b1
  have HEW:=zD0 ((HES.out.below zM BL.out).more zM BL.out.size)
  clear BV HES hl0 hs0 hs1 hs2
  have HES:=HEW
  clear HEW
  go_wp2_with fail
  go_loopw [12] (fun s12 wr=>∃i:Nat,i≤ne∧s12 = .int .i64 i∧(∀j,j<i→vI p r a inn j=false)∧Below wc.heap.size wc wr) (fun s12 _=>ne-(intOf s12).toNat)
  case atStart=>exact⟨0,by omega,by go_num,fun j hj=>absurd hj (by omega),Below.refl _ _⟩
  case round=>
   obtain⟨i,hi,rfl,hall,hb⟩:=hrel
   have HALL:=zD0 hall
   have BV:=zD0 hb
   have b1:=hb
   clear hall hb
   replace XP:=zD0 ((b1.block _ (zA XP.out)).trans XP.out)
   replace XR:=zD0 ((b1.block _ (zA XR.out)).trans XR.out)
   replace X11:=zD0 ((b1.block _ (zA X11.out)).trans X11.out)
   replace HI:=zD0 ((HI.out.below b1).more b1.size)
   replace HR:=zD0 ((HR.out.below b1).more b1.size)
   replace LI:=zD0 ((LI.out.below qI b1).more qI b1.size)
   replace HES:=zD0 ((HES.out.below zM b1).more zM b1.size)
   clear b1
   obtain⟨k0,k1,k2,k3,k4,k5⟩:=zE XP.out
   obtain⟨m0,m1,m2,m3,m4,m5,m6⟩:=zL XR.out
   obtain⟨x0,x1,x2⟩:=zC X11.out
   by_cases hlt:i<ne
   ·have hlt':(i:Int)<ne:=by omega
    have hir:i<es.length:=by rw[←HNE.out];exact hlt
    obtain⟨be,oe,e1,hbe,hc0,hc1⟩:=HES.out.at hir
    obtain⟨t0,t1,ht⟩:∃a b,es[i]=(a,b):=⟨_,_,rfl⟩
    rw[ht] at hc0
    subst e1
    have he0:wr.cell? ⟨be,oe+i*2,none⟩=some (.int .i64 t0):=hc0
    have RB:Hid (vI p r a inn i=(decide (0≤xG spt inn (i:Int))&&(if a+1=r.path.length then decide (r.exit=0∧t0=0∨r.exit≠0∧qJ p.sigs sid (i:Int)=r.exit) else decide (t0=(zS r).getD (a+1) 0)))):=zD0 (by
     have hg:es.getD i (0,0)=(t0,t1):=by rw[List.getD,List.getElem?_eq_getElem hir,ht];rfl
     rw[vI,←HZ.out,HSN.out]
     dsimp only
     rw[hg])
    have NXT:Hid (vI p r a inn i=false→∀j,j<i+1→vI p r a inn j=false):=zD0 (fun h j hj=>by
     rcases Nat.lt_or_ge j i with h1|h1
     ·exact HALL.out j h1
     ·obtain rfl:j=i:=by omega
      exact h)
    have YES:Hid (vI p r a inn i=true→outN p r a inn=(i:Int)):=zD0 (fun h=>outN_some (by rw[←HZ.out,HSN.out];exact hir) h HALL.out)
    clear hc0 hc1 ht hbe
    go_wp2_with fail
    refine(rlie_any _ (sid,spt,es) inn (i:Int) wr ⟨_,rfl,HES.out⟩).mono ?_
    rintro e w5 ⟨rfl,b1⟩
    have he0':=(b1.cell (zG he0)).trans he0
    clear he0 k0 k1 k2 k3 k4 k5 m0 m1 m2 m3 m4 m5 m6 x0 x1 x2
    have he0:=he0'
    clear he0'
    replace BV:=zD0 (BV.out.trans (b1.mono BV.out.size))
    replace XP:=zD0 ((b1.block _ (zA XP.out)).trans XP.out)
    replace XR:=zD0 ((b1.block _ (zA XR.out)).trans XR.out)
    replace X11:=zD0 ((b1.block _ (zA X11.out)).trans X11.out)
    replace HI:=zD0 ((HI.out.below b1).more b1.size)
    replace HR:=zD0 ((HR.out.below b1).more b1.size)
    have LIW:=zD0 ((LI.out.below qI b1).more qI b1.size)
    clear LI b1
    obtain⟨k0,k1,k2,k3,k4,k5⟩:=zE XP.out
    obtain⟨m0,m1,m2,m3,m4,m5,m6⟩:=zL XR.out
    obtain⟨x0,x1,x2⟩:=zC X11.out
    dsimp only
    by_cases hL:xG spt inn (i:Int)<0
    ·have hLd:decide (xG spt inn (i:Int)<0)=true:=decide_eq_true hL
     have NX:=zD0 (NXT.out (by rw[RB.out,decide_eq_false (by omega)];rfl))
     clear hL
     go_wp2_with fail
     go_roundw
     case measure=>simp[intOf];omega
     case rel=>exact⟨i+1,by omega,by go_num,NX.out,BV.out⟩
    have hLd:decide (xG spt inn (i:Int)<0)=false:=decide_eq_false hL
    have hL0:decide (0≤xG spt inn (i:Int))=true:=decide_eq_true (by omega)
    rw[hL0,Bool.true_and] at RB
    have hw3:IntKind.i64.wrap ((l3:Int)-1)=(l3:Int)-1:=kA (by omega) (by omega)
    clear hL hL0
    by_cases hp:a+1=r.path.length
    ·have hpd:((a:Int)==(l3:Int)-1)=true:=by have:=HL.out.1;simp;omega
     rw[if_pos hp] at RB
     clear hp
     go_upto_region 7 with fail
     clear hLd hw3 hpd
     by_cases h0:r.exit=0
     ·have d0:(r.exit==0)=true:=by simpa using h0
      have d1:(r.exit != 0)=false:=by simpa using h0
      by_cases h1:t0=0
      ·have d2:(t0==0)=true:=by simpa using h1
       have HF:=zD0 (YES.out (by rw[RB.out];exact decide_eq_true (Or.inl ⟨h0,h1⟩)))
       clear h0 h1
       refine wp_region_held_drew (S:=fun v=>Below w5.heap.size w5 v) (by kernel_rfl) (Below.refl w5.heap.size w5).drew (fun zD2=>?_)
       refine tk 0 zD2 ?_;refine tkc 1 zD2 (fun w' hSw=>zL ((hSw.block _ (zA XR.out)).trans XR.out)) ?_;refine tk 2 zD2 ?_;refine tk 3 zD2 ?_;refine tk 4 zD2 ?_;refine tkc 5 zD2 (fun w' hSw=>zC ((hSw.block _ (zA X11.out)).trans X11.out)) ?_;refine tk 6 zD2 ?_;refine tk 7 zD2 ?_;refine tk 8 zD2 ?_;refine tkc 9 zD2 (fun w' hSw=>(hSw.cell (zG he0)).trans he0) ?_;refine tk 10 zD2 ?_;refine tk 11 zD2 ?_;refine tk 12 zD2 ?_;refine tks 13 zD2 ?_;refine tks 14 zD2 ?_;refine tks 15 zD2 ?_;refine tks 16 zD2 ?_;refine tks 17 zD2 ?_;refine tks 18 zD2 ?_;refine tks 19 zD2 ?_;refine tks 20 zD2 ?_;refine tks 21 zD2 ?_;refine tks 22 zD2 ?_;refine tks 23 zD2 ?_;refine tks 24 zD2 ?_;refine tks 25 zD2 ?_;refine tk 26 zD2 ?_
       refine wpAnyH_done (by kernel_rfl) ?_ _
       have b1:=(Below.refl w5.heap.size w5).drew
       have tBV:=BV.out.trans (b1.mono BV.out.size)
       clear BV
       have BV:=zD0 tBV
       clear tBV b1
       have BT:=zD0 (BQ.out.trans ((BL.out.trans (BV.out.mono BL.out.size)).mono BQ.out.size))
       go_wp2_with fail
       go_ret
       exact⟨by rw[HF.out];rfl,BT.out⟩
      ·have d2:(t0==0)=false:=by simpa using h1
       have NX:=zD0 (NXT.out (by rw[RB.out];exact decide_eq_false (by rintro(h|h);exact h1 h.2;exact h.1 h0)))
       clear h0 h1
       refine wp_region_held_drew (S:=fun v=>Below w5.heap.size w5 v) (by kernel_rfl) (Below.refl w5.heap.size w5).drew (fun zD2=>?_)
       refine tk 0 zD2 ?_;refine tkc 1 zD2 (fun w' hSw=>zL ((hSw.block _ (zA XR.out)).trans XR.out)) ?_;refine tk 2 zD2 ?_;refine tk 3 zD2 ?_;refine tk 4 zD2 ?_;refine tkc 5 zD2 (fun w' hSw=>zC ((hSw.block _ (zA X11.out)).trans X11.out)) ?_;refine tk 6 zD2 ?_;refine tk 7 zD2 ?_;refine tk 8 zD2 ?_;refine tkc 9 zD2 (fun w' hSw=>(hSw.cell (zG he0)).trans he0) ?_;refine tk 10 zD2 ?_;refine tk 11 zD2 ?_;refine tk 12 zD2 ?_;refine tk 13 zD2 ?_;refine tkc 14 zD2 (fun w' hSw=>zL ((hSw.block _ (zA XR.out)).trans XR.out)) ?_;refine tk 15 zD2 ?_;refine tk 16 zD2 ?_;refine tks 17 zD2 ?_;refine tks 18 zD2 ?_;refine tks 19 zD2 ?_;refine tks 20 zD2 ?_;refine tks 21 zD2 ?_;refine tks 22 zD2 ?_;refine tks 23 zD2 ?_;refine tks 24 zD2 ?_;refine tk 25 zD2 ?_;refine tk 26 zD2 ?_
       refine wpAnyH_done (by kernel_rfl) ?_ _
       have b1:=(Below.refl w5.heap.size w5).drew
       have tBV:=BV.out.trans (b1.mono BV.out.size)
       clear BV
       have BV:=zD0 tBV
       clear tBV b1
       have BT:=zD0 (BQ.out.trans ((BL.out.trans (BV.out.mono BL.out.size)).mono BQ.out.size))
       go_wp2_with fail
       go_roundw
       case measure=>simp[intOf];omega
       case rel=>exact⟨i+1,by omega,by go_num,NX.out,BV.out⟩
     ·have d0:(r.exit==0)=false:=by simpa using h0
      have d1:(r.exit != 0)=true:=by simpa using h0
      by_cases h1:qJ p.sigs sid (i:Int)=r.exit
      ·have d2:(qJ p.sigs sid (i:Int)==r.exit)=true:=by simpa using h1
       have HF:=zD0 (YES.out (by rw[RB.out];exact decide_eq_true (Or.inr ⟨h0,h1⟩)))
       clear h0 h1
       refine wp_region_held_drew (S:=fun v=>Below w5.heap.size w5 v) (by kernel_rfl) (Below.refl w5.heap.size w5).drew (fun zD2=>?_)
       refine tk 0 zD2 ?_;refine tkc 1 zD2 (fun w' hSw=>zL ((hSw.block _ (zA XR.out)).trans XR.out)) ?_;refine tk 2 zD2 ?_;refine tk 3 zD2 ?_;refine tks 4 zD2 ?_;refine tks 5 zD2 ?_;refine tks 6 zD2 ?_;refine tks 7 zD2 ?_;refine tks 8 zD2 ?_;refine tks 9 zD2 ?_;refine tks 10 zD2 ?_;refine tk 11 zD2 ?_;refine tk 12 zD2 ?_;refine tk 13 zD2 ?_;refine tkc 14 zD2 (fun w' hSw=>zL ((hSw.block _ (zA XR.out)).trans XR.out)) ?_;refine tk 15 zD2 ?_;refine tk 16 zD2 ?_;refine tkc 17 zD2 (fun w' hSw=>zE ((hSw.block _ (zA XP.out)).trans XP.out)) ?_;refine tk 18 zD2 ?_;refine tkc 19 zD2 (fun w' hSw=>zC ((hSw.block _ (zA X11.out)).trans X11.out)) ?_;refine tk 20 zD2 ?_;refine tk 22 zD2 ?_;refine tkc 23 zD2 (fun w' hSw=>zL ((hSw.block _ (zA XR.out)).trans XR.out)) ?_
       refine tkr 21 (fun K hK=>?_)
       rw[if_pos (by rfl)]
       go_simp
       refine(rat8_any _ p sid (i:Int) w5.drew ⟨_,_,_,_,rfl,HI.out.below (Below.refl w5.heap.size w5).drew⟩).mono ?_
       rintro e wA ⟨rfl,bA⟩
       have SA:Hid (Below w5.heap.size w5 wA):=zD0 ((Below.refl w5.heap.size w5).drew.trans bA)
       clear bA
       try go_wp2_with fail
       refine hK.out _ _ ?_ fun zD2=>?_;exact SA.out;clear hK K;try simp only[zn,Act.put]
       refine tk 24 zD2 ?_;refine tk 25 zD2 ?_;refine tk 26 zD2 ?_
       refine wpAnyH_done (by kernel_rfl) ?_ _
       have b1:=SA.out
       have tBV:=BV.out.trans (b1.mono BV.out.size)
       clear BV
       have BV:=zD0 tBV
       clear tBV b1
       have BT:=zD0 (BQ.out.trans ((BL.out.trans (BV.out.mono BL.out.size)).mono BQ.out.size))
       go_wp2_with fail
       go_ret
       exact⟨by rw[HF.out];rfl,BT.out⟩
      ·have d2:(qJ p.sigs sid (i:Int)==r.exit)=false:=by simpa using h1
       have NX:=zD0 (NXT.out (by rw[RB.out];exact decide_eq_false (by rintro(h|h);exact h0 h.1;exact h1 h.2)))
       clear h0 h1
       refine wp_region_held_drew (S:=fun v=>Below w5.heap.size w5 v) (by kernel_rfl) (Below.refl w5.heap.size w5).drew (fun zD2=>?_)
       refine tk 0 zD2 ?_;refine tkc 1 zD2 (fun w' hSw=>zL ((hSw.block _ (zA XR.out)).trans XR.out)) ?_;refine tk 2 zD2 ?_;refine tk 3 zD2 ?_;refine tks 4 zD2 ?_;refine tks 5 zD2 ?_;refine tks 6 zD2 ?_;refine tks 7 zD2 ?_;refine tks 8 zD2 ?_;refine tks 9 zD2 ?_;refine tks 10 zD2 ?_;refine tk 11 zD2 ?_;refine tk 12 zD2 ?_;refine tk 13 zD2 ?_;refine tkc 14 zD2 (fun w' hSw=>zL ((hSw.block _ (zA XR.out)).trans XR.out)) ?_;refine tk 15 zD2 ?_;refine tk 16 zD2 ?_;refine tkc 17 zD2 (fun w' hSw=>zE ((hSw.block _ (zA XP.out)).trans XP.out)) ?_;refine tk 18 zD2 ?_;refine tkc 19 zD2 (fun w' hSw=>zC ((hSw.block _ (zA X11.out)).trans X11.out)) ?_;refine tk 20 zD2 ?_;refine tk 22 zD2 ?_;refine tkc 23 zD2 (fun w' hSw=>zL ((hSw.block _ (zA XR.out)).trans XR.out)) ?_
       refine tkr 21 (fun K hK=>?_)
       rw[if_pos (by rfl)]
       go_simp
       refine(rat8_any _ p sid (i:Int) w5.drew ⟨_,_,_,_,rfl,HI.out.below (Below.refl w5.heap.size w5).drew⟩).mono ?_
       rintro e wA ⟨rfl,bA⟩
       have SA:Hid (Below w5.heap.size w5 wA):=zD0 ((Below.refl w5.heap.size w5).drew.trans bA)
       clear bA
       try go_wp2_with fail
       refine hK.out _ _ ?_ fun zD2=>?_;exact SA.out;clear hK K;try simp only[zn,Act.put]
       refine tk 24 zD2 ?_;refine tk 25 zD2 ?_;refine tk 26 zD2 ?_
       refine wpAnyH_done (by kernel_rfl) ?_ _
       have b1:=SA.out
       have tBV:=BV.out.trans (b1.mono BV.out.size)
       clear BV
       have BV:=zD0 tBV
       clear tBV b1
       have BT:=zD0 (BQ.out.trans ((BL.out.trans (BV.out.mono BL.out.size)).mono BQ.out.size))
       go_wp2_with fail
       go_roundw
       case measure=>simp[intOf];omega
       case rel=>exact⟨i+1,by omega,by go_num,NX.out,BV.out⟩
    ·have hpd:((a:Int)==(l3:Int)-1)=false:=by have:=HL.out.1;simp;omega
     rw[if_neg hp] at RB
     have h1r:a+1<(zS r).length:=by rcases HNX.out with h|h;exact absurd h hp;exact h
     obtain⟨bl,ofl,e2,hbl,hc0⟩:=LIW.out.at h1r
     obtain⟨z2,hz2⟩:=zD1 ((zS r).getD (a+1) 0)
     rw[←hz2] at RB
     have hl1:w5.cell? ⟨bl,ofl+(a+1),none⟩=some (.int .i64 z2):=by rw[hz2,List.getD,List.getElem?_eq_getElem h1r];simpa [jU] using hc0
     cases e2
     have hwa:IntKind.i64.wrap ((a:Int)+1)=((a+1:Nat):Int):=by rw[kA (by omega) (by have:=HRI.out.len;omega)];omega
     have hal1:((a+1:Nat):Int)<nl:=by have:=HNL.out;omega
     have BD:Hid (∀nq,Below wc.heap.size wc (w5.drewN nq)):=zD0 (fun nq=>⟨BV.out.os,BV.out.tape,BV.out.output,BV.out.size,BV.out.block⟩)
     clear hp hc0 hz2 hbl
     go_upto_region 9 with fail
     by_cases h1:t0=z2
     ·have d1:(t0==z2)=true:=by simpa using h1
      have HF:=zD0 (YES.out (by rw[RB.out];exact decide_eq_true h1))
      clear h1
      go_quiet (fail)
      have hdb:=BD.out nq
      generalize w5.drewN nq=q7 at hdb⊢
      have BT:=zD0 (BQ.out.trans ((BL.out.trans (hdb.mono BL.out.size)).mono BQ.out.size))
      clear hdb BD hl1 k0 k1 k2 k3 k4 k5 m0 m1 m2 m3 m4 m5 m6 x0 x1 x2 he0
      go_wp2_with fail
      go_ret
      exact⟨by rw[HF.out];rfl,BT.out⟩
     ·have d1:(t0==z2)=false:=by simpa using h1
      have NX:=zD0 (NXT.out (by rw[RB.out];exact decide_eq_false h1))
      clear h1
      go_quiet (fail)
      have hdb:=BD.out nq
      generalize w5.drewN nq=q7 at hdb⊢
      clear BV
      have BV:=zD0 hdb
      clear hdb BD hl1 k0 k1 k2 k3 k4 k5 m0 m1 m2 m3 m4 m5 m6 x0 x1 x2 he0
      go_wp2_with fail
      go_roundw
      case measure=>simp[intOf];omega
      case rel=>exact⟨i+1,by omega,by go_num,NX.out,BV.out⟩
   ·obtain rfl:ne=i:=by omega
    have hlt':¬(ne:Int)<ne:=by omega
    have HF:Hid (outN p r a inn = -1):=zD0 (outN_none fun j hj=>HALL.out j (by rw[HNE.out];have h2:=hj;rw[←HZ.out,HSN.out] at h2;exact h2))
    have BT:=zD0 (BQ.out.trans ((BL.out.trans (BV.out.mono BL.out.size)).mono BQ.out.size))
    go_wp2_with fail
    go_ret
    exact⟨by rw[HF.out];rfl,BT.out⟩
end Go.Proofs.YtemmgmjhomgbbaaGreat
