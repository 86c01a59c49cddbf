/-
 The program's package state: Check, Holder, Asked.
 Conditions: none.
-/
import Derived.Test.YtemmgmjhomgbbaaGreatUStaPG
set_option linter.unusedVariables false
set_option linter.unusedSimpArgs false
set_option maxRecDepth 100000
namespace Go.Proofs.YtemmgmjhomgbbaaGreat
open Go.RowKit
theorem holclo_any (a pt:Int) (B3:Option Addr) (m3 d3:Nat) (id:Int) (ps:Nat) (w:World) (hs:w.heap[ps]? = some (.cells #[.int .i64 id] 3 (0,0))):
  Calls Tryz.prog 26 #[.agg #[.int .i64 a,.int .i64 pt,.slice B3 m3 d3],.pointer (some ⟨ps,0,none⟩)] w fun e w'=>e = .returned (.bool (a==id))∧Below w.heap.size w w':=by
 have x0:=zB w (.cells #[.int .i64 a,.int .i64 pt,.slice B3 m3 d3] 60)
 have b0:=zD w (.cells #[.int .i64 a,.int .i64 pt,.slice B3 m3 d3] 60)
 have f0:(w.alloc (.cells #[.int .i64 a,.int .i64 pt,.slice B3 m3 d3] 60)).cell? ⟨ps,0,none⟩=some (.int .i64 id):=cell_of_row _ _ _ _ _ _ ((b0.block _ (zA hs)).trans hs)
 have BB:=zD0 b0
 go_enter Tryz.func26,Tryz.ntmps26
 go_upto_region 1 with fail
 generalize w.alloc (.cells #[.int .i64 a,.int .i64 pt,.slice B3 m3 d3] 60)=q at x0 f0 BB⊢
 obtain⟨k0,k1,k2⟩:=zC x0
 clear x0 b0 hs
 go_wp2_with fail
 go_ret
 exact⟨rfl,BB.out⟩
set_option maxHeartbeats 4000000 in
theorem holidx_any (v:Value) (l:List Sec) (id:Int) (ps:Nat) (w:World) (h:zX w w.heap.size v l) (hs:w.heap[ps]? = some (.cells #[.int .i64 id] 3 (0,0))):
  Calls Tryz.prog 51 #[v,.func (.func 26) #[] #[.pointer (some ⟨ps,0,none⟩)]] w fun e w'=>e = .returned (.int .i64 (at1 (fun x:Sec=>x.1) l id))∧Below w.heap.size w w':=by
 have H:=zD0 h
 have XS0:=zD0 hs
 obtain⟨A,c,rfl,hcl,hcm⟩:=h.slice
 have hml:l.length≤9223372036854775807:=by unfold maxLen at hcm;omega
 obtain⟨n,hn⟩:=zD1 (l.length)
 have HN:=zD0 hn
 have HA:=zD0 (show zX w w.heap.size (.slice A n c) l by rw[hn];exact H.out)
 rw[←hn] at hml⊢
 obtain⟨R,hR⟩:=zD1 (at1 (fun x:Sec=>x.1) l id)
 have HR:=zD0 hR
 rw[←hR]
 clear hR hn H hcl hcm h hs
 go_enter Tryz.func51,Tryz.ntmps51
 go_wp2_with fail
 go_loopw [8] (fun s8 wr=>∃i:Nat,i≤n∧s8 = .int .i64 i∧(∀j (hj:j<i) (hl:j<l.length),l[j].1≠id)∧Below w.heap.size w wr) (fun s8 _=>n-(intOf s8).toNat)
 case atStart=>exact⟨0,by omega,by go_num,fun j hj=>absurd hj (by omega),Below.refl _ _⟩
 case round=>
  obtain⟨i,hi,rfl,hall,hb⟩:=hrel
  have HALL:=zD0 hall
  have BW:=zD0 hb
  clear hall hb
  by_cases hlt:i<n
  ·have hlt':(i:Int)<n:=by omega
   have hir:i<l.length:=by rw[←HN.out];exact hlt
   obtain⟨bk,off,rfl,hbk,hc0,hc1,u,hc2,hu⟩:=((HA.out.below zN BW.out).more zN BW.out.size).at hir
   obtain⟨B3,d3,rfl,hu1,hu2⟩:=hu.slice
   obtain⟨a,pt,es,hx⟩:∃a pt es,l[i]=(a,pt,es):=⟨_,_,_,rfl⟩
   have HX:=zD0 hx
   rw[hx] at hc0 hc1 hc2
   dsimp only at hc0 hc1 hc2
   obtain⟨m3,e3⟩:=zD1 (es.length)
   rw[←e3] at hc2
   have hg0:wr.cell? ⟨bk,off+i*3,none⟩=some (.int .i64 a):=hc0
   have hg1:wr.cell? ⟨bk,off+i*3+1,none⟩=some (.int .i64 pt):=hc1
   have hg2:wr.cell? ⟨bk,off+i*3+2,none⟩=some (.slice B3 m3 d3):=hc2
   clear hc0 hc1 hc2 hx hbk hu hu1 hu2 e3
   have XS:=zD0 ((BW.out.block _ (zA XS0.out)).trans XS0.out)
   go_wp2_with fail
   refine(holclo_any a pt B3 m3 d3 id ps wr XS.out).mono ?_
   rintro e w1 ⟨rfl,b1⟩
   have B1:=zD0 (BW.out.trans (b1.mono BW.out.size))
   clear b1 hg0 hg1 hg2
   by_cases he:a=id
   ·have hd:(a==id)=true:=by simpa using he
    have HQ:Hid (R=(i:Int)):=zD0 (HR.out.trans (vT hir (by rw[HX.out];exact he) (fun j hj=>HALL.out j hj (by omega))))
    clear he
    go_wp2_with fail
    go_ret
    exact⟨by rw[HQ.out];rfl,B1.out⟩
   ·have hd:(a==id)=false:=by simpa using he
    have NX:Hid (∀j (hj:j<i+1) (hl:j<l.length),l[j].1≠id):=zD0 (fun j hj hl=>by
     rcases Nat.lt_or_ge j i with h|h
     ·exact HALL.out j h hl
     ·obtain rfl:j=i:=by omega
      rw[HX.out];exact he)
    clear he
    go_wp2_with fail
    go_roundw
    case measure=>simp[intOf];omega
    case rel=>exact⟨i+1,by omega,by go_num,NX.out,B1.out⟩
  ·obtain rfl:i=n:=by omega
   have hlt':¬(i:Int)<i:=by omega
   have HQ:Hid (R = -1):=zD0 (HR.out.trans (yM fun j hj=>HALL.out j (by rw[HN.out];exact hj) hj))
   go_wp2_with fail
   go_ret
   exact⟨by rw[HQ.out];rfl,BW.out⟩
theorem holcon_any (v:Value) (l:List Sec) (id:Int) (ps:Nat) (w:World) (h:zX w w.heap.size v l) (hs:w.heap[ps]? = some (.cells #[.int .i64 id] 3 (0,0))):
  Calls Tryz.prog 25 #[v,.func (.func 26) #[] #[.pointer (some ⟨ps,0,none⟩)]] w fun e w'=>e = .returned (.bool (decide (id∈l.map (fun x:Sec=>x.1))))∧Below w.heap.size w w':=by
 have H:=zD0 h
 have XS:=zD0 hs
 obtain⟨A,c,rfl,-,-⟩:=h.slice
 obtain⟨n,hn⟩:=zD1 (l.length)
 rw[←hn] at H⊢
 have HG:Hid (decide (0≤at1 (fun x:Sec=>x.1) l id)=decide (id∈l.map (fun x:Sec=>x.1))):=zD0 (decide_eq_decide.2 ⟨fun g=>zBh g,fun g=>by obtain⟨j,-,e,-⟩:=zCk g;omega⟩)
 clear h hs hn
 generalize decide (id∈l.map (fun x:Sec=>x.1))=g at HG⊢
 go_enter Tryz.func25,Tryz.ntmps25
 go_wp2_with fail
 refine(holidx_any _ l id ps w H.out XS.out).mono ?_
 rintro e w1 ⟨rfl,b1⟩
 have B1:=zD0 b1
 have hr':=HG.out
 generalize at1 (fun x:Sec=>x.1) l id=r at hr'⊢
 clear b1 HG
 go_wp2_with fail
 go_ret
 exact⟨rfl,B1.out⟩
theorem askclo_any (a b:Int) (id:Int) (ps:Nat) (w:World) (hs:w.heap[ps]? = some (.cells #[.int .i64 id] 3 (0,0))):
  Calls Tryz.prog 30 #[.agg #[.int .i64 a,.int .i64 b],.pointer (some ⟨ps,0,none⟩)] w fun e w'=>e = .returned (.bool (a==id))∧Below w.heap.size w w':=by
 have x0:=zB w (.cells #[.int .i64 a,.int .i64 b] 67)
 have b0:=zD w (.cells #[.int .i64 a,.int .i64 b] 67)
 have f0:(w.alloc (.cells #[.int .i64 a,.int .i64 b] 67)).cell? ⟨ps,0,none⟩=some (.int .i64 id):=cell_of_row _ _ _ _ _ _ ((b0.block _ (zA hs)).trans hs)
 have BB:=zD0 b0
 go_enter Tryz.func30,Tryz.ntmps30
 go_upto_region 1 with fail
 generalize w.alloc (.cells #[.int .i64 a,.int .i64 b] 67)=q at x0 f0 BB⊢
 obtain⟨k0,k1⟩:=zI x0
 clear x0 b0 hs
 go_wp2_with fail
 go_ret
 exact⟨rfl,BB.out⟩
set_option maxHeartbeats 4000000 in
theorem askidx_any (v:Value) (l:List Jn) (id:Int) (ps:Nat) (w:World) (h:zT w w.heap.size v l) (hs:w.heap[ps]? = some (.cells #[.int .i64 id] 3 (0,0))):
  Calls Tryz.prog 53 #[v,.func (.func 30) #[] #[.pointer (some ⟨ps,0,none⟩)]] w fun e w'=>e = .returned (.int .i64 (at1 (fun x:Jn=>x.1) l id))∧Below w.heap.size w w':=by
 have H:=zD0 h
 have XS0:=zD0 hs
 obtain⟨A,c,rfl,hcl,hcm⟩:=h.slice
 have hml:l.length≤9223372036854775807:=by unfold maxLen at hcm;omega
 obtain⟨n,hn⟩:=zD1 (l.length)
 have HN:=zD0 hn
 have HA:=zD0 (show zT w w.heap.size (.slice A n c) l by rw[hn];exact H.out)
 rw[←hn] at hml⊢
 obtain⟨R,hR⟩:=zD1 (at1 (fun x:Jn=>x.1) l id)
 have HR:=zD0 hR
 rw[←hR]
 clear hR hn H hcl hcm h hs
 go_enter Tryz.func53,Tryz.ntmps53
 go_wp2_with fail
 go_loopw [8] (fun s8 wr=>∃i:Nat,i≤n∧s8 = .int .i64 i∧(∀j (hj:j<i) (hl:j<l.length),l[j].1≠id)∧Below w.heap.size w wr) (fun s8 _=>n-(intOf s8).toNat)
 case atStart=>exact⟨0,by omega,by go_num,fun j hj=>absurd hj (by omega),Below.refl _ _⟩
 case round=>
  obtain⟨i,hi,rfl,hall,hb⟩:=hrel
  have HALL:=zD0 hall
  have BW:=zD0 hb
  clear hall hb
  by_cases hlt:i<n
  ·have hlt':(i:Int)<n:=by omega
   have hir:i<l.length:=by rw[←HN.out];exact hlt
   obtain⟨bk,off,rfl,hbk,hc0,hc1⟩:=((HA.out.below zM BW.out).more zM BW.out.size).at hir
   obtain⟨a,b,hx⟩:∃a b,l[i]=(a,b):=⟨_,_,rfl⟩
   have HX:=zD0 hx
   rw[hx] at hc0 hc1
   dsimp only at hc0 hc1
   have hg0:wr.cell? ⟨bk,off+i*2,none⟩=some (.int .i64 a):=hc0
   have hg1:wr.cell? ⟨bk,off+i*2+1,none⟩=some (.int .i64 b):=hc1
   clear hc0 hc1 hx hbk
   have XS:=zD0 ((BW.out.block _ (zA XS0.out)).trans XS0.out)
   go_wp2_with fail
   refine(askclo_any a b id ps wr XS.out).mono ?_
   rintro e w1 ⟨rfl,b1⟩
   have B1:=zD0 (BW.out.trans (b1.mono BW.out.size))
   clear b1 hg0 hg1
   by_cases he:a=id
   ·have hd:(a==id)=true:=by simpa using he
    have HQ:Hid (R=(i:Int)):=zD0 (HR.out.trans (vT hir (by rw[HX.out];exact he) (fun j hj=>HALL.out j hj (by omega))))
    clear he
    go_wp2_with fail
    go_ret
    exact⟨by rw[HQ.out];rfl,B1.out⟩
   ·have hd:(a==id)=false:=by simpa using he
    have NX:Hid (∀j (hj:j<i+1) (hl:j<l.length),l[j].1≠id):=zD0 (fun j hj hl=>by
     rcases Nat.lt_or_ge j i with h|h
     ·exact HALL.out j h hl
     ·obtain rfl:j=i:=by omega
      rw[HX.out];exact he)
    clear he
    go_wp2_with fail
    go_roundw
    case measure=>simp[intOf];omega
    case rel=>exact⟨i+1,by omega,by go_num,NX.out,B1.out⟩
  ·obtain rfl:i=n:=by omega
   have hlt':¬(i:Int)<i:=by omega
   have HQ:Hid (R = -1):=zD0 (HR.out.trans (yM fun j hj=>HALL.out j (by rw[HN.out];exact hj) hj))
   go_wp2_with fail
   go_ret
   exact⟨by rw[HQ.out];rfl,BW.out⟩
theorem askcon_any (v:Value) (l:List Jn) (id:Int) (ps:Nat) (w:World) (h:zT w w.heap.size v l) (hs:w.heap[ps]? = some (.cells #[.int .i64 id] 3 (0,0))):
  Calls Tryz.prog 29 #[v,.func (.func 30) #[] #[.pointer (some ⟨ps,0,none⟩)]] w fun e w'=>e = .returned (.bool (decide (id∈l.map (fun x:Jn=>x.1))))∧Below w.heap.size w w':=by
 have H:=zD0 h
 have XS:=zD0 hs
 obtain⟨A,c,rfl,-,-⟩:=h.slice
 obtain⟨n,hn⟩:=zD1 (l.length)
 rw[←hn] at H⊢
 have HG:Hid (decide (0≤at1 (fun x:Jn=>x.1) l id)=decide (id∈l.map (fun x:Jn=>x.1))):=zD0 (decide_eq_decide.2 ⟨fun g=>zBh g,fun g=>by obtain⟨j,-,e,-⟩:=zCk g;omega⟩)
 clear h hs hn
 generalize decide (id∈l.map (fun x:Jn=>x.1))=g at HG⊢
 go_enter Tryz.func29,Tryz.ntmps29
 go_wp2_with fail
 refine(askidx_any _ l id ps w H.out XS.out).mono ?_
 rintro e w1 ⟨rfl,b1⟩
 have B1:=zD0 b1
 have hr':=HG.out
 generalize at1 (fun x:Jn=>x.1) l id=r at hr'⊢
 clear b1 HG
 go_wp2_with fail
 go_ret
 exact⟨rfl,B1.out⟩
set_option maxHeartbeats 8000000 in
theorem check15_any (hs:zBy) (v y:Value) (p:Pl) (s:qD) (w:World) (h:qF w w.heap.size v p) (h':qL w w.heap.size y s):
  Calls Tryz.prog 17 #[v,y] w fun e w'=>e = .returned (.int .i64 (kI p s))∧Below w.heap.size w w':=by
 obtain⟨p2,p3,p4,p5,rfl,h⟩:=h
 obtain⟨A2,a2,rfl,-,-⟩:=h.secs.slice
 obtain⟨b2,hb2⟩:=zD1 (p.secs.length)
 have P2:Hid (zX w w.heap.size (.slice A2 b2 a2) p.secs):=zD0 (by rw[hb2];exact h.secs)
 rw[←hb2]
 clear hb2
 obtain⟨A3,a3,rfl,-,-⟩:=h.pts.slice
 obtain⟨b3,hb3⟩:=zD1 (p.pts.length)
 have P3:Hid (zT w w.heap.size (.slice A3 b3 a3) p.pts):=zD0 (by rw[hb3];exact h.pts)
 rw[←hb3]
 clear hb3
 obtain⟨A4,a4,rfl,-,-⟩:=h.sigs.slice
 obtain⟨b4,hb4⟩:=zD1 (p.sigs.length)
 have P4:Hid (xI w w.heap.size (.slice A4 b4 a4) p.sigs):=zD0 (by rw[hb4];exact h.sigs)
 rw[←hb4]
 clear hb4
 obtain⟨A5,a5,rfl,-,-⟩:=h.routes.slice
 obtain⟨b5,hb5⟩:=zD1 (p.routes.length)
 have P5:Hid (qX w w.heap.size (.slice A5 b5 a5) p.routes):=zD0 (by rw[hb5];exact h.routes)
 rw[←hb5]
 clear hb5
 clear h
 obtain⟨_,_,_,rfl,h'⟩:=h'
 obtain⟨S0,Sc0,rfl,-,-⟩:=h'.tr.slice
 obtain⟨Sn0,hS0⟩:=zD1 (s.tr.length)
 have HS0:Hid (jD w w.heap.size (.slice S0 Sn0 Sc0) s.tr):=zD0 (by rw[hS0];exact h'.tr)
 rw[←hS0]
 clear hS0
 obtain⟨S1,Sc1,rfl,-,-⟩:=h'.sw.slice
 obtain⟨Sn1,hS1⟩:=zD1 (s.sw.length)
 have HS1:Hid (xP w w.heap.size (.slice S1 Sn1 Sc1) s.sw):=zD0 (by rw[hS1];exact h'.sw)
 rw[←hS1]
 clear hS1
 obtain⟨S2,Sc2,rfl,-,-⟩:=h'.lk.slice
 obtain⟨Sn2,hS2⟩:=zD1 (s.lk.length)
 have HS2:Hid (xO w w.heap.size (.slice S2 Sn2 Sc2) s.lk):=zD0 (by rw[hS2];exact h'.lk)
 rw[←hS2]
 clear hS2
 clear h'
 have PV:Hid (∀W,Below w.heap.size w W→qF W W.heap.size (.agg #[.int .i64 p.ver,.int .i64 p.par,.slice A2 b2 a2,.slice A3 b3 a3,.slice A4 b4 a4,.slice A5 b5 a5]) p):=zD0 (fun W b=>⟨_,_,_,_,rfl,⟨(P2.out.below zN b).more zN b.size,(P3.out.below zM b).more zM b.size,(P4.out.below zP b).more zP b.size,(P5.out.below qM b).more qM b.size⟩⟩)
 have SV:Hid (∀W,Below w.heap.size w W→qL W W.heap.size (.agg #[.slice S0 Sn0 Sc0,.slice S1 Sn1 Sc1,.slice S2 Sn2 Sc2]) s):=zD0 (fun W b=>⟨_,_,_,rfl,⟨(HS0.out.below xY b).more xY b.size,(HS1.out.below zP b).more zP b.size,(HS2.out.below xQ b).more xQ b.size⟩⟩)
 clear HS0 HS1 HS2
 obtain⟨hx,hy,hqb⟩:=zV w (.cells #[.int .i64 p.ver,.int .i64 p.par,.slice A2 b2 a2,.slice A3 b3 a3,.slice A4 b4 a4,.slice A5 b5 a5] 27) (.cells #[.slice S0 Sn0 Sc0,.slice S1 Sn1 Sc1,.slice S2 Sn2 Sc2] 32)
 go_enter Tryz.func17,Tryz.ntmps17
 go_upto_region 1 with fail
 generalize (w.alloc (.cells #[.int .i64 p.ver,.int .i64 p.par,.slice A2 b2 a2,.slice A3 b3 a3,.slice A4 b4 a4,.slice A5 b5 a5] 27)).alloc (.cells #[.slice S0 Sn0 Sc0,.slice S1 Sn1 Sc1,.slice S2 Sn2 Sc2] 32)=q at hx hy hqb⊢
 have BQ:=zD0 hqb
 obtain⟨k0,k1,k2,k3,k4,k5⟩:=zE hx
 obtain⟨j0,j1,j2⟩:=zC hy
 clear hx hy hqb P2 P3 P4 P5
 go_wp2_with fail
 refine(zDf hs _ _ p s q (PV.out q BQ.out) (SV.out q BQ.out)).mono ?_
 rintro e w1 ⟨⟨c0,c1,rfl,-⟩,b1⟩
 have BL:Hid (Below w.heap.size w (w1.alloc (.cells #[.map c0,.map c1] 70))):=zD0 ((BQ.out.trans (b1.mono BQ.out.size)).trans ((zD w1 _).mono (Nat.le_trans BQ.out.size b1.size)))
 clear b1 k0 k1 k2 k3 k4 k5 j0 j1 j2
 go_wp2_with fail
 go_ret
 exact⟨rfl,BL.out⟩
set_option maxHeartbeats 8000000 in
theorem holder15_any (hs:zBy) (v y:Value) (p:Pl) (s:qD) (id:Int) (w:World) (h:qF w w.heap.size v p) (h':qL w w.heap.size y s):
  Calls Tryz.prog 10 #[v,y,.int .i64 id] w fun e w'=>e = .returned (.tuple #[.int .i64 (whoV p s id),.int .i64 (whoE p s id)])∧Below w.heap.size w w':=by
 obtain⟨p2,p3,p4,p5,rfl,h⟩:=h
 obtain⟨A2,a2,rfl,-,-⟩:=h.secs.slice
 obtain⟨b2,hb2⟩:=zD1 (p.secs.length)
 have P2:Hid (zX w w.heap.size (.slice A2 b2 a2) p.secs):=zD0 (by rw[hb2];exact h.secs)
 rw[←hb2]
 clear hb2
 obtain⟨A3,a3,rfl,-,-⟩:=h.pts.slice
 obtain⟨b3,hb3⟩:=zD1 (p.pts.length)
 have P3:Hid (zT w w.heap.size (.slice A3 b3 a3) p.pts):=zD0 (by rw[hb3];exact h.pts)
 rw[←hb3]
 clear hb3
 obtain⟨A4,a4,rfl,-,-⟩:=h.sigs.slice
 obtain⟨b4,hb4⟩:=zD1 (p.sigs.length)
 have P4:Hid (xI w w.heap.size (.slice A4 b4 a4) p.sigs):=zD0 (by rw[hb4];exact h.sigs)
 rw[←hb4]
 clear hb4
 obtain⟨A5,a5,rfl,-,-⟩:=h.routes.slice
 obtain⟨b5,hb5⟩:=zD1 (p.routes.length)
 have P5:Hid (qX w w.heap.size (.slice A5 b5 a5) p.routes):=zD0 (by rw[hb5];exact h.routes)
 rw[←hb5]
 clear hb5
 clear h
 obtain⟨_,_,_,rfl,h'⟩:=h'
 obtain⟨S0,Sc0,rfl,-,-⟩:=h'.tr.slice
 obtain⟨Sn0,hS0⟩:=zD1 (s.tr.length)
 have HS0:Hid (jD w w.heap.size (.slice S0 Sn0 Sc0) s.tr):=zD0 (by rw[hS0];exact h'.tr)
 rw[←hS0]
 clear hS0
 obtain⟨S1,Sc1,rfl,-,-⟩:=h'.sw.slice
 obtain⟨Sn1,hS1⟩:=zD1 (s.sw.length)
 have HS1:Hid (xP w w.heap.size (.slice S1 Sn1 Sc1) s.sw):=zD0 (by rw[hS1];exact h'.sw)
 rw[←hS1]
 clear hS1
 obtain⟨S2,Sc2,rfl,-,-⟩:=h'.lk.slice
 obtain⟨Sn2,hS2⟩:=zD1 (s.lk.length)
 have HS2:Hid (xO w w.heap.size (.slice S2 Sn2 Sc2) s.lk):=zD0 (by rw[hS2];exact h'.lk)
 rw[←hS2]
 clear hS2
 clear h'
 have PV:Hid (∀W,Below w.heap.size w W→qF W W.heap.size (.agg #[.int .i64 p.ver,.int .i64 p.par,.slice A2 b2 a2,.slice A3 b3 a3,.slice A4 b4 a4,.slice A5 b5 a5]) p):=zD0 (fun W b=>⟨_,_,_,_,rfl,⟨(P2.out.below zN b).more zN b.size,(P3.out.below zM b).more zM b.size,(P4.out.below zP b).more zP b.size,(P5.out.below qM b).more qM b.size⟩⟩)
 have SV:Hid (∀W,Below w.heap.size w W→qL W W.heap.size (.agg #[.slice S0 Sn0 Sc0,.slice S1 Sn1 Sc1,.slice S2 Sn2 Sc2]) s):=zD0 (fun W b=>⟨_,_,_,rfl,⟨(HS0.out.below xY b).more xY b.size,(HS1.out.below zP b).more zP b.size,(HS2.out.below xQ b).more xQ b.size⟩⟩)
 clear HS0 HS1 HS2
 obtain⟨hx,hy,hz,hqb⟩:=vK w (.cells #[.int .i64 p.ver,.int .i64 p.par,.slice A2 b2 a2,.slice A3 b3 a3,.slice A4 b4 a4,.slice A5 b5 a5] 27) (.cells #[.slice S0 Sn0 Sc0,.slice S1 Sn1 Sc1,.slice S2 Sn2 Sc2] 32) (.cells #[.int .i64 id] 3)
 go_enter Tryz.func10,Tryz.ntmps10
 go_upto_region 1 with fail
 generalize ((w.alloc (.cells #[.int .i64 p.ver,.int .i64 p.par,.slice A2 b2 a2,.slice A3 b3 a3,.slice A4 b4 a4,.slice A5 b5 a5] 27)).alloc (.cells #[.slice S0 Sn0 Sc0,.slice S1 Sn1 Sc1,.slice S2 Sn2 Sc2] 32)).alloc (.cells #[.int .i64 id] 3)=q at hx hy hz hqb⊢
 have BQ:=zD0 hqb
 have X:=zD0 hx
 have I:=zD0 hz
 obtain⟨k0,k1,k2,k3,k4,k5⟩:=zE hx
 obtain⟨j0,j1,j2⟩:=zC hy
 clear hx hy hz hqb
 go_wp2_with fail
 refine(zDf hs _ _ p s q (PV.out q BQ.out) (SV.out q BQ.out)).mono ?_
 rintro e w1 ⟨⟨c0,c1,rfl,CP⟩,b1⟩
 have bn:=zD w1 (.cells #[.map c0,.map c1] 70)
 have xn:=zB w1 (.cells #[.map c0,.map c1] 70)
 have BL:Hid (Below w.heap.size w (w1.alloc (.cells #[.map c0,.map c1] 70))):=zD0 ((BQ.out.trans (b1.mono BQ.out.size)).trans (bn.mono (Nat.le_trans BQ.out.size b1.size)))
 have X1:=zD0 ((bn.block _ (Nat.lt_of_lt_of_le (zA X.out) b1.size)).trans ((b1.block _ (zA X.out)).trans X.out))
 have I1:=zD0 ((bn.block _ (Nat.lt_of_lt_of_le (zA I.out) b1.size)).trans ((b1.block _ (zA I.out)).trans I.out))
 have CN:Hid (ClmP p s (w1.alloc (.cells #[.map c0,.map c1] 70)) c0 c1):=zD0 (fun h=>by
  obtain⟨m1,m2,es,fs,e0,e1,g1,g2,g3⟩:=CP.out h
  exact⟨m1,m2,es,fs,e0,e1,(bn.block _ g1.lt).trans g1,(bn.block _ g2.lt).trans g2,g3⟩)
 have XN:=zD0 xn
 clear b1 k0 k1 k2 k3 k4 k5 j0 j1 j2 bn xn CP X I BQ
 obtain⟨E,hE⟩:=zD1 (kI p s)
 have HE:=zD0 hE
 rw[←hE]
 clear hE
 go_upto_region 2 with fail
 generalize w1.alloc (.cells #[.map c0,.map c1] 70)=q2 at BL X1 I1 CN XN⊢
 generalize w1.heap.size=pc at XN⊢
 by_cases h0:E=0
 rotate_left
 ·have h0':(E != 0)=true:=by simpa using h0
  have HR:Hid (whoE p s id=E∧whoV p s id=0):=zD0 (by
   have e1:whoE p s id=E:=by rw[whoE,←HE.out,if_neg h0]
   exact⟨e1,by rw[whoV,e1,if_neg h0]⟩)
  clear h0
  go_wp2_with fail
  go_ret2
  exact⟨by rw[HR.out.1,HR.out.2];rfl,BL.out⟩
 have HE0:Hid (kI p s=0):=zD0 (by rw[←HE.out];exact h0)
 subst h0
 obtain⟨k0,k1,k2,k3,k4,k5⟩:=zE X1.out
 go_wp2_with fail
 refine(holcon_any _ p.secs id _ q2 ((P2.out.below zN BL.out).more zN BL.out.size) I1.out).mono ?_
 rintro e w3 ⟨rfl,b3⟩
 have B3:=zD0 (BL.out.trans (b3.mono BL.out.size))
 have I3:=zD0 ((b3.block _ (zA I1.out)).trans I1.out)
 have X3:=zD0 ((b3.block _ (zA XN.out)).trans XN.out)
 have C3:Hid (ClmP p s w3 c0 c1):=zD0 (fun h=>by
  obtain⟨m1,m2,es,fs,e0,e1,g1,g2,g3⟩:=CN.out h
  exact⟨m1,m2,es,fs,e0,e1,(b3.block _ g1.lt).trans g1,(b3.block _ g2.lt).trans g2,g3⟩)
 clear b3 k0 k1 k2 k3 k4 k5 I1 XN CN BL X1
 by_cases hin:id∈p.secs.map (fun x:Sec=>x.1)
 rotate_left
 ·rw[decide_eq_false hin]
  have HR:Hid (whoE p s id=6∧whoV p s id=0):=zD0 (by
   have e1:whoE p s id=6:=by rw[whoE,if_pos HE0.out,if_neg hin]
   exact⟨e1,by rw[whoV,e1];rfl⟩)
  clear hin
  go_wp2_with fail
  go_ret2
  exact⟨by rw[HR.out.1,HR.out.2];rfl,B3.out⟩
 rw[decide_eq_true hin]
 obtain⟨m1,m2,es,fs,rfl,rfl,g1,g2,g3⟩:=C3.out HE0.out
 have M1:=zD0 g1
 have M2:=zD0 g2
 have hmay:yD p s:=by
  refine Classical.byContradiction fun hn=>?_
  have h0:=HE0.out
  rw[kI,yO.2 hn] at h0
  split at h0<;>cases h0
 have HR:Hid (whoE p s id=0∧(qS es id).getD (.int .i64 0) = .int .i64 (whoV p s id)):=zD0 (by
  have e1:whoE p s id=0:=by rw[whoE,if_pos HE0.out,if_pos hin]
  exact⟨e1,by rw[whoV,if_pos e1];exact claim_who hmay g3 id⟩)
 clear hin g1 g2 g3 hmay C3
 have i0:w3.cell? ⟨w.heap.size+2,0,none⟩=some (.int .i64 id):=cell_of_row _ _ _ _ _ _ I3.out
 obtain⟨k0,k1⟩:=zI X3.out
 go_wp2_with ((with_reducible show wpList _ _ _ (⟨some 29,.lookup _ _ _ _,_,_,_,_⟩::_) _ _);refine yB _ rfl (.tmp 27) (.tmp 28) 68 3 false rfl Tryz.underlying3 Tryz.underlying68 (zeroI15 _) m1 es id rfl rfl M1.out ?_;rw[if_neg (by decide),HR.out.2])
 go_ret2
 exact⟨by rw[HR.out.1];rfl,B3.out⟩
set_option maxHeartbeats 8000000 in
theorem asked15_any (hs:zBy) (v y:Value) (p:Pl) (s:qD) (id:Int) (w:World) (h:qF w w.heap.size v p) (h':qL w w.heap.size y s):
  Calls Tryz.prog 12 #[v,y,.int .i64 id] w fun e w'=>e = .returned (.tuple #[.int .i64 (lieV p s id),.int .i64 (lieE p s id)])∧Below w.heap.size w w':=by
 obtain⟨p2,p3,p4,p5,rfl,h⟩:=h
 obtain⟨A2,a2,rfl,-,-⟩:=h.secs.slice
 obtain⟨b2,hb2⟩:=zD1 (p.secs.length)
 have P2:Hid (zX w w.heap.size (.slice A2 b2 a2) p.secs):=zD0 (by rw[hb2];exact h.secs)
 rw[←hb2]
 clear hb2
 obtain⟨A3,a3,rfl,-,-⟩:=h.pts.slice
 obtain⟨b3,hb3⟩:=zD1 (p.pts.length)
 have P3:Hid (zT w w.heap.size (.slice A3 b3 a3) p.pts):=zD0 (by rw[hb3];exact h.pts)
 rw[←hb3]
 clear hb3
 obtain⟨A4,a4,rfl,-,-⟩:=h.sigs.slice
 obtain⟨b4,hb4⟩:=zD1 (p.sigs.length)
 have P4:Hid (xI w w.heap.size (.slice A4 b4 a4) p.sigs):=zD0 (by rw[hb4];exact h.sigs)
 rw[←hb4]
 clear hb4
 obtain⟨A5,a5,rfl,-,-⟩:=h.routes.slice
 obtain⟨b5,hb5⟩:=zD1 (p.routes.length)
 have P5:Hid (qX w w.heap.size (.slice A5 b5 a5) p.routes):=zD0 (by rw[hb5];exact h.routes)
 rw[←hb5]
 clear hb5
 clear h
 obtain⟨_,_,_,rfl,h'⟩:=h'
 obtain⟨S0,Sc0,rfl,-,-⟩:=h'.tr.slice
 obtain⟨Sn0,hS0⟩:=zD1 (s.tr.length)
 have HS0:Hid (jD w w.heap.size (.slice S0 Sn0 Sc0) s.tr):=zD0 (by rw[hS0];exact h'.tr)
 rw[←hS0]
 clear hS0
 obtain⟨S1,Sc1,rfl,-,-⟩:=h'.sw.slice
 obtain⟨Sn1,hS1⟩:=zD1 (s.sw.length)
 have HS1:Hid (xP w w.heap.size (.slice S1 Sn1 Sc1) s.sw):=zD0 (by rw[hS1];exact h'.sw)
 rw[←hS1]
 clear hS1
 obtain⟨S2,Sc2,rfl,-,-⟩:=h'.lk.slice
 obtain⟨Sn2,hS2⟩:=zD1 (s.lk.length)
 have HS2:Hid (xO w w.heap.size (.slice S2 Sn2 Sc2) s.lk):=zD0 (by rw[hS2];exact h'.lk)
 rw[←hS2]
 clear hS2
 clear h'
 have PV:Hid (∀W,Below w.heap.size w W→qF W W.heap.size (.agg #[.int .i64 p.ver,.int .i64 p.par,.slice A2 b2 a2,.slice A3 b3 a3,.slice A4 b4 a4,.slice A5 b5 a5]) p):=zD0 (fun W b=>⟨_,_,_,_,rfl,⟨(P2.out.below zN b).more zN b.size,(P3.out.below zM b).more zM b.size,(P4.out.below zP b).more zP b.size,(P5.out.below qM b).more qM b.size⟩⟩)
 have SV:Hid (∀W,Below w.heap.size w W→qL W W.heap.size (.agg #[.slice S0 Sn0 Sc0,.slice S1 Sn1 Sc1,.slice S2 Sn2 Sc2]) s):=zD0 (fun W b=>⟨_,_,_,rfl,⟨(HS0.out.below xY b).more xY b.size,(HS1.out.below zP b).more zP b.size,(HS2.out.below xQ b).more xQ b.size⟩⟩)
 clear HS0 HS1 HS2
 obtain⟨hx,hy,hz,hqb⟩:=vK w (.cells #[.int .i64 p.ver,.int .i64 p.par,.slice A2 b2 a2,.slice A3 b3 a3,.slice A4 b4 a4,.slice A5 b5 a5] 27) (.cells #[.slice S0 Sn0 Sc0,.slice S1 Sn1 Sc1,.slice S2 Sn2 Sc2] 32) (.cells #[.int .i64 id] 3)
 go_enter Tryz.func12,Tryz.ntmps12
 go_upto_region 1 with fail
 generalize ((w.alloc (.cells #[.int .i64 p.ver,.int .i64 p.par,.slice A2 b2 a2,.slice A3 b3 a3,.slice A4 b4 a4,.slice A5 b5 a5] 27)).alloc (.cells #[.slice S0 Sn0 Sc0,.slice S1 Sn1 Sc1,.slice S2 Sn2 Sc2] 32)).alloc (.cells #[.int .i64 id] 3)=q at hx hy hz hqb⊢
 have BQ:=zD0 hqb
 have X:=zD0 hx
 have I:=zD0 hz
 obtain⟨k0,k1,k2,k3,k4,k5⟩:=zE hx
 obtain⟨j0,j1,j2⟩:=zC hy
 clear hx hy hz hqb
 go_wp2_with fail
 refine(zDf hs _ _ p s q (PV.out q BQ.out) (SV.out q BQ.out)).mono ?_
 rintro e w1 ⟨⟨c0,c1,rfl,CP⟩,b1⟩
 have bn:=zD w1 (.cells #[.map c0,.map c1] 70)
 have xn:=zB w1 (.cells #[.map c0,.map c1] 70)
 have BL:Hid (Below w.heap.size w (w1.alloc (.cells #[.map c0,.map c1] 70))):=zD0 ((BQ.out.trans (b1.mono BQ.out.size)).trans (bn.mono (Nat.le_trans BQ.out.size b1.size)))
 have X1:=zD0 ((bn.block _ (Nat.lt_of_lt_of_le (zA X.out) b1.size)).trans ((b1.block _ (zA X.out)).trans X.out))
 have I1:=zD0 ((bn.block _ (Nat.lt_of_lt_of_le (zA I.out) b1.size)).trans ((b1.block _ (zA I.out)).trans I.out))
 have CN:Hid (ClmP p s (w1.alloc (.cells #[.map c0,.map c1] 70)) c0 c1):=zD0 (fun h=>by
  obtain⟨m1,m2,es,fs,e0,e1,g1,g2,g3⟩:=CP.out h
  exact⟨m1,m2,es,fs,e0,e1,(bn.block _ g1.lt).trans g1,(bn.block _ g2.lt).trans g2,g3⟩)
 have XN:=zD0 xn
 clear b1 k0 k1 k2 k3 k4 k5 j0 j1 j2 bn xn CP X I BQ
 obtain⟨E,hE⟩:=zD1 (kI p s)
 have HE:=zD0 hE
 rw[←hE]
 clear hE
 go_upto_region 2 with fail
 generalize w1.alloc (.cells #[.map c0,.map c1] 70)=q2 at BL X1 I1 CN XN⊢
 generalize w1.heap.size=pc at XN⊢
 by_cases h0:E=0
 rotate_left
 ·have h0':(E != 0)=true:=by simpa using h0
  have HR:Hid (lieE p s id=E∧lieV p s id=0):=zD0 (by
   have e1:lieE p s id=E:=by rw[lieE,←HE.out,if_neg h0]
   exact⟨e1,by rw[lieV,e1,if_neg h0]⟩)
  clear h0
  go_wp2_with fail
  go_ret2
  exact⟨by rw[HR.out.1,HR.out.2];rfl,BL.out⟩
 have HE0:Hid (kI p s=0):=zD0 (by rw[←HE.out];exact h0)
 subst h0
 obtain⟨k0,k1,k2,k3,k4,k5⟩:=zE X1.out
 go_wp2_with fail
 refine(askcon_any _ p.pts id _ q2 ((P3.out.below zM BL.out).more zM BL.out.size) I1.out).mono ?_
 rintro e w3 ⟨rfl,b3⟩
 have B3:=zD0 (BL.out.trans (b3.mono BL.out.size))
 have I3:=zD0 ((b3.block _ (zA I1.out)).trans I1.out)
 have X3:=zD0 ((b3.block _ (zA XN.out)).trans XN.out)
 have C3:Hid (ClmP p s w3 c0 c1):=zD0 (fun h=>by
  obtain⟨m1,m2,es,fs,e0,e1,g1,g2,g3⟩:=CN.out h
  exact⟨m1,m2,es,fs,e0,e1,(b3.block _ g1.lt).trans g1,(b3.block _ g2.lt).trans g2,g3⟩)
 clear b3 k0 k1 k2 k3 k4 k5 I1 XN CN BL X1
 by_cases hin:id∈p.pts.map (fun x:Jn=>x.1)
 rotate_left
 ·rw[decide_eq_false hin]
  have HR:Hid (lieE p s id=6∧lieV p s id=0):=zD0 (by
   have e1:lieE p s id=6:=by rw[lieE,if_pos HE0.out,if_neg hin]
   exact⟨e1,by rw[lieV,e1];rfl⟩)
  clear hin
  go_wp2_with fail
  go_ret2
  exact⟨by rw[HR.out.1,HR.out.2];rfl,B3.out⟩
 rw[decide_eq_true hin]
 obtain⟨m1,m2,es,fs,rfl,rfl,g1,g2,g3⟩:=C3.out HE0.out
 have M1:=zD0 g1
 have M2:=zD0 g2
 have hmay:yD p s:=by
  refine Classical.byContradiction fun hn=>?_
  have h0:=HE0.out
  rw[kI,yO.2 hn] at h0
  split at h0<;>cases h0
 have HR:Hid (lieE p s id=0∧(qS fs id).getD (.int .i64 0) = .int .i64 (lieV p s id)):=zD0 (by
  have e1:lieE p s id=0:=by rw[lieE,if_pos HE0.out,if_pos hin]
  exact⟨e1,by rw[lieV,if_pos e1];exact claim_lie hmay g3 id⟩)
 clear hin g1 g2 g3 hmay C3
 have i0:w3.cell? ⟨w.heap.size+2,0,none⟩=some (.int .i64 id):=cell_of_row _ _ _ _ _ _ I3.out
 obtain⟨k0,k1⟩:=zI X3.out
 go_wp2_with ((with_reducible show wpList _ _ _ (⟨some 29,.lookup _ _ _ _,_,_,_,_⟩::_) _ _);refine yB _ rfl (.tmp 27) (.tmp 28) 68 3 false rfl Tryz.underlying3 Tryz.underlying68 (zeroI15 _) m2 fs id rfl rfl M2.out ?_;rw[if_neg (by decide),HR.out.2])
 go_ret2
 exact⟨by rw[HR.out.1];rfl,B3.out⟩
end Go.Proofs.YtemmgmjhomgbbaaGreat
