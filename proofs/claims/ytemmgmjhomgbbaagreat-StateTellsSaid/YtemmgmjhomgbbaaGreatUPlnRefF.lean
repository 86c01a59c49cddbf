/-
 The document's own functions of package plan: route.
 Conditions: none.
-/
import Derived.Test.YtemmgmjhomgbbaaGreatUGPlnRefA
import Derived.Test.YtemmgmjhomgbbaaGreatUGPlnRefB
set_option linter.unusedVariables false
set_option linter.unusedSimpArgs false
set_option maxRecDepth 100000
namespace Go.Proofs.YtemmgmjhomgbbaaGreat
open Go.RowKit
structure jQ (p:Pl) (r:Rt):Prop where
 entry:∃k,∃hk:k<p.sigs.length,at1 (fun x:Sg=>x.1) p.sigs r.entry=(k:Int)∧∀i (h:i<(r.path++r.over).length),(r.path++r.over)[i]≠p.sigs[k].2.1
 exit:r.exit≠0→0≤at1 (fun x:Sg=>x.1) p.sigs r.exit∧r.exit≠r.entry
 over0:r.exit=0→r.over.length=0
 path:1≤r.path.length∧r.path.length≤6
 over:r.over.length≤2
 flank:r.flanks.length≤3
 timer:1≤r.timer∧r.timer≤9
 secs:∀i (h:i<(r.path++r.over).length),0≤atS p.secs (r.path++r.over)[i]∧∀m (hm:m<i),(r.path++r.over)[m]≠(r.path++r.over)[i]
 flanks:∀i (h:i<r.flanks.length),0≤at1 (fun x:Jn=>x.1) p.pts r.flanks[i].1∧(∀j (hj:j+1=i),(r.flanks[j]'(by omega)).1<r.flanks[i].1)∧1≤r.flanks[i].2∧r.flanks[i].2≤2
noncomputable def xH (p:Pl) (r:Rt):Bool:=@decide (jQ p r) (Classical.propDecidable _)
theorem zB7 {p:Pl} {r:Rt} (h:jQ p r):xH p r=true:=by rw[xH];exact @decide_eq_true _ (Classical.propDecidable _) h
theorem qN {p:Pl} {r:Rt} (h:¬jQ p r):xH p r=false:=by rw[xH];exact @decide_eq_false _ (Classical.propDecidable _) h
theorem routeMay_iff {p:Pl} {r:Rt}:xH p r=true↔jQ p r:=by rw[xH];exact @decide_eq_true_iff _ (Classical.propDecidable _)
theorem kA {x:Int} (h0:-9223372036854775808≤x) (h1:x≤9223372036854775807):IntKind.i64.wrap x=x:=by
 simp[IntKind.wrap,IntKind.signed,IntKind.bits]
 omega
set_option maxHeartbeats 16000000 in
theorem zCw (v y:Value) (p:Pl) (r:Rt) (w:World) (h:qF w w.heap.size v p) (h':vS w w.heap.size y r):
  Calls Tryz.prog 64 #[v,y] w fun e w'=>e = .returned (.bool (xH p r))∧Below w.heap.size w w':=by
 obtain⟨y2,y3,y4,y5,rfl,hin⟩:=h
 obtain⟨z3,z4,z5,rfl,hrt⟩:=h'
 obtain⟨A2,c2,rfl,hcl2,hcm2⟩:=hin.secs.slice
 obtain⟨A3,c3,rfl,hcl3,hcm3⟩:=hin.pts.slice
 obtain⟨A4,c4,rfl,hcl4,hcm4⟩:=hin.sigs.slice
 obtain⟨C3,e3,rfl,hdl3,hdm3⟩:=hrt.path.slice
 obtain⟨C4,e4,rfl,hdl4,hdm4⟩:=hrt.over.slice
 obtain⟨C5,e5,rfl,hdl5,hdm5⟩:=hrt.flanks.slice
 unfold maxLen at hcm2 hcm3 hcm4 hdm3 hdm4 hdm5
 obtain⟨n2,hn2⟩:=zD1 (p.secs.length)
 obtain⟨n3,hn3⟩:=zD1 (p.pts.length)
 obtain⟨n4,hn4⟩:=zD1 (p.sigs.length)
 obtain⟨l3,hl3⟩:=zD1 (r.path.length)
 obtain⟨l4,hl4⟩:=zD1 (r.over.length)
 obtain⟨l5,hl5⟩:=zD1 (r.flanks.length)
 have hm3:l3≤9223372036854775807:=by omega
 have hm4:l4≤9223372036854775807:=by omega
 have hm5:l5≤9223372036854775807:=by omega
 have hm4s:n4≤9223372036854775807:=by omega
 have HS:Hid (zX w w.heap.size (.slice A2 n2 c2) p.secs):=zD0 (by rw[hn2];exact hin.secs)
 have HP:Hid (zT w w.heap.size (.slice A3 n3 c3) p.pts):=zD0 (by rw[hn3];exact hin.pts)
 have HG:Hid (xI w w.heap.size (.slice A4 n4 c4) p.sigs):=zD0 (by rw[hn4];exact hin.sigs)
 have HF5:Hid (zT w w.heap.size (.slice C5 l5 e5) r.flanks):=zD0 (by rw[hl5];exact hrt.flanks)
 have HRT:Hid (vS w w.heap.size (.agg #[.int .i64 r.id,.int .i64 r.entry,.int .i64 r.exit,.slice C3 l3 e3,.slice C4 l4 e4,.slice C5 l5 e5,.int .i64 r.timer]) r):=zD0 ⟨_,_,_,rfl,by rw[hl3,hl4,hl5];exact hrt⟩
 have HN:Hid (n4=p.sigs.length∧l3=r.path.length∧l4=r.over.length∧l5=r.flanks.length):=zD0 ⟨hn4,hl3,hl4,hl5⟩
 rw[←hn2,←hn3,←hn4,←hl3,←hl4,←hl5]
 have hq:=zV w (.cells #[.int .i64 p.ver,.int .i64 p.par,.slice A2 n2 c2,.slice A3 n3 c3,.slice A4 n4 c4,y5] 27) (.cells #[.int .i64 r.id,.int .i64 r.entry,.int .i64 r.exit,.slice C3 l3 e3,.slice C4 l4 e4,.slice C5 l5 e5,.int .i64 r.timer] 64)
 clear hn2 hn3 hn4 hl3 hl4 hl5 hin hrt hcl2 hcm2 hcl3 hcm3 hcl4 hcm4 hdl3 hdm3 hdl4 hdm4 hdl5 hdm5
 go_enter Tryz.func64,Tryz.ntmps64
 go_upto_region 1 with fail
 generalize (w.alloc (.cells #[.int .i64 p.ver,.int .i64 p.par,.slice A2 n2 c2,.slice A3 n3 c3,.slice A4 n4 c4,y5] 27)).alloc (.cells #[.int .i64 r.id,.int .i64 r.entry,.int .i64 r.exit,.slice C3 l3 e3,.slice C4 l4 e4,.slice C5 l5 e5,.int .i64 r.timer] 64)=q at hq⊢
 obtain⟨q0,q1,qb⟩:=hq
 have XA0:=zD0 q0
 have XB0:=zD0 q1
 have QB:=zD0 qb
 have HGQ:=zD0 ((HG.out.below zP qb).more zP qb.size)
 have HRQ:=zD0 ((HRT.out.below qb).more qb.size)
 clear q0 q1 qb
 obtain⟨k0,k1,k2,k3,k4,k5⟩:=zE XA0.out
 obtain⟨m0,m1,m2,m3,m4,m5,m6⟩:=zL XB0.out
 go_upto_region 2 with((with_reducible show Calls _ _ _ _ _);refine(zA0 _ p.sigs r.entry _ HGQ.out).mono ?_;rintro e w' ⟨rfl,hw'⟩;rw[hw'];clear hw' w')
 have BZ:=QB
 obtain⟨ke,hke⟩:=zD1 (at1 (fun x:Sg=>x.1) p.sigs r.entry)
 obtain⟨kx,hkx⟩:=zD1 (at1 (fun x:Sg=>x.1) p.sigs r.exit)
 have HKE:=zD0 hke
 have HKX:=zD0 hkx
 have KEC:=zD0 (vF (fun x:Sg=>x.1) p.sigs r.entry)
 rw[←hke]
 clear hke
 have XCALL:Hid (Calls Tryz.prog 95 #[.slice A4 n4 c4,.int .i64 r.exit] q fun e w'=>e = .returned (.int .i64 kx)∧w'=q):=zD0 (by rw[hkx];exact zA0 _ p.sigs r.exit _ HGQ.out)
 clear hkx
 by_cases hke0:ke<0
 ·have dke:decide (ke<0)=true:=decide_eq_true hke0
  have HF:Hid (xH p r=false):=zD0 (qN fun h=>by obtain⟨k,_,hk,_⟩:=h.entry;have:=HKE.out;omega)
  clear hke0
  go_wp2_with fail
  go_ret
  exact⟨by rw[HF.out];rfl,BZ.out⟩
 have dke:decide (ke<0)=false:=decide_eq_false hke0
 obtain⟨k,hkr,hk1⟩:∃k,∃hk:k<p.sigs.length,ke=(k:Int):=by
  rcases KEC.out with⟨h,_⟩|⟨k,hk,h,_⟩
  ·have:=HKE.out;omega
  ·exact⟨k,hk,HKE.out.trans h⟩
 subst hk1
 clear hke0
 by_cases hbad:((r.exit≠0∧(kx<0∨r.exit=r.entry))∨(r.exit=0∧l4≠0))
 ·have HF:Hid (xH p r=false):=zD0 (qN fun h=>by
   rcases hbad with⟨h1,h2⟩|⟨h1,h2⟩
   ·have h3:=h.exit h1
    rw[←HKX.out] at h3
    rcases h2 with h2|h2
    ·omega
    ·exact h3.2 h2
   ·have h3:=h.over0 h1
    rw[←HN.out.2.2.1] at h3
    exact h2 h3)
  rcases hbad with⟨h1,h2⟩|⟨h1,h2⟩
  ·have d1:(r.exit != 0)=true:=by simpa using h1
   by_cases h3:kx<0
   ·have d3:decide (kx<0)=true:=decide_eq_true h3
    clear h1 h2 h3
    go_wp2_with ((with_reducible show Calls _ _ _ _ _);refine XCALL.out.mono ?_;rintro e w' ⟨rfl,hw'⟩;rw[hw'];clear hw' w')
    go_ret
    exact⟨by rw[HF.out];rfl,BZ.out⟩
   ·have d3:decide (kx<0)=false:=decide_eq_false h3
    have d4:(r.exit==r.entry)=true:=by rcases h2 with h2|h2;exact absurd h2 h3;simpa using h2
    clear h1 h2 h3
    go_wp2_with ((with_reducible show Calls _ _ _ _ _);refine XCALL.out.mono ?_;rintro e w' ⟨rfl,hw'⟩;rw[hw'];clear hw' w')
    go_ret
    exact⟨by rw[HF.out];rfl,BZ.out⟩
  ·have d1:(r.exit != 0)=false:=by simpa using h1
   have d1':(r.exit==0)=true:=by simpa using h1
   have d2:((l4:Int) != 0)=true:=by simpa using h2
   clear h1 h2
   go_wp2_with fail
   go_ret
   exact⟨by rw[HF.out];rfl,BZ.out⟩
 have EX1:Hid ((r.exit≠0→0≤at1 (fun x:Sg=>x.1) p.sigs r.exit∧r.exit≠r.entry)∧(r.exit=0→r.over.length=0)):=zD0 (by
  rw[←HKX.out,←HN.out.2.2.1]
  refine⟨fun h=>⟨?_,fun h2=>hbad (.inl ⟨h,.inr h2⟩)⟩,fun h=>?_⟩
  ·by_cases h2:kx<0
   ·exact absurd (.inl ⟨h,.inl h2⟩) hbad
   ·omega
  ·rcases Nat.eq_zero_or_pos l4 with h2|h2
   ·exact h2
   ·exact absurd (.inr ⟨h,by omega⟩) hbad)
 have NEXT:Hid ((r.exit != 0)=true∧decide (kx<0)=false∧(r.exit==r.entry)=false∧(r.exit==0)=false∨(r.exit != 0)=false∧(r.exit==0)=true∧((l4:Int) != 0)=false):=zD0 (by
  by_cases h:r.exit=0
  ·refine .inr ⟨by simpa using h,by simpa using h,?_⟩
   rcases Nat.eq_zero_or_pos l4 with h2|h2
   ·subst h2;rfl
   ·exact absurd (.inr ⟨h,by omega⟩) hbad
  ·refine .inl ⟨by simpa using h,decide_eq_false fun h2=>hbad (.inl ⟨h,.inl h2⟩),by simpa using fun h2=>hbad (.inl ⟨h,.inr h2⟩),by simpa using h⟩)
 clear hbad
 go_cut [48] from 11 to 48 (fun s48 wx=>s48 = .bool false∧wx=q)
 case first=>
  rcases NEXT.out with⟨d1,d2,d3,d4⟩|⟨d1,d2,d3⟩
  ·go_wp2_with ((with_reducible show Calls _ _ _ _ _);refine XCALL.out.mono ?_;rintro e w' ⟨rfl,hw'⟩;rw[hw'];clear hw' w')
   go_meet
   exact⟨rfl,rfl⟩
  ·go_wp2_with fail
   go_meet
   exact⟨rfl,rfl⟩
 case rest=>
  obtain⟨rfl,rfl⟩:=hcut
  clear k0 k1 k2 k3 k4 k5 m0 m1 m2 m3 m4 m5 m6 dke XCALL
  have XA:=XA0
  have XB:=XB0
  obtain⟨m0,m1,m2,m3,m4,m5,m6⟩:=zL XB.out
  by_cases h1:l3<1
  ·have d1:decide ((l3:Int)<1)=true:=decide_eq_true (by omega)
   have HF:Hid (xH p r=false):=zD0 (qN fun h=>by have:=h.path;have:=HN.out;omega)
   clear h1
   go_wp2_with fail
   go_ret
   exact⟨by rw[HF.out];rfl,BZ.out⟩
  have d1:decide ((l3:Int)<1)=false:=decide_eq_false (by omega)
  by_cases h2:6<l3
  ·have d2:decide ((6:Int)<l3)=true:=decide_eq_true (by omega)
   have HF:Hid (xH p r=false):=zD0 (qN fun h=>by have:=h.path;have:=HN.out;omega)
   clear h1 h2
   go_wp2_with fail
   go_ret
   exact⟨by rw[HF.out];rfl,BZ.out⟩
  have d2:decide ((6:Int)<l3)=false:=decide_eq_false (by omega)
  by_cases h3:2<l4
  ·have d3:decide ((2:Int)<l4)=true:=decide_eq_true (by omega)
   have HF:Hid (xH p r=false):=zD0 (qN fun h=>by have:=h.over;have:=HN.out;omega)
   clear h1 h2 h3
   go_wp2_with fail
   go_ret
   exact⟨by rw[HF.out];rfl,BZ.out⟩
  have d3:decide ((2:Int)<l4)=false:=decide_eq_false (by omega)
  by_cases h4:3<l5
  ·have d4:decide ((3:Int)<l5)=true:=decide_eq_true (by omega)
   have HF:Hid (xH p r=false):=zD0 (qN fun h=>by have:=h.flank;have:=HN.out;omega)
   clear h1 h2 h3 h4
   go_wp2_with fail
   go_ret
   exact⟨by rw[HF.out];rfl,BZ.out⟩
  have d4:decide ((3:Int)<l5)=false:=decide_eq_false (by omega)
  by_cases h5:r.timer<1
  ·have d5:decide (r.timer<1)=true:=decide_eq_true (by omega)
   have HF:Hid (xH p r=false):=zD0 (qN fun h=>by have:=h.timer;omega)
   clear h1 h2 h3 h4 h5
   go_wp2_with fail
   go_ret
   exact⟨by rw[HF.out];rfl,BZ.out⟩
  have d5:decide (r.timer<1)=false:=decide_eq_false (by omega)
  by_cases h6:9<r.timer
  ·have d6:decide (9<r.timer)=true:=decide_eq_true (by omega)
   have HF:Hid (xH p r=false):=zD0 (qN fun h=>by have:=h.timer;omega)
   clear h1 h2 h3 h4 h5 h6
   go_wp2_with fail
   go_ret
   exact⟨by rw[HF.out];rfl,BZ.out⟩
  have d6:decide (9<r.timer)=false:=decide_eq_false (by omega)
  have PARTS:Hid ((1≤r.path.length∧r.path.length≤6)∧r.over.length≤2∧r.flanks.length≤3∧1≤r.timer∧r.timer≤9):=zD0 (by have:=HN.out;omega)
  clear h1 h2 h3 h4 h5 h6
  go_wp2_with fail
  refine(zB8 _ r wc HRQ.out (by have:=PARTS.out;omega) (by have:=PARTS.out;omega)).mono ?_
  rintro e w6 ⟨u,rfl,hu,b6⟩
  obtain⟨Au,cu,rfl⟩:=hu.slice
  have B6:=zD0 (QB.out.trans (b6.mono QB.out.size))
  have Z2:=zD0 ((b6.block _ (zA XA.out)).trans XA.out)
  have Z3:=zD0 ((b6.block _ (zA XB.out)).trans XB.out)
  have HU0:=zD0 (hu.in_ zZ)
  obtain⟨LL,hLL⟩:=zD1 (r.path++r.over)
  have HLL:=zD0 hLL
  rw[←hLL] at hu HU0⊢
  obtain⟨N,hN⟩:=zD1 (LL.length)
  have HNN:=zD0 hN
  have HU:Hid (xB w6 w6.heap.size (.slice Au N cu) LL):=zD0 (by rw[hN];exact HU0.out)
  have HN8:N≤8:=by rw[hN,hLL,List.length_append];have:=PARTS.out;omega
  rw[←hN]
  have HS6:=zD0 ((HS.out.below zN B6.out).more zN B6.out.size)
  have HG6:=zD0 ((HG.out.below zP B6.out).more zP B6.out.size)
  have HP6:=zD0 ((HP.out.below zM B6.out).more zM B6.out.size)
  have HF6:=zD0 ((HF5.out.below zM B6.out).more zM B6.out.size)
  clear hu hLL hN b6 m0 m1 m2 m3 m4 m5 m6 d1 d2 d3 d4 d5 d6 XA XB XA0 XB0 HU0
  go_wp2_with fail
  go_loopw [7] (fun s7 wr=>∃i:Nat,i≤N∧s7 = .int .i64 i∧(∀j (hj:j<i) (hl:j<LL.length),(LL[j]≠p.sigs[k].2.1∧0≤atS p.secs LL[j])∧∀m (hm:m<j),(LL[m]'(by omega))≠LL[j])∧Below w6.heap.size w6 wr) (fun s7 _=>N-(intOf s7).toNat)
  case atStart=>exact⟨0,by omega,by go_num,fun j hj=>absurd hj (by omega),Below.refl _ _⟩
  case round=>
   obtain⟨i,hi,rfl,hall,hbw⟩:=hrel
   have HALL:=zD0 hall
   have BW:=zD0 hbw
   clear hall hbw
   by_cases hlt:i<N
   ·have hlt':(i:Int)<N:=by omega
    have hir:i<LL.length:=by rw[←HNN.out];exact hlt
    obtain⟨bu,ou,rfl,hbu,hcu⟩:=((HU.out.below qI BW.out).more qI BW.out.size).at hir
    obtain⟨bg,og,rfl,hbg,-,hcg,-⟩:=((HG6.out.below zP BW.out).more zP BW.out.size).at hkr
    obtain⟨x,hx⟩:=zD1 (LL[i])
    obtain⟨s1,hs1⟩:=zD1 (p.sigs[k].2.1)
    have hkn:(k:Int)<n4:=by have:=HN.out;omega
    have LCU:Hid (wr.cell? ⟨bu,ou+i,none⟩=some (.int .i64 x)):=zD0 (by rw[hx];simpa [jU] using hcu)
    have LCG:Hid (wr.cell? ⟨bg,og+k*3+1,none⟩=some (.int .i64 s1)):=zD0 (by rw[hs1];exact hcg)
    have LBU:=zD0 hbu
    have LBG:=zD0 hbg
    have HX:=zD0 hx
    have HS1:=zD0 hs1
    have XA:=zD0 ((BW.out.block _ (zA Z2.out)).trans Z2.out)
    have XB:=zD0 ((BW.out.block _ (zA Z3.out)).trans Z3.out)
    have HSW:=zD0 ((HS6.out.below zN BW.out).more zN BW.out.size)
    obtain⟨kk,hkk⟩:=zD1 (atS p.secs x)
    have HKK:=zD0 hkk
    have BZ:Hid (Below w.heap.size w wr.drew):=zD0 (B6.out.trans ((BW.out.drew).mono B6.out.size))
    have ME:Hid (jQ p r→(x≠s1∧0≤kk)∧∀m (hm:m<i),(LL[m]'(by omega))≠x):=zD0 (fun h=>by
     obtain⟨k',hk',hke,hne⟩:=h.entry
     obtain rfl:k'=k:=by have:=HKE.out;omega
     have h2:=h.secs
     rw[HKK.out,HX.out,HS1.out]
     simp only[←HLL.out] at hne h2
     exact⟨⟨hne i hir,(h2 i hir).1⟩,(h2 i hir).2⟩)
    clear hcu hcg hx hs1 hbu hbg hkk
    go_upto_region 10 with fail
    by_cases h1:kk<0
    ·have d1:decide (kk<0)=true:=decide_eq_true h1
     have HF:Hid (xH p r=false):=zD0 (qN fun h=>by have:=(ME.out h).1.2;omega)
     clear h1
     refine wp_region_held_drew (S:=fun v=>Below wr.heap.size wr v) (by kernel_rfl) (Below.refl wr.heap.size wr).drew (fun zD2=>?_)
     refine tk 0 zD2 ?_;refine tkc 1 zD2 (fun w' hSw=>zE ((hSw.block _ (zA XA.out)).trans XA.out)) ?_;refine tk 2 zD2 ?_;refine tk 3 zD2 ?_;refine tk 4 zD2 ?_;refine tkc 5 zD2 (fun w' hSw=>(hSw.cell (p:=⟨bu,ou+i,none⟩) LBU.out).trans LCU.out) ?_
     refine tkr 6 (fun K hK=>?_)
     go_simp
     refine(zAf _ p.secs x wr.drew (HSW.out.below zN (Below.refl wr.heap.size wr).drew)).mono ?_
     rintro e w' ⟨rfl,rfl⟩
     rw[←HKK.out]
     try go_wp2_with fail
     refine hK.out _ _ ?_ fun zD2=>?_;exact(Below.refl wr.heap.size wr).drew;clear hK K;try simp only[zn,Act.put]
     refine tk 7 zD2 ?_;refine tk 8 zD2 ?_;refine tks 9 zD2 ?_;refine tks 10 zD2 ?_;refine tks 11 zD2 ?_;refine tks 12 zD2 ?_;refine tks 13 zD2 ?_;refine tks 14 zD2 ?_;refine tks 15 zD2 ?_;refine tks 16 zD2 ?_;refine tks 17 zD2 ?_;refine tks 18 zD2 ?_;refine tks 19 zD2 ?_;refine tk 20 zD2 ?_
     refine wpAnyH_done (by kernel_rfl) ?_ _
     go_wp2_with fail
     go_ret
     exact⟨by rw[HF.out];rfl,BZ.out⟩
    have d1:decide (kk<0)=false:=decide_eq_false h1
    have K0:Hid (0≤kk):=zD0 (by omega)
    clear h1
    by_cases h2:x=s1
    ·have d2:(x==s1)=true:=by simpa using h2
     have HF:Hid (xH p r=false):=zD0 (qN fun h=>(ME.out h).1.1 h2)
     clear h2
     refine wp_region_held_drew (S:=fun v=>Below wr.heap.size wr v) (by kernel_rfl) (Below.refl wr.heap.size wr).drew (fun zD2=>?_)
     refine tk 0 zD2 ?_;refine tkc 1 zD2 (fun w' hSw=>zE ((hSw.block _ (zA XA.out)).trans XA.out)) ?_;refine tk 2 zD2 ?_;refine tk 3 zD2 ?_;refine tk 4 zD2 ?_;refine tkc 5 zD2 (fun w' hSw=>(hSw.cell (p:=⟨bu,ou+i,none⟩) LBU.out).trans LCU.out) ?_
     refine tkr 6 (fun K hK=>?_)
     go_simp
     refine(zAf _ p.secs x wr.drew (HSW.out.below zN (Below.refl wr.heap.size wr).drew)).mono ?_
     rintro e w' ⟨rfl,rfl⟩
     rw[←HKK.out]
     try go_wp2_with fail
     refine hK.out _ _ ?_ fun zD2=>?_;exact(Below.refl wr.heap.size wr).drew;clear hK K;try simp only[zn,Act.put]
     refine tk 7 zD2 ?_;refine tk 8 zD2 ?_;refine tk 9 zD2 ?_;refine tk 10 zD2 ?_;refine tk 11 zD2 ?_;refine tkc 12 zD2 (fun w' hSw=>(hSw.cell (p:=⟨bu,ou+i,none⟩) LBU.out).trans LCU.out) ?_;refine tk 13 zD2 ?_;refine tkc 14 zD2 (fun w' hSw=>zE ((hSw.block _ (zA XA.out)).trans XA.out)) ?_;refine tk 15 zD2 ?_;refine tk 16 zD2 ?_;refine tk 17 zD2 ?_;refine tkc 18 zD2 (fun w' hSw=>(hSw.cell (p:=⟨bg,og+k*3+1,none⟩) LBG.out).trans LCG.out) ?_;refine tk 19 zD2 ?_;refine tk 20 zD2 ?_
     refine wpAnyH_done (by kernel_rfl) ?_ _
     go_wp2_with fail
     go_ret
     exact⟨by rw[HF.out];rfl,BZ.out⟩
    have d2:(x==s1)=false:=by simpa using h2
    have XS:Hid (x≠s1):=zD0 h2
    clear h2
    refine wp_region_held_drew (S:=fun v=>Below wr.heap.size wr v) (by kernel_rfl) (Below.refl wr.heap.size wr).drew (fun zD2=>?_)
    refine tk 0 zD2 ?_;refine tkc 1 zD2 (fun w' hSw=>zE ((hSw.block _ (zA XA.out)).trans XA.out)) ?_;refine tk 2 zD2 ?_;refine tk 3 zD2 ?_;refine tk 4 zD2 ?_;refine tkc 5 zD2 (fun w' hSw=>(hSw.cell (p:=⟨bu,ou+i,none⟩) LBU.out).trans LCU.out) ?_
    refine tkr 6 (fun K hK=>?_)
    go_simp
    refine(zAf _ p.secs x wr.drew (HSW.out.below zN (Below.refl wr.heap.size wr).drew)).mono ?_
    rintro e w' ⟨rfl,rfl⟩
    rw[←HKK.out]
    try go_wp2_with fail
    refine hK.out _ _ ?_ fun zD2=>?_;exact(Below.refl wr.heap.size wr).drew;clear hK K;try simp only[zn,Act.put]
    refine tk 7 zD2 ?_;refine tk 8 zD2 ?_;refine tk 9 zD2 ?_;refine tk 10 zD2 ?_;refine tk 11 zD2 ?_;refine tkc 12 zD2 (fun w' hSw=>(hSw.cell (p:=⟨bu,ou+i,none⟩) LBU.out).trans LCU.out) ?_;refine tk 13 zD2 ?_;refine tkc 14 zD2 (fun w' hSw=>zE ((hSw.block _ (zA XA.out)).trans XA.out)) ?_;refine tk 15 zD2 ?_;refine tk 16 zD2 ?_;refine tk 17 zD2 ?_;refine tkc 18 zD2 (fun w' hSw=>(hSw.cell (p:=⟨bg,og+k*3+1,none⟩) LBG.out).trans LCG.out) ?_;refine tk 19 zD2 ?_;refine tk 20 zD2 ?_
    refine wpAnyH_done (by kernel_rfl) ?_ _
    have BD0:Hid (Below w6.heap.size w6 wr.drew):=zD0 BW.out.drew
    clear d1 d2
    generalize wr.drew=wd at BZ BD0⊢
    go_wp2_with fail
    go_loopw [8] (fun s8 wr=>∃m:Nat,m≤i∧s8 = .int .i64 m∧(∀j (hj:j<m) (hl:j<LL.length),LL[j]≠x)∧Below w6.heap.size w6 wr) (fun s8 _=>i-(intOf s8).toNat)
    case atStart=>exact⟨0,by omega,by go_num,fun j hj=>absurd hj (by omega),BD0.out⟩
    case round=>
     obtain⟨m,hm,rfl,hms,hbm⟩:=hrel
     have HMS:=zD0 hms
     have BM:=zD0 hbm
     clear hms hbm
     by_cases hmi:m<i
     ·have hmi':(m:Int)<i:=by omega
      have hmN:(m:Int)<N:=by omega
      have hmr:m<LL.length:=by omega
      obtain⟨bm,om,e1,hbm,hcm⟩:=((HU.out.below qI BM.out).more qI BM.out.size).at hmr
      cases e1
      obtain⟨bn,on,e2,hbn,hcn⟩:=((HU.out.below qI BM.out).more qI BM.out.size).at hir
      cases e2
      obtain⟨xm,hxm⟩:=zD1 (LL[m])
      have hg1:wr.cell? ⟨bu,ou+m,none⟩=some (.int .i64 xm):=by rw[hxm];simpa [jU] using hcm
      have hg2:wr.cell? ⟨bu,ou+i,none⟩=some (.int .i64 x):=by rw[HX.out];simpa [jU] using hcn
      have HXM:=zD0 hxm
      have BD:Hid (∀nq,Below w6.heap.size w6 (wr.drewN nq)):=zD0 (fun nq=>⟨BM.out.os,BM.out.tape,BM.out.output,BM.out.size,BM.out.block⟩)
      clear hcm hcn hxm hbm hbn
      go_upto_region 15 with fail
      by_cases he:xm=x
      ·have hne:(xm==x)=true:=by simpa using he
       have HF:Hid (xH p r=false):=zD0 (qN fun h=>(ME.out h).2 m hmi (HXM.out.symm.trans he))
       clear he
       go_quiet (fail)
       have hdb:=BD.out nq
       generalize wr.drewN nq=q9 at hdb⊢
       have BY:Hid (Below w.heap.size w q9):=zD0 (B6.out.trans (hdb.mono B6.out.size))
       clear hdb hg1 hg2 BD
       go_wp2_with fail
       go_ret
       exact⟨by rw[HF.out];rfl,BY.out⟩
      ·have hne:(xm==x)=false:=by simpa using he
       have NX:Hid (∀j (hj:j<m+1) (hl:j<LL.length),LL[j]≠x):=zD0 (fun j hj hl=>by
        rcases Nat.lt_or_ge j m with h|h
        ·exact HMS.out j h hl
        ·obtain rfl:j=m:=by omega
         exact fun h2=>he (HXM.out.trans h2))
       clear he
       go_quiet (fail)
       have hdb:=BD.out nq
       generalize wr.drewN nq=q9 at hdb⊢
       have BY:=zD0 hdb
       clear hdb hg1 hg2 BD
       go_wp2_with fail
       go_roundw
       case measure=>simp[intOf];omega
       case rel=>exact⟨m+1,by omega,by go_num,NX.out,BY.out⟩
     ·obtain rfl:m=i:=by omega
      have hmi':¬(m:Int)<m:=by omega
      have NX:Hid (∀j (hj:j<m+1) (hl:j<LL.length),(LL[j]≠p.sigs[k].2.1∧0≤atS p.secs LL[j])∧∀t (hm:t<j),(LL[t]'(by omega))≠LL[j]):=zD0 (fun j hj hl=>by
       rcases Nat.lt_or_ge j m with h|h
       ·exact HALL.out j h hl
       ·obtain rfl:j=m:=by omega
        rw[←HX.out,←HS1.out,←HKK.out]
        exact⟨⟨XS.out,K0.out⟩,fun t ht=>HMS.out t ht (by omega)⟩)
      go_wp2_with fail
      go_roundw
      case measure=>simp[intOf];omega
      case rel=>exact⟨m+1,by omega,by go_num,NX.out,BM.out⟩
   ·obtain rfl:i=N:=by omega
    have hlt':¬(i:Int)<i:=by omega
    have ALL:Hid (∀j (hl:j<LL.length),(LL[j]≠p.sigs[k].2.1∧0≤atS p.secs LL[j])∧∀m (hm:m<j),(LL[m]'(by omega))≠LL[j]):=zD0 (fun j hl=>HALL.out j (by rw[HNN.out];exact hl) hl)
    clear HALL
    go_wp2_with fail
    go_loopw [9] (fun s9 wr=>∃a:Nat,a≤l5∧s9 = .int .i64 a∧(∀j (hj:j<a) (hl:j<r.flanks.length),0≤at1 (fun x:Jn=>x.1) p.pts r.flanks[j].1∧(∀t (ht:t+1=j),(r.flanks[t]'(by omega)).1<r.flanks[j].1)∧1≤r.flanks[j].2∧r.flanks[j].2≤2)∧Below w6.heap.size w6 wr) (fun s9 _=>l5-(intOf s9).toNat)
    case atStart=>exact⟨0,by omega,by go_num,fun j hj=>absurd hj (by omega),BW.out⟩
    case round=>
     obtain⟨a,ha,rfl,hall,hbw⟩:=hrel
     have HALL:=zD0 hall
     clear BW
     have BW:=zD0 hbw
     clear hall hbw
     have XA1:=zD0 ((BW.out.block _ (zA Z2.out)).trans Z2.out)
     have XB1:=zD0 ((BW.out.block _ (zA Z3.out)).trans Z3.out)
     obtain⟨m0,m1,m2,m3,m4,m5,m6⟩:=zL XB1.out
     by_cases hlt:a<l5
     ·have hlt2:(a:Int)<l5:=by omega
      have har:a<r.flanks.length:=by have:=HN.out;omega
      obtain⟨bf,of,rfl,hbf,hc0,hc1⟩:=((HF6.out.below zM BW.out).more zM BW.out.size).at har
      obtain⟨x0,x1,hx⟩:∃x0 x1,r.flanks[a]=(x0,x1):=⟨_,_,rfl⟩
      have HX:=zD0 hx
      rw[hx] at hc0 hc1
      have hg0:wr.cell? ⟨bf,of+a*2,none⟩=some (.int .i64 x0):=hc0
      have hg1:wr.cell? ⟨bf,of+a*2+1,none⟩=some (.int .i64 x1):=hc1
      have hz0:=zB wr (.cells #[.int .i64 x0,.int .i64 x1] 140)
      have hzb:=zD wr (.cells #[.int .i64 x0,.int .i64 x1] 140)
      obtain⟨wv,hwv⟩:=zD1 (wr.alloc (.cells #[.int .i64 x0,.int .i64 x1] 140))
      rw[←hwv] at hz0 hzb
      clear hc0 hc1 hx hbf
      go_upto_region 21 with fail
      rw[←hwv]
      have BV:=zD0 (BW.out.trans (hzb.mono BW.out.size))
      have XC:=zD0 hz0
      have XA:=zD0 ((hzb.block _ (zA XA1.out)).trans XA1.out)
      have XB:=zD0 ((hzb.block _ (zA XB1.out)).trans XB1.out)
      generalize wr.heap.size=p10 at XC⊢
      clear hz0 hzb hwv m0 m1 m2 m3 m4 m5 m6 hg0 hg1 XA1 XB1
      have HPW:=zD0 ((HP6.out.below zM BV.out).more zM BV.out.size)
      have HFW:=zD0 ((HF6.out.below zM BV.out).more zM BV.out.size)
      obtain⟨kk,hkk⟩:=zD1 (at1 (fun x:Jn=>x.1) p.pts x0)
      have HKK:=zD0 hkk
      clear hkk
      have BZ:Hid (Below w.heap.size w wv.drew):=zD0 (B6.out.trans ((BV.out.drew).mono B6.out.size))
      have ME:Hid (jQ p r→0≤kk∧(∀j (hj:j+1=a),(r.flanks[j]'(by omega)).1<x0)∧1≤x1∧x1≤2):=zD0 (fun h=>by
       have h2:=h.flanks a har
       rw[HX.out] at h2
       rw[HKK.out]
       exact h2)
      have NX:Hid (0≤kk→(∀j (hj:j+1=a),(r.flanks[j]'(by omega)).1<x0)→1≤x1→x1≤2→∀j (hj:j<a+1) (hl:j<r.flanks.length),0≤at1 (fun x:Jn=>x.1) p.pts r.flanks[j].1∧(∀t (ht:t+1=j),(r.flanks[t]'(by omega)).1<r.flanks[j].1)∧1≤r.flanks[j].2∧r.flanks[j].2≤2):=zD0 (fun h1 h2 h3 h4 j hj hl=>by
       rcases Nat.lt_or_ge j a with h|h
       ·exact HALL.out j h hl
       ·obtain rfl:j=a:=by omega
        rw[HX.out]
        exact⟨by rw[←HKK.out];exact h1,h2,h3,h4⟩)
      by_cases h1:kk<0
      ·have d1:decide (kk<0)=true:=decide_eq_true h1
       have HF:Hid (xH p r=false):=zD0 (qN fun h=>by have:=(ME.out h).1;omega)
       clear h1
       refine wp_region_held_drew (S:=fun v=>Below wv.heap.size wv v) (by kernel_rfl) (Below.refl wv.heap.size wv).drew (fun zD2=>?_)
       refine tk 0 zD2 ?_;refine tkc 1 zD2 (fun w' hSw=>zE ((hSw.block _ (zA XA.out)).trans XA.out)) ?_;refine tk 2 zD2 ?_;refine tkc 3 zD2 (fun w' hSw=>zI ((hSw.block _ (zA XC.out)).trans XC.out)) ?_
       refine tkr 4 (fun K hK=>?_)
       go_simp
       refine(kU _ p.pts x0 wv.drew (HPW.out.below zM (Below.refl wv.heap.size wv).drew)).mono ?_
       rintro e w' ⟨rfl,rfl⟩
       rw[←HKK.out]
       try go_wp2_with fail
       refine hK.out _ _ ?_ fun zD2=>?_;exact(Below.refl wv.heap.size wv).drew;clear hK K;try simp only[zn,Act.put]
       refine tk 5 zD2 ?_;refine tk 6 zD2 ?_;refine tks 7 zD2 ?_;refine tks 8 zD2 ?_;refine tks 9 zD2 ?_;refine tks 10 zD2 ?_;refine tks 11 zD2 ?_;refine tks 12 zD2 ?_;refine tks 13 zD2 ?_;refine tks 14 zD2 ?_;refine tks 15 zD2 ?_;refine tks 16 zD2 ?_;refine tks 17 zD2 ?_;refine tks 18 zD2 ?_;refine tks 19 zD2 ?_;refine tks 20 zD2 ?_;refine tk 21 zD2 ?_;refine tk 22 zD2 ?_;refine tks 23 zD2 ?_;refine tks 24 zD2 ?_;refine tks 25 zD2 ?_;refine tk 26 zD2 ?_;refine tk 27 zD2 ?_;refine tks 28 zD2 ?_;refine tks 29 zD2 ?_;refine tks 30 zD2 ?_;refine tk 31 zD2 ?_
       refine wpAnyH_done (by kernel_rfl) ?_ _
       go_wp2_with fail
       go_ret
       exact⟨by rw[HF.out];rfl,BZ.out⟩
      have d1:decide (kk<0)=false:=decide_eq_false h1
      have K0:Hid (0≤kk):=zD0 (by omega)
      clear h1
      rcases Nat.eq_zero_or_pos a with rfl|hap
      ·by_cases h3:x1<1
       ·have d3:decide (x1<1)=true:=decide_eq_true h3
        have HF:Hid (xH p r=false):=zD0 (qN fun h=>by have:=(ME.out h).2.2.1;omega)
        clear h3
        refine wp_region_held_drew (S:=fun v=>Below wv.heap.size wv v) (by kernel_rfl) (Below.refl wv.heap.size wv).drew (fun zD2=>?_)
        refine tk 0 zD2 ?_;refine tkc 1 zD2 (fun w' hSw=>zE ((hSw.block _ (zA XA.out)).trans XA.out)) ?_;refine tk 2 zD2 ?_;refine tkc 3 zD2 (fun w' hSw=>zI ((hSw.block _ (zA XC.out)).trans XC.out)) ?_
        refine tkr 4 (fun K hK=>?_)
        go_simp
        refine(kU _ p.pts x0 wv.drew (HPW.out.below zM (Below.refl wv.heap.size wv).drew)).mono ?_
        rintro e w' ⟨rfl,rfl⟩
        rw[←HKK.out]
        try go_wp2_with fail
        refine hK.out _ _ ?_ fun zD2=>?_;exact(Below.refl wv.heap.size wv).drew;clear hK K;try simp only[zn,Act.put]
        refine tk 5 zD2 ?_;refine tk 6 zD2 ?_;refine tk 7 zD2 ?_;refine tk 8 zD2 ?_;refine tk 9 zD2 ?_;refine tks 10 zD2 ?_;refine tks 11 zD2 ?_;refine tks 12 zD2 ?_;refine tks 13 zD2 ?_;refine tks 14 zD2 ?_;refine tks 15 zD2 ?_;refine tks 16 zD2 ?_;refine tks 17 zD2 ?_;refine tks 18 zD2 ?_;refine tks 19 zD2 ?_;refine tk 20 zD2 ?_;refine tk 21 zD2 ?_;refine tk 22 zD2 ?_;refine tk 23 zD2 ?_;refine tkc 24 zD2 (fun w' hSw=>zI ((hSw.block _ (zA XC.out)).trans XC.out)) ?_;refine tk 25 zD2 ?_;refine tk 26 zD2 ?_;refine tk 27 zD2 ?_;refine tks 28 zD2 ?_;refine tks 29 zD2 ?_;refine tks 30 zD2 ?_;refine tk 31 zD2 ?_
        refine wpAnyH_done (by kernel_rfl) ?_ _
        go_wp2_with fail
        go_ret
        exact⟨by rw[HF.out];rfl,BZ.out⟩
       have d3:decide (x1<1)=false:=decide_eq_false h3
       by_cases h4:2<x1
       ·have d4:decide (2<x1)=true:=decide_eq_true h4
        have HF:Hid (xH p r=false):=zD0 (qN fun h=>by have:=(ME.out h).2.2.2;omega)
        clear h3 h4
        refine wp_region_held_drew (S:=fun v=>Below wv.heap.size wv v) (by kernel_rfl) (Below.refl wv.heap.size wv).drew (fun zD2=>?_)
        refine tk 0 zD2 ?_;refine tkc 1 zD2 (fun w' hSw=>zE ((hSw.block _ (zA XA.out)).trans XA.out)) ?_;refine tk 2 zD2 ?_;refine tkc 3 zD2 (fun w' hSw=>zI ((hSw.block _ (zA XC.out)).trans XC.out)) ?_
        refine tkr 4 (fun K hK=>?_)
        go_simp
        refine(kU _ p.pts x0 wv.drew (HPW.out.below zM (Below.refl wv.heap.size wv).drew)).mono ?_
        rintro e w' ⟨rfl,rfl⟩
        rw[←HKK.out]
        try go_wp2_with fail
        refine hK.out _ _ ?_ fun zD2=>?_;exact(Below.refl wv.heap.size wv).drew;clear hK K;try simp only[zn,Act.put]
        refine tk 5 zD2 ?_;refine tk 6 zD2 ?_;refine tk 7 zD2 ?_;refine tk 8 zD2 ?_;refine tk 9 zD2 ?_;refine tks 10 zD2 ?_;refine tks 11 zD2 ?_;refine tks 12 zD2 ?_;refine tks 13 zD2 ?_;refine tks 14 zD2 ?_;refine tks 15 zD2 ?_;refine tks 16 zD2 ?_;refine tks 17 zD2 ?_;refine tks 18 zD2 ?_;refine tks 19 zD2 ?_;refine tk 20 zD2 ?_;refine tk 21 zD2 ?_;refine tk 22 zD2 ?_;refine tk 23 zD2 ?_;refine tkc 24 zD2 (fun w' hSw=>zI ((hSw.block _ (zA XC.out)).trans XC.out)) ?_;refine tk 25 zD2 ?_;refine tk 26 zD2 ?_;refine tk 27 zD2 ?_;refine tk 28 zD2 ?_;refine tkc 29 zD2 (fun w' hSw=>zI ((hSw.block _ (zA XC.out)).trans XC.out)) ?_;refine tk 30 zD2 ?_;refine tk 31 zD2 ?_
        refine wpAnyH_done (by kernel_rfl) ?_ _
        go_wp2_with fail
        go_ret
        exact⟨by rw[HF.out];rfl,BZ.out⟩
       have d4:decide (2<x1)=false:=decide_eq_false h4
       have NN:=zD0 (NX.out K0.out (fun j hj=>by omega) (by omega) (by omega))
       clear h3 h4
       refine wp_region_held_drew (S:=fun v=>Below wv.heap.size wv v) (by kernel_rfl) (Below.refl wv.heap.size wv).drew (fun zD2=>?_)
       refine tk 0 zD2 ?_;refine tkc 1 zD2 (fun w' hSw=>zE ((hSw.block _ (zA XA.out)).trans XA.out)) ?_;refine tk 2 zD2 ?_;refine tkc 3 zD2 (fun w' hSw=>zI ((hSw.block _ (zA XC.out)).trans XC.out)) ?_
       refine tkr 4 (fun K hK=>?_)
       go_simp
       refine(kU _ p.pts x0 wv.drew (HPW.out.below zM (Below.refl wv.heap.size wv).drew)).mono ?_
       rintro e w' ⟨rfl,rfl⟩
       rw[←HKK.out]
       try go_wp2_with fail
       refine hK.out _ _ ?_ fun zD2=>?_;exact(Below.refl wv.heap.size wv).drew;clear hK K;try simp only[zn,Act.put]
       refine tk 5 zD2 ?_;refine tk 6 zD2 ?_;refine tk 7 zD2 ?_;refine tk 8 zD2 ?_;refine tk 9 zD2 ?_;refine tks 10 zD2 ?_;refine tks 11 zD2 ?_;refine tks 12 zD2 ?_;refine tks 13 zD2 ?_;refine tks 14 zD2 ?_;refine tks 15 zD2 ?_;refine tks 16 zD2 ?_;refine tks 17 zD2 ?_;refine tks 18 zD2 ?_;refine tks 19 zD2 ?_;refine tk 20 zD2 ?_;refine tk 21 zD2 ?_;refine tk 22 zD2 ?_;refine tk 23 zD2 ?_;refine tkc 24 zD2 (fun w' hSw=>zI ((hSw.block _ (zA XC.out)).trans XC.out)) ?_;refine tk 25 zD2 ?_;refine tk 26 zD2 ?_;refine tk 27 zD2 ?_;refine tk 28 zD2 ?_;refine tkc 29 zD2 (fun w' hSw=>zI ((hSw.block _ (zA XC.out)).trans XC.out)) ?_;refine tk 30 zD2 ?_;refine tk 31 zD2 ?_
       refine wpAnyH_done (by kernel_rfl) ?_ _
       have BD0:Hid (Below w6.heap.size w6 wv.drew):=zD0 BV.out.drew
       generalize wv.drew=wd at BD0⊢
       go_wp2_with fail
       go_roundw
       case measure=>simp[intOf];omega
       case rel=>exact⟨0+1,by omega,by go_num,NN.out,BD0.out⟩
      ·obtain⟨y1,hy1⟩:=zD1 (a-1)
       have g4:(a:Int)-1=(y1:Int):=by omega
       have g5:(y1:Int)<l5:=by omega
       have g6:IntKind.i64.wrap (y1:Int)=(y1:Int):=kA (by omega) (by omega)
       have hyr:y1<r.flanks.length:=by omega
       obtain⟨bf',of',e1,hbf',hd0,-⟩:=HFW.out.at hyr
       cases e1
       obtain⟨pv,hpv⟩:=zD1 (r.flanks[y1].1)
       have LPV:Hid (wv.cell? ⟨bf,of+y1*2,none⟩=some (.int .i64 pv)):=zD0 (by rw[hpv];exact hd0)
       have LBF:=zD0 hbf'
       have PVE:Hid (∀j (hj:j+1=a),(r.flanks[j]'(Nat.lt_trans (Nat.lt_of_succ_le (Nat.le_of_eq hj)) har)).1=pv):=zD0 (fun j hj=>by
        have e:j=y1:=by omega
        subst e
        exact hpv.symm)
       have YA:Hid (y1+1=a):=zD0 (by omega)
       clear hd0 hpv hbf' hy1
       by_cases h2:x0≤pv
       ·have d2:decide (x0≤pv)=true:=decide_eq_true h2
        have HF:Hid (xH p r=false):=zD0 (qN fun h=>by
         have h5:=(ME.out h).2.1 y1 YA.out
         rw[PVE.out y1 YA.out] at h5
         omega)
        clear h2
        refine wp_region_held_drew (S:=fun v=>Below wv.heap.size wv v) (by kernel_rfl) (Below.refl wv.heap.size wv).drew (fun zD2=>?_)
        refine tk 0 zD2 ?_;refine tkc 1 zD2 (fun w' hSw=>zE ((hSw.block _ (zA XA.out)).trans XA.out)) ?_;refine tk 2 zD2 ?_;refine tkc 3 zD2 (fun w' hSw=>zI ((hSw.block _ (zA XC.out)).trans XC.out)) ?_
        refine tkr 4 (fun K hK=>?_)
        go_simp
        refine(kU _ p.pts x0 wv.drew (HPW.out.below zM (Below.refl wv.heap.size wv).drew)).mono ?_
        rintro e w' ⟨rfl,rfl⟩
        rw[←HKK.out]
        try go_wp2_with fail
        refine hK.out _ _ ?_ fun zD2=>?_;exact(Below.refl wv.heap.size wv).drew;clear hK K;try simp only[zn,Act.put]
        refine tk 5 zD2 ?_;refine tk 6 zD2 ?_;refine tk 7 zD2 ?_;refine tk 8 zD2 ?_;refine tk 9 zD2 ?_;refine tk 10 zD2 ?_;refine tkc 11 zD2 (fun w' hSw=>zL ((hSw.block _ (zA XB.out)).trans XB.out)) ?_;refine tk 12 zD2 ?_;refine tk 13 zD2 ?_;refine tk 14 zD2 ?_;refine tk 15 zD2 ?_;refine tkc 16 zD2 (fun w' hSw=>(hSw.cell (p:=⟨bf,of+y1*2,none⟩) LBF.out).trans LPV.out) ?_;refine tk 17 zD2 ?_;refine tkc 18 zD2 (fun w' hSw=>zI ((hSw.block _ (zA XC.out)).trans XC.out)) ?_;refine tk 19 zD2 ?_;refine tk 20 zD2 ?_;refine tk 21 zD2 ?_;refine tk 22 zD2 ?_;refine tks 23 zD2 ?_;refine tks 24 zD2 ?_;refine tks 25 zD2 ?_;refine tk 26 zD2 ?_;refine tk 27 zD2 ?_;refine tks 28 zD2 ?_;refine tks 29 zD2 ?_;refine tks 30 zD2 ?_;refine tk 31 zD2 ?_
        refine wpAnyH_done (by kernel_rfl) ?_ _
        go_wp2_with fail
        go_ret
        exact⟨by rw[HF.out];rfl,BZ.out⟩
       have d2:decide (x0≤pv)=false:=decide_eq_false h2
       have PLT:Hid (∀j (hj:j+1=a),(r.flanks[j]'(by omega)).1<x0):=zD0 (fun j hj=>by rw[PVE.out j hj];omega)
       clear h2
       by_cases h3:x1<1
       ·have d3:decide (x1<1)=true:=decide_eq_true h3
        have HF:Hid (xH p r=false):=zD0 (qN fun h=>by have:=(ME.out h).2.2.1;omega)
        clear h3
        refine wp_region_held_drew (S:=fun v=>Below wv.heap.size wv v) (by kernel_rfl) (Below.refl wv.heap.size wv).drew (fun zD2=>?_)
        refine tk 0 zD2 ?_;refine tkc 1 zD2 (fun w' hSw=>zE ((hSw.block _ (zA XA.out)).trans XA.out)) ?_;refine tk 2 zD2 ?_;refine tkc 3 zD2 (fun w' hSw=>zI ((hSw.block _ (zA XC.out)).trans XC.out)) ?_
        refine tkr 4 (fun K hK=>?_)
        go_simp
        refine(kU _ p.pts x0 wv.drew (HPW.out.below zM (Below.refl wv.heap.size wv).drew)).mono ?_
        rintro e w' ⟨rfl,rfl⟩
        rw[←HKK.out]
        try go_wp2_with fail
        refine hK.out _ _ ?_ fun zD2=>?_;exact(Below.refl wv.heap.size wv).drew;clear hK K;try simp only[zn,Act.put]
        refine tk 5 zD2 ?_;refine tk 6 zD2 ?_;refine tk 7 zD2 ?_;refine tk 8 zD2 ?_;refine tk 9 zD2 ?_;refine tk 10 zD2 ?_;refine tkc 11 zD2 (fun w' hSw=>zL ((hSw.block _ (zA XB.out)).trans XB.out)) ?_;refine tk 12 zD2 ?_;refine tk 13 zD2 ?_;refine tk 14 zD2 ?_;refine tk 15 zD2 ?_;refine tkc 16 zD2 (fun w' hSw=>(hSw.cell (p:=⟨bf,of+y1*2,none⟩) LBF.out).trans LPV.out) ?_;refine tk 17 zD2 ?_;refine tkc 18 zD2 (fun w' hSw=>zI ((hSw.block _ (zA XC.out)).trans XC.out)) ?_;refine tk 19 zD2 ?_;refine tk 20 zD2 ?_;refine tk 21 zD2 ?_;refine tk 22 zD2 ?_;refine tk 23 zD2 ?_;refine tkc 24 zD2 (fun w' hSw=>zI ((hSw.block _ (zA XC.out)).trans XC.out)) ?_;refine tk 25 zD2 ?_;refine tk 26 zD2 ?_;refine tk 27 zD2 ?_;refine tks 28 zD2 ?_;refine tks 29 zD2 ?_;refine tks 30 zD2 ?_;refine tk 31 zD2 ?_
        refine wpAnyH_done (by kernel_rfl) ?_ _
        go_wp2_with fail
        go_ret
        exact⟨by rw[HF.out];rfl,BZ.out⟩
       have d3:decide (x1<1)=false:=decide_eq_false h3
       by_cases h4:2<x1
       ·have d4:decide (2<x1)=true:=decide_eq_true h4
        have HF:Hid (xH p r=false):=zD0 (qN fun h=>by have:=(ME.out h).2.2.2;omega)
        clear h3 h4
        refine wp_region_held_drew (S:=fun v=>Below wv.heap.size wv v) (by kernel_rfl) (Below.refl wv.heap.size wv).drew (fun zD2=>?_)
        refine tk 0 zD2 ?_;refine tkc 1 zD2 (fun w' hSw=>zE ((hSw.block _ (zA XA.out)).trans XA.out)) ?_;refine tk 2 zD2 ?_;refine tkc 3 zD2 (fun w' hSw=>zI ((hSw.block _ (zA XC.out)).trans XC.out)) ?_
        refine tkr 4 (fun K hK=>?_)
        go_simp
        refine(kU _ p.pts x0 wv.drew (HPW.out.below zM (Below.refl wv.heap.size wv).drew)).mono ?_
        rintro e w' ⟨rfl,rfl⟩
        rw[←HKK.out]
        try go_wp2_with fail
        refine hK.out _ _ ?_ fun zD2=>?_;exact(Below.refl wv.heap.size wv).drew;clear hK K;try simp only[zn,Act.put]
        refine tk 5 zD2 ?_;refine tk 6 zD2 ?_;refine tk 7 zD2 ?_;refine tk 8 zD2 ?_;refine tk 9 zD2 ?_;refine tk 10 zD2 ?_;refine tkc 11 zD2 (fun w' hSw=>zL ((hSw.block _ (zA XB.out)).trans XB.out)) ?_;refine tk 12 zD2 ?_;refine tk 13 zD2 ?_;refine tk 14 zD2 ?_;refine tk 15 zD2 ?_;refine tkc 16 zD2 (fun w' hSw=>(hSw.cell (p:=⟨bf,of+y1*2,none⟩) LBF.out).trans LPV.out) ?_;refine tk 17 zD2 ?_;refine tkc 18 zD2 (fun w' hSw=>zI ((hSw.block _ (zA XC.out)).trans XC.out)) ?_;refine tk 19 zD2 ?_;refine tk 20 zD2 ?_;refine tk 21 zD2 ?_;refine tk 22 zD2 ?_;refine tk 23 zD2 ?_;refine tkc 24 zD2 (fun w' hSw=>zI ((hSw.block _ (zA XC.out)).trans XC.out)) ?_;refine tk 25 zD2 ?_;refine tk 26 zD2 ?_;refine tk 27 zD2 ?_;refine tk 28 zD2 ?_;refine tkc 29 zD2 (fun w' hSw=>zI ((hSw.block _ (zA XC.out)).trans XC.out)) ?_;refine tk 30 zD2 ?_;refine tk 31 zD2 ?_
        refine wpAnyH_done (by kernel_rfl) ?_ _
        go_wp2_with fail
        go_ret
        exact⟨by rw[HF.out];rfl,BZ.out⟩
       have d4:decide (2<x1)=false:=decide_eq_false h4
       have NN:=zD0 (NX.out K0.out PLT.out (by omega) (by omega))
       clear h3 h4
       refine wp_region_held_drew (S:=fun v=>Below wv.heap.size wv v) (by kernel_rfl) (Below.refl wv.heap.size wv).drew (fun zD2=>?_)
       refine tk 0 zD2 ?_;refine tkc 1 zD2 (fun w' hSw=>zE ((hSw.block _ (zA XA.out)).trans XA.out)) ?_;refine tk 2 zD2 ?_;refine tkc 3 zD2 (fun w' hSw=>zI ((hSw.block _ (zA XC.out)).trans XC.out)) ?_
       refine tkr 4 (fun K hK=>?_)
       go_simp
       refine(kU _ p.pts x0 wv.drew (HPW.out.below zM (Below.refl wv.heap.size wv).drew)).mono ?_
       rintro e w' ⟨rfl,rfl⟩
       rw[←HKK.out]
       try go_wp2_with fail
       refine hK.out _ _ ?_ fun zD2=>?_;exact(Below.refl wv.heap.size wv).drew;clear hK K;try simp only[zn,Act.put]
       refine tk 5 zD2 ?_;refine tk 6 zD2 ?_;refine tk 7 zD2 ?_;refine tk 8 zD2 ?_;refine tk 9 zD2 ?_;refine tk 10 zD2 ?_;refine tkc 11 zD2 (fun w' hSw=>zL ((hSw.block _ (zA XB.out)).trans XB.out)) ?_;refine tk 12 zD2 ?_;refine tk 13 zD2 ?_;refine tk 14 zD2 ?_;refine tk 15 zD2 ?_;refine tkc 16 zD2 (fun w' hSw=>(hSw.cell (p:=⟨bf,of+y1*2,none⟩) LBF.out).trans LPV.out) ?_;refine tk 17 zD2 ?_;refine tkc 18 zD2 (fun w' hSw=>zI ((hSw.block _ (zA XC.out)).trans XC.out)) ?_;refine tk 19 zD2 ?_;refine tk 20 zD2 ?_;refine tk 21 zD2 ?_;refine tk 22 zD2 ?_;refine tk 23 zD2 ?_;refine tkc 24 zD2 (fun w' hSw=>zI ((hSw.block _ (zA XC.out)).trans XC.out)) ?_;refine tk 25 zD2 ?_;refine tk 26 zD2 ?_;refine tk 27 zD2 ?_;refine tk 28 zD2 ?_;refine tkc 29 zD2 (fun w' hSw=>zI ((hSw.block _ (zA XC.out)).trans XC.out)) ?_;refine tk 30 zD2 ?_;refine tk 31 zD2 ?_
       refine wpAnyH_done (by kernel_rfl) ?_ _
       have BD0:Hid (Below w6.heap.size w6 wv.drew):=zD0 BV.out.drew
       generalize wv.drew=wd at BD0⊢
       go_wp2_with fail
       go_roundw
       case measure=>simp[intOf];omega
       case rel=>exact⟨a+1,by omega,by go_num,NN.out,BD0.out⟩
     ·obtain rfl:a=l5:=by omega
      have hlt2:¬(a:Int)<a:=by omega
      have HR:Hid (xH p r=true):=zD0 (zB7 (by
       have hA:=ALL.out
       rw[HLL.out] at hA
       exact⟨⟨k,hkr,HKE.out.symm,fun i h=>(hA i h).1.1⟩,EX1.out.1,EX1.out.2,PARTS.out.1,PARTS.out.2.1,PARTS.out.2.2.1,PARTS.out.2.2.2,fun i h=>⟨(hA i h).1.2,(hA i h).2⟩,fun i h=>HALL.out i (by have:=HN.out;omega) h⟩))
      have BY:Hid (Below w.heap.size w wr):=zD0 (B6.out.trans (BW.out.mono B6.out.size))
      go_wp2_with fail
      go_ret
      exact⟨by rw[HR.out];rfl,BY.out⟩
end Go.Proofs.YtemmgmjhomgbbaaGreat
