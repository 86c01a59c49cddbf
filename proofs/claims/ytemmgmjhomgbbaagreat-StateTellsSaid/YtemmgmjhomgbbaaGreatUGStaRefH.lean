/-
 The document's own package state: Of, Lie.
 Conditions: none.
-/
import Derived.Test.YtemmgmjhomgbbaaGreatUGStaRefD
import Derived.Test.YtemmgmjhomgbbaaGreatUStaPG
import Derived.Test.YtemmgmjhomgbbaaGreatUGSndRef
set_option linter.unusedVariables false
set_option linter.unusedSimpArgs false
set_option maxRecDepth 100000
namespace Go.Proofs.YtemmgmjhomgbbaaGreat
open Go.RowKit
set_option maxHeartbeats 16000000 in
theorem rof15_any (v y:Value) (p:Pl) (s:qD) (id:Int) (w:World) (h:qF w w.heap.size v p) (h':qL w w.heap.size y s) (hm:yD p s):
  Calls Tryz.prog 28 #[v,y,.int .i64 id] w fun e w'=>e = .returned (.int .i64 (whoL p s id))∧Below w.heap.size w w':=by
 obtain⟨p2,p3,p4,p5,rfl,h⟩:=h
 obtain⟨A2,a2,rfl,hcl,hcm⟩:=h.secs.slice
 obtain⟨b2,hb2⟩:=zD1 (p.secs.length)
 have P2:Hid (zX w w.heap.size (.slice A2 b2 a2) p.secs):=zD0 (by rw[hb2];exact h.secs)
 have hbb2:b2≤9223372036854775807:=by unfold maxLen at hcm;omega
 rw[←hb2]
 clear hcl hcm
 obtain⟨A3,a3,rfl,hcl,hcm⟩:=h.pts.slice
 obtain⟨b3,hb3⟩:=zD1 (p.pts.length)
 have P3:Hid (zT w w.heap.size (.slice A3 b3 a3) p.pts):=zD0 (by rw[hb3];exact h.pts)
 have hbb3:b3≤9223372036854775807:=by unfold maxLen at hcm;omega
 rw[←hb3]
 clear hcl hcm
 obtain⟨A4,a4,rfl,hcl,hcm⟩:=h.sigs.slice
 obtain⟨b4,hb4⟩:=zD1 (p.sigs.length)
 have P4:Hid (xI w w.heap.size (.slice A4 b4 a4) p.sigs):=zD0 (by rw[hb4];exact h.sigs)
 have hbb4:b4≤9223372036854775807:=by unfold maxLen at hcm;omega
 rw[←hb4]
 clear hcl hcm
 obtain⟨A5,a5,rfl,hcl,hcm⟩:=h.routes.slice
 obtain⟨b5,hb5⟩:=zD1 (p.routes.length)
 have P5:Hid (qX w w.heap.size (.slice A5 b5 a5) p.routes):=zD0 (by rw[hb5];exact h.routes)
 have hbb5:b5≤9223372036854775807:=by unfold maxLen at hcm;omega
 rw[←hb5]
 clear hcl hcm
 have HBL:Hid (b2=p.secs.length∧b3=p.pts.length∧b4=p.sigs.length∧b5=p.routes.length):=zD0 ⟨hb2,hb3,hb4,hb5⟩
 clear h hb2 hb3 hb4 hb5
 obtain⟨_,_,_,rfl,h'⟩:=h'
 obtain⟨S0,Sc0,rfl,hcl,hcm⟩:=h'.tr.slice
 obtain⟨Sn0,hS0⟩:=zD1 (s.tr.length)
 have HS0:Hid (jD w w.heap.size (.slice S0 Sn0 Sc0) s.tr):=zD0 (by rw[hS0];exact h'.tr)
 have hbS0:Sn0≤9223372036854775807:=by unfold maxLen at hcm;omega
 rw[←hS0]
 clear hcl hcm
 obtain⟨S1,Sc1,rfl,hcl,hcm⟩:=h'.sw.slice
 obtain⟨Sn1,hS1⟩:=zD1 (s.sw.length)
 have HS1:Hid (xP w w.heap.size (.slice S1 Sn1 Sc1) s.sw):=zD0 (by rw[hS1];exact h'.sw)
 have hbS1:Sn1≤9223372036854775807:=by unfold maxLen at hcm;omega
 rw[←hS1]
 clear hcl hcm
 obtain⟨S2,Sc2,rfl,hcl,hcm⟩:=h'.lk.slice
 obtain⟨Sn2,hS2⟩:=zD1 (s.lk.length)
 have HS2:Hid (xO w w.heap.size (.slice S2 Sn2 Sc2) s.lk):=zD0 (by rw[hS2];exact h'.lk)
 have hbS2:Sn2≤9223372036854775807:=by unfold maxLen at hcm;omega
 rw[←hS2]
 clear hcl hcm
 have NS:Hid (Sn0=s.tr.length∧Sn1=s.sw.length∧Sn2=s.lk.length):=zD0 ⟨hS0,hS1,hS2⟩
 clear h' hS0 hS1 hS2
 have PV:Hid (∀W,Below w.heap.size w W→qF W W.heap.size (.agg #[.int .i64 p.ver,.int .i64 p.par,.slice A2 b2 a2,.slice A3 b3 a3,.slice A4 b4 a4,.slice A5 b5 a5]) p):=zD0 (fun W b=>⟨_,_,_,_,rfl,⟨(P2.out.below zN b).more zN b.size,(P3.out.below zM b).more zM b.size,(P4.out.below zP b).more zP b.size,(P5.out.below qM b).more qM b.size⟩⟩)
 have SV:Hid (∀W,Below w.heap.size w W→qL W W.heap.size (.agg #[.slice S0 Sn0 Sc0,.slice S1 Sn1 Sc1,.slice S2 Sn2 Sc2]) s):=zD0 (fun W b=>⟨_,_,_,rfl,⟨(HS0.out.below xY b).more xY b.size,(HS1.out.below zP b).more zP b.size,(HS2.out.below xQ b).more xQ b.size⟩⟩)
 have HM:=zD0 hm
 obtain⟨RR,hR⟩:=zD1 (whoL p s id)
 have HR:=zD0 hR
 rw[←hR]
 clear hR hm P2 P3 P4 P5 HBL hbb2 hbb3 hbb4 hbb5 hbS0 hbS1 HS0 HS1
 have hq:=zV w (.cells #[.int .i64 p.ver,.int .i64 p.par,.slice A2 b2 a2,.slice A3 b3 a3,.slice A4 b4 a4,.slice A5 b5 a5] 27) (.cells #[.slice S0 Sn0 Sc0,.slice S1 Sn1 Sc1,.slice S2 Sn2 Sc2] 32)
 go_enter Tryz.func28,Tryz.ntmps28
 go_upto_region 1 with fail
 generalize (w.alloc (.cells #[.int .i64 p.ver,.int .i64 p.par,.slice A2 b2 a2,.slice A3 b3 a3,.slice A4 b4 a4,.slice A5 b5 a5] 27)).alloc (.cells #[.slice S0 Sn0 Sc0,.slice S1 Sn1 Sc1,.slice S2 Sn2 Sc2] 32)=q at hq⊢
 obtain⟨q0,q1,qb⟩:=hq
 have X:=zD0 q0
 have Y:=zD0 q1
 have BQ:=zD0 qb
 clear q0 q1 qb
 go_upto_region 2 with fail
 go_loopw [7] (fun s7 wr=>∃i:Nat,i≤Sn2∧s7 = .int .i64 i∧(∀k,k<i→id∉jH p s k)∧Below q.heap.size q wr) (fun s7 _=>Sn2-(intOf s7).toNat)
 case atStart=>exact⟨0,by omega,by go_num,fun k hk=>absurd hk (by omega),Below.refl _ _⟩
 case round=>
  obtain⟨wx,hwx⟩:=zD1 (wr)
  subst hwx
  obtain⟨i,hi,rfl,hall,hbw⟩:=hrel
  have HALL:=zD0 hall
  have BW:=zD0 hbw
  clear hall hbw
  have BF:=zD0 (BQ.out.trans (BW.out.mono BQ.out.size))
  have XPw:=zD0 ((BW.out.block _ (zA X.out)).trans X.out)
  have YPw:=zD0 ((BW.out.block _ (zA Y.out)).trans Y.out)
  obtain⟨m0,m1,m2⟩:=zC YPw.out
  by_cases hlt:i<Sn2
  ·have hlt':(i:Int)<Sn2:=by omega
   have hir:i<s.lk.length:=by have:=NS.out;omega
   obtain⟨ba,oa,hes,hba,hc0,hc1,hc2,hc3,-,-⟩:=((HS2.out.below xQ BF.out).more xQ BF.out.size).at hir
   cases hes
   obtain⟨a0_,ha0⟩:=zD1 (s.lk[i].1)
   rw[←ha0] at hc0
   obtain⟨a1_,ha1⟩:=zD1 (s.lk[i].2.1)
   rw[←ha1] at hc1
   obtain⟨a2_,ha2⟩:=zD1 (s.lk[i].2.2.1)
   rw[←ha2] at hc2
   obtain⟨a3_,ha3⟩:=zD1 (s.lk[i].2.2.2)
   rw[←ha3] at hc3
   have HAL:Hid (s.lk[i]=(a0_,a1_,a2_,a3_)):=zD0 (by rw[ha0,ha1,ha2,ha3])
   have G0:Hid (wx.cell? ⟨ba,oa+i*4,none⟩=some (.int .i64 a0_)):=zD0 hc0
   have G1:Hid (wx.cell? ⟨ba,oa+i*4+1,none⟩=some (.int .u8 a1_)):=zD0 hc1
   have G2:Hid (wx.cell? ⟨ba,oa+i*4+2,none⟩=some (.int .i64 a2_)):=zD0 hc2
   have G3:Hid (wx.cell? ⟨ba,oa+i*4+3,none⟩=some (.int .i64 a3_)):=zD0 hc3
   clear hc0 hc1 hc2 hc3 ha0 ha1 ha2 ha3 hba
   go_upto_region 4 with fail
   clear m0 m1 m2
   have HPR:Hid (∃hp:i<p.routes.length,rtN p i=p.routes[i]∧lkN s i=(a0_,a1_,a2_,a3_)):=zD0 (by
    have hp:i<p.routes.length:=by rw[←HM.out.parts.nl];exact hir
    exact⟨hp,vP hp,by rw[lkN_at hir,HAL.out]⟩)
   have HC0:Hid (a1_≠0→0≤a2_):=zD0 (by
    have h:=zDg HM.out.sound.may HM.out.parts hir
    rw[HAL.out] at h
    exact fun g=>(h g).1)
   have SD:=(Below.refl wx.heap.size wx).drew
   refine wp_region_held_drew (S:=fun v=>Below wx.heap.size wx v) (by kernel_rfl) SD (fun zD2=>?_)
   refine tkc 0 zD2 (fun w' hSw=>zE ((hSw.block _ (zA XPw.out)).trans XPw.out)) ?_;refine tk 1 zD2 ?_;refine tkc 2 zD2 (fun w' hSw=>zC ((hSw.block _ (zA YPw.out)).trans YPw.out)) ?_;refine tk 3 zD2 ?_;refine tk 4 zD2 ?_
   refine wpAnyH_take (i:=5) (v:=?_) rfl (by kernel_rfl) (by kernel_rfl) (by kernel_rfl) (fun _ _ _ h=>h) (Or.inl ⟨by rfl,?_⟩) zD2 ?_
   rotate_left
   ·intro w' hSw;have cG0:=(hSw.cell (zG G0.out)).trans G0.out;have cG1:=(hSw.cell (zG G1.out)).trans G1.out;have cG2:=(hSw.cell (zG G2.out)).trans G2.out;have cG3:=(hSw.cell (zG G3.out)).trans G3.out;go_simp;try with_reducible rfl
   simp only[zn,Act.put]
   refine tk 6 zD2 ?_
   refine tkr 7 (fun K hK=>?_)
   go_simp
   refine(rheld15_any _ p (rtN p i) i HPR.out.1 HPR.out.2.1.symm HM.out.sound a0_ a1_ a2_ a3_ HC0.out wx.drew (PV.out _ (BF.out.trans (SD.mono BF.out.size)))).mono ?_
   rintro e v5 ⟨u,rfl,hu,b⟩
   have hu:qV v5 wx.heap.size u (jH p s i):=by
    have e:jH p s i=heldL (rtN p i) (a0_,a1_,a2_,a3_):=by unfold jH;rw[HPR.out.2.2]
    rw[e];exact hu
   obtain⟨LL,hLL⟩:=zD1 (jH p s i)
   rw[←hLL] at hu
   have HLL:=zD0 hLL
   clear hLL
   obtain⟨A8,c8,rfl,hy1,hy2⟩:=(hu.in_ zZ).slice
   obtain⟨m8,hm8⟩:=zD1 (LL.length)
   have HU:Hid (xB v5 v5.heap.size (.slice A8 m8 c8) LL):=zD0 (by rw[hm8];exact hu.in_ zZ)
   rw[←hm8]
   have HO:Hid (qV v5 wx.heap.size (.slice A8 m8 c8) LL):=zD0 (by rw[hm8];exact hu)
   have hm8m:m8≤9223372036854775807:=by unfold maxLen at hy2;omega
   have HM8:=zD0 hm8
   have B5:Hid (Below wx.heap.size wx v5):=zD0 (SD.trans (b.mono SD.size))
   clear b hu hy1 hy2 hm8
   try go_wp2_with fail
   refine hK.out _ _ ?_ fun zD2=>?_;exact B5.out;clear hK K;try simp only[zn,Act.put]
   refine tk 8 zD2 ?_
   refine wpAnyH_done (by kernel_rfl) ?_ _
   have B9:=zD0 (BF.out.trans (B5.out.mono BF.out.size))
   have X9:=zD0 ((B5.out.block _ (zA XPw.out)).trans XPw.out)
   have Y9:=zD0 ((B5.out.block _ (zA YPw.out)).trans YPw.out)
   have N0:=zD0 ((B5.out.cell (zG G0.out)).trans G0.out)
   have N1:=zD0 ((B5.out.cell (zG G1.out)).trans G1.out)
   have N2:=zD0 ((B5.out.cell (zG G2.out)).trans G2.out)
   have N3:=zD0 ((B5.out.cell (zG G3.out)).trans G3.out)
   have BW9:=zD0 (BW.out.trans (B5.out.mono BW.out.size))
   clear SD B5 XPw YPw G0 G1 G2 G3 BF BW
   go_upto_region 6 with fail
   go_loopw [9] (fun s9 wr=>∃j:Nat,j≤m8∧s9 = .int .i64 j∧(∀k (hk:k<j) (hl:k<LL.length),LL[k]≠id)∧Below v5.heap.size v5 wr) (fun s9 _=>m8-(intOf s9).toNat)
   case atStart=>exact⟨0,by omega,by go_num,fun k hk=>absurd hk (by omega),Below.refl _ _⟩
   case round=>
    obtain⟨wz,hwz⟩:=zD1 (wr)
    subst hwz
    obtain⟨j,hj,rfl,hall,hbw⟩:=hrel
    have HALJ:=zD0 hall
    have BZ:=zD0 hbw
    clear hall hbw
    by_cases hjl:j<m8
    ·have hjl':(j:Int)<m8:=by omega
     have hjr:j<LL.length:=by have:=HM8.out;omega
     obtain⟨bs,os,ebs,hbs,hs0⟩:=((HU.out.below qI BZ.out).more qI BZ.out.size).at hjr
     obtain⟨z0_,hz0⟩:=zD1 (LL[j])
     rw[←hz0] at hs0
     have g0:wz.cell? ⟨bs,os+j,none⟩=some (.int .i64 z0_):=by simpa [jU] using hs0
     have HZ0:=zD0 hz0
     subst ebs
     clear hs0 hz0 hbs
     by_cases hzi:z0_=id
     ·have hzi':(z0_==id)=true:=by simpa using hzi
      have HF:Hid (RR=a0_):=zD0 (by
       have hin:id∈jH p s i:=by
        rw[←HLL.out,←hzi,HZ0.out]
        exact List.getElem_mem hjr
       rw[HR.out,(who_iff HM.out hir id).2 hin,HPR.out.2.2])
      have n0:=(BZ.out.cell (zG N0.out)).trans N0.out
      obtain⟨m0,m1,m2⟩:=zC ((BZ.out.block _ (zA Y9.out)).trans Y9.out)
      clear hzi
      go_wp2_with fail
      go_ret
      exact⟨by rw[HF.out];rfl,B9.out.trans (BZ.out.mono B9.out.size)⟩
     ·have hzi':(z0_==id)=false:=by simpa using hzi
      have NX:Hid (∀k (hk:k<j+1) (hl:k<LL.length),LL[k]≠id):=zD0 (fun k hk hl=>by
       rcases Nat.lt_or_ge k j with h|h
       ·exact HALJ.out k h hl
       ·obtain rfl:k=j:=by omega
        rw[←HZ0.out];exact hzi)
      clear hzi
      go_wp2_with fail
      go_roundw
      case measure=>simp[intOf];omega
      case rel=>exact⟨j+1,by omega,by go_num,NX.out,BZ.out⟩
    ·obtain rfl:j=m8:=by omega
     have hjl':¬(j:Int)<j:=by omega
     have NX:Hid (∀k,k<i+1→id∉jH p s k):=zD0 (fun k hk=>by
      rcases Nat.lt_or_ge k i with h|h
      ·exact HALL.out k h
      ·obtain rfl:k=i:=by omega
       rw[←HLL.out]
       intro g
       obtain⟨n,hn,e⟩:=List.getElem_of_mem g
       exact HALJ.out n (by rw[HM8.out];exact hn) hn e)
     go_wp2_with fail
     go_roundw
     case measure=>simp[intOf];omega
     case rel=>exact⟨i+1,by omega,by go_num,NX.out,BW9.out.trans (BZ.out.mono BW9.out.size)⟩
  ·obtain rfl:Sn2=i:=by omega
   have hlt':¬(Sn2:Int)<Sn2:=by omega
   have HF:Hid (RR=0):=zD0 (HR.out.trans (who_none fun k hk=>HALL.out k (by rw[NS.out.2.2];exact hk)))
   go_wp2_with fail
   go_ret
   exact⟨by rw[HF.out];rfl,BF.out⟩
set_option maxHeartbeats 16000000 in
theorem rlieof15_any (v y:Value) (p:Pl) (s:qD) (id:Int) (w:World) (h:qF w w.heap.size v p) (h':qL w w.heap.size y s) (hm:yD p s):
  Calls Tryz.prog 32 #[v,y,.int .i64 id] w fun e w'=>e = .returned (.int .i64 (lieL p s id))∧Below w.heap.size w w':=by
 obtain⟨p2,p3,p4,p5,rfl,h⟩:=h
 obtain⟨A2,a2,rfl,hcl,hcm⟩:=h.secs.slice
 obtain⟨b2,hb2⟩:=zD1 (p.secs.length)
 have P2:Hid (zX w w.heap.size (.slice A2 b2 a2) p.secs):=zD0 (by rw[hb2];exact h.secs)
 have hbb2:b2≤9223372036854775807:=by unfold maxLen at hcm;omega
 rw[←hb2]
 clear hcl hcm
 obtain⟨A3,a3,rfl,hcl,hcm⟩:=h.pts.slice
 obtain⟨b3,hb3⟩:=zD1 (p.pts.length)
 have P3:Hid (zT w w.heap.size (.slice A3 b3 a3) p.pts):=zD0 (by rw[hb3];exact h.pts)
 have hbb3:b3≤9223372036854775807:=by unfold maxLen at hcm;omega
 rw[←hb3]
 clear hcl hcm
 obtain⟨A4,a4,rfl,hcl,hcm⟩:=h.sigs.slice
 obtain⟨b4,hb4⟩:=zD1 (p.sigs.length)
 have P4:Hid (xI w w.heap.size (.slice A4 b4 a4) p.sigs):=zD0 (by rw[hb4];exact h.sigs)
 have hbb4:b4≤9223372036854775807:=by unfold maxLen at hcm;omega
 rw[←hb4]
 clear hcl hcm
 obtain⟨A5,a5,rfl,hcl,hcm⟩:=h.routes.slice
 obtain⟨b5,hb5⟩:=zD1 (p.routes.length)
 have P5:Hid (qX w w.heap.size (.slice A5 b5 a5) p.routes):=zD0 (by rw[hb5];exact h.routes)
 have hbb5:b5≤9223372036854775807:=by unfold maxLen at hcm;omega
 rw[←hb5]
 clear hcl hcm
 have HBL:Hid (b2=p.secs.length∧b3=p.pts.length∧b4=p.sigs.length∧b5=p.routes.length):=zD0 ⟨hb2,hb3,hb4,hb5⟩
 clear h hb2 hb3 hb4 hb5
 obtain⟨_,_,_,rfl,h'⟩:=h'
 obtain⟨S0,Sc0,rfl,hcl,hcm⟩:=h'.tr.slice
 obtain⟨Sn0,hS0⟩:=zD1 (s.tr.length)
 have HS0:Hid (jD w w.heap.size (.slice S0 Sn0 Sc0) s.tr):=zD0 (by rw[hS0];exact h'.tr)
 have hbS0:Sn0≤9223372036854775807:=by unfold maxLen at hcm;omega
 rw[←hS0]
 clear hcl hcm
 obtain⟨S1,Sc1,rfl,hcl,hcm⟩:=h'.sw.slice
 obtain⟨Sn1,hS1⟩:=zD1 (s.sw.length)
 have HS1:Hid (xP w w.heap.size (.slice S1 Sn1 Sc1) s.sw):=zD0 (by rw[hS1];exact h'.sw)
 have hbS1:Sn1≤9223372036854775807:=by unfold maxLen at hcm;omega
 rw[←hS1]
 clear hcl hcm
 obtain⟨S2,Sc2,rfl,hcl,hcm⟩:=h'.lk.slice
 obtain⟨Sn2,hS2⟩:=zD1 (s.lk.length)
 have HS2:Hid (xO w w.heap.size (.slice S2 Sn2 Sc2) s.lk):=zD0 (by rw[hS2];exact h'.lk)
 have hbS2:Sn2≤9223372036854775807:=by unfold maxLen at hcm;omega
 rw[←hS2]
 clear hcl hcm
 have NS:Hid (Sn0=s.tr.length∧Sn1=s.sw.length∧Sn2=s.lk.length):=zD0 ⟨hS0,hS1,hS2⟩
 clear h' hS0 hS1 hS2
 have PV:Hid (∀W,Below w.heap.size w W→qF W W.heap.size (.agg #[.int .i64 p.ver,.int .i64 p.par,.slice A2 b2 a2,.slice A3 b3 a3,.slice A4 b4 a4,.slice A5 b5 a5]) p):=zD0 (fun W b=>⟨_,_,_,_,rfl,⟨(P2.out.below zN b).more zN b.size,(P3.out.below zM b).more zM b.size,(P4.out.below zP b).more zP b.size,(P5.out.below qM b).more qM b.size⟩⟩)
 have SV:Hid (∀W,Below w.heap.size w W→qL W W.heap.size (.agg #[.slice S0 Sn0 Sc0,.slice S1 Sn1 Sc1,.slice S2 Sn2 Sc2]) s):=zD0 (fun W b=>⟨_,_,_,rfl,⟨(HS0.out.below xY b).more xY b.size,(HS1.out.below zP b).more zP b.size,(HS2.out.below xQ b).more xQ b.size⟩⟩)
 have HM:=zD0 hm
 obtain⟨RR,hR⟩:=zD1 (lieL p s id)
 have HR:=zD0 hR
 rw[←hR]
 clear hR hm P2 P3 P4 P5 HBL hbb2 hbb3 hbb4 hbb5 hbS0 hbS1 HS0 HS1
 have hq:=zV w (.cells #[.int .i64 p.ver,.int .i64 p.par,.slice A2 b2 a2,.slice A3 b3 a3,.slice A4 b4 a4,.slice A5 b5 a5] 27) (.cells #[.slice S0 Sn0 Sc0,.slice S1 Sn1 Sc1,.slice S2 Sn2 Sc2] 32)
 go_enter Tryz.func32,Tryz.ntmps32
 go_upto_region 1 with fail
 generalize (w.alloc (.cells #[.int .i64 p.ver,.int .i64 p.par,.slice A2 b2 a2,.slice A3 b3 a3,.slice A4 b4 a4,.slice A5 b5 a5] 27)).alloc (.cells #[.slice S0 Sn0 Sc0,.slice S1 Sn1 Sc1,.slice S2 Sn2 Sc2] 32)=q at hq⊢
 obtain⟨q0,q1,qb⟩:=hq
 have X:=zD0 q0
 have Y:=zD0 q1
 have BQ:=zD0 qb
 clear q0 q1 qb
 go_upto_region 2 with fail
 go_loopw [7] (fun s7 wr=>∃i:Nat,i≤Sn2∧s7 = .int .i64 i∧(∀k,k<i→∀x∈jN p s k,x.1≠id)∧Below q.heap.size q wr) (fun s7 _=>Sn2-(intOf s7).toNat)
 case atStart=>exact⟨0,by omega,by go_num,fun k hk=>absurd hk (by omega),Below.refl _ _⟩
 case round=>
  obtain⟨wx,hwx⟩:=zD1 (wr)
  subst hwx
  obtain⟨i,hi,rfl,hall,hbw⟩:=hrel
  have HALL:=zD0 hall
  have BW:=zD0 hbw
  clear hall hbw
  have BF:=zD0 (BQ.out.trans (BW.out.mono BQ.out.size))
  have XPw:=zD0 ((BW.out.block _ (zA X.out)).trans X.out)
  have YPw:=zD0 ((BW.out.block _ (zA Y.out)).trans Y.out)
  obtain⟨m0,m1,m2⟩:=zC YPw.out
  by_cases hlt:i<Sn2
  ·have hlt':(i:Int)<Sn2:=by omega
   have hir:i<s.lk.length:=by have:=NS.out;omega
   obtain⟨ba,oa,hes,hba,hc0,hc1,hc2,hc3,-,-⟩:=((HS2.out.below xQ BF.out).more xQ BF.out.size).at hir
   cases hes
   obtain⟨a0_,ha0⟩:=zD1 (s.lk[i].1)
   rw[←ha0] at hc0
   obtain⟨a1_,ha1⟩:=zD1 (s.lk[i].2.1)
   rw[←ha1] at hc1
   obtain⟨a2_,ha2⟩:=zD1 (s.lk[i].2.2.1)
   rw[←ha2] at hc2
   obtain⟨a3_,ha3⟩:=zD1 (s.lk[i].2.2.2)
   rw[←ha3] at hc3
   have HAL:Hid (s.lk[i]=(a0_,a1_,a2_,a3_)):=zD0 (by rw[ha0,ha1,ha2,ha3])
   have G0:Hid (wx.cell? ⟨ba,oa+i*4,none⟩=some (.int .i64 a0_)):=zD0 hc0
   have G1:Hid (wx.cell? ⟨ba,oa+i*4+1,none⟩=some (.int .u8 a1_)):=zD0 hc1
   have G2:Hid (wx.cell? ⟨ba,oa+i*4+2,none⟩=some (.int .i64 a2_)):=zD0 hc2
   have G3:Hid (wx.cell? ⟨ba,oa+i*4+3,none⟩=some (.int .i64 a3_)):=zD0 hc3
   clear hc0 hc1 hc2 hc3 ha0 ha1 ha2 ha3 hba
   go_upto_region 4 with fail
   clear m0 m1 m2
   have HPR:Hid (∃hp:i<p.routes.length,rtN p i=p.routes[i]∧lkN s i=(a0_,a1_,a2_,a3_)):=zD0 (by
    have hp:i<p.routes.length:=by rw[←HM.out.parts.nl];exact hir
    exact⟨hp,vP hp,by rw[lkN_at hir,HAL.out]⟩)
   have HC0:Hid (a1_≠0→0≤a2_):=zD0 (by
    have h:=zDg HM.out.sound.may HM.out.parts hir
    rw[HAL.out] at h
    exact fun g=>(h g).1)
   have SD:=(Below.refl wx.heap.size wx).drew
   refine wp_region_held_drew (S:=fun v=>Below wx.heap.size wx v) (by kernel_rfl) SD (fun zD2=>?_)
   refine tkc 0 zD2 (fun w' hSw=>zE ((hSw.block _ (zA XPw.out)).trans XPw.out)) ?_;refine tk 1 zD2 ?_;refine tkc 2 zD2 (fun w' hSw=>zC ((hSw.block _ (zA YPw.out)).trans YPw.out)) ?_;refine tk 3 zD2 ?_;refine tk 4 zD2 ?_
   refine wpAnyH_take (i:=5) (v:=?_) rfl (by kernel_rfl) (by kernel_rfl) (by kernel_rfl) (fun _ _ _ h=>h) (Or.inl ⟨by rfl,?_⟩) zD2 ?_
   rotate_left
   ·intro w' hSw;have cG0:=(hSw.cell (zG G0.out)).trans G0.out;have cG1:=(hSw.cell (zG G1.out)).trans G1.out;have cG2:=(hSw.cell (zG G2.out)).trans G2.out;have cG3:=(hSw.cell (zG G3.out)).trans G3.out;go_simp;try with_reducible rfl
   simp only[zn,Act.put]
   refine tk 6 zD2 ?_
   refine tkr 7 (fun K hK=>?_)
   go_simp
   refine(rasks15_any _ p (rtN p i) i HPR.out.1 HPR.out.2.1.symm HM.out.sound a0_ a1_ a2_ a3_ HC0.out wx.drew (PV.out _ (BF.out.trans (SD.mono BF.out.size)))).mono ?_
   rintro e v5 ⟨u,rfl,hu,b⟩
   have hu:jV v5 wx.heap.size u (jN p s i):=by
    have e:jN p s i=zBs p (rtN p i) (a0_,a1_,a2_,a3_):=by unfold jN;rw[HPR.out.2.2]
    rw[e];exact hu
   obtain⟨LL,hLL⟩:=zD1 (jN p s i)
   rw[←hLL] at hu
   have HLL:=zD0 hLL
   clear hLL
   obtain⟨A8,c8,rfl,hy1,hy2⟩:=(hu.in_ jJ).slice
   obtain⟨m8,hm8⟩:=zD1 (LL.length)
   have HU:Hid (AsksIn v5 v5.heap.size (.slice A8 m8 c8) LL):=zD0 (by rw[hm8];exact hu.in_ jJ)
   rw[←hm8]
   have HO:Hid (jV v5 wx.heap.size (.slice A8 m8 c8) LL):=zD0 (by rw[hm8];exact hu)
   have hm8m:m8≤9223372036854775807:=by unfold maxLen at hy2;omega
   have HM8:=zD0 hm8
   have B5:Hid (Below wx.heap.size wx v5):=zD0 (SD.trans (b.mono SD.size))
   clear b hu hy1 hy2 hm8
   try go_wp2_with fail
   refine hK.out _ _ ?_ fun zD2=>?_;exact B5.out;clear hK K;try simp only[zn,Act.put]
   refine tk 8 zD2 ?_
   refine wpAnyH_done (by kernel_rfl) ?_ _
   have B9:=zD0 (BF.out.trans (B5.out.mono BF.out.size))
   have X9:=zD0 ((B5.out.block _ (zA XPw.out)).trans XPw.out)
   have Y9:=zD0 ((B5.out.block _ (zA YPw.out)).trans YPw.out)
   have N0:=zD0 ((B5.out.cell (zG G0.out)).trans G0.out)
   have N1:=zD0 ((B5.out.cell (zG G1.out)).trans G1.out)
   have N2:=zD0 ((B5.out.cell (zG G2.out)).trans G2.out)
   have N3:=zD0 ((B5.out.cell (zG G3.out)).trans G3.out)
   have BW9:=zD0 (BW.out.trans (B5.out.mono BW.out.size))
   clear SD B5 XPw YPw G0 G1 G2 G3 BF BW
   go_upto_region 6 with fail
   go_loopw [9] (fun s9 wr=>∃j:Nat,j≤m8∧s9 = .int .i64 j∧(∀k (hk:k<j) (hl:k<LL.length),LL[k].1≠id)∧Below v5.heap.size v5 wr) (fun s9 _=>m8-(intOf s9).toNat)
   case atStart=>exact⟨0,by omega,by go_num,fun k hk=>absurd hk (by omega),Below.refl _ _⟩
   case round=>
    obtain⟨wz,hwz⟩:=zD1 (wr)
    subst hwz
    obtain⟨j,hj,rfl,hall,hbw⟩:=hrel
    have HALJ:=zD0 hall
    have BZ:=zD0 hbw
    clear hall hbw
    by_cases hjl:j<m8
    ·have hjl':(j:Int)<m8:=by omega
     have hjr:j<LL.length:=by have:=HM8.out;omega
     obtain⟨bs,os,ebs,hbs,hs0,hs1,-⟩:=((HU.out.below zP BZ.out).more zP BZ.out.size).at hjr
     obtain⟨z0_,hz0⟩:=zD1 (LL[j].1)
     obtain⟨z1_,hz1⟩:=zD1 (LL[j].2.1)
     rw[←hz0] at hs0
     rw[←hz1] at hs1
     have g0:wz.cell? ⟨bs,os+j*3,none⟩=some (.int .i64 z0_):=hs0
     have g1:wz.cell? ⟨bs,os+j*3+1,none⟩=some (.int .i64 z1_):=hs1
     have HZ0:=zD0 hz0
     have HZ1:=zD0 hz1
     subst ebs
     clear hs0 hs1 hz0 hz1 hbs
     by_cases hzi:z0_=id
     ·have hzi':(z0_==id)=true:=by simpa using hzi
      have HF:Hid (RR=z1_):=zD0 (by
       have hin:LL[j]∈jN p s i:=by
        rw[←HLL.out]
        exact List.getElem_mem hjr
       rw[HR.out,←hzi,HZ0.out,HZ1.out,lie_of HM.out hir hin])
      have n0:=(BZ.out.cell (zG N0.out)).trans N0.out
      obtain⟨m0,m1,m2⟩:=zC ((BZ.out.block _ (zA Y9.out)).trans Y9.out)
      clear hzi
      go_wp2_with fail
      go_ret
      exact⟨by rw[HF.out];rfl,B9.out.trans (BZ.out.mono B9.out.size)⟩
     ·have hzi':(z0_==id)=false:=by simpa using hzi
      have NX:Hid (∀k (hk:k<j+1) (hl:k<LL.length),LL[k].1≠id):=zD0 (fun k hk hl=>by
       rcases Nat.lt_or_ge k j with h|h
       ·exact HALJ.out k h hl
       ·obtain rfl:k=j:=by omega
        rw[←HZ0.out];exact hzi)
      clear hzi
      go_wp2_with fail
      go_roundw
      case measure=>simp[intOf];omega
      case rel=>exact⟨j+1,by omega,by go_num,NX.out,BZ.out⟩
    ·obtain rfl:j=m8:=by omega
     have hjl':¬(j:Int)<j:=by omega
     have NX:Hid (∀k,k<i+1→∀x∈jN p s k,x.1≠id):=zD0 (fun k hk=>by
      rcases Nat.lt_or_ge k i with h|h
      ·exact HALL.out k h
      ·obtain rfl:k=i:=by omega
       rw[←HLL.out]
       intro x g e
       obtain⟨n,hn,rfl⟩:=List.getElem_of_mem g
       exact HALJ.out n (by rw[HM8.out];exact hn) hn e)
     go_wp2_with fail
     go_roundw
     case measure=>simp[intOf];omega
     case rel=>exact⟨i+1,by omega,by go_num,NX.out,BW9.out.trans (BZ.out.mono BW9.out.size)⟩
  ·obtain rfl:Sn2=i:=by omega
   have hlt':¬(Sn2:Int)<Sn2:=by omega
   have HF:Hid (RR=0):=zD0 (HR.out.trans (lie_none fun k hk=>HALL.out k (by rw[NS.out.2.2];exact hk)))
   go_wp2_with fail
   go_ret
   exact⟨by rw[HF.out];rfl,BF.out⟩
def RMay15:Prop:=∀(v y:Value) (p:Pl) (s:qD) (w:World),qF w w.heap.size v p→qL w w.heap.size y s→Calls Tryz.prog 35 #[v,y] w fun e w'=>e = .returned (.bool (zB1 p s))∧Below w.heap.size w w'
theorem zDk {p:Pl} {s:qD} (h:kI p s=0):yD p s:=by
 rw[kI] at h
 by_cases h1:vX p=true
 ·rw[if_pos h1] at h
  by_cases h2:zB1 p s=true
  ·exact zDs.1 h2
  ·rw[if_neg h2] at h;cases h
 ·rw[if_neg h1] at h;cases h
set_option maxHeartbeats 8000000 in
theorem zBd (hmay:RMay15) (v y:Value) (p:Pl) (s:qD) (w:World) (h:qF w w.heap.size v p) (h':qL w w.heap.size y s):
  Calls Tryz.prog 18 #[v,y] w fun e w'=>e = .returned (.int .i64 (kI p s))∧Below w.heap.size w w':=by
 obtain⟨p2,p3,p4,p5,rfl,h⟩:=h
 obtain⟨A2,a2,rfl,hcl,hcm⟩:=h.secs.slice
 obtain⟨b2,hb2⟩:=zD1 (p.secs.length)
 have P2:Hid (zX w w.heap.size (.slice A2 b2 a2) p.secs):=zD0 (by rw[hb2];exact h.secs)
 have hbb2:b2≤9223372036854775807:=by unfold maxLen at hcm;omega
 rw[←hb2]
 clear hcl hcm
 obtain⟨A3,a3,rfl,hcl,hcm⟩:=h.pts.slice
 obtain⟨b3,hb3⟩:=zD1 (p.pts.length)
 have P3:Hid (zT w w.heap.size (.slice A3 b3 a3) p.pts):=zD0 (by rw[hb3];exact h.pts)
 have hbb3:b3≤9223372036854775807:=by unfold maxLen at hcm;omega
 rw[←hb3]
 clear hcl hcm
 obtain⟨A4,a4,rfl,hcl,hcm⟩:=h.sigs.slice
 obtain⟨b4,hb4⟩:=zD1 (p.sigs.length)
 have P4:Hid (xI w w.heap.size (.slice A4 b4 a4) p.sigs):=zD0 (by rw[hb4];exact h.sigs)
 have hbb4:b4≤9223372036854775807:=by unfold maxLen at hcm;omega
 rw[←hb4]
 clear hcl hcm
 obtain⟨A5,a5,rfl,hcl,hcm⟩:=h.routes.slice
 obtain⟨b5,hb5⟩:=zD1 (p.routes.length)
 have P5:Hid (qX w w.heap.size (.slice A5 b5 a5) p.routes):=zD0 (by rw[hb5];exact h.routes)
 have hbb5:b5≤9223372036854775807:=by unfold maxLen at hcm;omega
 rw[←hb5]
 clear hcl hcm
 have HBL:Hid (b2=p.secs.length∧b3=p.pts.length∧b4=p.sigs.length∧b5=p.routes.length):=zD0 ⟨hb2,hb3,hb4,hb5⟩
 clear h hb2 hb3 hb4 hb5
 obtain⟨_,_,_,rfl,h'⟩:=h'
 obtain⟨S0,Sc0,rfl,hcl,hcm⟩:=h'.tr.slice
 obtain⟨Sn0,hS0⟩:=zD1 (s.tr.length)
 have HS0:Hid (jD w w.heap.size (.slice S0 Sn0 Sc0) s.tr):=zD0 (by rw[hS0];exact h'.tr)
 have hbS0:Sn0≤9223372036854775807:=by unfold maxLen at hcm;omega
 rw[←hS0]
 clear hcl hcm
 obtain⟨S1,Sc1,rfl,hcl,hcm⟩:=h'.sw.slice
 obtain⟨Sn1,hS1⟩:=zD1 (s.sw.length)
 have HS1:Hid (xP w w.heap.size (.slice S1 Sn1 Sc1) s.sw):=zD0 (by rw[hS1];exact h'.sw)
 have hbS1:Sn1≤9223372036854775807:=by unfold maxLen at hcm;omega
 rw[←hS1]
 clear hcl hcm
 obtain⟨S2,Sc2,rfl,hcl,hcm⟩:=h'.lk.slice
 obtain⟨Sn2,hS2⟩:=zD1 (s.lk.length)
 have HS2:Hid (xO w w.heap.size (.slice S2 Sn2 Sc2) s.lk):=zD0 (by rw[hS2];exact h'.lk)
 have hbS2:Sn2≤9223372036854775807:=by unfold maxLen at hcm;omega
 rw[←hS2]
 clear hcl hcm
 have NS:Hid (Sn0=s.tr.length∧Sn1=s.sw.length∧Sn2=s.lk.length):=zD0 ⟨hS0,hS1,hS2⟩
 clear h' hS0 hS1 hS2
 have PV:Hid (∀W,Below w.heap.size w W→qF W W.heap.size (.agg #[.int .i64 p.ver,.int .i64 p.par,.slice A2 b2 a2,.slice A3 b3 a3,.slice A4 b4 a4,.slice A5 b5 a5]) p):=zD0 (fun W b=>⟨_,_,_,_,rfl,⟨(P2.out.below zN b).more zN b.size,(P3.out.below zM b).more zM b.size,(P4.out.below zP b).more zP b.size,(P5.out.below qM b).more qM b.size⟩⟩)
 have SV:Hid (∀W,Below w.heap.size w W→qL W W.heap.size (.agg #[.slice S0 Sn0 Sc0,.slice S1 Sn1 Sc1,.slice S2 Sn2 Sc2]) s):=zD0 (fun W b=>⟨_,_,_,rfl,⟨(HS0.out.below xY b).more xY b.size,(HS1.out.below zP b).more zP b.size,(HS2.out.below xQ b).more xQ b.size⟩⟩)
 clear P2 P3 P4 P5 HBL hbb2 hbb3 hbb4 hbb5 hbS0 hbS1 hbS2 HS0 HS1 HS2 NS
 have hq:=zV w (.cells #[.int .i64 p.ver,.int .i64 p.par,.slice A2 b2 a2,.slice A3 b3 a3,.slice A4 b4 a4,.slice A5 b5 a5] 27) (.cells #[.slice S0 Sn0 Sc0,.slice S1 Sn1 Sc1,.slice S2 Sn2 Sc2] 32)
 go_enter Tryz.func18,Tryz.ntmps18
 go_upto_region 1 with fail
 generalize (w.alloc (.cells #[.int .i64 p.ver,.int .i64 p.par,.slice A2 b2 a2,.slice A3 b3 a3,.slice A4 b4 a4,.slice A5 b5 a5] 27)).alloc (.cells #[.slice S0 Sn0 Sc0,.slice S1 Sn1 Sc1,.slice S2 Sn2 Sc2] 32)=q at hq⊢
 obtain⟨q0,q1,qb⟩:=hq
 have X:=zD0 q0
 have Y:=zD0 q1
 have BQ:=zD0 qb
 clear q0 q1 qb
 obtain⟨k0,k1,k2,k3,k4,k5⟩:=zE X.out
 obtain⟨m0,m1,m2⟩:=zC Y.out
 go_wp2_with fail
 refine(rmay10_any _ p q (PV.out q BQ.out)).mono ?_
 rintro e w1 ⟨rfl,b⟩
 have tX:=(b.block _ (zA X.out)).trans X.out
 have tY:=(b.block _ (zA Y.out)).trans Y.out
 have tB:=BQ.out.trans (b.mono BQ.out.size)
 clear X Y BQ b k0 k1 k2 k3 k4 k5 m0 m1 m2
 have X:=zD0 tX
 have Y:=zD0 tY
 have BQ:=zD0 tB
 clear tX tY tB
 obtain⟨g,hg⟩:=zD1 (vX p)
 rw[←hg]
 have HG:=zD0 hg
 clear hg
 cases g with
 | false=>
  have HR:Hid (kI p s=100):=zD0 (by rw[kI,←HG.out];rfl)
  go_wp2_with fail
  go_ret
  exact⟨by rw[HR.out];rfl,BQ.out⟩
 | true=>
  obtain⟨k0,k1,k2,k3,k4,k5⟩:=zE X.out
  obtain⟨m0,m1,m2⟩:=zC Y.out
  go_wp2_with fail
  refine(hmay _ _ p s w1 (PV.out w1 BQ.out) (SV.out w1 BQ.out)).mono ?_
  rintro e w2 ⟨rfl,b⟩
  have tX:=(b.block _ (zA X.out)).trans X.out
  have tY:=(b.block _ (zA Y.out)).trans Y.out
  have tB:=BQ.out.trans (b.mono BQ.out.size)
  clear X Y BQ b k0 k1 k2 k3 k4 k5 m0 m1 m2
  have X:=zD0 tX
  have Y:=zD0 tY
  have BQ:=zD0 tB
  clear tX tY tB
  obtain⟨g,hg⟩:=zD1 (zB1 p s)
  rw[←hg]
  have HM:=zD0 hg
  clear hg
  cases g with
  | false=>
   have HR:Hid (kI p s=8):=zD0 (by rw[kI,←HG.out,←HM.out];rfl)
   go_wp2_with fail
   go_ret
   exact⟨by rw[HR.out];rfl,BQ.out⟩
  | true=>
   have HR:Hid (kI p s=0):=zD0 (by rw[kI,←HG.out,←HM.out];rfl)
   go_wp2_with fail
   go_ret
   exact⟨by rw[HR.out];rfl,BQ.out⟩
set_option maxHeartbeats 8000000 in
theorem rholder15_any (hmay:RMay15) (v y:Value) (p:Pl) (s:qD) (id:Int) (w:World) (h:qF w w.heap.size v p) (h':qL w w.heap.size y s):
  Calls Tryz.prog 11 #[v,y,.int .i64 id] w fun e w'=>e = .returned (.tuple #[.int .i64 (whoV p s id),.int .i64 (whoE p s id)])∧Below w.heap.size w w':=by
 obtain⟨p2,p3,p4,p5,rfl,h⟩:=h
 obtain⟨A2,a2,rfl,hcl,hcm⟩:=h.secs.slice
 obtain⟨b2,hb2⟩:=zD1 (p.secs.length)
 have P2:Hid (zX w w.heap.size (.slice A2 b2 a2) p.secs):=zD0 (by rw[hb2];exact h.secs)
 have hbb2:b2≤9223372036854775807:=by unfold maxLen at hcm;omega
 rw[←hb2]
 clear hcl hcm
 obtain⟨A3,a3,rfl,hcl,hcm⟩:=h.pts.slice
 obtain⟨b3,hb3⟩:=zD1 (p.pts.length)
 have P3:Hid (zT w w.heap.size (.slice A3 b3 a3) p.pts):=zD0 (by rw[hb3];exact h.pts)
 have hbb3:b3≤9223372036854775807:=by unfold maxLen at hcm;omega
 rw[←hb3]
 clear hcl hcm
 obtain⟨A4,a4,rfl,hcl,hcm⟩:=h.sigs.slice
 obtain⟨b4,hb4⟩:=zD1 (p.sigs.length)
 have P4:Hid (xI w w.heap.size (.slice A4 b4 a4) p.sigs):=zD0 (by rw[hb4];exact h.sigs)
 have hbb4:b4≤9223372036854775807:=by unfold maxLen at hcm;omega
 rw[←hb4]
 clear hcl hcm
 obtain⟨A5,a5,rfl,hcl,hcm⟩:=h.routes.slice
 obtain⟨b5,hb5⟩:=zD1 (p.routes.length)
 have P5:Hid (qX w w.heap.size (.slice A5 b5 a5) p.routes):=zD0 (by rw[hb5];exact h.routes)
 have hbb5:b5≤9223372036854775807:=by unfold maxLen at hcm;omega
 rw[←hb5]
 clear hcl hcm
 have HBL:Hid (b2=p.secs.length∧b3=p.pts.length∧b4=p.sigs.length∧b5=p.routes.length):=zD0 ⟨hb2,hb3,hb4,hb5⟩
 clear h hb2 hb3 hb4 hb5
 obtain⟨_,_,_,rfl,h'⟩:=h'
 obtain⟨S0,Sc0,rfl,hcl,hcm⟩:=h'.tr.slice
 obtain⟨Sn0,hS0⟩:=zD1 (s.tr.length)
 have HS0:Hid (jD w w.heap.size (.slice S0 Sn0 Sc0) s.tr):=zD0 (by rw[hS0];exact h'.tr)
 have hbS0:Sn0≤9223372036854775807:=by unfold maxLen at hcm;omega
 rw[←hS0]
 clear hcl hcm
 obtain⟨S1,Sc1,rfl,hcl,hcm⟩:=h'.sw.slice
 obtain⟨Sn1,hS1⟩:=zD1 (s.sw.length)
 have HS1:Hid (xP w w.heap.size (.slice S1 Sn1 Sc1) s.sw):=zD0 (by rw[hS1];exact h'.sw)
 have hbS1:Sn1≤9223372036854775807:=by unfold maxLen at hcm;omega
 rw[←hS1]
 clear hcl hcm
 obtain⟨S2,Sc2,rfl,hcl,hcm⟩:=h'.lk.slice
 obtain⟨Sn2,hS2⟩:=zD1 (s.lk.length)
 have HS2:Hid (xO w w.heap.size (.slice S2 Sn2 Sc2) s.lk):=zD0 (by rw[hS2];exact h'.lk)
 have hbS2:Sn2≤9223372036854775807:=by unfold maxLen at hcm;omega
 rw[←hS2]
 clear hcl hcm
 have NS:Hid (Sn0=s.tr.length∧Sn1=s.sw.length∧Sn2=s.lk.length):=zD0 ⟨hS0,hS1,hS2⟩
 clear h' hS0 hS1 hS2
 have PV:Hid (∀W,Below w.heap.size w W→qF W W.heap.size (.agg #[.int .i64 p.ver,.int .i64 p.par,.slice A2 b2 a2,.slice A3 b3 a3,.slice A4 b4 a4,.slice A5 b5 a5]) p):=zD0 (fun W b=>⟨_,_,_,_,rfl,⟨(P2.out.below zN b).more zN b.size,(P3.out.below zM b).more zM b.size,(P4.out.below zP b).more zP b.size,(P5.out.below qM b).more qM b.size⟩⟩)
 have SV:Hid (∀W,Below w.heap.size w W→qL W W.heap.size (.agg #[.slice S0 Sn0 Sc0,.slice S1 Sn1 Sc1,.slice S2 Sn2 Sc2]) s):=zD0 (fun W b=>⟨_,_,_,rfl,⟨(HS0.out.below xY b).more xY b.size,(HS1.out.below zP b).more zP b.size,(HS2.out.below xQ b).more xQ b.size⟩⟩)
 clear P2 P3 P4 P5 HBL hbb2 hbb3 hbb4 hbb5 hbS0 hbS1 hbS2 HS0 HS1 HS2 NS
 have hq:=zV w (.cells #[.int .i64 p.ver,.int .i64 p.par,.slice A2 b2 a2,.slice A3 b3 a3,.slice A4 b4 a4,.slice A5 b5 a5] 27) (.cells #[.slice S0 Sn0 Sc0,.slice S1 Sn1 Sc1,.slice S2 Sn2 Sc2] 32)
 go_enter Tryz.func11,Tryz.ntmps11
 go_upto_region 1 with fail
 generalize (w.alloc (.cells #[.int .i64 p.ver,.int .i64 p.par,.slice A2 b2 a2,.slice A3 b3 a3,.slice A4 b4 a4,.slice A5 b5 a5] 27)).alloc (.cells #[.slice S0 Sn0 Sc0,.slice S1 Sn1 Sc1,.slice S2 Sn2 Sc2] 32)=q at hq⊢
 obtain⟨q0,q1,qb⟩:=hq
 have X:=zD0 q0
 have Y:=zD0 q1
 have BQ:=zD0 qb
 clear q0 q1 qb
 obtain⟨k0,k1,k2,k3,k4,k5⟩:=zE X.out
 obtain⟨m0,m1,m2⟩:=zC Y.out
 go_wp2_with fail
 refine(zBd hmay _ _ p s q (PV.out q BQ.out) (SV.out q BQ.out)).mono ?_
 rintro e w1 ⟨rfl,b⟩
 have tX:=(b.block _ (zA X.out)).trans X.out
 have tY:=(b.block _ (zA Y.out)).trans Y.out
 have tB:=BQ.out.trans (b.mono BQ.out.size)
 clear X Y BQ b k0 k1 k2 k3 k4 k5 m0 m1 m2
 have X:=zD0 tX
 have Y:=zD0 tY
 have BQ:=zD0 tB
 clear tX tY tB
 obtain⟨E,hE⟩:=zD1 (kI p s)
 have HE:=zD0 hE
 rw[←hE]
 clear hE
 by_cases h0:E=0
 rotate_left
 ·have h0':(E != 0)=true:=by simpa using h0
  have HR:Hid (whoE p s id=E∧whoV p s id=0):=zD0 (by
   have e1:whoE p s id=E:=by rw[whoE,←HE.out,if_neg h0]
   exact⟨e1,by rw[whoV,e1,if_neg h0]⟩)
  clear h0
  go_wp2_with fail
  go_ret2
  exact⟨by rw[HR.out.1,HR.out.2];rfl,BQ.out⟩
 have HE0:Hid (kI p s=0):=zD0 (by rw[←HE.out];exact h0)
 subst h0
 obtain⟨k0,k1,k2,k3,k4,k5⟩:=zE X.out
 obtain⟨m0,m1,m2⟩:=zC Y.out
 go_wp2_with fail
 refine(rsection15_any _ p id w1 (PV.out w1 BQ.out)).mono ?_
 rintro e w2 ⟨rfl,b⟩
 have tX:=(b.block _ (zA X.out)).trans X.out
 have tY:=(b.block _ (zA Y.out)).trans Y.out
 have tB:=BQ.out.trans (b.mono BQ.out.size)
 clear X Y BQ b k0 k1 k2 k3 k4 k5 m0 m1 m2
 have X:=zD0 tX
 have Y:=zD0 tY
 have BQ:=zD0 tB
 clear tX tY tB
 obtain⟨n,hn⟩:=zD1 (at1 (fun x:Sec=>x.1) p.secs id)
 rw[←hn]
 by_cases hl:n<0
 ·have hl':decide (n<0)=true:=decide_eq_true hl
  have HR:Hid (whoE p s id=6∧whoV p s id=0):=zD0 (by
   have hin:¬id∈p.secs.map (fun x:Sec=>x.1):=fun h=>by
    obtain⟨j,_,e,_⟩:=zCk h
    omega
   have e1:whoE p s id=6:=by rw[whoE,if_pos HE0.out];exact if_neg hin
   exact⟨e1,by rw[whoV,e1];rfl⟩)
  clear hn
  go_wp2_with fail
  go_ret2
  exact⟨by rw[HR.out.1,HR.out.2];rfl,BQ.out⟩
 ·have hl':decide (n<0)=false:=decide_eq_false hl
  have HR:Hid (whoE p s id=0∧whoV p s id=whoL p s id):=zD0 (by
   have hin:id∈p.secs.map (fun x:Sec=>x.1):=zBh (k:=fun x:Sec=>x.1) (by omega)
   have e1:whoE p s id=0:=by rw[whoE,if_pos HE0.out];exact if_pos hin
   exact⟨e1,by rw[whoV,if_pos e1]⟩)
  clear hn
  obtain⟨k0,k1,k2,k3,k4,k5⟩:=zE X.out
  obtain⟨m0,m1,m2⟩:=zC Y.out
  go_wp2_with fail
  refine(rof15_any _ _ p s id w2 (PV.out w2 BQ.out) (SV.out w2 BQ.out) (zDk HE0.out)).mono ?_
  rintro e w3 ⟨rfl,b⟩
  have tX:=(b.block _ (zA X.out)).trans X.out
  have tY:=(b.block _ (zA Y.out)).trans Y.out
  have tB:=BQ.out.trans (b.mono BQ.out.size)
  clear X Y BQ b k0 k1 k2 k3 k4 k5 m0 m1 m2
  have X:=zD0 tX
  have Y:=zD0 tY
  have BQ:=zD0 tB
  clear tX tY tB
  go_wp2_with fail
  go_ret2
  exact⟨by rw[HR.out.1,HR.out.2];rfl,BQ.out⟩
set_option maxHeartbeats 8000000 in
theorem rasked15_any (hmay:RMay15) (v y:Value) (p:Pl) (s:qD) (id:Int) (w:World) (h:qF w w.heap.size v p) (h':qL w w.heap.size y s):
  Calls Tryz.prog 13 #[v,y,.int .i64 id] w fun e w'=>e = .returned (.tuple #[.int .i64 (lieV p s id),.int .i64 (lieE p s id)])∧Below w.heap.size w w':=by
 obtain⟨p2,p3,p4,p5,rfl,h⟩:=h
 obtain⟨A2,a2,rfl,hcl,hcm⟩:=h.secs.slice
 obtain⟨b2,hb2⟩:=zD1 (p.secs.length)
 have P2:Hid (zX w w.heap.size (.slice A2 b2 a2) p.secs):=zD0 (by rw[hb2];exact h.secs)
 have hbb2:b2≤9223372036854775807:=by unfold maxLen at hcm;omega
 rw[←hb2]
 clear hcl hcm
 obtain⟨A3,a3,rfl,hcl,hcm⟩:=h.pts.slice
 obtain⟨b3,hb3⟩:=zD1 (p.pts.length)
 have P3:Hid (zT w w.heap.size (.slice A3 b3 a3) p.pts):=zD0 (by rw[hb3];exact h.pts)
 have hbb3:b3≤9223372036854775807:=by unfold maxLen at hcm;omega
 rw[←hb3]
 clear hcl hcm
 obtain⟨A4,a4,rfl,hcl,hcm⟩:=h.sigs.slice
 obtain⟨b4,hb4⟩:=zD1 (p.sigs.length)
 have P4:Hid (xI w w.heap.size (.slice A4 b4 a4) p.sigs):=zD0 (by rw[hb4];exact h.sigs)
 have hbb4:b4≤9223372036854775807:=by unfold maxLen at hcm;omega
 rw[←hb4]
 clear hcl hcm
 obtain⟨A5,a5,rfl,hcl,hcm⟩:=h.routes.slice
 obtain⟨b5,hb5⟩:=zD1 (p.routes.length)
 have P5:Hid (qX w w.heap.size (.slice A5 b5 a5) p.routes):=zD0 (by rw[hb5];exact h.routes)
 have hbb5:b5≤9223372036854775807:=by unfold maxLen at hcm;omega
 rw[←hb5]
 clear hcl hcm
 have HBL:Hid (b2=p.secs.length∧b3=p.pts.length∧b4=p.sigs.length∧b5=p.routes.length):=zD0 ⟨hb2,hb3,hb4,hb5⟩
 clear h hb2 hb3 hb4 hb5
 obtain⟨_,_,_,rfl,h'⟩:=h'
 obtain⟨S0,Sc0,rfl,hcl,hcm⟩:=h'.tr.slice
 obtain⟨Sn0,hS0⟩:=zD1 (s.tr.length)
 have HS0:Hid (jD w w.heap.size (.slice S0 Sn0 Sc0) s.tr):=zD0 (by rw[hS0];exact h'.tr)
 have hbS0:Sn0≤9223372036854775807:=by unfold maxLen at hcm;omega
 rw[←hS0]
 clear hcl hcm
 obtain⟨S1,Sc1,rfl,hcl,hcm⟩:=h'.sw.slice
 obtain⟨Sn1,hS1⟩:=zD1 (s.sw.length)
 have HS1:Hid (xP w w.heap.size (.slice S1 Sn1 Sc1) s.sw):=zD0 (by rw[hS1];exact h'.sw)
 have hbS1:Sn1≤9223372036854775807:=by unfold maxLen at hcm;omega
 rw[←hS1]
 clear hcl hcm
 obtain⟨S2,Sc2,rfl,hcl,hcm⟩:=h'.lk.slice
 obtain⟨Sn2,hS2⟩:=zD1 (s.lk.length)
 have HS2:Hid (xO w w.heap.size (.slice S2 Sn2 Sc2) s.lk):=zD0 (by rw[hS2];exact h'.lk)
 have hbS2:Sn2≤9223372036854775807:=by unfold maxLen at hcm;omega
 rw[←hS2]
 clear hcl hcm
 have NS:Hid (Sn0=s.tr.length∧Sn1=s.sw.length∧Sn2=s.lk.length):=zD0 ⟨hS0,hS1,hS2⟩
 clear h' hS0 hS1 hS2
 have PV:Hid (∀W,Below w.heap.size w W→qF W W.heap.size (.agg #[.int .i64 p.ver,.int .i64 p.par,.slice A2 b2 a2,.slice A3 b3 a3,.slice A4 b4 a4,.slice A5 b5 a5]) p):=zD0 (fun W b=>⟨_,_,_,_,rfl,⟨(P2.out.below zN b).more zN b.size,(P3.out.below zM b).more zM b.size,(P4.out.below zP b).more zP b.size,(P5.out.below qM b).more qM b.size⟩⟩)
 have SV:Hid (∀W,Below w.heap.size w W→qL W W.heap.size (.agg #[.slice S0 Sn0 Sc0,.slice S1 Sn1 Sc1,.slice S2 Sn2 Sc2]) s):=zD0 (fun W b=>⟨_,_,_,rfl,⟨(HS0.out.below xY b).more xY b.size,(HS1.out.below zP b).more zP b.size,(HS2.out.below xQ b).more xQ b.size⟩⟩)
 clear P2 P3 P4 P5 HBL hbb2 hbb3 hbb4 hbb5 hbS0 hbS1 hbS2 HS0 HS1 HS2 NS
 have hq:=zV w (.cells #[.int .i64 p.ver,.int .i64 p.par,.slice A2 b2 a2,.slice A3 b3 a3,.slice A4 b4 a4,.slice A5 b5 a5] 27) (.cells #[.slice S0 Sn0 Sc0,.slice S1 Sn1 Sc1,.slice S2 Sn2 Sc2] 32)
 go_enter Tryz.func13,Tryz.ntmps13
 go_upto_region 1 with fail
 generalize (w.alloc (.cells #[.int .i64 p.ver,.int .i64 p.par,.slice A2 b2 a2,.slice A3 b3 a3,.slice A4 b4 a4,.slice A5 b5 a5] 27)).alloc (.cells #[.slice S0 Sn0 Sc0,.slice S1 Sn1 Sc1,.slice S2 Sn2 Sc2] 32)=q at hq⊢
 obtain⟨q0,q1,qb⟩:=hq
 have X:=zD0 q0
 have Y:=zD0 q1
 have BQ:=zD0 qb
 clear q0 q1 qb
 obtain⟨k0,k1,k2,k3,k4,k5⟩:=zE X.out
 obtain⟨m0,m1,m2⟩:=zC Y.out
 go_wp2_with fail
 refine(zBd hmay _ _ p s q (PV.out q BQ.out) (SV.out q BQ.out)).mono ?_
 rintro e w1 ⟨rfl,b⟩
 have tX:=(b.block _ (zA X.out)).trans X.out
 have tY:=(b.block _ (zA Y.out)).trans Y.out
 have tB:=BQ.out.trans (b.mono BQ.out.size)
 clear X Y BQ b k0 k1 k2 k3 k4 k5 m0 m1 m2
 have X:=zD0 tX
 have Y:=zD0 tY
 have BQ:=zD0 tB
 clear tX tY tB
 obtain⟨E,hE⟩:=zD1 (kI p s)
 have HE:=zD0 hE
 rw[←hE]
 clear hE
 by_cases h0:E=0
 rotate_left
 ·have h0':(E != 0)=true:=by simpa using h0
  have HR:Hid (lieE p s id=E∧lieV p s id=0):=zD0 (by
   have e1:lieE p s id=E:=by rw[lieE,←HE.out,if_neg h0]
   exact⟨e1,by rw[lieV,e1,if_neg h0]⟩)
  clear h0
  go_wp2_with fail
  go_ret2
  exact⟨by rw[HR.out.1,HR.out.2];rfl,BQ.out⟩
 have HE0:Hid (kI p s=0):=zD0 (by rw[←HE.out];exact h0)
 subst h0
 obtain⟨k0,k1,k2,k3,k4,k5⟩:=zE X.out
 obtain⟨m0,m1,m2⟩:=zC Y.out
 go_wp2_with fail
 refine(zCr _ p id w1 (PV.out w1 BQ.out)).mono ?_
 rintro e w2 ⟨rfl,b⟩
 have tX:=(b.block _ (zA X.out)).trans X.out
 have tY:=(b.block _ (zA Y.out)).trans Y.out
 have tB:=BQ.out.trans (b.mono BQ.out.size)
 clear X Y BQ b k0 k1 k2 k3 k4 k5 m0 m1 m2
 have X:=zD0 tX
 have Y:=zD0 tY
 have BQ:=zD0 tB
 clear tX tY tB
 obtain⟨n,hn⟩:=zD1 (at1 (fun x:Jn=>x.1) p.pts id)
 rw[←hn]
 by_cases hl:n<0
 ·have hl':decide (n<0)=true:=decide_eq_true hl
  have HR:Hid (lieE p s id=6∧lieV p s id=0):=zD0 (by
   have hin:¬id∈p.pts.map (fun x:Jn=>x.1):=fun h=>by
    obtain⟨j,_,e,_⟩:=zCk h
    omega
   have e1:lieE p s id=6:=by rw[lieE,if_pos HE0.out];exact if_neg hin
   exact⟨e1,by rw[lieV,e1];rfl⟩)
  clear hn
  go_wp2_with fail
  go_ret2
  exact⟨by rw[HR.out.1,HR.out.2];rfl,BQ.out⟩
 ·have hl':decide (n<0)=false:=decide_eq_false hl
  have HR:Hid (lieE p s id=0∧lieV p s id=lieL p s id):=zD0 (by
   have hin:id∈p.pts.map (fun x:Jn=>x.1):=zBh (k:=fun x:Jn=>x.1) (by omega)
   have e1:lieE p s id=0:=by rw[lieE,if_pos HE0.out];exact if_pos hin
   exact⟨e1,by rw[lieV,if_pos e1]⟩)
  clear hn
  obtain⟨k0,k1,k2,k3,k4,k5⟩:=zE X.out
  obtain⟨m0,m1,m2⟩:=zC Y.out
  go_wp2_with fail
  refine(rlieof15_any _ _ p s id w2 (PV.out w2 BQ.out) (SV.out w2 BQ.out) (zDk HE0.out)).mono ?_
  rintro e w3 ⟨rfl,b⟩
  have tX:=(b.block _ (zA X.out)).trans X.out
  have tY:=(b.block _ (zA Y.out)).trans Y.out
  have tB:=BQ.out.trans (b.mono BQ.out.size)
  clear X Y BQ b k0 k1 k2 k3 k4 k5 m0 m1 m2
  have X:=zD0 tX
  have Y:=zD0 tY
  have BQ:=zD0 tB
  clear tX tY tB
  go_wp2_with fail
  go_ret2
  exact⟨by rw[HR.out.1,HR.out.2];rfl,BQ.out⟩
theorem all_id15 {p:Pl} {r:Rt} (h:qW p r) {x:Int} (hx:x∈r.path++r.over):0≤x∧x<100:=by
 obtain⟨a,ha,rfl⟩:=List.getElem_of_mem hx
 have h0:=(h.route.secs a ha).1
 rcases vE p.secs ((r.path++r.over)[a]) with h1|⟨k,hk,h1,h2⟩
 ·omega
 ·have h3:=h.plan.secs.s k hk
  rw[h2] at h3
  omega
theorem held_sub15 {r:Rt} {l:Lck} {x:Int} (h:x∈heldL r l):x∈r.path++r.over:=by
 unfold heldL at h
 split at h
 ·cases h
 ·rcases List.mem_append.1 h with h|h
  ·exact List.mem_append.2 (.inl (List.mem_of_mem_drop h))
  ·exact List.mem_append.2 (.inr h)
theorem held_nodup15 {p:Pl} {r:Rt} (h:qW p r) (l:Lck):(heldL r l).Pairwise (· ≠ ·):=by
 have hn:(r.path++r.over).Pairwise (· ≠ ·):=List.pairwise_iff_getElem.2 fun i j hi hj hij=>(h.route.secs j hj).2 i hij
 unfold heldL
 split
 ·exact List.Pairwise.nil
 ·exact List.Pairwise.sublist ((List.drop_sublist _ _).append (List.Sublist.refl _)) hn
theorem take_new15 {l:List Int} (h:l.Pairwise (· ≠ ·)) {j:Nat} (hj:j<l.length):l[j]∉l.take j:=fun g=>by
 obtain⟨n,hn,e⟩:=List.getElem_of_mem g
 have hn':n<j:=by rw[List.length_take] at hn;omega
 rw[List.getElem_take] at e
 exact List.pairwise_iff_getElem.1 h n j (by omega) hj hn' e
theorem ask_id15 {p:Pl} (h:jB p) {i:Nat} (hi:i<p.routes.length) {l:Lck} {a:Ak} (ha:a∈zBs p (rtN p i) l):∃n:Nat,n<100∧a.1=(n:Int)∧∃k,∃hk:k<p.pts.length,at1 (fun x:Jn=>x.1) p.pts a.1=(k:Int):=by
 have hm:a∈(kH p p.routes[i]).asks:=by
  unfold zBs at ha
  rw[vP hi] at ha
  split at ha
  ·cases ha
  ·exact(List.mem_filter.1 ha).1
 obtain⟨h1,-⟩:=ask_in (jO h.may hi rfl) (h.each i hi).hangs hm
 obtain⟨k,hk,e1,e2⟩:=zCk (k:=fun x:Jn=>x.1) h1
 have h3:=h.may.pts.each k hk
 have e3:p.pts[k].1=a.1:=e2
 exact⟨a.1.toNat,by omega,by omega,k,hk,e1⟩
def ArrB (W:World) (b:Nat) (f:Nat→Bool):Prop:=∃c:Array Value,W.heap[b]? = some (.cells c 112 (0,0))∧∀n,n<100→c[n]? = some (.bool (f n))
theorem ArrB.cell {W:World} {b:Nat} {f:Nat→Bool} (h:ArrB W b f) {n:Nat} (hn:n<100):W.cell? ⟨b,n,none⟩=some (.bool (f n)):=by
 obtain⟨c,h1,h2⟩:=h
 rw[cell_of_row _ _ _ _ _ _ h1]
 exact h2 n hn
theorem ArrB.frozen {W:World} {b:Nat} {f:Nat→Bool} (h:ArrB W b f) (n:Nat):W.frozen? ⟨b,n,none⟩=false:=by
 obtain⟨c,h1,-⟩:=h
 exact zY h1 n
theorem ArrB.set {W:World} {b:Nat} {f:Nat→Bool} (h:ArrB W b f) {n:Nat} (hn:n<100) (x:Bool):ArrB (W.setCell ⟨b,n,none⟩ (.bool (x))) b (fun m=>if m=n then x else f m):=by
 obtain⟨c,h1,h2⟩:=h
 refine⟨_,qG h1 _,fun m hm=>?_⟩
 by_cases e:m=n
 ·subst e
  have hlt:m<c.size:=(Array.getElem?_eq_some_iff.1 (h2 m hm)).1
  dsimp only
  rw[if_pos rfl,Array.getElem?_setIfInBounds_self_of_lt hlt]
 ·dsimp only
  rw[if_neg e,Array.getElem?_setIfInBounds_ne (fun h=>e h.symm)]
  exact h2 m hm
theorem ArrB.off {W:World} {b:Nat} {f:Nat→Bool} (h:ArrB W b f) {k:Nat} (hk:k≠b) (n:Nat) (x:Value):ArrB (W.setCell ⟨k,n,none⟩ x) b f:=by
 obtain⟨c,h1,h2⟩:=h
 exact⟨c,((zU W k n x).block b (zA h1) (fun e=>hk (by injection e with e;exact e.symm))).trans h1,h2⟩
theorem ArrB.below {W W':World} {b:Nat} {f:Nat→Bool} (h:ArrB W b f) (hb:Below W.heap.size W W'):ArrB W' b f:=by
 obtain⟨c,h1,h2⟩:=h
 exact⟨c,(hb.block _ (zA h1)).trans h1,h2⟩
def ArrI (W:World) (b:Nat) (f:Nat→Int):Prop:=∃c:Array Value,W.heap[b]? = some (.cells c 113 (0,0))∧∀n,n<100→c[n]? = some (.int .i64 (f n))
theorem ArrI.cell {W:World} {b:Nat} {f:Nat→Int} (h:ArrI W b f) {n:Nat} (hn:n<100):W.cell? ⟨b,n,none⟩=some (.int .i64 (f n)):=by
 obtain⟨c,h1,h2⟩:=h
 rw[cell_of_row _ _ _ _ _ _ h1]
 exact h2 n hn
theorem ArrI.frozen {W:World} {b:Nat} {f:Nat→Int} (h:ArrI W b f) (n:Nat):W.frozen? ⟨b,n,none⟩=false:=by
 obtain⟨c,h1,-⟩:=h
 exact zY h1 n
theorem ArrI.set {W:World} {b:Nat} {f:Nat→Int} (h:ArrI W b f) {n:Nat} (hn:n<100) (x:Int):ArrI (W.setCell ⟨b,n,none⟩ (.int .i64 (x))) b (fun m=>if m=n then x else f m):=by
 obtain⟨c,h1,h2⟩:=h
 refine⟨_,qG h1 _,fun m hm=>?_⟩
 by_cases e:m=n
 ·subst e
  have hlt:m<c.size:=(Array.getElem?_eq_some_iff.1 (h2 m hm)).1
  dsimp only
  rw[if_pos rfl,Array.getElem?_setIfInBounds_self_of_lt hlt]
 ·dsimp only
  rw[if_neg e,Array.getElem?_setIfInBounds_ne (fun h=>e h.symm)]
  exact h2 m hm
theorem ArrI.off {W:World} {b:Nat} {f:Nat→Int} (h:ArrI W b f) {k:Nat} (hk:k≠b) (n:Nat) (x:Value):ArrI (W.setCell ⟨k,n,none⟩ x) b f:=by
 obtain⟨c,h1,h2⟩:=h
 exact⟨c,((zU W k n x).block b (zA h1) (fun e=>hk (by injection e with e;exact e.symm))).trans h1,h2⟩
theorem ArrI.below {W W':World} {b:Nat} {f:Nat→Int} (h:ArrI W b f) (hb:Below W.heap.size W W'):ArrI W' b f:=by
 obtain⟨c,h1,h2⟩:=h
 exact⟨c,(hb.block _ (zA h1)).trans h1,h2⟩
theorem zeroL15:(∀w,(zeroValue 112).run Tryz.prog w = .ok (.agg (Array.replicate 100 (.bool false))) w)∧(Tryz.prog.info? 112).map (·.size)=some 100:=zero_of_info (by kernel_rfl)
theorem zeroN15:(∀w,(zeroValue 113).run Tryz.prog w = .ok (.agg (Array.replicate 100 (.int .i64 0))) w)∧(Tryz.prog.info? 113).map (·.size)=some 100:=zero_of_info (by kernel_rfl)
theorem arr_new15 (w:World):ArrB ((w.alloc (.cells (Array.replicate 100 (.bool false)) 112)).alloc (.cells (Array.replicate 100 (.int .i64 0)) 113)) w.heap.size (fun _=>false)∧ArrI ((w.alloc (.cells (Array.replicate 100 (.bool false)) 112)).alloc (.cells (Array.replicate 100 (.int .i64 0)) 113)) (w.heap.size+1) (fun _=>0)∧Below w.heap.size w ((w.alloc (.cells (Array.replicate 100 (.bool false)) 112)).alloc (.cells (Array.replicate 100 (.int .i64 0)) 113)):=by
 obtain⟨h1,h2,h3⟩:=zV w (.cells (Array.replicate 100 (.bool false)) 112) (.cells (Array.replicate 100 (.int .i64 0)) 113)
 exact⟨⟨_,h1,fun n hn=>by rw[Array.getElem?_replicate,if_pos hn]⟩,⟨_,h2,fun n hn=>by rw[Array.getElem?_replicate,if_pos hn]⟩,h3⟩
end Go.Proofs.YtemmgmjhomgbbaaGreat
