/-
 The document's own package state: May.
 Conditions: none.
-/
import Derived.Test.YtemmgmjhomgbbaaGreatUGStaRefH
import Derived.Test.YtemmgmjhomgbbaaGreatUStaRefF
set_option linter.unusedVariables false
set_option linter.unusedSimpArgs false
set_option maxRecDepth 100000
namespace Go.Proofs.YtemmgmjhomgbbaaGreat
open Go.RowKit
structure SndParts (p:Pl) (s:qD):Prop where
 sound:jB p
 parts:vV p s
def HeldOK (p:Pl) (s:qD) (i:Nat):Prop:=∀a,a<i→∀k,k<a→∀x,x∈jH p s k→x∉jH p s a
def AskedOK (p:Pl) (s:qD) (i:Nat):Prop:=∀a,a<i→∀x∈jN p s a,callN p s x.1=x.2.1
def SeenP (p:Pl) (s:qD) (i:Nat) (f:Nat→Bool):Prop:=∀n,n<100→(f n=true↔∃k,k<i∧(n:Int)∈jH p s k)
def SaidP (p:Pl) (s:qD) (g:Nat→Int):Prop:=∀n,n<100→g n≠0→callN p s (n:Int)=g n
theorem parts_of15 {p:Pl} {s:qD} (h:kP p s=true):vV p s:=Classical.byContradiction fun hn=>by rw[jT hn] at h;cases h
theorem may_of15 {p:Pl} {s:qD} (h:SndParts p s) (h1:HeldOK p s s.lk.length) (h2:AskedOK p s s.lk.length):yD p s:=⟨h.sound,h.parts,fun i k hi hk=>h1 i hi k hk,fun i hi=>h2 i hi⟩
set_option maxHeartbeats 32000000 in
theorem zC7:RMay15:=by
 intro v y p s w h h'
 obtain⟨p2,p3,p4,p5,rfl,h⟩:=h
 obtain⟨A2,a2,rfl,hcl,hcm⟩:=h.secs.slice
 obtain⟨b2,hb2⟩:=zD1 (p.secs.length)
 have P2:Hid (zX w w.heap.size (.slice A2 b2 a2) p.secs):=zD0 (by rw[hb2];exact h.secs)
 have hbb2:b2≤9223372036854775807:=by unfold maxLen at hcm;omega
 rw[←hb2]
 clear hcl hcm
 obtain⟨A3,a3,rfl,hcl,hcm⟩:=h.pts.slice
 obtain⟨b3,hb3⟩:=zD1 (p.pts.length)
 have P3:Hid (zT w w.heap.size (.slice A3 b3 a3) p.pts):=zD0 (by rw[hb3];exact h.pts)
 have hbb3:b3≤9223372036854775807:=by unfold maxLen at hcm;omega
 rw[←hb3]
 clear hcl hcm
 obtain⟨A4,a4,rfl,hcl,hcm⟩:=h.sigs.slice
 obtain⟨b4,hb4⟩:=zD1 (p.sigs.length)
 have P4:Hid (xI w w.heap.size (.slice A4 b4 a4) p.sigs):=zD0 (by rw[hb4];exact h.sigs)
 have hbb4:b4≤9223372036854775807:=by unfold maxLen at hcm;omega
 rw[←hb4]
 clear hcl hcm
 obtain⟨A5,a5,rfl,hcl,hcm⟩:=h.routes.slice
 obtain⟨b5,hb5⟩:=zD1 (p.routes.length)
 have P5:Hid (qX w w.heap.size (.slice A5 b5 a5) p.routes):=zD0 (by rw[hb5];exact h.routes)
 have hbb5:b5≤9223372036854775807:=by unfold maxLen at hcm;omega
 rw[←hb5]
 clear hcl hcm
 have HBL:Hid (b2=p.secs.length∧b3=p.pts.length∧b4=p.sigs.length∧b5=p.routes.length):=zD0 ⟨hb2,hb3,hb4,hb5⟩
 clear h hb2 hb3 hb4 hb5
 obtain⟨_,_,_,rfl,h'⟩:=h'
 obtain⟨S0,Sc0,rfl,hcl,hcm⟩:=h'.tr.slice
 obtain⟨Sn0,hS0⟩:=zD1 (s.tr.length)
 have HS0:Hid (jD w w.heap.size (.slice S0 Sn0 Sc0) s.tr):=zD0 (by rw[hS0];exact h'.tr)
 have hbS0:Sn0≤9223372036854775807:=by unfold maxLen at hcm;omega
 rw[←hS0]
 clear hcl hcm
 obtain⟨S1,Sc1,rfl,hcl,hcm⟩:=h'.sw.slice
 obtain⟨Sn1,hS1⟩:=zD1 (s.sw.length)
 have HS1:Hid (xP w w.heap.size (.slice S1 Sn1 Sc1) s.sw):=zD0 (by rw[hS1];exact h'.sw)
 have hbS1:Sn1≤9223372036854775807:=by unfold maxLen at hcm;omega
 rw[←hS1]
 clear hcl hcm
 obtain⟨S2,Sc2,rfl,hcl,hcm⟩:=h'.lk.slice
 obtain⟨Sn2,hS2⟩:=zD1 (s.lk.length)
 have HS2:Hid (xO w w.heap.size (.slice S2 Sn2 Sc2) s.lk):=zD0 (by rw[hS2];exact h'.lk)
 have hbS2:Sn2≤9223372036854775807:=by unfold maxLen at hcm;omega
 rw[←hS2]
 clear hcl hcm
 have NS:Hid (Sn0=s.tr.length∧Sn1=s.sw.length∧Sn2=s.lk.length):=zD0 ⟨hS0,hS1,hS2⟩
 clear h' hS0 hS1 hS2
 have PV:Hid (∀W,Below w.heap.size w W→qF W W.heap.size (.agg #[.int .i64 p.ver,.int .i64 p.par,.slice A2 b2 a2,.slice A3 b3 a3,.slice A4 b4 a4,.slice A5 b5 a5]) p):=zD0 (fun W b=>⟨_,_,_,_,rfl,⟨(P2.out.below zN b).more zN b.size,(P3.out.below zM b).more zM b.size,(P4.out.below zP b).more zP b.size,(P5.out.below qM b).more qM b.size⟩⟩)
 have SV:Hid (∀W,Below w.heap.size w W→qL W W.heap.size (.agg #[.slice S0 Sn0 Sc0,.slice S1 Sn1 Sc1,.slice S2 Sn2 Sc2]) s):=zD0 (fun W b=>⟨_,_,_,rfl,⟨(HS0.out.below xY b).more xY b.size,(HS1.out.below zP b).more zP b.size,(HS2.out.below xQ b).more xQ b.size⟩⟩)
 clear P2 P3 P4 P5 HBL hbb2 hbb3 hbb4 hbb5 hbS0 HS0
 have hq:=zV w (.cells #[.int .i64 p.ver,.int .i64 p.par,.slice A2 b2 a2,.slice A3 b3 a3,.slice A4 b4 a4,.slice A5 b5 a5] 27) (.cells #[.slice S0 Sn0 Sc0,.slice S1 Sn1 Sc1,.slice S2 Sn2 Sc2] 32)
 go_enter Tryz.func35,Tryz.ntmps35
 go_upto_region 1 with fail
 generalize (w.alloc (.cells #[.int .i64 p.ver,.int .i64 p.par,.slice A2 b2 a2,.slice A3 b3 a3,.slice A4 b4 a4,.slice A5 b5 a5] 27)).alloc (.cells #[.slice S0 Sn0 Sc0,.slice S1 Sn1 Sc1,.slice S2 Sn2 Sc2] 32)=q at hq⊢
 obtain⟨q0,q1,qb⟩:=hq
 have X:=zD0 q0
 have Y:=zD0 q1
 have BQ:=zD0 qb
 clear q0 q1 qb
 obtain⟨k0,k1,k2,k3,k4,k5⟩:=zE X.out
 obtain⟨m0,m1,m2⟩:=zC Y.out
 go_wp2_with fail
 refine(rmay10_any _ p q (PV.out q BQ.out)).mono ?_
 rintro e w1 ⟨rfl,b⟩
 have tX:=(b.block _ (zA X.out)).trans X.out
 have tY:=(b.block _ (zA Y.out)).trans Y.out
 have tB:=BQ.out.trans (b.mono BQ.out.size)
 clear X Y BQ b k0 k1 k2 k3 k4 k5 m0 m1 m2
 have X:=zD0 tX
 have Y:=zD0 tY
 have BQ:=zD0 tB
 clear tX tY tB
 obtain⟨g,hg⟩:=zD1 (vX p)
 rw[←hg]
 have HG:=zD0 hg
 clear hg
 cases g with
 | false=>
  have HR:Hid (zB1 p s=false):=zD0 (yO.2 fun h=>by have h1:=HG.out;rw[kW h.sound] at h1;cases h1)
  go_wp2_with fail
  go_ret
  exact⟨by rw[HR.out];rfl,BQ.out⟩
 | true=>
  obtain⟨k0,k1,k2,k3,k4,k5⟩:=zE X.out
  obtain⟨m0,m1,m2⟩:=zC Y.out
  go_wp2_with fail
  refine(rparts15_any _ _ p s w1 (PV.out w1 BQ.out) (SV.out w1 BQ.out)).mono ?_
  rintro e w2 ⟨rfl,b⟩
  have tX:=(b.block _ (zA X.out)).trans X.out
  have tY:=(b.block _ (zA Y.out)).trans Y.out
  have tB:=BQ.out.trans (b.mono BQ.out.size)
  clear X Y BQ b k0 k1 k2 k3 k4 k5 m0 m1 m2
  have X:=zD0 tX
  have Y:=zD0 tY
  have BQ:=zD0 tB
  clear tX tY tB
  obtain⟨g,hg⟩:=zD1 (kP p s)
  rw[←hg]
  have HG2:=zD0 hg
  clear hg
  cases g with
  | false=>
   have HR:Hid (zB1 p s=false):=zD0 (yO.2 fun h=>by have h1:=HG2.out;rw[zC2 h.parts] at h1;cases h1)
   go_wp2_with fail
   go_ret
   exact⟨by rw[HR.out];rfl,BQ.out⟩
  | true=>
   have HM:Hid (SndParts p s):=zD0 ⟨soundP_iff.1 HG.out.symm,parts_of15 HG2.out.symm⟩
   clear HG HG2
   have hz1:=zeroL15.1
   have hz2:=zeroN15.1
   obtain⟨ha,hb,hc⟩:=arr_new15 w2
   go_upto_region 6 with fail
   generalize (w2.alloc (.cells (Array.replicate 100 (.bool false)) 112)).alloc (.cells (Array.replicate 100 (.int .i64 0)) 113)=w3 at ha hb hc⊢
   have A0:=zD0 ha
   have A1:=zD0 hb
   have BA:=zD0 hc
   clear ha hb hc hz1 hz2
   go_loopw [7] (fun s7 wr=>∃i:Nat,i≤Sn2∧s7 = .int .i64 i∧(∃f,ArrB wr w2.heap.size f∧SeenP p s i f)∧(∃g,ArrI wr (w2.heap.size+1) g∧SaidP p s g)∧HeldOK p s i∧AskedOK p s i∧Below w2.heap.size w2 wr) (fun s7 _=>Sn2-(intOf s7).toNat)
   case atStart=>exact⟨0,by omega,by go_num,⟨_,A0.out,fun n hn=>⟨fun h=>(by cases h),fun⟨k,hk,_⟩=>absurd hk (by omega)⟩⟩,⟨_,A1.out,fun n hn h=>absurd rfl h⟩,fun a ha=>absurd ha (by omega),fun a ha=>absurd ha (by omega),BA.out⟩
   case round=>
    obtain⟨wx,hwx⟩:=zD1 (wr)
    subst hwx
    obtain⟨i,hi,rfl,⟨f,hf,hfs⟩,⟨g,hg,hgs⟩,hok1,hok2,hbw⟩:=hrel
    have ABx:=zD0 hf
    have HSEEN:=zD0 hfs
    have AIx:=zD0 hg
    have HSAID:=zD0 hgs
    have OK1:=zD0 hok1
    have OK2:=zD0 hok2
    have BW:=zD0 hbw
    clear hf hfs hg hgs hok1 hok2 hbw
    have BF:=zD0 (BQ.out.trans (BW.out.mono BQ.out.size))
    have XPw:=zD0 ((BW.out.block _ (zA X.out)).trans X.out)
    have YPw:=zD0 ((BW.out.block _ (zA Y.out)).trans Y.out)
    obtain⟨m0,m1,m2⟩:=zC YPw.out
    by_cases hlt:i<Sn2
    ·have hlt':(i:Int)<Sn2:=by omega
     have hir:i<s.lk.length:=by have:=NS.out;omega
     obtain⟨ba,oa,hes,hba,hc0,hc1,hc2,hc3,-,-⟩:=((HS2.out.below xQ BF.out).more xQ BF.out.size).at hir
     cases hes
     obtain⟨a0_,ha0⟩:=zD1 (s.lk[i].1)
     rw[←ha0] at hc0
     obtain⟨a1_,ha1⟩:=zD1 (s.lk[i].2.1)
     rw[←ha1] at hc1
     obtain⟨a2_,ha2⟩:=zD1 (s.lk[i].2.2.1)
     rw[←ha2] at hc2
     obtain⟨a3_,ha3⟩:=zD1 (s.lk[i].2.2.2)
     rw[←ha3] at hc3
     have HAL:Hid (s.lk[i]=(a0_,a1_,a2_,a3_)):=zD0 (by rw[ha0,ha1,ha2,ha3])
     have G0:Hid (wx.cell? ⟨ba,oa+i*4,none⟩=some (.int .i64 a0_)):=zD0 hc0
     have G1:Hid (wx.cell? ⟨ba,oa+i*4+1,none⟩=some (.int .u8 a1_)):=zD0 hc1
     have G2:Hid (wx.cell? ⟨ba,oa+i*4+2,none⟩=some (.int .i64 a2_)):=zD0 hc2
     have G3:Hid (wx.cell? ⟨ba,oa+i*4+3,none⟩=some (.int .i64 a3_)):=zD0 hc3
     clear hc0 hc1 hc2 hc3 ha0 ha1 ha2 ha3 hba
     go_upto_region 8 with fail
     clear m0 m1 m2
     have HPR:Hid (∃hp:i<p.routes.length,rtN p i=p.routes[i]∧lkN s i=(a0_,a1_,a2_,a3_)):=zD0 (by
      have hp:i<p.routes.length:=by rw[←HM.out.parts.nl];exact hir
      exact⟨hp,vP hp,by rw[lkN_at hir,HAL.out]⟩)
     have HC0:Hid (a1_≠0→0≤a2_):=zD0 (by
      have h:=zDg HM.out.sound.may HM.out.parts hir
      rw[HAL.out] at h
      exact fun g=>(h g).1)
     have SD:=(Below.refl wx.heap.size wx).drew
     refine wp_region_held_drew (S:=fun v=>Below wx.heap.size wx v) (by kernel_rfl) SD (fun zD2=>?_)
     refine tkc 0 zD2 (fun w' hSw=>zE ((hSw.block _ (zA XPw.out)).trans XPw.out)) ?_;refine tk 1 zD2 ?_;refine tkc 2 zD2 (fun w' hSw=>zC ((hSw.block _ (zA YPw.out)).trans YPw.out)) ?_;refine tk 3 zD2 ?_;refine tk 4 zD2 ?_
     refine wpAnyH_take (i:=5) (v:=?_) rfl (by kernel_rfl) (by kernel_rfl) (by kernel_rfl) (fun _ _ _ h=>h) (Or.inl ⟨by rfl,?_⟩) zD2 ?_
     rotate_left
     ·intro w' hSw;have cG0:=(hSw.cell (zG G0.out)).trans G0.out;have cG1:=(hSw.cell (zG G1.out)).trans G1.out;have cG2:=(hSw.cell (zG G2.out)).trans G2.out;have cG3:=(hSw.cell (zG G3.out)).trans G3.out;go_simp;try with_reducible rfl
     simp only[zn,Act.put]
     refine tk 6 zD2 ?_
     refine tkr 7 (fun K hK=>?_)
     go_simp
     refine(rheld15_any _ p (rtN p i) i HPR.out.1 HPR.out.2.1.symm HM.out.sound a0_ a1_ a2_ a3_ HC0.out wx.drew (PV.out _ (BF.out.trans (SD.mono BF.out.size)))).mono ?_
     rintro e v5 ⟨u,rfl,hu,b⟩
     have hu:qV v5 wx.heap.size u (jH p s i):=by
      have e:jH p s i=heldL (rtN p i) (a0_,a1_,a2_,a3_):=by unfold jH;rw[HPR.out.2.2]
      rw[e];exact hu
     obtain⟨LL,hLL⟩:=zD1 (jH p s i)
     rw[←hLL] at hu
     have HLL:=zD0 hLL
     clear hLL
     obtain⟨A8,c8,rfl,hy1,hy2⟩:=(hu.in_ zZ).slice
     obtain⟨m8,hm8⟩:=zD1 (LL.length)
     have HU:Hid (xB v5 v5.heap.size (.slice A8 m8 c8) LL):=zD0 (by rw[hm8];exact hu.in_ zZ)
     rw[←hm8]
     have HO:Hid (qV v5 wx.heap.size (.slice A8 m8 c8) LL):=zD0 (by rw[hm8];exact hu)
     have hm8m:m8≤9223372036854775807:=by unfold maxLen at hy2;omega
     have HM8:=zD0 hm8
     have B5:Hid (Below wx.heap.size wx v5):=zD0 (SD.trans (b.mono SD.size))
     clear b hu hy1 hy2 hm8
     try go_wp2_with fail
     refine hK.out _ _ ?_ fun zD2=>?_;exact B5.out;clear hK K;try simp only[zn,Act.put]
     refine tk 8 zD2 ?_
     refine wpAnyH_done (by kernel_rfl) ?_ _
     have B9:=zD0 (BF.out.trans (B5.out.mono BF.out.size))
     have X9:=zD0 ((B5.out.block _ (zA XPw.out)).trans XPw.out)
     have Y9:=zD0 ((B5.out.block _ (zA YPw.out)).trans YPw.out)
     have N0:=zD0 ((B5.out.cell (zG G0.out)).trans G0.out)
     have N1:=zD0 ((B5.out.cell (zG G1.out)).trans G1.out)
     have N2:=zD0 ((B5.out.cell (zG G2.out)).trans G2.out)
     have N3:=zD0 ((B5.out.cell (zG G3.out)).trans G3.out)
     have BW9:=zD0 (BW.out.trans (B5.out.mono BW.out.size))
     have AB9:=zD0 (ABx.out.below B5.out)
     have AI9:=zD0 (AIx.out.below B5.out)
     clear SD B5 XPw YPw G0 G1 G2 G3 BF BW
     have HRI:Hid (qW p (rtN p i)):=zD0 (jO HM.out.sound.may HPR.out.1 HPR.out.2.1.symm)
     have HND:Hid (LL.Pairwise (· ≠ ·)):=zD0 (by rw[HLL.out];exact held_nodup15 HRI.out _)
     have HID:Hid (∀x,x∈LL→0≤x∧x<100):=zD0 (fun x hx=>all_id15 HRI.out (held_sub15 (by rw[HLL.out] at hx;exact hx)))
     clear N0 N1 N2 N3 X9 Y9 B9
     go_upto_region 10 with fail
     go_loopw [9] (fun s9 wr=>∃j:Nat,j≤m8∧s9 = .int .i64 j∧(∃f,ArrB wr w2.heap.size f∧∀n,n<100→(f n=true↔(∃k,k<i∧(n:Int)∈jH p s k)∨(n:Int)∈LL.take j))∧ArrI wr (w2.heap.size+1) g∧(∀x,x∈LL.take j→∀k,k<i→x∉jH p s k)∧qV wr wx.heap.size (.slice A8 m8 c8) LL∧Below w2.heap.size w2 wr) (fun s9 _=>m8-(intOf s9).toNat)
     case atStart=>exact⟨0,by omega,by go_num,⟨f,AB9.out,fun n hn=>by rw[HSEEN.out n hn];simp⟩,AI9.out,fun x hx=>by simp at hx,HO.out,BW9.out⟩
     case round=>
      obtain⟨wz,hwz⟩:=zD1 (wr)
      subst hwz
      obtain⟨j,hj,rfl,⟨f2,hf,hfs⟩,hg,hdj,hol,hbw⟩:=hrel
      have AB2:=zD0 hf
      have HF2:=zD0 hfs
      have AI2:=zD0 hg
      have HDJ:=zD0 hdj
      have OL:=zD0 hol
      have BZ:=zD0 hbw
      clear hf hfs hg hdj hol hbw
      by_cases hjl:j<m8
      ·have hjl':(j:Int)<m8:=by omega
       have hjr:j<LL.length:=by have:=HM8.out;omega
       obtain⟨bs,os,ebs,hbs,hs0⟩:=(OL.out.in_ zZ).at hjr
       obtain⟨n,hn,hnz⟩:∃n:Nat,n<100∧LL[j]=(n:Int):=⟨LL[j].toNat,by have:=HID.out _ (List.getElem_mem hjr);omega,by have:=HID.out _ (List.getElem_mem hjr);omega⟩
       rw[hnz] at hs0
       have g0:wz.cell? ⟨bs,os+j,none⟩=some (.int .i64 (n:Int)):=by simpa [jU] using hs0
       have HNZ:=zD0 hnz
       have HMEM:Hid ((n:Int)∈jH p s i):=zD0 (by rw[←hnz,←HLL.out];exact List.getElem_mem hjr)
       subst ebs
       clear hs0 hnz hbs
       have hn1:(n:Int)<100:=by omega
       have hn0:(0:Int)≤n:=by omega
       have hn2:¬(n:Int)<0:=by omega
       have ca:=AB2.out.cell hn
       obtain⟨u,hu⟩:=zD1 (f2 n)
       rw[←hu] at ca
       have HU2:=zD0 hu
       clear hu
       cases u with
       | true=>
        have HF:Hid (zB1 p s=false):=zD0 (yO.2 fun h=>by
         rcases(HF2.out n hn).1 HU2.out.symm with⟨k,hk,hm⟩|hm
         ·exact h.held i k hir hk _ hm HMEM.out
         ·exact take_new15 HND.out hjr (by rw[HNZ.out];exact hm))
        go_wp2_with fail
        go_ret
        exact⟨by rw[HF.out];rfl,BQ.out.trans (BZ.out.mono BQ.out.size)⟩
       | false=>
        have fz:=AB2.out.frozen n
        have hAB:=AB2.out.set hn true
        have hAI:=AI2.out.off (k:=w2.heap.size) (by omega) n (.bool true)
        have hOL:=xD (T:=3) (T':=112) (R:=jU) jW OL.out (zU wz w2.heap.size n (.bool true)) (by decide) (by obtain⟨c,h1,-⟩:=AB2.out;exact⟨c,h1⟩)
        have hBZ:=qH BZ.out (Nat.le_refl w2.heap.size) n (.bool true)
        go_upto_region 11 with fail
        generalize wz.setCell ⟨w2.heap.size,n,none⟩ (.bool true)=wy at hAB hAI hOL hBZ⊢
        have AB3:=zD0 hAB
        have AI3:=zD0 hAI
        have OL3:=zD0 hOL
        have BZ3:=zD0 hBZ
        have HT:Hid (LL.take (j+1)=LL.take j++[(n:Int)]):=zD0 (by rw[List.take_succ_eq_append_getElem hjr,HNZ.out])
        have HF3:Hid (∀m,m<100→((if m=n then true else f2 m)=true↔(∃k,k<i∧(m:Int)∈jH p s k)∨(m:Int)∈LL.take (j+1))):=zD0 (fun m hm=>by
         rw[HT.out,List.mem_append,List.mem_singleton]
         by_cases e:m=n
         ·subst e;rw[if_pos rfl];exact⟨fun _=>.inr (.inr rfl),fun _=>rfl⟩
         ·rw[if_neg e,HF2.out m hm]
          constructor
          ·rintro(h|h)
           ·exact .inl h
           ·exact .inr (.inl h)
          ·rintro(h|h|h)
           ·exact .inl h
           ·exact .inr h
           ·exact absurd h (by omega))
        have HD3:Hid (∀x,x∈LL.take (j+1)→∀k,k<i→x∉jH p s k):=zD0 (fun x hx k hk hm=>by
         rw[HT.out,List.mem_append,List.mem_singleton] at hx
         rcases hx with hx|rfl
         ·exact HDJ.out x hx k hk hm
         ·have h:=(HF2.out n hn).2 (.inl ⟨k,hk,hm⟩)
          rw[←HU2.out] at h
          cases h)
        clear fz ca g0 hAB hAI hOL hBZ AB2 HF2 AI2 HDJ OL BZ
        go_wp2_with fail
        go_roundw
        case measure=>simp[intOf];omega
        case rel=>exact⟨j+1,by omega,by go_num,⟨_,AB3.out,HF3.out⟩,AI3.out,HD3.out,OL3.out,BZ3.out⟩
      ·obtain rfl:j=m8:=by omega
       have hjl':¬(j:Int)<j:=by omega
       have HTA:Hid (LL.take j=jH p s i):=zD0 (by rw[List.take_of_length_le (by rw[HM8.out];exact Nat.le_refl _),HLL.out])
       have SEEN:Hid (SeenP p s (i+1) f2):=zD0 (fun n hn=>by
        rw[HF2.out n hn,HTA.out]
        constructor
        ·rintro(⟨k,hk,h⟩|h)
         ·exact⟨k,by omega,h⟩
         ·exact⟨i,by omega,h⟩
        ·rintro⟨k,hk,h⟩
         by_cases e:k=i
         ·subst e;exact .inr h
         ·exact .inl ⟨k,by omega,h⟩)
       have OK1':Hid (HeldOK p s (i+1)):=zD0 (fun a ha k hk x hx hy=>by
        by_cases e:a=i
        ·subst e;exact HDJ.out x (by rw[HTA.out];exact hy) k hk hx
        ·exact OK1.out a (by omega) k hk x hx hy)
       have BW:=BZ
       have BF:=zD0 (BQ.out.trans (BW.out.mono BQ.out.size))
       have XPw:=zD0 ((BW.out.block _ (zA X.out)).trans X.out)
       have YPw:=zD0 ((BW.out.block _ (zA Y.out)).trans Y.out)
       clear HF2 HDJ OL BZ HTA HND HID
       go_upto_region 15 with fail
       clear HPR HC0 HAL HU HO HLL HM8
       have hir:i<s.lk.length:=by have:=NS.out;omega
       obtain⟨ba,oa,hes,hba,hc0,hc1,hc2,hc3,-,-⟩:=((HS2.out.below xQ BF.out).more xQ BF.out.size).at hir
       cases hes
       obtain⟨a0_,ha0⟩:=zD1 (s.lk[i].1)
       rw[←ha0] at hc0
       obtain⟨a1_,ha1⟩:=zD1 (s.lk[i].2.1)
       rw[←ha1] at hc1
       obtain⟨a2_,ha2⟩:=zD1 (s.lk[i].2.2.1)
       rw[←ha2] at hc2
       obtain⟨a3_,ha3⟩:=zD1 (s.lk[i].2.2.2)
       rw[←ha3] at hc3
       have HAL:Hid (s.lk[i]=(a0_,a1_,a2_,a3_)):=zD0 (by rw[ha0,ha1,ha2,ha3])
       have G0:Hid (wz.cell? ⟨ba,oa+i*4,none⟩=some (.int .i64 a0_)):=zD0 hc0
       have G1:Hid (wz.cell? ⟨ba,oa+i*4+1,none⟩=some (.int .u8 a1_)):=zD0 hc1
       have G2:Hid (wz.cell? ⟨ba,oa+i*4+2,none⟩=some (.int .i64 a2_)):=zD0 hc2
       have G3:Hid (wz.cell? ⟨ba,oa+i*4+3,none⟩=some (.int .i64 a3_)):=zD0 hc3
       clear hc0 hc1 hc2 hc3 ha0 ha1 ha2 ha3 hba
       have HPR:Hid (∃hp:i<p.routes.length,rtN p i=p.routes[i]∧lkN s i=(a0_,a1_,a2_,a3_)):=zD0 (by
        have hp:i<p.routes.length:=by rw[←HM.out.parts.nl];exact hir
        exact⟨hp,vP hp,by rw[lkN_at hir,HAL.out]⟩)
       have HC0:Hid (a1_≠0→0≤a2_):=zD0 (by
        have h:=zDg HM.out.sound.may HM.out.parts hir
        rw[HAL.out] at h
        exact fun g=>(h g).1)
       have SD:=(Below.refl wz.heap.size wz).drew
       refine wp_region_held_drew (S:=fun v=>Below wz.heap.size wz v) (by kernel_rfl) SD (fun zD2=>?_)
       refine tkc 0 zD2 (fun w' hSw=>zE ((hSw.block _ (zA XPw.out)).trans XPw.out)) ?_;refine tk 1 zD2 ?_;refine tkc 2 zD2 (fun w' hSw=>zC ((hSw.block _ (zA YPw.out)).trans YPw.out)) ?_;refine tk 3 zD2 ?_;refine tk 4 zD2 ?_
       refine wpAnyH_take (i:=5) (v:=?_) rfl (by kernel_rfl) (by kernel_rfl) (by kernel_rfl) (fun _ _ _ h=>h) (Or.inl ⟨by rfl,?_⟩) zD2 ?_
       rotate_left
       ·intro w' hSw;have cG0:=(hSw.cell (zG G0.out)).trans G0.out;have cG1:=(hSw.cell (zG G1.out)).trans G1.out;have cG2:=(hSw.cell (zG G2.out)).trans G2.out;have cG3:=(hSw.cell (zG G3.out)).trans G3.out;go_simp;try with_reducible rfl
       simp only[zn,Act.put]
       refine tk 6 zD2 ?_
       refine tkr 7 (fun K hK=>?_)
       go_simp
       refine(rasks15_any _ p (rtN p i) i HPR.out.1 HPR.out.2.1.symm HM.out.sound a0_ a1_ a2_ a3_ HC0.out wz.drew (PV.out _ (BF.out.trans (SD.mono BF.out.size)))).mono ?_
       rintro e v5 ⟨u,rfl,hu,b⟩
       have hu:jV v5 wz.heap.size u (jN p s i):=by
        have e:jN p s i=zBs p (rtN p i) (a0_,a1_,a2_,a3_):=by unfold jN;rw[HPR.out.2.2]
        rw[e];exact hu
       obtain⟨LL,hLL⟩:=zD1 (jN p s i)
       rw[←hLL] at hu
       have HLL:=zD0 hLL
       clear hLL
       obtain⟨A8,c8,rfl,hy1,hy2⟩:=(hu.in_ jJ).slice
       obtain⟨m8,hm8⟩:=zD1 (LL.length)
       have HU:Hid (AsksIn v5 v5.heap.size (.slice A8 m8 c8) LL):=zD0 (by rw[hm8];exact hu.in_ jJ)
       rw[←hm8]
       have HO:Hid (jV v5 wz.heap.size (.slice A8 m8 c8) LL):=zD0 (by rw[hm8];exact hu)
       have hm8m:m8≤9223372036854775807:=by unfold maxLen at hy2;omega
       have HM8:=zD0 hm8
       have B5:Hid (Below wz.heap.size wz v5):=zD0 (SD.trans (b.mono SD.size))
       clear b hu hy1 hy2 hm8
       try go_wp2_with fail
       refine hK.out _ _ ?_ fun zD2=>?_;exact B5.out;clear hK K;try simp only[zn,Act.put]
       refine tk 8 zD2 ?_
       refine wpAnyH_done (by kernel_rfl) ?_ _
       have B9:=zD0 (BF.out.trans (B5.out.mono BF.out.size))
       have X9:=zD0 ((B5.out.block _ (zA XPw.out)).trans XPw.out)
       have Y9:=zD0 ((B5.out.block _ (zA YPw.out)).trans YPw.out)
       have N0:=zD0 ((B5.out.cell (zG G0.out)).trans G0.out)
       have N1:=zD0 ((B5.out.cell (zG G1.out)).trans G1.out)
       have N2:=zD0 ((B5.out.cell (zG G2.out)).trans G2.out)
       have N3:=zD0 ((B5.out.cell (zG G3.out)).trans G3.out)
       have BW9:=zD0 (BW.out.trans (B5.out.mono BW.out.size))
       have AB9:=zD0 (AB2.out.below B5.out)
       have AI9:=zD0 (AI2.out.below B5.out)
       clear SD B5 XPw YPw G0 G1 G2 G3 BF BW
       go_upto_region 17 with fail
       go_loopw [11] (fun s11 wr=>∃j:Nat,j≤m8∧s11 = .int .i64 j∧ArrB wr w2.heap.size f2∧(∃g,ArrI wr (w2.heap.size+1) g∧SaidP p s g)∧(∀x,x∈LL.take j→callN p s x.1=x.2.1)∧jV wr wz.heap.size (.slice A8 m8 c8) LL∧Below w2.heap.size w2 wr) (fun s11 _=>m8-(intOf s11).toNat)
       case atStart=>exact⟨0,by omega,by go_num,AB9.out,⟨g,AI9.out,HSAID.out⟩,fun x hx=>by simp at hx,HO.out,BW9.out⟩
       case round=>
        obtain⟨wv,hwv⟩:=zD1 (wr)
        subst hwv
        obtain⟨j,hj,rfl,hf,⟨g3,hg,hgs⟩,hdj,hol,hbw⟩:=hrel
        have ABv:=zD0 hf
        have AIv:=zD0 hg
        have HSAID3:=zD0 hgs
        have HDJ:=zD0 hdj
        have OLv:=zD0 hol
        have BV:=zD0 hbw
        clear hf hg hgs hdj hol hbw
        by_cases hjl:j<m8
        ·have hjl':(j:Int)<m8:=by omega
         have hjr:j<LL.length:=by have:=HM8.out;omega
         obtain⟨bs,os,ebs,hbs,hs0,hs1,hs2⟩:=(OLv.out.in_ jJ).at hjr
         have HINN:Hid (LL[j]∈jN p s i):=zD0 (by rw[←HLL.out];exact List.getElem_mem hjr)
         obtain⟨n,hn,hnz,k,hk,hat⟩:=ask_id15 HM.out.sound HPR.out.1 HINN.out
         obtain⟨z1_,hz1⟩:=zD1 (LL[j].2.1)
         obtain⟨z2_,hz2⟩:=zD1 (LL[j].2.2)
         have HX0:=zD0 hnz
         have HX1:=zD0 hz1.symm
         rw[hnz] at hat
         have HAT:=zD0 hat
         have hks:k<s.sw.length:=by rw[HM.out.parts.ns];exact hk
         have hks':(k:Int)<Sn1:=by have:=NS.out;omega
         have hk0:(0:Int)≤k:=by omega
         have hk1:¬(k:Int)<0:=by omega
         obtain⟨cl_,hcl0⟩:=zD1 (s.sw[k].2.2)
         have HCN:Hid (callN p s (n:Int)=cl_):=zD0 (by rw[callN,hat,hcl0];simp[List.getD,List.getElem?_eq_getElem hks])
         rw[hnz] at hs0
         rw[←hz1] at hs1
         rw[←hz2] at hs2
         have g0:wv.cell? ⟨bs,os+j*3,none⟩=some (.int .i64 (n:Int)):=hs0
         have g1:wv.cell? ⟨bs,os+j*3+1,none⟩=some (.int .i64 z1_):=hs1
         have g2:wv.cell? ⟨bs,os+j*3+2,none⟩=some (.int .i64 z2_):=hs2
         subst ebs
         have x12:=zB wv (.cells #[.int .i64 (n:Int),.int .i64 z1_,.int .i64 z2_] 108)
         have b12:=zD wv (.cells #[.int .i64 (n:Int),.int .i64 z1_,.int .i64 z2_] 108)
         have tS:=((BQ.out.trans (BV.out.mono BQ.out.size)).trans (b12.mono (Nat.le_trans BQ.out.size BV.out.size)))
         obtain⟨bk_,ok_,hek,hbk,-,-,hc2⟩:=((HS1.out.below zP tS).more zP tS.size).at hks
         rw[←hcl0] at hc2
         clear hs0 hs1 hs2 hnz hz1 hz2 hbs hat hcl0 hk tS
         go_upto_region 20 with fail
         generalize wv.alloc (.cells #[.int .i64 (n:Int),.int .i64 z1_,.int .i64 z2_] 108)=wy at x12 b12 hc2⊢
         have GS:Hid (wy.cell? ⟨bk_,ok_+k*3+2,none⟩=some (.int .i64 cl_)):=zD0 hc2
         have ABy:=zD0 (ABv.out.below b12)
         have AIy:=zD0 (AIv.out.below b12)
         have OLy:=zD0 (OLv.out.below zP b12)
         have BY:=zD0 (BV.out.trans (b12.mono BV.out.size))
         generalize wv.heap.size=p12 at x12⊢
         have X12:=zD0 x12
         have XPv:=zD0 ((BY.out.block _ (zA X.out)).trans X.out)
         have YPv:=zD0 ((BY.out.block _ (zA Y.out)).trans Y.out)
         clear x12 b12 hc2 hbk g0 g1 g2 ABv AIv OLv BV
         cases hek
         have hn1:(n:Int)<100:=by omega
         have hn0:(0:Int)≤n:=by omega
         have hn2:¬(n:Int)<0:=by omega
         obtain⟨gn,hgn⟩:=zD1 (g3 n)
         have GA:Hid (wy.cell? ⟨w2.heap.size+1,n,none⟩=some (.int .i64 gn)):=zD0 (by rw[hgn];exact AIy.out.cell hn)
         have HGN:=zD0 hgn
         clear hgn
         by_cases h0:gn=0
         ·have h0_:(gn != 0)=false:=by simpa using h0
          clear h0
          have SD:=(Below.refl wy.heap.size wy).drew
          refine wp_region_held_drew (S:=fun v=>Below wy.heap.size wy v) (by kernel_rfl) SD (fun zD2=>?_)
          refine tk 0 zD2 ?_;refine tkc 1 zD2 (fun w' hSw=>zC ((hSw.block _ (zA X12.out)).trans X12.out)) ?_;refine tk 2 zD2 ?_;refine tkc 3 zD2 (fun w' hSw=>(hSw.cell (zG GA.out)).trans GA.out) ?_;refine tk 4 zD2 ?_;refine tk 5 zD2 ?_;refine tks 6 zD2 ?_;refine tks 7 zD2 ?_;refine tks 8 zD2 ?_;refine tks 9 zD2 ?_;refine tks 10 zD2 ?_;refine tks 11 zD2 ?_;refine tks 12 zD2 ?_;refine tk 13 zD2 ?_;refine tk 14 zD2 ?_;refine tk 15 zD2 ?_;refine tkc 16 zD2 (fun w' hSw=>zC ((hSw.block _ (zA YPv.out)).trans YPv.out)) ?_;refine tkc 17 zD2 (fun w' hSw=>zE ((hSw.block _ (zA XPv.out)).trans XPv.out)) ?_;refine tk 18 zD2 ?_;refine tkc 19 zD2 (fun w' hSw=>zC ((hSw.block _ (zA X12.out)).trans X12.out)) ?_;refine tk 24 zD2 ?_;refine tkc 25 zD2 (fun w' hSw=>zC ((hSw.block _ (zA X12.out)).trans X12.out)) ?_
          refine tkr 20 (fun K hK=>?_)
          go_simp
          refine(zCr _ p (n:Int) wy.drew (PV.out _ (BQ.out.trans ((BY.out.trans (SD.mono BY.out.size)).mono BQ.out.size)))).mono ?_
          rintro e v6 ⟨rfl,b⟩
          rw[HAT.out]
          have B6:Hid (Below wy.heap.size wy v6):=zD0 (SD.trans (b.mono SD.size))
          clear b
          try go_wp2_with fail
          by_cases hcl:cl_=z1_
          rotate_left
          ·have hcl_:(cl_ != z1_)=true:=by simpa using hcl
           refine hK.out _ _ ?_ fun zD2=>?_;exact B6.out;clear hK K;try simp only[zn,Act.put]
           refine tk 21 zD2 ?_;refine tk 22 zD2 ?_;refine tkc 23 zD2 (fun w' hSw=>(hSw.cell (zG GS.out)).trans GS.out) ?_;refine tk 26 zD2 ?_;refine tk 27 zD2 ?_
           refine wpAnyH_done (by kernel_rfl) ?_ _
           have B7:=zD0 (BY.out.trans (B6.out.mono BY.out.size))
           clear SD B6
           have HF:Hid (zB1 p s=false):=zD0 (yO.2 fun h=>by
            have h1:=h.asked i hir _ HINN.out
            rw[HX0.out,HX1.out] at h1
            rw[HCN.out] at h1
            exact hcl h1)
           go_wp2_with fail
           go_ret
           exact⟨by rw[HF.out];rfl,BQ.out.trans (B7.out.mono BQ.out.size)⟩
          have hcl_:(cl_ != z1_)=false:=by simpa using hcl
          have HCL:=zD0 hcl
          clear hcl
          refine hK.out _ _ ?_ fun zD2=>?_;exact B6.out;clear hK K;try simp only[zn,Act.put]
          refine tk 21 zD2 ?_;refine tk 22 zD2 ?_;refine tkc 23 zD2 (fun w' hSw=>(hSw.cell (zG GS.out)).trans GS.out) ?_;refine tk 26 zD2 ?_;refine tk 27 zD2 ?_
          refine wpAnyH_done (by kernel_rfl) ?_ _
          have B7:=zD0 (BY.out.trans (B6.out.mono BY.out.size))
          have A7:=zD0 (ABy.out.below B6.out)
          have I7:=zD0 (AIy.out.below B6.out)
          have O7:=zD0 (OLy.out.below zP B6.out)
          have X7:=zD0 ((B6.out.block _ (zA X12.out)).trans X12.out)
          clear SD B6
          obtain⟨ce0,ce1,ce2⟩:=zC X7.out
          have ca:=I7.out.cell hn
          have fz:=I7.out.frozen n
          have hAI:=I7.out.set hn z1_
          have hAB:=A7.out.off (k:=w2.heap.size+1) (by omega) n (.int .i64 z1_)
          have hOL:=xD (T:=108) (T':=113) (R:=SigR) zAc O7.out (zU v6 (w2.heap.size+1) n (.int .i64 z1_)) (by decide) (by obtain⟨c,h1,-⟩:=I7.out;exact⟨c,h1⟩)
          have hBZ:=qH B7.out (show w2.heap.size≤w2.heap.size+1 by omega) n (.int .i64 z1_)
          go_upto_region 18 with fail
          generalize v6.setCell ⟨w2.heap.size+1,n,none⟩ (.int .i64 z1_)=w8 at hAB hAI hOL hBZ⊢
          have AB3:=zD0 hAB
          have AI3:=zD0 hAI
          have OL3:=zD0 hOL
          have BZ3:=zD0 hBZ
          have HS3:Hid (SaidP p s (fun m=>if m=n then z1_ else g3 m)):=zD0 (fun m hm h0=>by
           by_cases e:m=n
           ·subst e;dsimp only;rw[if_pos rfl,HCN.out,HCL.out]
           ·dsimp only at h0⊢;rw[if_neg e] at h0⊢;exact HSAID3.out m hm h0)
          have HD3:Hid (∀x,x∈LL.take (j+1)→callN p s x.1=x.2.1):=zD0 (fun x hx=>by
           rw[List.take_succ_eq_append_getElem hjr,List.mem_append,List.mem_singleton] at hx
           rcases hx with hx|rfl
           ·exact HDJ.out x hx
           ·rw[HX0.out,HX1.out,HCN.out,HCL.out])
          clear ce0 ce1 ce2 ca fz hAB hAI hOL hBZ A7 I7 O7 X7 B7
          go_wp2_with fail
          go_roundw
          case measure=>simp[intOf];omega
          case rel=>exact⟨j+1,by omega,by go_num,AB3.out,⟨_,AI3.out,HS3.out⟩,HD3.out,OL3.out,BZ3.out⟩
         have h0_:(gn != 0)=true:=by simpa using h0
         have H0:=zD0 h0
         clear h0
         by_cases h1:gn=z1_
         ·have h1_:(gn != z1_)=false:=by simpa using h1
          clear h1
          have SD:=(Below.refl wy.heap.size wy).drew
          refine wp_region_held_drew (S:=fun v=>Below wy.heap.size wy v) (by kernel_rfl) SD (fun zD2=>?_)
          refine tk 0 zD2 ?_;refine tkc 1 zD2 (fun w' hSw=>zC ((hSw.block _ (zA X12.out)).trans X12.out)) ?_;refine tk 2 zD2 ?_;refine tkc 3 zD2 (fun w' hSw=>(hSw.cell (zG GA.out)).trans GA.out) ?_;refine tk 4 zD2 ?_;refine tk 5 zD2 ?_;refine tk 6 zD2 ?_;refine tkc 7 zD2 (fun w' hSw=>zC ((hSw.block _ (zA X12.out)).trans X12.out)) ?_;refine tk 8 zD2 ?_;refine tkc 9 zD2 (fun w' hSw=>(hSw.cell (zG GA.out)).trans GA.out) ?_;refine tk 10 zD2 ?_;refine tkc 11 zD2 (fun w' hSw=>zC ((hSw.block _ (zA X12.out)).trans X12.out)) ?_;refine tk 12 zD2 ?_;refine tk 13 zD2 ?_;refine tk 14 zD2 ?_;refine tk 15 zD2 ?_;refine tkc 16 zD2 (fun w' hSw=>zC ((hSw.block _ (zA YPv.out)).trans YPv.out)) ?_;refine tkc 17 zD2 (fun w' hSw=>zE ((hSw.block _ (zA XPv.out)).trans XPv.out)) ?_;refine tk 18 zD2 ?_;refine tkc 19 zD2 (fun w' hSw=>zC ((hSw.block _ (zA X12.out)).trans X12.out)) ?_;refine tk 24 zD2 ?_;refine tkc 25 zD2 (fun w' hSw=>zC ((hSw.block _ (zA X12.out)).trans X12.out)) ?_
          refine tkr 20 (fun K hK=>?_)
          go_simp
          refine(zCr _ p (n:Int) wy.drew (PV.out _ (BQ.out.trans ((BY.out.trans (SD.mono BY.out.size)).mono BQ.out.size)))).mono ?_
          rintro e v6 ⟨rfl,b⟩
          rw[HAT.out]
          have B6:Hid (Below wy.heap.size wy v6):=zD0 (SD.trans (b.mono SD.size))
          clear b
          try go_wp2_with fail
          by_cases hcl:cl_=z1_
          rotate_left
          ·have hcl_:(cl_ != z1_)=true:=by simpa using hcl
           refine hK.out _ _ ?_ fun zD2=>?_;exact B6.out;clear hK K;try simp only[zn,Act.put]
           refine tk 21 zD2 ?_;refine tk 22 zD2 ?_;refine tkc 23 zD2 (fun w' hSw=>(hSw.cell (zG GS.out)).trans GS.out) ?_;refine tk 26 zD2 ?_;refine tk 27 zD2 ?_
           refine wpAnyH_done (by kernel_rfl) ?_ _
           have B7:=zD0 (BY.out.trans (B6.out.mono BY.out.size))
           clear SD B6
           have HF:Hid (zB1 p s=false):=zD0 (yO.2 fun h=>by
            have h1:=h.asked i hir _ HINN.out
            rw[HX0.out,HX1.out] at h1
            rw[HCN.out] at h1
            exact hcl h1)
           go_wp2_with fail
           go_ret
           exact⟨by rw[HF.out];rfl,BQ.out.trans (B7.out.mono BQ.out.size)⟩
          have hcl_:(cl_ != z1_)=false:=by simpa using hcl
          have HCL:=zD0 hcl
          clear hcl
          refine hK.out _ _ ?_ fun zD2=>?_;exact B6.out;clear hK K;try simp only[zn,Act.put]
          refine tk 21 zD2 ?_;refine tk 22 zD2 ?_;refine tkc 23 zD2 (fun w' hSw=>(hSw.cell (zG GS.out)).trans GS.out) ?_;refine tk 26 zD2 ?_;refine tk 27 zD2 ?_
          refine wpAnyH_done (by kernel_rfl) ?_ _
          have B7:=zD0 (BY.out.trans (B6.out.mono BY.out.size))
          have A7:=zD0 (ABy.out.below B6.out)
          have I7:=zD0 (AIy.out.below B6.out)
          have O7:=zD0 (OLy.out.below zP B6.out)
          have X7:=zD0 ((B6.out.block _ (zA X12.out)).trans X12.out)
          clear SD B6
          obtain⟨ce0,ce1,ce2⟩:=zC X7.out
          have ca:=I7.out.cell hn
          have fz:=I7.out.frozen n
          have hAI:=I7.out.set hn z1_
          have hAB:=A7.out.off (k:=w2.heap.size+1) (by omega) n (.int .i64 z1_)
          have hOL:=xD (T:=108) (T':=113) (R:=SigR) zAc O7.out (zU v6 (w2.heap.size+1) n (.int .i64 z1_)) (by decide) (by obtain⟨c,h1,-⟩:=I7.out;exact⟨c,h1⟩)
          have hBZ:=qH B7.out (show w2.heap.size≤w2.heap.size+1 by omega) n (.int .i64 z1_)
          go_upto_region 18 with fail
          generalize v6.setCell ⟨w2.heap.size+1,n,none⟩ (.int .i64 z1_)=w8 at hAB hAI hOL hBZ⊢
          have AB3:=zD0 hAB
          have AI3:=zD0 hAI
          have OL3:=zD0 hOL
          have BZ3:=zD0 hBZ
          have HS3:Hid (SaidP p s (fun m=>if m=n then z1_ else g3 m)):=zD0 (fun m hm h0=>by
           by_cases e:m=n
           ·subst e;dsimp only;rw[if_pos rfl,HCN.out,HCL.out]
           ·dsimp only at h0⊢;rw[if_neg e] at h0⊢;exact HSAID3.out m hm h0)
          have HD3:Hid (∀x,x∈LL.take (j+1)→callN p s x.1=x.2.1):=zD0 (fun x hx=>by
           rw[List.take_succ_eq_append_getElem hjr,List.mem_append,List.mem_singleton] at hx
           rcases hx with hx|rfl
           ·exact HDJ.out x hx
           ·rw[HX0.out,HX1.out,HCN.out,HCL.out])
          clear ce0 ce1 ce2 ca fz hAB hAI hOL hBZ A7 I7 O7 X7 B7
          go_wp2_with fail
          go_roundw
          case measure=>simp[intOf];omega
          case rel=>exact⟨j+1,by omega,by go_num,AB3.out,⟨_,AI3.out,HS3.out⟩,HD3.out,OL3.out,BZ3.out⟩
         have h1_:(gn != z1_)=true:=by simpa using h1
         have H1:=zD0 h1
         clear h1
         have SD:=(Below.refl wy.heap.size wy).drew
         refine wp_region_held_drew (S:=fun v=>Below wy.heap.size wy v) (by kernel_rfl) SD (fun zD2=>?_)
         refine tk 0 zD2 ?_;refine tkc 1 zD2 (fun w' hSw=>zC ((hSw.block _ (zA X12.out)).trans X12.out)) ?_;refine tk 2 zD2 ?_;refine tkc 3 zD2 (fun w' hSw=>(hSw.cell (zG GA.out)).trans GA.out) ?_;refine tk 4 zD2 ?_;refine tk 5 zD2 ?_;refine tk 6 zD2 ?_;refine tkc 7 zD2 (fun w' hSw=>zC ((hSw.block _ (zA X12.out)).trans X12.out)) ?_;refine tk 8 zD2 ?_;refine tkc 9 zD2 (fun w' hSw=>(hSw.cell (zG GA.out)).trans GA.out) ?_;refine tk 10 zD2 ?_;refine tkc 11 zD2 (fun w' hSw=>zC ((hSw.block _ (zA X12.out)).trans X12.out)) ?_;refine tk 12 zD2 ?_;refine tk 13 zD2 ?_;refine tk 14 zD2 ?_;refine tks 15 zD2 ?_;refine tks 16 zD2 ?_;refine tks 17 zD2 ?_;refine tks 18 zD2 ?_;refine tks 19 zD2 ?_;refine tks 20 zD2 ?_;refine tks 21 zD2 ?_;refine tks 22 zD2 ?_;refine tks 23 zD2 ?_;refine tks 24 zD2 ?_;refine tks 25 zD2 ?_;refine tks 26 zD2 ?_;refine tk 27 zD2 ?_
         refine wpAnyH_done (by kernel_rfl) ?_ _
         have B7:=zD0 (BY.out.trans (SD.mono BY.out.size))
         clear SD
         generalize wy.drew=q7 at B7⊢
         have HF:Hid (zB1 p s=false):=zD0 (yO.2 fun h=>by
          have h1:=h.asked i hir _ HINN.out
          rw[HX0.out,HX1.out] at h1
          have h2:=HSAID3.out n hn (by rw[←HGN.out];exact H0.out)
          rw[h1,←HGN.out] at h2
          exact H1.out h2.symm)
         go_wp2_with fail
         go_ret
         exact⟨by rw[HF.out];rfl,BQ.out.trans (B7.out.mono BQ.out.size)⟩
        ·obtain rfl:j=m8:=by omega
         have hjl':¬(j:Int)<j:=by omega
         have OK2':Hid (AskedOK p s (i+1)):=zD0 (fun a ha x hx=>by
          by_cases e:a=i
          ·subst e
           exact HDJ.out x (by rw[List.take_of_length_le (by rw[HM8.out];exact Nat.le_refl _),HLL.out];exact hx)
          ·exact OK2.out a (by omega) x hx)
         go_wp2_with fail
         go_roundw
         case measure=>simp[intOf];omega
         case rel=>exact⟨i+1,by omega,by go_num,⟨f2,ABv.out,SEEN.out⟩,⟨g3,AIv.out,HSAID3.out⟩,OK1'.out,OK2'.out,BV.out⟩
    ·obtain rfl:Sn2=i:=by omega
     have hlt':¬(Sn2:Int)<Sn2:=by omega
     have HF:Hid (zB1 p s=true):=zD0 (zDs.2 (may_of15 HM.out (by rw[←NS.out.2.2];exact OK1.out) (by rw[←NS.out.2.2];exact OK2.out)))
     go_wp2_with fail
     go_ret
     exact⟨by rw[HF.out];rfl,BF.out⟩
end Go.Proofs.YtemmgmjhomgbbaaGreat
