/-
 The document's own function May of package plan.
 Conditions: none.
-/
import Derived.Test.YtemmgmjhomgbbaaGreatUPlnRefF
set_option linter.unusedVariables false
set_option linter.unusedSimpArgs false
set_option maxRecDepth 100000
namespace Go.Proofs.YtemmgmjhomgbbaaGreat
open Go.RowKit
structure xU (p:Pl):Prop where
 ver:1≤p.ver∧p.ver≤2147483647
 par:0≤p.par∧p.par<p.ver
 n:p.routes.length≤16
 secs:TMay p.secs
 pts:yT p
 sigs:vO p
 each:∀i (h:i<p.routes.length),(1≤p.routes[i].id∧p.routes[i].id≤99)∧(∀j (hj:j+1=i),(p.routes[j]'(Nat.lt_trans (Nat.lt_of_succ_le (Nat.le_of_eq hj)) h)).id<p.routes[i].id)∧jQ p p.routes[i]
noncomputable def xW (p:Pl):Bool:=@decide (xU p) (Classical.propDecidable _)
theorem zAi {p:Pl} (h:xU p):xW p=true:=by rw[xW];exact @decide_eq_true _ (Classical.propDecidable _) h
theorem xJ {p:Pl} (h:¬xU p):xW p=false:=by rw[xW];exact @decide_eq_false _ (Classical.propDecidable _) h
theorem zDb {p:Pl}:xW p=true↔xU p:=by rw[xW];exact @decide_eq_true_iff _ (Classical.propDecidable _)
set_option maxHeartbeats 16000000 in
theorem rmay8_any (v:Value) (p:Pl) (w:World) (h:qF w w.heap.size v p):
  Calls Tryz.prog 47 #[v] w fun e w'=>e = .returned (.bool (xW p))∧Below w.heap.size w w':=by
 obtain⟨y2,y3,y4,y5,rfl,hin⟩:=h
 have HIN0:=zD0 hin
 obtain⟨A2,c2,rfl,hcl2,hcm2⟩:=hin.secs.slice
 obtain⟨A3,c3,rfl,hcl3,hcm3⟩:=hin.pts.slice
 obtain⟨A4,c4,rfl,hcl4,hcm4⟩:=hin.sigs.slice
 obtain⟨A5,c5,rfl,hcl5,hcm5⟩:=hin.routes.slice
 unfold maxLen at hcm5
 obtain⟨n2,hn2⟩:=zD1 (p.secs.length)
 obtain⟨n3,hn3⟩:=zD1 (p.pts.length)
 obtain⟨n4,hn4⟩:=zD1 (p.sigs.length)
 obtain⟨n5,hn5⟩:=zD1 (p.routes.length)
 have hm5:n5≤9223372036854775807:=by omega
 have HIN:Hid (PlIn w w.heap.size (.slice A2 n2 c2) (.slice A3 n3 c3) (.slice A4 n4 c4) (.slice A5 n5 c5) p):=zD0 (by rw[hn2,hn3,hn4,hn5];exact HIN0.out)
 have HN5:=zD0 hn5
 rw[←hn2,←hn3,←hn4,←hn5]
 have hq0:=zB w (.cells #[.int .i64 p.ver,.int .i64 p.par,.slice A2 n2 c2,.slice A3 n3 c3,.slice A4 n4 c4,.slice A5 n5 c5] 27)
 have hqb:=zD w (.cells #[.int .i64 p.ver,.int .i64 p.par,.slice A2 n2 c2,.slice A3 n3 c3,.slice A4 n4 c4,.slice A5 n5 c5] 27)
 clear hn2 hn3 hn4 hn5 HIN0 hcl2 hcm2 hcl3 hcm3 hcl4 hcm4 hcl5 hcm5 hin
 go_enter Tryz.func47,Tryz.ntmps47
 go_upto_region 1 with fail
 generalize w.alloc (.cells #[.int .i64 p.ver,.int .i64 p.par,.slice A2 n2 c2,.slice A3 n3 c3,.slice A4 n4 c4,.slice A5 n5 c5] 27)=q at hq0 hqb⊢
 have BZ:=zD0 hqb
 have QB:=zD0 hqb
 have XQ:=zD0 hq0
 have HINQ:=zD0 ((HIN.out.below hqb).more hqb.size)
 obtain⟨k0,k1,k2,k3,k4,k5⟩:=zE hq0
 clear hq0 hqb
 by_cases h1:p.ver<1
 ·have d1:decide (p.ver<1)=true:=decide_eq_true h1
  have HF:Hid (xW p=false):=zD0 (xJ fun h=>by have:=h.ver;omega)
  clear h1
  go_wp2_with fail
  go_ret
  exact⟨by rw[HF.out];rfl,BZ.out⟩
 have d1:decide (p.ver<1)=false:=decide_eq_false h1
 by_cases h2:2147483647<p.ver
 ·have d2:decide (2147483647<p.ver)=true:=decide_eq_true h2
  have HF:Hid (xW p=false):=zD0 (xJ fun h=>by have:=h.ver;omega)
  clear h1 h2
  go_wp2_with fail
  go_ret
  exact⟨by rw[HF.out];rfl,BZ.out⟩
 have d2:decide (2147483647<p.ver)=false:=decide_eq_false h2
 by_cases h3:p.par<0
 ·have d3:decide (p.par<0)=true:=decide_eq_true h3
  have HF:Hid (xW p=false):=zD0 (xJ fun h=>by have:=h.par;omega)
  clear h1 h2 h3
  go_wp2_with fail
  go_ret
  exact⟨by rw[HF.out];rfl,BZ.out⟩
 have d3:decide (p.par<0)=false:=decide_eq_false h3
 by_cases h4:p.ver≤p.par
 ·have d4:decide (p.ver≤p.par)=true:=decide_eq_true h4
  have HF:Hid (xW p=false):=zD0 (xJ fun h=>by have:=h.par;omega)
  clear h1 h2 h3 h4
  go_wp2_with fail
  go_ret
  exact⟨by rw[HF.out];rfl,BZ.out⟩
 have d4:decide (p.ver≤p.par)=false:=decide_eq_false h4
 by_cases h5:16<n5
 ·have d5:decide ((16:Int)<n5)=true:=decide_eq_true (by omega)
  have HF:Hid (xW p=false):=zD0 (xJ fun h=>by have:=h.n;have:=HN5.out;omega)
  clear h1 h2 h3 h4 h5
  go_wp2_with fail
  go_ret
  exact⟨by rw[HF.out];rfl,BZ.out⟩
 have d5:decide ((16:Int)<n5)=false:=decide_eq_false (by omega)
 have NUMS:Hid ((1≤p.ver∧p.ver≤2147483647)∧(0≤p.par∧p.par<p.ver)∧p.routes.length≤16):=zD0 (by have:=HN5.out;omega)
 clear h1 h2 h3 h4 h5
 go_wp2_with fail
 refine(rmay7_any _ p.secs q HINQ.out.secs).mono ?_
 rintro e w1 ⟨rfl,b1⟩
 have B1:=zD0 (QB.out.trans (b1.mono QB.out.size))
 have X1:=zD0 ((b1.block _ (zA XQ.out)).trans XQ.out)
 clear b1 k0 k1 k2 k3 k4 k5 d1 d2 d3 d4 d5 BZ
 obtain⟨k0,k1,k2,k3,k4,k5⟩:=zE X1.out
 have PL1:Hid (qF w1 w1.heap.size (.agg #[.int .i64 p.ver,.int .i64 p.par,.slice A2 n2 c2,.slice A3 n3 c3,.slice A4 n4 c4,.slice A5 n5 c5]) p):=zD0 ⟨_,_,_,_,rfl,(HIN.out.below B1.out).more B1.out.size⟩
 cases hs:mayT p.secs with
 | false=>
  have HF:Hid (xW p=false):=zD0 (xJ fun h=>by rw[zDl h.secs] at hs;cases hs)
  have BZ:=B1
  clear hs
  go_wp2_with fail
  go_ret
  exact⟨by rw[HF.out];rfl,BZ.out⟩
 | true=>
  have TS:=zD0 (mayT_iff.1 hs)
  clear hs
  go_wp2_with fail
  refine(rpoints_any _ p w1 PL1.out).mono ?_
  rintro e w2 ⟨rfl,b2⟩
  have B2:=zD0 (B1.out.trans (b2.mono B1.out.size))
  have X2:=zD0 ((b2.block _ (zA X1.out)).trans X1.out)
  clear b2 k0 k1 k2 k3 k4 k5
  obtain⟨k0,k1,k2,k3,k4,k5⟩:=zE X2.out
  have PL2:Hid (qF w2 w2.heap.size (.agg #[.int .i64 p.ver,.int .i64 p.par,.slice A2 n2 c2,.slice A3 n3 c3,.slice A4 n4 c4,.slice A5 n5 c5]) p):=zD0 ⟨_,_,_,_,rfl,(HIN.out.below B2.out).more B2.out.size⟩
  cases hp:vW p with
  | false=>
   have HF:Hid (xW p=false):=zD0 (xJ fun h=>by rw[ptsMay_true h.pts] at hp;cases hp)
   have BZ:=B2
   clear hp
   go_wp2_with fail
   go_ret
   exact⟨by rw[HF.out];rfl,BZ.out⟩
  | true=>
   have TP:=zD0 (ptsMay_iff.1 hp)
   clear hp
   go_wp2_with fail
   refine(rsignals_any _ p w2 PL2.out).mono ?_
   rintro e w3 ⟨rfl,b3⟩
   have B3:=zD0 (B2.out.trans (b3.mono B2.out.size))
   have X3:=zD0 ((b3.block _ (zA X2.out)).trans X2.out)
   clear b3 k0 k1 k2 k3 k4 k5
   cases hg:vD p with
   | false=>
    have HF:Hid (xW p=false):=zD0 (xJ fun h=>by rw[sigsMay_true h.sigs] at hg;cases hg)
    have BZ:=B3
    clear hg
    go_wp2_with fail
    go_ret
    exact⟨by rw[HF.out];rfl,BZ.out⟩
   | true=>
    have TG:=zD0 (sigsMay_iff.1 hg)
    clear hg
    go_wp2_with fail
    go_loopw [3] (fun s3 wr=>∃a:Nat,a≤n5∧s3 = .int .i64 a∧(∀i (hi:i<a) (h:i<p.routes.length),(1≤p.routes[i].id∧p.routes[i].id≤99)∧(∀j (hj:j+1=i),(p.routes[j]'(Nat.lt_trans (Nat.lt_of_succ_le (Nat.le_of_eq hj)) h)).id<p.routes[i].id)∧jQ p p.routes[i])∧wr.heap[w.heap.size]? = some (.cells #[.int .i64 p.ver,.int .i64 p.par,.slice A2 n2 c2,.slice A3 n3 c3,.slice A4 n4 c4,.slice A5 n5 c5] 27 (0,0))∧Below w.heap.size w wr) (fun s3 _=>n5-(intOf s3).toNat)
    case atStart=>exact⟨0,by omega,by go_num,fun i hi=>absurd hi (by omega),X3.out,B3.out⟩
    case round=>
     obtain⟨a,ha,rfl,hall,hx,hbw⟩:=hrel
     have HALL:=zD0 hall
     have XW:=zD0 hx
     have BW:=zD0 hbw
     clear hall hx hbw B1 B2 B3 X1 X2 X3 PL1 PL2 QB XQ HINQ
     obtain⟨k0,k1,k2,k3,k4,k5⟩:=zE XW.out
     by_cases hlt:a<n5
     ·have hlt2:(a:Int)<n5:=by omega
      have har:a<p.routes.length:=by rw[←HN5.out];exact hlt
      obtain⟨bf,of,rfl,hbf,hc0,hc1,hc2,hc6,u3,u4,u5,hc3,hc4,hc5,hr⟩:=((HIN.out.routes.below qM BW.out).more qM BW.out.size).at har
      obtain⟨R,hR⟩:=zD1 (p.routes[a])
      have HR:=zD0 hR
      rw[←hR] at hc0 hc1 hc2 hc6 hr
      obtain⟨C3,e3,rfl,-,-⟩:=hr.path.slice
      obtain⟨C4,e4,rfl,-,-⟩:=hr.over.slice
      obtain⟨C5,e5,rfl,-,-⟩:=hr.flanks.slice
      obtain⟨l3,hl3⟩:=zD1 (R.path.length)
      obtain⟨l4,hl4⟩:=zD1 (R.over.length)
      obtain⟨l5,hl5⟩:=zD1 (R.flanks.length)
      rw[←hl3] at hc3
      rw[←hl4] at hc4
      rw[←hl5] at hc5
      have hr':RtIn wr wr.heap.size (.slice C3 l3 e3) (.slice C4 l4 e4) (.slice C5 l5 e5) R:=by rw[hl3,hl4,hl5];exact hr
      have hg0:wr.cell? ⟨bf,of+a*7,none⟩=some (.int .i64 R.id):=hc0
      have hg1:wr.cell? ⟨bf,of+a*7+1,none⟩=some (.int .i64 R.entry):=hc1
      have hg2:wr.cell? ⟨bf,of+a*7+2,none⟩=some (.int .i64 R.exit):=hc2
      have hg3:wr.cell? ⟨bf,of+a*7+3,none⟩=some (.slice C3 l3 e3):=hc3
      have hg4:wr.cell? ⟨bf,of+a*7+4,none⟩=some (.slice C4 l4 e4):=hc4
      have hg5:wr.cell? ⟨bf,of+a*7+5,none⟩=some (.slice C5 l5 e5):=hc5
      have hg6:wr.cell? ⟨bf,of+a*7+6,none⟩=some (.int .i64 R.timer):=hc6
      have hz0:=zB wr (.cells #[.int .i64 R.id,.int .i64 R.entry,.int .i64 R.exit,.slice C3 l3 e3,.slice C4 l4 e4,.slice C5 l5 e5,.int .i64 R.timer] 64)
      have hzb:=zD wr (.cells #[.int .i64 R.id,.int .i64 R.entry,.int .i64 R.exit,.slice C3 l3 e3,.slice C4 l4 e4,.slice C5 l5 e5,.int .i64 R.timer] 64)
      have hrv:vS wr wr.heap.size (.agg #[.int .i64 R.id,.int .i64 R.entry,.int .i64 R.exit,.slice C3 l3 e3,.slice C4 l4 e4,.slice C5 l5 e5,.int .i64 R.timer]) R:=⟨_,_,_,rfl,hr'⟩
      obtain⟨wv,hwv⟩:=zD1 (wr.alloc (.cells #[.int .i64 R.id,.int .i64 R.entry,.int .i64 R.exit,.slice C3 l3 e3,.slice C4 l4 e4,.slice C5 l5 e5,.int .i64 R.timer] 64))
      rw[←hwv] at hz0 hzb
      clear hc0 hc1 hc2 hc3 hc4 hc5 hc6 hr hbf hR hl3 hl4 hl5 hr'
      go_upto_region 9 with fail
      rw[←hwv]
      have BV:=zD0 (BW.out.trans (hzb.mono BW.out.size))
      have XC:=zD0 hz0
      have XA:=zD0 ((hzb.block _ (zA XW.out)).trans XW.out)
      have HRV:=zD0 ((hrv.below hzb).more hzb.size)
      have HPL:Hid (qF wv wv.heap.size (.agg #[.int .i64 p.ver,.int .i64 p.par,.slice A2 n2 c2,.slice A3 n3 c3,.slice A4 n4 c4,.slice (some ⟨bf,of,none⟩) n5 c5]) p):=zD0 ⟨_,_,_,_,rfl,(HIN.out.below BV.out).more BV.out.size⟩
      generalize wr.heap.size=p4 at XC⊢
      clear hz0 hzb hwv hrv hg0 hg1 hg2 hg3 hg4 hg5 hg6 k0 k1 k2 k3 k4 k5 BW XW
      have BZ:Hid (Below w.heap.size w wv.drew):=zD0 BV.out.drew
      have ME:Hid (xU p→(1≤R.id∧R.id≤99)∧(∀j (hj:j+1=a),(p.routes[j]'(Nat.lt_trans (Nat.lt_of_succ_le (Nat.le_of_eq hj)) har)).id<R.id)∧jQ p R):=zD0 (fun h=>by rw[HR.out];exact h.each a har)
      have NX:Hid ((1≤R.id∧R.id≤99)→(∀j (hj:j+1=a),(p.routes[j]'(Nat.lt_trans (Nat.lt_of_succ_le (Nat.le_of_eq hj)) har)).id<R.id)→jQ p R→∀i (hi:i<a+1) (h:i<p.routes.length),(1≤p.routes[i].id∧p.routes[i].id≤99)∧(∀j (hj:j+1=i),(p.routes[j]'(Nat.lt_trans (Nat.lt_of_succ_le (Nat.le_of_eq hj)) h)).id<p.routes[i].id)∧jQ p p.routes[i]):=zD0 (fun h1 h2 h3 i hi h=>by
       rcases Nat.lt_or_ge i a with h4|h4
       ·exact HALL.out i h4 h
       ·obtain rfl:i=a:=by omega
        rw[←HR.out]
        exact⟨h1,h2,h3⟩)
      by_cases h1:R.id<1
      ·have d1:decide (R.id<1)=true:=decide_eq_true h1
       have HF:Hid (xW p=false):=zD0 (xJ fun h=>by have:=(ME.out h).1;omega)
       clear h1
       refine wp_region_held_drew (S:=fun v=>Below wv.heap.size wv v) (by kernel_rfl) (Below.refl wv.heap.size wv).drew (fun zD2=>?_)
       refine tk 0 zD2 ?_;refine tkc 1 zD2 (fun w' hSw=>zL ((hSw.block _ (zA XC.out)).trans XC.out)) ?_;refine tk 2 zD2 ?_;refine tk 3 zD2 ?_;refine tks 4 zD2 ?_;refine tks 5 zD2 ?_;refine tks 6 zD2 ?_;refine tk 7 zD2 ?_;refine tk 8 zD2 ?_;refine tks 9 zD2 ?_;refine tks 10 zD2 ?_;refine tks 11 zD2 ?_;refine tks 12 zD2 ?_;refine tks 13 zD2 ?_;refine tks 14 zD2 ?_;refine tks 15 zD2 ?_;refine tks 16 zD2 ?_;refine tks 17 zD2 ?_;refine tks 18 zD2 ?_;refine tks 19 zD2 ?_;refine tks 20 zD2 ?_;refine tks 21 zD2 ?_;refine tks 22 zD2 ?_;refine tk 23 zD2 ?_;refine tk 24 zD2 ?_;refine tks 25 zD2 ?_;refine tks 26 zD2 ?_;refine tks 27 zD2 ?_;refine tks 28 zD2 ?_;refine tk 29 zD2 ?_
       refine wpAnyH_done (by kernel_rfl) ?_ _
       go_wp2_with fail
       go_ret
       exact⟨by rw[HF.out];rfl,BZ.out⟩
      have d1:decide (R.id<1)=false:=decide_eq_false h1
      by_cases h2:99<R.id
      ·have d2:decide (99<R.id)=true:=decide_eq_true h2
       have HF:Hid (xW p=false):=zD0 (xJ fun h=>by have:=(ME.out h).1;omega)
       clear h1 h2
       refine wp_region_held_drew (S:=fun v=>Below wv.heap.size wv v) (by kernel_rfl) (Below.refl wv.heap.size wv).drew (fun zD2=>?_)
       refine tk 0 zD2 ?_;refine tkc 1 zD2 (fun w' hSw=>zL ((hSw.block _ (zA XC.out)).trans XC.out)) ?_;refine tk 2 zD2 ?_;refine tk 3 zD2 ?_;refine tk 4 zD2 ?_;refine tkc 5 zD2 (fun w' hSw=>zL ((hSw.block _ (zA XC.out)).trans XC.out)) ?_;refine tk 6 zD2 ?_;refine tk 7 zD2 ?_;refine tk 8 zD2 ?_;refine tks 9 zD2 ?_;refine tks 10 zD2 ?_;refine tks 11 zD2 ?_;refine tks 12 zD2 ?_;refine tks 13 zD2 ?_;refine tks 14 zD2 ?_;refine tks 15 zD2 ?_;refine tks 16 zD2 ?_;refine tks 17 zD2 ?_;refine tks 18 zD2 ?_;refine tks 19 zD2 ?_;refine tks 20 zD2 ?_;refine tks 21 zD2 ?_;refine tks 22 zD2 ?_;refine tk 23 zD2 ?_;refine tk 24 zD2 ?_;refine tks 25 zD2 ?_;refine tks 26 zD2 ?_;refine tks 27 zD2 ?_;refine tks 28 zD2 ?_;refine tk 29 zD2 ?_
       refine wpAnyH_done (by kernel_rfl) ?_ _
       go_wp2_with fail
       go_ret
       exact⟨by rw[HF.out];rfl,BZ.out⟩
      have d2:decide (99<R.id)=false:=decide_eq_false h2
      have I12:Hid (1≤R.id∧R.id≤99):=zD0 (by omega)
      clear h1 h2
      rcases Nat.eq_zero_or_pos a with rfl|hap
      ·cases hrm:xH p R with
       | false=>
        have HF:Hid (xW p=false):=zD0 (xJ fun h=>by rw[zB7 (ME.out h).2.2] at hrm;cases hrm)
        refine wp_region_held_drew (S:=fun v=>Below wv.heap.size wv v) (by kernel_rfl) (Below.refl wv.heap.size wv).drew (fun zD2=>?_)
        refine tk 0 zD2 ?_;refine tkc 1 zD2 (fun w' hSw=>zL ((hSw.block _ (zA XC.out)).trans XC.out)) ?_;refine tk 2 zD2 ?_;refine tk 3 zD2 ?_;refine tk 4 zD2 ?_;refine tkc 5 zD2 (fun w' hSw=>zL ((hSw.block _ (zA XC.out)).trans XC.out)) ?_;refine tk 6 zD2 ?_;refine tk 7 zD2 ?_;refine tk 8 zD2 ?_;refine tk 9 zD2 ?_;refine tk 10 zD2 ?_;refine tk 11 zD2 ?_;refine tks 12 zD2 ?_;refine tks 13 zD2 ?_;refine tks 14 zD2 ?_;refine tks 15 zD2 ?_;refine tks 16 zD2 ?_;refine tks 17 zD2 ?_;refine tks 18 zD2 ?_;refine tks 19 zD2 ?_;refine tks 20 zD2 ?_;refine tks 21 zD2 ?_;refine tk 22 zD2 ?_;refine tk 23 zD2 ?_;refine tk 24 zD2 ?_;refine tkc 25 zD2 (fun w' hSw=>zE ((hSw.block _ (zA XA.out)).trans XA.out)) ?_;refine tkc 26 zD2 (fun w' hSw=>zL ((hSw.block _ (zA XC.out)).trans XC.out)) ?_
        refine tkr 27 (fun K hK=>?_)
        go_simp
        refine(zCw _ _ p R wv.drew (HPL.out.below (Below.refl wv.heap.size wv).drew) (HRV.out.below (Below.refl wv.heap.size wv).drew)).mono ?_
        rintro e w5 ⟨rfl,b5⟩
        rw[hrm]
        have B5:Hid (Below wv.heap.size wv w5):=zD0 ((Below.refl wv.heap.size wv).drew.trans b5)
        clear b5
        try go_wp2_with fail
        refine hK.out _ _ ?_ fun zD2=>?_;exact B5.out;clear hK K;try simp only[zn,Act.put]
        refine tk 28 zD2 ?_;refine tk 29 zD2 ?_
        refine wpAnyH_done (by kernel_rfl) ?_ _
        have BY:Hid (Below w.heap.size w w5):=zD0 (BV.out.trans (B5.out.mono BV.out.size))
        go_wp2_with fail
        go_ret
        exact⟨by rw[HF.out];rfl,BY.out⟩
       | true=>
        have NN:=zD0 (NX.out I12.out (fun j hj=>by omega) (routeMay_iff.1 hrm))
        refine wp_region_held_drew (S:=fun v=>Below wv.heap.size wv v) (by kernel_rfl) (Below.refl wv.heap.size wv).drew (fun zD2=>?_)
        refine tk 0 zD2 ?_;refine tkc 1 zD2 (fun w' hSw=>zL ((hSw.block _ (zA XC.out)).trans XC.out)) ?_;refine tk 2 zD2 ?_;refine tk 3 zD2 ?_;refine tk 4 zD2 ?_;refine tkc 5 zD2 (fun w' hSw=>zL ((hSw.block _ (zA XC.out)).trans XC.out)) ?_;refine tk 6 zD2 ?_;refine tk 7 zD2 ?_;refine tk 8 zD2 ?_;refine tk 9 zD2 ?_;refine tk 10 zD2 ?_;refine tk 11 zD2 ?_;refine tks 12 zD2 ?_;refine tks 13 zD2 ?_;refine tks 14 zD2 ?_;refine tks 15 zD2 ?_;refine tks 16 zD2 ?_;refine tks 17 zD2 ?_;refine tks 18 zD2 ?_;refine tks 19 zD2 ?_;refine tks 20 zD2 ?_;refine tks 21 zD2 ?_;refine tk 22 zD2 ?_;refine tk 23 zD2 ?_;refine tk 24 zD2 ?_;refine tkc 25 zD2 (fun w' hSw=>zE ((hSw.block _ (zA XA.out)).trans XA.out)) ?_;refine tkc 26 zD2 (fun w' hSw=>zL ((hSw.block _ (zA XC.out)).trans XC.out)) ?_
        refine tkr 27 (fun K hK=>?_)
        go_simp
        refine(zCw _ _ p R wv.drew (HPL.out.below (Below.refl wv.heap.size wv).drew) (HRV.out.below (Below.refl wv.heap.size wv).drew)).mono ?_
        rintro e w5 ⟨rfl,b5⟩
        rw[hrm]
        have B5:Hid (Below wv.heap.size wv w5):=zD0 ((Below.refl wv.heap.size wv).drew.trans b5)
        clear b5
        try go_wp2_with fail
        refine hK.out _ _ ?_ fun zD2=>?_;exact B5.out;clear hK K;try simp only[zn,Act.put]
        refine tk 28 zD2 ?_;refine tk 29 zD2 ?_
        refine wpAnyH_done (by kernel_rfl) ?_ _
        have BY:Hid (Below w.heap.size w w5):=zD0 (BV.out.trans (B5.out.mono BV.out.size))
        have X5:=zD0 ((B5.out.block _ (zA XA.out)).trans XA.out)
        go_wp2_with fail
        go_roundw
        case measure=>simp[intOf];omega
        case rel=>exact⟨0+1,by omega,by go_num,NN.out,X5.out,BY.out⟩
      ·obtain⟨y1,hy1⟩:=zD1 (a-1)
       have g4:(a:Int)-1=(y1:Int):=by omega
       have g5:(y1:Int)<n5:=by omega
       have g6:IntKind.i64.wrap (y1:Int)=(y1:Int):=kA (by omega) (by omega)
       have hyr:y1<p.routes.length:=by omega
       have YA:Hid (y1+1=a):=zD0 (by omega)
       clear hy1
       obtain⟨bf',of',e1,hbf',hd0,-⟩:=((HIN.out.routes.below qM BV.out).more qM BV.out.size).at hyr
       cases e1
       obtain⟨pv,hpv⟩:=zD1 (p.routes[y1].id)
       have LPV:Hid (wv.cell? ⟨bf,of+y1*7,none⟩=some (.int .i64 pv)):=zD0 (by rw[hpv];exact hd0)
       have LBF:=zD0 hbf'
       have PVE:Hid (∀j (hj:j+1=a),(p.routes[j]'(Nat.lt_trans (Nat.lt_of_succ_le (Nat.le_of_eq hj)) har)).id=pv):=zD0 (fun j hj=>by
        have e:j=y1:=by have:=YA.out;omega
        subst e
        exact hpv.symm)
       clear hd0 hpv hbf'
       by_cases h2:R.id≤pv
       ·have d3:decide (R.id≤pv)=true:=decide_eq_true h2
        have HF:Hid (xW p=false):=zD0 (xJ fun h=>by
         have h5:=(ME.out h).2.1 y1 YA.out
         rw[PVE.out y1 YA.out] at h5
         omega)
        clear h2
        refine wp_region_held_drew (S:=fun v=>Below wv.heap.size wv v) (by kernel_rfl) (Below.refl wv.heap.size wv).drew (fun zD2=>?_)
        refine tk 0 zD2 ?_;refine tkc 1 zD2 (fun w' hSw=>zL ((hSw.block _ (zA XC.out)).trans XC.out)) ?_;refine tk 2 zD2 ?_;refine tk 3 zD2 ?_;refine tk 4 zD2 ?_;refine tkc 5 zD2 (fun w' hSw=>zL ((hSw.block _ (zA XC.out)).trans XC.out)) ?_;refine tk 6 zD2 ?_;refine tk 7 zD2 ?_;refine tk 8 zD2 ?_;refine tk 9 zD2 ?_;refine tk 10 zD2 ?_;refine tk 11 zD2 ?_;refine tk 12 zD2 ?_;refine tkc 13 zD2 (fun w' hSw=>zE ((hSw.block _ (zA XA.out)).trans XA.out)) ?_;refine tk 14 zD2 ?_;refine tk 15 zD2 ?_;refine tk 16 zD2 ?_;refine tk 17 zD2 ?_;refine tkc 18 zD2 (fun w' hSw=>(hSw.cell (p:=⟨bf,of+y1*7,none⟩) LBF.out).trans LPV.out) ?_;refine tk 19 zD2 ?_;refine tkc 20 zD2 (fun w' hSw=>zL ((hSw.block _ (zA XC.out)).trans XC.out)) ?_;refine tk 21 zD2 ?_;refine tk 22 zD2 ?_;refine tk 23 zD2 ?_;refine tk 24 zD2 ?_;refine tks 25 zD2 ?_;refine tks 26 zD2 ?_;refine tks 27 zD2 ?_;refine tks 28 zD2 ?_;refine tk 29 zD2 ?_
        refine wpAnyH_done (by kernel_rfl) ?_ _
        go_wp2_with fail
        go_ret
        exact⟨by rw[HF.out];rfl,BZ.out⟩
       have d3:decide (R.id≤pv)=false:=decide_eq_false h2
       have PLT:Hid (∀j (hj:j+1=a),(p.routes[j]'(Nat.lt_trans (Nat.lt_of_succ_le (Nat.le_of_eq hj)) har)).id<R.id):=zD0 (fun j hj=>by rw[PVE.out j hj];omega)
       clear h2
       cases hrm:xH p R with
       | false=>
        have HF:Hid (xW p=false):=zD0 (xJ fun h=>by rw[zB7 (ME.out h).2.2] at hrm;cases hrm)
        refine wp_region_held_drew (S:=fun v=>Below wv.heap.size wv v) (by kernel_rfl) (Below.refl wv.heap.size wv).drew (fun zD2=>?_)
        refine tk 0 zD2 ?_;refine tkc 1 zD2 (fun w' hSw=>zL ((hSw.block _ (zA XC.out)).trans XC.out)) ?_;refine tk 2 zD2 ?_;refine tk 3 zD2 ?_;refine tk 4 zD2 ?_;refine tkc 5 zD2 (fun w' hSw=>zL ((hSw.block _ (zA XC.out)).trans XC.out)) ?_;refine tk 6 zD2 ?_;refine tk 7 zD2 ?_;refine tk 8 zD2 ?_;refine tk 9 zD2 ?_;refine tk 10 zD2 ?_;refine tk 11 zD2 ?_;refine tk 12 zD2 ?_;refine tkc 13 zD2 (fun w' hSw=>zE ((hSw.block _ (zA XA.out)).trans XA.out)) ?_;refine tk 14 zD2 ?_;refine tk 15 zD2 ?_;refine tk 16 zD2 ?_;refine tk 17 zD2 ?_;refine tkc 18 zD2 (fun w' hSw=>(hSw.cell (p:=⟨bf,of+y1*7,none⟩) LBF.out).trans LPV.out) ?_;refine tk 19 zD2 ?_;refine tkc 20 zD2 (fun w' hSw=>zL ((hSw.block _ (zA XC.out)).trans XC.out)) ?_;refine tk 21 zD2 ?_;refine tk 22 zD2 ?_;refine tk 23 zD2 ?_;refine tk 24 zD2 ?_;refine tkc 25 zD2 (fun w' hSw=>zE ((hSw.block _ (zA XA.out)).trans XA.out)) ?_;refine tkc 26 zD2 (fun w' hSw=>zL ((hSw.block _ (zA XC.out)).trans XC.out)) ?_
        refine tkr 27 (fun K hK=>?_)
        go_simp
        refine(zCw _ _ p R wv.drew (HPL.out.below (Below.refl wv.heap.size wv).drew) (HRV.out.below (Below.refl wv.heap.size wv).drew)).mono ?_
        rintro e w5 ⟨rfl,b5⟩
        rw[hrm]
        have B5:Hid (Below wv.heap.size wv w5):=zD0 ((Below.refl wv.heap.size wv).drew.trans b5)
        clear b5
        try go_wp2_with fail
        refine hK.out _ _ ?_ fun zD2=>?_;exact B5.out;clear hK K;try simp only[zn,Act.put]
        refine tk 28 zD2 ?_;refine tk 29 zD2 ?_
        refine wpAnyH_done (by kernel_rfl) ?_ _
        have BY:Hid (Below w.heap.size w w5):=zD0 (BV.out.trans (B5.out.mono BV.out.size))
        go_wp2_with fail
        go_ret
        exact⟨by rw[HF.out];rfl,BY.out⟩
       | true=>
        have NN:=zD0 (NX.out I12.out PLT.out (routeMay_iff.1 hrm))
        refine wp_region_held_drew (S:=fun v=>Below wv.heap.size wv v) (by kernel_rfl) (Below.refl wv.heap.size wv).drew (fun zD2=>?_)
        refine tk 0 zD2 ?_;refine tkc 1 zD2 (fun w' hSw=>zL ((hSw.block _ (zA XC.out)).trans XC.out)) ?_;refine tk 2 zD2 ?_;refine tk 3 zD2 ?_;refine tk 4 zD2 ?_;refine tkc 5 zD2 (fun w' hSw=>zL ((hSw.block _ (zA XC.out)).trans XC.out)) ?_;refine tk 6 zD2 ?_;refine tk 7 zD2 ?_;refine tk 8 zD2 ?_;refine tk 9 zD2 ?_;refine tk 10 zD2 ?_;refine tk 11 zD2 ?_;refine tk 12 zD2 ?_;refine tkc 13 zD2 (fun w' hSw=>zE ((hSw.block _ (zA XA.out)).trans XA.out)) ?_;refine tk 14 zD2 ?_;refine tk 15 zD2 ?_;refine tk 16 zD2 ?_;refine tk 17 zD2 ?_;refine tkc 18 zD2 (fun w' hSw=>(hSw.cell (p:=⟨bf,of+y1*7,none⟩) LBF.out).trans LPV.out) ?_;refine tk 19 zD2 ?_;refine tkc 20 zD2 (fun w' hSw=>zL ((hSw.block _ (zA XC.out)).trans XC.out)) ?_;refine tk 21 zD2 ?_;refine tk 22 zD2 ?_;refine tk 23 zD2 ?_;refine tk 24 zD2 ?_;refine tkc 25 zD2 (fun w' hSw=>zE ((hSw.block _ (zA XA.out)).trans XA.out)) ?_;refine tkc 26 zD2 (fun w' hSw=>zL ((hSw.block _ (zA XC.out)).trans XC.out)) ?_
        refine tkr 27 (fun K hK=>?_)
        go_simp
        refine(zCw _ _ p R wv.drew (HPL.out.below (Below.refl wv.heap.size wv).drew) (HRV.out.below (Below.refl wv.heap.size wv).drew)).mono ?_
        rintro e w5 ⟨rfl,b5⟩
        rw[hrm]
        have B5:Hid (Below wv.heap.size wv w5):=zD0 ((Below.refl wv.heap.size wv).drew.trans b5)
        clear b5
        try go_wp2_with fail
        refine hK.out _ _ ?_ fun zD2=>?_;exact B5.out;clear hK K;try simp only[zn,Act.put]
        refine tk 28 zD2 ?_;refine tk 29 zD2 ?_
        refine wpAnyH_done (by kernel_rfl) ?_ _
        have BY:Hid (Below w.heap.size w w5):=zD0 (BV.out.trans (B5.out.mono BV.out.size))
        have X5:=zD0 ((B5.out.block _ (zA XA.out)).trans XA.out)
        go_wp2_with fail
        go_roundw
        case measure=>simp[intOf];omega
        case rel=>exact⟨a+1,by omega,by go_num,NN.out,X5.out,BY.out⟩
     ·obtain rfl:a=n5:=by omega
      have hlt2:¬(a:Int)<a:=by omega
      have HRT:Hid (xW p=true):=zD0 (zAi ⟨NUMS.out.1,NUMS.out.2.1,NUMS.out.2.2,TS.out,TP.out,TG.out,fun i h=>HALL.out i (by rw[HN5.out];exact h) h⟩)
      go_wp2_with fail
      go_ret
      exact⟨by rw[HRT.out];rfl,BW.out⟩
theorem at1_mem {α:Type} {k:α→Int} {l:List α} {id:Int} (h:∃s∈l,k s=id):∃i,∃hi:i<l.length,at1 k l id=(i:Int)∧k l[i]=id:=by
 rcases vF k l id with⟨-,h2⟩|⟨i,hi,h1,h2,-⟩
 ·obtain⟨s,hs,he⟩:=h
  obtain⟨j,hj,rfl⟩:=List.getElem_of_mem hs
  exact absurd he (h2 j hj)
 ·exact⟨i,hi,h1,h2⟩
theorem at1_of {α:Type} {k:α→Int} {l:List α} {id:Int} {i:Nat} (h:at1 k l id=(i:Int)):∃hi:i<l.length,k l[i]=id:=by
 rcases vF k l id with⟨h1,-⟩|⟨j,hj,h1,h2,-⟩
 ·omega
 ·obtain rfl:j=i:=by omega
  exact⟨hj,h2⟩
theorem rise_of {α:Type} {k:α→Int} {l:List α} (h:∀i (h:i<l.length),∀j (hj:j+1=i),k (l[j]'(by omega))<k l[i]):l.Pairwise (fun a b=>k a<k b):=by
 refine List.pairwise_iff_getElem.2 fun i j hi hj hlt=>?_
 have main:∀d i (hd:i+d+1<l.length),k (l[i]'(by omega))<k l[i+d+1]:=by
  intro d
  induction d with
  | zero=>exact fun i hd=>h (i+1) hd i rfl
  | succ d ih=>exact fun i hd=>Int.lt_trans (ih i (by omega)) (h (i+(d+1)+1) hd (i+d+1) (by omega))
 have e:=main (j-i-1) i (by omega)
 have e2:i+(j-i-1)+1=j:=by omega
 simp only[e2] at e
 exact e
theorem qA {P:Program} {fn:Func} {p u:Tmp} {ty:TypeId} (h:fn.results=#[.cell p ty,.tmp u]) (tmps:Array Value) (w:World) (g:Nat) {c:Array Value} {t:TypeId} {fr:Nat×Nat} (hp:tmps.getD p undef = .pointer (some ⟨g,0,none⟩)) (hb:w.heap[g]? = some (.cells c t fr))
  {fs:Array Field} (hu:P.underlying ty=some (.struct fs)) (hi:(P.info? ty).map (·.size)=some c.size) (x:Value) (hx:tmps.getD u undef=x):(results fn tmps).run P w = .ok (.tuple #[.agg c,x]) w:=by
 have hp':tmps[p]?.getD undef = .pointer (some ⟨g,0,none⟩):=by simpa using hp
 rw[results_cell_tmp h,hp,hx]
 simp[asAddr,run_loadVar_row w g t ty c fr _ hb hu rfl (by simpa using hi)]
noncomputable def chk8 (p:Pl):Int:=if xW p then 0 else 8
abbrev kPt:Jn→Int:=fun x=>x.1
abbrev kSg:Sg→Int:=fun x=>x.1
abbrev kRt:Rt→Int:=fun x=>x.id
def zRt:Rt:=⟨0,0,0,[],[],[],0⟩
theorem zC0:(Tryz.prog.info? 67).map (·.size)=some 2:=by kernel_rfl
theorem zCj:(Tryz.prog.info? 115).map (·.size)=some 3:=by kernel_rfl
theorem atS_of {l:List Sec} {id:Int} {i:Nat} (h:atS l id=(i:Int)):∃hi:i<l.length,l[i].1=id:=by
 rcases vE l id with h1|⟨j,hj,h1,h2⟩
 ·omega
 ·obtain rfl:j=i:=by omega
  exact⟨hj,h2⟩
theorem shaped_two {s:Sec} (h:qQ s=true):2≤s.2.2.length:=by
 rw[qQ] at h
 split at h
 ·have:=of_decide_eq_true h;omega
 ·simp only[Bool.and_eq_true,decide_eq_true_eq] at h;omega
end Go.Proofs.YtemmgmjhomgbbaaGreat
