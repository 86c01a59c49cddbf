/-
 The program's package state: two lists held against each other by a function.
 Conditions: none.
-/
import Derived.Test.YtemmgmjhomgbbaaGreatUGStaPA
import Derived.Test.YtemmgmjhomgbbaaGreatUGStaO
import Derived.Test.YtemmgmjhomgbbaaGreatUPlnP4
import Derived.Test.YtemmgmjhomgbbaaGreatUGPlnRefA
set_option linter.unusedVariables false
set_option linter.unusedSimpArgs false
set_option maxRecDepth 100000
namespace Go.Proofs.YtemmgmjhomgbbaaGreat
open Go.RowKit
set_option maxHeartbeats 8000000 in
theorem eqf_ts (v y:Value) (l:List Trk) (m:List Sec) (w:World) (h:jD w w.heap.size v l) (h':zX w w.heap.size y m):
  Calls Tryz.prog 69 #[v,y,.func (.func 70) #[] #[]] w fun e w'=>e = .returned (.bool (eqW relT l m))∧Below w.heap.size w w':=by
 have H:=zD0 h
 have H':=zD0 h'
 obtain⟨A,c,rfl,hcl,hcm⟩:=h.slice
 obtain⟨A',c',rfl,hcl',hcm'⟩:=h'.slice
 have hml:l.length≤9223372036854775807:=by unfold maxLen at hcm;omega
 obtain⟨n,hn⟩:=zD1 (l.length)
 obtain⟨n',hn'⟩:∃n',n'=m.length:=⟨_,rfl⟩
 have HN:=zD0 hn
 have HN':=zD0 hn'
 have HA:=zD0 (show jD w w.heap.size (.slice A n c) l by rw[hn];exact H.out)
 have HA':=zD0 (show zX w w.heap.size (.slice A' n' c') m by rw[hn'];exact H'.out)
 have hml':n'≤9223372036854775807:=by unfold maxLen at hcm';omega
 rw[←hn] at hml⊢
 rw[←hn']
 clear hn hn' H H' hcl hcm hcl' hcm' h h'
 go_enter Tryz.func69,Tryz.ntmps69
 by_cases hnn:n=n'
 ·subst hnn
  go_wp2_with fail
  go_loopw [17] (fun s17 wr=>∃i:Nat,i≤n∧s17 = .int .i64 i∧(∀j (hj:j<i) (hl:j<l.length) (hm:j<m.length),relT l[j] m[j]=true)∧Below w.heap.size w wr) (fun s17 _=>n-(intOf s17).toNat)
  case atStart=>exact⟨0,by omega,by go_num,fun j hj=>absurd hj (by omega),Below.refl _ _⟩
  case round=>
   obtain⟨i,hi,rfl,hall,hbw⟩:=hrel
   have HALL:=zD0 hall
   have BW:=zD0 hbw
   clear hall hbw
   by_cases hlt:i<n
   ·have hlt':(i:Int)<n:=by omega
    have hir:i<l.length:=by rw[←HN.out];exact hlt
    have him:i<m.length:=by rw[←HN'.out];exact hlt
    obtain⟨bk,off,rfl,hbk,hc0,hc1,-,-⟩:=((HA.out.below xY BW.out).more xY BW.out.size).at hir
    obtain⟨a,b,hx⟩:∃a b,l[i]=(a,b):=⟨_,_,rfl⟩
    have HX:=zD0 hx
    rw[hx] at hc0 hc1
    dsimp only at hc0 hc1
    have hg0:wr.cell? ⟨bk,off+i*2,none⟩=some (.int .i64 a):=hc0
    have hg1:wr.cell? ⟨bk,off+i*2+1,none⟩=some (.int .u8 b):=hc1
    clear hc0 hc1 hx hbk
    obtain⟨bkx,offx,rfl,hbk,hc0,hc1,ux,hc2,hu⟩:=((HA'.out.below zN BW.out).more zN BW.out.size).at him
    obtain⟨B3x,d3x,rfl,hu1,hu2⟩:=hu.slice
    obtain⟨ax,ptx,esx,hx⟩:∃a pt es,m[i]=(a,pt,es):=⟨_,_,_,rfl⟩
    have HXx:=zD0 hx
    rw[hx] at hc0 hc1 hc2
    dsimp only at hc0 hc1 hc2
    obtain⟨m3x,e3⟩:=zD1 (esx.length)
    rw[←e3] at hc2
    have hh0:wr.cell? ⟨bkx,offx+i*3,none⟩=some (.int .i64 ax):=hc0
    have hh1:wr.cell? ⟨bkx,offx+i*3+1,none⟩=some (.int .i64 ptx):=hc1
    have hh2:wr.cell? ⟨bkx,offx+i*3+2,none⟩=some (.slice B3x m3x d3x):=hc2
    clear hc0 hc1 hc2 hx hbk hu hu1 hu2 e3
    obtain⟨q,hq⟩:=zD1 (wr.alloc (.cells #[.int .i64 a,.int .u8 b] 51))
    have x1:=zB wr (.cells #[.int .i64 a,.int .u8 b] 51)
    have b1:=zD wr (.cells #[.int .i64 a,.int .u8 b] 51)
    rw[←hq] at x1 b1
    have ii0:=(b1.cell (p:=⟨bkx,offx+i*3,none⟩) (zG hh0)).trans hh0
    have ii1:=(b1.cell (p:=⟨bkx,offx+i*3+1,none⟩) (zG hh1)).trans hh1
    have ii2:=(b1.cell (p:=⟨bkx,offx+i*3+2,none⟩) (zG hh2)).trans hh2
    obtain⟨q2,hq2⟩:=zD1 (q.alloc (.cells #[.int .i64 ax,.int .i64 ptx,.slice B3x m3x d3x] 60))
    have x2:=zB q (.cells #[.int .i64 ax,.int .i64 ptx,.slice B3x m3x d3x] 60)
    have b2:=zD q (.cells #[.int .i64 ax,.int .i64 ptx,.slice B3x m3x d3x] 60)
    rw[←hq2] at x2 b2
    have b12:=b1.trans (b2.mono b1.size)
    have X1:=zD0 ((b2.block _ (zA x1)).trans x1)
    have X2:=zD0 x2
    have BA:=zD0 b12
    have HQ1:=zD0 hq
    have HQ2:=zD0 hq2
    clear x1 x2 b1 b2 b12 hq hq2 hh0 hh1 hh2
    go_upto_region 6 with fail
    rw[←HQ1.out]
    go_upto_region 7 with fail
    rw[←HQ2.out]
    have b12:=BA.out
    generalize wr.heap.size=p1 at X1⊢
    generalize q.heap.size=p2 at X2⊢
    clear HQ1 HQ2 hg0 hg1 ii0 ii1 ii2
    obtain⟨k0,k1⟩:=zI X1.out
    obtain⟨j0,j1,j2⟩:=zC X2.out
    go_wp2_with fail
    refine(fits1_any a b ax ptx B3x m3x d3x esx q2).mono ?_
    rintro e w3 ⟨rfl,b3⟩
    have B3_:=zD0 (BW.out.trans ((b12.trans (b3.mono b12.size)).mono BW.out.size))
    clear b12 b3 k0 k1 j0 j1 j2
    cases he:relT (a,b) (ax,ptx,esx) with
    | true=>
     have NX:Hid (∀j (hj:j<i+1) (hl:j<l.length) (hm:j<m.length),relT l[j] m[j]=true):=zD0 (fun j hj h1 h2=>by
      rcases Nat.lt_or_ge j i with h|h
      ·exact HALL.out j h h1 h2
      ·obtain rfl:j=i:=by omega
       rw[HX.out,HXx.out];exact he)
     clear he
     go_wp2_with fail
     go_roundw
     case measure=>simp[intOf];omega
     case rel=>exact⟨i+1,by omega,by go_num,NX.out,B3_.out⟩
    | false=>
     have HF:Hid (eqW relT l m=false):=zD0 (eqW_no (i:=i) (h1:=hir) (h2:=him) (by rw[HX.out,HXx.out];exact he))
     clear he
     go_wp2_with fail
     go_ret
     exact⟨by rw[HF.out];rfl,B3_.out⟩
   ·obtain rfl:i=n:=by omega
    have hlt':¬(i:Int)<i:=by omega
    have HF:Hid (eqW relT l m=true):=zD0 (eqW_yes (by rw[←HN.out,←HN'.out]) fun j h1 h2=>HALL.out j (by rw[HN.out];exact h1) h1 h2)
    go_wp2_with fail
    go_ret
    exact⟨by rw[HF.out];rfl,BW.out⟩
 ·have hnn':((n:Int) != n')=true:=by simpa using(show¬(n:Int)=n' by omega)
  have HF:Hid (eqW relT l m=false):=zD0 (eqW_len fun h=>hnn (by rw[HN.out,HN'.out,h]))
  clear hnn
  go_wp2_with fail
  go_ret
  exact⟨by rw[HF.out];rfl,Below.refl _ _⟩
set_option maxHeartbeats 8000000 in
theorem eqf_sp (v y:Value) (l:List Swi) (m:List Jn) (w:World) (h:xP w w.heap.size v l) (h':zT w w.heap.size y m):
  Calls Tryz.prog 71 #[v,y,.func (.func 72) #[] #[]] w fun e w'=>e = .returned (.bool (eqW relS l m))∧Below w.heap.size w w':=by
 have H:=zD0 h
 have H':=zD0 h'
 obtain⟨A,c,rfl,hcl,hcm⟩:=h.slice
 obtain⟨A',c',rfl,hcl',hcm'⟩:=h'.slice
 have hml:l.length≤9223372036854775807:=by unfold maxLen at hcm;omega
 obtain⟨n,hn⟩:=zD1 (l.length)
 obtain⟨n',hn'⟩:∃n',n'=m.length:=⟨_,rfl⟩
 have HN:=zD0 hn
 have HN':=zD0 hn'
 have HA:=zD0 (show xP w w.heap.size (.slice A n c) l by rw[hn];exact H.out)
 have HA':=zD0 (show zT w w.heap.size (.slice A' n' c') m by rw[hn'];exact H'.out)
 have hml':n'≤9223372036854775807:=by unfold maxLen at hcm';omega
 rw[←hn] at hml⊢
 rw[←hn']
 clear hn hn' H H' hcl hcm hcl' hcm' h h'
 go_enter Tryz.func71,Tryz.ntmps71
 by_cases hnn:n=n'
 ·subst hnn
  go_wp2_with fail
  go_loopw [17] (fun s17 wr=>∃i:Nat,i≤n∧s17 = .int .i64 i∧(∀j (hj:j<i) (hl:j<l.length) (hm:j<m.length),relS l[j] m[j]=true)∧Below w.heap.size w wr) (fun s17 _=>n-(intOf s17).toNat)
  case atStart=>exact⟨0,by omega,by go_num,fun j hj=>absurd hj (by omega),Below.refl _ _⟩
  case round=>
   obtain⟨i,hi,rfl,hall,hbw⟩:=hrel
   have HALL:=zD0 hall
   have BW:=zD0 hbw
   clear hall hbw
   by_cases hlt:i<n
   ·have hlt':(i:Int)<n:=by omega
    have hir:i<l.length:=by rw[←HN.out];exact hlt
    have him:i<m.length:=by rw[←HN'.out];exact hlt
    obtain⟨bk,off,rfl,hbk,hc0,hc1,hc2⟩:=((HA.out.below zP BW.out).more zP BW.out.size).at hir
    obtain⟨a,b,c,hx⟩:∃a b c,l[i]=(a,b,c):=⟨_,_,_,rfl⟩
    have HX:=zD0 hx
    rw[hx] at hc0 hc1 hc2
    dsimp only at hc0 hc1 hc2
    have hg0:wr.cell? ⟨bk,off+i*3,none⟩=some (.int .i64 a):=hc0
    have hg1:wr.cell? ⟨bk,off+i*3+1,none⟩=some (.int .i64 b):=hc1
    have hg2:wr.cell? ⟨bk,off+i*3+2,none⟩=some (.int .i64 c):=hc2
    clear hc0 hc1 hc2 hx hbk
    obtain⟨bkx,offx,rfl,hbk,hc0,hc1⟩:=((HA'.out.below zM BW.out).more zM BW.out.size).at him
    obtain⟨ax,bx,hx⟩:∃ax bx,m[i]=(ax,bx):=⟨_,_,rfl⟩
    have HXx:=zD0 hx
    rw[hx] at hc0 hc1
    dsimp only at hc0 hc1
    have hh0:wr.cell? ⟨bkx,offx+i*2,none⟩=some (.int .i64 ax):=hc0
    have hh1:wr.cell? ⟨bkx,offx+i*2+1,none⟩=some (.int .i64 bx):=hc1
    clear hc0 hc1 hx hbk
    obtain⟨q,hq⟩:=zD1 (wr.alloc (.cells #[.int .i64 a,.int .i64 b,.int .i64 c] 55))
    have x1:=zB wr (.cells #[.int .i64 a,.int .i64 b,.int .i64 c] 55)
    have b1:=zD wr (.cells #[.int .i64 a,.int .i64 b,.int .i64 c] 55)
    rw[←hq] at x1 b1
    have ii0:=(b1.cell (p:=⟨bkx,offx+i*2,none⟩) (zG hh0)).trans hh0
    have ii1:=(b1.cell (p:=⟨bkx,offx+i*2+1,none⟩) (zG hh1)).trans hh1
    obtain⟨q2,hq2⟩:=zD1 (q.alloc (.cells #[.int .i64 ax,.int .i64 bx] 67))
    have x2:=zB q (.cells #[.int .i64 ax,.int .i64 bx] 67)
    have b2:=zD q (.cells #[.int .i64 ax,.int .i64 bx] 67)
    rw[←hq2] at x2 b2
    have b12:=b1.trans (b2.mono b1.size)
    have X1:=zD0 ((b2.block _ (zA x1)).trans x1)
    have X2:=zD0 x2
    have BA:=zD0 b12
    have HQ1:=zD0 hq
    have HQ2:=zD0 hq2
    clear x1 x2 b1 b2 b12 hq hq2 hh0 hh1
    go_upto_region 6 with fail
    rw[←HQ1.out]
    go_upto_region 7 with fail
    rw[←HQ2.out]
    have b12:=BA.out
    generalize wr.heap.size=p1 at X1⊢
    generalize q.heap.size=p2 at X2⊢
    clear HQ1 HQ2 hg0 hg1 hg2 ii0 ii1
    obtain⟨k0,k1,k2⟩:=zC X1.out
    obtain⟨j0,j1⟩:=zI X2.out
    go_wp2_with fail
    refine(fits2_any a b c ax bx q2).mono ?_
    rintro e w3 ⟨rfl,b3⟩
    have B3_:=zD0 (BW.out.trans ((b12.trans (b3.mono b12.size)).mono BW.out.size))
    clear b12 b3 k0 k1 k2 j0 j1
    cases he:relS (a,b,c) (ax,bx) with
    | true=>
     have NX:Hid (∀j (hj:j<i+1) (hl:j<l.length) (hm:j<m.length),relS l[j] m[j]=true):=zD0 (fun j hj h1 h2=>by
      rcases Nat.lt_or_ge j i with h|h
      ·exact HALL.out j h h1 h2
      ·obtain rfl:j=i:=by omega
       rw[HX.out,HXx.out];exact he)
     clear he
     go_wp2_with fail
     go_roundw
     case measure=>simp[intOf];omega
     case rel=>exact⟨i+1,by omega,by go_num,NX.out,B3_.out⟩
    | false=>
     have HF:Hid (eqW relS l m=false):=zD0 (eqW_no (i:=i) (h1:=hir) (h2:=him) (by rw[HX.out,HXx.out];exact he))
     clear he
     go_wp2_with fail
     go_ret
     exact⟨by rw[HF.out];rfl,B3_.out⟩
   ·obtain rfl:i=n:=by omega
    have hlt':¬(i:Int)<i:=by omega
    have HF:Hid (eqW relS l m=true):=zD0 (eqW_yes (by rw[←HN.out,←HN'.out]) fun j h1 h2=>HALL.out j (by rw[HN.out];exact h1) h1 h2)
    go_wp2_with fail
    go_ret
    exact⟨by rw[HF.out];rfl,BW.out⟩
 ·have hnn':((n:Int) != n')=true:=by simpa using(show¬(n:Int)=n' by omega)
  have HF:Hid (eqW relS l m=false):=zD0 (eqW_len fun h=>hnn (by rw[HN.out,HN'.out,h]))
  clear hnn
  go_wp2_with fail
  go_ret
  exact⟨by rw[HF.out];rfl,Below.refl _ _⟩
set_option maxHeartbeats 8000000 in
theorem eqf_lr (v y:Value) (l:List Lck) (m:List Rt) (w:World) (h:xO w w.heap.size v l) (h':qX w w.heap.size y m):
  Calls Tryz.prog 74 #[v,y,.func (.func 75) #[] #[]] w fun e w'=>e = .returned (.bool (eqW relL l m))∧Below w.heap.size w w':=by
 have H:=zD0 h
 have H':=zD0 h'
 obtain⟨A,c,rfl,hcl,hcm⟩:=h.slice
 obtain⟨A',c',rfl,hcl',hcm'⟩:=h'.slice
 have hml:l.length≤9223372036854775807:=by unfold maxLen at hcm;omega
 obtain⟨n,hn⟩:=zD1 (l.length)
 obtain⟨n',hn'⟩:∃n',n'=m.length:=⟨_,rfl⟩
 have HN:=zD0 hn
 have HN':=zD0 hn'
 have HA:=zD0 (show xO w w.heap.size (.slice A n c) l by rw[hn];exact H.out)
 have HA':=zD0 (show qX w w.heap.size (.slice A' n' c') m by rw[hn'];exact H'.out)
 have hml':n'≤9223372036854775807:=by unfold maxLen at hcm';omega
 rw[←hn] at hml⊢
 rw[←hn']
 clear hn hn' H H' hcl hcm hcl' hcm' h h'
 go_enter Tryz.func74,Tryz.ntmps74
 by_cases hnn:n=n'
 ·subst hnn
  go_wp2_with fail
  go_loopw [17] (fun s17 wr=>∃i:Nat,i≤n∧s17 = .int .i64 i∧(∀j (hj:j<i) (hl:j<l.length) (hm:j<m.length),relL l[j] m[j]=true)∧Below w.heap.size w wr) (fun s17 _=>n-(intOf s17).toNat)
  case atStart=>exact⟨0,by omega,by go_num,fun j hj=>absurd hj (by omega),Below.refl _ _⟩
  case round=>
   obtain⟨i,hi,rfl,hall,hbw⟩:=hrel
   have HALL:=zD0 hall
   have BW:=zD0 hbw
   clear hall hbw
   by_cases hlt:i<n
   ·have hlt':(i:Int)<n:=by omega
    have hir:i<l.length:=by rw[←HN.out];exact hlt
    have him:i<m.length:=by rw[←HN'.out];exact hlt
    obtain⟨bk,off,rfl,hbk,hc0,hc1,hc2,hc3,-,-⟩:=((HA.out.below xQ BW.out).more xQ BW.out.size).at hir
    obtain⟨a,b,c,d,hx⟩:∃a b c d,l[i]=(a,b,c,d):=⟨_,_,_,_,rfl⟩
    have HX:=zD0 hx
    rw[hx] at hc0 hc1 hc2 hc3
    dsimp only at hc0 hc1 hc2 hc3
    have hg0:wr.cell? ⟨bk,off+i*4,none⟩=some (.int .i64 a):=hc0
    have hg1:wr.cell? ⟨bk,off+i*4+1,none⟩=some (.int .u8 b):=hc1
    have hg2:wr.cell? ⟨bk,off+i*4+2,none⟩=some (.int .i64 c):=hc2
    have hg3:wr.cell? ⟨bk,off+i*4+3,none⟩=some (.int .i64 d):=hc3
    clear hc0 hc1 hc2 hc3 hx hbk
    obtain⟨bkx,offx,rfl,hbk,hc0,hc1,hc2,hc6,u3x,u4x,u5x,hc3,hc4,hc5,hr⟩:=((HA'.out.below qM BW.out).more qM BW.out.size).at him
    obtain⟨B3x,d3x,rfl,hk3,hm3⟩:=hr.path.slice
    obtain⟨B4x,d4x,rfl,-,-⟩:=hr.over.slice
    obtain⟨B5x,d5x,rfl,-,-⟩:=hr.flanks.slice
    obtain⟨ax,enx,exx,lpx,lox,lfx,tmx,hx⟩:∃ax enx exx lpx lox lfx tmx,m[i]=(⟨ax,enx,exx,lpx,lox,lfx,tmx⟩:Rt):=⟨_,_,_,_,_,_,_,rfl⟩
    have HXx:=zD0 hx
    rw[hx] at hc0 hc1 hc2 hc3 hc4 hc5 hc6 hr hk3
    dsimp only at hc0 hc1 hc2 hc3 hc4 hc5 hc6 hr hk3
    obtain⟨m3x,e3⟩:=zD1 (lpx.length)
    obtain⟨m4x,e4⟩:=zD1 (lox.length)
    obtain⟨m5x,e5⟩:=zD1 (lfx.length)
    rw[←e3] at hc3 hk3
    rw[←e4] at hc4
    rw[←e5] at hc5
    have HMx:Hid (m3x=lpx.length∧m3x≤9223372036854775807):=zD0 ⟨e3,by unfold maxLen at hm3;omega⟩
    have hh0:wr.cell? ⟨bkx,offx+i*7,none⟩=some (.int .i64 ax):=hc0
    have hh1:wr.cell? ⟨bkx,offx+i*7+1,none⟩=some (.int .i64 enx):=hc1
    have hh2:wr.cell? ⟨bkx,offx+i*7+2,none⟩=some (.int .i64 exx):=hc2
    have hh3:wr.cell? ⟨bkx,offx+i*7+3,none⟩=some (.slice B3x m3x d3x):=hc3
    have hh4:wr.cell? ⟨bkx,offx+i*7+4,none⟩=some (.slice B4x m4x d4x):=hc4
    have hh5:wr.cell? ⟨bkx,offx+i*7+5,none⟩=some (.slice B5x m5x d5x):=hc5
    have hh6:wr.cell? ⟨bkx,offx+i*7+6,none⟩=some (.int .i64 tmx):=hc6
    clear hc0 hc1 hc2 hc3 hc4 hc5 hc6 hx hbk hr hk3 hm3 e3 e4 e5
    obtain⟨q,hq⟩:=zD1 (wr.alloc (.cells #[.int .i64 a,.int .u8 b,.int .i64 c,.int .i64 d] 53))
    have x1:=zB wr (.cells #[.int .i64 a,.int .u8 b,.int .i64 c,.int .i64 d] 53)
    have b1:=zD wr (.cells #[.int .i64 a,.int .u8 b,.int .i64 c,.int .i64 d] 53)
    rw[←hq] at x1 b1
    have ii0:=(b1.cell (p:=⟨bkx,offx+i*7,none⟩) (zG hh0)).trans hh0
    have ii1:=(b1.cell (p:=⟨bkx,offx+i*7+1,none⟩) (zG hh1)).trans hh1
    have ii2:=(b1.cell (p:=⟨bkx,offx+i*7+2,none⟩) (zG hh2)).trans hh2
    have ii3:=(b1.cell (p:=⟨bkx,offx+i*7+3,none⟩) (zG hh3)).trans hh3
    have ii4:=(b1.cell (p:=⟨bkx,offx+i*7+4,none⟩) (zG hh4)).trans hh4
    have ii5:=(b1.cell (p:=⟨bkx,offx+i*7+5,none⟩) (zG hh5)).trans hh5
    have ii6:=(b1.cell (p:=⟨bkx,offx+i*7+6,none⟩) (zG hh6)).trans hh6
    obtain⟨q2,hq2⟩:=zD1 (q.alloc (.cells #[.int .i64 ax,.int .i64 enx,.int .i64 exx,.slice B3x m3x d3x,.slice B4x m4x d4x,.slice B5x m5x d5x,.int .i64 tmx] 64))
    have x2:=zB q (.cells #[.int .i64 ax,.int .i64 enx,.int .i64 exx,.slice B3x m3x d3x,.slice B4x m4x d4x,.slice B5x m5x d5x,.int .i64 tmx] 64)
    have b2:=zD q (.cells #[.int .i64 ax,.int .i64 enx,.int .i64 exx,.slice B3x m3x d3x,.slice B4x m4x d4x,.slice B5x m5x d5x,.int .i64 tmx] 64)
    rw[←hq2] at x2 b2
    have b12:=b1.trans (b2.mono b1.size)
    have X1:=zD0 ((b2.block _ (zA x1)).trans x1)
    have X2:=zD0 x2
    have BA:=zD0 b12
    have HQ1:=zD0 hq
    have HQ2:=zD0 hq2
    clear x1 x2 b1 b2 b12 hq hq2 hh0 hh1 hh2 hh3 hh4 hh5 hh6
    go_upto_region 6 with fail
    rw[←HQ1.out]
    go_upto_region 7 with fail
    rw[←HQ2.out]
    have b12:=BA.out
    generalize wr.heap.size=p1 at X1⊢
    generalize q.heap.size=p2 at X2⊢
    clear HQ1 HQ2 hg0 hg1 hg2 hg3 ii0 ii1 ii2 ii3 ii4 ii5 ii6
    obtain⟨k0,k1,k2,k3⟩:=qC X1.out
    obtain⟨j0,j1,j2,j3,j4,j5,j6⟩:=zL X2.out
    go_wp2_with fail
    refine(fits3_any a b c d ax enx exx B3x B4x B5x m3x m4x m5x d3x d4x d5x lpx lox lfx tmx HMx.out q2).mono ?_
    rintro e w3 ⟨rfl,b3⟩
    have B3_:=zD0 (BW.out.trans ((b12.trans (b3.mono b12.size)).mono BW.out.size))
    clear b12 b3 k0 k1 k2 k3 j0 j1 j2 j3 j4 j5 j6
    cases he:relL (a,b,c,d) (⟨ax,enx,exx,lpx,lox,lfx,tmx⟩:Rt) with
    | true=>
     have NX:Hid (∀j (hj:j<i+1) (hl:j<l.length) (hm:j<m.length),relL l[j] m[j]=true):=zD0 (fun j hj h1 h2=>by
      rcases Nat.lt_or_ge j i with h|h
      ·exact HALL.out j h h1 h2
      ·obtain rfl:j=i:=by omega
       rw[HX.out,HXx.out];exact he)
     clear he
     go_wp2_with fail
     go_roundw
     case measure=>simp[intOf];omega
     case rel=>exact⟨i+1,by omega,by go_num,NX.out,B3_.out⟩
    | false=>
     have HF:Hid (eqW relL l m=false):=zD0 (eqW_no (i:=i) (h1:=hir) (h2:=him) (by rw[HX.out,HXx.out];exact he))
     clear he
     go_wp2_with fail
     go_ret
     exact⟨by rw[HF.out];rfl,B3_.out⟩
   ·obtain rfl:i=n:=by omega
    have hlt':¬(i:Int)<i:=by omega
    have HF:Hid (eqW relL l m=true):=zD0 (eqW_yes (by rw[←HN.out,←HN'.out]) fun j h1 h2=>HALL.out j (by rw[HN.out];exact h1) h1 h2)
    go_wp2_with fail
    go_ret
    exact⟨by rw[HF.out];rfl,BW.out⟩
 ·have hnn':((n:Int) != n')=true:=by simpa using(show¬(n:Int)=n' by omega)
  have HF:Hid (eqW relL l m=false):=zD0 (eqW_len fun h=>hnn (by rw[HN.out,HN'.out,h]))
  clear hnn
  go_wp2_with fail
  go_ret
  exact⟨by rw[HF.out];rfl,Below.refl _ _⟩
set_option maxHeartbeats 8000000 in
theorem eqf_ks (v y:Value) (l:List Swi) (m:List Swi) (w:World) (h:xP w w.heap.size v l) (h':xP w w.heap.size y m):
  Calls Tryz.prog 40 #[v,y,.func (.func 41) #[] #[]] w fun e w'=>e = .returned (.bool (eqW zAg l m))∧Below w.heap.size w w':=by
 have H:=zD0 h
 have H':=zD0 h'
 obtain⟨A,c,rfl,hcl,hcm⟩:=h.slice
 obtain⟨A',c',rfl,hcl',hcm'⟩:=h'.slice
 have hml:l.length≤9223372036854775807:=by unfold maxLen at hcm;omega
 obtain⟨n,hn⟩:=zD1 (l.length)
 obtain⟨n',hn'⟩:∃n',n'=m.length:=⟨_,rfl⟩
 have HN:=zD0 hn
 have HN':=zD0 hn'
 have HA:=zD0 (show xP w w.heap.size (.slice A n c) l by rw[hn];exact H.out)
 have HA':=zD0 (show xP w w.heap.size (.slice A' n' c') m by rw[hn'];exact H'.out)
 have hml':n'≤9223372036854775807:=by unfold maxLen at hcm';omega
 rw[←hn] at hml⊢
 rw[←hn']
 clear hn hn' H H' hcl hcm hcl' hcm' h h'
 go_enter Tryz.func40,Tryz.ntmps40
 by_cases hnn:n=n'
 ·subst hnn
  go_wp2_with fail
  go_loopw [17] (fun s17 wr=>∃i:Nat,i≤n∧s17 = .int .i64 i∧(∀j (hj:j<i) (hl:j<l.length) (hm:j<m.length),zAg l[j] m[j]=true)∧Below w.heap.size w wr) (fun s17 _=>n-(intOf s17).toNat)
  case atStart=>exact⟨0,by omega,by go_num,fun j hj=>absurd hj (by omega),Below.refl _ _⟩
  case round=>
   obtain⟨i,hi,rfl,hall,hbw⟩:=hrel
   have HALL:=zD0 hall
   have BW:=zD0 hbw
   clear hall hbw
   by_cases hlt:i<n
   ·have hlt':(i:Int)<n:=by omega
    have hir:i<l.length:=by rw[←HN.out];exact hlt
    have him:i<m.length:=by rw[←HN'.out];exact hlt
    obtain⟨bk,off,rfl,hbk,hc0,hc1,hc2⟩:=((HA.out.below zP BW.out).more zP BW.out.size).at hir
    obtain⟨a,b,c,hx⟩:∃a b c,l[i]=(a,b,c):=⟨_,_,_,rfl⟩
    have HX:=zD0 hx
    rw[hx] at hc0 hc1 hc2
    dsimp only at hc0 hc1 hc2
    have hg0:wr.cell? ⟨bk,off+i*3,none⟩=some (.int .i64 a):=hc0
    have hg1:wr.cell? ⟨bk,off+i*3+1,none⟩=some (.int .i64 b):=hc1
    have hg2:wr.cell? ⟨bk,off+i*3+2,none⟩=some (.int .i64 c):=hc2
    clear hc0 hc1 hc2 hx hbk
    obtain⟨bkx,offx,rfl,hbk,hc0,hc1,hc2⟩:=((HA'.out.below zP BW.out).more zP BW.out.size).at him
    obtain⟨ax,bx,cx,hx⟩:∃ax bx cx,m[i]=(ax,bx,cx):=⟨_,_,_,rfl⟩
    have HXx:=zD0 hx
    rw[hx] at hc0 hc1 hc2
    dsimp only at hc0 hc1 hc2
    have hh0:wr.cell? ⟨bkx,offx+i*3,none⟩=some (.int .i64 ax):=hc0
    have hh1:wr.cell? ⟨bkx,offx+i*3+1,none⟩=some (.int .i64 bx):=hc1
    have hh2:wr.cell? ⟨bkx,offx+i*3+2,none⟩=some (.int .i64 cx):=hc2
    clear hc0 hc1 hc2 hx hbk
    obtain⟨q,hq⟩:=zD1 (wr.alloc (.cells #[.int .i64 a,.int .i64 b,.int .i64 c] 55))
    have x1:=zB wr (.cells #[.int .i64 a,.int .i64 b,.int .i64 c] 55)
    have b1:=zD wr (.cells #[.int .i64 a,.int .i64 b,.int .i64 c] 55)
    rw[←hq] at x1 b1
    have ii0:=(b1.cell (p:=⟨bkx,offx+i*3,none⟩) (zG hh0)).trans hh0
    have ii1:=(b1.cell (p:=⟨bkx,offx+i*3+1,none⟩) (zG hh1)).trans hh1
    have ii2:=(b1.cell (p:=⟨bkx,offx+i*3+2,none⟩) (zG hh2)).trans hh2
    obtain⟨q2,hq2⟩:=zD1 (q.alloc (.cells #[.int .i64 ax,.int .i64 bx,.int .i64 cx] 55))
    have x2:=zB q (.cells #[.int .i64 ax,.int .i64 bx,.int .i64 cx] 55)
    have b2:=zD q (.cells #[.int .i64 ax,.int .i64 bx,.int .i64 cx] 55)
    rw[←hq2] at x2 b2
    have b12:=b1.trans (b2.mono b1.size)
    have X1:=zD0 ((b2.block _ (zA x1)).trans x1)
    have X2:=zD0 x2
    have BA:=zD0 b12
    have HQ1:=zD0 hq
    have HQ2:=zD0 hq2
    clear x1 x2 b1 b2 b12 hq hq2 hh0 hh1 hh2
    go_upto_region 6 with fail
    rw[←HQ1.out]
    go_upto_region 7 with fail
    rw[←HQ2.out]
    have b12:=BA.out
    generalize wr.heap.size=p1 at X1⊢
    generalize q.heap.size=p2 at X2⊢
    clear HQ1 HQ2 hg0 hg1 hg2 ii0 ii1 ii2
    obtain⟨k0,k1,k2⟩:=zC X1.out
    obtain⟨j0,j1,j2⟩:=zC X2.out
    go_wp2_with fail
    refine(kept1_any a b c ax bx cx q2).mono ?_
    rintro e w3 ⟨rfl,b3⟩
    have B3_:=zD0 (BW.out.trans ((b12.trans (b3.mono b12.size)).mono BW.out.size))
    clear b12 b3 k0 k1 k2 j0 j1 j2
    cases he:zAg (a,b,c) (ax,bx,cx) with
    | true=>
     have NX:Hid (∀j (hj:j<i+1) (hl:j<l.length) (hm:j<m.length),zAg l[j] m[j]=true):=zD0 (fun j hj h1 h2=>by
      rcases Nat.lt_or_ge j i with h|h
      ·exact HALL.out j h h1 h2
      ·obtain rfl:j=i:=by omega
       rw[HX.out,HXx.out];exact he)
     clear he
     go_wp2_with fail
     go_roundw
     case measure=>simp[intOf];omega
     case rel=>exact⟨i+1,by omega,by go_num,NX.out,B3_.out⟩
    | false=>
     have HF:Hid (eqW zAg l m=false):=zD0 (eqW_no (i:=i) (h1:=hir) (h2:=him) (by rw[HX.out,HXx.out];exact he))
     clear he
     go_wp2_with fail
     go_ret
     exact⟨by rw[HF.out];rfl,B3_.out⟩
   ·obtain rfl:i=n:=by omega
    have hlt':¬(i:Int)<i:=by omega
    have HF:Hid (eqW zAg l m=true):=zD0 (eqW_yes (by rw[←HN.out,←HN'.out]) fun j h1 h2=>HALL.out j (by rw[HN.out];exact h1) h1 h2)
    go_wp2_with fail
    go_ret
    exact⟨by rw[HF.out];rfl,BW.out⟩
 ·have hnn':((n:Int) != n')=true:=by simpa using(show¬(n:Int)=n' by omega)
  have HF:Hid (eqW zAg l m=false):=zD0 (eqW_len fun h=>hnn (by rw[HN.out,HN'.out,h]))
  clear hnn
  go_wp2_with fail
  go_ret
  exact⟨by rw[HF.out];rfl,Below.refl _ _⟩
set_option maxHeartbeats 8000000 in
theorem eqf_kl (v y:Value) (l:List Lck) (m:List Lck) (w:World) (h:xO w w.heap.size v l) (h':xO w w.heap.size y m):
  Calls Tryz.prog 42 #[v,y,.func (.func 43) #[] #[]] w fun e w'=>e = .returned (.bool (eqW yL l m))∧Below w.heap.size w w':=by
 have H:=zD0 h
 have H':=zD0 h'
 obtain⟨A,c,rfl,hcl,hcm⟩:=h.slice
 obtain⟨A',c',rfl,hcl',hcm'⟩:=h'.slice
 have hml:l.length≤9223372036854775807:=by unfold maxLen at hcm;omega
 obtain⟨n,hn⟩:=zD1 (l.length)
 obtain⟨n',hn'⟩:∃n',n'=m.length:=⟨_,rfl⟩
 have HN:=zD0 hn
 have HN':=zD0 hn'
 have HA:=zD0 (show xO w w.heap.size (.slice A n c) l by rw[hn];exact H.out)
 have HA':=zD0 (show xO w w.heap.size (.slice A' n' c') m by rw[hn'];exact H'.out)
 have hml':n'≤9223372036854775807:=by unfold maxLen at hcm';omega
 rw[←hn] at hml⊢
 rw[←hn']
 clear hn hn' H H' hcl hcm hcl' hcm' h h'
 go_enter Tryz.func42,Tryz.ntmps42
 by_cases hnn:n=n'
 ·subst hnn
  go_wp2_with fail
  go_loopw [17] (fun s17 wr=>∃i:Nat,i≤n∧s17 = .int .i64 i∧(∀j (hj:j<i) (hl:j<l.length) (hm:j<m.length),yL l[j] m[j]=true)∧Below w.heap.size w wr) (fun s17 _=>n-(intOf s17).toNat)
  case atStart=>exact⟨0,by omega,by go_num,fun j hj=>absurd hj (by omega),Below.refl _ _⟩
  case round=>
   obtain⟨i,hi,rfl,hall,hbw⟩:=hrel
   have HALL:=zD0 hall
   have BW:=zD0 hbw
   clear hall hbw
   by_cases hlt:i<n
   ·have hlt':(i:Int)<n:=by omega
    have hir:i<l.length:=by rw[←HN.out];exact hlt
    have him:i<m.length:=by rw[←HN'.out];exact hlt
    obtain⟨bk,off,rfl,hbk,hc0,hc1,hc2,hc3,-,-⟩:=((HA.out.below xQ BW.out).more xQ BW.out.size).at hir
    obtain⟨a,b,c,d,hx⟩:∃a b c d,l[i]=(a,b,c,d):=⟨_,_,_,_,rfl⟩
    have HX:=zD0 hx
    rw[hx] at hc0 hc1 hc2 hc3
    dsimp only at hc0 hc1 hc2 hc3
    have hg0:wr.cell? ⟨bk,off+i*4,none⟩=some (.int .i64 a):=hc0
    have hg1:wr.cell? ⟨bk,off+i*4+1,none⟩=some (.int .u8 b):=hc1
    have hg2:wr.cell? ⟨bk,off+i*4+2,none⟩=some (.int .i64 c):=hc2
    have hg3:wr.cell? ⟨bk,off+i*4+3,none⟩=some (.int .i64 d):=hc3
    clear hc0 hc1 hc2 hc3 hx hbk
    obtain⟨bkx,offx,rfl,hbk,hc0,hc1,hc2,hc3,-,-⟩:=((HA'.out.below xQ BW.out).more xQ BW.out.size).at him
    obtain⟨ax,bx,cx,dx,hx⟩:∃ax bx cx dx,m[i]=(ax,bx,cx,dx):=⟨_,_,_,_,rfl⟩
    have HXx:=zD0 hx
    rw[hx] at hc0 hc1 hc2 hc3
    dsimp only at hc0 hc1 hc2 hc3
    have hh0:wr.cell? ⟨bkx,offx+i*4,none⟩=some (.int .i64 ax):=hc0
    have hh1:wr.cell? ⟨bkx,offx+i*4+1,none⟩=some (.int .u8 bx):=hc1
    have hh2:wr.cell? ⟨bkx,offx+i*4+2,none⟩=some (.int .i64 cx):=hc2
    have hh3:wr.cell? ⟨bkx,offx+i*4+3,none⟩=some (.int .i64 dx):=hc3
    clear hc0 hc1 hc2 hc3 hx hbk
    obtain⟨q,hq⟩:=zD1 (wr.alloc (.cells #[.int .i64 a,.int .u8 b,.int .i64 c,.int .i64 d] 53))
    have x1:=zB wr (.cells #[.int .i64 a,.int .u8 b,.int .i64 c,.int .i64 d] 53)
    have b1:=zD wr (.cells #[.int .i64 a,.int .u8 b,.int .i64 c,.int .i64 d] 53)
    rw[←hq] at x1 b1
    have ii0:=(b1.cell (p:=⟨bkx,offx+i*4,none⟩) (zG hh0)).trans hh0
    have ii1:=(b1.cell (p:=⟨bkx,offx+i*4+1,none⟩) (zG hh1)).trans hh1
    have ii2:=(b1.cell (p:=⟨bkx,offx+i*4+2,none⟩) (zG hh2)).trans hh2
    have ii3:=(b1.cell (p:=⟨bkx,offx+i*4+3,none⟩) (zG hh3)).trans hh3
    obtain⟨q2,hq2⟩:=zD1 (q.alloc (.cells #[.int .i64 ax,.int .u8 bx,.int .i64 cx,.int .i64 dx] 53))
    have x2:=zB q (.cells #[.int .i64 ax,.int .u8 bx,.int .i64 cx,.int .i64 dx] 53)
    have b2:=zD q (.cells #[.int .i64 ax,.int .u8 bx,.int .i64 cx,.int .i64 dx] 53)
    rw[←hq2] at x2 b2
    have b12:=b1.trans (b2.mono b1.size)
    have X1:=zD0 ((b2.block _ (zA x1)).trans x1)
    have X2:=zD0 x2
    have BA:=zD0 b12
    have HQ1:=zD0 hq
    have HQ2:=zD0 hq2
    clear x1 x2 b1 b2 b12 hq hq2 hh0 hh1 hh2 hh3
    go_upto_region 6 with fail
    rw[←HQ1.out]
    go_upto_region 7 with fail
    rw[←HQ2.out]
    have b12:=BA.out
    generalize wr.heap.size=p1 at X1⊢
    generalize q.heap.size=p2 at X2⊢
    clear HQ1 HQ2 hg0 hg1 hg2 hg3 ii0 ii1 ii2 ii3
    obtain⟨k0,k1,k2,k3⟩:=qC X1.out
    obtain⟨j0,j1,j2,j3⟩:=qC X2.out
    go_wp2_with fail
    refine(kept2_any a b c d ax bx cx dx q2).mono ?_
    rintro e w3 ⟨rfl,b3⟩
    have B3_:=zD0 (BW.out.trans ((b12.trans (b3.mono b12.size)).mono BW.out.size))
    clear b12 b3 k0 k1 k2 k3 j0 j1 j2 j3
    cases he:yL (a,b,c,d) (ax,bx,cx,dx) with
    | true=>
     have NX:Hid (∀j (hj:j<i+1) (hl:j<l.length) (hm:j<m.length),yL l[j] m[j]=true):=zD0 (fun j hj h1 h2=>by
      rcases Nat.lt_or_ge j i with h|h
      ·exact HALL.out j h h1 h2
      ·obtain rfl:j=i:=by omega
       rw[HX.out,HXx.out];exact he)
     clear he
     go_wp2_with fail
     go_roundw
     case measure=>simp[intOf];omega
     case rel=>exact⟨i+1,by omega,by go_num,NX.out,B3_.out⟩
    | false=>
     have HF:Hid (eqW yL l m=false):=zD0 (eqW_no (i:=i) (h1:=hir) (h2:=him) (by rw[HX.out,HXx.out];exact he))
     clear he
     go_wp2_with fail
     go_ret
     exact⟨by rw[HF.out];rfl,B3_.out⟩
   ·obtain rfl:i=n:=by omega
    have hlt':¬(i:Int)<i:=by omega
    have HF:Hid (eqW yL l m=true):=zD0 (eqW_yes (by rw[←HN.out,←HN'.out]) fun j h1 h2=>HALL.out j (by rw[HN.out];exact h1) h1 h2)
    go_wp2_with fail
    go_ret
    exact⟨by rw[HF.out];rfl,BW.out⟩
 ·have hnn':((n:Int) != n')=true:=by simpa using(show¬(n:Int)=n' by omega)
  have HF:Hid (eqW yL l m=false):=zD0 (eqW_len fun h=>hnn (by rw[HN.out,HN'.out,h]))
  clear hnn
  go_wp2_with fail
  go_ret
  exact⟨by rw[HF.out];rfl,Below.refl _ _⟩
theorem lieB_iff {z:Int}:lieB z=true↔0≤z∧z≤2:=by
 rw[lieB,Bool.or_eq_true,Bool.or_eq_true,decide_eq_true_eq,decide_eq_true_eq,decide_eq_true_eq]
 omega
theorem parts_eqW {p:Pl} {s:qD} (hs:∀x∈s.tr,True):vV p s↔(eqW relT s.tr p.secs=true∧eqW relS s.sw p.pts=true∧eqW relL s.lk p.routes=true):=by
 rw[zCq,zCq,zCq]
 constructor
 ·intro h
  refine⟨⟨h.nt,fun i h1 h2=>?_⟩,⟨h.ns,fun i h1 h2=>?_⟩,⟨h.nl,fun i h1 h2=>?_⟩⟩
  ·obtain⟨e1,e2⟩:=h.tr i h1
   rw[relT,Bool.and_eq_true];exact⟨decide_eq_true e1,decide_eq_true e2⟩
  ·obtain⟨e1,⟨e2,e3⟩,e4,e5⟩:=h.sw i h1
   rw[relS,Bool.and_eq_true,Bool.and_eq_true];exact⟨⟨decide_eq_true e1,lieB_iff.2 ⟨e2,e3⟩⟩,lieB_iff.2 ⟨e4,e5⟩⟩
  ·obtain⟨e1,e2⟩:=h.lk i h1
   rw[relL,Bool.and_eq_true];exact⟨decide_eq_true e1,decide_eq_true e2⟩
 ·rintro⟨⟨h1,g1⟩,⟨h2,g2⟩,⟨h3,g3⟩⟩
  refine⟨h1,h2,h3,fun i h=>?_,fun i h=>?_,fun i h=>?_⟩
  ·have:=g1 i h (by omega)
   rw[relT,Bool.and_eq_true] at this
   exact⟨of_decide_eq_true this.1,of_decide_eq_true this.2⟩
  ·have:=g2 i h (by omega)
   rw[relS,Bool.and_eq_true,Bool.and_eq_true] at this
   exact⟨of_decide_eq_true this.1.1,lieB_iff.1 this.1.2,lieB_iff.1 this.2⟩
  ·have:=g3 i h (by omega)
   rw[relL,Bool.and_eq_true] at this
   exact⟨of_decide_eq_true this.1,of_decide_eq_true this.2⟩
noncomputable def kP (p:Pl) (s:qD):Bool:=@decide (vV p s) (Classical.propDecidable _)
theorem zC2 {p:Pl} {s:qD} (h:vV p s):kP p s=true:=by rw[kP];exact @decide_eq_true _ (Classical.propDecidable _) h
theorem jT {p:Pl} {s:qD} (h:¬vV p s):kP p s=false:=by rw[kP];exact @decide_eq_false _ (Classical.propDecidable _) h
set_option maxHeartbeats 8000000 in
theorem fits_any (v y:Value) (p:Pl) (s:qD) (w:World) (h:qF w w.heap.size v p) (h':qL w w.heap.size y s):
  Calls Tryz.prog 49 #[v,y] w fun e w'=>e = .returned (.bool (kP p s))∧Below w.heap.size w w':=by
 obtain⟨p2,p3,p4,p5,rfl,h⟩:=h
 obtain⟨A2,a2,rfl,-,-⟩:=h.secs.slice
 obtain⟨b2,hb2⟩:=zD1 (p.secs.length)
 have P2:Hid (zX w w.heap.size (.slice A2 b2 a2) p.secs):=zD0 (by rw[hb2];exact h.secs)
 rw[←hb2]
 clear hb2
 obtain⟨A3,a3,rfl,-,-⟩:=h.pts.slice
 obtain⟨b3,hb3⟩:=zD1 (p.pts.length)
 have P3:Hid (zT w w.heap.size (.slice A3 b3 a3) p.pts):=zD0 (by rw[hb3];exact h.pts)
 rw[←hb3]
 clear hb3
 obtain⟨A4,a4,rfl,-,-⟩:=h.sigs.slice
 obtain⟨b4,hb4⟩:=zD1 (p.sigs.length)
 have P4:Hid (xI w w.heap.size (.slice A4 b4 a4) p.sigs):=zD0 (by rw[hb4];exact h.sigs)
 rw[←hb4]
 clear hb4
 obtain⟨A5,a5,rfl,-,-⟩:=h.routes.slice
 obtain⟨b5,hb5⟩:=zD1 (p.routes.length)
 have P5:Hid (qX w w.heap.size (.slice A5 b5 a5) p.routes):=zD0 (by rw[hb5];exact h.routes)
 rw[←hb5]
 clear hb5
 clear h
 obtain⟨_,_,_,rfl,h'⟩:=h'
 obtain⟨S0,Sc0,rfl,-,-⟩:=h'.tr.slice
 obtain⟨Sn0,hS0⟩:=zD1 (s.tr.length)
 have HS0:Hid (jD w w.heap.size (.slice S0 Sn0 Sc0) s.tr):=zD0 (by rw[hS0];exact h'.tr)
 rw[←hS0]
 clear hS0
 obtain⟨S1,Sc1,rfl,-,-⟩:=h'.sw.slice
 obtain⟨Sn1,hS1⟩:=zD1 (s.sw.length)
 have HS1:Hid (xP w w.heap.size (.slice S1 Sn1 Sc1) s.sw):=zD0 (by rw[hS1];exact h'.sw)
 rw[←hS1]
 clear hS1
 obtain⟨S2,Sc2,rfl,-,-⟩:=h'.lk.slice
 obtain⟨Sn2,hS2⟩:=zD1 (s.lk.length)
 have HS2:Hid (xO w w.heap.size (.slice S2 Sn2 Sc2) s.lk):=zD0 (by rw[hS2];exact h'.lk)
 rw[←hS2]
 clear hS2
 clear h'
 have NO:=zD0 (show eqW relT s.tr p.secs=false∨eqW relS s.sw p.pts=false∨eqW relL s.lk p.routes=false→kP p s=false from fun h=>jT fun g=>by obtain⟨g1,g2,g3⟩:=(parts_eqW (fun _ _=>trivial)).1 g;rw[g1,g2,g3] at h;simp at h)
 have YES:=zD0 (show eqW relT s.tr p.secs=true→eqW relS s.sw p.pts=true→eqW relL s.lk p.routes=true→kP p s=true from fun h1 h2 h3=>zC2 ((parts_eqW (fun _ _=>trivial)).2 ⟨h1,h2,h3⟩))
 have hq:=zV w (.cells #[.int .i64 p.ver,.int .i64 p.par,.slice A2 b2 a2,.slice A3 b3 a3,.slice A4 b4 a4,.slice A5 b5 a5] 27) (.cells #[.slice S0 Sn0 Sc0,.slice S1 Sn1 Sc1,.slice S2 Sn2 Sc2] 32)
 go_enter Tryz.func49,Tryz.ntmps49
 go_upto_region 1 with fail
 generalize (w.alloc (.cells #[.int .i64 p.ver,.int .i64 p.par,.slice A2 b2 a2,.slice A3 b3 a3,.slice A4 b4 a4,.slice A5 b5 a5] 27)).alloc (.cells #[.slice S0 Sn0 Sc0,.slice S1 Sn1 Sc1,.slice S2 Sn2 Sc2] 32)=q at hq⊢
 obtain⟨q0,q1,qb⟩:=hq
 have X:=zD0 q0
 have Y:=zD0 q1
 have BQ:=zD0 qb
 clear q0 q1 qb
 obtain⟨k0,k1,k2,k3,k4,k5⟩:=zE X.out
 obtain⟨m0,m1,m2⟩:=zC Y.out
 go_wp2_with fail
 refine(eqf_ts _ _ s.tr p.secs q ((HS0.out.below xY BQ.out).more xY BQ.out.size) ((P2.out.below zN BQ.out).more zN BQ.out.size)).mono ?_
 rintro e w1 ⟨rfl,b1⟩
 have X':=zD0 ((b1.block _ (zA X.out)).trans X.out)
 have Y':=zD0 ((b1.block _ (zA Y.out)).trans Y.out)
 have BQ':=zD0 (BQ.out.trans (b1.mono BQ.out.size))
 clear b1 k0 k1 k2 k3 k4 k5 m0 m1 m2 X Y BQ
 have X:=X'
 have Y:=Y'
 have BQ:=BQ'
 clear X' Y' BQ'
 cases e0:eqW relT s.tr p.secs with
 | false=>
  have HF:=zD0 (NO.out (by left;exact e0))
  clear NO YES e0
  go_wp2_with fail
  go_ret
  exact⟨by rw[HF.out];rfl,BQ.out⟩
 | true=>
 have E0:=zD0 e0
 clear e0
 obtain⟨k0,k1,k2,k3,k4,k5⟩:=zE X.out
 obtain⟨m0,m1,m2⟩:=zC Y.out
 go_wp2_with fail
 refine(eqf_sp _ _ s.sw p.pts w1 ((HS1.out.below zP BQ.out).more zP BQ.out.size) ((P3.out.below zM BQ.out).more zM BQ.out.size)).mono ?_
 rintro e w2 ⟨rfl,b1⟩
 have X':=zD0 ((b1.block _ (zA X.out)).trans X.out)
 have Y':=zD0 ((b1.block _ (zA Y.out)).trans Y.out)
 have BQ':=zD0 (BQ.out.trans (b1.mono BQ.out.size))
 clear b1 k0 k1 k2 k3 k4 k5 m0 m1 m2 X Y BQ
 have X:=X'
 have Y:=Y'
 have BQ:=BQ'
 clear X' Y' BQ'
 cases e1:eqW relS s.sw p.pts with
 | false=>
  have HF:=zD0 (NO.out (by right;left;exact e1))
  clear NO YES e1
  go_wp2_with fail
  go_ret
  exact⟨by rw[HF.out];rfl,BQ.out⟩
 | true=>
 have E1:=zD0 e1
 clear e1
 obtain⟨k0,k1,k2,k3,k4,k5⟩:=zE X.out
 obtain⟨m0,m1,m2⟩:=zC Y.out
 go_wp2_with fail
 refine(eqf_lr _ _ s.lk p.routes w2 ((HS2.out.below xQ BQ.out).more xQ BQ.out.size) ((P5.out.below qM BQ.out).more qM BQ.out.size)).mono ?_
 rintro e w3 ⟨rfl,b1⟩
 have X':=zD0 ((b1.block _ (zA X.out)).trans X.out)
 have Y':=zD0 ((b1.block _ (zA Y.out)).trans Y.out)
 have BQ':=zD0 (BQ.out.trans (b1.mono BQ.out.size))
 clear b1 k0 k1 k2 k3 k4 k5 m0 m1 m2 X Y BQ
 have X:=X'
 have Y:=Y'
 have BQ:=BQ'
 clear X' Y' BQ'
 cases e2:eqW relL s.lk p.routes with
 | false=>
  have HF:=zD0 (NO.out (by right;right;exact e2))
  clear NO YES e2
  go_wp2_with fail
  go_ret
  exact⟨by rw[HF.out];rfl,BQ.out⟩
 | true=>
 have E2:=zD0 e2
 clear e2
 have HF:=zD0 (YES.out E0.out E1.out E2.out)
 clear NO YES
 go_wp2_with fail
 go_ret
 exact⟨by rw[HF.out];rfl,BQ.out⟩
theorem st_eq15 {a b:qD}:a=b↔a.tr=b.tr∧a.sw=b.sw∧a.lk=b.lk:=by cases a;cases b;simp
set_option maxHeartbeats 8000000 in
theorem same15_any (v y:Value) (a b:qD) (w:World) (h:qL w w.heap.size v a) (h':qL w w.heap.size y b):
  Calls Tryz.prog 20 #[v,y] w fun e w'=>e = .returned (.bool (eqB a b))∧Below w.heap.size w w':=by
 obtain⟨_,_,_,rfl,h⟩:=h
 obtain⟨R0,Rc0,rfl,-,-⟩:=h.tr.slice
 obtain⟨Rn0,hR0⟩:=zD1 (a.tr.length)
 have HR0:Hid (jD w w.heap.size (.slice R0 Rn0 Rc0) a.tr):=zD0 (by rw[hR0];exact h.tr)
 rw[←hR0]
 clear hR0
 obtain⟨R1,Rc1,rfl,-,-⟩:=h.sw.slice
 obtain⟨Rn1,hR1⟩:=zD1 (a.sw.length)
 have HR1:Hid (xP w w.heap.size (.slice R1 Rn1 Rc1) a.sw):=zD0 (by rw[hR1];exact h.sw)
 rw[←hR1]
 clear hR1
 obtain⟨R2,Rc2,rfl,-,-⟩:=h.lk.slice
 obtain⟨Rn2,hR2⟩:=zD1 (a.lk.length)
 have HR2:Hid (xO w w.heap.size (.slice R2 Rn2 Rc2) a.lk):=zD0 (by rw[hR2];exact h.lk)
 rw[←hR2]
 clear hR2
 clear h
 obtain⟨_,_,_,rfl,h'⟩:=h'
 obtain⟨S0,Sc0,rfl,-,-⟩:=h'.tr.slice
 obtain⟨Sn0,hS0⟩:=zD1 (b.tr.length)
 have HS0:Hid (jD w w.heap.size (.slice S0 Sn0 Sc0) b.tr):=zD0 (by rw[hS0];exact h'.tr)
 rw[←hS0]
 clear hS0
 obtain⟨S1,Sc1,rfl,-,-⟩:=h'.sw.slice
 obtain⟨Sn1,hS1⟩:=zD1 (b.sw.length)
 have HS1:Hid (xP w w.heap.size (.slice S1 Sn1 Sc1) b.sw):=zD0 (by rw[hS1];exact h'.sw)
 rw[←hS1]
 clear hS1
 obtain⟨S2,Sc2,rfl,-,-⟩:=h'.lk.slice
 obtain⟨Sn2,hS2⟩:=zD1 (b.lk.length)
 have HS2:Hid (xO w w.heap.size (.slice S2 Sn2 Sc2) b.lk):=zD0 (by rw[hS2];exact h'.lk)
 rw[←hS2]
 clear hS2
 clear h'
 have NO:=zD0 (show eqB a.tr b.tr=false∨eqB a.sw b.sw=false∨eqB a.lk b.lk=false→eqB a b=false from fun h=>kF fun g=>by subst g;simp[yK] at h)
 have YES:=zD0 (show eqB a.tr b.tr=true→eqB a.sw b.sw=true→eqB a.lk b.lk=true→eqB a b=true from fun h1 h2 h3=>yK (st_eq15.2 ⟨eqB_iff.1 h1,eqB_iff.1 h2,eqB_iff.1 h3⟩))
 have hq:=zV w (.cells #[.slice R0 Rn0 Rc0,.slice R1 Rn1 Rc1,.slice R2 Rn2 Rc2] 32) (.cells #[.slice S0 Sn0 Sc0,.slice S1 Sn1 Sc1,.slice S2 Sn2 Sc2] 32)
 go_enter Tryz.func20,Tryz.ntmps20
 go_upto_region 1 with fail
 generalize (w.alloc (.cells #[.slice R0 Rn0 Rc0,.slice R1 Rn1 Rc1,.slice R2 Rn2 Rc2] 32)).alloc (.cells #[.slice S0 Sn0 Sc0,.slice S1 Sn1 Sc1,.slice S2 Sn2 Sc2] 32)=q at hq⊢
 obtain⟨q0,q1,qb⟩:=hq
 have X:=zD0 q0
 have Y:=zD0 q1
 have BQ:=zD0 qb
 clear q0 q1 qb
 obtain⟨k0,k1,k2⟩:=zC X.out
 obtain⟨m0,m1,m2⟩:=zC Y.out
 go_wp2_with fail
 refine(equal_trk _ _ a.tr b.tr q ((HR0.out.below xY BQ.out).more xY BQ.out.size) ((HS0.out.below xY BQ.out).more xY BQ.out.size)).mono ?_
 rintro e w1 ⟨rfl,b1⟩
 have X':=zD0 ((b1.block _ (zA X.out)).trans X.out)
 have Y':=zD0 ((b1.block _ (zA Y.out)).trans Y.out)
 have BQ':=zD0 (BQ.out.trans (b1.mono BQ.out.size))
 clear b1 k0 k1 k2 m0 m1 m2 X Y BQ
 have X:=X'
 have Y:=Y'
 have BQ:=BQ'
 clear X' Y' BQ'
 cases e0:eqB a.tr b.tr with
 | false=>
  have HF:=zD0 (NO.out (by left;exact e0))
  clear NO YES e0
  go_wp2_with fail
  go_ret
  exact⟨by rw[HF.out];rfl,BQ.out⟩
 | true=>
 have E0:=zD0 e0
 clear e0
 obtain⟨k0,k1,k2⟩:=zC X.out
 obtain⟨m0,m1,m2⟩:=zC Y.out
 go_wp2_with fail
 refine(equal_swi _ _ a.sw b.sw w1 ((HR1.out.below zP BQ.out).more zP BQ.out.size) ((HS1.out.below zP BQ.out).more zP BQ.out.size)).mono ?_
 rintro e w2 ⟨rfl,b1⟩
 have X':=zD0 ((b1.block _ (zA X.out)).trans X.out)
 have Y':=zD0 ((b1.block _ (zA Y.out)).trans Y.out)
 have BQ':=zD0 (BQ.out.trans (b1.mono BQ.out.size))
 clear b1 k0 k1 k2 m0 m1 m2 X Y BQ
 have X:=X'
 have Y:=Y'
 have BQ:=BQ'
 clear X' Y' BQ'
 cases e1:eqB a.sw b.sw with
 | false=>
  have HF:=zD0 (NO.out (by right;left;exact e1))
  clear NO YES e1
  go_wp2_with fail
  go_ret
  exact⟨by rw[HF.out];rfl,BQ.out⟩
 | true=>
 have E1:=zD0 e1
 clear e1
 obtain⟨k0,k1,k2⟩:=zC X.out
 obtain⟨m0,m1,m2⟩:=zC Y.out
 go_wp2_with fail
 refine(equal_lck _ _ a.lk b.lk w2 ((HR2.out.below xQ BQ.out).more xQ BQ.out.size) ((HS2.out.below xQ BQ.out).more xQ BQ.out.size)).mono ?_
 rintro e w3 ⟨rfl,b1⟩
 have X':=zD0 ((b1.block _ (zA X.out)).trans X.out)
 have Y':=zD0 ((b1.block _ (zA Y.out)).trans Y.out)
 have BQ':=zD0 (BQ.out.trans (b1.mono BQ.out.size))
 clear b1 k0 k1 k2 m0 m1 m2 X Y BQ
 have X:=X'
 have Y:=Y'
 have BQ:=BQ'
 clear X' Y' BQ'
 cases e2:eqB a.lk b.lk with
 | false=>
  have HF:=zD0 (NO.out (by right;right;exact e2))
  clear NO YES e2
  go_wp2_with fail
  go_ret
  exact⟨by rw[HF.out];rfl,BQ.out⟩
 | true=>
 have E2:=zD0 e2
 clear e2
 have HF:=zD0 (YES.out E0.out E1.out E2.out)
 clear NO YES
 go_wp2_with fail
 go_ret
 exact⟨by rw[HF.out];rfl,BQ.out⟩
theorem map_eqW {α β γ:Type} [DecidableEq γ] {f:α→γ} {g:β→γ} {rel:α→β→Bool} (hr:∀x y,rel x y=true↔f x=g y) (l:List α) (m:List β):eqW rel l m=true↔l.map f=m.map g:=by
 rw[zCq]
 constructor
 ·rintro⟨h1,h2⟩
  refine List.ext_getElem (by simp[h1]) fun i h3 h4=>?_
  rw[List.getElem_map,List.getElem_map]
  exact(hr _ _).1 (h2 i (by simpa using h3) (by simpa using h4))
 ·intro h
  have hl:l.length=m.length:=by simpa using congrArg List.length h
  refine⟨hl,fun i h1 h2=>(hr _ _).2 ?_⟩
  have:(l.map f)[i]'(by simpa using h1)=(m.map g)[i]'(by simpa using h2):=by simp only[h]
  simpa using this
theorem kept_eqW (a b:qD):keptS a=keptS b↔eqW zAg a.sw b.sw=true∧eqW yL a.lk b.lk=true:=by
 rw[map_eqW (f:=fun x:Swi=>(x.1,x.2.2)) (g:=fun x:Swi=>(x.1,x.2.2)) (fun x y=>by simp[zAg]),map_eqW (f:=fun x:Lck=>(x.1,x.2.1,x.2.2.1)) (g:=fun x:Lck=>(x.1,x.2.1,x.2.2.1)) (fun x y=>by simp[yL,and_assoc])]
 unfold keptS
 exact Prod.ext_iff
set_option maxHeartbeats 8000000 in
theorem kept15_any (v y:Value) (a b:qD) (w:World) (h:qL w w.heap.size v a) (h':qL w w.heap.size y b):
  Calls Tryz.prog 21 #[v,y] w fun e w'=>e = .returned (.bool (eqB (keptS a) (keptS b)))∧Below w.heap.size w w':=by
 obtain⟨_,_,_,rfl,h⟩:=h
 obtain⟨R0,Rc0,rfl,-,-⟩:=h.tr.slice
 obtain⟨Rn0,hR0⟩:=zD1 (a.tr.length)
 have HR0:Hid (jD w w.heap.size (.slice R0 Rn0 Rc0) a.tr):=zD0 (by rw[hR0];exact h.tr)
 rw[←hR0]
 clear hR0
 obtain⟨R1,Rc1,rfl,-,-⟩:=h.sw.slice
 obtain⟨Rn1,hR1⟩:=zD1 (a.sw.length)
 have HR1:Hid (xP w w.heap.size (.slice R1 Rn1 Rc1) a.sw):=zD0 (by rw[hR1];exact h.sw)
 rw[←hR1]
 clear hR1
 obtain⟨R2,Rc2,rfl,-,-⟩:=h.lk.slice
 obtain⟨Rn2,hR2⟩:=zD1 (a.lk.length)
 have HR2:Hid (xO w w.heap.size (.slice R2 Rn2 Rc2) a.lk):=zD0 (by rw[hR2];exact h.lk)
 rw[←hR2]
 clear hR2
 clear h
 obtain⟨_,_,_,rfl,h'⟩:=h'
 obtain⟨S0,Sc0,rfl,-,-⟩:=h'.tr.slice
 obtain⟨Sn0,hS0⟩:=zD1 (b.tr.length)
 have HS0:Hid (jD w w.heap.size (.slice S0 Sn0 Sc0) b.tr):=zD0 (by rw[hS0];exact h'.tr)
 rw[←hS0]
 clear hS0
 obtain⟨S1,Sc1,rfl,-,-⟩:=h'.sw.slice
 obtain⟨Sn1,hS1⟩:=zD1 (b.sw.length)
 have HS1:Hid (xP w w.heap.size (.slice S1 Sn1 Sc1) b.sw):=zD0 (by rw[hS1];exact h'.sw)
 rw[←hS1]
 clear hS1
 obtain⟨S2,Sc2,rfl,-,-⟩:=h'.lk.slice
 obtain⟨Sn2,hS2⟩:=zD1 (b.lk.length)
 have HS2:Hid (xO w w.heap.size (.slice S2 Sn2 Sc2) b.lk):=zD0 (by rw[hS2];exact h'.lk)
 rw[←hS2]
 clear hS2
 clear h'
 have NO:=zD0 (show eqW zAg a.sw b.sw=false∨eqW yL a.lk b.lk=false→eqB (keptS a) (keptS b)=false from fun h=>kF fun g=>by obtain⟨g1,g2⟩:=(kept_eqW a b).1 g;rw[g1,g2] at h;simp at h)
 have YES:=zD0 (show eqW zAg a.sw b.sw=true→eqW yL a.lk b.lk=true→eqB (keptS a) (keptS b)=true from fun h1 h2=>yK ((kept_eqW a b).2 ⟨h1,h2⟩))
 have hq:=zV w (.cells #[.slice R0 Rn0 Rc0,.slice R1 Rn1 Rc1,.slice R2 Rn2 Rc2] 32) (.cells #[.slice S0 Sn0 Sc0,.slice S1 Sn1 Sc1,.slice S2 Sn2 Sc2] 32)
 go_enter Tryz.func21,Tryz.ntmps21
 go_upto_region 1 with fail
 generalize (w.alloc (.cells #[.slice R0 Rn0 Rc0,.slice R1 Rn1 Rc1,.slice R2 Rn2 Rc2] 32)).alloc (.cells #[.slice S0 Sn0 Sc0,.slice S1 Sn1 Sc1,.slice S2 Sn2 Sc2] 32)=q at hq⊢
 obtain⟨q0,q1,qb⟩:=hq
 have X:=zD0 q0
 have Y:=zD0 q1
 have BQ:=zD0 qb
 clear q0 q1 qb
 obtain⟨k0,k1,k2⟩:=zC X.out
 obtain⟨m0,m1,m2⟩:=zC Y.out
 go_wp2_with fail
 refine(eqf_ks _ _ a.sw b.sw q ((HR1.out.below zP BQ.out).more zP BQ.out.size) ((HS1.out.below zP BQ.out).more zP BQ.out.size)).mono ?_
 rintro e w1 ⟨rfl,b1⟩
 have X':=zD0 ((b1.block _ (zA X.out)).trans X.out)
 have Y':=zD0 ((b1.block _ (zA Y.out)).trans Y.out)
 have BQ':=zD0 (BQ.out.trans (b1.mono BQ.out.size))
 clear b1 k0 k1 k2 m0 m1 m2 X Y BQ
 have X:=X'
 have Y:=Y'
 have BQ:=BQ'
 clear X' Y' BQ'
 cases e0:eqW zAg a.sw b.sw with
 | false=>
  have HF:=zD0 (NO.out (by left;exact e0))
  clear NO YES e0
  go_wp2_with fail
  go_ret
  exact⟨by rw[HF.out];rfl,BQ.out⟩
 | true=>
 have E0:=zD0 e0
 clear e0
 obtain⟨k0,k1,k2⟩:=zC X.out
 obtain⟨m0,m1,m2⟩:=zC Y.out
 go_wp2_with fail
 refine(eqf_kl _ _ a.lk b.lk w1 ((HR2.out.below xQ BQ.out).more xQ BQ.out.size) ((HS2.out.below xQ BQ.out).more xQ BQ.out.size)).mono ?_
 rintro e w2 ⟨rfl,b1⟩
 have X':=zD0 ((b1.block _ (zA X.out)).trans X.out)
 have Y':=zD0 ((b1.block _ (zA Y.out)).trans Y.out)
 have BQ':=zD0 (BQ.out.trans (b1.mono BQ.out.size))
 clear b1 k0 k1 k2 m0 m1 m2 X Y BQ
 have X:=X'
 have Y:=Y'
 have BQ:=BQ'
 clear X' Y' BQ'
 cases e1:eqW yL a.lk b.lk with
 | false=>
  have HF:=zD0 (NO.out (by right;exact e1))
  clear NO YES e1
  go_wp2_with fail
  go_ret
  exact⟨by rw[HF.out];rfl,BQ.out⟩
 | true=>
 have E1:=zD0 e1
 clear e1
 have HF:=zD0 (YES.out E0.out E1.out)
 clear NO YES
 go_wp2_with fail
 go_ret
 exact⟨by rw[HF.out];rfl,BQ.out⟩
end Go.Proofs.YtemmgmjhomgbbaaGreat
