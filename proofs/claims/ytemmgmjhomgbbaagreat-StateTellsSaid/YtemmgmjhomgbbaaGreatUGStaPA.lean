/-
 The program's package state: lists of tracks, of switches, of locks: compared, cloned.
 Conditions: none.
-/
import Derived.Test.YtemmgmjhomgbbaaGreatUGStaMem
import Derived.Test.YtemmgmjhomgbbaaGreatUGWayM
import Derived.Test.YtemmgmjhomgbbaaGreatUGPlnRefB
import Derived.Test.YtemmgmjhomgbbaaGreatUPlnP3
import Derived.Test.YtemmgmjhomgbbaaGreatUGStaO
import Derived.Test.YtemmgmjhomgbbaaGreatUPlnP4
set_option linter.unusedVariables false
set_option linter.unusedSimpArgs false
set_option maxRecDepth 100000
namespace Go.Proofs.YtemmgmjhomgbbaaGreat
open Go.RowKit
theorem eq_trk (a b c d:Int) (w:World):(Op.equalIn 10000 51 (.agg #[.int .i64 a,.int .u8 b]) (.agg #[.int .i64 c,.int .u8 d])).run Tryz.prog w = .ok ((a==c)&&(b==d)) w:=by
 have hagg:(isAgg 3).run Tryz.prog w = .ok false w:=by
  unfold isAgg
  rw[Sem.run_bind,run_underlying Tryz.underlying3 w]
  simp
 have hagg8:(isAgg 5).run Tryz.prog w = .ok false w:=by
  unfold isAgg
  rw[Sem.run_bind,run_underlying Tryz.underlying5 w]
  simp
 rw[run_equalIn_agg w 9999 51 _ _ (by rw[Program.fieldsOf,Tryz.underlying51]) (by kernel_rfl)]
 simp only[Program.fieldsOf,Tryz.underlying51,Op.eqFields]
 have hi:∀x y:Int,(Op.equalIn 9999 3 (.int .i64 x) (.int .i64 y)).run Tryz.prog w = .ok (x==y) w:=fun x y=>run_equalIn_int w 9998 3 .i64 .i64 x y Tryz.underlying3
 have h8:∀x y:Int,(Op.equalIn 9999 5 (.int .u8 x) (.int .u8 y)).run Tryz.prog w = .ok (x==y) w:=fun x y=>run_equalIn_int w 9998 5 .u8 .u8 x y Tryz.underlying5
 by_cases h0:a=c<;>by_cases h1:b=d<;>simp[part,Sem.run_bind,Sem.run_ite,hagg,hi,hagg8,h8,h0,h1]
theorem eq_trk_ne {x y:Trk} (h:¬x=y) (w:World):(Op.equalIn 10000 51 (.agg #[.int .i64 x.1,.int .u8 x.2]) (.agg #[.int .i64 y.1,.int .u8 y.2])).run Tryz.prog w = .ok false w:=by
 rw[eq_trk]
 congr 1
 by_cases h0:x.1=y.1
 ·have h1:¬x.2=y.2:=fun h1=>h (Prod.ext h0 h1)
  simp[h1]
 ·simp[h0]
theorem eq_trk_eq {x y:Trk} (h:x=y) (w:World):(Op.equalIn 10000 51 (.agg #[.int .i64 x.1,.int .u8 x.2]) (.agg #[.int .i64 y.1,.int .u8 y.2])).run Tryz.prog w = .ok true w:=by
 rw[eq_trk,h];simp
set_option maxHeartbeats 4000000 in
theorem equal_trk (v y:Value) (l m:List Trk) (w:World) (h:jD w w.heap.size v l) (h':jD w w.heap.size y m):
  Calls Tryz.prog 37 #[v,y] w fun e w'=>e = .returned (.bool (eqB l m))∧Below w.heap.size w w':=by
 have H:=zD0 h
 have H':=zD0 h'
 obtain⟨A,c,rfl,hcl,hcm⟩:=h.slice
 obtain⟨A',c',rfl,hcl',hcm'⟩:=h'.slice
 have hml:l.length≤9223372036854775807:=by unfold maxLen at hcm;omega
 obtain⟨n,hn⟩:=zD1 (l.length)
 obtain⟨n',hn'⟩:∃n',n'=m.length:=⟨_,rfl⟩
 have HN:=zD0 hn
 have HN':=zD0 hn'
 have HA:=zD0 (show jD w w.heap.size (.slice A n c) l by rw[hn];exact H.out)
 have HA':=zD0 (show jD w w.heap.size (.slice A' n' c') m by rw[hn'];exact H'.out)
 have hml':n'≤9223372036854775807:=by unfold maxLen at hcm';omega
 rw[←hn] at hml⊢
 rw[←hn']
 clear hn hn' H H' hcl hcm hcl' hcm' h h'
 go_enter Tryz.func37,Tryz.ntmps37
 by_cases hnn:n=n'
 ·subst hnn
  go_wp2_with fail
  go_loopw [13] (fun s13 wr=>∃i:Nat,i≤n∧s13 = .int .i64 i∧(∀j (hj:j<i) (hl:j<l.length) (hm:j<m.length),l[j]=m[j])∧Below w.heap.size w wr) (fun s13 _=>n-(intOf s13).toNat)
  case atStart=>exact⟨0,by omega,by go_num,fun j hj=>absurd hj (by omega),Below.refl _ _⟩
  case round=>
   obtain⟨i,hi,rfl,hall,hbw⟩:=hrel
   have HALL:=zD0 hall
   have BW:=zD0 hbw
   clear hall hbw
   by_cases hlt:i<n
   ·have hlt':(i:Int)<n:=by omega
    have hir:i<l.length:=by rw[←HN.out];exact hlt
    have him:i<m.length:=by rw[←HN'.out];exact hlt
    obtain⟨b,off,rfl,hb,hc0,hc1,-,-⟩:=((HA.out.below xY BW.out).more xY BW.out.size).at hir
    obtain⟨b',off',rfl,hb',hd0,hd1,-,-⟩:=((HA'.out.below xY BW.out).more xY BW.out.size).at him
    obtain⟨x,hx⟩:=zD1 (l[i])
    obtain⟨y,hy⟩:=zD1 (m[i])
    rw[←hx] at hc0 hc1
    rw[←hy] at hd0 hd1
    have hg0:wr.cell? ⟨b,off+i*2,none⟩=some (.int .i64 x.1):=hc0
    have hh0:wr.cell? ⟨b',off'+i*2,none⟩=some (.int .i64 y.1):=hd0
    have hg1:wr.cell? ⟨b,off+i*2+1,none⟩=some (.int .u8 x.2):=hc1
    have hh1:wr.cell? ⟨b',off'+i*2+1,none⟩=some (.int .u8 y.2):=hd1
    have HX:=zD0 hx
    have HY:=zD0 hy
    clear hc0 hc1 hd0 hd1 hx hy hb hb'
    have BD:Hid (∀nq,Below w.heap.size w (wr.drewN nq)):=zD0 (fun nq=>⟨BW.out.os,BW.out.tape,BW.out.output,BW.out.size,BW.out.block⟩)
    go_upto_region 6 with fail
    by_cases he:x=y
    ·have hcmp:∀w':World,(Op.equalIn 10000 51 (.agg #[.int .i64 x.1,.int .u8 x.2]) (.agg #[.int .i64 y.1,.int .u8 y.2])).run Tryz.prog w' = .ok true w':=eq_trk_eq he
     have NX:Hid (∀j (hj:j<i+1) (hl:j<l.length) (hm:j<m.length),l[j]=m[j]):=zD0 (fun j hj h1 h2=>by
      rcases Nat.lt_or_ge j i with h|h
      ·exact HALL.out j h h1 h2
      ·obtain rfl:j=i:=by omega
       rw[←HX.out,←HY.out];exact he)
     clear he
     go_quiet (fail)
     have hdb:=BD.out nq
     generalize wr.drewN nq=q7 at hdb⊢
     have B7:=zD0 hdb
     clear hdb BD hcmp hg0 hh0 hg1 hh1
     go_wp2_with fail
     go_roundw
     case measure=>simp[intOf];omega
     case rel=>exact⟨i+1,by omega,by go_num,NX.out,B7.out⟩
    ·have hcmp:∀w':World,(Op.equalIn 10000 51 (.agg #[.int .i64 x.1,.int .u8 x.2]) (.agg #[.int .i64 y.1,.int .u8 y.2])).run Tryz.prog w' = .ok false w':=eq_trk_ne he
     have HF:Hid (eqB l m=false):=zD0 (kF fun h=>he (by rw[HX.out,HY.out];exact getElem_congr' h))
     clear he
     go_quiet (fail)
     have hdb:=BD.out nq
     generalize wr.drewN nq=q7 at hdb⊢
     have B7:=zD0 hdb
     clear hdb BD hcmp hg0 hh0 hg1 hh1
     go_wp2_with fail
     go_ret
     exact⟨by rw[HF.out];rfl,B7.out⟩
   ·obtain rfl:i=n:=by omega
    have hlt':¬(i:Int)<i:=by omega
    have HF:Hid (eqB l m=true):=zD0 (yK (zCo (by rw[←HN.out,←HN'.out]) fun j h1 h2=>HALL.out j (by rw[HN.out];exact h1) h1 h2))
    go_wp2_with fail
    go_ret
    exact⟨by rw[HF.out];rfl,BW.out⟩
 ·have hnn':((n:Int) != n')=true:=by simpa using(show¬(n:Int)=n' by omega)
  have HF:Hid (eqB l m=false):=zD0 (kF fun h=>hnn (by rw[HN.out,HN'.out,h]))
  clear hnn
  go_wp2_with fail
  go_ret
  exact⟨by rw[HF.out];rfl,Below.refl _ _⟩
theorem eq_swi (a b c d e f:Int) (w:World):(Op.equalIn 10000 55 (.agg #[.int .i64 a,.int .i64 b,.int .i64 c]) (.agg #[.int .i64 d,.int .i64 e,.int .i64 f])).run Tryz.prog w = .ok ((a==d)&&((b==e)&&(c==f))) w:=by
 have hagg:(isAgg 3).run Tryz.prog w = .ok false w:=by
  unfold isAgg
  rw[Sem.run_bind,run_underlying Tryz.underlying3 w]
  simp
 rw[run_equalIn_agg w 9999 55 _ _ (by rw[Program.fieldsOf,Tryz.underlying55]) (by kernel_rfl)]
 simp only[Program.fieldsOf,Tryz.underlying55,Op.eqFields]
 have hi:∀x y:Int,(Op.equalIn 9999 3 (.int .i64 x) (.int .i64 y)).run Tryz.prog w = .ok (x==y) w:=fun x y=>run_equalIn_int w 9998 3 .i64 .i64 x y Tryz.underlying3
 by_cases h0:a=d<;>by_cases h1:b=e<;>by_cases h2:c=f<;>simp[part,Sem.run_bind,Sem.run_ite,hagg,hi,h0,h1,h2]
theorem eq_swi_ne {x y:Swi} (h:¬x=y) (w:World):(Op.equalIn 10000 55 (.agg #[.int .i64 x.1,.int .i64 x.2.1,.int .i64 x.2.2]) (.agg #[.int .i64 y.1,.int .i64 y.2.1,.int .i64 y.2.2])).run Tryz.prog w = .ok false w:=by
 rw[eq_swi]
 congr 1
 by_cases h0:x.1=y.1
 ·by_cases h1:x.2.1=y.2.1
  ·have h2:¬x.2.2=y.2.2:=fun h2=>h (Prod.ext h0 (Prod.ext h1 h2))
   simp[h2]
  ·simp[h1]
 ·simp[h0]
theorem eq_swi_eq {x y:Swi} (h:x=y) (w:World):(Op.equalIn 10000 55 (.agg #[.int .i64 x.1,.int .i64 x.2.1,.int .i64 x.2.2]) (.agg #[.int .i64 y.1,.int .i64 y.2.1,.int .i64 y.2.2])).run Tryz.prog w = .ok true w:=by
 rw[eq_swi,h];simp
set_option maxHeartbeats 4000000 in
theorem equal_swi (v y:Value) (l m:List Swi) (w:World) (h:xP w w.heap.size v l) (h':xP w w.heap.size y m):
  Calls Tryz.prog 38 #[v,y] w fun e w'=>e = .returned (.bool (eqB l m))∧Below w.heap.size w w':=by
 have H:=zD0 h
 have H':=zD0 h'
 obtain⟨A,c,rfl,hcl,hcm⟩:=h.slice
 obtain⟨A',c',rfl,hcl',hcm'⟩:=h'.slice
 have hml:l.length≤9223372036854775807:=by unfold maxLen at hcm;omega
 obtain⟨n,hn⟩:=zD1 (l.length)
 obtain⟨n',hn'⟩:∃n',n'=m.length:=⟨_,rfl⟩
 have HN:=zD0 hn
 have HN':=zD0 hn'
 have HA:=zD0 (show xP w w.heap.size (.slice A n c) l by rw[hn];exact H.out)
 have HA':=zD0 (show xP w w.heap.size (.slice A' n' c') m by rw[hn'];exact H'.out)
 have hml':n'≤9223372036854775807:=by unfold maxLen at hcm';omega
 rw[←hn] at hml⊢
 rw[←hn']
 clear hn hn' H H' hcl hcm hcl' hcm' h h'
 go_enter Tryz.func38,Tryz.ntmps38
 by_cases hnn:n=n'
 ·subst hnn
  go_wp2_with fail
  go_loopw [13] (fun s13 wr=>∃i:Nat,i≤n∧s13 = .int .i64 i∧(∀j (hj:j<i) (hl:j<l.length) (hm:j<m.length),l[j]=m[j])∧Below w.heap.size w wr) (fun s13 _=>n-(intOf s13).toNat)
  case atStart=>exact⟨0,by omega,by go_num,fun j hj=>absurd hj (by omega),Below.refl _ _⟩
  case round=>
   obtain⟨i,hi,rfl,hall,hbw⟩:=hrel
   have HALL:=zD0 hall
   have BW:=zD0 hbw
   clear hall hbw
   by_cases hlt:i<n
   ·have hlt':(i:Int)<n:=by omega
    have hir:i<l.length:=by rw[←HN.out];exact hlt
    have him:i<m.length:=by rw[←HN'.out];exact hlt
    obtain⟨b,off,rfl,hb,hc0,hc1,hc2⟩:=((HA.out.below zP BW.out).more zP BW.out.size).at hir
    obtain⟨b',off',rfl,hb',hd0,hd1,hd2⟩:=((HA'.out.below zP BW.out).more zP BW.out.size).at him
    obtain⟨x,hx⟩:=zD1 (l[i])
    obtain⟨y,hy⟩:=zD1 (m[i])
    rw[←hx] at hc0 hc1 hc2
    rw[←hy] at hd0 hd1 hd2
    have hg0:wr.cell? ⟨b,off+i*3,none⟩=some (.int .i64 x.1):=hc0
    have hh0:wr.cell? ⟨b',off'+i*3,none⟩=some (.int .i64 y.1):=hd0
    have hg1:wr.cell? ⟨b,off+i*3+1,none⟩=some (.int .i64 x.2.1):=hc1
    have hh1:wr.cell? ⟨b',off'+i*3+1,none⟩=some (.int .i64 y.2.1):=hd1
    have hg2:wr.cell? ⟨b,off+i*3+2,none⟩=some (.int .i64 x.2.2):=hc2
    have hh2:wr.cell? ⟨b',off'+i*3+2,none⟩=some (.int .i64 y.2.2):=hd2
    have HX:=zD0 hx
    have HY:=zD0 hy
    clear hc0 hc1 hc2 hd0 hd1 hd2 hx hy hb hb'
    have BD:Hid (∀nq,Below w.heap.size w (wr.drewN nq)):=zD0 (fun nq=>⟨BW.out.os,BW.out.tape,BW.out.output,BW.out.size,BW.out.block⟩)
    go_upto_region 6 with fail
    by_cases he:x=y
    ·have hcmp:∀w':World,(Op.equalIn 10000 55 (.agg #[.int .i64 x.1,.int .i64 x.2.1,.int .i64 x.2.2]) (.agg #[.int .i64 y.1,.int .i64 y.2.1,.int .i64 y.2.2])).run Tryz.prog w' = .ok true w':=eq_swi_eq he
     have NX:Hid (∀j (hj:j<i+1) (hl:j<l.length) (hm:j<m.length),l[j]=m[j]):=zD0 (fun j hj h1 h2=>by
      rcases Nat.lt_or_ge j i with h|h
      ·exact HALL.out j h h1 h2
      ·obtain rfl:j=i:=by omega
       rw[←HX.out,←HY.out];exact he)
     clear he
     go_quiet (fail)
     have hdb:=BD.out nq
     generalize wr.drewN nq=q7 at hdb⊢
     have B7:=zD0 hdb
     clear hdb BD hcmp hg0 hh0 hg1 hh1 hg2 hh2
     go_wp2_with fail
     go_roundw
     case measure=>simp[intOf];omega
     case rel=>exact⟨i+1,by omega,by go_num,NX.out,B7.out⟩
    ·have hcmp:∀w':World,(Op.equalIn 10000 55 (.agg #[.int .i64 x.1,.int .i64 x.2.1,.int .i64 x.2.2]) (.agg #[.int .i64 y.1,.int .i64 y.2.1,.int .i64 y.2.2])).run Tryz.prog w' = .ok false w':=eq_swi_ne he
     have HF:Hid (eqB l m=false):=zD0 (kF fun h=>he (by rw[HX.out,HY.out];exact getElem_congr' h))
     clear he
     go_quiet (fail)
     have hdb:=BD.out nq
     generalize wr.drewN nq=q7 at hdb⊢
     have B7:=zD0 hdb
     clear hdb BD hcmp hg0 hh0 hg1 hh1 hg2 hh2
     go_wp2_with fail
     go_ret
     exact⟨by rw[HF.out];rfl,B7.out⟩
   ·obtain rfl:i=n:=by omega
    have hlt':¬(i:Int)<i:=by omega
    have HF:Hid (eqB l m=true):=zD0 (yK (zCo (by rw[←HN.out,←HN'.out]) fun j h1 h2=>HALL.out j (by rw[HN.out];exact h1) h1 h2))
    go_wp2_with fail
    go_ret
    exact⟨by rw[HF.out];rfl,BW.out⟩
 ·have hnn':((n:Int) != n')=true:=by simpa using(show¬(n:Int)=n' by omega)
  have HF:Hid (eqB l m=false):=zD0 (kF fun h=>hnn (by rw[HN.out,HN'.out,h]))
  clear hnn
  go_wp2_with fail
  go_ret
  exact⟨by rw[HF.out];rfl,Below.refl _ _⟩
theorem eq_lck (a b c d e f g h:Int) (w:World):(Op.equalIn 10000 53 (.agg #[.int .i64 a,.int .u8 b,.int .i64 c,.int .i64 d]) (.agg #[.int .i64 e,.int .u8 f,.int .i64 g,.int .i64 h])).run Tryz.prog w = .ok ((a==e)&&((b==f)&&((c==g)&&(d==h)))) w:=by
 have hagg:(isAgg 3).run Tryz.prog w = .ok false w:=by
  unfold isAgg
  rw[Sem.run_bind,run_underlying Tryz.underlying3 w]
  simp
 have hagg8:(isAgg 5).run Tryz.prog w = .ok false w:=by
  unfold isAgg
  rw[Sem.run_bind,run_underlying Tryz.underlying5 w]
  simp
 rw[run_equalIn_agg w 9999 53 _ _ (by rw[Program.fieldsOf,Tryz.underlying53]) (by kernel_rfl)]
 simp only[Program.fieldsOf,Tryz.underlying53,Op.eqFields]
 have hi:∀x y:Int,(Op.equalIn 9999 3 (.int .i64 x) (.int .i64 y)).run Tryz.prog w = .ok (x==y) w:=fun x y=>run_equalIn_int w 9998 3 .i64 .i64 x y Tryz.underlying3
 have h8:∀x y:Int,(Op.equalIn 9999 5 (.int .u8 x) (.int .u8 y)).run Tryz.prog w = .ok (x==y) w:=fun x y=>run_equalIn_int w 9998 5 .u8 .u8 x y Tryz.underlying5
 by_cases h0:a=e<;>by_cases h1:b=f<;>by_cases h2:c=g<;>by_cases h3:d=h<;>simp[part,Sem.run_bind,Sem.run_ite,hagg,hi,hagg8,h8,h0,h1,h2,h3]
theorem eq_lck_ne {x y:Lck} (h:¬x=y) (w:World):(Op.equalIn 10000 53 (.agg #[.int .i64 x.1,.int .u8 x.2.1,.int .i64 x.2.2.1,.int .i64 x.2.2.2]) (.agg #[.int .i64 y.1,.int .u8 y.2.1,.int .i64 y.2.2.1,.int .i64 y.2.2.2])).run Tryz.prog w = .ok false w:=by
 rw[eq_lck]
 congr 1
 by_cases h0:x.1=y.1
 ·by_cases h1:x.2.1=y.2.1
  ·by_cases h2:x.2.2.1=y.2.2.1
   ·have h3:¬x.2.2.2=y.2.2.2:=fun h3=>h (Prod.ext h0 (Prod.ext h1 (Prod.ext h2 h3)))
    simp[h3]
   ·simp[h2]
  ·simp[h1]
 ·simp[h0]
theorem eq_lck_eq {x y:Lck} (h:x=y) (w:World):(Op.equalIn 10000 53 (.agg #[.int .i64 x.1,.int .u8 x.2.1,.int .i64 x.2.2.1,.int .i64 x.2.2.2]) (.agg #[.int .i64 y.1,.int .u8 y.2.1,.int .i64 y.2.2.1,.int .i64 y.2.2.2])).run Tryz.prog w = .ok true w:=by
 rw[eq_lck,h];simp
set_option maxHeartbeats 4000000 in
theorem equal_lck (v y:Value) (l m:List Lck) (w:World) (h:xO w w.heap.size v l) (h':xO w w.heap.size y m):
  Calls Tryz.prog 39 #[v,y] w fun e w'=>e = .returned (.bool (eqB l m))∧Below w.heap.size w w':=by
 have H:=zD0 h
 have H':=zD0 h'
 obtain⟨A,c,rfl,hcl,hcm⟩:=h.slice
 obtain⟨A',c',rfl,hcl',hcm'⟩:=h'.slice
 have hml:l.length≤9223372036854775807:=by unfold maxLen at hcm;omega
 obtain⟨n,hn⟩:=zD1 (l.length)
 obtain⟨n',hn'⟩:∃n',n'=m.length:=⟨_,rfl⟩
 have HN:=zD0 hn
 have HN':=zD0 hn'
 have HA:=zD0 (show xO w w.heap.size (.slice A n c) l by rw[hn];exact H.out)
 have HA':=zD0 (show xO w w.heap.size (.slice A' n' c') m by rw[hn'];exact H'.out)
 have hml':n'≤9223372036854775807:=by unfold maxLen at hcm';omega
 rw[←hn] at hml⊢
 rw[←hn']
 clear hn hn' H H' hcl hcm hcl' hcm' h h'
 go_enter Tryz.func39,Tryz.ntmps39
 by_cases hnn:n=n'
 ·subst hnn
  go_wp2_with fail
  go_loopw [13] (fun s13 wr=>∃i:Nat,i≤n∧s13 = .int .i64 i∧(∀j (hj:j<i) (hl:j<l.length) (hm:j<m.length),l[j]=m[j])∧Below w.heap.size w wr) (fun s13 _=>n-(intOf s13).toNat)
  case atStart=>exact⟨0,by omega,by go_num,fun j hj=>absurd hj (by omega),Below.refl _ _⟩
  case round=>
   obtain⟨i,hi,rfl,hall,hbw⟩:=hrel
   have HALL:=zD0 hall
   have BW:=zD0 hbw
   clear hall hbw
   by_cases hlt:i<n
   ·have hlt':(i:Int)<n:=by omega
    have hir:i<l.length:=by rw[←HN.out];exact hlt
    have him:i<m.length:=by rw[←HN'.out];exact hlt
    obtain⟨b,off,rfl,hb,hc0,hc1,hc2,hc3,-,-⟩:=((HA.out.below xQ BW.out).more xQ BW.out.size).at hir
    obtain⟨b',off',rfl,hb',hd0,hd1,hd2,hd3,-,-⟩:=((HA'.out.below xQ BW.out).more xQ BW.out.size).at him
    obtain⟨x,hx⟩:=zD1 (l[i])
    obtain⟨y,hy⟩:=zD1 (m[i])
    rw[←hx] at hc0 hc1 hc2 hc3
    rw[←hy] at hd0 hd1 hd2 hd3
    have hg0:wr.cell? ⟨b,off+i*4,none⟩=some (.int .i64 x.1):=hc0
    have hh0:wr.cell? ⟨b',off'+i*4,none⟩=some (.int .i64 y.1):=hd0
    have hg1:wr.cell? ⟨b,off+i*4+1,none⟩=some (.int .u8 x.2.1):=hc1
    have hh1:wr.cell? ⟨b',off'+i*4+1,none⟩=some (.int .u8 y.2.1):=hd1
    have hg2:wr.cell? ⟨b,off+i*4+2,none⟩=some (.int .i64 x.2.2.1):=hc2
    have hh2:wr.cell? ⟨b',off'+i*4+2,none⟩=some (.int .i64 y.2.2.1):=hd2
    have hg3:wr.cell? ⟨b,off+i*4+3,none⟩=some (.int .i64 x.2.2.2):=hc3
    have hh3:wr.cell? ⟨b',off'+i*4+3,none⟩=some (.int .i64 y.2.2.2):=hd3
    have HX:=zD0 hx
    have HY:=zD0 hy
    clear hc0 hc1 hc2 hc3 hd0 hd1 hd2 hd3 hx hy hb hb'
    have BD:Hid (∀nq,Below w.heap.size w (wr.drewN nq)):=zD0 (fun nq=>⟨BW.out.os,BW.out.tape,BW.out.output,BW.out.size,BW.out.block⟩)
    go_upto_region 6 with fail
    by_cases he:x=y
    ·have hcmp:∀w':World,(Op.equalIn 10000 53 (.agg #[.int .i64 x.1,.int .u8 x.2.1,.int .i64 x.2.2.1,.int .i64 x.2.2.2]) (.agg #[.int .i64 y.1,.int .u8 y.2.1,.int .i64 y.2.2.1,.int .i64 y.2.2.2])).run Tryz.prog w' = .ok true w':=eq_lck_eq he
     have NX:Hid (∀j (hj:j<i+1) (hl:j<l.length) (hm:j<m.length),l[j]=m[j]):=zD0 (fun j hj h1 h2=>by
      rcases Nat.lt_or_ge j i with h|h
      ·exact HALL.out j h h1 h2
      ·obtain rfl:j=i:=by omega
       rw[←HX.out,←HY.out];exact he)
     clear he
     go_quiet (fail)
     have hdb:=BD.out nq
     generalize wr.drewN nq=q7 at hdb⊢
     have B7:=zD0 hdb
     clear hdb BD hcmp hg0 hh0 hg1 hh1 hg2 hh2 hg3 hh3
     go_wp2_with fail
     go_roundw
     case measure=>simp[intOf];omega
     case rel=>exact⟨i+1,by omega,by go_num,NX.out,B7.out⟩
    ·have hcmp:∀w':World,(Op.equalIn 10000 53 (.agg #[.int .i64 x.1,.int .u8 x.2.1,.int .i64 x.2.2.1,.int .i64 x.2.2.2]) (.agg #[.int .i64 y.1,.int .u8 y.2.1,.int .i64 y.2.2.1,.int .i64 y.2.2.2])).run Tryz.prog w' = .ok false w':=eq_lck_ne he
     have HF:Hid (eqB l m=false):=zD0 (kF fun h=>he (by rw[HX.out,HY.out];exact getElem_congr' h))
     clear he
     go_quiet (fail)
     have hdb:=BD.out nq
     generalize wr.drewN nq=q7 at hdb⊢
     have B7:=zD0 hdb
     clear hdb BD hcmp hg0 hh0 hg1 hh1 hg2 hh2 hg3 hh3
     go_wp2_with fail
     go_ret
     exact⟨by rw[HF.out];rfl,B7.out⟩
   ·obtain rfl:i=n:=by omega
    have hlt':¬(i:Int)<i:=by omega
    have HF:Hid (eqB l m=true):=zD0 (yK (zCo (by rw[←HN.out,←HN'.out]) fun j h1 h2=>HALL.out j (by rw[HN.out];exact h1) h1 h2))
    go_wp2_with fail
    go_ret
    exact⟨by rw[HF.out];rfl,BW.out⟩
 ·have hnn':((n:Int) != n')=true:=by simpa using(show¬(n:Int)=n' by omega)
  have HF:Hid (eqB l m=false):=zD0 (kF fun h=>hnn (by rw[HN.out,HN'.out,h]))
  clear hnn
  go_wp2_with fail
  go_ret
  exact⟨by rw[HF.out];rfl,Below.refl _ _⟩
theorem info_trk:(Tryz.prog.info? 51).map (fun i=>(i.zero,i.size,i.bytes))=some (some (.agg #[.int .i64 0,.int .u8 0]),2,16):=by kernel_rfl
set_option maxHeartbeats 4000000 in
theorem clone_trk (v:Value) (l:List Trk) (w:World) (h:jD w w.heap.size v l) (hl:l.length≤1000):
  Calls Tryz.prog 55 #[v] w fun e w'=>∃u,e = .returned u∧vY w' w.heap.size u l∧Below w.heap.size w w':=by
 have H:=zD0 h
 have HLEN:=zD0 hl
 obtain⟨A,cap,rfl,-,-,hn,-⟩:=h
 cases A with
 | none=>
  obtain rfl:=hn rfl
  have hx:l=[]:=by obtain⟨A',c',e,h1,_⟩:=H.out;cases e;exact List.eq_nil_of_length_eq_zero (by omega)
  subst hx
  have he:∀w:World,(binOp .eql 28 (.slice none 0 0) (.slice none 0 0)).run Tryz.prog w = .ok (.bool true) w:=fun _=>rfl
  go_enter Tryz.func55,Tryz.ntmps55
  go_wp2_with fail
  go_ret
  exact⟨_,rfl,zJ.nil_,Below.refl _ _⟩
 | some a=>
  obtain⟨i0,hi,hz0,hz1,hz2⟩:=info_parts info_trk
  have I0:=zD0 hi
  have I1:=zD0 hz0
  have I2:=zD0 hz1
  have I3:=zD0 hz2
  obtain⟨n,hn2⟩:=zD1 (l.length)
  have HN:=zD0 hn2
  have HA:Hid (jD w w.heap.size (.slice (some a) n cap) l):=zD0 (by rw[hn2];exact H.out)
  rw[←hn2]
  have he:∀w:World,(binOp .eql 28 (.slice (some a) n cap) (.slice none 0 0)).run Tryz.prog w = .ok (.bool false) w:=fun _=>rfl
  have hq0:=zB w (.cells #[] 51)
  have hqb:=zD w (.cells #[] 51)
  obtain⟨yss,hy1,hy2,hy3,hy4,hy5,hy6,hy7⟩:=((HA.out.below xY hqb).more xY hqb.size).cells (by omega) trkR_full zC3
  have Y1:=zD0 hy1
  have Y2:=zD0 hy2
  have Y3:=zD0 hy3
  have Y4:=zD0 hy4
  have Y6:=zD0 hy6
  have Y7:=zD0 hy7
  have YL:Hid (yss.flatten.length=n*2):=zD0 (by rw[xA _ hy2,hy1,HN.out])
  have Q0:=zD0 hq0
  have QB:=zD0 hqb
  have NL:Hid (n≤1000):=zD0 (by rw[HN.out];exact HLEN.out)
  clear hi hz0 hz1 hz2 hn hl hn2 H hy1 hy2 hy3 hy4 hy5 hy6 hy7 hq0 hqb
  go_enter Tryz.func55,Tryz.ntmps55
  go_wp2_with ((with_reducible show wpList _ _ _ (⟨some 7,_,_,_,_,_⟩::_) _ _);refine zQ rfl (.tmp 5) (.tmp 6) _ rfl Tryz.underlying28 I0.out I1.out rfl I2.out (by decide) I3.out (by decide) rfl (base:=w.heap.size) (n:=0) (ys:=[]) ⟨rfl,.inr ⟨_,_,_,rfl,Nat.le_refl _,Q0.out,Nat.zero_le _,Nat.zero_le _,rfl,rfl⟩⟩ rfl YL.out Y4.out Y7.out Y6.out (by have:=NL.out;omega) QB.out.size ?_;intro v1 w1 hown1 hgrow1)
  go_ret
  rw[Nat.zero_add,List.nil_append] at hown1
  have hb1:Below w.heap.size w w1:=QB.out.grown hgrow1 (by simp) (fun k hk=>by cases hk;exact Nat.le_refl _)
  exact⟨_,rfl,⟨yss,by rw[←HN.out];exact hown1,Y1.out,by rw[←HN.out];have:=NL.out;unfold maxLen;omega,Y2.out,fun j ys x h1 h2=>Y3.out j ys x h1 h2⟩,hb1⟩
theorem info_swi:(Tryz.prog.info? 55).map (fun i=>(i.zero,i.size,i.bytes))=some (some (.agg #[.int .i64 0,.int .i64 0,.int .i64 0]),3,24):=by kernel_rfl
set_option maxHeartbeats 4000000 in
theorem clone_swi (v:Value) (l:List Swi) (w:World) (h:xP w w.heap.size v l) (hl:l.length≤1000):
  Calls Tryz.prog 56 #[v] w fun e w'=>∃u,e = .returned u∧yR w' w.heap.size u l∧Below w.heap.size w w':=by
 have H:=zD0 h
 have HLEN:=zD0 hl
 obtain⟨A,cap,rfl,-,-,hn,-⟩:=h
 cases A with
 | none=>
  obtain rfl:=hn rfl
  have hx:l=[]:=by obtain⟨A',c',e,h1,_⟩:=H.out;cases e;exact List.eq_nil_of_length_eq_zero (by omega)
  subst hx
  have he:∀w:World,(binOp .eql 29 (.slice none 0 0) (.slice none 0 0)).run Tryz.prog w = .ok (.bool true) w:=fun _=>rfl
  go_enter Tryz.func56,Tryz.ntmps56
  go_wp2_with fail
  go_ret
  exact⟨_,rfl,zJ.nil_,Below.refl _ _⟩
 | some a=>
  obtain⟨i0,hi,hz0,hz1,hz2⟩:=info_parts info_swi
  have I0:=zD0 hi
  have I1:=zD0 hz0
  have I2:=zD0 hz1
  have I3:=zD0 hz2
  obtain⟨n,hn2⟩:=zD1 (l.length)
  have HN:=zD0 hn2
  have HA:Hid (xP w w.heap.size (.slice (some a) n cap) l):=zD0 (by rw[hn2];exact H.out)
  rw[←hn2]
  have he:∀w:World,(binOp .eql 29 (.slice (some a) n cap) (.slice none 0 0)).run Tryz.prog w = .ok (.bool false) w:=fun _=>rfl
  have hq0:=zB w (.cells #[] 55)
  have hqb:=zD w (.cells #[] 55)
  obtain⟨yss,hy1,hy2,hy3,hy4,hy5,hy6,hy7⟩:=((HA.out.below zP hqb).more zP hqb.size).cells (by omega) sigR_full jJ
  have Y1:=zD0 hy1
  have Y2:=zD0 hy2
  have Y3:=zD0 hy3
  have Y4:=zD0 hy4
  have Y6:=zD0 hy6
  have Y7:=zD0 hy7
  have YL:Hid (yss.flatten.length=n*3):=zD0 (by rw[xA _ hy2,hy1,HN.out])
  have Q0:=zD0 hq0
  have QB:=zD0 hqb
  have NL:Hid (n≤1000):=zD0 (by rw[HN.out];exact HLEN.out)
  clear hi hz0 hz1 hz2 hn hl hn2 H hy1 hy2 hy3 hy4 hy5 hy6 hy7 hq0 hqb
  go_enter Tryz.func56,Tryz.ntmps56
  go_wp2_with ((with_reducible show wpList _ _ _ (⟨some 7,_,_,_,_,_⟩::_) _ _);refine zQ rfl (.tmp 5) (.tmp 6) _ rfl Tryz.underlying29 I0.out I1.out rfl I2.out (by decide) I3.out (by decide) rfl (base:=w.heap.size) (n:=0) (ys:=[]) ⟨rfl,.inr ⟨_,_,_,rfl,Nat.le_refl _,Q0.out,Nat.zero_le _,Nat.zero_le _,rfl,rfl⟩⟩ rfl YL.out Y4.out Y7.out Y6.out (by have:=NL.out;omega) QB.out.size ?_;intro v1 w1 hown1 hgrow1)
  go_ret
  rw[Nat.zero_add,List.nil_append] at hown1
  have hb1:Below w.heap.size w w1:=QB.out.grown hgrow1 (by simp) (fun k hk=>by cases hk;exact Nat.le_refl _)
  exact⟨_,rfl,⟨yss,by rw[←HN.out];exact hown1,Y1.out,by rw[←HN.out];have:=NL.out;unfold maxLen;omega,Y2.out,fun j ys x h1 h2=>Y3.out j ys x h1 h2⟩,hb1⟩
theorem info_lck:(Tryz.prog.info? 53).map (fun i=>(i.zero,i.size,i.bytes))=some (some (.agg #[.int .i64 0,.int .u8 0,.int .i64 0,.int .i64 0]),4,32):=by kernel_rfl
set_option maxHeartbeats 4000000 in
theorem clone_lck (v:Value) (l:List Lck) (w:World) (h:xO w w.heap.size v l) (hl:l.length≤1000):
  Calls Tryz.prog 57 #[v] w fun e w'=>∃u,e = .returned u∧zAy w' w.heap.size u l∧Below w.heap.size w w':=by
 have H:=zD0 h
 have HLEN:=zD0 hl
 obtain⟨A,cap,rfl,-,-,hn,-⟩:=h
 cases A with
 | none=>
  obtain rfl:=hn rfl
  have hx:l=[]:=by obtain⟨A',c',e,h1,_⟩:=H.out;cases e;exact List.eq_nil_of_length_eq_zero (by omega)
  subst hx
  have he:∀w:World,(binOp .eql 30 (.slice none 0 0) (.slice none 0 0)).run Tryz.prog w = .ok (.bool true) w:=fun _=>rfl
  go_enter Tryz.func57,Tryz.ntmps57
  go_wp2_with fail
  go_ret
  exact⟨_,rfl,zJ.nil_,Below.refl _ _⟩
 | some a=>
  obtain⟨i0,hi,hz0,hz1,hz2⟩:=info_parts info_lck
  have I0:=zD0 hi
  have I1:=zD0 hz0
  have I2:=zD0 hz1
  have I3:=zD0 hz2
  obtain⟨n,hn2⟩:=zD1 (l.length)
  have HN:=zD0 hn2
  have HA:Hid (xO w w.heap.size (.slice (some a) n cap) l):=zD0 (by rw[hn2];exact H.out)
  rw[←hn2]
  have he:∀w:World,(binOp .eql 30 (.slice (some a) n cap) (.slice none 0 0)).run Tryz.prog w = .ok (.bool false) w:=fun _=>rfl
  have hq0:=zB w (.cells #[] 53)
  have hqb:=zD w (.cells #[] 53)
  obtain⟨yss,hy1,hy2,hy3,hy4,hy5,hy6,hy7⟩:=((HA.out.below xQ hqb).more xQ hqb.size).cells (by omega) lckR_full zC1
  have Y1:=zD0 hy1
  have Y2:=zD0 hy2
  have Y3:=zD0 hy3
  have Y4:=zD0 hy4
  have Y6:=zD0 hy6
  have Y7:=zD0 hy7
  have YL:Hid (yss.flatten.length=n*4):=zD0 (by rw[xA _ hy2,hy1,HN.out])
  have Q0:=zD0 hq0
  have QB:=zD0 hqb
  have NL:Hid (n≤1000):=zD0 (by rw[HN.out];exact HLEN.out)
  clear hi hz0 hz1 hz2 hn hl hn2 H hy1 hy2 hy3 hy4 hy5 hy6 hy7 hq0 hqb
  go_enter Tryz.func57,Tryz.ntmps57
  go_wp2_with ((with_reducible show wpList _ _ _ (⟨some 7,_,_,_,_,_⟩::_) _ _);refine zQ rfl (.tmp 5) (.tmp 6) _ rfl Tryz.underlying30 I0.out I1.out rfl I2.out (by decide) I3.out (by decide) rfl (base:=w.heap.size) (n:=0) (ys:=[]) ⟨rfl,.inr ⟨_,_,_,rfl,Nat.le_refl _,Q0.out,Nat.zero_le _,Nat.zero_le _,rfl,rfl⟩⟩ rfl YL.out Y4.out Y7.out Y6.out (by have:=NL.out;omega) QB.out.size ?_;intro v1 w1 hown1 hgrow1)
  go_ret
  rw[Nat.zero_add,List.nil_append] at hown1
  have hb1:Below w.heap.size w w1:=QB.out.grown hgrow1 (by simp) (fun k hk=>by cases hk;exact Nat.le_refl _)
  exact⟨_,rfl,⟨yss,by rw[←HN.out];exact hown1,Y1.out,by rw[←HN.out];have:=NL.out;unfold maxLen;omega,Y2.out,fun j ys x h1 h2=>Y3.out j ys x h1 h2⟩,hb1⟩
noncomputable def eqW {α β:Type} (rel:α→β→Bool) (l:List α) (m:List β):Bool:=@decide (l.length=m.length∧∀i (h1:i<l.length) (h2:i<m.length),rel l[i] m[i]=true) (Classical.propDecidable _)
theorem zCq {α β:Type} {rel:α→β→Bool} {l:List α} {m:List β}:eqW rel l m=true↔l.length=m.length∧∀i (h1:i<l.length) (h2:i<m.length),rel l[i] m[i]=true:=by rw[eqW];exact @decide_eq_true_iff _ (Classical.propDecidable _)
theorem eqW_yes {α β:Type} {rel:α→β→Bool} {l:List α} {m:List β} (h:l.length=m.length) (g:∀i (h1:i<l.length) (h2:i<m.length),rel l[i] m[i]=true):eqW rel l m=true:=zCq.2 ⟨h,g⟩
theorem eqW_len {α β:Type} {rel:α→β→Bool} {l:List α} {m:List β} (h:¬l.length=m.length):eqW rel l m=false:=by rw[←Bool.not_eq_true,zCq];exact fun g=>h g.1
theorem eqW_no {α β:Type} {rel:α→β→Bool} {l:List α} {m:List β} {i:Nat} {h1:i<l.length} {h2:i<m.length} (h:rel l[i] m[i]=false):eqW rel l m=false:=by
 rw[←Bool.not_eq_true,zCq]
 intro g
 have:=g.2 i h1 h2
 rw[h] at this;cases this
def lieB (z:Int):Bool:=decide (z=0)||decide (z=1)||decide (z=2)
def relT (x:Trk) (y:Sec):Bool:=decide (x.1=y.1)&&decide (x.2≤2)
def relS (x:Swi) (y:Jn):Bool:=decide (x.1=y.1)&&lieB x.2.1&&lieB x.2.2
def relL (x:Lck) (y:Rt):Bool:=decide (x.1=y.id)&&zO x y.path.length y.timer
def zAg (x y:Swi):Bool:=decide (x.1=y.1)&&decide (x.2.2=y.2.2)
def yL (x y:Lck):Bool:=decide (x.1=y.1)&&decide (x.2.1=y.2.1)&&decide (x.2.2.1=y.2.2.1)
theorem islie_any (z:Int) (w:World):
  Calls Tryz.prog 73 #[.int .i64 z] w fun e w'=>e = .returned (.bool (lieB z))∧Below w.heap.size w w':=by
 have QB:=zD0 (Below.refl w.heap.size w)
 go_enter Tryz.func73,Tryz.ntmps73
 by_cases h0:z=0
 ·subst h0
  go_wp2_with fail
  go_ret
  exact⟨rfl,QB.out⟩
 by_cases h1:z=1
 ·subst h1
  go_wp2_with fail
  go_ret
  exact⟨rfl,QB.out⟩
 have h0':(z==0)=false:=by simpa using h0
 have h1':(z==1)=false:=by simpa using h1
 by_cases h2:z=2
 ·subst h2
  go_wp2_with fail
  go_ret
  exact⟨rfl,QB.out⟩
 have h2':(z==2)=false:=by simpa using h2
 have HD:Hid (lieB z=false):=zD0 (by simp[lieB,h0,h1,h2])
 clear h0 h1 h2
 go_wp2_with fail
 go_ret
 exact⟨by rw[HD.out];rfl,QB.out⟩
set_option maxHeartbeats 4000000 in
theorem isphase_any (a b c d:Int) (ax enx exx:Int) (B3x B4x B5x:Option Addr) (m3x m4x m5x d3x d4x d5x:Nat) (tmx:Int) (hm:m3x≤9223372036854775807) (w:World):
  Calls Tryz.prog 76 #[.agg #[.int .i64 a,.int .u8 b,.int .i64 c,.int .i64 d],.agg #[.int .i64 ax,.int .i64 enx,.int .i64 exx,.slice B3x m3x d3x,.slice B4x m4x d4x,.slice B5x m5x d5x,.int .i64 tmx]] w fun e w'=>e = .returned (.bool (zO (a,b,c,d) m3x tmx))∧Below w.heap.size w w':=by
 obtain⟨hx,hy,hqb⟩:=zV w (.cells #[.int .i64 a,.int .u8 b,.int .i64 c,.int .i64 d] 53) (.cells #[.int .i64 ax,.int .i64 enx,.int .i64 exx,.slice B3x m3x d3x,.slice B4x m4x d4x,.slice B5x m5x d5x,.int .i64 tmx] 64)
 go_enter Tryz.func76,Tryz.ntmps76
 go_upto_region 1 with fail
 generalize (w.alloc (.cells #[.int .i64 a,.int .u8 b,.int .i64 c,.int .i64 d] 53)).alloc (.cells #[.int .i64 ax,.int .i64 enx,.int .i64 exx,.slice B3x m3x d3x,.slice B4x m4x d4x,.slice B5x m5x d5x,.int .i64 tmx] 64)=q at hx hy hqb⊢
 have QB:=zD0 hqb
 have X:=zD0 hx
 have Y:=zD0 hy
 obtain⟨k0,k1,k2,k3⟩:=qC hx
 obtain⟨j0,j1,j2,j3,j4,j5,j6⟩:=zL hy
 clear hx hy hqb
 obtain⟨L,hL⟩:∃L:Int,L=(m3x:Int)-1:=⟨_,rfl⟩
 have hw:IntKind.i64.wrap ((m3x:Int)-1)=L:=by rw[kA (by omega) (by omega),hL]
 have HL:=zD0 hL
 clear hL hm
 by_cases hr1:(1:Int)≤d
 rotate_left
 ·go_upto_region 3 with fail
  clear j0 j1 j2 j3 j4 j5 j6 hw
  by_cases hb0:b=0
  ·subst hb0
   by_cases hc:c=0
   ·have hc':(c==0)=true:=by simpa using hc
    by_cases hd:d=0
    ·have hd':(d==0)=true:=by simpa using hd
     have HD:Hid (zO (a,0,c,d) m3x tmx=true):=zD0 (decide_eq_true (by have:=HL.out;show zH _ _ _;unfold zH;dsimp only;omega))
     clear hc hd
     go_wp2_with fail
     go_ret
     exact⟨by rw[HD.out];rfl,QB.out⟩
    ·have hd':(d==0)=false:=by simpa using hd
     have HD:Hid (zO (a,0,c,d) m3x tmx=false):=zD0 (decide_eq_false (by have:=HL.out;show¬zH _ _ _;unfold zH;dsimp only;omega))
     clear hc hd
     go_wp2_with fail
     go_ret
     exact⟨by rw[HD.out];rfl,QB.out⟩
   ·have hc':(c==0)=false:=by simpa using hc
    have HD:Hid (zO (a,0,c,d) m3x tmx=false):=zD0 (decide_eq_false (by have:=HL.out;show¬zH _ _ _;unfold zH;dsimp only;omega))
    clear hc
    go_wp2_with fail
    go_ret
    exact⟨by rw[HD.out];rfl,QB.out⟩
  have hb0':(b==0)=false:=by simpa using hb0
  by_cases hb1:b=1
  ·subst hb1
   by_cases hc:c=0
   ·have hc':(c==0)=true:=by simpa using hc
    by_cases hd:d=0
    ·have hd':(d==0)=true:=by simpa using hd
     have HD:Hid (zO (a,1,c,d) m3x tmx=true):=zD0 (decide_eq_true (by have:=HL.out;show zH _ _ _;unfold zH;dsimp only;omega))
     clear hc hd
     go_wp2_with fail
     go_ret
     exact⟨by rw[HD.out];rfl,QB.out⟩
    ·have hd':(d==0)=false:=by simpa using hd
     have HD:Hid (zO (a,1,c,d) m3x tmx=false):=zD0 (decide_eq_false (by have:=HL.out;show¬zH _ _ _;unfold zH;dsimp only;omega))
     clear hc hd
     go_wp2_with fail
     go_ret
     exact⟨by rw[HD.out];rfl,QB.out⟩
   ·have hc':(c==0)=false:=by simpa using hc
    have HD:Hid (zO (a,1,c,d) m3x tmx=false):=zD0 (decide_eq_false (by have:=HL.out;show¬zH _ _ _;unfold zH;dsimp only;omega))
    clear hc
    go_wp2_with fail
    go_ret
    exact⟨by rw[HD.out];rfl,QB.out⟩
  have hb1':(b==1)=false:=by simpa using hb1
  by_cases hb2:b=2
  ·subst hb2
   by_cases hc1:(0:Int)≤c
   ·by_cases hc2:c≤L
    ·by_cases hd:d=0
     ·have hd':(d==0)=true:=by simpa using hd
      have HD:Hid (zO (a,2,c,d) m3x tmx=true):=zD0 (decide_eq_true (by have:=HL.out;show zH _ _ _;unfold zH;dsimp only;omega))
      clear hd
      go_wp2_with fail
      go_ret
      exact⟨by rw[HD.out];rfl,QB.out⟩
     ·have hd':(d==0)=false:=by simpa using hd
      have HD:Hid (zO (a,2,c,d) m3x tmx=false):=zD0 (decide_eq_false (by have:=HL.out;show¬zH _ _ _;unfold zH;dsimp only;omega))
      clear hd
      go_wp2_with fail
      go_ret
      exact⟨by rw[HD.out];rfl,QB.out⟩
    ·have HD:Hid (zO (a,2,c,d) m3x tmx=false):=zD0 (decide_eq_false (by have:=HL.out;show¬zH _ _ _;unfold zH;dsimp only;omega))
     go_wp2_with fail
     go_ret
     exact⟨by rw[HD.out];rfl,QB.out⟩
   ·have HD:Hid (zO (a,2,c,d) m3x tmx=false):=zD0 (decide_eq_false (by have:=HL.out;show¬zH _ _ _;unfold zH;dsimp only;omega))
    go_wp2_with fail
    go_ret
    exact⟨by rw[HD.out];rfl,QB.out⟩
  have hb2':(b==2)=false:=by simpa using hb2
  by_cases hb3:b=3
  ·subst hb3
   by_cases hc:c=L
   ·have hc':(c==L)=true:=by simpa using hc
    have HD:Hid (zO (a,3,c,d) m3x tmx=false):=zD0 (decide_eq_false (by have:=HL.out;show¬zH _ _ _;unfold zH;dsimp only;omega))
    clear hc
    go_wp2_with fail
    go_ret
    exact⟨by rw[HD.out];rfl,QB.out⟩
   ·have hc':(c==L)=false:=by simpa using hc
    have HD:Hid (zO (a,3,c,d) m3x tmx=false):=zD0 (decide_eq_false (by have:=HL.out;show¬zH _ _ _;unfold zH;dsimp only;omega))
    clear hc
    go_wp2_with fail
    go_ret
    exact⟨by rw[HD.out];rfl,QB.out⟩
  have hb3':(b==3)=false:=by simpa using hb3
  by_cases hb4:b=4
  ·subst hb4
   by_cases hc:c=0
   ·have hc':(c==0)=true:=by simpa using hc
    have HD:Hid (zO (a,4,c,d) m3x tmx=false):=zD0 (decide_eq_false (by have:=HL.out;show¬zH _ _ _;unfold zH;dsimp only;omega))
    clear hc
    go_wp2_with fail
    go_ret
    exact⟨by rw[HD.out];rfl,QB.out⟩
   ·have hc':(c==0)=false:=by simpa using hc
    have HD:Hid (zO (a,4,c,d) m3x tmx=false):=zD0 (decide_eq_false (by have:=HL.out;show¬zH _ _ _;unfold zH;dsimp only;omega))
    clear hc
    go_wp2_with fail
    go_ret
    exact⟨by rw[HD.out];rfl,QB.out⟩
  have hb4':(b==4)=false:=by simpa using hb4
  have HD:Hid (zO (a,b,c,d) m3x tmx=false):=zD0 (decide_eq_false (by have:=HL.out;show¬zH _ _ _;unfold zH;dsimp only;omega))
  clear hb0 hb1 hb2 hb3 hb4
  go_wp2_with fail
  go_ret
  exact⟨by rw[HD.out];rfl,QB.out⟩
 by_cases hr2:d≤tmx
 rotate_left
 ·go_upto_region 3 with fail
  clear j0 j1 j2 j3 j4 j5 j6 hw
  by_cases hb0:b=0
  ·subst hb0
   by_cases hc:c=0
   ·have hc':(c==0)=true:=by simpa using hc
    by_cases hd:d=0
    ·have hd':(d==0)=true:=by simpa using hd
     have HD:Hid (zO (a,0,c,d) m3x tmx=true):=zD0 (decide_eq_true (by have:=HL.out;show zH _ _ _;unfold zH;dsimp only;omega))
     clear hc hd
     go_wp2_with fail
     go_ret
     exact⟨by rw[HD.out];rfl,QB.out⟩
    ·have hd':(d==0)=false:=by simpa using hd
     have HD:Hid (zO (a,0,c,d) m3x tmx=false):=zD0 (decide_eq_false (by have:=HL.out;show¬zH _ _ _;unfold zH;dsimp only;omega))
     clear hc hd
     go_wp2_with fail
     go_ret
     exact⟨by rw[HD.out];rfl,QB.out⟩
   ·have hc':(c==0)=false:=by simpa using hc
    have HD:Hid (zO (a,0,c,d) m3x tmx=false):=zD0 (decide_eq_false (by have:=HL.out;show¬zH _ _ _;unfold zH;dsimp only;omega))
    clear hc
    go_wp2_with fail
    go_ret
    exact⟨by rw[HD.out];rfl,QB.out⟩
  have hb0':(b==0)=false:=by simpa using hb0
  by_cases hb1:b=1
  ·subst hb1
   by_cases hc:c=0
   ·have hc':(c==0)=true:=by simpa using hc
    by_cases hd:d=0
    ·have hd':(d==0)=true:=by simpa using hd
     have HD:Hid (zO (a,1,c,d) m3x tmx=true):=zD0 (decide_eq_true (by have:=HL.out;show zH _ _ _;unfold zH;dsimp only;omega))
     clear hc hd
     go_wp2_with fail
     go_ret
     exact⟨by rw[HD.out];rfl,QB.out⟩
    ·have hd':(d==0)=false:=by simpa using hd
     have HD:Hid (zO (a,1,c,d) m3x tmx=false):=zD0 (decide_eq_false (by have:=HL.out;show¬zH _ _ _;unfold zH;dsimp only;omega))
     clear hc hd
     go_wp2_with fail
     go_ret
     exact⟨by rw[HD.out];rfl,QB.out⟩
   ·have hc':(c==0)=false:=by simpa using hc
    have HD:Hid (zO (a,1,c,d) m3x tmx=false):=zD0 (decide_eq_false (by have:=HL.out;show¬zH _ _ _;unfold zH;dsimp only;omega))
    clear hc
    go_wp2_with fail
    go_ret
    exact⟨by rw[HD.out];rfl,QB.out⟩
  have hb1':(b==1)=false:=by simpa using hb1
  by_cases hb2:b=2
  ·subst hb2
   by_cases hc1:(0:Int)≤c
   ·by_cases hc2:c≤L
    ·by_cases hd:d=0
     ·have hd':(d==0)=true:=by simpa using hd
      have HD:Hid (zO (a,2,c,d) m3x tmx=true):=zD0 (decide_eq_true (by have:=HL.out;show zH _ _ _;unfold zH;dsimp only;omega))
      clear hd
      go_wp2_with fail
      go_ret
      exact⟨by rw[HD.out];rfl,QB.out⟩
     ·have hd':(d==0)=false:=by simpa using hd
      have HD:Hid (zO (a,2,c,d) m3x tmx=false):=zD0 (decide_eq_false (by have:=HL.out;show¬zH _ _ _;unfold zH;dsimp only;omega))
      clear hd
      go_wp2_with fail
      go_ret
      exact⟨by rw[HD.out];rfl,QB.out⟩
    ·have HD:Hid (zO (a,2,c,d) m3x tmx=false):=zD0 (decide_eq_false (by have:=HL.out;show¬zH _ _ _;unfold zH;dsimp only;omega))
     go_wp2_with fail
     go_ret
     exact⟨by rw[HD.out];rfl,QB.out⟩
   ·have HD:Hid (zO (a,2,c,d) m3x tmx=false):=zD0 (decide_eq_false (by have:=HL.out;show¬zH _ _ _;unfold zH;dsimp only;omega))
    go_wp2_with fail
    go_ret
    exact⟨by rw[HD.out];rfl,QB.out⟩
  have hb2':(b==2)=false:=by simpa using hb2
  by_cases hb3:b=3
  ·subst hb3
   by_cases hc:c=L
   ·have hc':(c==L)=true:=by simpa using hc
    have HD:Hid (zO (a,3,c,d) m3x tmx=false):=zD0 (decide_eq_false (by have:=HL.out;show¬zH _ _ _;unfold zH;dsimp only;omega))
    clear hc
    go_wp2_with fail
    go_ret
    exact⟨by rw[HD.out];rfl,QB.out⟩
   ·have hc':(c==L)=false:=by simpa using hc
    have HD:Hid (zO (a,3,c,d) m3x tmx=false):=zD0 (decide_eq_false (by have:=HL.out;show¬zH _ _ _;unfold zH;dsimp only;omega))
    clear hc
    go_wp2_with fail
    go_ret
    exact⟨by rw[HD.out];rfl,QB.out⟩
  have hb3':(b==3)=false:=by simpa using hb3
  by_cases hb4:b=4
  ·subst hb4
   by_cases hc:c=0
   ·have hc':(c==0)=true:=by simpa using hc
    have HD:Hid (zO (a,4,c,d) m3x tmx=false):=zD0 (decide_eq_false (by have:=HL.out;show¬zH _ _ _;unfold zH;dsimp only;omega))
    clear hc
    go_wp2_with fail
    go_ret
    exact⟨by rw[HD.out];rfl,QB.out⟩
   ·have hc':(c==0)=false:=by simpa using hc
    have HD:Hid (zO (a,4,c,d) m3x tmx=false):=zD0 (decide_eq_false (by have:=HL.out;show¬zH _ _ _;unfold zH;dsimp only;omega))
    clear hc
    go_wp2_with fail
    go_ret
    exact⟨by rw[HD.out];rfl,QB.out⟩
  have hb4':(b==4)=false:=by simpa using hb4
  have HD:Hid (zO (a,b,c,d) m3x tmx=false):=zD0 (decide_eq_false (by have:=HL.out;show¬zH _ _ _;unfold zH;dsimp only;omega))
  clear hb0 hb1 hb2 hb3 hb4
  go_wp2_with fail
  go_ret
  exact⟨by rw[HD.out];rfl,QB.out⟩
 go_upto_region 3 with fail
 clear j0 j1 j2 j3 j4 j5 j6 hw
 by_cases hb0:b=0
 ·subst hb0
  by_cases hc:c=0
  ·have hc':(c==0)=true:=by simpa using hc
   by_cases hd:d=0
   ·have hd':(d==0)=true:=by simpa using hd
    have HD:Hid (zO (a,0,c,d) m3x tmx=true):=zD0 (decide_eq_true (by have:=HL.out;show zH _ _ _;unfold zH;dsimp only;omega))
    clear hc hd
    go_wp2_with fail
    go_ret
    exact⟨by rw[HD.out];rfl,QB.out⟩
   ·have hd':(d==0)=false:=by simpa using hd
    have HD:Hid (zO (a,0,c,d) m3x tmx=false):=zD0 (decide_eq_false (by have:=HL.out;show¬zH _ _ _;unfold zH;dsimp only;omega))
    clear hc hd
    go_wp2_with fail
    go_ret
    exact⟨by rw[HD.out];rfl,QB.out⟩
  ·have hc':(c==0)=false:=by simpa using hc
   have HD:Hid (zO (a,0,c,d) m3x tmx=false):=zD0 (decide_eq_false (by have:=HL.out;show¬zH _ _ _;unfold zH;dsimp only;omega))
   clear hc
   go_wp2_with fail
   go_ret
   exact⟨by rw[HD.out];rfl,QB.out⟩
 have hb0':(b==0)=false:=by simpa using hb0
 by_cases hb1:b=1
 ·subst hb1
  by_cases hc:c=0
  ·have hc':(c==0)=true:=by simpa using hc
   by_cases hd:d=0
   ·have hd':(d==0)=true:=by simpa using hd
    have HD:Hid (zO (a,1,c,d) m3x tmx=true):=zD0 (decide_eq_true (by have:=HL.out;show zH _ _ _;unfold zH;dsimp only;omega))
    clear hc hd
    go_wp2_with fail
    go_ret
    exact⟨by rw[HD.out];rfl,QB.out⟩
   ·have hd':(d==0)=false:=by simpa using hd
    have HD:Hid (zO (a,1,c,d) m3x tmx=false):=zD0 (decide_eq_false (by have:=HL.out;show¬zH _ _ _;unfold zH;dsimp only;omega))
    clear hc hd
    go_wp2_with fail
    go_ret
    exact⟨by rw[HD.out];rfl,QB.out⟩
  ·have hc':(c==0)=false:=by simpa using hc
   have HD:Hid (zO (a,1,c,d) m3x tmx=false):=zD0 (decide_eq_false (by have:=HL.out;show¬zH _ _ _;unfold zH;dsimp only;omega))
   clear hc
   go_wp2_with fail
   go_ret
   exact⟨by rw[HD.out];rfl,QB.out⟩
 have hb1':(b==1)=false:=by simpa using hb1
 by_cases hb2:b=2
 ·subst hb2
  by_cases hc1:(0:Int)≤c
  ·by_cases hc2:c≤L
   ·by_cases hd:d=0
    ·have hd':(d==0)=true:=by simpa using hd
     have HD:Hid (zO (a,2,c,d) m3x tmx=true):=zD0 (decide_eq_true (by have:=HL.out;show zH _ _ _;unfold zH;dsimp only;omega))
     clear hd
     go_wp2_with fail
     go_ret
     exact⟨by rw[HD.out];rfl,QB.out⟩
    ·have hd':(d==0)=false:=by simpa using hd
     have HD:Hid (zO (a,2,c,d) m3x tmx=false):=zD0 (decide_eq_false (by have:=HL.out;show¬zH _ _ _;unfold zH;dsimp only;omega))
     clear hd
     go_wp2_with fail
     go_ret
     exact⟨by rw[HD.out];rfl,QB.out⟩
   ·have HD:Hid (zO (a,2,c,d) m3x tmx=false):=zD0 (decide_eq_false (by have:=HL.out;show¬zH _ _ _;unfold zH;dsimp only;omega))
    go_wp2_with fail
    go_ret
    exact⟨by rw[HD.out];rfl,QB.out⟩
  ·have HD:Hid (zO (a,2,c,d) m3x tmx=false):=zD0 (decide_eq_false (by have:=HL.out;show¬zH _ _ _;unfold zH;dsimp only;omega))
   go_wp2_with fail
   go_ret
   exact⟨by rw[HD.out];rfl,QB.out⟩
 have hb2':(b==2)=false:=by simpa using hb2
 by_cases hb3:b=3
 ·subst hb3
  by_cases hc:c=L
  ·have hc':(c==L)=true:=by simpa using hc
   have HD:Hid (zO (a,3,c,d) m3x tmx=true):=zD0 (decide_eq_true (by have:=HL.out;show zH _ _ _;unfold zH;dsimp only;omega))
   clear hc
   go_wp2_with fail
   go_ret
   exact⟨by rw[HD.out];rfl,QB.out⟩
  ·have hc':(c==L)=false:=by simpa using hc
   have HD:Hid (zO (a,3,c,d) m3x tmx=false):=zD0 (decide_eq_false (by have:=HL.out;show¬zH _ _ _;unfold zH;dsimp only;omega))
   clear hc
   go_wp2_with fail
   go_ret
   exact⟨by rw[HD.out];rfl,QB.out⟩
 have hb3':(b==3)=false:=by simpa using hb3
 by_cases hb4:b=4
 ·subst hb4
  by_cases hc:c=0
  ·have hc':(c==0)=true:=by simpa using hc
   have HD:Hid (zO (a,4,c,d) m3x tmx=true):=zD0 (decide_eq_true (by have:=HL.out;show zH _ _ _;unfold zH;dsimp only;omega))
   clear hc
   go_wp2_with fail
   go_ret
   exact⟨by rw[HD.out];rfl,QB.out⟩
  ·have hc':(c==0)=false:=by simpa using hc
   have HD:Hid (zO (a,4,c,d) m3x tmx=false):=zD0 (decide_eq_false (by have:=HL.out;show¬zH _ _ _;unfold zH;dsimp only;omega))
   clear hc
   go_wp2_with fail
   go_ret
   exact⟨by rw[HD.out];rfl,QB.out⟩
 have hb4':(b==4)=false:=by simpa using hb4
 have HD:Hid (zO (a,b,c,d) m3x tmx=false):=zD0 (decide_eq_false (by have:=HL.out;show¬zH _ _ _;unfold zH;dsimp only;omega))
 clear hb0 hb1 hb2 hb3 hb4
 go_wp2_with fail
 go_ret
 exact⟨by rw[HD.out];rfl,QB.out⟩
set_option maxHeartbeats 4000000 in
theorem fits1_any (a b:Int) (ax ptx:Int) (B3x:Option Addr) (m3x d3x:Nat) (esx:List Jn) (w:World):
  Calls Tryz.prog 70 #[.agg #[.int .i64 a,.int .u8 b],.agg #[.int .i64 ax,.int .i64 ptx,.slice B3x m3x d3x]] w fun e w'=>e = .returned (.bool (relT (a,b) (ax,ptx,esx)))∧Below w.heap.size w w':=by
 obtain⟨hx,hy,hqb⟩:=zV w (.cells #[.int .i64 a,.int .u8 b] 51) (.cells #[.int .i64 ax,.int .i64 ptx,.slice B3x m3x d3x] 60)
 go_enter Tryz.func70,Tryz.ntmps70
 go_upto_region 1 with fail
 generalize (w.alloc (.cells #[.int .i64 a,.int .u8 b] 51)).alloc (.cells #[.int .i64 ax,.int .i64 ptx,.slice B3x m3x d3x] 60)=q at hx hy hqb⊢
 have QB:=zD0 hqb
 have X:=zD0 hx
 have Y:=zD0 hy
 obtain⟨k0,k1⟩:=zI hx
 obtain⟨j0,j1,j2⟩:=zC hy
 clear hx hy hqb
 by_cases h1:a=ax
 rotate_left
 ·have h1':(a==ax)=false:=by simpa using h1
  have HD:Hid (relT (a,b) (ax,ptx,esx)=false):=zD0 (by simp[relT,h1])
  clear h1
  go_wp2_with fail
  go_ret
  exact⟨by rw[HD.out];rfl,QB.out⟩
 have h1':(a==ax)=true:=by simpa using h1
 by_cases h2:b≤2
 rotate_left
 ·have HD:Hid (relT (a,b) (ax,ptx,esx)=false):=zD0 (by simp[relT,h1,h2])
  clear h1
  go_wp2_with fail
  go_ret
  exact⟨by rw[HD.out];rfl,QB.out⟩
 have HD:Hid (relT (a,b) (ax,ptx,esx)=true):=zD0 (by simp[relT,h1,h2])
 clear h1
 go_wp2_with fail
 go_ret
 exact⟨by rw[HD.out];rfl,QB.out⟩
set_option maxHeartbeats 4000000 in
theorem fits2_any (a b c:Int) (ax bx:Int) (w:World):
  Calls Tryz.prog 72 #[.agg #[.int .i64 a,.int .i64 b,.int .i64 c],.agg #[.int .i64 ax,.int .i64 bx]] w fun e w'=>e = .returned (.bool (relS (a,b,c) (ax,bx)))∧Below w.heap.size w w':=by
 obtain⟨hx,hy,hqb⟩:=zV w (.cells #[.int .i64 a,.int .i64 b,.int .i64 c] 55) (.cells #[.int .i64 ax,.int .i64 bx] 67)
 go_enter Tryz.func72,Tryz.ntmps72
 go_upto_region 1 with fail
 generalize (w.alloc (.cells #[.int .i64 a,.int .i64 b,.int .i64 c] 55)).alloc (.cells #[.int .i64 ax,.int .i64 bx] 67)=q at hx hy hqb⊢
 have QB:=zD0 hqb
 have X:=zD0 hx
 have Y:=zD0 hy
 obtain⟨k0,k1,k2⟩:=zC hx
 obtain⟨j0,j1⟩:=zI hy
 clear hx hy hqb
 by_cases h1:a=ax
 rotate_left
 ·have h1':(a==ax)=false:=by simpa using h1
  have HD:Hid (relS (a,b,c) (ax,bx)=false):=zD0 (by simp[relS,h1])
  clear h1
  go_wp2_with fail
  go_ret
  exact⟨by rw[HD.out];rfl,QB.out⟩
 have h1':(a==ax)=true:=by simpa using h1
 have H1:=zD0 h1
 clear h1
 go_wp2_with fail
 refine(islie_any b q).mono ?_
 rintro e w1 ⟨rfl,b1⟩
 have X':=zD0 ((b1.block _ (zA X.out)).trans X.out)
 have QB':=zD0 (QB.out.trans (b1.mono QB.out.size))
 clear b1 k0 k1 k2 j0 j1 X QB Y
 have QB:=QB'
 obtain⟨k0,k1,k2⟩:=zC X'.out
 cases e1:lieB b with
 | false=>
  have HD:Hid (relS (a,b,c) (ax,bx)=false):=zD0 (by simp[relS,H1.out,e1])
  go_wp2_with fail
  go_ret
  exact⟨by rw[HD.out];rfl,QB.out⟩
 | true=>
  go_wp2_with fail
  refine(islie_any c w1).mono ?_
  rintro e w2 ⟨rfl,b1⟩
  have QB2:=zD0 (QB.out.trans (b1.mono QB.out.size))
  clear b1 QB
  have QB:=QB2
  cases e2:lieB c with
  | false=>
   have HD:Hid (relS (a,b,c) (ax,bx)=false):=zD0 (by simp[relS,H1.out,e1,e2])
   go_wp2_with fail
   go_ret
   exact⟨by rw[HD.out];rfl,QB.out⟩
  | true=>
   have HD:Hid (relS (a,b,c) (ax,bx)=true):=zD0 (by simp[relS,H1.out,e1,e2])
   go_wp2_with fail
   go_ret
   exact⟨by rw[HD.out];rfl,QB.out⟩
set_option maxHeartbeats 4000000 in
theorem fits3_any (a b c d:Int) (ax enx exx:Int) (B3x B4x B5x:Option Addr) (m3x m4x m5x d3x d4x d5x:Nat) (lpx lox:List Int) (lfx:List Jn) (tmx:Int) (hm:m3x=lpx.length∧m3x≤9223372036854775807) (w:World):
  Calls Tryz.prog 75 #[.agg #[.int .i64 a,.int .u8 b,.int .i64 c,.int .i64 d],.agg #[.int .i64 ax,.int .i64 enx,.int .i64 exx,.slice B3x m3x d3x,.slice B4x m4x d4x,.slice B5x m5x d5x,.int .i64 tmx]] w fun e w'=>e = .returned (.bool (relL (a,b,c,d) (⟨ax,enx,exx,lpx,lox,lfx,tmx⟩:Rt)))∧Below w.heap.size w w':=by
 have HM:=zD0 hm
 clear hm
 obtain⟨hx,hy,hqb⟩:=zV w (.cells #[.int .i64 a,.int .u8 b,.int .i64 c,.int .i64 d] 53) (.cells #[.int .i64 ax,.int .i64 enx,.int .i64 exx,.slice B3x m3x d3x,.slice B4x m4x d4x,.slice B5x m5x d5x,.int .i64 tmx] 64)
 go_enter Tryz.func75,Tryz.ntmps75
 go_upto_region 1 with fail
 generalize (w.alloc (.cells #[.int .i64 a,.int .u8 b,.int .i64 c,.int .i64 d] 53)).alloc (.cells #[.int .i64 ax,.int .i64 enx,.int .i64 exx,.slice B3x m3x d3x,.slice B4x m4x d4x,.slice B5x m5x d5x,.int .i64 tmx] 64)=q at hx hy hqb⊢
 have QB:=zD0 hqb
 have X:=zD0 hx
 have Y:=zD0 hy
 obtain⟨k0,k1,k2,k3⟩:=qC hx
 obtain⟨j0,j1,j2,j3,j4,j5,j6⟩:=zL hy
 clear hx hy hqb
 by_cases h1:a=ax
 rotate_left
 ·have h1':(a==ax)=false:=by simpa using h1
  have HD:Hid (relL (a,b,c,d) (⟨ax,enx,exx,lpx,lox,lfx,tmx⟩:Rt)=false):=zD0 (by simp[relL,h1])
  clear h1
  go_wp2_with fail
  go_ret
  exact⟨by rw[HD.out];rfl,QB.out⟩
 have h1':(a==ax)=true:=by simpa using h1
 have H1:=zD0 h1
 clear h1
 go_wp2_with fail
 refine(isphase_any a b c d ax enx exx B3x B4x B5x m3x m4x m5x d3x d4x d5x tmx HM.out.2 q).mono ?_
 rintro e w1 ⟨rfl,b1⟩
 have QB':=zD0 (QB.out.trans (b1.mono QB.out.size))
 clear b1 QB
 have QB:=QB'
 cases e1:zO (a,b,c,d) m3x tmx with
 | false=>
  have HD:Hid (relL (a,b,c,d) (⟨ax,enx,exx,lpx,lox,lfx,tmx⟩:Rt)=false):=zD0 (by have h:=e1;rw[HM.out.1] at h;show(decide (a=ax)&&zO (a,b,c,d) (lpx.length:Int) tmx)=_;rw[h];simp[H1.out])
  go_wp2_with fail
  go_ret
  exact⟨by rw[HD.out];rfl,QB.out⟩
 | true=>
  have HD:Hid (relL (a,b,c,d) (⟨ax,enx,exx,lpx,lox,lfx,tmx⟩:Rt)=true):=zD0 (by have h:=e1;rw[HM.out.1] at h;show(decide (a=ax)&&zO (a,b,c,d) (lpx.length:Int) tmx)=_;rw[h];simp[H1.out])
  go_wp2_with fail
  go_ret
  exact⟨by rw[HD.out];rfl,QB.out⟩
set_option maxHeartbeats 4000000 in
theorem kept1_any (a b c:Int) (ax bx cx:Int) (w:World):
  Calls Tryz.prog 41 #[.agg #[.int .i64 a,.int .i64 b,.int .i64 c],.agg #[.int .i64 ax,.int .i64 bx,.int .i64 cx]] w fun e w'=>e = .returned (.bool (zAg (a,b,c) (ax,bx,cx)))∧Below w.heap.size w w':=by
 obtain⟨hx,hy,hqb⟩:=zV w (.cells #[.int .i64 a,.int .i64 b,.int .i64 c] 55) (.cells #[.int .i64 ax,.int .i64 bx,.int .i64 cx] 55)
 go_enter Tryz.func41,Tryz.ntmps41
 go_upto_region 1 with fail
 generalize (w.alloc (.cells #[.int .i64 a,.int .i64 b,.int .i64 c] 55)).alloc (.cells #[.int .i64 ax,.int .i64 bx,.int .i64 cx] 55)=q at hx hy hqb⊢
 have QB:=zD0 hqb
 have X:=zD0 hx
 have Y:=zD0 hy
 obtain⟨k0,k1,k2⟩:=zC hx
 obtain⟨j0,j1,j2⟩:=zC hy
 clear hx hy hqb
 by_cases h1:a=ax
 rotate_left
 ·have h1':(a==ax)=false:=by simpa using h1
  have HD:Hid (zAg (a,b,c) (ax,bx,cx)=false):=zD0 (by simp[zAg,h1])
  clear h1
  go_wp2_with fail
  go_ret
  exact⟨by rw[HD.out];rfl,QB.out⟩
 have h1':(a==ax)=true:=by simpa using h1
 by_cases h2:c=cx
 rotate_left
 ·have h2':(c==cx)=false:=by simpa using h2
  have HD:Hid (zAg (a,b,c) (ax,bx,cx)=false):=zD0 (by simp[zAg,h1,h2])
  clear h1 h2
  go_wp2_with fail
  go_ret
  exact⟨by rw[HD.out];rfl,QB.out⟩
 have h2':(c==cx)=true:=by simpa using h2
 have HD:Hid (zAg (a,b,c) (ax,bx,cx)=true):=zD0 (by simp[zAg,h1,h2])
 clear h1 h2
 go_wp2_with fail
 go_ret
 exact⟨by rw[HD.out];rfl,QB.out⟩
set_option maxHeartbeats 4000000 in
theorem kept2_any (a b c d:Int) (ax bx cx dx:Int) (w:World):
  Calls Tryz.prog 43 #[.agg #[.int .i64 a,.int .u8 b,.int .i64 c,.int .i64 d],.agg #[.int .i64 ax,.int .u8 bx,.int .i64 cx,.int .i64 dx]] w fun e w'=>e = .returned (.bool (yL (a,b,c,d) (ax,bx,cx,dx)))∧Below w.heap.size w w':=by
 obtain⟨hx,hy,hqb⟩:=zV w (.cells #[.int .i64 a,.int .u8 b,.int .i64 c,.int .i64 d] 53) (.cells #[.int .i64 ax,.int .u8 bx,.int .i64 cx,.int .i64 dx] 53)
 go_enter Tryz.func43,Tryz.ntmps43
 go_upto_region 1 with fail
 generalize (w.alloc (.cells #[.int .i64 a,.int .u8 b,.int .i64 c,.int .i64 d] 53)).alloc (.cells #[.int .i64 ax,.int .u8 bx,.int .i64 cx,.int .i64 dx] 53)=q at hx hy hqb⊢
 have QB:=zD0 hqb
 have X:=zD0 hx
 have Y:=zD0 hy
 obtain⟨k0,k1,k2,k3⟩:=qC hx
 obtain⟨j0,j1,j2,j3⟩:=qC hy
 clear hx hy hqb
 by_cases h1:a=ax
 rotate_left
 ·have h1':(a==ax)=false:=by simpa using h1
  have HD:Hid (yL (a,b,c,d) (ax,bx,cx,dx)=false):=zD0 (by simp[yL,h1])
  clear h1
  go_wp2_with fail
  go_ret
  exact⟨by rw[HD.out];rfl,QB.out⟩
 have h1':(a==ax)=true:=by simpa using h1
 by_cases h2:b=bx
 rotate_left
 ·have h2':(b==bx)=false:=by simpa using h2
  have HD:Hid (yL (a,b,c,d) (ax,bx,cx,dx)=false):=zD0 (by simp[yL,h1,h2])
  clear h1 h2
  go_wp2_with fail
  go_ret
  exact⟨by rw[HD.out];rfl,QB.out⟩
 have h2':(b==bx)=true:=by simpa using h2
 by_cases h3:c=cx
 rotate_left
 ·have h3':(c==cx)=false:=by simpa using h3
  have HD:Hid (yL (a,b,c,d) (ax,bx,cx,dx)=false):=zD0 (by simp[yL,h1,h2,h3])
  clear h1 h2 h3
  go_wp2_with fail
  go_ret
  exact⟨by rw[HD.out];rfl,QB.out⟩
 have h3':(c==cx)=true:=by simpa using h3
 have HD:Hid (yL (a,b,c,d) (ax,bx,cx,dx)=true):=zD0 (by simp[yL,h1,h2,h3])
 clear h1 h2 h3
 go_wp2_with fail
 go_ret
 exact⟨by rw[HD.out];rfl,QB.out⟩
end Go.Proofs.YtemmgmjhomgbbaaGreat
