/-
 The program's package plan: numbers, elements found, ends, Concat, leaves, flanks, versions.
 Conditions: none.
-/
import Derived.Test.YtemmgmjhomgbbaaGreatUGPlnRefA
import Derived.Test.YtemmgmjhomgbbaaGreatUPlnPM
import Derived.Lib.AppendZeros
set_option linter.unusedVariables false
set_option linter.unusedSimpArgs false
set_option maxRecDepth 100000
namespace Go.Proofs.YtemmgmjhomgbbaaGreat
open Go.RowKit
theorem zDe {P:Program} {w:World} {t x:TypeId} {v:Value} {fs:Array Field} (h:P.underlying t=some (.struct fs)):(Instr.typeAssert (.iface t v) x t true).run P w = .ok (.tuple #[v,.bool true]) w:=by
 simp[Instr.typeAssert,run_underlying h]
theorem zCz {P:Program} {w:World} {t d x:TypeId} {v z:Value} {fs:Array Field} (h:P.underlying t=some (.struct fs)) (hne:¬d=t) (hi:(P.info? t).map (·.zero)=some (some z)):(Instr.typeAssert (.iface d v) x t true).run P w = .ok (.tuple #[z,.bool false]) w:=by
 cases hi2:P.info? t with
 | none=>rw[hi2] at hi;cases hi
 | some i=>
  rw[hi2] at hi
  have hz:i.zero=some z:=by simpa using hi
  simp[Instr.typeAssert,run_underlying h,hne,zeroValue,typeInfo,hi2,hz]
theorem infoPtZ:(Tryz.prog.info? 67).map (·.zero)=some (some (.agg #[.int .i64 0,.int .i64 0])):=by kernel_rfl
theorem infoSgZ:(Tryz.prog.info? 115).map (·.zero)=some (some (.agg #[.int .i64 0,.int .i64 0,.int .i64 0])):=by kernel_rfl
set_option maxHeartbeats 4000000 in
theorem zCm (a b:Int) (w:World):Calls Tryz.prog 121 #[.agg #[.int .i64 a,.int .i64 b]] w fun e w'=>e = .returned (.int .i64 a)∧Below w.heap.size w w':=by
 obtain⟨q,hq⟩:=zD1 (w.alloc (.cells #[.int .i64 a,.int .i64 b] 67))
 have x1:=zB w (.cells #[.int .i64 a,.int .i64 b] 67)
 have b1:=zD w (.cells #[.int .i64 a,.int .i64 b] 67)
 rw[←hq] at x1 b1
 have as_pt:∀w:World,(Instr.typeAssert (.iface 67 (.agg #[.int .i64 a,.int .i64 b])) 20 67 true).run Tryz.prog w = .ok (.tuple #[(.agg #[.int .i64 a,.int .i64 b]),.bool true]) w:=fun w=>zDe Tryz.underlying67
 go_enter Tryz.func121,Tryz.ntmps121
 go_upto_region 1 with fail
 rw[←hq]
 have X1:=zD0 x1
 have B1:=zD0 b1
 clear x1 b1 hq
 obtain⟨k0,k1⟩:=zI X1.out
 obtain⟨r,hr⟩:=zD1 (q.alloc (.cells #[.int .i64 a,.int .i64 b] 67))
 have x2:=zB q (.cells #[.int .i64 a,.int .i64 b] 67)
 have b2:=zD q (.cells #[.int .i64 a,.int .i64 b] 67)
 rw[←hr] at x2 b2
 go_upto_region 4 with fail
 rw[←hr]
 have X2:=zD0 x2
 have B2:=zD0 (B1.out.trans (b2.mono B1.out.size))
 generalize q.heap.size=p2 at X2⊢
 clear x2 b2 hr k0 k1
 obtain⟨k0,k1⟩:=zI X2.out
 go_wp2_with fail
 go_ret
 exact⟨rfl,B2.out⟩
set_option maxHeartbeats 4000000 in
theorem zCg (a b c:Int) (w:World):Calls Tryz.prog 122 #[.agg #[.int .i64 a,.int .i64 b,.int .i64 c]] w fun e w'=>e = .returned (.int .i64 a)∧Below w.heap.size w w':=by
 obtain⟨q,hq⟩:=zD1 (w.alloc (.cells #[.int .i64 a,.int .i64 b,.int .i64 c] 115))
 have x1:=zB w (.cells #[.int .i64 a,.int .i64 b,.int .i64 c] 115)
 have b1:=zD w (.cells #[.int .i64 a,.int .i64 b,.int .i64 c] 115)
 rw[←hq] at x1 b1
 have as_pt:∀w:World,(Instr.typeAssert (.iface 115 (.agg #[.int .i64 a,.int .i64 b,.int .i64 c])) 20 67 true).run Tryz.prog w = .ok (.tuple #[.agg #[.int .i64 0,.int .i64 0],.bool false]) w:=fun w=>zCz Tryz.underlying67 (by decide) infoPtZ
 have as_sg:∀w:World,(Instr.typeAssert (.iface 115 (.agg #[.int .i64 a,.int .i64 b,.int .i64 c])) 20 115 true).run Tryz.prog w = .ok (.tuple #[(.agg #[.int .i64 a,.int .i64 b,.int .i64 c]),.bool true]) w:=fun w=>zDe Tryz.underlying115
 go_enter Tryz.func122,Tryz.ntmps122
 go_upto_region 1 with fail
 rw[←hq]
 have X1:=zD0 x1
 have B1:=zD0 b1
 clear x1 b1 hq
 obtain⟨k0,k1,k2⟩:=zC X1.out
 obtain⟨r,hr⟩:=zD1 (q.alloc (.cells #[.int .i64 a,.int .i64 b,.int .i64 c] 115))
 have x2:=zB q (.cells #[.int .i64 a,.int .i64 b,.int .i64 c] 115)
 have b2:=zD q (.cells #[.int .i64 a,.int .i64 b,.int .i64 c] 115)
 rw[←hr] at x2 b2
 go_upto_region 7 with fail
 rw[←hr]
 have X2:=zD0 x2
 have B2:=zD0 (B1.out.trans (b2.mono B1.out.size))
 generalize q.heap.size=p2 at X2⊢
 clear x2 b2 hr k0 k1 k2
 obtain⟨k0,k1,k2⟩:=zC X2.out
 go_wp2_with fail
 go_ret
 exact⟨rfl,B2.out⟩
set_option maxHeartbeats 4000000 in
theorem number_rt (a en ex tm:Int) (B3 B4 B5:Option Addr) (m3 m4 m5 d3 d4 d5:Nat) (w:World):Calls Tryz.prog 123 #[.agg #[.int .i64 a,.int .i64 en,.int .i64 ex,.slice B3 m3 d3,.slice B4 m4 d4,.slice B5 m5 d5,.int .i64 tm]] w fun e w'=>e = .returned (.int .i64 a)∧Below w.heap.size w w':=by
 obtain⟨q,hq⟩:=zD1 (w.alloc (.cells #[.int .i64 a,.int .i64 en,.int .i64 ex,.slice B3 m3 d3,.slice B4 m4 d4,.slice B5 m5 d5,.int .i64 tm] 64))
 have x1:=zB w (.cells #[.int .i64 a,.int .i64 en,.int .i64 ex,.slice B3 m3 d3,.slice B4 m4 d4,.slice B5 m5 d5,.int .i64 tm] 64)
 have b1:=zD w (.cells #[.int .i64 a,.int .i64 en,.int .i64 ex,.slice B3 m3 d3,.slice B4 m4 d4,.slice B5 m5 d5,.int .i64 tm] 64)
 rw[←hq] at x1 b1
 have as_pt:∀w:World,(Instr.typeAssert (.iface 64 (.agg #[.int .i64 a,.int .i64 en,.int .i64 ex,.slice B3 m3 d3,.slice B4 m4 d4,.slice B5 m5 d5,.int .i64 tm])) 20 67 true).run Tryz.prog w = .ok (.tuple #[.agg #[.int .i64 0,.int .i64 0],.bool false]) w:=fun w=>zCz Tryz.underlying67 (by decide) infoPtZ
 have as_sg:∀w:World,(Instr.typeAssert (.iface 64 (.agg #[.int .i64 a,.int .i64 en,.int .i64 ex,.slice B3 m3 d3,.slice B4 m4 d4,.slice B5 m5 d5,.int .i64 tm])) 20 115 true).run Tryz.prog w = .ok (.tuple #[.agg #[.int .i64 0,.int .i64 0,.int .i64 0],.bool false]) w:=fun w=>zCz Tryz.underlying115 (by decide) infoSgZ
 have as_rt:∀w:World,(Instr.typeAssert (.iface 64 (.agg #[.int .i64 a,.int .i64 en,.int .i64 ex,.slice B3 m3 d3,.slice B4 m4 d4,.slice B5 m5 d5,.int .i64 tm])) 20 64 true).run Tryz.prog w = .ok (.tuple #[(.agg #[.int .i64 a,.int .i64 en,.int .i64 ex,.slice B3 m3 d3,.slice B4 m4 d4,.slice B5 m5 d5,.int .i64 tm]),.bool true]) w:=fun w=>zDe Tryz.underlying64
 go_enter Tryz.func123,Tryz.ntmps123
 go_upto_region 1 with fail
 rw[←hq]
 have X1:=zD0 x1
 have B1:=zD0 b1
 clear x1 b1 hq
 obtain⟨k0,k1,k2,k3,k4,k5,k6⟩:=zL X1.out
 obtain⟨r,hr⟩:=zD1 (q.alloc (.cells #[.int .i64 a,.int .i64 en,.int .i64 ex,.slice B3 m3 d3,.slice B4 m4 d4,.slice B5 m5 d5,.int .i64 tm] 64))
 have x2:=zB q (.cells #[.int .i64 a,.int .i64 en,.int .i64 ex,.slice B3 m3 d3,.slice B4 m4 d4,.slice B5 m5 d5,.int .i64 tm] 64)
 have b2:=zD q (.cells #[.int .i64 a,.int .i64 en,.int .i64 ex,.slice B3 m3 d3,.slice B4 m4 d4,.slice B5 m5 d5,.int .i64 tm] 64)
 rw[←hr] at x2 b2
 go_upto_region 10 with fail
 rw[←hr]
 have X2:=zD0 x2
 have B2:=zD0 (B1.out.trans (b2.mono B1.out.size))
 generalize q.heap.size=p2 at X2⊢
 clear x2 b2 hr k0 k1 k2 k3 k4 k5 k6
 obtain⟨k0,k1,k2,k3,k4,k5,k6⟩:=zL X2.out
 go_wp2_with fail
 go_ret
 exact⟨rfl,B2.out⟩
def zBa {α:Type} (k:α→Int) (l:List α) (id:Int):Bool:=decide (0≤at1 k l id)
def zAk {α:Type} (k:α→Int) (l:List α) (id:Int) (z:α):α:=if at1 k l id<0 then z else l.getD (at1 k l id).toNat z
theorem find_no {α:Type} {k:α→Int} {l:List α} {id:Int} {z:α} (h:∀j (h:j<l.length),k l[j]≠id):zBa k l id=false∧zAk k l id z=z:=by
 rw[zBa,zAk,yM h]
 exact⟨rfl,rfl⟩
theorem find_yes {α:Type} {k:α→Int} {l:List α} {id:Int} {z:α} {i:Nat} (hi:i<l.length) (he:k l[i]=id) (h:∀j (h:j<i),k (l[j]'(by omega))≠id):zBa k l id=true∧zAk k l id z=l[i]:=by
 rw[zBa,zAk,vT hi he h,if_neg (by omega)]
 exact⟨decide_eq_true (by omega),by simp[List.getD,List.getElem?_eq_getElem hi]⟩
theorem find_at1 {α:Type} (k:α→Int) (l:List α) (id:Int) (z:α):(zBa k l id=false∧zAk k l id z=z∧at1 k l id<0)∨∃i,∃hi:i<l.length,zBa k l id=true∧zAk k l id z=l[i]∧at1 k l id=(i:Int)∧k l[i]=id:=by
 rcases vF k l id with⟨h1,h2⟩|⟨i,hi,h1,h2,h3⟩
 ·obtain⟨a,b⟩:=find_no (z:=z) h2
  exact .inl ⟨a,b,by omega⟩
 ·obtain⟨a,b⟩:=find_yes (z:=z) hi h2 h3
  exact .inr ⟨i,hi,a,b,h1,h2⟩
set_option maxHeartbeats 4000000 in
theorem rising_pt (v:Value) (l:List Jn) (w:World) (h:zT w w.heap.size v l):
  Calls Tryz.prog 103 #[v] w fun e w'=>e = .returned (.bool (yI kPt l))∧Below w.heap.size w w':=by
 obtain⟨A,c,n,rfl,hml,HN,HA⟩:=kN h
 go_enter Tryz.func103,Tryz.ntmps103
 go_wp2_with fail
 go_loopw [3,9] (fun s3 s9 wr=>∃(i:Nat) (z:Int),i≤n∧s9 = .int .i64 i∧s3 = .int .i64 z∧LastK kPt l i z∧(∀i' (hi:i'<i) (hl:i'<l.length),1≤kPt l[i']∧kPt l[i']≤99∧∀j (hj:j+1=i'),kPt (l[j]'(by omega))<kPt l[i'])∧Below w.heap.size w wr) (fun _ s9 _=>n-(intOf s9).toNat)
 case atStart=>exact⟨0,0,by omega,by go_num,by go_num,.inl ⟨rfl,rfl⟩,fun i' hi=>absurd hi (by omega),Below.refl _ _⟩
 case round=>
  obtain⟨i,z,hi,rfl,rfl,hz,hall,hb⟩:=hrel
  have HZ:=zD0 hz
  have HALL:=zD0 hall
  have BW:=zD0 hb
  clear hall hb hz
  by_cases hlt:i<n
  ·have hlt':(i:Int)<n:=by omega
   have hir:i<l.length:=by rw[←HN.out];exact hlt
   obtain⟨bk,off,rfl,hbk,hc0,hc1⟩:=((HA.out.below zM BW.out).more zM BW.out.size).at hir
   obtain⟨a,b,hx⟩:∃a b,l[i]=(a,b):=⟨_,_,rfl⟩
   have HX:=zD0 hx
   rw[hx] at hc0 hc1
   have hg0:wr.cell? ⟨bk,off+i*2,none⟩=some (.int .i64 a):=hc0
   have hg1:wr.cell? ⟨bk,off+i*2+1,none⟩=some (.int .i64 b):=hc1
   clear hc0 hc1 hx hbk
   obtain⟨q,hq⟩:=zD1 (wr.alloc (.cells #[.int .i64 a,.int .i64 b] 67))
   have x1:=zB wr (.cells #[.int .i64 a,.int .i64 b] 67)
   have b1:=zD wr (.cells #[.int .i64 a,.int .i64 b] 67)
   rw[←hq] at x1 b1
   go_upto_region 5 with fail
   rw[←hq]
   have X1:=zD0 x1
   have B1:=zD0 (BW.out.trans (b1.mono BW.out.size))
   generalize wr.heap.size=p1 at X1⊢
   clear x1 b1 hq hg0 hg1
   obtain⟨k0,k1⟩:=zI X1.out
   have KX:Hid (kPt l[i]=a):=zD0 (by rw[HX.out])
   by_cases h1:a≤z
   ·have h1d:decide (a≤z)=true:=decide_eq_true h1
    have HF:Hid (yI kPt l=false):=zD0 (yZ fun h=>by
     have h2:=h i hir
     rw[KX.out] at h2
     rcases HZ.out with⟨rfl,hz0⟩|⟨hr,hp,hz0⟩
     ·omega
     ·have:=h2.2.2 (i-1) (by omega)
      omega)
    clear h1
    go_wp2_with ((with_reducible show Calls _ _ _ _ _);refine(zCm a b _).mono ?_;rintro e w2 ⟨rfl,b2⟩;have B2:=zD0 (B1.out.trans (b2.mono B1.out.size));clear b2)
    go_ret
    exact⟨by rw[HF.out];rfl,B2.out⟩
   have h1d:decide (a≤z)=false:=decide_eq_false h1
   by_cases h2:99<a
   ·have h2d:decide (99<a)=true:=decide_eq_true h2
    have HF:Hid (yI kPt l=false):=zD0 (yZ fun h=>by
     have h3:=h i hir
     rw[KX.out] at h3
     omega)
    clear h1 h2
    go_wp2_with ((with_reducible show Calls _ _ _ _ _);refine(zCm a b _).mono ?_;rintro e w2 ⟨rfl,b2⟩;have B2:=zD0 (B1.out.trans (b2.mono B1.out.size));clear b2)
    go_ret
    exact⟨by rw[HF.out];rfl,B2.out⟩
   have h2d:decide (99<a)=false:=decide_eq_false h2
   have NX:Hid (LastK kPt l (i+1) a∧(∀i' (hi:i'<i+1) (hl:i'<l.length),1≤kPt l[i']∧kPt l[i']≤99∧∀j (hj:j+1=i'),kPt (l[j]'(by omega))<kPt l[i'])):=zD0 (by
    refine⟨.inr ⟨hir,by omega,KX.out.symm⟩,fun i' hi' hl=>?_⟩
    rcases Nat.lt_or_ge i' i with h|h
    ·exact HALL.out i' h hl
    ·obtain rfl:i'=i:=by omega
     rw[KX.out]
     rcases HZ.out with⟨rfl,hz0⟩|⟨hr,hp,hz0⟩
     ·exact⟨by omega,by omega,fun j hj=>by omega⟩
     ·have h3:=(HALL.out (i'-1) (by omega) hr).1
      refine⟨by omega,by omega,fun j hj=>?_⟩
      obtain rfl:j=i'-1:=by omega
      omega)
   clear h1 h2
   go_wp2_with ((with_reducible show Calls _ _ _ _ _);refine(zCm a b _).mono ?_;rintro e w2 ⟨rfl,b2⟩;have B2:=zD0 (B1.out.trans (b2.mono B1.out.size));clear b2)
   go_roundw
   case measure=>simp[intOf];omega
   case rel=>exact⟨i+1,a,by omega,by go_num,rfl,NX.out.1,NX.out.2,B2.out⟩
  ·obtain rfl:i=n:=by omega
   have hlt':¬(i:Int)<i:=by omega
   have HR:Hid (yI kPt l=true):=zD0 (zAs fun a ha=>HALL.out a (by rw[HN.out];exact ha) ha)
   go_wp2_with fail
   go_ret
   exact⟨by rw[HR.out];rfl,BW.out⟩
set_option maxHeartbeats 4000000 in
theorem rising_sg (v:Value) (l:List Sg) (w:World) (h:xI w w.heap.size v l):
  Calls Tryz.prog 105 #[v] w fun e w'=>e = .returned (.bool (yI kSg l))∧Below w.heap.size w w':=by
 obtain⟨A,c,n,rfl,hml,HN,HA⟩:=kN h
 go_enter Tryz.func105,Tryz.ntmps105
 go_wp2_with fail
 go_loopw [3,9] (fun s3 s9 wr=>∃(i:Nat) (z:Int),i≤n∧s9 = .int .i64 i∧s3 = .int .i64 z∧LastK kSg l i z∧(∀i' (hi:i'<i) (hl:i'<l.length),1≤kSg l[i']∧kSg l[i']≤99∧∀j (hj:j+1=i'),kSg (l[j]'(by omega))<kSg l[i'])∧Below w.heap.size w wr) (fun _ s9 _=>n-(intOf s9).toNat)
 case atStart=>exact⟨0,0,by omega,by go_num,by go_num,.inl ⟨rfl,rfl⟩,fun i' hi=>absurd hi (by omega),Below.refl _ _⟩
 case round=>
  obtain⟨i,z,hi,rfl,rfl,hz,hall,hb⟩:=hrel
  have HZ:=zD0 hz
  have HALL:=zD0 hall
  have BW:=zD0 hb
  clear hall hb hz
  by_cases hlt:i<n
  ·have hlt':(i:Int)<n:=by omega
   have hir:i<l.length:=by rw[←HN.out];exact hlt
   obtain⟨bk,off,rfl,hbk,hc0,hc1,hc2⟩:=((HA.out.below zP BW.out).more zP BW.out.size).at hir
   obtain⟨a,b,c,hx⟩:∃a b c,l[i]=(a,b,c):=⟨_,_,_,rfl⟩
   have HX:=zD0 hx
   rw[hx] at hc0 hc1 hc2
   have hg0:wr.cell? ⟨bk,off+i*3,none⟩=some (.int .i64 a):=hc0
   have hg1:wr.cell? ⟨bk,off+i*3+1,none⟩=some (.int .i64 b):=hc1
   have hg2:wr.cell? ⟨bk,off+i*3+2,none⟩=some (.int .i64 c):=hc2
   clear hc0 hc1 hc2 hx hbk
   obtain⟨q,hq⟩:=zD1 (wr.alloc (.cells #[.int .i64 a,.int .i64 b,.int .i64 c] 115))
   have x1:=zB wr (.cells #[.int .i64 a,.int .i64 b,.int .i64 c] 115)
   have b1:=zD wr (.cells #[.int .i64 a,.int .i64 b,.int .i64 c] 115)
   rw[←hq] at x1 b1
   go_upto_region 5 with fail
   rw[←hq]
   have X1:=zD0 x1
   have B1:=zD0 (BW.out.trans (b1.mono BW.out.size))
   generalize wr.heap.size=p1 at X1⊢
   clear x1 b1 hq hg0 hg1 hg2
   obtain⟨k0,k1,k2⟩:=zC X1.out
   have KX:Hid (kSg l[i]=a):=zD0 (by rw[HX.out])
   by_cases h1:a≤z
   ·have h1d:decide (a≤z)=true:=decide_eq_true h1
    have HF:Hid (yI kSg l=false):=zD0 (yZ fun h=>by
     have h2:=h i hir
     rw[KX.out] at h2
     rcases HZ.out with⟨rfl,hz0⟩|⟨hr,hp,hz0⟩
     ·omega
     ·have:=h2.2.2 (i-1) (by omega)
      omega)
    clear h1
    go_wp2_with ((with_reducible show Calls _ _ _ _ _);refine(zCg a b c _).mono ?_;rintro e w2 ⟨rfl,b2⟩;have B2:=zD0 (B1.out.trans (b2.mono B1.out.size));clear b2)
    go_ret
    exact⟨by rw[HF.out];rfl,B2.out⟩
   have h1d:decide (a≤z)=false:=decide_eq_false h1
   by_cases h2:99<a
   ·have h2d:decide (99<a)=true:=decide_eq_true h2
    have HF:Hid (yI kSg l=false):=zD0 (yZ fun h=>by
     have h3:=h i hir
     rw[KX.out] at h3
     omega)
    clear h1 h2
    go_wp2_with ((with_reducible show Calls _ _ _ _ _);refine(zCg a b c _).mono ?_;rintro e w2 ⟨rfl,b2⟩;have B2:=zD0 (B1.out.trans (b2.mono B1.out.size));clear b2)
    go_ret
    exact⟨by rw[HF.out];rfl,B2.out⟩
   have h2d:decide (99<a)=false:=decide_eq_false h2
   have NX:Hid (LastK kSg l (i+1) a∧(∀i' (hi:i'<i+1) (hl:i'<l.length),1≤kSg l[i']∧kSg l[i']≤99∧∀j (hj:j+1=i'),kSg (l[j]'(by omega))<kSg l[i'])):=zD0 (by
    refine⟨.inr ⟨hir,by omega,KX.out.symm⟩,fun i' hi' hl=>?_⟩
    rcases Nat.lt_or_ge i' i with h|h
    ·exact HALL.out i' h hl
    ·obtain rfl:i'=i:=by omega
     rw[KX.out]
     rcases HZ.out with⟨rfl,hz0⟩|⟨hr,hp,hz0⟩
     ·exact⟨by omega,by omega,fun j hj=>by omega⟩
     ·have h3:=(HALL.out (i'-1) (by omega) hr).1
      refine⟨by omega,by omega,fun j hj=>?_⟩
      obtain rfl:j=i'-1:=by omega
      omega)
   clear h1 h2
   go_wp2_with ((with_reducible show Calls _ _ _ _ _);refine(zCg a b c _).mono ?_;rintro e w2 ⟨rfl,b2⟩;have B2:=zD0 (B1.out.trans (b2.mono B1.out.size));clear b2)
   go_roundw
   case measure=>simp[intOf];omega
   case rel=>exact⟨i+1,a,by omega,by go_num,rfl,NX.out.1,NX.out.2,B2.out⟩
  ·obtain rfl:i=n:=by omega
   have hlt':¬(i:Int)<i:=by omega
   have HR:Hid (yI kSg l=true):=zD0 (zAs fun a ha=>HALL.out a (by rw[HN.out];exact ha) ha)
   go_wp2_with fail
   go_ret
   exact⟨by rw[HR.out];rfl,BW.out⟩
set_option maxHeartbeats 4000000 in
theorem rising_rt (v:Value) (l:List Rt) (w:World) (h:qX w w.heap.size v l):
  Calls Tryz.prog 108 #[v] w fun e w'=>e = .returned (.bool (yI kRt l))∧Below w.heap.size w w':=by
 obtain⟨A,c,n,rfl,hml,HN,HA⟩:=kN h
 go_enter Tryz.func108,Tryz.ntmps108
 go_wp2_with fail
 go_loopw [3,9] (fun s3 s9 wr=>∃(i:Nat) (z:Int),i≤n∧s9 = .int .i64 i∧s3 = .int .i64 z∧LastK kRt l i z∧(∀i' (hi:i'<i) (hl:i'<l.length),1≤kRt l[i']∧kRt l[i']≤99∧∀j (hj:j+1=i'),kRt (l[j]'(by omega))<kRt l[i'])∧Below w.heap.size w wr) (fun _ s9 _=>n-(intOf s9).toNat)
 case atStart=>exact⟨0,0,by omega,by go_num,by go_num,.inl ⟨rfl,rfl⟩,fun i' hi=>absurd hi (by omega),Below.refl _ _⟩
 case round=>
  obtain⟨i,z,hi,rfl,rfl,hz,hall,hb⟩:=hrel
  have HZ:=zD0 hz
  have HALL:=zD0 hall
  have BW:=zD0 hb
  clear hall hb hz
  by_cases hlt:i<n
  ·have hlt':(i:Int)<n:=by omega
   have hir:i<l.length:=by rw[←HN.out];exact hlt
   obtain⟨bk,off,rfl,hbk,hc0,hc1,hc2,hc6,u3,u4,u5,hc3,hc4,hc5,hr⟩:=((HA.out.below qM BW.out).more qM BW.out.size).at hir
   obtain⟨B3,d3,rfl,-,-⟩:=hr.path.slice
   obtain⟨B4,d4,rfl,-,-⟩:=hr.over.slice
   obtain⟨B5,d5,rfl,-,-⟩:=hr.flanks.slice
   obtain⟨a,en,ex,lp,lo,lf,tm,hx⟩:∃a en ex lp lo lf tm,l[i]=(⟨a,en,ex,lp,lo,lf,tm⟩:Rt):=⟨_,_,_,_,_,_,_,rfl⟩
   have HX:=zD0 hx
   rw[hx] at hc0 hc1 hc2 hc3 hc4 hc5 hc6 hr
   dsimp only at hc0 hc1 hc2 hc3 hc4 hc5 hc6 hr
   obtain⟨m3,e3⟩:=zD1 (lp.length)
   obtain⟨m4,e4⟩:=zD1 (lo.length)
   obtain⟨m5,e5⟩:=zD1 (lf.length)
   rw[←e3] at hc3 hr
   rw[←e4] at hc4 hr
   rw[←e5] at hc5 hr
   have HR:=zD0 hr
   have HM:Hid (m3=lp.length∧m4=lo.length∧m5=lf.length):=zD0 ⟨e3,e4,e5⟩
   have hg0:wr.cell? ⟨bk,off+i*7,none⟩=some (.int .i64 a):=hc0
   have hg1:wr.cell? ⟨bk,off+i*7+1,none⟩=some (.int .i64 en):=hc1
   have hg2:wr.cell? ⟨bk,off+i*7+2,none⟩=some (.int .i64 ex):=hc2
   have hg3:wr.cell? ⟨bk,off+i*7+3,none⟩=some (.slice B3 m3 d3):=hc3
   have hg4:wr.cell? ⟨bk,off+i*7+4,none⟩=some (.slice B4 m4 d4):=hc4
   have hg5:wr.cell? ⟨bk,off+i*7+5,none⟩=some (.slice B5 m5 d5):=hc5
   have hg6:wr.cell? ⟨bk,off+i*7+6,none⟩=some (.int .i64 tm):=hc6
   clear hc0 hc1 hc2 hc3 hc4 hc5 hc6 hx hbk hr e3 e4 e5
   obtain⟨q,hq⟩:=zD1 (wr.alloc (.cells #[.int .i64 a,.int .i64 en,.int .i64 ex,.slice B3 m3 d3,.slice B4 m4 d4,.slice B5 m5 d5,.int .i64 tm] 64))
   have x1:=zB wr (.cells #[.int .i64 a,.int .i64 en,.int .i64 ex,.slice B3 m3 d3,.slice B4 m4 d4,.slice B5 m5 d5,.int .i64 tm] 64)
   have b1:=zD wr (.cells #[.int .i64 a,.int .i64 en,.int .i64 ex,.slice B3 m3 d3,.slice B4 m4 d4,.slice B5 m5 d5,.int .i64 tm] 64)
   rw[←hq] at x1 b1
   go_upto_region 5 with fail
   rw[←hq]
   have X1:=zD0 x1
   have B1:=zD0 (BW.out.trans (b1.mono BW.out.size))
   generalize wr.heap.size=p1 at X1⊢
   clear x1 b1 hq hg0 hg1 hg2 hg3 hg4 hg5 hg6
   obtain⟨k0,k1,k2,k3,k4,k5,k6⟩:=zL X1.out
   have KX:Hid (kRt l[i]=a):=zD0 (by rw[HX.out])
   by_cases h1:a≤z
   ·have h1d:decide (a≤z)=true:=decide_eq_true h1
    have HF:Hid (yI kRt l=false):=zD0 (yZ fun h=>by
     have h2:=h i hir
     rw[KX.out] at h2
     rcases HZ.out with⟨rfl,hz0⟩|⟨hr,hp,hz0⟩
     ·omega
     ·have:=h2.2.2 (i-1) (by omega)
      omega)
    clear h1
    go_wp2_with ((with_reducible show Calls _ _ _ _ _);refine(number_rt a en ex tm B3 B4 B5 m3 m4 m5 d3 d4 d5 _).mono ?_;rintro e w2 ⟨rfl,b2⟩;have B2:=zD0 (B1.out.trans (b2.mono B1.out.size));clear b2)
    go_ret
    exact⟨by rw[HF.out];rfl,B2.out⟩
   have h1d:decide (a≤z)=false:=decide_eq_false h1
   by_cases h2:99<a
   ·have h2d:decide (99<a)=true:=decide_eq_true h2
    have HF:Hid (yI kRt l=false):=zD0 (yZ fun h=>by
     have h3:=h i hir
     rw[KX.out] at h3
     omega)
    clear h1 h2
    go_wp2_with ((with_reducible show Calls _ _ _ _ _);refine(number_rt a en ex tm B3 B4 B5 m3 m4 m5 d3 d4 d5 _).mono ?_;rintro e w2 ⟨rfl,b2⟩;have B2:=zD0 (B1.out.trans (b2.mono B1.out.size));clear b2)
    go_ret
    exact⟨by rw[HF.out];rfl,B2.out⟩
   have h2d:decide (99<a)=false:=decide_eq_false h2
   have NX:Hid (LastK kRt l (i+1) a∧(∀i' (hi:i'<i+1) (hl:i'<l.length),1≤kRt l[i']∧kRt l[i']≤99∧∀j (hj:j+1=i'),kRt (l[j]'(by omega))<kRt l[i'])):=zD0 (by
    refine⟨.inr ⟨hir,by omega,KX.out.symm⟩,fun i' hi' hl=>?_⟩
    rcases Nat.lt_or_ge i' i with h|h
    ·exact HALL.out i' h hl
    ·obtain rfl:i'=i:=by omega
     rw[KX.out]
     rcases HZ.out with⟨rfl,hz0⟩|⟨hr,hp,hz0⟩
     ·exact⟨by omega,by omega,fun j hj=>by omega⟩
     ·have h3:=(HALL.out (i'-1) (by omega) hr).1
      refine⟨by omega,by omega,fun j hj=>?_⟩
      obtain rfl:j=i'-1:=by omega
      omega)
   clear h1 h2
   go_wp2_with ((with_reducible show Calls _ _ _ _ _);refine(number_rt a en ex tm B3 B4 B5 m3 m4 m5 d3 d4 d5 _).mono ?_;rintro e w2 ⟨rfl,b2⟩;have B2:=zD0 (B1.out.trans (b2.mono B1.out.size));clear b2)
   go_roundw
   case measure=>simp[intOf];omega
   case rel=>exact⟨i+1,a,by omega,by go_num,rfl,NX.out.1,NX.out.2,B2.out⟩
  ·obtain rfl:i=n:=by omega
   have hlt':¬(i:Int)<i:=by omega
   have HR:Hid (yI kRt l=true):=zD0 (zAs fun a ha=>HALL.out a (by rw[HN.out];exact ha) ha)
   go_wp2_with fail
   go_ret
   exact⟨by rw[HR.out];rfl,BW.out⟩
set_option maxHeartbeats 4000000 in
theorem find_pt (v:Value) (l:List Jn) (id:Int) (w:World) (h:zT w w.heap.size v l):
  Calls Tryz.prog 104 #[v,.int .i64 id] w fun e w'=>e = .returned (.tuple #[.agg #[.int .i64 (zAk kPt l id (0,0)).1,.int .i64 (zAk kPt l id (0,0)).2],.bool (zBa kPt l id)])∧Below w.heap.size w w':=by
 obtain⟨A,c,n,rfl,hml,HN,HA⟩:=kN h
 obtain⟨q,hq⟩:=zD1 (w.alloc (.cells #[.int .i64 0,.int .i64 0] 67))
 have x1:=zB w (.cells #[.int .i64 0,.int .i64 0] 67)
 have b1:=zD w (.cells #[.int .i64 0,.int .i64 0] 67)
 rw[←hq] at x1 b1
 go_enter Tryz.func104,Tryz.ntmps104
 go_upto_region 1 with fail
 rw[←hq]
 have X1:=zD0 x1
 have B1:=zD0 b1
 clear x1 b1 hq
 go_wp2_with fail
 go_loopw [11] (fun s11 wr=>∃i:Nat,i≤n∧s11 = .int .i64 i∧(∀j (hj:j<i) (hl:j<l.length),kPt l[j]≠id)∧wr.heap[w.heap.size]? = some (.cells #[.int .i64 0,.int .i64 0] 67 (0,0))∧Below w.heap.size w wr) (fun s11 _=>n-(intOf s11).toNat)
 case atStart=>exact⟨0,by omega,by go_num,fun j hj=>absurd hj (by omega),X1.out,B1.out⟩
 case round=>
  obtain⟨i,hi,rfl,hall,hx4,hb⟩:=hrel
  have HALL:=zD0 hall
  have BW:=zD0 hb
  have X4:=zD0 hx4
  clear hall hb hx4 X1 B1
  by_cases hlt:i<n
  ·have hlt':(i:Int)<n:=by omega
   have hir:i<l.length:=by rw[←HN.out];exact hlt
   obtain⟨bk,off,rfl,hbk,hc0,hc1⟩:=(HA.out.below zM BW.out).at hir
   obtain⟨a,b,hx⟩:∃a b,l[i]=(a,b):=⟨_,_,rfl⟩
   have HX:=zD0 hx
   rw[hx] at hc0 hc1
   have hg0:wr.cell? ⟨bk,off+i*2,none⟩=some (.int .i64 a):=hc0
   have hg1:wr.cell? ⟨bk,off+i*2+1,none⟩=some (.int .i64 b):=hc1
   clear hc0 hc1 hx hbk
   obtain⟨q2,hq2⟩:=zD1 (wr.alloc (.cells #[.int .i64 a,.int .i64 b] 67))
   have x1:=zB wr (.cells #[.int .i64 a,.int .i64 b] 67)
   have b1:=zD wr (.cells #[.int .i64 a,.int .i64 b] 67)
   rw[←hq2] at x1 b1
   go_upto_region 4 with fail
   rw[←hq2]
   have X7:=zD0 x1
   have X47:=zD0 ((b1.block _ (zA X4.out)).trans X4.out)
   have B1W:=zD0 (b1.mono BW.out.size)
   have B1:=zD0 (BW.out.trans (b1.mono BW.out.size))
   generalize wr.heap.size=p1 at X7⊢
   clear x1 b1 hq2 hg0 hg1
   obtain⟨k0,k1⟩:=zI X7.out
   have KX:Hid (kPt l[i]=a):=zD0 (by rw[HX.out])
   by_cases he:a=id
   ·have hd:(a==id)=true:=by simpa using he
    have FY:Hid (zBa kPt l id=true∧zAk kPt l id (0,0)=l[i]):=zD0 (find_yes hir (KX.out.trans he) fun j hj=>HALL.out j hj (by omega))
    rw[HX.out] at FY
    clear he
    go_upto_region 5 with((with_reducible show Calls _ _ _ _ _);refine(zCm a b _).mono ?_;rintro e w2 ⟨rfl,b2⟩;have B2:=zD0 (B1.out.trans (b2.mono B1.out.size));have B2W:=zD0 (B1W.out.trans (b2.mono B1.out.size));have X42:=zD0 ((b2.block _ (zA X47.out)).trans X47.out);have X72:=zD0 ((b2.block _ (zA X7.out)).trans X7.out);clear b2)
    clear k0 k1
    obtain⟨k0,k1⟩:=zI X72.out
    go_wp2_with ((with_reducible show wpList _ _ _ (⟨none,_,_,_,_,_⟩::_) _ _);refine zK rfl _ (.tmp 4) (.tmp 19) rfl w.heap.size rfl (c':=#[.int .i64 a,.int .i64 b]) rfl X42.out zC0 rfl (by simp[Value.oneCell']) ?_)
    exact bodyPost_ret (qA (c:=#[.int .i64 a,.int .i64 b]) rfl _ _ w.heap.size rfl (setRow_heap _ _ _ _ _ _ X42.out) Tryz.underlying67 zC0 (.bool true) rfl) rfl ⟨by rw[FY.out.1,FY.out.2],below_setRow B2.out (Nat.le_refl _) _⟩
   ·have hd:(a==id)=false:=by simpa using he
    have NX:Hid (∀j (hj:j<i+1) (hl:j<l.length),kPt l[j]≠id):=zD0 (fun j hj hl=>by
     rcases Nat.lt_or_ge j i with h|h
     ·exact HALL.out j h hl
     ·obtain rfl:j=i:=by omega
      rw[KX.out];exact he)
    clear he
    go_wp2_with ((with_reducible show Calls _ _ _ _ _);refine(zCm a b _).mono ?_;rintro e w2 ⟨rfl,b2⟩;have B2:=zD0 (B1.out.trans (b2.mono B1.out.size));have X42:=zD0 ((b2.block _ (zA X47.out)).trans X47.out);clear b2)
    go_roundw
    case measure=>simp[intOf];omega
    case rel=>exact⟨i+1,by omega,by go_num,NX.out,X42.out,B2.out⟩
  ·obtain rfl:i=n:=by omega
   have hlt':¬(i:Int)<i:=by omega
   have FN:Hid (zBa kPt l id=false∧zAk kPt l id (0,0)=(0,0)):=zD0 (find_no fun j hj=>HALL.out j (by rw[HN.out];exact hj) hj)
   obtain⟨q8,hq8⟩:=zD1 (wr.alloc (.cells #[.int .i64 0,.int .i64 0] 67))
   have x1:=zB wr (.cells #[.int .i64 0,.int .i64 0] 67)
   have b1:=zD wr (.cells #[.int .i64 0,.int .i64 0] 67)
   rw[←hq8] at x1 b1
   go_upto_region 8 with fail
   rw[←hq8]
   have X8:=zD0 x1
   have X48:=zD0 ((b1.block _ (zA X4.out)).trans X4.out)
   have B8:=zD0 (BW.out.trans (b1.mono BW.out.size))
   generalize wr.heap.size=p1 at X8⊢
   clear x1 b1 hq8
   obtain⟨k0,k1⟩:=zI X8.out
   go_wp2_with ((with_reducible show wpList _ _ _ (⟨none,_,_,_,_,_⟩::_) _ _);refine zK rfl _ (.tmp 4) (.tmp 21) rfl w.heap.size rfl (c':=#[.int .i64 0,.int .i64 0]) rfl X48.out zC0 rfl (by simp[Value.oneCell']) ?_)
   exact bodyPost_ret (qA (c:=#[.int .i64 0,.int .i64 0]) rfl _ _ w.heap.size rfl (setRow_heap _ _ _ _ _ _ X48.out) Tryz.underlying67 zC0 (.bool false) rfl) rfl ⟨by rw[FN.out.1,FN.out.2],below_setRow B8.out (Nat.le_refl _) _⟩
set_option maxHeartbeats 4000000 in
theorem find_sg (v:Value) (l:List Sg) (id:Int) (w:World) (h:xI w w.heap.size v l):
  Calls Tryz.prog 124 #[v,.int .i64 id] w fun e w'=>e = .returned (.tuple #[.agg #[.int .i64 (zAk kSg l id (0,0,0)).1,.int .i64 (zAk kSg l id (0,0,0)).2.1,.int .i64 (zAk kSg l id (0,0,0)).2.2],.bool (zBa kSg l id)])∧Below w.heap.size w w':=by
 obtain⟨A,c,n,rfl,hml,HN,HA⟩:=kN h
 obtain⟨q,hq⟩:=zD1 (w.alloc (.cells #[.int .i64 0,.int .i64 0,.int .i64 0] 115))
 have x1:=zB w (.cells #[.int .i64 0,.int .i64 0,.int .i64 0] 115)
 have b1:=zD w (.cells #[.int .i64 0,.int .i64 0,.int .i64 0] 115)
 rw[←hq] at x1 b1
 go_enter Tryz.func124,Tryz.ntmps124
 go_upto_region 1 with fail
 rw[←hq]
 have X1:=zD0 x1
 have B1:=zD0 b1
 clear x1 b1 hq
 go_wp2_with fail
 go_loopw [11] (fun s11 wr=>∃i:Nat,i≤n∧s11 = .int .i64 i∧(∀j (hj:j<i) (hl:j<l.length),kSg l[j]≠id)∧wr.heap[w.heap.size]? = some (.cells #[.int .i64 0,.int .i64 0,.int .i64 0] 115 (0,0))∧Below w.heap.size w wr) (fun s11 _=>n-(intOf s11).toNat)
 case atStart=>exact⟨0,by omega,by go_num,fun j hj=>absurd hj (by omega),X1.out,B1.out⟩
 case round=>
  obtain⟨i,hi,rfl,hall,hx4,hb⟩:=hrel
  have HALL:=zD0 hall
  have BW:=zD0 hb
  have X4:=zD0 hx4
  clear hall hb hx4 X1 B1
  by_cases hlt:i<n
  ·have hlt':(i:Int)<n:=by omega
   have hir:i<l.length:=by rw[←HN.out];exact hlt
   obtain⟨bk,off,rfl,hbk,hc0,hc1,hc2⟩:=(HA.out.below zP BW.out).at hir
   obtain⟨a,b,c,hx⟩:∃a b c,l[i]=(a,b,c):=⟨_,_,_,rfl⟩
   have HX:=zD0 hx
   rw[hx] at hc0 hc1 hc2
   have hg0:wr.cell? ⟨bk,off+i*3,none⟩=some (.int .i64 a):=hc0
   have hg1:wr.cell? ⟨bk,off+i*3+1,none⟩=some (.int .i64 b):=hc1
   have hg2:wr.cell? ⟨bk,off+i*3+2,none⟩=some (.int .i64 c):=hc2
   clear hc0 hc1 hc2 hx hbk
   obtain⟨q2,hq2⟩:=zD1 (wr.alloc (.cells #[.int .i64 a,.int .i64 b,.int .i64 c] 115))
   have x1:=zB wr (.cells #[.int .i64 a,.int .i64 b,.int .i64 c] 115)
   have b1:=zD wr (.cells #[.int .i64 a,.int .i64 b,.int .i64 c] 115)
   rw[←hq2] at x1 b1
   go_upto_region 4 with fail
   rw[←hq2]
   have X7:=zD0 x1
   have X47:=zD0 ((b1.block _ (zA X4.out)).trans X4.out)
   have B1W:=zD0 (b1.mono BW.out.size)
   have B1:=zD0 (BW.out.trans (b1.mono BW.out.size))
   generalize wr.heap.size=p1 at X7⊢
   clear x1 b1 hq2 hg0 hg1 hg2
   obtain⟨k0,k1,k2⟩:=zC X7.out
   have KX:Hid (kSg l[i]=a):=zD0 (by rw[HX.out])
   by_cases he:a=id
   ·have hd:(a==id)=true:=by simpa using he
    have FY:Hid (zBa kSg l id=true∧zAk kSg l id (0,0,0)=l[i]):=zD0 (find_yes hir (KX.out.trans he) fun j hj=>HALL.out j hj (by omega))
    rw[HX.out] at FY
    clear he
    go_upto_region 5 with((with_reducible show Calls _ _ _ _ _);refine(zCg a b c _).mono ?_;rintro e w2 ⟨rfl,b2⟩;have B2:=zD0 (B1.out.trans (b2.mono B1.out.size));have B2W:=zD0 (B1W.out.trans (b2.mono B1.out.size));have X42:=zD0 ((b2.block _ (zA X47.out)).trans X47.out);have X72:=zD0 ((b2.block _ (zA X7.out)).trans X7.out);clear b2)
    clear k0 k1 k2
    obtain⟨k0,k1,k2⟩:=zC X72.out
    go_wp2_with ((with_reducible show wpList _ _ _ (⟨none,_,_,_,_,_⟩::_) _ _);refine zK rfl _ (.tmp 4) (.tmp 19) rfl w.heap.size rfl (c':=#[.int .i64 a,.int .i64 b,.int .i64 c]) rfl X42.out zCj rfl (by simp[Value.oneCell']) ?_)
    exact bodyPost_ret (qA (c:=#[.int .i64 a,.int .i64 b,.int .i64 c]) rfl _ _ w.heap.size rfl (setRow_heap _ _ _ _ _ _ X42.out) Tryz.underlying115 zCj (.bool true) rfl) rfl ⟨by rw[FY.out.1,FY.out.2],below_setRow B2.out (Nat.le_refl _) _⟩
   ·have hd:(a==id)=false:=by simpa using he
    have NX:Hid (∀j (hj:j<i+1) (hl:j<l.length),kSg l[j]≠id):=zD0 (fun j hj hl=>by
     rcases Nat.lt_or_ge j i with h|h
     ·exact HALL.out j h hl
     ·obtain rfl:j=i:=by omega
      rw[KX.out];exact he)
    clear he
    go_wp2_with ((with_reducible show Calls _ _ _ _ _);refine(zCg a b c _).mono ?_;rintro e w2 ⟨rfl,b2⟩;have B2:=zD0 (B1.out.trans (b2.mono B1.out.size));have X42:=zD0 ((b2.block _ (zA X47.out)).trans X47.out);clear b2)
    go_roundw
    case measure=>simp[intOf];omega
    case rel=>exact⟨i+1,by omega,by go_num,NX.out,X42.out,B2.out⟩
  ·obtain rfl:i=n:=by omega
   have hlt':¬(i:Int)<i:=by omega
   have FN:Hid (zBa kSg l id=false∧zAk kSg l id (0,0,0)=(0,0,0)):=zD0 (find_no fun j hj=>HALL.out j (by rw[HN.out];exact hj) hj)
   obtain⟨q8,hq8⟩:=zD1 (wr.alloc (.cells #[.int .i64 0,.int .i64 0,.int .i64 0] 115))
   have x1:=zB wr (.cells #[.int .i64 0,.int .i64 0,.int .i64 0] 115)
   have b1:=zD wr (.cells #[.int .i64 0,.int .i64 0,.int .i64 0] 115)
   rw[←hq8] at x1 b1
   go_upto_region 8 with fail
   rw[←hq8]
   have X8:=zD0 x1
   have X48:=zD0 ((b1.block _ (zA X4.out)).trans X4.out)
   have B8:=zD0 (BW.out.trans (b1.mono BW.out.size))
   generalize wr.heap.size=p1 at X8⊢
   clear x1 b1 hq8
   obtain⟨k0,k1,k2⟩:=zC X8.out
   go_wp2_with ((with_reducible show wpList _ _ _ (⟨none,_,_,_,_,_⟩::_) _ _);refine zK rfl _ (.tmp 4) (.tmp 21) rfl w.heap.size rfl (c':=#[.int .i64 0,.int .i64 0,.int .i64 0]) rfl X48.out zCj rfl (by simp[Value.oneCell']) ?_)
   exact bodyPost_ret (qA (c:=#[.int .i64 0,.int .i64 0,.int .i64 0]) rfl _ _ w.heap.size rfl (setRow_heap _ _ _ _ _ _ X48.out) Tryz.underlying115 zCj (.bool false) rfl) rfl ⟨by rw[FN.out.1,FN.out.2],below_setRow B8.out (Nat.le_refl _) _⟩
set_option maxHeartbeats 4000000 in
theorem ends_any (v:Value) (l:List Sec) (id:Int) (w:World) (h:zX w w.heap.size v l):
  Calls Tryz.prog 106 #[v,.int .i64 id] w fun e w'=>e = .returned (.int .i64 (zAm l id))∧Below w.heap.size w w':=by
 obtain⟨A,c,n,rfl,hml,HN,HA⟩:=kN h
 go_enter Tryz.func106,Tryz.ntmps106
 go_wp2_with fail
 go_loopw [9] (fun s9 wr=>∃i:Nat,i≤n∧s9 = .int .i64 i∧(∀j (hj:j<i) (hl:j<l.length),l[j].1≠id)∧Below w.heap.size w wr) (fun s9 _=>n-(intOf s9).toNat)
 case atStart=>exact⟨0,by omega,by go_num,fun j hj=>absurd hj (by omega),Below.refl _ _⟩
 case round=>
  obtain⟨i,hi,rfl,hall,hb⟩:=hrel
  have HALL:=zD0 hall
  have BW:=zD0 hb
  clear hall hb
  by_cases hlt:i<n
  ·have hlt':(i:Int)<n:=by omega
   have hir:i<l.length:=by rw[←HN.out];exact hlt
   obtain⟨bk,off,rfl,hbk,hc0,hc1,u,hc2,hu⟩:=((HA.out.below zN BW.out).more zN BW.out.size).at hir
   obtain⟨B3,d3,rfl,hu1,hu2⟩:=hu.slice
   obtain⟨a,pt,es,hx⟩:∃a pt es,l[i]=(a,pt,es):=⟨_,_,_,rfl⟩
   have HX:=zD0 hx
   rw[hx] at hc0 hc1 hc2 hu hu1
   dsimp only at hc0 hc1 hc2 hu hu1
   obtain⟨m3,e3⟩:=zD1 (es.length)
   rw[←e3] at hc2 hu hu1
   have HM:=zD0 e3
   have HU:=zD0 hu
   have hm3:m3≤9223372036854775807:=by unfold maxLen at hu2;omega
   have hg0:wr.cell? ⟨bk,off+i*3,none⟩=some (.int .i64 a):=hc0
   have hg1:wr.cell? ⟨bk,off+i*3+1,none⟩=some (.int .i64 pt):=hc1
   have hg2:wr.cell? ⟨bk,off+i*3+2,none⟩=some (.slice B3 m3 d3):=hc2
   clear hc0 hc1 hc2 hx hbk hu e3 hu1 hu2
   obtain⟨q,hq⟩:=zD1 (wr.alloc (.cells #[.int .i64 a,.int .i64 pt,.slice B3 m3 d3] 60))
   have x1:=zB wr (.cells #[.int .i64 a,.int .i64 pt,.slice B3 m3 d3] 60)
   have b1:=zD wr (.cells #[.int .i64 a,.int .i64 pt,.slice B3 m3 d3] 60)
   rw[←hq] at x1 b1
   go_upto_region 4 with fail
   rw[←hq]
   have X1:=zD0 x1
   have B1:=zD0 (BW.out.trans (b1.mono BW.out.size))
   generalize wr.heap.size=p1 at X1⊢
   clear x1 b1 hq hg0 hg1 hg2
   obtain⟨k0,k1,k2⟩:=zC X1.out
   have KX:Hid (l[i].1=a):=zD0 (by rw[HX.out])
   by_cases he:a=id
   ·have hd:(a==id)=true:=by simpa using he
    have HR:Hid (zAm l id=(m3:Int)):=zD0 (by rw[endsN_some hir (zDd hir (KX.out.trans he) fun j hj=>HALL.out j hj (by omega)),HX.out,HM.out])
    clear he
    go_wp2_with fail
    go_ret
    exact⟨by rw[HR.out];rfl,B1.out⟩
   ·have hd:(a==id)=false:=by simpa using he
    have NX:Hid (∀j (hj:j<i+1) (hl:j<l.length),l[j].1≠id):=zD0 (fun j hj hl=>by
     rcases Nat.lt_or_ge j i with h|h
     ·exact HALL.out j h hl
     ·obtain rfl:j=i:=by omega
      rw[KX.out];exact he)
    clear he
    go_wp2_with fail
    go_roundw
    case measure=>simp[intOf];omega
    case rel=>exact⟨i+1,by omega,by go_num,NX.out,B1.out⟩
  ·obtain rfl:i=n:=by omega
   have hlt':¬(i:Int)<i:=by omega
   have HR:Hid (zAm l id=0):=zD0 (endsN_none (atS_none fun j hj=>HALL.out j (by rw[HN.out];exact hj) hj))
   go_wp2_with fail
   go_ret
   exact⟨by rw[HR.out];rfl,BW.out⟩
set_option maxHeartbeats 4000000 in
theorem stands_any (v:Value) (l:List Sg) (sec en:Int) (w:World) (h:xI w w.heap.size v l):
  Calls Tryz.prog 107 #[v,.int .i64 sec,.int .i64 en] w fun e w'=>e = .returned (.int .i64 (qJ l sec en))∧Below w.heap.size w w':=by
 obtain⟨A,c,n,rfl,hml,HN,HA⟩:=kN h
 go_enter Tryz.func107,Tryz.ntmps107
 go_wp2_with fail
 go_loopw [11] (fun s11 wr=>∃i:Nat,i≤n∧s11 = .int .i64 i∧(∀j (hj:j<i) (hl:j<l.length),¬(l[j].2.1=sec∧l[j].2.2=en))∧Below w.heap.size w wr) (fun s11 _=>n-(intOf s11).toNat)
 case atStart=>exact⟨0,by omega,by go_num,fun j hj=>absurd hj (by omega),Below.refl _ _⟩
 case round=>
  obtain⟨i,hi,rfl,hall,hb⟩:=hrel
  have HALL:=zD0 hall
  have BW:=zD0 hb
  clear hall hb
  by_cases hlt:i<n
  ·have hlt':(i:Int)<n:=by omega
   have hir:i<l.length:=by rw[←HN.out];exact hlt
   obtain⟨bk,off,rfl,hbk,hc0,hc1,hc2⟩:=((HA.out.below zP BW.out).more zP BW.out.size).at hir
   obtain⟨a,b,c_,hx⟩:∃a b c,l[i]=(a,b,c):=⟨_,_,_,rfl⟩
   have HX:=zD0 hx
   rw[hx] at hc0 hc1 hc2
   have hg0:wr.cell? ⟨bk,off+i*3,none⟩=some (.int .i64 a):=hc0
   have hg1:wr.cell? ⟨bk,off+i*3+1,none⟩=some (.int .i64 b):=hc1
   have hg2:wr.cell? ⟨bk,off+i*3+2,none⟩=some (.int .i64 c_):=hc2
   clear hc0 hc1 hc2 hx hbk
   obtain⟨q,hq⟩:=zD1 (wr.alloc (.cells #[.int .i64 a,.int .i64 b,.int .i64 c_] 115))
   have x1:=zB wr (.cells #[.int .i64 a,.int .i64 b,.int .i64 c_] 115)
   have b1:=zD wr (.cells #[.int .i64 a,.int .i64 b,.int .i64 c_] 115)
   rw[←hq] at x1 b1
   go_upto_region 4 with fail
   rw[←hq]
   have X1:=zD0 x1
   have B1:=zD0 (BW.out.trans (b1.mono BW.out.size))
   generalize wr.heap.size=p1 at X1⊢
   clear x1 b1 hq hg0 hg1 hg2
   obtain⟨k0,k1,k2⟩:=zC X1.out
   have NX:Hid (¬(b=sec∧c_=en)→∀j (hj:j<i+1) (hl:j<l.length),¬(l[j].2.1=sec∧l[j].2.2=en)):=zD0 (fun h0 j hj hl=>by
    rcases Nat.lt_or_ge j i with h|h
    ·exact HALL.out j h hl
    ·obtain rfl:j=i:=by omega
     rw[HX.out];exact h0)
   by_cases h1:b=sec
   ·have d1:(b==sec)=true:=by simpa using h1
    by_cases h2:c_=en
    ·have d2:(c_==en)=true:=by simpa using h2
     have HR:Hid (qJ l sec en=a):=zD0 (by rw[zA7 hir (by rw[HX.out];exact⟨h1,h2⟩) (fun j hj=>HALL.out j hj (by omega)),HX.out])
     clear h1 h2 NX
     go_wp2_with fail
     go_ret
     exact⟨by rw[HR.out];rfl,B1.out⟩
    ·have d2:(c_==en)=false:=by simpa using h2
     have NN:=zD0 (NX.out (fun h=>h2 h.2))
     clear h1 h2 NX
     go_wp2_with fail
     go_roundw
     case measure=>simp[intOf];omega
     case rel=>exact⟨i+1,by omega,by go_num,NN.out,B1.out⟩
   ·have d1:(b==sec)=false:=by simpa using h1
    have NN:=zD0 (NX.out (fun h=>h1 h.1))
    clear h1 NX
    go_wp2_with fail
    go_roundw
    case measure=>simp[intOf];omega
    case rel=>exact⟨i+1,by omega,by go_num,NN.out,B1.out⟩
  ·obtain rfl:i=n:=by omega
   have hlt':¬(i:Int)<i:=by omega
   have HR:Hid (qJ l sec en=0):=zD0 (zAb fun j hj=>HALL.out j (by rw[HN.out];exact hj) hj)
   go_wp2_with fail
   go_ret
   exact⟨by rw[HR.out];rfl,BW.out⟩
set_option maxHeartbeats 4000000 in
theorem index_any (v:Value) (l:List Int) (x:Int) (w:World) (h:xB w w.heap.size v l):
  Calls Tryz.prog 137 #[v,.int .i64 x] w fun e w'=>e = .returned (.int .i64 (at1 (fun z=>z) l x))∧w=w':=by
 obtain⟨A,c,n,rfl,hml,HN,HA⟩:=kN h
 go_enter Tryz.func137,Tryz.ntmps137
 go_wp2_with fail
 go_loopw [8] (fun s8 wr=>∃i:Nat,i≤n∧s8 = .int .i64 i∧(∀j (hj:j<i) (hl:j<l.length),l[j]≠x)∧wr=w) (fun s8 _=>n-(intOf s8).toNat)
 case atStart=>exact⟨0,by omega,by go_num,fun j hj=>absurd hj (by omega),rfl⟩
 case round=>
  obtain⟨i,hi,rfl,hall,rfl⟩:=hrel
  have HALL:=zD0 hall
  clear hall
  by_cases hlt:i<n
  ·have hlt':(i:Int)<n:=by omega
   have hir:i<l.length:=by rw[←HN.out];exact hlt
   obtain⟨bk,off,rfl,hbk,hc0⟩:=HA.out.at hir
   obtain⟨z,hz⟩:=zD1 (l[i])
   have hcell:wr.cell? ⟨bk,off+i,none⟩=some (.int .i64 z):=by rw[hz];simpa [jU] using hc0
   have HZ:=zD0 hz
   clear hc0 hz
   by_cases he:x=z
   ·have hd:(x==z)=true:=by simpa using he
    have HR:Hid (at1 (fun z=>z) l x=(i:Int)):=zD0 (vT hir (HZ.out.symm.trans he.symm) fun j hj=>HALL.out j hj (by omega))
    clear he
    go_wp2_with fail
    go_ret
    exact⟨by rw[HR.out];rfl,rfl⟩
   ·have hd:(x==z)=false:=by simpa using he
    have NX:Hid (∀j (hj:j<i+1) (hl:j<l.length),l[j]≠x):=zD0 (fun j hj hl=>by
     rcases Nat.lt_or_ge j i with h|h
     ·exact HALL.out j h hl
     ·obtain rfl:j=i:=by omega
      exact fun h2=>he (h2.symm.trans HZ.out.symm))
    clear he
    go_wp2_with fail
    go_roundw
    case measure=>simp[intOf];omega
    case rel=>exact⟨i+1,by omega,by go_num,NX.out,trivial⟩
  ·obtain rfl:i=n:=by omega
   have hlt':¬(i:Int)<i:=by omega
   have HR:Hid (at1 (fun z=>z) l x = -1):=zD0 (yM fun j hj=>HALL.out j (by rw[HN.out];exact hj) hj)
   go_wp2_with fail
   go_ret
   exact⟨by rw[HR.out];rfl,rfl⟩
def inB (l:List Int) (x:Int):Bool:=decide (0≤at1 (fun z=>z) l x)
theorem inB_true {l:List Int} {x:Int}:inB l x=true↔∃j,∃hj:j<l.length,l[j]=x:=by
 rw[inB,decide_eq_true_iff]
 rcases vF (fun z:Int=>z) l x with⟨h1,h2⟩|⟨i,hi,h1,h2,h3⟩
 ·exact⟨fun h=>by omega,fun⟨j,hj,e⟩=>absurd e (h2 j hj)⟩
 ·exact⟨fun h=>⟨i,hi,h2⟩,fun _=>by omega⟩
theorem contains_any (v:Value) (l:List Int) (x:Int) (w:World) (h:xB w w.heap.size v l):
  Calls Tryz.prog 126 #[v,.int .i64 x] w fun e w'=>e = .returned (.bool (inB l x))∧w=w':=by
 have H:=zD0 h
 obtain⟨A,c,rfl,-,-⟩:=h.slice
 clear h
 have HI:Hid (inB l x=decide (0≤at1 (fun z=>z) l x)):=zD0 rfl
 go_enter Tryz.func126,Tryz.ntmps126
 go_wp2_with ((with_reducible show Calls _ _ _ _ _);refine(index_any _ l x _ H.out).mono ?_;rintro e w' ⟨rfl,rfl⟩;generalize at1 (fun z=>z) l x=y at HI⊢)
 go_ret
 exact⟨by rw[HI.out];rfl,rfl⟩
theorem run_grow (n:Nat) (h1:1≤n) (hn:n≤1000) (w:World):∃cp w',(∀ty:TypeId,(Builtin.append_ #[61,3] ty #[.slice none 0 0,.int .i64 n]).run Tryz.prog w = .ok (.slice (some ⟨w.heap.size,0,none⟩) n cp) w')∧n≤cp∧cp≤maxLen∧w'.ownsRow w.heap.size 3 1 (.slice (some ⟨w.heap.size,0,none⟩) 0 cp) 0 []∧Below w.heap.size w w':=by
 obtain⟨i0,hi,hz0,hz1,hz2⟩:=info_parts zAz
 have hge:=grownCap_ge w n 0 3
 have hcm:grownCap w n 0 3≤maxLen:=grownCap_le_maxLen w n 0 3 (by unfold maxLen;omega)
 refine⟨_,_,fun ty=>Lib.run_append_nil_zeros w 61 3 ty 3 i0 _ .i64 .i64 Tryz.underlying61 Tryz.underlying3 hi hz0 n h1 (by rw[hz1];omega) (by omega) (by rw[hz2];omega),hge,hcm,⟨rfl,.inr ⟨w.heap.size,_,_,rfl,Nat.le_refl _,heap_alloc_new w.drew _,Nat.zero_le _,hcm,?_,?_⟩⟩,(Below.refl _ w).drew.alloc (Nat.le_refl _) _⟩
 ·simp only[Array.size_append,size_zeroCells,Value.cells]
  simp;omega
 ·simp
set_option maxHeartbeats 4000000 in
theorem grow_any (n:Nat) (h1:1≤n) (hn:n≤1000) (w:World):
  Calls Tryz.prog 111 #[.slice none 0 0,.int .i64 n] w fun e w'=>∃A c,e = .returned (.slice A 0 c)∧w'.ownsRow w.heap.size 3 1 (.slice A 0 c) 0 []∧Below w.heap.size w w':=by
 obtain⟨cp,w1,hrun,hcp,hcx,hown,hb⟩:=run_grow n h1 hn w
 have RUN:=zD0 hrun
 have OWN:=zD0 hown
 have BB:=zD0 hb
 have hw:IntKind.i64.wrap (n:Int)=n:=kA (by omega) (by omega)
 have hneg:¬(n:Int)<0:=by omega
 have hpos:(0:Int)<n:=by omega
 have hcpb:cp≤9223372036854775807:=by unfold maxLen at hcx;omega
 clear hrun hown hb hcx h1 hn
 go_enter Tryz.func111,Tryz.ntmps111
 go_wp2_with ((with_reducible show wpList _ _ _ (⟨some 22,_,_,_,_,_⟩::_) _ _);refine Lib.wpList_append_run _ rfl (.tmp 20) (.tmp 21) _ _ rfl _ _ rfl rfl _ _ (RUN.out _) ?_)
 go_ret
 exact⟨_,_,rfl,OWN.out,BB.out⟩
set_option maxHeartbeats 8000000 in
theorem concat_any (b:Nat) (A B:Option Addr) (n c k d:Nat) (l m:List Int) (w:World) (hb:w.heap[b]? = some (.cells #[.slice A n c,.slice B k d] 61 (0,0)))
  (h1:xB w w.heap.size (.slice A n c) l) (h2:xB w w.heap.size (.slice B k d) m) (hn:n=l.length) (hk:k=m.length) (hp:1≤n+k) (hnk:n+k≤1000):
  Calls Tryz.prog 88 #[.slice (some ⟨b,0,none⟩) 2 2] w fun e w'=>∃A' c' N,e = .returned (.slice A' N c')∧N=(l++m).length∧xB w' w'.heap.size (.slice A' N c') (l++m)∧Below w.heap.size w w':=by
 have X:=zD0 hb
 have H1:=zD0 h1
 have H2:=zD0 h2
 have HLN:Hid (n=l.length∧k=m.length):=zD0 ⟨hn,hk⟩
 have HPK:Hid (1≤n+k∧n+k≤1000):=zD0 ⟨hp,hnk⟩
 obtain⟨N,hN⟩:=zD1 (n+k)
 have HN:=zD0 hN
 have hw1:IntKind.i64.wrap (n:Int)=n:=kA (by omega) (by omega)
 have hw2:IntKind.i64.wrap ((n:Int)+k)=(N:Int):=by rw[kA (by omega) (by omega)];omega
 have hb1:n≤9223372036854775807:=by omega
 have hb2:k≤9223372036854775807:=by omega
 have hd1:¬(n:Int)<0:=by omega
 have hd2:¬(N:Int)<0:=by omega
 obtain⟨i0,hi,hz0,hz1,hz2⟩:=info_parts zAz
 have I0:=zD0 hi
 have I1:=zD0 hz0
 have I2:=zD0 hz1
 have I3:=zD0 hz2
 clear hi hz0 hz1 hz2 hb h1 h2 hn hk hp hnk hN
 have TOT:Hid (∀i:Nat,i≤2→i=0∨i=1∨i=2):=zD0 (fun i h=>by omega)
 go_enter Tryz.func88,Tryz.ntmps88
 go_wp2_with fail
 go_loopw [3,11] (fun s3 s11 wr=>wr=w∧((s11 = .int .i64 0∧s3 = .int .i64 0)∨(s11 = .int .i64 1∧s3 = .int .i64 n)∨(s11 = .int .i64 2∧s3 = .int .i64 N))) (fun _ s11 _=>2-(intOf s11).toNat)
 case atStart=>exact⟨rfl,.inl ⟨rfl,rfl⟩⟩
 case round=>
  obtain⟨rfl,hc⟩:=hrel
  rcases hc with⟨rfl,rfl⟩|⟨rfl,rfl⟩|⟨rfl,rfl⟩
  ·obtain⟨k0,k1⟩:=zI X.out
   go_wp2_with fail
   go_roundw
   case measure=>simp[intOf]
   case rel=>exact⟨trivial,.inr (.inl ⟨by go_num,by go_num⟩)⟩
  ·obtain⟨k0,k1⟩:=zI X.out
   go_wp2_with fail
   go_roundw
   case measure=>simp[intOf]
   case rel=>exact⟨trivial,.inr (.inr ⟨by go_num,by go_num⟩)⟩
  ·go_wp2_with fail
   refine(grow_any N (by have:=HPK.out;have:=HN.out;omega) (by have:=HPK.out;have:=HN.out;omega) _).mono ?_
   rintro e w1 ⟨A1,c1,rfl,hown,b1⟩
   have O1:Hid (zJ 3 1 jU w1 wr.heap.size (.slice A1 0 c1) ([]:List Int)):=zD0 ⟨[],hown,rfl,Nat.zero_le _,(fun _ h=>by cases h),fun j ys x h=>by simp at h⟩
   have B1:=zD0 b1
   clear hown b1
   go_wp2_with fail
   go_loopw [6,27] (fun s6 s27 ww=>Below wr.heap.size wr ww∧∃A6 c6,(s27 = .int .i64 0∧s6 = .slice A6 0 c6∧zJ 3 1 jU ww wr.heap.size (.slice A6 0 c6) ([]:List Int))∨(s27 = .int .i64 1∧s6 = .slice A6 n c6∧zJ 3 1 jU ww wr.heap.size (.slice A6 n c6) l)∨(s27 = .int .i64 2∧s6 = .slice A6 N c6∧zJ 3 1 jU ww wr.heap.size (.slice A6 N c6) (l++m))) (fun _ s27 _=>2-(intOf s27).toNat)
   case atStart=>exact⟨B1.out,_,_,.inl ⟨rfl,rfl,O1.out⟩⟩
   case round=>
    obtain⟨hbw,A6,c6,hc⟩:=hrel
    have BW:=zD0 hbw
    have XW:=zD0 ((hbw.block _ (zA X.out)).trans X.out)
    clear hbw O1 B1
    rcases hc with⟨rfl,rfl,how⟩|⟨rfl,rfl,how⟩|⟨rfl,rfl,how⟩
    ·have OW:=zD0 how
     clear how
     obtain⟨k0,k1⟩:=zI XW.out
     obtain⟨zss,hy1,hy2,hy3,hy4,hy5,hy6,hy7⟩:=(((H1.out).below qI BW.out).more qI BW.out.size).cells (by omega) kS zZ
     obtain⟨yss,ho,hl,hmx,hs2,hr⟩:=OW.out
     have Y1:=zD0 hy1
     have Y2:=zD0 hy2
     have Y3:=zD0 hy3
     have Y4:=zD0 hy4
     have Y6:=zD0 hy6
     have Y7:=zD0 hy7
     have Z0:=zD0 ho
     have Z1:=zD0 hl
     have Z2:=zD0 hs2
     have Z3:=zD0 hr
     have YL:Hid (zss.flatten.length=n*1):=zD0 (by rw[xA _ hy2,hy1,HLN.out.1])
     clear hy1 hy2 hy3 hy4 hy5 hy6 hy7 ho hl hmx hs2 hr
     go_wp2_with ((with_reducible show wpList _ _ _ (⟨some 33,_,_,_,_,_⟩::_) _ _);refine zQ rfl (.tmp 31) (.tmp 32) _ rfl Tryz.underlying61 I0.out I1.out rfl I2.out (by decide) I3.out (by decide) rfl (by have:=Z0.out;rw[show([]:List Int).length=0 from rfl] at this;exact this) rfl YL.out Y4.out Y7.out Y6.out (by have:=HPK.out;omega) BW.out.size ?_;intro v3 w3 hown3 hgrow3;rw[Nat.zero_add] at hown3;obtain⟨A3,c3,rfl⟩:=xN hown3;have O3:=zD0 hown3;have B3:=zD0 (BW.out.grown hgrow3 BW.out.size (jE Z0.out));clear hown3 hgrow3)
     have OC:=zD0 (own_cat (R:=jU) (sz:=1) jW O3.out (by rw[show([]:List Int).length=0 from rfl,Nat.zero_add];exact HLN.out.1) Z1.out Y1.out Z2.out Y2.out Z3.out Y3.out (by have:=HPK.out;have:=HN.out;unfold maxLen;omega))
     go_roundw
     case measure=>simp[intOf]
     case rel=>exact⟨B3.out,_,_,.inr (.inl ⟨by go_num,rfl,OC.out⟩)⟩
    ·have OW:=zD0 how
     clear how
     obtain⟨k0,k1⟩:=zI XW.out
     obtain⟨zss,hy1,hy2,hy3,hy4,hy5,hy6,hy7⟩:=(((H2.out).below qI BW.out).more qI BW.out.size).cells (by omega) kS zZ
     obtain⟨yss,ho,hl,hmx,hs2,hr⟩:=OW.out
     have Y1:=zD0 hy1
     have Y2:=zD0 hy2
     have Y3:=zD0 hy3
     have Y4:=zD0 hy4
     have Y6:=zD0 hy6
     have Y7:=zD0 hy7
     have Z0:=zD0 ho
     have Z1:=zD0 hl
     have Z2:=zD0 hs2
     have Z3:=zD0 hr
     have YL:Hid (zss.flatten.length=k*1):=zD0 (by rw[xA _ hy2,hy1,HLN.out.2])
     clear hy1 hy2 hy3 hy4 hy5 hy6 hy7 ho hl hmx hs2 hr
     go_wp2_with ((with_reducible show wpList _ _ _ (⟨some 33,_,_,_,_,_⟩::_) _ _);refine zQ rfl (.tmp 31) (.tmp 32) _ rfl Tryz.underlying61 I0.out I1.out rfl I2.out (by decide) I3.out (by decide) rfl (by have:=Z0.out;rw[←HLN.out.1] at this;exact this) rfl YL.out Y4.out Y7.out Y6.out (by have:=HPK.out;omega) BW.out.size ?_;intro v3 w3 hown3 hgrow3;rw[←HN.out] at hown3;obtain⟨A3,c3,rfl⟩:=xN hown3;have O3:=zD0 hown3;have B3:=zD0 (BW.out.grown hgrow3 BW.out.size (jE Z0.out));clear hown3 hgrow3)
     have OC:=zD0 (own_cat (R:=jU) (sz:=1) jW O3.out (by rw[←HLN.out.1,←HLN.out.2];exact HN.out) Z1.out Y1.out Z2.out Y2.out Z3.out Y3.out (by have:=HPK.out;have:=HN.out;unfold maxLen;omega))
     go_roundw
     case measure=>simp[intOf]
     case rel=>exact⟨B3.out,_,_,.inr (.inr ⟨by go_num,rfl,OC.out⟩)⟩
    ·have OW:=zD0 how
     clear how
     go_wp2_with fail
     go_ret
     exact⟨_,_,_,rfl,by rw[List.length_append,←HLN.out.1,←HLN.out.2];exact HN.out,OW.out.in_ zZ,BW.out⟩
def zC6 (p:Pl) (r:Rt):Prop:=(r.exit=0→r.over.length=0)∧(r.exit≠0→0≤at1 kSg p.sigs r.exit∧r.exit≠r.entry)
set_option maxHeartbeats 8000000 in
theorem leaves_any (v y:Value) (p:Pl) (r:Rt) (w:World) (h:qF w w.heap.size v p) (h':vS w w.heap.size y r):
  Calls Tryz.prog 125 #[v,y] w fun e w'=>e = .returned (.bool (xS (zC6 p r)))∧Below w.heap.size w w':=by
 obtain⟨A2,c2,A3,c3,A4,c4,A5,c5,n2,n3,n4,n5,rfl,hm2,hm3,hm4,hm5,HCP,HIN,HN⟩:=kD h
 obtain⟨z3,z4,z5,rfl,hrt⟩:=h'
 have HRT0:=zD0 hrt
 obtain⟨C3,e3,rfl,hdl3,hdm3⟩:=hrt.path.slice
 obtain⟨C4,e4,rfl,hdl4,hdm4⟩:=hrt.over.slice
 obtain⟨C5,e5,rfl,hdl5,hdm5⟩:=hrt.flanks.slice
 unfold maxLen at hdm3 hdm4 hdm5
 obtain⟨l3,hl3⟩:=zD1 (r.path.length)
 obtain⟨l4,hl4⟩:=zD1 (r.over.length)
 obtain⟨l5,hl5⟩:=zD1 (r.flanks.length)
 have hk3:l3≤9223372036854775807:=by omega
 have hk4:l4≤9223372036854775807:=by omega
 have hk5:l5≤9223372036854775807:=by omega
 have HRT:Hid (RtIn w w.heap.size (.slice C3 l3 e3) (.slice C4 l4 e4) (.slice C5 l5 e5) r):=zD0 (by rw[hl3,hl4,hl5];exact HRT0.out)
 have HL:Hid (l3=r.path.length∧l4=r.over.length∧l5=r.flanks.length):=zD0 ⟨hl3,hl4,hl5⟩
 rw[←hl3,←hl4,←hl5]
 clear hl3 hl4 hl5 HRT0 hrt hdl3 hdm3 hdl4 hdm4 hdl5 hdm5
 have hq:=zV w (.cells #[.int .i64 p.ver,.int .i64 p.par,.slice A2 n2 c2,.slice A3 n3 c3,.slice A4 n4 c4,.slice A5 n5 c5] 27) (.cells #[.int .i64 r.id,.int .i64 r.entry,.int .i64 r.exit,.slice C3 l3 e3,.slice C4 l4 e4,.slice C5 l5 e5,.int .i64 r.timer] 64)
 go_enter Tryz.func125,Tryz.ntmps125
 go_upto_region 1 with fail
 generalize (w.alloc (.cells #[.int .i64 p.ver,.int .i64 p.par,.slice A2 n2 c2,.slice A3 n3 c3,.slice A4 n4 c4,.slice A5 n5 c5] 27)).alloc (.cells #[.int .i64 r.id,.int .i64 r.entry,.int .i64 r.exit,.slice C3 l3 e3,.slice C4 l4 e4,.slice C5 l5 e5,.int .i64 r.timer] 64)=q at hq⊢
 obtain⟨q0,q1,qb⟩:=hq
 have XP:=zD0 q0
 have XR:=zD0 q1
 have BQ:=zD0 qb
 clear q0 q1 qb
 obtain⟨m0,m1,m2,m3,m4,m5,m6⟩:=zL XR.out
 obtain⟨k0,k1,k2,k3,k4,k5⟩:=zE XP.out
 obtain⟨ex,hex⟩:=zD1 (r.exit)
 obtain⟨en,hen⟩:=zD1 (r.entry)
 have HEX:Hid (ex=r.exit∧en=r.entry):=zD0 ⟨hex,hen⟩
 rw[←hex,←hen] at XR
 rw[←hex] at m2
 rw[←hen] at m1
 clear hex hen
 by_cases h0:ex=0
 ·have hd:(ex==0)=true:=by simpa using h0
  have H0:=zD0 (HEX.out.1.symm.trans h0)
  clear h0
  by_cases h4:l4=0
  ·subst h4
   have HR:Hid (xS (zC6 p r)=true):=zD0 (jK ⟨fun _=>HL.out.2.1.symm,fun h=>absurd H0.out h⟩)
   go_wp2_with fail
   go_ret
   exact⟨by rw[HR.out];rfl,BQ.out⟩
  ·have hd4:((l4:Int)==0)=false:=by simpa using(show¬(l4:Int)=0 by omega)
   have hd5:(l4==0)=false:=by simpa using h4
   have HR:Hid (xS (zC6 p r)=false):=zD0 (qR fun h=>h4 (HL.out.2.1.trans (h.1 H0.out)))
   clear h4
   go_wp2_with fail
   go_ret
   exact⟨by rw[HR.out];rfl,BQ.out⟩
 ·have hd:(ex==0)=false:=by simpa using h0
  have H0:=zD0 (fun h=>h0 (HEX.out.1.trans h))
  clear h0
  have FA:=zD0 (find_at1 kSg p.sigs ex (0,0,0))
  go_wp2_with fail
  refine(find_sg _ p.sigs ex _ (((HIN.out.below BQ.out).more BQ.out.size).sigs)).mono ?_
  rintro e w1 ⟨rfl,b1⟩
  generalize zAk kSg p.sigs ex (0,0,0)=fv at FA⊢
  generalize zBa kSg p.sigs ex=fb at FA⊢
  obtain⟨f0,f1,f2⟩:=fv
  dsimp only
  clear k0 k1 k2 k3 k4 k5 m0 m1 m2 m3 m4 m5 m6 hd XP
  replace BQ:=zD0 (BQ.out.trans (b1.mono BQ.out.size))
  replace XR:=zD0 ((b1.block _ (zA XR.out)).trans XR.out)
  clear b1
  obtain⟨q3,hq⟩:=zD1 (w1.alloc (.cells #[.int .i64 f0,.int .i64 f1,.int .i64 f2] 115))
  have x1:=zB w1 (.cells #[.int .i64 f0,.int .i64 f1,.int .i64 f2] 115)
  have b1:=zD w1 (.cells #[.int .i64 f0,.int .i64 f1,.int .i64 f2] 115)
  rw[←hq] at x1 b1
  go_upto_region 4 with fail
  rw[←hq]
  have X5:=zD0 x1
  generalize w1.heap.size=pX5 at X5⊢
  clear x1 hq
  replace BQ:=zD0 (BQ.out.trans (b1.mono BQ.out.size))
  replace XR:=zD0 ((b1.block _ (zA XR.out)).trans XR.out)
  clear b1
  obtain⟨m0,m1,m2,m3,m4,m5,m6⟩:=zL XR.out
  rcases FA.out with⟨rfl,-,ha⟩|⟨i,hi,rfl,-,ha,-⟩
  ·have HR:Hid (xS (zC6 p r)=false):=zD0 (qR fun h=>by have h2:=(h.2 H0.out).1;rw[←HEX.out.1] at h2;omega)
   go_wp2_with fail
   go_ret
   exact⟨by rw[HR.out];rfl,BQ.out⟩
  ·by_cases he:ex=en
   ·have hd:(ex != en)=false:=by simpa using he
    have HR:Hid (xS (zC6 p r)=false):=zD0 (qR fun h=>(h.2 H0.out).2 (by rw[←HEX.out.1,←HEX.out.2];exact he))
    clear he
    go_wp2_with fail
    go_ret
    exact⟨by rw[HR.out];rfl,BQ.out⟩
   ·have hd:(ex != en)=true:=by simpa using he
    have HR:Hid (xS (zC6 p r)=true):=zD0 (jK ⟨fun h=>absurd h H0.out,fun _=>⟨by rw[←HEX.out.1];omega,by rw[←HEX.out.1,←HEX.out.2];exact he⟩⟩)
    clear he
    go_wp2_with fail
    go_ret
    exact⟨by rw[HR.out];rfl,BQ.out⟩
set_option maxHeartbeats 8000000 in
theorem flanks_any (v y:Value) (p:Pl) (l:List Jn) (w:World) (h:qF w w.heap.size v p) (h':zT w w.heap.size y l) (hr:zBo kPt p.pts):
  Calls Tryz.prog 110 #[v,y] w fun e w'=>e = .returned (.bool (xS (FlanksP p l)))∧Below w.heap.size w w':=by
 obtain⟨A2,c2,A3,c3,A4,c4,A5,c5,n2,n3,n4,n5,rfl,hm2,hm3,hm4,hm5,HCP,HIN,HN⟩:=kD h
 have HRI:=zD0 hr
 have H:=zD0 h'
 obtain⟨A,c,rfl,hcl,hcm⟩:=h'.slice
 obtain⟨n,hn⟩:=zD1 (l.length)
 have hml:n≤9223372036854775807:=by unfold maxLen at hcm;omega
 have HLN:=zD0 hn
 have HF:=zD0 (show zT w w.heap.size (.slice A n c) l by rw[hn];exact H.out)
 rw[←hn]
 clear hn H hcl hcm h' hr
 have hq0:=zB w (.cells #[.int .i64 p.ver,.int .i64 p.par,.slice A2 n2 c2,.slice A3 n3 c3,.slice A4 n4 c4,.slice A5 n5 c5] 27)
 have hqb:=zD w (.cells #[.int .i64 p.ver,.int .i64 p.par,.slice A2 n2 c2,.slice A3 n3 c3,.slice A4 n4 c4,.slice A5 n5 c5] 27)
 go_enter Tryz.func110,Tryz.ntmps110
 go_upto_region 1 with fail
 generalize w.alloc (.cells #[.int .i64 p.ver,.int .i64 p.par,.slice A2 n2 c2,.slice A3 n3 c3,.slice A4 n4 c4,.slice A5 n5 c5] 27)=q at hq0 hqb⊢
 have XP:=zD0 hq0
 have BQ:=zD0 hqb
 clear hq0 hqb
 by_cases h3:3<n
 ·have hd:(3:Int)<n:=by omega
  have HR:Hid (xS (FlanksP p l)=false):=zD0 (qR fun h=>by have:=h.n;rw[←HLN.out] at this;omega)
  clear h3
  go_wp2_with fail
  go_ret
  exact⟨by rw[HR.out];rfl,BQ.out⟩
 have hd3:¬(3:Int)<n:=by omega
 have L3:Hid (l.length≤3):=zD0 (by rw[←HLN.out];omega)
 clear h3
 go_wp2_with fail
 go_loopw [5,15] (fun s5 s15 wr=>∃(i:Nat) (z:Int),i≤n∧s15 = .int .i64 i∧s5 = .int .i64 z∧LastK kPt l i z∧(∀i' (hi:i'<i) (hl:i'<l.length),0≤at1 kPt p.pts l[i'].1∧(∀j (hj:j+1=i'),(l[j]'(by omega)).1<l[i'].1)∧1≤l[i'].2∧l[i'].2≤2)∧wr.heap[w.heap.size]? = some (.cells #[.int .i64 p.ver,.int .i64 p.par,.slice A2 n2 c2,.slice A3 n3 c3,.slice A4 n4 c4,.slice A5 n5 c5] 27 (0,0))∧Below w.heap.size w wr) (fun _ s15 _=>n-(intOf s15).toNat)
 case atStart=>exact⟨0,0,by omega,by go_num,by go_num,.inl ⟨rfl,rfl⟩,fun i' hi=>absurd hi (by omega),XP.out,BQ.out⟩
 case round=>
  obtain⟨i,z,hi,rfl,rfl,hz,hall,hxp,hb⟩:=hrel
  have HZ:=zD0 hz
  have HALL:=zD0 hall
  have BW:=zD0 hb
  clear XP BQ
  have XP:=zD0 hxp
  clear hall hb hz hxp
  by_cases hlt:i<n
  ·have hlt':(i:Int)<n:=by omega
   have hir:i<l.length:=by rw[←HLN.out];exact hlt
   obtain⟨bk,off,rfl,hbk,hc0,hc1⟩:=((HF.out.below zM BW.out).more zM BW.out.size).at hir
   obtain⟨a,b,hx⟩:∃a b,l[i]=(a,b):=⟨_,_,rfl⟩
   have HX:=zD0 hx
   rw[hx] at hc0 hc1
   have hg0:wr.cell? ⟨bk,off+i*2,none⟩=some (.int .i64 a):=hc0
   have hg1:wr.cell? ⟨bk,off+i*2+1,none⟩=some (.int .i64 b):=hc1
   clear hc0 hc1 hx hbk
   obtain⟨q,hq⟩:=zD1 (wr.alloc (.cells #[.int .i64 a,.int .i64 b] 140))
   have x1:=zB wr (.cells #[.int .i64 a,.int .i64 b] 140)
   have b1:=zD wr (.cells #[.int .i64 a,.int .i64 b] 140)
   rw[←hq] at x1 b1
   go_upto_region 7 with fail
   rw[←hq]
   have XF:=zD0 x1
   generalize wr.heap.size=p1 at XF⊢
   clear x1 hq hg0 hg1
   replace BW:=zD0 (BW.out.trans (b1.mono BW.out.size))
   replace XP:=zD0 ((b1.block _ (zA XP.out)).trans XP.out)
   clear b1
   obtain⟨g0,g1⟩:=zI XF.out
   obtain⟨k0,k1,k2,k3,k4,k5⟩:=zE XP.out
   have FA:=zD0 (find_at1 kPt p.pts a (0,0))
   go_wp2_with fail
   refine(find_pt _ p.pts a _ (((HIN.out.below BW.out).more BW.out.size).pts)).mono ?_
   rintro e w1 ⟨rfl,b1⟩
   generalize zAk kPt p.pts a (0,0)=fv at FA⊢
   generalize zBa kPt p.pts a=fb at FA⊢
   obtain⟨f0,f1⟩:=fv
   dsimp only
   clear g0 g1 k0 k1 k2 k3 k4 k5
   replace BW:=zD0 (BW.out.trans (b1.mono BW.out.size))
   replace XP:=zD0 ((b1.block _ (zA XP.out)).trans XP.out)
   replace XF:=zD0 ((b1.block _ (zA XF.out)).trans XF.out)
   clear b1
   obtain⟨q3,hq⟩:=zD1 (w1.alloc (.cells #[.int .i64 f0,.int .i64 f1] 67))
   have x1:=zB w1 (.cells #[.int .i64 f0,.int .i64 f1] 67)
   have b1:=zD w1 (.cells #[.int .i64 f0,.int .i64 f1] 67)
   rw[←hq] at x1 b1
   go_upto_region 8 with fail
   rw[←hq]
   have XX:=zD0 x1
   generalize w1.heap.size=pXX at XX⊢
   clear x1 hq
   replace BW:=zD0 (BW.out.trans (b1.mono BW.out.size))
   replace XP:=zD0 ((b1.block _ (zA XP.out)).trans XP.out)
   replace XF:=zD0 ((b1.block _ (zA XF.out)).trans XF.out)
   clear b1
   obtain⟨g0,g1⟩:=zI XF.out
   have FAIL:Hid (¬(0≤at1 kPt p.pts a∧z<a∧1≤b∧b≤2)→xS (FlanksP p l)=false):=zD0 (fun hn=>qR fun h=>hn (by
    obtain⟨h1,h2,h3,h4⟩:=h.each i hir
    rw[HX.out] at h1 h3 h4
    refine⟨h1,?_,h3,h4⟩
    rcases HZ.out with⟨rfl,hz0⟩|⟨hr,hp,hz0⟩
    ·rcases vF kPt p.pts a with⟨h5,-⟩|⟨j,hj,-,h6,-⟩
     ·dsimp only at h1;omega
     ·have:=(HRI.out j hj).1;omega
    ·have h5:=h2 (i-1) (by omega)
     rw[HX.out] at h5
     rw[hz0];exact h5))
   have NEXT:Hid (0≤at1 kPt p.pts a→z<a→1≤b→b≤2→LastK kPt l (i+1) a∧(∀i' (hi:i'<i+1) (hl:i'<l.length),0≤at1 kPt p.pts l[i'].1∧(∀j (hj:j+1=i'),(l[j]'(by omega)).1<l[i'].1)∧1≤l[i'].2∧l[i'].2≤2)):=zD0 (fun h1 h2 h3 h4=>by
    refine⟨.inr ⟨hir,by omega,by show a=l[i].1;rw[HX.out]⟩,fun i' hi' hl=>?_⟩
    rcases Nat.lt_or_ge i' i with h|h
    ·exact HALL.out i' h hl
    ·obtain rfl:i'=i:=by omega
     refine⟨by rw[HX.out];exact h1,fun j hj=>?_,by rw[HX.out];exact h3,by rw[HX.out];exact h4⟩
     rcases HZ.out with⟨rfl,hz0⟩|⟨hr,hp,hz0⟩
     ·omega
     ·obtain rfl:j=i'-1:=by omega
      rw[HX.out];rw[hz0] at h2;exact h2)
   rcases FA.out with⟨rfl,-,ha⟩|⟨j,hj,rfl,-,ha,-⟩
   ·have HR:=zD0 (FAIL.out (fun h=>by omega))
    go_wp2_with fail
    go_ret
    exact⟨by rw[HR.out];rfl,BW.out⟩
   have HA0:Hid (0≤at1 kPt p.pts a):=zD0 (by omega)
   clear ha
   by_cases h1:a≤z
   ·have d1:decide (a≤z)=true:=decide_eq_true h1
    have HR:=zD0 (FAIL.out (fun h=>by omega))
    clear h1
    go_wp2_with fail
    go_ret
    exact⟨by rw[HR.out];rfl,BW.out⟩
   have d1:decide (a≤z)=false:=decide_eq_false h1
   by_cases hb1:b=1
   ·subst hb1
    have NX:=zD0 (NEXT.out HA0.out (by omega) (by decide) (by decide))
    clear h1
    go_wp2_with fail
    go_roundw
    case measure=>simp[intOf];omega
    case rel=>exact⟨i+1,a,by omega,by go_num,rfl,NX.out.1,NX.out.2,XP.out,BW.out⟩
   have db1:(b != 1)=true:=by simpa using hb1
   by_cases hb2:b=2
   ·subst hb2
    have NX:=zD0 (NEXT.out HA0.out (by omega) (by decide) (by decide))
    clear h1 hb1 db1
    go_wp2_with fail
    go_roundw
    case measure=>simp[intOf];omega
    case rel=>exact⟨i+1,a,by omega,by go_num,rfl,NX.out.1,NX.out.2,XP.out,BW.out⟩
   have db2:(b != 2)=true:=by simpa using hb2
   have HR:=zD0 (FAIL.out (fun h=>by omega))
   clear h1 hb1 hb2
   go_wp2_with fail
   go_ret
   exact⟨by rw[HR.out];rfl,BW.out⟩
  ·obtain rfl:i=n:=by omega
   have hlt':¬(i:Int)<i:=by omega
   have HR:Hid (xS (FlanksP p l)=true):=zD0 (jK ⟨L3.out,fun a ha=>HALL.out a (by rw[HLN.out];exact ha) ha⟩)
   go_wp2_with fail
   go_ret
   exact⟨by rw[HR.out];rfl,BW.out⟩
set_option maxHeartbeats 4000000 in
theorem versions_any (v:Value) (p:Pl) (w:World) (h:qF w w.heap.size v p):
  Calls Tryz.prog 83 #[v] w fun e w'=>e = .returned (.bool (xS (VersP p)))∧Below w.heap.size w w':=by
 obtain⟨A2,c2,A3,c3,A4,c4,A5,c5,n2,n3,n4,n5,rfl,hm2,hm3,hm4,hm5,HCP,HIN,HN⟩:=kD h
 have hq0:=zB w (.cells #[.int .i64 p.ver,.int .i64 p.par,.slice A2 n2 c2,.slice A3 n3 c3,.slice A4 n4 c4,.slice A5 n5 c5] 27)
 have hqb:=zD w (.cells #[.int .i64 p.ver,.int .i64 p.par,.slice A2 n2 c2,.slice A3 n3 c3,.slice A4 n4 c4,.slice A5 n5 c5] 27)
 go_enter Tryz.func83,Tryz.ntmps83
 go_upto_region 1 with fail
 generalize w.alloc (.cells #[.int .i64 p.ver,.int .i64 p.par,.slice A2 n2 c2,.slice A3 n3 c3,.slice A4 n4 c4,.slice A5 n5 c5] 27)=q at hq0 hqb⊢
 have XP:=zD0 hq0
 have BQ:=zD0 hqb
 clear hq0 hqb
 obtain⟨k0,k1,k2,k3,k4,k5⟩:=zE XP.out
 obtain⟨a,ha⟩:=zD1 (p.ver)
 obtain⟨b,hb⟩:=zD1 (p.par)
 have HV:Hid (a=p.ver∧b=p.par):=zD0 ⟨ha,hb⟩
 rw[←ha] at k0
 rw[←hb] at k1
 clear ha hb XP
 have NO:Hid (¬(1≤a∧a≤2147483647∧0≤b∧b<a)→xS (VersP p)=false):=zD0 (fun hn=>qR fun h=>hn (by rw[HV.out.1,HV.out.2];exact⟨h.ver.1,h.ver.2,h.par.1,h.par.2⟩))
 by_cases h1:1≤a
 ·have d1:decide (1≤a)=true:=decide_eq_true h1
  by_cases h2:a≤2147483647
  ·have d2:decide (a≤2147483647)=true:=decide_eq_true h2
   by_cases h3:0≤b
   ·have d3:decide (0≤b)=true:=decide_eq_true h3
    by_cases h4:b<a
    ·have d4:decide (b<a)=true:=decide_eq_true h4
     have HR:Hid (xS (VersP p)=true):=zD0 (jK (by rw[HV.out.1,HV.out.2] at *;exact⟨⟨h1,h2⟩,⟨h3,h4⟩⟩))
     clear h1 h2 h3 h4
     go_wp2_with fail
     go_ret
     exact⟨by rw[HR.out];rfl,BQ.out⟩
    ·have d4:decide (b<a)=false:=decide_eq_false h4
     have HR:=zD0 (NO.out (fun h=>by omega))
     clear h1 h2 h3 h4
     go_wp2_with fail
     go_ret
     exact⟨by rw[HR.out];rfl,BQ.out⟩
   ·have d3:decide (0≤b)=false:=decide_eq_false h3
    have HR:=zD0 (NO.out (fun h=>by omega))
    clear h1 h2 h3
    go_wp2_with fail
    go_ret
    exact⟨by rw[HR.out];rfl,BQ.out⟩
  ·have d2:decide (a≤2147483647)=false:=decide_eq_false h2
   have HR:=zD0 (NO.out (fun h=>by omega))
   clear h1 h2
   go_wp2_with fail
   go_ret
   exact⟨by rw[HR.out];rfl,BQ.out⟩
 ·have d1:decide (1≤a)=false:=decide_eq_false h1
  have HR:=zD0 (NO.out (fun h=>by omega))
  clear h1
  go_wp2_with fail
  go_ret
  exact⟨by rw[HR.out];rfl,BQ.out⟩
end Go.Proofs.YtemmgmjhomgbbaaGreat
