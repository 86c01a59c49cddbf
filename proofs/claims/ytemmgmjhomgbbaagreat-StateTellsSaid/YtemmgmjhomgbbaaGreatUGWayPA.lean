/-
 The program's package way: the library's search by a closure, for signals and for sections.
 Conditions: none.
-/
import Derived.Test.YtemmgmjhomgbbaaGreatUGWayM
import Derived.Test.YtemmgmjhomgbbaaGreatUWayRefC
import Derived.Test.YtemmgmjhomgbbaaGreatUGTrkEq
set_option linter.unusedVariables false
set_option linter.unusedSimpArgs false
set_option maxRecDepth 100000
namespace Go.Proofs.YtemmgmjhomgbbaaGreat
open Go.RowKit
def zBm (a b:Int):Bool:=decide (a=b)
theorem sigclo_any (a b c:Int) (id:Int) (p:Nat) (w:World) (h:w.heap[p]? = some (.cells #[.int .i64 id] 3 (0,0))):
  Calls Tryz.prog 128 #[.agg #[.int .i64 a,.int .i64 b,.int .i64 c],.pointer (some ⟨p,0,none⟩)] w fun e w'=>e = .returned (.bool (zBm a id))∧Below w.heap.size w w':=by
 have hq0:=zB w (.cells #[.int .i64 a,.int .i64 b,.int .i64 c] 115)
 have hqb:=zD w (.cells #[.int .i64 a,.int .i64 b,.int .i64 c] 115)
 have hx:=(hqb.block _ (zA h)).trans h
 go_enter Tryz.func128,Tryz.ntmps128
 go_upto_region 1 with fail
 generalize w.alloc (.cells #[.int .i64 a,.int .i64 b,.int .i64 c] 115)=q at hq0 hqb hx⊢
 have QB:=zD0 hqb
 obtain⟨k0,k1,k2⟩:=zC hq0
 have r0:q.cell? ⟨p,0,none⟩=some (.int .i64 id):=cell_of_row _ _ _ _ _ _ hx
 clear hq0 hqb hx h
 by_cases he:a=id
 ·have HD:Hid (zBm a id=true):=zD0 (decide_eq_true he)
  have hb:(a==id)=true:=by simpa using he
  clear he
  go_wp2_with fail
  go_ret
  exact⟨by rw[HD.out];rfl,QB.out⟩
 ·have HD:Hid (zBm a id=false):=zD0 (decide_eq_false he)
  have hb:(a==id)=false:=by simpa using he
  clear he
  go_wp2_with fail
  go_ret
  exact⟨by rw[HD.out];rfl,QB.out⟩
theorem secclo_any (a b:Int) (A:Option Addr) (n c:Nat) (id:Int) (p:Nat) (w:World) (h:w.heap[p]? = some (.cells #[.int .i64 id] 3 (0,0))):
  Calls Tryz.prog 129 #[.agg #[.int .i64 a,.int .i64 b,.slice A n c],.pointer (some ⟨p,0,none⟩)] w fun e w'=>e = .returned (.bool (zBm a id))∧Below w.heap.size w w':=by
 have hq0:=zB w (.cells #[.int .i64 a,.int .i64 b,.slice A n c] 60)
 have hqb:=zD w (.cells #[.int .i64 a,.int .i64 b,.slice A n c] 60)
 have hx:=(hqb.block _ (zA h)).trans h
 go_enter Tryz.func129,Tryz.ntmps129
 go_upto_region 1 with fail
 generalize w.alloc (.cells #[.int .i64 a,.int .i64 b,.slice A n c] 60)=q at hq0 hqb hx⊢
 have QB:=zD0 hqb
 obtain⟨k0,k1,k2⟩:=zC hq0
 have r0:q.cell? ⟨p,0,none⟩=some (.int .i64 id):=cell_of_row _ _ _ _ _ _ hx
 clear hq0 hqb hx h
 by_cases he:a=id
 ·have HD:Hid (zBm a id=true):=zD0 (decide_eq_true he)
  have hb:(a==id)=true:=by simpa using he
  clear he
  go_wp2_with fail
  go_ret
  exact⟨by rw[HD.out];rfl,QB.out⟩
 ·have HD:Hid (zBm a id=false):=zD0 (decide_eq_false he)
  have hb:(a==id)=false:=by simpa using he
  clear he
  go_wp2_with fail
  go_ret
  exact⟨by rw[HD.out];rfl,QB.out⟩
set_option maxHeartbeats 4000000 in
theorem sigidx_any (v:Value) (l:List Sg) (p:Nat) (id:Int) (w:World) (h:xI w w.heap.size v l) (hp:w.heap[p]? = some (.cells #[.int .i64 id] 3 (0,0))):
  Calls Tryz.prog 127 #[v,.func (.func 128) #[] #[.pointer (some ⟨p,0,none⟩)]] w fun e w'=>e = .returned (.int .i64 (at1 kSg l id))∧Below w.heap.size w w':=by
 have H:=zD0 h
 have XP:=zD0 hp
 obtain⟨A,c,rfl,hcl,hcm⟩:=h.slice
 have hml:l.length≤9223372036854775807:=by unfold maxLen at hcm;omega
 obtain⟨n,hn⟩:=zD1 (l.length)
 have HN:=zD0 hn
 have HA:=zD0 (show xI w w.heap.size (.slice A n c) l by rw[hn];exact H.out)
 rw[←hn] at hml⊢
 clear hn H hcl hcm h hp
 go_enter Tryz.func127,Tryz.ntmps127
 go_wp2_with fail
 go_loopw [8] (fun s8 wr=>∃i:Nat,i≤n∧s8 = .int .i64 i∧(∀j (hj:j<i) (hl:j<l.length),kSg l[j]≠id)∧Below w.heap.size w wr) (fun s8 _=>n-(intOf s8).toNat)
 case atStart=>exact⟨0,by omega,by go_num,fun j hj=>absurd hj (by omega),Below.refl _ _⟩
 case round=>
  obtain⟨i,hi,rfl,hall,hb⟩:=hrel
  have HALL:=zD0 hall
  have BW:=zD0 hb
  clear hall hb
  by_cases hlt:i<n
  ·have hlt':(i:Int)<n:=by omega
   have hir:i<l.length:=by rw[←HN.out];exact hlt
   obtain⟨b,off,rfl,hb,hc0,hc1,hc2⟩:=((HA.out.below zP BW.out).more zP BW.out.size).at hir
   obtain⟨id0,sc,en,hs⟩:∃a b c,l[i]=(a,b,c):=⟨_,_,_,rfl⟩
   rw[hs] at hc0 hc1 hc2
   have HS:=zD0 hs
   have hg0:wr.cell? ⟨b,off+i*3,none⟩=some (.int .i64 id0):=hc0
   have hg1:wr.cell? ⟨b,off+i*3+1,none⟩=some (.int .i64 sc):=hc1
   have hg2:wr.cell? ⟨b,off+i*3+2,none⟩=some (.int .i64 en):=hc2
   clear hc0 hc1 hc2 hs hb
   have XW:=zD0 ((BW.out.block _ (zA XP.out)).trans XP.out)
   by_cases he:id0=id
   ·have HD:Hid (zBm id0 id=true):=zD0 (decide_eq_true he)
    have HR:Hid (at1 kSg l id=(i:Int)):=zD0 (vT hir (by rw[HS.out];exact he) fun j hj=>HALL.out j hj (by omega))
    clear he
    have hd:=HD.out
    go_wp2_with fail
    refine(sigclo_any id0 sc en id p wr XW.out).mono ?_
    rintro e w1 ⟨rfl,b1⟩
    have B1:=zD0 (BW.out.trans (b1.mono BW.out.size))
    clear b1
    go_wp2_with fail
    go_ret
    exact⟨by rw[HR.out];rfl,B1.out⟩
   ·have HD:Hid (zBm id0 id=false):=zD0 (decide_eq_false he)
    have NX:Hid (∀j (hj:j<i+1) (hl:j<l.length),kSg l[j]≠id):=zD0 (fun j hj hl=>by
     rcases Nat.lt_or_ge j i with h|h
     ·exact HALL.out j h hl
     ·obtain rfl:j=i:=by omega
      rw[HS.out];exact he)
    clear he
    have hd:=HD.out
    go_wp2_with fail
    refine(sigclo_any id0 sc en id p wr XW.out).mono ?_
    rintro e w1 ⟨rfl,b1⟩
    have B1:=zD0 (BW.out.trans (b1.mono BW.out.size))
    clear b1
    go_wp2_with fail
    go_roundw
    case measure=>simp[intOf];omega
    case rel=>exact⟨i+1,by omega,by go_num,NX.out,B1.out⟩
  ·obtain rfl:i=n:=by omega
   have hlt':¬(i:Int)<i:=by omega
   have HR:Hid (at1 kSg l id = -1):=zD0 (yM fun j hj=>HALL.out j (by rw[HN.out];exact hj) hj)
   go_wp2_with fail
   go_ret
   exact⟨by rw[HR.out];rfl,BW.out⟩
set_option maxHeartbeats 4000000 in
theorem secidx_any (v:Value) (l:List Sec) (p:Nat) (id:Int) (w:World) (h:zX w w.heap.size v l) (hp:w.heap[p]? = some (.cells #[.int .i64 id] 3 (0,0))):
  Calls Tryz.prog 51 #[v,.func (.func 129) #[] #[.pointer (some ⟨p,0,none⟩)]] w fun e w'=>e = .returned (.int .i64 (atS l id))∧Below w.heap.size w w':=by
 have H:=zD0 h
 have XP:=zD0 hp
 obtain⟨A,c,rfl,hcl,hcm⟩:=h.slice
 have hml:l.length≤9223372036854775807:=by unfold maxLen at hcm;omega
 obtain⟨n,hn⟩:=zD1 (l.length)
 have HN:=zD0 hn
 have HA:=zD0 (show zX w w.heap.size (.slice A n c) l by rw[hn];exact H.out)
 rw[←hn] at hml⊢
 clear hn H hcl hcm h hp
 go_enter Tryz.func51,Tryz.ntmps51
 go_wp2_with fail
 go_loopw [8] (fun s8 wr=>∃i:Nat,i≤n∧s8 = .int .i64 i∧(∀j (hj:j<i) (hl:j<l.length),l[j].1≠id)∧Below w.heap.size w wr) (fun s8 _=>n-(intOf s8).toNat)
 case atStart=>exact⟨0,by omega,by go_num,fun j hj=>absurd hj (by omega),Below.refl _ _⟩
 case round=>
  obtain⟨i,hi,rfl,hall,hb⟩:=hrel
  have HALL:=zD0 hall
  have BW:=zD0 hb
  clear hall hb
  by_cases hlt:i<n
  ·have hlt':(i:Int)<n:=by omega
   have hir:i<l.length:=by rw[←HN.out];exact hlt
   obtain⟨b,off,rfl,hb,hc0,hc1,u,hc2,hu⟩:=((HA.out.below zN BW.out).more zN BW.out.size).at hir
   obtain⟨Au,cu,rfl,-,-⟩:=hu.slice
   obtain⟨id0,pt,es,hs⟩:∃id pt es,l[i]=(id,pt,es):=⟨_,_,_,rfl⟩
   rw[hs] at hc0 hc1 hc2
   have HS:=zD0 hs
   have hg0:wr.cell? ⟨b,off+i*3,none⟩=some (.int .i64 id0):=hc0
   have hg1:wr.cell? ⟨b,off+i*3+1,none⟩=some (.int .i64 pt):=hc1
   obtain⟨ne,hne⟩:=zD1 (es.length)
   have hg2:wr.cell? ⟨b,off+i*3+2,none⟩=some (.slice Au ne cu):=by rw[hne];exact hc2
   clear hc0 hc1 hc2 hu hne hs hb
   have XW:=zD0 ((BW.out.block _ (zA XP.out)).trans XP.out)
   by_cases he:id0=id
   ·have HD:Hid (zBm id0 id=true):=zD0 (decide_eq_true he)
    have HR:Hid (atS l id=(i:Int)):=zD0 (zDd hir (by rw[HS.out];exact he) fun j hj=>HALL.out j hj (by omega))
    clear he
    have hd:=HD.out
    go_wp2_with fail
    refine(secclo_any id0 pt Au ne cu id p wr XW.out).mono ?_
    rintro e w1 ⟨rfl,b1⟩
    have B1:=zD0 (BW.out.trans (b1.mono BW.out.size))
    clear b1
    go_wp2_with fail
    go_ret
    exact⟨by rw[HR.out];rfl,B1.out⟩
   ·have HD:Hid (zBm id0 id=false):=zD0 (decide_eq_false he)
    have NX:Hid (∀j (hj:j<i+1) (hl:j<l.length),l[j].1≠id):=zD0 (fun j hj hl=>by
     rcases Nat.lt_or_ge j i with h|h
     ·exact HALL.out j h hl
     ·obtain rfl:j=i:=by omega
      rw[HS.out];exact he)
    clear he
    have hd:=HD.out
    go_wp2_with fail
    refine(secclo_any id0 pt Au ne cu id p wr XW.out).mono ?_
    rintro e w1 ⟨rfl,b1⟩
    have B1:=zD0 (BW.out.trans (b1.mono BW.out.size))
    clear b1
    go_wp2_with fail
    go_roundw
    case measure=>simp[intOf];omega
    case rel=>exact⟨i+1,by omega,by go_num,NX.out,B1.out⟩
  ·obtain rfl:i=n:=by omega
   have hlt':¬(i:Int)<i:=by omega
   have HR:Hid (atS l id = -1):=zD0 (atS_none fun j hj=>HALL.out j (by rw[HN.out];exact hj) hj)
   go_wp2_with fail
   go_ret
   exact⟨by rw[HR.out];rfl,BW.out⟩
def wkRow (F:Nat→Value) (a b:Int) (h2:Value) (t0 t1:Int) (y0 y1 y2:Value) (nr:Int) (o:Value):Array Value:=
 #[F 0,F 1,F 2,F 3,F 4,F 5,F 6,F 7,F 8,F 9,F 10,F 11,F 12,F 13,.int .i64 a,.int .i64 b,h2,.int .i64 t0,.int .i64 t1,y0,y1,y2,.int .i64 nr,o]
structure WkS (W:World) (lo g:Nat) (F:Nat→Value) (p:Pl) (r:Rt) (s:Sec) (h2:Value) (t:Jn) (y0 y1 y2:Value) (x:Wy) (o:Value) (l:List Jn):Prop where
 row:W.heap[g]? = some (.cells (wkRow F s.1 s.2.1 h2 t.1 t.2 y0 y1 y2 x.near o) 117 (0,0))
 low:lo≤g
 secs:zX W lo (F 2) p.secs
 sigs:xI W lo (F 4) p.sigs
 entry:F 7 = .int .i64 r.entry
 exit:F 8 = .int .i64 r.exit
 path:xB W lo (F 9) r.path
 over:xB W lo (F 10) r.over
 all:qV W lo (F 13) (zS r)
 ends:zT W lo h2 s.2.2
 way:kG W (g+1) y0 y1 y2 x
 outs:kC W (g+1) o l
section
variable {W W':World} {lo g:Nat} {F:Nat→Value} {p:Pl} {r:Rt} {s:Sec} {h2:Value} {t:Jn} {y0 y1 y2:Value} {x:Wy} {o:Value} {l:List Jn}
theorem WkS.lt (h:WkS W lo g F p r s h2 t y0 y1 y2 x o l):g<W.heap.size:=zA h.row
theorem WkS.size (h:WkS W lo g F p r s h2 t y0 y1 y2 x o l):lo≤W.heap.size:=Nat.le_trans h.low (Nat.le_of_lt h.lt)
theorem WkS.below (h:WkS W lo g F p r s h2 t y0 y1 y2 x o l) (hb:Below W.heap.size W W'):WkS W' lo g F p r s h2 t y0 y1 y2 x o l:=
 have b:=hb.mono h.size
 ⟨(hb.block _ h.lt).trans h.row,h.low,h.secs.below zN b,h.sigs.below zP b,h.entry,h.exit,h.path.below qI b,h.over.below qI b,h.all.below qI hb,h.ends.below zM b,h.way.below hb,h.outs.below zM hb⟩
structure WkP (W:World) (lo g:Nat) (F:Nat→Value) (p:Pl) (r:Rt) (s:Sec) (h2 y0 y1:Value) (x:Wy):Prop where
 secs:zX W lo (F 2) p.secs
 sigs:xI W lo (F 4) p.sigs
 path:xB W lo (F 9) r.path
 over:xB W lo (F 10) r.over
 all:qV W lo (F 13) (zS r)
 ends:zT W lo h2 s.2.2
 y0:qV W (g+1) y0 x.path
 y1:qV W (g+1) y1 x.over
theorem xK {α:Type} {T T':TypeId} {sz:Nat} {R:El α} {v:Value} {l:List α} {k:Nat} (hf:zAo R) (h:zJ T sz R W lo v l) (hg:W.grownBy W' (some k)) (hT:T≠T') (hk:∃cur,W.heap[k]? = some (.cells cur T' (0,0))):zJ T sz R W' lo v l:=
 qK hf h hg fun k' hk' e=>by
  subst e
  obtain⟨cur',hc',-⟩:=jL h hk'
  obtain⟨cur,hc⟩:=hk
  rw[hc] at hc'
  injection hc' with hc'
  injection hc' with _ e
  exact hT e.symm
theorem WkS.part (h:WkS W lo g F p r s h2 t y0 y1 y2 x o l) {k:Nat} {T:TypeId} (hg:W.grownBy W' (some k)) (hlo:lo≤k) (hT:3≠T) (hk:∃cur,W.heap[k]? = some (.cells cur T (0,0))):WkP W' lo g F p r s h2 y0 y1 x:=
 have b:=zCd hg hlo h.size
 ⟨h.secs.below zN b,h.sigs.below zP b,h.path.below qI b,h.over.below qI b,xK jW h.all hg hT hk,h.ends.below zM b,xK jW h.way.path hg hT hk,xK jW h.way.over hg hT hk⟩
theorem WkS.part0 (h:WkS W lo g F p r s h2 t y0 y1 y2 x o l) (hg:W.grownBy W' none):WkP W' lo g F p r s h2 y0 y1 x:=
 have b:Below W.heap.size W W':=(Below.refl _ _).grown hg (Nat.le_refl _) (fun k hk=>by cases hk)
 have h':=h.below b
 ⟨h'.secs,h'.sigs,h'.path,h'.over,h'.all,h'.ends,h'.way.path,h'.way.over⟩
theorem grown3 (W:World) (b i j k:Nat) (x y z:Value):W.grownBy (((W.setCell ⟨b,i,none⟩ x).setCell ⟨b,j,none⟩ y).setCell ⟨b,k,none⟩ z) (some b):=zB3 (zB3 (zU W b i x) (zU _ b j y)) (zU _ b k z)
theorem grown2 (W:World) (b i j:Nat) (x y:Value):W.grownBy ((W.setCell ⟨b,i,none⟩ x).setCell ⟨b,j,none⟩ y) (some b):=zB3 (zU W b i x) (zU _ b j y)
theorem grown4 (W:World) (b i j k m:Nat) (x y z u:Value):W.grownBy ((((W.setCell ⟨b,i,none⟩ x).setCell ⟨b,j,none⟩ y).setCell ⟨b,k,none⟩ z).setCell ⟨b,m,none⟩ u) (some b):=zB3 (grown3 W b i j k x y z) (zU _ b m u)
theorem WkS.setHere (h:WkS W lo g F p r s h2 t y0 y1 y2 x o l) (s':Sec) (u:Value) (he:zT W lo u s'.2.2):
  WkS (((W.setCell ⟨g,14,none⟩ (.int .i64 s'.1)).setCell ⟨g,15,none⟩ (.int .i64 s'.2.1)).setCell ⟨g,16,none⟩ u) lo g F p r s' u t y0 y1 y2 x o l∧Below lo W (((W.setCell ⟨g,14,none⟩ (.int .i64 s'.1)).setCell ⟨g,15,none⟩ (.int .i64 s'.2.1)).setCell ⟨g,16,none⟩ u):=by
 have hg:=grown3 W g 14 15 16 (.int .i64 s'.1) (.int .i64 s'.2.1) u
 have b:=zCd hg h.low h.size
 have q:=h.part hg h.low (by decide) ⟨_,h.row⟩
 exact⟨⟨qG (k:=16) (qG (k:=15) (qG (k:=14) h.row _) _) _,h.low,q.secs,q.sigs,h.entry,h.exit,q.path,q.over,q.all,he.below zM b,⟨q.y0,q.y1,xK zAc h.way.asks hg (by decide) ⟨_,h.row⟩⟩,xK zAn h.outs hg (by decide) ⟨_,h.row⟩⟩,b⟩
theorem WkS.setAt (h:WkS W lo g F p r s h2 t y0 y1 y2 x o l) (t':Jn):
  WkS ((W.setCell ⟨g,17,none⟩ (.int .i64 t'.1)).setCell ⟨g,18,none⟩ (.int .i64 t'.2)) lo g F p r s h2 t' y0 y1 y2 x o l∧Below lo W ((W.setCell ⟨g,17,none⟩ (.int .i64 t'.1)).setCell ⟨g,18,none⟩ (.int .i64 t'.2)):=by
 have hg:=grown2 W g 17 18 (.int .i64 t'.1) (.int .i64 t'.2)
 have b:=zCd hg h.low h.size
 have q:=h.part hg h.low (by decide) ⟨_,h.row⟩
 exact⟨⟨qG (k:=18) (qG (k:=17) h.row _) _,h.low,q.secs,q.sigs,h.entry,h.exit,q.path,q.over,q.all,q.ends,⟨q.y0,q.y1,xK zAc h.way.asks hg (by decide) ⟨_,h.row⟩⟩,xK zAn h.outs hg (by decide) ⟨_,h.row⟩⟩,b⟩
theorem WkS.setWay (h:WkS W lo g F p r s h2 t y0 y1 y2 x o l) (x':Wy) (u0 u1 u2:Value) (hw:kG W (g+1) u0 u1 u2 x'):
  WkS ((((W.setCell ⟨g,19,none⟩ u0).setCell ⟨g,20,none⟩ u1).setCell ⟨g,21,none⟩ u2).setCell ⟨g,22,none⟩ (.int .i64 x'.near)) lo g F p r s h2 t u0 u1 u2 x' o l∧Below lo W ((((W.setCell ⟨g,19,none⟩ u0).setCell ⟨g,20,none⟩ u1).setCell ⟨g,21,none⟩ u2).setCell ⟨g,22,none⟩ (.int .i64 x'.near)):=by
 have hg:=grown4 W g 19 20 21 22 u0 u1 u2 (.int .i64 x'.near)
 have b:=zCd hg h.low h.size
 have q:=h.part hg h.low (by decide) ⟨_,h.row⟩
 exact⟨⟨qG (k:=22) (qG (k:=21) (qG (k:=20) (qG (k:=19) h.row _) _) _) _,h.low,q.secs,q.sigs,h.entry,h.exit,q.path,q.over,q.all,q.ends,⟨xK jW hw.path hg (by decide) ⟨_,h.row⟩,xK jW hw.over hg (by decide) ⟨_,h.row⟩,xK zAc hw.asks hg (by decide) ⟨_,h.row⟩⟩,xK zAn h.outs hg (by decide) ⟨_,h.row⟩⟩,b⟩
theorem WkS.addAsk (h:WkS W lo g F p r s h2 t y0 y1 y2 x o l) (x':Wy) (u2:Value) (hx:x'.path=x.path∧x'.over=x.over∧x'.near=x.near) (hg:W.grownBy W' y2.ownBlock) (hw:jV W' (g+1) u2 x'.asks):
  WkS (W'.setCell ⟨g,21,none⟩ u2) lo g F p r s h2 t y0 y1 u2 x' o l∧Below lo W (W'.setCell ⟨g,21,none⟩ u2):=by
 obtain⟨hp,ho,hn⟩:=hx
 have b1:Below lo W W':=(Below.refl _ _).grown hg h.size (fun k hk=>Nat.le_trans h.low (Nat.le_of_succ_le (jS h.way.asks k hk)))
 have hrow:W'.heap[g]? = some (.cells (wkRow F s.1 s.2.1 h2 t.1 t.2 y0 y1 y2 x.near o) 117 (0,0)):=by
  cases hv:y2.ownBlock with
  | none=>
   rw[hv] at hg
   exact((Below.refl W.heap.size W).grown hg (Nat.le_refl _) (fun k hk=>by cases hk)).block _ h.lt |>.trans h.row
  | some k=>
   rw[hv] at hg
   obtain⟨cur,hc,-⟩:=jL h.way.asks hv
   exact heap_other (by decide) h.row hc hg
 have q:WkP W' lo g F p r s h2 y0 y1 x:=by
  cases hv:y2.ownBlock with
  | none=>rw[hv] at hg;exact h.part0 hg
  | some k=>
   rw[hv] at hg
   obtain⟨cur,hc,hk⟩:=jL h.way.asks hv
   exact h.part hg (Nat.le_trans h.low (Nat.le_of_succ_le hk)) (by decide) ⟨cur,hc⟩
 have qo:kC W' (g+1) o l:=by
  cases hv:y2.ownBlock with
  | none=>rw[hv] at hg;exact(h.below ((Below.refl _ _).grown hg (Nat.le_refl _) (fun k hk=>by cases hk))).outs
  | some k=>
   rw[hv] at hg
   obtain⟨cur,hc,hk⟩:=jL h.way.asks hv
   exact xK zAn h.outs hg (by decide) ⟨cur,hc⟩
 have hg2:=zU W' g 21 u2
 have b2:=zCd hg2 h.low (Nat.le_trans h.size b1.size)
 have k0:∃cur,W'.heap[g]? = some (.cells cur 117 (0,0)):=⟨_,hrow⟩
 refine⟨⟨?_,h.low,q.secs.below zN b2,q.sigs.below zP b2,h.entry,h.exit,q.path.below qI b2,q.over.below qI b2,xK jW q.all hg2 (by decide) k0,q.ends.below zM b2,⟨hp▸xK jW q.y0 hg2 (by decide) k0,ho▸xK jW q.y1 hg2 (by decide) k0,xK zAc hw hg2 (by decide) k0⟩,xK zAn qo hg2 (by decide) k0⟩,b1.trans b2⟩
 have:=qG (k:=21) hrow u2
 rw[hn]
 exact this
theorem WkS.addOut (h:WkS W lo g F p r s h2 t y0 y1 y2 x o l) (l':List Jn) (u:Value) (hg:W.grownBy W' o.ownBlock) (hw:kC W' (g+1) u l'):
  WkS (W'.setCell ⟨g,23,none⟩ u) lo g F p r s h2 t y0 y1 y2 x u l'∧Below lo W (W'.setCell ⟨g,23,none⟩ u):=by
 have b1:Below lo W W':=(Below.refl _ _).grown hg h.size (fun k hk=>Nat.le_trans h.low (Nat.le_of_succ_le (jS h.outs k hk)))
 have hrow:W'.heap[g]? = some (.cells (wkRow F s.1 s.2.1 h2 t.1 t.2 y0 y1 y2 x.near o) 117 (0,0)):=by
  cases hv:o.ownBlock with
  | none=>
   rw[hv] at hg
   exact((Below.refl W.heap.size W).grown hg (Nat.le_refl _) (fun k hk=>by cases hk)).block _ h.lt |>.trans h.row
  | some k=>
   rw[hv] at hg
   obtain⟨cur,hc,-⟩:=jL h.outs hv
   exact heap_other (by decide) h.row hc hg
 have q:WkP W' lo g F p r s h2 y0 y1 x:=by
  cases hv:o.ownBlock with
  | none=>rw[hv] at hg;exact h.part0 hg
  | some k=>
   rw[hv] at hg
   obtain⟨cur,hc,hk⟩:=jL h.outs hv
   exact h.part hg (Nat.le_trans h.low (Nat.le_of_succ_le hk)) (by decide) ⟨cur,hc⟩
 have qo:jV W' (g+1) y2 x.asks:=by
  cases hv:o.ownBlock with
  | none=>rw[hv] at hg;exact(h.below ((Below.refl _ _).grown hg (Nat.le_refl _) (fun k hk=>by cases hk))).way.asks
  | some k=>
   rw[hv] at hg
   obtain⟨cur,hc,hk⟩:=jL h.outs hv
   exact xK zAc h.way.asks hg (by decide) ⟨cur,hc⟩
 have hg2:=zU W' g 23 u
 have b2:=zCd hg2 h.low (Nat.le_trans h.size b1.size)
 have k0:∃cur,W'.heap[g]? = some (.cells cur 117 (0,0)):=⟨_,hrow⟩
 exact⟨⟨qG (k:=23) hrow u,h.low,q.secs.below zN b2,q.sigs.below zP b2,h.entry,h.exit,q.path.below qI b2,q.over.below qI b2,xK jW q.all hg2 (by decide) k0,q.ends.below zM b2,⟨xK jW q.y0 hg2 (by decide) k0,xK jW q.y1 hg2 (by decide) k0,xK zAc qo hg2 (by decide) k0⟩,xK zAn hw hg2 (by decide) k0⟩,b1.trans b2⟩
theorem WkS.cell (h:WkS W lo g F p r s h2 t y0 y1 y2 x o l) (k:Nat) {v:Value} (hv:(wkRow F s.1 s.2.1 h2 t.1 t.2 y0 y1 y2 x.near o)[k]? = some v):W.cell? ⟨g,k,none⟩=some v:=by
 rw[cell_of_row _ _ k _ _ _ h.row];exact hv
theorem WkS.frozen (h:WkS W lo g F p r s h2 t y0 y1 y2 x o l) (k:Nat):W.frozen? ⟨g,k,none⟩=false:=zY h.row k
end
theorem zBc:(Tryz.prog.info? 115).map (·.size)=some 3:=by kernel_rfl
set_option maxHeartbeats 4000000 in
theorem zAa {lo g:Nat} {F:Nat→Value} {p:Pl} {r:Rt} {s:Sec} {h2:Value} {t:Jn} {y0 y1 y2:Value} {x:Wy} {o:Value} {l:List Jn} (w:World) (h:WkS w lo g F p r s h2 t y0 y1 y2 x o l) (id:Int) (k:Nat) (hk:k<p.sigs.length) (hat:at1 kSg p.sigs id=(k:Int)):
  Calls Tryz.prog 112 #[.pointer (some ⟨g,0,none⟩),.int .i64 id] w fun e w'=>e = .returned (.agg #[.int .i64 p.sigs[k].1,.int .i64 p.sigs[k].2.1,.int .i64 p.sigs[k].2.2])∧Below w.heap.size w w':=by
 have WK:=zD0 h
 obtain⟨A4,c4,e4,hcl4,hcm4⟩:=h.sigs.slice
 obtain⟨n4,hn4⟩:=zD1 (p.sigs.length)
 have HF4:Hid (F 4 = .slice A4 n4 c4):=zD0 (by rw[e4,hn4])
 have HS:Hid (xI w w.heap.size (.slice A4 n4 c4) p.sigs):=zD0 (by rw[←HF4.out];exact h.sigs.more zP h.size)
 have hkn:(k:Int)<n4:=by omega
 have hm4:n4≤9223372036854775807:=by unfold maxLen at hcm4;omega
 obtain⟨id0,sc,en,hsk⟩:∃a b c,p.sigs[k]=(a,b,c):=⟨_,_,_,rfl⟩
 have HSK:Hid (p.sigs[k]=(id0,sc,en)):=zD0 hsk
 rw[hsk]
 have HAT:=zD0 hat
 have HK:=zD0 hk
 clear h e4 hcl4 hcm4 hn4 hsk hat
 have hq:=zV w (.cells #[.int .i64 id] 3) (.cells #[.int .i64 0,.int .i64 0,.int .i64 0] 115)
 go_enter Tryz.func112,Tryz.ntmps112
 go_upto_region 1 with fail
 generalize (w.alloc (.cells #[.int .i64 id] 3)).alloc (.cells #[.int .i64 0,.int .i64 0,.int .i64 0] 115)=q at hq⊢
 obtain⟨q0,q1,qb⟩:=hq
 have X0:=zD0 q0
 have X1:=zD0 q1
 have BQ:=zD0 qb
 have k4:q.cell? ⟨g,4,none⟩=some (.slice A4 n4 c4):=(WK.out.below qb).cell 4 (congrArg some HF4.out)
 clear q0 q1 qb
 go_wp2_with fail
 refine(sigidx_any _ p.sigs w.heap.size id q ((HS.out.below zP BQ.out).more zP BQ.out.size) X0.out).mono ?_
 rintro e w1 ⟨rfl,b1⟩
 rw[HAT.out]
 have B1:=zD0 (BQ.out.trans (b1.mono BQ.out.size))
 have X11:=zD0 ((b1.block _ (zA X1.out)).trans X1.out)
 clear b1 k4
 have k4:w1.cell? ⟨g,4,none⟩=some (.slice A4 n4 c4):=(WK.out.below B1.out).cell 4 (congrArg some HF4.out)
 obtain⟨bg,og,rfl,hbg,hd0,hd1,hd2⟩:=((HS.out.below zP B1.out).more zP B1.out.size).at hk
 rw[HSK.out] at hd0 hd1 hd2
 have hg0:w1.cell? ⟨bg,og+k*3,none⟩=some (.int .i64 id0):=hd0
 have hg1:w1.cell? ⟨bg,og+k*3+1,none⟩=some (.int .i64 sc):=hd1
 have hg2:w1.cell? ⟨bg,og+k*3+2,none⟩=some (.int .i64 en):=hd2
 clear hd0 hd1 hd2 hbg
 go_wp2_with ((with_reducible show wpList _ _ _ (⟨none,_,_,_,_,_⟩::_) _ _);refine zK rfl _ (.tmp 4) (.tmp 20) rfl (w.heap.size+1) rfl (c':=#[.int .i64 id0,.int .i64 sc,.int .i64 en]) rfl X11.out zBc rfl (by simp[Value.oneCell']) ?_)
 refine bodyPost_ret (results_cell_row rfl _ _ (w.heap.size+1) 115 #[.int .i64 id0,.int .i64 sc,.int .i64 en] (0,0) _ rfl (setRow_heap _ _ _ _ _ _ X11.out) Tryz.underlying115 rfl zBc) rfl ⟨rfl,below_setRow B1.out (Nat.le_succ _) _⟩
set_option maxHeartbeats 4000000 in
theorem psection_any {lo g:Nat} {F:Nat→Value} {p:Pl} {r:Rt} {s:Sec} {h2:Value} {t:Jn} {y0 y1 y2:Value} {x:Wy} {o:Value} {l:List Jn} (w:World) (h:WkS w lo g F p r s h2 t y0 y1 y2 x o l) (id:Int) (k:Nat) (hk:k<p.secs.length) (hat:atS p.secs id=(k:Int)):
  Calls Tryz.prog 113 #[.pointer (some ⟨g,0,none⟩),.int .i64 id] w fun e w'=>∃u,e = .returned (.agg #[.int .i64 p.secs[k].1,.int .i64 p.secs[k].2.1,u])∧zT w' lo u p.secs[k].2.2∧Below w.heap.size w w':=by
 have WK:=zD0 h
 obtain⟨A4,c4,e4,hcl4,hcm4⟩:=h.secs.slice
 obtain⟨n4,hn4⟩:=zD1 (p.secs.length)
 have HF4:Hid (F 2 = .slice A4 n4 c4):=zD0 (by rw[e4,hn4])
 have HS0:Hid (zX w lo (.slice A4 n4 c4) p.secs):=zD0 (by rw[←HF4.out];exact h.secs)
 have HS:Hid (zX w w.heap.size (.slice A4 n4 c4) p.secs):=zD0 (HS0.out.more zN h.size)
 have LO:=zD0 h.size
 have hkn:(k:Int)<n4:=by omega
 have hm4:n4≤9223372036854775807:=by unfold maxLen at hcm4;omega
 obtain⟨id0,pt,es,hsk⟩:∃a b c,p.secs[k]=(a,b,c):=⟨_,_,_,rfl⟩
 have HSK:Hid (p.secs[k]=(id0,pt,es)):=zD0 hsk
 rw[hsk]
 have HAT:=zD0 hat
 have HK:=zD0 hk
 clear h e4 hcl4 hcm4 hn4 hsk hat
 have hq:=zV w (.cells #[.int .i64 id] 3) (.cells #[.int .i64 0,.int .i64 0,.slice none 0 0] 60)
 go_enter Tryz.func113,Tryz.ntmps113
 go_upto_region 1 with fail
 generalize (w.alloc (.cells #[.int .i64 id] 3)).alloc (.cells #[.int .i64 0,.int .i64 0,.slice none 0 0] 60)=q at hq⊢
 obtain⟨q0,q1,qb⟩:=hq
 have X0:=zD0 q0
 have X1:=zD0 q1
 have BQ:=zD0 qb
 have k4:q.cell? ⟨g,2,none⟩=some (.slice A4 n4 c4):=(WK.out.below qb).cell 2 (congrArg some HF4.out)
 clear q0 q1 qb
 go_wp2_with fail
 refine(secidx_any _ p.secs w.heap.size id q ((HS.out.below zN BQ.out).more zN BQ.out.size) X0.out).mono ?_
 rintro e w1 ⟨rfl,b1⟩
 rw[HAT.out]
 have B1:=zD0 (BQ.out.trans (b1.mono BQ.out.size))
 have X11:=zD0 ((b1.block _ (zA X1.out)).trans X1.out)
 clear b1 k4
 have k4:w1.cell? ⟨g,2,none⟩=some (.slice A4 n4 c4):=(WK.out.below B1.out).cell 2 (congrArg some HF4.out)
 obtain⟨bg,og,rfl,hbg,hd0,hd1,u,hd2,hu⟩:=(HS0.out.below zN (B1.out.mono LO.out)).at hk
 rw[HSK.out] at hd0 hd1 hu
 obtain⟨Au,cu,rfl,-,-⟩:=hu.slice
 obtain⟨ne,hne⟩:=zD1 (es.length)
 have HU:Hid (zT w1 lo (.slice Au ne cu) es):=zD0 (by rw[hne];exact hu)
 have hg0:w1.cell? ⟨bg,og+k*3,none⟩=some (.int .i64 id0):=hd0
 have hg1:w1.cell? ⟨bg,og+k*3+1,none⟩=some (.int .i64 pt):=hd1
 have hg2:w1.cell? ⟨bg,og+k*3+2,none⟩=some (.slice Au ne cu):=by rw[hne];exact hd2
 clear hd0 hd1 hd2 hbg hne hu
 go_wp2_with ((with_reducible show wpList _ _ _ (⟨none,_,_,_,_,_⟩::_) _ _);refine zK rfl _ (.tmp 4) (.tmp 20) rfl (w.heap.size+1) rfl (c':=#[.int .i64 id0,.int .i64 pt,.slice Au ne cu]) rfl X11.out zA4 rfl (by simp[Value.oneCell']) ?_)
 refine bodyPost_ret (results_cell_row rfl _ _ (w.heap.size+1) 60 #[.int .i64 id0,.int .i64 pt,.slice Au ne cu] (0,0) _ rfl (setRow_heap _ _ _ _ _ _ X11.out) Tryz.underlying60 rfl zA4) rfl ⟨_,rfl,?_,below_setRow B1.out (Nat.le_succ _) _⟩
 exact HU.out.below zM (zCd (qB w1 (w.heap.size+1) _) (Nat.le_trans LO.out (Nat.le_succ _)) (Nat.le_trans LO.out B1.out.size))
def nextB (nx:Int) (j:Jn):Bool:=decide (j.1=nx)
def noneB (j:Jn):Bool:=decide (j=(0,0))
def exitB (sc en here:Int) (e:Nat):Bool:=decide (sc=here∧en=(e:Int))
theorem next_any (e:Nat) (j0 j1:Int) (nx:Int) (p5:Nat) (w:World) (h5:w.heap[p5]? = some (.cells #[.int .i64 nx] 3 (0,0))):
  Calls Tryz.prog 132 #[.int .i64 e,.agg #[.int .i64 j0,.int .i64 j1],.pointer (some ⟨p5,0,none⟩)] w fun e' w'=>e' = .returned (.bool (nextB nx (j0,j1)))∧Below w.heap.size w w':=by
 have hq0:=zB w (.cells #[.int .i64 j0,.int .i64 j1] 98)
 have hqb:=zD w (.cells #[.int .i64 j0,.int .i64 j1] 98)
 have hx:=(hqb.block _ (zA h5)).trans h5
 go_enter Tryz.func132,Tryz.ntmps132
 go_upto_region 1 with fail
 generalize w.alloc (.cells #[.int .i64 j0,.int .i64 j1] 98)=q at hq0 hqb hx⊢
 have QB:=zD0 hqb
 obtain⟨k0,k1⟩:=zI hq0
 have r0:q.cell? ⟨p5,0,none⟩=some (.int .i64 nx):=cell_of_row _ _ _ _ _ _ hx
 clear hq0 hqb hx h5
 by_cases he:j0=nx
 ·have HD:Hid (nextB nx (j0,j1)=true):=zD0 (decide_eq_true he)
  have hb:(j0==nx)=true:=by simpa using he
  clear he
  go_wp2_with fail
  go_ret
  exact⟨by rw[HD.out];rfl,QB.out⟩
 ·have HD:Hid (nextB nx (j0,j1)=false):=zD0 (decide_eq_false he)
  have hb:(j0==nx)=false:=by simpa using he
  clear he
  go_wp2_with fail
  go_ret
  exact⟨by rw[HD.out];rfl,QB.out⟩
theorem none_any (e:Nat) (j0 j1:Int) (w:World):
  Calls Tryz.prog 133 #[.int .i64 e,.agg #[.int .i64 j0,.int .i64 j1]] w fun e' w'=>e' = .returned (.bool (noneB (j0,j1)))∧Below w.heap.size w w':=by
 have hq0:=zB w (.cells #[.int .i64 j0,.int .i64 j1] 98)
 have hqb:=zD w (.cells #[.int .i64 j0,.int .i64 j1] 98)
 go_enter Tryz.func133,Tryz.ntmps133
 go_upto_region 1 with fail
 generalize w.alloc (.cells #[.int .i64 j0,.int .i64 j1] 98)=q at hq0 hqb⊢
 have QB:=zD0 hqb
 obtain⟨k0,k1⟩:=zI hq0
 clear hq0 hqb
 by_cases he:j0=0∧j1=0
 ·have HD:Hid (noneB (j0,j1)=true):=zD0 (decide_eq_true (Prod.ext he.1 he.2))
  have hb:∀w:World,(Op.equalIn 10000 98 (.agg #[.int .i64 j0,.int .i64 j1]) (.agg #[.int .i64 0,.int .i64 0])).run Tryz.prog w = .ok true w:=fun w=>by obtain⟨rfl,rfl⟩:=he;exact zDr 0 0 w
  clear he
  go_wp2_with fail
  go_ret
  exact⟨by rw[HD.out];rfl,QB.out⟩
 ·have HD:Hid (noneB (j0,j1)=false):=zD0 (decide_eq_false (fun h=>he (by injection h with a b;exact⟨a,b⟩)))
  have hb:∀w:World,(Op.equalIn 10000 98 (.agg #[.int .i64 j0,.int .i64 j1]) (.agg #[.int .i64 0,.int .i64 0])).run Tryz.prog w = .ok false w:=fun w=>join_ne he w
  clear he
  go_wp2_with fail
  go_ret
  exact⟨by rw[HD.out];rfl,QB.out⟩
theorem exit_any (e:Nat) (j0 j1:Int) (gid sc en here:Int) (p6 p7:Nat) (w:World) (h6:w.heap[p6]? = some (.cells #[.int .i64 gid,.int .i64 sc,.int .i64 en] 115 (0,0))) (h7:w.heap[p7]? = some (.cells #[.int .i64 here] 3 (0,0))):
  Calls Tryz.prog 134 #[.int .i64 e,.agg #[.int .i64 j0,.int .i64 j1],.pointer (some ⟨p6,0,none⟩),.pointer (some ⟨p7,0,none⟩)] w fun e' w'=>e' = .returned (.bool (exitB sc en here e))∧Below w.heap.size w w':=by
 have hq0:=zB w (.cells #[.int .i64 j0,.int .i64 j1] 98)
 have hqb:=zD w (.cells #[.int .i64 j0,.int .i64 j1] 98)
 have hx:=(hqb.block _ (zA h6)).trans h6
 have hy:=(hqb.block _ (zA h7)).trans h7
 go_enter Tryz.func134,Tryz.ntmps134
 go_upto_region 1 with fail
 generalize w.alloc (.cells #[.int .i64 j0,.int .i64 j1] 98)=q at hq0 hqb hx hy⊢
 have QB:=zD0 hqb
 obtain⟨k0,k1⟩:=zI hq0
 obtain⟨m0,m1,m2⟩:=zC hx
 have r0:q.cell? ⟨p7,0,none⟩=some (.int .i64 here):=cell_of_row _ _ _ _ _ _ hy
 clear hq0 hqb hx hy h6 h7
 by_cases he:sc=here
 ·have hb:(sc==here)=true:=by simpa using he
  by_cases hf:en=(e:Int)
  ·have HD:Hid (exitB sc en here e=true):=zD0 (decide_eq_true ⟨he,hf⟩)
   have hc:(en==(e:Int))=true:=by simpa using hf
   clear he hf
   go_wp2_with fail
   go_ret
   exact⟨by rw[HD.out];rfl,QB.out⟩
  ·have HD:Hid (exitB sc en here e=false):=zD0 (decide_eq_false (fun h=>hf h.2))
   have hc:(en==(e:Int))=false:=by simpa using hf
   clear he hf
   go_wp2_with fail
   go_ret
   exact⟨by rw[HD.out];rfl,QB.out⟩
 ·have HD:Hid (exitB sc en here e=false):=zD0 (decide_eq_false (fun h=>he h.1))
  have hb:(sc==here)=false:=by simpa using he
  clear he
  go_wp2_with fail
  go_ret
  exact⟨by rw[HD.out];rfl,QB.out⟩
end Go.Proofs.YtemmgmjhomgbbaaGreat
