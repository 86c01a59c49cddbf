/-
 The document's own functions of package track: At, Shaped, Lie, Great.
 Conditions: none.
-/
import Derived.Test.YtemmgmjhomgbbaaGreatUGBase
import Derived.Laws.OwnMore
import Derived.Laws.AppendOwn
import Derived.Laws.AppendOwnNone
set_option linter.unusedVariables false
set_option linter.unusedSimpArgs false
set_option maxRecDepth 100000
namespace Go.Proofs.YtemmgmjhomgbbaaGreat
open Go.RowKit
def atS (l:List Sec) (id:Int):Int:=match l.findIdx? (fun s=>decide (s.1=id)) with
 | some i=>(i:Int)
 | none=>-1
theorem find_none {l:List Sec} {id:Int}:(∀j (h:j<l.length),l[j].1≠id)→l.findIdx? (fun s=>decide (s.1=id))=none:=fun h=>by
 rw[List.findIdx?_eq_none_iff]
 intro x hx
 obtain⟨j,hj,rfl⟩:=List.getElem_of_mem hx
 exact decide_eq_false (h j hj)
theorem find_some {l:List Sec} {id:Int} {i:Nat} (hi:i<l.length) (he:l[i].1=id) (h:∀j (h:j<i),(l[j]'(by omega)).1≠id):l.findIdx? (fun s=>decide (s.1=id))=some i:=by
 rw[List.findIdx?_eq_some_iff_getElem]
 exact⟨hi,decide_eq_true he,fun j hj=>by simpa using h j hj⟩
theorem atS_none {l:List Sec} {id:Int} (h:∀j (h:j<l.length),l[j].1≠id):atS l id = -1:=by rw[atS,find_none h]
theorem zDd {l:List Sec} {id:Int} {i:Nat} (hi:i<l.length) (he:l[i].1=id) (h:∀j (h:j<i),(l[j]'(by omega)).1≠id):atS l id=(i:Int):=by rw[atS,find_some hi he h]
def qQ (s:Sec):Bool:=if s.2.1=0 then decide (s.2.2.length=2) else decide (1≤s.2.1)&&(decide (s.2.1≤99)&&decide (s.2.2.length=3))
def xG (pt a b:Int):Int:=
 if pt=0 then (if a=0∧b=1∨a=1∧b=0 then 0 else -1)
 else if a=0∧(b=1∨b=2) then b else if b=0∧(a=1∨a=2) then a else -1
theorem zAf (v:Value) (l:List Sec) (id:Int) (w:World) (h:zX w w.heap.size v l):
  Calls Tryz.prog 94 #[v,.int .i64 id] w fun e w'=>e = .returned (.int .i64 (atS l id))∧w'=w:=by
 obtain⟨A,c,n,rfl,hml,HN,HA⟩:=kN h
 go_enter Tryz.func94,Tryz.ntmps94
 go_wp2_with fail
 go_loopw [5] (fun s5 wr=>∃i:Nat,i≤n∧s5 = .int .i64 i∧(∀j (hj:j<i) (hl:j<l.length),l[j].1≠id)∧wr=w) (fun s5 _=>n-(intOf s5).toNat)
 case atStart=>exact⟨0,by omega,by go_num,fun j hj=>absurd hj (by omega),rfl⟩
 case round=>
  obtain⟨i,hi,rfl,hall,rfl⟩:=hrel
  have HALL:=zD0 hall
  clear hall
  by_cases hlt:i<n
  ·have hlt':(i:Int)<n:=by omega
   have hir:i<l.length:=by rw[←HN.out];exact hlt
   obtain⟨b,off,rfl,hb,hc0,-⟩:=HA.out.at hir
   have hcell:wr.cell? ⟨b,off+i*3,none⟩=some (.int .i64 l[i].1):=by simpa using hc0
   obtain⟨z,hz⟩:=zD1 (l[i].1)
   rw[←hz] at hcell
   have HZ:=zD0 hz
   clear hc0 hz
   by_cases he:z=id
   ·have HR:Hid (atS l id=(i:Int)):=zD0 (zDd hir (by rw[←HZ.out];exact he) fun j hj=>HALL.out j hj (by omega))
    go_wp2_with fail
    go_ret
    exact⟨by rw[HR.out];rfl,rfl⟩
   ·have HS:Hid (∀j (hj:j<i+1) (hl:j<l.length),l[j].1≠id):=zD0 (fun j hj hl=>by
     rcases Nat.lt_or_ge j i with h|h
     ·exact HALL.out j h hl
     ·obtain rfl:j=i:=by omega
      rw[←HZ.out];exact he)
    go_wp2_with fail
    go_roundw
    case measure=>simp[intOf];omega
    case rel=>exact⟨i+1,by omega,by go_num,HS.out,trivial⟩
  ·obtain rfl:i=n:=by omega
   have hlt':¬(i:Int)<i:=by omega
   have HR:Hid (atS l id = -1):=zD0 (atS_none fun j hj=>HALL.out j (by rw[HN.out];exact hj) hj)
   go_wp2_with fail
   go_ret
   exact⟨by rw[HR.out];rfl,rfl⟩
theorem rshaped_any (v:Value) (s:Sec) (w:World) (h:SecV w w.heap.size v s):
  Calls Tryz.prog 92 #[v] w fun e w'=>e = .returned (.bool (qQ s))∧Below w.heap.size w w':=by
 obtain⟨u,rfl,hu⟩:=h
 obtain⟨A,c,rfl,-,-⟩:=hu.slice
 obtain⟨id,pt,l⟩:=s
 obtain⟨n,hn⟩:=zD1 (l.length)
 have HS:Hid (qQ (id,pt,l)=if pt=0 then decide (n=2) else decide (1≤pt)&&(decide (pt≤99)&&decide (n=3))):=zD0 (by rw[hn];rfl)
 have HB:=zD0 (zD w (.cells #[.int .i64 id,.int .i64 pt,.slice A n c] 60))
 dsimp only at hu⊢
 rw[←hn]
 clear hu hn
 by_cases h0:pt=0
 ·subst h0
  have hs:qQ (id,0,l)=((n:Int)==2):=by rw[HS.out,if_pos rfl,Bool.eq_iff_iff,decide_eq_true_iff,beq_iff_eq];omega
  have HR:=zD0 hs
  clear hs
  go_enter Tryz.func92,Tryz.ntmps92
  go_wp2_with fail
  go_ret
  exact⟨by rw[HR.out];rfl,HB.out⟩
 ·by_cases h1:1≤pt
  ·by_cases h2:pt≤99
   ·have hs:qQ (id,pt,l)=((n:Int)==3):=by
     rw[HS.out,if_neg h0,decide_eq_true h1,decide_eq_true h2,Bool.true_and,Bool.true_and,Bool.eq_iff_iff,decide_eq_true_iff,beq_iff_eq];omega
    have HR:=zD0 hs
    clear hs
    go_enter Tryz.func92,Tryz.ntmps92
    go_wp2_with fail
    go_ret
    exact⟨by rw[HR.out];rfl,HB.out⟩
   ·have hs:qQ (id,pt,l)=false:=by rw[HS.out,if_neg h0,decide_eq_false h2,Bool.false_and,Bool.and_false]
    have hd2:decide (pt≤99)=false:=decide_eq_false h2
    have HR:=zD0 hs
    clear hs
    go_enter Tryz.func92,Tryz.ntmps92
    go_wp2_with fail
    go_ret
    exact⟨by rw[HR.out];rfl,HB.out⟩
  ·have hs:qQ (id,pt,l)=false:=by rw[HS.out,if_neg h0,decide_eq_false h1,Bool.false_and]
   have hd1:decide (1≤pt)=false:=decide_eq_false h1
   have HR:=zD0 hs
   clear hs
   go_enter Tryz.func92,Tryz.ntmps92
   go_wp2_with fail
   go_ret
   exact⟨by rw[HR.out];rfl,HB.out⟩
set_option maxHeartbeats 4000000 in
theorem rlie_any (v:Value) (s:Sec) (a b:Int) (w:World) (h:SecV w w.heap.size v s):
  Calls Tryz.prog 100 #[v,.int .i64 a,.int .i64 b] w fun e w'=>e = .returned (.int .i64 (xG s.2.1 a b))∧Below w.heap.size w w':=by
 obtain⟨u,rfl,hu⟩:=h
 obtain⟨A,c,rfl,-,-⟩:=hu.slice
 obtain⟨id,pt,l⟩:=s
 obtain⟨n,hn⟩:=zD1 (l.length)
 have HB:=zD0 (fun p:Int=>zD w (.cells #[.int .i64 id,.int .i64 p,.slice A n c] 60))
 dsimp only at hu⊢
 rw[←hn]
 clear hu hn
 rcases(show a=0∨a=1∨a=2∨((a==0)=false∧(a==1)=false∧(a==2)=false) from by simp only[beq_eq_false_iff_ne];omega) with rfl|rfl|rfl|⟨ha0,ha1,ha2⟩ <;>
 rcases(show b=0∨b=1∨b=2∨((b==0)=false∧(b==1)=false∧(b==2)=false) from by simp only[beq_eq_false_iff_ne];omega) with rfl|rfl|rfl|⟨hb0,hb1,hb2⟩ <;>
 rcases(show pt=0∨¬pt=0 from by omega) with rfl|h0 <;>
 (go_enter Tryz.func100,Tryz.ntmps100
  go_wp2_with fail
  go_ret
  exact⟨by simp_all [xG],HB.out _⟩)
def Few (l:List Sec):Prop:=l.length≤40∧∀s∈l,s.2.2.length≤20
theorem vH:(Tryz.prog.info? 98).map (·.size)=some 2:=by kernel_rfl
def jI (l:List Sec) (s:Sec) (k:Nat):Bool:=
 if (s.2.2.getD k (0,0)).1=0∧(s.2.2.getD k (0,0)).2=0 then true
 else if atS l (s.2.2.getD k (0,0)).1<0∨(s.2.2.getD k (0,0)).2<0∨((l.getD (atS l (s.2.2.getD k (0,0)).1).toNat (0,0,[])).2.2.length:Int)≤(s.2.2.getD k (0,0)).2∨((s.2.2.getD k (0,0)).1=s.1∧(s.2.2.getD k (0,0)).2=(k:Int)) then false
 else decide ((l.getD (atS l (s.2.2.getD k (0,0)).1).toNat (0,0,[])).2.2.getD (s.2.2.getD k (0,0)).2.toNat (0,0)=(s.1,(k:Int)))
theorem vE (l:List Sec) (id:Int):atS l id = -1∨∃(i:Nat) (h:i<l.length),atS l id=(i:Int)∧l[i].1=id:=by
 rw[atS]
 cases h:l.findIdx? (fun s=>decide (s.1=id)) with
 | none=>exact .inl rfl
 | some i=>
  obtain⟨hi,he,_⟩:=List.findIdx?_eq_some_iff_getElem.1 h
  exact .inr ⟨i,hi,rfl,of_decide_eq_true he⟩
theorem zB4 {l:List Sec} {s:Sec} {k:Nat} {a b:Int} (hj:s.2.2.getD k (0,0)=(a,b)):
  jI l s k=if a=0∧b=0 then true else if atS l a<0∨b<0∨((l.getD (atS l a).toNat (0,0,[])).2.2.length:Int)≤b∨(a=s.1∧b=(k:Int)) then false
   else decide ((l.getD (atS l a).toNat (0,0,[])).2.2.getD b.toNat (0,0)=(s.1,(k:Int))):=by rw[jI,hj]
set_option maxHeartbeats 8000000 in
theorem rjoined_any (v sv:Value) (l:List Sec) (s:Sec) (k:Nat) (w:World) (h:zX w w.heap.size v l) (hs:SecV w w.heap.size sv s) (hk:k<s.2.2.length):
  Calls Tryz.prog 93 #[v,sv,.int .i64 (k:Int)] w fun e w'=>e = .returned (.bool (jI l s k))∧Below w.heap.size w w':=by
 have H:=zD0 h
 obtain⟨A,c,rfl,hcl,hcm⟩:=h.slice
 obtain⟨u,rfl,hu⟩:=hs
 obtain⟨Au,cu,rfl,hul,hum⟩:=hu.slice
 obtain⟨id,pt,es⟩:=s
 dsimp only at hu hk hul⊢
 obtain⟨n,hn⟩:=zD1 (l.length)
 have HN:=zD0 hn
 rw[←hn]
 have HA:=zD0 (show zX w w.heap.size (.slice A n c) l by rw[hn];exact H.out)
 obtain⟨bk,ok_,rfl,hbk,hj0,hj1⟩:=hu.at hk
 have hjd:es.getD k (0,0)=es[k]:=by rw[List.getD_eq_getElem?_getD,List.getElem?_eq_getElem hk];rfl
 obtain⟨a,b,hab⟩:∃a b,es[k]=(a,b):=⟨_,_,rfl⟩
 have HJ:=zD0 (zB4 (l:=l) (s:=(id,pt,es)) (k:=k) (hjd.trans hab))
 rw[hab] at hj0 hj1
 dsimp only at hj0 hj1
 obtain⟨ne,hne⟩:=zD1 (es.length)
 have hkn:(k:Int)<ne:=by rw[hne];omega
 have hnm:ne≤9223372036854775807:=by unfold maxLen at hum;omega
 rw[←hne]
 have hx0:w.cell? ⟨bk,ok_+k*2,none⟩=some (.int .i64 a):=hj0
 have hx1:w.cell? ⟨bk,ok_+k*2+1,none⟩=some (.int .i64 b):=hj1
 obtain⟨q4,hq4⟩:=zD1 (w.alloc (.cells #[.int .i64 id,.int .i64 pt,.slice (some ⟨bk,ok_,none⟩) ne cu] 60))
 have hx4:=zB w (.cells #[.int .i64 id,.int .i64 pt,.slice (some ⟨bk,ok_,none⟩) ne cu] 60)
 have hb4:=zD w (.cells #[.int .i64 id,.int .i64 pt,.slice (some ⟨bk,ok_,none⟩) ne cu] 60)
 rw[←hq4] at hx4 hb4
 have hy0:=(hb4.cell (p:=⟨bk,ok_+k*2,none⟩) hbk).trans hx0
 have hy1:=(hb4.cell (p:=⟨bk,ok_+k*2+1,none⟩) hbk).trans hx1
 have Q4:=zD0 hq4
 clear hj0 hj1 hx0 hx1 hjd hab hne hcl hcm hul hum hu hq4 hk hn h
 go_enter Tryz.func93,Tryz.ntmps93
 go_upto_region 1 with fail
 rw[←Q4.out]
 clear Q4
 obtain⟨k0,k1,k2⟩:=zC hx4
 go_upto_region 2 with fail
 have hx7:=zB q4 (.cells #[.int .i64 a,.int .i64 b] 98)
 have hb7:=zD q4 (.cells #[.int .i64 a,.int .i64 b] 98)
 obtain⟨q,hq⟩:=zD1 (q4.alloc (.cells #[.int .i64 a,.int .i64 b] 98))
 rw[←hq] at hx7 hb7⊢
 have X7:=zD0 hx7
 have X4:=zD0 ((hb7.block _ (zA hx4)).trans hx4)
 have QB:=zD0 (hb4.trans (hb7.mono hb4.size))
 have QD:=zD0 (Below.refl q.heap.size q).drew
 generalize q4.heap.size=p7 at X7⊢
 clear hx7 hb7 hx4 hb4 hy0 hy1 k0 k1 k2 hq hbk
 obtain⟨k0,k1⟩:=zI X7.out
 go_cut [22] from 15 to 22 (fun s22 wx=>s22 = .bool (decide (a=0∧b=0))∧wx=q)
 case first=>
  by_cases ha:a=0
  ·subst ha
   by_cases hb:b=0
   ·subst hb
    go_wp2_with fail
    go_meet
    exact⟨by simp,rfl⟩
   ·have hbb:(b==0)=false:=by simpa using hb
    have HD:Hid (decide ((0:Int)=0∧b=0)=false):=zD0 (decide_eq_false fun h=>hb h.2)
    clear hb
    go_wp2_with fail
    go_meet
    exact⟨by rw[HD.out],rfl⟩
  ·have haa:(a==0)=false:=by simpa using ha
   have HD:Hid (decide (a=0∧b=0)=false):=zD0 (decide_eq_false fun h=>ha h.1)
   clear ha
   go_wp2_with fail
   go_meet
   exact⟨by rw[HD.out],rfl⟩
 case rest=>
  obtain⟨rfl,rfl⟩:=hcut
  obtain⟨q,hq⟩:∃q:World,q=wc:=⟨_,rfl⟩
  subst hq
  by_cases hz:a=0∧b=0
  ·have HR:Hid (jI l (id,pt,es) k=true):=zD0 (by rw[HJ.out,if_pos hz])
   rw[decide_eq_true hz]
   clear hz
   go_wp2_with fail
   go_ret
   exact⟨by rw[HR.out];rfl,QB.out⟩
  ·rw[decide_eq_false hz]
   have HJ2:=zD0 (HJ.out.trans (if_neg hz))
   clear hz
   go_wp2_with fail
   refine(zAf _ l a q ((HA.out.below zN QB.out).more zN QB.out.size)).mono ?_
   rintro e w' ⟨rfl,hw'⟩
   obtain rfl:q=w':=hw'.symm
   clear k0 k1
   rcases vE l a with hi|⟨i,hil,hi,hid⟩
   ·have HR:Hid (jI l (id,pt,es) k=false):=zD0 (by rw[HJ2.out,if_pos (.inl (by omega))])
    rw[hi]
    clear hi
    go_wp2_with fail
    refine wp_region_held_drew (S:=fun v=>Below q.heap.size q v) (by kernel_rfl) QD.out (fun zD2=>?_)
    refine tk 0 zD2 ?_;refine tk 1 zD2 ?_;refine tk 2 zD2 ?_;refine tks 3 zD2 ?_;refine tks 4 zD2 ?_;refine tks 5 zD2 ?_;refine tk 6 zD2 ?_;refine tk 7 zD2 ?_;refine tks 8 zD2 ?_;refine tks 9 zD2 ?_;refine tks 10 zD2 ?_;refine tks 11 zD2 ?_;refine tks 12 zD2 ?_;refine tks 13 zD2 ?_;refine tks 14 zD2 ?_;refine tks 15 zD2 ?_;refine tks 16 zD2 ?_;refine tk 17 zD2 ?_;refine tk 18 zD2 ?_;refine tks 19 zD2 ?_;refine tks 20 zD2 ?_;refine tks 21 zD2 ?_;refine tks 22 zD2 ?_;refine tks 23 zD2 ?_;refine tks 24 zD2 ?_;refine tks 25 zD2 ?_;refine tks 26 zD2 ?_;refine tks 27 zD2 ?_;refine tks 28 zD2 ?_;refine tks 29 zD2 ?_;refine tk 30 zD2 ?_
    refine wpAnyH_done (by kernel_rfl) ?_ _
    have HB:=zD0 (QB.out.trans (QD.out.mono QB.out.size))
    go_wp2_with fail
    go_ret
    exact⟨by rw[HR.out];rfl,HB.out⟩
   ·obtain⟨bl,ol,rfl,hbl,-,-,ul,hc2,hul⟩:=((HA.out.below zN QB.out).more zN QB.out.size).at hil
    obtain⟨Al,cl,rfl,hlc,hlm⟩:=hul.slice
    obtain⟨ml,hml⟩:=zD1 (l[i].2.2.length)
    have hgd:(l.getD i (0,0,[])).2.2=l[i].2.2:=by rw[List.getD_eq_getElem?_getD,List.getElem?_eq_getElem hil];rfl
    have HLS:Hid (ml=l[i].2.2.length):=zD0 hml
    have HUL:Hid (zT q q.heap.size (.slice Al ml cl) l[i].2.2):=zD0 (by rw[hml];exact hul)
    rw[←hml] at hc2 hlc
    have hmlm:ml≤9223372036854775807:=by unfold maxLen at hlm;omega
    have hin:(i:Int)<n:=by rw[HN.out];omega
    have hi0:decide ((i:Int)<0)=false:=decide_eq_false (by omega)
    have LBL:=zD0 hbl
    have LC2:Hid (q.cell? ⟨bl,ol+i*3+2,none⟩=some (.slice Al ml cl)):=zD0 hc2
    obtain⟨rf,hrf⟩:∃rf:Bool,rf=decide (b<0∨(ml:Int)≤b∨(a=id∧b=(k:Int))):=⟨_,rfl⟩
    have HR2:=zD0 hrf
    have HJ3:Hid (jI l (id,pt,es) k=if b<0∨(ml:Int)≤b∨(a=id∧b=(k:Int)) then false else decide (l[i].2.2.getD b.toNat (0,0)=(id,(k:Int)))):=zD0 (by
     rw[HJ2.out,hi,Int.toNat_natCast,hgd,hml]
     by_cases hc:b<0∨(l[i].2.2.length:Int)≤b∨(a=id∧b=(k:Int))
     ·rw[if_pos hc,if_pos (.inr hc)]
     ·rw[if_neg hc,if_neg (fun h=>h.elim (fun h=>absurd h (by omega)) hc)])
    rw[hi]
    clear hi hc2 hul hlm hlc hml hgd hbl hrf
    go_upto_region 5 with fail
    go_cut [57] from 27 to 57 (fun s57 wx=>s57 = .bool rf∧Below q.heap.size q wx)
    case first=>
     by_cases hb0:b<0
     ·have HRF:Hid (rf=true):=zD0 (by rw[HR2.out,decide_eq_true (.inl hb0)])
      have hbd:decide (b<0)=true:=decide_eq_true hb0
      refine wp_region_held_drew (S:=fun v=>Below q.heap.size q v) (by kernel_rfl) QD.out (fun zD2=>?_)
      refine tk 0 zD2 ?_;refine tk 1 zD2 ?_;refine tk 2 zD2 ?_
      refine wpAnyH_take (i:=3) (v:=?_) rfl (by kernel_rfl) (by kernel_rfl) (by kernel_rfl) (fun _ _ _ h=>h) (Or.inl ⟨by rfl,?_⟩) zD2 ?_
      rotate_left
      ·intro w' hSw;obtain⟨cu0,cu1⟩:=zI ((hSw.block _ (zA X7.out)).trans X7.out);obtain⟨cv0,cv1,cv2⟩:=zC ((hSw.block _ (zA X4.out)).trans X4.out);go_simp;try with_reducible rfl
      simp only[zn,Act.put]
      refine wpAnyH_take (i:=4) (v:=?_) rfl (by kernel_rfl) (by kernel_rfl) (by kernel_rfl) (fun _ _ _ h=>h) (Or.inl ⟨by rfl,?_⟩) zD2 ?_
      rotate_left
      ·intro w' hSw;obtain⟨cu0,cu1⟩:=zI ((hSw.block _ (zA X7.out)).trans X7.out);obtain⟨cv0,cv1,cv2⟩:=zC ((hSw.block _ (zA X4.out)).trans X4.out);go_simp;try with_reducible rfl
      simp only[zn,Act.put]
      refine tk 5 zD2 ?_;refine tk 6 zD2 ?_;refine tk 7 zD2 ?_;refine tks 8 zD2 ?_;refine tks 9 zD2 ?_;refine tks 10 zD2 ?_;refine tks 11 zD2 ?_;refine tks 12 zD2 ?_;refine tks 13 zD2 ?_;refine tks 14 zD2 ?_;refine tks 15 zD2 ?_;refine tks 16 zD2 ?_;refine tk 17 zD2 ?_;refine tk 18 zD2 ?_;refine tks 19 zD2 ?_;refine tks 20 zD2 ?_;refine tks 21 zD2 ?_;refine tks 22 zD2 ?_;refine tks 23 zD2 ?_;refine tks 24 zD2 ?_;refine tks 25 zD2 ?_;refine tks 26 zD2 ?_;refine tks 27 zD2 ?_;refine tks 28 zD2 ?_;refine tks 29 zD2 ?_;refine tk 30 zD2 ?_
      refine wpAnyH_done (by kernel_rfl) ?_ _
      go_wp2_with fail
      go_meet
      exact⟨by rw[HRF.out],QD.out⟩
     ·have hbd:decide (b<0)=false:=decide_eq_false hb0
      by_cases hbm:(ml:Int)≤b
      ·have HRF:Hid (rf=true):=zD0 (by rw[HR2.out,decide_eq_true (.inr (.inl hbm))])
       have hbmd:decide ((ml:Int)≤b)=true:=decide_eq_true hbm
       refine wp_region_held_drew (S:=fun v=>Below q.heap.size q v) (by kernel_rfl) QD.out (fun zD2=>?_)
       refine tk 0 zD2 ?_;refine tk 1 zD2 ?_;refine tk 2 zD2 ?_
       refine wpAnyH_take (i:=3) (v:=?_) rfl (by kernel_rfl) (by kernel_rfl) (by kernel_rfl) (fun _ _ _ h=>h) (Or.inl ⟨by rfl,?_⟩) zD2 ?_
       rotate_left
       ·intro w' hSw;obtain⟨cu0,cu1⟩:=zI ((hSw.block _ (zA X7.out)).trans X7.out);obtain⟨cv0,cv1,cv2⟩:=zC ((hSw.block _ (zA X4.out)).trans X4.out);go_simp;try with_reducible rfl
       simp only[zn,Act.put]
       refine wpAnyH_take (i:=4) (v:=?_) rfl (by kernel_rfl) (by kernel_rfl) (by kernel_rfl) (fun _ _ _ h=>h) (Or.inl ⟨by rfl,?_⟩) zD2 ?_
       rotate_left
       ·intro w' hSw;obtain⟨cu0,cu1⟩:=zI ((hSw.block _ (zA X7.out)).trans X7.out);obtain⟨cv0,cv1,cv2⟩:=zC ((hSw.block _ (zA X4.out)).trans X4.out);go_simp;try with_reducible rfl
       simp only[zn,Act.put]
       refine tk 5 zD2 ?_;refine tk 6 zD2 ?_;refine tk 7 zD2 ?_
       refine wpAnyH_take (i:=8) (v:=?_) rfl (by kernel_rfl) (by kernel_rfl) (by kernel_rfl) (fun _ _ _ h=>h) (Or.inl ⟨by rfl,?_⟩) zD2 ?_
       rotate_left
       ·intro w' hSw;obtain⟨cu0,cu1⟩:=zI ((hSw.block _ (zA X7.out)).trans X7.out);obtain⟨cv0,cv1,cv2⟩:=zC ((hSw.block _ (zA X4.out)).trans X4.out);go_simp;try with_reducible rfl
       simp only[zn,Act.put]
       refine wpAnyH_take (i:=9) (v:=?_) rfl (by kernel_rfl) (by kernel_rfl) (by kernel_rfl) (fun _ _ _ h=>h) (Or.inl ⟨by rfl,?_⟩) zD2 ?_
       rotate_left
       ·intro w' hSw;obtain⟨cu0,cu1⟩:=zI ((hSw.block _ (zA X7.out)).trans X7.out);obtain⟨cv0,cv1,cv2⟩:=zC ((hSw.block _ (zA X4.out)).trans X4.out);go_simp;try with_reducible rfl
       simp only[zn,Act.put]
       refine tk 10 zD2 ?_;refine tk 11 zD2 ?_;refine tk 12 zD2 ?_;refine tk 13 zD2 ?_;refine tkc 14 zD2 (fun w' hSw=>(hSw.cell (p:=⟨bl,ol+i*3+2,none⟩) LBL.out).trans LC2.out) ?_;refine tk 15 zD2 ?_;refine tk 16 zD2 ?_;refine tk 17 zD2 ?_;refine tk 18 zD2 ?_;refine tks 19 zD2 ?_;refine tks 20 zD2 ?_;refine tks 21 zD2 ?_;refine tks 22 zD2 ?_;refine tks 23 zD2 ?_;refine tks 24 zD2 ?_;refine tks 25 zD2 ?_;refine tks 26 zD2 ?_;refine tks 27 zD2 ?_;refine tks 28 zD2 ?_;refine tks 29 zD2 ?_;refine tk 30 zD2 ?_
       refine wpAnyH_done (by kernel_rfl) ?_ _
       go_wp2_with fail
       go_meet
       exact⟨by rw[HRF.out],QD.out⟩
      ·have hbmd:decide ((ml:Int)≤b)=false:=decide_eq_false hbm
       by_cases hai:a=id
       ·have haid:(a==id)=true:=by simpa using hai
        by_cases hbk:b=(k:Int)
        ·have hbkd:(b==(k:Int))=true:=by simpa using hbk
         have HRF:Hid (rf=true):=zD0 (by rw[HR2.out,decide_eq_true (.inr (.inr ⟨hai,hbk⟩))])
         clear hai hbk
         refine wp_region_held_drew (S:=fun v=>Below q.heap.size q v) (by kernel_rfl) QD.out (fun zD2=>?_)
         refine tk 0 zD2 ?_;refine tk 1 zD2 ?_;refine tk 2 zD2 ?_
         refine wpAnyH_take (i:=3) (v:=?_) rfl (by kernel_rfl) (by kernel_rfl) (by kernel_rfl) (fun _ _ _ h=>h) (Or.inl ⟨by rfl,?_⟩) zD2 ?_
         rotate_left
         ·intro w' hSw;obtain⟨cu0,cu1⟩:=zI ((hSw.block _ (zA X7.out)).trans X7.out);obtain⟨cv0,cv1,cv2⟩:=zC ((hSw.block _ (zA X4.out)).trans X4.out);go_simp;try with_reducible rfl
         simp only[zn,Act.put]
         refine wpAnyH_take (i:=4) (v:=?_) rfl (by kernel_rfl) (by kernel_rfl) (by kernel_rfl) (fun _ _ _ h=>h) (Or.inl ⟨by rfl,?_⟩) zD2 ?_
         rotate_left
         ·intro w' hSw;obtain⟨cu0,cu1⟩:=zI ((hSw.block _ (zA X7.out)).trans X7.out);obtain⟨cv0,cv1,cv2⟩:=zC ((hSw.block _ (zA X4.out)).trans X4.out);go_simp;try with_reducible rfl
         simp only[zn,Act.put]
         refine tk 5 zD2 ?_;refine tk 6 zD2 ?_;refine tk 7 zD2 ?_
         refine wpAnyH_take (i:=8) (v:=?_) rfl (by kernel_rfl) (by kernel_rfl) (by kernel_rfl) (fun _ _ _ h=>h) (Or.inl ⟨by rfl,?_⟩) zD2 ?_
         rotate_left
         ·intro w' hSw;obtain⟨cu0,cu1⟩:=zI ((hSw.block _ (zA X7.out)).trans X7.out);obtain⟨cv0,cv1,cv2⟩:=zC ((hSw.block _ (zA X4.out)).trans X4.out);go_simp;try with_reducible rfl
         simp only[zn,Act.put]
         refine wpAnyH_take (i:=9) (v:=?_) rfl (by kernel_rfl) (by kernel_rfl) (by kernel_rfl) (fun _ _ _ h=>h) (Or.inl ⟨by rfl,?_⟩) zD2 ?_
         rotate_left
         ·intro w' hSw;obtain⟨cu0,cu1⟩:=zI ((hSw.block _ (zA X7.out)).trans X7.out);obtain⟨cv0,cv1,cv2⟩:=zC ((hSw.block _ (zA X4.out)).trans X4.out);go_simp;try with_reducible rfl
         simp only[zn,Act.put]
         refine tk 10 zD2 ?_;refine tk 11 zD2 ?_;refine tk 12 zD2 ?_;refine tk 13 zD2 ?_;refine tkc 14 zD2 (fun w' hSw=>(hSw.cell (p:=⟨bl,ol+i*3+2,none⟩) LBL.out).trans LC2.out) ?_;refine tk 15 zD2 ?_;refine tk 16 zD2 ?_;refine tk 17 zD2 ?_;refine tk 18 zD2 ?_
         refine wpAnyH_take (i:=19) (v:=?_) rfl (by kernel_rfl) (by kernel_rfl) (by kernel_rfl) (fun _ _ _ h=>h) (Or.inl ⟨by rfl,?_⟩) zD2 ?_
         rotate_left
         ·intro w' hSw;obtain⟨cu0,cu1⟩:=zI ((hSw.block _ (zA X7.out)).trans X7.out);obtain⟨cv0,cv1,cv2⟩:=zC ((hSw.block _ (zA X4.out)).trans X4.out);go_simp;try with_reducible rfl
         simp only[zn,Act.put]
         refine wpAnyH_take (i:=20) (v:=?_) rfl (by kernel_rfl) (by kernel_rfl) (by kernel_rfl) (fun _ _ _ h=>h) (Or.inl ⟨by rfl,?_⟩) zD2 ?_
         rotate_left
         ·intro w' hSw;obtain⟨cu0,cu1⟩:=zI ((hSw.block _ (zA X7.out)).trans X7.out);obtain⟨cv0,cv1,cv2⟩:=zC ((hSw.block _ (zA X4.out)).trans X4.out);go_simp;try with_reducible rfl
         simp only[zn,Act.put]
         refine wpAnyH_take (i:=21) (v:=?_) rfl (by kernel_rfl) (by kernel_rfl) (by kernel_rfl) (fun _ _ _ h=>h) (Or.inl ⟨by rfl,?_⟩) zD2 ?_
         rotate_left
         ·intro w' hSw;obtain⟨cu0,cu1⟩:=zI ((hSw.block _ (zA X7.out)).trans X7.out);obtain⟨cv0,cv1,cv2⟩:=zC ((hSw.block _ (zA X4.out)).trans X4.out);go_simp;try with_reducible rfl
         simp only[zn,Act.put]
         refine wpAnyH_take (i:=22) (v:=?_) rfl (by kernel_rfl) (by kernel_rfl) (by kernel_rfl) (fun _ _ _ h=>h) (Or.inl ⟨by rfl,?_⟩) zD2 ?_
         rotate_left
         ·intro w' hSw;obtain⟨cu0,cu1⟩:=zI ((hSw.block _ (zA X7.out)).trans X7.out);obtain⟨cv0,cv1,cv2⟩:=zC ((hSw.block _ (zA X4.out)).trans X4.out);go_simp;try with_reducible rfl
         simp only[zn,Act.put]
         refine tk 23 zD2 ?_;refine tk 24 zD2 ?_
         refine wpAnyH_take (i:=25) (v:=?_) rfl (by kernel_rfl) (by kernel_rfl) (by kernel_rfl) (fun _ _ _ h=>h) (Or.inl ⟨by rfl,?_⟩) zD2 ?_
         rotate_left
         ·intro w' hSw;obtain⟨cu0,cu1⟩:=zI ((hSw.block _ (zA X7.out)).trans X7.out);obtain⟨cv0,cv1,cv2⟩:=zC ((hSw.block _ (zA X4.out)).trans X4.out);go_simp;try with_reducible rfl
         simp only[zn,Act.put]
         refine wpAnyH_take (i:=26) (v:=?_) rfl (by kernel_rfl) (by kernel_rfl) (by kernel_rfl) (fun _ _ _ h=>h) (Or.inl ⟨by rfl,?_⟩) zD2 ?_
         rotate_left
         ·intro w' hSw;obtain⟨cu0,cu1⟩:=zI ((hSw.block _ (zA X7.out)).trans X7.out);obtain⟨cv0,cv1,cv2⟩:=zC ((hSw.block _ (zA X4.out)).trans X4.out);go_simp;try with_reducible rfl
         simp only[zn,Act.put]
         refine tk 27 zD2 ?_;refine tk 28 zD2 ?_;refine tk 29 zD2 ?_;refine tk 30 zD2 ?_
         refine wpAnyH_done (by kernel_rfl) ?_ _
         go_wp2_with fail
         go_meet
         exact⟨by rw[HRF.out],QD.out⟩
        ·have hbkd:(b==(k:Int))=false:=by simpa using hbk
         have HRF:Hid (rf=false):=zD0 (by rw[HR2.out,decide_eq_false (fun h=>h.elim hb0 fun h=>h.elim hbm fun h=>hbk h.2)])
         clear hai hbk
         refine wp_region_held_drew (S:=fun v=>Below q.heap.size q v) (by kernel_rfl) QD.out (fun zD2=>?_)
         refine tk 0 zD2 ?_;refine tk 1 zD2 ?_;refine tk 2 zD2 ?_
         refine wpAnyH_take (i:=3) (v:=?_) rfl (by kernel_rfl) (by kernel_rfl) (by kernel_rfl) (fun _ _ _ h=>h) (Or.inl ⟨by rfl,?_⟩) zD2 ?_
         rotate_left
         ·intro w' hSw;obtain⟨cu0,cu1⟩:=zI ((hSw.block _ (zA X7.out)).trans X7.out);obtain⟨cv0,cv1,cv2⟩:=zC ((hSw.block _ (zA X4.out)).trans X4.out);go_simp;try with_reducible rfl
         simp only[zn,Act.put]
         refine wpAnyH_take (i:=4) (v:=?_) rfl (by kernel_rfl) (by kernel_rfl) (by kernel_rfl) (fun _ _ _ h=>h) (Or.inl ⟨by rfl,?_⟩) zD2 ?_
         rotate_left
         ·intro w' hSw;obtain⟨cu0,cu1⟩:=zI ((hSw.block _ (zA X7.out)).trans X7.out);obtain⟨cv0,cv1,cv2⟩:=zC ((hSw.block _ (zA X4.out)).trans X4.out);go_simp;try with_reducible rfl
         simp only[zn,Act.put]
         refine tk 5 zD2 ?_;refine tk 6 zD2 ?_;refine tk 7 zD2 ?_
         refine wpAnyH_take (i:=8) (v:=?_) rfl (by kernel_rfl) (by kernel_rfl) (by kernel_rfl) (fun _ _ _ h=>h) (Or.inl ⟨by rfl,?_⟩) zD2 ?_
         rotate_left
         ·intro w' hSw;obtain⟨cu0,cu1⟩:=zI ((hSw.block _ (zA X7.out)).trans X7.out);obtain⟨cv0,cv1,cv2⟩:=zC ((hSw.block _ (zA X4.out)).trans X4.out);go_simp;try with_reducible rfl
         simp only[zn,Act.put]
         refine wpAnyH_take (i:=9) (v:=?_) rfl (by kernel_rfl) (by kernel_rfl) (by kernel_rfl) (fun _ _ _ h=>h) (Or.inl ⟨by rfl,?_⟩) zD2 ?_
         rotate_left
         ·intro w' hSw;obtain⟨cu0,cu1⟩:=zI ((hSw.block _ (zA X7.out)).trans X7.out);obtain⟨cv0,cv1,cv2⟩:=zC ((hSw.block _ (zA X4.out)).trans X4.out);go_simp;try with_reducible rfl
         simp only[zn,Act.put]
         refine tk 10 zD2 ?_;refine tk 11 zD2 ?_;refine tk 12 zD2 ?_;refine tk 13 zD2 ?_;refine tkc 14 zD2 (fun w' hSw=>(hSw.cell (p:=⟨bl,ol+i*3+2,none⟩) LBL.out).trans LC2.out) ?_;refine tk 15 zD2 ?_;refine tk 16 zD2 ?_;refine tk 17 zD2 ?_;refine tk 18 zD2 ?_
         refine wpAnyH_take (i:=19) (v:=?_) rfl (by kernel_rfl) (by kernel_rfl) (by kernel_rfl) (fun _ _ _ h=>h) (Or.inl ⟨by rfl,?_⟩) zD2 ?_
         rotate_left
         ·intro w' hSw;obtain⟨cu0,cu1⟩:=zI ((hSw.block _ (zA X7.out)).trans X7.out);obtain⟨cv0,cv1,cv2⟩:=zC ((hSw.block _ (zA X4.out)).trans X4.out);go_simp;try with_reducible rfl
         simp only[zn,Act.put]
         refine wpAnyH_take (i:=20) (v:=?_) rfl (by kernel_rfl) (by kernel_rfl) (by kernel_rfl) (fun _ _ _ h=>h) (Or.inl ⟨by rfl,?_⟩) zD2 ?_
         rotate_left
         ·intro w' hSw;obtain⟨cu0,cu1⟩:=zI ((hSw.block _ (zA X7.out)).trans X7.out);obtain⟨cv0,cv1,cv2⟩:=zC ((hSw.block _ (zA X4.out)).trans X4.out);go_simp;try with_reducible rfl
         simp only[zn,Act.put]
         refine wpAnyH_take (i:=21) (v:=?_) rfl (by kernel_rfl) (by kernel_rfl) (by kernel_rfl) (fun _ _ _ h=>h) (Or.inl ⟨by rfl,?_⟩) zD2 ?_
         rotate_left
         ·intro w' hSw;obtain⟨cu0,cu1⟩:=zI ((hSw.block _ (zA X7.out)).trans X7.out);obtain⟨cv0,cv1,cv2⟩:=zC ((hSw.block _ (zA X4.out)).trans X4.out);go_simp;try with_reducible rfl
         simp only[zn,Act.put]
         refine wpAnyH_take (i:=22) (v:=?_) rfl (by kernel_rfl) (by kernel_rfl) (by kernel_rfl) (fun _ _ _ h=>h) (Or.inl ⟨by rfl,?_⟩) zD2 ?_
         rotate_left
         ·intro w' hSw;obtain⟨cu0,cu1⟩:=zI ((hSw.block _ (zA X7.out)).trans X7.out);obtain⟨cv0,cv1,cv2⟩:=zC ((hSw.block _ (zA X4.out)).trans X4.out);go_simp;try with_reducible rfl
         simp only[zn,Act.put]
         refine tk 23 zD2 ?_;refine tk 24 zD2 ?_
         refine wpAnyH_take (i:=25) (v:=?_) rfl (by kernel_rfl) (by kernel_rfl) (by kernel_rfl) (fun _ _ _ h=>h) (Or.inl ⟨by rfl,?_⟩) zD2 ?_
         rotate_left
         ·intro w' hSw;obtain⟨cu0,cu1⟩:=zI ((hSw.block _ (zA X7.out)).trans X7.out);obtain⟨cv0,cv1,cv2⟩:=zC ((hSw.block _ (zA X4.out)).trans X4.out);go_simp;try with_reducible rfl
         simp only[zn,Act.put]
         refine wpAnyH_take (i:=26) (v:=?_) rfl (by kernel_rfl) (by kernel_rfl) (by kernel_rfl) (fun _ _ _ h=>h) (Or.inl ⟨by rfl,?_⟩) zD2 ?_
         rotate_left
         ·intro w' hSw;obtain⟨cu0,cu1⟩:=zI ((hSw.block _ (zA X7.out)).trans X7.out);obtain⟨cv0,cv1,cv2⟩:=zC ((hSw.block _ (zA X4.out)).trans X4.out);go_simp;try with_reducible rfl
         simp only[zn,Act.put]
         refine tk 27 zD2 ?_;refine tk 28 zD2 ?_;refine tk 29 zD2 ?_;refine tk 30 zD2 ?_
         refine wpAnyH_done (by kernel_rfl) ?_ _
         go_wp2_with fail
         go_meet
         exact⟨by rw[HRF.out],QD.out⟩
       ·have haid:(a==id)=false:=by simpa using hai
        have HRF:Hid (rf=false):=zD0 (by rw[HR2.out,decide_eq_false (fun h=>h.elim hb0 fun h=>h.elim hbm fun h=>hai h.1)])
        clear hai
        refine wp_region_held_drew (S:=fun v=>Below q.heap.size q v) (by kernel_rfl) QD.out (fun zD2=>?_)
        refine tk 0 zD2 ?_;refine tk 1 zD2 ?_;refine tk 2 zD2 ?_
        refine wpAnyH_take (i:=3) (v:=?_) rfl (by kernel_rfl) (by kernel_rfl) (by kernel_rfl) (fun _ _ _ h=>h) (Or.inl ⟨by rfl,?_⟩) zD2 ?_
        rotate_left
        ·intro w' hSw;obtain⟨cu0,cu1⟩:=zI ((hSw.block _ (zA X7.out)).trans X7.out);obtain⟨cv0,cv1,cv2⟩:=zC ((hSw.block _ (zA X4.out)).trans X4.out);go_simp;try with_reducible rfl
        simp only[zn,Act.put]
        refine wpAnyH_take (i:=4) (v:=?_) rfl (by kernel_rfl) (by kernel_rfl) (by kernel_rfl) (fun _ _ _ h=>h) (Or.inl ⟨by rfl,?_⟩) zD2 ?_
        rotate_left
        ·intro w' hSw;obtain⟨cu0,cu1⟩:=zI ((hSw.block _ (zA X7.out)).trans X7.out);obtain⟨cv0,cv1,cv2⟩:=zC ((hSw.block _ (zA X4.out)).trans X4.out);go_simp;try with_reducible rfl
        simp only[zn,Act.put]
        refine tk 5 zD2 ?_;refine tk 6 zD2 ?_;refine tk 7 zD2 ?_
        refine wpAnyH_take (i:=8) (v:=?_) rfl (by kernel_rfl) (by kernel_rfl) (by kernel_rfl) (fun _ _ _ h=>h) (Or.inl ⟨by rfl,?_⟩) zD2 ?_
        rotate_left
        ·intro w' hSw;obtain⟨cu0,cu1⟩:=zI ((hSw.block _ (zA X7.out)).trans X7.out);obtain⟨cv0,cv1,cv2⟩:=zC ((hSw.block _ (zA X4.out)).trans X4.out);go_simp;try with_reducible rfl
        simp only[zn,Act.put]
        refine wpAnyH_take (i:=9) (v:=?_) rfl (by kernel_rfl) (by kernel_rfl) (by kernel_rfl) (fun _ _ _ h=>h) (Or.inl ⟨by rfl,?_⟩) zD2 ?_
        rotate_left
        ·intro w' hSw;obtain⟨cu0,cu1⟩:=zI ((hSw.block _ (zA X7.out)).trans X7.out);obtain⟨cv0,cv1,cv2⟩:=zC ((hSw.block _ (zA X4.out)).trans X4.out);go_simp;try with_reducible rfl
        simp only[zn,Act.put]
        refine tk 10 zD2 ?_;refine tk 11 zD2 ?_;refine tk 12 zD2 ?_;refine tk 13 zD2 ?_;refine tkc 14 zD2 (fun w' hSw=>(hSw.cell (p:=⟨bl,ol+i*3+2,none⟩) LBL.out).trans LC2.out) ?_;refine tk 15 zD2 ?_;refine tk 16 zD2 ?_;refine tk 17 zD2 ?_;refine tk 18 zD2 ?_
        refine wpAnyH_take (i:=19) (v:=?_) rfl (by kernel_rfl) (by kernel_rfl) (by kernel_rfl) (fun _ _ _ h=>h) (Or.inl ⟨by rfl,?_⟩) zD2 ?_
        rotate_left
        ·intro w' hSw;obtain⟨cu0,cu1⟩:=zI ((hSw.block _ (zA X7.out)).trans X7.out);obtain⟨cv0,cv1,cv2⟩:=zC ((hSw.block _ (zA X4.out)).trans X4.out);go_simp;try with_reducible rfl
        simp only[zn,Act.put]
        refine wpAnyH_take (i:=20) (v:=?_) rfl (by kernel_rfl) (by kernel_rfl) (by kernel_rfl) (fun _ _ _ h=>h) (Or.inl ⟨by rfl,?_⟩) zD2 ?_
        rotate_left
        ·intro w' hSw;obtain⟨cu0,cu1⟩:=zI ((hSw.block _ (zA X7.out)).trans X7.out);obtain⟨cv0,cv1,cv2⟩:=zC ((hSw.block _ (zA X4.out)).trans X4.out);go_simp;try with_reducible rfl
        simp only[zn,Act.put]
        refine wpAnyH_take (i:=21) (v:=?_) rfl (by kernel_rfl) (by kernel_rfl) (by kernel_rfl) (fun _ _ _ h=>h) (Or.inl ⟨by rfl,?_⟩) zD2 ?_
        rotate_left
        ·intro w' hSw;obtain⟨cu0,cu1⟩:=zI ((hSw.block _ (zA X7.out)).trans X7.out);obtain⟨cv0,cv1,cv2⟩:=zC ((hSw.block _ (zA X4.out)).trans X4.out);go_simp;try with_reducible rfl
        simp only[zn,Act.put]
        refine wpAnyH_take (i:=22) (v:=?_) rfl (by kernel_rfl) (by kernel_rfl) (by kernel_rfl) (fun _ _ _ h=>h) (Or.inl ⟨by rfl,?_⟩) zD2 ?_
        rotate_left
        ·intro w' hSw;obtain⟨cu0,cu1⟩:=zI ((hSw.block _ (zA X7.out)).trans X7.out);obtain⟨cv0,cv1,cv2⟩:=zC ((hSw.block _ (zA X4.out)).trans X4.out);go_simp;try with_reducible rfl
        simp only[zn,Act.put]
        refine tk 23 zD2 ?_;refine tk 24 zD2 ?_;refine tks 25 zD2 ?_;refine tks 26 zD2 ?_;refine tks 27 zD2 ?_;refine tks 28 zD2 ?_;refine tk 29 zD2 ?_;refine tk 30 zD2 ?_
        refine wpAnyH_done (by kernel_rfl) ?_ _
        go_wp2_with fail
        go_meet
        exact⟨by rw[HRF.out],QD.out⟩
    case rest=>
     obtain⟨rfl,hbl⟩:=hcut
     obtain⟨w5,hw5⟩:∃w5:World,w5=wc:=⟨_,rfl⟩
     subst hw5
     have X45:=zD0 ((hbl.block _ (zA X4.out)).trans X4.out)
     have X75:=zD0 ((hbl.block _ (zA X7.out)).trans X7.out)
     have B5:=zD0 (QB.out.trans (hbl.mono QB.out.size))
     have LBL5:Hid (bl<w5.heap.size):=zD0 (Nat.lt_of_lt_of_le LBL.out hbl.size)
     have LC5:Hid (w5.cell? ⟨bl,ol+i*3+2,none⟩=some (.slice Al ml cl)):=zD0 ((hbl.cell (p:=⟨bl,_,none⟩) LBL.out).trans LC2.out)
     have HUL5:=zD0 ((HUL.out.below zM hbl).more zM hbl.size)
     have Q2:=zD0 (Below.refl w5.heap.size w5).drew
     by_cases hc:b<0∨(ml:Int)≤b∨(a=id∧b=(k:Int))
     ·have HR:Hid (jI l (id,pt,es) k=false):=zD0 (by rw[HJ3.out,if_pos hc])
      have hrt:rf=true:=by rw[HR2.out,decide_eq_true hc]
      rw[hrt]
      clear hc hrt
      go_wp2_with fail
      go_ret
      exact⟨by rw[HR.out];rfl,B5.out⟩
     ·have HJ4:=zD0 (HJ3.out.trans (if_neg hc))
      have hrt:rf=false:=by rw[HR2.out,decide_eq_false hc]
      rw[hrt]
      obtain⟨m,hm⟩:∃m:Nat,m=b.toNat:=⟨_,rfl⟩
      have hbm:b=(m:Int):=by have:=not_or.1 hc;omega
      have hml:m<ml:=by have h1:=not_or.1 hc;have h2:=not_or.1 h1.2;omega
      have hmi:m<l[i].2.2.length:=by rw[←HLS.out];exact hml
      obtain⟨be,oe,rfl,hbe,he0,he1⟩:=HUL5.out.at hmi
      have hge:l[i].2.2.getD b.toNat (0,0)=l[i].2.2[m]:=by rw[←hm,List.getD_eq_getElem?_getD,List.getElem?_eq_getElem hmi];rfl
      obtain⟨f0,f1,hf⟩:∃f0 f1,l[i].2.2[m]=(f0,f1):=⟨_,_,rfl⟩
      rw[hf] at he0 he1 hge
      dsimp only at he0 he1
      have HR:Hid (jI l (id,pt,es) k=decide (f0=id∧f1=(k:Int))):=zD0 (by
       rw[HJ4.out,hge]
       exact decide_eq_decide.2 (by rw[Prod.mk.injEq]))
      have LBE:=zD0 hbe
      have LE0:Hid (w5.cell? ⟨be,oe+m*2,none⟩=some (.int .i64 f0)):=zD0 he0
      have LE1:Hid (w5.cell? ⟨be,oe+m*2+1,none⟩=some (.int .i64 f1)):=zD0 he1
      subst hbm
      have hmi':(m:Int)<ml:=by omega
      clear hc hrt hge hf he0 he1 hbe hm hmi
      go_wp2_with fail
      refine wp_region_held_drew (S:=fun v=>Below w5.heap.size w5 v) (by kernel_rfl) Q2.out (fun zD2=>?_)
      refine tk 0 zD2 ?_;refine tk 1 zD2 ?_;refine tk 2 zD2 ?_;refine tk 3 zD2 ?_;refine tkc 4 zD2 (fun w' hSw=>(hSw.cell (p:=⟨bl,ol+i*3+2,none⟩) LBL5.out).trans LC5.out) ?_;refine tk 5 zD2 ?_;refine tkc 6 zD2 (fun w' hSw=>zI ((hSw.block _ (zA X75.out)).trans X75.out)) ?_;refine tk 7 zD2 ?_
      refine wpAnyH_take (i:=8) (v:=?_) rfl (by kernel_rfl) (by kernel_rfl) (by kernel_rfl) (fun _ _ _ h=>h) (Or.inl ⟨by rfl,?_⟩) zD2 ?_
      rotate_left
      ·intro w' hSw;have ce:=(hSw.cell (p:=⟨be,oe+m*2,none⟩) LBE.out).trans LE0.out;have cf:=(hSw.cell (p:=⟨be,oe+m*2+1,none⟩) LBE.out).trans LE1.out;go_simp;try with_reducible rfl
      simp only[zn,Act.put]
      refine tkr 9 (fun K hK=>?_)
      go_simp
      refine hK.out _ _ ?_ fun zD2=>?_;exact(zD w5 _).drew;clear hK K;try simp only[zn,Act.put]
      refine tkr 10 (fun K hK=>?_)
      rw[if_pos (by rfl)]
      refine wp_store_2 98 _ _ rfl w5.heap.size rfl rfl (zB _ _) vH rfl rfl ?_
      refine hK.out _ _ ?_ fun zD2=>?_;exact below_setRow (zD w5 _).drew (Nat.le_refl _) _;clear hK K;try simp only[zn,Act.put]
      refine wpAnyH_done (by kernel_rfl) ?_ _
      have hx9:=setRow_heap (w5.alloc (.cells #[.int .i64 0,.int .i64 0] 98)).drew w5.heap.size _ #[.int .i64 f0,.int .i64 f1] _ _ (zB w5 (.cells #[.int .i64 0,.int .i64 0] 98))
      have hb9:Below w5.heap.size w5 ((w5.alloc (.cells #[.int .i64 0,.int .i64 0] 98)).drew.setRow w5.heap.size #[.int .i64 f0,.int .i64 f1]):=below_setRow (zD w5 _).drew (Nat.le_refl _) _
      generalize (w5.alloc (.cells #[.int .i64 0,.int .i64 0] 98)).drew.setRow w5.heap.size #[.int .i64 f0,.int .i64 f1]=w9 at hx9 hb9⊢
      have B9:=zD0 (B5.out.trans (hb9.mono B5.out.size))
      obtain⟨k0,k1⟩:=zI hx9
      obtain⟨m0,m1,m2⟩:=zC ((hb9.block _ (zA X45.out)).trans X45.out)
      clear hx9 hb9
      by_cases hf0:f0=id
      ·have hf0b:(f0==id)=true:=by simpa using hf0
       have HR2:Hid (jI l (id,pt,es) k=(f1==(k:Int))):=zD0 (by
        rw[HR.out,Bool.eq_iff_iff,decide_eq_true_iff,beq_iff_eq]
        exact⟨fun h=>h.2,fun h=>⟨hf0,h⟩⟩)
       clear hf0
       go_wp2_with fail
       go_ret
       exact⟨by rw[HR2.out];rfl,B9.out⟩
      ·have hf0b:(f0==id)=false:=by simpa using hf0
       have HR2:Hid (jI l (id,pt,es) k=false):=zD0 (by rw[HR.out,decide_eq_false (fun h=>hf0 h.1)])
       clear hf0
       go_wp2_with fail
       go_ret
       exact⟨by rw[HR2.out];rfl,B9.out⟩
structure TMay (l:List Sec):Prop where
 n:l.length≤16
 s:∀i (h:i<l.length),1≤l[i].1∧l[i].1≤99∧qQ l[i]=true
 k:∀i j (hj:j<i) (hi:i<l.length),(l[j]'(by omega)).1<l[i].1∧¬(l[i].2.1≠0∧(l[j]'(by omega)).2.1=l[i].2.1)
 e:∀i k (hi:i<l.length),k<l[i].2.2.length→jI l l[i] k=true
noncomputable def mayT (l:List Sec):Bool:=@decide (TMay l) (Classical.propDecidable _)
theorem zDl {l:List Sec} (h:TMay l):mayT l=true:=by rw[mayT];exact @decide_eq_true _ (Classical.propDecidable _) h
theorem vL {l:List Sec} (h:¬TMay l):mayT l=false:=by rw[mayT];exact @decide_eq_false _ (Classical.propDecidable _) h
theorem mayT_iff {l:List Sec}:mayT l=true↔TMay l:=by rw[mayT];exact @decide_eq_true_iff _ (Classical.propDecidable _)
set_option maxHeartbeats 8000000 in
theorem rmay7_any (v:Value) (l:List Sec) (w:World) (h:zX w w.heap.size v l):
  Calls Tryz.prog 61 #[v] w fun e w'=>e = .returned (.bool (mayT l))∧Below w.heap.size w w':=by
 obtain⟨A,c,n,rfl,hml,HN,HA⟩:=kN h
 go_enter Tryz.func61,Tryz.ntmps61
 by_cases h16:16<n
 ·have h16':(16:Int)<n:=by omega
  have HF:Hid (mayT l=false):=zD0 (vL fun h=>by have:=h.n;rw[←HN.out] at this;omega)
  go_wp2_with fail
  go_ret
  exact⟨by rw[HF.out];rfl,Below.refl _ _⟩
 have h16':¬(16:Int)<n:=by omega
 go_wp2_with fail
 go_loopw [3] (fun s3 wr=>∃i:Nat,i≤n∧s3 = .int .i64 i∧(∀i' (hi:i'<i) (hl:i'<l.length),(1≤l[i'].1∧l[i'].1≤99∧qQ l[i']=true)∧∀j (hj:j<i'),(l[j]'(by omega)).1<l[i'].1∧¬(l[i'].2.1≠0∧(l[j]'(by omega)).2.1=l[i'].2.1))∧Below w.heap.size w wr) (fun s3 _=>n-(intOf s3).toNat)
 case atStart=>exact⟨0,by omega,by go_num,fun i' hi=>absurd hi (by omega),Below.refl _ _⟩
 case round=>
  obtain⟨i,hi,rfl,hall,hb⟩:=hrel
  have HALL:=zD0 hall
  have BW:=zD0 hb
  clear hall hb
  by_cases hlt:i<n
  ·have hlt':(i:Int)<n:=by omega
   have hir:i<l.length:=by rw[←HN.out];exact hlt
   obtain⟨b,off,rfl,hb,hc0,hc1,u,hc2,hu⟩:=((HA.out.below zN BW.out).more zN BW.out.size).at hir
   obtain⟨id,pt,es,hs⟩:∃id pt es,l[i]=(id,pt,es):=⟨_,_,_,rfl⟩
   have HS:=zD0 hs
   rw[hs] at hc0 hc1 hu
   dsimp only at hc0 hc1 hu
   obtain⟨Au,cu,rfl,-,-⟩:=hu.slice
   obtain⟨ne,hne⟩:=zD1 (es.length)
   rw[←hne] at hc2
   have hg0:wr.cell? ⟨b,off+i*3,none⟩=some (.int .i64 id):=hc0
   have hg1:wr.cell? ⟨b,off+i*3+1,none⟩=some (.int .i64 pt):=hc1
   have hg2:wr.cell? ⟨b,off+i*3+2,none⟩=some (.slice Au ne cu):=hc2
   have HSV:Hid (SecV wr wr.heap.size (.agg #[.int .i64 id,.int .i64 pt,.slice Au ne cu]) (id,pt,es)):=zD0 ⟨_,rfl,by rw[hne];exact hu⟩
   have hx4:=zB wr (.cells #[.int .i64 id,.int .i64 pt,.slice Au ne cu] 60)
   have hb4:=zD wr (.cells #[.int .i64 id,.int .i64 pt,.slice Au ne cu] 60)
   obtain⟨q,hq⟩:=zD1 (wr.alloc (.cells #[.int .i64 id,.int .i64 pt,.slice Au ne cu] 60))
   rw[←hq] at hx4 hb4
   have X4:=zD0 hx4
   have B4:=zD0 hb4
   have HQ:=zD0 hq
   have BQ:=zD0 (BW.out.trans (hb4.mono BW.out.size))
   clear hc0 hc1 hc2 hu hne hs hx4 hb4 hq hb
   go_upto_region 7 with fail
   rw[←HQ.out]
   clear hg0 hg1 hg2 HQ
   generalize hp4:wr.heap.size=p4 at X4⊢
   clear hp4
   obtain⟨k0,k1,k2⟩:=zC X4.out
   by_cases h1:id<1
   ·have h1d:decide (id<1)=true:=decide_eq_true h1
    have HF:Hid (mayT l=false):=zD0 (vL fun h=>by have:=(h.s i hir).1;rw[HS.out] at this;exact absurd this (by omega))
    have BZ:=BQ
    go_wp2_with fail
    go_ret
    exact⟨by rw[HF.out];rfl,BZ.out⟩
   have h1d:decide (id<1)=false:=decide_eq_false h1
   by_cases h2:99<id
   ·have h2d:decide (99<id)=true:=decide_eq_true h2
    have HF:Hid (mayT l=false):=zD0 (vL fun h=>by have:=(h.s i hir).2.1;rw[HS.out] at this;exact absurd this (by omega))
    have BZ:=BQ
    go_wp2_with fail
    go_ret
    exact⟨by rw[HF.out];rfl,BZ.out⟩
   have h2d:decide (99<id)=false:=decide_eq_false h2
   go_wp2_with fail
   refine(rshaped_any _ (id,pt,es) q (by obtain⟨u,e,hu⟩:=HSV.out;exact⟨u,e,(hu.below zM B4.out).more zM B4.out.size⟩)).mono ?_
   rintro e w2 ⟨rfl,b2⟩
   have X2:=zD0 ((b2.block _ (zA X4.out)).trans X4.out)
   have B2:=zD0 (BQ.out.trans (b2.mono BQ.out.size))
   clear b2 k0 k1 k2
   cases hsh:qQ (id,pt,es) with
   | false=>
    have HF:Hid (mayT l=false):=zD0 (vL fun h=>by have:=(h.s i hir).2.2;rw[HS.out,hsh] at this;cases this)
    have BZ:=B2
    clear hsh
    go_wp2_with fail
    go_ret
    exact⟨by rw[HF.out];rfl,BZ.out⟩
   | true=>
    have HSH:=zD0 hsh
    clear hsh X4
    go_wp2_with fail
    go_loopw [5] (fun s5 wr=>∃k:Nat,k≤i∧s5 = .int .i64 k∧(∀j (hj:j<k) (hl:j<l.length),l[j].1<id∧¬(pt≠0∧l[j].2.1=pt))∧wr.heap[p4]? = some (.cells #[.int .i64 id,.int .i64 pt,.slice Au ne cu] 60 (0,0))∧Below w.heap.size w wr) (fun s5 _=>i-(intOf s5).toNat)
    case atStart=>exact⟨0,by omega,by go_num,fun j hj=>absurd hj (by omega),X2.out,B2.out⟩
    case round=>
     obtain⟨k,hk,rfl,hpair,hx4,hbl⟩:=hrel
     have HP:=zD0 hpair
     have X4:=zD0 hx4
     have B5:=zD0 hbl
     clear hpair hx4 hbl
     by_cases hki:k<i
     ·have hki':(k:Int)<i:=by omega
      have hkn:(k:Int)<n:=by omega
      have hkr:k<l.length:=by omega
      obtain⟨b',off',hA',hb',hd0,hd1,-⟩:=((HA.out.below zN B5.out).more zN B5.out.size).at hkr
      cases hA'
      obtain⟨idk,ptk,hpk⟩:∃idk ptk,idk=l[k].1∧ptk=l[k].2.1:=⟨_,_,rfl,rfl⟩
      rw[←hpk.1] at hd0
      rw[←hpk.2] at hd1
      have HPK:=zD0 hpk
      have LBK:=zD0 hb'
      have LK0:Hid (wr.cell? ⟨b,off+k*3,none⟩=some (.int .i64 idk)):=zD0 hd0
      have LK1:Hid (wr.cell? ⟨b,off+k*3+1,none⟩=some (.int .i64 ptk)):=zD0 hd1
      have BZ:Hid (Below w.heap.size w wr.drew):=zD0 B5.out.drew
      have X4D:Hid (wr.drew.heap[p4]? = some (.cells #[.int .i64 id,.int .i64 pt,.slice Au ne cu] 60 (0,0))):=zD0 X4.out
      have HNX:Hid (idk<id→¬(pt≠0∧ptk=pt)→∀j (hj:j<k+1) (hl:j<l.length),l[j].1<id∧¬(pt≠0∧l[j].2.1=pt)):=zD0 (fun h1 h2 j hj hl=>by
       rcases Nat.lt_or_ge j k with h|h
       ·exact HP.out j h hl
       ·obtain rfl:j=k:=by omega
        rw[←HPK.out.1,←HPK.out.2];exact⟨h1,h2⟩)
      have HNF:Hid (¬(idk<id∧¬(pt≠0∧ptk=pt))→mayT l=false):=zD0 (fun hn=>vL fun h=>hn (by
       have:=h.k i k hki hir
       rw[HS.out,←HPK.out.1,←HPK.out.2] at this
       exact this))
      clear hd0 hd1 hpk hb'
      by_cases hge:id≤idk
      ·have hged:decide (id≤idk)=true:=decide_eq_true hge
       have HF:=zD0 (HNF.out (fun h=>by omega))
       go_wp2_with fail
       refine wp_region_held_drew (S:=fun v=>Below wr.heap.size wr v) (by kernel_rfl) (Below.refl wr.heap.size wr).drew (fun zD2=>?_)
       refine tk 0 zD2 ?_;refine tk 1 zD2 ?_;refine tk 2 zD2 ?_;refine tk 3 zD2 ?_
       refine wpAnyH_take (i:=4) (v:=?_) rfl (by kernel_rfl) (by kernel_rfl) (by kernel_rfl) (fun _ _ _ h=>h) (Or.inl ⟨by rfl,?_⟩) zD2 ?_
       rotate_left
       ·intro w' hSw;have cl:=(hSw.cell (p:=⟨b,off+k*3,none⟩) LBK.out).trans LK0.out;have cm:=(hSw.cell (p:=⟨b,off+k*3+1,none⟩) LBK.out).trans LK1.out;go_simp;try with_reducible rfl
       simp only[zn,Act.put]
       refine tk 5 zD2 ?_;refine tkc 6 zD2 (fun w' hSw=>zC ((hSw.block _ (zA X4.out)).trans X4.out)) ?_;refine tk 7 zD2 ?_;refine tk 8 zD2 ?_;refine tks 9 zD2 ?_;refine tks 10 zD2 ?_;refine tks 11 zD2 ?_;refine tks 12 zD2 ?_;refine tks 13 zD2 ?_;refine tks 14 zD2 ?_;refine tks 15 zD2 ?_;refine tks 16 zD2 ?_;refine tks 17 zD2 ?_;refine tks 18 zD2 ?_;refine tks 19 zD2 ?_;refine tks 20 zD2 ?_;refine tks 21 zD2 ?_;refine tk 22 zD2 ?_
       refine wpAnyH_done (by kernel_rfl) ?_ _
       go_wp2_with fail
       go_ret
       exact⟨by rw[HF.out];rfl,BZ.out⟩
      ·have hged:decide (id≤idk)=false:=decide_eq_false hge
       by_cases hp0:pt=0
       ·have hp0b:(pt != 0)=false:=by simpa using hp0
        have HNZ:=zD0 (HNX.out (by omega) (fun h=>h.1 hp0))
        clear hp0
        go_wp2_with fail
        refine wp_region_held_drew (S:=fun v=>Below wr.heap.size wr v) (by kernel_rfl) (Below.refl wr.heap.size wr).drew (fun zD2=>?_)
        refine tk 0 zD2 ?_;refine tk 1 zD2 ?_;refine tk 2 zD2 ?_;refine tk 3 zD2 ?_
        refine wpAnyH_take (i:=4) (v:=?_) rfl (by kernel_rfl) (by kernel_rfl) (by kernel_rfl) (fun _ _ _ h=>h) (Or.inl ⟨by rfl,?_⟩) zD2 ?_
        rotate_left
        ·intro w' hSw;have cl:=(hSw.cell (p:=⟨b,off+k*3,none⟩) LBK.out).trans LK0.out;have cm:=(hSw.cell (p:=⟨b,off+k*3+1,none⟩) LBK.out).trans LK1.out;go_simp;try with_reducible rfl
        simp only[zn,Act.put]
        refine tk 5 zD2 ?_;refine tkc 6 zD2 (fun w' hSw=>zC ((hSw.block _ (zA X4.out)).trans X4.out)) ?_;refine tk 7 zD2 ?_;refine tk 8 zD2 ?_;refine tk 9 zD2 ?_;refine tkc 10 zD2 (fun w' hSw=>zC ((hSw.block _ (zA X4.out)).trans X4.out)) ?_;refine tk 11 zD2 ?_;refine tk 12 zD2 ?_;refine tks 13 zD2 ?_;refine tks 14 zD2 ?_;refine tks 15 zD2 ?_;refine tks 16 zD2 ?_;refine tks 17 zD2 ?_;refine tks 18 zD2 ?_;refine tks 19 zD2 ?_;refine tks 20 zD2 ?_;refine tk 21 zD2 ?_;refine tk 22 zD2 ?_
        refine wpAnyH_done (by kernel_rfl) ?_ _
        go_wp2_with fail
        go_roundw
        case measure=>simp[intOf];omega
        case rel=>exact⟨k+1,by omega,by go_num,HNZ.out,X4D.out,BZ.out⟩
       ·have hp0b:(pt != 0)=true:=by simpa using hp0
        by_cases hpp:ptk=pt
        ·have hppb:(ptk==pt)=true:=by simpa using hpp
         have HF:=zD0 (HNF.out (fun h=>h.2 ⟨hp0,hpp⟩))
         clear hp0 hpp
         go_wp2_with fail
         refine wp_region_held_drew (S:=fun v=>Below wr.heap.size wr v) (by kernel_rfl) (Below.refl wr.heap.size wr).drew (fun zD2=>?_)
         refine tk 0 zD2 ?_;refine tk 1 zD2 ?_;refine tk 2 zD2 ?_;refine tk 3 zD2 ?_
         refine wpAnyH_take (i:=4) (v:=?_) rfl (by kernel_rfl) (by kernel_rfl) (by kernel_rfl) (fun _ _ _ h=>h) (Or.inl ⟨by rfl,?_⟩) zD2 ?_
         rotate_left
         ·intro w' hSw;have cl:=(hSw.cell (p:=⟨b,off+k*3,none⟩) LBK.out).trans LK0.out;have cm:=(hSw.cell (p:=⟨b,off+k*3+1,none⟩) LBK.out).trans LK1.out;go_simp;try with_reducible rfl
         simp only[zn,Act.put]
         refine tk 5 zD2 ?_;refine tkc 6 zD2 (fun w' hSw=>zC ((hSw.block _ (zA X4.out)).trans X4.out)) ?_;refine tk 7 zD2 ?_;refine tk 8 zD2 ?_;refine tk 9 zD2 ?_;refine tkc 10 zD2 (fun w' hSw=>zC ((hSw.block _ (zA X4.out)).trans X4.out)) ?_;refine tk 11 zD2 ?_;refine tk 12 zD2 ?_;refine tk 13 zD2 ?_;refine tk 14 zD2 ?_;refine tk 15 zD2 ?_;refine tk 16 zD2 ?_
         refine wpAnyH_take (i:=17) (v:=?_) rfl (by kernel_rfl) (by kernel_rfl) (by kernel_rfl) (fun _ _ _ h=>h) (Or.inl ⟨by rfl,?_⟩) zD2 ?_
         rotate_left
         ·intro w' hSw;have cl:=(hSw.cell (p:=⟨b,off+k*3,none⟩) LBK.out).trans LK0.out;have cm:=(hSw.cell (p:=⟨b,off+k*3+1,none⟩) LBK.out).trans LK1.out;go_simp;try with_reducible rfl
         simp only[zn,Act.put]
         refine tk 18 zD2 ?_;refine tkc 19 zD2 (fun w' hSw=>zC ((hSw.block _ (zA X4.out)).trans X4.out)) ?_;refine tk 20 zD2 ?_;refine tk 21 zD2 ?_;refine tk 22 zD2 ?_
         refine wpAnyH_done (by kernel_rfl) ?_ _
         go_wp2_with fail
         go_ret
         exact⟨by rw[HF.out];rfl,BZ.out⟩
        ·have hppb:(ptk==pt)=false:=by simpa using hpp
         have HNZ:=zD0 (HNX.out (by omega) (fun h=>hpp h.2))
         clear hp0 hpp
         go_wp2_with fail
         refine wp_region_held_drew (S:=fun v=>Below wr.heap.size wr v) (by kernel_rfl) (Below.refl wr.heap.size wr).drew (fun zD2=>?_)
         refine tk 0 zD2 ?_;refine tk 1 zD2 ?_;refine tk 2 zD2 ?_;refine tk 3 zD2 ?_
         refine wpAnyH_take (i:=4) (v:=?_) rfl (by kernel_rfl) (by kernel_rfl) (by kernel_rfl) (fun _ _ _ h=>h) (Or.inl ⟨by rfl,?_⟩) zD2 ?_
         rotate_left
         ·intro w' hSw;have cl:=(hSw.cell (p:=⟨b,off+k*3,none⟩) LBK.out).trans LK0.out;have cm:=(hSw.cell (p:=⟨b,off+k*3+1,none⟩) LBK.out).trans LK1.out;go_simp;try with_reducible rfl
         simp only[zn,Act.put]
         refine tk 5 zD2 ?_;refine tkc 6 zD2 (fun w' hSw=>zC ((hSw.block _ (zA X4.out)).trans X4.out)) ?_;refine tk 7 zD2 ?_;refine tk 8 zD2 ?_;refine tk 9 zD2 ?_;refine tkc 10 zD2 (fun w' hSw=>zC ((hSw.block _ (zA X4.out)).trans X4.out)) ?_;refine tk 11 zD2 ?_;refine tk 12 zD2 ?_;refine tk 13 zD2 ?_;refine tk 14 zD2 ?_;refine tk 15 zD2 ?_;refine tk 16 zD2 ?_
         refine wpAnyH_take (i:=17) (v:=?_) rfl (by kernel_rfl) (by kernel_rfl) (by kernel_rfl) (fun _ _ _ h=>h) (Or.inl ⟨by rfl,?_⟩) zD2 ?_
         rotate_left
         ·intro w' hSw;have cl:=(hSw.cell (p:=⟨b,off+k*3,none⟩) LBK.out).trans LK0.out;have cm:=(hSw.cell (p:=⟨b,off+k*3+1,none⟩) LBK.out).trans LK1.out;go_simp;try with_reducible rfl
         simp only[zn,Act.put]
         refine tk 18 zD2 ?_;refine tkc 19 zD2 (fun w' hSw=>zC ((hSw.block _ (zA X4.out)).trans X4.out)) ?_;refine tk 20 zD2 ?_;refine tk 21 zD2 ?_;refine tk 22 zD2 ?_
         refine wpAnyH_done (by kernel_rfl) ?_ _
         go_wp2_with fail
         go_roundw
         case measure=>simp[intOf];omega
         case rel=>exact⟨k+1,by omega,by go_num,HNZ.out,X4D.out,BZ.out⟩
     ·obtain rfl:k=i:=by omega
      have hki':¬(k:Int)<k:=by omega
      have HNI:Hid (∀i' (hi:i'<k+1) (hl:i'<l.length),(1≤l[i'].1∧l[i'].1≤99∧qQ l[i']=true)∧∀j (hj:j<i'),(l[j]'(by omega)).1<l[i'].1∧¬(l[i'].2.1≠0∧(l[j]'(by omega)).2.1=l[i'].2.1)):=zD0 (fun i' hi' hl=>by
       rcases Nat.lt_or_ge i' k with h|h
       ·exact HALL.out i' h hl
       ·obtain rfl:i'=k:=by omega
        rw[HS.out]
        exact⟨⟨by omega,by omega,HSH.out⟩,fun j hj=>HP.out j hj (by omega)⟩)
      go_wp2_with fail
      go_roundw
      case measure=>simp[intOf];omega
      case rel=>exact⟨k+1,by omega,by go_num,HNI.out,B5.out⟩
  ·obtain rfl:i=n:=by omega
   have hlt':¬(i:Int)<i:=by omega
   have HROW:=HALL
   have HL16:Hid (l.length≤16):=zD0 (by rw[←HN.out];omega)
   clear HALL
   go_wp2_with fail
   go_loopw [6] (fun s6 wr=>∃k:Nat,k≤i∧s6 = .int .i64 k∧(∀a (ha:a<k) (hl:a<l.length) b,b<l[a].2.2.length→jI l l[a] b=true)∧Below w.heap.size w wr) (fun s6 _=>i-(intOf s6).toNat)
   case atStart=>exact⟨0,by omega,by go_num,fun a ha=>absurd ha (by omega),BW.out⟩
   case round=>
    obtain⟨k,hk,rfl,hall,hb⟩:=hrel
    have HALL:=zD0 hall
    clear BW
    have BW:=zD0 hb
    clear hall hb hlt hlt'
    by_cases hlt:k<i
    ·have hlt':(k:Int)<i:=by omega
     have hkr:k<l.length:=by rw[←HN.out];exact hlt
     go_wp2_with fail
     go_loopw [7] (fun s7 wr=>∃m:Nat,m≤l[k].2.2.length∧s7 = .int .i64 m∧(∀b,b<m→jI l l[k] b=true)∧Below w.heap.size w wr) (fun s7 _=>l[k].2.2.length-(intOf s7).toNat)
     case atStart=>exact⟨0,by omega,by go_num,fun b hb=>absurd hb (by omega),BW.out⟩
     case round=>
      obtain⟨m,hm,rfl,hms,hb⟩:=hrel
      have HMS:=zD0 hms
      clear BW
      have BW:=zD0 hb
      clear hms hb
      obtain⟨b,off,rfl,hb,hc0,hc1,u,hc2,hu⟩:=((HA.out.below zN BW.out).more zN BW.out.size).at hkr
      obtain⟨Au,cu,rfl,hul,hum⟩:=hu.slice
      obtain⟨s,hs⟩:=zD1 (l[k])
      have HS:=zD0 hs
      rw[←hs] at hc0 hc1 hc2 hu hul hm HMS⊢
      obtain⟨id,pt,es⟩:=s
      dsimp only at hc0 hc1 hc2 hu hul hm⊢
      obtain⟨ne,hne⟩:=zD1 (es.length)
      rw[←hne] at hc2 hul hm⊢
      have HNE:=zD0 hne
      have hnm:ne≤9223372036854775807:=by unfold maxLen at hum;omega
      have hg0:wr.cell? ⟨b,off+k*3,none⟩=some (.int .i64 id):=hc0
      have hg1:wr.cell? ⟨b,off+k*3+1,none⟩=some (.int .i64 pt):=hc1
      have hg2:wr.cell? ⟨b,off+k*3+2,none⟩=some (.slice Au ne cu):=hc2
      have HSV:Hid (SecV wr wr.heap.size (.agg #[.int .i64 id,.int .i64 pt,.slice Au ne cu]) (id,pt,es)):=zD0 ⟨_,rfl,by rw[hne];exact hu⟩
      clear hc0 hc1 hc2 hu hul hum hs hne hb
      by_cases hmn:m<ne
      ·have hmn':(m:Int)<ne:=by omega
       go_wp2_with fail
       refine(rjoined_any _ _ l (id,pt,es) m wr ((HA.out.below zN BW.out).more zN BW.out.size) HSV.out (by rw[←HNE.out];exact hmn)).mono ?_
       rintro e w2 ⟨rfl,b2⟩
       have B2:=zD0 (BW.out.trans (b2.mono BW.out.size))
       clear b2 hg0 hg1 hg2
       cases hj:jI l (id,pt,es) m with
       | false=>
        have HF:Hid (mayT l=false):=zD0 (vL fun h=>by
         have:=h.e k m hkr (by rw[←HS.out,←HNE.out];exact hmn)
         rw[←HS.out,hj] at this
         cases this)
        have BZ:=B2
        clear hj
        go_wp2_with fail
        go_ret
        exact⟨by rw[HF.out];rfl,BZ.out⟩
       | true=>
        have HNX:Hid (∀b,b<m+1→jI l (id,pt,es) b=true):=zD0 (fun b hb=>by
         rcases Nat.lt_or_ge b m with h|h
         ·exact HMS.out b h
         ·obtain rfl:b=m:=by omega
          exact hj)
        clear hj
        go_wp2_with fail
        go_roundw
        case measure=>simp[intOf];omega
        case rel=>exact⟨m+1,by omega,by go_num,HNX.out,B2.out⟩
      ·obtain rfl:m=ne:=by omega
       have hmn':¬(m:Int)<m:=by omega
       have HNK:Hid (∀a (ha:a<k+1) (hl:a<l.length) b,b<l[a].2.2.length→jI l l[a] b=true):=zD0 (fun a ha hl b hb=>by
        rcases Nat.lt_or_ge a k with h|h
        ·exact HALL.out a h hl b hb
        ·obtain rfl:a=k:=by omega
         rw[←HS.out] at hb⊢
         exact HMS.out b (by rw[HNE.out];exact hb))
       go_wp2_with fail
       go_roundw
       case measure=>simp[intOf];omega
       case rel=>exact⟨k+1,by omega,by go_num,HNK.out,BW.out⟩
    ·obtain rfl:k=i:=by omega
     have hlt':¬(k:Int)<k:=by omega
     have HF:Hid (mayT l=true):=zD0 (zDl ⟨HL16.out,fun a ha=>(HROW.out a (by rw[HN.out];exact ha) ha).1,fun a b hb ha=>(HROW.out a (by rw[HN.out];exact ha) ha).2 b hb,fun a b ha hb=>HALL.out a (by rw[HN.out];exact ha) ha b hb⟩)
     go_wp2_with fail
     go_ret
     exact⟨by rw[HF.out];rfl,BW.out⟩
noncomputable def chkT (l:List Sec):Int:=if mayT l then 0 else 8
theorem zC9 {P:Program} {w:World} {base t ty e size bytes:Nat} {i:TypeInfo} {z:Value} (ht:P.underlying t=some (.slice e)) (hi:P.info? e=some i) (hz:i.zero=some z) (hzs:z.cells.size=size) (hsize:i.size=size) (hsz:0<size) (hby:i.bytes=bytes) (hb8:bytes≤100)
  {v:Value} {n m c:Nat} {A:Option Addr} {ys news:List Value} (hown:w.ownsRow base e size v n ys) (hl:news.length=m*size) (hA:A=none→m=0∧c=0)
  (hc:∀a,A=some a→∀j u,news[j]? = some u→w.cell? (a.add j)=some u) (h1:∀u∈news,u.oneCell'=true) (h63:n+m≤100000) (hbase:base≤w.heap.size):
  ∃v' w',(Builtin.append_ #[t,t] ty #[v,.slice A m c]).run P w = .ok v' w'∧w'.ownsRow base e size v' (n+m) (ys++news)∧w.grownBy w' v.ownBlock:=by
 cases A with
 | none=>
  obtain⟨rfl,rfl⟩:=hA rfl
  obtain rfl:news=[]:=List.eq_nil_of_length_eq_zero (by omega)
  exact⟨v,w,run_append_owned_none (P:=P) (w:=w) base t ty e i size ht hi v n ys hown,by simpa using hown,World.grownBy.refl w _⟩
 | some a=>
  obtain⟨v',w',hr,ho,hg,_⟩:=run_append_own (P:=P) w base t ty e i z size bytes ht hi hz hsize hby hzs hsz v n ys hown a m c news hl (hc a rfl) h1 (by unfold maxLen;omega) (by have:=Nat.mul_le_mul h63 hb8;omega) hbase
  exact⟨v',w',hr,ho,hg⟩
theorem zQ {P:Program} {w:World} {ops:Array Oper} {rest:List Oper} {o:Oper} {a:Act} {Q:Exit→Act→World→Prop} (hgd:o.guard=none) (s x:Operand) (t:TypeId)
  (ho:o.op = .call { callee:=.builtin .append,args:=#[s,x],argTypes:=#[t,t] })
  {base e size bytes:Nat} {i:TypeInfo} {z:Value} (ht:P.underlying t=some (.slice e)) (hi:P.info? e=some i) (hz:i.zero=some z) (hzs:z.cells.size=size) (hsize:i.size=size) (hsz:0<size) (hby:i.bytes=bytes) (hb8:bytes≤100)
  {v:Value} {n m c:Nat} {A:Option Addr} {ys news:List Value} (hs:a.eval s=v) (hown:w.ownsRow base e size v n ys) (hu:a.eval x = .slice A m c) (hl:news.length=m*size) (hA:A=none→m=0∧c=0)
  (hc:∀a,A=some a→∀j u,news[j]? = some u→w.cell? (a.add j)=some u) (h1:∀u∈news,u.oneCell'=true) (h63:n+m≤100000) (hbase:base≤w.heap.size)
  (h:∀v' w',w'.ownsRow base e size v' (n+m) (ys++news)→w.grownBy w' v.ownBlock→wpList P ops Q rest (a.put o.dst v') w'):wpList P ops Q (o::rest) a w:=by
 refine wpList_plain hgd fun K hK=>?_
 obtain⟨v',w',hrun,h2,h3⟩:=zC9 (ty:=o.type) ht hi hz hzs hsize hsz hby hb8 hown hl hA hc h1 h63 hbase
 unfold Oper.wp execOp
 simp only[ho,resolve,invoke,builtin,Sem.run_bind,Sem.run_pure,Result.andThen_ok,List.map_toArray,List.map_cons,List.map_nil,hs,hu,hrun]
 exact hK _ _ (h v' w' h2 h3)
theorem qO {P:Program} {w:World} {o:Oper} {a:Act} {K:Act→World→Prop} {Q:Exit→Act→World→Prop} (s x:Operand) (t:TypeId)
  (ho:o.op = .call { callee:=.builtin .append,args:=#[s,x],argTypes:=#[t,t] })
  {base e size bytes:Nat} {i:TypeInfo} {z:Value} (ht:P.underlying t=some (.slice e)) (hi:P.info? e=some i) (hz:i.zero=some z) (hzs:z.cells.size=size) (hsize:i.size=size) (hsz:0<size) (hby:i.bytes=bytes) (hb8:bytes≤100)
  {v:Value} {n m c:Nat} {A:Option Addr} {ys news:List Value} (hs:a.eval s=v) (hown:w.ownsRow base e size v n ys) (hu:a.eval x = .slice A m c) (hl:news.length=m*size) (hA:A=none→m=0∧c=0)
  (hc:∀a,A=some a→∀j u,news[j]? = some u→w.cell? (a.add j)=some u) (h1:∀u∈news,u.oneCell'=true) (h63:n+m≤100000) (hbase:base≤w.heap.size)
  (h:∀v' w',w'.ownsRow base e size v' (n+m) (ys++news)→w.grownBy w' v.ownBlock→K (a.put o.dst v') w'):o.wp P a w K Q:=by
 obtain⟨v',w',hrun,h2,h3⟩:=zC9 (ty:=o.type) ht hi hz hzs hsize hsz hby hb8 hown hl hA hc h1 h63 hbase
 unfold Oper.wp execOp
 simp only[ho,resolve,invoke,builtin,Sem.run_bind,Sem.run_pure,Result.andThen_ok,List.map_toArray,List.map_cons,List.map_nil,hs,hu,hrun]
 exact h v' w' h2 h3
theorem xC.cells {α:Type} {sz:Nat} {R:El α} {W:World} {B n c:Nat} {A:Option Addr} {xs:List α} (hsz:0<sz)
  (hfull:∀(c:Nat→Option Value) (x:α),R W B c x→∀k,k<sz→∃v,c k=some v∧v.oneCell'=true) (hR:∀(c c':Nat→Option Value) (x:α),(∀k,k<sz→c k=c' k)→R W B c x→R W B c' x)
  (h:xC sz R W B (.slice A n c) xs):
  ∃yss:List (List Value),yss.length=xs.length∧(∀ys∈yss,ys.length=sz)∧(∀(j:Nat) (ys:List Value) (x:α),yss[j]? = some ys→xs[j]? = some x→R W B (fun k=>ys[k]?) x) ∧
   (A=none→n=0∧c=0)∧n=xs.length∧(∀u∈yss.flatten,u.oneCell'=true)∧∀a,A=some a→∀j u,yss.flatten[j]? = some u→W.cell? (a.add j)=some u:=by
 obtain⟨A',cap,e,h1,h2,hn,h3⟩:=h
 cases e
 rcases Nat.eq_zero_or_pos xs.length with h0|hp
 ·obtain rfl:xs=[]:=List.eq_nil_of_length_eq_zero h0
  exact⟨[],rfl,by simp,fun j ys x h=>by simp at h,fun h=>⟨rfl,hn h⟩,rfl,by simp,fun a _ j u h=>by simp at h⟩
 obtain⟨b,off,rfl,hb,hc⟩:=h3 hp
 have each:∀j,∃ys:List Value,j<xs.length→ys.length=sz∧(∀k,k<sz→ys[k]? = W.cell? ⟨b,off+j*sz+k,none⟩)∧∀u∈ys,u.oneCell'=true:=fun j=>by
  by_cases hj:j<xs.length
  ·have hf:=hfull _ _ (hc j hj)
   have hall:∀k,∃v:Value,k<sz→W.cell? ⟨b,off+j*sz+k,none⟩=some v∧v.oneCell'=true:=fun k=>by
    by_cases hk:k<sz
    ·obtain⟨v,hv⟩:=hf k hk
     exact⟨v,fun _=>hv⟩
    ·exact⟨.bool false,fun h=>absurd h hk⟩
   obtain⟨f,hf2⟩:=Classical.axiomOfChoice hall
   refine⟨(List.range sz).map f,fun _=>⟨by simp,fun k hk=>?_,fun u hu=>?_⟩⟩
   ·rw[(hf2 k hk).1,List.getElem?_map,List.getElem?_range hk];rfl
   ·obtain⟨k,hk,rfl⟩:=List.mem_map.1 hu
    exact(hf2 k (List.mem_range.1 hk)).2
  ·exact⟨[],fun h=>absurd h hj⟩
 obtain⟨f,hf⟩:=Classical.axiomOfChoice each
 have hs:∀ys∈(List.range xs.length).map f,ys.length=sz:=fun ys hy=>by
  obtain⟨j,hj,rfl⟩:=List.mem_map.1 hy
  exact(hf j (List.mem_range.1 hj)).1
 refine⟨(List.range xs.length).map f,by simp,hs,fun j ys x hy hx=>?_,(fun h=>by cases h),rfl,fun u hu=>?_,fun a ha j u hu=>?_⟩
 ·have hj:j<xs.length:=(List.getElem?_eq_some_iff.1 hx).1
  rw[List.getElem?_map,List.getElem?_range hj] at hy
  cases hy
  rw[List.getElem?_eq_getElem hj] at hx
  cases hx
  exact hR _ _ _ (fun k hk=>((hf j hj).2.1 k hk).symm) (hc j hj)
 ·obtain⟨ys,hy,hu⟩:=List.mem_flatten.1 hu
  obtain⟨j,hj,rfl⟩:=List.mem_map.1 hy
  exact(hf j (List.mem_range.1 hj)).2.2 u hu
 ·cases ha
  have hlt:j<((List.range xs.length).map f).flatten.length:=(List.getElem?_eq_some_iff.1 hu).1
  rw[xA _ hs,List.length_map,List.length_range] at hlt
  have hq:j/sz<xs.length:=Nat.div_lt_of_lt_mul (by rw[Nat.mul_comm];exact hlt)
  have hr:j%sz<sz:=Nat.mod_lt _ hsz
  have he:j=j/sz*sz+j%sz:=by rw[Nat.mul_comm];exact(Nat.div_add_mod j sz).symm
  have hy:((List.range xs.length).map f)[j/sz]? = some (f (j/sz)):=by rw[List.getElem?_map,List.getElem?_range hq];rfl
  have hfl:=flat_at _ (j/sz) (j%sz) _ hs hy hr
  rw[←he,hu,(hf _ hq).2.1 _ hr] at hfl
  rw[Addr.add_lit,hfl]
  congr 2
  omega
theorem qG {W:World} {b k:Nat} {cur:Array Value} {t:TypeId} {fr:Nat×Nat} (h:W.heap[b]? = some (.cells cur t fr)) (x:Value):(W.setCell ⟨b,k,none⟩ x).heap[b]? = some (.cells (cur.setIfInBounds k x) t fr):=by
 simp only[World.setCell,Array.getElem?_modify,if_true,h,Option.map_some]
 rfl
theorem zU (W:World) (b k:Nat) (x:Value):W.grownBy (W.setCell ⟨b,k,none⟩ x) (some b):=grown_set W b k x
theorem heap_set3 {W:World} {b:Nat} {c0 c1 c2:Value} {t:TypeId} (h:W.heap[b]? = some (.cells #[c0,c1,c2] t (0,0))) (x y z:Value):(((W.setCell ⟨b,0,none⟩ x).setCell ⟨b,1,none⟩ y).setCell ⟨b,2,none⟩ z).heap[b]? = some (.cells #[x,y,z] t (0,0)):=
 qG (qG (qG h x) y) z
theorem zC5 {B b:Nat} {w W:World} (h:Below B w W) (hb:B≤b) (x y z:Value):Below B w (((W.setCell ⟨b,0,none⟩ x).setCell ⟨b,1,none⟩ y).setCell ⟨b,2,none⟩ z):=
 qH (qH (qH h hb 0 x) hb 1 y) hb 2 z
theorem zDw {P:Program} {fn:Func} {p u:Tmp} {ty:TypeId} (h:fn.results=#[.cell p ty,.tmp u]) (tmps:Array Value) (w:World) (g:Nat) {v1 v2 v3:Value} {t:TypeId} {fr:Nat×Nat} (hp:tmps.getD p undef = .pointer (some ⟨g,0,none⟩)) (hb:w.heap[g]? = some (.cells #[v1,v2,v3] t fr))
  {fs:Array Field} (hu:P.underlying ty=some (.struct fs)) (hi:(P.info? ty).map (·.size)=some 3) (x:Value) (hx:tmps.getD u undef=x):(results fn tmps).run P w = .ok (.tuple #[.agg #[v1,v2,v3],x]) w:=by
 have hp':tmps[p]?.getD undef = .pointer (some ⟨g,0,none⟩):=by simpa using hp
 rw[results_cell_tmp h,hp,hx]
 simp[asAddr,run_loadVar_row w g t ty #[v1,v2,v3] fr _ hb hu rfl (by simpa using hi)]
theorem zA4:(Tryz.prog.info? 60).map (·.size)=some 3:=by kernel_rfl
theorem joinR_full {W:World} {B:Nat} (c:Nat→Option Value) (x:Jn) (h:zBb W B c x):∀k,k<2→∃v,c k=some v∧v.oneCell'=true:=fun k hk=>by
 match k,hk with
 | 0,_=>exact⟨_,h.1,rfl⟩
 | 1,_=>exact⟨_,h.2,rfl⟩
abbrev kC (W:World) (lo:Nat) (v:Value) (l:List Jn):Prop:=zJ 98 2 zBb W lo v l
theorem kC.sec {W:World} {lo:Nat} {u:Value} {id pt:Int} {l:List Jn} (h:kC W lo u l):SecV W W.heap.size (.agg #[.int .i64 id,.int .i64 pt,u]) (id,pt,l):=
 ⟨u,rfl,h.in_ kL⟩
theorem zJ.slice {α:Type} {T:TypeId} {sz:Nat} {R:El α} {W:World} {lo:Nat} {v:Value} {xs:List α} (h:zJ T sz R W lo v xs):∃A c,v = .slice A xs.length c:=by
 obtain⟨yss,ho,_⟩:=h
 exact xN ho
def vC (s:Sec) (a b:Int):Int:=if qQ s then (if xG s.2.1 a b<0 then 2 else 0) else 8
def vN (s:Sec) (a b:Int):Int:=if vC s a b=0 then xG s.2.1 a b else 0
end Go.Proofs.YtemmgmjhomgbbaaGreat
