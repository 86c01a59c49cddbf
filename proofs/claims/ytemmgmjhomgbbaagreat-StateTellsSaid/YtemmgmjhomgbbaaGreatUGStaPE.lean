/-
 The program's package state: what a route holds, and asks, handed over one by one; take.
 Conditions: none.
-/
import Derived.Test.YtemmgmjhomgbbaaGreatUGStaG
import Derived.Test.YtemmgmjhomgbbaaGreatUWayPK
set_option linter.unusedVariables false
set_option linter.unusedSimpArgs false
set_option maxRecDepth 100000
namespace Go.Proofs.YtemmgmjhomgbbaaGreat
open Go.RowKit
theorem zDa {P:Program} {ops:Array Oper} {S:World→Prop} {op:Oper} {a:Act} (hw:Region.wanted op (yielded ops a.tmps)=true) (t:TypeId) (x lo:Operand) (ho:op.op = .slice t x (some lo) none none)
  {A:Option Addr} {n c m s e:Nat} {i:TypeInfo} (hx:a.eval x = .slice A n c) (hl:a.eval lo = .int .i64 (m:Int)) (ht:P.underlying t=some (.slice e)) (hi:P.info? e=some i) (hs:i.size=s) (hm:m≤n) (hnc:n≤c) {A':Option Addr} (hA:A'=if c=m then A else A.map (·.add (m*s))):
  YieldsIf P ops S op (.slice A' (n-m) (c-m)) a:=.inl ⟨hw,fun w _=>by
 subst hA
 have he:P.elem t=e:=by simp[Program.elem,ht]
 unfold execOp
 simp only[ho,hx,hl,Option.map_some,Option.map_none]
 have hm':(m:Int)≤n:=by omega
 have hm0:(0:Int)≤m:=by omega
 simp[Instr.sliceAt,Instr.slice,run_underlying ht,Instr.sliceBounds,run_sliceBound,sizeOf,typeInfo,hi,hs,hm',hm0]⟩
theorem xB.drop15 {W:World} {B n c m:Nat} {A:Option Addr} {ks:List Int} (h:xB W B (.slice A n c) ks) (hm:m≤ks.length):xB W B (.slice (if c=m then A else A.map (·.add (m*1))) (n-m) (c-m)) (ks.drop m):=by
 obtain⟨A',c',e,h1,h2,hn,h3⟩:=h
 cases e
 have hl:(ks.drop m).length=ks.length-m:=List.length_drop
 refine⟨_,c-m,by rw[hl],by omega,by omega,fun e=>?_,fun hp=>?_⟩
 ·by_cases hcm:c=m
  ·omega
  ·rw[if_neg hcm] at e
   have:A=none:=by cases A with|none=>rfl|some a=>cases e
   have:=hn this
   omega
 ·obtain⟨b,off,ha,hb,hc⟩:=h3 (by omega)
  subst ha
  rw[if_neg (by omega)]
  refine⟨b,off+m*1,by simp[Addr.add],hb,fun j hj=>?_⟩
  have:=hc (m+j) (by omega)
  simp only[jU,Nat.mul_one] at this⊢
  rw[show off+m+j+0=off+(m+j)+0 from by omega,this]
  simp
theorem vJ {W W':World} (h:Below W.heap.size W W') (r:Option Nat):W.grownBy W' r:=⟨h.os,h.tape,h.output,h.size,fun k hk _=>h.block k hk⟩
theorem zAh {W W':World} {m bk o:Nat} {es:qT} {v:Value} (hg:W.grownBy W' (some m)) (hm:xF W m es) (hb:bk<W.heap.size) (hc:W.cell? ⟨bk,o,none⟩=some v):W'.cell? ⟨bk,o,none⟩=some v:=by
 by_cases e:bk=m
 ·subst e
  have g1:W.heap[bk]? = _:=hm
  simp[World.cell?,g1] at hc
 ·exact(World.cell?_of_block (hg.block bk hb (fun e2=>e (by injection e2)))).trans hc
def yE (x:Wy) (b c:Int):List Int:=if b=0 then [] else x.path.drop c.toNat++x.over
def kR (x:Wy) (b c:Int):List Ak:=if b=0 then [] else x.asks.filter (zW c)
theorem stands_snoc {c:Int} {l:List Ak} {k:Ak} (h:zW c k=true):(l++[k]).filter (zW c)=l.filter (zW c)++[k]:=by simp[h]
theorem stands_skip {c:Int} {l:List Ak} {k:Ak} (h:zW c k=false):(l++[k]).filter (zW c)=l.filter (zW c):=by simp[h]
theorem stands_yes {c x y z:Int} (h:z<0∨c≤z):zW c (x,y,z)=true:=by
 unfold zW
 rw[←Bool.decide_or];exact decide_eq_true h
theorem stands_no {c x y z:Int} (h:¬(z<0∨c≤z)):zW c (x,y,z)=false:=by
 unfold zW
 rw[←Bool.decide_or];exact decide_eq_false h
theorem held_way {p:Pl} {s:qD} {i:Nat}:jH p s i=yE (kH p (rtN p i)) (lkN s i).2.1 (lkN s i).2.2.1:=rfl
theorem asked_way {p:Pl} {s:qD} {i:Nat}:jN p s i=kR (kH p (rtN p i)) (lkN s i).2.1 (lkN s i).2.2.1:=rfl
set_option maxHeartbeats 16000000 in
theorem holds_any (P0 P1 P2:Option Addr) (n0 n1 n2 c0 c1 c2:Nat) (nr:Int) (x:Wy) (a b c d:Int) (pc pl m1 m2:Nat) (es:qT) (w:World) (hin:WyIn w w.heap.size (.slice P0 n0 c0) (.slice P1 n1 c1) (.slice P2 n2 c2) x) (hn:n0=x.path.length∧n1=x.over.length∧n2=x.asks.length)
  (hg:b≠0→0≤c∧c<(x.path.length:Int)) (hl2:x.path.length+x.over.length≤1000) (hc:w.heap[pc]? = some (.cells #[.map (some m1),.map (some m2)] 70 (0,0))) (hl:w.heap[pl]? = some (.cells #[.int .i64 a,.int .u8 b,.int .i64 c,.int .i64 d] 53 (0,0))) (hm:xF w m1 es) (hnd:jZ es):
  Calls Tryz.prog 77 #[.agg #[.slice P0 n0 c0,.slice P1 n1 c1,.slice P2 n2 c2,.int .i64 nr],.agg #[.int .i64 a,.int .u8 b,.int .i64 c,.int .i64 d],.func (.func 78) #[] #[.pointer (some ⟨pc,0,none⟩),.pointer (some ⟨pl,0,none⟩)]] w fun e w'=>e = .returned (.bool (okB (okH es (yE x b c))))∧(∃es',xF w' m1 es'∧Hid (okH es (yE x b c)→es'=putH es a (yE x b c)))∧w.grownBy w' (some m1):=by
 have HNN:=zD0 hn
 clear hn
 obtain⟨hx,hy,hqb⟩:=zV w (.cells #[.slice P0 n0 c0,.slice P1 n1 c1,.slice P2 n2 c2,.int .i64 nr] 96) (.cells #[.int .i64 a,.int .u8 b,.int .i64 c,.int .i64 d] 53)
 have hc':=(hqb.block _ (zA hc)).trans hc
 have hl':=(hqb.block _ (zA hl)).trans hl
 have hm':xF _ m1 es:=(hqb.block _ hm.lt).trans hm
 have hml:=Nat.lt_of_lt_of_le hm.lt hqb.size
 go_enter Tryz.func77,Tryz.ntmps77
 go_upto_region 1 with fail
 generalize (w.alloc (.cells #[.slice P0 n0 c0,.slice P1 n1 c1,.slice P2 n2 c2,.int .i64 nr] 96)).alloc (.cells #[.int .i64 a,.int .u8 b,.int .i64 c,.int .i64 d] 53)=q at hx hy hqb hc' hl' hm' hml⊢
 have QB:=zD0 hqb
 have X:=zD0 hx
 have Y:=zD0 hy
 have C:=zD0 hc'
 have L:=zD0 hl'
 have M:=zD0 hm'
 have MS:=zD0 (And.intro hm.lt hml)
 have ND:=zD0 hnd
 have HIN:=zD0 (show WyIn q q.heap.size _ _ _ x from(hin.below hqb).more hqb.size)
 obtain⟨j0,j1,j2,j3⟩:=qC hy
 clear hx hy hc' hl' hm' hc hl hm hnd hin hqb hml
 by_cases hb0:b=0
 ·have HW:Hid (yE x b c=[]):=zD0 (by rw[yE,if_pos hb0])
  have hb':(b==0)=true:=by simpa using hb0
  clear hb0 hg
  go_wp2_with fail
  go_ret
  exact⟨by rw[yP (by rw[HW.out];exact okH_nil es)];rfl,⟨es,M.out,zD0 fun _=>by rw[HW.out];rfl⟩,vJ QB.out _⟩
 have hb':(b==0)=false:=by simpa using hb0
 obtain⟨hc0,hc1⟩:=hg hb0
 obtain⟨k,rfl⟩:∃k:Nat,c=(k:Int):=⟨c.toNat,by omega⟩
 have HW:Hid (yE x b k=x.path.drop k++x.over):=zD0 (by rw[yE,if_neg hb0,Int.toNat_natCast])
 obtain⟨ii0,hi,hz0,hz1,hz2⟩:=info_parts zAz
 have I0:=zD0 hi
 have I2:=zD0 hz1
 obtain⟨D0,hd0⟩:=zD1 ((if c0=k then P0 else P0.map (·.add (k*1))))
 obtain⟨dn,hdn⟩:=zD1 (n0-k)
 obtain⟨dc,hdc⟩:=zD1 (c0-k)
 have HD0:=zD0 hd0
 have hcap:n0≤c0:=by
  obtain⟨A',c',e,h1,h2,-⟩:=HIN.out.path
  cases e
  omega
 have HKN:Hid (k≤n0∧n0≤c0∧dn=n0-k∧dc=c0-k):=zD0 ⟨by have:=HNN.out.1;omega,hcap,hdn,hdc⟩
 have HDR:Hid (xB q q.heap.size (.slice D0 dn dc) (x.path.drop k)):=zD0 (by rw[hd0,hdn,hdc];exact xB.drop15 HIN.out.path (by omega))
 have HOV:Hid (xB q q.heap.size (.slice P1 n1 c1) x.over):=zD0 HIN.out.over
 have HLN:Hid (dn=(x.path.drop k).length∧n1=x.over.length∧1≤dn+n1∧dn+n1≤1000):=zD0 ⟨by rw[List.length_drop,hdn,HNN.out.1],HNN.out.2.1,by have:=HNN.out;omega,by have:=HNN.out;omega⟩
 clear hi hz0 hz1 hz2 hd0 hdn hdc hcap hb0 hg hc0 hc1 hl2 HNN
 go_upto_region 3 with fail
 clear j0 j1 j2 j3 hb'
 refine wp_region_held_drew (S:=fun v=>Below q.heap.size q v) (by kernel_rfl) (Below.refl q.heap.size q).drew (fun zD2=>?_)
 refine tk 0 zD2 ?_;refine tkc 1 zD2 (fun w' hSw=>qC ((hSw.block _ (zA X.out)).trans X.out)) ?_;refine tk 2 zD2 ?_;refine tkc 3 zD2 (fun w' hSw=>qC ((hSw.block _ (zA Y.out)).trans Y.out)) ?_
 refine wpAnyH_take (i:=4) rfl (by kernel_rfl) (by kernel_rfl) (by kernel_rfl) (fun _ _ _ h=>h) (zDa (by rfl) 61 _ _ rfl rfl rfl Tryz.underlying61 I0.out I2.out HKN.out.1 HKN.out.2.1 HD0.out) zD2 ?_
 simp only[zn,Act.put]
 rw[←HKN.out.2.2.1,←HKN.out.2.2.2]
 refine tk 5 zD2 ?_;refine tkc 6 zD2 (fun w' hSw=>qC ((hSw.block _ (zA X.out)).trans X.out)) ?_;refine tk 10 zD2 ?_
 have tb:=(Below.refl q.heap.size q).drew
 generalize q.drew=q0 at tb zD2⊢
 have HB:=zD0 tb
 clear tb
 refine tkr 7 (fun K hK=>?_)
 go_simp
 have tb:=HB.out.alloc HB.out.size (.cells #[.slice D0 dn dc,.slice P1 n1 c1] 61)
 have tx:=zB q0 (.cells #[.slice D0 dn dc,.slice P1 n1 c1] 61)
 refine hK.out _ _ ?_ fun zD2=>?_;exact tb;clear hK K;try simp only[zn,Act.put]
 generalize q0.alloc (.cells #[.slice D0 dn dc,.slice P1 n1 c1] 61)=q1 at tb tx zD2⊢
 obtain⟨p1,hp⟩:=zD1 (q0.heap.size)
 rw[←hp] at tx⊢
 clear HB
 have HB:=zD0 tb
 have X1:=zD0 tx
 clear tb tx hp
 refine tkr 8 (fun K hK=>?_)
 go_simp
 refine(zCs p1 _ _ _ _ _ _ (x.path.drop k) x.over q1 X1.out ((HDR.out.below qI HB.out).more qI HB.out.size) ((HOV.out.below qI HB.out).more qI HB.out.size) HLN.out.1 HLN.out.2.1 HLN.out.2.2.1 HLN.out.2.2.2).mono ?_
 rintro e q2 ⟨A6,c6,N,rfl,hN,hol,b6⟩
 have I6:Hid (xB q2 q2.heap.size (.slice A6 N c6) (x.path.drop k++x.over)):=zD0 (hol.in_ zZ)
 have HN:=zD0 hN
 have tb:=HB.out.trans (b6.mono HB.out.size)
 have hNb:N≤9223372036854775807:=by rw[hN];have:=HLN.out;rw[List.length_append];omega
 clear HB b6 hol X1 hN
 have HB:=zD0 tb
 clear tb
 try go_wp2_with fail
 refine hK.out _ _ ?_ fun zD2=>?_;exact HB.out;clear hK K;try simp only[zn,Act.put]
 refine tk 9 zD2 ?_
 refine wpAnyH_done (by kernel_rfl) ?_ _
 go_wp2_with fail
 have HIL:Hid (Below q.heap.size q q2):=HB
 have Q0:Hid (w.grownBy q2 (some m1)):=zD0 (vJ (QB.out.trans (HB.out.mono QB.out.size)) _)
 have C2:=zD0 ((HB.out.block _ (zA C.out)).trans C.out)
 have L2:=zD0 ((HB.out.block _ (zA L.out)).trans L.out)
 have M2:Hid (xF q2 m1 es):=zD0 ((HB.out.block _ M.out.lt).trans M.out)
 obtain⟨xs,hxs⟩:=zD1 (x.path.drop k++x.over)
 have HX:Hid (yE x b k=xs):=zD0 (by rw[HW.out,hxs])
 rw[←hxs] at I6 HN
 clear hxs HW HD0 HKN HDR HOV HLN HIN HB HIL C L M QB X Y I0 I2
 go_loopw [22] (fun s22 wr=>∃i:Nat,i≤N∧s22 = .int .i64 i∧okH es (xs.take i)∧xF wr m1 (putH es a (xs.take i))∧q2.grownBy wr (some m1)) (fun s22 _=>N-(intOf s22).toNat)
 case atStart=>exact⟨0,by omega,by go_num,okH_nil es,M2.out,World.grownBy.refl q2 _⟩
 case round=>
  obtain⟨i,hi,rfl,hok,hmw,hgw⟩:=hrel
  have OK:=zD0 hok
  have MW:=zD0 hmw
  have GW:=zD0 hgw
  have CW:=zD0 ((hgw.block _ (zA C2.out) (fun e=>by injection e with e;have h1:=C2.out;have h2:=M2.out;rw[e] at h1;rw[show q2.heap[m1]? = _ from h2] at h1;cases h1)).trans C2.out)
  have LW:=zD0 ((hgw.block _ (zA L2.out) (fun e=>by injection e with e;have h1:=L2.out;have h2:=M2.out;rw[e] at h1;rw[show q2.heap[m1]? = _ from h2] at h1;cases h1)).trans L2.out)
  clear hok hmw hgw
  by_cases hlt:i<N
  ·have hlt':(i:Int)<N:=by omega
   have hir:i<xs.length:=by rw[←HN.out];exact hlt
   obtain⟨bk,off,rfl,hbk,hc0⟩:=I6.out.at hir
   obtain⟨y,hy⟩:=zD1 (xs[i])
   have hcell:wr.cell? ⟨bk,off+i,none⟩=some (.int .i64 y):=by
    have hc1:q2.cell? ⟨bk,off+i,none⟩=some (.int .i64 xs[i]):=by simpa [jU] using hc0
    rw[hy]
    exact zAh GW.out M2.out hbk hc1
   have HY:Hid (xs.take (i+1)=xs.take i++[y]):=zD0 (by rw[hy,List.take_succ_eq_append_getElem hir])
   have HPRE:Hid (xs.take (i+1)++xs.drop (i+1)=xs):=zD0 (List.take_append_drop _ _)
   clear hc0 hbk hy
   go_wp2_with fail
   refine(take1_any y pc pl m1 m2 (putH es a (xs.take i)) a b k d wr CW.out LW.out MW.out).mono ?_
   rintro e w5 ⟨rfl,hm5,hg5⟩
   have H5:=zD0 hm5
   have G5:=zD0 (GW.out.trans hg5)
   clear hm5 hg5 hcell
   cases e0:qS (putH es a (xs.take i)) y with
   | none=>
    have OK':Hid (okH es (xs.take (i+1))):=zD0 (by rw[HY.out];exact(okH_snoc ND.out).2 ⟨OK.out,e0⟩)
    have H6:Hid (xF w5 m1 (putH es a (xs.take (i+1)))):=zD0 (by rw[HY.out,putH_snoc];exact H5.out)
    clear e0
    go_wp2_with fail
    go_roundw
    case measure=>simp[intOf];omega
    case rel=>exact⟨i+1,by omega,by go_num,OK'.out,H6.out,G5.out⟩
   | some v0=>
    have NO:Hid (¬okH es xs):=zD0 (fun h=>by
     rw[←HPRE.out] at h
     have h:=okH_pre h
     rw[HY.out,okH_snoc ND.out (id:=a)] at h
     rw[e0] at h;cases h.2)
    clear e0
    go_wp2_with fail
    go_ret
    exact⟨by rw[zBv (by rw[HX.out];exact NO.out)];rfl,⟨_,H5.out,zD0 fun h=>absurd (by rw[HX.out] at h;exact h) NO.out⟩,Q0.out.trans G5.out⟩
  ·obtain rfl:i=N:=by omega
   have hlt':¬(i:Int)<i:=by omega
   have HT:Hid (xs.take i=xs):=zD0 (List.take_of_length_le (Nat.le_of_eq HN.out.symm))
   have OK':Hid (okH es xs):=zD0 (HT.out▸OK.out)
   have M':Hid (xF wr m1 (putH es a xs)):=zD0 (HT.out▸MW.out)
   go_wp2_with fail
   go_ret
   exact⟨by rw[yP (by rw[HX.out];exact OK'.out)];rfl,⟨_,M'.out,zD0 fun _=>by rw[HX.out]⟩,Q0.out.trans GW.out⟩
set_option maxHeartbeats 16000000 in
theorem asks_any (P0 P1 P2:Option Addr) (n0 n1 n2 c0 c1 c2:Nat) (nr:Int) (x:Wy) (a b c d:Int) (pc pl m1 m2:Nat) (fs:qT) (w:World) (hin:WyIn w w.heap.size (.slice P0 n0 c0) (.slice P1 n1 c1) (.slice P2 n2 c2) x) (hn:n0=x.path.length∧n1=x.over.length∧n2=x.asks.length)
  (hg:b≠0→0≤c∧c<(x.path.length:Int)) (hl2:x.path.length+x.over.length≤1000) (hc:w.heap[pc]? = some (.cells #[.map (some m1),.map (some m2)] 70 (0,0))) (hm:xF w m2 fs) (hnd:jZ fs) (hv:∀y v,qS fs y=some v→∃z:Int,v = .int .i64 z):
  Calls Tryz.prog 79 #[.agg #[.slice P0 n0 c0,.slice P1 n1 c1,.slice P2 n2 c2,.int .i64 nr],.agg #[.int .i64 a,.int .u8 b,.int .i64 c,.int .i64 d],.func (.func 80) #[] #[.pointer (some ⟨pc,0,none⟩)]] w fun e w'=>e = .returned (.bool (okB (okA fs (kR x b c))))∧(∃fs',xF w' m2 fs'∧Hid (okA fs (kR x b c)→fs'=putA fs (kR x b c)))∧w.grownBy w' (some m2):=by
 have HNN:=zD0 hn
 clear hn
 obtain⟨hx,hy,hqb⟩:=zV w (.cells #[.slice P0 n0 c0,.slice P1 n1 c1,.slice P2 n2 c2,.int .i64 nr] 96) (.cells #[.int .i64 a,.int .u8 b,.int .i64 c,.int .i64 d] 53)
 have hc':=(hqb.block _ (zA hc)).trans hc
 have hm':xF _ m2 fs:=(hqb.block _ hm.lt).trans hm
 go_enter Tryz.func79,Tryz.ntmps79
 go_upto_region 1 with fail
 generalize (w.alloc (.cells #[.slice P0 n0 c0,.slice P1 n1 c1,.slice P2 n2 c2,.int .i64 nr] 96)).alloc (.cells #[.int .i64 a,.int .u8 b,.int .i64 c,.int .i64 d] 53)=q at hx hy hqb hc' hm'⊢
 have QB:=zD0 hqb
 have X:=zD0 hx
 have Y:=zD0 hy
 have C:=zD0 hc'
 have M:=zD0 hm'
 have ND:=zD0 hnd
 have HV:=zD0 hv
 have HIN:=zD0 (show AsksIn q q.heap.size _ x.asks from(hin.asks.below zP hqb).more zP hqb.size)
 obtain⟨N,hN⟩:=zD1 (n2)
 have hNb:n2≤9223372036854775807:=by
  obtain⟨A',c',e,h1,h2,-⟩:=HIN.out
  cases e
  unfold maxLen at h2
  omega
 have HN:=zD0 HNN.out.2.2
 obtain⟨l0,l1,l2,l3⟩:=qC hy
 obtain⟨k0,k1,k2,k3⟩:=qC hx
 clear hx hy hc' hm' hc hm hnd hin hqb hv HNN hN N hl2 hg
 by_cases hb0:b=0
 ·have HW:Hid (kR x b c=[]):=zD0 (by rw[kR,if_pos hb0])
  have hb':(b==0)=true:=by simpa using hb0
  clear hb0
  go_wp2_with fail
  go_ret
  exact⟨by rw[yP (by rw[HW.out];exact okA_nil fs)];rfl,⟨fs,M.out,zD0 fun _=>by rw[HW.out];rfl⟩,vJ QB.out _⟩
 have hb':(b==0)=false:=by simpa using hb0
 obtain⟨xs,hxs⟩:=zD1 (x.asks)
 have HX:Hid (kR x b c=xs.filter (zW c)):=zD0 (by rw[kR,if_neg hb0,hxs])
 rw[←hxs] at HIN HN
 have Q0:Hid (w.grownBy q (some m2)):=zD0 (vJ QB.out _)
 clear hxs hb0
 go_upto_region 4 with fail
 clear l0 l1 l2 l3 k0 k1 k2 k3 hb' X QB
 go_loopw [16] (fun s16 wr=>∃i:Nat,i≤n2∧s16 = .int .i64 i∧okA fs ((xs.take i).filter (zW c))∧xF wr m2 (putA fs ((xs.take i).filter (zW c)))∧q.grownBy wr (some m2)) (fun s16 _=>n2-(intOf s16).toNat)
 case atStart=>exact⟨0,by omega,by go_num,okA_nil fs,M.out,World.grownBy.refl q _⟩
 case round=>
  obtain⟨i,hi,rfl,hok,hmw,hgw⟩:=hrel
  have OK:=zD0 hok
  by_cases hlt:i<n2
  ·have hlt':(i:Int)<n2:=by omega
   have hir:i<xs.length:=by rw[←HN.out];exact hlt
   obtain⟨bk,off,rfl,hbk,hc0,hc1,hc2⟩:=HIN.out.at hir
   obtain⟨kx,ky,kz,hk⟩:∃kx ky kz,xs[i]=(kx,ky,kz):=⟨_,_,_,rfl⟩
   rw[hk] at hc0 hc1 hc2
   dsimp only at hc0 hc1 hc2
   have f0:wr.cell? ⟨bk,off+i*3,none⟩=some (.int .i64 kx):=zAh hgw M.out hbk hc0
   have f1:wr.cell? ⟨bk,off+i*3+1,none⟩=some (.int .i64 ky):=zAh hgw M.out hbk hc1
   have f2:wr.cell? ⟨bk,off+i*3+2,none⟩=some (.int .i64 kz):=zAh hgw M.out hbk hc2
   have HT:Hid (xs.take (i+1)=xs.take i++[(kx,ky,kz)]):=zD0 (by rw[←hk,List.take_succ_eq_append_getElem hir])
   have HPRE:Hid ((xs.take (i+1)).filter (zW c)++(xs.drop (i+1)).filter (zW c)=xs.filter (zW c)):=zD0 (by rw[←List.filter_append,List.take_append_drop])
   have HVV:Hid (∀v,qS (putA fs ((xs.take i).filter (zW c))) kx=some v→∃z:Int,v = .int .i64 z):=zD0 (fun v h=>by
    rcases(zBg _ _ ND.out OK.out kx v).1 h with⟨a,-,-,e⟩|h
    ·exact⟨_,e⟩
    ·exact HV.out kx v h)
   obtain⟨q3,hq3⟩:=zD1 (wr.alloc (.cells #[.int .i64 kx,.int .i64 ky,.int .i64 kz] 108))
   have x3:=zB wr (.cells #[.int .i64 kx,.int .i64 ky,.int .i64 kz] 108)
   have b3:=zD wr (.cells #[.int .i64 kx,.int .i64 ky,.int .i64 kz] 108)
   rw[←hq3] at x3 b3
   have ne (bq:Nat) (cs:Array Value) (t:TypeId) (hq:q.heap[bq]? = some (.cells cs t (0,0))):q3.heap[bq]? = some (.cells cs t (0,0)):=(b3.block _ (Nat.lt_of_lt_of_le (zA hq) hgw.size)).trans ((hgw.block _ (zA hq) (fun e=>by injection e with e;have h2:=M.out;rw[e] at hq;rw[show q.heap[m2]? = _ from h2] at hq;cases hq)).trans hq)
   have CW:=zD0 (ne _ _ _ C.out)
   have YW:=zD0 (ne _ _ _ Y.out)
   have MW:Hid (xF q3 m2 (putA fs ((xs.take i).filter (zW c)))):=zD0 ((b3.block _ hmw.lt).trans hmw)
   have GW:=zD0 (hgw.trans (vJ b3 (some m2)))
   have X3:=zD0 x3
   have HQ3:=zD0 hq3
   clear hok hmw hgw ne x3 b3 hq3 hc0 hc1 hc2 hbk hk
   go_upto_region 6 with fail
   rw[←HQ3.out]
   clear f0 f1 f2 HQ3
   generalize wr.heap.size=p3 at X3⊢
   obtain⟨k0,k1,k2⟩:=zC X3.out
   obtain⟨l0,l1,l2,l3⟩:=qC YW.out
   by_cases ha:(0:Int)≤kz
   ·by_cases hac:kz<c
    ·have HSN:Hid ((xs.take (i+1)).filter (zW c)=(xs.take i).filter (zW c)):=zD0 (by rw[HT.out];exact stands_skip (stands_no (by omega)))
     have OK':Hid (okA fs ((xs.take (i+1)).filter (zW c))):=zD0 (by rw[HSN.out];exact OK.out)
     have H6:Hid (xF q3 m2 (putA fs ((xs.take (i+1)).filter (zW c)))):=zD0 (by rw[HSN.out];exact MW.out)
     go_wp2_with fail
     go_roundw
     case measure=>simp[intOf];omega
     case rel=>exact⟨i+1,by omega,by go_num,OK'.out,H6.out,GW.out⟩
    ·have HSN:Hid ((xs.take (i+1)).filter (zW c)=(xs.take i).filter (zW c)++[(kx,ky,kz)]):=zD0 (by rw[HT.out];exact stands_snoc (stands_yes (by omega)))
     go_wp2_with fail
     refine(take2_any (kx,ky,kz) pc m1 m2 (putA fs ((xs.take i).filter (zW c))) q3 CW.out MW.out HVV.out).mono ?_
     rintro e w5 ⟨rfl,hm5,hg5⟩
     have H5:=zD0 hm5
     have G5:=zD0 (GW.out.trans hg5)
     clear hm5 hg5 l0 l1 l2 l3 k0 k1 k2
     by_cases hgg:∀v,qS (putA fs ((xs.take i).filter (zW c))) kx=some v→v = .int .i64 ky
     ·rw[yP hgg]
      have OK':Hid (okA fs ((xs.take (i+1)).filter (zW c))):=zD0 (by rw[HSN.out];exact(okA_snoc ND.out OK.out).2 hgg)
      have H6:Hid (xF w5 m2 (putA fs ((xs.take (i+1)).filter (zW c)))):=zD0 (by rw[HSN.out,putA_snoc];exact H5.out)
      clear hgg
      go_wp2_with fail
      go_roundw
      case measure=>simp[intOf];omega
      case rel=>exact⟨i+1,by omega,by go_num,OK'.out,H6.out,G5.out⟩
     ·rw[zBv hgg]
      have NO:Hid (¬okA fs (xs.filter (zW c))):=zD0 (fun h=>by
       rw[←HPRE.out] at h
       have h:=okA_pre h
       rw[HSN.out,okA_snoc ND.out OK.out] at h
       exact hgg h)
      clear hgg
      go_wp2_with fail
      go_ret
      exact⟨by rw[zBv (by rw[HX.out];exact NO.out)];rfl,⟨_,H5.out,zD0 fun h=>absurd (by rw[HX.out] at h;exact h) NO.out⟩,Q0.out.trans G5.out⟩
   ·have HSN:Hid ((xs.take (i+1)).filter (zW c)=(xs.take i).filter (zW c)++[(kx,ky,kz)]):=zD0 (by rw[HT.out];exact stands_snoc (stands_yes (by omega)))
    go_wp2_with fail
    refine(take2_any (kx,ky,kz) pc m1 m2 (putA fs ((xs.take i).filter (zW c))) q3 CW.out MW.out HVV.out).mono ?_
    rintro e w5 ⟨rfl,hm5,hg5⟩
    have H5:=zD0 hm5
    have G5:=zD0 (GW.out.trans hg5)
    clear hm5 hg5 l0 l1 l2 l3 k0 k1 k2
    by_cases hgg:∀v,qS (putA fs ((xs.take i).filter (zW c))) kx=some v→v = .int .i64 ky
    ·rw[yP hgg]
     have OK':Hid (okA fs ((xs.take (i+1)).filter (zW c))):=zD0 (by rw[HSN.out];exact(okA_snoc ND.out OK.out).2 hgg)
     have H6:Hid (xF w5 m2 (putA fs ((xs.take (i+1)).filter (zW c)))):=zD0 (by rw[HSN.out,putA_snoc];exact H5.out)
     clear hgg
     go_wp2_with fail
     go_roundw
     case measure=>simp[intOf];omega
     case rel=>exact⟨i+1,by omega,by go_num,OK'.out,H6.out,G5.out⟩
    ·rw[zBv hgg]
     have NO:Hid (¬okA fs (xs.filter (zW c))):=zD0 (fun h=>by
      rw[←HPRE.out] at h
      have h:=okA_pre h
      rw[HSN.out,okA_snoc ND.out OK.out] at h
      exact hgg h)
     clear hgg
     go_wp2_with fail
     go_ret
     exact⟨by rw[zBv (by rw[HX.out];exact NO.out)];rfl,⟨_,H5.out,zD0 fun h=>absurd (by rw[HX.out] at h;exact h) NO.out⟩,Q0.out.trans G5.out⟩
  ·obtain rfl:i=n2:=by omega
   have hlt':¬(i:Int)<i:=by omega
   have HT:Hid (xs.take i=xs):=zD0 (List.take_of_length_le (Nat.le_of_eq HN.out.symm))
   have OK':Hid (okA fs (xs.filter (zW c))):=zD0 (HT.out▸OK.out)
   have M':Hid (xF wr m2 (putA fs (xs.filter (zW c)))):=zD0 (HT.out▸hmw)
   have GW:=zD0 hgw
   clear hok hmw hgw
   go_wp2_with fail
   go_ret
   exact⟨by rw[yP (by rw[HX.out];exact OK'.out)];rfl,⟨_,M'.out,zD0 fun _=>by rw[HX.out]⟩,Q0.out.trans GW.out⟩
theorem vK (w:World) (o1 o2 o3:Obj):(((w.alloc o1).alloc o2).alloc o3).heap[w.heap.size]? = some o1∧(((w.alloc o1).alloc o2).alloc o3).heap[w.heap.size+1]? = some o2∧(((w.alloc o1).alloc o2).alloc o3).heap[w.heap.size+2]? = some o3∧Below w.heap.size w (((w.alloc o1).alloc o2).alloc o3):=by
 obtain⟨h1,h2,hb⟩:=zV w o1 o2
 have h3:=zB ((w.alloc o1).alloc o2) o3
 have hb3:=zD ((w.alloc o1).alloc o2) o3
 have hs:((w.alloc o1).alloc o2).heap.size=w.heap.size+2:=by rw[yQ,yQ]
 rw[hs] at h3
 exact⟨(hb3.block _ (zA h1)).trans h1,(hb3.block _ (zA h2)).trans h2,h3,hb.trans (hb3.mono hb.size)⟩
theorem zC8 {α:Type} {sz:Nat} {R:El α} {W W':World} {m:Nat} {es:qT} {v:Value} {xs:List α} (hf:zAo R) (h:xC sz R W W.heap.size v xs) (hs:∀(c c':Nat→Option Value) (x:α),(∀k,k<sz→c k=c' k)→R W W.heap.size c x→R W W.heap.size c' x) (hfull:∀(c:Nat→Option Value) (x:α),R W W.heap.size c x→∀k,k<sz→∃v,c k=some v∧v.oneCell'=true) (hg:W.grownBy W' (some m)) (hm:xF W m es):xC sz R W' W'.heap.size v xs:=by
 obtain⟨A,cap,h0,h1,h2,hn,h3⟩:=h
 refine⟨A,cap,h0,h1,h2,hn,fun hp=>?_⟩
 obtain⟨b,off,ha,hlt,hc⟩:=h3 hp
 refine⟨b,off,ha,Nat.lt_of_lt_of_le hlt hg.size,fun j hj=>?_⟩
 have h:=hc j hj
 refine hf (hs _ _ _ (fun k hk=>?_) h)
 obtain⟨v,hv,-⟩:=hfull _ _ h k hk
 exact hv.trans (zAh hg hm hlt hv).symm
theorem way_grown15 {W W':World} {m:Nat} {es:qT} {u0 u1 u2:Value} {x:Wy} (h:WyIn W W.heap.size u0 u1 u2 x) (hg:W.grownBy W' (some m)) (hm:xF W m es):WyIn W' W'.heap.size u0 u1 u2 x:=
 ⟨zC8 jW h.path zZ kS hg hm,zC8 jW h.over zZ kS hg hm,zC8 zAc h.asks jJ sigR_full hg hm⟩
set_option maxHeartbeats 8000000 in
theorem take_any (P0 P1 P2:Option Addr) (n0 n1 n2 c0 c1 c2:Nat) (nr:Int) (x:Wy) (a b c d:Int) (m1 m2:Nat) (es fs:qT) (w:World) (hin:WyIn w w.heap.size (.slice P0 n0 c0) (.slice P1 n1 c1) (.slice P2 n2 c2) x) (hn:n0=x.path.length∧n1=x.over.length∧n2=x.asks.length)
  (hg:b≠0→0≤c∧c<(x.path.length:Int)) (hl2:x.path.length+x.over.length≤1000) (hne:m1≠m2) (hm1:xF w m1 es) (hm2:xF w m2 fs) (hnd1:jZ es) (hnd2:jZ fs) (hv:∀y v,qS fs y=some v→∃z:Int,v = .int .i64 z):
  Calls Tryz.prog 50 #[.agg #[.map (some m1),.map (some m2)],.agg #[.slice P0 n0 c0,.slice P1 n1 c1,.slice P2 n2 c2,.int .i64 nr],.agg #[.int .i64 a,.int .u8 b,.int .i64 c,.int .i64 d]] w fun e w'=>e = .returned (.bool (okB (okH es (yE x b c)∧okA fs (kR x b c)))) ∧
   (∃es' fs',xF w' m1 es'∧xF w' m2 fs'∧Hid (okH es (yE x b c)→okA fs (kR x b c)→es'=putH es a (yE x b c)∧fs'=putA fs (kR x b c)))∧Hid ((∀n,n≤m1→n≤m2→Below n w w')∧∀j,j<w.heap.size→j≠m1→j≠m2→w'.heap[j]? = w.heap[j]?):=by
 have HNN:=zD0 hn
 have HG:=zD0 hg
 have HNE:=zD0 hne
 clear hn hg hne
 obtain⟨hx,hy,hz,hqb⟩:=vK w (.cells #[.map (some m1),.map (some m2)] 70) (.cells #[.slice P0 n0 c0,.slice P1 n1 c1,.slice P2 n2 c2,.int .i64 nr] 96) (.cells #[.int .i64 a,.int .u8 b,.int .i64 c,.int .i64 d] 53)
 have M1:xF _ m1 es:=(hqb.block _ hm1.lt).trans hm1
 have M2:xF _ m2 fs:=(hqb.block _ hm2.lt).trans hm2
 have hin':=(hin.below hqb).more hqb.size
 have hlt:=And.intro hm1.lt hm2.lt
 go_enter Tryz.func50,Tryz.ntmps50
 go_upto_region 1 with fail
 generalize ((w.alloc (.cells #[.map (some m1),.map (some m2)] 70)).alloc (.cells #[.slice P0 n0 c0,.slice P1 n1 c1,.slice P2 n2 c2,.int .i64 nr] 96)).alloc (.cells #[.int .i64 a,.int .u8 b,.int .i64 c,.int .i64 d] 53)=q at hx hy hz hqb M1 M2 hin'⊢
 have QB0:=zD0 hqb.size
 generalize hp:w.heap.size=p at hx hy hz hqb hlt⊢
 have HP:=zD0 hp
 have QB:=zD0 hqb
 have X:=zD0 hx
 have Y:=zD0 hy
 have Z:=zD0 hz
 have N1:=zD0 M1
 have N2:=zD0 M2
 have IN:=zD0 hin'
 have LT:=zD0 hlt
 have ND1:=zD0 hnd1
 have ND2:=zD0 hnd2
 have HV:=zD0 hv
 have HL:=zD0 hl2
 clear hp hqb hx hy hz M1 M2 hin' hlt hnd1 hnd2 hv hl2 hin hm1 hm2
 obtain⟨j0,j1,j2,j3⟩:=qC Y.out
 obtain⟨l0,l1,l2,l3⟩:=qC Z.out
 go_wp2_with fail
 refine(holds_any P0 P1 P2 n0 n1 n2 c0 c1 c2 nr x a b c d p (p+2) m1 m2 es q IN.out HNN.out HG.out HL.out X.out Z.out N1.out ND1.out).mono ?_
 rintro e w1 ⟨rfl,⟨es',hm1',hes'⟩,hg1⟩
 have Y1:=zD0 ((hg1.block _ (zA Y.out) (fun e=>by injection e with e;have:=LT.out.1;omega)).trans Y.out)
 have Z1:=zD0 ((hg1.block _ (zA Z.out) (fun e=>by injection e with e;have:=LT.out.1;omega)).trans Z.out)
 have X1:=zD0 ((hg1.block _ (zA X.out) (fun e=>by injection e with e;have:=LT.out.1;omega)).trans X.out)
 have G1:=zD0 hg1
 have K1:=zD0 hm1'
 have E1:Hid (okH es (yE x b c)→es'=putH es a (yE x b c)):=hes'
 have K2:Hid (xF w1 m2 fs):=zD0 ((hg1.block _ N2.out.lt (fun e=>HNE.out (by injection e with e;exact e.symm))).trans N2.out)
 have BL:Hid (∀n,n≤m1→n≤m2→Below n w w1):=zD0 (fun n h1 h2=>(QB.out.mono (by have:=LT.out.1;omega)).trans (zDx G1.out h1 (by have:=LT.out.1;have:=QB.out.size;rw[HP.out] at this;omega)))
 have BK:Hid (∀j,j<w.heap.size→j≠m1→j≠m2→w1.heap[j]? = w.heap[j]?):=zD0 (fun j hj h1 h2=>(G1.out.block j (Nat.lt_of_lt_of_le hj QB0.out) (fun e=>h1 (by injection e))).trans (QB.out.block j (by rw[HP.out] at hj;exact hj)))
 have IN1:Hid (WyIn w1 w1.heap.size (.slice P0 n0 c0) (.slice P1 n1 c1) (.slice P2 n2 c2) x):=zD0 (way_grown15 IN.out G1.out N1.out)
 clear hg1 hm1' hes' j0 j1 j2 j3 l0 l1 l2 l3
 by_cases h1:okH es (yE x b c)
 rotate_left
 ·rw[zBv h1]
  have HF:Hid (okB (okH es (yE x b c)∧okA fs (kR x b c))=false):=zD0 (zBv (fun h=>h1 h.1))
  have H1:=zD0 h1
  clear h1
  go_wp2_with fail
  go_ret
  exact⟨by rw[HF.out];rfl,⟨es',fs,K1.out,K2.out,zD0 fun h=>absurd h H1.out⟩,zD0 ⟨BL.out,BK.out⟩⟩
 rw[yP h1]
 have H1:=zD0 h1
 clear h1
 obtain⟨j0,j1,j2,j3⟩:=qC Y1.out
 obtain⟨l0,l1,l2,l3⟩:=qC Z1.out
 go_wp2_with fail
 refine(asks_any P0 P1 P2 n0 n1 n2 c0 c1 c2 nr x a b c d p (p+2) m1 m2 fs w1 IN1.out HNN.out HG.out HL.out X1.out K2.out ND2.out HV.out).mono ?_
 rintro e w2 ⟨rfl,⟨fs',hm2',hfs'⟩,hg2⟩
 have K1':Hid (xF w2 m1 es'):=zD0 ((hg2.block _ K1.out.lt (fun e=>HNE.out (by injection e))).trans K1.out)
 have K2':=zD0 hm2'
 have BK':Hid (∀j,j<w.heap.size→j≠m1→j≠m2→w2.heap[j]? = w.heap[j]?):=zD0 (fun j hj h1 h2=>(hg2.block j (Nat.lt_of_lt_of_le hj (Nat.le_trans QB0.out G1.out.size)) (fun e=>h2 (by injection e))).trans (BK.out j hj h1 h2))
 have BL':Hid (∀n,n≤m1→n≤m2→Below n w w2):=zD0 (fun n h1 h2=>(BL.out n h1 h2).trans (zDx hg2 h2 (Nat.le_trans h1 (Nat.le_of_lt K1.out.lt))))
 have E2:Hid (okA fs (kR x b c)→fs'=putA fs (kR x b c)):=hfs'
 clear hg2 hm2' hfs' j0 j1 j2 j3 l0 l1 l2 l3
 by_cases h2:okA fs (kR x b c)
 ·rw[yP h2]
  have HF:Hid (okB (okH es (yE x b c)∧okA fs (kR x b c))=true):=zD0 (yP ⟨H1.out,h2⟩)
  clear h2
  go_wp2_with fail
  go_ret
  exact⟨by rw[HF.out];rfl,⟨es',fs',K1'.out,K2'.out,zD0 fun h h'=>⟨E1.out h,E2.out h'⟩⟩,zD0 ⟨BL'.out,BK'.out⟩⟩
 ·rw[zBv h2]
  have HF:Hid (okB (okH es (yE x b c)∧okA fs (kR x b c))=false):=zD0 (zBv (fun h=>h2 h.2))
  clear h2
  go_wp2_with fail
  go_ret
  exact⟨by rw[HF.out];rfl,⟨es',fs',K1'.out,K2'.out,zD0 fun h h'=>⟨E1.out h,E2.out h'⟩⟩,zD0 ⟨BL'.out,BK'.out⟩⟩
end Go.Proofs.YtemmgmjhomgbbaaGreat
