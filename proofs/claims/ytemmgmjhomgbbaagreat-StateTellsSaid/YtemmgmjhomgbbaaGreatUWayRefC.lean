/-
 The document's own function of package way: Ends.
 Conditions: none.
-/
import Derived.Test.YtemmgmjhomgbbaaGreatUWayRefB
import Derived.Test.YtemmgmjhomgbbaaGreatUGPlnRefB
import Derived.Maps.AppendAt
import Derived.OwnWalk
set_option linter.unusedVariables false
set_option linter.unusedSimpArgs false
set_option maxRecDepth 100000
namespace Go.Proofs.YtemmgmjhomgbbaaGreat
open Go.RowKit
theorem zAr {W:World} {lo n:Nat} {v:Value} {l:List Int} (h:qV W lo v l) (hn:l.length=n):W.ownsRow lo 3 1 v n (l.map fun x=>.int .i64 x):=by
 subst hn
 obtain⟨yss,ho,hl,hm,hs,ht⟩:=h
 have e:yss=l.map fun x=>[.int .i64 x]:=List.ext_getElem (by simp[hl]) fun j h1 h2=>by
  have h2':j<l.length:=by omega
  have h3:(yss[j])[0]? = some (.int .i64 l[j]):=ht j yss[j] l[j] (List.getElem?_eq_getElem h1) (List.getElem?_eq_getElem h2')
  obtain⟨y,hy⟩:=List.length_eq_one_iff.1 (hs _ (List.getElem_mem h1))
  rw[hy] at h3⊢
  simp at h3
  simp[h3]
 have f:∀m:List Int,(m.map fun x=>[Value.int .i64 x]).flatten=m.map fun x=>.int .i64 x:=fun m=>by induction m with
  | nil=>rfl
  | cons a m ih=>rw[List.map_cons,List.flatten_cons,ih];rfl
 rw[e,f] at ho
 exact ho
theorem ints_of_cells {W:World} {lo n:Nat} {v:Value} {l:List Int} (hn:l.length=n) (hm:n≤maxLen) (h:W.ownsRow lo 3 1 v n (l.map fun x=>.int .i64 x)):qV W lo v l:=by
 subst hn
 have f:∀m:List Int,(m.map fun x=>[Value.int .i64 x]).flatten=m.map fun x=>.int .i64 x:=fun m=>by induction m with
  | nil=>rfl
  | cons a m ih=>rw[List.map_cons,List.flatten_cons,ih];rfl
 refine⟨l.map fun x=>[.int .i64 x],by rw[f];exact h,by simp,hm,fun ys hy=>?_,fun j ys x h1 h2=>?_⟩
 ·obtain⟨a,-,rfl⟩:=List.mem_map.1 hy
  rfl
 ·rw[List.getElem?_map,h2] at h1
  cases h1
  rfl
structure jM (W:World) (lo:Nat) (v1:Value) (l1:List Int) (v2:Value) (l2:List Int):Prop where
 a:qV W lo v1 l1
 b:qV W lo v2 l2
 apart:∀k,v1.ownBlock=some k→v2.ownBlock≠some k
theorem jM.nil_ (W:World) (lo:Nat):jM W lo (.slice none 0 0) [] (.slice none 0 0) []:=⟨zJ.nil_,zJ.nil_,fun k h=>by cases h⟩
theorem jM.swap {W:World} {lo:Nat} {v1 v2:Value} {l1 l2:List Int} (h:jM W lo v1 l1 v2 l2):jM W lo v2 l2 v1 l1:=⟨h.b,h.a,fun k h1 h2=>h.apart k h2 h1⟩
theorem jM.below {W W':World} {lo:Nat} {v1 v2:Value} {l1 l2:List Int} (h:jM W lo v1 l1 v2 l2) (hb:Below W.heap.size W W'):jM W' lo v1 l1 v2 l2:=⟨h.a.below qI hb,h.b.below qI hb,h.apart⟩
theorem jM.mono {W:World} {lo lo':Nat} {v1 v2:Value} {l1 l2:List Int} (h:jM W lo v1 l1 v2 l2) (hl:lo'≤lo):jM W lo' v1 l1 v2 l2:=⟨h.a.mono hl,h.b.mono hl,h.apart⟩
theorem jM.kept {W W':World} {lo g:Nat} {v1 v2:Value} {l1 l2:List Int} (h:jM W lo v1 l1 v2 l2) (hg:W.grownBy W' (some g)) (hl:g<lo):jM W' lo v1 l1 v2 l2:=
 ⟨qK jW h.a hg (fun k hk=>by have:=jS h.a k hk;omega),qK jW h.b hg (fun k hk=>by have:=jS h.b k hk;omega),h.apart⟩
theorem jM.snoc {W w':World} {o:Obj} {lo n:Nat} {v1 v2 v':Value} {l1 l2:List Int} {x:Int} (h:jM W lo v1 l1 v2 l2) (hn:l1.length=n) (hm:n+1≤maxLen)
  (hown:w'.ownsRow lo 3 1 v' (n+1) ((l1.map fun x=>.int .i64 x)++[.int .i64 x])) (hg:(W.alloc o).grownBy w' v1.ownBlock) (hat:v'.ownBlock=v1.ownBlock∨v'.ownBlock=some (W.alloc o).heap.size):jM w' lo v' (l1++[x]) v2 l2:=by
 have hb:=h.b.below qI (zD W o)
 refine⟨ints_of_cells (by simp[hn]) hm (by simpa using hown),own_grown jW hb hg (fun k hk e=>h.apart k e hk),fun k hk e=>?_⟩
 rcases hat with h1|h1
 ·exact h.apart k (h1.symm.trans hk) e
 ·rw[h1] at hk
  injection hk with hk
  obtain⟨cur,h2,-⟩:=jL hb e
  have:=(Array.getElem?_eq_some_iff.1 h2).1
  omega
theorem yN {a b c:World} {L g:Nat} (h:a.grownBy b (some g)) (k:Below L b c) (hL:a.heap.size≤L):a.grownBy c (some g):=
 ⟨k.os.trans h.os,k.tape.trans h.tape,k.output.trans h.output,Nat.le_trans h.size k.size,fun i hi hne=>(k.block i (by omega)).trans (h.block i hi hne)⟩
theorem zCd {a b:World} {L g:Nat} (h:a.grownBy b (some g)) (hg:L≤g) (hL:L≤a.heap.size):Below L a b:=
 ⟨h.os,h.tape,h.output,h.size,fun i hi=>h.block i (by omega) (fun e=>by injection e with e;omega)⟩
theorem zBx (w:World) (n:Nat):Below w.heap.size w (w.drewN n):=⟨rfl,rfl,rfl,Nat.le_refl _,fun _ _=>rfl⟩
theorem zCf (p:Pl) (r:Rt) (n:Nat):(insL p r n).length=n:=by simp[insL]
theorem kM (p:Pl) (r:Rt) (n:Nat):(zA6 p r n).length=n:=by simp[zA6]
def SigBox (W:World) (pz:Nat) (row:Array Value):Prop:=W.heap[pz]? = some (.cells row 115 (0,0))
def JnBox (W:World) (pz:Nat) (row:Array Value):Prop:=W.heap[pz]? = some (.cells row 98 (0,0))
theorem outA_last {p:Pl} {r:Rt} {a:Nat} (h:yV r a=true):vQ p r a = -1:=by rw[vQ,h];rfl
theorem outA_of {p:Pl} {r:Rt} {a:Nat} {j:Jn} (h:yV r a=false) (hc:jP p r a=some j):vQ p r a=outN p r a j.2:=by rw[vQ,h,in_of hc];rfl
set_option maxHeartbeats 16000000 in
theorem rends_any (v y:Value) (p:Pl) (r:Rt) (w:World) (h:qF w w.heap.size v p) (h':vS w w.heap.size y r) (hr:qW p r):
  Calls Tryz.prog 65 #[v,y] w fun e w'=>Below w.heap.size w w'∧((kK p r∧∃u z,e = .returned (.tuple #[u,z,.bool true])∧jM w' w.heap.size u (insL p r (zS r).length) z (zA6 p r (zS r).length))∨(¬kK p r∧e = .returned (.tuple #[.slice none 0 0,.slice none 0 0,.bool false]))):=by
 have HRI:=zD0 hr
 clear hr
 obtain⟨A2,c2,A3,c3,A4,c4,A5,c5,n2,n3,n4,n5,rfl,hm2,hm3,hm4,hm5,HCP,HIN,HN⟩:=kD h
 obtain⟨z3,z4,z5,rfl,hrt⟩:=h'
 have HRT0:=zD0 hrt
 obtain⟨C3,e3,rfl,hdl3,hdm3⟩:=hrt.path.slice
 obtain⟨C4,e4,rfl,hdl4,hdm4⟩:=hrt.over.slice
 obtain⟨C5,e5,rfl,hdl5,hdm5⟩:=hrt.flanks.slice
 unfold maxLen at hdm3 hdm4 hdm5
 obtain⟨l3,hl3⟩:=zD1 (r.path.length)
 obtain⟨l4,hl4⟩:=zD1 (r.over.length)
 obtain⟨l5,hl5⟩:=zD1 (r.flanks.length)
 have hk3:l3≤9223372036854775807:=by omega
 have hk4:l4≤9223372036854775807:=by omega
 have hk5:l5≤9223372036854775807:=by omega
 have HRT:Hid (RtIn w w.heap.size (.slice C3 l3 e3) (.slice C4 l4 e4) (.slice C5 l5 e5) r):=zD0 (by rw[hl3,hl4,hl5];exact HRT0.out)
 have HL:Hid (l3=r.path.length∧l4=r.over.length∧l5=r.flanks.length):=zD0 ⟨hl3,hl4,hl5⟩
 rw[←hl3,←hl4,←hl5]
 clear hl3 hl4 hl5 HRT0 hrt hdl3 hdm3 hdl4 hdm4 hdl5 hdm5
 have hq:=zV w (.cells #[.int .i64 p.ver,.int .i64 p.par,.slice A2 n2 c2,.slice A3 n3 c3,.slice A4 n4 c4,.slice A5 n5 c5] 27) (.cells #[.int .i64 r.id,.int .i64 r.entry,.int .i64 r.exit,.slice C3 l3 e3,.slice C4 l4 e4,.slice C5 l5 e5,.int .i64 r.timer] 64)
 go_enter Tryz.func65,Tryz.ntmps65
 go_upto_region 1 with fail
 generalize (w.alloc (.cells #[.int .i64 p.ver,.int .i64 p.par,.slice A2 n2 c2,.slice A3 n3 c3,.slice A4 n4 c4,.slice A5 n5 c5] 27)).alloc (.cells #[.int .i64 r.id,.int .i64 r.entry,.int .i64 r.exit,.slice C3 l3 e3,.slice C4 l4 e4,.slice C5 l5 e5,.int .i64 r.timer] 64)=q at hq⊢
 obtain⟨q0,q1,qb⟩:=hq
 have XP:=zD0 q0
 have XR:=zD0 q1
 have BQ:=zD0 qb
 clear q0 q1 qb
 have HI:=zD0 ((HIN.out.below BQ.out).more BQ.out.size)
 obtain⟨kg,hkg,hat1,hsg,ms,hms,hat2,hsn,hge0,hge⟩:=HRI.out.entry
 have hkg':(kg:Int)<n4:=by have:=HN.out;omega
 have hms':(ms:Int)<n2:=by have:=HN.out;omega
 obtain⟨bg,og,rfl,hbg,hd0,hd1,hd2⟩:=HI.out.sigs.at hkg
 obtain⟨bs,os,rfl,hbs,hf0,hf1,u,hf2,hu⟩:=HI.out.secs.at hms
 obtain⟨Ae,ce,rfl,huc,hue⟩:=hu.slice
 obtain⟨gid,gsec,gend,hg⟩:∃a b c,p.sigs[kg]=(a,b,c):=⟨_,_,_,rfl⟩
 rw[hg] at hd0 hd1 hd2 hsg hat2 hsn hge0 hge
 obtain⟨es,hes⟩:=zD1 (p.secs[ms].2.2)
 rw[←hes] at hf2 hu huc hge
 dsimp only at hd0 hd1 hd2 hat2 hsn hge0 hge
 obtain⟨en,hen⟩:∃n:Nat,gend=(n:Int):=⟨gend.toNat,by omega⟩
 subst hen
 have hen:en<es.length:=by omega
 obtain⟨be,oe,rfl,hbe,hh0,hh1⟩:=hu.at hen
 obtain⟨t0,t1,ht⟩:∃a b,es[en]=(a,b):=⟨_,_,rfl⟩
 rw[ht] at hh0 hh1
 have HC0:Hid (jP p r 0=some (t0,t1)):=zD0 (by
  rw[jP,hsg]
  dsimp only
  rw[hsn,←hes,Int.toNat_natCast,List.getD,List.getElem?_eq_getElem hen,ht];rfl)
 obtain⟨ne,hne⟩:=zD1 (es.length)
 rw[←hne] at hf2
 have hnem:ne≤9223372036854775807:=by rw[hne];unfold maxLen at hue;omega
 have hene:(en:Int)<ne:=by omega
 have hg0:q.cell? ⟨bg,og+kg*3,none⟩=some (.int .i64 gid):=hd0
 have hg1:q.cell? ⟨bg,og+kg*3+1,none⟩=some (.int .i64 gsec):=hd1
 have hg2:q.cell? ⟨bg,og+kg*3+2,none⟩=some (.int .i64 (en:Int)):=hd2
 have hs2:q.cell? ⟨bs,os+ms*3+2,none⟩=some (.slice (some ⟨be,oe,none⟩) ne ce):=hf2
 have he0:q.cell? ⟨be,oe+en*2,none⟩=some (.int .i64 t0):=hh0
 have he1:q.cell? ⟨be,oe+en*2+1,none⟩=some (.int .i64 t1):=hh1
 have XC:Hid (∀W,Below q.heap.size q W→Calls Tryz.prog 95 #[.slice (some ⟨bg,og,none⟩) n4 c4,.int .i64 r.entry] W fun e w'=>e = .returned (.int .i64 (kg:Int))∧w'=W):=zD0 (fun W hb=>by
  have:=zA0 _ p.sigs r.entry W ((HI.out.sigs.below zP hb).more zP hb.size)
  rw[show at1 (fun x=>x.1) p.sigs r.entry=(kg:Int) from hat1] at this
  exact this)
 have XD0:Hid (∀W,Below q.heap.size q W→Calls Tryz.prog 94 #[.slice (some ⟨bs,os,none⟩) n2 c2,.int .i64 gsec] W fun e w'=>e = .returned (.int .i64 (ms:Int))∧w'=W):=zD0 (fun W hb=>by
  have:=zAf _ p.secs gsec W ((HI.out.secs.below zN hb).more zN hb.size)
  rw[hat2] at this
  exact this)
 clear hd0 hd1 hd2 hf0 hf1 hf2 hh0 hh1 hu huc hue hes hne hsg hsn hat1 hat2 hg ht hge hge0 hen hbg hbs hbe hkg hms
 go_cut [7] from 14 to 22 (fun s7 wx=>∃pz,s7 = .pointer (some ⟨pz,0,none⟩)∧SigBox wx pz #[.int .i64 gid,.int .i64 gsec,.int .i64 (en:Int)]∧Below q.heap.size q wx)
 case first=>
  refine wp_region_held_drew (S:=fun v=>Below q.heap.size q v) (by kernel_rfl) (Below.refl q.heap.size q).drew (fun zD2=>?_)
  refine tk 0 zD2 ?_;refine tkc 1 zD2 (fun w' hSw=>zE ((hSw.block _ (zA XP.out)).trans XP.out)) ?_;refine tk 2 zD2 ?_;refine tkc 3 zD2 (fun w' hSw=>zE ((hSw.block _ (zA XP.out)).trans XP.out)) ?_;refine tk 4 zD2 ?_;refine tkc 5 zD2 (fun w' hSw=>zL ((hSw.block _ (zA XR.out)).trans XR.out)) ?_
  refine wpAnyH_ready (rs:=[6,9]) (by kernel_rfl) (by simp) ?_
  refine AllReadyH.cons rfl (fun K hK=>?_) (AllReadyH.cons rfl (fun K hK=>?_) AllReadyH.nil)
  ·go_simp
   refine(XC.out q.drew (Below.refl q.heap.size q).drew).mono ?_
   rintro e w' ⟨rfl,rfl⟩
   try go_wp2_with fail
   refine hK.out _ _ ?_ fun zD2=>?_;exact(Below.refl q.heap.size q).drew;clear hK K;try simp only[zn,Act.put]
   refine tk 7 zD2 ?_
   refine wpAnyH_take (i:=8) (v:=?_) rfl (by kernel_rfl) (by kernel_rfl) (by kernel_rfl) (fun _ _ _ h=>h) (Or.inl ⟨by rfl,?_⟩) zD2 ?_
   rotate_left
   ·intro w' hSw;have cg0:=(hSw.cell (zG hg0)).trans hg0;have cg1:=(hSw.cell (zG hg1)).trans hg1;have cg2:=(hSw.cell (zG hg2)).trans hg2;go_simp;try with_reducible rfl
   simp only[zn,Act.put]
   refine tkr 9 (fun K hK=>?_)
   go_simp
   refine hK.out _ _ ?_ fun zD2=>?_;exact(zD q (.cells #[.int .i64 0,.int .i64 0,.int .i64 0] 115)).drew;clear hK K;try simp only[zn,Act.put]
   refine tkr 10 (fun K hK=>?_)
   rw[if_pos (by rfl)]
   refine qE 115 (.tmp 7) (.tmp 22) rfl q.heap.size rfl (c':=#[.int .i64 gid,.int .i64 gsec,.int .i64 (en:Int)]) rfl (show(q.alloc (.cells #[.int .i64 0,.int .i64 0,.int .i64 0] 115)).drew.heap[q.heap.size]? = some (.cells #[.int .i64 0,.int .i64 0,.int .i64 0] 115 (0,0)) from zB _ _) zCj rfl (by simp[Value.oneCell']) ?_
   refine hK.out _ _ ?_ fun zD2=>?_;exact below_setRow (zD q (.cells #[.int .i64 0,.int .i64 0,.int .i64 0] 115)).drew (Nat.le_refl _) _;clear hK K;try simp only[zn,Act.put]
   refine wpAnyH_done (by kernel_rfl) ?_ _
   go_wp2_with fail
   go_meet
   exact⟨q.heap.size,rfl,setRow_heap _ _ _ _ _ _ (show(q.alloc (.cells #[.int .i64 0,.int .i64 0,.int .i64 0] 115)).drew.heap[q.heap.size]? = some (.cells #[.int .i64 0,.int .i64 0,.int .i64 0] 115 (0,0)) from zB _ _),below_setRow (zD q (.cells #[.int .i64 0,.int .i64 0,.int .i64 0] 115)).drew (Nat.le_refl _) _⟩
  ·go_simp
   have hz0:Below q.heap.size q (q.alloc (.cells #[.int .i64 0,.int .i64 0,.int .i64 0] 115)).drew:=(zD _ _).drew
   have hz1:(q.alloc (.cells #[.int .i64 0,.int .i64 0,.int .i64 0] 115)).drew.heap[q.heap.size]? = some (.cells #[.int .i64 0,.int .i64 0,.int .i64 0] 115 (0,0)):=zB _ _
   refine hK.out _ _ ?_ fun zD2=>?_;exact hz0;clear hK K;try simp only[zn,Act.put]
   generalize (q.alloc (.cells #[.int .i64 0,.int .i64 0,.int .i64 0] 115)).drew=wB at hz0 hz1 zD2⊢
   have HZ0:=zD0 hz0
   have HZ1:=zD0 hz1
   clear hz0 hz1
   refine tkr 6 (fun K hK=>?_)
   go_simp
   refine(XC.out wB HZ0.out).mono ?_
   rintro e w' ⟨rfl,rfl⟩
   try go_wp2_with fail
   refine hK.out _ _ ?_ fun zD2=>?_;exact HZ0.out;clear hK K;try simp only[zn,Act.put]
   refine tk 7 zD2 ?_
   refine wpAnyH_take (i:=8) (v:=?_) rfl (by kernel_rfl) (by kernel_rfl) (by kernel_rfl) (fun _ _ _ h=>h) (Or.inl ⟨by rfl,?_⟩) zD2 ?_
   rotate_left
   ·intro w' hSw;have cg0:=(hSw.cell (zG hg0)).trans hg0;have cg1:=(hSw.cell (zG hg1)).trans hg1;have cg2:=(hSw.cell (zG hg2)).trans hg2;go_simp;try with_reducible rfl
   simp only[zn,Act.put]
   refine tkr 10 (fun K hK=>?_)
   rw[if_pos (by rfl)]
   refine qE 115 (.tmp 7) (.tmp 22) rfl q.heap.size rfl (c':=#[.int .i64 gid,.int .i64 gsec,.int .i64 (en:Int)]) rfl HZ1.out zCj rfl (by simp[Value.oneCell']) ?_
   refine hK.out _ _ ?_ fun zD2=>?_;exact below_setRow HZ0.out (Nat.le_refl _) _;clear hK K;try simp only[zn,Act.put]
   refine wpAnyH_done (by kernel_rfl) ?_ _
   go_wp2_with fail
   go_meet
   exact⟨q.heap.size,rfl,setRow_heap _ _ _ _ _ _ HZ1.out,below_setRow HZ0.out (Nat.le_refl _) _⟩
 case rest=>
  obtain⟨pz,rfl,hbx,hbl⟩:=hcut
  obtain⟨q1,hq1⟩:=zD1 (wc)
  subst hq1
  have X7:=zD0 hbx
  have B1:=zD0 hbl
  have tXP:=(hbl.block _ (zA XP.out)).trans XP.out
  have tXR:=(hbl.block _ (zA XR.out)).trans XR.out
  have tg:=(hbl.cell (zG hs2)).trans hs2
  have te0:=(hbl.cell (zG he0)).trans he0
  have te1:=(hbl.cell (zG he1)).trans he1
  have XD:Hid (∀W,Below q1.heap.size q1 W→Calls Tryz.prog 94 #[.slice (some ⟨bs,os,none⟩) n2 c2,.int .i64 gsec] W fun e w'=>e = .returned (.int .i64 (ms:Int))∧w'=W):=zD0 (fun W hb=>XD0.out W (hbl.trans (hb.mono hbl.size)))
  have XP0:=XP
  have XR0:=XR
  clear XP XR hs2 he0 he1 hg0 hg1 hg2 hbx hbl XD0 XC
  have XP:=zD0 tXP
  have XR:=zD0 tXR
  have hs2:=tg
  have he0:=te0
  have he1:=te1
  clear tXP tXR tg te0 te1
  go_upto_region 2 with fail
  go_cut [8] from 23 to 36 (fun s8 wx=>∃p8,s8 = .pointer (some ⟨p8,0,none⟩)∧JnBox wx p8 #[.int .i64 t0,.int .i64 t1]∧q1.heap.size≤p8∧Below q1.heap.size q1 wx)
  case first=>
   refine wp_region_held_drew (S:=fun v=>Below q1.heap.size q1 v) (by kernel_rfl) (Below.refl q1.heap.size q1).drew (fun zD2=>?_)
   refine tk 0 zD2 ?_;refine tkc 1 zD2 (fun w' hSw=>zE ((hSw.block _ (zA XP.out)).trans XP.out)) ?_;refine tk 2 zD2 ?_;refine tkc 3 zD2 (fun w' hSw=>zE ((hSw.block _ (zA XP.out)).trans XP.out)) ?_;refine tk 4 zD2 ?_;refine tkc 5 zD2 (fun w' hSw=>zC ((hSw.block _ (zA X7.out)).trans X7.out)) ?_;refine tk 10 zD2 ?_;refine tkc 11 zD2 (fun w' hSw=>zC ((hSw.block _ (zA X7.out)).trans X7.out)) ?_
   refine wpAnyH_ready (rs:=[6,14]) (by kernel_rfl) (by simp) ?_
   refine AllReadyH.cons rfl (fun K hK=>?_) (AllReadyH.cons rfl (fun K hK=>?_) AllReadyH.nil)
   ·go_simp
    refine(XD.out q1.drew (Below.refl q1.heap.size q1).drew).mono ?_
    rintro e w' ⟨rfl,rfl⟩
    try go_wp2_with fail
    refine hK.out _ _ ?_ fun zD2=>?_;exact(Below.refl q1.heap.size q1).drew;clear hK K;try simp only[zn,Act.put]
    refine tk 7 zD2 ?_;refine tk 8 zD2 ?_;refine tkc 9 zD2 (fun w' hSw=>(hSw.cell (zG hs2)).trans hs2) ?_;refine tk 12 zD2 ?_
    refine wpAnyH_take (i:=13) (v:=?_) rfl (by kernel_rfl) (by kernel_rfl) (by kernel_rfl) (fun _ _ _ h=>h) (Or.inl ⟨by rfl,?_⟩) zD2 ?_
    rotate_left
    ·intro w' hSw;have ce0:=(hSw.cell (zG he0)).trans he0;have ce1:=(hSw.cell (zG he1)).trans he1;go_simp;try with_reducible rfl
    simp only[zn,Act.put]
    refine tkr 14 (fun K hK=>?_)
    go_simp
    refine hK.out _ _ ?_ fun zD2=>?_;exact(zD q1 (.cells #[.int .i64 0,.int .i64 0] 98)).drew;clear hK K;try simp only[zn,Act.put]
    refine tkr 15 (fun K hK=>?_)
    rw[if_pos (by rfl)]
    refine qE 98 (.tmp 8) (.tmp 36) rfl q1.heap.size rfl (c':=#[.int .i64 t0,.int .i64 t1]) rfl (show(q1.alloc (.cells #[.int .i64 0,.int .i64 0] 98)).drew.heap[q1.heap.size]? = some (.cells #[.int .i64 0,.int .i64 0] 98 (0,0)) from zB _ _) vH rfl (by simp[Value.oneCell']) ?_
    refine hK.out _ _ ?_ fun zD2=>?_;exact below_setRow (zD q1 (.cells #[.int .i64 0,.int .i64 0] 98)).drew (Nat.le_refl _) _;clear hK K;try simp only[zn,Act.put]
    refine wpAnyH_done (by kernel_rfl) ?_ _
    go_wp2_with fail
    go_meet
    exact⟨q1.heap.size,rfl,setRow_heap _ _ _ _ _ _ (show(q1.alloc (.cells #[.int .i64 0,.int .i64 0] 98)).drew.heap[q1.heap.size]? = some (.cells #[.int .i64 0,.int .i64 0] 98 (0,0)) from zB _ _),Nat.le_refl _,below_setRow (zD q1 (.cells #[.int .i64 0,.int .i64 0] 98)).drew (Nat.le_refl _) _⟩
   ·go_simp
    have hz0:Below q1.heap.size q1 (q1.alloc (.cells #[.int .i64 0,.int .i64 0] 98)).drew:=(zD _ _).drew
    have hz1:(q1.alloc (.cells #[.int .i64 0,.int .i64 0] 98)).drew.heap[q1.heap.size]? = some (.cells #[.int .i64 0,.int .i64 0] 98 (0,0)):=zB _ _
    refine hK.out _ _ ?_ fun zD2=>?_;exact hz0;clear hK K;try simp only[zn,Act.put]
    generalize (q1.alloc (.cells #[.int .i64 0,.int .i64 0] 98)).drew=wB at hz0 hz1 zD2⊢
    have HZ0:=zD0 hz0
    have HZ1:=zD0 hz1
    clear hz0 hz1
    refine tkr 6 (fun K hK=>?_)
    go_simp
    refine(XD.out wB HZ0.out).mono ?_
    rintro e w' ⟨rfl,rfl⟩
    try go_wp2_with fail
    refine hK.out _ _ ?_ fun zD2=>?_;exact HZ0.out;clear hK K;try simp only[zn,Act.put]
    refine tk 7 zD2 ?_;refine tk 8 zD2 ?_;refine tkc 9 zD2 (fun w' hSw=>(hSw.cell (zG hs2)).trans hs2) ?_;refine tk 12 zD2 ?_
    refine wpAnyH_take (i:=13) (v:=?_) rfl (by kernel_rfl) (by kernel_rfl) (by kernel_rfl) (fun _ _ _ h=>h) (Or.inl ⟨by rfl,?_⟩) zD2 ?_
    rotate_left
    ·intro w' hSw;have ce0:=(hSw.cell (zG he0)).trans he0;have ce1:=(hSw.cell (zG he1)).trans he1;go_simp;try with_reducible rfl
    simp only[zn,Act.put]
    refine tkr 15 (fun K hK=>?_)
    rw[if_pos (by rfl)]
    refine qE 98 (.tmp 8) (.tmp 36) rfl q1.heap.size rfl (c':=#[.int .i64 t0,.int .i64 t1]) rfl HZ1.out vH rfl (by simp[Value.oneCell']) ?_
    refine hK.out _ _ ?_ fun zD2=>?_;exact below_setRow HZ0.out (Nat.le_refl _) _;clear hK K;try simp only[zn,Act.put]
    refine wpAnyH_done (by kernel_rfl) ?_ _
    go_wp2_with fail
    go_meet
    exact⟨q1.heap.size,rfl,setRow_heap _ _ _ _ _ _ HZ1.out,Nat.le_refl _,below_setRow HZ0.out (Nat.le_refl _) _⟩
  case rest=>
   obtain⟨p8,rfl,hbx,hp8,hbl⟩:=hcut
   obtain⟨q2,hq2⟩:=zD1 (wc)
   subst hq2
   have X80:=zD0 hbx
   have HP8:=zD0 hp8
   have BQ2:Hid (Below q.heap.size q q2):=zD0 (B1.out.trans (hbl.mono B1.out.size))
   clear XP XR XD X7 hbx hbl hp8 hs2 he0 he1 hnem hene hkg' hms'
   have XP2:=zD0 ((BQ2.out.block _ (zA XP0.out)).trans XP0.out)
   have XR2:=zD0 ((BQ2.out.block _ (zA XR0.out)).trans XR0.out)
   obtain⟨m0,m1,m2,m3,m4,m5,m6⟩:=zL XR2.out
   go_wp2_with fail
   refine(zB8 _ r q2 ⟨_,_,_,rfl,(HRT.out.below (BQ.out.trans (BQ2.out.mono BQ.out.size))).more (Nat.le_trans BQ.out.size BQ2.out.size)⟩ (by have:=HRI.out.len;omega) (by have:=HRI.out.len;omega)).mono ?_
   rintro e w9 ⟨u,rfl,hu,b9⟩
   obtain⟨AL,cL,rfl⟩:=hu.slice
   obtain⟨nl,hnl⟩:=zD1 ((r.path++r.over).length)
   have HNL:Hid (nl=(zS r).length):=zD0 hnl
   have LO:Hid (qV w9 q2.heap.size (.slice AL nl cL) (zS r)):=zD0 (by rw[hnl];exact hu)
   rw[←hnl]
   have X89:=zD0 ((b9.block _ (zA X80.out)).trans X80.out)
   have B9:Hid (Below q.heap.size q w9):=zD0 (BQ2.out.trans (b9.mono BQ2.out.size))
   have PLT:Hid (p8<q2.heap.size∧q.heap.size≤p8∧q2.heap.size≤w9.heap.size):=zD0 ⟨zA X80.out,Nat.le_trans B1.out.size HP8.out,b9.size⟩
   clear hnl hu b9 X80 XP2 XR2 m0 m1 m2 m3 m4 m5 m6 BQ2 B1
   have hnl8:nl≤8:=by have:=HRI.out.len;have:=HNL.out;omega
   go_wp2_with fail
   go_loopw [10,11,12,13] (fun s10 s11 s12 s13 wr=>∃(i:Nat) (j1 j2:Int) (A:Option Addr) (c:Nat) (A':Option Addr) (c':Nat),i≤nl∧s12 = .int .i64 i∧s10 = .slice A i c∧s11 = .slice A' i c'∧HangsTo p r i∧jP p r i=some (j1,j2)∧jM wr w9.heap.size (.slice A i c) (insL p r i) (.slice A' i c') (zA6 p r i)∧JnBox wr p8 #[.int .i64 j1,.int .i64 j2]∧w9.grownBy wr (some p8)) (fun _ _ s12 _ _=>nl-(intOf s12).toNat)
   case atStart=>exact⟨0,t0,t1,none,0,none,0,by omega,by go_num,rfl,rfl,fun i hi=>absurd hi (by omega),HC0.out,jM.nil_ _ _,X89.out,⟨rfl,rfl,rfl,Nat.le_refl _,fun _ _ _=>rfl⟩⟩
   case round=>
    obtain⟨i,j1,j2,A,c,A',c',hi,rfl,rfl,rfl,hh,hc,htw,hx8,hgb⟩:=hrel
    have HH:=zD0 hh
    have HC:=zD0 hc
    have TW:=zD0 htw
    have X8:=zD0 hx8
    have GB:=zD0 hgb
    have BR:Hid (Below q.heap.size q wr):=zD0 (B9.out.trans (zCd hgb PLT.out.2.1 (Nat.le_trans (Nat.le_trans PLT.out.2.1 (Nat.le_of_lt PLT.out.1)) PLT.out.2.2)))
    have BW:Hid (Below w.heap.size w wr):=zD0 (BQ.out.trans (BR.out.mono BQ.out.size))
    have SZ:Hid (w9.heap.size≤wr.heap.size):=zD0 hgb.size
    have LR:Hid (qV wr q2.heap.size (.slice AL nl cL) (zS r)):=zD0 (qK jW LO.out hgb (fun k hk=>by have:=jS LO.out k hk;have:=PLT.out;omega))
    clear hh hc htw hx8 hgb
    by_cases hlt:i<nl
    ·have hlt':(i:Int)<nl:=by omega
     have hia:i<(zS r).length:=by have:=HNL.out;omega
     obtain⟨bl,ofl,e2,hbl,hc0⟩:=(LR.out.in_ zZ).at hia
     obtain⟨z,hz⟩:=zD1 ((zS r).getD i 0)
     have hl1:wr.cell? ⟨bl,ofl+i,none⟩=some (.int .i64 z):=by rw[hz,List.getD,List.getElem?_eq_getElem hia];simpa [jU] using hc0
     cases e2
     have HZ:=zD0 hz
     obtain⟨x0,x1⟩:=zI X8.out
     have BD:Hid (∀nq,Below wr.heap.size wr (wr.drewN nq)):=zD0 (fun nq=>zBx wr nq)
     clear hc0 hz hbl
     go_upto_region 9 with fail
     by_cases h1:j1=z
     rotate_left
     ·have d1:(j1 != z)=true:=by simpa using h1
      have NH:Hid (¬kK p r):=zD0 (zDm hia HC.out (fun h=>h1 (by rw[HZ.out];exact h.1)))
      clear h1
      go_quiet (fail)
      have hdb:=BD.out nq
      generalize wr.drewN nq=q7 at hdb⊢
      have B7:=zD0 hdb
      clear hdb BD hl1 x0 x1
      go_wp2_with fail
      go_ret3
      exact⟨BW.out.trans (B7.out.mono BW.out.size),.inr ⟨NH.out,rfl⟩⟩
     have d1:(j1 != z)=false:=by simpa using h1
     have HJ:Hid (j1=(zS r).getD i 0):=zD0 (h1.trans HZ.out)
     clear h1
     go_quiet (fail)
     have hdb:=BD.out nq
     generalize wr.drewN nq=q7 at hdb⊢
     have T7:=zD0 (TW.out.below hdb)
     have X87:=zD0 ((hdb.block _ (zA X8.out)).trans X8.out)
     have G7:=zD0 (yN GB.out hdb SZ.out)
     have BR7:Hid (Below q.heap.size q q7):=zD0 (BR.out.trans (hdb.mono BR.out.size))
     have S7:Hid (w9.heap.size≤q7.heap.size):=zD0 (Nat.le_trans SZ.out hdb.size)
     clear hdb BD hl1 x0 x1 X8 GB BR BW TW SZ LR
     obtain⟨i0,hii,hz0,hz1,hz2⟩:=info_parts zAz
     have I0:=zD0 hii
     have I1:=zD0 hz0
     have I2:=zD0 hz1
     have I3:=zD0 hz2
     clear hii hz0 hz1 hz2
     have X8c:=X87.out
     obtain⟨x0,x1⟩:=zI X8c
     clear X8c
     go_upto_region 12 with((with_reducible show wpList _ _ _ (⟨some 56,_,_,_,_,_⟩::_) _ _);refine wpList_append_own_at _ rfl (.tmp 52) (.tmp 55) _ rfl w9.heap.size _ i0 _ 1 8 Tryz.underlying61 I0.out I1.out I2.out I3.out rfl (by decide) _ _ _ rfl ((zAr T7.out.a (zCf p r i)).alloc _) _ 1 _ [.int .i64 j2] rfl rfl (cell_one_new _ _ _) (by simp[Value.oneCell']) (by unfold maxLen;omega) (by omega) (by have:=S7.out;simp;omega) ?_;intro v8 w8 hown hgrow hnil hat)
     have T8:Hid (jM w8 w9.heap.size v8 (insL p r (i+1)) (.slice A' i c') (zA6 p r i)):=zD0 (by rw[insL_succ,in_of HC.out];exact T7.out.snoc (zCf p r i) (by unfold maxLen;omega) hown hgrow hat)
     have b8:Below w9.heap.size q7 w8:=((Below.refl w9.heap.size q7).alloc S7.out _).grown hgrow (by have:=S7.out;simp;omega) (jE (zAr T7.out.a (zCf p r i)))
     obtain⟨A8,c8,rfl⟩:=xN hown
     have HP:Hid (p8<w9.heap.size∧q.heap.size≤w9.heap.size):=zD0 (by have:=PLT.out;omega)
     have X88:=zD0 ((b8.block _ HP.out.1).trans X87.out)
     have G8:=zD0 (yN G7.out b8 (Nat.le_refl _))
     have BR8:Hid (Below q.heap.size q w8):=zD0 (BR7.out.trans (b8.mono (Nat.le_trans HP.out.2 (Nat.le_refl _))))
     have BW8:Hid (Below w.heap.size w w8):=zD0 (BQ.out.trans (BR8.out.mono BQ.out.size))
     have S8:Hid (w9.heap.size≤w8.heap.size):=zD0 (Nat.le_trans S7.out b8.size)
     clear hown hgrow hnil hat b8 T7 X87 G7 BR7 S7 x0 x1
     have XR8:=zD0 ((BR8.out.block _ (zA XR0.out)).trans XR0.out)
     have XP8:=zD0 ((BR8.out.block _ (zA XP0.out)).trans XP0.out)
     obtain⟨m0,m1,m2,m3,m4,m5,m6⟩:=zL XR8.out
     obtain⟨k0,k1,k2,k3,k4,k5⟩:=zE XP8.out
     have X8c:=X88.out
     obtain⟨x0,x1⟩:=zI X8c
     clear X8c
     have hwn:IntKind.i64.wrap ((nl:Int)-1)=(nl:Int)-1:=kA (by omega) (by omega)
     go_cut [67] from 57 to 67 (fun s67 wx=>s67 = .bool (yV r i)∧w8=wx)
     case first=>
      by_cases h2:i+1=nl
      ·have d2:((i:Int)==(nl:Int)-1)=true:=by simp;omega
       by_cases h3:0<l4
       ·have d3:Hid (decide (0<l4)=true):=zD0 (decide_eq_true (by omega))
        have LB:Hid (yV r i=true):=zD0 (decide_eq_true ⟨by have:=HNL.out;omega,by have:=HL.out;omega⟩)
        clear h2 h3
        go_wp2_with fail
        go_meet
        exact⟨by rw[LB.out,d3.out],rfl⟩
       ·have d3:Hid (decide (0<l4)=false):=zD0 (decide_eq_false (by omega))
        have LB:Hid (yV r i=false):=zD0 (decide_eq_false (by have:=HL.out;omega))
        clear h2 h3
        go_wp2_with fail
        go_meet
        exact⟨by rw[LB.out,d3.out],rfl⟩
      ·have d2:((i:Int)==(nl:Int)-1)=false:=by simp;omega
       have LB:Hid (yV r i=false):=zD0 (decide_eq_false (by have:=HNL.out;omega))
       clear h2
       go_wp2_with fail
       go_meet
       exact⟨by rw[LB.out],rfl⟩
     case rest=>
      obtain⟨rfl,h2⟩:=hcut
      subst h2
      cases hlb:yV r i with
      | true=>
       have hlast:i+1=(zS r).length∧0<r.over.length:=of_decide_eq_true hlb
       have LB:=zD0 hlb
       have HE:Hid (i+1=(zS r).length):=zD0 hlast.1
       have HG:Hid (kK p r):=zD0 (by
        have:=zCv HH.out HC.out HJ.out (fun h=>by rw[hlb] at h;cases h)
        rw[hlast.1] at this
        exact this)
       clear hlb hlast
       go_wp2_with ((with_reducible show wpList _ _ _ (⟨some 71,_,_,_,_,_⟩::_) _ _);refine wpList_append_own_at _ rfl (.tmp 69) (.tmp 70) _ rfl w9.heap.size _ i0 _ 1 8 Tryz.underlying61 I0.out I1.out I2.out I3.out rfl (by decide) _ _ _ rfl ((zAr T8.out.b (kM p r i)).alloc _) _ 1 _ [.int .i64 (-1)] rfl rfl (cell_one_new _ _ _) (by simp[Value.oneCell']) (by unfold maxLen;omega) (by omega) (by have:=S8.out;simp;omega) ?_;intro v9 wz hown hgrow hnil hat)
       have T9:Hid (jM wz w9.heap.size v9 (zA6 p r (i+1)) (.slice A8 (i+1) c8) (insL p r (i+1))):=zD0 (by rw[outsL_succ,outA_last LB.out];exact T8.out.swap.snoc (kM p r i) (by unfold maxLen;omega) hown hgrow hat)
       have b9:Below w9.heap.size w8 wz:=((Below.refl w9.heap.size w8).alloc S8.out _).grown hgrow (by have:=S8.out;simp;omega) (jE (zAr T8.out.b (kM p r i)))
       have BZ:=zD0 (BW8.out.trans (b9.mono (Nat.le_trans BQ.out.size HP.out.2)))
       clear hown hgrow hnil hat b9
       go_ret3
       exact⟨BZ.out,.inl ⟨HG.out,_,_,rfl,by rw[←HE.out];exact T9.out.swap.mono (Nat.le_trans BQ.out.size HP.out.2)⟩⟩
      | false=>
       have LB:=zD0 hlb
       have HNX:Hid (i+1=r.path.length∨i+1<(zS r).length):=zD0 (by
        have:=HRI.out.len
        have h0:¬(i+1=(zS r).length∧0<r.over.length):=of_decide_eq_false hlb
        omega)
       have LR8:Hid (qV w8 q2.heap.size (.slice (some ⟨bl,ofl,none⟩) nl cL) (zS r)):=zD0 (qK jW LO.out G8.out (fun k hk=>by have:=jS LO.out k hk;have:=PLT.out;omega))
       clear hlb
       go_wp2_with fail
       refine(rout9_any _ _ _ p r i j2 w8 ⟨_,_,_,_,rfl,(HIN.out.below BW8.out).more BW8.out.size⟩ ⟨_,_,_,rfl,(HRT.out.below BW8.out).more BW8.out.size⟩ (LR8.out.in_ zZ) HRI.out hia HNX.out).mono ?_
       rintro e wA ⟨rfl,bA⟩
       have TA:=zD0 (T8.out.below bA)
       have X8A:=zD0 ((bA.block _ (zA X88.out)).trans X88.out)
       have GA:=zD0 (yN G8.out bA S8.out)
       have BRA:Hid (Below q.heap.size q wA):=zD0 (BR8.out.trans (bA.mono BR8.out.size))
       have BWA:Hid (Below w.heap.size w wA):=zD0 (BW8.out.trans (bA.mono BW8.out.size))
       have SA:Hid (w9.heap.size≤wA.heap.size):=zD0 (Nat.le_trans S8.out bA.size)
       clear bA T8 X88 G8 BR8 BW8 S8 XR8 XP8 LR8 m0 m1 m2 m3 m4 m5 m6 k0 k1 k2 k3 k4 k5 x0 x1
       rcases outN_cases p r i j2 with hn1|⟨e,he,heq,-⟩
       ·have NH:Hid (¬kK p r):=zD0 (zDm hia HC.out (fun h=>by have h2:=h.2 LB.out;dsimp only at h2;omega))
        rw[hn1]
        clear hn1
        go_wp2_with fail
        go_ret3
        exact⟨BWA.out,.inr ⟨NH.out,rfl⟩⟩
       rw[heq]
       have hd0:decide ((e:Int)<0)=false:=decide_eq_false (by omega)
       have HEQ:=zD0 heq
       have HEL:=zD0 he
       clear heq he
       go_upto_region 18 with((with_reducible show wpList _ _ _ (⟨some 84,_,_,_,_,_⟩::_) _ _);refine wpList_append_own_at _ rfl (.tmp 81) (.tmp 83) _ rfl w9.heap.size _ i0 _ 1 8 Tryz.underlying61 I0.out I1.out I2.out I3.out rfl (by decide) _ _ _ rfl ((zAr TA.out.b (kM p r i)).alloc _) _ 1 _ [.int .i64 (e:Int)] rfl rfl (cell_one_new _ _ _) (by simp[Value.oneCell']) (by unfold maxLen;omega) (by omega) (by have:=SA.out;simp;omega) ?_;intro vB wB hown hgrow hnil hat)
       have TB:Hid (jM wB w9.heap.size (.slice A8 (i+1) c8) (insL p r (i+1)) vB (zA6 p r (i+1))):=zD0 (by rw[outsL_succ,outA_of LB.out HC.out,show outN p r i (j1,j2).2=(e:Int) from HEQ.out];exact(TA.out.swap.snoc (kM p r i) (by unfold maxLen;omega) hown hgrow hat).swap)
       have bB:Below w9.heap.size wA wB:=((Below.refl w9.heap.size wA).alloc SA.out _).grown hgrow (by have:=SA.out;simp;omega) (jE (zAr TA.out.b (kM p r i)))
       obtain⟨AB,cB,rfl⟩:=xN hown
       have X8B:=zD0 ((bB.block _ HP.out.1).trans X8A.out)
       have GB:=zD0 (yN GA.out bB (Nat.le_refl _))
       have BRB:Hid (Below q.heap.size q wB):=zD0 (BRA.out.trans (bB.mono HP.out.2))
       have BWB:Hid (Below w.heap.size w wB):=zD0 (BQ.out.trans (BRB.out.mono BQ.out.size))
       have XP:=zD0 ((BRB.out.block _ (zA XP0.out)).trans XP0.out)
       clear hown hgrow hnil hat bB TA X8A GA BRA BWA SA
       obtain⟨ks,hks,hatk,hsk,-⟩:=HRI.out.sec hia
       have hks':(ks:Int)<n2:=by have:=HN.out;omega
       have HI:=zD0 ((HIN.out.below BWB.out).more BWB.out.size)
       obtain⟨bs2,os2,e3,hbs2,hf0,hf1,u,hf2,hu⟩:=HI.out.secs.at hks
       cases e3
       obtain⟨Af,cf,rfl,huc,hue⟩:=hu.slice
       obtain⟨es,hes⟩:=zD1 (p.secs[ks].2.2)
       rw[←hes] at hf2 hu huc
       have hel:e<es.length:=by have:=HEL.out;rw[hsk,←hes] at this;exact this
       obtain⟨be2,oe2,rfl,hbe2,hh0,hh1⟩:=hu.at hel
       obtain⟨u0,u1,ht⟩:∃a b,es[e]=(a,b):=⟨_,_,rfl⟩
       rw[ht] at hh0 hh1
       have HCN:Hid (jP p r (i+1)=some (u0,u1)):=zD0 (by
        rw[comes_succ HC.out HJ.out HEQ.out,hsk,←hes,List.getD,List.getElem?_eq_getElem hel,ht];rfl)
       obtain⟨nf,hnf⟩:=zD1 (es.length)
       rw[←hnf] at hf2
       have hnfm:nf≤9223372036854775807:=by rw[hnf];unfold maxLen at hue;omega
       have henf:(e:Int)<nf:=by omega
       have hs2:wB.cell? ⟨bs,os+ks*3+2,none⟩=some (.slice (some ⟨be2,oe2,none⟩) nf cf):=hf2
       have he0:wB.cell? ⟨be2,oe2+e*2,none⟩=some (.int .i64 u0):=hh0
       have he1:wB.cell? ⟨be2,oe2+e*2+1,none⟩=some (.int .i64 u1):=hh1
       have LRB:qV wB q2.heap.size (.slice (some ⟨bl,ofl,none⟩) nl cL) (zS r):=qK jW LO.out GB.out (fun k hk=>by have:=jS LO.out k hk;have:=PLT.out;omega)
       obtain⟨bl2,ofl2,e4,hbl,hc0⟩:=(LRB.in_ zZ).at hia
       cases e4
       have hl1:wB.cell? ⟨bl,ofl+i,none⟩=some (.int .i64 z):=by rw[HZ.out,List.getD,List.getElem?_eq_getElem hia];simpa [jU] using hc0
       have XE:Hid (∀W,Below wB.heap.size wB W→Calls Tryz.prog 94 #[.slice (some ⟨bs,os,none⟩) n2 c2,.int .i64 z] W fun e w'=>e = .returned (.int .i64 (ks:Int))∧w'=W):=zD0 (fun W hb=>by
        have:=zAf _ p.secs z W ((HI.out.secs.below zN hb).more zN hb.size)
        rw[HZ.out,hatk,←HZ.out] at this
        exact this)
       clear hf0 hf1 hf2 hh0 hh1 hu huc hue hes hnf hsk hatk ht hel hbs2 hbe2 hbl hc0 LRB hks hd0
       refine jG (S:=fun v'=>Below wB.heap.size wB v') 15 (by kernel_rfl) (Below.refl wB.heap.size wB).drew (fun zD2=>?_)
       refine tke [1,9,10,11,13,14,15] 0 zD2 ?_;refine tkd [9,10,11,13,14,15] 1 zD2 (fun w' hSw=>zE ((hSw.block _ (zA XP.out)).trans XP.out)) ?_;refine tke [3,8,9,10,11,13,14,15] 2 zD2 ?_;refine tkd [8,9,10,11,13,14,15] 3 zD2 (fun w' hSw=>zE ((hSw.block _ (zA XP.out)).trans XP.out)) ?_;refine tke [6,7,8,9,10,11,13,14,15] 4 zD2 ?_;refine tke [6,7,8,9,10,11,13,14,15] 5 zD2 ?_;refine tke [7,8,9,10,11,13,14,15] 6 zD2 ?_;refine tkd [8,9,10,11,13,14,15] 7 zD2 (fun w' hSw=>(hSw.cell (zG hl1)).trans hl1) ?_;refine tke [13,14,15] 12 zD2 ?_
       refine xM (i:=8) (by kernel_rfl) rfl (by kernel_rfl) (fun K hK=>?_)
       rw[if_pos (by rfl)]
       go_simp
       refine(XE.out wB.drew (Below.refl wB.heap.size wB).drew).mono ?_
       rintro e w' ⟨rfl,rfl⟩
       try go_wp2_with fail
       refine hK.out _ _ ?_ fun zD2=>?_;exact(Below.refl wB.heap.size wB).drew;clear hK K;try simp only[zn,Act.put]
       refine tke [10,11,13,14,15] 9 zD2 ?_;refine tke [11,13,14,15] 10 zD2 ?_;refine tkd [13,14,15] 11 zD2 (fun w' hSw=>(hSw.cell (zG hs2)).trans hs2) ?_;refine tke [14,15] 13 zD2 ?_
       refine kT [15] (i:=14) (v:=?_) rfl (by kernel_rfl) (by kernel_rfl) (by kernel_rfl) (fun _ _ _ h=>h) (by kernel_rfl) (by kernel_rfl) (by kernel_rfl) (Or.inl ⟨by rfl,?_⟩) zD2 ?_
       rotate_left
       ·intro w' hSw;have ce0:=(hSw.cell (zG he0)).trans he0;have ce1:=(hSw.cell (zG he1)).trans he1;go_simp;try with_reducible rfl
       simp only[zn,Act.put]
       refine kB (by kernel_rfl) rfl (by kernel_rfl) (fun K hK=>?_)
       rw[if_pos (by rfl)]
       refine qE 98 (.tmp 8) (.tmp 99) rfl p8 rfl (c':=#[.int .i64 u0,.int .i64 u1]) rfl (show wB.drew.heap[p8]? = some (.cells #[.int .i64 j1,.int .i64 j2] 98 (0,0)) from X8B.out) vH rfl (by simp[Value.oneCell']) ?_
       refine hK.out _ _ ?_
       clear hK K
       have tX:=setRow_heap wB.drew p8 _ #[.int .i64 u0,.int .i64 u1] 98 _ X8B.out
       have tG:=(yN GB.out (Below.refl wB.heap.size wB).drew GB.out.size).trans (qB wB.drew p8 #[.int .i64 u0,.int .i64 u1])
       have tT:=(TB.out.below (Below.refl wB.heap.size wB).drew).kept (qB wB.drew p8 #[.int .i64 u0,.int .i64 u1]) HP.out.1
       generalize wB.drew.setRow p8 #[.int .i64 u0,.int .i64 u1]=wD at tX tG tT⊢
       have XD:=zD0 tX
       have GD:=zD0 tG
       have TD:=zD0 tT
       clear tX tG tT hl1 hs2 he0 he1 hnfm henf
       go_wp2_with fail
       go_roundw
       case measure=>simp[intOf];omega
       case rel=>exact⟨i+1,u0,u1,_,_,_,_,by omega,by go_num,rfl,rfl,zCv HH.out HC.out HJ.out (fun _=>by rw[HEQ.out];omega),HCN.out,TD.out,XD.out,GD.out⟩
    ·obtain rfl:nl=i:=by omega
     have hlt':¬(nl:Int)<nl:=by omega
     have HG:Hid (kK p r):=zD0 (by rw[kK,←HNL.out];exact HH.out)
     go_wp2_with fail
     go_ret3
     exact⟨BW.out,.inl ⟨HG.out,_,_,rfl,by rw[←HNL.out];exact TW.out.mono (Nat.le_trans BQ.out.size (Nat.le_trans (Nat.le_trans PLT.out.2.1 (Nat.le_of_lt PLT.out.1)) PLT.out.2.2))⟩⟩
end Go.Proofs.YtemmgmjhomgbbaaGreat
