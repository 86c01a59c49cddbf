/-
 The program's package way: follow.
 Conditions: none.
-/
import Derived.Test.YtemmgmjhomgbbaaGreatUGWayPG
import Derived.Test.YtemmgmjhomgbbaaGreatUGWayRefF
import Derived.Test.YtemmgmjhomgbbaaGreatUGPlnRefC
set_option linter.unusedVariables false
set_option linter.unusedSimpArgs false
set_option maxRecDepth 100000
namespace Go.Proofs.YtemmgmjhomgbbaaGreat
open Go.RowKit
theorem infoFlank2:(Tryz.prog.info? 140).map (·.size)=some 2:=by kernel_rfl
theorem zAd:(Tryz.prog.info? 117).map (·.size)=some 24:=by kernel_rfl
theorem wk_one {F:Nat→Value} (hF:∀k,k<14→(F k).oneCell'=true) (a b t0 t1 nr:Int) {h2 y0 y1 y2 o:Value} (e2:h2.oneCell'=true) (e3:y0.oneCell'=true) (e4:y1.oneCell'=true) (e5:y2.oneCell'=true) (e6:o.oneCell'=true):(wkRow F a b h2 t0 t1 y0 y1 y2 nr o).all (·.oneCell')=true:=by
 have h0:=hF 0 (by omega)
 have h1:=hF 1 (by omega)
 have h2':=hF 2 (by omega)
 have h3:=hF 3 (by omega)
 have h4:=hF 4 (by omega)
 have h5:=hF 5 (by omega)
 have h6:=hF 6 (by omega)
 have h7:=hF 7 (by omega)
 have h8:=hF 8 (by omega)
 have h9:=hF 9 (by omega)
 have h10:=hF 10 (by omega)
 have h11:=hF 11 (by omega)
 have h12:=hF 12 (by omega)
 have h13:=hF 13 (by omega)
 simp[wkRow,h0,h1,h2',h3,h4,h5,h6,h7,h8,h9,h10,h11,h12,h13,e2,e3,e4,e5,e6]
 exact⟨rfl,rfl,rfl,rfl,rfl⟩
theorem list_one {α:Type} {T:TypeId} {sz:Nat} {R:El α} {W:World} {lo:Nat} {v:Value} {l:List α} (h:zJ T sz R W lo v l):v.oneCell'=true:=by
 obtain⟨A,c,rfl⟩:=h.slice
 rfl
theorem listIn_one {α:Type} {sz:Nat} {R:El α} {W:World} {lo:Nat} {v:Value} {l:List α} (h:xC sz R W lo v l):v.oneCell'=true:=by
 obtain⟨A,c,rfl,-,-⟩:=h.slice
 rfl
def FolB (q w:World) (lo g:Nat) (F:Nat→Value) (p:Pl) (r:Rt):Prop:=
 WkS w lo g F p r (0,0,[]) (.slice none 0 0) (0,0) (.slice none 0 0) (.slice none 0 0) (.slice none 0 0) zWy (.slice none 0 0) []∧(∀k,k<14→(F k).oneCell'=true)∧Below lo q w
def FolP (w:World) (p:Pl) (r:Rt) (e:Ending) (w':World):Prop:=
 ∃(F:Nat→Value) (a b:Int) (h2:Value) (t0 t1:Int) (y0 y1 y2:Value) (x:Wy) (o:Value) (l:List Jn) (E:Int),e = .returned (.tuple #[.agg (wkRow F a b h2 t0 t1 y0 y1 y2 x.near o),.int .i64 E])∧(wkRow F a b h2 t0 t1 y0 y1 y2 x.near o).all (·.oneCell')=true ∧
  kG w' w.heap.size y0 y1 y2 x∧kC w' w.heap.size o l∧((kK p r∧E=0∧x=kH p r∧l=zAl p r (zS r).length)∨(¬kK p r∧E=90∧x=zWy∧l=[]))∧Below w.heap.size w w'
def zF (k:Nat):Value:=(#[.int .i64 0,.int .i64 0,.slice none 0 0,.slice none 0 0,.slice none 0 0,.slice none 0 0,.int .i64 0,.int .i64 0,.int .i64 0,.slice none 0 0,.slice none 0 0,.slice none 0 0,.int .i64 0,.slice none 0 0]:Array Value).getD k undef
theorem zF_one:∀k,k<14→(zF k).oneCell'=true:=fun k hk=>match k,hk with|0,_=>rfl|1,_=>rfl|2,_=>rfl|3,_=>rfl|4,_=>rfl|5,_=>rfl|6,_=>rfl|7,_=>rfl|8,_=>rfl|9,_=>rfl|10,_=>rfl|11,_=>rfl|12,_=>rfl|13,_=>rfl
set_option maxHeartbeats 8000000 in
theorem zCs (b:Nat) (A B:Option Addr) (n c k d:Nat) (l m:List Int) (w:World) (hb:w.heap[b]? = some (.cells #[.slice A n c,.slice B k d] 61 (0,0)))
  (h1:xB w w.heap.size (.slice A n c) l) (h2:xB w w.heap.size (.slice B k d) m) (hn:n=l.length) (hk:k=m.length) (hp:1≤n+k) (hnk:n+k≤1000):
  Calls Tryz.prog 88 #[.slice (some ⟨b,0,none⟩) 2 2] w fun e w'=>∃A' c' N,e = .returned (.slice A' N c')∧N=(l++m).length∧qV w' w.heap.size (.slice A' N c') (l++m)∧Below w.heap.size w w':=by
 have X:=zD0 hb
 have H1:=zD0 h1
 have H2:=zD0 h2
 have HLN:Hid (n=l.length∧k=m.length):=zD0 ⟨hn,hk⟩
 have HPK:Hid (1≤n+k∧n+k≤1000):=zD0 ⟨hp,hnk⟩
 obtain⟨N,hN⟩:=zD1 (n+k)
 have HN:=zD0 hN
 have hw1:IntKind.i64.wrap (n:Int)=n:=kA (by omega) (by omega)
 have hw2:IntKind.i64.wrap ((n:Int)+k)=(N:Int):=by rw[kA (by omega) (by omega)];omega
 have hb1:n≤9223372036854775807:=by omega
 have hb2:k≤9223372036854775807:=by omega
 have hd1:¬(n:Int)<0:=by omega
 have hd2:¬(N:Int)<0:=by omega
 obtain⟨i0,hi,hz0,hz1,hz2⟩:=info_parts zAz
 have I0:=zD0 hi
 have I1:=zD0 hz0
 have I2:=zD0 hz1
 have I3:=zD0 hz2
 clear hi hz0 hz1 hz2 hb h1 h2 hn hk hp hnk hN
 have TOT:Hid (∀i:Nat,i≤2→i=0∨i=1∨i=2):=zD0 (fun i h=>by omega)
 go_enter Tryz.func88,Tryz.ntmps88
 go_wp2_with fail
 go_loopw [3,11] (fun s3 s11 wr=>wr=w∧((s11 = .int .i64 0∧s3 = .int .i64 0)∨(s11 = .int .i64 1∧s3 = .int .i64 n)∨(s11 = .int .i64 2∧s3 = .int .i64 N))) (fun _ s11 _=>2-(intOf s11).toNat)
 case atStart=>exact⟨rfl,.inl ⟨rfl,rfl⟩⟩
 case round=>
  obtain⟨rfl,hc⟩:=hrel
  rcases hc with⟨rfl,rfl⟩|⟨rfl,rfl⟩|⟨rfl,rfl⟩
  ·obtain⟨k0,k1⟩:=zI X.out
   go_wp2_with fail
   go_roundw
   case measure=>simp[intOf]
   case rel=>exact⟨trivial,.inr (.inl ⟨by go_num,by go_num⟩)⟩
  ·obtain⟨k0,k1⟩:=zI X.out
   go_wp2_with fail
   go_roundw
   case measure=>simp[intOf]
   case rel=>exact⟨trivial,.inr (.inr ⟨by go_num,by go_num⟩)⟩
  ·go_wp2_with fail
   refine(grow_any N (by have:=HPK.out;have:=HN.out;omega) (by have:=HPK.out;have:=HN.out;omega) _).mono ?_
   rintro e w1 ⟨A1,c1,rfl,hown,b1⟩
   have O1:Hid (zJ 3 1 jU w1 wr.heap.size (.slice A1 0 c1) ([]:List Int)):=zD0 ⟨[],hown,rfl,Nat.zero_le _,(fun _ h=>by cases h),fun j ys x h=>by simp at h⟩
   have B1:=zD0 b1
   clear hown b1
   go_wp2_with fail
   go_loopw [6,27] (fun s6 s27 ww=>Below wr.heap.size wr ww∧∃A6 c6,(s27 = .int .i64 0∧s6 = .slice A6 0 c6∧zJ 3 1 jU ww wr.heap.size (.slice A6 0 c6) ([]:List Int))∨(s27 = .int .i64 1∧s6 = .slice A6 n c6∧zJ 3 1 jU ww wr.heap.size (.slice A6 n c6) l)∨(s27 = .int .i64 2∧s6 = .slice A6 N c6∧zJ 3 1 jU ww wr.heap.size (.slice A6 N c6) (l++m))) (fun _ s27 _=>2-(intOf s27).toNat)
   case atStart=>exact⟨B1.out,_,_,.inl ⟨rfl,rfl,O1.out⟩⟩
   case round=>
    obtain⟨hbw,A6,c6,hc⟩:=hrel
    have BW:=zD0 hbw
    have XW:=zD0 ((hbw.block _ (zA X.out)).trans X.out)
    clear hbw O1 B1
    rcases hc with⟨rfl,rfl,how⟩|⟨rfl,rfl,how⟩|⟨rfl,rfl,how⟩
    ·have OW:=zD0 how
     clear how
     obtain⟨k0,k1⟩:=zI XW.out
     obtain⟨zss,hy1,hy2,hy3,hy4,hy5,hy6,hy7⟩:=(((H1.out).below qI BW.out).more qI BW.out.size).cells (by omega) kS zZ
     obtain⟨yss,ho,hl,hmx,hs2,hr⟩:=OW.out
     have Y1:=zD0 hy1
     have Y2:=zD0 hy2
     have Y3:=zD0 hy3
     have Y4:=zD0 hy4
     have Y6:=zD0 hy6
     have Y7:=zD0 hy7
     have Z0:=zD0 ho
     have Z1:=zD0 hl
     have Z2:=zD0 hs2
     have Z3:=zD0 hr
     have YL:Hid (zss.flatten.length=n*1):=zD0 (by rw[xA _ hy2,hy1,HLN.out.1])
     clear hy1 hy2 hy3 hy4 hy5 hy6 hy7 ho hl hmx hs2 hr
     go_wp2_with ((with_reducible show wpList _ _ _ (⟨some 33,_,_,_,_,_⟩::_) _ _);refine zQ rfl (.tmp 31) (.tmp 32) _ rfl Tryz.underlying61 I0.out I1.out rfl I2.out (by decide) I3.out (by decide) rfl (by have:=Z0.out;rw[show([]:List Int).length=0 from rfl] at this;exact this) rfl YL.out Y4.out Y7.out Y6.out (by have:=HPK.out;omega) BW.out.size ?_;intro v3 w3 hown3 hgrow3;rw[Nat.zero_add] at hown3;obtain⟨A3,c3,rfl⟩:=xN hown3;have O3:=zD0 hown3;have B3:=zD0 (BW.out.grown hgrow3 BW.out.size (jE Z0.out));clear hown3 hgrow3)
     have OC:=zD0 (own_cat (R:=jU) (sz:=1) jW O3.out (by rw[show([]:List Int).length=0 from rfl,Nat.zero_add];exact HLN.out.1) Z1.out Y1.out Z2.out Y2.out Z3.out Y3.out (by have:=HPK.out;have:=HN.out;unfold maxLen;omega))
     go_roundw
     case measure=>simp[intOf]
     case rel=>exact⟨B3.out,_,_,.inr (.inl ⟨by go_num,rfl,OC.out⟩)⟩
    ·have OW:=zD0 how
     clear how
     obtain⟨k0,k1⟩:=zI XW.out
     obtain⟨zss,hy1,hy2,hy3,hy4,hy5,hy6,hy7⟩:=(((H2.out).below qI BW.out).more qI BW.out.size).cells (by omega) kS zZ
     obtain⟨yss,ho,hl,hmx,hs2,hr⟩:=OW.out
     have Y1:=zD0 hy1
     have Y2:=zD0 hy2
     have Y3:=zD0 hy3
     have Y4:=zD0 hy4
     have Y6:=zD0 hy6
     have Y7:=zD0 hy7
     have Z0:=zD0 ho
     have Z1:=zD0 hl
     have Z2:=zD0 hs2
     have Z3:=zD0 hr
     have YL:Hid (zss.flatten.length=k*1):=zD0 (by rw[xA _ hy2,hy1,HLN.out.2])
     clear hy1 hy2 hy3 hy4 hy5 hy6 hy7 ho hl hmx hs2 hr
     go_wp2_with ((with_reducible show wpList _ _ _ (⟨some 33,_,_,_,_,_⟩::_) _ _);refine zQ rfl (.tmp 31) (.tmp 32) _ rfl Tryz.underlying61 I0.out I1.out rfl I2.out (by decide) I3.out (by decide) rfl (by have:=Z0.out;rw[←HLN.out.1] at this;exact this) rfl YL.out Y4.out Y7.out Y6.out (by have:=HPK.out;omega) BW.out.size ?_;intro v3 w3 hown3 hgrow3;rw[←HN.out] at hown3;obtain⟨A3,c3,rfl⟩:=xN hown3;have O3:=zD0 hown3;have B3:=zD0 (BW.out.grown hgrow3 BW.out.size (jE Z0.out));clear hown3 hgrow3)
     have OC:=zD0 (own_cat (R:=jU) (sz:=1) jW O3.out (by rw[←HLN.out.1,←HLN.out.2];exact HN.out) Z1.out Y1.out Z2.out Y2.out Z3.out Y3.out (by have:=HPK.out;have:=HN.out;unfold maxLen;omega))
     go_roundw
     case measure=>simp[intOf]
     case rel=>exact⟨B3.out,_,_,.inr (.inr ⟨by go_num,rfl,OC.out⟩)⟩
    ·have OW:=zD0 how
     clear how
     go_wp2_with fail
     go_ret
     exact⟨_,_,_,rfl,by rw[List.length_append,←HLN.out.1,←HLN.out.2];exact HN.out,OW.out,BW.out⟩
theorem in_nil {α:Type} {sz:Nat} {R:El α} {W:World} {B:Nat}:xC sz R W B (.slice none 0 0) ([]:List α):=⟨none,0,rfl,by simp,Nat.zero_le _,fun _=>rfl,fun h=>absurd h (by simp)⟩
set_option maxHeartbeats 16000000 in
theorem pfollow_any (v y:Value) (p:Pl) (r:Rt) (w:World) (h:qF w w.heap.size v p) (h':vS w w.heap.size y r) (hr:qW p r):
  Calls Tryz.prog 60 #[v,y] w fun e w'=>FolP w p r e w':=by
 have HR:=zD0 hr
 obtain⟨v2,v3,v4,v5,rfl,hin⟩:=h
 obtain⟨d3,d4,d5,rfl,hrt⟩:=h'
 have HIN:=zD0 hin
 have HRT:=zD0 hrt
 obtain⟨A2,c2,rfl,-,-⟩:=hin.secs.slice
 obtain⟨A3,c3,rfl,-,-⟩:=hin.pts.slice
 obtain⟨A4,c4,rfl,-,-⟩:=hin.sigs.slice
 obtain⟨A5,c5,rfl,-,-⟩:=hin.routes.slice
 obtain⟨D3,f3,rfl,-,-⟩:=hrt.path.slice
 obtain⟨D4,f4,rfl,-,-⟩:=hrt.over.slice
 obtain⟨D5,f5,rfl,hcl5,hcm5⟩:=hrt.flanks.slice
 obtain⟨n2,hn2⟩:=zD1 (p.secs.length)
 obtain⟨n3,hn3⟩:=zD1 (p.pts.length)
 obtain⟨n4,hn4⟩:=zD1 (p.sigs.length)
 obtain⟨n5,hn5⟩:=zD1 (p.routes.length)
 obtain⟨l3,hl3⟩:=zD1 (r.path.length)
 obtain⟨l4,hl4⟩:=zD1 (r.over.length)
 obtain⟨l5,hl5⟩:=zD1 (r.flanks.length)
 have HLN:Hid (l3=r.path.length∧l4=r.over.length∧1≤l3+l4∧l3+l4≤1000):=zD0 (by have:=hr.route.path;have:=hr.route.over;omega)
 have HL5:Hid (l5=r.flanks.length∧l5≤3):=zD0 (by have:=hr.route.flank;omega)
 have J2:Hid (zX w w.heap.size (.slice A2 n2 c2) p.secs):=zD0 (by rw[hn2];exact hin.secs)
 have J6:Hid (xI w w.heap.size (.slice A4 n4 c4) p.sigs):=zD0 (by rw[hn4];exact hin.sigs)
 have J3:Hid (xB w w.heap.size (.slice D3 l3 f3) r.path):=zD0 (by rw[hl3];exact hrt.path)
 have J4:Hid (xB w w.heap.size (.slice D4 l4 f4) r.over):=zD0 (by rw[hl4];exact hrt.over)
 have J5:Hid (zT w w.heap.size (.slice D5 l5 f5) r.flanks):=zD0 (by rw[hl5];exact hrt.flanks)
 rw[←hn2,←hn3,←hn4,←hn5,←hl3,←hl4,←hl5]
 have hl5b:l5≤3:=HL5.out.2
 clear hn2 hn3 hn4 hn5 hl3 hl4 hl5 hin hrt hcl5 hcm5 hr
 obtain⟨q,hq,hx2,hx3,hx4,hsz,hbq⟩:=boxes3 w (.cells #[.int .i64 p.ver,.int .i64 p.par,.slice A2 n2 c2,.slice A3 n3 c3,.slice A4 n4 c4,.slice A5 n5 c5] 27) (.cells #[.int .i64 r.id,.int .i64 r.entry,.int .i64 r.exit,.slice D3 l3 f3,.slice D4 l4 f4,.slice D5 l5 f5,.int .i64 r.timer] 64) (.cells #[.int .i64 0,.int .i64 0,.slice none 0 0,.slice none 0 0,.slice none 0 0,.slice none 0 0,.int .i64 0,.int .i64 0,.int .i64 0,.slice none 0 0,.slice none 0 0,.slice none 0 0,.int .i64 0,.slice none 0 0,.int .i64 0,.int .i64 0,.slice none 0 0,.int .i64 0,.int .i64 0,.slice none 0 0,.slice none 0 0,.slice none 0 0,.int .i64 0,.slice none 0 0] 117)
 have X2:=zD0 hx2
 have X3:=zD0 hx3
 have X4a:=zD0 hx4
 have BQ:=zD0 hbq
 have LOW:=zD0 hbq.size
 have HI2:=zD0 ((J2.out.below zN hbq).more zN hbq.size)
 have HI6:=zD0 ((J6.out.below zP hbq).more zP hbq.size)
 have HI3:=zD0 ((J3.out.below qI hbq).more qI hbq.size)
 have HI4:=zD0 ((J4.out.below qI hbq).more qI hbq.size)
 have HI5:=zD0 ((J5.out.below zM hbq).more zM hbq.size)
 clear hx2 hx3 hx4 hbq hsz J2 J6 J3 J4 J5
 go_enter Tryz.func60,Tryz.ntmps60
 go_upto_region 1 with fail
 rw[←hq]
 clear hq
 obtain⟨p4,hp4⟩:=zD1 (w.heap.size+1+1)
 rw[←hp4] at X4a⊢
 have X4:Hid (q.heap[p4]? = some (.cells #[.int .i64 0,.int .i64 0,.slice none 0 0,.slice none 0 0,.slice none 0 0,.slice none 0 0,.int .i64 0,.int .i64 0,.int .i64 0,.slice none 0 0,.slice none 0 0,.slice none 0 0,.int .i64 0,.slice none 0 0,.int .i64 0,.int .i64 0,.slice none 0 0,.int .i64 0,.int .i64 0,.slice none 0 0,.slice none 0 0,.slice none 0 0,.int .i64 0,.slice none 0 0] 117 (0,0))):=X4a
 have P4:Hid (p4<q.heap.size):=zD0 (zA X4.out)
 have PL4:Hid (w.heap.size≤p4):=zD0 (by omega)
 clear hp4 X4a
 go_cut [6] from 10 to 18 (fun s6 wx=>∃g F,s6 = .pointer (some ⟨g,0,none⟩)∧FolB q wx q.heap.size g F p r)
 case first=>
  refine wp_region_held_drew (S:=fun v=>Below q.heap.size q v) (by kernel_rfl) (Below.refl q.heap.size q).drew (fun zD2=>?_)
  refine tkc 0 zD2 (fun w' hSw=>zE ((hSw.block _ (zA X2.out)).trans X2.out)) ?_;refine tkc 1 zD2 (fun w' hSw=>zL ((hSw.block _ (zA X3.out)).trans X3.out)) ?_;refine tk 2 zD2 ?_;refine tkc 3 zD2 (fun w' hSw=>zL ((hSw.block _ (zA X3.out)).trans X3.out)) ?_;refine tk 4 zD2 ?_;refine tkc 5 zD2 (fun w' hSw=>zL ((hSw.block _ (zA X3.out)).trans X3.out)) ?_
  have tb:=(Below.refl q.heap.size q).drew
  generalize q.drew=q0 at tb zD2⊢
  have HB:=zD0 tb
  clear tb
  refine wpAnyH_ready (rs:=[6,9]) (by kernel_rfl) (by simp) ?_
  refine AllReadyH.cons rfl (fun K hK=>?_) (AllReadyH.cons rfl (fun K hK=>?_) AllReadyH.nil)
  ·go_simp
   have tb:=HB.out.alloc HB.out.size (.cells #[.slice D3 l3 f3,.slice D4 l4 f4] 61)
   have t16:=zB q0 (.cells #[.slice D3 l3 f3,.slice D4 l4 f4] 61)
   refine hK.out _ _ ?_ fun zD2=>?_;exact tb;clear hK K;try simp only[zn,Act.put]
   generalize q0.alloc (.cells #[.slice D3 l3 f3,.slice D4 l4 f4] 61)=q1 at tb t16 zD2⊢
   obtain⟨p16,hp16⟩:=zD1 (q0.heap.size)
   rw[←hp16] at t16⊢
   have HB':=zD0 tb
   have X16:=zD0 t16
   clear tb t16 hp16
   clear HB
   have HB:=HB'
   clear HB'
   refine wpAnyH_ready (rs:=[7,9]) (by kernel_rfl) (by simp) ?_
   refine AllReadyH.cons rfl (fun K hK=>?_) (AllReadyH.cons rfl (fun K hK=>?_) AllReadyH.nil)
   ·go_simp
    refine(zCs p16 _ _ _ _ _ _ r.path r.over q1 X16.out ((HI3.out.below qI HB.out).more qI HB.out.size) ((HI4.out.below qI HB.out).more qI HB.out.size) HLN.out.1 HLN.out.2.1 HLN.out.2.2.1 HLN.out.2.2.2).mono ?_
    rintro e q2 ⟨AL,cL,nl,rfl,hnl,hol,b⟩
    have HNL:Hid (nl=(zS r).length):=zD0 hnl
    have OL:Hid (qV q2 q.heap.size (.slice AL nl cL) (zS r)):=zD0 (hol.mono HB.out.size)
    have HB':=zD0 (HB.out.trans (b.mono HB.out.size))
    clear b hnl hol
    try go_wp2_with fail
    refine hK.out _ _ ?_ fun zD2=>?_;exact HB'.out;clear hK K;try simp only[zn,Act.put]
    refine tk 8 zD2 ?_
    clear HB
    have HB:=HB'
    clear HB'
    refine tkr 9 (fun K hK=>?_)
    ·go_simp
     have tb:=HB.out.alloc HB.out.size (.cells #[.int .i64 0,.int .i64 0,.slice none 0 0,.slice none 0 0,.slice none 0 0,.slice none 0 0,.int .i64 0,.int .i64 0,.int .i64 0,.slice none 0 0,.slice none 0 0,.slice none 0 0,.int .i64 0,.slice none 0 0,.int .i64 0,.int .i64 0,.slice none 0 0,.int .i64 0,.int .i64 0,.slice none 0 0,.slice none 0 0,.slice none 0 0,.int .i64 0,.slice none 0 0] 117)
     have t6:=zB q2 (.cells #[.int .i64 0,.int .i64 0,.slice none 0 0,.slice none 0 0,.slice none 0 0,.slice none 0 0,.int .i64 0,.int .i64 0,.int .i64 0,.slice none 0 0,.slice none 0 0,.slice none 0 0,.int .i64 0,.slice none 0 0,.int .i64 0,.int .i64 0,.slice none 0 0,.int .i64 0,.int .i64 0,.slice none 0 0,.slice none 0 0,.slice none 0 0,.int .i64 0,.slice none 0 0] 117)
     have tl:=OL.out.below qI (zD q2 (.cells #[.int .i64 0,.int .i64 0,.slice none 0 0,.slice none 0 0,.slice none 0 0,.slice none 0 0,.int .i64 0,.int .i64 0,.int .i64 0,.slice none 0 0,.slice none 0 0,.slice none 0 0,.int .i64 0,.slice none 0 0,.int .i64 0,.int .i64 0,.slice none 0 0,.int .i64 0,.int .i64 0,.slice none 0 0,.slice none 0 0,.slice none 0 0,.int .i64 0,.slice none 0 0] 117))
     refine hK.out _ _ ?_ fun zD2=>?_;exact tb;clear hK K;try simp only[zn,Act.put]
     generalize q2.alloc (.cells #[.int .i64 0,.int .i64 0,.slice none 0 0,.slice none 0 0,.slice none 0 0,.slice none 0 0,.int .i64 0,.int .i64 0,.int .i64 0,.slice none 0 0,.slice none 0 0,.slice none 0 0,.int .i64 0,.slice none 0 0,.int .i64 0,.int .i64 0,.slice none 0 0,.int .i64 0,.int .i64 0,.slice none 0 0,.slice none 0 0,.slice none 0 0,.int .i64 0,.slice none 0 0] 117)=q3 at tb t6 tl zD2⊢
     obtain⟨p6,hp6⟩:=zD1 (q2.heap.size)
     rw[←hp6] at t6⊢
     have PL6:Hid (q.heap.size≤p6):=zD0 (by rw[hp6];exact HB.out.size)
     have HB':=zD0 tb
     have X6':=zD0 t6
     have OL':=zD0 tl
     clear tb t6 tl hp6
     clear HB OL
     have HB:=HB'
     have X6:=X6'
     have OL:=OL'
     clear HB' X6' OL'
     refine tkr 10 (fun K hK=>?_)
     ·rw[if_pos (by rfl)]
      refine qE 117 (.tmp 6) (.tmp 18) rfl p6 rfl (c':=#[.int .i64 p.ver,.int .i64 p.par,.slice A2 n2 c2,.slice A3 n3 c3,.slice A4 n4 c4,.slice A5 n5 c5,.int .i64 r.id,.int .i64 r.entry,.int .i64 r.exit,.slice D3 l3 f3,.slice D4 l4 f4,.slice D5 l5 f5,.int .i64 r.timer,.slice AL nl cL,.int .i64 0,.int .i64 0,.slice none 0 0,.int .i64 0,.int .i64 0,.slice none 0 0,.slice none 0 0,.slice none 0 0,.int .i64 0,.slice none 0 0]) rfl X6.out zAd rfl (by simp[Value.oneCell']) ?_
      have tb:=below_setRow HB.out PL6.out #[.int .i64 p.ver,.int .i64 p.par,.slice A2 n2 c2,.slice A3 n3 c3,.slice A4 n4 c4,.slice A5 n5 c5,.int .i64 r.id,.int .i64 r.entry,.int .i64 r.exit,.slice D3 l3 f3,.slice D4 l4 f4,.slice D5 l5 f5,.int .i64 r.timer,.slice AL nl cL,.int .i64 0,.int .i64 0,.slice none 0 0,.int .i64 0,.int .i64 0,.slice none 0 0,.slice none 0 0,.slice none 0 0,.int .i64 0,.slice none 0 0]
      have tg:=qB q3 p6 #[.int .i64 p.ver,.int .i64 p.par,.slice A2 n2 c2,.slice A3 n3 c3,.slice A4 n4 c4,.slice A5 n5 c5,.int .i64 r.id,.int .i64 r.entry,.int .i64 r.exit,.slice D3 l3 f3,.slice D4 l4 f4,.slice D5 l5 f5,.int .i64 r.timer,.slice AL nl cL,.int .i64 0,.int .i64 0,.slice none 0 0,.int .i64 0,.int .i64 0,.slice none 0 0,.slice none 0 0,.slice none 0 0,.int .i64 0,.slice none 0 0]
      have t6:=setRow_heap _ _ _ #[.int .i64 p.ver,.int .i64 p.par,.slice A2 n2 c2,.slice A3 n3 c3,.slice A4 n4 c4,.slice A5 n5 c5,.int .i64 r.id,.int .i64 r.entry,.int .i64 r.exit,.slice D3 l3 f3,.slice D4 l4 f4,.slice D5 l5 f5,.int .i64 r.timer,.slice AL nl cL,.int .i64 0,.int .i64 0,.slice none 0 0,.int .i64 0,.int .i64 0,.slice none 0 0,.slice none 0 0,.slice none 0 0,.int .i64 0,.slice none 0 0] _ _ X6.out
      have tl:qV (q3.setRow p6 #[.int .i64 p.ver,.int .i64 p.par,.slice A2 n2 c2,.slice A3 n3 c3,.slice A4 n4 c4,.slice A5 n5 c5,.int .i64 r.id,.int .i64 r.entry,.int .i64 r.exit,.slice D3 l3 f3,.slice D4 l4 f4,.slice D5 l5 f5,.int .i64 r.timer,.slice AL nl cL,.int .i64 0,.int .i64 0,.slice none 0 0,.int .i64 0,.int .i64 0,.slice none 0 0,.slice none 0 0,.slice none 0 0,.int .i64 0,.slice none 0 0]) q.heap.size (.slice AL nl cL) (zS r):=xK jW OL.out tg (by decide) ⟨_,X6.out⟩
      refine hK.out _ _ ?_ fun zD2=>?_;exact tb;clear hK K;try simp only[zn,Act.put]
      generalize q3.setRow p6 #[.int .i64 p.ver,.int .i64 p.par,.slice A2 n2 c2,.slice A3 n3 c3,.slice A4 n4 c4,.slice A5 n5 c5,.int .i64 r.id,.int .i64 r.entry,.int .i64 r.exit,.slice D3 l3 f3,.slice D4 l4 f4,.slice D5 l5 f5,.int .i64 r.timer,.slice AL nl cL,.int .i64 0,.int .i64 0,.slice none 0 0,.int .i64 0,.int .i64 0,.slice none 0 0,.slice none 0 0,.slice none 0 0,.int .i64 0,.slice none 0 0]=q4 at tb t6 tl zD2⊢
      clear tg
      have FOL:Hid (FolB q q4 q.heap.size p6 (fun k=>(#[.int .i64 p.ver,.int .i64 p.par,.slice A2 n2 c2,.slice A3 n3 c3,.slice A4 n4 c4,.slice A5 n5 c5,.int .i64 r.id,.int .i64 r.entry,.int .i64 r.exit,.slice D3 l3 f3,.slice D4 l4 f4,.slice D5 l5 f5,.int .i64 r.timer,.slice AL nl cL]:Array Value).getD k undef) p r):=zD0 ⟨⟨t6,PL6.out,HI2.out.below zN tb,HI6.out.below zP tb,rfl,rfl,HI3.out.below qI tb,HI4.out.below qI tb,tl,in_nil,⟨zJ.nil_,zJ.nil_,zJ.nil_⟩,zJ.nil_⟩,
       (fun k hk=>match k,hk with|0,_=>rfl|1,_=>rfl|2,_=>rfl|3,_=>rfl|4,_=>rfl|5,_=>rfl|6,_=>rfl|7,_=>rfl|8,_=>rfl|9,_=>rfl|10,_=>rfl|11,_=>rfl|12,_=>rfl|13,_=>rfl),tb⟩
      clear tb t6 tl
      refine wpAnyH_done (by kernel_rfl) ?_ _
      go_wp2_with fail
      go_meet
      exact⟨p6,_,rfl,FOL.out⟩
   ·go_simp
    have tb:=HB.out.alloc HB.out.size (.cells #[.int .i64 0,.int .i64 0,.slice none 0 0,.slice none 0 0,.slice none 0 0,.slice none 0 0,.int .i64 0,.int .i64 0,.int .i64 0,.slice none 0 0,.slice none 0 0,.slice none 0 0,.int .i64 0,.slice none 0 0,.int .i64 0,.int .i64 0,.slice none 0 0,.int .i64 0,.int .i64 0,.slice none 0 0,.slice none 0 0,.slice none 0 0,.int .i64 0,.slice none 0 0] 117)
    have t6:=zB q1 (.cells #[.int .i64 0,.int .i64 0,.slice none 0 0,.slice none 0 0,.slice none 0 0,.slice none 0 0,.int .i64 0,.int .i64 0,.int .i64 0,.slice none 0 0,.slice none 0 0,.slice none 0 0,.int .i64 0,.slice none 0 0,.int .i64 0,.int .i64 0,.slice none 0 0,.int .i64 0,.int .i64 0,.slice none 0 0,.slice none 0 0,.slice none 0 0,.int .i64 0,.slice none 0 0] 117)
    have t16:=(qZ q1 (.cells #[.int .i64 0,.int .i64 0,.slice none 0 0,.slice none 0 0,.slice none 0 0,.slice none 0 0,.int .i64 0,.int .i64 0,.int .i64 0,.slice none 0 0,.slice none 0 0,.slice none 0 0,.int .i64 0,.slice none 0 0,.int .i64 0,.int .i64 0,.slice none 0 0,.int .i64 0,.int .i64 0,.slice none 0 0,.slice none 0 0,.slice none 0 0,.int .i64 0,.slice none 0 0] 117) (zA X16.out)).trans X16.out
    refine hK.out _ _ ?_ fun zD2=>?_;exact tb;clear hK K;try simp only[zn,Act.put]
    generalize q1.alloc (.cells #[.int .i64 0,.int .i64 0,.slice none 0 0,.slice none 0 0,.slice none 0 0,.slice none 0 0,.int .i64 0,.int .i64 0,.int .i64 0,.slice none 0 0,.slice none 0 0,.slice none 0 0,.int .i64 0,.slice none 0 0,.int .i64 0,.int .i64 0,.slice none 0 0,.int .i64 0,.int .i64 0,.slice none 0 0,.slice none 0 0,.slice none 0 0,.int .i64 0,.slice none 0 0] 117)=q5 at tb t6 t16 zD2⊢
    obtain⟨p6,hp6⟩:=zD1 (q1.heap.size)
    rw[←hp6] at t6⊢
    have PL6:Hid (q.heap.size≤p6):=zD0 (by rw[hp6];exact HB.out.size)
    have HB':=zD0 tb
    have X6':=zD0 t6
    have X16':=zD0 t16
    clear tb t6 t16 hp6
    clear HB X16
    have HB:=HB'
    have X6:=X6'
    have X16:=X16'
    clear HB' X6' X16'
    refine tkr 7 (fun K hK=>?_)
    ·go_simp
     refine(zCs p16 _ _ _ _ _ _ r.path r.over q5 X16.out ((HI3.out.below qI HB.out).more qI HB.out.size) ((HI4.out.below qI HB.out).more qI HB.out.size) HLN.out.1 HLN.out.2.1 HLN.out.2.2.1 HLN.out.2.2.2).mono ?_
     rintro e q6 ⟨AL,cL,nl,rfl,hnl,hol,b⟩
     have HNL:Hid (nl=(zS r).length):=zD0 hnl
     have OL:Hid (qV q6 q.heap.size (.slice AL nl cL) (zS r)):=zD0 (hol.mono HB.out.size)
     have HB':=zD0 (HB.out.trans (b.mono HB.out.size))
     have X6':=zD0 ((b.block _ (zA X6.out)).trans X6.out)
     clear b hnl hol
     try go_wp2_with fail
     refine hK.out _ _ ?_ fun zD2=>?_;exact HB'.out;clear hK K;try simp only[zn,Act.put]
     refine tk 8 zD2 ?_
     clear HB X6
     have HB:=HB'
     have X6:=X6'
     clear HB' X6'
     refine tkr 10 (fun K hK=>?_)
     ·rw[if_pos (by rfl)]
      refine qE 117 (.tmp 6) (.tmp 18) rfl p6 rfl (c':=#[.int .i64 p.ver,.int .i64 p.par,.slice A2 n2 c2,.slice A3 n3 c3,.slice A4 n4 c4,.slice A5 n5 c5,.int .i64 r.id,.int .i64 r.entry,.int .i64 r.exit,.slice D3 l3 f3,.slice D4 l4 f4,.slice D5 l5 f5,.int .i64 r.timer,.slice AL nl cL,.int .i64 0,.int .i64 0,.slice none 0 0,.int .i64 0,.int .i64 0,.slice none 0 0,.slice none 0 0,.slice none 0 0,.int .i64 0,.slice none 0 0]) rfl X6.out zAd rfl (by simp[Value.oneCell']) ?_
      have tb:=below_setRow HB.out PL6.out #[.int .i64 p.ver,.int .i64 p.par,.slice A2 n2 c2,.slice A3 n3 c3,.slice A4 n4 c4,.slice A5 n5 c5,.int .i64 r.id,.int .i64 r.entry,.int .i64 r.exit,.slice D3 l3 f3,.slice D4 l4 f4,.slice D5 l5 f5,.int .i64 r.timer,.slice AL nl cL,.int .i64 0,.int .i64 0,.slice none 0 0,.int .i64 0,.int .i64 0,.slice none 0 0,.slice none 0 0,.slice none 0 0,.int .i64 0,.slice none 0 0]
      have tg:=qB q6 p6 #[.int .i64 p.ver,.int .i64 p.par,.slice A2 n2 c2,.slice A3 n3 c3,.slice A4 n4 c4,.slice A5 n5 c5,.int .i64 r.id,.int .i64 r.entry,.int .i64 r.exit,.slice D3 l3 f3,.slice D4 l4 f4,.slice D5 l5 f5,.int .i64 r.timer,.slice AL nl cL,.int .i64 0,.int .i64 0,.slice none 0 0,.int .i64 0,.int .i64 0,.slice none 0 0,.slice none 0 0,.slice none 0 0,.int .i64 0,.slice none 0 0]
      have t6:=setRow_heap _ _ _ #[.int .i64 p.ver,.int .i64 p.par,.slice A2 n2 c2,.slice A3 n3 c3,.slice A4 n4 c4,.slice A5 n5 c5,.int .i64 r.id,.int .i64 r.entry,.int .i64 r.exit,.slice D3 l3 f3,.slice D4 l4 f4,.slice D5 l5 f5,.int .i64 r.timer,.slice AL nl cL,.int .i64 0,.int .i64 0,.slice none 0 0,.int .i64 0,.int .i64 0,.slice none 0 0,.slice none 0 0,.slice none 0 0,.int .i64 0,.slice none 0 0] _ _ X6.out
      have tl:qV (q6.setRow p6 #[.int .i64 p.ver,.int .i64 p.par,.slice A2 n2 c2,.slice A3 n3 c3,.slice A4 n4 c4,.slice A5 n5 c5,.int .i64 r.id,.int .i64 r.entry,.int .i64 r.exit,.slice D3 l3 f3,.slice D4 l4 f4,.slice D5 l5 f5,.int .i64 r.timer,.slice AL nl cL,.int .i64 0,.int .i64 0,.slice none 0 0,.int .i64 0,.int .i64 0,.slice none 0 0,.slice none 0 0,.slice none 0 0,.int .i64 0,.slice none 0 0]) q.heap.size (.slice AL nl cL) (zS r):=xK jW OL.out tg (by decide) ⟨_,X6.out⟩
      refine hK.out _ _ ?_ fun zD2=>?_;exact tb;clear hK K;try simp only[zn,Act.put]
      generalize q6.setRow p6 #[.int .i64 p.ver,.int .i64 p.par,.slice A2 n2 c2,.slice A3 n3 c3,.slice A4 n4 c4,.slice A5 n5 c5,.int .i64 r.id,.int .i64 r.entry,.int .i64 r.exit,.slice D3 l3 f3,.slice D4 l4 f4,.slice D5 l5 f5,.int .i64 r.timer,.slice AL nl cL,.int .i64 0,.int .i64 0,.slice none 0 0,.int .i64 0,.int .i64 0,.slice none 0 0,.slice none 0 0,.slice none 0 0,.int .i64 0,.slice none 0 0]=q7 at tb t6 tl zD2⊢
      clear tg
      have FOL:Hid (FolB q q7 q.heap.size p6 (fun k=>(#[.int .i64 p.ver,.int .i64 p.par,.slice A2 n2 c2,.slice A3 n3 c3,.slice A4 n4 c4,.slice A5 n5 c5,.int .i64 r.id,.int .i64 r.entry,.int .i64 r.exit,.slice D3 l3 f3,.slice D4 l4 f4,.slice D5 l5 f5,.int .i64 r.timer,.slice AL nl cL]:Array Value).getD k undef) p r):=zD0 ⟨⟨t6,PL6.out,HI2.out.below zN tb,HI6.out.below zP tb,rfl,rfl,HI3.out.below qI tb,HI4.out.below qI tb,tl,in_nil,⟨zJ.nil_,zJ.nil_,zJ.nil_⟩,zJ.nil_⟩,
       (fun k hk=>match k,hk with|0,_=>rfl|1,_=>rfl|2,_=>rfl|3,_=>rfl|4,_=>rfl|5,_=>rfl|6,_=>rfl|7,_=>rfl|8,_=>rfl|9,_=>rfl|10,_=>rfl|11,_=>rfl|12,_=>rfl|13,_=>rfl),tb⟩
      clear tb t6 tl
      refine wpAnyH_done (by kernel_rfl) ?_ _
      go_wp2_with fail
      go_meet
      exact⟨p6,_,rfl,FOL.out⟩
  ·go_simp
   have tb:=HB.out.alloc HB.out.size (.cells #[.int .i64 0,.int .i64 0,.slice none 0 0,.slice none 0 0,.slice none 0 0,.slice none 0 0,.int .i64 0,.int .i64 0,.int .i64 0,.slice none 0 0,.slice none 0 0,.slice none 0 0,.int .i64 0,.slice none 0 0,.int .i64 0,.int .i64 0,.slice none 0 0,.int .i64 0,.int .i64 0,.slice none 0 0,.slice none 0 0,.slice none 0 0,.int .i64 0,.slice none 0 0] 117)
   have t6:=zB q0 (.cells #[.int .i64 0,.int .i64 0,.slice none 0 0,.slice none 0 0,.slice none 0 0,.slice none 0 0,.int .i64 0,.int .i64 0,.int .i64 0,.slice none 0 0,.slice none 0 0,.slice none 0 0,.int .i64 0,.slice none 0 0,.int .i64 0,.int .i64 0,.slice none 0 0,.int .i64 0,.int .i64 0,.slice none 0 0,.slice none 0 0,.slice none 0 0,.int .i64 0,.slice none 0 0] 117)
   refine hK.out _ _ ?_ fun zD2=>?_;exact tb;clear hK K;try simp only[zn,Act.put]
   generalize q0.alloc (.cells #[.int .i64 0,.int .i64 0,.slice none 0 0,.slice none 0 0,.slice none 0 0,.slice none 0 0,.int .i64 0,.int .i64 0,.int .i64 0,.slice none 0 0,.slice none 0 0,.slice none 0 0,.int .i64 0,.slice none 0 0,.int .i64 0,.int .i64 0,.slice none 0 0,.int .i64 0,.int .i64 0,.slice none 0 0,.slice none 0 0,.slice none 0 0,.int .i64 0,.slice none 0 0] 117)=q8 at tb t6 zD2⊢
   obtain⟨p6,hp6⟩:=zD1 (q0.heap.size)
   rw[←hp6] at t6⊢
   have PL6:Hid (q.heap.size≤p6):=zD0 (by rw[hp6];exact HB.out.size)
   have HB':=zD0 tb
   have X6':=zD0 t6
   clear tb t6 hp6
   clear HB
   have HB:=HB'
   have X6:=X6'
   clear HB' X6'
   refine tkr 6 (fun K hK=>?_)
   ·go_simp
    have tb:=HB.out.alloc HB.out.size (.cells #[.slice D3 l3 f3,.slice D4 l4 f4] 61)
    have t16:=zB q8 (.cells #[.slice D3 l3 f3,.slice D4 l4 f4] 61)
    have t6:=(qZ q8 (.cells #[.slice D3 l3 f3,.slice D4 l4 f4] 61) (zA X6.out)).trans X6.out
    refine hK.out _ _ ?_ fun zD2=>?_;exact tb;clear hK K;try simp only[zn,Act.put]
    generalize q8.alloc (.cells #[.slice D3 l3 f3,.slice D4 l4 f4] 61)=q9 at tb t16 t6 zD2⊢
    obtain⟨p16,hp16⟩:=zD1 (q8.heap.size)
    rw[←hp16] at t16⊢
    have HB':=zD0 tb
    have X16:=zD0 t16
    have X6':=zD0 t6
    clear tb t16 t6 hp16
    clear HB X6
    have HB:=HB'
    have X6:=X6'
    clear HB' X6'
    refine tkr 7 (fun K hK=>?_)
    ·go_simp
     refine(zCs p16 _ _ _ _ _ _ r.path r.over q9 X16.out ((HI3.out.below qI HB.out).more qI HB.out.size) ((HI4.out.below qI HB.out).more qI HB.out.size) HLN.out.1 HLN.out.2.1 HLN.out.2.2.1 HLN.out.2.2.2).mono ?_
     rintro e q10 ⟨AL,cL,nl,rfl,hnl,hol,b⟩
     have HNL:Hid (nl=(zS r).length):=zD0 hnl
     have OL:Hid (qV q10 q.heap.size (.slice AL nl cL) (zS r)):=zD0 (hol.mono HB.out.size)
     have HB':=zD0 (HB.out.trans (b.mono HB.out.size))
     have X6':=zD0 ((b.block _ (zA X6.out)).trans X6.out)
     clear b hnl hol
     try go_wp2_with fail
     refine hK.out _ _ ?_ fun zD2=>?_;exact HB'.out;clear hK K;try simp only[zn,Act.put]
     refine tk 8 zD2 ?_
     clear HB X6
     have HB:=HB'
     have X6:=X6'
     clear HB' X6'
     refine tkr 10 (fun K hK=>?_)
     ·rw[if_pos (by rfl)]
      refine qE 117 (.tmp 6) (.tmp 18) rfl p6 rfl (c':=#[.int .i64 p.ver,.int .i64 p.par,.slice A2 n2 c2,.slice A3 n3 c3,.slice A4 n4 c4,.slice A5 n5 c5,.int .i64 r.id,.int .i64 r.entry,.int .i64 r.exit,.slice D3 l3 f3,.slice D4 l4 f4,.slice D5 l5 f5,.int .i64 r.timer,.slice AL nl cL,.int .i64 0,.int .i64 0,.slice none 0 0,.int .i64 0,.int .i64 0,.slice none 0 0,.slice none 0 0,.slice none 0 0,.int .i64 0,.slice none 0 0]) rfl X6.out zAd rfl (by simp[Value.oneCell']) ?_
      have tb:=below_setRow HB.out PL6.out #[.int .i64 p.ver,.int .i64 p.par,.slice A2 n2 c2,.slice A3 n3 c3,.slice A4 n4 c4,.slice A5 n5 c5,.int .i64 r.id,.int .i64 r.entry,.int .i64 r.exit,.slice D3 l3 f3,.slice D4 l4 f4,.slice D5 l5 f5,.int .i64 r.timer,.slice AL nl cL,.int .i64 0,.int .i64 0,.slice none 0 0,.int .i64 0,.int .i64 0,.slice none 0 0,.slice none 0 0,.slice none 0 0,.int .i64 0,.slice none 0 0]
      have tg:=qB q10 p6 #[.int .i64 p.ver,.int .i64 p.par,.slice A2 n2 c2,.slice A3 n3 c3,.slice A4 n4 c4,.slice A5 n5 c5,.int .i64 r.id,.int .i64 r.entry,.int .i64 r.exit,.slice D3 l3 f3,.slice D4 l4 f4,.slice D5 l5 f5,.int .i64 r.timer,.slice AL nl cL,.int .i64 0,.int .i64 0,.slice none 0 0,.int .i64 0,.int .i64 0,.slice none 0 0,.slice none 0 0,.slice none 0 0,.int .i64 0,.slice none 0 0]
      have t6:=setRow_heap _ _ _ #[.int .i64 p.ver,.int .i64 p.par,.slice A2 n2 c2,.slice A3 n3 c3,.slice A4 n4 c4,.slice A5 n5 c5,.int .i64 r.id,.int .i64 r.entry,.int .i64 r.exit,.slice D3 l3 f3,.slice D4 l4 f4,.slice D5 l5 f5,.int .i64 r.timer,.slice AL nl cL,.int .i64 0,.int .i64 0,.slice none 0 0,.int .i64 0,.int .i64 0,.slice none 0 0,.slice none 0 0,.slice none 0 0,.int .i64 0,.slice none 0 0] _ _ X6.out
      have tl:qV (q10.setRow p6 #[.int .i64 p.ver,.int .i64 p.par,.slice A2 n2 c2,.slice A3 n3 c3,.slice A4 n4 c4,.slice A5 n5 c5,.int .i64 r.id,.int .i64 r.entry,.int .i64 r.exit,.slice D3 l3 f3,.slice D4 l4 f4,.slice D5 l5 f5,.int .i64 r.timer,.slice AL nl cL,.int .i64 0,.int .i64 0,.slice none 0 0,.int .i64 0,.int .i64 0,.slice none 0 0,.slice none 0 0,.slice none 0 0,.int .i64 0,.slice none 0 0]) q.heap.size (.slice AL nl cL) (zS r):=xK jW OL.out tg (by decide) ⟨_,X6.out⟩
      refine hK.out _ _ ?_ fun zD2=>?_;exact tb;clear hK K;try simp only[zn,Act.put]
      generalize q10.setRow p6 #[.int .i64 p.ver,.int .i64 p.par,.slice A2 n2 c2,.slice A3 n3 c3,.slice A4 n4 c4,.slice A5 n5 c5,.int .i64 r.id,.int .i64 r.entry,.int .i64 r.exit,.slice D3 l3 f3,.slice D4 l4 f4,.slice D5 l5 f5,.int .i64 r.timer,.slice AL nl cL,.int .i64 0,.int .i64 0,.slice none 0 0,.int .i64 0,.int .i64 0,.slice none 0 0,.slice none 0 0,.slice none 0 0,.int .i64 0,.slice none 0 0]=q11 at tb t6 tl zD2⊢
      clear tg
      have FOL:Hid (FolB q q11 q.heap.size p6 (fun k=>(#[.int .i64 p.ver,.int .i64 p.par,.slice A2 n2 c2,.slice A3 n3 c3,.slice A4 n4 c4,.slice A5 n5 c5,.int .i64 r.id,.int .i64 r.entry,.int .i64 r.exit,.slice D3 l3 f3,.slice D4 l4 f4,.slice D5 l5 f5,.int .i64 r.timer,.slice AL nl cL]:Array Value).getD k undef) p r):=zD0 ⟨⟨t6,PL6.out,HI2.out.below zN tb,HI6.out.below zP tb,rfl,rfl,HI3.out.below qI tb,HI4.out.below qI tb,tl,in_nil,⟨zJ.nil_,zJ.nil_,zJ.nil_⟩,zJ.nil_⟩,
       (fun k hk=>match k,hk with|0,_=>rfl|1,_=>rfl|2,_=>rfl|3,_=>rfl|4,_=>rfl|5,_=>rfl|6,_=>rfl|7,_=>rfl|8,_=>rfl|9,_=>rfl|10,_=>rfl|11,_=>rfl|12,_=>rfl|13,_=>rfl),tb⟩
      clear tb t6 tl
      refine wpAnyH_done (by kernel_rfl) ?_ _
      go_wp2_with fail
      go_meet
      exact⟨p6,_,rfl,FOL.out⟩
 case rest=>
  obtain⟨g,F,rfl,hf⟩:=hcut
  obtain⟨wX,hwX⟩:=zD1 (wc)
  subst hwX
  have WX:=zD0 hf.1
  have ONE:=zD0 hf.2.1
  have BX:=zD0 hf.2.2
  clear hf
  go_wp2_with fail
  refine(pstart_any wX WX.out HR.out).mono ?_
  rintro e w1 ⟨rfl,⟨u,u0,u1,t',hc,hu⟩,b1⟩
  have HC0:=zD0 hc
  have W1:=zD0 hu
  have B1:Hid (Below q.heap.size q w1):=zD0 (BX.out.trans b1)
  clear hc hu b1
  obtain⟨A13,c13,e13⟩:=W1.out.all.slice
  obtain⟨n13,hn13⟩:=zD1 ((zS r).length)
  have HN13:=zD0 hn13
  have hn8:n13≤8:=by have:=HR.out.len;omega
  have k13:w1.cell? ⟨g,13,none⟩=some (.slice A13 n13 c13):=W1.out.cell 13 (congrArg some (show F 13 = .slice A13 n13 c13 by rw[e13,hn13]))
  clear e13 hn13
  go_wp2_with fail
  go_loopw [23] (fun s23 wr=>∃(i:Nat) (s:Sec) (h2:Value) (t:Jn) (y0 y1 y2:Value) (x:Wy) (o:Value) (l:List Jn),i≤n13∧s23 = .int .i64 i∧WkS wr q.heap.size g F p r s h2 t y0 y1 y2 x o l∧SoFar p r i x l∧(i<n13→jP p r i=some t)∧Below q.heap.size q wr) (fun s23 _=>n13-(intOf s23).toNat)
  case atStart=>exact⟨0,_,_,_,_,_,_,_,_,_,by omega,by go_num,W1.out,⟨fun i hi=>absurd hi (by omega),rfl,rfl,rfl,rfl,rfl⟩,fun _=>HC0.out,B1.out⟩
  case round=>
   obtain⟨i,s,h2,t,y0,y1,y2,x,o,l,hi,rfl,hw,hsf,hcm,hb⟩:=hrel
   have WR:=zD0 hw
   have SF:=zD0 hsf
   have HCM:=zD0 hcm
   have BR:=zD0 hb
   clear hw hsf hcm hb k13
   by_cases hlt:i<n13
   ·have hlt':(i:Int)<n13:=by omega
    have HIA:Hid (i<(zS r).length):=zD0 (by rw[←HN13.out];exact hlt)
    have HCI:=zD0 (HCM.out hlt)
    go_wp2_with fail
    refine(penter_any wr WR.out i HIA.out HR.out).mono ?_
    rintro e w2 ⟨rfl,⟨u2_,hu⟩,b2⟩
    have W2:=zD0 hu
    have B2:Hid (Below q.heap.size q w2):=zD0 (BR.out.trans b2)
    clear hu b2
    by_cases ht:t.1=(zS r).getD i 0
    ·have HD:Hid (zBm t.1 ((zS r).getD i 0)=true):=zD0 (decide_eq_true ht)
     have HH:Hid (HereIn p r i t):=zD0 ⟨HCI.out,ht⟩
     rw[HD.out]
     clear ht
     go_wp2_with fail
     refine(ppass_any w2 i W2.out HIA.out HH.out SF.out HR.out).mono ?_
     rintro e w3 ⟨hq,b3⟩
     have B3:Hid (Below q.heap.size q w3):=zD0 (B2.out.trans b3)
     clear b3
     rcases hq with⟨rfl,t3,y3,x3,o3,m3,hw3,hs3,hc3⟩|⟨rfl,hno⟩
     ·have W3:=zD0 hw3
      have S3:=zD0 hs3
      have C3:Hid (i+1<n13→jP p r (i+1)=some t3):=zD0 (by rw[HN13.out];exact hc3)
      clear hw3 hs3 hc3
      go_wp2_with fail
      go_roundw
      case measure=>simp[intOf];omega
      case rel=>exact⟨i+1,_,_,_,_,_,_,_,_,_,by omega,by go_num,W3.out,S3.out,C3.out,B3.out⟩
     ·have NH:=zD0 hno
      clear hno
      have XE:=zD0 ((B3.out.block p4 P4.out).trans X4.out)
      go_wp2_with ((with_reducible show wpList _ _ _ (⟨none,_,_,_,_,_⟩::_) _ _);refine zK rfl _ (.tmp 4) (.tmp 34) rfl p4 rfl (c':=#[.int .i64 0,.int .i64 0,.slice none 0 0,.slice none 0 0,.slice none 0 0,.slice none 0 0,.int .i64 0,.int .i64 0,.int .i64 0,.slice none 0 0,.slice none 0 0,.slice none 0 0,.int .i64 0,.slice none 0 0,.int .i64 0,.int .i64 0,.slice none 0 0,.int .i64 0,.int .i64 0,.slice none 0 0,.slice none 0 0,.slice none 0 0,.int .i64 0,.slice none 0 0]) rfl XE.out zAd rfl (by simp[Value.oneCell']) ?_)
      refine bodyPost_ret (qA (c:=#[.int .i64 0,.int .i64 0,.slice none 0 0,.slice none 0 0,.slice none 0 0,.slice none 0 0,.int .i64 0,.int .i64 0,.int .i64 0,.slice none 0 0,.slice none 0 0,.slice none 0 0,.int .i64 0,.slice none 0 0,.int .i64 0,.int .i64 0,.slice none 0 0,.int .i64 0,.int .i64 0,.slice none 0 0,.slice none 0 0,.slice none 0 0,.int .i64 0,.slice none 0 0]) rfl _ _ p4 rfl (setRow_heap _ _ _ _ _ _ XE.out) Tryz.underlying117 zAd (.int .i64 90) rfl) rfl ?_
      exact⟨zF,0,0,_,0,0,_,_,_,zWy,_,[],90,rfl,wk_one zF_one 0 0 0 0 _ rfl rfl rfl rfl rfl,wyOwn_zero _ _,zJ.nil_,.inr ⟨NH.out,rfl,rfl,rfl⟩,below_setRow (BQ.out.trans (B3.out.mono LOW.out)) PL4.out _⟩
    ·have HD:Hid (zBm t.1 ((zS r).getD i 0)=false):=zD0 (decide_eq_false ht)
     have NH:Hid (¬kK p r):=zD0 (zDm HIA.out HCI.out (fun h=>ht h.1))
     rw[HD.out]
     clear ht
     have XE:=zD0 ((B2.out.block p4 P4.out).trans X4.out)
     go_wp2_with ((with_reducible show wpList _ _ _ (⟨none,_,_,_,_,_⟩::_) _ _);refine zK rfl _ (.tmp 4) (.tmp 34) rfl p4 rfl (c':=#[.int .i64 0,.int .i64 0,.slice none 0 0,.slice none 0 0,.slice none 0 0,.slice none 0 0,.int .i64 0,.int .i64 0,.int .i64 0,.slice none 0 0,.slice none 0 0,.slice none 0 0,.int .i64 0,.slice none 0 0,.int .i64 0,.int .i64 0,.slice none 0 0,.int .i64 0,.int .i64 0,.slice none 0 0,.slice none 0 0,.slice none 0 0,.int .i64 0,.slice none 0 0]) rfl XE.out zAd rfl (by simp[Value.oneCell']) ?_)
     refine bodyPost_ret (qA (c:=#[.int .i64 0,.int .i64 0,.slice none 0 0,.slice none 0 0,.slice none 0 0,.slice none 0 0,.int .i64 0,.int .i64 0,.int .i64 0,.slice none 0 0,.slice none 0 0,.slice none 0 0,.int .i64 0,.slice none 0 0,.int .i64 0,.int .i64 0,.slice none 0 0,.int .i64 0,.int .i64 0,.slice none 0 0,.slice none 0 0,.slice none 0 0,.int .i64 0,.slice none 0 0]) rfl _ _ p4 rfl (setRow_heap _ _ _ _ _ _ XE.out) Tryz.underlying117 zAd (.int .i64 90) rfl) rfl ?_
     exact⟨zF,0,0,_,0,0,_,_,_,zWy,_,[],90,rfl,wk_one zF_one 0 0 0 0 _ rfl rfl rfl rfl rfl,wyOwn_zero _ _,zJ.nil_,.inr ⟨NH.out,rfl,rfl,rfl⟩,below_setRow (BQ.out.trans (B2.out.mono LOW.out)) PL4.out _⟩
   ·obtain rfl:n13=i:=by omega
    have hlt':¬(n13:Int)<n13:=by omega
    have HG:Hid (kK p r):=zD0 (by have:=SF.out.hangs;rw[HN13.out] at this;exact this)
    have X3r:=zD0 ((BR.out.block _ (zA X3.out)).trans X3.out)
    obtain⟨m0,m1,m2,m3,m4,m5,m6⟩:=zL X3r.out
    obtain⟨wY,hY⟩:=zD1 (wr)
    subst hY
    go_wp2_with fail
    go_loopw [39] (fun s39 wr=>∃(j:Nat) (y2:Value) (x:Wy),j≤l5∧s39 = .int .i64 j∧WkS wr q.heap.size g F p r s h2 t y0 y1 y2 x o l∧x.path=r.path∧x.over=r.over∧x.near=(sigN p r.entry).2.1∧x.asks=jA p r n13++(r.flanks.take j).map zBu∧Below q.heap.size q wr) (fun s39 _=>l5-(intOf s39).toNat)
    case atStart=>exact⟨0,_,_,by omega,by go_num,WR.out,SF.out.path,SF.out.over,SF.out.near,by rw[SF.out.asks];simp,BR.out⟩
    case round=>
     have OUTS:=zD0 SF.out.outs
     clear WR SF HCM BR X3r m0 m1 m2 m3 m4 m5 m6
     obtain⟨j,y2,x,hj,rfl,hw,hxp,hxo,hxn,hxa,hb⟩:=hrel
     have WR:=zD0 hw
     have XP:=zD0 hxp
     have XO:=zD0 hxo
     have XN:=zD0 hxn
     have XA:=zD0 hxa
     have BR:=zD0 hb
     clear hw hxp hxo hxn hxa hb
     by_cases hlt2:j<l5
     ·have hlt2':(j:Int)<l5:=by omega
      have hjf:j<r.flanks.length:=by have:=HL5.out.1;omega
      obtain⟨bf,off,e5,hbf,hh0,hh1⟩:=((HI5.out.below zM BR.out)).at hjf
      cases e5
      obtain⟨a1,a2,hfl⟩:∃a b,r.flanks[j]=(a,b):=⟨_,_,rfl⟩
      rw[hfl] at hh0 hh1
      have YES:Hid ((r.flanks.take (j+1)).map zBu=(r.flanks.take j).map zBu++[(a1,a2,(-1:Int))]):=zD0 (by rw[List.take_succ_eq_append_getElem hjf,List.map_append,hfl];rfl)
      have he0:wr.cell? ⟨bf,off+j*2,none⟩=some (.int .i64 a1):=hh0
      have he1:wr.cell? ⟨bf,off+j*2+1,none⟩=some (.int .i64 a2):=hh1
      have XX0:=zB wr (.cells #[.int .i64 0,.int .i64 0] 140)
      have hz0:=below_setRow (zD wr (.cells #[.int .i64 0,.int .i64 0] 140)) (Nat.le_refl _) #[.int .i64 a1,.int .i64 a2]
      have hz1:=setRow_heap (wr.alloc (.cells #[.int .i64 0,.int .i64 0] 140)) wr.heap.size _ #[.int .i64 a1,.int .i64 a2] 140 _ XX0
      clear hh0 hh1 hbf hfl
      go_upto_region 12 with((with_reducible show wpList _ _ _ (⟨none,_,_,_,_,_⟩::_) _ _);refine zK rfl _ (.tmp 9) (.tmp 42) rfl wr.heap.size rfl (c':=#[.int .i64 a1,.int .i64 a2]) rfl XX0 infoFlank2 rfl (by simp[Value.oneCell']) ?_)
      generalize (wr.alloc (.cells #[.int .i64 0,.int .i64 0] 140)).setRow wr.heap.size #[.int .i64 a1,.int .i64 a2]=wq at hz0 hz1⊢
      obtain⟨p9,hp9⟩:=zD1 (wr.heap.size)
      rw[←hp9] at hz1⊢
      have X9:=zD0 hz1
      have WQ:=zD0 (WR.out.below hz0)
      have BQ9:Hid (Below q.heap.size q wq):=zD0 (BR.out.trans (hz0.mono WR.out.size))
      clear hz0 hz1 XX0 hp9 he0 he1
      obtain⟨A,c,eA⟩:=WQ.out.way.asks.slice
      obtain⟨n,hn⟩:=zD1 (x.asks.length)
      have HLL:=zD0 hn
      have LLE:Hid (n≤50):=zD0 (by
       rw[hn,XA.out,List.length_append,List.length_map,List.length_take]
       have h1:(jA p r n13).length≤n13:=Nat.le_trans (List.length_filterMap_le _ _) (by simp)
       omega)
      have HY:Hid (y2 = .slice A n c):=zD0 (by rw[eA,hn])
      have SZ:Hid (g+1≤wq.heap.size):=zD0 WQ.out.lt
      obtain⟨yss,hown,hyl,hm,hys,hyr⟩:=WQ.out.way.asks
      rw[←HLL.out,HY.out] at hown
      have O:=zD0 hown
      have YL:=zD0 hyl
      have YS:=zD0 hys
      have YR:=zD0 hyr
      have k21:wq.cell? ⟨g,21,none⟩=some (.slice A n c):=WQ.out.cell 21 (congrArg some HY.out)
      obtain⟨i0,hii,hz0,hzz,hz2⟩:=info_parts zBj
      have I0:=zD0 hii
      have I1:=zD0 hz0
      have I2:=zD0 hzz
      have I3:=zD0 hz2
      clear hii hz0 hzz hz2 hown hyl hm hys hyr hn eA
      obtain⟨m0,m1⟩:=zI X9.out
      go_wp2_with ((with_reducible show wpList _ _ _ (⟨some 52,_,_,_,_,_⟩::_) _ _);refine zQ rfl (.tmp 45) (.tmp 51) _ rfl Tryz.underlying94 I0.out I1.out rfl I2.out (by decide) I3.out (by decide) rfl (O.out.alloc _) (m:=1) rfl (news:=[.int .i64 a1,.int .i64 a2,.int .i64 (-1)]) rfl (fun h=>by cases h) (fun a ha j u hj=>by cases ha;rw[Addr.add_lit,Nat.zero_add,World.cell?_alloc_new];simpa using hj) (by simp[Value.oneCell']) (by have:=LLE.out;omega) (by have:=SZ.out;simp;omega) ?_;intro v5 w5 hown5 hgrow5;have S5:Hid (jV w5 (g+1) v5 (x.asks++[(a1,a2,(-1:Int))])):=zD0 (zJ.snoc (w1:=wq) (x:=(a1,a2,(-1:Int))) (ys:=[.int .i64 a1,.int .i64 a2,.int .i64 (-1)]) zP (fun _ h _ _=>h) (by rw[←HLL.out];exact O.out) YL.out YS.out rfl (by have:=LLE.out;have:=HLL.out;unfold maxLen;omega) YR.out (Below.refl _ _) ⟨rfl,rfl,rfl⟩ (by rw[←HLL.out];exact hown5) hgrow5);have B5:Hid (Below (g+1) wq w5):=zD0 (((Below.refl (g+1) wq).alloc SZ.out _).grown hgrow5 (by have:=SZ.out;simp;omega) (jE O.out));have SE:Hid (WkS (w5.setCell ⟨g,21,none⟩ v5) q.heap.size g F p r s h2 t y0 y1 v5 ⟨x.path,x.over,x.asks++[(a1,a2,(-1:Int))],x.near⟩ o l∧Below q.heap.size wq (w5.setCell ⟨g,21,none⟩ v5)):=zD0 (by have q0:=zD wq (.cells #[.int .i64 a1,.int .i64 a2,.int .i64 (-1)] 108);have h0:=WQ.out.below q0;obtain⟨k1,k2⟩:=h0.addAsk ⟨x.path,x.over,x.asks++[(a1,a2,(-1:Int))],x.near⟩ v5 ⟨rfl,rfl,rfl⟩ (by rw[HY.out];exact hgrow5) S5.out;exact⟨k1,(q0.mono WQ.out.size).trans k2⟩);have kw:w5.cell? ⟨g,21,none⟩=some (.slice A n c):=(B5.out.cell (p:=⟨g,21,none⟩) (Nat.lt_succ_self g)).trans k21;have fw:w5.frozen? ⟨g,21,none⟩=false:=(B5.out.frozen (p:=⟨g,21,none⟩) (Nat.lt_succ_self g)).trans (WQ.out.frozen 21);obtain⟨A5,c5_,rfl⟩:=xN hown5;clear hown5 hgrow5 k21)
      go_roundw
      case measure=>simp[intOf];omega
      case rel=>exact⟨j+1,_,_,by omega,by go_num,SE.out.1,XP.out,XO.out,XN.out,by rw[YES.out,←List.append_assoc,←XA.out],BQ9.out.trans SE.out.2⟩
     ·obtain rfl:l5=j:=by omega
      have hlt2':¬(l5:Int)<l5:=by omega
      have XE:=zD0 ((BR.out.block p4 P4.out).trans X4.out)
      have HX:Hid (x=kH p r):=zD0 (wy_eq.2 ⟨XN.out,XP.out,XO.out,by rw[XA.out,HN13.out,HL5.out.1,List.take_length];rfl⟩)
      have HW1:Hid ((wkRow F s.1 s.2.1 h2 t.1 t.2 y0 y1 y2 x.near o).all (·.oneCell')=true):=zD0 (wk_one ONE.out _ _ _ _ _ (listIn_one WR.out.ends) (list_one WR.out.way.path) (list_one WR.out.way.over) (list_one WR.out.way.asks) (list_one WR.out.outs))
      obtain⟨row,hrow⟩:=zD1 (wkRow F s.1 s.2.1 h2 t.1 t.2 y0 y1 y2 x.near o)
      have HROW:=zD0 hrow
      have XG:Hid (wr.heap[g]? = some (.cells row 117 (0,0))):=zD0 (by rw[hrow];exact WR.out.row)
      have HSIZE:Hid (row.size=24):=zD0 (by rw[hrow];rfl)
      have HR1:Hid (row.all (·.oneCell')=true):=zD0 (by rw[hrow];exact HW1.out)
      have INF:Hid ((Tryz.prog.info? 117).map (·.size)=some row.size):=zD0 (by rw[HSIZE.out];exact zAd)
      clear hrow
      go_wp2_with (first|((with_reducible show wpList _ _ _ (⟨some 56,_,_,_,_,_⟩::_) _ _);refine wpList_load_row rfl _ (.tmp 6) rfl g rfl _ row _ _ XG.out Tryz.underlying117 rfl INF.out ?_)|((with_reducible show wpList _ _ _ (⟨none,_,_,_,_,_⟩::_) _ _);refine zK rfl _ (.tmp 4) (.tmp 56) rfl p4 rfl (c':=row) rfl XE.out INF.out (by rw[HSIZE.out];rfl) HR1.out ?_))
      refine bodyPost_ret (qA (c:=row) rfl _ _ p4 rfl (setRow_heap _ _ _ _ _ _ XE.out) Tryz.underlying117 INF.out (.int .i64 0) rfl) rfl ?_
      have hkp:=qB wr p4 row
      have hoo:kC (wr.setRow p4 row) (g+1) o l:=qK zAn WR.out.outs hkp (fun k hk=>by have:=jS WR.out.outs k hk;have:=P4.out;have:=WR.out.low;omega)
      refine⟨F,_,_,_,_,_,_,_,_,x,_,l,0,by rw[HROW.out],HW1.out,(WR.out.way.kept hkp (by have:=P4.out;have:=WR.out.low;omega)).mono (show w.heap.size≤g+1 by have:=LOW.out;have:=WR.out.low;omega),hoo.mono (show w.heap.size≤g+1 by have:=LOW.out;have:=WR.out.low;omega),.inl ⟨HG.out,rfl,HX.out,by rw[OUTS.out,HN13.out]⟩,below_setRow (BQ.out.trans (BR.out.mono LOW.out)) PL4.out _⟩
end Go.Proofs.YtemmgmjhomgbbaaGreat
