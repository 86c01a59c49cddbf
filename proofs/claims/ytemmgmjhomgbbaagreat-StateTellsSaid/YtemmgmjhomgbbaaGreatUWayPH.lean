/-
 The program's package way: out, enter, start.
 Conditions: none.
-/
import Derived.Test.YtemmgmjhomgbbaaGreatUWayPF
import Derived.Test.YtemmgmjhomgbbaaGreatUPlnP3
set_option linter.unusedVariables false
set_option linter.unusedSimpArgs false
set_option maxRecDepth 100000
namespace Go.Proofs.YtemmgmjhomgbbaaGreat
open Go.RowKit
set_option maxHeartbeats 16000000 in
theorem pout_exit {lo g:Nat} {F:Nat→Value} {p:Pl} {r:Rt} {s:Sec} {h2:Value} {t:Jn} {y0 y1 y2:Value} {x:Wy} {o:Value} {l:List Jn} (w:World) (h:WkS w lo g F p r s h2 t y0 y1 y2 x o l) (a:Nat) (hne:a+1=r.path.length) (hx0:¬r.exit=0) (hr:qW p r) (k:Nat) (hk:k<p.sigs.length) (hat:at1 kSg p.sigs r.exit=(k:Int)):
  Calls Tryz.prog 117 #[.pointer (some ⟨g,0,none⟩),.int .i64 a] w fun e w'=>∃p6 p7,e = .returned (.func (.func 134) #[] #[.pointer (some ⟨p6,0,none⟩),.pointer (some ⟨p7,0,none⟩)]) ∧
   w'.heap[p6]? = some (.cells #[.int .i64 p.sigs[k].1,.int .i64 p.sigs[k].2.1,.int .i64 p.sigs[k].2.2] 115 (0,0))∧w'.heap[p7]? = some (.cells #[.int .i64 s.1] 3 (0,0))∧Below w.heap.size w w':=by
 have WK0:=zD0 h
 obtain⟨sid,spt,es⟩:=s
 have WK:Hid (WkS w lo g F p r (sid,spt,es) h2 t y0 y1 y2 x o l):=WK0
 dsimp only
 obtain⟨A9,c9,e9,hcl9,hcm9⟩:=h.path.slice
 obtain⟨n9,hn9⟩:=zD1 ((r.path).length)
 have HN9:=zD0 hn9
 have hm9:n9≤9223372036854775807:=by rw[hn9];unfold maxLen at hcm9;omega
 have HF9:Hid (F 9 = .slice A9 n9 c9):=zD0 (by rw[e9,hn9])
 have hl9:n9≤6:=by have:=hr.route.path;omega
 have k9:w.cell? ⟨g,9,none⟩=some (.slice A9 n9 c9):=WK.out.cell 9 (congrArg some HF9.out)
 have k8:w.cell? ⟨g,8,none⟩=some (.int .i64 r.exit):=WK.out.cell 8 (congrArg some h.exit)
 have K8:=zD0 k8
 have K14:Hid (w.cell? ⟨g,14,none⟩=some (.int .i64 sid)):=zD0 (WK.out.cell 14 rfl)
 have SZ:=zD0 WK.out.lt
 obtain⟨gid,sc,en,hsk⟩:∃a b c,p.sigs[k]=(a,b,c):=⟨_,_,_,rfl⟩
 have HSK:Hid (p.sigs[k]=(gid,sc,en)):=zD0 hsk
 rw[hsk]
 have HAT:=zD0 hat
 have HK:=zD0 hk
 have d1:((a:Int) != (n9:Int)-1)=false:=by simp;omega
 have d2:(r.exit==0)=false:=by simpa using hx0
 have hw2:IntKind.i64.wrap ((n9:Int)-1)=(n9:Int)-1:=kA (by omega) (by omega)
 clear h WK0 hr hne e9 hcl9 hcm9 hn9 hx0 hsk hat
 go_enter Tryz.func117,Tryz.ntmps117
 go_upto_region 6 with fail
 refine wp_region_held_drew (S:=fun v=>Below w.heap.size w v) (by kernel_rfl) (Below.refl w.heap.size w).drew (fun zD2=>?_)
 refine tk 0 zD2 ?_;refine tk 1 zD2 ?_;refine tk 2 zD2 ?_;refine tk 3 zD2 ?_;refine tk 4 zD2 ?_;refine tkc 5 zD2 (fun w' hSw=>(hSw.cell (p:=⟨g,8,none⟩) SZ.out).trans K8.out) ?_;refine tk 7 zD2 ?_;refine tk 8 zD2 ?_;refine tk 9 zD2 ?_;refine tk 10 zD2 ?_;refine tkc 11 zD2 (fun w' hSw=>(hSw.cell (p:=⟨g,14,none⟩) SZ.out).trans K14.out) ?_
 have tb:=(Below.refl w.heap.size w).drew
 generalize w.drew=q0 at tb zD2⊢
 have HB:=zD0 tb
 clear tb
 refine wpAnyH_ready (rs:=[6,12,13]) (by kernel_rfl) (by simp) ?_
 refine AllReadyH.cons rfl (fun K hK=>?_) (AllReadyH.cons rfl (fun K hK=>?_) (AllReadyH.cons rfl (fun K hK=>?_) AllReadyH.nil))
 ·go_simp
  refine(zAa q0 (WK.out.below HB.out) r.exit k HK.out HAT.out).mono ?_
  rintro e q1 ⟨rfl,b⟩
  rw[HSK.out]
  have HB':=zD0 (HB.out.trans (b.mono HB.out.size))
  clear b
  try go_wp2_with fail
  refine hK.out _ _ ?_ fun zD2=>?_;exact HB'.out;clear hK K;try simp only[zn,Act.put]
  clear HB
  have HB:=HB'
  clear HB'
  refine wpAnyH_ready (rs:=[12,13]) (by kernel_rfl) (by simp) ?_
  refine AllReadyH.cons rfl (fun K hK=>?_) (AllReadyH.cons rfl (fun K hK=>?_) AllReadyH.nil)
  ·go_simp
   have tb:=HB.out.alloc HB.out.size (.cells #[.int .i64 0,.int .i64 0,.int .i64 0] 115)
   have t6:=zB q1 (.cells #[.int .i64 0,.int .i64 0,.int .i64 0] 115)
   refine hK.out _ _ ?_ fun zD2=>?_;exact tb;clear hK K;try simp only[zn,Act.put]
   generalize q1.alloc (.cells #[.int .i64 0,.int .i64 0,.int .i64 0] 115)=q2 at tb t6 zD2⊢
   obtain⟨p6,hp6⟩:=zD1 (q1.heap.size)
   rw[←hp6] at t6⊢
   have PL6:Hid (w.heap.size≤p6):=zD0 (by rw[hp6];exact HB.out.size)
   have HB':=zD0 tb
   have X6':=zD0 t6
   clear tb t6 hp6
   clear HB
   have HB:=HB'
   have X6:=X6'
   clear HB' X6'
   refine tkr 13 (fun K hK=>?_)
   ·go_simp
    have tb:=HB.out.alloc HB.out.size (.cells #[.int .i64 0] 3)
    have t7:=zB q2 (.cells #[.int .i64 0] 3)
    have t6:=(qZ q2 (.cells #[.int .i64 0] 3) (zA X6.out)).trans X6.out
    refine hK.out _ _ ?_ fun zD2=>?_;exact tb;clear hK K;try simp only[zn,Act.put]
    generalize q2.alloc (.cells #[.int .i64 0] 3)=q3 at tb t7 t6 zD2⊢
    obtain⟨p7,hp7⟩:=zD1 (q2.heap.size)
    rw[←hp7] at t7⊢
    have PL7:Hid (w.heap.size≤p7):=zD0 (by rw[hp7];exact HB.out.size)
    have HB':=zD0 tb
    have X7':=zD0 t7
    have X6':=zD0 t6
    clear tb t7 t6 hp7
    clear HB X6
    have HB:=HB'
    have X6:=X6'
    have X7:=X7'
    clear HB' X6' X7'
    refine tkr 14 (fun K hK=>?_)
    ·rw[if_pos (by rfl)]
     refine qE 115 (.tmp 6) (.tmp 38) rfl p6 rfl (c':=#[.int .i64 gid,.int .i64 sc,.int .i64 en]) rfl X6.out zBc rfl (by simp[Value.oneCell']) ?_
     have tb:=below_setRow HB.out PL6.out #[.int .i64 gid,.int .i64 sc,.int .i64 en]
     have t6:=setRow_heap _ _ _ #[.int .i64 gid,.int .i64 sc,.int .i64 en] _ _ X6.out
     have t7:=(setRow_other q3 p6 p7 #[.int .i64 gid,.int .i64 sc,.int .i64 en] (fun e=>by have h:=X6.out;rw[←e,X7.out] at h;cases h)).trans X7.out
     refine hK.out _ _ ?_ fun zD2=>?_;exact tb;clear hK K;try simp only[zn,Act.put]
     generalize q3.setRow p6 #[.int .i64 gid,.int .i64 sc,.int .i64 en]=q4 at tb t6 t7 zD2⊢
     have HB':=zD0 tb
     have X6':=zD0 t6
     have X7':=zD0 t7
     clear tb t6 t7
     clear HB X6 X7
     have HB:=HB'
     have X6:=X6'
     have X7:=X7'
     clear HB' X6' X7'
     refine tkr 15 (fun K hK=>?_)
     ·have c7:q4.cell? ⟨p7,0,none⟩=some (.int .i64 0):=cell_of_row _ _ _ _ _ _ X7.out
      have f7:=zY X7.out 0
      rw[if_pos (by rfl)]
      go_simp
      have tb:=qH HB.out PL7.out 0 (.int .i64 sid)
      have t7:(q4.setCell ⟨p7,0,none⟩ (.int .i64 sid)).heap[p7]? = some (.cells #[.int .i64 sid] 3 (0,0)):=qG (k:=0) X7.out _
      have t6:=(xE q4 p7 0 p6 (.int .i64 sid) (fun e=>by have h:=X6.out;rw[e,X7.out] at h;cases h)).trans X6.out
      refine hK.out _ _ ?_ fun zD2=>?_;exact tb;clear hK K;try simp only[zn,Act.put]
      generalize q4.setCell ⟨p7,0,none⟩ (.int .i64 sid)=q5 at tb t7 t6 zD2⊢
      have HB':=zD0 tb
      have X7':=zD0 t7
      have X6':=zD0 t6
      clear tb t7 c7 f7 t6
      clear HB X6 X7
      have HB:=HB'
      have X6:=X6'
      have X7:=X7'
      clear HB' X6' X7'
      refine wpAnyH_done (by kernel_rfl) ?_ _
      go_wp2_with fail
      go_ret
      exact⟨p6,p7,rfl,X6.out,X7.out,HB.out⟩
  ·go_simp
   have tb:=HB.out.alloc HB.out.size (.cells #[.int .i64 0] 3)
   have t7:=zB q1 (.cells #[.int .i64 0] 3)
   refine hK.out _ _ ?_ fun zD2=>?_;exact tb;clear hK K;try simp only[zn,Act.put]
   generalize q1.alloc (.cells #[.int .i64 0] 3)=q6 at tb t7 zD2⊢
   obtain⟨p7,hp7⟩:=zD1 (q1.heap.size)
   rw[←hp7] at t7⊢
   have PL7:Hid (w.heap.size≤p7):=zD0 (by rw[hp7];exact HB.out.size)
   have HB':=zD0 tb
   have X7':=zD0 t7
   clear tb t7 hp7
   clear HB
   have HB:=HB'
   have X7:=X7'
   clear HB' X7'
   refine tkr 12 (fun K hK=>?_)
   ·go_simp
    have tb:=HB.out.alloc HB.out.size (.cells #[.int .i64 0,.int .i64 0,.int .i64 0] 115)
    have t6:=zB q6 (.cells #[.int .i64 0,.int .i64 0,.int .i64 0] 115)
    have t7:=(qZ q6 (.cells #[.int .i64 0,.int .i64 0,.int .i64 0] 115) (zA X7.out)).trans X7.out
    refine hK.out _ _ ?_ fun zD2=>?_;exact tb;clear hK K;try simp only[zn,Act.put]
    generalize q6.alloc (.cells #[.int .i64 0,.int .i64 0,.int .i64 0] 115)=q7 at tb t6 t7 zD2⊢
    obtain⟨p6,hp6⟩:=zD1 (q6.heap.size)
    rw[←hp6] at t6⊢
    have PL6:Hid (w.heap.size≤p6):=zD0 (by rw[hp6];exact HB.out.size)
    have HB':=zD0 tb
    have X6':=zD0 t6
    have X7':=zD0 t7
    clear tb t6 t7 hp6
    clear HB X7
    have HB:=HB'
    have X6:=X6'
    have X7:=X7'
    clear HB' X6' X7'
    refine tkr 14 (fun K hK=>?_)
    ·rw[if_pos (by rfl)]
     refine qE 115 (.tmp 6) (.tmp 38) rfl p6 rfl (c':=#[.int .i64 gid,.int .i64 sc,.int .i64 en]) rfl X6.out zBc rfl (by simp[Value.oneCell']) ?_
     have tb:=below_setRow HB.out PL6.out #[.int .i64 gid,.int .i64 sc,.int .i64 en]
     have t6:=setRow_heap _ _ _ #[.int .i64 gid,.int .i64 sc,.int .i64 en] _ _ X6.out
     have t7:=(setRow_other q7 p6 p7 #[.int .i64 gid,.int .i64 sc,.int .i64 en] (fun e=>by have h:=X6.out;rw[←e,X7.out] at h;cases h)).trans X7.out
     refine hK.out _ _ ?_ fun zD2=>?_;exact tb;clear hK K;try simp only[zn,Act.put]
     generalize q7.setRow p6 #[.int .i64 gid,.int .i64 sc,.int .i64 en]=q8 at tb t6 t7 zD2⊢
     have HB':=zD0 tb
     have X6':=zD0 t6
     have X7':=zD0 t7
     clear tb t6 t7
     clear HB X6 X7
     have HB:=HB'
     have X6:=X6'
     have X7:=X7'
     clear HB' X6' X7'
     refine tkr 15 (fun K hK=>?_)
     ·have c7:q8.cell? ⟨p7,0,none⟩=some (.int .i64 0):=cell_of_row _ _ _ _ _ _ X7.out
      have f7:=zY X7.out 0
      rw[if_pos (by rfl)]
      go_simp
      have tb:=qH HB.out PL7.out 0 (.int .i64 sid)
      have t7:(q8.setCell ⟨p7,0,none⟩ (.int .i64 sid)).heap[p7]? = some (.cells #[.int .i64 sid] 3 (0,0)):=qG (k:=0) X7.out _
      have t6:=(xE q8 p7 0 p6 (.int .i64 sid) (fun e=>by have h:=X6.out;rw[e,X7.out] at h;cases h)).trans X6.out
      refine hK.out _ _ ?_ fun zD2=>?_;exact tb;clear hK K;try simp only[zn,Act.put]
      generalize q8.setCell ⟨p7,0,none⟩ (.int .i64 sid)=q9 at tb t7 t6 zD2⊢
      have HB':=zD0 tb
      have X7':=zD0 t7
      have X6':=zD0 t6
      clear tb t7 c7 f7 t6
      clear HB X6 X7
      have HB:=HB'
      have X6:=X6'
      have X7:=X7'
      clear HB' X6' X7'
      refine wpAnyH_done (by kernel_rfl) ?_ _
      go_wp2_with fail
      go_ret
      exact⟨p6,p7,rfl,X6.out,X7.out,HB.out⟩
 ·go_simp
  have tb:=HB.out.alloc HB.out.size (.cells #[.int .i64 0,.int .i64 0,.int .i64 0] 115)
  have t6:=zB q0 (.cells #[.int .i64 0,.int .i64 0,.int .i64 0] 115)
  refine hK.out _ _ ?_ fun zD2=>?_;exact tb;clear hK K;try simp only[zn,Act.put]
  generalize q0.alloc (.cells #[.int .i64 0,.int .i64 0,.int .i64 0] 115)=q10 at tb t6 zD2⊢
  obtain⟨p6,hp6⟩:=zD1 (q0.heap.size)
  rw[←hp6] at t6⊢
  have PL6:Hid (w.heap.size≤p6):=zD0 (by rw[hp6];exact HB.out.size)
  have HB':=zD0 tb
  have X6':=zD0 t6
  clear tb t6 hp6
  clear HB
  have HB:=HB'
  have X6:=X6'
  clear HB' X6'
  refine wpAnyH_ready (rs:=[6,13]) (by kernel_rfl) (by simp) ?_
  refine AllReadyH.cons rfl (fun K hK=>?_) (AllReadyH.cons rfl (fun K hK=>?_) AllReadyH.nil)
  ·go_simp
   refine(zAa q10 (WK.out.below HB.out) r.exit k HK.out HAT.out).mono ?_
   rintro e q11 ⟨rfl,b⟩
   rw[HSK.out]
   have HB':=zD0 (HB.out.trans (b.mono HB.out.size))
   have X6':=zD0 ((b.block _ (zA X6.out)).trans X6.out)
   clear b
   try go_wp2_with fail
   refine hK.out _ _ ?_ fun zD2=>?_;exact HB'.out;clear hK K;try simp only[zn,Act.put]
   clear HB X6
   have HB:=HB'
   have X6:=X6'
   clear HB' X6'
   refine tkr 13 (fun K hK=>?_)
   ·go_simp
    have tb:=HB.out.alloc HB.out.size (.cells #[.int .i64 0] 3)
    have t7:=zB q11 (.cells #[.int .i64 0] 3)
    have t6:=(qZ q11 (.cells #[.int .i64 0] 3) (zA X6.out)).trans X6.out
    refine hK.out _ _ ?_ fun zD2=>?_;exact tb;clear hK K;try simp only[zn,Act.put]
    generalize q11.alloc (.cells #[.int .i64 0] 3)=q12 at tb t7 t6 zD2⊢
    obtain⟨p7,hp7⟩:=zD1 (q11.heap.size)
    rw[←hp7] at t7⊢
    have PL7:Hid (w.heap.size≤p7):=zD0 (by rw[hp7];exact HB.out.size)
    have HB':=zD0 tb
    have X7':=zD0 t7
    have X6':=zD0 t6
    clear tb t7 t6 hp7
    clear HB X6
    have HB:=HB'
    have X6:=X6'
    have X7:=X7'
    clear HB' X6' X7'
    refine tkr 14 (fun K hK=>?_)
    ·rw[if_pos (by rfl)]
     refine qE 115 (.tmp 6) (.tmp 38) rfl p6 rfl (c':=#[.int .i64 gid,.int .i64 sc,.int .i64 en]) rfl X6.out zBc rfl (by simp[Value.oneCell']) ?_
     have tb:=below_setRow HB.out PL6.out #[.int .i64 gid,.int .i64 sc,.int .i64 en]
     have t6:=setRow_heap _ _ _ #[.int .i64 gid,.int .i64 sc,.int .i64 en] _ _ X6.out
     have t7:=(setRow_other q12 p6 p7 #[.int .i64 gid,.int .i64 sc,.int .i64 en] (fun e=>by have h:=X6.out;rw[←e,X7.out] at h;cases h)).trans X7.out
     refine hK.out _ _ ?_ fun zD2=>?_;exact tb;clear hK K;try simp only[zn,Act.put]
     generalize q12.setRow p6 #[.int .i64 gid,.int .i64 sc,.int .i64 en]=q13 at tb t6 t7 zD2⊢
     have HB':=zD0 tb
     have X6':=zD0 t6
     have X7':=zD0 t7
     clear tb t6 t7
     clear HB X6 X7
     have HB:=HB'
     have X6:=X6'
     have X7:=X7'
     clear HB' X6' X7'
     refine tkr 15 (fun K hK=>?_)
     ·have c7:q13.cell? ⟨p7,0,none⟩=some (.int .i64 0):=cell_of_row _ _ _ _ _ _ X7.out
      have f7:=zY X7.out 0
      rw[if_pos (by rfl)]
      go_simp
      have tb:=qH HB.out PL7.out 0 (.int .i64 sid)
      have t7:(q13.setCell ⟨p7,0,none⟩ (.int .i64 sid)).heap[p7]? = some (.cells #[.int .i64 sid] 3 (0,0)):=qG (k:=0) X7.out _
      have t6:=(xE q13 p7 0 p6 (.int .i64 sid) (fun e=>by have h:=X6.out;rw[e,X7.out] at h;cases h)).trans X6.out
      refine hK.out _ _ ?_ fun zD2=>?_;exact tb;clear hK K;try simp only[zn,Act.put]
      generalize q13.setCell ⟨p7,0,none⟩ (.int .i64 sid)=q14 at tb t7 t6 zD2⊢
      have HB':=zD0 tb
      have X7':=zD0 t7
      have X6':=zD0 t6
      clear tb t7 c7 f7 t6
      clear HB X6 X7
      have HB:=HB'
      have X6:=X6'
      have X7:=X7'
      clear HB' X6' X7'
      refine wpAnyH_done (by kernel_rfl) ?_ _
      go_wp2_with fail
      go_ret
      exact⟨p6,p7,rfl,X6.out,X7.out,HB.out⟩
  ·go_simp
   have tb:=HB.out.alloc HB.out.size (.cells #[.int .i64 0] 3)
   have t7:=zB q10 (.cells #[.int .i64 0] 3)
   have t6:=(qZ q10 (.cells #[.int .i64 0] 3) (zA X6.out)).trans X6.out
   refine hK.out _ _ ?_ fun zD2=>?_;exact tb;clear hK K;try simp only[zn,Act.put]
   generalize q10.alloc (.cells #[.int .i64 0] 3)=q15 at tb t7 t6 zD2⊢
   obtain⟨p7,hp7⟩:=zD1 (q10.heap.size)
   rw[←hp7] at t7⊢
   have PL7:Hid (w.heap.size≤p7):=zD0 (by rw[hp7];exact HB.out.size)
   have HB':=zD0 tb
   have X7':=zD0 t7
   have X6':=zD0 t6
   clear tb t7 t6 hp7
   clear HB X6
   have HB:=HB'
   have X6:=X6'
   have X7:=X7'
   clear HB' X6' X7'
   refine tkr 6 (fun K hK=>?_)
   ·go_simp
    refine(zAa q15 (WK.out.below HB.out) r.exit k HK.out HAT.out).mono ?_
    rintro e q16 ⟨rfl,b⟩
    rw[HSK.out]
    have HB':=zD0 (HB.out.trans (b.mono HB.out.size))
    have X6':=zD0 ((b.block _ (zA X6.out)).trans X6.out)
    have X7':=zD0 ((b.block _ (zA X7.out)).trans X7.out)
    clear b
    try go_wp2_with fail
    refine hK.out _ _ ?_ fun zD2=>?_;exact HB'.out;clear hK K;try simp only[zn,Act.put]
    clear HB X6 X7
    have HB:=HB'
    have X6:=X6'
    have X7:=X7'
    clear HB' X6' X7'
    refine tkr 14 (fun K hK=>?_)
    ·rw[if_pos (by rfl)]
     refine qE 115 (.tmp 6) (.tmp 38) rfl p6 rfl (c':=#[.int .i64 gid,.int .i64 sc,.int .i64 en]) rfl X6.out zBc rfl (by simp[Value.oneCell']) ?_
     have tb:=below_setRow HB.out PL6.out #[.int .i64 gid,.int .i64 sc,.int .i64 en]
     have t6:=setRow_heap _ _ _ #[.int .i64 gid,.int .i64 sc,.int .i64 en] _ _ X6.out
     have t7:=(setRow_other q16 p6 p7 #[.int .i64 gid,.int .i64 sc,.int .i64 en] (fun e=>by have h:=X6.out;rw[←e,X7.out] at h;cases h)).trans X7.out
     refine hK.out _ _ ?_ fun zD2=>?_;exact tb;clear hK K;try simp only[zn,Act.put]
     generalize q16.setRow p6 #[.int .i64 gid,.int .i64 sc,.int .i64 en]=q17 at tb t6 t7 zD2⊢
     have HB':=zD0 tb
     have X6':=zD0 t6
     have X7':=zD0 t7
     clear tb t6 t7
     clear HB X6 X7
     have HB:=HB'
     have X6:=X6'
     have X7:=X7'
     clear HB' X6' X7'
     refine tkr 15 (fun K hK=>?_)
     ·have c7:q17.cell? ⟨p7,0,none⟩=some (.int .i64 0):=cell_of_row _ _ _ _ _ _ X7.out
      have f7:=zY X7.out 0
      rw[if_pos (by rfl)]
      go_simp
      have tb:=qH HB.out PL7.out 0 (.int .i64 sid)
      have t7:(q17.setCell ⟨p7,0,none⟩ (.int .i64 sid)).heap[p7]? = some (.cells #[.int .i64 sid] 3 (0,0)):=qG (k:=0) X7.out _
      have t6:=(xE q17 p7 0 p6 (.int .i64 sid) (fun e=>by have h:=X6.out;rw[e,X7.out] at h;cases h)).trans X6.out
      refine hK.out _ _ ?_ fun zD2=>?_;exact tb;clear hK K;try simp only[zn,Act.put]
      generalize q17.setCell ⟨p7,0,none⟩ (.int .i64 sid)=q18 at tb t7 t6 zD2⊢
      have HB':=zD0 tb
      have X7':=zD0 t7
      have X6':=zD0 t6
      clear tb t7 c7 f7 t6
      clear HB X6 X7
      have HB:=HB'
      have X6:=X6'
      have X7:=X7'
      clear HB' X6' X7'
      refine wpAnyH_done (by kernel_rfl) ?_ _
      go_wp2_with fail
      go_ret
      exact⟨p6,p7,rfl,X6.out,X7.out,HB.out⟩
 ·go_simp
  have tb:=HB.out.alloc HB.out.size (.cells #[.int .i64 0] 3)
  have t7:=zB q0 (.cells #[.int .i64 0] 3)
  refine hK.out _ _ ?_ fun zD2=>?_;exact tb;clear hK K;try simp only[zn,Act.put]
  generalize q0.alloc (.cells #[.int .i64 0] 3)=q19 at tb t7 zD2⊢
  obtain⟨p7,hp7⟩:=zD1 (q0.heap.size)
  rw[←hp7] at t7⊢
  have PL7:Hid (w.heap.size≤p7):=zD0 (by rw[hp7];exact HB.out.size)
  have HB':=zD0 tb
  have X7':=zD0 t7
  clear tb t7 hp7
  clear HB
  have HB:=HB'
  have X7:=X7'
  clear HB' X7'
  refine wpAnyH_ready (rs:=[6,12]) (by kernel_rfl) (by simp) ?_
  refine AllReadyH.cons rfl (fun K hK=>?_) (AllReadyH.cons rfl (fun K hK=>?_) AllReadyH.nil)
  ·go_simp
   refine(zAa q19 (WK.out.below HB.out) r.exit k HK.out HAT.out).mono ?_
   rintro e q20 ⟨rfl,b⟩
   rw[HSK.out]
   have HB':=zD0 (HB.out.trans (b.mono HB.out.size))
   have X7':=zD0 ((b.block _ (zA X7.out)).trans X7.out)
   clear b
   try go_wp2_with fail
   refine hK.out _ _ ?_ fun zD2=>?_;exact HB'.out;clear hK K;try simp only[zn,Act.put]
   clear HB X7
   have HB:=HB'
   have X7:=X7'
   clear HB' X7'
   refine tkr 12 (fun K hK=>?_)
   ·go_simp
    have tb:=HB.out.alloc HB.out.size (.cells #[.int .i64 0,.int .i64 0,.int .i64 0] 115)
    have t6:=zB q20 (.cells #[.int .i64 0,.int .i64 0,.int .i64 0] 115)
    have t7:=(qZ q20 (.cells #[.int .i64 0,.int .i64 0,.int .i64 0] 115) (zA X7.out)).trans X7.out
    refine hK.out _ _ ?_ fun zD2=>?_;exact tb;clear hK K;try simp only[zn,Act.put]
    generalize q20.alloc (.cells #[.int .i64 0,.int .i64 0,.int .i64 0] 115)=q21 at tb t6 t7 zD2⊢
    obtain⟨p6,hp6⟩:=zD1 (q20.heap.size)
    rw[←hp6] at t6⊢
    have PL6:Hid (w.heap.size≤p6):=zD0 (by rw[hp6];exact HB.out.size)
    have HB':=zD0 tb
    have X6':=zD0 t6
    have X7':=zD0 t7
    clear tb t6 t7 hp6
    clear HB X7
    have HB:=HB'
    have X6:=X6'
    have X7:=X7'
    clear HB' X6' X7'
    refine tkr 14 (fun K hK=>?_)
    ·rw[if_pos (by rfl)]
     refine qE 115 (.tmp 6) (.tmp 38) rfl p6 rfl (c':=#[.int .i64 gid,.int .i64 sc,.int .i64 en]) rfl X6.out zBc rfl (by simp[Value.oneCell']) ?_
     have tb:=below_setRow HB.out PL6.out #[.int .i64 gid,.int .i64 sc,.int .i64 en]
     have t6:=setRow_heap _ _ _ #[.int .i64 gid,.int .i64 sc,.int .i64 en] _ _ X6.out
     have t7:=(setRow_other q21 p6 p7 #[.int .i64 gid,.int .i64 sc,.int .i64 en] (fun e=>by have h:=X6.out;rw[←e,X7.out] at h;cases h)).trans X7.out
     refine hK.out _ _ ?_ fun zD2=>?_;exact tb;clear hK K;try simp only[zn,Act.put]
     generalize q21.setRow p6 #[.int .i64 gid,.int .i64 sc,.int .i64 en]=q22 at tb t6 t7 zD2⊢
     have HB':=zD0 tb
     have X6':=zD0 t6
     have X7':=zD0 t7
     clear tb t6 t7
     clear HB X6 X7
     have HB:=HB'
     have X6:=X6'
     have X7:=X7'
     clear HB' X6' X7'
     refine tkr 15 (fun K hK=>?_)
     ·have c7:q22.cell? ⟨p7,0,none⟩=some (.int .i64 0):=cell_of_row _ _ _ _ _ _ X7.out
      have f7:=zY X7.out 0
      rw[if_pos (by rfl)]
      go_simp
      have tb:=qH HB.out PL7.out 0 (.int .i64 sid)
      have t7:(q22.setCell ⟨p7,0,none⟩ (.int .i64 sid)).heap[p7]? = some (.cells #[.int .i64 sid] 3 (0,0)):=qG (k:=0) X7.out _
      have t6:=(xE q22 p7 0 p6 (.int .i64 sid) (fun e=>by have h:=X6.out;rw[e,X7.out] at h;cases h)).trans X6.out
      refine hK.out _ _ ?_ fun zD2=>?_;exact tb;clear hK K;try simp only[zn,Act.put]
      generalize q22.setCell ⟨p7,0,none⟩ (.int .i64 sid)=q23 at tb t7 t6 zD2⊢
      have HB':=zD0 tb
      have X7':=zD0 t7
      have X6':=zD0 t6
      clear tb t7 c7 f7 t6
      clear HB X6 X7
      have HB:=HB'
      have X6:=X6'
      have X7:=X7'
      clear HB' X6' X7'
      refine wpAnyH_done (by kernel_rfl) ?_ _
      go_wp2_with fail
      go_ret
      exact⟨p6,p7,rfl,X6.out,X7.out,HB.out⟩
  ·go_simp
   have tb:=HB.out.alloc HB.out.size (.cells #[.int .i64 0,.int .i64 0,.int .i64 0] 115)
   have t6:=zB q19 (.cells #[.int .i64 0,.int .i64 0,.int .i64 0] 115)
   have t7:=(qZ q19 (.cells #[.int .i64 0,.int .i64 0,.int .i64 0] 115) (zA X7.out)).trans X7.out
   refine hK.out _ _ ?_ fun zD2=>?_;exact tb;clear hK K;try simp only[zn,Act.put]
   generalize q19.alloc (.cells #[.int .i64 0,.int .i64 0,.int .i64 0] 115)=q24 at tb t6 t7 zD2⊢
   obtain⟨p6,hp6⟩:=zD1 (q19.heap.size)
   rw[←hp6] at t6⊢
   have PL6:Hid (w.heap.size≤p6):=zD0 (by rw[hp6];exact HB.out.size)
   have HB':=zD0 tb
   have X6':=zD0 t6
   have X7':=zD0 t7
   clear tb t6 t7 hp6
   clear HB X7
   have HB:=HB'
   have X6:=X6'
   have X7:=X7'
   clear HB' X6' X7'
   refine tkr 6 (fun K hK=>?_)
   ·go_simp
    refine(zAa q24 (WK.out.below HB.out) r.exit k HK.out HAT.out).mono ?_
    rintro e q25 ⟨rfl,b⟩
    rw[HSK.out]
    have HB':=zD0 (HB.out.trans (b.mono HB.out.size))
    have X6':=zD0 ((b.block _ (zA X6.out)).trans X6.out)
    have X7':=zD0 ((b.block _ (zA X7.out)).trans X7.out)
    clear b
    try go_wp2_with fail
    refine hK.out _ _ ?_ fun zD2=>?_;exact HB'.out;clear hK K;try simp only[zn,Act.put]
    clear HB X6 X7
    have HB:=HB'
    have X6:=X6'
    have X7:=X7'
    clear HB' X6' X7'
    refine tkr 14 (fun K hK=>?_)
    ·rw[if_pos (by rfl)]
     refine qE 115 (.tmp 6) (.tmp 38) rfl p6 rfl (c':=#[.int .i64 gid,.int .i64 sc,.int .i64 en]) rfl X6.out zBc rfl (by simp[Value.oneCell']) ?_
     have tb:=below_setRow HB.out PL6.out #[.int .i64 gid,.int .i64 sc,.int .i64 en]
     have t6:=setRow_heap _ _ _ #[.int .i64 gid,.int .i64 sc,.int .i64 en] _ _ X6.out
     have t7:=(setRow_other q25 p6 p7 #[.int .i64 gid,.int .i64 sc,.int .i64 en] (fun e=>by have h:=X6.out;rw[←e,X7.out] at h;cases h)).trans X7.out
     refine hK.out _ _ ?_ fun zD2=>?_;exact tb;clear hK K;try simp only[zn,Act.put]
     generalize q25.setRow p6 #[.int .i64 gid,.int .i64 sc,.int .i64 en]=q26 at tb t6 t7 zD2⊢
     have HB':=zD0 tb
     have X6':=zD0 t6
     have X7':=zD0 t7
     clear tb t6 t7
     clear HB X6 X7
     have HB:=HB'
     have X6:=X6'
     have X7:=X7'
     clear HB' X6' X7'
     refine tkr 15 (fun K hK=>?_)
     ·have c7:q26.cell? ⟨p7,0,none⟩=some (.int .i64 0):=cell_of_row _ _ _ _ _ _ X7.out
      have f7:=zY X7.out 0
      rw[if_pos (by rfl)]
      go_simp
      have tb:=qH HB.out PL7.out 0 (.int .i64 sid)
      have t7:(q26.setCell ⟨p7,0,none⟩ (.int .i64 sid)).heap[p7]? = some (.cells #[.int .i64 sid] 3 (0,0)):=qG (k:=0) X7.out _
      have t6:=(xE q26 p7 0 p6 (.int .i64 sid) (fun e=>by have h:=X6.out;rw[e,X7.out] at h;cases h)).trans X6.out
      refine hK.out _ _ ?_ fun zD2=>?_;exact tb;clear hK K;try simp only[zn,Act.put]
      generalize q26.setCell ⟨p7,0,none⟩ (.int .i64 sid)=q27 at tb t7 t6 zD2⊢
      have HB':=zD0 tb
      have X7':=zD0 t7
      have X6':=zD0 t6
      clear tb t7 c7 f7 t6
      clear HB X6 X7
      have HB:=HB'
      have X6:=X6'
      have X7:=X7'
      clear HB' X6' X7'
      refine wpAnyH_done (by kernel_rfl) ?_ _
      go_wp2_with fail
      go_ret
      exact⟨p6,p7,rfl,X6.out,X7.out,HB.out⟩
end Go.Proofs.YtemmgmjhomgbbaaGreat
