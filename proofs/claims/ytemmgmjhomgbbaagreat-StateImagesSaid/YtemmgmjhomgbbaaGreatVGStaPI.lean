/-
 One element more for a list of the call's own, whatever it holds; a whole struct stored into a block.
 Conditions: none.
-/
import Derived.Test.YtemmgmjhomgbbaaGreatVGTrkRef
import Derived.Test.YtemmgmjhomgbbaaGreatVGPlnRefB
import Derived.Test.YtemmgmjhomgbbaaGreatVGStaPA
import Derived.Test.YtemmgmjhomgbbaaGreatVGStaPE
import Derived.Test.YtemmgmjhomgbbaaGreatVGStaO
import Derived.Test.YtemmgmjhomgbbaaGreatVGStaMem
import Derived.Test.YtemmgmjhomgbbaaGreatVGSndM
import Derived.Test.YtemmgmjhomgbbaaGreatVPlnP3
set_option linter.unusedVariables false
set_option linter.unusedSimpArgs false
set_option maxRecDepth 100000
namespace Go.Proofs.YtemmgmjhomgbbaaGreat
open Go.RowKit

theorem wp_store_rowP {P : Program} {op : Oper} {a : Act} {w : World} {K : Act → World → Prop} {Q : Exit → Act → World → Prop} (ty : TypeId) (x y : Operand) (ho : op.op = .store ty x y)
  (b : Nat) (hx : a.eval x = .pointer (some ⟨b, 0, none⟩)) {c c' : Array Value} (hy : a.eval y = .agg c') {t : TypeId} (hb : w.heap[b]? = some (.cells c t (0, 0)))
  (hi : (P.info? ty).map (·.size) = some c'.size) (hs : c.size = c'.size) (h1 : c'.all (·.oneCell') = true)
  (h : K (a.put op.dst undef) (w.setRow b c')) : op.wp P a w K Q := by
 unfold Oper.wp execOp
 simp only [ho, hx, hy, Instr.storeAt, Instr.sureAddr, Sem.run_bind, Sem.run_pure, Result.andThen_ok]
 rw [run_storeVar_row w b t ty c c' hb hi hs h1]
 exact h
section
variable {α : Type} {T tS : TypeId} {sz : Nat} {R : El α} {W : World} {lo n c ty : Nat} {A : Option Addr} {L : List α} {x : α} {ys : List Value}
end

theorem infoStP15 : (Tryz.prog.info? 32).map (·.size) = some 3 := by kernel_rfl
set_option maxHeartbeats 8000000 in
theorem twin15_any (v : Value) (s : St15) (w : World) (h : StateV w w.heap.size v s) (hf : FewS s) :
  Calls Tryz.prog 33 #[v] w fun e w' => ∃ u0 u1 u2, e = .returned (.agg #[u0, u1, u2]) ∧ StOwn w' w.heap.size u0 u1 u2 s ∧ Below w.heap.size w w' := by
 obtain ⟨_, _, _, rfl, h'⟩ := h
 obtain ⟨S0, Sc0, rfl, -, -⟩ := h'.tr.slice
 obtain ⟨Sn0, hS0⟩ : ∃ n, n = s.tr.length := ⟨_, rfl⟩
 have HS0 : Hid (TrksIn w w.heap.size (.slice S0 Sn0 Sc0) s.tr) := Lib.hid (by rw [hS0]; exact h'.tr)
 rw [← hS0]
 clear hS0
 obtain ⟨S1, Sc1, rfl, -, -⟩ := h'.sw.slice
 obtain ⟨Sn1, hS1⟩ : ∃ n, n = s.sw.length := ⟨_, rfl⟩
 have HS1 : Hid (SwisIn w w.heap.size (.slice S1 Sn1 Sc1) s.sw) := Lib.hid (by rw [hS1]; exact h'.sw)
 rw [← hS1]
 clear hS1
 obtain ⟨S2, Sc2, rfl, -, -⟩ := h'.lk.slice
 obtain ⟨Sn2, hS2⟩ : ∃ n, n = s.lk.length := ⟨_, rfl⟩
 have HS2 : Hid (LcksIn w w.heap.size (.slice S2 Sn2 Sc2) s.lk) := Lib.hid (by rw [hS2]; exact h'.lk)
 rw [← hS2]
 clear hS2
 have FW := Lib.hid hf
 clear h' hf
 have hq := two_boxes w (.cells #[.slice S0 Sn0 Sc0, .slice S1 Sn1 Sc1, .slice S2 Sn2 Sc2] 32) (.cells #[.slice none 0 0, .slice none 0 0, .slice none 0 0] 32)
 have hqs : ((w.alloc (.cells #[.slice S0 Sn0 Sc0, .slice S1 Sn1 Sc1, .slice S2 Sn2 Sc2] 32)).alloc (.cells #[.slice none 0 0, .slice none 0 0, .slice none 0 0] 32)).heap.size = w.heap.size + 2 := by simp
 go_enter Tryz.func33, Tryz.ntmps33
 go_upto_region 1 with fail
 generalize (w.alloc (.cells #[.slice S0 Sn0 Sc0, .slice S1 Sn1 Sc1, .slice S2 Sn2 Sc2] 32)).alloc (.cells #[.slice none 0 0, .slice none 0 0, .slice none 0 0] 32) = q at hq hqs ⊢
 obtain ⟨q0, q1, qb⟩ := hq
 have X0 := Lib.hid q0
 have X1 := Lib.hid q1
 have BQ := Lib.hid qb
 have QS := Lib.hid hqs
 clear q0 q1 qb hqs
 refine wp_region_held_drew (S := fun v => Below (w.heap.size + 1) q v) (by kernel_rfl) ((Below.refl _ q).drew) (fun hHeld => ?_)
 refine tk 0 hHeld ?_;refine tkc 1 hHeld (fun w' hSw => cell3_of ((hSw.block _ (Nat.lt_succ_self _)).trans X0.out)) ?_;refine tk 3 hHeld ?_;refine tkc 4 hHeld (fun w' hSw => cell3_of ((hSw.block _ (Nat.lt_succ_self _)).trans X0.out)) ?_;refine tk 6 hHeld ?_;refine tkc 7 hHeld (fun w' hSw => cell3_of ((hSw.block _ (Nat.lt_succ_self _)).trans X0.out)) ?_
 have tb := (Below.refl q.heap.size q).drew
 generalize q.drew = q0 at tb hHeld ⊢
 have HB := Lib.hid tb
 clear tb
 refine tkr 2 (fun K hK => ?_)
 go_simp
 refine (clone_trk _ s.tr q0 ((HS0.out.below trkR (BQ.out.trans (HB.out.mono BQ.out.size))).more trkR (Nat.le_trans BQ.out.size HB.out.size)) (by have := FW.out; unfold FewS at this; omega)).mono ?_
 rintro e q1 ⟨o0, rfl, ho, b⟩
 have tb := HB.out.trans (b.mono HB.out.size)
 have tO : TrksOwn q1 q.heap.size o0 s.tr := ListOwn.mono ho HB.out.size
 clear HB b 
 have HB := Lib.hid tb
 have O0 := Lib.hid tO
 clear ho tb tO 
 try go_wp2_with fail
 refine hK.out _ _ ?_ fun hHeld => ?_;exact HB.out.mono (by have := QS.out; omega);clear hK K;try simp only [zn, Act.put]
 refine tkr 5 (fun K hK => ?_)
 go_simp
 refine (clone_swi _ s.sw q1 ((HS1.out.below sigR (BQ.out.trans (HB.out.mono BQ.out.size))).more sigR (Nat.le_trans BQ.out.size HB.out.size)) (by have := FW.out; unfold FewS at this; omega)).mono ?_
 rintro e q2 ⟨o1, rfl, ho, b⟩
 have tb := HB.out.trans (b.mono HB.out.size)
 have t0 := O0.out.below trkR b
 have tO : SwisOwn q2 q.heap.size o1 s.sw := ListOwn.mono ho HB.out.size
 clear HB b O0
 have HB := Lib.hid tb
 have O0 := Lib.hid t0
 have O1 := Lib.hid tO
 clear ho tb tO t0
 try go_wp2_with fail
 refine hK.out _ _ ?_ fun hHeld => ?_;exact HB.out.mono (by have := QS.out; omega);clear hK K;try simp only [zn, Act.put]
 refine tkr 8 (fun K hK => ?_)
 go_simp
 refine (clone_lck _ s.lk q2 ((HS2.out.below lckR (BQ.out.trans (HB.out.mono BQ.out.size))).more lckR (Nat.le_trans BQ.out.size HB.out.size)) (by have := FW.out; unfold FewS at this; omega)).mono ?_
 rintro e q3 ⟨o2, rfl, ho, b⟩
 have tb := HB.out.trans (b.mono HB.out.size)
 have t0 := O0.out.below trkR b
 have t1 := O1.out.below sigR b
 have tO : LcksOwn q3 q.heap.size o2 s.lk := ListOwn.mono ho HB.out.size
 clear HB b O0 O1
 have HB := Lib.hid tb
 have O0 := Lib.hid t0
 have O1 := Lib.hid t1
 have O2 := Lib.hid tO
 clear ho tb tO t0 t1
 try go_wp2_with fail
 refine hK.out _ _ ?_ fun hHeld => ?_;exact HB.out.mono (by have := QS.out; omega);clear hK K;try simp only [zn, Act.put]
 obtain ⟨A0, c0, e0⟩ := O0.out.slice
 obtain ⟨m0, hm0⟩ : ∃ m, m = s.tr.length := ⟨_, rfl⟩
 rw [← hm0] at e0
 subst e0
 clear hm0
 obtain ⟨A1, c1, e1⟩ := O1.out.slice
 obtain ⟨m1, hm1⟩ : ∃ m, m = s.sw.length := ⟨_, rfl⟩
 rw [← hm1] at e1
 subst e1
 clear hm1
 obtain ⟨A2, c2, e2⟩ := O2.out.slice
 obtain ⟨m2, hm2⟩ : ∃ m, m = s.lk.length := ⟨_, rfl⟩
 rw [← hm2] at e2
 subst e2
 clear hm2
 refine tk 9 hHeld ?_
 refine tkr 10 (fun K hK => ?_)
 rw [if_pos (by rfl)]
 refine wp_store_rowP 32 (.tmp 2) (.tmp 12) rfl (w.heap.size + 1) rfl (c' := #[.slice A0 m0 c0, .slice A1 m1 c1, .slice A2 m2 c2]) rfl ((HB.out.block _ (heap_lt X1.out)).trans X1.out) infoStP15 rfl (by simp [Value.oneCell']) ?_
 have hrow := (HB.out.block _ (heap_lt X1.out)).trans X1.out
 have hg := grownBy_setRow q3 (w.heap.size + 1) #[.slice A0 m0 c0, .slice A1 m1 c1, .slice A2 m2 c2]
 have tb : Below (w.heap.size + 1) q (q3.setRow (w.heap.size + 1) #[.slice A0 m0 c0, .slice A1 m1 c1, .slice A2 m2 c2]) := (HB.out.mono (by have := QS.out; omega)).trans ((Below.refl _ q3).grown hg (by have := QS.out; have := HB.out.size; omega) (fun k e => by injection e with e; omega))
 have tO : StOwn (q3.setRow (w.heap.size + 1) #[.slice A0 m0 c0, .slice A1 m1 c1, .slice A2 m2 c2]) q.heap.size (.slice A0 m0 c0) (.slice A1 m1 c1) (.slice A2 m2 c2) s := StOwn.off ⟨O0.out, O1.out, O2.out⟩ hg (by have := QS.out; omega)
 have t6 := setRow_heap q3 _ _ #[.slice A0 m0 c0, .slice A1 m1 c1, .slice A2 m2 c2] _ _ hrow
 refine hK.out _ _ ?_ fun hHeld => ?_;exact tb;clear hK K;try simp only [zn, Act.put]
 generalize q3.setRow (w.heap.size + 1) #[.slice A0 m0 c0, .slice A1 m1 c1, .slice A2 m2 c2] = q5 at tb tO t6 hHeld ⊢
 clear hrow hg
 have BL := Lib.hid (BQ.out.trans (tb.mono (by omega)))
 have OL := Lib.hid (tO.mono BQ.out.size)
 have X6 := Lib.hid t6
 clear tb tO t6 HB
 refine wpAnyH_done (by kernel_rfl) ?_ _
 go_wp2_with fail
 refine bodyPost_ret (results_cell_row rfl _ _ (w.heap.size + 1) 32 #[.slice A0 m0 c0, .slice A1 m1 c1, .slice A2 m2 c2] (0, 0) _ rfl X6.out Tryz.underlying32 rfl infoStP15) rfl ⟨_, _, _, rfl, OL.out, BL.out⟩
set_option maxHeartbeats 16000000 in
theorem at15_any (hs : SndSaid) (v : Value) (p : Pl) (w : World) (h : PlanV w w.heap.size v p) :
  Calls Tryz.prog 8 #[v] w fun e w' => ∃ u0 u1 u2, e = .returned (.tuple #[.agg #[u0, u1, u2], .int .i64 (restE p)]) ∧ StOwn w' w.heap.size u0 u1 u2 (restV p) ∧ Below w.heap.size w w' := by
 obtain ⟨p2, p3, p4, p5, rfl, h⟩ := h
 obtain ⟨A2, a2, rfl, -, -⟩ := h.secs.slice
 obtain ⟨b2, hb2⟩ : ∃ n, n = p.secs.length := ⟨_, rfl⟩
 have P2 : Hid (SectsIn w w.heap.size (.slice A2 b2 a2) p.secs) := Lib.hid (by rw [hb2]; exact h.secs)
 rw [← hb2]
 obtain ⟨A3, a3, rfl, -, -⟩ := h.pts.slice
 obtain ⟨b3, hb3⟩ : ∃ n, n = p.pts.length := ⟨_, rfl⟩
 have P3 : Hid (JoinsIn w w.heap.size (.slice A3 b3 a3) p.pts) := Lib.hid (by rw [hb3]; exact h.pts)
 rw [← hb3]
 obtain ⟨A4, a4, rfl, -, -⟩ := h.sigs.slice
 obtain ⟨b4, hb4⟩ : ∃ n, n = p.sigs.length := ⟨_, rfl⟩
 have P4 : Hid (SigsIn w w.heap.size (.slice A4 b4 a4) p.sigs) := Lib.hid (by rw [hb4]; exact h.sigs)
 rw [← hb4]
 obtain ⟨A5, a5, rfl, -, -⟩ := h.routes.slice
 obtain ⟨b5, hb5⟩ : ∃ n, n = p.routes.length := ⟨_, rfl⟩
 have P5 : Hid (RoutesIn w w.heap.size (.slice A5 b5 a5) p.routes) := Lib.hid (by rw [hb5]; exact h.routes)
 rw [← hb5]
 clear h
 have HBN : Hid (b2 = p.secs.length ∧ b3 = p.pts.length ∧ b5 = p.routes.length) := Lib.hid ⟨hb2, hb3, hb5⟩
 clear hb2 hb3 hb4 hb5
 have hq := two_boxes w (.cells #[.int .i64 p.ver, .int .i64 p.par, .slice A2 b2 a2, .slice A3 b3 a3, .slice A4 b4 a4, .slice A5 b5 a5] 27) (.cells #[.slice none 0 0, .slice none 0 0, .slice none 0 0] 32)
 go_enter Tryz.func8, Tryz.ntmps8
 go_upto_region 1 with fail
 generalize (w.alloc (.cells #[.int .i64 p.ver, .int .i64 p.par, .slice A2 b2 a2, .slice A3 b3 a3, .slice A4 b4 a4, .slice A5 b5 a5] 27)).alloc (.cells #[.slice none 0 0, .slice none 0 0, .slice none 0 0] 32) = q at hq ⊢
 obtain ⟨hx, hz, hqb⟩ := hq
 have X := Lib.hid hx
 have Z := Lib.hid hz
 have BQ := Lib.hid hqb
 clear hx hz hqb
 have PV : Hid (∀ W, Below w.heap.size w W → PlanV W W.heap.size (.agg #[.int .i64 p.ver, .int .i64 p.par, .slice A2 b2 a2, .slice A3 b3 a3, .slice A4 b4 a4, .slice A5 b5 a5]) p) := Lib.hid (fun W b => ⟨_, _, _, _, rfl, ⟨(P2.out.below secR_ b).more secR_ b.size, (P3.out.below joinR b).more joinR b.size, (P4.out.below sigR b).more sigR b.size, (P5.out.below routeR b).more routeR b.size⟩⟩)
 obtain ⟨k0, k1, k2, k3, k4, k5⟩ := cell6_of X.out
 go_wp2_with fail
 refine (hs.check _ p q (PV.out q BQ.out)).mono ?_
 rintro e w1 ⟨rfl, b1⟩
 have X1 := Lib.hid ((b1.block _ (heap_lt X.out)).trans X.out)
 have Z1 := Lib.hid ((b1.block _ (heap_lt Z.out)).trans Z.out)
 have B1 := Lib.hid (BQ.out.trans (b1.mono BQ.out.size))
 clear b1 k0 k1 k2 k3 k4 k5 X Z BQ PV
 rcases sndE_cases p with ⟨he, hS⟩ | ⟨he, hS⟩
 rotate_left
 ·rw [he]
  have HE : Hid (restE p = 100 ∧ restV p = noS) := Lib.hid ⟨by rw [restE, soundP_false hS]; rfl, by rw [restV, soundP_false hS]; rfl⟩
  clear he hS
  go_wp2_with ((with_reducible show wpList _ _ _ (⟨none, .store _ _ _, _, _, _, _⟩ :: _) _ _); refine wpList_store_rowS rfl _ (.tmp 2) (.tmp 16) rfl (w.heap.size + 1) rfl (c' := #[.slice none 0 0, .slice none 0 0, .slice none 0 0]) rfl Z1.out infoStP15 rfl (by simp [Value.oneCell']) ?_)
  exact bodyPost_ret (results_rowS_tmp (c := #[.slice none 0 0, .slice none 0 0, .slice none 0 0]) rfl _ _ (w.heap.size + 1) rfl (setRow_heap _ _ _ _ _ _ Z1.out) Tryz.underlying32 infoStP15 (.int .i64 100) rfl) rfl ⟨_, _, _, by rw [HE.out.1], by rw [HE.out.2]; exact noS_own _ _, below_setRow B1.out (Nat.le_succ _) _⟩
 rw [he]
 have HSD := Lib.hid hS
 have HR : Hid (restE p = 0 ∧ restV p = ⟨p.secs.map (fun x : Sec => (x.1, (2 : Int))), p.pts.map (fun x : Jn => (x.1, (0 : Int), (0 : Int))), p.routes.map (fun x : Rt => (x.id, (0 : Int), (0 : Int), (0 : Int)))⟩) := Lib.hid ⟨by rw [restE, soundP_true hS]; rfl, by rw [restV, soundP_true hS]; rfl⟩
 have B16 : Hid (b2 ≤ 16 ∧ b3 ≤ 16 ∧ b5 ≤ 16) := Lib.hid (by have h1 := hS.may.secs.n; have h2 := hS.may.pts.n; have h3 := hS.may.n; have := HBN.out; omega)
 have hb2 : b2 ≤ 9223372036854775807 := by have := B16.out; omega
 have hb3 : b3 ≤ 9223372036854775807 := by have := B16.out; omega
 have hb5 : b5 ≤ 9223372036854775807 := by have := B16.out; omega
 clear he hS
 have d0 : ((0 : Int) != 0) = false := by decide
 have x5 := heap_alloc_self w1 (.cells #[.slice none 0 0, .slice none 0 0, .slice none 0 0] 32)
 have b5_ := below_new w1 (.cells #[.slice none 0 0, .slice none 0 0, .slice none 0 0] 32)
 go_upto_region 5 with fail
 generalize w1.alloc (.cells #[.slice none 0 0, .slice none 0 0, .slice none 0 0] 32) = q5 at x5 b5_ ⊢
 obtain ⟨px, hpx⟩ : ∃ n, n = w1.heap.size := ⟨_, rfl⟩
 rw [← hpx] at x5 b5_ ⊢
 have PX : Hid (w.heap.size + 1 < px) := Lib.hid (by rw [hpx]; exact heap_lt Z1.out)
 have XX := Lib.hid x5
 have BX := Lib.hid b5_
 have PW : Hid (px = w1.heap.size) := Lib.hid hpx
 clear x5 b5_ hpx d0
 obtain ⟨k0, k1, k2, k3, k4, k5⟩ := cell6_of ((BX.out.block _ (by have := PX.out; omega)).trans X1.out)
 go_wp2_with fail
 clear k0 k1 k2 k3 k4 k5
 go_loopw [21] (fun s21 wr => ∃ i : Nat, i ≤ b2 ∧ s21 = .int .i64 i ∧ (∃ A c, wr.heap[px]? = some (.cells #[.slice A i c, .slice none 0 0, .slice none 0 0] 32 (0, 0)) ∧ TrksOwn wr px (.slice A i c) ((p.secs.take i).map (fun x : Sec => (x.1, (2 : Int))))) ∧ Below px w1 wr) (fun s21 _ => b2 - (intOf s21).toNat)
 case atStart => exact ⟨0, by omega, by go_num, ⟨none, 0, XX.out, ListOwn.nil_⟩, BX.out⟩
 case round =>
  obtain ⟨wx, hwx⟩ : ∃ u, u = wr := ⟨_, rfl⟩
  subst hwx
  obtain ⟨i, hi, rfl, ⟨A, c, hxx, how⟩, hbw⟩ := hrel
  have XW := Lib.hid hxx
  have OW := Lib.hid how
  have BW := Lib.hid hbw
  clear hxx how hbw
  by_cases hlt : i < b2
  ·have hlt' : (i : Int) < b2 := by omega
   have hir : i < p.secs.length := by have := HBN.out; omega
   have BWW : Hid (Below w.heap.size w wx) := Lib.hid (B1.out.trans (BW.out.mono (by have := PX.out; omega)))
   obtain ⟨bk, off, rfl, hbk, hc0, hc1, u, hc2, hu⟩ := ((P2.out.below secR_ BWW.out).more secR_ BWW.out.size).at hir
   obtain ⟨B3, d3, rfl, hu1, hu2⟩ := hu.slice
   obtain ⟨a, pt, es, hx⟩ : ∃ a pt es, p.secs[i] = (a, pt, es) := ⟨_, _, _, rfl⟩
   have HX := Lib.hid hx
   rw [hx] at hc0 hc1 hc2
   dsimp only at hc0 hc1 hc2
   obtain ⟨m3, e3⟩ : ∃ m, m = es.length := ⟨_, rfl⟩
   rw [← e3] at hc2
   have hg0 : wx.cell? ⟨bk, off + i * 3, none⟩ = some (.int .i64 a) := hc0
   have hg1 : wx.cell? ⟨bk, off + i * 3 + 1, none⟩ = some (.int .i64 pt) := hc1
   have hg2 : wx.cell? ⟨bk, off + i * 3 + 2, none⟩ = some (.slice B3 m3 d3) := hc2
   clear hc0 hc1 hc2 hx hbk hu hu1 hu2 e3
   have HT : Hid ((p.secs.take (i + 1)).map (fun x : Sec => (x.1, (2 : Int))) = (p.secs.take i).map (fun x : Sec => (x.1, (2 : Int))) ++ [(a, (2 : Int))]) := Lib.hid (by rw [List.take_succ_eq_append_getElem hir, List.map_append, HX.out]; rfl)
   have HLN : Hid (((p.secs.take i).map (fun x : Sec => (x.1, (2 : Int)))).length = i) := Lib.hid (by rw [List.length_map, List.length_take]; omega)
   have hb16 := B16.out
   obtain ⟨q3, hq3⟩ : ∃ u, u = wx.alloc (.cells #[.int .i64 a, .int .i64 pt, .slice B3 m3 d3] 60) := ⟨_, rfl⟩
   have x3 := heap_alloc_self wx (.cells #[.int .i64 a, .int .i64 pt, .slice B3 m3 d3] 60)
   have b3_ := below_new wx (.cells #[.int .i64 a, .int .i64 pt, .slice B3 m3 d3] 60)
   rw [← hq3] at x3 b3_
   have HQ3 := Lib.hid hq3
   have X3 := Lib.hid x3
   have XP := Lib.hid ((b3_.block _ (heap_lt XW.out)).trans XW.out)
   have OP := Lib.hid (OW.out.below trkR b3_)
   have BP : Hid (Below px w1 q3) := Lib.hid (BW.out.trans (b3_.mono (Nat.le_trans (Nat.le_of_eq PW.out) BW.out.size)))
   clear x3 b3_ hq3
   go_upto_region 8 with fail
   rw [← HQ3.out]
   clear HQ3 hg0 hg1 hg2
   generalize wx.heap.size = p7 at X3 ⊢
   obtain ⟨i0_, hii, hz0, hz1, hz2⟩ := info_parts info_trk
   have I0 := Lib.hid hii
   have I1 := Lib.hid hz0
   have I2 := Lib.hid hz1
   have I3 := Lib.hid hz2
   obtain ⟨yss, hown, hyl, hm_, hys, hyr⟩ := OP.out
   have O : Hid (q3.ownsRow px 51 2 (.slice A i c) i yss.flatten) := Lib.hid (by have h := hown; rw [HLN.out] at h; exact h)
   have YL := Lib.hid hyl
   have YS := Lib.hid hys
   have YR := Lib.hid hyr
   have PQ : Hid (px ≤ q3.heap.size) := Lib.hid (Nat.le_trans (Nat.le_of_eq PW.out) BP.out.size)
   clear hii hz0 hz1 hz2 hown hyl hm_ hys hyr
   obtain ⟨e0, e1, e2⟩ := cell3_of X3.out
   obtain ⟨m0, m1, m2⟩ := cell3_of XP.out
   go_upto_region 9 with ((with_reducible show wpList _ _ _ (⟨some 31, _, _, _, _, _⟩ :: _) _ _); refine wpList_append_list rfl (.tmp 26) (.tmp 30) _ rfl Tryz.underlying28 I0.out I1.out rfl I2.out (by decide) I3.out (by decide) rfl (O.out.alloc _) rfl (m := 1) (news := [.int .i64 a, .int .u8 2]) rfl (fun h => by cases h) (fun a ha j u hj => by cases ha; rw [Addr.add_lit, Nat.zero_add, World.cell?_alloc_new]; simpa using hj) (by simp [Value.oneCell']) (by omega) (by have := PQ.out; simp; omega) ?_; intro v4 w9 hown4 hgrow4; have hX9 := box_more15 XP.out _ O.out (by decide) hgrow4; have S4 := ListOwn.snoc (w1 := q3) (x := (a, (2 : Int))) (ys := [.int .i64 a, .int .u8 2]) trkR (fun _ h _ _ => h) (show q3.ownsRow px 51 2 (.slice A i c) ((p.secs.take i).map (fun x : Sec => (x.1, (2 : Int)))).length yss.flatten by rw [HLN.out]; exact O.out) YL.out YS.out rfl (by have := HLN.out; unfold maxLen; omega) YR.out (Below.refl _ _) ⟨rfl, rfl, show (0 : Int) ≤ 2 by decide, show (2 : Int) < 256 by decide⟩ (by rw [HLN.out]; exact hown4) hgrow4; obtain ⟨A8, c8, e8⟩ := S4.slice; obtain ⟨L, hL⟩ : ∃ z, z = ((p.secs.take i).map (fun x : Sec => (x.1, (2 : Int))) ++ [(a, (2 : Int))]).length := ⟨_, rfl⟩; rw [← hL] at e8; subst e8; have HL : Hid (L = i + 1) := Lib.hid (by rw [hL, List.length_append, HLN.out]; rfl); clear hL; obtain ⟨n0_, n1_, n2_⟩ := cell3_of hX9; have fz := frozen2_of hX9 0)
   have hTR := own_off15 (R := TrkR) trkF S4 (grown_setK w9 px 0 (.slice A8 L c8)) (by decide) ⟨_, hX9⟩
   have hBY := below_set ((BP.out.alloc (Nat.le_trans (Nat.le_of_eq PW.out) BP.out.size) _).grown hgrow4 (by have := PQ.out; simp; omega) (own_ge O.out)) (Nat.le_refl px) 0 (.slice A8 L c8)
   have hXY := heap_setK (k := 0) hX9 (.slice A8 L c8)
   generalize w9.setCell ⟨px, 0, none⟩ (.slice A8 L c8) = wy at hTR hBY hXY ⊢
   clear fz n0_ n1_ n2_ m0 m1 m2 O YL YS YR S4 hX9 hown4 hgrow4 XP OP BP X3 e0 e1 e2
   obtain rfl := HL.out
   have XN : Hid (wy.heap[px]? = some (.cells #[.slice A8 (i + 1) c8, .slice none 0 0, .slice none 0 0] 32 (0, 0))) := Lib.hid hXY
   have ON : Hid (TrksOwn wy px (.slice A8 (i + 1) c8) ((p.secs.take (i + 1)).map (fun x : Sec => (x.1, (2 : Int))))) := Lib.hid (by rw [HT.out]; exact hTR)
   have BN := Lib.hid hBY
   clear hXY hTR hBY
   go_wp2_with fail
   go_roundw
   case measure => simp [intOf]; omega
   case rel => exact ⟨i + 1, by omega, by go_num, ⟨A8, c8, XN.out, ON.out⟩, BN.out⟩
  ·obtain rfl : b2 = i := by omega
   have hlt' : ¬ (b2 : Int) < b2 := by omega
   have OF : Hid (TrksOwn wx px (.slice A b2 c) (p.secs.map (fun x : Sec => (x.1, (2 : Int))))) := Lib.hid (by have h := OW.out; rw [List.take_of_length_le (by have := HBN.out; omega)] at h; exact h)
   obtain ⟨D0, hD0⟩ : ∃ u, u = A := ⟨_, rfl⟩
   subst hD0
   obtain ⟨g0, hgk0⟩ : ∃ u, u = c := ⟨_, rfl⟩
   subst hgk0
   obtain ⟨m0, m1, m2⟩ := cell3_of XW.out
   obtain ⟨k0, k1, k2, k3, k4, k5⟩ := cell6_of ((BW.out.block _ (by have := PX.out; omega)).trans X1.out)
   go_wp2_with fail
   clear k0 k1 k2 k3 k4 k5 m0 m1 m2
   have XX := XW
   have BX := BW
   have O0 := OF
   go_loopw [37] (fun s37 wr => ∃ i : Nat, i ≤ b3 ∧ s37 = .int .i64 i ∧ (∃ A c, wr.heap[px]? = some (.cells #[.slice D0 b2 g0, .slice A i c, .slice none 0 0] 32 (0, 0)) ∧ SwisOwn wr px (.slice A i c) ((p.pts.take i).map (fun x : Jn => (x.1, (0 : Int), (0 : Int))))) ∧ Below px w1 wr ∧ TrksOwn wr px (.slice D0 b2 g0) (p.secs.map (fun x : Sec => (x.1, (2 : Int))))) (fun s37 _ => b3 - (intOf s37).toNat)
   case atStart => exact ⟨0, by omega, by go_num, ⟨none, 0, XX.out, ListOwn.nil_⟩, BX.out, O0.out⟩
   case round =>
    obtain ⟨wx, hwx⟩ : ∃ u, u = wr := ⟨_, rfl⟩
    subst hwx
    obtain ⟨i, hi, rfl, ⟨A, c, hxx, how⟩, hbw, hO0⟩ := hrel
    have XW := Lib.hid hxx
    have OW := Lib.hid how
    have BW := Lib.hid hbw
    have OJ0 := Lib.hid hO0
    clear hxx how hbw hO0
    by_cases hlt : i < b3
    ·have hlt' : (i : Int) < b3 := by omega
     have hir : i < p.pts.length := by have := HBN.out; omega
     have BWW : Hid (Below w.heap.size w wx) := Lib.hid (B1.out.trans (BW.out.mono (by have := PX.out; omega)))
     obtain ⟨bk, off, rfl, hbk, hc0, hc1⟩ := ((P3.out.below joinR BWW.out).more joinR BWW.out.size).at hir
     obtain ⟨a, b, hx⟩ : ∃ a b, p.pts[i] = (a, b) := ⟨_, _, rfl⟩
     have HX := Lib.hid hx
     rw [hx] at hc0 hc1
     dsimp only at hc0 hc1
     have hg0 : wx.cell? ⟨bk, off + i * 2, none⟩ = some (.int .i64 a) := hc0
     have hg1 : wx.cell? ⟨bk, off + i * 2 + 1, none⟩ = some (.int .i64 b) := hc1
     clear hc0 hc1 hx hbk
     have HT : Hid ((p.pts.take (i + 1)).map (fun x : Jn => (x.1, (0 : Int), (0 : Int))) = (p.pts.take i).map (fun x : Jn => (x.1, (0 : Int), (0 : Int))) ++ [(a, (0 : Int), (0 : Int))]) := Lib.hid (by rw [List.take_succ_eq_append_getElem hir, List.map_append, HX.out]; rfl)
     have HLN : Hid (((p.pts.take i).map (fun x : Jn => (x.1, (0 : Int), (0 : Int)))).length = i) := Lib.hid (by rw [List.length_map, List.length_take]; omega)
     have hb16 := B16.out
     obtain ⟨q3, hq3⟩ : ∃ u, u = wx.alloc (.cells #[.int .i64 a, .int .i64 b] 67) := ⟨_, rfl⟩
     have x3 := heap_alloc_self wx (.cells #[.int .i64 a, .int .i64 b] 67)
     have b3_ := below_new wx (.cells #[.int .i64 a, .int .i64 b] 67)
     rw [← hq3] at x3 b3_
     have HQ3 := Lib.hid hq3
     have X3 := Lib.hid x3
     have XP := Lib.hid ((b3_.block _ (heap_lt XW.out)).trans XW.out)
     have OP := Lib.hid (OW.out.below sigR b3_)
     have OQ0 := Lib.hid (OJ0.out.below trkR b3_)
     have BP : Hid (Below px w1 q3) := Lib.hid (BW.out.trans (b3_.mono (Nat.le_trans (Nat.le_of_eq PW.out) BW.out.size)))
     clear x3 b3_ hq3
     go_upto_region 13 with fail
     rw [← HQ3.out]
     clear HQ3 hg0 hg1
     generalize wx.heap.size = p7 at X3 ⊢
     obtain ⟨i0_, hii, hz0, hz1, hz2⟩ := info_parts info_swi
     have I0 := Lib.hid hii
     have I1 := Lib.hid hz0
     have I2 := Lib.hid hz1
     have I3 := Lib.hid hz2
     obtain ⟨yss, hown, hyl, hm_, hys, hyr⟩ := OP.out
     have O : Hid (q3.ownsRow px 55 3 (.slice A i c) i yss.flatten) := Lib.hid (by have h := hown; rw [HLN.out] at h; exact h)
     have YL := Lib.hid hyl
     have YS := Lib.hid hys
     have YR := Lib.hid hyr
     have PQ : Hid (px ≤ q3.heap.size) := Lib.hid (Nat.le_trans (Nat.le_of_eq PW.out) BP.out.size)
     clear hii hz0 hz1 hz2 hown hyl hm_ hys hyr
     obtain ⟨e0, e1⟩ := cell2_of X3.out
     obtain ⟨m0, m1, m2⟩ := cell3_of XP.out
     go_upto_region 14 with ((with_reducible show wpList _ _ _ (⟨some 47, _, _, _, _, _⟩ :: _) _ _); refine wpList_append_list rfl (.tmp 42) (.tmp 46) _ rfl Tryz.underlying29 I0.out I1.out rfl I2.out (by decide) I3.out (by decide) rfl (O.out.alloc _) rfl (m := 1) (news := [.int .i64 a, .int .i64 0, .int .i64 0]) rfl (fun h => by cases h) (fun a ha j u hj => by cases ha; rw [Addr.add_lit, Nat.zero_add, World.cell?_alloc_new]; simpa using hj) (by simp [Value.oneCell']) (by omega) (by have := PQ.out; simp; omega) ?_; intro v4 w9 hown4 hgrow4; have hX9 := box_more15 XP.out _ O.out (by decide) hgrow4; have S4 := ListOwn.snoc (w1 := q3) (x := (a, (0 : Int), (0 : Int))) (ys := [.int .i64 a, .int .i64 0, .int .i64 0]) sigR (fun _ h _ _ => h) (show q3.ownsRow px 55 3 (.slice A i c) ((p.pts.take i).map (fun x : Jn => (x.1, (0 : Int), (0 : Int)))).length yss.flatten by rw [HLN.out]; exact O.out) YL.out YS.out rfl (by have := HLN.out; unfold maxLen; omega) YR.out (Below.refl _ _) ⟨rfl, rfl, rfl⟩ (by rw [HLN.out]; exact hown4) hgrow4; obtain ⟨A8, c8, e8⟩ := S4.slice; obtain ⟨L, hL⟩ : ∃ z, z = ((p.pts.take i).map (fun x : Jn => (x.1, (0 : Int), (0 : Int))) ++ [(a, (0 : Int), (0 : Int))]).length := ⟨_, rfl⟩; rw [← hL] at e8; subst e8; have HL : Hid (L = i + 1) := Lib.hid (by rw [hL, List.length_append, HLN.out]; rfl); clear hL; obtain ⟨n0_, n1_, n2_⟩ := cell3_of hX9; have fz := frozen2_of hX9 1)
     have hTR := own_off15 (R := SigR) sigF S4 (grown_setK w9 px 1 (.slice A8 L c8)) (by decide) ⟨_, hX9⟩
     have hT0 := own_off15 (R := TrkR) trkF (own_more15 (R := TrkR) trkR trkF OQ0.out _ O.out (by decide) hgrow4) (grown_setK w9 px 1 (.slice A8 L c8)) (by decide) ⟨_, hX9⟩
     have hBY := below_set ((BP.out.alloc (Nat.le_trans (Nat.le_of_eq PW.out) BP.out.size) _).grown hgrow4 (by have := PQ.out; simp; omega) (own_ge O.out)) (Nat.le_refl px) 1 (.slice A8 L c8)
     have hXY := heap_setK (k := 1) hX9 (.slice A8 L c8)
     generalize w9.setCell ⟨px, 1, none⟩ (.slice A8 L c8) = wy at hTR hBY hXY hT0 ⊢
     clear fz n0_ n1_ n2_ m0 m1 m2 O YL YS YR S4 hX9 hown4 hgrow4 XP OP BP X3 e0 e1
     obtain rfl := HL.out
     have XN : Hid (wy.heap[px]? = some (.cells #[.slice D0 b2 g0, .slice A8 (i + 1) c8, .slice none 0 0] 32 (0, 0))) := Lib.hid hXY
     have ON : Hid (SwisOwn wy px (.slice A8 (i + 1) c8) ((p.pts.take (i + 1)).map (fun x : Jn => (x.1, (0 : Int), (0 : Int))))) := Lib.hid (by rw [HT.out]; exact hTR)
     have BN := Lib.hid hBY
     have ON0 := Lib.hid hT0
     clear hXY hTR hBY hT0
     go_wp2_with fail
     go_roundw
     case measure => simp [intOf]; omega
     case rel => exact ⟨i + 1, by omega, by go_num, ⟨A8, c8, XN.out, ON.out⟩, BN.out, ON0.out⟩
    ·obtain rfl : b3 = i := by omega
     have hlt' : ¬ (b3 : Int) < b3 := by omega
     have OF : Hid (SwisOwn wx px (.slice A b3 c) (p.pts.map (fun x : Jn => (x.1, (0 : Int), (0 : Int))))) := Lib.hid (by have h := OW.out; rw [List.take_of_length_le (by have := HBN.out; omega)] at h; exact h)
     obtain ⟨D1, hD1⟩ : ∃ u, u = A := ⟨_, rfl⟩
     subst hD1
     obtain ⟨g1, hgk1⟩ : ∃ u, u = c := ⟨_, rfl⟩
     subst hgk1
     obtain ⟨m0, m1, m2⟩ := cell3_of XW.out
     obtain ⟨k0, k1, k2, k3, k4, k5⟩ := cell6_of ((BW.out.block _ (by have := PX.out; omega)).trans X1.out)
     go_wp2_with fail
     clear k0 k1 k2 k3 k4 k5 m0 m1 m2
     have XX := XW
     have BX := BW
     have O1 := OF
     have O0 := OJ0
     go_loopw [53] (fun s53 wr => ∃ i : Nat, i ≤ b5 ∧ s53 = .int .i64 i ∧ (∃ A c, wr.heap[px]? = some (.cells #[.slice D0 b2 g0, .slice D1 b3 g1, .slice A i c] 32 (0, 0)) ∧ LcksOwn wr px (.slice A i c) ((p.routes.take i).map (fun x : Rt => (x.id, (0 : Int), (0 : Int), (0 : Int))))) ∧ Below px w1 wr ∧ TrksOwn wr px (.slice D0 b2 g0) (p.secs.map (fun x : Sec => (x.1, (2 : Int)))) ∧ SwisOwn wr px (.slice D1 b3 g1) (p.pts.map (fun x : Jn => (x.1, (0 : Int), (0 : Int))))) (fun s53 _ => b5 - (intOf s53).toNat)
     case atStart => exact ⟨0, by omega, by go_num, ⟨none, 0, XX.out, ListOwn.nil_⟩, BX.out, O0.out, O1.out⟩
     case round =>
      obtain ⟨wx, hwx⟩ : ∃ u, u = wr := ⟨_, rfl⟩
      subst hwx
      obtain ⟨i, hi, rfl, ⟨A, c, hxx, how⟩, hbw, hO0, hO1⟩ := hrel
      have XW := Lib.hid hxx
      have OW := Lib.hid how
      have BW := Lib.hid hbw
      have OJ0 := Lib.hid hO0
      have OJ1 := Lib.hid hO1
      clear hxx how hbw hO0 hO1
      by_cases hlt : i < b5
      ·have hlt' : (i : Int) < b5 := by omega
       have hir : i < p.routes.length := by have := HBN.out; omega
       have BWW : Hid (Below w.heap.size w wx) := Lib.hid (B1.out.trans (BW.out.mono (by have := PX.out; omega)))
       obtain ⟨bk, off, rfl, hbk, hc0, hc1, hc2, hc6, u3, u4, u5, hc3, hc4, hc5, hr⟩ := ((P5.out.below routeR BWW.out).more routeR BWW.out.size).at hir
       obtain ⟨B3, d3, rfl, hk3, hm3⟩ := hr.path.slice
       obtain ⟨B4, d4, rfl, -, -⟩ := hr.over.slice
       obtain ⟨B5, d5, rfl, -, -⟩ := hr.flanks.slice
       obtain ⟨a, en, ex, lp, lo, lf, tm, hx⟩ : ∃ a en ex lp lo lf tm, p.routes[i] = (⟨a, en, ex, lp, lo, lf, tm⟩ : Rt) := ⟨_, _, _, _, _, _, _, rfl⟩
       have HX := Lib.hid hx
       rw [hx] at hc0 hc1 hc2 hc3 hc4 hc5 hc6 hr hk3
       dsimp only at hc0 hc1 hc2 hc3 hc4 hc5 hc6 hr hk3
       obtain ⟨m3, e3⟩ : ∃ m, m = lp.length := ⟨_, rfl⟩
       obtain ⟨m4, e4⟩ : ∃ m, m = lo.length := ⟨_, rfl⟩
       obtain ⟨m5, e5⟩ : ∃ m, m = lf.length := ⟨_, rfl⟩
       rw [← e3] at hc3 hk3
       rw [← e4] at hc4
       rw [← e5] at hc5
       have HM : Hid (m3 = lp.length ∧ m3 ≤ 9223372036854775807) := Lib.hid ⟨e3, by unfold maxLen at hm3; omega⟩
       have hg0 : wx.cell? ⟨bk, off + i * 7, none⟩ = some (.int .i64 a) := hc0
       have hg1 : wx.cell? ⟨bk, off + i * 7 + 1, none⟩ = some (.int .i64 en) := hc1
       have hg2 : wx.cell? ⟨bk, off + i * 7 + 2, none⟩ = some (.int .i64 ex) := hc2
       have hg3 : wx.cell? ⟨bk, off + i * 7 + 3, none⟩ = some (.slice B3 m3 d3) := hc3
       have hg4 : wx.cell? ⟨bk, off + i * 7 + 4, none⟩ = some (.slice B4 m4 d4) := hc4
       have hg5 : wx.cell? ⟨bk, off + i * 7 + 5, none⟩ = some (.slice B5 m5 d5) := hc5
       have hg6 : wx.cell? ⟨bk, off + i * 7 + 6, none⟩ = some (.int .i64 tm) := hc6
       clear hc0 hc1 hc2 hc3 hc4 hc5 hc6 hx hbk hr hk3 hm3 e3 e4 e5
       have HT : Hid ((p.routes.take (i + 1)).map (fun x : Rt => (x.id, (0 : Int), (0 : Int), (0 : Int))) = (p.routes.take i).map (fun x : Rt => (x.id, (0 : Int), (0 : Int), (0 : Int))) ++ [(a, (0 : Int), (0 : Int), (0 : Int))]) := Lib.hid (by rw [List.take_succ_eq_append_getElem hir, List.map_append, HX.out]; rfl)
       have HLN : Hid (((p.routes.take i).map (fun x : Rt => (x.id, (0 : Int), (0 : Int), (0 : Int)))).length = i) := Lib.hid (by rw [List.length_map, List.length_take]; omega)
       have hb16 := B16.out
       obtain ⟨q3, hq3⟩ : ∃ u, u = wx.alloc (.cells #[.int .i64 a, .int .i64 en, .int .i64 ex, .slice B3 m3 d3, .slice B4 m4 d4, .slice B5 m5 d5, .int .i64 tm] 64) := ⟨_, rfl⟩
       have x3 := heap_alloc_self wx (.cells #[.int .i64 a, .int .i64 en, .int .i64 ex, .slice B3 m3 d3, .slice B4 m4 d4, .slice B5 m5 d5, .int .i64 tm] 64)
       have b3_ := below_new wx (.cells #[.int .i64 a, .int .i64 en, .int .i64 ex, .slice B3 m3 d3, .slice B4 m4 d4, .slice B5 m5 d5, .int .i64 tm] 64)
       rw [← hq3] at x3 b3_
       have HQ3 := Lib.hid hq3
       have X3 := Lib.hid x3
       have XP := Lib.hid ((b3_.block _ (heap_lt XW.out)).trans XW.out)
       have OP := Lib.hid (OW.out.below lckR b3_)
       have OQ0 := Lib.hid (OJ0.out.below trkR b3_)
       have OQ1 := Lib.hid (OJ1.out.below sigR b3_)
       have BP : Hid (Below px w1 q3) := Lib.hid (BW.out.trans (b3_.mono (Nat.le_trans (Nat.le_of_eq PW.out) BW.out.size)))
       clear x3 b3_ hq3
       go_upto_region 18 with fail
       rw [← HQ3.out]
       clear HQ3 hg0 hg1 hg2 hg3 hg4 hg5 hg6
       generalize wx.heap.size = p7 at X3 ⊢
       obtain ⟨i0_, hii, hz0, hz1, hz2⟩ := info_parts info_lck
       have I0 := Lib.hid hii
       have I1 := Lib.hid hz0
       have I2 := Lib.hid hz1
       have I3 := Lib.hid hz2
       obtain ⟨yss, hown, hyl, hm_, hys, hyr⟩ := OP.out
       have O : Hid (q3.ownsRow px 53 4 (.slice A i c) i yss.flatten) := Lib.hid (by have h := hown; rw [HLN.out] at h; exact h)
       have YL := Lib.hid hyl
       have YS := Lib.hid hys
       have YR := Lib.hid hyr
       have PQ : Hid (px ≤ q3.heap.size) := Lib.hid (Nat.le_trans (Nat.le_of_eq PW.out) BP.out.size)
       clear hii hz0 hz1 hz2 hown hyl hm_ hys hyr
       obtain ⟨e0, e1, e2, e3, e4, e5, e6⟩ := cell7_of X3.out
       obtain ⟨m0, m1, m2⟩ := cell3_of XP.out
       go_upto_region 19 with ((with_reducible show wpList _ _ _ (⟨some 63, _, _, _, _, _⟩ :: _) _ _); refine wpList_append_list rfl (.tmp 58) (.tmp 62) _ rfl Tryz.underlying30 I0.out I1.out rfl I2.out (by decide) I3.out (by decide) rfl (O.out.alloc _) rfl (m := 1) (news := [.int .i64 a, .int .u8 0, .int .i64 0, .int .i64 0]) rfl (fun h => by cases h) (fun a ha j u hj => by cases ha; rw [Addr.add_lit, Nat.zero_add, World.cell?_alloc_new]; simpa using hj) (by simp [Value.oneCell']) (by omega) (by have := PQ.out; simp; omega) ?_; intro v4 w9 hown4 hgrow4; have hX9 := box_more15 XP.out _ O.out (by decide) hgrow4; have S4 := ListOwn.snoc (w1 := q3) (x := (a, (0 : Int), (0 : Int), (0 : Int))) (ys := [.int .i64 a, .int .u8 0, .int .i64 0, .int .i64 0]) lckR (fun _ h _ _ => h) (show q3.ownsRow px 53 4 (.slice A i c) ((p.routes.take i).map (fun x : Rt => (x.id, (0 : Int), (0 : Int), (0 : Int)))).length yss.flatten by rw [HLN.out]; exact O.out) YL.out YS.out rfl (by have := HLN.out; unfold maxLen; omega) YR.out (Below.refl _ _) ⟨rfl, rfl, rfl, rfl, show (0 : Int) ≤ 0 by decide, show (0 : Int) < 256 by decide⟩ (by rw [HLN.out]; exact hown4) hgrow4; obtain ⟨A8, c8, e8⟩ := S4.slice; obtain ⟨L, hL⟩ : ∃ z, z = ((p.routes.take i).map (fun x : Rt => (x.id, (0 : Int), (0 : Int), (0 : Int))) ++ [(a, (0 : Int), (0 : Int), (0 : Int))]).length := ⟨_, rfl⟩; rw [← hL] at e8; subst e8; have HL : Hid (L = i + 1) := Lib.hid (by rw [hL, List.length_append, HLN.out]; rfl); clear hL; obtain ⟨n0_, n1_, n2_⟩ := cell3_of hX9; have fz := frozen2_of hX9 2)
       have hTR := own_off15 (R := LckR) lckF S4 (grown_setK w9 px 2 (.slice A8 L c8)) (by decide) ⟨_, hX9⟩
       have hT0 := own_off15 (R := TrkR) trkF (own_more15 (R := TrkR) trkR trkF OQ0.out _ O.out (by decide) hgrow4) (grown_setK w9 px 2 (.slice A8 L c8)) (by decide) ⟨_, hX9⟩
       have hT1 := own_off15 (R := SigR) sigF (own_more15 (R := SigR) sigR sigF OQ1.out _ O.out (by decide) hgrow4) (grown_setK w9 px 2 (.slice A8 L c8)) (by decide) ⟨_, hX9⟩
       have hBY := below_set ((BP.out.alloc (Nat.le_trans (Nat.le_of_eq PW.out) BP.out.size) _).grown hgrow4 (by have := PQ.out; simp; omega) (own_ge O.out)) (Nat.le_refl px) 2 (.slice A8 L c8)
       have hXY := heap_setK (k := 2) hX9 (.slice A8 L c8)
       generalize w9.setCell ⟨px, 2, none⟩ (.slice A8 L c8) = wy at hTR hBY hXY hT0 hT1 ⊢
       clear fz n0_ n1_ n2_ m0 m1 m2 O YL YS YR S4 hX9 hown4 hgrow4 XP OP BP X3 e0 e1 e2 e3 e4 e5 e6
       obtain rfl := HL.out
       have XN : Hid (wy.heap[px]? = some (.cells #[.slice D0 b2 g0, .slice D1 b3 g1, .slice A8 (i + 1) c8] 32 (0, 0))) := Lib.hid hXY
       have ON : Hid (LcksOwn wy px (.slice A8 (i + 1) c8) ((p.routes.take (i + 1)).map (fun x : Rt => (x.id, (0 : Int), (0 : Int), (0 : Int))))) := Lib.hid (by rw [HT.out]; exact hTR)
       have BN := Lib.hid hBY
       have ON0 := Lib.hid hT0
       have ON1 := Lib.hid hT1
       clear hXY hTR hBY hT0 hT1
       go_wp2_with fail
       go_roundw
       case measure => simp [intOf]; omega
       case rel => exact ⟨i + 1, by omega, by go_num, ⟨A8, c8, XN.out, ON.out⟩, BN.out, ON0.out, ON1.out⟩
      ·obtain rfl : b5 = i := by omega
       have hlt' : ¬ (b5 : Int) < b5 := by omega
       have OF : Hid (LcksOwn wx px (.slice A b5 c) (p.routes.map (fun x : Rt => (x.id, (0 : Int), (0 : Int), (0 : Int))))) := Lib.hid (by have h := OW.out; rw [List.take_of_length_le (by have := HBN.out; omega)] at h; exact h)
       obtain ⟨D2, hD2⟩ : ∃ u, u = A := ⟨_, rfl⟩
       subst hD2
       obtain ⟨g2, hgk2⟩ : ∃ u, u = c := ⟨_, rfl⟩
       subst hgk2
       obtain ⟨m0, m1, m2⟩ := cell3_of XW.out
       have ZF := Lib.hid ((BW.out.block _ (by have := PX.out; omega)).trans Z1.out)
       have BF : Hid (Below w.heap.size w wx) := Lib.hid (B1.out.trans (BW.out.mono (by have := PX.out; omega)))
       go_wp2_with ((with_reducible show wpList _ _ _ (⟨none, .store _ _ _, _, _, _, _⟩ :: _) _ _); refine wpList_store_rowS rfl _ (.tmp 2) (.tmp 66) rfl (w.heap.size + 1) rfl (c' := #[.slice D0 b2 g0, .slice D1 b3 g1, .slice D2 b5 g2]) rfl ZF.out infoStP15 rfl (by simp [Value.oneCell']) ?_)
       have hg := grownBy_setRow wx (w.heap.size + 1) #[.slice D0 b2 g0, .slice D1 b3 g1, .slice D2 b5 g2]
       exact bodyPost_ret (results_rowS_tmp (c := #[.slice D0 b2 g0, .slice D1 b3 g1, .slice D2 b5 g2]) rfl _ _ (w.heap.size + 1) rfl (setRow_heap _ _ _ _ _ _ ZF.out) Tryz.underlying32 infoStP15 (.int .i64 0) rfl) rfl ⟨_, _, _, by rw [HR.out.1], by rw [HR.out.2]; exact (StOwn.off (k := w.heap.size + 1) (lo := px) ⟨OJ0.out, OJ1.out, OF.out⟩ hg (by have := PX.out; omega)).mono (by have := PX.out; omega), below_setRow BF.out (Nat.le_succ _) _⟩
end Go.Proofs.YtemmgmjhomgbbaaGreat
