/-
 What a route holds is its own: the walk, given the program's answers.
 Conditions: none.
-/
import Derived.Test.YtemmgmjhomgbbaaQGStaOne
import Derived.Test.YtemmgmjhomgbbaaQGStaRef
import Derived.Test.YtemmgmjhomgbbaaQGStaO
import Derived.BigQuiet
set_option linter.unusedVariables false
set_option linter.unusedSimpArgs false
set_option maxRecDepth 100000
namespace Go.Proofs.Ytemmgmjhomgbbaa
open Go.RowKit

theorem planV_in15 {W : World} {B : Nat} {p : Pl} {v2 v3 v4 v5 : Value} (h : PlanV W B (.agg #[.int .i64 p.ver, .int .i64 p.par, v2, v3, v4, v5]) p) : PlIn W B v2 v3 v4 v5 p := by
 obtain ⟨u2, u3, u4, u5, e, h⟩ := h
 cases e
 exact h
theorem infoLck15 : (Try.prog.info? 48).map (·.size) = some 4 := by kernel_rfl
theorem infoAsk15 : (Try.prog.info? 60).map (·.size) = some 3 := by kernel_rfl
theorem staE_may {p : Pl} {s : St15} (h : staE p s = 0) : StMay p s := by
 unfold staE at h
 by_cases h1 : soundP p = true
 ·rw [if_pos h1] at h
  by_cases h2 : stMay p s = true
  ·exact stMay_iff.1 h2
  ·rw [if_neg h2] at h; exact absurd h (by decide)
 ·rw [if_neg h1] at h; exact absurd h (by decide)
set_option maxHeartbeats 16000000 in
theorem walk_state_holds (hc : StaSaid) (hw : WaySaid) (v y : Value) (p : Pl) (s : St15) (at_ : Int) (w : World) (h : PlanV w w.heap.size v p) (h' : StateV w w.heap.size y s) :
  Calls Try.prog 5 #[v, y, .int .i64 at_] w fun e w' => e = .returned (.bool true) ∧ Below w.heap.size w w' := by
 obtain ⟨y2, y3, y4, y5, rfl, hin⟩ := h
 obtain ⟨u0, u1, u2, rfl, hsn⟩ := h'
 obtain ⟨A2, c2, rfl, -, -⟩ := hin.secs.slice
 obtain ⟨n2, hn2⟩ : ∃ z_, z_ = p.secs.length := ⟨_, rfl⟩
 obtain ⟨A3, c3, rfl, -, -⟩ := hin.pts.slice
 obtain ⟨n3, hn3⟩ : ∃ z_, z_ = p.pts.length := ⟨_, rfl⟩
 obtain ⟨A4, c4, rfl, -, -⟩ := hin.sigs.slice
 obtain ⟨n4, hn4⟩ : ∃ z_, z_ = p.sigs.length := ⟨_, rfl⟩
 obtain ⟨AR, cR, rfl, -, -⟩ := hin.routes.slice
 obtain ⟨nR, hnR⟩ : ∃ z_, z_ = p.routes.length := ⟨_, rfl⟩
 rw [← hn2] at hin
 rw [← hn2]
 rw [← hn3] at hin
 rw [← hn3]
 rw [← hn4] at hin
 rw [← hn4]
 rw [← hnR] at hin
 rw [← hnR]
 obtain ⟨S0, t0, rfl⟩ := st_sl hsn.tr
 obtain ⟨s0, hs0⟩ : ∃ z_, z_ = s.tr.length := ⟨_, rfl⟩
 obtain ⟨S1, t1, rfl⟩ := st_sl hsn.sw
 obtain ⟨s1, hs1⟩ : ∃ z_, z_ = s.sw.length := ⟨_, rfl⟩
 obtain ⟨S2, t2, rfl⟩ := st_sl hsn.lk
 obtain ⟨s2, hs2⟩ : ∃ z_, z_ = s.lk.length := ⟨_, rfl⟩
 rw [← hs0] at hsn
 rw [← hs0]
 rw [← hs1] at hsn
 rw [← hs1]
 rw [← hs2] at hsn
 rw [← hs2]
 have HNS : Hid (s0 = s.tr.length ∧ s1 = s.sw.length ∧ s2 = s.lk.length) := Lib.hid ⟨hs0, hs1, hs2⟩
 have HN : Hid (n2 = p.secs.length) := Lib.hid hn2
 clear hn2 hn3 hn4 hnR hs0 hs1 hs2
 obtain ⟨h0, h1, hqb⟩ := two_boxes w (.cells #[.int .i64 p.ver, .int .i64 p.par, .slice A2 n2 c2, .slice A3 n3 c3, .slice A4 n4 c4, .slice AR nR cR] 35) (.cells #[.slice S0 s0 t0, .slice S1 s1 t1, .slice S2 s2 t2] 26)
 go_enter Try.func5, Try.ntmps5
 go_upto_region 1 with fail
 generalize (w.alloc (.cells #[.int .i64 p.ver, .int .i64 p.par, .slice A2 n2 c2, .slice A3 n3 c3, .slice A4 n4 c4, .slice AR nR cR] 35)).alloc (.cells #[.slice S0 s0 t0, .slice S1 s1 t1, .slice S2 s2 t2] 26) = q at h0 h1 hqb ⊢
 have X0 := Lib.hid h0
 have X1 := Lib.hid h1
 have BQ := Lib.hid hqb
 have VP : Hid (PlanV q q.heap.size (.agg #[.int .i64 p.ver, .int .i64 p.par, .slice A2 n2 c2, .slice A3 n3 c3, .slice A4 n4 c4, .slice AR nR cR]) p) := Lib.hid ⟨_, _, _, _, rfl, (hin.below hqb).more hqb.size⟩
 have VS : Hid (StateV q q.heap.size (.agg #[.slice S0 s0 t0, .slice S1 s1 t1, .slice S2 s2 t2]) s) := Lib.hid ⟨_, _, _, rfl, (hsn.below hqb).more hqb.size⟩
 clear h0 h1 hqb hin hsn
 go_wp2_with fail
 refine (alive15 hc _).mono ?_
 rintro e wa ⟨rfl, bN⟩
 replace X0 := Lib.hid ((bN.block _ (heap_lt X0.out)).trans X0.out)
 replace X1 := Lib.hid ((bN.block _ (heap_lt X1.out)).trans X1.out)
 replace BQ := Lib.hid (BQ.out.trans (bN.mono BQ.out.size))
 replace VP := Lib.hid ((VP.out.below bN).more bN.size)
 replace VS := Lib.hid ((VS.out.below bN).more bN.size)
 clear bN
 obtain ⟨k0, k1, k2, k3, k4, k5⟩ := cell6_of X0.out
 go_wp2_with fail
 refine (rgreatP_any _ p wa VP.out).mono ?_
 rintro e w1 ⟨⟨g, rfl⟩, bN⟩
 clear k0 k1 k2 k3 k4 k5
 replace X0 := Lib.hid ((bN.block _ (heap_lt X0.out)).trans X0.out)
 replace X1 := Lib.hid ((bN.block _ (heap_lt X1.out)).trans X1.out)
 replace BQ := Lib.hid (BQ.out.trans (bN.mono BQ.out.size))
 replace VP := Lib.hid ((VP.out.below bN).more bN.size)
 replace VS := Lib.hid ((VS.out.below bN).more bN.size)
 clear bN
 cases g with
 | true =>
  go_wp2_with fail
  go_ret
  exact ⟨rfl, BQ.out⟩
 | false =>
 obtain ⟨l0, l1, l2⟩ := cell3_of X1.out
 go_wp2_with fail
 refine (rgreatS_any _ s w1 VS.out).mono ?_
 rintro e w2 ⟨⟨g, rfl, hfew⟩, bN⟩
 clear l0 l1 l2
 replace X0 := Lib.hid ((bN.block _ (heap_lt X0.out)).trans X0.out)
 replace X1 := Lib.hid ((bN.block _ (heap_lt X1.out)).trans X1.out)
 replace BQ := Lib.hid (BQ.out.trans (bN.mono BQ.out.size))
 replace VP := Lib.hid ((VP.out.below bN).more bN.size)
 replace VS := Lib.hid ((VS.out.below bN).more bN.size)
 clear bN
 cases g with
 | true =>
  go_wp2_with fail
  go_ret
  exact ⟨rfl, BQ.out⟩
 | false =>
 have FEW := Lib.hid (hfew rfl)
 clear hfew
 obtain ⟨k0, k1, k2, k3, k4, k5⟩ := cell6_of X0.out
 obtain ⟨l0, l1, l2⟩ := cell3_of X1.out
 obtain ⟨E, hE⟩ : ∃ z, z = staE p s := ⟨_, rfl⟩
 go_wp2_with fail
 refine (hc.check _ _ p s w2 VP.out VS.out).mono ?_
 rintro e w3 ⟨rfl, bN⟩
 rw [← hE]
 clear k0 k1 k2 k3 k4 k5 l0 l1 l2
 replace X0 := Lib.hid ((bN.block _ (heap_lt X0.out)).trans X0.out)
 replace X1 := Lib.hid ((bN.block _ (heap_lt X1.out)).trans X1.out)
 replace BQ := Lib.hid (BQ.out.trans (bN.mono BQ.out.size))
 replace VP := Lib.hid ((VP.out.below bN).more bN.size)
 replace VS := Lib.hid ((VS.out.below bN).more bN.size)
 clear bN
 obtain ⟨l0, l1, l2⟩ := cell3_of X1.out
 by_cases h0 : E = 0
 rotate_left
 ·have d0 : (E != 0) = true := by simpa using h0
  go_wp2_with fail
  go_ret
  exact ⟨rfl, BQ.out⟩
 subst h0
 have HM := Lib.hid (staE_may hE.symm)
 clear hE
 by_cases hn : at_ < 0
 ·have d0 : decide (at_ < 0) = true := decide_eq_true hn
  go_wp2_with fail
  go_ret
  exact ⟨rfl, BQ.out⟩
 have d0 : decide (at_ < 0) = false := decide_eq_false hn
 by_cases hg : at_ ≥ (s2 : Int)
 ·have d1 : decide (at_ ≥ (s2 : Int)) = true := decide_eq_true hg
  go_wp2_with fail
  go_ret
  exact ⟨rfl, BQ.out⟩
 have d1 : decide (at_ ≥ (s2 : Int)) = false := decide_eq_false hg
 obtain ⟨i0, rfl⟩ : ∃ i : Nat, at_ = (i : Int) := ⟨at_.toNat, by omega⟩
 have his : i0 < s.lk.length := by have := HNS.out; omega
 have hlt' : (i0 : Int) < s2 := by omega
 obtain ⟨v0, v1, v2, ev, hsn⟩ := VS.out
 cases ev
 obtain ⟨bl, ol, rfl, hbl, hc0, hc1, hc2, hc3, -, -⟩ := hsn.lk.at his
 obtain ⟨l0_, hl0⟩ : ∃ z, z = s.lk[i0].1 := ⟨_, rfl⟩
 obtain ⟨l1_, hl1⟩ : ∃ z, z = s.lk[i0].2.1 := ⟨_, rfl⟩
 obtain ⟨l2_, hl2⟩ : ∃ z, z = s.lk[i0].2.2.1 := ⟨_, rfl⟩
 obtain ⟨l3_, hl3⟩ : ∃ z, z = s.lk[i0].2.2.2 := ⟨_, rfl⟩
 rw [← hl0] at hc0
 rw [← hl1] at hc1
 rw [← hl2] at hc2
 rw [← hl3] at hc3
 have HL : Hid ((lkN s i0).1 = l0_ ∧ (lkN s i0).2.1 = l1_ ∧ (lkN s i0).2.2.1 = l2_) := Lib.hid (by rw [lkN_at his, hl0, hl1, hl2]; exact ⟨rfl, rfl, rfl⟩)
 have g0 : w3.cell? ⟨bl, ol + i0 * 4, none⟩ = some (.int .i64 l0_) := by simpa using hc0
 have g1 : w3.cell? ⟨bl, ol + i0 * 4 + 1, none⟩ = some (.int .u8 l1_) := by simpa using hc1
 have g2 : w3.cell? ⟨bl, ol + i0 * 4 + 2, none⟩ = some (.int .i64 l2_) := by simpa using hc2
 have g3 : w3.cell? ⟨bl, ol + i0 * 4 + 3, none⟩ = some (.int .i64 l3_) := by simpa using hc3
 clear hl0 hl1 hl2 hl3 hc0 hc1 hc2 hc3 hbl hsn
 have HIS := Lib.hid his
 clear his
 go_upto_region 5 with ((with_reducible show wpList _ _ _ (⟨none, .store _ _ _, _, _, _, _⟩ :: _) _ _); refine wpList_store_rowS rfl _ (.tmp 8) (.tmp 56) rfl w3.heap.size rfl (c' := #[.int .i64 l0_, .int .u8 l1_, .int .i64 l2_, .int .i64 l3_]) rfl (heap_alloc_self w3 (.cells #[.int .i64 0, .int .u8 0, .int .i64 0, .int .i64 0] 48)) infoLck15 rfl (by simp [Value.oneCell']) ?_)
 rw [World.setRow_alloc_new]
 have hx1 := heap_alloc_self w3 (.cells #[.int .i64 l0_, .int .u8 l1_, .int .i64 l2_, .int .i64 l3_] 48)
 have hb1 := below_new w3 (.cells #[.int .i64 l0_, .int .u8 l1_, .int .i64 l2_, .int .i64 l3_] 48)
 generalize w3.alloc (.cells #[.int .i64 l0_, .int .u8 l1_, .int .i64 l2_, .int .i64 l3_] 48) = w4 at hb1 hx1 ⊢
 obtain ⟨p8, hp1⟩ : ∃ n, n = w3.heap.size := ⟨_, rfl⟩
 rw [← hp1] at hx1 ⊢
 have X8 := Lib.hid hx1
 clear hx1 hp1
 replace X0 := Lib.hid ((hb1.block _ (heap_lt X0.out)).trans X0.out)
 replace X1 := Lib.hid ((hb1.block _ (heap_lt X1.out)).trans X1.out)
 replace BQ := Lib.hid (BQ.out.trans (hb1.mono BQ.out.size))
 replace VP := Lib.hid ((VP.out.below hb1).more hb1.size)
 replace VS := Lib.hid ((VS.out.below hb1).more hb1.size)
 clear hb1
 clear g0 g1 g2 g3 l0 l1 l2 d0 d1 hn hg hlt'
 obtain ⟨x, hx⟩ : ∃ z, z = wayR p (rtN p i0) := ⟨_, rfl⟩
 have HX := Lib.hid hx
 have HW : Hid (wayE p l0_ = 0 ∧ wayV p l0_ = x) := Lib.hid (by rw [← HL.out.1, hx]; exact way_lock HM.out HIS.out)
 clear hx
 obtain ⟨k0, k1, k2, k3, k4, k5⟩ := cell6_of X0.out
 obtain ⟨m0, m1, m2, m3⟩ := cell4_of X8.out
 go_wp2_with fail
 refine (hw.of _ p l0_ w4 VP.out).mono ?_
 rintro e wB ⟨u0, u1, u2, rfl, hu, bN⟩
 rw [HW.out.2] at hu
 rw [HW.out.1, HW.out.2]
 obtain ⟨nr, hnr⟩ : ∃ z, z = x.near := ⟨_, rfl⟩
 rw [← hnr]
 clear hnr
 have hi := hu.in_
 obtain ⟨D0, dd0, rfl⟩ := st_sl hi.path
 obtain ⟨D1, dd1, rfl⟩ := st_sl hi.over
 obtain ⟨D2, dd2, rfl⟩ := st_sl hi.asks
 obtain ⟨dn0, hd0⟩ : ∃ z_, z_ = x.path.length := ⟨_, rfl⟩
 rw [← hd0] at hi
 rw [← hd0]
 obtain ⟨dn1, hd1⟩ : ∃ z_, z_ = x.over.length := ⟨_, rfl⟩
 rw [← hd1] at hi
 rw [← hd1]
 obtain ⟨dn2, hd2⟩ : ∃ z_, z_ = x.asks.length := ⟨_, rfl⟩
 rw [← hd2] at hi
 rw [← hd2]
 have ND : Hid (dn0 = x.path.length ∧ dn1 = x.over.length ∧ dn2 = x.asks.length) := Lib.hid ⟨hd0, hd1, hd2⟩
 have hm0 : dn0 ≤ 9223372036854775807 := by obtain ⟨A, c, e, h1, h2⟩ := hi.path.slice; unfold maxLen at h2; omega
 have hm1 : dn1 ≤ 9223372036854775807 := by obtain ⟨A, c, e, h1, h2⟩ := hi.over.slice; unfold maxLen at h2; omega
 have hm2 : dn2 ≤ 9223372036854775807 := by obtain ⟨A, c, e, h1, h2⟩ := hi.asks.slice; unfold maxLen at h2; omega
 have WD := Lib.hid hi
 clear hu hi hd0 hd1 hd2
 clear k0 k1 k2 k3 k4 k5 m0 m1 m2 m3
 replace X0 := Lib.hid ((bN.block _ (heap_lt X0.out)).trans X0.out)
 replace X1 := Lib.hid ((bN.block _ (heap_lt X1.out)).trans X1.out)
 replace X8 := Lib.hid ((bN.block _ (heap_lt X8.out)).trans X8.out)
 replace BQ := Lib.hid (BQ.out.trans (bN.mono BQ.out.size))
 replace VP := Lib.hid ((VP.out.below bN).more bN.size)
 replace VS := Lib.hid ((VS.out.below bN).more bN.size)
 clear bN
 go_upto_region 9 with ((with_reducible show wpList _ _ _ (⟨none, .store _ _ _, _, _, _, _⟩ :: _) _ _); refine wpList_store_rowS rfl _ (.tmp 9) (.tmp 62) rfl wB.heap.size rfl (c' := #[.slice D0 dn0 dd0, .slice D1 dn1 dd1, .slice D2 dn2 dd2, .int .i64 nr]) rfl (heap_alloc_self wB (.cells #[.slice none 0 0, .slice none 0 0, .slice none 0 0, .int .i64 0] 53)) infoWay4 rfl (by simp [Value.oneCell']) ?_)
 rw [World.setRow_alloc_new]
 have hx1 := heap_alloc_self wB (.cells #[.slice D0 dn0 dd0, .slice D1 dn1 dd1, .slice D2 dn2 dd2, .int .i64 nr] 53)
 have hb1 := below_new wB (.cells #[.slice D0 dn0 dd0, .slice D1 dn1 dd1, .slice D2 dn2 dd2, .int .i64 nr] 53)
 generalize wB.alloc (.cells #[.slice D0 dn0 dd0, .slice D1 dn1 dd1, .slice D2 dn2 dd2, .int .i64 nr] 53) = w5 at hb1 hx1 ⊢
 obtain ⟨p9, hp1⟩ : ∃ n, n = wB.heap.size := ⟨_, rfl⟩
 rw [← hp1] at hx1 ⊢
 have X9 := Lib.hid hx1
 clear hx1 hp1
 replace X0 := Lib.hid ((hb1.block _ (heap_lt X0.out)).trans X0.out)
 replace X1 := Lib.hid ((hb1.block _ (heap_lt X1.out)).trans X1.out)
 replace X8 := Lib.hid ((hb1.block _ (heap_lt X8.out)).trans X8.out)
 replace BQ := Lib.hid (BQ.out.trans (hb1.mono BQ.out.size))
 replace VP := Lib.hid ((VP.out.below hb1).more hb1.size)
 replace VS := Lib.hid ((VS.out.below hb1).more hb1.size)
 replace WD := Lib.hid ((WD.out.below hb1).more hb1.size)
 clear hb1
 have hN2 : n2 ≤ 9223372036854775807 := by obtain ⟨A, c, e, h1, h2⟩ := (planV_in15 VP.out).secs.slice; have := HN.out; unfold maxLen at h2; omega
 have hS1 : s1 ≤ 9223372036854775807 := by obtain ⟨v0, v1, v2, ev, hsn⟩ := VS.out; cases ev; obtain ⟨A, c, e, h1, h2⟩ := hsn.sw.slice; have := HNS.out; unfold maxLen at h2; omega
 go_loopw [11, 12, 13, 14, 15, 16, 17] (fun s11 s12 s13 s14 s15 s16 s17 wx => ∃ i : Nat, s11 = .int .i64 i ∧ i ≤ n2 ∧ Below w5.heap.size w5 wx) (fun s11 _ _ _ _ _ _ _ => n2 - (intOf s11).toNat)
 case atStart => exact ⟨0, by go_num, by omega, Below.refl _ _⟩
 case round =>
  obtain ⟨wx, hwx⟩ : ∃ z, z = wr := ⟨_, rfl⟩
  subst hwx
  obtain ⟨i, rfl, hi, hb⟩ := hrel
  have BL := Lib.hid hb
  replace X0 := Lib.hid ((hb.block _ (heap_lt X0.out)).trans X0.out)
  replace X1 := Lib.hid ((hb.block _ (heap_lt X1.out)).trans X1.out)
  replace X8 := Lib.hid ((hb.block _ (heap_lt X8.out)).trans X8.out)
  replace X9 := Lib.hid ((hb.block _ (heap_lt X9.out)).trans X9.out)
  replace BQ := Lib.hid (BQ.out.trans (hb.mono BQ.out.size))
  replace VP := Lib.hid ((VP.out.below hb).more hb.size)
  replace VS := Lib.hid ((VS.out.below hb).more hb.size)
  replace WD := Lib.hid ((WD.out.below hb).more hb.size)
  clear hb
  obtain ⟨k0, k1, k2, k3, k4, k5⟩ := cell6_of X0.out
  by_cases hlt : i < n2
  ·have hlt' : (i : Int) < n2 := by omega
   have hir : i < p.secs.length := by have := HN.out; omega
   obtain ⟨bs, os, rfl, hbs, hs0, -⟩ := (planV_in15 VP.out).secs.at hir
   obtain ⟨a1, ha1⟩ : ∃ z, z = p.secs[i].1 := ⟨_, rfl⟩
   have HMEM : Hid (a1 ∈ p.secs.map (fun x : Sec => x.1)) := Lib.hid (by rw [ha1]; exact List.mem_map.2 ⟨_, List.getElem_mem hir, rfl⟩)
   rw [← ha1] at hs0
   have g0 : wx.cell? ⟨bs, os + i * 3, none⟩ = some (.int .i64 a1) := by simpa using hs0
   clear hs0 ha1 hbs hir
   go_upto_region 14 with fail
   clear g0 k0 k1 k2 k3 k4 k5
   go_loopw [13, 14] (fun s13 s14 wz => ∃ (j : Nat) (u : Bool), s14 = .int .i64 j ∧ j ≤ dn0 ∧ s13 = .bool u ∧ Hid (u = true ↔ MineP x.path l2_ a1 j) ∧ Hid (wz = wx)) (fun _ s14 _ => dn0 - (intOf s14).toNat)
   case atStart => exact ⟨0, false, by go_num, by omega, rfl, Lib.hid ⟨fun h => (by cases h), fun h => absurd h mine_zero⟩, Lib.hid (by first | rfl | trivial)⟩
   case round =>
    obtain ⟨j, u, rfl, hj, rfl, HU, HE⟩ := hrel
    obtain ⟨wz, hwz⟩ : ∃ z, z = wr := ⟨_, rfl⟩
    subst hwz
    obtain ⟨wx, hwx⟩ : ∃ z, z = wx := ⟨_, rfl⟩
    have he := HE.out
    clear HE
    subst hwx
    subst he
    obtain ⟨wx, hwx⟩ : ∃ z, z = wz := ⟨_, rfl⟩
    subst hwx
    obtain ⟨d0, d1, d2, d3⟩ := cell4_of X9.out
    obtain ⟨m0, m1, m2, m3⟩ := cell4_of X8.out
    by_cases hlj : j < dn0
    ·have hlj' : (j : Int) < dn0 := by omega
     have hjr : j < x.path.length := by have := ND.out; omega
     obtain ⟨be, oe, rfl, hbe, hc_⟩ := WD.out.path.at hjr
     obtain ⟨z, hz⟩ : ∃ z, z = x.path[j] := ⟨_, rfl⟩
     have gl : wx.cell? ⟨be, oe + j, none⟩ = some (.int .i64 z) := by rw [hz]; simpa [IntR] using hc_
     have HS := HU.out
     have HSU := mine_succ (g := l2_) (sec := a1) hjr
     rw [← hz] at HSU
     clear hc_ hbe hz
     cases u with
     | true =>
      go_wp2_with fail
      go_roundw
      case measure => simp [intOf]; omega
      case rel => exact ⟨j + 1, true, by go_num, by omega, rfl, Lib.hid (by rw [HSU]; exact ⟨fun _ => .inl (HS.1 rfl), fun _ => rfl⟩), Lib.hid (by first | rfl | trivial)⟩
     | false =>
      have HF : ¬ MineP x.path l2_ a1 j := fun h => by cases HS.2 h
      by_cases hza : z = a1
      ·have dz : (z == a1) = true := by simpa using hza
       by_cases hgj : (j : Int) ≥ l2_
       ·have dg : decide ((j : Int) ≥ l2_) = true := decide_eq_true hgj
        go_wp2_with fail
        go_roundw
        case measure => simp [intOf]; omega
        case rel => exact ⟨j + 1, true, by go_num, by omega, rfl, Lib.hid (by rw [HSU]; exact ⟨fun _ => .inr ⟨hza, hgj⟩, fun _ => rfl⟩), Lib.hid (by first | rfl | trivial)⟩
       ·have dg : decide ((j : Int) ≥ l2_) = false := decide_eq_false hgj
        go_wp2_with fail
        go_roundw
        case measure => simp [intOf]; omega
        case rel => exact ⟨j + 1, false, by go_num, by omega, rfl, Lib.hid (by rw [HSU]; exact ⟨fun h => (by cases h), fun h => h.elim (fun h => absurd h HF) (fun h => absurd h.2 hgj)⟩), Lib.hid (by first | rfl | trivial)⟩
      ·have dz : (z == a1) = false := by simpa using hza
       go_wp2_with fail
       go_roundw
       case measure => simp [intOf]; omega
       case rel => exact ⟨j + 1, false, by go_num, by omega, rfl, Lib.hid (by rw [HSU]; exact ⟨fun h => (by cases h), fun h => h.elim (fun h => absurd h HF) (fun h => absurd h.1 hza)⟩), Lib.hid (by first | rfl | trivial)⟩
    ·obtain rfl : j = dn0 := by omega
     have hlj' : ¬ (j : Int) < j := by omega
     go_upto_region 18 with fail
     clear hlj hlj' d0 d1 d2 d3 m0 m1 m2 m3
     have HU1 : Hid (u = true ↔ MineP x.path l2_ a1 x.path.length) := Lib.hid (by rw [← ND.out.1]; exact HU.out)
     obtain ⟨uu, huu⟩ : ∃ z, z = u := ⟨_, rfl⟩
     rw [← huu] at HU1 ⊢
     clear HU
     go_loopw [13, 15] (fun s13 s15 wz => ∃ (j : Nat) (u : Bool), s15 = .int .i64 j ∧ j ≤ dn1 ∧ s13 = .bool u ∧ Hid (u = true ↔ uu = true ∨ a1 ∈ x.over.take j) ∧ Hid (wz = wx)) (fun _ s15 _ => dn1 - (intOf s15).toNat)
     case atStart => exact ⟨0, u, by go_num, by omega, by rw [huu], Lib.hid (by rw [huu]; simp), Lib.hid (by first | rfl | trivial)⟩
     case round =>
      obtain ⟨j, u, rfl, hj, rfl, HU, HE⟩ := hrel
      obtain ⟨wz, hwz⟩ : ∃ z, z = wr := ⟨_, rfl⟩
      subst hwz
      obtain ⟨wx, hwx⟩ : ∃ z, z = wx := ⟨_, rfl⟩
      have he := HE.out
      clear HE
      subst hwx
      subst he
      obtain ⟨wx, hwx⟩ : ∃ z, z = wz := ⟨_, rfl⟩
      subst hwx
      obtain ⟨d0, d1, d2, d3⟩ := cell4_of X9.out
      obtain ⟨m0, m1, m2, m3⟩ := cell4_of X8.out
      by_cases hlj : j < dn1
      ·have hlj' : (j : Int) < dn1 := by omega
       have hjr : j < x.over.length := by have := ND.out; omega
       obtain ⟨be, oe, rfl, hbe, hc_⟩ := WD.out.over.at hjr
       obtain ⟨z, hz⟩ : ∃ z, z = x.over[j] := ⟨_, rfl⟩
       have gl : wx.cell? ⟨be, oe + j, none⟩ = some (.int .i64 z) := by rw [hz]; simpa [IntR] using hc_
       have HS := HU.out
       have HSU : a1 ∈ x.over.take (j + 1) ↔ a1 ∈ x.over.take j ∨ z = a1 := by
        rw [List.take_add_one, List.getElem?_eq_getElem hjr, Option.toList_some, ← hz]
        simp only [List.mem_append, List.mem_singleton]
        exact ⟨fun h => h.elim .inl fun h => .inr h.symm, fun h => h.elim .inl fun h => .inr h.symm⟩
       have HSU' := Lib.hid HSU
       have HS' := Lib.hid HS
       clear hc_ hbe hz HSU HS
       cases u with
       | true =>
        go_wp2_with fail
        go_roundw
        case measure => simp [intOf]; omega
        case rel => exact ⟨j + 1, true, by go_num, by omega, rfl, Lib.hid (by have HSU := HSU'.out; have HS := HS'.out; rw [HSU]; exact ⟨fun _ => (HS.1 rfl).elim .inl (fun h => .inr (.inl h)), fun _ => rfl⟩), Lib.hid (by first | rfl | trivial)⟩
       | false =>
        have HF' : Hid (¬ (uu = true ∨ a1 ∈ x.over.take j)) := Lib.hid (fun h => by cases HS'.out.2 h)
        by_cases hza : z = a1
        ·have dz : (z == a1) = true := by simpa using hza
         go_wp2_with fail
         go_roundw
         case measure => simp [intOf]; omega
         case rel => exact ⟨j + 1, true, by go_num, by omega, rfl, Lib.hid (by have HSU := HSU'.out; rw [HSU]; exact ⟨fun _ => .inr (.inr hza), fun _ => rfl⟩), Lib.hid (by first | rfl | trivial)⟩
        ·have dz : (z == a1) = false := by simpa using hza
         go_wp2_with fail
         go_roundw
         case measure => simp [intOf]; omega
         case rel => exact ⟨j + 1, false, by go_num, by omega, rfl, Lib.hid (by have HSU := HSU'.out; have HF := HF'.out; rw [HSU]; exact ⟨fun h => (by cases h), fun h => h.elim (fun h => absurd (.inl h) HF) (fun h => h.elim (fun h => absurd (.inr h) HF) (fun h => absurd h hza))⟩), Lib.hid (by first | rfl | trivial)⟩
      ·obtain rfl : j = dn1 := by omega
       have hlj' : ¬ (j : Int) < j := by omega
       have HUA : Hid (u = true ↔ MineP (rtN p i0).path (lkN s i0).2.2.1 a1 (rtN p i0).path.length ∨ a1 ∈ (rtN p i0).over) := Lib.hid (by
        have h1 := HU.out
        rw [ND.out.2.1, List.take_length, HU1.out, HX.out] at h1
        rw [HL.out.2.2]
        exact h1)
       have HH := Lib.hid (holds_said HM.out HIS.out HMEM.out HUA.out)
       obtain ⟨zw, hzw⟩ : ∃ z, z = whoV p s a1 := ⟨_, rfl⟩
       have HZ : Hid (zw = l0_ ↔ (u = true ∧ l1_ ≠ 0)) := Lib.hid (by have h := HH.out.2; rw [← hzw, HL.out.1, HL.out.2.1] at h; exact h)
       obtain ⟨k0, k1, k2, k3, k4, k5⟩ := cell6_of X0.out
       obtain ⟨l0, l1, l2⟩ := cell3_of X1.out
       go_wp2_with fail
       refine (hc.holder _ _ p s a1 wx VP.out VS.out).mono ?_
       rintro e wv ⟨rfl, bN⟩
       rw [← hzw, HH.out.1]
       clear hzw k0 k1 k2 k3 k4 k5 l0 l1 l2 d0 d1 d2 d3 m0 m1 m2 m3
       replace X0 := Lib.hid ((bN.block _ (heap_lt X0.out)).trans X0.out)
       replace X1 := Lib.hid ((bN.block _ (heap_lt X1.out)).trans X1.out)
       replace X8 := Lib.hid ((bN.block _ (heap_lt X8.out)).trans X8.out)
       replace X9 := Lib.hid ((bN.block _ (heap_lt X9.out)).trans X9.out)
       replace BQ := Lib.hid (BQ.out.trans (bN.mono BQ.out.size))
       replace BL := Lib.hid (BL.out.trans (bN.mono BL.out.size))
       replace VP := Lib.hid ((VP.out.below bN).more bN.size)
       replace VS := Lib.hid ((VS.out.below bN).more bN.size)
       replace WD := Lib.hid ((WD.out.below bN).more bN.size)
       clear bN
       obtain ⟨m0, m1, m2, m3⟩ := cell4_of X8.out
       have hz := HZ.out
       cases u with
       | false =>
        have dz : (zw == l0_) = false := by (have : ¬ zw = l0_ := fun h => (by cases (hz.1 h).1); simpa using this)
        clear hz
        go_wp2_with fail
        go_roundw
        case measure => simp [intOf]; omega
        case rel => exact ⟨i + 1, by go_num, by omega, BL.out⟩
       | true =>
        by_cases hp : l1_ = 0
        ·have dp : (l1_ != 0) = false := by simpa using hp
         have dz : (zw == l0_) = false := by (have : ¬ zw = l0_ := fun h => (hz.1 h).2 hp; simpa using this)
         clear hz hp
         go_wp2_with fail
         go_roundw
         case measure => simp [intOf]; omega
         case rel => exact ⟨i + 1, by go_num, by omega, BL.out⟩
        ·have dp : (l1_ != 0) = true := by simpa using hp
         have dz : (zw == l0_) = true := by (have : zw = l0_ := hz.2 ⟨rfl, hp⟩; simpa using this)
         clear hz
         go_wp2_with fail
         go_roundw
         case measure => simp [intOf]; omega
         case rel => exact ⟨i + 1, by go_num, by omega, BL.out⟩
  ·obtain rfl : i = n2 := by omega
   have hlt' : ¬ (i : Int) < i := by omega
   go_upto_region 25 with fail
   clear hlt hlt' k0 k1 k2 k3 k4 k5 BL
   obtain ⟨w6, hw6⟩ : ∃ z, z = wx := ⟨_, rfl⟩
   subst hw6
   go_loopw [18, 19, 20, 21, 22] (fun s18 s19 s20 s21 s22 wr => ∃ k : Nat, s18 = .int .i64 k ∧ k ≤ dn2 ∧ Below w6.heap.size w6 wr) (fun s18 _ _ _ _ _ => dn2 - (intOf s18).toNat)
   case atStart => exact ⟨0, by go_num, by omega, Below.refl _ _⟩
   case round =>
    obtain ⟨wx, hwx⟩ : ∃ z, z = wr := ⟨_, rfl⟩
    subst hwx
    obtain ⟨k, rfl, hk, hb⟩ := hrel
    have BL := Lib.hid hb
    replace X0 := Lib.hid ((hb.block _ (heap_lt X0.out)).trans X0.out)
    replace X1 := Lib.hid ((hb.block _ (heap_lt X1.out)).trans X1.out)
    replace X8 := Lib.hid ((hb.block _ (heap_lt X8.out)).trans X8.out)
    replace X9 := Lib.hid ((hb.block _ (heap_lt X9.out)).trans X9.out)
    replace BQ := Lib.hid (BQ.out.trans (hb.mono BQ.out.size))
    replace VP := Lib.hid ((VP.out.below hb).more hb.size)
    replace VS := Lib.hid ((VS.out.below hb).more hb.size)
    replace WD := Lib.hid ((WD.out.below hb).more hb.size)
    clear hb
    obtain ⟨d0, d1, d2, d3⟩ := cell4_of X9.out
    by_cases hlk : k < dn2
    ·have hlk' : (k : Int) < dn2 := by omega
     have hkr : k < x.asks.length := by have := ND.out; omega
     obtain ⟨ba, oa, rfl, hba, hc0, hc1, hc2⟩ := WD.out.asks.at hkr
     obtain ⟨a0_, h0_⟩ : ∃ z, z = x.asks[k].1 := ⟨_, rfl⟩
     obtain ⟨a1_, h1_⟩ : ∃ z, z = x.asks[k].2.1 := ⟨_, rfl⟩
     obtain ⟨a2_, h2_⟩ : ∃ z, z = x.asks[k].2.2 := ⟨_, rfl⟩
     obtain ⟨zl, hzl⟩ : ∃ z, z = lieV p s a0_ := ⟨_, rfl⟩
     have HSA := Lib.hid (asks_said HM.out HIS.out (a := x.asks[k]) (by rw [← HX.out]; exact List.getElem_mem hkr))
     have HA : Hid ((l1_ ≠ 0 → (a2_ < 0 ∨ l2_ ≤ a2_) → zl = a1_) ∧ ∀ n (hn : n < s.sw.length), s.sw[n].1 = a0_ → zl ≠ 0 → s.sw[n].2.2 = zl) := Lib.hid (by
      have h := HSA.out.2
      rw [HL.out.2.1, HL.out.2.2, ← h0_, ← h1_, ← h2_, ← hzl] at h
      exact h)
     have HAE : Hid (lieE p s a0_ = 0) := Lib.hid (by rw [h0_]; exact HSA.out.1)
     rw [← h0_] at hc0
     rw [← h1_] at hc1
     rw [← h2_] at hc2
     have g0 : wx.cell? ⟨ba, oa + k * 3, none⟩ = some (.int .i64 a0_) := by simpa using hc0
     have g1 : wx.cell? ⟨ba, oa + k * 3 + 1, none⟩ = some (.int .i64 a1_) := by simpa using hc1
     have g2 : wx.cell? ⟨ba, oa + k * 3 + 2, none⟩ = some (.int .i64 a2_) := by simpa using hc2
     clear hc0 hc1 hc2 h0_ h1_ h2_ hba HSA hkr
     go_upto_region 28 with ((with_reducible show wpList _ _ _ (⟨none, .store _ _ _, _, _, _, _⟩ :: _) _ _); refine wpList_store_rowS rfl _ (.tmp 19) (.tmp 152) rfl wx.heap.size rfl (c' := #[.int .i64 a0_, .int .i64 a1_, .int .i64 a2_]) rfl (heap_alloc_self wx (.cells #[.int .i64 0, .int .i64 0, .int .i64 0] 60)) infoAsk15 rfl (by simp [Value.oneCell']) ?_)
     rw [World.setRow_alloc_new]
     have hx1 := heap_alloc_self wx (.cells #[.int .i64 a0_, .int .i64 a1_, .int .i64 a2_] 60)
     have hb1 := below_new wx (.cells #[.int .i64 a0_, .int .i64 a1_, .int .i64 a2_] 60)
     generalize wx.alloc (.cells #[.int .i64 a0_, .int .i64 a1_, .int .i64 a2_] 60) = wy at hb1 hx1 ⊢
     obtain ⟨p19, hp1⟩ : ∃ n, n = wx.heap.size := ⟨_, rfl⟩
     rw [← hp1] at hx1 ⊢
     have X19 := Lib.hid hx1
     clear hx1 hp1
     replace X0 := Lib.hid ((hb1.block _ (heap_lt X0.out)).trans X0.out)
     replace X1 := Lib.hid ((hb1.block _ (heap_lt X1.out)).trans X1.out)
     replace X8 := Lib.hid ((hb1.block _ (heap_lt X8.out)).trans X8.out)
     replace X9 := Lib.hid ((hb1.block _ (heap_lt X9.out)).trans X9.out)
     replace BQ := Lib.hid (BQ.out.trans (hb1.mono BQ.out.size))
     replace BL := Lib.hid (BL.out.trans (hb1.mono BL.out.size))
     replace VP := Lib.hid ((VP.out.below hb1).more hb1.size)
     replace VS := Lib.hid ((VS.out.below hb1).more hb1.size)
     replace WD := Lib.hid ((WD.out.below hb1).more hb1.size)
     clear hb1
     clear g0 g1 g2 d0 d1 d2 d3
     obtain ⟨k0, k1, k2, k3, k4, k5⟩ := cell6_of X0.out
     obtain ⟨l0, l1, l2⟩ := cell3_of X1.out
     obtain ⟨f0, f1, f2⟩ := cell3_of X19.out
     go_wp2_with fail
     refine (hc.asked _ _ p s a0_ wy VP.out VS.out).mono ?_
     rintro e wv ⟨rfl, bN⟩
     rw [← hzl, HAE.out]
     clear hzl k0 k1 k2 k3 k4 k5 l0 l1 l2 f0 f1 f2
     replace X0 := Lib.hid ((bN.block _ (heap_lt X0.out)).trans X0.out)
     replace X1 := Lib.hid ((bN.block _ (heap_lt X1.out)).trans X1.out)
     replace X8 := Lib.hid ((bN.block _ (heap_lt X8.out)).trans X8.out)
     replace X9 := Lib.hid ((bN.block _ (heap_lt X9.out)).trans X9.out)
     replace X19 := Lib.hid ((bN.block _ (heap_lt X19.out)).trans X19.out)
     replace BQ := Lib.hid (BQ.out.trans (bN.mono BQ.out.size))
     replace BL := Lib.hid (BL.out.trans (bN.mono BL.out.size))
     replace VP := Lib.hid ((VP.out.below bN).more bN.size)
     replace VS := Lib.hid ((VS.out.below bN).more bN.size)
     replace WD := Lib.hid ((WD.out.below bN).more bN.size)
     clear bN
     obtain ⟨m0, m1, m2, m3⟩ := cell4_of X8.out
     obtain ⟨f0, f1, f2⟩ := cell3_of X19.out
     have hA1 := HA.out.1
     by_cases hp : l1_ = 0
     ·have dp : (l1_ != 0) = false := by simpa using hp
      clear hA1 hp
      go_upto_region 32 with fail
      go_loopw [22] (fun s22 wr => ∃ n : Nat, s22 = .int .i64 n ∧ n ≤ s1 ∧ Below wv.heap.size wv wr) (fun s22 _ => s1 - (intOf s22).toNat)
      case atStart => exact ⟨0, by go_num, by omega, Below.refl _ _⟩
      case round =>
       obtain ⟨n, rfl, hn, hb⟩ := hrel
       have BW2 := Lib.hid hb
       clear hb m0 m1 m2 m3 f0 f1 f2
       obtain ⟨f0, f1, f2⟩ := cell3_of ((BW2.out.block _ (heap_lt X19.out)).trans X19.out)
       obtain ⟨l0, l1, l2⟩ := cell3_of ((BW2.out.block _ (heap_lt X1.out)).trans X1.out)
       by_cases hln : n < s1
       ·have hln' : (n : Int) < s1 := by omega
        have hnr : n < s.sw.length := by have := HNS.out; omega
        obtain ⟨v0, v1, v2, ev, hsn⟩ := VS.out
        cases ev
        obtain ⟨bw, ow, rfl, hbw, hc0, -, hc2⟩ := hsn.sw.at hnr
        obtain ⟨y0, hy0⟩ : ∃ z, z = s.sw[n].1 := ⟨_, rfl⟩
        obtain ⟨y2, hy2⟩ : ∃ z, z = s.sw[n].2.2 := ⟨_, rfl⟩
        have HC : y0 = a0_ → zl ≠ 0 → y2 = zl := by rw [hy0, hy2]; exact HA.out.2 n hnr
        rw [← hy0] at hc0
        rw [← hy2] at hc2
        have g5 : wr.cell? ⟨bw, ow + n * 3, none⟩ = some (.int .i64 y0) := (BW2.out.cell (p := ⟨bw, ow + n * 3, none⟩) hbw).trans (by simpa using hc0)
        have g6 : wr.cell? ⟨bw, ow + n * 3 + 2, none⟩ = some (.int .i64 y2) := (BW2.out.cell (p := ⟨bw, ow + n * 3 + 2, none⟩) hbw).trans (by simpa using hc2)
        have BD : Hid (∀ nq, Below wr.heap.size wr (wr.drewN nq)) := Lib.hid (fun nq => ⟨rfl, rfl, rfl, Nat.le_refl _, fun _ _ => rfl⟩)
        clear hc0 hc2 hbw hsn hy0 hy2 hnr
        go_upto_region 34 with fail
        by_cases h1 : y0 = a0_
        ·have d1 : (y0 == a0_) = true := by simpa using h1
         by_cases h2 : zl = 0
         ·have d2 : (zl != 0) = false := by simpa using h2
          clear HC h1 h2
          go_quiet (fail)
          have hdb := BD.out nq
          generalize wr.drewN nq = wq at hdb ⊢
          have B3 := Lib.hid (BW2.out.trans (hdb.mono BW2.out.size))
          clear hdb BD g5 g6 f0 f1 f2 l0 l1 l2
          go_wp2_with fail
          go_roundw
          case measure => simp [intOf]; omega
          case rel => exact ⟨n + 1, by go_num, by omega, B3.out⟩
         ·have d2 : (zl != 0) = true := by simpa using h2
          have d3 : (y2 != zl) = false := by simpa using HC h1 h2
          clear HC h1 h2
          go_quiet (fail)
          have hdb := BD.out nq
          generalize wr.drewN nq = wq at hdb ⊢
          have B3 := Lib.hid (BW2.out.trans (hdb.mono BW2.out.size))
          clear hdb BD g5 g6 f0 f1 f2 l0 l1 l2
          go_wp2_with fail
          go_roundw
          case measure => simp [intOf]; omega
          case rel => exact ⟨n + 1, by go_num, by omega, B3.out⟩
        ·have d1 : (y0 == a0_) = false := by simpa using h1
         clear HC h1
         go_quiet (fail)
         have hdb := BD.out nq
         generalize wr.drewN nq = wq at hdb ⊢
         have B3 := Lib.hid (BW2.out.trans (hdb.mono BW2.out.size))
         clear hdb BD g5 g6 f0 f1 f2 l0 l1 l2
         go_wp2_with fail
         go_roundw
         case measure => simp [intOf]; omega
         case rel => exact ⟨n + 1, by go_num, by omega, B3.out⟩
       ·obtain rfl : n = s1 := by omega
        have hln' : ¬ (n : Int) < n := by omega
        have BE := Lib.hid (BL.out.trans (BW2.out.mono BL.out.size))
        go_wp2_with fail
        go_roundw
        case measure => simp [intOf]; omega
        case rel => exact ⟨k + 1, by go_num, by omega, BE.out⟩
     ·have dp : (l1_ != 0) = true := by simpa using hp
      by_cases hq : a2_ < 0
      ·have dq : decide (a2_ < 0) = true := decide_eq_true hq
       have dl : (zl != a1_) = false := by simpa using hA1 hp (.inl hq)
       clear hA1
       go_upto_region 32 with fail
       go_loopw [22] (fun s22 wr => ∃ n : Nat, s22 = .int .i64 n ∧ n ≤ s1 ∧ Below wv.heap.size wv wr) (fun s22 _ => s1 - (intOf s22).toNat)
       case atStart => exact ⟨0, by go_num, by omega, Below.refl _ _⟩
       case round =>
        obtain ⟨n, rfl, hn, hb⟩ := hrel
        have BW2 := Lib.hid hb
        clear hb m0 m1 m2 m3 f0 f1 f2
        obtain ⟨f0, f1, f2⟩ := cell3_of ((BW2.out.block _ (heap_lt X19.out)).trans X19.out)
        obtain ⟨l0, l1, l2⟩ := cell3_of ((BW2.out.block _ (heap_lt X1.out)).trans X1.out)
        by_cases hln : n < s1
        ·have hln' : (n : Int) < s1 := by omega
         have hnr : n < s.sw.length := by have := HNS.out; omega
         obtain ⟨v0, v1, v2, ev, hsn⟩ := VS.out
         cases ev
         obtain ⟨bw, ow, rfl, hbw, hc0, -, hc2⟩ := hsn.sw.at hnr
         obtain ⟨y0, hy0⟩ : ∃ z, z = s.sw[n].1 := ⟨_, rfl⟩
         obtain ⟨y2, hy2⟩ : ∃ z, z = s.sw[n].2.2 := ⟨_, rfl⟩
         have HC : y0 = a0_ → zl ≠ 0 → y2 = zl := by rw [hy0, hy2]; exact HA.out.2 n hnr
         rw [← hy0] at hc0
         rw [← hy2] at hc2
         have g5 : wr.cell? ⟨bw, ow + n * 3, none⟩ = some (.int .i64 y0) := (BW2.out.cell (p := ⟨bw, ow + n * 3, none⟩) hbw).trans (by simpa using hc0)
         have g6 : wr.cell? ⟨bw, ow + n * 3 + 2, none⟩ = some (.int .i64 y2) := (BW2.out.cell (p := ⟨bw, ow + n * 3 + 2, none⟩) hbw).trans (by simpa using hc2)
         have BD : Hid (∀ nq, Below wr.heap.size wr (wr.drewN nq)) := Lib.hid (fun nq => ⟨rfl, rfl, rfl, Nat.le_refl _, fun _ _ => rfl⟩)
         clear hc0 hc2 hbw hsn hy0 hy2 hnr
         go_upto_region 34 with fail
         by_cases h1 : y0 = a0_
         ·have d1 : (y0 == a0_) = true := by simpa using h1
          by_cases h2 : zl = 0
          ·have d2 : (zl != 0) = false := by simpa using h2
           clear HC h1 h2
           go_quiet (fail)
           have hdb := BD.out nq
           generalize wr.drewN nq = wq at hdb ⊢
           have B3 := Lib.hid (BW2.out.trans (hdb.mono BW2.out.size))
           clear hdb BD g5 g6 f0 f1 f2 l0 l1 l2
           go_wp2_with fail
           go_roundw
           case measure => simp [intOf]; omega
           case rel => exact ⟨n + 1, by go_num, by omega, B3.out⟩
          ·have d2 : (zl != 0) = true := by simpa using h2
           have d3 : (y2 != zl) = false := by simpa using HC h1 h2
           clear HC h1 h2
           go_quiet (fail)
           have hdb := BD.out nq
           generalize wr.drewN nq = wq at hdb ⊢
           have B3 := Lib.hid (BW2.out.trans (hdb.mono BW2.out.size))
           clear hdb BD g5 g6 f0 f1 f2 l0 l1 l2
           go_wp2_with fail
           go_roundw
           case measure => simp [intOf]; omega
           case rel => exact ⟨n + 1, by go_num, by omega, B3.out⟩
         ·have d1 : (y0 == a0_) = false := by simpa using h1
          clear HC h1
          go_quiet (fail)
          have hdb := BD.out nq
          generalize wr.drewN nq = wq at hdb ⊢
          have B3 := Lib.hid (BW2.out.trans (hdb.mono BW2.out.size))
          clear hdb BD g5 g6 f0 f1 f2 l0 l1 l2
          go_wp2_with fail
          go_roundw
          case measure => simp [intOf]; omega
          case rel => exact ⟨n + 1, by go_num, by omega, B3.out⟩
        ·obtain rfl : n = s1 := by omega
         have hln' : ¬ (n : Int) < n := by omega
         have BE := Lib.hid (BL.out.trans (BW2.out.mono BL.out.size))
         go_wp2_with fail
         go_roundw
         case measure => simp [intOf]; omega
         case rel => exact ⟨k + 1, by go_num, by omega, BE.out⟩
      ·have dq : decide (a2_ < 0) = false := decide_eq_false hq
       by_cases hr : a2_ ≥ l2_
       ·have dr : decide (a2_ ≥ l2_) = true := decide_eq_true hr
        have dl : (zl != a1_) = false := by simpa using hA1 hp (.inr hr)
        clear hA1
        go_upto_region 32 with fail
        go_loopw [22] (fun s22 wr => ∃ n : Nat, s22 = .int .i64 n ∧ n ≤ s1 ∧ Below wv.heap.size wv wr) (fun s22 _ => s1 - (intOf s22).toNat)
        case atStart => exact ⟨0, by go_num, by omega, Below.refl _ _⟩
        case round =>
         obtain ⟨n, rfl, hn, hb⟩ := hrel
         have BW2 := Lib.hid hb
         clear hb m0 m1 m2 m3 f0 f1 f2
         obtain ⟨f0, f1, f2⟩ := cell3_of ((BW2.out.block _ (heap_lt X19.out)).trans X19.out)
         obtain ⟨l0, l1, l2⟩ := cell3_of ((BW2.out.block _ (heap_lt X1.out)).trans X1.out)
         by_cases hln : n < s1
         ·have hln' : (n : Int) < s1 := by omega
          have hnr : n < s.sw.length := by have := HNS.out; omega
          obtain ⟨v0, v1, v2, ev, hsn⟩ := VS.out
          cases ev
          obtain ⟨bw, ow, rfl, hbw, hc0, -, hc2⟩ := hsn.sw.at hnr
          obtain ⟨y0, hy0⟩ : ∃ z, z = s.sw[n].1 := ⟨_, rfl⟩
          obtain ⟨y2, hy2⟩ : ∃ z, z = s.sw[n].2.2 := ⟨_, rfl⟩
          have HC : y0 = a0_ → zl ≠ 0 → y2 = zl := by rw [hy0, hy2]; exact HA.out.2 n hnr
          rw [← hy0] at hc0
          rw [← hy2] at hc2
          have g5 : wr.cell? ⟨bw, ow + n * 3, none⟩ = some (.int .i64 y0) := (BW2.out.cell (p := ⟨bw, ow + n * 3, none⟩) hbw).trans (by simpa using hc0)
          have g6 : wr.cell? ⟨bw, ow + n * 3 + 2, none⟩ = some (.int .i64 y2) := (BW2.out.cell (p := ⟨bw, ow + n * 3 + 2, none⟩) hbw).trans (by simpa using hc2)
          have BD : Hid (∀ nq, Below wr.heap.size wr (wr.drewN nq)) := Lib.hid (fun nq => ⟨rfl, rfl, rfl, Nat.le_refl _, fun _ _ => rfl⟩)
          clear hc0 hc2 hbw hsn hy0 hy2 hnr
          go_upto_region 34 with fail
          by_cases h1 : y0 = a0_
          ·have d1 : (y0 == a0_) = true := by simpa using h1
           by_cases h2 : zl = 0
           ·have d2 : (zl != 0) = false := by simpa using h2
            clear HC h1 h2
            go_quiet (fail)
            have hdb := BD.out nq
            generalize wr.drewN nq = wq at hdb ⊢
            have B3 := Lib.hid (BW2.out.trans (hdb.mono BW2.out.size))
            clear hdb BD g5 g6 f0 f1 f2 l0 l1 l2
            go_wp2_with fail
            go_roundw
            case measure => simp [intOf]; omega
            case rel => exact ⟨n + 1, by go_num, by omega, B3.out⟩
           ·have d2 : (zl != 0) = true := by simpa using h2
            have d3 : (y2 != zl) = false := by simpa using HC h1 h2
            clear HC h1 h2
            go_quiet (fail)
            have hdb := BD.out nq
            generalize wr.drewN nq = wq at hdb ⊢
            have B3 := Lib.hid (BW2.out.trans (hdb.mono BW2.out.size))
            clear hdb BD g5 g6 f0 f1 f2 l0 l1 l2
            go_wp2_with fail
            go_roundw
            case measure => simp [intOf]; omega
            case rel => exact ⟨n + 1, by go_num, by omega, B3.out⟩
          ·have d1 : (y0 == a0_) = false := by simpa using h1
           clear HC h1
           go_quiet (fail)
           have hdb := BD.out nq
           generalize wr.drewN nq = wq at hdb ⊢
           have B3 := Lib.hid (BW2.out.trans (hdb.mono BW2.out.size))
           clear hdb BD g5 g6 f0 f1 f2 l0 l1 l2
           go_wp2_with fail
           go_roundw
           case measure => simp [intOf]; omega
           case rel => exact ⟨n + 1, by go_num, by omega, B3.out⟩
         ·obtain rfl : n = s1 := by omega
          have hln' : ¬ (n : Int) < n := by omega
          have BE := Lib.hid (BL.out.trans (BW2.out.mono BL.out.size))
          go_wp2_with fail
          go_roundw
          case measure => simp [intOf]; omega
          case rel => exact ⟨k + 1, by go_num, by omega, BE.out⟩
       ·have dr : decide (a2_ ≥ l2_) = false := decide_eq_false hr
        clear hA1
        go_upto_region 32 with fail
        go_loopw [22] (fun s22 wr => ∃ n : Nat, s22 = .int .i64 n ∧ n ≤ s1 ∧ Below wv.heap.size wv wr) (fun s22 _ => s1 - (intOf s22).toNat)
        case atStart => exact ⟨0, by go_num, by omega, Below.refl _ _⟩
        case round =>
         obtain ⟨n, rfl, hn, hb⟩ := hrel
         have BW2 := Lib.hid hb
         clear hb m0 m1 m2 m3 f0 f1 f2
         obtain ⟨f0, f1, f2⟩ := cell3_of ((BW2.out.block _ (heap_lt X19.out)).trans X19.out)
         obtain ⟨l0, l1, l2⟩ := cell3_of ((BW2.out.block _ (heap_lt X1.out)).trans X1.out)
         by_cases hln : n < s1
         ·have hln' : (n : Int) < s1 := by omega
          have hnr : n < s.sw.length := by have := HNS.out; omega
          obtain ⟨v0, v1, v2, ev, hsn⟩ := VS.out
          cases ev
          obtain ⟨bw, ow, rfl, hbw, hc0, -, hc2⟩ := hsn.sw.at hnr
          obtain ⟨y0, hy0⟩ : ∃ z, z = s.sw[n].1 := ⟨_, rfl⟩
          obtain ⟨y2, hy2⟩ : ∃ z, z = s.sw[n].2.2 := ⟨_, rfl⟩
          have HC : y0 = a0_ → zl ≠ 0 → y2 = zl := by rw [hy0, hy2]; exact HA.out.2 n hnr
          rw [← hy0] at hc0
          rw [← hy2] at hc2
          have g5 : wr.cell? ⟨bw, ow + n * 3, none⟩ = some (.int .i64 y0) := (BW2.out.cell (p := ⟨bw, ow + n * 3, none⟩) hbw).trans (by simpa using hc0)
          have g6 : wr.cell? ⟨bw, ow + n * 3 + 2, none⟩ = some (.int .i64 y2) := (BW2.out.cell (p := ⟨bw, ow + n * 3 + 2, none⟩) hbw).trans (by simpa using hc2)
          have BD : Hid (∀ nq, Below wr.heap.size wr (wr.drewN nq)) := Lib.hid (fun nq => ⟨rfl, rfl, rfl, Nat.le_refl _, fun _ _ => rfl⟩)
          clear hc0 hc2 hbw hsn hy0 hy2 hnr
          go_upto_region 34 with fail
          by_cases h1 : y0 = a0_
          ·have d1 : (y0 == a0_) = true := by simpa using h1
           by_cases h2 : zl = 0
           ·have d2 : (zl != 0) = false := by simpa using h2
            clear HC h1 h2
            go_quiet (fail)
            have hdb := BD.out nq
            generalize wr.drewN nq = wq at hdb ⊢
            have B3 := Lib.hid (BW2.out.trans (hdb.mono BW2.out.size))
            clear hdb BD g5 g6 f0 f1 f2 l0 l1 l2
            go_wp2_with fail
            go_roundw
            case measure => simp [intOf]; omega
            case rel => exact ⟨n + 1, by go_num, by omega, B3.out⟩
           ·have d2 : (zl != 0) = true := by simpa using h2
            have d3 : (y2 != zl) = false := by simpa using HC h1 h2
            clear HC h1 h2
            go_quiet (fail)
            have hdb := BD.out nq
            generalize wr.drewN nq = wq at hdb ⊢
            have B3 := Lib.hid (BW2.out.trans (hdb.mono BW2.out.size))
            clear hdb BD g5 g6 f0 f1 f2 l0 l1 l2
            go_wp2_with fail
            go_roundw
            case measure => simp [intOf]; omega
            case rel => exact ⟨n + 1, by go_num, by omega, B3.out⟩
          ·have d1 : (y0 == a0_) = false := by simpa using h1
           clear HC h1
           go_quiet (fail)
           have hdb := BD.out nq
           generalize wr.drewN nq = wq at hdb ⊢
           have B3 := Lib.hid (BW2.out.trans (hdb.mono BW2.out.size))
           clear hdb BD g5 g6 f0 f1 f2 l0 l1 l2
           go_wp2_with fail
           go_roundw
           case measure => simp [intOf]; omega
           case rel => exact ⟨n + 1, by go_num, by omega, B3.out⟩
         ·obtain rfl : n = s1 := by omega
          have hln' : ¬ (n : Int) < n := by omega
          have BE := Lib.hid (BL.out.trans (BW2.out.mono BL.out.size))
          go_wp2_with fail
          go_roundw
          case measure => simp [intOf]; omega
          case rel => exact ⟨k + 1, by go_num, by omega, BE.out⟩
    ·obtain rfl : k = dn2 := by omega
     have hlk' : ¬ (k : Int) < k := by omega
     go_wp2_with fail
     go_ret
     exact ⟨rfl, BQ.out⟩
end Go.Proofs.Ytemmgmjhomgbbaa
