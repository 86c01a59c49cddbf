/-
  PlanTells: the walk, given the program's contracts.
  Conditions: none.
-/
import Derived.Test.YthlolpflgninjaaPlnProg
import Derived.Test.YthlolpflgninjaaPlnRow
set_option linter.unusedVariables false
set_option linter.unusedSimpArgs false
set_option maxRecDepth 100000
namespace Go.Proofs.Ythlolpflgninjaa
open Go.RowKit
set_option maxHeartbeats 16000000 in
theorem walk_plan_tells (hp : PlanSaid) (v : Value) (p : Pl) (a b : Int) (w : World) (h : PlanV w w.heap.size v p) :
    Calls Try.prog 4 #[v, .int .i64 a, .int .i64 b] w fun e w' => e = .returned (.bool true) ∧ Below w.heap.size w w' := by
  obtain ⟨y2, y3, y4, y5, rfl, hin⟩ := h
  have HIN0 := Lib.hid hin
  obtain ⟨A2, c2, rfl, -, -⟩ := hin.secs.slice
  obtain ⟨A3, c3, rfl, -, -⟩ := hin.pts.slice
  obtain ⟨A4, c4, rfl, -, -⟩ := hin.sigs.slice
  obtain ⟨A5, c5, rfl, -, -⟩ := hin.routes.slice
  obtain ⟨n2, hn2⟩ : ∃ n, n = p.secs.length := ⟨_, rfl⟩
  obtain ⟨n3, hn3⟩ : ∃ n, n = p.pts.length := ⟨_, rfl⟩
  obtain ⟨n4, hn4⟩ : ∃ n, n = p.sigs.length := ⟨_, rfl⟩
  obtain ⟨n5, hn5⟩ : ∃ n, n = p.routes.length := ⟨_, rfl⟩
  have HP0 : Hid (PlanV w w.heap.size (.agg #[.int .i64 p.ver, .int .i64 p.par, .slice A2 n2 c2, .slice A3 n3 c3, .slice A4 n4 c4, .slice A5 n5 c5]) p) := Lib.hid ⟨_, _, _, _, rfl, by rw [hn2, hn3, hn4, hn5]; exact HIN0.out⟩
  rw [← hn2, ← hn3, ← hn4, ← hn5]
  clear hn2 hn3 hn4 hn5 HIN0 hin
  have hq0 := heap_alloc_self w (.cells #[.int .i64 p.ver, .int .i64 p.par, .slice A2 n2 c2, .slice A3 n3 c3, .slice A4 n4 c4, .slice A5 n5 c5] 30)
  have hqb := below_new w (.cells #[.int .i64 p.ver, .int .i64 p.par, .slice A2 n2 c2, .slice A3 n3 c3, .slice A4 n4 c4, .slice A5 n5 c5] 30)
  go_enter Try.func4, Try.ntmps4
  go_upto_region 1 with fail
  generalize w.alloc (.cells #[.int .i64 p.ver, .int .i64 p.par, .slice A2 n2 c2, .slice A3 n3 c3, .slice A4 n4 c4, .slice A5 n5 c5] 30) = q at hq0 hqb ⊢
  have BZ := Lib.hid hqb
  have XP := Lib.hid hq0
  have HP := Lib.hid ((HP0.out.below hqb).more hqb.size)
  clear hq0 hqb HP0
  obtain ⟨k0, k1, k2, k3, k4, k5⟩ := cell6_of XP.out
  go_wp2_with fail
  refine (rgreat8_any _ p q HP.out).mono ?_
  rintro e w1 ⟨⟨g, rfl, hg⟩, b1⟩
  clear k0 k1 k2 k3 k4 k5
  have tBZ := BZ.out.trans (b1.mono BZ.out.size)
  have tXP := (b1.block _ (heap_lt XP.out)).trans XP.out
  have tHP := (HP.out.below b1).more b1.size
  clear BZ XP HP b1
  have BZ := Lib.hid tBZ
  have XP := Lib.hid tXP
  have HP := Lib.hid tHP
  clear tBZ tXP tHP
  cases g with
  | true =>
    go_wp2_with fail
    go_ret
    exact ⟨rfl, BZ.out⟩
  | false =>
  have FEW := Lib.hid (hg rfl)
  clear hg
  obtain ⟨k0, k1, k2, k3, k4, k5⟩ := cell6_of XP.out
  go_wp2_with fail
  refine (rtwin8_any _ p w1 HP.out FEW.out).mono ?_
  rintro e w2 ⟨u2, u3, u4, u5, rfl, ho, b2⟩
  obtain ⟨O2, f2, rfl⟩ := ho.secs.slice
  obtain ⟨O3, f3, rfl⟩ := ho.pts.slice
  obtain ⟨O4, f4, rfl⟩ := ho.sigs.slice
  obtain ⟨O5, f5, rfl⟩ := ho.routes.slice
  have HO : Hid (PlanV w2 w2.heap.size (.agg #[.int .i64 p.ver, .int .i64 p.par, .slice O2 p.secs.length f2, .slice O3 p.pts.length f3, .slice O4 p.sigs.length f4, .slice O5 p.routes.length f5]) p) := Lib.hid ⟨_, _, _, _, rfl, ho.in_⟩
  clear ho k0 k1 k2 k3 k4 k5
  have tBZ := BZ.out.trans (b2.mono BZ.out.size)
  have tXP := (b2.block _ (heap_lt XP.out)).trans XP.out
  have tHP := (HP.out.below b2).more b2.size
  clear BZ XP HP b2
  have BZ := Lib.hid tBZ
  have XP := Lib.hid tXP
  have HP := Lib.hid tHP
  clear tBZ tXP tHP
  have hx1 := heap_alloc_self w2 (.cells #[.int .i64 p.ver, .int .i64 p.par, .slice O2 p.secs.length f2, .slice O3 p.pts.length f3, .slice O4 p.sigs.length f4, .slice O5 p.routes.length f5] 30)
  have hb1 := below_new w2 (.cells #[.int .i64 p.ver, .int .i64 p.par, .slice O2 p.secs.length f2, .slice O3 p.pts.length f3, .slice O4 p.sigs.length f4, .slice O5 p.routes.length f5] 30)
  obtain ⟨q1, hq1⟩ : ∃ q, q = w2.alloc (.cells #[.int .i64 p.ver, .int .i64 p.par, .slice O2 p.secs.length f2, .slice O3 p.pts.length f3, .slice O4 p.sigs.length f4, .slice O5 p.routes.length f5] 30) := ⟨_, rfl⟩
  rw [← hq1] at hx1 hb1
  go_upto_region 4 with fail
  rw [← hq1]
  have XO := Lib.hid hx1
  generalize w2.heap.size = p7 at XO ⊢
  clear hx1 hq1
  have tBZ := BZ.out.trans (hb1.mono BZ.out.size)
  have tXP := (hb1.block _ (heap_lt XP.out)).trans XP.out
  have tHP := (HP.out.below hb1).more hb1.size
  have tHO := (HO.out.below hb1).more hb1.size
  clear BZ XP HP HO hb1
  have BZ := Lib.hid tBZ
  have XP := Lib.hid tXP
  have HP := Lib.hid tHP
  have HO := Lib.hid tHO
  clear tBZ tXP tHP tHO
  obtain ⟨x1, hx1⟩ : ∃ x, x = elV p kPt p.pts a (0, 0) := ⟨_, rfl⟩
  obtain ⟨x2, hx2⟩ : ∃ x, x = elV p kSg p.sigs a (0, 0, 0) := ⟨_, rfl⟩
  obtain ⟨R, hR⟩ : ∃ x, x = elV p kRt p.routes a zRt := ⟨_, rfl⟩
  obtain ⟨E1, hE1⟩ : ∃ x, x = elE p kPt p.pts a := ⟨_, rfl⟩
  obtain ⟨E2, hE2⟩ : ∃ x, x = elE p kSg p.sigs a := ⟨_, rfl⟩
  obtain ⟨E3, hE3⟩ : ∃ x, x = elE p kRt p.routes a := ⟨_, rfl⟩
  obtain ⟨N4, hN4⟩ : ∃ x, x = stN p a b := ⟨_, rfl⟩
  obtain ⟨E4, hE4⟩ : ∃ x, x = stE p a b := ⟨_, rfl⟩
  obtain ⟨E5, hE5⟩ : ∃ x, x = chk8 p := ⟨_, rfl⟩
  have EQS := Lib.hid (And.intro hx1 (And.intro hx2 (And.intro hR (And.intro hE1 (And.intro hE2 (And.intro hE3 (And.intro hN4 (And.intro hE4 hE5))))))))
  have RLEN : Hid (∀ j (h : j < p.routes.length), p.routes[j].path.length ≤ 1000 ∧ p.routes[j].over.length ≤ 1000 ∧ p.routes[j].flanks.length ≤ 1000) := Lib.hid (fun j h => by have := FEW.out.each j h; omega)
  clear hx1 hx2 hR hE1 hE2 hE3 hN4 hE4 hE5
  obtain ⟨k0, k1, k2, k3, k4, k5⟩ := cell6_of XO.out
  go_wp2_with fail
  refine (hp.point _ p a q1 HO.out).mono ?_
  rintro e w3 ⟨rfl, b3⟩
  clear k0 k1 k2 k3 k4 k5
  rw [← EQS.out.1, ← EQS.out.2.2.2.1]
  have tBZ := BZ.out.trans (b3.mono BZ.out.size)
  have tXP := (b3.block _ (heap_lt XP.out)).trans XP.out
  have tXO := (b3.block _ (heap_lt XO.out)).trans XO.out
  have tHP := (HP.out.below b3).more b3.size
  have tHO := (HO.out.below b3).more b3.size
  clear BZ XP XO HP HO b3
  have BZ := Lib.hid tBZ
  have XP := Lib.hid tXP
  have XO := Lib.hid tXO
  have HP := Lib.hid tHP
  have HO := Lib.hid tHO
  clear tBZ tXP tXO tHP tHO
  have hx2 := heap_alloc_self w3 (.cells #[.int .i64 x1.1, .int .i64 x1.2] 43)
  have hb2 := below_new w3 (.cells #[.int .i64 x1.1, .int .i64 x1.2] 43)
  obtain ⟨q2, hq2⟩ : ∃ q, q = w3.alloc (.cells #[.int .i64 x1.1, .int .i64 x1.2] 43) := ⟨_, rfl⟩
  rw [← hq2] at hx2 hb2
  go_upto_region 5 with fail
  rw [← hq2]
  have X8 := Lib.hid hx2
  generalize w3.heap.size = p8 at X8 ⊢
  clear hx2 hq2
  have tBZ := BZ.out.trans (hb2.mono BZ.out.size)
  have tXP := (hb2.block _ (heap_lt XP.out)).trans XP.out
  have tXO := (hb2.block _ (heap_lt XO.out)).trans XO.out
  have tHP := (HP.out.below hb2).more hb2.size
  have tHO := (HO.out.below hb2).more hb2.size
  clear BZ XP XO HP HO hb2
  have BZ := Lib.hid tBZ
  have XP := Lib.hid tXP
  have XO := Lib.hid tXO
  have HP := Lib.hid tHP
  have HO := Lib.hid tHO
  clear tBZ tXP tXO tHP tHO
  obtain ⟨k0, k1, k2, k3, k4, k5⟩ := cell6_of XP.out
  go_wp2_with fail
  refine (rpoint_any _ p a q2 HP.out).mono ?_
  rintro e w4 ⟨rfl, b4⟩
  clear k0 k1 k2 k3 k4 k5
  rw [← EQS.out.1, ← EQS.out.2.2.2.1]
  have tBZ := BZ.out.trans (b4.mono BZ.out.size)
  have tXP := (b4.block _ (heap_lt XP.out)).trans XP.out
  have tXO := (b4.block _ (heap_lt XO.out)).trans XO.out
  have tX8 := (b4.block _ (heap_lt X8.out)).trans X8.out
  have tHP := (HP.out.below b4).more b4.size
  have tHO := (HO.out.below b4).more b4.size
  clear BZ XP XO X8 HP HO b4
  have BZ := Lib.hid tBZ
  have XP := Lib.hid tXP
  have XO := Lib.hid tXO
  have X8 := Lib.hid tX8
  have HP := Lib.hid tHP
  have HO := Lib.hid tHO
  clear tBZ tXP tXO tX8 tHP tHO
  have hx3 := heap_alloc_self w4 (.cells #[.int .i64 x1.1, .int .i64 x1.2] 43)
  have hb3 := below_new w4 (.cells #[.int .i64 x1.1, .int .i64 x1.2] 43)
  obtain ⟨q3, hq3⟩ : ∃ q, q = w4.alloc (.cells #[.int .i64 x1.1, .int .i64 x1.2] 43) := ⟨_, rfl⟩
  rw [← hq3] at hx3 hb3
  go_upto_region 6 with fail
  rw [← hq3]
  have X10 := Lib.hid hx3
  generalize w4.heap.size = p10 at X10 ⊢
  clear hx3 hq3
  have tBZ := BZ.out.trans (hb3.mono BZ.out.size)
  have tXP := (hb3.block _ (heap_lt XP.out)).trans XP.out
  have tXO := (hb3.block _ (heap_lt XO.out)).trans XO.out
  have tX8 := (hb3.block _ (heap_lt X8.out)).trans X8.out
  have tHP := (HP.out.below hb3).more hb3.size
  have tHO := (HO.out.below hb3).more hb3.size
  clear BZ XP XO X8 HP HO hb3
  have BZ := Lib.hid tBZ
  have XP := Lib.hid tXP
  have XO := Lib.hid tXO
  have X8 := Lib.hid tX8
  have HP := Lib.hid tHP
  have HO := Lib.hid tHO
  clear tBZ tXP tXO tX8 tHP tHO
  obtain ⟨k0, k1, k2, k3, k4, k5⟩ := cell6_of XO.out
  go_wp2_with fail
  refine (hp.signal _ p a q3 HO.out).mono ?_
  rintro e w5 ⟨rfl, b5⟩
  clear k0 k1 k2 k3 k4 k5
  rw [← EQS.out.2.1, ← EQS.out.2.2.2.2.1]
  have tBZ := BZ.out.trans (b5.mono BZ.out.size)
  have tXP := (b5.block _ (heap_lt XP.out)).trans XP.out
  have tXO := (b5.block _ (heap_lt XO.out)).trans XO.out
  have tX8 := (b5.block _ (heap_lt X8.out)).trans X8.out
  have tX10 := (b5.block _ (heap_lt X10.out)).trans X10.out
  have tHP := (HP.out.below b5).more b5.size
  have tHO := (HO.out.below b5).more b5.size
  clear BZ XP XO X8 X10 HP HO b5
  have BZ := Lib.hid tBZ
  have XP := Lib.hid tXP
  have XO := Lib.hid tXO
  have X8 := Lib.hid tX8
  have X10 := Lib.hid tX10
  have HP := Lib.hid tHP
  have HO := Lib.hid tHO
  clear tBZ tXP tXO tX8 tX10 tHP tHO
  have hx4 := heap_alloc_self w5 (.cells #[.int .i64 x2.1, .int .i64 x2.2.1, .int .i64 x2.2.2] 49)
  have hb4 := below_new w5 (.cells #[.int .i64 x2.1, .int .i64 x2.2.1, .int .i64 x2.2.2] 49)
  obtain ⟨q4, hq4⟩ : ∃ q, q = w5.alloc (.cells #[.int .i64 x2.1, .int .i64 x2.2.1, .int .i64 x2.2.2] 49) := ⟨_, rfl⟩
  rw [← hq4] at hx4 hb4
  go_upto_region 7 with fail
  rw [← hq4]
  have X12 := Lib.hid hx4
  generalize w5.heap.size = p12 at X12 ⊢
  clear hx4 hq4
  have tBZ := BZ.out.trans (hb4.mono BZ.out.size)
  have tXP := (hb4.block _ (heap_lt XP.out)).trans XP.out
  have tXO := (hb4.block _ (heap_lt XO.out)).trans XO.out
  have tX8 := (hb4.block _ (heap_lt X8.out)).trans X8.out
  have tX10 := (hb4.block _ (heap_lt X10.out)).trans X10.out
  have tHP := (HP.out.below hb4).more hb4.size
  have tHO := (HO.out.below hb4).more hb4.size
  clear BZ XP XO X8 X10 HP HO hb4
  have BZ := Lib.hid tBZ
  have XP := Lib.hid tXP
  have XO := Lib.hid tXO
  have X8 := Lib.hid tX8
  have X10 := Lib.hid tX10
  have HP := Lib.hid tHP
  have HO := Lib.hid tHO
  clear tBZ tXP tXO tX8 tX10 tHP tHO
  obtain ⟨k0, k1, k2, k3, k4, k5⟩ := cell6_of XP.out
  go_wp2_with fail
  refine (rsignal_any _ p a q4 HP.out).mono ?_
  rintro e w6 ⟨rfl, b6⟩
  clear k0 k1 k2 k3 k4 k5
  rw [← EQS.out.2.1, ← EQS.out.2.2.2.2.1]
  have tBZ := BZ.out.trans (b6.mono BZ.out.size)
  have tXP := (b6.block _ (heap_lt XP.out)).trans XP.out
  have tXO := (b6.block _ (heap_lt XO.out)).trans XO.out
  have tX8 := (b6.block _ (heap_lt X8.out)).trans X8.out
  have tX10 := (b6.block _ (heap_lt X10.out)).trans X10.out
  have tX12 := (b6.block _ (heap_lt X12.out)).trans X12.out
  have tHP := (HP.out.below b6).more b6.size
  have tHO := (HO.out.below b6).more b6.size
  clear BZ XP XO X8 X10 X12 HP HO b6
  have BZ := Lib.hid tBZ
  have XP := Lib.hid tXP
  have XO := Lib.hid tXO
  have X8 := Lib.hid tX8
  have X10 := Lib.hid tX10
  have X12 := Lib.hid tX12
  have HP := Lib.hid tHP
  have HO := Lib.hid tHO
  clear tBZ tXP tXO tX8 tX10 tX12 tHP tHO
  have hx5 := heap_alloc_self w6 (.cells #[.int .i64 x2.1, .int .i64 x2.2.1, .int .i64 x2.2.2] 49)
  have hb5 := below_new w6 (.cells #[.int .i64 x2.1, .int .i64 x2.2.1, .int .i64 x2.2.2] 49)
  obtain ⟨q5, hq5⟩ : ∃ q, q = w6.alloc (.cells #[.int .i64 x2.1, .int .i64 x2.2.1, .int .i64 x2.2.2] 49) := ⟨_, rfl⟩
  rw [← hq5] at hx5 hb5
  go_upto_region 8 with fail
  rw [← hq5]
  have X14 := Lib.hid hx5
  generalize w6.heap.size = p14 at X14 ⊢
  clear hx5 hq5
  have tBZ := BZ.out.trans (hb5.mono BZ.out.size)
  have tXP := (hb5.block _ (heap_lt XP.out)).trans XP.out
  have tXO := (hb5.block _ (heap_lt XO.out)).trans XO.out
  have tX8 := (hb5.block _ (heap_lt X8.out)).trans X8.out
  have tX10 := (hb5.block _ (heap_lt X10.out)).trans X10.out
  have tX12 := (hb5.block _ (heap_lt X12.out)).trans X12.out
  have tHP := (HP.out.below hb5).more hb5.size
  have tHO := (HO.out.below hb5).more hb5.size
  clear BZ XP XO X8 X10 X12 HP HO hb5
  have BZ := Lib.hid tBZ
  have XP := Lib.hid tXP
  have XO := Lib.hid tXO
  have X8 := Lib.hid tX8
  have X10 := Lib.hid tX10
  have X12 := Lib.hid tX12
  have HP := Lib.hid tHP
  have HO := Lib.hid tHO
  clear tBZ tXP tXO tX8 tX10 tX12 tHP tHO
  obtain ⟨wM, hwM⟩ : ∃ x, x = q5 := ⟨_, rfl⟩
  have MB : Hid (Below wM.heap.size wM q5) := Lib.hid (by rw [hwM]; exact Below.refl _ _)
  have MXP : Hid (wM.heap[w.heap.size]? = some (.cells #[.int .i64 p.ver, .int .i64 p.par, .slice A2 n2 c2, .slice A3 n3 c3, .slice A4 n4 c4, .slice A5 n5 c5] 30 (0, 0))) := Lib.hid (by rw [hwM]; exact XP.out)
  have MXO : Hid (wM.heap[p7]? = some (.cells #[.int .i64 p.ver, .int .i64 p.par, .slice O2 p.secs.length f2, .slice O3 p.pts.length f3, .slice O4 p.sigs.length f4, .slice O5 p.routes.length f5] 30 (0, 0))) := Lib.hid (by rw [hwM]; exact XO.out)
  have MHP : Hid (PlanV wM wM.heap.size (.agg #[.int .i64 p.ver, .int .i64 p.par, .slice A2 n2 c2, .slice A3 n3 c3, .slice A4 n4 c4, .slice A5 n5 c5]) p) := Lib.hid (by rw [hwM]; exact HP.out)
  have MHO : Hid (PlanV wM wM.heap.size (.agg #[.int .i64 p.ver, .int .i64 p.par, .slice O2 p.secs.length f2, .slice O3 p.pts.length f3, .slice O4 p.sigs.length f4, .slice O5 p.routes.length f5]) p) := Lib.hid (by rw [hwM]; exact HO.out)
  have MBZ : Hid (Below w.heap.size w wM) := Lib.hid (by rw [hwM]; exact BZ.out)
  have MSZ : Hid (wM.heap.size ≤ q5.heap.size) := Lib.hid (by rw [hwM]; exact Nat.le_refl _)
  clear hwM
  obtain ⟨k0, k1, k2, k3, k4, k5⟩ := cell6_of XO.out
  go_wp2_with fail
  refine (hp.route _ p a q5 HO.out).mono ?_
  rintro e w7 ⟨u3, u4, u5, rfl, hro, b7⟩
  rw [← EQS.out.2.2.1] at hro
  rw [← EQS.out.2.2.1, ← EQS.out.2.2.2.2.2.1]
  obtain ⟨D3, dg3, rfl⟩ := hro.path.slice
  obtain ⟨D4, dg4, rfl⟩ := hro.over.slice
  obtain ⟨D5, dg5, rfl⟩ := hro.flanks.slice
  have HRD : Hid (RouteV w7 w7.heap.size (.agg #[.int .i64 R.id, .int .i64 R.entry, .int .i64 R.exit, .slice D3 R.path.length dg3, .slice D4 R.over.length dg4, .slice D5 R.flanks.length dg5, .int .i64 R.timer]) R) := Lib.hid ⟨_, _, _, rfl, hro.in_⟩
  have IR := Lib.hid (intRow_of (hro.path.mono MSZ.out) rfl)
  have PAL : Hid (R.path.length ≤ 9223372036854775807) := Lib.hid (by obtain ⟨_, _, _, h, _⟩ := hro.path; unfold maxLen at h; omega)
  clear hro k0 k1 k2 k3 k4 k5
  have mB := MB.out.trans (b7.mono (by have := MB.out.size; exact this))
  clear MB
  have MB := Lib.hid mB
  clear mB
  have tBZ := BZ.out.trans (b7.mono BZ.out.size)
  have tXP := (b7.block _ (heap_lt XP.out)).trans XP.out
  have tXO := (b7.block _ (heap_lt XO.out)).trans XO.out
  have tX8 := (b7.block _ (heap_lt X8.out)).trans X8.out
  have tX10 := (b7.block _ (heap_lt X10.out)).trans X10.out
  have tX12 := (b7.block _ (heap_lt X12.out)).trans X12.out
  have tX14 := (b7.block _ (heap_lt X14.out)).trans X14.out
  have tHP := (HP.out.below b7).more b7.size
  have tHO := (HO.out.below b7).more b7.size
  clear BZ XP XO X8 X10 X12 X14 HP HO b7
  have BZ := Lib.hid tBZ
  have XP := Lib.hid tXP
  have XO := Lib.hid tXO
  have X8 := Lib.hid tX8
  have X10 := Lib.hid tX10
  have X12 := Lib.hid tX12
  have X14 := Lib.hid tX14
  have HP := Lib.hid tHP
  have HO := Lib.hid tHO
  clear tBZ tXP tXO tX8 tX10 tX12 tX14 tHP tHO
  have hx6 := heap_alloc_self w7 (.cells #[.int .i64 R.id, .int .i64 R.entry, .int .i64 R.exit, .slice D3 R.path.length dg3, .slice D4 R.over.length dg4, .slice D5 R.flanks.length dg5, .int .i64 R.timer] 35)
  have hb6 := below_new w7 (.cells #[.int .i64 R.id, .int .i64 R.entry, .int .i64 R.exit, .slice D3 R.path.length dg3, .slice D4 R.over.length dg4, .slice D5 R.flanks.length dg5, .int .i64 R.timer] 35)
  obtain ⟨q6, hq6⟩ : ∃ q, q = w7.alloc (.cells #[.int .i64 R.id, .int .i64 R.entry, .int .i64 R.exit, .slice D3 R.path.length dg3, .slice D4 R.over.length dg4, .slice D5 R.flanks.length dg5, .int .i64 R.timer] 35) := ⟨_, rfl⟩
  rw [← hq6] at hx6 hb6
  have mB := MB.out.trans (hb6.mono (by have := MB.out.size; exact this))
  have tIR : IntRow q6 wM.heap.size R.path.length D3 := by
    rcases IR.out with h | ⟨g, cur, e1, e2, e3, e4⟩
    · exact .inl h
    · exact .inr ⟨g, cur, e1, e2, (hb6.block _ (by first | exact heap_lt e3 | (have := heap_lt e3; omega))).trans e3, e4⟩
  clear MB IR
  have MB := Lib.hid mB
  have IR := Lib.hid tIR
  clear mB tIR
  go_upto_region 9 with fail
  rw [← hq6]
  have X16 := Lib.hid hx6
  generalize w7.heap.size = p16 at X16 ⊢
  clear hx6 hq6
  have tBZ := BZ.out.trans (hb6.mono BZ.out.size)
  have tXP := (hb6.block _ (heap_lt XP.out)).trans XP.out
  have tXO := (hb6.block _ (heap_lt XO.out)).trans XO.out
  have tX8 := (hb6.block _ (heap_lt X8.out)).trans X8.out
  have tX10 := (hb6.block _ (heap_lt X10.out)).trans X10.out
  have tX12 := (hb6.block _ (heap_lt X12.out)).trans X12.out
  have tX14 := (hb6.block _ (heap_lt X14.out)).trans X14.out
  have tHP := (HP.out.below hb6).more hb6.size
  have tHO := (HO.out.below hb6).more hb6.size
  have tHRD := (HRD.out.below hb6).more hb6.size
  clear BZ XP XO X8 X10 X12 X14 HP HO HRD hb6
  have BZ := Lib.hid tBZ
  have XP := Lib.hid tXP
  have XO := Lib.hid tXO
  have X8 := Lib.hid tX8
  have X10 := Lib.hid tX10
  have X12 := Lib.hid tX12
  have X14 := Lib.hid tX14
  have HP := Lib.hid tHP
  have HO := Lib.hid tHO
  have HRD := Lib.hid tHRD
  clear tBZ tXP tXO tX8 tX10 tX12 tX14 tHP tHO tHRD
  obtain ⟨k0, k1, k2, k3, k4, k5⟩ := cell6_of XP.out
  go_wp2_with fail
  refine (rroute8_any _ p a q6 HP.out RLEN.out).mono ?_
  rintro e w8 ⟨u3, u4, u5, rfl, hro, b8⟩
  rw [← EQS.out.2.2.1] at hro
  rw [← EQS.out.2.2.1, ← EQS.out.2.2.2.2.2.1]
  obtain ⟨G3, gg3, rfl⟩ := hro.path.slice
  obtain ⟨G4, gg4, rfl⟩ := hro.over.slice
  obtain ⟨G5, gg5, rfl⟩ := hro.flanks.slice
  have HRG : Hid (RouteV w8 w8.heap.size (.agg #[.int .i64 R.id, .int .i64 R.entry, .int .i64 R.exit, .slice G3 R.path.length gg3, .slice G4 R.over.length gg4, .slice G5 R.flanks.length gg5, .int .i64 R.timer]) R) := Lib.hid ⟨_, _, _, rfl, hro.in_⟩
  clear hro k0 k1 k2 k3 k4 k5
  have mB := MB.out.trans (b8.mono (by have := MB.out.size; exact this))
  have tIR : IntRow w8 wM.heap.size R.path.length D3 := by
    rcases IR.out with h | ⟨g, cur, e1, e2, e3, e4⟩
    · exact .inl h
    · exact .inr ⟨g, cur, e1, e2, (b8.block _ (heap_lt e3)).trans e3, e4⟩
  clear IR
  have IR := Lib.hid tIR
  clear tIR
  clear MB
  have MB := Lib.hid mB
  clear mB
  have tBZ := BZ.out.trans (b8.mono BZ.out.size)
  have tXP := (b8.block _ (heap_lt XP.out)).trans XP.out
  have tXO := (b8.block _ (heap_lt XO.out)).trans XO.out
  have tX8 := (b8.block _ (heap_lt X8.out)).trans X8.out
  have tX10 := (b8.block _ (heap_lt X10.out)).trans X10.out
  have tX12 := (b8.block _ (heap_lt X12.out)).trans X12.out
  have tX14 := (b8.block _ (heap_lt X14.out)).trans X14.out
  have tX16 := (b8.block _ (heap_lt X16.out)).trans X16.out
  have tHP := (HP.out.below b8).more b8.size
  have tHO := (HO.out.below b8).more b8.size
  have tHRD := (HRD.out.below b8).more b8.size
  clear BZ XP XO X8 X10 X12 X14 X16 HP HO HRD b8
  have BZ := Lib.hid tBZ
  have XP := Lib.hid tXP
  have XO := Lib.hid tXO
  have X8 := Lib.hid tX8
  have X10 := Lib.hid tX10
  have X12 := Lib.hid tX12
  have X14 := Lib.hid tX14
  have X16 := Lib.hid tX16
  have HP := Lib.hid tHP
  have HO := Lib.hid tHO
  have HRD := Lib.hid tHRD
  clear tBZ tXP tXO tX8 tX10 tX12 tX14 tX16 tHP tHO tHRD
  have hx7 := heap_alloc_self w8 (.cells #[.int .i64 R.id, .int .i64 R.entry, .int .i64 R.exit, .slice G3 R.path.length gg3, .slice G4 R.over.length gg4, .slice G5 R.flanks.length gg5, .int .i64 R.timer] 35)
  have hb7 := below_new w8 (.cells #[.int .i64 R.id, .int .i64 R.entry, .int .i64 R.exit, .slice G3 R.path.length gg3, .slice G4 R.over.length gg4, .slice G5 R.flanks.length gg5, .int .i64 R.timer] 35)
  obtain ⟨q7, hq7⟩ : ∃ q, q = w8.alloc (.cells #[.int .i64 R.id, .int .i64 R.entry, .int .i64 R.exit, .slice G3 R.path.length gg3, .slice G4 R.over.length gg4, .slice G5 R.flanks.length gg5, .int .i64 R.timer] 35) := ⟨_, rfl⟩
  rw [← hq7] at hx7 hb7
  have mB := MB.out.trans (hb7.mono (by have := MB.out.size; exact this))
  have tIR : IntRow q7 wM.heap.size R.path.length D3 := by
    rcases IR.out with h | ⟨g, cur, e1, e2, e3, e4⟩
    · exact .inl h
    · exact .inr ⟨g, cur, e1, e2, (hb7.block _ (by first | exact heap_lt e3 | (have := heap_lt e3; omega))).trans e3, e4⟩
  clear MB IR
  have MB := Lib.hid mB
  have IR := Lib.hid tIR
  clear mB tIR
  go_upto_region 10 with fail
  rw [← hq7]
  have X18 := Lib.hid hx7
  generalize w8.heap.size = p18 at X18 ⊢
  clear hx7 hq7
  have tBZ := BZ.out.trans (hb7.mono BZ.out.size)
  have tXP := (hb7.block _ (heap_lt XP.out)).trans XP.out
  have tXO := (hb7.block _ (heap_lt XO.out)).trans XO.out
  have tX8 := (hb7.block _ (heap_lt X8.out)).trans X8.out
  have tX10 := (hb7.block _ (heap_lt X10.out)).trans X10.out
  have tX12 := (hb7.block _ (heap_lt X12.out)).trans X12.out
  have tX14 := (hb7.block _ (heap_lt X14.out)).trans X14.out
  have tX16 := (hb7.block _ (heap_lt X16.out)).trans X16.out
  have tHP := (HP.out.below hb7).more hb7.size
  have tHO := (HO.out.below hb7).more hb7.size
  have tHRD := (HRD.out.below hb7).more hb7.size
  have tHRG := (HRG.out.below hb7).more hb7.size
  clear BZ XP XO X8 X10 X12 X14 X16 HP HO HRD HRG hb7
  have BZ := Lib.hid tBZ
  have XP := Lib.hid tXP
  have XO := Lib.hid tXO
  have X8 := Lib.hid tX8
  have X10 := Lib.hid tX10
  have X12 := Lib.hid tX12
  have X14 := Lib.hid tX14
  have X16 := Lib.hid tX16
  have HP := Lib.hid tHP
  have HO := Lib.hid tHO
  have HRD := Lib.hid tHRD
  have HRG := Lib.hid tHRG
  clear tBZ tXP tXO tX8 tX10 tX12 tX14 tX16 tHP tHO tHRD tHRG
  obtain ⟨k0, k1, k2, k3, k4, k5⟩ := cell6_of XO.out
  go_wp2_with fail
  refine (hp.stands _ p a b q7 HO.out).mono ?_
  rintro e w9 ⟨rfl, b9⟩
  rw [← EQS.out.2.2.2.2.2.2.1, ← EQS.out.2.2.2.2.2.2.2.1]
  clear k0 k1 k2 k3 k4 k5
  have mB := MB.out.trans (b9.mono (by have := MB.out.size; exact this))
  have tIR : IntRow w9 wM.heap.size R.path.length D3 := by
    rcases IR.out with h | ⟨g, cur, e1, e2, e3, e4⟩
    · exact .inl h
    · exact .inr ⟨g, cur, e1, e2, (b9.block _ (heap_lt e3)).trans e3, e4⟩
  clear MB IR
  have MB := Lib.hid mB
  have IR := Lib.hid tIR
  clear mB tIR
  have tBZ := BZ.out.trans (b9.mono BZ.out.size)
  have tXP := (b9.block _ (heap_lt XP.out)).trans XP.out
  have tXO := (b9.block _ (heap_lt XO.out)).trans XO.out
  have tX8 := (b9.block _ (heap_lt X8.out)).trans X8.out
  have tX10 := (b9.block _ (heap_lt X10.out)).trans X10.out
  have tX12 := (b9.block _ (heap_lt X12.out)).trans X12.out
  have tX14 := (b9.block _ (heap_lt X14.out)).trans X14.out
  have tX16 := (b9.block _ (heap_lt X16.out)).trans X16.out
  have tX18 := (b9.block _ (heap_lt X18.out)).trans X18.out
  have tHP := (HP.out.below b9).more b9.size
  have tHO := (HO.out.below b9).more b9.size
  have tHRD := (HRD.out.below b9).more b9.size
  have tHRG := (HRG.out.below b9).more b9.size
  clear BZ XP XO X8 X10 X12 X14 X16 X18 HP HO HRD HRG b9
  have BZ := Lib.hid tBZ
  have XP := Lib.hid tXP
  have XO := Lib.hid tXO
  have X8 := Lib.hid tX8
  have X10 := Lib.hid tX10
  have X12 := Lib.hid tX12
  have X14 := Lib.hid tX14
  have X16 := Lib.hid tX16
  have X18 := Lib.hid tX18
  have HP := Lib.hid tHP
  have HO := Lib.hid tHO
  have HRD := Lib.hid tHRD
  have HRG := Lib.hid tHRG
  clear tBZ tXP tXO tX8 tX10 tX12 tX14 tX16 tX18 tHP tHO tHRD tHRG
  go_upto_region 11 with fail
  obtain ⟨k0, k1, k2, k3, k4, k5⟩ := cell6_of XP.out
  go_wp2_with fail
  refine (rstands_any _ p a b w9 HP.out).mono ?_
  rintro e w10 ⟨rfl, b10⟩
  rw [← EQS.out.2.2.2.2.2.2.1, ← EQS.out.2.2.2.2.2.2.2.1]
  clear k0 k1 k2 k3 k4 k5
  have mB := MB.out.trans (b10.mono (by have := MB.out.size; exact this))
  have tIR : IntRow w10 wM.heap.size R.path.length D3 := by
    rcases IR.out with h | ⟨g, cur, e1, e2, e3, e4⟩
    · exact .inl h
    · exact .inr ⟨g, cur, e1, e2, (b10.block _ (heap_lt e3)).trans e3, e4⟩
  clear MB IR
  have MB := Lib.hid mB
  have IR := Lib.hid tIR
  clear mB tIR
  have tBZ := BZ.out.trans (b10.mono BZ.out.size)
  have tXP := (b10.block _ (heap_lt XP.out)).trans XP.out
  have tXO := (b10.block _ (heap_lt XO.out)).trans XO.out
  have tX8 := (b10.block _ (heap_lt X8.out)).trans X8.out
  have tX10 := (b10.block _ (heap_lt X10.out)).trans X10.out
  have tX12 := (b10.block _ (heap_lt X12.out)).trans X12.out
  have tX14 := (b10.block _ (heap_lt X14.out)).trans X14.out
  have tX16 := (b10.block _ (heap_lt X16.out)).trans X16.out
  have tX18 := (b10.block _ (heap_lt X18.out)).trans X18.out
  have tHP := (HP.out.below b10).more b10.size
  have tHO := (HO.out.below b10).more b10.size
  have tHRD := (HRD.out.below b10).more b10.size
  have tHRG := (HRG.out.below b10).more b10.size
  clear BZ XP XO X8 X10 X12 X14 X16 X18 HP HO HRD HRG b10
  have BZ := Lib.hid tBZ
  have XP := Lib.hid tXP
  have XO := Lib.hid tXO
  have X8 := Lib.hid tX8
  have X10 := Lib.hid tX10
  have X12 := Lib.hid tX12
  have X14 := Lib.hid tX14
  have X16 := Lib.hid tX16
  have X18 := Lib.hid tX18
  have HP := Lib.hid tHP
  have HO := Lib.hid tHO
  have HRD := Lib.hid tHRD
  have HRG := Lib.hid tHRG
  clear tBZ tXP tXO tX8 tX10 tX12 tX14 tX16 tX18 tHP tHO tHRD tHRG
  go_upto_region 12 with fail
  have hc1 : ∀ w' : World, (Op.equalIn 10000 43 (.agg #[.int .i64 x1.1, .int .i64 x1.2]) (.agg #[.int .i64 x1.1, .int .i64 x1.2])).run Try.prog w' = .ok true w' := eqPoint_eq rfl
  have hc2 : ∀ w' : World, (Op.equalIn 10000 49 (.agg #[.int .i64 x2.1, .int .i64 x2.2.1, .int .i64 x2.2.2]) (.agg #[.int .i64 x2.1, .int .i64 x2.2.1, .int .i64 x2.2.2])).run Try.prog w' = .ok true w' := eqSig_eq rfl
  refine wp_region_held_drew (S := fun v => Below w10.heap.size w10 v) (by kernel_rfl) (Below.refl w10.heap.size w10).drew (fun hHeld => ?_)
  refine wpAnyH_take (i := 0) (v := ?_) rfl (by kernel_rfl) (by kernel_rfl) (by kernel_rfl) (fun _ _ _ h => h) (Or.inl ⟨by rfl, ?_⟩) hHeld ?_
  rotate_left
  · intro w' hSw; obtain ⟨cv0, cv1, cv2, cv3, cv4, cv5⟩ := cell6_of ((hSw.block _ (heap_lt XO.out)).trans XO.out); go_simp; try with_reducible rfl
  simp only [List.getElem_toArray, List.getElem_cons_succ, List.getElem_cons_zero, Act.put, List.setIfInBounds_toArray, List.set_cons_zero, List.set_cons_succ]
  refine wpAnyH_take (i := 2) (v := ?_) rfl (by kernel_rfl) (by kernel_rfl) (by kernel_rfl) (fun _ _ _ h => h) (Or.inl ⟨by rfl, ?_⟩) hHeld ?_
  rotate_left
  · intro w' hSw; obtain ⟨cv0, cv1, cv2, cv3, cv4, cv5⟩ := cell6_of ((hSw.block _ (heap_lt XP.out)).trans XP.out); go_simp; try with_reducible rfl
  simp only [List.getElem_toArray, List.getElem_cons_succ, List.getElem_cons_zero, Act.put, List.setIfInBounds_toArray, List.set_cons_zero, List.set_cons_succ]
  refine wpAnyH_ready (rs := [1]) (by kernel_rfl) (by simp) ?_
  refine AllReadyH.cons rfl (fun K hK => ?_) AllReadyH.nil
  go_simp
  refine (hp.check _ p w10.drew (HO.out.below (Below.refl w10.heap.size w10).drew)).mono ?_
  rintro e wA ⟨rfl, bA⟩
  rw [← EQS.out.2.2.2.2.2.2.2.2]
  have SA : Hid (Below w10.heap.size w10 wA) := Lib.hid ((Below.refl w10.heap.size w10).drew.trans bA)
  clear bA
  try go_wp2_with fail
  refine hK.out _ _ ?_ (fun hHeld => ?_)
  · exact SA.out
  clear hK K
  try simp only [List.getElem_toArray, List.getElem_cons_succ, List.getElem_cons_zero, Act.put, List.setIfInBounds_toArray, List.set_cons_zero, List.set_cons_succ]
  refine wpAnyH_ready (rs := [3]) (by kernel_rfl) (by simp) ?_
  refine AllReadyH.cons rfl (fun K hK => ?_) AllReadyH.nil
  go_simp
  refine (rcheck8_any _ p wA ((HP.out.below SA.out).more SA.out.size)).mono ?_
  rintro e wB ⟨rfl, bB⟩
  rw [← EQS.out.2.2.2.2.2.2.2.2]
  have SB : Hid (Below w10.heap.size w10 wB) := Lib.hid (SA.out.trans (bB.mono SA.out.size))
  clear bB
  try go_wp2_with fail
  refine hK.out _ _ ?_ (fun hHeld => ?_)
  · exact SB.out
  clear hK K
  try simp only [List.getElem_toArray, List.getElem_cons_succ, List.getElem_cons_zero, Act.put, List.setIfInBounds_toArray, List.set_cons_zero, List.set_cons_succ]
  refine wpAnyH_take (i := 4) (v := ?_) rfl (by kernel_rfl) (by kernel_rfl) (by kernel_rfl) (fun _ _ _ h => h) (Or.inl ⟨by rfl, ?_⟩) hHeld ?_
  rotate_left
  · intro w' hSw; go_simp; try with_reducible rfl
  simp only [List.getElem_toArray, List.getElem_cons_succ, List.getElem_cons_zero, Act.put, List.setIfInBounds_toArray, List.set_cons_zero, List.set_cons_succ]
  refine wpAnyH_take (i := 5) (v := ?_) rfl (by kernel_rfl) (by kernel_rfl) (by kernel_rfl) (fun _ _ _ h => h) (Or.inl ⟨by rfl, ?_⟩) hHeld ?_
  rotate_left
  · intro w' hSw; go_simp; try with_reducible rfl
  simp only [List.getElem_toArray, List.getElem_cons_succ, List.getElem_cons_zero, Act.put, List.setIfInBounds_toArray, List.set_cons_zero, List.set_cons_succ]
  refine wpAnyH_take (i := 6) (v := ?_) rfl (by kernel_rfl) (by kernel_rfl) (by kernel_rfl) (fun _ _ _ h => h) (Or.inl ⟨by rfl, ?_⟩) hHeld ?_
  rotate_left
  · intro w' hSw; obtain ⟨cw0, cw1⟩ := cell2_of ((hSw.block _ (heap_lt X8.out)).trans X8.out); go_simp; try with_reducible rfl
  simp only [List.getElem_toArray, List.getElem_cons_succ, List.getElem_cons_zero, Act.put, List.setIfInBounds_toArray, List.set_cons_zero, List.set_cons_succ]
  refine wpAnyH_take (i := 7) (v := ?_) rfl (by kernel_rfl) (by kernel_rfl) (by kernel_rfl) (fun _ _ _ h => h) (Or.inl ⟨by rfl, ?_⟩) hHeld ?_
  rotate_left
  · intro w' hSw; obtain ⟨cw0, cw1⟩ := cell2_of ((hSw.block _ (heap_lt X10.out)).trans X10.out); go_simp; try with_reducible rfl
  simp only [List.getElem_toArray, List.getElem_cons_succ, List.getElem_cons_zero, Act.put, List.setIfInBounds_toArray, List.set_cons_zero, List.set_cons_succ]
  refine wpAnyH_take (i := 8) (v := ?_) rfl (by kernel_rfl) (by kernel_rfl) (by kernel_rfl) (fun _ _ _ h => h) (Or.inl ⟨by rfl, ?_⟩) hHeld ?_
  rotate_left
  · intro w' hSw; go_simp; try with_reducible rfl
  simp only [List.getElem_toArray, List.getElem_cons_succ, List.getElem_cons_zero, Act.put, List.setIfInBounds_toArray, List.set_cons_zero, List.set_cons_succ]
  refine wpAnyH_take (i := 9) (v := ?_) rfl (by kernel_rfl) (by kernel_rfl) (by kernel_rfl) (fun _ _ _ h => h) (Or.inl ⟨by rfl, ?_⟩) hHeld ?_
  rotate_left
  · intro w' hSw; go_simp; try with_reducible rfl
  simp only [List.getElem_toArray, List.getElem_cons_succ, List.getElem_cons_zero, Act.put, List.setIfInBounds_toArray, List.set_cons_zero, List.set_cons_succ]
  refine wpAnyH_take (i := 10) (v := ?_) rfl (by kernel_rfl) (by kernel_rfl) (by kernel_rfl) (fun _ _ _ h => h) (Or.inl ⟨by rfl, ?_⟩) hHeld ?_
  rotate_left
  · intro w' hSw; go_simp; try with_reducible rfl
  simp only [List.getElem_toArray, List.getElem_cons_succ, List.getElem_cons_zero, Act.put, List.setIfInBounds_toArray, List.set_cons_zero, List.set_cons_succ]
  refine wpAnyH_take (i := 11) (v := ?_) rfl (by kernel_rfl) (by kernel_rfl) (by kernel_rfl) (fun _ _ _ h => h) (Or.inl ⟨by rfl, ?_⟩) hHeld ?_
  rotate_left
  · intro w' hSw; go_simp; try with_reducible rfl
  simp only [List.getElem_toArray, List.getElem_cons_succ, List.getElem_cons_zero, Act.put, List.setIfInBounds_toArray, List.set_cons_zero, List.set_cons_succ]
  refine wpAnyH_take (i := 12) (v := ?_) rfl (by kernel_rfl) (by kernel_rfl) (by kernel_rfl) (fun _ _ _ h => h) (Or.inl ⟨by rfl, ?_⟩) hHeld ?_
  rotate_left
  · intro w' hSw; go_simp; try with_reducible rfl
  simp only [List.getElem_toArray, List.getElem_cons_succ, List.getElem_cons_zero, Act.put, List.setIfInBounds_toArray, List.set_cons_zero, List.set_cons_succ]
  refine wpAnyH_take (i := 13) (v := ?_) rfl (by kernel_rfl) (by kernel_rfl) (by kernel_rfl) (fun _ _ _ h => h) (Or.inl ⟨by rfl, ?_⟩) hHeld ?_
  rotate_left
  · intro w' hSw; go_simp; try with_reducible rfl
  simp only [List.getElem_toArray, List.getElem_cons_succ, List.getElem_cons_zero, Act.put, List.setIfInBounds_toArray, List.set_cons_zero, List.set_cons_succ]
  refine wpAnyH_take (i := 14) (v := ?_) rfl (by kernel_rfl) (by kernel_rfl) (by kernel_rfl) (fun _ _ _ h => h) (Or.inl ⟨by rfl, ?_⟩) hHeld ?_
  rotate_left
  · intro w' hSw; go_simp; try with_reducible rfl
  simp only [List.getElem_toArray, List.getElem_cons_succ, List.getElem_cons_zero, Act.put, List.setIfInBounds_toArray, List.set_cons_zero, List.set_cons_succ]
  refine wpAnyH_take (i := 15) (v := ?_) rfl (by kernel_rfl) (by kernel_rfl) (by kernel_rfl) (fun _ _ _ h => h) (Or.inl ⟨by rfl, ?_⟩) hHeld ?_
  rotate_left
  · intro w' hSw; go_simp; try with_reducible rfl
  simp only [List.getElem_toArray, List.getElem_cons_succ, List.getElem_cons_zero, Act.put, List.setIfInBounds_toArray, List.set_cons_zero, List.set_cons_succ]
  refine wpAnyH_take (i := 16) (v := ?_) rfl (by kernel_rfl) (by kernel_rfl) (by kernel_rfl) (fun _ _ _ h => h) (Or.inl ⟨by rfl, ?_⟩) hHeld ?_
  rotate_left
  · intro w' hSw; obtain ⟨cw0, cw1, cw2⟩ := cell3_of ((hSw.block _ (heap_lt X12.out)).trans X12.out); go_simp; try with_reducible rfl
  simp only [List.getElem_toArray, List.getElem_cons_succ, List.getElem_cons_zero, Act.put, List.setIfInBounds_toArray, List.set_cons_zero, List.set_cons_succ]
  refine wpAnyH_take (i := 17) (v := ?_) rfl (by kernel_rfl) (by kernel_rfl) (by kernel_rfl) (fun _ _ _ h => h) (Or.inl ⟨by rfl, ?_⟩) hHeld ?_
  rotate_left
  · intro w' hSw; obtain ⟨cw0, cw1, cw2⟩ := cell3_of ((hSw.block _ (heap_lt X14.out)).trans X14.out); go_simp; try with_reducible rfl
  simp only [List.getElem_toArray, List.getElem_cons_succ, List.getElem_cons_zero, Act.put, List.setIfInBounds_toArray, List.set_cons_zero, List.set_cons_succ]
  refine wpAnyH_take (i := 18) (v := ?_) rfl (by kernel_rfl) (by kernel_rfl) (by kernel_rfl) (fun _ _ _ h => h) (Or.inl ⟨by rfl, ?_⟩) hHeld ?_
  rotate_left
  · intro w' hSw; go_simp; try with_reducible rfl
  simp only [List.getElem_toArray, List.getElem_cons_succ, List.getElem_cons_zero, Act.put, List.setIfInBounds_toArray, List.set_cons_zero, List.set_cons_succ]
  refine wpAnyH_take (i := 19) (v := ?_) rfl (by kernel_rfl) (by kernel_rfl) (by kernel_rfl) (fun _ _ _ h => h) (Or.inl ⟨by rfl, ?_⟩) hHeld ?_
  rotate_left
  · intro w' hSw; go_simp; try with_reducible rfl
  simp only [List.getElem_toArray, List.getElem_cons_succ, List.getElem_cons_zero, Act.put, List.setIfInBounds_toArray, List.set_cons_zero, List.set_cons_succ]
  refine wpAnyH_take (i := 20) (v := ?_) rfl (by kernel_rfl) (by kernel_rfl) (by kernel_rfl) (fun _ _ _ h => h) (Or.inl ⟨by rfl, ?_⟩) hHeld ?_
  rotate_left
  · intro w' hSw; go_simp; try with_reducible rfl
  simp only [List.getElem_toArray, List.getElem_cons_succ, List.getElem_cons_zero, Act.put, List.setIfInBounds_toArray, List.set_cons_zero, List.set_cons_succ]
  refine wpAnyH_take (i := 21) (v := ?_) rfl (by kernel_rfl) (by kernel_rfl) (by kernel_rfl) (fun _ _ _ h => h) (Or.inl ⟨by rfl, ?_⟩) hHeld ?_
  rotate_left
  · intro w' hSw; go_simp; try with_reducible rfl
  simp only [List.getElem_toArray, List.getElem_cons_succ, List.getElem_cons_zero, Act.put, List.setIfInBounds_toArray, List.set_cons_zero, List.set_cons_succ]
  refine wpAnyH_take (i := 22) (v := ?_) rfl (by kernel_rfl) (by kernel_rfl) (by kernel_rfl) (fun _ _ _ h => h) (Or.inl ⟨by rfl, ?_⟩) hHeld ?_
  rotate_left
  · intro w' hSw; go_simp; try with_reducible rfl
  simp only [List.getElem_toArray, List.getElem_cons_succ, List.getElem_cons_zero, Act.put, List.setIfInBounds_toArray, List.set_cons_zero, List.set_cons_succ]
  refine wpAnyH_take (i := 23) (v := ?_) rfl (by kernel_rfl) (by kernel_rfl) (by kernel_rfl) (fun _ _ _ h => h) (Or.inl ⟨by rfl, ?_⟩) hHeld ?_
  rotate_left
  · intro w' hSw; go_simp; try with_reducible rfl
  simp only [List.getElem_toArray, List.getElem_cons_succ, List.getElem_cons_zero, Act.put, List.setIfInBounds_toArray, List.set_cons_zero, List.set_cons_succ]
  refine wpAnyH_take (i := 24) (v := ?_) rfl (by kernel_rfl) (by kernel_rfl) (by kernel_rfl) (fun _ _ _ h => h) (Or.inl ⟨by rfl, ?_⟩) hHeld ?_
  rotate_left
  · intro w' hSw; go_simp; try with_reducible rfl
  simp only [List.getElem_toArray, List.getElem_cons_succ, List.getElem_cons_zero, Act.put, List.setIfInBounds_toArray, List.set_cons_zero, List.set_cons_succ]
  refine wpAnyH_take (i := 25) (v := ?_) rfl (by kernel_rfl) (by kernel_rfl) (by kernel_rfl) (fun _ _ _ h => h) (Or.inl ⟨by rfl, ?_⟩) hHeld ?_
  rotate_left
  · intro w' hSw; go_simp; try with_reducible rfl
  simp only [List.getElem_toArray, List.getElem_cons_succ, List.getElem_cons_zero, Act.put, List.setIfInBounds_toArray, List.set_cons_zero, List.set_cons_succ]
  refine wpAnyH_done (by kernel_rfl) ?_ _
  have bS := SB.out
  clear hc1 hc2 SA SB
  have mB := MB.out.trans (bS.mono (by have := MB.out.size; exact this))
  have tIR : IntRow wB wM.heap.size R.path.length D3 := by
    rcases IR.out with h | ⟨g, cur, e1, e2, e3, e4⟩
    · exact .inl h
    · exact .inr ⟨g, cur, e1, e2, (bS.block _ (heap_lt e3)).trans e3, e4⟩
  clear MB IR
  have MB := Lib.hid mB
  have IR := Lib.hid tIR
  clear mB tIR
  have tBZ := BZ.out.trans (bS.mono BZ.out.size)
  have tXP := (bS.block _ (heap_lt XP.out)).trans XP.out
  have tXO := (bS.block _ (heap_lt XO.out)).trans XO.out
  have tX8 := (bS.block _ (heap_lt X8.out)).trans X8.out
  have tX10 := (bS.block _ (heap_lt X10.out)).trans X10.out
  have tX12 := (bS.block _ (heap_lt X12.out)).trans X12.out
  have tX14 := (bS.block _ (heap_lt X14.out)).trans X14.out
  have tX16 := (bS.block _ (heap_lt X16.out)).trans X16.out
  have tX18 := (bS.block _ (heap_lt X18.out)).trans X18.out
  have tHP := (HP.out.below bS).more bS.size
  have tHO := (HO.out.below bS).more bS.size
  have tHRD := (HRD.out.below bS).more bS.size
  have tHRG := (HRG.out.below bS).more bS.size
  clear BZ XP XO X8 X10 X12 X14 X16 X18 HP HO HRD HRG bS
  have BZ := Lib.hid tBZ
  have XP := Lib.hid tXP
  have XO := Lib.hid tXO
  have X8 := Lib.hid tX8
  have X10 := Lib.hid tX10
  have X12 := Lib.hid tX12
  have X14 := Lib.hid tX14
  have X16 := Lib.hid tX16
  have X18 := Lib.hid tX18
  have HP := Lib.hid tHP
  have HO := Lib.hid tHO
  have HRD := Lib.hid tHRD
  have HRG := Lib.hid tHRG
  clear tBZ tXP tXO tX8 tX10 tX12 tX14 tX16 tX18 tHP tHO tHRD tHRG
  go_upto_region 13 with fail
  obtain ⟨k0, k1, k2, k3, k4, k5, k6⟩ := cell7_of X16.out
  obtain ⟨r0, r1, r2, r3, r4, r5, r6⟩ := cell7_of X18.out
  go_wp2_with fail
  refine (rsameroute_any _ _ R R wB HRD.out HRG.out).mono ?_
  rintro e wC ⟨rfl, bC⟩
  rw [eqB_true rfl]
  clear k0 k1 k2 k3 k4 k5 k6 r0 r1 r2 r3 r4 r5 r6
  have mB := MB.out.trans (bC.mono (by have := MB.out.size; exact this))
  have tIR : IntRow wC wM.heap.size R.path.length D3 := by
    rcases IR.out with h | ⟨g, cur, e1, e2, e3, e4⟩
    · exact .inl h
    · exact .inr ⟨g, cur, e1, e2, (bC.block _ (heap_lt e3)).trans e3, e4⟩
  clear MB IR
  have MB := Lib.hid mB
  have IR := Lib.hid tIR
  clear mB tIR
  have tBZ := BZ.out.trans (bC.mono BZ.out.size)
  have tXP := (bC.block _ (heap_lt XP.out)).trans XP.out
  have tXO := (bC.block _ (heap_lt XO.out)).trans XO.out
  have tX8 := (bC.block _ (heap_lt X8.out)).trans X8.out
  have tX10 := (bC.block _ (heap_lt X10.out)).trans X10.out
  have tX12 := (bC.block _ (heap_lt X12.out)).trans X12.out
  have tX14 := (bC.block _ (heap_lt X14.out)).trans X14.out
  have tX16 := (bC.block _ (heap_lt X16.out)).trans X16.out
  have tX18 := (bC.block _ (heap_lt X18.out)).trans X18.out
  have tHP := (HP.out.below bC).more bC.size
  have tHO := (HO.out.below bC).more bC.size
  have tHRD := (HRD.out.below bC).more bC.size
  have tHRG := (HRG.out.below bC).more bC.size
  clear BZ XP XO X8 X10 X12 X14 X16 X18 HP HO HRD HRG bC
  have BZ := Lib.hid tBZ
  have XP := Lib.hid tXP
  have XO := Lib.hid tXO
  have X8 := Lib.hid tX8
  have X10 := Lib.hid tX10
  have X12 := Lib.hid tX12
  have X14 := Lib.hid tX14
  have X16 := Lib.hid tX16
  have X18 := Lib.hid tX18
  have HP := Lib.hid tHP
  have HO := Lib.hid tHO
  have HRD := Lib.hid tHRD
  have HRG := Lib.hid tHRG
  clear tBZ tXP tXO tX8 tX10 tX12 tX14 tX16 tX18 tHP tHO tHRD tHRG
  obtain ⟨n, hn⟩ : ∃ n, n = R.path.length := ⟨_, rfl⟩
  have hnb : n ≤ 9223372036854775807 := by rw [hn]; exact PAL.out
  rw [← hn] at IR X16 ⊢
  clear hn BZ HP HO HRD HRG XP XO X8 X10 X12 X14 X18
  go_wp2_with fail
  go_loopw [26] (fun s26 wr => ∃ i : Nat, i ≤ n ∧ s26 = .int .i64 i ∧ IntRow wr wM.heap.size n D3 ∧ wr.heap[p16]? = some (.cells #[.int .i64 R.id, .int .i64 R.entry, .int .i64 R.exit, .slice D3 n dg3, .slice D4 R.over.length dg4, .slice D5 R.flanks.length dg5, .int .i64 R.timer] 35 (0, 0)) ∧ Below wM.heap.size wM wr) (fun s26 _ => n - (intOf s26).toNat)
  case atStart => exact ⟨0, by omega, by go_num, IR.out, X16.out, MB.out⟩
  case round =>
    obtain ⟨i, hi, rfl, hir, hx, hb⟩ := hrel
    have IRW := Lib.hid hir
    have XW := Lib.hid hx
    have BW := Lib.hid hb
    clear hir hx hb IR X16 MB
    obtain ⟨k0, k1, k2, k3, k4, k5, k6⟩ := cell7_of XW.out
    by_cases hlt : i < n
    · have hlt2 : (i : Int) < n := by omega
      rcases IRW.out with h | ⟨g, cur, rfl, hlo, hcur, hz⟩
      · omega
      obtain ⟨z, hz1⟩ := hz i hlt
      have hg : wr.cell? ⟨g, i, none⟩ = some (.int .i64 z) := by rw [cell_of_row _ _ _ _ _ _ hcur]; exact hz1
      have hf := frozen2_of hcur i
      have HC := Lib.hid hcur
      have HZ := Lib.hid hz
      have HLO := Lib.hid hlo
      have NEG : Hid (p16 ≠ g) := Lib.hid (fun e => by
        have h1 := XW.out
        rw [e, hcur] at h1
        cases h1)
      clear hz hcur hlo hz1
      go_wp2_with fail
      go_roundw
      case measure => simp [intOf]; omega
      case rel => exact ⟨i + 1, by omega, by go_num, intRow_set HLO.out HC.out HZ.out _, (heap_setFar wr g i p16 _ NEG.out).trans XW.out, below_set BW.out HLO.out i _⟩
    · have hlt2 : ¬ (i : Int) < n := by omega
      have XO := Lib.hid ((BW.out.block _ (heap_lt MXO.out)).trans MXO.out)
      have XP := Lib.hid ((BW.out.block _ (heap_lt MXP.out)).trans MXP.out)
      clear k0 k1 k2 k4 k5 k6
      obtain ⟨m0, m1, m2, m3, m4, m5⟩ := cell6_of XO.out
      obtain ⟨r0, r1, r2, r3, r4, r5⟩ := cell6_of XP.out
      go_wp2_with fail
      refine (rsame8_any _ _ p p wr ((MHO.out.below BW.out).more BW.out.size) ((MHP.out.below BW.out).more BW.out.size)).mono ?_
      rintro e wZ ⟨rfl, bZ⟩
      rw [eqB_true rfl]
      have BL : Hid (Below w.heap.size w wZ) := Lib.hid ((MBZ.out.trans (BW.out.mono MBZ.out.size)).trans (bZ.mono (by have := MBZ.out.size; have := BW.out.size; omega)))
      clear bZ
      go_wp2_with fail
      go_ret
      exact ⟨rfl, BL.out⟩
end Go.Proofs.Ythlolpflgninjaa
