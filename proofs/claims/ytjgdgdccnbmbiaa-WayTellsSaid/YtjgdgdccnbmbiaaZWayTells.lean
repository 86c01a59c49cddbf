/-
  WayTells: the walk, given the program's contracts.
  Conditions: none.
-/
import Derived.Test.YtjgdgdccnbmbiaaZWayProg
import Derived.Test.YtjgdgdccnbmbiaaZGPlnRefD
set_option linter.unusedVariables false
set_option linter.unusedSimpArgs false
set_option maxRecDepth 100000
namespace Go.Proofs.Ytjgdgdccnbmbiaa
open Go.RowKit
theorem intRow_below {W W' : World} {lo n : Nat} {D : Option Addr} (h : IntRow W lo n D) (hb : Below W.heap.size W W') : IntRow W' lo n D := by
  rcases h with h | ⟨g, cur, e1, e2, e3, e4⟩
  · exact .inl h
  · exact .inr ⟨g, cur, e1, e2, (hb.block _ (heap_lt e3)).trans e3, e4⟩
set_option maxHeartbeats 16000000 in
theorem walk_way_tells (hp : WaySaid) (v : Value) (p : Pl) (a b : Int) (w : World) (h : PlanV w w.heap.size v p) :
    Calls Try.prog 4 #[v, .int .i64 a, .int .i64 b] w fun e w' => e = .returned (.bool true) ∧ Below w.heap.size w w' := by
  obtain ⟨y2, y3, y4, y5, rfl, hin⟩ := h
  have HIN0 := Lib.hid hin
  obtain ⟨A2, c2, rfl, -, -⟩ := hin.secs.slice
  obtain ⟨A3, c3, rfl, -, -⟩ := hin.pts.slice
  obtain ⟨A4, c4, rfl, -, -⟩ := hin.sigs.slice
  obtain ⟨A5, c5, rfl, -, -⟩ := hin.routes.slice
  obtain ⟨n2, hn2⟩ : ∃ n, n = p.secs.length := ⟨_, rfl⟩
  obtain ⟨n3, hn3⟩ : ∃ n, n = p.pts.length := ⟨_, rfl⟩
  obtain ⟨n4, hn4⟩ : ∃ n, n = p.sigs.length := ⟨_, rfl⟩
  obtain ⟨n5, hn5⟩ : ∃ n, n = p.routes.length := ⟨_, rfl⟩
  have HP0 : Hid (PlanV w w.heap.size (.agg #[.int .i64 p.ver, .int .i64 p.par, .slice A2 n2 c2, .slice A3 n3 c3, .slice A4 n4 c4, .slice A5 n5 c5]) p) := Lib.hid ⟨_, _, _, _, rfl, by rw [hn2, hn3, hn4, hn5]; exact HIN0.out⟩
  rw [← hn2, ← hn3, ← hn4, ← hn5]
  clear hn2 hn3 hn4 hn5 HIN0 hin
  have hq0 := heap_alloc_self w (.cells #[.int .i64 p.ver, .int .i64 p.par, .slice A2 n2 c2, .slice A3 n3 c3, .slice A4 n4 c4, .slice A5 n5 c5] 31)
  have hqb := below_new w (.cells #[.int .i64 p.ver, .int .i64 p.par, .slice A2 n2 c2, .slice A3 n3 c3, .slice A4 n4 c4, .slice A5 n5 c5] 31)
  go_enter Try.func4, Try.ntmps4
  go_upto_region 1 with fail
  generalize w.alloc (.cells #[.int .i64 p.ver, .int .i64 p.par, .slice A2 n2 c2, .slice A3 n3 c3, .slice A4 n4 c4, .slice A5 n5 c5] 31) = q at hq0 hqb ⊢
  have BZ := Lib.hid hqb
  have XP := Lib.hid hq0
  have HP := Lib.hid ((HP0.out.below hqb).more hqb.size)
  clear hq0 hqb HP0
  obtain ⟨k0, k1, k2, k3, k4, k5⟩ := cell6_of XP.out
  go_wp2_with fail
  refine (rgreat8_any _ p q HP.out).mono ?_
  rintro e w1 ⟨⟨g, rfl, hg⟩, b1⟩
  clear k0 k1 k2 k3 k4 k5
  have tBZ := BZ.out.trans (b1.mono BZ.out.size)
  have tXP := (b1.block _ (heap_lt XP.out)).trans XP.out
  have tHP := (HP.out.below b1).more b1.size
  clear BZ XP HP b1
  have BZ := Lib.hid tBZ
  have XP := Lib.hid tXP
  have HP := Lib.hid tHP
  clear tBZ tXP tHP
  cases g with
  | true =>
    go_wp2_with fail
    go_ret
    exact ⟨rfl, BZ.out⟩
  | false =>
  have FEW := Lib.hid (hg rfl)
  clear hg
  obtain ⟨k0, k1, k2, k3, k4, k5⟩ := cell6_of XP.out
  go_wp2_with fail
  refine (rtwin8_any _ p w1 HP.out FEW.out).mono ?_
  rintro e w2 ⟨u2, u3, u4, u5, rfl, ho, b2⟩
  obtain ⟨O2, f2, rfl⟩ := ho.secs.slice
  obtain ⟨O3, f3, rfl⟩ := ho.pts.slice
  obtain ⟨O4, f4, rfl⟩ := ho.sigs.slice
  obtain ⟨O5, f5, rfl⟩ := ho.routes.slice
  have HO : Hid (PlanV w2 w2.heap.size (.agg #[.int .i64 p.ver, .int .i64 p.par, .slice O2 p.secs.length f2, .slice O3 p.pts.length f3, .slice O4 p.sigs.length f4, .slice O5 p.routes.length f5]) p) := Lib.hid ⟨_, _, _, _, rfl, ho.in_⟩
  clear ho k0 k1 k2 k3 k4 k5
  have tBZ := BZ.out.trans (b2.mono BZ.out.size)
  have tXP := (b2.block _ (heap_lt XP.out)).trans XP.out
  have tHP := (HP.out.below b2).more b2.size
  clear BZ XP HP b2
  have BZ := Lib.hid tBZ
  have XP := Lib.hid tXP
  have HP := Lib.hid tHP
  clear tBZ tXP tHP
  have XX0 := heap_alloc_self w2 (.cells #[.int .i64 0, .int .i64 0, .slice none 0 0, .slice none 0 0, .slice none 0 0, .slice none 0 0] 31)
  have hb1 := below_setRow (below_new w2 (.cells #[.int .i64 0, .int .i64 0, .slice none 0 0, .slice none 0 0, .slice none 0 0, .slice none 0 0] 31)) (Nat.le_refl _) #[.int .i64 p.ver, .int .i64 p.par, .slice O2 p.secs.length f2, .slice O3 p.pts.length f3, .slice O4 p.sigs.length f4, .slice O5 p.routes.length f5]
  have hx1 := setRow_heap (w2.alloc (.cells #[.int .i64 0, .int .i64 0, .slice none 0 0, .slice none 0 0, .slice none 0 0, .slice none 0 0] 31)) w2.heap.size _ #[.int .i64 p.ver, .int .i64 p.par, .slice O2 p.secs.length f2, .slice O3 p.pts.length f3, .slice O4 p.sigs.length f4, .slice O5 p.routes.length f5] 31 _ XX0
  go_upto_region 4 with ((with_reducible show wpList _ _ _ (⟨none, _, _, _, _, _⟩ :: _) _ _); refine wpList_store_rowS rfl _ (.tmp 7) (.tmp 23) rfl w2.heap.size rfl (c' := #[.int .i64 p.ver, .int .i64 p.par, .slice O2 p.secs.length f2, .slice O3 p.pts.length f3, .slice O4 p.sigs.length f4, .slice O5 p.routes.length f5]) rfl XX0 infoPlan6 rfl (by simp [Value.oneCell']) ?_)
  generalize (w2.alloc (.cells #[.int .i64 0, .int .i64 0, .slice none 0 0, .slice none 0 0, .slice none 0 0, .slice none 0 0] 31)).setRow w2.heap.size #[.int .i64 p.ver, .int .i64 p.par, .slice O2 p.secs.length f2, .slice O3 p.pts.length f3, .slice O4 p.sigs.length f4, .slice O5 p.routes.length f5] = q1 at hb1 hx1 ⊢
  obtain ⟨p7, hp1⟩ : ∃ n, n = w2.heap.size := ⟨_, rfl⟩
  rw [← hp1] at hx1 ⊢
  have XO := Lib.hid hx1
  clear hx1 XX0 hp1
  have tBZ := BZ.out.trans (hb1.mono BZ.out.size)
  have tXP := (hb1.block _ (heap_lt XP.out)).trans XP.out
  have tHP := (HP.out.below hb1).more hb1.size
  have tHO := (HO.out.below hb1).more hb1.size
  clear BZ XP HP HO hb1
  have BZ := Lib.hid tBZ
  have XP := Lib.hid tXP
  have HP := Lib.hid tHP
  have HO := Lib.hid tHO
  clear tBZ tXP tHP tHO
  obtain ⟨x, hx⟩ : ∃ x, x = wayV p a := ⟨_, rfl⟩
  obtain ⟨y, hy⟩ : ∃ x, x = wayV p b := ⟨_, rfl⟩
  obtain ⟨l, hl⟩ : ∃ x, x = leftV p a := ⟨_, rfl⟩
  obtain ⟨E, hE⟩ : ∃ x, x = wayE p a := ⟨_, rfl⟩
  obtain ⟨E2, hE2⟩ : ∃ x, x = wayE p b := ⟨_, rfl⟩
  have EQS := Lib.hid (And.intro hx (And.intro hy (And.intro hl (And.intro hE hE2))))
  clear hx hy hl hE hE2
  obtain ⟨wM, hwM⟩ : ∃ x, x = q1 := ⟨_, rfl⟩
  have MB : Hid (Below wM.heap.size wM q1) := Lib.hid (by rw [hwM]; exact Below.refl _ _)
  have MXP : Hid (wM.heap[w.heap.size]? = some (.cells #[.int .i64 p.ver, .int .i64 p.par, .slice A2 n2 c2, .slice A3 n3 c3, .slice A4 n4 c4, .slice A5 n5 c5] 31 (0, 0))) := Lib.hid (by rw [hwM]; exact XP.out)
  have MXO : Hid (wM.heap[p7]? = some (.cells #[.int .i64 p.ver, .int .i64 p.par, .slice O2 p.secs.length f2, .slice O3 p.pts.length f3, .slice O4 p.sigs.length f4, .slice O5 p.routes.length f5] 31 (0, 0))) := Lib.hid (by rw [hwM]; exact XO.out)
  have MHP : Hid (PlanV wM wM.heap.size (.agg #[.int .i64 p.ver, .int .i64 p.par, .slice A2 n2 c2, .slice A3 n3 c3, .slice A4 n4 c4, .slice A5 n5 c5]) p) := Lib.hid (by rw [hwM]; exact HP.out)
  have MHO : Hid (PlanV wM wM.heap.size (.agg #[.int .i64 p.ver, .int .i64 p.par, .slice O2 p.secs.length f2, .slice O3 p.pts.length f3, .slice O4 p.sigs.length f4, .slice O5 p.routes.length f5]) p) := Lib.hid (by rw [hwM]; exact HO.out)
  have MBZ : Hid (Below w.heap.size w wM) := Lib.hid (by rw [hwM]; exact BZ.out)
  have MSZ : Hid (wM.heap.size ≤ q1.heap.size) := Lib.hid (by rw [hwM]; exact Nat.le_refl _)
  clear hwM
  obtain ⟨k0, k1, k2, k3, k4, k5⟩ := cell6_of XO.out
  go_wp2_with fail
  refine (hp.of _ p a q1 HO.out).mono ?_
  rintro e w3 ⟨u0, u1, u2, rfl, hu, b3⟩
  rw [← EQS.out.1] at hu
  rw [← EQS.out.1, ← EQS.out.2.2.2.1]
  obtain ⟨D0, dd0, rfl⟩ := hu.path.slice
  obtain ⟨D1, dd1, rfl⟩ := hu.over.slice
  obtain ⟨D2, dd2, rfl⟩ := hu.asks.slice
  obtain ⟨dn0, hD0⟩ : ∃ n, n = x.path.length := ⟨_, rfl⟩
  obtain ⟨dn1, hD1⟩ : ∃ n, n = x.over.length := ⟨_, rfl⟩
  obtain ⟨dn2, hD2⟩ : ∃ n, n = x.asks.length := ⟨_, rfl⟩
  have WD : Hid (WayV w3 w3.heap.size (.agg #[.slice D0 dn0 dd0, .slice D1 dn1 dd1, .slice D2 dn2 dd2, .int .i64 x.near]) x) := Lib.hid ⟨_, _, _, rfl, by rw [hD0, hD1, hD2]; exact hu.in_⟩
  have tIR := intRow_of (hu.path.mono MSZ.out) rfl
  have PAL : Hid (dn0 ≤ 9223372036854775807) := Lib.hid (by obtain ⟨_, _, _, h, _⟩ := hu.path; rw [hD0]; unfold maxLen at h; omega)
  have tMB := MB.out.trans (b3.mono MB.out.size)
  rw [← hD0] at tIR
  rw [← hD0, ← hD1, ← hD2]
  clear hu hD0 hD1 hD2 k0 k1 k2 k3 k4 k5
  have tBZ := BZ.out.trans (b3.mono BZ.out.size)
  have tXP := (b3.block _ (heap_lt XP.out)).trans XP.out
  have tXO := (b3.block _ (heap_lt XO.out)).trans XO.out
  have tHP := (HP.out.below b3).more b3.size
  have tHO := (HO.out.below b3).more b3.size
  clear BZ XP XO HP HO b3
  have BZ := Lib.hid tBZ
  have XP := Lib.hid tXP
  have XO := Lib.hid tXO
  have HP := Lib.hid tHP
  have HO := Lib.hid tHO
  clear tBZ tXP tXO tHP tHO
  clear MB
  have MB := Lib.hid tMB
  have IR := Lib.hid tIR
  clear tMB tIR
  have XX0 := heap_alloc_self w3 (.cells #[.slice none 0 0, .slice none 0 0, .slice none 0 0, .int .i64 0] 36)
  have hb2 := below_setRow (below_new w3 (.cells #[.slice none 0 0, .slice none 0 0, .slice none 0 0, .int .i64 0] 36)) (Nat.le_refl _) #[.slice D0 dn0 dd0, .slice D1 dn1 dd1, .slice D2 dn2 dd2, .int .i64 x.near]
  have hx2 := setRow_heap (w3.alloc (.cells #[.slice none 0 0, .slice none 0 0, .slice none 0 0, .int .i64 0] 36)) w3.heap.size _ #[.slice D0 dn0 dd0, .slice D1 dn1 dd1, .slice D2 dn2 dd2, .int .i64 x.near] 36 _ XX0
  go_upto_region 5 with ((with_reducible show wpList _ _ _ (⟨none, _, _, _, _, _⟩ :: _) _ _); refine wpList_store_rowS rfl _ (.tmp 8) (.tmp 28) rfl w3.heap.size rfl (c' := #[.slice D0 dn0 dd0, .slice D1 dn1 dd1, .slice D2 dn2 dd2, .int .i64 x.near]) rfl XX0 infoWay4 rfl (by simp [Value.oneCell']) ?_)
  generalize (w3.alloc (.cells #[.slice none 0 0, .slice none 0 0, .slice none 0 0, .int .i64 0] 36)).setRow w3.heap.size #[.slice D0 dn0 dd0, .slice D1 dn1 dd1, .slice D2 dn2 dd2, .int .i64 x.near] = q2 at hb2 hx2 ⊢
  obtain ⟨p8, hp2⟩ : ∃ n, n = w3.heap.size := ⟨_, rfl⟩
  rw [← hp2] at hx2 ⊢
  have X8 := Lib.hid hx2
  clear hx2 XX0 hp2
  have tBZ := BZ.out.trans (hb2.mono BZ.out.size)
  have tXP := (hb2.block _ (heap_lt XP.out)).trans XP.out
  have tXO := (hb2.block _ (heap_lt XO.out)).trans XO.out
  have tHP := (HP.out.below hb2).more hb2.size
  have tHO := (HO.out.below hb2).more hb2.size
  have tWD := (WD.out.below hb2).more hb2.size
  have tMB := MB.out.trans (hb2.mono MB.out.size)
  have tIR := intRow_below IR.out hb2
  clear BZ XP XO HP HO WD MB IR hb2
  have BZ := Lib.hid tBZ
  have XP := Lib.hid tXP
  have XO := Lib.hid tXO
  have HP := Lib.hid tHP
  have HO := Lib.hid tHO
  have WD := Lib.hid tWD
  have MB := Lib.hid tMB
  have IR := Lib.hid tIR
  clear tBZ tXP tXO tHP tHO tWD tMB tIR
  obtain ⟨k0, k1, k2, k3, k4, k5⟩ := cell6_of XP.out
  go_wp2_with fail
  refine (rof_any _ p a q2 HP.out).mono ?_
  rintro e w4 ⟨u0, u1, u2, rfl, hu, b4⟩
  rw [← EQS.out.1] at hu
  rw [← EQS.out.1, ← EQS.out.2.2.2.1]
  obtain ⟨G0, gd0, rfl⟩ := hu.path.slice
  obtain ⟨G1, gd1, rfl⟩ := hu.over.slice
  obtain ⟨G2, gd2, rfl⟩ := hu.asks.slice
  obtain ⟨gn0, hG0⟩ : ∃ n, n = x.path.length := ⟨_, rfl⟩
  obtain ⟨gn1, hG1⟩ : ∃ n, n = x.over.length := ⟨_, rfl⟩
  obtain ⟨gn2, hG2⟩ : ∃ n, n = x.asks.length := ⟨_, rfl⟩
  have WG : Hid (WayV w4 w4.heap.size (.agg #[.slice G0 gn0 gd0, .slice G1 gn1 gd1, .slice G2 gn2 gd2, .int .i64 x.near]) x) := Lib.hid ⟨_, _, _, rfl, by rw [hG0, hG1, hG2]; exact hu.in_⟩
  rw [← hG0, ← hG1, ← hG2]
  clear hu hG0 hG1 hG2 k0 k1 k2 k3 k4 k5
  have tBZ := BZ.out.trans (b4.mono BZ.out.size)
  have tXP := (b4.block _ (heap_lt XP.out)).trans XP.out
  have tXO := (b4.block _ (heap_lt XO.out)).trans XO.out
  have tX8 := (b4.block _ (heap_lt X8.out)).trans X8.out
  have tHP := (HP.out.below b4).more b4.size
  have tHO := (HO.out.below b4).more b4.size
  have tWD := (WD.out.below b4).more b4.size
  have tMB := MB.out.trans (b4.mono MB.out.size)
  have tIR := intRow_below IR.out b4
  clear BZ XP XO X8 HP HO WD MB IR b4
  have BZ := Lib.hid tBZ
  have XP := Lib.hid tXP
  have XO := Lib.hid tXO
  have X8 := Lib.hid tX8
  have HP := Lib.hid tHP
  have HO := Lib.hid tHO
  have WD := Lib.hid tWD
  have MB := Lib.hid tMB
  have IR := Lib.hid tIR
  clear tBZ tXP tXO tX8 tHP tHO tWD tMB tIR
  have XX0 := heap_alloc_self w4 (.cells #[.slice none 0 0, .slice none 0 0, .slice none 0 0, .int .i64 0] 36)
  have hb3 := below_setRow (below_new w4 (.cells #[.slice none 0 0, .slice none 0 0, .slice none 0 0, .int .i64 0] 36)) (Nat.le_refl _) #[.slice G0 gn0 gd0, .slice G1 gn1 gd1, .slice G2 gn2 gd2, .int .i64 x.near]
  have hx3 := setRow_heap (w4.alloc (.cells #[.slice none 0 0, .slice none 0 0, .slice none 0 0, .int .i64 0] 36)) w4.heap.size _ #[.slice G0 gn0 gd0, .slice G1 gn1 gd1, .slice G2 gn2 gd2, .int .i64 x.near] 36 _ XX0
  go_upto_region 6 with ((with_reducible show wpList _ _ _ (⟨none, _, _, _, _, _⟩ :: _) _ _); refine wpList_store_rowS rfl _ (.tmp 10) (.tmp 34) rfl w4.heap.size rfl (c' := #[.slice G0 gn0 gd0, .slice G1 gn1 gd1, .slice G2 gn2 gd2, .int .i64 x.near]) rfl XX0 infoWay4 rfl (by simp [Value.oneCell']) ?_)
  generalize (w4.alloc (.cells #[.slice none 0 0, .slice none 0 0, .slice none 0 0, .int .i64 0] 36)).setRow w4.heap.size #[.slice G0 gn0 gd0, .slice G1 gn1 gd1, .slice G2 gn2 gd2, .int .i64 x.near] = q3 at hb3 hx3 ⊢
  obtain ⟨p10, hp3⟩ : ∃ n, n = w4.heap.size := ⟨_, rfl⟩
  rw [← hp3] at hx3 ⊢
  have X10 := Lib.hid hx3
  clear hx3 XX0 hp3
  have tBZ := BZ.out.trans (hb3.mono BZ.out.size)
  have tXP := (hb3.block _ (heap_lt XP.out)).trans XP.out
  have tXO := (hb3.block _ (heap_lt XO.out)).trans XO.out
  have tX8 := (hb3.block _ (heap_lt X8.out)).trans X8.out
  have tHP := (HP.out.below hb3).more hb3.size
  have tHO := (HO.out.below hb3).more hb3.size
  have tWD := (WD.out.below hb3).more hb3.size
  have tWG := (WG.out.below hb3).more hb3.size
  have tMB := MB.out.trans (hb3.mono MB.out.size)
  have tIR := intRow_below IR.out hb3
  clear BZ XP XO X8 HP HO WD WG MB IR hb3
  have BZ := Lib.hid tBZ
  have XP := Lib.hid tXP
  have XO := Lib.hid tXO
  have X8 := Lib.hid tX8
  have HP := Lib.hid tHP
  have HO := Lib.hid tHO
  have WD := Lib.hid tWD
  have WG := Lib.hid tWG
  have MB := Lib.hid tMB
  have IR := Lib.hid tIR
  clear tBZ tXP tXO tX8 tHP tHO tWD tWG tMB tIR
  obtain ⟨k0, k1, k2, k3, k4, k5⟩ := cell6_of XO.out
  go_wp2_with fail
  refine (hp.outs _ p a q3 HO.out).mono ?_
  rintro e w5 ⟨u0, rfl, hu, b5⟩
  rw [← EQS.out.2.2.1] at hu
  rw [← EQS.out.2.2.2.1]
  obtain ⟨L0, ld0, rfl⟩ := hu.slice
  obtain ⟨ln0, hL0⟩ : ∃ n, n = l.length := ⟨_, rfl⟩
  have WL : Hid (JoinsIn w5 w5.heap.size (.slice L0 ln0 ld0) l) := Lib.hid (by rw [hL0]; exact hu.in_ joinR_cells)
  rw [← hL0]
  clear hu hL0 k0 k1 k2 k3 k4 k5
  have tBZ := BZ.out.trans (b5.mono BZ.out.size)
  have tXP := (b5.block _ (heap_lt XP.out)).trans XP.out
  have tXO := (b5.block _ (heap_lt XO.out)).trans XO.out
  have tX8 := (b5.block _ (heap_lt X8.out)).trans X8.out
  have tX10 := (b5.block _ (heap_lt X10.out)).trans X10.out
  have tHP := (HP.out.below b5).more b5.size
  have tHO := (HO.out.below b5).more b5.size
  have tWD := (WD.out.below b5).more b5.size
  have tWG := (WG.out.below b5).more b5.size
  have tMB := MB.out.trans (b5.mono MB.out.size)
  have tIR := intRow_below IR.out b5
  clear BZ XP XO X8 X10 HP HO WD WG MB IR b5
  have BZ := Lib.hid tBZ
  have XP := Lib.hid tXP
  have XO := Lib.hid tXO
  have X8 := Lib.hid tX8
  have X10 := Lib.hid tX10
  have HP := Lib.hid tHP
  have HO := Lib.hid tHO
  have WD := Lib.hid tWD
  have WG := Lib.hid tWG
  have MB := Lib.hid tMB
  have IR := Lib.hid tIR
  clear tBZ tXP tXO tX8 tX10 tHP tHO tWD tWG tMB tIR
  go_upto_region 7 with fail
  obtain ⟨k0, k1, k2, k3, k4, k5⟩ := cell6_of XP.out
  go_wp2_with fail
  refine (routs_any _ p a w5 HP.out).mono ?_
  rintro e w6 ⟨u0, rfl, hu, b6⟩
  rw [← EQS.out.2.2.1] at hu
  rw [← EQS.out.2.2.2.1]
  obtain ⟨M0, md0, rfl⟩ := hu.slice
  obtain ⟨mn0, hM0⟩ : ∃ n, n = l.length := ⟨_, rfl⟩
  have WM : Hid (JoinsIn w6 w6.heap.size (.slice M0 mn0 md0) l) := Lib.hid (by rw [hM0]; exact hu.in_ joinR_cells)
  rw [← hM0]
  clear hu hM0 k0 k1 k2 k3 k4 k5
  have tBZ := BZ.out.trans (b6.mono BZ.out.size)
  have tXP := (b6.block _ (heap_lt XP.out)).trans XP.out
  have tXO := (b6.block _ (heap_lt XO.out)).trans XO.out
  have tX8 := (b6.block _ (heap_lt X8.out)).trans X8.out
  have tX10 := (b6.block _ (heap_lt X10.out)).trans X10.out
  have tHP := (HP.out.below b6).more b6.size
  have tHO := (HO.out.below b6).more b6.size
  have tWD := (WD.out.below b6).more b6.size
  have tWG := (WG.out.below b6).more b6.size
  have tWL := (WL.out.below joinR b6).more joinR b6.size
  have tMB := MB.out.trans (b6.mono MB.out.size)
  have tIR := intRow_below IR.out b6
  clear BZ XP XO X8 X10 HP HO WD WG WL MB IR b6
  have BZ := Lib.hid tBZ
  have XP := Lib.hid tXP
  have XO := Lib.hid tXO
  have X8 := Lib.hid tX8
  have X10 := Lib.hid tX10
  have HP := Lib.hid tHP
  have HO := Lib.hid tHO
  have WD := Lib.hid tWD
  have WG := Lib.hid tWG
  have WL := Lib.hid tWL
  have MB := Lib.hid tMB
  have IR := Lib.hid tIR
  clear tBZ tXP tXO tX8 tX10 tHP tHO tWD tWG tWL tMB tIR
  go_upto_region 8 with fail
  obtain ⟨k0, k1, k2, k3, k4, k5⟩ := cell6_of XP.out
  go_wp2_with fail
  refine (rof_any _ p b w6 HP.out).mono ?_
  rintro e w7 ⟨u0, u1, u2, rfl, hu, b7⟩
  rw [← EQS.out.2.1] at hu
  rw [← EQS.out.2.1, ← EQS.out.2.2.2.2]
  obtain ⟨N0, nd0, rfl⟩ := hu.path.slice
  obtain ⟨N1, nd1, rfl⟩ := hu.over.slice
  obtain ⟨N2, nd2, rfl⟩ := hu.asks.slice
  obtain ⟨nn0, hN0⟩ : ∃ n, n = y.path.length := ⟨_, rfl⟩
  obtain ⟨nn1, hN1⟩ : ∃ n, n = y.over.length := ⟨_, rfl⟩
  obtain ⟨nn2, hN2⟩ : ∃ n, n = y.asks.length := ⟨_, rfl⟩
  have WN : Hid (WayV w7 w7.heap.size (.agg #[.slice N0 nn0 nd0, .slice N1 nn1 nd1, .slice N2 nn2 nd2, .int .i64 y.near]) y) := Lib.hid ⟨_, _, _, rfl, by rw [hN0, hN1, hN2]; exact hu.in_⟩
  rw [← hN0, ← hN1, ← hN2]
  clear hu hN0 hN1 hN2 k0 k1 k2 k3 k4 k5
  have tBZ := BZ.out.trans (b7.mono BZ.out.size)
  have tXP := (b7.block _ (heap_lt XP.out)).trans XP.out
  have tXO := (b7.block _ (heap_lt XO.out)).trans XO.out
  have tX8 := (b7.block _ (heap_lt X8.out)).trans X8.out
  have tX10 := (b7.block _ (heap_lt X10.out)).trans X10.out
  have tHP := (HP.out.below b7).more b7.size
  have tHO := (HO.out.below b7).more b7.size
  have tWD := (WD.out.below b7).more b7.size
  have tWG := (WG.out.below b7).more b7.size
  have tWL := (WL.out.below joinR b7).more joinR b7.size
  have tWM := (WM.out.below joinR b7).more joinR b7.size
  have tMB := MB.out.trans (b7.mono MB.out.size)
  have tIR := intRow_below IR.out b7
  clear BZ XP XO X8 X10 HP HO WD WG WL WM MB IR b7
  have BZ := Lib.hid tBZ
  have XP := Lib.hid tXP
  have XO := Lib.hid tXO
  have X8 := Lib.hid tX8
  have X10 := Lib.hid tX10
  have HP := Lib.hid tHP
  have HO := Lib.hid tHO
  have WD := Lib.hid tWD
  have WG := Lib.hid tWG
  have WL := Lib.hid tWL
  have WM := Lib.hid tWM
  have MB := Lib.hid tMB
  have IR := Lib.hid tIR
  clear tBZ tXP tXO tX8 tX10 tHP tHO tWD tWG tWL tWM tMB tIR
  have XX0 := heap_alloc_self w7 (.cells #[.slice none 0 0, .slice none 0 0, .slice none 0 0, .int .i64 0] 36)
  have hb4 := below_setRow (below_new w7 (.cells #[.slice none 0 0, .slice none 0 0, .slice none 0 0, .int .i64 0] 36)) (Nat.le_refl _) #[.slice N0 nn0 nd0, .slice N1 nn1 nd1, .slice N2 nn2 nd2, .int .i64 y.near]
  have hx4 := setRow_heap (w7.alloc (.cells #[.slice none 0 0, .slice none 0 0, .slice none 0 0, .int .i64 0] 36)) w7.heap.size _ #[.slice N0 nn0 nd0, .slice N1 nn1 nd1, .slice N2 nn2 nd2, .int .i64 y.near] 36 _ XX0
  go_upto_region 9 with ((with_reducible show wpList _ _ _ (⟨none, _, _, _, _, _⟩ :: _) _ _); refine wpList_store_rowS rfl _ (.tmp 16) (.tmp 52) rfl w7.heap.size rfl (c' := #[.slice N0 nn0 nd0, .slice N1 nn1 nd1, .slice N2 nn2 nd2, .int .i64 y.near]) rfl XX0 infoWay4 rfl (by simp [Value.oneCell']) ?_)
  generalize (w7.alloc (.cells #[.slice none 0 0, .slice none 0 0, .slice none 0 0, .int .i64 0] 36)).setRow w7.heap.size #[.slice N0 nn0 nd0, .slice N1 nn1 nd1, .slice N2 nn2 nd2, .int .i64 y.near] = q4 at hb4 hx4 ⊢
  obtain ⟨p16, hp4⟩ : ∃ n, n = w7.heap.size := ⟨_, rfl⟩
  rw [← hp4] at hx4 ⊢
  have X16 := Lib.hid hx4
  clear hx4 XX0 hp4
  have tBZ := BZ.out.trans (hb4.mono BZ.out.size)
  have tXP := (hb4.block _ (heap_lt XP.out)).trans XP.out
  have tXO := (hb4.block _ (heap_lt XO.out)).trans XO.out
  have tX8 := (hb4.block _ (heap_lt X8.out)).trans X8.out
  have tX10 := (hb4.block _ (heap_lt X10.out)).trans X10.out
  have tHP := (HP.out.below hb4).more hb4.size
  have tHO := (HO.out.below hb4).more hb4.size
  have tWD := (WD.out.below hb4).more hb4.size
  have tWG := (WG.out.below hb4).more hb4.size
  have tWN := (WN.out.below hb4).more hb4.size
  have tWL := (WL.out.below joinR hb4).more joinR hb4.size
  have tWM := (WM.out.below joinR hb4).more joinR hb4.size
  have tMB := MB.out.trans (hb4.mono MB.out.size)
  have tIR := intRow_below IR.out hb4
  clear BZ XP XO X8 X10 HP HO WD WG WN WL WM MB IR hb4
  have BZ := Lib.hid tBZ
  have XP := Lib.hid tXP
  have XO := Lib.hid tXO
  have X8 := Lib.hid tX8
  have X10 := Lib.hid tX10
  have HP := Lib.hid tHP
  have HO := Lib.hid tHO
  have WD := Lib.hid tWD
  have WG := Lib.hid tWG
  have WN := Lib.hid tWN
  have WL := Lib.hid tWL
  have WM := Lib.hid tWM
  have MB := Lib.hid tMB
  have IR := Lib.hid tIR
  clear tBZ tXP tXO tX8 tX10 tHP tHO tWD tWG tWN tWL tWM tMB tIR
  obtain ⟨G, hG⟩ : ∃ g, g = eqB x y := ⟨_, rfl⟩
  have HG := Lib.hid hG
  clear hG
  refine wp_region_held_drew (S := fun v => Below q4.heap.size q4 v) (by kernel_rfl) (Below.refl q4.heap.size q4).drew (fun hHeld => ?_)
  refine tkH 0 ?_ rfl hHeld ?_ ?_
  rotate_left
  · intro w' hSw; obtain ⟨cw0, cw1, cw2, cw3⟩ := cell4_of ((hSw.block _ (heap_lt X8.out)).trans X8.out); go_simp; try with_reducible rfl
  simp only [zn, Act.put]
  refine tkH 1 ?_ rfl hHeld ?_ ?_
  rotate_left
  · intro w' hSw; obtain ⟨cw0, cw1, cw2, cw3⟩ := cell4_of ((hSw.block _ (heap_lt X10.out)).trans X10.out); go_simp; try with_reducible rfl
  simp only [zn, Act.put]
  refine wpAnyH_ready (rs := [2]) (by kernel_rfl) (by simp) ?_
  refine AllReadyH.cons rfl (fun K hK => ?_) AllReadyH.nil
  go_simp
  refine (rsame9_any _ _ x x q4.drew ((WD.out.below ((Below.refl q4.heap.size q4).drew)).more ((Below.refl q4.heap.size q4).drew).size) ((WG.out.below ((Below.refl q4.heap.size q4).drew)).more ((Below.refl q4.heap.size q4).drew).size)).mono ?_
  rintro e wA ⟨rfl, b⟩
  rw [eqB_true rfl]
  have SA : Hid (Below q4.heap.size q4 wA) := Lib.hid (((Below.refl q4.heap.size q4).drew).trans (b.mono ((Below.refl q4.heap.size q4).drew).size))
  clear b
  try go_wp2_with fail
  refine hK.out _ _ ?_ (fun hHeld => ?_)
  · exact SA.out
  clear hK K
  try simp only [zn, Act.put]
  refine tkH 3 ?_ rfl hHeld ?_ ?_
  rotate_left
  · intro w' hSw; go_simp; try with_reducible rfl
  simp only [zn, Act.put]
  refine tkH 4 ?_ rfl hHeld ?_ ?_
  rotate_left
  · intro w' hSw; go_simp; try with_reducible rfl
  simp only [zn, Act.put]
  refine tkH 5 ?_ rfl hHeld ?_ ?_
  rotate_left
  · intro w' hSw; go_simp; try with_reducible rfl
  simp only [zn, Act.put]
  refine tkH 6 ?_ rfl hHeld ?_ ?_
  rotate_left
  · intro w' hSw; go_simp; try with_reducible rfl
  simp only [zn, Act.put]
  refine tkH 7 ?_ rfl hHeld ?_ ?_
  rotate_left
  · intro w' hSw; go_simp; try with_reducible rfl
  simp only [zn, Act.put]
  refine tkH 8 ?_ rfl hHeld ?_ ?_
  rotate_left
  · intro w' hSw; go_simp; try with_reducible rfl
  simp only [zn, Act.put]
  refine tkH 9 ?_ rfl hHeld ?_ ?_
  rotate_left
  · intro w' hSw; go_simp; try with_reducible rfl
  simp only [zn, Act.put]
  refine tkH 10 ?_ rfl hHeld ?_ ?_
  rotate_left
  · intro w' hSw; go_simp; try with_reducible rfl
  simp only [zn, Act.put]
  refine wpAnyH_ready (rs := [11]) (by kernel_rfl) (by simp) ?_
  refine AllReadyH.cons rfl (fun K hK => ?_) AllReadyH.nil
  go_simp
  refine (rsamejoins_any _ _ l l wA ((WL.out.below joinR (SA.out)).more joinR (SA.out).size) ((WM.out.below joinR (SA.out)).more joinR (SA.out).size)).mono ?_
  rintro e wB ⟨rfl, b⟩
  rw [eqB_true rfl]
  have SB : Hid (Below q4.heap.size q4 wB) := Lib.hid ((SA.out).trans (b.mono (SA.out).size))
  clear b
  try go_wp2_with fail
  refine hK.out _ _ ?_ (fun hHeld => ?_)
  · exact SB.out
  clear hK K
  try simp only [zn, Act.put]
  refine tkH 12 ?_ rfl hHeld ?_ ?_
  rotate_left
  · intro w' hSw; go_simp; try with_reducible rfl
  simp only [zn, Act.put]
  refine tkH 13 ?_ rfl hHeld ?_ ?_
  rotate_left
  · intro w' hSw; go_simp; try with_reducible rfl
  simp only [zn, Act.put]
  refine tkH 14 ?_ rfl hHeld ?_ ?_
  rotate_left
  · intro w' hSw; go_simp; try with_reducible rfl
  simp only [zn, Act.put]
  refine tkH 15 ?_ rfl hHeld ?_ ?_
  rotate_left
  · intro w' hSw; go_simp; try with_reducible rfl
  simp only [zn, Act.put]
  refine tkH 16 ?_ rfl hHeld ?_ ?_
  rotate_left
  · intro w' hSw; go_simp; try with_reducible rfl
  simp only [zn, Act.put]
  refine tkH 17 ?_ rfl hHeld ?_ ?_
  rotate_left
  · intro w' hSw; go_simp; try with_reducible rfl
  simp only [zn, Act.put]
  refine tkH 18 ?_ rfl hHeld ?_ ?_
  rotate_left
  · intro w' hSw; go_simp; try with_reducible rfl
  simp only [zn, Act.put]
  refine tkH 19 ?_ rfl hHeld ?_ ?_
  rotate_left
  · intro w' hSw; obtain ⟨cw0, cw1, cw2, cw3⟩ := cell4_of ((hSw.block _ (heap_lt X8.out)).trans X8.out); go_simp; try with_reducible rfl
  simp only [zn, Act.put]
  refine tkH 20 ?_ rfl hHeld ?_ ?_
  rotate_left
  · intro w' hSw; obtain ⟨cw0, cw1, cw2, cw3⟩ := cell4_of ((hSw.block _ (heap_lt X16.out)).trans X16.out); go_simp; try with_reducible rfl
  simp only [zn, Act.put]
  refine tkH 22 ?_ rfl hHeld ?_ ?_
  rotate_left
  · intro w' hSw; obtain ⟨cw0, cw1, cw2, cw3⟩ := cell4_of ((hSw.block _ (heap_lt X10.out)).trans X10.out); go_simp; try with_reducible rfl
  simp only [zn, Act.put]
  refine tkH 23 ?_ rfl hHeld ?_ ?_
  rotate_left
  · intro w' hSw; obtain ⟨cw0, cw1, cw2, cw3⟩ := cell4_of ((hSw.block _ (heap_lt X16.out)).trans X16.out); go_simp; try with_reducible rfl
  simp only [zn, Act.put]
  refine wpAnyH_ready (rs := [21]) (by kernel_rfl) (by simp) ?_
  refine AllReadyH.cons rfl (fun K hK => ?_) AllReadyH.nil
  go_simp
  refine (hp.same _ _ x y wB ((WD.out.below (SB.out)).more (SB.out).size) ((WN.out.below (SB.out)).more (SB.out).size)).mono ?_
  rintro e wC ⟨rfl, b⟩
  rw [← HG.out]
  have SC : Hid (Below q4.heap.size q4 wC) := Lib.hid ((SB.out).trans (b.mono (SB.out).size))
  clear b
  try go_wp2_with fail
  refine hK.out _ _ ?_ (fun hHeld => ?_)
  · exact SC.out
  clear hK K
  try simp only [zn, Act.put]
  refine wpAnyH_ready (rs := [24]) (by kernel_rfl) (by simp) ?_
  refine AllReadyH.cons rfl (fun K hK => ?_) AllReadyH.nil
  go_simp
  refine (rsame9_any _ _ x y wC ((WG.out.below (SC.out)).more (SC.out).size) ((WN.out.below (SC.out)).more (SC.out).size)).mono ?_
  rintro e wD ⟨rfl, b⟩
  rw [← HG.out]
  have SDD : Hid (Below q4.heap.size q4 wD) := Lib.hid ((SC.out).trans (b.mono (SC.out).size))
  clear b
  try go_wp2_with fail
  refine hK.out _ _ ?_ (fun hHeld => ?_)
  · exact SDD.out
  clear hK K
  try simp only [zn, Act.put]
  refine tkH 25 ?_ rfl hHeld ?_ ?_
  rotate_left
  · intro w' hSw; go_simp; try with_reducible rfl
  simp only [zn, Act.put]
  refine tkH 26 ?_ rfl hHeld ?_ ?_
  rotate_left
  · intro w' hSw; go_simp; try with_reducible rfl
  simp only [zn, Act.put]
  refine tkH 27 ?_ rfl hHeld ?_ ?_
  rotate_left
  · intro w' hSw; go_simp; try with_reducible rfl
  simp only [zn, Act.put]
  refine wpAnyH_done (by kernel_rfl) ?_ _
  have bS := SDD.out
  clear SA SB SC SDD
  have tBZ := BZ.out.trans (bS.mono BZ.out.size)
  have tXP := (bS.block _ (heap_lt XP.out)).trans XP.out
  have tXO := (bS.block _ (heap_lt XO.out)).trans XO.out
  have tX8 := (bS.block _ (heap_lt X8.out)).trans X8.out
  have tX10 := (bS.block _ (heap_lt X10.out)).trans X10.out
  have tX16 := (bS.block _ (heap_lt X16.out)).trans X16.out
  have tHP := (HP.out.below bS).more bS.size
  have tHO := (HO.out.below bS).more bS.size
  have tWD := (WD.out.below bS).more bS.size
  have tWG := (WG.out.below bS).more bS.size
  have tWN := (WN.out.below bS).more bS.size
  have tWL := (WL.out.below joinR bS).more joinR bS.size
  have tWM := (WM.out.below joinR bS).more joinR bS.size
  have tMB := MB.out.trans (bS.mono MB.out.size)
  have tIR := intRow_below IR.out bS
  clear BZ XP XO X8 X10 X16 HP HO WD WG WN WL WM MB IR bS
  have BZ := Lib.hid tBZ
  have XP := Lib.hid tXP
  have XO := Lib.hid tXO
  have X8 := Lib.hid tX8
  have X10 := Lib.hid tX10
  have X16 := Lib.hid tX16
  have HP := Lib.hid tHP
  have HO := Lib.hid tHO
  have WD := Lib.hid tWD
  have WG := Lib.hid tWG
  have WN := Lib.hid tWN
  have WL := Lib.hid tWL
  have WM := Lib.hid tWM
  have MB := Lib.hid tMB
  have IR := Lib.hid tIR
  clear tBZ tXP tXO tX8 tX10 tX16 tHP tHO tWD tWG tWN tWL tWM tMB tIR
  have hnb : dn0 ≤ 9223372036854775807 := PAL.out
  go_wp2_with fail
  go_loopw [19] (fun s19 wr => ∃ i : Nat, i ≤ dn0 ∧ s19 = .int .i64 i ∧ IntRow wr wM.heap.size dn0 D0 ∧ wr.heap[p8]? = some (.cells #[.slice D0 dn0 dd0, .slice D1 dn1 dd1, .slice D2 dn2 dd2, .int .i64 x.near] 36 (0, 0)) ∧ Below wM.heap.size wM wr) (fun s19 _ => dn0 - (intOf s19).toNat)
  case atStart => exact ⟨0, by omega, by go_num, IR.out, X8.out, MB.out⟩
  case round =>
    obtain ⟨i, hi, rfl, hir, hx, hb⟩ := hrel
    have IRW := Lib.hid hir
    have XW := Lib.hid hx
    have BW := Lib.hid hb
    clear hir hx hb IR X8 MB BZ HP HO WD WG WN WL WM XP XO X10 X16
    obtain ⟨k0, k1, k2, k3⟩ := cell4_of XW.out
    by_cases hlt : i < dn0
    · have hlt2 : (i : Int) < dn0 := by omega
      rcases IRW.out with h | ⟨g, cur, rfl, hlo, hcur, hz⟩
      · omega
      obtain ⟨z, hz1⟩ := hz i hlt
      have hg : wr.cell? ⟨g, i, none⟩ = some (.int .i64 z) := by rw [cell_of_row _ _ _ _ _ _ hcur]; exact hz1
      have hf := frozen2_of hcur i
      have HC := Lib.hid hcur
      have HZ := Lib.hid hz
      have HLO := Lib.hid hlo
      have NEG : Hid (p8 ≠ g) := Lib.hid (fun e => by
        have h1 := XW.out
        rw [e, hcur] at h1
        cases h1)
      clear hz hcur hlo hz1
      go_wp2_with fail
      go_roundw
      case measure => simp [intOf]; omega
      case rel => exact ⟨i + 1, by omega, by go_num, intRow_set HLO.out HC.out HZ.out _, (heap_setFar wr g i p8 _ NEG.out).trans XW.out, below_set BW.out HLO.out i _⟩
    · have hlt2 : ¬ (i : Int) < dn0 := by omega
      have XO := Lib.hid ((BW.out.block _ (heap_lt MXO.out)).trans MXO.out)
      have XP := Lib.hid ((BW.out.block _ (heap_lt MXP.out)).trans MXP.out)
      clear k1 k2 k3
      obtain ⟨m0, m1, m2, m3, m4, m5⟩ := cell6_of XO.out
      obtain ⟨r0, r1, r2, r3, r4, r5⟩ := cell6_of XP.out
      go_wp2_with fail
      refine (rsame8_any _ _ p p wr ((MHO.out.below BW.out).more BW.out.size) ((MHP.out.below BW.out).more BW.out.size)).mono ?_
      rintro e wZ ⟨rfl, bZ⟩
      rw [eqB_true rfl]
      have BL : Hid (Below w.heap.size w wZ) := Lib.hid ((MBZ.out.trans (BW.out.mono MBZ.out.size)).trans (bZ.mono (by have := MBZ.out.size; have := BW.out.size; omega)))
      clear bZ
      go_wp2_with fail
      go_ret
      exact ⟨rfl, BL.out⟩
end Go.Proofs.Ytjgdgdccnbmbiaa
