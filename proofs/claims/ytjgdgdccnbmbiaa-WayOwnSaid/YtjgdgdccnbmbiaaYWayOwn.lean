/-
  WayOwn: the walk, given the program's contracts.
  Conditions: none.
-/
import Derived.Test.YtjgdgdccnbmbiaaYGWayOne
import Derived.Test.YtjgdgdccnbmbiaaYWayOwnM
import Derived.Test.YtjgdgdccnbmbiaaYGPlnRefD
import Derived.BigQuiet
set_option linter.unusedVariables false
set_option linter.unusedSimpArgs false
set_option maxRecDepth 100000
namespace Go.Proofs.Ytjgdgdccnbmbiaa
open Go.RowKit

theorem infoSgO : (Try.prog.info? 64).map (fun i => (i.zero, i.size, i.bytes)) = some (some (.agg #[.int .i64 0, .int .i64 0, .int .i64 0]), 3, 24) := by kernel_rfl
set_option maxHeartbeats 16000000 in
theorem walk_way_own (hp : WaySaid) (hs : PlanSaid) (v : Value) (p : Pl) (id : Int) (w : World) (h : PlanV w w.heap.size v p) :
    Calls Try.prog 8 #[v, .int .i64 id] w fun e w' => e = .returned (.bool true) ∧ Below w.heap.size w w' := by
  obtain ⟨y2, y3, y4, y5, rfl, hin⟩ := h
  have HIN0 := Lib.hid hin
  obtain ⟨A2, c2, rfl, hcl2, hcm2⟩ := hin.secs.slice
  obtain ⟨A3, c3, rfl, -, -⟩ := hin.pts.slice
  obtain ⟨A4, c4, rfl, hcl4, hcm4⟩ := hin.sigs.slice
  obtain ⟨A5, c5, rfl, -, -⟩ := hin.routes.slice
  obtain ⟨n2, hn2⟩ : ∃ n, n = p.secs.length := ⟨_, rfl⟩
  obtain ⟨n3, hn3⟩ : ∃ n, n = p.pts.length := ⟨_, rfl⟩
  obtain ⟨n4, hn4⟩ : ∃ n, n = p.sigs.length := ⟨_, rfl⟩
  obtain ⟨n5, hn5⟩ : ∃ n, n = p.routes.length := ⟨_, rfl⟩
  have HN : Hid (n2 = p.secs.length ∧ n3 = p.pts.length ∧ n4 = p.sigs.length ∧ n5 = p.routes.length) := Lib.hid ⟨hn2, hn3, hn4, hn5⟩
  have HM4 : Hid (n4 ≤ 9223372036854775807) := Lib.hid (by rw [hn4]; unfold maxLen at hcm4; omega)
  have HP0 : Hid (PlanV w w.heap.size (.agg #[.int .i64 p.ver, .int .i64 p.par, .slice A2 n2 c2, .slice A3 n3 c3, .slice A4 n4 c4, .slice A5 n5 c5]) p) := Lib.hid ⟨_, _, _, _, rfl, by rw [hn2, hn3, hn4, hn5]; exact HIN0.out⟩
  rw [← hn2, ← hn3, ← hn4, ← hn5]
  clear hn2 hn3 hn4 hn5 HIN0 hin hcl2 hcm2 hcl4 hcm4
  have hq0 := heap_alloc_self w (.cells #[.int .i64 p.ver, .int .i64 p.par, .slice A2 n2 c2, .slice A3 n3 c3, .slice A4 n4 c4, .slice A5 n5 c5] 31)
  have hqb := below_new w (.cells #[.int .i64 p.ver, .int .i64 p.par, .slice A2 n2 c2, .slice A3 n3 c3, .slice A4 n4 c4, .slice A5 n5 c5] 31)
  go_enter Try.func8, Try.ntmps8
  go_upto_region 1 with fail
  generalize w.alloc (.cells #[.int .i64 p.ver, .int .i64 p.par, .slice A2 n2 c2, .slice A3 n3 c3, .slice A4 n4 c4, .slice A5 n5 c5] 31) = q at hq0 hqb ⊢
  have BZ := Lib.hid hqb
  have XP := Lib.hid hq0
  have HP := Lib.hid ((HP0.out.below hqb).more hqb.size)
  clear hq0 hqb HP0
  go_wp2_with fail
  refine (alive9 hp q).mono ?_
  rintro e w1 ⟨rfl, b1⟩
  have tBZ := BZ.out.trans (b1.mono BZ.out.size)
  have tXP := (b1.block _ (heap_lt XP.out)).trans XP.out
  have tHP := (HP.out.below b1).more b1.size
  clear BZ XP HP b1
  have BZ := Lib.hid tBZ
  have XP := Lib.hid tXP
  have HP := Lib.hid tHP
  clear tBZ tXP tHP
  obtain ⟨k0, k1, k2, k3, k4, k5⟩ := cell6_of XP.out
  go_wp2_with fail
  refine (rgreat8_any _ p w1 HP.out).mono ?_
  rintro e w2 ⟨⟨g, rfl, hg⟩, b2⟩
  clear k0 k1 k2 k3 k4 k5
  have tBZ := BZ.out.trans (b2.mono BZ.out.size)
  have tXP := (b2.block _ (heap_lt XP.out)).trans XP.out
  have tHP := (HP.out.below b2).more b2.size
  clear BZ XP HP b2
  have BZ := Lib.hid tBZ
  have XP := Lib.hid tXP
  have HP := Lib.hid tHP
  clear tBZ tXP tHP
  cases g with
  | true =>
    go_wp2_with fail
    go_ret
    exact ⟨rfl, BZ.out⟩
  | false =>
  have FEW := Lib.hid (hg rfl)
  clear hg
  obtain ⟨x, hx⟩ : ∃ x, x = wayV p id := ⟨_, rfl⟩
  obtain ⟨E, hE⟩ : ∃ x, x = wayE p id := ⟨_, rfl⟩
  obtain ⟨l, hl⟩ : ∃ x, x = leftV p id := ⟨_, rfl⟩
  obtain ⟨r, hr⟩ : ∃ x, x = elV p kRt p.routes id zRt := ⟨_, rfl⟩
  obtain ⟨E3, hE3⟩ : ∃ x, x = elE p kRt p.routes id := ⟨_, rfl⟩
  have XV := Lib.hid hx
  have XE := Lib.hid hE
  have XL := Lib.hid hl
  have RV := Lib.hid hr
  have RE := Lib.hid hE3
  clear hx hE hl hr hE3
  obtain ⟨k0, k1, k2, k3, k4, k5⟩ := cell6_of XP.out
  go_wp2_with fail
  refine (hp.of _ p id w2 HP.out).mono ?_
  rintro e w3 ⟨u0, u1, u2, rfl, hu, b3⟩
  rw [← XV.out] at hu
  rw [← XV.out, ← XE.out]
  obtain ⟨D0, dd0, rfl⟩ := hu.path.slice
  obtain ⟨D1, dd1, rfl⟩ := hu.over.slice
  obtain ⟨D2, dd2, rfl⟩ := hu.asks.slice
  obtain ⟨dn0, hD0⟩ : ∃ n, n = x.path.length := ⟨_, rfl⟩
  obtain ⟨dn1, hD1⟩ : ∃ n, n = x.over.length := ⟨_, rfl⟩
  obtain ⟨dn2, hD2⟩ : ∃ n, n = x.asks.length := ⟨_, rfl⟩
  have ND : Hid (dn0 = x.path.length ∧ dn1 = x.over.length ∧ dn2 = x.asks.length) := Lib.hid ⟨hD0, hD1, hD2⟩
  have WD : Hid (WayV w3 w3.heap.size (.agg #[.slice D0 dn0 dd0, .slice D1 dn1 dd1, .slice D2 dn2 dd2, .int .i64 x.near]) x) := Lib.hid ⟨_, _, _, rfl, by rw [hD0, hD1, hD2]; exact hu.in_⟩
  rw [← hD0, ← hD1, ← hD2]
  clear hu hD0 hD1 hD2 k0 k1 k2 k3 k4 k5
  have tBZ := BZ.out.trans (b3.mono BZ.out.size)
  have tXP := (b3.block _ (heap_lt XP.out)).trans XP.out
  have tHP := (HP.out.below b3).more b3.size
  clear BZ XP HP b3
  have BZ := Lib.hid tBZ
  have XP := Lib.hid tXP
  have HP := Lib.hid tHP
  clear tBZ tXP tHP
  have XX0 := heap_alloc_self w3 (.cells #[.slice none 0 0, .slice none 0 0, .slice none 0 0, .int .i64 0] 36)
  have hb1 := below_setRow (below_new w3 (.cells #[.slice none 0 0, .slice none 0 0, .slice none 0 0, .int .i64 0] 36)) (Nat.le_refl _) #[.slice D0 dn0 dd0, .slice D1 dn1 dd1, .slice D2 dn2 dd2, .int .i64 x.near]
  have hx1 := setRow_heap (w3.alloc (.cells #[.slice none 0 0, .slice none 0 0, .slice none 0 0, .int .i64 0] 36)) w3.heap.size _ #[.slice D0 dn0 dd0, .slice D1 dn1 dd1, .slice D2 dn2 dd2, .int .i64 x.near] 36 _ XX0
  go_upto_region 5 with ((with_reducible show wpList _ _ _ (⟨none, _, _, _, _, _⟩ :: _) _ _); refine wpList_store_rowS rfl _ (.tmp 6) (.tmp 26) rfl w3.heap.size rfl (c' := #[.slice D0 dn0 dd0, .slice D1 dn1 dd1, .slice D2 dn2 dd2, .int .i64 x.near]) rfl XX0 infoWay4 rfl (by simp [Value.oneCell']) ?_)
  generalize (w3.alloc (.cells #[.slice none 0 0, .slice none 0 0, .slice none 0 0, .int .i64 0] 36)).setRow w3.heap.size #[.slice D0 dn0 dd0, .slice D1 dn1 dd1, .slice D2 dn2 dd2, .int .i64 x.near] = q1 at hb1 hx1 ⊢
  obtain ⟨p6, hp1⟩ : ∃ n, n = w3.heap.size := ⟨_, rfl⟩
  rw [← hp1] at hx1 ⊢
  have X6 := Lib.hid hx1
  clear hx1 XX0 hp1
  have tBZ := BZ.out.trans (hb1.mono BZ.out.size)
  have tXP := (hb1.block _ (heap_lt XP.out)).trans XP.out
  have tHP := (HP.out.below hb1).more hb1.size
  have tWD := (WD.out.below hb1).more hb1.size
  clear BZ XP HP WD hb1
  have BZ := Lib.hid tBZ
  have XP := Lib.hid tXP
  have HP := Lib.hid tHP
  have WD := Lib.hid tWD
  clear tBZ tXP tHP tWD
  obtain ⟨k0, k1, k2, k3, k4, k5⟩ := cell6_of XP.out
  go_wp2_with fail
  refine (hs.route _ p id q1 HP.out).mono ?_
  rintro e w4 ⟨u3, u4, u5, rfl, hro, b4⟩
  rw [← RV.out] at hro
  rw [← RV.out, ← RE.out]
  obtain ⟨R3, g3, rfl⟩ := hro.path.slice
  obtain ⟨R4, g4, rfl⟩ := hro.over.slice
  obtain ⟨R5, g5, rfl⟩ := hro.flanks.slice
  obtain ⟨l3, hl3⟩ : ∃ n, n = r.path.length := ⟨_, rfl⟩
  obtain ⟨l4, hl4⟩ : ∃ n, n = r.over.length := ⟨_, rfl⟩
  obtain ⟨l5, hl5⟩ : ∃ n, n = r.flanks.length := ⟨_, rfl⟩
  have NR : Hid (l3 = r.path.length ∧ l4 = r.over.length ∧ l5 = r.flanks.length) := Lib.hid ⟨hl3, hl4, hl5⟩
  have HRV : Hid (RouteV w4 w4.heap.size (.agg #[.int .i64 r.id, .int .i64 r.entry, .int .i64 r.exit, .slice R3 l3 g3, .slice R4 l4 g4, .slice R5 l5 g5, .int .i64 r.timer]) r) := Lib.hid ⟨_, _, _, rfl, by rw [hl3, hl4, hl5]; exact hro.in_⟩
  rw [← hl3, ← hl4, ← hl5]
  clear hro hl3 hl4 hl5 k0 k1 k2 k3 k4 k5
  have tBZ := BZ.out.trans (b4.mono BZ.out.size)
  have tXP := (b4.block _ (heap_lt XP.out)).trans XP.out
  have tX6 := (b4.block _ (heap_lt X6.out)).trans X6.out
  have tHP := (HP.out.below b4).more b4.size
  have tWD := (WD.out.below b4).more b4.size
  clear BZ XP X6 HP WD b4
  have BZ := Lib.hid tBZ
  have XP := Lib.hid tXP
  have X6 := Lib.hid tX6
  have HP := Lib.hid tHP
  have WD := Lib.hid tWD
  clear tBZ tXP tX6 tHP tWD
  have XX0 := heap_alloc_self w4 (.cells #[.int .i64 0, .int .i64 0, .int .i64 0, .slice none 0 0, .slice none 0 0, .slice none 0 0, .int .i64 0] 60)
  have hb2 := below_setRow (below_new w4 (.cells #[.int .i64 0, .int .i64 0, .int .i64 0, .slice none 0 0, .slice none 0 0, .slice none 0 0, .int .i64 0] 60)) (Nat.le_refl _) #[.int .i64 r.id, .int .i64 r.entry, .int .i64 r.exit, .slice R3 l3 g3, .slice R4 l4 g4, .slice R5 l5 g5, .int .i64 r.timer]
  have hx2 := setRow_heap (w4.alloc (.cells #[.int .i64 0, .int .i64 0, .int .i64 0, .slice none 0 0, .slice none 0 0, .slice none 0 0, .int .i64 0] 60)) w4.heap.size _ #[.int .i64 r.id, .int .i64 r.entry, .int .i64 r.exit, .slice R3 l3 g3, .slice R4 l4 g4, .slice R5 l5 g5, .int .i64 r.timer] 60 _ XX0
  go_upto_region 6 with ((with_reducible show wpList _ _ _ (⟨none, _, _, _, _, _⟩ :: _) _ _); refine wpList_store_rowS rfl _ (.tmp 8) (.tmp 32) rfl w4.heap.size rfl (c' := #[.int .i64 r.id, .int .i64 r.entry, .int .i64 r.exit, .slice R3 l3 g3, .slice R4 l4 g4, .slice R5 l5 g5, .int .i64 r.timer]) rfl XX0 infoRoute7 rfl (by simp [Value.oneCell']) ?_)
  generalize (w4.alloc (.cells #[.int .i64 0, .int .i64 0, .int .i64 0, .slice none 0 0, .slice none 0 0, .slice none 0 0, .int .i64 0] 60)).setRow w4.heap.size #[.int .i64 r.id, .int .i64 r.entry, .int .i64 r.exit, .slice R3 l3 g3, .slice R4 l4 g4, .slice R5 l5 g5, .int .i64 r.timer] = q2 at hb2 hx2 ⊢
  obtain ⟨p8, hp2⟩ : ∃ n, n = w4.heap.size := ⟨_, rfl⟩
  rw [← hp2] at hx2 ⊢
  have X8 := Lib.hid hx2
  clear hx2 XX0 hp2
  have tBZ := BZ.out.trans (hb2.mono BZ.out.size)
  have tXP := (hb2.block _ (heap_lt XP.out)).trans XP.out
  have tX6 := (hb2.block _ (heap_lt X6.out)).trans X6.out
  have tHP := (HP.out.below hb2).more hb2.size
  have tWD := (WD.out.below hb2).more hb2.size
  have tHRV := (HRV.out.below hb2).more hb2.size
  clear BZ XP X6 HP WD HRV hb2
  have BZ := Lib.hid tBZ
  have XP := Lib.hid tXP
  have X6 := Lib.hid tX6
  have HP := Lib.hid tHP
  have WD := Lib.hid tWD
  have HRV := Lib.hid tHRV
  clear tBZ tXP tX6 tHP tWD tHRV
  by_cases h0 : E3 = 0
  rotate_left
  · have d0 : (E3 != 0) = true := by simpa using h0
    obtain rfl : E = E3 := by
      have h1 := own_none (p := p) (id := id) (by rw [← RE.out]; exact h0)
      rw [XE.out, RE.out, h1]
    clear h0
    go_wp2_with fail
    go_ret
    exact ⟨rfl, BZ.out⟩
  subst h0
  have OWN : Hid (wayE (ownP p r) id = E ∧ wayV (ownP p r) id = x) := Lib.hid (by
    obtain ⟨h1, h2⟩ := own_way (p := p) (id := id) RE.out.symm RV.out
    exact ⟨h1.trans XE.out.symm, h2.trans XV.out.symm⟩)
  obtain ⟨k0, k1, k2, k3, k4, k5⟩ := cell6_of XP.out
  go_wp2_with fail
  refine (rtwin8_any _ p q2 HP.out FEW.out).mono ?_
  rintro e w5 ⟨u2, u3, u4, u5, rfl, ho, b5⟩
  obtain ⟨O2, f2, rfl⟩ := ho.secs.slice
  obtain ⟨O3, f3, rfl⟩ := ho.pts.slice
  obtain ⟨O4, f4, rfl⟩ := ho.sigs.slice
  obtain ⟨O5, f5, rfl⟩ := ho.routes.slice
  have HO : Hid (PlIn w5 w5.heap.size (.slice O2 n2 f2) (.slice O3 n3 f3) (.slice O4 n4 f4) (.slice O5 n5 f5) p) := Lib.hid (by rw [HN.out.1, HN.out.2.1, HN.out.2.2.1, HN.out.2.2.2]; exact ho.in_)
  rw [← HN.out.1, ← HN.out.2.1, ← HN.out.2.2.1, ← HN.out.2.2.2]
  clear ho k0 k1 k2 k3 k4 k5
  have tBZ := BZ.out.trans (b5.mono BZ.out.size)
  have tXP := (b5.block _ (heap_lt XP.out)).trans XP.out
  have tX6 := (b5.block _ (heap_lt X6.out)).trans X6.out
  have tX8 := (b5.block _ (heap_lt X8.out)).trans X8.out
  have tHP := (HP.out.below b5).more b5.size
  have tWD := (WD.out.below b5).more b5.size
  have tHRV := (HRV.out.below b5).more b5.size
  clear BZ XP X6 X8 HP WD HRV b5
  have BZ := Lib.hid tBZ
  have XP := Lib.hid tXP
  have X6 := Lib.hid tX6
  have X8 := Lib.hid tX8
  have HP := Lib.hid tHP
  have WD := Lib.hid tWD
  have HRV := Lib.hid tHRV
  clear tBZ tXP tX6 tX8 tHP tWD tHRV
  have XX0 := heap_alloc_self w5 (.cells #[.int .i64 0, .int .i64 0, .slice none 0 0, .slice none 0 0, .slice none 0 0, .slice none 0 0] 31)
  have hz0 := below_setRow (below_new w5 (.cells #[.int .i64 0, .int .i64 0, .slice none 0 0, .slice none 0 0, .slice none 0 0, .slice none 0 0] 31)) (Nat.le_refl _) #[.int .i64 p.ver, .int .i64 p.par, .slice O2 n2 f2, .slice O3 n3 f3, .slice O4 n4 f4, .slice O5 n5 f5]
  have hz1 := setRow_heap (w5.alloc (.cells #[.int .i64 0, .int .i64 0, .slice none 0 0, .slice none 0 0, .slice none 0 0, .slice none 0 0] 31)) w5.heap.size _ #[.int .i64 p.ver, .int .i64 p.par, .slice O2 n2 f2, .slice O3 n3 f3, .slice O4 n4 f4, .slice O5 n5 f5] 31 _ XX0
  go_upto_region 9 with ((with_reducible show wpList _ _ _ (⟨none, _, _, _, _, _⟩ :: _) _ _); refine wpList_store_rowS rfl _ (.tmp 10) (.tmp 40) rfl w5.heap.size rfl (c' := #[.int .i64 p.ver, .int .i64 p.par, .slice O2 n2 f2, .slice O3 n3 f3, .slice O4 n4 f4, .slice O5 n5 f5]) rfl XX0 infoPlan6 rfl (by simp [Value.oneCell']) ?_)
  generalize (w5.alloc (.cells #[.int .i64 0, .int .i64 0, .slice none 0 0, .slice none 0 0, .slice none 0 0, .slice none 0 0] 31)).setRow w5.heap.size #[.int .i64 p.ver, .int .i64 p.par, .slice O2 n2 f2, .slice O3 n3 f3, .slice O4 n4 f4, .slice O5 n5 f5] = v0 at hz0 hz1 ⊢
  obtain ⟨p10, hp10⟩ : ∃ n, n = w5.heap.size := ⟨_, rfl⟩
  rw [← hp10] at hz1 ⊢
  have PM : Hid (w5.heap.size ≤ p10) := Lib.hid (by omega)
  have XA := Lib.hid hz1
  have BA := Lib.hid hz0
  clear hz0 hz1 XX0 hp10
  obtain ⟨k0, k1, k2, k3, k4, k5⟩ := cell6_of XA.out
  have fz := frozen2_of XA.out 0
  go_upto_region 10 with fail
  have hz1 : (v0.setCell ⟨p10, 0, none⟩ (.int .i64 1)).heap[p10]? = some (.cells #[.int .i64 1, .int .i64 p.par, .slice O2 n2 f2, .slice O3 n3 f3, .slice O4 n4 f4, .slice O5 n5 f5] 31 (0, 0)) := heap_setK (k := 0) XA.out _
  have hz0 := below_set BA.out PM.out 0 (.int .i64 1)
  generalize v0.setCell ⟨p10, 0, none⟩ (.int .i64 1) = v1 at hz0 hz1 ⊢
  have XB := Lib.hid hz1
  clear BA XA hz1 k0 k1 k2 k3 k4 k5 fz
  have BA := Lib.hid hz0
  clear hz0
  obtain ⟨k0, k1, k2, k3, k4, k5⟩ := cell6_of XB.out
  have fz := frozen2_of XB.out 1
  go_upto_region 11 with fail
  have hz1 : (v1.setCell ⟨p10, 1, none⟩ (.int .i64 0)).heap[p10]? = some (.cells #[.int .i64 1, .int .i64 0, .slice O2 n2 f2, .slice O3 n3 f3, .slice O4 n4 f4, .slice O5 n5 f5] 31 (0, 0)) := heap_setK (k := 1) XB.out _
  have hz0 := below_set BA.out PM.out 1 (.int .i64 0)
  generalize v1.setCell ⟨p10, 1, none⟩ (.int .i64 0) = v2 at hz0 hz1 ⊢
  have XC := Lib.hid hz1
  clear BA XB hz1 k0 k1 k2 k3 k4 k5 fz
  have BA := Lib.hid hz0
  clear hz0
  have X8a := Lib.hid ((BA.out.block _ (heap_lt X8.out)).trans X8.out)
  have pr1 := heap_alloc_self v2 (.cells #[.int .i64 r.id, .int .i64 r.entry, .int .i64 r.exit, .slice R3 l3 g3, .slice R4 l4 g4, .slice R5 l5 g5, .int .i64 r.timer] 60)
  have pr0 := below_new v2 (.cells #[.int .i64 r.id, .int .i64 r.entry, .int .i64 r.exit, .slice R3 l3 g3, .slice R4 l4 g4, .slice R5 l5 g5, .int .i64 r.timer] 60)
  have XD0 := (pr0.block _ (heap_lt XC.out)).trans XC.out
  obtain ⟨v3, hv3⟩ : ∃ u, u = v2.alloc (.cells #[.int .i64 r.id, .int .i64 r.entry, .int .i64 r.exit, .slice R3 l3 g3, .slice R4 l4 g4, .slice R5 l5 g5, .int .i64 r.timer] 60) := ⟨_, rfl⟩
  obtain ⟨pr, hpr⟩ : ∃ u, u = v2.heap.size := ⟨_, rfl⟩
  rw [← hv3] at pr0 pr1 XD0
  rw [← hpr] at pr1
  have BV3 := Lib.hid (BA.out.trans (pr0.mono BA.out.size))
  have PR : Hid (p10 < pr ∧ w5.heap.size ≤ pr) := Lib.hid (by have := heap_lt XC.out; have := BA.out.size; omega)
  have XR3 := Lib.hid pr1
  have XD := Lib.hid XD0
  obtain ⟨m0, m1, m2, m3, m4, m5, m6⟩ := cell7_of X8a.out
  have k5 : v3.cell? ⟨p10, 5, none⟩ = some (.slice O5 n5 f5) := (cell6_of XD.out).2.2.2.2.2
  have fz : v3.frozen? ⟨p10, 5, none⟩ = false := frozen2_of XD.out 5
  have HV3 : Hid (v2.alloc (.cells #[.int .i64 r.id, .int .i64 r.entry, .int .i64 r.exit, .slice R3 l3 g3, .slice R4 l4 g4, .slice R5 l5 g5, .int .i64 r.timer] 60) = v3) := Lib.hid hv3.symm
  have HPR : Hid (v2.heap.size = pr) := Lib.hid hpr.symm
  have k5' : (v2.alloc (.cells #[.int .i64 r.id, .int .i64 r.entry, .int .i64 r.exit, .slice R3 l3 g3, .slice R4 l4 g4, .slice R5 l5 g5, .int .i64 r.timer] 60)).cell? ⟨p10, 5, none⟩ = some (.slice O5 n5 f5) := by rw [HV3.out]; exact k5
  have fz' : (v2.alloc (.cells #[.int .i64 r.id, .int .i64 r.entry, .int .i64 r.exit, .slice R3 l3 g3, .slice R4 l4 g4, .slice R5 l5 g5, .int .i64 r.timer] 60)).frozen? ⟨p10, 5, none⟩ = false := by rw [HV3.out]; exact fz
  clear hv3 hpr pr0 pr1 XD0
  go_upto_region 12 with fail
  rw [HV3.out, HPR.out]
  have hz1 : (v3.setCell ⟨p10, 5, none⟩ (.slice (some ⟨pr, 0, none⟩) 1 1)).heap[p10]? = some (.cells #[.int .i64 1, .int .i64 0, .slice O2 n2 f2, .slice O3 n3 f3, .slice O4 n4 f4, .slice (some ⟨pr, 0, none⟩) 1 1] 31 (0, 0)) := heap_setK (k := 5) XD.out _
  have hz2 := (heap_setFar v3 p10 5 pr (.slice (some ⟨pr, 0, none⟩) 1 1) (by have := PR.out; omega)).trans XR3.out
  have hz0 := below_set BV3.out PM.out 5 (.slice (some ⟨pr, 0, none⟩) 1 1)
  generalize v3.setCell ⟨p10, 5, none⟩ (.slice (some ⟨pr, 0, none⟩) 1 1) = v4 at hz0 hz1 hz2 ⊢
  have XE4 := Lib.hid hz1
  have XR4 := Lib.hid hz2
  clear BA XC XD XR3 BV3 hz1 hz2 m0 m1 m2 m3 m4 m5 m6 k5 fz k5' fz' HV3 HPR X8a
  have BA := Lib.hid hz0
  clear hz0
  obtain ⟨k0, k1, k2, k3, k4, k5⟩ := cell6_of XE4.out
  have fz := frozen2_of XE4.out 4
  go_upto_region 13 with fail
  have hz1 : (v4.setCell ⟨p10, 4, none⟩ (.slice none 0 0)).heap[p10]? = some (.cells #[.int .i64 1, .int .i64 0, .slice O2 n2 f2, .slice O3 n3 f3, .slice none 0 0, .slice (some ⟨pr, 0, none⟩) 1 1] 31 (0, 0)) := heap_setK (k := 4) XE4.out _
  have hz2 := (heap_setFar v4 p10 4 pr (.slice none 0 0) (by have := PR.out; omega)).trans XR4.out
  have hz0 := below_set BA.out PM.out 4 (.slice none 0 0)
  generalize v4.setCell ⟨p10, 4, none⟩ (.slice none 0 0) = v5 at hz0 hz1 hz2 ⊢
  have XF := Lib.hid hz1
  have XR5 := Lib.hid hz2
  clear BA XE4 XR4 hz1 hz2 k0 k1 k2 k3 k4 k5 fz
  have BA := Lib.hid hz0
  clear hz0
  go_wp2_with fail
  go_loopw [11] (fun s11 wr => ∃ (i m_ c_ : Nat) (A : Option Addr), i ≤ n4 ∧ s11 = .int .i64 i ∧ m_ = ((p.sigs.take i).filter (hisB r)).length ∧ SigsOwn wr (p10 + 1) (.slice A m_ c_) ((p.sigs.take i).filter (hisB r)) ∧ wr.heap[p10]? = some (.cells #[.int .i64 1, .int .i64 0, .slice O2 n2 f2, .slice O3 n3 f3, .slice A m_ c_, .slice (some ⟨pr, 0, none⟩) 1 1] 31 (0, 0)) ∧ wr.heap[pr]? = some (.cells #[.int .i64 r.id, .int .i64 r.entry, .int .i64 r.exit, .slice R3 l3 g3, .slice R4 l4 g4, .slice R5 l5 g5, .int .i64 r.timer] 60 (0, 0)) ∧ Below w5.heap.size w5 wr) (fun s11 _ => n4 - (intOf s11).toNat)
  case atStart => exact ⟨0, 0, 0, none, by omega, by go_num, rfl, ListOwn.nil_, XF.out, XR5.out, BA.out⟩
  case round =>
    clear BA XF XR5
    obtain ⟨i, m_, c_, A, hi, rfl, hmm, how, hx10, hxr, hb⟩ := hrel
    have HLL := Lib.hid hmm
    have OW := Lib.hid how
    have X10 := Lib.hid hx10
    have XR := Lib.hid hxr
    have BW := Lib.hid hb
    have hnm : n4 ≤ 9223372036854775807 := HM4.out
    clear hmm how hx10 hxr hb
    have XPr := Lib.hid ((BW.out.block _ (heap_lt XP.out)).trans XP.out)
    have X8r := Lib.hid ((BW.out.block _ (heap_lt X8.out)).trans X8.out)
    have X6r := Lib.hid ((BW.out.block _ (heap_lt X6.out)).trans X6.out)
    obtain ⟨k0, k1, k2, k3, k4, k5⟩ := cell6_of XPr.out
    by_cases hlt : i < n4
    · have hlt' : (i : Int) < n4 := by omega
      have hil : i < p.sigs.length := by rw [← HN.out.2.2.1]; exact hlt
      obtain ⟨e1, e2, e3, hsg⟩ : ∃ a b c, p.sigs[i] = (a, b, c) := ⟨_, _, _, rfl⟩
      have HSI : Hid (SigsIn w5 w5.heap.size (.slice A4 n4 c4) p.sigs) := Lib.hid (by
        obtain ⟨_, _, _, _, e, hi2⟩ := HP.out
        cases e
        exact hi2.sigs)
      obtain ⟨bk, ok, e6, hbk, hg0, hg1, hg2⟩ := (HSI.out.below sigR BW.out).at hil
      cases e6
      rw [hsg] at hg0 hg1 hg2
      have g0 : wr.cell? ⟨bk, ok + i * 3, none⟩ = some (.int .i64 e1) := hg0
      have g1 : wr.cell? ⟨bk, ok + i * 3 + 1, none⟩ = some (.int .i64 e2) := hg1
      have g2 : wr.cell? ⟨bk, ok + i * 3 + 2, none⟩ = some (.int .i64 e3) := hg2
      have G0 := Lib.hid g0
      have G1 := Lib.hid g1
      have G2 := Lib.hid g2
      have GB : Hid (bk < w5.heap.size) := Lib.hid hbk
      have HFT : Hid ((p.sigs.take (i + 1)).filter (hisB r) = (p.sigs.take i).filter (hisB r) ++ if hisB r (e1, e2, e3) then [(e1, e2, e3)] else []) := Lib.hid (by rw [filter_take hil, hsg])
      have LLE : Hid (m_ ≤ 1000) := Lib.hid (by
        have h1 := Nat.le_trans (List.length_filter_le (hisB r) (p.sigs.take i)) (List.length_take_le _ _)
        have h2 := FEW.out.sigs
        have h3 := HLL.out
        omega)
      obtain ⟨m0, m1, m2, m3, m4, m5, m6⟩ := cell7_of X8r.out
      have BD : Hid (∀ nq, Below wr.heap.size wr (wr.drewN nq)) := Lib.hid (fun nq => drewN_below wr nq)
      clear hsg hg0 hg1 hg2 hbk
      by_cases hk : e1 = r.entry ∨ e1 = r.exit
      · have HFY : Hid ((p.sigs.take (i + 1)).filter (hisB r) = (p.sigs.take i).filter (hisB r) ++ [(e1, e2, e3)]) := Lib.hid (by rw [HFT.out, if_pos (show hisB r (e1, e2, e3) = true from decide_eq_true hk)])
        have HK := Lib.hid hk
        go_upto_region 16 with fail
        go_cut [73] from 54 to 73 (fun s73 wx => s73 = .bool true ∧ Below wr.heap.size wr wx)
        case first =>
          by_cases he : e1 = r.entry
          · have d1 : (e1 == r.entry) = true := by simpa using he
            clear hk he
            go_quiet (fail)
            have hdb := BD.out nq
            generalize wr.drewN nq = wq at hdb ⊢
            go_wp2_with fail
            go_meet
            exact ⟨rfl, hdb⟩
          · have d1 : (e1 == r.entry) = false := by simpa using he
            have d2 : (e1 == r.exit) = true := by rcases hk with h | h; exact absurd h he; simpa using h
            clear hk he
            go_quiet (fail)
            have hdb := BD.out nq
            generalize wr.drewN nq = wq at hdb ⊢
            go_wp2_with fail
            go_meet
            exact ⟨rfl, hdb⟩
        case rest =>
          obtain ⟨rfl, hdb⟩ := hcut
          obtain ⟨wq, hwq⟩ : ∃ u, u = wc := ⟨_, rfl⟩
          subst hwq
          have BQ := Lib.hid hdb
          have OWq := Lib.hid (OW.out.below sigR BQ.out)
          have X10q := Lib.hid ((BQ.out.block _ (heap_lt X10.out)).trans X10.out)
          have XRq := Lib.hid ((BQ.out.block _ (heap_lt XR.out)).trans XR.out)
          have XPq := Lib.hid ((BQ.out.block _ (heap_lt XPr.out)).trans XPr.out)
          have BWq : Hid (Below w5.heap.size w5 wq) := Lib.hid (BW.out.trans (BQ.out.mono BW.out.size))
          have H0 : Hid (wq.cell? ⟨bk, ok + i * 3, none⟩ = some (.int .i64 e1)) := Lib.hid ((BQ.out.cell (cell_lt G0.out)).trans G0.out)
          have H1 : Hid (wq.cell? ⟨bk, ok + i * 3 + 1, none⟩ = some (.int .i64 e2)) := Lib.hid ((BQ.out.cell (cell_lt G1.out)).trans G1.out)
          have H2 : Hid (wq.cell? ⟨bk, ok + i * 3 + 2, none⟩ = some (.int .i64 e3)) := Lib.hid ((BQ.out.cell (cell_lt G2.out)).trans G2.out)
          clear hdb BD g0 g1 g2 k0 k1 k2 k3 k4 k5 m0 m1 m2 m3 m4 m5 m6 hk
          have SZ : Hid (p10 + 1 ≤ wq.heap.size) := Lib.hid (heap_lt X10q.out)
          have LOW : Hid (w5.heap.size ≤ p10 + 1 ∧ bk < p10 + 1 ∧ w.heap.size < p10 + 1) := Lib.hid (by have := PM.out; have := GB.out; have := heap_lt XP.out; omega)
          obtain ⟨yss, hown, hyl, hm, hys, hyr⟩ := OWq.out
          rw [← HLL.out] at hown
          have O := Lib.hid hown
          have YL := Lib.hid hyl
          have YS := Lib.hid hys
          have YR := Lib.hid hyr
          obtain ⟨i0, hii, hz0, hzz, hz2⟩ := info_parts infoSgO
          have I0 := Lib.hid hii
          have I1 := Lib.hid hz0
          have I2 := Lib.hid hzz
          have I3 := Lib.hid hz2
          clear hii hz0 hzz hz2 hown hyl hm hys hyr
          go_upto_region 17 with fail
          refine wp_region_end (S := fun v' => Below (p10 + 1) wq v') 10 (by kernel_rfl) (Below.refl (p10 + 1) wq).drew (fun hHeld => ?_)
          refine tkE [1, 8, 10] 0 ?_ rfl hHeld ?_ ?_
          rotate_left
          · intro w' hSw; go_simp; try with_reducible rfl
          simp only [zn, Act.put]
          refine tkE [8, 10] 1 ?_ rfl hHeld ?_ ?_
          rotate_left
          · intro w' hSw; have cq4 := (hSw.cell (p := ⟨p10, 4, none⟩) (Nat.lt_succ_self p10)).trans (cell6_of X10q.out).2.2.2.2.1; go_simp; try with_reducible rfl
          simp only [zn, Act.put]
          refine tkE [3, 5, 6, 7, 8, 10] 2 ?_ rfl hHeld ?_ ?_
          rotate_left
          · intro w' hSw; go_simp; try with_reducible rfl
          simp only [zn, Act.put]
          refine tkE [5, 6, 7, 8, 10] 3 ?_ rfl hHeld ?_ ?_
          rotate_left
          · intro w' hSw; have cp4 := (hSw.cell (p := ⟨w.heap.size, 4, none⟩) LOW.out.2.2).trans (cell6_of XPq.out).2.2.2.2.1; go_simp; try with_reducible rfl
          simp only [zn, Act.put]
          refine tkE [5, 6, 7, 8, 10] 4 ?_ rfl hHeld ?_ ?_
          rotate_left
          · intro w' hSw; go_simp; try with_reducible rfl
          simp only [zn, Act.put]
          refine tkE [6, 7, 8, 10] 5 ?_ rfl hHeld ?_ ?_
          rotate_left
          · intro w' hSw; go_simp; try with_reducible rfl
          simp only [zn, Act.put]
          refine tkE [7, 8, 10] 6 ?_ rfl hHeld ?_ ?_
          rotate_left
          · intro w' hSw; have cg0 := (hSw.cell (p := ⟨bk, ok + i * 3, none⟩) LOW.out.2.1).trans H0.out; have cg1 := (hSw.cell (p := ⟨bk, ok + i * 3 + 1, none⟩) LOW.out.2.1).trans H1.out; have cg2 := (hSw.cell (p := ⟨bk, ok + i * 3 + 2, none⟩) LOW.out.2.1).trans H2.out; go_simp; try with_reducible rfl
          simp only [zn, Act.put]
          refine wpAnyE_one (i := 7) (by kernel_rfl) rfl (by kernel_rfl) (fun K hK => ?_)
          go_simp
          refine hK.out _ _ ?_ (fun hHeld => ?_)
          · exact ((Below.refl (p10 + 1) wq).drew.alloc SZ.out _)
          clear hK K
          try simp only [zn, Act.put]
          refine wpAnyE_one (i := 8) (by kernel_rfl) rfl (by kernel_rfl) (fun K hK => ?_)
          rw [if_pos (by rfl)]
          refine wp_append_list (.tmp 75) (.tmp 81) _ rfl Try.underlying28 I0.out I1.out rfl I2.out (by decide) I3.out (by decide) rfl (owns_below O.out ((Below.refl wq.heap.size wq).alloc (Nat.le_refl _) _).drew) rfl (m := 1) (news := [.int .i64 e1, .int .i64 e2, .int .i64 e3]) rfl (fun h => by cases h) (fun a ha j u hj => by cases ha; rw [Addr.add_lit, Nat.zero_add]; show (wq.alloc (.cells #[.int .i64 e1, .int .i64 e2, .int .i64 e3] 64)).cell? ⟨wq.heap.size, j, none⟩ = _; rw [World.cell?_alloc_new]; simpa using hj) (by simp [Value.oneCell']) (by have := LLE.out; omega) (by have := SZ.out; simp; omega) ?_
          intro z5 x5 hown5 hgrow6
          have hgrow5 : World.grownBy (wq.alloc (.cells #[.int .i64 e1, .int .i64 e2, .int .i64 e3] 64)) x5 (Value.ownBlock (.slice A m_ c_)) := ⟨hgrow6.os, hgrow6.tape, hgrow6.output, hgrow6.size, hgrow6.block⟩
          have S5 : Hid (SigsOwn x5 (p10 + 1) z5 ((p.sigs.take (i + 1)).filter (hisB r))) := Lib.hid (by
            rw [HFY.out]
            exact ListOwn.snoc (w1 := wq) (x := (e1, e2, e3)) (ys := [.int .i64 e1, .int .i64 e2, .int .i64 e3]) sigR (fun _ h _ _ => h) (by rw [← HLL.out]; exact O.out) YL.out YS.out rfl (by have := LLE.out; have := HLL.out; unfold maxLen; omega) YR.out (Below.refl _ _) ⟨rfl, rfl, rfl⟩ (by rw [← HLL.out]; exact hown5) hgrow5)
          have B5 : Hid (Below (p10 + 1) wq x5) := Lib.hid (((Below.refl (p10 + 1) wq).alloc SZ.out _).grown hgrow5 (by have := SZ.out; simp; omega) (own_ge O.out))
          have X10x : Hid (x5.heap[p10]? = some (.cells #[.int .i64 1, .int .i64 0, .slice O2 n2 f2, .slice O3 n3 f3, .slice A m_ c_, .slice (some ⟨pr, 0, none⟩) 1 1] 31 (0, 0))) := Lib.hid ((B5.out.block p10 (Nat.lt_succ_self p10)).trans X10q.out)
          have XRx : Hid (x5.heap[pr]? = some (.cells #[.int .i64 r.id, .int .i64 r.entry, .int .i64 r.exit, .slice R3 l3 g3, .slice R4 l4 g4, .slice R5 l5 g5, .int .i64 r.timer] 60 (0, 0))) := Lib.hid (by
            have h0 := (heap_alloc_lt wq (.cells #[.int .i64 e1, .int .i64 e2, .int .i64 e3] 64) (heap_lt XRq.out)).trans XRq.out
            cases hv : Value.ownBlock (.slice A m_ c_) with
            | none => rw [hv] at hgrow5; exact (hgrow5.block pr (heap_lt h0) (fun e => by cases e)).trans h0
            | some g =>
              rw [hv] at hgrow5
              obtain ⟨cur, hc, -⟩ := owns_block O.out hv
              have hc1 := (heap_alloc_lt wq (.cells #[.int .i64 e1, .int .i64 e2, .int .i64 e3] 64) (heap_lt hc)).trans hc
              exact heap_other (by decide) h0 hc1 hgrow5)
          have LN5 : Hid (m_ + 1 = ((p.sigs.take (i + 1)).filter (hisB r)).length) := Lib.hid (by rw [HFY.out, List.length_append, ← HLL.out]; rfl)
          have kw := (cell6_of X10x.out).2.2.2.2.1
          have fw : x5.frozen? ⟨p10, 4, none⟩ = false := frozen2_of X10x.out 4
          obtain ⟨A5_, c5_, rfl⟩ := own_sliceN hown5
          clear hown5 hgrow5 hgrow6
          refine hK.out _ _ ?_ (fun hHeld => ?_)
          · exact B5.out
          clear hK K
          try simp only [zn, Act.put]
          refine tkE [10] 9 ?_ rfl hHeld ?_ ?_
          rotate_left
          · intro w' hSw; go_simp; try with_reducible rfl
          simp only [zn, Act.put]
          refine wpAnyE_last (by kernel_rfl) rfl (by kernel_rfl) (fun K hK => ?_)
          rw [if_pos (by rfl)]
          go_simp
          refine hK.out _ _ ?_
          clear hK K
          have hz1 : (x5.setCell ⟨p10, 4, none⟩ (.slice A5_ (m_ + 1) c5_)).heap[p10]? = some (.cells #[.int .i64 1, .int .i64 0, .slice O2 n2 f2, .slice O3 n3 f3, .slice A5_ (m_ + 1) c5_, .slice (some ⟨pr, 0, none⟩) 1 1] 31 (0, 0)) := heap_setK (k := 4) X10x.out _
          have hz2 := (heap_setFar x5 p10 4 pr (.slice A5_ (m_ + 1) c5_) (by have := PR.out; omega)).trans XRx.out
          have hz3 : SigsOwn (x5.setCell ⟨p10, 4, none⟩ (.slice A5_ (m_ + 1) c5_)) (p10 + 1) (.slice A5_ (m_ + 1) c5_) ((p.sigs.take (i + 1)).filter (hisB r)) := own_kept sigF S5.out (grown_setK x5 p10 4 (.slice A5_ (m_ + 1) c5_)) (fun k hk => by have := own_lo S5.out k hk; omega)
          have hz0 := below_set (BWq.out.trans (B5.out.mono LOW.out.1)) PM.out 4 (.slice A5_ (m_ + 1) c5_)
          generalize x5.setCell ⟨p10, 4, none⟩ (.slice A5_ (m_ + 1) c5_) = x6 at hz0 hz1 hz2 hz3 ⊢
          have Z1 := Lib.hid hz1
          have Z2 := Lib.hid hz2
          have Z3 := Lib.hid hz3
          have Z0 := Lib.hid hz0
          clear hz0 hz1 hz2 hz3 kw fw
          go_wp2_with fail
          go_roundw
          case measure => simp [intOf]; omega
          case rel => exact ⟨i + 1, _, _, _, by omega, by go_num, LN5.out, Z3.out, Z1.out, Z2.out, Z0.out⟩
      · have HFN : Hid ((p.sigs.take (i + 1)).filter (hisB r) = (p.sigs.take i).filter (hisB r)) := Lib.hid (by rw [HFT.out, hisB, decide_eq_false hk]; simp)
        have d1 : (e1 == r.entry) = false := by simpa using fun h => hk (.inl h)
        have d2 : (e1 == r.exit) = false := by simpa using fun h => hk (.inr h)
        clear hk
        go_upto_region 16 with fail
        go_quiet (fail)
        have hdb := BD.out nq
        generalize wr.drewN nq = wq at hdb ⊢
        have BQ := Lib.hid hdb
        clear hdb BD g0 g1 g2 k0 k1 k2 k3 k4 k5 m0 m1 m2 m3 m4 m5 m6 d1 d2
        go_wp2_with fail
        go_roundw
        case measure => simp [intOf]; omega
        case rel => exact ⟨i + 1, m_, c_, A, by omega, by go_num, by rw [HFN.out]; exact HLL.out, by rw [HFN.out]; exact OW.out.below sigR BQ.out, (BQ.out.block _ (heap_lt X10.out)).trans X10.out, (BQ.out.block _ (heap_lt XR.out)).trans XR.out, BW.out.trans (BQ.out.mono BW.out.size)⟩
    · obtain rfl : n4 = i := by omega
      have hlt' : ¬ (n4 : Int) < n4 := by omega
      have HFI : Hid ((p.sigs.take n4).filter (hisB r) = (ownP p r).sigs) := Lib.hid (by rw [HN.out.2.2.1, List.take_length]; rfl)
      have RTS : Hid (RoutesIn wr wr.heap.size (.slice (some ⟨pr, 0, none⟩) 1 1) [r]) := Lib.hid (list_row (l := [r]) XR.out (by simp) (fun j hj => by
        obtain ⟨_, _, _, e, hri⟩ := HRV.out
        cases e
        match j, hj with
        | 0, _ => exact ⟨row_cj _ _ _ 0 _ XR.out rfl, row_cj _ _ _ 1 _ XR.out rfl, row_cj _ _ _ 2 _ XR.out rfl, row_cj _ _ _ 6 _ XR.out rfl, _, _, _, row_cj _ _ _ 3 _ XR.out rfl, row_cj _ _ _ 4 _ XR.out rfl, row_cj _ _ _ 5 _ XR.out rfl, (hri.below BW.out).more BW.out.size⟩))
      have QV : Hid (PlanV wr wr.heap.size (.agg #[.int .i64 1, .int .i64 0, .slice O2 n2 f2, .slice O3 n3 f3, .slice A m_ c_, .slice (some ⟨pr, 0, none⟩) 1 1]) (ownP p r)) := Lib.hid ⟨_, _, _, _, rfl, ⟨(HO.out.secs.below secR_ BW.out).more secR_ BW.out.size, (HO.out.pts.below joinR BW.out).more joinR BW.out.size, by rw [← HFI.out]; exact OW.out.in_ sigR_cells, RTS.out⟩⟩
      obtain ⟨m0, m1, m2, m3, m4, m5⟩ := cell6_of X10.out
      clear k0 k1 k2 k3 k5
      go_wp2_with fail
      refine (hp.of _ (ownP p r) id wr QV.out).mono ?_
      rintro e y1_ ⟨u0, u1, u2, rfl, hu, b1⟩
      rw [OWN.out.2] at hu
      rw [OWN.out.1, OWN.out.2]
      obtain ⟨G0, h0, rfl⟩ := hu.path.slice
      obtain ⟨G1, h1, rfl⟩ := hu.over.slice
      obtain ⟨G2, h2, rfl⟩ := hu.asks.slice
      rw [← ND.out.1, ← ND.out.2.1, ← ND.out.2.2]
      have WG : Hid (WayV y1_ y1_.heap.size (.agg #[.slice G0 dn0 h0, .slice G1 dn1 h1, .slice G2 dn2 h2, .int .i64 x.near]) x) := Lib.hid ⟨_, _, _, rfl, by rw [ND.out.1, ND.out.2.1, ND.out.2.2]; exact hu.in_⟩
      have BY : Hid (Below w5.heap.size w5 y1_) := Lib.hid (BW.out.trans (b1.mono BW.out.size))
      have XX0 := heap_alloc_self y1_ (.cells #[.slice none 0 0, .slice none 0 0, .slice none 0 0, .int .i64 0] 36)
      have hz0 := below_setRow (below_new y1_ (.cells #[.slice none 0 0, .slice none 0 0, .slice none 0 0, .int .i64 0] 36)) (Nat.le_refl _) #[.slice G0 dn0 h0, .slice G1 dn1 h1, .slice G2 dn2 h2, .int .i64 x.near]
      have hz1 := setRow_heap (y1_.alloc (.cells #[.slice none 0 0, .slice none 0 0, .slice none 0 0, .int .i64 0] 36)) y1_.heap.size _ #[.slice G0 dn0 h0, .slice G1 dn1 h1, .slice G2 dn2 h2, .int .i64 x.near] 36 _ XX0
      clear hu b1 m0 m1 m2 m3 m4 m5 k4
      go_upto_region 19 with ((with_reducible show wpList _ _ _ (⟨none, _, _, _, _, _⟩ :: _) _ _); refine wpList_store_rowS rfl _ (.tmp 12) (.tmp 88) rfl y1_.heap.size rfl (c' := #[.slice G0 dn0 h0, .slice G1 dn1 h1, .slice G2 dn2 h2, .int .i64 x.near]) rfl XX0 infoWay4 rfl (by simp [Value.oneCell']) ?_)
      generalize (y1_.alloc (.cells #[.slice none 0 0, .slice none 0 0, .slice none 0 0, .int .i64 0] 36)).setRow y1_.heap.size #[.slice G0 dn0 h0, .slice G1 dn1 h1, .slice G2 dn2 h2, .int .i64 x.near] = y2_ at hz0 hz1 ⊢
      obtain ⟨p12, hp12⟩ : ∃ n, n = y1_.heap.size := ⟨_, rfl⟩
      rw [← hp12] at hz1 ⊢
      have X12 := Lib.hid hz1
      have BY2 : Hid (Below w5.heap.size w5 y2_) := Lib.hid (BY.out.trans (hz0.mono BY.out.size))
      have WG2 := Lib.hid ((WG.out.below hz0).more hz0.size)
      clear hz0 hz1 XX0 hp12 WG
      have X6z := Lib.hid ((BY2.out.block _ (heap_lt X6.out)).trans X6.out)
      obtain ⟨k0, k1, k2, k3⟩ := cell4_of X6z.out
      obtain ⟨m0, m1, m2, m3⟩ := cell4_of X12.out
      go_wp2_with fail
      refine (hp.same _ _ x x y2_ ((WD.out.below BY2.out).more BY2.out.size) WG2.out).mono ?_
      rintro e y3_ ⟨rfl, b3⟩
      rw [eqB_true rfl]
      have BL : Hid (Below w.heap.size w y3_) := Lib.hid ((BZ.out.trans (BY2.out.mono BZ.out.size)).trans (b3.mono (by have := BZ.out.size; have := BY2.out.size; omega)))
      clear b3
      go_wp2_with fail
      go_ret
      exact ⟨rfl, BL.out⟩
end Go.Proofs.Ytjgdgdccnbmbiaa
