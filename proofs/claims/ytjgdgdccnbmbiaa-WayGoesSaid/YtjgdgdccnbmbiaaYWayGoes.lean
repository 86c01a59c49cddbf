/-
  WayGoes: the walk, given the program's contracts.
  Conditions: none.
-/
import Derived.Test.YtjgdgdccnbmbiaaYGWayOne
import Derived.Test.YtjgdgdccnbmbiaaYWayLie
import Derived.Test.YtjgdgdccnbmbiaaYGWayPA
import Derived.Test.YtjgdgdccnbmbiaaYGPlnRefD
import Derived.Test.YtjgdgdccnbmbiaaYGTrkEq
import Derived.BigQuiet
set_option linter.unusedVariables false
set_option linter.unusedSimpArgs false
set_option maxRecDepth 100000
namespace Go.Proofs.Ytjgdgdccnbmbiaa
open Go.RowKit

theorem infoSg3b : (Try.prog.info? 64).map (·.size) = some 3 := by kernel_rfl
theorem infoSec3b : (Try.prog.info? 70).map (·.size) = some 3 := by kernel_rfl
set_option maxHeartbeats 16000000 in
theorem walk_way_goes (hp : WaySaid) (hs : PlanSaid) (ht : TrkSaid) (v : Value) (p : Pl) (id : Int) (w : World) (h : PlanV w w.heap.size v p) :
    Calls Try.prog 6 #[v, .int .i64 id] w fun e w' => e = .returned (.bool true) ∧ Below w.heap.size w w' := by
  obtain ⟨y2, y3, y4, y5, rfl, hin⟩ := h
  have HIN0 := Lib.hid hin
  obtain ⟨A2, c2, rfl, hcl2, hcm2⟩ := hin.secs.slice
  obtain ⟨A3, c3, rfl, -, -⟩ := hin.pts.slice
  obtain ⟨A4, c4, rfl, hcl4, hcm4⟩ := hin.sigs.slice
  obtain ⟨A5, c5, rfl, -, -⟩ := hin.routes.slice
  obtain ⟨n2, hn2⟩ : ∃ n, n = p.secs.length := ⟨_, rfl⟩
  obtain ⟨n3, hn3⟩ : ∃ n, n = p.pts.length := ⟨_, rfl⟩
  obtain ⟨n4, hn4⟩ : ∃ n, n = p.sigs.length := ⟨_, rfl⟩
  obtain ⟨n5, hn5⟩ : ∃ n, n = p.routes.length := ⟨_, rfl⟩
  have HN : Hid (n2 = p.secs.length ∧ n3 = p.pts.length ∧ n4 = p.sigs.length ∧ n5 = p.routes.length) := Lib.hid ⟨hn2, hn3, hn4, hn5⟩
  have HM4 : Hid (n4 ≤ 9223372036854775807) := Lib.hid (by rw [hn4]; unfold maxLen at hcm4; omega)
  have HP0 : Hid (PlanV w w.heap.size (.agg #[.int .i64 p.ver, .int .i64 p.par, .slice A2 n2 c2, .slice A3 n3 c3, .slice A4 n4 c4, .slice A5 n5 c5]) p) := Lib.hid ⟨_, _, _, _, rfl, by rw [hn2, hn3, hn4, hn5]; exact HIN0.out⟩
  rw [← hn2, ← hn3, ← hn4, ← hn5]
  clear hn2 hn3 hn4 hn5 HIN0 hin hcl2 hcm2 hcl4 hcm4
  have hq0 := heap_alloc_self w (.cells #[.int .i64 p.ver, .int .i64 p.par, .slice A2 n2 c2, .slice A3 n3 c3, .slice A4 n4 c4, .slice A5 n5 c5] 31)
  have hqb := below_new w (.cells #[.int .i64 p.ver, .int .i64 p.par, .slice A2 n2 c2, .slice A3 n3 c3, .slice A4 n4 c4, .slice A5 n5 c5] 31)
  go_enter Try.func6, Try.ntmps6
  go_upto_region 1 with fail
  generalize w.alloc (.cells #[.int .i64 p.ver, .int .i64 p.par, .slice A2 n2 c2, .slice A3 n3 c3, .slice A4 n4 c4, .slice A5 n5 c5] 31) = q at hq0 hqb ⊢
  have BZ := Lib.hid hqb
  have XP := Lib.hid hq0
  have HP := Lib.hid ((HP0.out.below hqb).more hqb.size)
  clear hq0 hqb HP0
  go_wp2_with fail
  refine (alive9 hp q).mono ?_
  rintro e w1 ⟨rfl, b1⟩
  have tBZ := BZ.out.trans (b1.mono BZ.out.size)
  have tXP := (b1.block _ (heap_lt XP.out)).trans XP.out
  have tHP := (HP.out.below b1).more b1.size
  clear BZ XP HP b1
  have BZ := Lib.hid tBZ
  have XP := Lib.hid tXP
  have HP := Lib.hid tHP
  clear tBZ tXP tHP
  obtain ⟨k0, k1, k2, k3, k4, k5⟩ := cell6_of XP.out
  go_wp2_with fail
  refine (rgreat8_any _ p w1 HP.out).mono ?_
  rintro e w2 ⟨⟨g, rfl, hg⟩, b2⟩
  clear k0 k1 k2 k3 k4 k5
  have tBZ := BZ.out.trans (b2.mono BZ.out.size)
  have tXP := (b2.block _ (heap_lt XP.out)).trans XP.out
  have tHP := (HP.out.below b2).more b2.size
  clear BZ XP HP b2
  have BZ := Lib.hid tBZ
  have XP := Lib.hid tXP
  have HP := Lib.hid tHP
  clear tBZ tXP tHP
  cases g with
  | true =>
    go_wp2_with fail
    go_ret
    exact ⟨rfl, BZ.out⟩
  | false =>
  have FEW := Lib.hid (hg rfl)
  clear hg
  obtain ⟨x, hx⟩ : ∃ x, x = wayV p id := ⟨_, rfl⟩
  obtain ⟨E, hE⟩ : ∃ x, x = wayE p id := ⟨_, rfl⟩
  obtain ⟨l, hl⟩ : ∃ x, x = leftV p id := ⟨_, rfl⟩
  obtain ⟨r, hr⟩ : ∃ x, x = elV p kRt p.routes id zRt := ⟨_, rfl⟩
  obtain ⟨E3, hE3⟩ : ∃ x, x = elE p kRt p.routes id := ⟨_, rfl⟩
  have XV := Lib.hid hx
  have XE := Lib.hid hE
  have XL := Lib.hid hl
  have RV := Lib.hid hr
  have RE := Lib.hid hE3
  clear hx hE hl hr hE3
  obtain ⟨k0, k1, k2, k3, k4, k5⟩ := cell6_of XP.out
  go_wp2_with fail
  refine (hp.of _ p id w2 HP.out).mono ?_
  rintro e w3 ⟨u0, u1, u2, rfl, hu, b3⟩
  rw [← XV.out] at hu
  rw [← XV.out, ← XE.out]
  obtain ⟨D0, dd0, rfl⟩ := hu.path.slice
  obtain ⟨D1, dd1, rfl⟩ := hu.over.slice
  obtain ⟨D2, dd2, rfl⟩ := hu.asks.slice
  obtain ⟨dn0, hD0⟩ : ∃ n, n = x.path.length := ⟨_, rfl⟩
  obtain ⟨dn1, hD1⟩ : ∃ n, n = x.over.length := ⟨_, rfl⟩
  obtain ⟨dn2, hD2⟩ : ∃ n, n = x.asks.length := ⟨_, rfl⟩
  have ND : Hid (dn0 = x.path.length ∧ dn1 = x.over.length ∧ dn2 = x.asks.length) := Lib.hid ⟨hD0, hD1, hD2⟩
  have WD : Hid (WayV w3 w3.heap.size (.agg #[.slice D0 dn0 dd0, .slice D1 dn1 dd1, .slice D2 dn2 dd2, .int .i64 x.near]) x) := Lib.hid ⟨_, _, _, rfl, by rw [hD0, hD1, hD2]; exact hu.in_⟩
  rw [← hD0, ← hD1, ← hD2]
  clear hu hD0 hD1 hD2 k0 k1 k2 k3 k4 k5
  have tBZ := BZ.out.trans (b3.mono BZ.out.size)
  have tXP := (b3.block _ (heap_lt XP.out)).trans XP.out
  have tHP := (HP.out.below b3).more b3.size
  clear BZ XP HP b3
  have BZ := Lib.hid tBZ
  have XP := Lib.hid tXP
  have HP := Lib.hid tHP
  clear tBZ tXP tHP
  have XX0 := heap_alloc_self w3 (.cells #[.slice none 0 0, .slice none 0 0, .slice none 0 0, .int .i64 0] 36)
  have hb1 := below_setRow (below_new w3 (.cells #[.slice none 0 0, .slice none 0 0, .slice none 0 0, .int .i64 0] 36)) (Nat.le_refl _) #[.slice D0 dn0 dd0, .slice D1 dn1 dd1, .slice D2 dn2 dd2, .int .i64 x.near]
  have hx1 := setRow_heap (w3.alloc (.cells #[.slice none 0 0, .slice none 0 0, .slice none 0 0, .int .i64 0] 36)) w3.heap.size _ #[.slice D0 dn0 dd0, .slice D1 dn1 dd1, .slice D2 dn2 dd2, .int .i64 x.near] 36 _ XX0
  go_upto_region 5 with ((with_reducible show wpList _ _ _ (⟨none, _, _, _, _, _⟩ :: _) _ _); refine wpList_store_rowS rfl _ (.tmp 6) (.tmp 38) rfl w3.heap.size rfl (c' := #[.slice D0 dn0 dd0, .slice D1 dn1 dd1, .slice D2 dn2 dd2, .int .i64 x.near]) rfl XX0 infoWay4 rfl (by simp [Value.oneCell']) ?_)
  generalize (w3.alloc (.cells #[.slice none 0 0, .slice none 0 0, .slice none 0 0, .int .i64 0] 36)).setRow w3.heap.size #[.slice D0 dn0 dd0, .slice D1 dn1 dd1, .slice D2 dn2 dd2, .int .i64 x.near] = q1 at hb1 hx1 ⊢
  obtain ⟨p6, hp1⟩ : ∃ n, n = w3.heap.size := ⟨_, rfl⟩
  rw [← hp1] at hx1 ⊢
  have X6 := Lib.hid hx1
  clear hx1 XX0 hp1
  have tBZ := BZ.out.trans (hb1.mono BZ.out.size)
  have tXP := (hb1.block _ (heap_lt XP.out)).trans XP.out
  have tHP := (HP.out.below hb1).more hb1.size
  have tWD := (WD.out.below hb1).more hb1.size
  clear BZ XP HP WD hb1
  have BZ := Lib.hid tBZ
  have XP := Lib.hid tXP
  have HP := Lib.hid tHP
  have WD := Lib.hid tWD
  clear tBZ tXP tHP tWD
  obtain ⟨k0, k1, k2, k3, k4, k5⟩ := cell6_of XP.out
  go_wp2_with fail
  refine (hp.outs _ p id q1 HP.out).mono ?_
  rintro e w4 ⟨u0, rfl, hu, b4⟩
  rw [← XL.out] at hu
  rw [← XE.out]
  obtain ⟨L0, ld0, rfl⟩ := hu.slice
  obtain ⟨ln0, hL0⟩ : ∃ n, n = l.length := ⟨_, rfl⟩
  have NL := Lib.hid hL0
  have WL : Hid (JoinsIn w4 w4.heap.size (.slice L0 ln0 ld0) l) := Lib.hid (by rw [hL0]; exact hu.in_ joinR_cells)
  rw [← hL0]
  clear hu hL0 k0 k1 k2 k3 k4 k5
  have tBZ := BZ.out.trans (b4.mono BZ.out.size)
  have tXP := (b4.block _ (heap_lt XP.out)).trans XP.out
  have tX6 := (b4.block _ (heap_lt X6.out)).trans X6.out
  have tHP := (HP.out.below b4).more b4.size
  have tWD := (WD.out.below b4).more b4.size
  clear BZ XP X6 HP WD b4
  have BZ := Lib.hid tBZ
  have XP := Lib.hid tXP
  have X6 := Lib.hid tX6
  have HP := Lib.hid tHP
  have WD := Lib.hid tWD
  clear tBZ tXP tX6 tHP tWD
  go_upto_region 6 with fail
  obtain ⟨k0, k1, k2, k3, k4, k5⟩ := cell6_of XP.out
  go_wp2_with fail
  refine (hs.route _ p id w4 HP.out).mono ?_
  rintro e w5 ⟨u3, u4, u5, rfl, hro, b5⟩
  rw [← RV.out] at hro
  rw [← RV.out, ← RE.out]
  obtain ⟨R3, g3, rfl⟩ := hro.path.slice
  obtain ⟨R4, g4, rfl⟩ := hro.over.slice
  obtain ⟨R5, g5, rfl⟩ := hro.flanks.slice
  obtain ⟨l3, hl3⟩ : ∃ n, n = r.path.length := ⟨_, rfl⟩
  obtain ⟨l4, hl4⟩ : ∃ n, n = r.over.length := ⟨_, rfl⟩
  obtain ⟨l5, hl5⟩ : ∃ n, n = r.flanks.length := ⟨_, rfl⟩
  have NR : Hid (l3 = r.path.length ∧ l4 = r.over.length ∧ l5 = r.flanks.length) := Lib.hid ⟨hl3, hl4, hl5⟩
  have HRV : Hid (RouteV w5 w5.heap.size (.agg #[.int .i64 r.id, .int .i64 r.entry, .int .i64 r.exit, .slice R3 l3 g3, .slice R4 l4 g4, .slice R5 l5 g5, .int .i64 r.timer]) r) := Lib.hid ⟨_, _, _, rfl, by rw [hl3, hl4, hl5]; exact hro.in_⟩
  rw [← hl3, ← hl4, ← hl5]
  clear hro hl3 hl4 hl5 k0 k1 k2 k3 k4 k5
  have tBZ := BZ.out.trans (b5.mono BZ.out.size)
  have tXP := (b5.block _ (heap_lt XP.out)).trans XP.out
  have tX6 := (b5.block _ (heap_lt X6.out)).trans X6.out
  have tHP := (HP.out.below b5).more b5.size
  have tWD := (WD.out.below b5).more b5.size
  have tWL := (WL.out.below joinR b5).more joinR b5.size
  clear BZ XP X6 HP WD WL b5
  have BZ := Lib.hid tBZ
  have XP := Lib.hid tXP
  have X6 := Lib.hid tX6
  have HP := Lib.hid tHP
  have WD := Lib.hid tWD
  have WL := Lib.hid tWL
  clear tBZ tXP tX6 tHP tWD tWL
  have XX0 := heap_alloc_self w5 (.cells #[.int .i64 0, .int .i64 0, .int .i64 0, .slice none 0 0, .slice none 0 0, .slice none 0 0, .int .i64 0] 60)
  have hb2 := below_setRow (below_new w5 (.cells #[.int .i64 0, .int .i64 0, .int .i64 0, .slice none 0 0, .slice none 0 0, .slice none 0 0, .int .i64 0] 60)) (Nat.le_refl _) #[.int .i64 r.id, .int .i64 r.entry, .int .i64 r.exit, .slice R3 l3 g3, .slice R4 l4 g4, .slice R5 l5 g5, .int .i64 r.timer]
  have hx2 := setRow_heap (w5.alloc (.cells #[.int .i64 0, .int .i64 0, .int .i64 0, .slice none 0 0, .slice none 0 0, .slice none 0 0, .int .i64 0] 60)) w5.heap.size _ #[.int .i64 r.id, .int .i64 r.entry, .int .i64 r.exit, .slice R3 l3 g3, .slice R4 l4 g4, .slice R5 l5 g5, .int .i64 r.timer] 60 _ XX0
  go_upto_region 7 with ((with_reducible show wpList _ _ _ (⟨none, _, _, _, _, _⟩ :: _) _ _); refine wpList_store_rowS rfl _ (.tmp 10) (.tmp 50) rfl w5.heap.size rfl (c' := #[.int .i64 r.id, .int .i64 r.entry, .int .i64 r.exit, .slice R3 l3 g3, .slice R4 l4 g4, .slice R5 l5 g5, .int .i64 r.timer]) rfl XX0 infoRoute7 rfl (by simp [Value.oneCell']) ?_)
  generalize (w5.alloc (.cells #[.int .i64 0, .int .i64 0, .int .i64 0, .slice none 0 0, .slice none 0 0, .slice none 0 0, .int .i64 0] 60)).setRow w5.heap.size #[.int .i64 r.id, .int .i64 r.entry, .int .i64 r.exit, .slice R3 l3 g3, .slice R4 l4 g4, .slice R5 l5 g5, .int .i64 r.timer] = q2 at hb2 hx2 ⊢
  obtain ⟨p10, hp2⟩ : ∃ n, n = w5.heap.size := ⟨_, rfl⟩
  rw [← hp2] at hx2 ⊢
  have X10 := Lib.hid hx2
  clear hx2 XX0 hp2
  have tBZ := BZ.out.trans (hb2.mono BZ.out.size)
  have tXP := (hb2.block _ (heap_lt XP.out)).trans XP.out
  have tX6 := (hb2.block _ (heap_lt X6.out)).trans X6.out
  have tHP := (HP.out.below hb2).more hb2.size
  have tWD := (WD.out.below hb2).more hb2.size
  have tHRV := (HRV.out.below hb2).more hb2.size
  have tWL := (WL.out.below joinR hb2).more joinR hb2.size
  clear BZ XP X6 HP WD HRV WL hb2
  have BZ := Lib.hid tBZ
  have XP := Lib.hid tXP
  have X6 := Lib.hid tX6
  have HP := Lib.hid tHP
  have WD := Lib.hid tWD
  have HRV := Lib.hid tHRV
  have WL := Lib.hid tWL
  clear tBZ tXP tX6 tHP tWD tHRV tWL
  by_cases h0 : E = 0
  rotate_left
  · have d0 : (E != 0) = true := by simpa using h0
    obtain rfl : dn0 = 0 := by
      have h1 := XV.out
      rw [wayV, if_neg (by rw [← XE.out]; exact h0)] at h1
      rw [ND.out.1, h1]; rfl
    obtain rfl : ln0 = 0 := by
      have h1 := XL.out
      rw [leftV, if_neg (by rw [← XE.out]; exact h0)] at h1
      rw [NL.out, h1]; rfl
    clear h0
    obtain ⟨k0, k1, k2, k3⟩ := cell4_of X6.out
    go_wp2_with fail
    go_ret
    exact ⟨rfl, BZ.out⟩
  subst h0
  obtain ⟨kr, hkr, hat, he3, hrv, hri, hhg, hxv, hxl⟩ := way_zero XE.out.symm
  have HRE : Hid (r = p.routes[kr]) := Lib.hid (RV.out.trans hrv)
  have HRI : Hid (RouteIn p r) := Lib.hid (by rw [HRE.out]; exact hri)
  have HHG : Hid (Hangs p r) := Lib.hid (by rw [HRE.out]; exact hhg)
  have HXV : Hid (x = wayR p r) := Lib.hid (by rw [XV.out, HRE.out]; exact hxv)
  have HXL : Hid (l = leftL p r (allR r).length) := Lib.hid (by rw [XL.out, HRE.out]; exact hxl)
  have XPO : Hid (x.path = r.path ∧ x.over = r.over) := Lib.hid (by rw [HXV.out]; exact ⟨rfl, rfl⟩)
  obtain rfl : E3 = 0 := RE.out.trans he3
  obtain ⟨kg, hkg, hatg, hsg, ms, hms, hats, hss, hn0, hn1⟩ := HRI.out.entry
  obtain ⟨gid, sc, en, hge⟩ : ∃ a b c, p.sigs[kg] = (a, b, c) := ⟨_, _, _, rfl⟩
  rw [hge] at hats hss hn0 hn1
  have HNEAR : Hid (x.near = sc) := Lib.hid (by rw [HXV.out]; show (sigN p r.entry).2.1 = sc; rw [hsg, hge])
  have HSGV : Hid (elE p kSg p.sigs r.entry = 0 ∧ elV p kSg p.sigs r.entry (0, 0, 0) = (gid, sc, en)) := Lib.hid (by
    obtain ⟨h1, h2⟩ := elE_some (z := ((0, 0, 0) : Sg)) (planMay_true HRI.out.plan) hkg hatg
    exact ⟨h1, h2.trans hge⟩)
  obtain ⟨_, hmid⟩ := atS_of hats
  obtain ⟨en', hen⟩ : ∃ n : Nat, en = (n : Int) := ⟨en.toNat, by have h1 : 0 ≤ en := hn0; omega⟩
  have hen1 : en' < p.secs[ms].2.2.length := by have h1 : en < p.secs[ms].2.2.length := hn1; omega
  obtain ⟨u0_, u1_, hju⟩ : ∃ a b, p.secs[ms].2.2.getD en' (0, 0) = (a, b) := ⟨_, _, rfl⟩
  have HNX0 : Hid (nextE7 p.secs sc en = 0 ∧ nextJ7 p.secs sc en = (u0_, u1_) ∧ comesN p r 0 = some (u0_, u1_)) := Lib.hid (by
    obtain ⟨h1, h2⟩ := next_mem HRI.out.plan.secs hms hen1
    rw [hmid] at h1 h2
    refine ⟨by rw [hen]; exact h1, by rw [hen, ← hju]; exact h2, ?_⟩
    rw [comesN, hsg, hge]
    show some ((secN p sc).2.2.getD en.toNat (0, 0)) = _
    rw [hss, hen, Int.toNat_natCast, hju])
  clear hat he3 hrv hri hhg hxv hxl hatg hsg hats hss hn0 hn1 hge hju hen1 hmid hen
  obtain ⟨m0, m1, m2, m3, m4, m5, m6⟩ := cell7_of X10.out
  obtain ⟨k0, k1, k2, k3, k4, k5⟩ := cell6_of XP.out
  go_wp2_with fail
  refine (hs.signal _ p r.entry q2 HP.out).mono ?_
  rintro e w6 ⟨rfl, b6⟩
  rw [HSGV.out.1, HSGV.out.2]
  clear k0 k1 k2 k3 k4 k5 m0 m1 m2 m3 m4 m5 m6
  have tBZ := BZ.out.trans (b6.mono BZ.out.size)
  have tXP := (b6.block _ (heap_lt XP.out)).trans XP.out
  have tX6 := (b6.block _ (heap_lt X6.out)).trans X6.out
  have tX10 := (b6.block _ (heap_lt X10.out)).trans X10.out
  have tHP := (HP.out.below b6).more b6.size
  have tWD := (WD.out.below b6).more b6.size
  have tHRV := (HRV.out.below b6).more b6.size
  have tWL := (WL.out.below joinR b6).more joinR b6.size
  clear BZ XP X6 X10 HP WD HRV WL b6
  have BZ := Lib.hid tBZ
  have XP := Lib.hid tXP
  have X6 := Lib.hid tX6
  have X10 := Lib.hid tX10
  have HP := Lib.hid tHP
  have WD := Lib.hid tWD
  have HRV := Lib.hid tHRV
  have WL := Lib.hid tWL
  clear tBZ tXP tX6 tX10 tHP tWD tHRV tWL
  have XX0 := heap_alloc_self w6 (.cells #[.int .i64 0, .int .i64 0, .int .i64 0] 64)
  have hb3 := below_setRow (below_new w6 (.cells #[.int .i64 0, .int .i64 0, .int .i64 0] 64)) (Nat.le_refl _) #[.int .i64 gid, .int .i64 sc, .int .i64 en]
  have hx3 := setRow_heap (w6.alloc (.cells #[.int .i64 0, .int .i64 0, .int .i64 0] 64)) w6.heap.size _ #[.int .i64 gid, .int .i64 sc, .int .i64 en] 64 _ XX0
  go_upto_region 10 with ((with_reducible show wpList _ _ _ (⟨none, _, _, _, _, _⟩ :: _) _ _); refine wpList_store_rowS rfl _ (.tmp 12) (.tmp 73) rfl w6.heap.size rfl (c' := #[.int .i64 gid, .int .i64 sc, .int .i64 en]) rfl XX0 infoSg3b rfl (by simp [Value.oneCell']) ?_)
  generalize (w6.alloc (.cells #[.int .i64 0, .int .i64 0, .int .i64 0] 64)).setRow w6.heap.size #[.int .i64 gid, .int .i64 sc, .int .i64 en] = q3 at hb3 hx3 ⊢
  obtain ⟨p12, hp3⟩ : ∃ n, n = w6.heap.size := ⟨_, rfl⟩
  rw [← hp3] at hx3 ⊢
  have X12 := Lib.hid hx3
  clear hx3 XX0 hp3
  have tBZ := BZ.out.trans (hb3.mono BZ.out.size)
  have tXP := (hb3.block _ (heap_lt XP.out)).trans XP.out
  have tX6 := (hb3.block _ (heap_lt X6.out)).trans X6.out
  have tX10 := (hb3.block _ (heap_lt X10.out)).trans X10.out
  have tHP := (HP.out.below hb3).more hb3.size
  have tWD := (WD.out.below hb3).more hb3.size
  have tHRV := (HRV.out.below hb3).more hb3.size
  have tWL := (WL.out.below joinR hb3).more joinR hb3.size
  clear BZ XP X6 X10 HP WD HRV WL hb3
  have BZ := Lib.hid tBZ
  have XP := Lib.hid tXP
  have X6 := Lib.hid tX6
  have X10 := Lib.hid tX10
  have HP := Lib.hid tHP
  have WD := Lib.hid tWD
  have HRV := Lib.hid tHRV
  have WL := Lib.hid tWL
  clear tBZ tXP tX6 tX10 tHP tWD tHRV tWL
  have SS : Hid (SectsIn q3 q3.heap.size (.slice A2 n2 c2) p.secs) := Lib.hid (by
    obtain ⟨_, _, _, _, e, hi⟩ := HP.out
    cases e
    exact hi.secs)
  obtain ⟨m0, m1, m2⟩ := cell3_of X12.out
  obtain ⟨k0, k1, k2, k3, k4, k5⟩ := cell6_of XP.out
  go_wp2_with fail
  refine (ht.next _ p.secs sc en q3 SS.out).mono ?_
  rintro e w7 ⟨rfl, b7⟩
  rw [HNX0.out.1, HNX0.out.2.1]
  clear k0 k1 k2 k3 k4 k5 m0 m1 m2 SS
  have tBZ := BZ.out.trans (b7.mono BZ.out.size)
  have tXP := (b7.block _ (heap_lt XP.out)).trans XP.out
  have tX6 := (b7.block _ (heap_lt X6.out)).trans X6.out
  have tX10 := (b7.block _ (heap_lt X10.out)).trans X10.out
  have tX12 := (b7.block _ (heap_lt X12.out)).trans X12.out
  have tHP := (HP.out.below b7).more b7.size
  have tWD := (WD.out.below b7).more b7.size
  have tHRV := (HRV.out.below b7).more b7.size
  have tWL := (WL.out.below joinR b7).more joinR b7.size
  clear BZ XP X6 X10 X12 HP WD HRV WL b7
  have BZ := Lib.hid tBZ
  have XP := Lib.hid tXP
  have X6 := Lib.hid tX6
  have X10 := Lib.hid tX10
  have X12 := Lib.hid tX12
  have HP := Lib.hid tHP
  have WD := Lib.hid tWD
  have HRV := Lib.hid tHRV
  have WL := Lib.hid tWL
  clear tBZ tXP tX6 tX10 tX12 tHP tWD tHRV tWL
  obtain ⟨wM, hwM⟩ : ∃ u, u = w7 := ⟨_, rfl⟩
  have MXP : Hid (wM.heap[w.heap.size]? = some (.cells #[.int .i64 p.ver, .int .i64 p.par, .slice A2 n2 c2, .slice A3 n3 c3, .slice A4 n4 c4, .slice A5 n5 c5] 31 (0, 0))) := Lib.hid (by rw [hwM]; exact XP.out)
  have MX6 : Hid (wM.heap[p6]? = some (.cells #[.slice D0 dn0 dd0, .slice D1 dn1 dd1, .slice D2 dn2 dd2, .int .i64 x.near] 36 (0, 0))) := Lib.hid (by rw [hwM]; exact X6.out)
  have MX10 : Hid (wM.heap[p10]? = some (.cells #[.int .i64 r.id, .int .i64 r.entry, .int .i64 r.exit, .slice R3 l3 g3, .slice R4 l4 g4, .slice R5 l5 g5, .int .i64 r.timer] 60 (0, 0))) := Lib.hid (by rw [hwM]; exact X10.out)
  have MHP : Hid (PlanV wM wM.heap.size (.agg #[.int .i64 p.ver, .int .i64 p.par, .slice A2 n2 c2, .slice A3 n3 c3, .slice A4 n4 c4, .slice A5 n5 c5]) p) := Lib.hid (by rw [hwM]; exact HP.out)
  have MWD : Hid (WayV wM wM.heap.size (.agg #[.slice D0 dn0 dd0, .slice D1 dn1 dd1, .slice D2 dn2 dd2, .int .i64 x.near]) x) := Lib.hid (by rw [hwM]; exact WD.out)
  have MWL : Hid (JoinsIn wM wM.heap.size (.slice L0 ln0 ld0) l) := Lib.hid (by rw [hwM]; exact WL.out)
  have MSS : Hid (SectsIn wM wM.heap.size (.slice A2 n2 c2) p.secs) := Lib.hid (by
    obtain ⟨_, _, _, _, e, hi⟩ := MHP.out
    cases e
    exact hi.secs)
  have MBZ : Hid (Below w.heap.size w wM) := Lib.hid (by rw [hwM]; exact BZ.out)
  have XX0 := heap_alloc_self w7 (.cells #[.int .i64 0, .int .i64 0] 41)
  have hz0 := below_setRow (below_new w7 (.cells #[.int .i64 0, .int .i64 0] 41)) (Nat.le_refl _) #[.int .i64 u0_, .int .i64 u1_]
  have hz1 := setRow_heap (w7.alloc (.cells #[.int .i64 0, .int .i64 0] 41)) w7.heap.size _ #[.int .i64 u0_, .int .i64 u1_] 41 _ XX0
  go_upto_region 11 with ((with_reducible show wpList _ _ _ (⟨none, _, _, _, _, _⟩ :: _) _ _); refine wpList_store_rowS rfl _ (.tmp 14) (.tmp 83) rfl w7.heap.size rfl (c' := #[.int .i64 u0_, .int .i64 u1_]) rfl XX0 infoJoin2 rfl (by simp [Value.oneCell']) ?_)
  generalize (w7.alloc (.cells #[.int .i64 0, .int .i64 0] 41)).setRow w7.heap.size #[.int .i64 u0_, .int .i64 u1_] = v0 at hz0 hz1 ⊢
  obtain ⟨p14, hp14⟩ : ∃ n, n = w7.heap.size := ⟨_, rfl⟩
  rw [← hp14] at hz1 ⊢
  have MB0 : Hid (Below wM.heap.size wM v0) := Lib.hid (by rw [hwM]; exact hz0)
  have PL14 : Hid (wM.heap.size ≤ p14 ∧ p14 < v0.heap.size) := Lib.hid ⟨by rw [hwM, hp14]; exact Nat.le_refl _, heap_lt hz1⟩
  have X14 := Lib.hid hz1
  clear hz1 XX0 hp14 hwM
  have tBZ := BZ.out.trans (hz0.mono BZ.out.size)
  have tXP := (hz0.block _ (heap_lt XP.out)).trans XP.out
  have tX6 := (hz0.block _ (heap_lt X6.out)).trans X6.out
  have tX10 := (hz0.block _ (heap_lt X10.out)).trans X10.out
  have tX12 := (hz0.block _ (heap_lt X12.out)).trans X12.out
  have tHP := (HP.out.below hz0).more hz0.size
  have tWD := (WD.out.below hz0).more hz0.size
  have tHRV := (HRV.out.below hz0).more hz0.size
  have tWL := (WL.out.below joinR hz0).more joinR hz0.size
  clear BZ XP X6 X10 X12 HP WD HRV WL hz0
  have BZ := Lib.hid tBZ
  have XP := Lib.hid tXP
  have X6 := Lib.hid tX6
  have X10 := Lib.hid tX10
  have X12 := Lib.hid tX12
  have HP := Lib.hid tHP
  have WD := Lib.hid tWD
  have HRV := Lib.hid tHRV
  have WL := Lib.hid tWL
  clear tBZ tXP tX6 tX10 tX12 tHP tWD tHRV tWL
  have hnear : (x.near != sc) = false := by rw [HNEAR.out]; simp
  obtain ⟨k0, k1, k2, k3⟩ := cell4_of X6.out
  obtain ⟨m0, m1, m2⟩ := cell3_of X12.out
  go_upto_region 13 with fail
  clear hnear k0 k1 k2 k3 m0 m1 m2
  have HD0 : Hid (IntsIn v0 v0.heap.size (.slice D0 dn0 dd0) r.path) := Lib.hid (by
    obtain ⟨_, _, _, e, hi⟩ := WD.out
    cases e
    exact XPO.out.1 ▸ hi.path)
  have HD1 : Hid (IntsIn v0 v0.heap.size (.slice D1 dn1 dd1) r.over) := Lib.hid (by
    obtain ⟨_, _, _, e, hi⟩ := WD.out
    cases e
    exact XPO.out.2 ▸ hi.over)
  have NPO : Hid (dn0 = r.path.length ∧ dn1 = r.over.length) := Lib.hid (by rw [ND.out.1, ND.out.2.1, XPO.out.1, XPO.out.2]; exact ⟨rfl, rfl⟩)
  have NLE : Hid (dn0 + dn1 ≤ 8) := Lib.hid (by have := HRI.out.len; have := NPO.out; omega)
  obtain ⟨i0, hii, hz0, hzz, hz2⟩ := info_parts infoInt
  have I0 := Lib.hid hii
  have I1 := Lib.hid hz0
  have I2 := Lib.hid hzz
  have I3 := Lib.hid hz2
  clear hii hz0 hzz hz2
  refine wp_region_held_drew (S := fun v => Below v0.heap.size v0 v) (by kernel_rfl) (Below.refl v0.heap.size v0).drew (fun hHeld => ?_)
  refine tkH 1 ?_ rfl hHeld ?_ ?_
  rotate_left
  · intro w' hSw; go_simp; try with_reducible rfl
  simp only [zn, Act.put]
  refine tkH 2 ?_ rfl hHeld ?_ ?_
  rotate_left
  · intro w' hSw; obtain ⟨cw0, cw1, cw2, cw3⟩ := cell4_of ((hSw.block _ (heap_lt X6.out)).trans X6.out); go_simp; try with_reducible rfl
  simp only [zn, Act.put]
  refine tkH 4 ?_ rfl hHeld ?_ ?_
  rotate_left
  · intro w' hSw; go_simp; try with_reducible rfl
  simp only [zn, Act.put]
  refine tkH 5 ?_ rfl hHeld ?_ ?_
  rotate_left
  · intro w' hSw; obtain ⟨cw0, cw1, cw2, cw3⟩ := cell4_of ((hSw.block _ (heap_lt X6.out)).trans X6.out); go_simp; try with_reducible rfl
  simp only [zn, Act.put]
  have tb := (Below.refl v0.heap.size v0).drew
  generalize v0.drew = qa at tb hHeld ⊢
  have HB := Lib.hid tb
  clear tb
  refine wpAnyH_ready (rs := [0]) (by kernel_rfl) (by simp) ?_
  refine AllReadyH.cons rfl (fun K hK => ?_) AllReadyH.nil
  go_simp
  have tb := HB.out.alloc HB.out.size (.cells #[] 3)
  have t0 := heap_alloc_self qa (.cells #[] 3)
  refine hK.out _ _ ?_ (fun hHeld => ?_)
  · exact tb
  clear hK K
  try simp only [zn, Act.put]
  generalize qa.alloc (.cells #[] 3) = qb at tb t0 hHeld ⊢
  obtain ⟨pb, hpb⟩ : ∃ n, n = qa.heap.size := ⟨_, rfl⟩
  rw [← hpb] at t0 ⊢
  have PB : Hid (v0.heap.size ≤ pb) := Lib.hid (by rw [hpb]; exact HB.out.size)
  have T0 := Lib.hid t0
  have HB2 := Lib.hid tb
  clear tb t0 hpb HB
  obtain ⟨Yss, hy1, hy2, hy3, hy4, hy5, hy6, hy7⟩ := ((HD0.out.below intR HB2.out).more intR HB2.out.size).cells (by omega) intR_full intR_cells
  have Y1 := Lib.hid hy1
  have Y2 := Lib.hid hy2
  have Y3 := Lib.hid hy3
  have Y4 := Lib.hid hy4
  have Y6 := Lib.hid hy6
  have Y7 := Lib.hid hy7
  have YL : Hid (Yss.flatten.length = dn0 * 1) := Lib.hid (by rw [flat_length _ hy2, hy1, NPO.out.1])
  clear hy1 hy2 hy3 hy4 hy5 hy6 hy7
  refine wpAnyH_ready (rs := [3]) (by kernel_rfl) (by simp) ?_
  refine AllReadyH.cons rfl (fun K hK => ?_) AllReadyH.nil
  rw [if_pos (by rfl)]
  refine wp_append_list (.tmp 106) (.tmp 108) _ rfl Try.underlying33 I0.out I1.out rfl I2.out (by decide) I3.out (by decide) rfl (base := v0.heap.size) (n := 0) (ys := []) ⟨rfl, .inr ⟨_, _, _, rfl, PB.out, T0.out, Nat.zero_le _, Nat.zero_le _, rfl, rfl⟩⟩ rfl YL.out Y4.out Y7.out Y6.out (by have := NLE.out; omega) HB2.out.size ?_
  intro v4 w4_ hown4 hgrow4
  rw [Nat.zero_add, List.nil_append] at hown4
  obtain ⟨B4, d4, rfl⟩ := own_sliceN hown4
  have O4 := Lib.hid hown4
  have G4 : Hid (Below v0.heap.size v0 w4_) := Lib.hid (HB2.out.grown hgrow4 HB2.out.size (fun k hk => by cases hk; exact PB.out))
  clear hown4 hgrow4
  refine hK.out _ _ ?_ (fun hHeld => ?_)
  · exact G4.out
  clear hK K
  try simp only [zn, Act.put]
  obtain ⟨Zss, hy1, hy2, hy3, hy4, hy5, hy6, hy7⟩ := ((HD1.out.below intR G4.out).more intR G4.out.size).cells (by omega) intR_full intR_cells
  have Z1 := Lib.hid hy1
  have Z2 := Lib.hid hy2
  have Z3 := Lib.hid hy3
  have Z4 := Lib.hid hy4
  have Z6 := Lib.hid hy6
  have Z7 := Lib.hid hy7
  have ZL : Hid (Zss.flatten.length = dn1 * 1) := Lib.hid (by rw [flat_length _ hy2, hy1, NPO.out.2])
  clear hy1 hy2 hy3 hy4 hy5 hy6 hy7
  refine wpAnyH_ready (rs := [6]) (by kernel_rfl) (by simp) ?_
  refine AllReadyH.cons rfl (fun K hK => ?_) AllReadyH.nil
  rw [if_pos (by rfl)]
  refine wp_append_list (.tmp 109) (.tmp 111) _ rfl Try.underlying33 I0.out I1.out rfl I2.out (by decide) I3.out (by decide) rfl O4.out rfl ZL.out Z4.out Z7.out Z6.out (by have := NLE.out; omega) G4.out.size ?_
  intro v5 w5_ hown5 hgrow5
  have OC := own_cat (R := IntR) (sz := 1) intF hown5 (by rw [NPO.out.1, NPO.out.2]) Y1.out Z1.out Y2.out Z2.out Y3.out Z3.out (by have := NLE.out; unfold maxLen; omega)
  obtain ⟨AL, cL, rfl⟩ := own_sliceN hown5
  obtain ⟨nl, hnl⟩ : ∃ n, n = dn0 + dn1 := ⟨_, rfl⟩
  rw [← hnl] at OC ⊢
  have HNL : Hid (nl = (allR r).length ∧ nl = dn0 + dn1 ∧ nl ≤ 8) := Lib.hid (by have := NPO.out; have := HRI.out.len; omega)
  have ALL : Hid (IntsIn w5_ w5_.heap.size (.slice AL nl cL) (allR r)) := Lib.hid (OC.in_ intR_cells)
  have G5 : Hid (Below v0.heap.size v0 w5_) := Lib.hid (G4.out.grown hgrow5 G4.out.size (own_ge O4.out))
  have ALLO : Hid (IntsOwn w5_ v0.heap.size (.slice AL nl cL) (allR r)) := Lib.hid OC
  have MB5 : Hid (Below wM.heap.size wM w5_) := Lib.hid (MB0.out.trans (G5.out.mono (by have := PL14.out; omega)))
  clear OC hown5 hgrow5 hnl
  refine hK.out _ _ ?_ (fun hHeld => ?_)
  · exact G5.out
  clear hK K
  try simp only [zn, Act.put]
  refine tkH 7 ?_ rfl hHeld ?_ ?_
  rotate_left
  · intro w' hSw; go_simp; try with_reducible rfl
  simp only [zn, Act.put]
  refine wpAnyH_done (by kernel_rfl) ?_ _
  have bS := G5.out
  clear G5 G4 O4 HB2 T0 PB Y1 Y2 Y3 Y4 Y6 Y7 YL Z1 Z2 Z3 Z4 Z6 Z7 ZL I0 I1 I2 I3 HD0 HD1
  have tBZ := BZ.out.trans (bS.mono BZ.out.size)
  have tXP := (bS.block _ (heap_lt XP.out)).trans XP.out
  have tX6 := (bS.block _ (heap_lt X6.out)).trans X6.out
  have tX10 := (bS.block _ (heap_lt X10.out)).trans X10.out
  have tX12 := (bS.block _ (heap_lt X12.out)).trans X12.out
  have tX14 := (bS.block _ (heap_lt X14.out)).trans X14.out
  have tHP := (HP.out.below bS).more bS.size
  have tWD := (WD.out.below bS).more bS.size
  have tHRV := (HRV.out.below bS).more bS.size
  have tWL := (WL.out.below joinR bS).more joinR bS.size
  clear BZ XP X6 X10 X12 X14 HP WD HRV WL bS
  have BZ := Lib.hid tBZ
  have XP := Lib.hid tXP
  have X6 := Lib.hid tX6
  have X10 := Lib.hid tX10
  have X12 := Lib.hid tX12
  have X14 := Lib.hid tX14
  have HP := Lib.hid tHP
  have WD := Lib.hid tWD
  have HRV := Lib.hid tHRV
  have WL := Lib.hid tWL
  clear tBZ tXP tX6 tX10 tX12 tX14 tHP tWD tHRV tWL
  go_upto_region 14 with fail
  have OUTP : Hid (l.length = outsN r ∧ (∀ i, i < outsN r → lastB r i = false) ∧ (∀ i (hi : i < l.length), l[i] = ((allR r).getD i 0, outA p r i))) := Lib.hid (by rw [HXL.out]; exact outs_parts HRI.out HHG.out)
  have HOV : Hid (dn1 = r.over.length ∧ dn0 = r.path.length ∧ 1 ≤ dn0) := Lib.hid (by rw [ND.out.1, ND.out.2.1, XPO.out.1, XPO.out.2]; exact ⟨rfl, rfl, HRI.out.route.path.1⟩)
  have hnl8 : nl ≤ 8 := HNL.out.2.2
  go_wp2_with fail
  go_loopw [17] (fun s17 wr => ∃ (a : Nat) (t0 t1 : Int), a ≤ nl ∧ s17 = .int .i64 a ∧ (a < nl → comesN p r a = some (t0, t1)) ∧ (0 < r.over.length → a + 1 ≤ nl) ∧ wr.heap[p14]? = some (.cells #[.int .i64 t0, .int .i64 t1] 41 (0, 0)) ∧ IntsOwn wr v0.heap.size (.slice AL nl cL) (allR r) ∧ Below wM.heap.size wM wr) (fun s17 _ => nl - (intOf s17).toNat)
  case atStart => exact ⟨0, u0_, u1_, by omega, by go_num, fun _ => HNX0.out.2.2, fun _ => by have := HRI.out.len; have := HNL.out; omega, X14.out, ALLO.out, MB5.out⟩
  case round =>
    clear XP X6 X10 X12 X14 HP WD HRV WL ALL ALLO MB5 MB0 BZ
    obtain ⟨a, t0, t1, hi, rfl, hcm, hov, hx14, hal, hb⟩ := hrel
    have HCM := Lib.hid hcm
    have HAO := Lib.hid hov
    have X14 := Lib.hid hx14
    have ALLO := Lib.hid hal
    have BW := Lib.hid hb
    clear hcm hov hx14 hal hb
    by_cases hlt : a < nl
    · have hlt' : (a : Int) < nl := by omega
      have ha : a < (allR r).length := by rw [← HNL.out.1]; exact hlt
      obtain ⟨jj, hc, hj, hout⟩ := HHG.out a ha
      have hcc := HCM.out hlt
      rw [hc] at hcc
      injection hcc with hcc
      subst hcc
      obtain ⟨z, hz⟩ : ∃ z, z = (allR r).getD a 0 := ⟨_, rfl⟩
      obtain rfl : t0 = z := hj.trans hz.symm
      have HH : Hid (HereIn p r a (t0, t1)) := Lib.hid ⟨hc, hj⟩
      obtain ⟨ks, hks, hat, hsk, hidk⟩ := HRI.out.sec ha
      obtain ⟨sid, spt, es, hse⟩ : ∃ a b c, p.secs[ks] = (a, b, c) := ⟨_, _, _, rfl⟩
      obtain rfl : sid = t0 := by rw [hse] at hidk; exact hidk.trans hz.symm
      have HSE : Hid (p.secs[ks] = (sid, spt, es)) := Lib.hid hse
      have HSN : Hid (secN p ((allR r).getD a 0) = (sid, spt, es)) := Lib.hid (hsk.trans hse)
      have HFD : Hid (findE7 p.secs sid = 0 ∧ findS7 p.secs sid = (sid, spt, es)) := Lib.hid (by
        obtain ⟨h1, h2⟩ := find_mem HRI.out.plan.secs hks
        rw [hse] at h1 h2
        exact ⟨h1, h2⟩)
      have HZ := Lib.hid hz
      have HA := Lib.hid ha
      have HKS := Lib.hid hks
      have HO := Lib.hid hout
      have HC := Lib.hid hc
      obtain ⟨bl, ofl, e5, hbl, hd0⟩ := (ALLO.out.in_ intR_cells).at ha
      cases e5
      have hl1 : wr.cell? ⟨bl, ofl + a, none⟩ = some (.int .i64 sid) := by rw [hz, List.getD, List.getElem?_eq_getElem ha]; simpa [IntR] using hd0
      have HL1 := Lib.hid hl1
      obtain ⟨ne, hne⟩ : ∃ n, n = es.length := ⟨_, rfl⟩
      have HNE := Lib.hid hne
      obtain ⟨x0, x1⟩ := cell2_of X14.out
      have BD : Hid (∀ nq, Below wr.heap.size wr (wr.drewN nq)) := Lib.hid (fun nq => drewN_below wr nq)
      clear hz hat hsk hidk hse hout hc hj hbl hd0 hne
      go_upto_region 17 with fail
      go_quiet (fail)
      have hdb := BD.out nq
      generalize wr.drewN nq = v1 at hdb ⊢
      have B1 := Lib.hid hdb
      have BM1 : Hid (Below wM.heap.size wM v1) := Lib.hid (BW.out.trans (hdb.mono BW.out.size))
      clear hdb BD hl1 x0 x1
      have hl1 : v1.cell? ⟨bl, ofl + a, none⟩ = some (.int .i64 sid) := (B1.out.cell (cell_lt HL1.out)).trans HL1.out
      have XP1 := Lib.hid ((BM1.out.block _ (heap_lt MXP.out)).trans MXP.out)
      have SS1 := Lib.hid ((MSS.out.below secR_ BM1.out).more secR_ BM1.out.size)
      go_upto_region 19 with fail
      go_cut [18, 19] from 126 to 135 (fun s18 s19 wx => ∃ p18 U uc, s18 = .pointer (some ⟨p18, 0, none⟩) ∧ s19 = .int .i64 0 ∧ wx.heap[p18]? = some (.cells #[.int .i64 sid, .int .i64 spt, .slice U ne uc] 70 (0, 0)) ∧ JoinsIn wx wx.heap.size (.slice U ne uc) es ∧ Below v1.heap.size v1 wx)
      case first =>
        refine wp_region_held_drew (S := fun v => Below v1.heap.size v1 v) (by kernel_rfl) (Below.refl v1.heap.size v1).drew (fun hHeld => ?_)
        refine tkH 0 ?_ rfl hHeld ?_ ?_
        rotate_left
        · intro w' hSw; go_simp; try with_reducible rfl
        simp only [zn, Act.put]
        refine tkH 1 ?_ rfl hHeld ?_ ?_
        rotate_left
        · intro w' hSw; obtain ⟨cv0, cv1, cv2, cv3, cv4, cv5⟩ := cell6_of ((hSw.block _ (heap_lt XP1.out)).trans XP1.out); go_simp; try with_reducible rfl
        simp only [zn, Act.put]
        refine tkH 2 ?_ rfl hHeld ?_ ?_
        rotate_left
        · intro w' hSw; go_simp; try with_reducible rfl
        simp only [zn, Act.put]
        refine tkH 3 ?_ rfl hHeld ?_ ?_
        rotate_left
        · intro w' hSw; go_simp; try with_reducible rfl
        simp only [zn, Act.put]
        refine tkH 4 ?_ rfl hHeld ?_ ?_
        rotate_left
        · intro w' hSw; go_simp; try with_reducible rfl
        simp only [zn, Act.put]
        refine tkH 5 ?_ rfl hHeld ?_ ?_
        rotate_left
        · intro w' hSw; have cl := (hSw.cell (cell_lt hl1)).trans hl1; go_simp; try with_reducible rfl
        simp only [zn, Act.put]
        have tb := (Below.refl v1.heap.size v1).drew
        generalize v1.drew = q0_ at tb hHeld ⊢
        have HB := Lib.hid tb
        clear tb
        refine wpAnyH_ready (rs := [6, 10]) (by kernel_rfl) (by simp) ?_
        refine AllReadyH.cons rfl (fun K hK => ?_) (AllReadyH.cons rfl (fun K hK => ?_) AllReadyH.nil)
        · go_simp
          refine (ht.find _ p.secs sid q0_ ((SS1.out.below secR_ HB.out).more secR_ HB.out.size)).mono ?_
          rintro e qA_ ⟨u_, rfl, hu_, b⟩
          rw [HFD.out.2] at hu_
          rw [HFD.out.1, HFD.out.2]
          obtain ⟨U, uc, rfl⟩ := hu_.slice
          have hu0 := hu_.mono (Nat.zero_le _)
          clear hu_
          dsimp only at hu0 ⊢
          rw [← HNE.out] at hu0 ⊢
          have HB' := Lib.hid (HB.out.trans (b.mono HB.out.size))
          have OU : Hid (JoinsOwn qA_ 0 (.slice U ne uc) es) := Lib.hid hu0
          clear hu0
          clear HB
          have HB := HB'
          clear HB' b
          try go_wp2_with fail
          refine hK.out _ _ ?_ (fun hHeld => ?_)
          · exact HB.out
          clear hK K
          try simp only [zn, Act.put]
          refine tkH 7 ?_ rfl hHeld ?_ ?_
          rotate_left
          · intro w' hSw; go_simp; try with_reducible rfl
          simp only [zn, Act.put]
          refine tkH 8 ?_ rfl hHeld ?_ ?_
          rotate_left
          · intro w' hSw; go_simp; try with_reducible rfl
          simp only [zn, Act.put]
          refine tkH 9 ?_ rfl hHeld ?_ ?_
          rotate_left
          · intro w' hSw; go_simp; try with_reducible rfl
          simp only [zn, Act.put]
          refine wpAnyH_ready (rs := [10]) (by kernel_rfl) (by simp) ?_
          refine AllReadyH.cons rfl (fun K hK => ?_) AllReadyH.nil
          go_simp
          have tb := HB.out.alloc HB.out.size (.cells #[.int .i64 0, .int .i64 0, .slice none 0 0] 70)
          have t6 := heap_alloc_self qA_ (.cells #[.int .i64 0, .int .i64 0, .slice none 0 0] 70)
          have tO := OU.out.below joinR (below_new qA_ (.cells #[.int .i64 0, .int .i64 0, .slice none 0 0] 70))
          refine hK.out _ _ ?_ (fun hHeld => ?_)
          · exact tb
          clear hK K
          try simp only [zn, Act.put]
          generalize qA_.alloc (.cells #[.int .i64 0, .int .i64 0, .slice none 0 0] 70) = qB_ at tb t6 tO hHeld ⊢
          obtain ⟨p18, hp⟩ : ∃ n, n = qA_.heap.size := ⟨_, rfl⟩
          rw [← hp] at t6 ⊢
          have PLB : Hid (v1.heap.size ≤ p18) := Lib.hid (by rw [hp]; exact HB.out.size)
          clear HB hp OU
          have HB := Lib.hid tb
          have XB := Lib.hid t6
          have OU := Lib.hid tO
          clear tb t6 tO
          refine wpAnyH_ready (rs := [11]) (by kernel_rfl) (by simp) ?_
          refine AllReadyH.cons rfl (fun K hK => ?_) AllReadyH.nil
          rw [if_pos (by rfl)]
          refine wp_store_rowS 70 (.tmp 18) (.tmp 134) rfl p18 rfl (c' := #[.int .i64 sid, .int .i64 spt, .slice U ne uc]) rfl XB.out infoSec3b rfl (by simp [Value.oneCell']) ?_
          have tb := below_setRow HB.out PLB.out #[.int .i64 sid, .int .i64 spt, .slice U ne uc]
          have t6 := setRow_heap _ _ _ #[.int .i64 sid, .int .i64 spt, .slice U ne uc] _ _ XB.out
          have tO : JoinsOwn (qB_.setRow p18 #[.int .i64 sid, .int .i64 spt, .slice U ne uc]) 0 (.slice U ne uc) es := own_offT joinF OU.out (grownBy_setRow qB_ p18 #[.int .i64 sid, .int .i64 spt, .slice U ne uc]) (by decide) ⟨_, XB.out⟩
          refine hK.out _ _ ?_ (fun hHeld => ?_)
          · exact tb
          clear hK K
          try simp only [zn, Act.put]
          generalize qB_.setRow p18 #[.int .i64 sid, .int .i64 spt, .slice U ne uc] = qC_ at tb t6 tO hHeld ⊢
          refine tkH 12 ?_ rfl hHeld ?_ ?_
          rotate_left
          · intro w' hSw; go_simp; try with_reducible rfl
          simp only [zn, Act.put]
          refine wpAnyH_done (by kernel_rfl) ?_ _
          go_wp2_with fail
          go_meet
          exact ⟨p18, U, uc, rfl, rfl, t6, tO.in_ joinR_cells, tb⟩
        · go_simp
          have tb := HB.out.alloc HB.out.size (.cells #[.int .i64 0, .int .i64 0, .slice none 0 0] 70)
          have t6 := heap_alloc_self q0_ (.cells #[.int .i64 0, .int .i64 0, .slice none 0 0] 70)
          refine hK.out _ _ ?_ (fun hHeld => ?_)
          · exact tb
          clear hK K
          try simp only [zn, Act.put]
          generalize q0_.alloc (.cells #[.int .i64 0, .int .i64 0, .slice none 0 0] 70) = qA_ at tb t6 hHeld ⊢
          obtain ⟨p18, hp⟩ : ∃ n, n = q0_.heap.size := ⟨_, rfl⟩
          rw [← hp] at t6 ⊢
          have PLB : Hid (v1.heap.size ≤ p18) := Lib.hid (by rw [hp]; exact HB.out.size)
          clear HB hp
          have HB := Lib.hid tb
          have XA_ := Lib.hid t6
          clear tb t6
          refine wpAnyH_ready (rs := [6]) (by kernel_rfl) (by simp) ?_
          refine AllReadyH.cons rfl (fun K hK => ?_) AllReadyH.nil
          go_simp
          refine (ht.find _ p.secs sid qA_ ((SS1.out.below secR_ HB.out).more secR_ HB.out.size)).mono ?_
          rintro e qB_ ⟨u_, rfl, hu_, b⟩
          rw [HFD.out.2] at hu_
          rw [HFD.out.1, HFD.out.2]
          obtain ⟨U, uc, rfl⟩ := hu_.slice
          have hu0 := hu_.mono (Nat.zero_le _)
          clear hu_
          dsimp only at hu0 ⊢
          rw [← HNE.out] at hu0 ⊢
          have HB' := Lib.hid (HB.out.trans (b.mono HB.out.size))
          have OU : Hid (JoinsOwn qB_ 0 (.slice U ne uc) es) := Lib.hid hu0
          clear hu0
          have XB := Lib.hid ((b.block _ (heap_lt XA_.out)).trans XA_.out)
          clear HB XA_
          have HB := HB'
          clear HB' b
          try go_wp2_with fail
          refine hK.out _ _ ?_ (fun hHeld => ?_)
          · exact HB.out
          clear hK K
          try simp only [zn, Act.put]
          refine tkH 7 ?_ rfl hHeld ?_ ?_
          rotate_left
          · intro w' hSw; go_simp; try with_reducible rfl
          simp only [zn, Act.put]
          refine tkH 8 ?_ rfl hHeld ?_ ?_
          rotate_left
          · intro w' hSw; go_simp; try with_reducible rfl
          simp only [zn, Act.put]
          refine tkH 9 ?_ rfl hHeld ?_ ?_
          rotate_left
          · intro w' hSw; go_simp; try with_reducible rfl
          simp only [zn, Act.put]
          refine wpAnyH_ready (rs := [11]) (by kernel_rfl) (by simp) ?_
          refine AllReadyH.cons rfl (fun K hK => ?_) AllReadyH.nil
          rw [if_pos (by rfl)]
          refine wp_store_rowS 70 (.tmp 18) (.tmp 134) rfl p18 rfl (c' := #[.int .i64 sid, .int .i64 spt, .slice U ne uc]) rfl XB.out infoSec3b rfl (by simp [Value.oneCell']) ?_
          have tb := below_setRow HB.out PLB.out #[.int .i64 sid, .int .i64 spt, .slice U ne uc]
          have t6 := setRow_heap _ _ _ #[.int .i64 sid, .int .i64 spt, .slice U ne uc] _ _ XB.out
          have tO : JoinsOwn (qB_.setRow p18 #[.int .i64 sid, .int .i64 spt, .slice U ne uc]) 0 (.slice U ne uc) es := own_offT joinF OU.out (grownBy_setRow qB_ p18 #[.int .i64 sid, .int .i64 spt, .slice U ne uc]) (by decide) ⟨_, XB.out⟩
          refine hK.out _ _ ?_ (fun hHeld => ?_)
          · exact tb
          clear hK K
          try simp only [zn, Act.put]
          generalize qB_.setRow p18 #[.int .i64 sid, .int .i64 spt, .slice U ne uc] = qC_ at tb t6 tO hHeld ⊢
          refine tkH 12 ?_ rfl hHeld ?_ ?_
          rotate_left
          · intro w' hSw; go_simp; try with_reducible rfl
          simp only [zn, Act.put]
          refine wpAnyH_done (by kernel_rfl) ?_ _
          go_wp2_with fail
          go_meet
          exact ⟨p18, U, uc, rfl, rfl, t6, tO.in_ joinR_cells, tb⟩
      case rest =>
        obtain ⟨p18, U, uc, rfl, rfl, hx18, hju, hbv⟩ := hcut
        obtain ⟨v2, hv2⟩ : ∃ u, u = wc := ⟨_, rfl⟩
        subst hv2
        have X18 := Lib.hid hx18
        have SE2 : Hid (SecV v2 v2.heap.size (.agg #[.int .i64 sid, .int .i64 spt, .slice U ne uc]) (sid, spt, es)) := Lib.hid ⟨_, rfl, hju⟩
        have B2 : Hid (Below wr.heap.size wr v2) := Lib.hid (B1.out.trans (hbv.mono B1.out.size))
        have BM2 : Hid (Below wM.heap.size wM v2) := Lib.hid (BW.out.trans (B2.out.mono BW.out.size))
        have X6b := Lib.hid ((BM2.out.block _ (heap_lt MX6.out)).trans MX6.out)
        have X14b := Lib.hid ((B2.out.block _ (heap_lt X14.out)).trans X14.out)
        have WD2 := Lib.hid ((MWD.out.below BM2.out).more BM2.out.size)
        have HNW : Hid (dn0 ≤ 8 ∧ dn1 ≤ 8) := Lib.hid (by have := HNL.out; omega)
        have hn1b : dn1 ≤ 8 := HNW.out.2
        have hn0b : dn0 ≤ 8 := HNW.out.1
        have hwn : IntKind.i64.wrap ((nl : Int) - 1) = (nl : Int) - 1 := wrap_id (by omega) (by omega)
        clear hx18 hju hbv hl1 BM1 XP1 SS1 B1
        obtain ⟨k0, k1, k2, k3⟩ := cell4_of X6b.out
        go_upto_region 22 with fail
        go_cut [148] from 138 to 148 (fun s148 wx => s148 = .bool (lastB r a) ∧ v2 = wx)
        case first =>
          by_cases h2 : a + 1 = nl
          · have d2 : ((a : Int) == (nl : Int) - 1) = true := by simp; omega
            by_cases h3 : 0 < dn1
            · have d3 : Hid (decide (0 < dn1) = true) := Lib.hid (decide_eq_true h3)
              have LB : Hid (lastB r a = true) := Lib.hid (decide_eq_true ⟨by rw [← HNL.out.1]; exact h2, by have := HOV.out; omega⟩)
              clear h2 h3
              go_wp2_with fail
              go_meet
              exact ⟨by rw [LB.out, d3.out], rfl⟩
            · have d3 : Hid (decide (0 < dn1) = false) := Lib.hid (decide_eq_false h3)
              have LB : Hid (lastB r a = false) := Lib.hid (decide_eq_false (fun h => h3 (by have := HOV.out; omega)))
              clear h2 h3
              go_wp2_with fail
              go_meet
              exact ⟨by rw [LB.out, d3.out], rfl⟩
          · have d2 : ((a : Int) == (nl : Int) - 1) = false := by simp; omega
            have LB : Hid (lastB r a = false) := Lib.hid (decide_eq_false (fun h => h2 (by rw [HNL.out.1]; exact h.1)))
            clear h2
            go_wp2_with fail
            go_meet
            exact ⟨by rw [LB.out], rfl⟩
        case rest =>
          obtain ⟨rfl, hv⟩ := hcut
          subst hv
          clear k0 k1 k2 k3 hwn
          have BV2 : Hid (Below w.heap.size w v2) := Lib.hid (MBZ.out.trans (BM2.out.mono MBZ.out.size))
          cases hlb : lastB r a with
          | true =>
            have LB := Lib.hid hlb
            have hll : ln0 = a := by
              have h1 : a + 1 = (allR r).length ∧ 0 < r.over.length := of_decide_eq_true hlb
              rw [NL.out, OUTP.out.1, outsN, if_pos h1.2]; omega
            have d1 : ((ln0 : Int) == (a : Int)) = true := by simp; omega
            clear hll hlb
            go_upto_region 23 with fail
            by_cases hp0 : spt = 0
            · have d2 : (spt == 0) = true := by simpa using hp0
              clear hp0
              refine wp_region_held_drew (S := fun v => Below v2.heap.size v2 v) (by kernel_rfl) (Below.refl v2.heap.size v2).drew (fun hHeld => ?_)
              refine tkH 0 ?_ rfl hHeld ?_ ?_
              rotate_left
              · intro w' hSw; go_simp; try with_reducible rfl
              simp only [zn, Act.put]
              refine tkH 1 ?_ rfl hHeld ?_ ?_
              rotate_left
              · intro w' hSw; go_simp; try with_reducible rfl
              simp only [zn, Act.put]
              refine tkH 2 ?_ rfl hHeld ?_ ?_
              rotate_left
              · intro w' hSw; go_simp; try with_reducible rfl
              simp only [zn, Act.put]
              refine tkH 3 ?_ rfl hHeld ?_ ?_
              rotate_left
              · intro w' hSw; go_simp; try with_reducible rfl
              simp only [zn, Act.put]
              refine tkH 4 ?_ rfl hHeld ?_ ?_
              rotate_left
              · intro w' hSw; go_simp; try with_reducible rfl
              simp only [zn, Act.put]
              refine tkH 5 ?_ rfl hHeld ?_ ?_
              rotate_left
              · intro w' hSw; go_simp; try with_reducible rfl
              simp only [zn, Act.put]
              refine tkH 6 ?_ rfl hHeld ?_ ?_
              rotate_left
              · intro w' hSw; obtain ⟨cs0, cs1, cs2⟩ := cell3_of ((hSw.block _ (heap_lt X18.out)).trans X18.out); go_simp; try with_reducible rfl
              simp only [zn, Act.put]
              refine tkH 7 ?_ rfl hHeld ?_ ?_
              rotate_left
              · intro w' hSw; go_simp; try with_reducible rfl
              simp only [zn, Act.put]
              refine tkH 8 ?_ rfl hHeld ?_ ?_
              rotate_left
              · intro w' hSw; go_simp; try with_reducible rfl
              simp only [zn, Act.put]
              refine wpAnyH_take (i := 9) (v := undef) rfl (by kernel_rfl) (by kernel_rfl) (by kernel_rfl) (fun _ _ _ h => h) (Or.inr ⟨by rfl, rfl⟩) hHeld ?_
              simp only [zn, Act.put]
              refine wpAnyH_take (i := 10) (v := undef) rfl (by kernel_rfl) (by kernel_rfl) (by kernel_rfl) (fun _ _ _ h => h) (Or.inr ⟨by rfl, rfl⟩) hHeld ?_
              simp only [zn, Act.put]
              refine wpAnyH_take (i := 11) (v := undef) rfl (by kernel_rfl) (by kernel_rfl) (by kernel_rfl) (fun _ _ _ h => h) (Or.inr ⟨by rfl, rfl⟩) hHeld ?_
              simp only [zn, Act.put]
              refine wpAnyH_take (i := 12) (v := undef) rfl (by kernel_rfl) (by kernel_rfl) (by kernel_rfl) (fun _ _ _ h => h) (Or.inr ⟨by rfl, rfl⟩) hHeld ?_
              simp only [zn, Act.put]
              refine wpAnyH_take (i := 13) (v := undef) rfl (by kernel_rfl) (by kernel_rfl) (by kernel_rfl) (fun _ _ _ h => h) (Or.inr ⟨by rfl, rfl⟩) hHeld ?_
              simp only [zn, Act.put]
              refine wpAnyH_take (i := 14) (v := undef) rfl (by kernel_rfl) (by kernel_rfl) (by kernel_rfl) (fun _ _ _ h => h) (Or.inr ⟨by rfl, rfl⟩) hHeld ?_
              simp only [zn, Act.put]
              refine wpAnyH_take (i := 15) (v := undef) rfl (by kernel_rfl) (by kernel_rfl) (by kernel_rfl) (fun _ _ _ h => h) (Or.inr ⟨by rfl, rfl⟩) hHeld ?_
              simp only [zn, Act.put]
              refine wpAnyH_take (i := 16) (v := undef) rfl (by kernel_rfl) (by kernel_rfl) (by kernel_rfl) (fun _ _ _ h => h) (Or.inr ⟨by rfl, rfl⟩) hHeld ?_
              simp only [zn, Act.put]
              refine tkH 17 ?_ rfl hHeld ?_ ?_
              rotate_left
              · intro w' hSw; go_simp; try with_reducible rfl
              simp only [zn, Act.put]
              refine tkH 18 ?_ rfl hHeld ?_ ?_
              rotate_left
              · intro w' hSw; go_simp; try with_reducible rfl
              simp only [zn, Act.put]
              refine tkH 19 ?_ rfl hHeld ?_ ?_
              rotate_left
              · intro w' hSw; go_simp; try with_reducible rfl
              simp only [zn, Act.put]
              refine wpAnyH_done (by kernel_rfl) ?_ _
              have BL : Hid (Below w.heap.size w v2.drew) := Lib.hid BV2.out.drew
              go_wp2_with fail
              go_ret
              exact ⟨rfl, BL.out⟩
            · have d2 : (spt == 0) = false := by simpa using hp0
              have LV : Hid (lieW x spt a = t1) := Lib.hid (by
                have h1 := goes_last HRI.out HA.out HH.out LB.out (by rw [HSN.out]; exact hp0)
                rw [HSN.out] at h1
                rw [HXV.out]; exact h1)
              clear hp0
              refine wp_region_held_drew (S := fun v => Below v2.heap.size v2 v) (by kernel_rfl) (Below.refl v2.heap.size v2).drew (fun hHeld => ?_)
              refine tkH 0 ?_ rfl hHeld ?_ ?_
              rotate_left
              · intro w' hSw; go_simp; try with_reducible rfl
              simp only [zn, Act.put]
              refine tkH 1 ?_ rfl hHeld ?_ ?_
              rotate_left
              · intro w' hSw; go_simp; try with_reducible rfl
              simp only [zn, Act.put]
              refine tkH 2 ?_ rfl hHeld ?_ ?_
              rotate_left
              · intro w' hSw; go_simp; try with_reducible rfl
              simp only [zn, Act.put]
              refine tkH 3 ?_ rfl hHeld ?_ ?_
              rotate_left
              · intro w' hSw; go_simp; try with_reducible rfl
              simp only [zn, Act.put]
              refine tkH 4 ?_ rfl hHeld ?_ ?_
              rotate_left
              · intro w' hSw; go_simp; try with_reducible rfl
              simp only [zn, Act.put]
              refine tkH 5 ?_ rfl hHeld ?_ ?_
              rotate_left
              · intro w' hSw; go_simp; try with_reducible rfl
              simp only [zn, Act.put]
              refine tkH 6 ?_ rfl hHeld ?_ ?_
              rotate_left
              · intro w' hSw; obtain ⟨cs0, cs1, cs2⟩ := cell3_of ((hSw.block _ (heap_lt X18.out)).trans X18.out); go_simp; try with_reducible rfl
              simp only [zn, Act.put]
              refine tkH 7 ?_ rfl hHeld ?_ ?_
              rotate_left
              · intro w' hSw; go_simp; try with_reducible rfl
              simp only [zn, Act.put]
              refine tkH 8 ?_ rfl hHeld ?_ ?_
              rotate_left
              · intro w' hSw; go_simp; try with_reducible rfl
              simp only [zn, Act.put]
              refine tkH 9 ?_ rfl hHeld ?_ ?_
              rotate_left
              · intro w' hSw; obtain ⟨cw0, cw1, cw2, cw3⟩ := cell4_of ((hSw.block _ (heap_lt X6b.out)).trans X6b.out); go_simp; try with_reducible rfl
              simp only [zn, Act.put]
              refine tkH 10 ?_ rfl hHeld ?_ ?_
              rotate_left
              · intro w' hSw; go_simp; try with_reducible rfl
              simp only [zn, Act.put]
              refine tkH 11 ?_ rfl hHeld ?_ ?_
              rotate_left
              · intro w' hSw; obtain ⟨cs0, cs1, cs2⟩ := cell3_of ((hSw.block _ (heap_lt X18.out)).trans X18.out); go_simp; try with_reducible rfl
              simp only [zn, Act.put]
              refine tkH 12 ?_ rfl hHeld ?_ ?_
              rotate_left
              · intro w' hSw; go_simp; try with_reducible rfl
              simp only [zn, Act.put]
              refine tkH 14 ?_ rfl hHeld ?_ ?_
              rotate_left
              · intro w' hSw; go_simp; try with_reducible rfl
              simp only [zn, Act.put]
              refine tkH 15 ?_ rfl hHeld ?_ ?_
              rotate_left
              · intro w' hSw; obtain ⟨cj0, cj1⟩ := cell2_of ((hSw.block _ (heap_lt X14b.out)).trans X14b.out); go_simp; try with_reducible rfl
              simp only [zn, Act.put]
              refine wpAnyH_ready (rs := [13]) (by kernel_rfl) (by simp) ?_
              refine AllReadyH.cons rfl (fun K hK => ?_) AllReadyH.nil
              go_simp
              refine (lie_any _ x spt a v2.drew ((WD2.out.below ((Below.refl v2.heap.size v2).drew)).more ((Below.refl v2.heap.size v2).drew).size)).mono ?_
              rintro e vA ⟨rfl, b⟩
              rw [LV.out]
              have SA : Hid (Below v2.heap.size v2 vA) := Lib.hid (((Below.refl v2.heap.size v2).drew).trans (b.mono ((Below.refl v2.heap.size v2).drew).size))
              clear b
              try go_wp2_with fail
              refine hK.out _ _ ?_ (fun hHeld => ?_)
              · exact SA.out
              clear hK K
              try simp only [zn, Act.put]
              refine tkH 16 ?_ rfl hHeld ?_ ?_
              rotate_left
              · intro w' hSw; go_simp; try with_reducible rfl
              simp only [zn, Act.put]
              refine tkH 17 ?_ rfl hHeld ?_ ?_
              rotate_left
              · intro w' hSw; go_simp; try with_reducible rfl
              simp only [zn, Act.put]
              refine tkH 18 ?_ rfl hHeld ?_ ?_
              rotate_left
              · intro w' hSw; go_simp; try with_reducible rfl
              simp only [zn, Act.put]
              refine tkH 19 ?_ rfl hHeld ?_ ?_
              rotate_left
              · intro w' hSw; go_simp; try with_reducible rfl
              simp only [zn, Act.put]
              refine wpAnyH_done (by kernel_rfl) ?_ _
              have BL : Hid (Below w.heap.size w vA) := Lib.hid (BV2.out.trans (SA.out.mono BV2.out.size))
              go_wp2_with fail
              go_ret
              exact ⟨rfl, BL.out⟩
          | false =>
            have LB := Lib.hid hlb
            have ho := HO.out LB.out
            obtain ⟨e, he, heq, hrb⟩ : ∃ e, e < (secN p ((allR r).getD a 0)).2.2.length ∧ outN p r a t1 = (e : Int) ∧ rightB p r a t1 e = true := by
              rcases outN_cases p r a t1 with h1 | h1
              · have h2 : (0 : Int) ≤ outN p r a t1 := ho
                omega
              · exact h1
            have hl0 : 0 ≤ lieS (secN p ((allR r).getD a 0)).2.1 t1 (e : Int) := by
              rw [rightB] at hrb
              simp only [Bool.and_eq_true, decide_eq_true_eq] at hrb
              exact hrb.1
            obtain ⟨go1, go2⟩ := goes_out HRI.out HA.out HH.out LB.out heq he hl0
            have hcn := comes_succ HC.out HH.out.here heq
            have hoA : outA p r a = (e : Int) := by rw [outA, LB.out, in_of HC.out]; exact heq
            rw [HSN.out] at go1 go2 he hcn hl0
            rw [← HXV.out] at go1 go2
            obtain ⟨LVv, hLV⟩ : ∃ z, z = lieW x spt (a : Int) := ⟨_, rfl⟩
            have LV : Hid (lieW x spt a = LVv) := Lib.hid hLV.symm
            have GO : Hid (outE (sid, spt, es) t1 LVv = 0 ∧ outV (sid, spt, es) t1 LVv = (e : Int)) := Lib.hid (by rw [hLV]; exact ⟨go1, go2⟩)
            have HEL : Hid (e < es.length) := Lib.hid he
            obtain ⟨j0, j1, hjn⟩ : ∃ a b, es.getD e (0, 0) = (a, b) := ⟨_, _, rfl⟩
            have HCN : Hid (comesN p r (a + 1) = some (j0, j1)) := Lib.hid (by rw [hcn]; exact congrArg some hjn)
            have HNXT : Hid (nextE7 p.secs sid (e : Int) = 0 ∧ nextJ7 p.secs sid (e : Int) = (j0, j1)) := Lib.hid (by
              obtain ⟨h1, h2⟩ := next_mem HRI.out.plan.secs HKS.out (e := e) (by rw [HSE.out]; exact he)
              rw [HSE.out] at h1 h2
              exact ⟨h1, h2.trans hjn⟩)
            have HSTD : Hid (stE p sid (e : Int) = 0 ∧ stN p sid (e : Int) = standsS p.sigs sid (e : Int)) := Lib.hid (by
              have h1 := stand_at HRI.out.plan HKS.out (e := e) (by rw [HSE.out]; exact he)
              rw [HSE.out] at h1
              exact h1)
            have HEXIT : Hid (a + 1 = r.path.length → (r.exit = 0 ∧ j0 = 0 ∧ j1 = 0) ∨ (r.exit ≠ 0 ∧ standsS p.sigs sid (e : Int) = r.exit)) := Lib.hid (fun hpl => by
              rw [rightB, HSN.out] at hrb
              simp only [Bool.and_eq_true, if_pos hpl, decide_eq_true_eq] at hrb
              rcases hrb.2 with h1 | h1
              · refine .inl ⟨h1.1, ?_⟩
                rw [hjn] at h1
                have h2 : j0 = 0 := h1.2
                rcases end_join HRI.out.plan.secs HKS.out (k := e) (by rw [HSE.out]; exact he) with h3 | ⟨h3, -⟩
                · rw [HSE.out] at h3
                  have h4 : es.getD e (0, 0) = (0, 0) := h3
                  rw [hjn] at h4
                  injection h4 with h5 h6
                  exact ⟨h5, h6⟩
                · rw [HSE.out] at h3
                  have h4 : (es.getD e (0, 0)).1 ≠ 0 := h3
                  rw [hjn] at h4
                  exact absurd h2 h4
              · exact .inr h1)
            have hall : a < ln0 := by
              have h1 : ¬ (a + 1 = (allR r).length ∧ 0 < r.over.length) := of_decide_eq_false hlb
              have h2 := HA.out
              rw [NL.out, OUTP.out.1, outsN]
              split <;> omega
            have hal : a < l.length := by rw [← NL.out]; exact hall
            have hla : l[a] = (sid, (e : Int)) := by rw [OUTP.out.2.2 a hal, ← HZ.out, hoA]
            obtain ⟨bo, oo, e7, hbo, hh0, hh1⟩ := (MWL.out.below joinR BM2.out).at hal
            cases e7
            rw [hla] at hh0 hh1
            have G0 : Hid (v2.cell? ⟨bo, oo + a * 2, none⟩ = some (.int .i64 sid)) := Lib.hid hh0
            have G1 : Hid (v2.cell? ⟨bo, oo + a * 2 + 1, none⟩ = some (.int .i64 (e : Int))) := Lib.hid hh1
            have HALL : Hid (a < ln0) := Lib.hid hall
            have HOVN : Hid (0 < r.over.length → a + 1 + 1 ≤ nl) := Lib.hid (fun h => by
              have h1 : ¬ (a + 1 = (allR r).length ∧ 0 < r.over.length) := of_decide_eq_false hlb
              have h2 := HNL.out.1
              have h3 := HA.out
              omega)
            clear ho he heq hrb hl0 go1 go2 hcn hoA hLV hjn hall hla hbo hh0 hh1 hlb
            go_upto_region 24 with fail
            refine wp_region_held_drew (S := fun v => Below v2.heap.size v2 v) (by kernel_rfl) (Below.refl v2.heap.size v2).drew (fun hHeld => ?_)
            refine tkH 0 ?_ rfl hHeld ?_ ?_
            rotate_left
            · intro w' hSw; obtain ⟨cs0, cs1, cs2⟩ := cell3_of ((hSw.block _ (heap_lt X18.out)).trans X18.out); go_simp; try with_reducible rfl
            simp only [zn, Act.put]
            refine tkH 1 ?_ rfl hHeld ?_ ?_
            rotate_left
            · intro w' hSw; go_simp; try with_reducible rfl
            simp only [zn, Act.put]
            refine tkH 2 ?_ rfl hHeld ?_ ?_
            rotate_left
            · intro w' hSw; obtain ⟨cj0, cj1⟩ := cell2_of ((hSw.block _ (heap_lt X14b.out)).trans X14b.out); go_simp; try with_reducible rfl
            simp only [zn, Act.put]
            refine tkH 3 ?_ rfl hHeld ?_ ?_
            rotate_left
            · intro w' hSw; obtain ⟨cw0, cw1, cw2, cw3⟩ := cell4_of ((hSw.block _ (heap_lt X6b.out)).trans X6b.out); go_simp; try with_reducible rfl
            simp only [zn, Act.put]
            refine tkH 4 ?_ rfl hHeld ?_ ?_
            rotate_left
            · intro w' hSw; go_simp; try with_reducible rfl
            simp only [zn, Act.put]
            refine tkH 5 ?_ rfl hHeld ?_ ?_
            rotate_left
            · intro w' hSw; obtain ⟨cs0, cs1, cs2⟩ := cell3_of ((hSw.block _ (heap_lt X18.out)).trans X18.out); go_simp; try with_reducible rfl
            simp only [zn, Act.put]
            refine tkH 6 ?_ rfl hHeld ?_ ?_
            rotate_left
            · intro w' hSw; go_simp; try with_reducible rfl
            simp only [zn, Act.put]
            refine wpAnyH_ready (rs := [7]) (by kernel_rfl) (by simp) ?_
            refine AllReadyH.cons rfl (fun K hK => ?_) AllReadyH.nil
            go_simp
            refine (lie_any _ x spt a v2.drew ((WD2.out.below ((Below.refl v2.heap.size v2).drew)).more ((Below.refl v2.heap.size v2).drew).size)).mono ?_
            rintro e vA ⟨rfl, b⟩
            rw [LV.out]
            have SA : Hid (Below v2.heap.size v2 vA) := Lib.hid (((Below.refl v2.heap.size v2).drew).trans (b.mono ((Below.refl v2.heap.size v2).drew).size))
            clear b
            try go_wp2_with fail
            refine hK.out _ _ ?_ (fun hHeld => ?_)
            · exact SA.out
            clear hK K
            try simp only [zn, Act.put]
            refine wpAnyH_ready (rs := [8]) (by kernel_rfl) (by simp) ?_
            refine AllReadyH.cons rfl (fun K hK => ?_) AllReadyH.nil
            go_simp
            refine (ht.out _ (sid, spt, es) t1 LVv vA ((SE2.out.below (SA.out)).more (SA.out).size)).mono ?_
            rintro e_ vB ⟨rfl, b⟩
            rw [GO.out.1, GO.out.2]
            have SB : Hid (Below v2.heap.size v2 vB) := Lib.hid ((SA.out).trans (b.mono (SA.out).size))
            clear b
            try go_wp2_with fail
            refine hK.out _ _ ?_ (fun hHeld => ?_)
            · exact SB.out
            clear hK K
            try simp only [zn, Act.put]
            refine tkH 9 ?_ rfl hHeld ?_ ?_
            rotate_left
            · intro w' hSw; go_simp; try with_reducible rfl
            simp only [zn, Act.put]
            refine tkH 10 ?_ rfl hHeld ?_ ?_
            rotate_left
            · intro w' hSw; go_simp; try with_reducible rfl
            simp only [zn, Act.put]
            refine tkH 11 ?_ rfl hHeld ?_ ?_
            rotate_left
            · intro w' hSw; go_simp; try with_reducible rfl
            simp only [zn, Act.put]
            refine tkH 12 ?_ rfl hHeld ?_ ?_
            rotate_left
            · intro w' hSw; go_simp; try with_reducible rfl
            simp only [zn, Act.put]
            refine tkH 13 ?_ rfl hHeld ?_ ?_
            rotate_left
            · intro w' hSw; go_simp; try with_reducible rfl
            simp only [zn, Act.put]
            refine wpAnyH_done (by kernel_rfl) ?_ _
            go_upto_region 25 with fail
            have g0 : vB.cell? ⟨bo, oo + a * 2, none⟩ = some (.int .i64 sid) := (SB.out.cell (cell_lt G0.out)).trans G0.out
            have g1 : vB.cell? ⟨bo, oo + a * 2 + 1, none⟩ = some (.int .i64 (e : Int)) := (SB.out.cell (cell_lt G1.out)).trans G1.out
            have hl2 : vB.cell? ⟨bl, ofl + a, none⟩ = some (.int .i64 sid) := ((B2.out.trans (SB.out.mono B2.out.size)).cell (cell_lt HL1.out)).trans HL1.out
            have f2 : decide (ln0 ≤ a) = false := decide_eq_false (by have := HALL.out; omega)
            have f2' : (a : Int) < ln0 := by have := HALL.out; omega
            have hcmp : ∀ w' : World, (Op.equalIn 10000 41 (.agg #[.int .i64 sid, .int .i64 (e : Int)]) (.agg #[.int .i64 sid, .int .i64 (e : Int)])).run Try.prog w' = .ok true w' := join_self sid (e : Int)
            have BD : Hid (∀ nq, Below vB.heap.size vB (vB.drewN nq)) := Lib.hid (fun nq => drewN_below vB nq)
            go_quiet (fail)
            have hdb := BD.out nq
            generalize vB.drewN nq = v3 at hdb ⊢
            have S3 : Hid (Below v2.heap.size v2 v3) := Lib.hid (SB.out.trans (hdb.mono SB.out.size))
            have B3 : Hid (Below wr.heap.size wr v3) := Lib.hid (B2.out.trans (S3.out.mono B2.out.size))
            have BM3 : Hid (Below wM.heap.size wM v3) := Lib.hid (BW.out.trans (B3.out.mono BW.out.size))
            clear hdb BD g0 g1 hl2 f2 f2' hcmp
            have hl1 : v3.cell? ⟨bl, ofl + a, none⟩ = some (.int .i64 sid) := (B3.out.cell (cell_lt HL1.out)).trans HL1.out
            have XP3 := Lib.hid ((BM3.out.block _ (heap_lt MXP.out)).trans MXP.out)
            have SS3 := Lib.hid ((MSS.out.below secR_ BM3.out).more secR_ BM3.out.size)
            go_upto_region 27 with fail
            go_cut [22, 23] from 201 to 211 (fun s22 s23 wx => ∃ p22, s22 = .pointer (some ⟨p22, 0, none⟩) ∧ s23 = .int .i64 0 ∧ wx.heap[p22]? = some (.cells #[.int .i64 j0, .int .i64 j1] 41 (0, 0)) ∧ Below v3.heap.size v3 wx)
            case first =>
              refine wp_region_held_drew (S := fun v => Below v3.heap.size v3 v) (by kernel_rfl) (Below.refl v3.heap.size v3).drew (fun hHeld => ?_)
              refine tkH 0 ?_ rfl hHeld ?_ ?_
              rotate_left
              · intro w' hSw; go_simp; try with_reducible rfl
              simp only [zn, Act.put]
              refine tkH 1 ?_ rfl hHeld ?_ ?_
              rotate_left
              · intro w' hSw; obtain ⟨cv0, cv1, cv2, cv3, cv4, cv5⟩ := cell6_of ((hSw.block _ (heap_lt XP3.out)).trans XP3.out); go_simp; try with_reducible rfl
              simp only [zn, Act.put]
              refine tkH 2 ?_ rfl hHeld ?_ ?_
              rotate_left
              · intro w' hSw; go_simp; try with_reducible rfl
              simp only [zn, Act.put]
              refine tkH 3 ?_ rfl hHeld ?_ ?_
              rotate_left
              · intro w' hSw; go_simp; try with_reducible rfl
              simp only [zn, Act.put]
              refine tkH 4 ?_ rfl hHeld ?_ ?_
              rotate_left
              · intro w' hSw; go_simp; try with_reducible rfl
              simp only [zn, Act.put]
              refine tkH 5 ?_ rfl hHeld ?_ ?_
              rotate_left
              · intro w' hSw; have cl := (hSw.cell (cell_lt hl1)).trans hl1; go_simp; try with_reducible rfl
              simp only [zn, Act.put]
              refine tkH 6 ?_ rfl hHeld ?_ ?_
              rotate_left
              · intro w' hSw; go_simp; try with_reducible rfl
              simp only [zn, Act.put]
              have tb := (Below.refl v3.heap.size v3).drew
              generalize v3.drew = q0_ at tb hHeld ⊢
              have HB := Lib.hid tb
              clear tb
              refine wpAnyH_ready (rs := [7, 11]) (by kernel_rfl) (by simp) ?_
              refine AllReadyH.cons rfl (fun K hK => ?_) (AllReadyH.cons rfl (fun K hK => ?_) AllReadyH.nil)
              · go_simp
                refine (ht.next _ p.secs sid (e : Int) q0_ ((SS3.out.below secR_ HB.out).more secR_ HB.out.size)).mono ?_
                rintro e_ qA_ ⟨rfl, b⟩
                rw [HNXT.out.1, HNXT.out.2]
                have HB' := Lib.hid (HB.out.trans (b.mono HB.out.size))
                clear HB
                have HB := HB'
                clear HB' b
                try go_wp2_with fail
                refine hK.out _ _ ?_ (fun hHeld => ?_)
                · exact HB.out
                clear hK K
                try simp only [zn, Act.put]
                refine tkH 8 ?_ rfl hHeld ?_ ?_
                rotate_left
                · intro w' hSw; go_simp; try with_reducible rfl
                simp only [zn, Act.put]
                refine tkH 9 ?_ rfl hHeld ?_ ?_
                rotate_left
                · intro w' hSw; go_simp; try with_reducible rfl
                simp only [zn, Act.put]
                refine tkH 10 ?_ rfl hHeld ?_ ?_
                rotate_left
                · intro w' hSw; go_simp; try with_reducible rfl
                simp only [zn, Act.put]
                refine wpAnyH_ready (rs := [11]) (by kernel_rfl) (by simp) ?_
                refine AllReadyH.cons rfl (fun K hK => ?_) AllReadyH.nil
                go_simp
                have tb := HB.out.alloc HB.out.size (.cells #[.int .i64 0, .int .i64 0] 41)
                have t6 := heap_alloc_self qA_ (.cells #[.int .i64 0, .int .i64 0] 41)
                refine hK.out _ _ ?_ (fun hHeld => ?_)
                · exact tb
                clear hK K
                try simp only [zn, Act.put]
                generalize qA_.alloc (.cells #[.int .i64 0, .int .i64 0] 41) = qB_ at tb t6 hHeld ⊢
                obtain ⟨p22, hp⟩ : ∃ n, n = qA_.heap.size := ⟨_, rfl⟩
                rw [← hp] at t6 ⊢
                have PLB : Hid (v3.heap.size ≤ p22) := Lib.hid (by rw [hp]; exact HB.out.size)
                clear HB hp
                have HB := Lib.hid tb
                have XB := Lib.hid t6
                clear tb t6
                refine wpAnyH_ready (rs := [12]) (by kernel_rfl) (by simp) ?_
                refine AllReadyH.cons rfl (fun K hK => ?_) AllReadyH.nil
                rw [if_pos (by rfl)]
                refine wp_store_rowS 41 (.tmp 22) (.tmp 210) rfl p22 rfl (c' := #[.int .i64 j0, .int .i64 j1]) rfl XB.out infoJoin2 rfl (by simp [Value.oneCell']) ?_
                have tb := below_setRow HB.out PLB.out #[.int .i64 j0, .int .i64 j1]
                have t6 := setRow_heap _ _ _ #[.int .i64 j0, .int .i64 j1] _ _ XB.out
                refine hK.out _ _ ?_ (fun hHeld => ?_)
                · exact tb
                clear hK K
                try simp only [zn, Act.put]
                generalize qB_.setRow p22 #[.int .i64 j0, .int .i64 j1] = qC_ at tb t6 hHeld ⊢
                refine tkH 13 ?_ rfl hHeld ?_ ?_
                rotate_left
                · intro w' hSw; go_simp; try with_reducible rfl
                simp only [zn, Act.put]
                refine wpAnyH_done (by kernel_rfl) ?_ _
                go_wp2_with fail
                go_meet
                exact ⟨p22, rfl, rfl, t6, tb⟩
              · go_simp
                have tb := HB.out.alloc HB.out.size (.cells #[.int .i64 0, .int .i64 0] 41)
                have t6 := heap_alloc_self q0_ (.cells #[.int .i64 0, .int .i64 0] 41)
                refine hK.out _ _ ?_ (fun hHeld => ?_)
                · exact tb
                clear hK K
                try simp only [zn, Act.put]
                generalize q0_.alloc (.cells #[.int .i64 0, .int .i64 0] 41) = qA_ at tb t6 hHeld ⊢
                obtain ⟨p22, hp⟩ : ∃ n, n = q0_.heap.size := ⟨_, rfl⟩
                rw [← hp] at t6 ⊢
                have PLB : Hid (v3.heap.size ≤ p22) := Lib.hid (by rw [hp]; exact HB.out.size)
                clear HB hp
                have HB := Lib.hid tb
                have XA_ := Lib.hid t6
                clear tb t6
                refine wpAnyH_ready (rs := [7]) (by kernel_rfl) (by simp) ?_
                refine AllReadyH.cons rfl (fun K hK => ?_) AllReadyH.nil
                go_simp
                refine (ht.next _ p.secs sid (e : Int) qA_ ((SS3.out.below secR_ HB.out).more secR_ HB.out.size)).mono ?_
                rintro e_ qB_ ⟨rfl, b⟩
                rw [HNXT.out.1, HNXT.out.2]
                have HB' := Lib.hid (HB.out.trans (b.mono HB.out.size))
                have XB := Lib.hid ((b.block _ (heap_lt XA_.out)).trans XA_.out)
                clear HB XA_
                have HB := HB'
                clear HB' b
                try go_wp2_with fail
                refine hK.out _ _ ?_ (fun hHeld => ?_)
                · exact HB.out
                clear hK K
                try simp only [zn, Act.put]
                refine tkH 8 ?_ rfl hHeld ?_ ?_
                rotate_left
                · intro w' hSw; go_simp; try with_reducible rfl
                simp only [zn, Act.put]
                refine tkH 9 ?_ rfl hHeld ?_ ?_
                rotate_left
                · intro w' hSw; go_simp; try with_reducible rfl
                simp only [zn, Act.put]
                refine tkH 10 ?_ rfl hHeld ?_ ?_
                rotate_left
                · intro w' hSw; go_simp; try with_reducible rfl
                simp only [zn, Act.put]
                refine wpAnyH_ready (rs := [12]) (by kernel_rfl) (by simp) ?_
                refine AllReadyH.cons rfl (fun K hK => ?_) AllReadyH.nil
                rw [if_pos (by rfl)]
                refine wp_store_rowS 41 (.tmp 22) (.tmp 210) rfl p22 rfl (c' := #[.int .i64 j0, .int .i64 j1]) rfl XB.out infoJoin2 rfl (by simp [Value.oneCell']) ?_
                have tb := below_setRow HB.out PLB.out #[.int .i64 j0, .int .i64 j1]
                have t6 := setRow_heap _ _ _ #[.int .i64 j0, .int .i64 j1] _ _ XB.out
                refine hK.out _ _ ?_ (fun hHeld => ?_)
                · exact tb
                clear hK K
                try simp only [zn, Act.put]
                generalize qB_.setRow p22 #[.int .i64 j0, .int .i64 j1] = qC_ at tb t6 hHeld ⊢
                refine tkH 13 ?_ rfl hHeld ?_ ?_
                rotate_left
                · intro w' hSw; go_simp; try with_reducible rfl
                simp only [zn, Act.put]
                refine wpAnyH_done (by kernel_rfl) ?_ _
                go_wp2_with fail
                go_meet
                exact ⟨p22, rfl, rfl, t6, tb⟩
            case rest =>
              obtain ⟨p22, rfl, rfl, hx22, hbv⟩ := hcut
              obtain ⟨v4, hv4⟩ : ∃ u, u = wc := ⟨_, rfl⟩
              subst hv4
              have X22 := Lib.hid hx22
              have B4 : Hid (Below wr.heap.size wr v4) := Lib.hid (B3.out.trans (hbv.mono B3.out.size))
              have BM4 : Hid (Below wM.heap.size wM v4) := Lib.hid (BW.out.trans (B4.out.mono BW.out.size))
              have X6d := Lib.hid ((BM4.out.block _ (heap_lt MX6.out)).trans MX6.out)
              have XPd := Lib.hid ((BM4.out.block _ (heap_lt MXP.out)).trans MXP.out)
              have hwd : IntKind.i64.wrap ((dn0 : Int) - 1) = (dn0 : Int) - 1 := by have := HOV.out; exact wrap_id (by omega) (by omega)
              obtain ⟨k0, k1, k2, k3⟩ := cell4_of X6d.out
              clear hx22 hbv hl1 XP3 SS3
              by_cases hpl : a + 1 = r.path.length
              rotate_left
              · have d1 : ((a : Int) == (dn0 : Int) - 1) = false := by have := HOV.out; simp; omega
                have S22 : Hid (Below v4.heap.size v4 v4) := Lib.hid (Below.refl _ _)
                clear hpl
                go_upto_region 34 with fail
                have X14z := Lib.hid ((B4.out.block _ (heap_lt X14.out)).trans X14.out)
                have X22z := Lib.hid ((S22.out.block _ (heap_lt X22.out)).trans X22.out)
                have ALz : Hid (IntsOwn v4 v0.heap.size (.slice (some ⟨bl, ofl, none⟩) nl cL) (allR r)) := Lib.hid (ALLO.out.below intR B4.out)
                have BMz : Hid (Below wM.heap.size wM v4) := Lib.hid (BW.out.trans (B4.out.mono BW.out.size))
                obtain ⟨y0_, y1_⟩ := cell2_of X22z.out
                have hz1 := setRow_heap v4 p14 _ #[.int .i64 j0, .int .i64 j1] 41 _ X14z.out
                have hz0 := below_setRow BMz.out PL14.out.1 #[.int .i64 j0, .int .i64 j1]
                have hz2 : IntsOwn (v4.setRow p14 #[.int .i64 j0, .int .i64 j1]) v0.heap.size (.slice (some ⟨bl, ofl, none⟩) nl cL) (allR r) := own_kept intF ALz.out (grownBy_setRow v4 p14 #[.int .i64 j0, .int .i64 j1]) (fun k hk => by have := own_lo ALz.out k hk; have := PL14.out; omega)
                go_wp2_with ((with_reducible show wpList _ _ _ (⟨none, _, _, _, _, _⟩ :: _) _ _); refine wpList_store_rowS rfl _ (.tmp 14) (.tmp 253) rfl p14 rfl (c' := #[.int .i64 j0, .int .i64 j1]) rfl X14z.out infoJoin2 rfl (by simp [Value.oneCell']) ?_; (generalize v4.setRow p14 #[.int .i64 j0, .int .i64 j1] = vE at hz0 hz1 hz2 ⊢); have Z0 := Lib.hid hz0; have Z1 := Lib.hid hz1; have Z2 := Lib.hid hz2; clear hz0 hz1 hz2)
                go_roundw
                case measure => simp [intOf]; omega
                case rel => exact ⟨a + 1, j0, j1, by omega, by go_num, fun _ => HCN.out, HOVN.out, Z1.out, Z2.out, Z0.out⟩
              have d1 : ((a : Int) == (dn0 : Int) - 1) = true := by have := HOV.out; simp; omega
              have HPV := Lib.hid ((MHP.out.below BM4.out).more BM4.out.size)
              have hl1 : v4.cell? ⟨bl, ofl + a, none⟩ = some (.int .i64 sid) := (B4.out.cell (cell_lt HL1.out)).trans HL1.out
              have HEX := Lib.hid (HEXIT.out hpl)
              clear hpl
              go_upto_region 31 with fail
              clear k0 k1 k2 k3
              refine wp_region_held_drew (S := fun v => Below v4.heap.size v4 v) (by kernel_rfl) (Below.refl v4.heap.size v4).drew (fun hHeld => ?_)
              refine tkH 0 ?_ rfl hHeld ?_ ?_
              rotate_left
              · intro w' hSw; obtain ⟨cv0, cv1, cv2, cv3, cv4, cv5⟩ := cell6_of ((hSw.block _ (heap_lt XPd.out)).trans XPd.out); go_simp; try with_reducible rfl
              simp only [zn, Act.put]
              refine tkH 1 ?_ rfl hHeld ?_ ?_
              rotate_left
              · intro w' hSw; go_simp; try with_reducible rfl
              simp only [zn, Act.put]
              refine tkH 2 ?_ rfl hHeld ?_ ?_
              rotate_left
              · intro w' hSw; go_simp; try with_reducible rfl
              simp only [zn, Act.put]
              refine tkH 3 ?_ rfl hHeld ?_ ?_
              rotate_left
              · intro w' hSw; go_simp; try with_reducible rfl
              simp only [zn, Act.put]
              refine tkH 4 ?_ rfl hHeld ?_ ?_
              rotate_left
              · intro w' hSw; have cl := (hSw.cell (cell_lt hl1)).trans hl1; go_simp; try with_reducible rfl
              simp only [zn, Act.put]
              refine tkH 5 ?_ rfl hHeld ?_ ?_
              rotate_left
              · intro w' hSw; go_simp; try with_reducible rfl
              simp only [zn, Act.put]
              refine wpAnyH_ready (rs := [6]) (by kernel_rfl) (by simp) ?_
              refine AllReadyH.cons rfl (fun K hK => ?_) AllReadyH.nil
              go_simp
              refine (hs.stands _ p sid (e : Int) v4.drew (HPV.out.below ((Below.refl v4.heap.size v4).drew))).mono ?_
              rintro e_ vC ⟨rfl, b⟩
              rw [HSTD.out.1, HSTD.out.2]
              have S22 : Hid (Below v4.heap.size v4 vC) := Lib.hid (((Below.refl v4.heap.size v4).drew).trans b)
              clear b
              try go_wp2_with fail
              refine hK.out _ _ ?_ (fun hHeld => ?_)
              · exact S22.out
              clear hK K
              try simp only [zn, Act.put]
              refine tkH 7 ?_ rfl hHeld ?_ ?_
              rotate_left
              · intro w' hSw; go_simp; try with_reducible rfl
              simp only [zn, Act.put]
              refine tkH 8 ?_ rfl hHeld ?_ ?_
              rotate_left
              · intro w' hSw; go_simp; try with_reducible rfl
              simp only [zn, Act.put]
              refine tkH 9 ?_ rfl hHeld ?_ ?_
              rotate_left
              · intro w' hSw; go_simp; try with_reducible rfl
              simp only [zn, Act.put]
              refine tkH 10 ?_ rfl hHeld ?_ ?_
              rotate_left
              · intro w' hSw; go_simp; try with_reducible rfl
              simp only [zn, Act.put]
              refine tkH 11 ?_ rfl hHeld ?_ ?_
              rotate_left
              · intro w' hSw; go_simp; try with_reducible rfl
              simp only [zn, Act.put]
              refine wpAnyH_done (by kernel_rfl) ?_ _
              have B5 : Hid (Below wr.heap.size wr vC) := Lib.hid (B4.out.trans (S22.out.mono B4.out.size))
              have BM5 : Hid (Below wM.heap.size wM vC) := Lib.hid (BW.out.trans (B5.out.mono BW.out.size))
              have X10e := Lib.hid ((BM5.out.block _ (heap_lt MX10.out)).trans MX10.out)
              have X22e := Lib.hid ((S22.out.block _ (heap_lt X22.out)).trans X22.out)
              obtain ⟨m0, m1, m2, m3, m4, m5, m6⟩ := cell7_of X10e.out
              obtain ⟨n0_, n1_⟩ := cell2_of X22e.out
              rcases HEX.out with ⟨h1, h2, h3⟩ | ⟨h1, h2⟩
              · have d2 : (r.exit != 0) = false := by simpa using h1
                have d3 : (r.exit == 0) = true := by simpa using h1
                subst h2 h3
                have hcmp : ∀ w' : World, (Op.equalIn 10000 41 (.agg #[.int .i64 0, .int .i64 0]) (.agg #[.int .i64 0, .int .i64 0])).run Try.prog w' = .ok true w' := join_self 0 0
                clear h1
                go_upto_region 34 with fail
                clear hcmp d2 d3 m0 m1 m2 m3 m4 m5 m6 n0_ n1_
                have X14z := Lib.hid ((B5.out.block _ (heap_lt X14.out)).trans X14.out)
                have X22z := Lib.hid ((S22.out.block _ (heap_lt X22.out)).trans X22.out)
                have ALz : Hid (IntsOwn vC v0.heap.size (.slice (some ⟨bl, ofl, none⟩) nl cL) (allR r)) := Lib.hid (ALLO.out.below intR B5.out)
                have BMz : Hid (Below wM.heap.size wM vC) := Lib.hid (BW.out.trans (B5.out.mono BW.out.size))
                obtain ⟨y0_, y1_⟩ := cell2_of X22z.out
                have hz1 := setRow_heap vC p14 _ #[.int .i64 0, .int .i64 0] 41 _ X14z.out
                have hz0 := below_setRow BMz.out PL14.out.1 #[.int .i64 0, .int .i64 0]
                have hz2 : IntsOwn (vC.setRow p14 #[.int .i64 0, .int .i64 0]) v0.heap.size (.slice (some ⟨bl, ofl, none⟩) nl cL) (allR r) := own_kept intF ALz.out (grownBy_setRow vC p14 #[.int .i64 0, .int .i64 0]) (fun k hk => by have := own_lo ALz.out k hk; have := PL14.out; omega)
                go_wp2_with ((with_reducible show wpList _ _ _ (⟨none, _, _, _, _, _⟩ :: _) _ _); refine wpList_store_rowS rfl _ (.tmp 14) (.tmp 253) rfl p14 rfl (c' := #[.int .i64 0, .int .i64 0]) rfl X14z.out infoJoin2 rfl (by simp [Value.oneCell']) ?_; (generalize vC.setRow p14 #[.int .i64 0, .int .i64 0] = vE at hz0 hz1 hz2 ⊢); have Z0 := Lib.hid hz0; have Z1 := Lib.hid hz1; have Z2 := Lib.hid hz2; clear hz0 hz1 hz2)
                go_roundw
                case measure => simp [intOf]; omega
                case rel => exact ⟨a + 1, 0, 0, by omega, by go_num, fun _ => HCN.out, HOVN.out, Z1.out, Z2.out, Z0.out⟩
              · have d2 : (r.exit != 0) = true := by simpa using h1
                have d3 : (r.exit == 0) = false := by simpa using h1
                have d4 : (standsS p.sigs sid (e : Int) != r.exit) = false := by simpa using h2
                clear h1 h2
                go_upto_region 34 with fail
                clear d2 d3 d4 m0 m1 m2 m3 m4 m5 m6 n0_ n1_
                have X14z := Lib.hid ((B5.out.block _ (heap_lt X14.out)).trans X14.out)
                have X22z := Lib.hid ((S22.out.block _ (heap_lt X22.out)).trans X22.out)
                have ALz : Hid (IntsOwn vC v0.heap.size (.slice (some ⟨bl, ofl, none⟩) nl cL) (allR r)) := Lib.hid (ALLO.out.below intR B5.out)
                have BMz : Hid (Below wM.heap.size wM vC) := Lib.hid (BW.out.trans (B5.out.mono BW.out.size))
                obtain ⟨y0_, y1_⟩ := cell2_of X22z.out
                have hz1 := setRow_heap vC p14 _ #[.int .i64 j0, .int .i64 j1] 41 _ X14z.out
                have hz0 := below_setRow BMz.out PL14.out.1 #[.int .i64 j0, .int .i64 j1]
                have hz2 : IntsOwn (vC.setRow p14 #[.int .i64 j0, .int .i64 j1]) v0.heap.size (.slice (some ⟨bl, ofl, none⟩) nl cL) (allR r) := own_kept intF ALz.out (grownBy_setRow vC p14 #[.int .i64 j0, .int .i64 j1]) (fun k hk => by have := own_lo ALz.out k hk; have := PL14.out; omega)
                go_wp2_with ((with_reducible show wpList _ _ _ (⟨none, _, _, _, _, _⟩ :: _) _ _); refine wpList_store_rowS rfl _ (.tmp 14) (.tmp 253) rfl p14 rfl (c' := #[.int .i64 j0, .int .i64 j1]) rfl X14z.out infoJoin2 rfl (by simp [Value.oneCell']) ?_; (generalize vC.setRow p14 #[.int .i64 j0, .int .i64 j1] = vE at hz0 hz1 hz2 ⊢); have Z0 := Lib.hid hz0; have Z1 := Lib.hid hz1; have Z2 := Lib.hid hz2; clear hz0 hz1 hz2)
                go_roundw
                case measure => simp [intOf]; omega
                case rel => exact ⟨a + 1, j0, j1, by omega, by go_num, fun _ => HCN.out, HOVN.out, Z1.out, Z2.out, Z0.out⟩
    · obtain rfl : nl = a := by omega
      have hlt' : ¬ (nl : Int) < nl := by omega
      have hll : ((ln0 : Int) == (nl : Int)) = true := by
        have h1 : ln0 = nl := by
          have h2 : ¬ 0 < r.over.length := fun h => by have := HAO.out h; omega
          rw [NL.out, OUTP.out.1, outsN, if_neg h2, ← HNL.out.1]
        simp; omega
      go_wp2_with fail
      go_ret
      exact ⟨rfl, MBZ.out.trans (BW.out.mono MBZ.out.size)⟩
end Go.Proofs.Ytjgdgdccnbmbiaa
