/-
 SoundRuns: the walk, given the program's contracts.
 Conditions: none.
-/
import Derived.Test.YtccbdpeicemnjaaTGSndSt
import Derived.Test.YtccbdpeicemnjaaTSndLie
import Derived.Test.YtccbdpeicemnjaaTGSndPA
import Derived.Test.YtccbdpeicemnjaaTGSndM
import Derived.Test.YtccbdpeicemnjaaTGWayPG
import Derived.Test.YtccbdpeicemnjaaTGWayPA
import Derived.Test.YtccbdpeicemnjaaTWayProg
import Derived.Test.YtccbdpeicemnjaaTGPlnRefD
import Derived.Test.YtccbdpeicemnjaaTGTrkEq
import Derived.BigQuiet
set_option linter.unusedVariables false
set_option linter.unusedSimpArgs false
set_option maxRecDepth 100000
namespace Go.Proofs.Ytccbdpeicemnjaa
open Go.RowKit

theorem infoSec3s : (Try.prog.info? 65).map (·.size) = some 3 := by kernel_rfl
set_option maxHeartbeats 16000000 in
theorem walk_sound_runs (hs : SndSaid) (hw : WaySaid) (hp : PlanSaid) (ht : TrkSaid) (v : Value) (p : Pl) (id : Int) (w : World) (h : PlanV w w.heap.size v p) :
  Calls Try.prog 6 #[v, .int .i64 id] w fun e w' => e = .returned (.bool true) ∧ Below w.heap.size w w' := by
 obtain ⟨y2, y3, y4, y5, rfl, hin⟩ := h
 have HIN0 := Lib.hid hin
 obtain ⟨A2, c2, rfl, -, -⟩ := hin.secs.slice
 obtain ⟨A3, c3, rfl, -, -⟩ := hin.pts.slice
 obtain ⟨A4, c4, rfl, -, -⟩ := hin.sigs.slice
 obtain ⟨A5, c5, rfl, hcl5, hcm5⟩ := hin.routes.slice
 obtain ⟨n2, hn2⟩ : ∃ n, n = p.secs.length := ⟨_, rfl⟩
 obtain ⟨n3, hn3⟩ : ∃ n, n = p.pts.length := ⟨_, rfl⟩
 obtain ⟨n4, hn4⟩ : ∃ n, n = p.sigs.length := ⟨_, rfl⟩
 obtain ⟨n5, hn5⟩ : ∃ n, n = p.routes.length := ⟨_, rfl⟩
 have HM5 : Hid (n5 ≤ 9223372036854775807) := Lib.hid (by rw [hn5]; unfold maxLen at hcm5; omega)
 have HN5 := Lib.hid hn5
 have HP0 : Hid (PlanV w w.heap.size (.agg #[.int .i64 p.ver, .int .i64 p.par, .slice A2 n2 c2, .slice A3 n3 c3, .slice A4 n4 c4, .slice A5 n5 c5]) p) := Lib.hid ⟨_, _, _, _, rfl, by rw [hn2, hn3, hn4, hn5]; exact HIN0.out⟩
 rw [← hn2, ← hn3, ← hn4, ← hn5]
 clear hn2 hn3 hn4 hn5 HIN0 hin hcl5 hcm5
 have hq0 := heap_alloc_self w (.cells #[.int .i64 p.ver, .int .i64 p.par, .slice A2 n2 c2, .slice A3 n3 c3, .slice A4 n4 c4, .slice A5 n5 c5] 27)
 have hqb := below_new w (.cells #[.int .i64 p.ver, .int .i64 p.par, .slice A2 n2 c2, .slice A3 n3 c3, .slice A4 n4 c4, .slice A5 n5 c5] 27)
 go_enter Try.func6, Try.ntmps6
 go_upto_region 1 with fail
 generalize w.alloc (.cells #[.int .i64 p.ver, .int .i64 p.par, .slice A2 n2 c2, .slice A3 n3 c3, .slice A4 n4 c4, .slice A5 n5 c5] 27) = q at hq0 hqb ⊢
 have BZ := Lib.hid hqb
 have XP := Lib.hid hq0
 have HP := Lib.hid ((HP0.out.below hqb).more hqb.size)
 clear hq0 hqb HP0
 go_wp2_with fail
 refine (alive10 hs q).mono ?_
 rintro e w1 ⟨rfl, b1⟩
 replace BZ := Lib.hid (BZ.out.trans (b1.mono BZ.out.size))
 replace XP := Lib.hid ((b1.block _ (heap_lt XP.out)).trans XP.out)
 replace HP := Lib.hid ((HP.out.below b1).more b1.size)
 clear b1
 obtain ⟨k0, k1, k2, k3, k4, k5⟩ := cell6_of XP.out
 go_wp2_with fail
 refine (rgreat8_any _ p w1 HP.out).mono ?_
 rintro e w2 ⟨⟨g, rfl, hg⟩, bG⟩
 clear k0 k1 k2 k3 k4 k5
 replace BZ := Lib.hid (BZ.out.trans (bG.mono BZ.out.size))
 replace XP := Lib.hid ((bG.block _ (heap_lt XP.out)).trans XP.out)
 replace HP := Lib.hid ((HP.out.below bG).more bG.size)
 clear bG
 cases g with
 | true =>
  go_wp2_with fail
  go_ret
  exact ⟨rfl, BZ.out⟩
 | false =>
 have FEW := Lib.hid (hg rfl)
 clear hg
 obtain ⟨k0, k1, k2, k3, k4, k5⟩ := cell6_of XP.out
 obtain ⟨r, hrr⟩ : ∃ x, x = elV p kRt p.routes id zRt := ⟨_, rfl⟩
 obtain ⟨E3, hEr⟩ : ∃ x, x = elE p kRt p.routes id := ⟨_, rfl⟩
 have Vr := Lib.hid hrr
 have VE3 := Lib.hid hEr
 clear hrr hEr
 go_wp2_with fail
 refine (hp.route _ p id w2 HP.out).mono ?_
 rintro e w3 ⟨u3, u4, u5, rfl, hro, bR⟩
 rw [← Vr.out] at hro
 rw [← Vr.out, ← VE3.out]
 obtain ⟨R3, Rg3, rfl⟩ := hro.path.slice
 obtain ⟨R4, Rg4, rfl⟩ := hro.over.slice
 obtain ⟨R5, Rg5, rfl⟩ := hro.flanks.slice
 obtain ⟨Rl3, hl3⟩ : ∃ n, n = r.path.length := ⟨_, rfl⟩
 obtain ⟨Rl4, hl4⟩ : ∃ n, n = r.over.length := ⟨_, rfl⟩
 obtain ⟨Rl5, hl5⟩ : ∃ n, n = r.flanks.length := ⟨_, rfl⟩
 have Nr : Hid (Rl3 = r.path.length ∧ Rl4 = r.over.length ∧ Rl5 = r.flanks.length) := Lib.hid ⟨hl3, hl4, hl5⟩
 have Hr : Hid (RouteV w3 w3.heap.size (.agg #[.int .i64 r.id, .int .i64 r.entry, .int .i64 r.exit, .slice R3 Rl3 Rg3, .slice R4 Rl4 Rg4, .slice R5 Rl5 Rg5, .int .i64 r.timer]) r) := Lib.hid ⟨_, _, _, rfl, by rw [hl3, hl4, hl5]; exact hro.in_⟩
 rw [← hl3, ← hl4, ← hl5]
 clear hro hl3 hl4 hl5 k0 k1 k2 k3 k4 k5
 replace BZ := Lib.hid (BZ.out.trans (bR.mono BZ.out.size))
 replace XP := Lib.hid ((bR.block _ (heap_lt XP.out)).trans XP.out)
 replace HP := Lib.hid ((HP.out.below bR).more bR.size)
 clear bR
 have XX0 := heap_alloc_self w3 (.cells #[.int .i64 0, .int .i64 0, .int .i64 0, .slice none 0 0, .slice none 0 0, .slice none 0 0, .int .i64 0] 34)
 have hb1 := below_setRow (below_new w3 (.cells #[.int .i64 0, .int .i64 0, .int .i64 0, .slice none 0 0, .slice none 0 0, .slice none 0 0, .int .i64 0] 34)) (Nat.le_refl _) #[.int .i64 r.id, .int .i64 r.entry, .int .i64 r.exit, .slice R3 Rl3 Rg3, .slice R4 Rl4 Rg4, .slice R5 Rl5 Rg5, .int .i64 r.timer]
 have hx1 := setRow_heap (w3.alloc (.cells #[.int .i64 0, .int .i64 0, .int .i64 0, .slice none 0 0, .slice none 0 0, .slice none 0 0, .int .i64 0] 34)) w3.heap.size _ #[.int .i64 r.id, .int .i64 r.entry, .int .i64 r.exit, .slice R3 Rl3 Rg3, .slice R4 Rl4 Rg4, .slice R5 Rl5 Rg5, .int .i64 r.timer] 34 _ XX0
 go_upto_region 5 with ((with_reducible show wpList _ _ _ (⟨none, _, _, _, _, _⟩ :: _) _ _); refine wpList_store_rowS rfl _ (.tmp 6) (.tmp 36) rfl w3.heap.size rfl (c' := #[.int .i64 r.id, .int .i64 r.entry, .int .i64 r.exit, .slice R3 Rl3 Rg3, .slice R4 Rl4 Rg4, .slice R5 Rl5 Rg5, .int .i64 r.timer]) rfl XX0 infoRoute7 rfl (by simp [Value.oneCell']) ?_)
 generalize (w3.alloc (.cells #[.int .i64 0, .int .i64 0, .int .i64 0, .slice none 0 0, .slice none 0 0, .slice none 0 0, .int .i64 0] 34)).setRow w3.heap.size #[.int .i64 r.id, .int .i64 r.entry, .int .i64 r.exit, .slice R3 Rl3 Rg3, .slice R4 Rl4 Rg4, .slice R5 Rl5 Rg5, .int .i64 r.timer] = q1 at hb1 hx1 ⊢
 obtain ⟨p6, hp1⟩ : ∃ n, n = w3.heap.size := ⟨_, rfl⟩
 rw [← hp1] at hx1 ⊢
 have X6 := Lib.hid hx1
 clear hx1 XX0 hp1
 replace BZ := Lib.hid (BZ.out.trans (hb1.mono BZ.out.size))
 replace XP := Lib.hid ((hb1.block _ (heap_lt XP.out)).trans XP.out)
 replace HP := Lib.hid ((HP.out.below hb1).more hb1.size)
 replace Hr := Lib.hid ((Hr.out.below hb1).more hb1.size)
 clear hb1
 by_cases h0 : E3 = 0
 rotate_left
 ·have d0 : (E3 != 0) = true := by simpa using h0
  clear h0
  go_wp2_with fail
  go_ret
  exact ⟨rfl, BZ.out⟩
 subst h0
 obtain ⟨k0, k1, k2, k3, k4, k5⟩ := cell6_of XP.out
 go_wp2_with fail
 refine (hs.check _ p q1 HP.out).mono ?_
 rintro e w4 ⟨rfl, b4⟩
 clear k0 k1 k2 k3 k4 k5
 replace BZ := Lib.hid (BZ.out.trans (b4.mono BZ.out.size))
 replace XP := Lib.hid ((b4.block _ (heap_lt XP.out)).trans XP.out)
 replace X6 := Lib.hid ((b4.block _ (heap_lt X6.out)).trans X6.out)
 replace HP := Lib.hid ((HP.out.below b4).more b4.size)
 replace Hr := Lib.hid ((Hr.out.below b4).more b4.size)
 clear b4
 obtain ⟨S, hS⟩ : ∃ x, x = sndE p := ⟨_, rfl⟩
 rw [← hS]
 by_cases h0 : S = 0
 rotate_left
 ·have d0 : (S != 0) = true := by simpa using h0
  clear h0 hS
  go_wp2_with fail
  go_ret
  exact ⟨rfl, BZ.out⟩
 subst h0
 obtain ⟨kr, hkr, hm, hrv, hat⟩ := el_at VE3.out.symm
 have hrk : r = p.routes[kr] := Vr.out.trans hrv
 have HSD : Hid (Sound p r) := Lib.hid (by rw [hrk]; exact (sndE_zero.1 hS.symm).each kr hkr)
 have HRI : Hid (RouteIn p r) := Lib.hid (routeIn_of hm hkr hrk.symm)
 have HHG : Hid (Hangs p r) := Lib.hid HSD.out.hangs
 obtain ⟨x, hx⟩ : ∃ x, x = wayV p id := ⟨_, rfl⟩
 obtain ⟨E, hE⟩ : ∃ x, x = wayE p id := ⟨_, rfl⟩
 have hn : routeN p id = r := (routeN_at hkr hat).trans hrk.symm
 have hE0 : E = 0 := by rw [hE, wayE, if_pos (planMay_true hm), if_neg (by omega), hn, hangsB_true HHG.out, if_pos rfl]
 have HXV : Hid (x = wayR p r) := Lib.hid (by rw [hx, wayV, if_pos (by rw [← hE]; exact hE0), hn])
 have XV := Lib.hid hx
 have XE := Lib.hid hE
 have HE0 := Lib.hid hE0
 have XPO : Hid (x.path = r.path ∧ x.over = r.over) := Lib.hid (by rw [HXV.out]; exact ⟨rfl, rfl⟩)
 obtain ⟨kg, hkg, hatg, hsg, ms, hms, hats, hss, hn0, hn1⟩ := HRI.out.entry
 obtain ⟨gid, sc, en, hge⟩ : ∃ a b c, p.sigs[kg] = (a, b, c) := ⟨_, _, _, rfl⟩
 rw [hge] at hats hss hn0 hn1
 have HSGV : Hid (elE p kSg p.sigs r.entry = 0 ∧ elV p kSg p.sigs r.entry (0, 0, 0) = (gid, sc, en)) := Lib.hid (by
  obtain ⟨h1, h2⟩ := elE_some (z := ((0, 0, 0) : Sg)) (planMay_true HRI.out.plan) hkg hatg
  exact ⟨h1, h2.trans hge⟩)
 obtain ⟨_, hmid⟩ := atS_of hats
 obtain ⟨en', hen⟩ : ∃ n : Nat, en = (n : Int) := ⟨en.toNat, by have h1 : 0 ≤ en := hn0; omega⟩
 have hen1 : en' < p.secs[ms].2.2.length := by have h1 : en < p.secs[ms].2.2.length := hn1; omega
 obtain ⟨u0_, u1_, hju⟩ : ∃ a b, p.secs[ms].2.2.getD en' (0, 0) = (a, b) := ⟨_, _, rfl⟩
 have HNX0 : Hid (nextE7 p.secs sc en = 0 ∧ nextJ7 p.secs sc en = (u0_, u1_) ∧ comesN p r 0 = some (u0_, u1_)) := Lib.hid (by
  obtain ⟨h1, h2⟩ := next_mem HRI.out.plan.secs hms hen1
  rw [hmid] at h1 h2
  refine ⟨by rw [hen]; exact h1, by rw [hen, ← hju]; exact h2, ?_⟩
  rw [comesN, hsg, hge]
  show some ((secN p sc).2.2.getD en.toNat (0, 0)) = _
  rw [hss, hen, Int.toNat_natCast, hju])
 clear hS hm hrv hat hrk hx hE hn hE0 hatg hsg hats hss hn0 hn1 hge hju hen1 hmid hen
 obtain ⟨k0, k1, k2, k3, k4, k5⟩ := cell6_of XP.out
 go_wp2_with fail
 refine (hw.of _ p id w4 HP.out).mono ?_
 rintro e w11 ⟨u0, u1, u2, rfl, hu, b11⟩
 rw [← XV.out] at hu
 rw [← XV.out, ← XE.out, HE0.out]
 obtain ⟨D0, dd0, rfl⟩ := hu.path.slice
 obtain ⟨D1, dd1, rfl⟩ := hu.over.slice
 obtain ⟨D2, dd2, rfl⟩ := hu.asks.slice
 obtain ⟨dn0, hD0⟩ : ∃ n, n = x.path.length := ⟨_, rfl⟩
 obtain ⟨dn1, hD1⟩ : ∃ n, n = x.over.length := ⟨_, rfl⟩
 obtain ⟨dn2, hD2⟩ : ∃ n, n = x.asks.length := ⟨_, rfl⟩
 have ND : Hid (dn0 = x.path.length ∧ dn1 = x.over.length ∧ dn2 = x.asks.length) := Lib.hid ⟨hD0, hD1, hD2⟩
 have WD : Hid (WayV w11 w11.heap.size (.agg #[.slice D0 dn0 dd0, .slice D1 dn1 dd1, .slice D2 dn2 dd2, .int .i64 x.near]) x) := Lib.hid ⟨_, _, _, rfl, by rw [hD0, hD1, hD2]; exact hu.in_⟩
 rw [← hD0, ← hD1, ← hD2]
 clear hu hD0 hD1 hD2 k0 k1 k2 k3 k4 k5
 replace BZ := Lib.hid (BZ.out.trans (b11.mono BZ.out.size))
 replace XP := Lib.hid ((b11.block _ (heap_lt XP.out)).trans XP.out)
 replace X6 := Lib.hid ((b11.block _ (heap_lt X6.out)).trans X6.out)
 replace HP := Lib.hid ((HP.out.below b11).more b11.size)
 replace Hr := Lib.hid ((Hr.out.below b11).more b11.size)
 clear b11
 have XX0 := heap_alloc_self w11 (.cells #[.slice none 0 0, .slice none 0 0, .slice none 0 0, .int .i64 0] 52)
 have hb2 := below_setRow (below_new w11 (.cells #[.slice none 0 0, .slice none 0 0, .slice none 0 0, .int .i64 0] 52)) (Nat.le_refl _) #[.slice D0 dn0 dd0, .slice D1 dn1 dd1, .slice D2 dn2 dd2, .int .i64 x.near]
 have hx2 := setRow_heap (w11.alloc (.cells #[.slice none 0 0, .slice none 0 0, .slice none 0 0, .int .i64 0] 52)) w11.heap.size _ #[.slice D0 dn0 dd0, .slice D1 dn1 dd1, .slice D2 dn2 dd2, .int .i64 x.near] 52 _ XX0
 go_upto_region 8 with ((with_reducible show wpList _ _ _ (⟨none, _, _, _, _, _⟩ :: _) _ _); refine wpList_store_rowS rfl _ (.tmp 8) (.tmp 49) rfl w11.heap.size rfl (c' := #[.slice D0 dn0 dd0, .slice D1 dn1 dd1, .slice D2 dn2 dd2, .int .i64 x.near]) rfl XX0 infoWay4 rfl (by simp [Value.oneCell']) ?_)
 generalize (w11.alloc (.cells #[.slice none 0 0, .slice none 0 0, .slice none 0 0, .int .i64 0] 52)).setRow w11.heap.size #[.slice D0 dn0 dd0, .slice D1 dn1 dd1, .slice D2 dn2 dd2, .int .i64 x.near] = q2 at hb2 hx2 ⊢
 obtain ⟨p8, hp2⟩ : ∃ n, n = w11.heap.size := ⟨_, rfl⟩
 rw [← hp2] at hx2 ⊢
 have X8 := Lib.hid hx2
 clear hx2 XX0 hp2
 replace BZ := Lib.hid (BZ.out.trans (hb2.mono BZ.out.size))
 replace XP := Lib.hid ((hb2.block _ (heap_lt XP.out)).trans XP.out)
 replace X6 := Lib.hid ((hb2.block _ (heap_lt X6.out)).trans X6.out)
 replace HP := Lib.hid ((HP.out.below hb2).more hb2.size)
 replace Hr := Lib.hid ((Hr.out.below hb2).more hb2.size)
 replace WD := Lib.hid ((WD.out.below hb2).more hb2.size)
 clear hb2
 obtain ⟨m0, m1, m2, m3, m4, m5, m6⟩ := cell7_of X6.out
 obtain ⟨k0, k1, k2, k3, k4, k5⟩ := cell6_of XP.out
 go_wp2_with fail
 refine (hp.signal _ p r.entry q2 HP.out).mono ?_
 rintro e w12 ⟨rfl, b12⟩
 rw [HSGV.out.1, HSGV.out.2]
 clear k0 k1 k2 k3 k4 k5 m0 m1 m2 m3 m4 m5 m6
 replace BZ := Lib.hid (BZ.out.trans (b12.mono BZ.out.size))
 replace XP := Lib.hid ((b12.block _ (heap_lt XP.out)).trans XP.out)
 replace X6 := Lib.hid ((b12.block _ (heap_lt X6.out)).trans X6.out)
 replace X8 := Lib.hid ((b12.block _ (heap_lt X8.out)).trans X8.out)
 replace HP := Lib.hid ((HP.out.below b12).more b12.size)
 replace Hr := Lib.hid ((Hr.out.below b12).more b12.size)
 replace WD := Lib.hid ((WD.out.below b12).more b12.size)
 clear b12
 have XX0 := heap_alloc_self w12 (.cells #[.int .i64 0, .int .i64 0, .int .i64 0] 36)
 have hb3 := below_setRow (below_new w12 (.cells #[.int .i64 0, .int .i64 0, .int .i64 0] 36)) (Nat.le_refl _) #[.int .i64 gid, .int .i64 sc, .int .i64 en]
 have hx3 := setRow_heap (w12.alloc (.cells #[.int .i64 0, .int .i64 0, .int .i64 0] 36)) w12.heap.size _ #[.int .i64 gid, .int .i64 sc, .int .i64 en] 36 _ XX0
 go_upto_region 9 with ((with_reducible show wpList _ _ _ (⟨none, _, _, _, _, _⟩ :: _) _ _); refine wpList_store_rowS rfl _ (.tmp 10) (.tmp 56) rfl w12.heap.size rfl (c' := #[.int .i64 gid, .int .i64 sc, .int .i64 en]) rfl XX0 infoSig3 rfl (by simp [Value.oneCell']) ?_)
 generalize (w12.alloc (.cells #[.int .i64 0, .int .i64 0, .int .i64 0] 36)).setRow w12.heap.size #[.int .i64 gid, .int .i64 sc, .int .i64 en] = q3 at hb3 hx3 ⊢
 obtain ⟨p10, hp3⟩ : ∃ n, n = w12.heap.size := ⟨_, rfl⟩
 rw [← hp3] at hx3 ⊢
 have X10 := Lib.hid hx3
 clear hx3 XX0 hp3
 replace BZ := Lib.hid (BZ.out.trans (hb3.mono BZ.out.size))
 replace XP := Lib.hid ((hb3.block _ (heap_lt XP.out)).trans XP.out)
 replace X6 := Lib.hid ((hb3.block _ (heap_lt X6.out)).trans X6.out)
 replace X8 := Lib.hid ((hb3.block _ (heap_lt X8.out)).trans X8.out)
 replace HP := Lib.hid ((HP.out.below hb3).more hb3.size)
 replace Hr := Lib.hid ((Hr.out.below hb3).more hb3.size)
 replace WD := Lib.hid ((WD.out.below hb3).more hb3.size)
 clear hb3
 obtain ⟨oM, hmk, hnm⟩ := made_lies q3
 have bO := below_new q3 oM
 obtain ⟨wO, hwO⟩ : ∃ wO, wO = q3.alloc oM := ⟨_, rfl⟩
 rw [← hwO] at hmk hnm bO
 clear hwO
 go_wp2_with fail
 obtain ⟨wB, hwB⟩ : ∃ u, u = q3 := ⟨_, rfl⟩
 rw [← hwB] at hnm bO ⊢
 obtain ⟨g, hg⟩ : ∃ n, n = wB.heap.size := ⟨_, rfl⟩
 rw [← hg] at hnm ⊢
 have GB := Lib.hid hg
 have BXP : Hid (wB.heap[w.heap.size]? = some (.cells #[.int .i64 p.ver, .int .i64 p.par, .slice A2 n2 c2, .slice A3 n3 c3, .slice A4 n4 c4, .slice A5 n5 c5] 27 (0, 0))) := Lib.hid (by rw [hwB]; exact XP.out)
 have BX6 : Hid (wB.heap[p6]? = some (.cells #[.int .i64 r.id, .int .i64 r.entry, .int .i64 r.exit, .slice R3 Rl3 Rg3, .slice R4 Rl4 Rg4, .slice R5 Rl5 Rg5, .int .i64 r.timer] 34 (0, 0))) := Lib.hid (by rw [hwB]; exact X6.out)
 have BX8 : Hid (wB.heap[p8]? = some (.cells #[.slice D0 dn0 dd0, .slice D1 dn1 dd1, .slice D2 dn2 dd2, .int .i64 x.near] 52 (0, 0))) := Lib.hid (by rw [hwB]; exact X8.out)
 have BX10 : Hid (wB.heap[p10]? = some (.cells #[.int .i64 gid, .int .i64 sc, .int .i64 en] 36 (0, 0))) := Lib.hid (by rw [hwB]; exact X10.out)
 have BHP : Hid (PlanV wB wB.heap.size (.agg #[.int .i64 p.ver, .int .i64 p.par, .slice A2 n2 c2, .slice A3 n3 c3, .slice A4 n4 c4, .slice A5 n5 c5]) p) := Lib.hid (by rw [hwB]; exact HP.out)
 have BAS : Hid (AsksIn wB wB.heap.size (.slice D2 dn2 dd2) x.asks) := Lib.hid (by
  obtain ⟨_, _, _, e, h1⟩ := WD.out
  cases e
  rw [hwB]; exact h1.asks)
 have BPT : Hid (IntsIn wB wB.heap.size (.slice D0 dn0 dd0) r.path) := Lib.hid (by
  obtain ⟨_, _, _, e, h1⟩ := WD.out
  cases e
  rw [hwB, ← XPO.out.1]; exact h1.path)
 have BBZ : Hid (Below w.heap.size w wB) := Lib.hid (by rw [hwB]; exact BZ.out)
 have BO := Lib.hid bO
 have XL0 := Lib.hid hnm
 have HND : Hid (dn0 = r.path.length ∧ dn2 = x.asks.length ∧ dn0 ≤ 6 ∧ 1 ≤ dn0) := Lib.hid (by
  have h1 := HRI.out.route.path
  have h2 := ND.out.1
  rw [XPO.out.1] at h2
  exact ⟨h2, ND.out.2.2, by omega, by omega⟩)
 have hd2 : dn2 ≤ 9223372036854775807 := by
  obtain ⟨_, _, _, _, h1⟩ := BAS.out.slice
  unfold maxLen at h1
  have := HND.out
  omega
 clear hmk hnm bO hg XP X6 X8 X10 HP WD Hr BZ hwB
 go_loopw [13] (fun s13 wr => ∃ k : Nat, k ≤ dn2 ∧ s13 = .int .i64 k ∧ wr.heap[g]? = some (.cells (lieRow fun i => lieA (x.asks.take k) (i : Int)) 3 (0, 0)) ∧ Below wB.heap.size wB wr) (fun s13 _ => dn2 - (intOf s13).toNat)
 case atStart => exact ⟨0, by omega, by go_num, XL0.out, BO.out⟩
 case round =>
  obtain ⟨k, hk, rfl, hl, hb⟩ := hrel
  have XL := Lib.hid hl
  have BW := Lib.hid hb
  clear hl hb
  have X8w := Lib.hid ((BW.out.block _ (heap_lt BX8.out)).trans BX8.out)
  obtain ⟨k0, k1, k2, k3⟩ := cell4_of X8w.out
  by_cases hlt : k < dn2
  ·have hlt' : (k : Int) < dn2 := by omega
   have hka : k < x.asks.length := by have := HND.out; omega
   obtain ⟨e1, e2, e3, hke⟩ : ∃ a b c, x.asks[k] = (a, b, c) := ⟨_, _, _, rfl⟩
   have HKE := Lib.hid hke
   obtain ⟨q_, hq⟩ : ∃ n : Nat, e1 = (n : Int) ∧ n < 100 := by
    have h1 := ask_range HRI.out (k := x.asks[k]) (by rw [← HXV.out]; exact List.getElem_mem hka)
    rw [hke] at h1
    have h2 : 1 ≤ e1 ∧ e1 ≤ 99 := h1
    exact ⟨e1.toNat, by omega, by omega⟩
   obtain ⟨rfl, hq1⟩ := hq
   have HZ0 : Hid (lieA (x.asks.take k) (q_ : Int) = 0) := Lib.hid (lieA_none fun m hm => by
    have h1 := once_take (l := x.asks) (by rw [HXV.out]; exact HSD.out.once) hka m hm
    rw [hke] at h1
    exact h1)
   have HSN : Hid ((fun i : Nat => lieA (x.asks.take (k + 1)) (i : Int)) = fun i => if i = q_ then e2 else lieA (x.asks.take k) (i : Int)) := Lib.hid (funext fun i => by
    have h1 := once_take (l := x.asks) (by rw [HXV.out]; exact HSD.out.once) hka
    rw [List.take_add_one, List.getElem?_eq_getElem hka, Option.toList_some, lieA_snoc h1, hke]
    by_cases h2 : i = q_
    ·rw [if_pos h2, if_pos (by rw [h2])]
    ·rw [if_neg h2, if_neg (show ¬ (i : Int) = (q_ : Int) by omega)])
   obtain ⟨bk, ok, e6, hbk, hg0, hg1, hg2⟩ := (BAS.out.below sigR BW.out).at hka
   cases e6
   have HBK := Lib.hid hbk
   clear hbk
   rw [hke] at hg0 hg1 hg2
   have G0 : Hid (wr.cell? ⟨bk, ok + k * 3, none⟩ = some (.int .i64 (q_ : Int))) := Lib.hid hg0
   have G1 : Hid (wr.cell? ⟨bk, ok + k * 3 + 1, none⟩ = some (.int .i64 e2)) := Lib.hid hg1
   have C0 : Hid (wr.cell? ⟨g, q_, none⟩ = some (.int .i64 0)) := Lib.hid (by rw [lie_cell XL.out hq1, HZ0.out])
   have g0 := G0.out
   have c0 := C0.out
   have hq2 : (q_ : Int) < 100 := by omega
   have hq3 : (0 : Int) ≤ (q_ : Int) := by omega
   clear hke hg0 hg1 hg2
   go_upto_region 17 with fail
   clear g0 c0
   refine wp_region_held_drew (S := fun v => v.heap[p8]? = wr.heap[p8]? ∧ v.heap[bk]? = wr.heap[bk]?) (by kernel_rfl) ⟨rfl, rfl⟩ (fun hHeld => ?_)
   refine tk 0 hHeld ?_;refine tk 1 hHeld ?_;refine tkc 2 hHeld (fun w' hSw => cell4_of (hSw.1.trans X8w.out)) ?_;refine tk 3 hHeld ?_;refine tk 4 hHeld ?_;refine tk 5 hHeld ?_;refine tkc 6 hHeld (fun w' hSw => (World.cell?_of_block (a := ⟨bk, ok + k * 3, none⟩) hSw.2).trans G0.out) ?_;refine tk 7 hHeld ?_;refine tkc 8 hHeld (fun w' hSw => cell4_of (hSw.1.trans X8w.out)) ?_;refine tk 9 hHeld ?_;refine tk 10 hHeld ?_;refine tk 11 hHeld ?_;refine tkc 12 hHeld (fun w' hSw => (World.cell?_of_block (a := ⟨bk, ok + k * 3 + 1, none⟩) hSw.2).trans G1.out) ?_;refine tk 13 hHeld ?_
   have tXL : wr.drew.heap[g]? = _ := XL.out
   have tB : Below wB.heap.size wB wr.drew := BW.out.drew
   have tS : wr.drew.heap[p8]? = wr.heap[p8]? ∧ wr.drew.heap[bk]? = wr.heap[bk]? := ⟨rfl, rfl⟩
   generalize wr.drew = q0 at tXL tB tS hHeld ⊢
   have cs := lie_cell tXL hq1
   have fs := frozen2_of tXL q_
   refine tkr 14 (fun K hK => ?_)
   rw [if_pos (by rfl)]
   go_simp
   refine hK.out _ _ ?_ fun hHeld => ?_;exact ⟨(heap_setFar q0 _ _ _ _ (by have h1 := heap_lt BX8.out; have h2 := GB.out; omega)).trans tS.1, (heap_setFar q0 _ _ _ _ (by have h1 := HBK.out; have h2 := GB.out; omega)).trans tS.2⟩;clear hK K;try simp only [zn, Act.put]
   refine wpAnyH_done (by kernel_rfl) ?_ _
   have tX := heap_setK (k := q_) tXL (.int .i64 e2)
   have tB2 := below_set tB (show wB.heap.size ≤ g by have := GB.out; omega) q_ (.int .i64 e2)
   generalize q0.setCell ⟨g, q_, none⟩ (.int .i64 e2) = q1_ at tX tB2 ⊢
   rw [lieRow_set _ _ hq1, ← HSN.out] at tX
   have XLn := Lib.hid tX
   have BLn := Lib.hid tB2
   clear tXL tB tS cs fs tX tB2 k0 k1 k2 k3
   go_wp2_with fail
   go_roundw
   case measure => simp [intOf]; omega
   case rel => exact ⟨k + 1, by omega, by go_num, XLn.out, BLn.out⟩
  ·obtain rfl : k = dn2 := by omega
   have hlt' : ¬ (k : Int) < k := by omega
   have XLA : Hid (wr.heap[g]? = some (.cells (lieRow fun i => lieA x.asks (i : Int)) 3 (0, 0))) := Lib.hid (by
    have h1 := XL.out
    rw [List.take_of_length_le (by have := HND.out; omega)] at h1
    exact h1)
   go_upto_region 18 with fail
   clear k0 k1 k2 k3 XL hlt hlt' hk hd2
   have XPa := Lib.hid ((BW.out.block _ (heap_lt BXP.out)).trans BXP.out)
   have X10a := Lib.hid ((BW.out.block _ (heap_lt BX10.out)).trans BX10.out)
   have HPa := Lib.hid ((BHP.out.below BW.out).more BW.out.size)
   have SSa : Hid (SectsIn wr wr.heap.size (.slice A2 n2 c2) p.secs) := Lib.hid (by
    obtain ⟨_, _, _, _, e, hi⟩ := HPa.out
    cases e
    exact hi.secs)
   obtain ⟨k0, k1, k2, k3, k4, k5⟩ := cell6_of XPa.out
   obtain ⟨m0, m1, m2⟩ := cell3_of X10a.out
   go_wp2_with fail
   refine (ht.next _ p.secs sc en wr SSa.out).mono ?_
   rintro e wN ⟨rfl, bN⟩
   rw [HNX0.out.1, HNX0.out.2.1]
   clear k0 k1 k2 k3 k4 k5 m0 m1 m2
   have XX0 := heap_alloc_self wN (.cells #[.int .i64 0, .int .i64 0] 60)
   have hz0 := below_setRow (below_new wN (.cells #[.int .i64 0, .int .i64 0] 60)) (Nat.le_refl _) #[.int .i64 u0_, .int .i64 u1_]
   have hz1 := setRow_heap (wN.alloc (.cells #[.int .i64 0, .int .i64 0] 60)) wN.heap.size _ #[.int .i64 u0_, .int .i64 u1_] 60 _ XX0
   go_upto_region 19 with ((with_reducible show wpList _ _ _ (⟨none, _, _, _, _, _⟩ :: _) _ _); refine wpList_store_rowS rfl _ (.tmp 14) (.tmp 104) rfl wN.heap.size rfl (c' := #[.int .i64 u0_, .int .i64 u1_]) rfl XX0 infoJoin2 rfl (by simp [Value.oneCell']) ?_)
   generalize (wN.alloc (.cells #[.int .i64 0, .int .i64 0] 60)).setRow wN.heap.size #[.int .i64 u0_, .int .i64 u1_] = v0 at hz0 hz1 ⊢
   obtain ⟨wM, hwM⟩ : ∃ u, u = wN := ⟨_, rfl⟩
   rw [← hwM] at hz0 hz1 ⊢
   obtain ⟨p14, hp14⟩ : ∃ n, n = wM.heap.size := ⟨_, rfl⟩
   rw [← hp14] at hz1 ⊢
   have BWM : Hid (Below wB.heap.size wB wM) := Lib.hid (by rw [hwM]; exact BW.out.trans (bN.mono BW.out.size))
   have MXL : Hid (wM.heap[g]? = some (.cells (lieRow fun i => lieA x.asks (i : Int)) 3 (0, 0))) := Lib.hid (by rw [hwM]; exact (bN.block _ (heap_lt XLA.out)).trans XLA.out)
   have MXP := Lib.hid ((BWM.out.block _ (heap_lt BXP.out)).trans BXP.out)
   have MX6 := Lib.hid ((BWM.out.block _ (heap_lt BX6.out)).trans BX6.out)
   have MX8 := Lib.hid ((BWM.out.block _ (heap_lt BX8.out)).trans BX8.out)
   have MHP := Lib.hid ((BHP.out.below BWM.out).more BWM.out.size)
   have MPT := Lib.hid ((BPT.out.below intR BWM.out).more intR BWM.out.size)
   have MBZ := Lib.hid (BBZ.out.trans (BWM.out.mono BBZ.out.size))
   have MSS : Hid (SectsIn wM wM.heap.size (.slice A2 n2 c2) p.secs) := Lib.hid (by
    obtain ⟨_, _, _, _, e, hi⟩ := MHP.out
    cases e
    exact hi.secs)
   have PL14 : Hid (wM.heap.size ≤ p14) := Lib.hid (by rw [hp14]; exact Nat.le_refl _)
   have X14s := Lib.hid hz1
   have BM0 := Lib.hid hz0
   have hd6 : dn0 ≤ 6 := HND.out.2.2.1
   have hwd : IntKind.i64.wrap ((dn0 : Int) - 1) = (dn0 : Int) - 1 := wrap_id (by have := HND.out; omega) (by omega)
   clear XX0 hz0 hz1 hp14 hwM bN XPa X10a HPa SSa XLA BW BXP BX6 BX8 BX10 BHP BAS BPT BBZ BO XL0
   go_wp2_with fail
   go_loopw [15, 16] (fun s15 s16 wr => ∃ (a : Nat) (t0 t1 : Int), a ≤ dn0 ∧ s16 = .int .i64 a ∧ s15 = .int .i64 0 ∧ comesN p r a = some (t0, t1) ∧ (a = r.path.length → r.exit = 0 → t0 = 0 ∧ t1 = 0) ∧ wr.heap[p14]? = some (.cells #[.int .i64 t0, .int .i64 t1] 60 (0, 0)) ∧ Below wM.heap.size wM wr) (fun _ s16 _ => dn0 - (intOf s16).toNat)
   case atStart => exact ⟨0, u0_, u1_, by omega, by go_num, rfl, HNX0.out.2.2, fun h => by have := HND.out; omega, X14s.out, BM0.out⟩
   case round =>
    clear X14s BM0
    obtain ⟨a, t0, t1, hi, rfl, rfl, hcm, hen0, hx14, hb⟩ := hrel
    have HC := Lib.hid hcm
    have HE0_ := Lib.hid hen0
    have X14 := Lib.hid hx14
    have BW := Lib.hid hb
    clear hcm hen0 hx14 hb
    have X8w := Lib.hid ((BW.out.block _ (heap_lt MX8.out)).trans MX8.out)
    obtain ⟨k0, k1, k2, k3⟩ := cell4_of X8w.out
    by_cases hlt : a < dn0
    ·have hlt' : (a : Int) < dn0 := by omega
     have hap : a < r.path.length := by have := HND.out; omega
     have ha : a < (allR r).length := by have := HRI.out.len; omega
     obtain ⟨jj, hc, hj, hout⟩ := HHG.out a ha
     have hcc := HC.out
     rw [hc] at hcc
     injection hcc with hcc
     subst hcc
     have hlb : lastB r a = false := decide_eq_false (fun h => by have h1 := HRI.out.len; omega)
     obtain ⟨z, hz⟩ : ∃ z, z = (allR r).getD a 0 := ⟨_, rfl⟩
     obtain rfl : t0 = z := hj.trans hz.symm
     have HH : Hid (HereIn p r a (t0, t1)) := Lib.hid ⟨hc, hj⟩
     obtain ⟨ks, hks, hat, hsk, hidk⟩ := HRI.out.sec ha
     obtain ⟨sid, spt, es, hse⟩ : ∃ a b c, p.secs[ks] = (a, b, c) := ⟨_, _, _, rfl⟩
     obtain rfl : sid = t0 := by rw [hse] at hidk; exact hidk.trans hz.symm
     have HSE : Hid (p.secs[ks] = (sid, spt, es)) := Lib.hid hse
     have HSN : Hid (secN p ((allR r).getD a 0) = (sid, spt, es)) := Lib.hid (hsk.trans hse)
     have HFD : Hid (findE7 p.secs sid = 0 ∧ findS7 p.secs sid = (sid, spt, es)) := Lib.hid (by
      obtain ⟨h1, h2⟩ := find_mem HRI.out.plan.secs hks
      rw [hse] at h1 h2
      exact ⟨h1, h2⟩)
     obtain ⟨e, he, heq, hrb⟩ : ∃ e, e < (secN p ((allR r).getD a 0)).2.2.length ∧ outN p r a t1 = (e : Int) ∧ rightB p r a t1 e = true := by
      rcases outN_cases p r a t1 with h1 | h1
      ·have h2 : (0 : Int) ≤ outN p r a t1 := hout hlb
       omega
      ·exact h1
     have hl0 : 0 ≤ lieS (secN p ((allR r).getD a 0)).2.1 t1 (e : Int) := by
      rw [rightB] at hrb
      simp only [Bool.and_eq_true, decide_eq_true_eq] at hrb
      exact hrb.1
     obtain ⟨LV, hLV, go1, go2⟩ := sound_out HSD.out HRI.out ha HH.out hlb heq he hl0
     have hcn := comes_succ hc hj heq
     have hoA : outA p r a = (e : Int) := by rw [outA, hlb, in_of hc]; exact heq
     rw [HSN.out] at hLV go1 go2 he hcn hl0
     dsimp only at hLV
     rw [← HXV.out] at hLV
     have HLV := Lib.hid hLV
     have GO : Hid (outE (sid, spt, es) t1 LV = 0 ∧ outV (sid, spt, es) t1 LV = (e : Int)) := Lib.hid ⟨go1, go2⟩
     have HPT : Hid (spt = 0 ∨ ∃ n : Nat, spt = (n : Int) ∧ 0 < n ∧ n < 100) := Lib.hid (by
      have h1 := (HRI.out.shaped ha).1
      rw [HSN.out, shapedB] at h1
      by_cases h2 : spt = 0
      ·exact .inl h2
      ·rw [if_neg h2] at h1
       simp only [Bool.and_eq_true, decide_eq_true_eq] at h1
       have h3 : 1 ≤ spt ∧ spt ≤ 99 := ⟨h1.1, h1.2.1⟩
       exact .inr ⟨spt.toNat, by omega, by omega, by omega⟩)
     obtain ⟨j0, j1, hjn⟩ : ∃ a b, es.getD e (0, 0) = (a, b) := ⟨_, _, rfl⟩
     have HCN : Hid (comesN p r (a + 1) = some (j0, j1)) := Lib.hid (by rw [hcn]; exact congrArg some hjn)
     have HNXT : Hid (nextE7 p.secs sid (e : Int) = 0 ∧ nextJ7 p.secs sid (e : Int) = (j0, j1)) := Lib.hid (by
      obtain ⟨h1, h2⟩ := next_mem HRI.out.plan.secs hks (e := e) (by rw [hse]; exact he)
      rw [hse] at h1 h2
      exact ⟨h1, h2.trans hjn⟩)
     have HSTD : Hid (stE p sid (e : Int) = 0 ∧ stN p sid (e : Int) = standsS p.sigs sid (e : Int)) := Lib.hid (by
      have h1 := stand_at HRI.out.plan hks (e := e) (by rw [hse]; exact he)
      rw [hse] at h1
      exact h1)
     have hpa : r.path[a] = sid := by rw [← path_getD hap]; exact hz.symm
     have HST : Hid ((a + 1 < r.path.length → standsS p.sigs sid (e : Int) = 0) ∧ (a + 1 = r.path.length → standsS p.sigs sid (e : Int) = r.exit)) := Lib.hid (by
      have h1 := HSD.out.stands a hap
      rw [hpa, hoA] at h1
      exact h1)
     have HEND : Hid (a + 1 = r.path.length → r.exit = 0 → j0 = 0 ∧ j1 = 0) := Lib.hid (fun hpl hx0 => by
      rw [rightB, HSN.out] at hrb
      simp only [Bool.and_eq_true, if_pos hpl, decide_eq_true_eq] at hrb
      rcases hrb.2 with h1 | h1
      ·rw [hjn] at h1
       have h2 : j0 = 0 := h1.2
       rcases end_join HRI.out.plan.secs hks (k := e) (by rw [hse]; exact he) with h3 | ⟨h3, -⟩
       ·rw [hse] at h3
        have h4 : es.getD e (0, 0) = (0, 0) := h3
        rw [hjn] at h4
        injection h4 with h5 h6
        exact ⟨h5, h6⟩
       ·rw [hse] at h3
        have h4 : (es.getD e (0, 0)).1 ≠ 0 := h3
        rw [hjn] at h4
        exact absurd h2 h4
      ·exact absurd hx0 h1.1)
     obtain ⟨ne, hne⟩ : ∃ n, n = es.length := ⟨_, rfl⟩
     have HNE := Lib.hid hne
     have HEL : Hid (e < es.length) := Lib.hid he
     obtain ⟨bl, ofl, e5, -, hd0⟩ := (MPT.out.below intR BW.out).at hap
     cases e5
     have HL1 : Hid (wr.cell? ⟨bl, ofl + a, none⟩ = some (.int .i64 sid)) := Lib.hid (by rw [hpa] at hd0; simpa [IntR] using hd0)
     have XPw := Lib.hid ((BW.out.block _ (heap_lt MXP.out)).trans MXP.out)
     have SSw := Lib.hid ((MSS.out.below secR_ BW.out).more secR_ BW.out.size)
     clear hz hat hsk hidk hse hout hc hj hd0 hne hlb he heq hrb hl0 hLV go1 go2 hcn hoA hjn hpa
     go_upto_region 22 with fail
     clear k0 k1 k2 k3
     go_cut [17, 18] from 113 to 123 (fun s17 s18 wx => ∃ p17 U uc, s17 = .pointer (some ⟨p17, 0, none⟩) ∧ s18 = .int .i64 0 ∧ wx.heap[p17]? = some (.cells #[.int .i64 sid, .int .i64 spt, .slice U ne uc] 65 (0, 0)) ∧ JoinsIn wx wx.heap.size (.slice U ne uc) es ∧ Below wr.heap.size wr wx)
     case first =>
      refine wp_region_held_drew (S := fun v => Below wr.heap.size wr v) (by kernel_rfl) (Below.refl wr.heap.size wr).drew (fun hHeld => ?_)
      refine tk 0 hHeld ?_;refine tkc 1 hHeld (fun w' hSw => cell6_of ((hSw.block _ (heap_lt XPw.out)).trans XPw.out)) ?_;refine tk 2 hHeld ?_;refine tkc 3 hHeld (fun w' hSw => cell4_of ((hSw.block _ (heap_lt X8w.out)).trans X8w.out)) ?_;refine tk 4 hHeld ?_;refine tk 5 hHeld ?_;refine tkc 6 hHeld (fun w' hSw => (hSw.cell (cell_lt HL1.out)).trans HL1.out) ?_
      have tb := (Below.refl wr.heap.size wr).drew
      generalize wr.drew = q0_ at tb hHeld ⊢
      have HB := Lib.hid tb
      clear tb
      refine wpAnyH_ready (rs := [7, 11]) (by kernel_rfl) (by simp) ?_
      refine AllReadyH.cons rfl (fun K hK => ?_) (AllReadyH.cons rfl (fun K hK => ?_) AllReadyH.nil)
      ·go_simp
       refine (ht.find _ p.secs sid q0_ ((SSw.out.below secR_ HB.out).more secR_ HB.out.size)).mono ?_
       rintro e qA_ ⟨u_, rfl, hu_, b⟩
       rw [HFD.out.2] at hu_
       rw [HFD.out.1, HFD.out.2]
       obtain ⟨U, uc, rfl⟩ := hu_.slice
       have hu0 := hu_.mono (Nat.zero_le _)
       clear hu_
       dsimp only at hu0 ⊢
       rw [← HNE.out] at hu0 ⊢
       have HB' := Lib.hid (HB.out.trans (b.mono HB.out.size))
       have OU : Hid (JoinsOwn qA_ 0 (.slice U ne uc) es) := Lib.hid hu0
       clear hu0
       clear HB
       have HB := HB'
       clear HB' b
       try go_wp2_with fail
       refine hK.out _ _ ?_ fun hHeld => ?_;exact HB.out;clear hK K;try simp only [zn, Act.put]
       refine tk 8 hHeld ?_;refine tk 9 hHeld ?_;refine tk 10 hHeld ?_
       refine tkr 11 (fun K hK => ?_)
       go_simp
       have tb := HB.out.alloc HB.out.size (.cells #[.int .i64 0, .int .i64 0, .slice none 0 0] 65)
       have t6 := heap_alloc_self qA_ (.cells #[.int .i64 0, .int .i64 0, .slice none 0 0] 65)
       have tO := OU.out.below joinR (below_new qA_ (.cells #[.int .i64 0, .int .i64 0, .slice none 0 0] 65))
       refine hK.out _ _ ?_ fun hHeld => ?_;exact tb;clear hK K;try simp only [zn, Act.put]
       generalize qA_.alloc (.cells #[.int .i64 0, .int .i64 0, .slice none 0 0] 65) = qB_ at tb t6 tO hHeld ⊢
       obtain ⟨p17, hp⟩ : ∃ n, n = qA_.heap.size := ⟨_, rfl⟩
       rw [← hp] at t6 ⊢
       have PLB : Hid (wr.heap.size ≤ p17) := Lib.hid (by rw [hp]; exact HB.out.size)
       clear HB hp OU
       have HB := Lib.hid tb
       have XB := Lib.hid t6
       have OU := Lib.hid tO
       clear tb t6 tO
       refine tkr 12 (fun K hK => ?_)
       rw [if_pos (by rfl)]
       refine wp_store_rowS 65 (.tmp 17) (.tmp 122) rfl p17 rfl (c' := #[.int .i64 sid, .int .i64 spt, .slice U ne uc]) rfl XB.out infoSec3s rfl (by simp [Value.oneCell']) ?_
       have tb := below_setRow HB.out PLB.out #[.int .i64 sid, .int .i64 spt, .slice U ne uc]
       have t6 := setRow_heap _ _ _ #[.int .i64 sid, .int .i64 spt, .slice U ne uc] _ _ XB.out
       have tO : JoinsOwn (qB_.setRow p17 #[.int .i64 sid, .int .i64 spt, .slice U ne uc]) 0 (.slice U ne uc) es := own_offT joinF OU.out (grownBy_setRow qB_ p17 #[.int .i64 sid, .int .i64 spt, .slice U ne uc]) (by decide) ⟨_, XB.out⟩
       refine hK.out _ _ ?_ fun hHeld => ?_;exact tb;clear hK K;try simp only [zn, Act.put]
       generalize qB_.setRow p17 #[.int .i64 sid, .int .i64 spt, .slice U ne uc] = qC_ at tb t6 tO hHeld ⊢
       refine tk 13 hHeld ?_
       refine wpAnyH_done (by kernel_rfl) ?_ _
       go_wp2_with fail
       go_meet
       exact ⟨p17, U, uc, rfl, rfl, t6, tO.in_ joinR_cells, tb⟩
      ·go_simp
       have tb := HB.out.alloc HB.out.size (.cells #[.int .i64 0, .int .i64 0, .slice none 0 0] 65)
       have t6 := heap_alloc_self q0_ (.cells #[.int .i64 0, .int .i64 0, .slice none 0 0] 65)
       refine hK.out _ _ ?_ fun hHeld => ?_;exact tb;clear hK K;try simp only [zn, Act.put]
       generalize q0_.alloc (.cells #[.int .i64 0, .int .i64 0, .slice none 0 0] 65) = qA_ at tb t6 hHeld ⊢
       obtain ⟨p17, hp⟩ : ∃ n, n = q0_.heap.size := ⟨_, rfl⟩
       rw [← hp] at t6 ⊢
       have PLB : Hid (wr.heap.size ≤ p17) := Lib.hid (by rw [hp]; exact HB.out.size)
       clear HB hp
       have HB := Lib.hid tb
       have XA_ := Lib.hid t6
       clear tb t6
       refine tkr 7 (fun K hK => ?_)
       go_simp
       refine (ht.find _ p.secs sid qA_ ((SSw.out.below secR_ HB.out).more secR_ HB.out.size)).mono ?_
       rintro e qB_ ⟨u_, rfl, hu_, b⟩
       rw [HFD.out.2] at hu_
       rw [HFD.out.1, HFD.out.2]
       obtain ⟨U, uc, rfl⟩ := hu_.slice
       have hu0 := hu_.mono (Nat.zero_le _)
       clear hu_
       dsimp only at hu0 ⊢
       rw [← HNE.out] at hu0 ⊢
       have HB' := Lib.hid (HB.out.trans (b.mono HB.out.size))
       have OU : Hid (JoinsOwn qB_ 0 (.slice U ne uc) es) := Lib.hid hu0
       clear hu0
       have XB := Lib.hid ((b.block _ (heap_lt XA_.out)).trans XA_.out)
       clear HB XA_
       have HB := HB'
       clear HB' b
       try go_wp2_with fail
       refine hK.out _ _ ?_ fun hHeld => ?_;exact HB.out;clear hK K;try simp only [zn, Act.put]
       refine tk 8 hHeld ?_;refine tk 9 hHeld ?_;refine tk 10 hHeld ?_
       refine tkr 12 (fun K hK => ?_)
       rw [if_pos (by rfl)]
       refine wp_store_rowS 65 (.tmp 17) (.tmp 122) rfl p17 rfl (c' := #[.int .i64 sid, .int .i64 spt, .slice U ne uc]) rfl XB.out infoSec3s rfl (by simp [Value.oneCell']) ?_
       have tb := below_setRow HB.out PLB.out #[.int .i64 sid, .int .i64 spt, .slice U ne uc]
       have t6 := setRow_heap _ _ _ #[.int .i64 sid, .int .i64 spt, .slice U ne uc] _ _ XB.out
       have tO : JoinsOwn (qB_.setRow p17 #[.int .i64 sid, .int .i64 spt, .slice U ne uc]) 0 (.slice U ne uc) es := own_offT joinF OU.out (grownBy_setRow qB_ p17 #[.int .i64 sid, .int .i64 spt, .slice U ne uc]) (by decide) ⟨_, XB.out⟩
       refine hK.out _ _ ?_ fun hHeld => ?_;exact tb;clear hK K;try simp only [zn, Act.put]
       generalize qB_.setRow p17 #[.int .i64 sid, .int .i64 spt, .slice U ne uc] = qC_ at tb t6 tO hHeld ⊢
       refine tk 13 hHeld ?_
       refine wpAnyH_done (by kernel_rfl) ?_ _
       go_wp2_with fail
       go_meet
       exact ⟨p17, U, uc, rfl, rfl, t6, tO.in_ joinR_cells, tb⟩
     case rest =>
      obtain ⟨p17, U, uc, rfl, rfl, hx17, hju, hbv⟩ := hcut
      obtain ⟨v2, hv2⟩ : ∃ u, u = wc := ⟨_, rfl⟩
      subst hv2
      have X17 := Lib.hid hx17
      have SE2 : Hid (SecV v2 v2.heap.size (.agg #[.int .i64 sid, .int .i64 spt, .slice U ne uc]) (sid, spt, es)) := Lib.hid ⟨_, rfl, hju⟩
      have B2 := Lib.hid hbv
      have X14b := Lib.hid ((B2.out.block _ (heap_lt X14.out)).trans X14.out)
      have X8b := Lib.hid ((B2.out.block _ (heap_lt X8w.out)).trans X8w.out)
      have L1b := Lib.hid ((B2.out.cell (cell_lt HL1.out)).trans HL1.out)
      clear hx17 hju hbv X8w HL1 XPw SSw
      have g0 := L1b.out
      have ha0 : (a : Int) < dn0 := by omega
      have d1 : (sid != sid) = false := by simp
      obtain ⟨k0, k1, k2, k3⟩ := cell4_of X8b.out
      obtain ⟨m0, m1⟩ := cell2_of X14b.out
      have BD : Hid (∀ nq, Below v2.heap.size v2 (v2.drewN nq)) := Lib.hid (fun nq => drewN_below v2 nq)
      go_upto_region 23 with fail
      go_quiet (fail)
      have hdb := BD.out nq
      generalize v2.drewN nq = v3 at hdb ⊢
      have B3 : Hid (Below wr.heap.size wr v3) := Lib.hid (B2.out.trans (hdb.mono B2.out.size))
      have BM3 : Hid (Below wM.heap.size wM v3) := Lib.hid (BW.out.trans (B3.out.mono BW.out.size))
      have X17c := Lib.hid ((hdb.block _ (heap_lt X17.out)).trans X17.out)
      have X14c := Lib.hid ((hdb.block _ (heap_lt X14b.out)).trans X14b.out)
      have SE3 := Lib.hid ((SE2.out.below hdb).more hdb.size)
      have XL3 := Lib.hid ((BM3.out.block _ (heap_lt MXL.out)).trans MXL.out)
      clear hdb BD g0 ha0 d1 k0 k1 k2 k3 m0 m1 X17 X14b X8b L1b SE2 B2
      obtain ⟨q0, q1, q2⟩ := cell3_of X17c.out
      obtain ⟨m0, m1⟩ := cell2_of X14c.out
      rcases HPT.out with h0 | ⟨n_, h0, hn1_, hn2_⟩
      ·have hlv : LV = 0 := by rw [HLV.out, if_pos h0]
       have d1 : ¬ (0 : Int) < spt := by omega
       subst hlv
       clear h0
       go_wp2_with fail
       refine (ht.out _ (sid, spt, es) t1 0 v3 SE3.out).mono ?_
       rintro e_ v4 ⟨rfl, b4⟩
       rw [GO.out.1, GO.out.2]
       have B4 : Hid (Below wr.heap.size wr v4) := Lib.hid (B3.out.trans (b4.mono B3.out.size))
       have BM4 : Hid (Below wM.heap.size wM v4) := Lib.hid (BW.out.trans (B4.out.mono BW.out.size))
       have X17d := Lib.hid ((b4.block _ (heap_lt X17c.out)).trans X17c.out)
       have X14d := Lib.hid ((b4.block _ (heap_lt X14c.out)).trans X14c.out)
       have XPd := Lib.hid ((BM4.out.block _ (heap_lt MXP.out)).trans MXP.out)
       have HPd := Lib.hid ((MHP.out.below BM4.out).more BM4.out.size)
       clear b4 q0 q1 q2 m0 m1 
       obtain ⟨q0, q1, q2⟩ := cell3_of X17d.out
       obtain ⟨k0, k1, k2, k3, k4, k5⟩ := cell6_of XPd.out
       go_wp2_with fail
       refine (hp.stands _ p sid (e : Int) v4 HPd.out).mono ?_
       rintro e_ v5 ⟨rfl, b5⟩
       rw [HSTD.out.1, HSTD.out.2]
       have B5 : Hid (Below wr.heap.size wr v5) := Lib.hid (B4.out.trans (b5.mono B4.out.size))
       have BM5 : Hid (Below wM.heap.size wM v5) := Lib.hid (BW.out.trans (B5.out.mono BW.out.size))
       have X17e := Lib.hid ((b5.block _ (heap_lt X17d.out)).trans X17d.out)
       have X14e := Lib.hid ((b5.block _ (heap_lt X14d.out)).trans X14d.out)
       have XPe := Lib.hid ((BM5.out.block _ (heap_lt MXP.out)).trans MXP.out)
       have X8e := Lib.hid ((BM5.out.block _ (heap_lt MX8.out)).trans MX8.out)
       have X6e := Lib.hid ((BM5.out.block _ (heap_lt MX6.out)).trans MX6.out)
       have SSe := Lib.hid ((MSS.out.below secR_ BM5.out).more secR_ BM5.out.size)
       clear b5 q0 q1 q2 k0 k1 k2 k3 k4 k5 X17c X14c X17d X14d XPd HPd B4 BM4 BM3 B3 SE3 XL3
       obtain ⟨sg, hsg⟩ : ∃ y, y = standsS p.sigs sid (e : Int) := ⟨_, rfl⟩
       rw [← hsg]
       have HSG := Lib.hid hsg
       clear hsg
       obtain ⟨q0, q1, q2⟩ := cell3_of X17e.out
       obtain ⟨k0, k1, k2, k3⟩ := cell4_of X8e.out
       obtain ⟨r0_, r1_, r2_, r3_, r4_, r5_, r6_⟩ := cell7_of X6e.out
       obtain ⟨l0_, l1_, l2_, l3_, l4_, l5_⟩ := cell6_of XPe.out
       by_cases hla : a + 1 = dn0
       ·have d3 : ¬ ((a : Int) < (dn0 : Int) - 1) := by omega
        have d4 : ((a : Int) == (dn0 : Int) - 1) = true := by simp; omega
        have d5 : (sg != r.exit) = false := by
         have h1 := HST.out.2 (by have := HND.out; omega)
         rw [HSG.out]
         simpa using h1
        clear hla
        go_wp2_with fail
        refine (ht.next _ p.secs sid (e : Int) v5 SSe.out).mono ?_
        rintro e_ v6 ⟨rfl, b6⟩
        rw [HNXT.out.1, HNXT.out.2]
        have X14f := Lib.hid ((b6.block _ (heap_lt X14e.out)).trans X14e.out)
        have BM6 : Hid (Below wM.heap.size wM v6) := Lib.hid (BM5.out.trans (b6.mono BM5.out.size))
        have X17f := Lib.hid ((b6.block _ (heap_lt X17e.out)).trans X17e.out)
        clear b6 q0 q1 q2 k0 k1 k2 k3 r0_ r1_ r2_ r3_ r4_ r5_ r6_ l0_ l1_ l2_ l3_ l4_ l5_ d3 d4 d5
        have hz1 := setRow_heap v6 p14 _ #[.int .i64 j0, .int .i64 j1] 60 _ X14f.out
        have hz0 := below_setRow BM6.out PL14.out #[.int .i64 j0, .int .i64 j1]
        go_wp2_with ((with_reducible show wpList _ _ _ (⟨none, _, _, _, _, _⟩ :: _) _ _); refine wpList_store_rowS rfl _ (.tmp 14) (.tmp 201) rfl p14 rfl (c' := #[.int .i64 j0, .int .i64 j1]) rfl X14f.out infoJoin2 rfl (by simp [Value.oneCell']) ?_; (generalize v6.setRow p14 #[.int .i64 j0, .int .i64 j1] = vE at hz0 hz1 ⊢); have Z0 := Lib.hid hz0; have Z1 := Lib.hid hz1; clear hz0 hz1)
        go_roundw
        case measure => simp [intOf]; omega
        case rel => exact ⟨a + 1, j0, j1, by omega, by go_num, rfl, HCN.out, HEND.out, Z1.out, Z0.out⟩
       ·have d3 : (a : Int) < (dn0 : Int) - 1 := by omega
        have d4 : ((a : Int) == (dn0 : Int) - 1) = false := by simp; omega
        have d5 : (sg != 0) = false := by
         have h1 := HST.out.1 (by have := HND.out; omega)
         rw [HSG.out]
         simpa using h1
        clear hla
        go_wp2_with fail
        refine (ht.next _ p.secs sid (e : Int) v5 SSe.out).mono ?_
        rintro e_ v6 ⟨rfl, b6⟩
        rw [HNXT.out.1, HNXT.out.2]
        have X14f := Lib.hid ((b6.block _ (heap_lt X14e.out)).trans X14e.out)
        have BM6 : Hid (Below wM.heap.size wM v6) := Lib.hid (BM5.out.trans (b6.mono BM5.out.size))
        have X17f := Lib.hid ((b6.block _ (heap_lt X17e.out)).trans X17e.out)
        clear b6 q0 q1 q2 k0 k1 k2 k3 r0_ r1_ r2_ r3_ r4_ r5_ r6_ l0_ l1_ l2_ l3_ l4_ l5_ d3 d4 d5
        have hz1 := setRow_heap v6 p14 _ #[.int .i64 j0, .int .i64 j1] 60 _ X14f.out
        have hz0 := below_setRow BM6.out PL14.out #[.int .i64 j0, .int .i64 j1]
        go_wp2_with ((with_reducible show wpList _ _ _ (⟨none, _, _, _, _, _⟩ :: _) _ _); refine wpList_store_rowS rfl _ (.tmp 14) (.tmp 201) rfl p14 rfl (c' := #[.int .i64 j0, .int .i64 j1]) rfl X14f.out infoJoin2 rfl (by simp [Value.oneCell']) ?_; (generalize v6.setRow p14 #[.int .i64 j0, .int .i64 j1] = vE at hz0 hz1 ⊢); have Z0 := Lib.hid hz0; have Z1 := Lib.hid hz1; clear hz0 hz1)
        go_roundw
        case measure => simp [intOf]; omega
        case rel => exact ⟨a + 1, j0, j1, by omega, by go_num, rfl, HCN.out, HEND.out, Z1.out, Z0.out⟩
      ·have C0 : Hid (v3.cell? ⟨g, n_, none⟩ = some (.int .i64 LV)) := Lib.hid (by
        rw [lie_cell XL3.out hn2_]
        congr 2
        rw [HLV.out, if_neg (by omega), h0])
       have c0 := C0.out
       have d1 : (0 : Int) < (n_ : Int) := by omega
       have d2 : (n_ : Int) < 100 := by omega
       subst h0
       go_wp2_with fail
       refine (ht.out _ (sid, (n_ : Int), es) t1 LV v3 SE3.out).mono ?_
       rintro e_ v4 ⟨rfl, b4⟩
       rw [GO.out.1, GO.out.2]
       have B4 : Hid (Below wr.heap.size wr v4) := Lib.hid (B3.out.trans (b4.mono B3.out.size))
       have BM4 : Hid (Below wM.heap.size wM v4) := Lib.hid (BW.out.trans (B4.out.mono BW.out.size))
       have X17d := Lib.hid ((b4.block _ (heap_lt X17c.out)).trans X17c.out)
       have X14d := Lib.hid ((b4.block _ (heap_lt X14c.out)).trans X14c.out)
       have XPd := Lib.hid ((BM4.out.block _ (heap_lt MXP.out)).trans MXP.out)
       have HPd := Lib.hid ((MHP.out.below BM4.out).more BM4.out.size)
       clear b4 q0 q1 q2 m0 m1 c0
       obtain ⟨q0, q1, q2⟩ := cell3_of X17d.out
       obtain ⟨k0, k1, k2, k3, k4, k5⟩ := cell6_of XPd.out
       go_wp2_with fail
       refine (hp.stands _ p sid (e : Int) v4 HPd.out).mono ?_
       rintro e_ v5 ⟨rfl, b5⟩
       rw [HSTD.out.1, HSTD.out.2]
       have B5 : Hid (Below wr.heap.size wr v5) := Lib.hid (B4.out.trans (b5.mono B4.out.size))
       have BM5 : Hid (Below wM.heap.size wM v5) := Lib.hid (BW.out.trans (B5.out.mono BW.out.size))
       have X17e := Lib.hid ((b5.block _ (heap_lt X17d.out)).trans X17d.out)
       have X14e := Lib.hid ((b5.block _ (heap_lt X14d.out)).trans X14d.out)
       have XPe := Lib.hid ((BM5.out.block _ (heap_lt MXP.out)).trans MXP.out)
       have X8e := Lib.hid ((BM5.out.block _ (heap_lt MX8.out)).trans MX8.out)
       have X6e := Lib.hid ((BM5.out.block _ (heap_lt MX6.out)).trans MX6.out)
       have SSe := Lib.hid ((MSS.out.below secR_ BM5.out).more secR_ BM5.out.size)
       clear b5 q0 q1 q2 k0 k1 k2 k3 k4 k5 X17c X14c X17d X14d XPd HPd B4 BM4 BM3 B3 SE3 XL3
       obtain ⟨sg, hsg⟩ : ∃ y, y = standsS p.sigs sid (e : Int) := ⟨_, rfl⟩
       rw [← hsg]
       have HSG := Lib.hid hsg
       clear hsg
       obtain ⟨q0, q1, q2⟩ := cell3_of X17e.out
       obtain ⟨k0, k1, k2, k3⟩ := cell4_of X8e.out
       obtain ⟨r0_, r1_, r2_, r3_, r4_, r5_, r6_⟩ := cell7_of X6e.out
       obtain ⟨l0_, l1_, l2_, l3_, l4_, l5_⟩ := cell6_of XPe.out
       by_cases hla : a + 1 = dn0
       ·have d3 : ¬ ((a : Int) < (dn0 : Int) - 1) := by omega
        have d4 : ((a : Int) == (dn0 : Int) - 1) = true := by simp; omega
        have d5 : (sg != r.exit) = false := by
         have h1 := HST.out.2 (by have := HND.out; omega)
         rw [HSG.out]
         simpa using h1
        clear hla
        go_wp2_with fail
        refine (ht.next _ p.secs sid (e : Int) v5 SSe.out).mono ?_
        rintro e_ v6 ⟨rfl, b6⟩
        rw [HNXT.out.1, HNXT.out.2]
        have X14f := Lib.hid ((b6.block _ (heap_lt X14e.out)).trans X14e.out)
        have BM6 : Hid (Below wM.heap.size wM v6) := Lib.hid (BM5.out.trans (b6.mono BM5.out.size))
        have X17f := Lib.hid ((b6.block _ (heap_lt X17e.out)).trans X17e.out)
        clear b6 q0 q1 q2 k0 k1 k2 k3 r0_ r1_ r2_ r3_ r4_ r5_ r6_ l0_ l1_ l2_ l3_ l4_ l5_ d3 d4 d5
        have hz1 := setRow_heap v6 p14 _ #[.int .i64 j0, .int .i64 j1] 60 _ X14f.out
        have hz0 := below_setRow BM6.out PL14.out #[.int .i64 j0, .int .i64 j1]
        go_wp2_with ((with_reducible show wpList _ _ _ (⟨none, _, _, _, _, _⟩ :: _) _ _); refine wpList_store_rowS rfl _ (.tmp 14) (.tmp 201) rfl p14 rfl (c' := #[.int .i64 j0, .int .i64 j1]) rfl X14f.out infoJoin2 rfl (by simp [Value.oneCell']) ?_; (generalize v6.setRow p14 #[.int .i64 j0, .int .i64 j1] = vE at hz0 hz1 ⊢); have Z0 := Lib.hid hz0; have Z1 := Lib.hid hz1; clear hz0 hz1)
        go_roundw
        case measure => simp [intOf]; omega
        case rel => exact ⟨a + 1, j0, j1, by omega, by go_num, rfl, HCN.out, HEND.out, Z1.out, Z0.out⟩
       ·have d3 : (a : Int) < (dn0 : Int) - 1 := by omega
        have d4 : ((a : Int) == (dn0 : Int) - 1) = false := by simp; omega
        have d5 : (sg != 0) = false := by
         have h1 := HST.out.1 (by have := HND.out; omega)
         rw [HSG.out]
         simpa using h1
        clear hla
        go_wp2_with fail
        refine (ht.next _ p.secs sid (e : Int) v5 SSe.out).mono ?_
        rintro e_ v6 ⟨rfl, b6⟩
        rw [HNXT.out.1, HNXT.out.2]
        have X14f := Lib.hid ((b6.block _ (heap_lt X14e.out)).trans X14e.out)
        have BM6 : Hid (Below wM.heap.size wM v6) := Lib.hid (BM5.out.trans (b6.mono BM5.out.size))
        have X17f := Lib.hid ((b6.block _ (heap_lt X17e.out)).trans X17e.out)
        clear b6 q0 q1 q2 k0 k1 k2 k3 r0_ r1_ r2_ r3_ r4_ r5_ r6_ l0_ l1_ l2_ l3_ l4_ l5_ d3 d4 d5
        have hz1 := setRow_heap v6 p14 _ #[.int .i64 j0, .int .i64 j1] 60 _ X14f.out
        have hz0 := below_setRow BM6.out PL14.out #[.int .i64 j0, .int .i64 j1]
        go_wp2_with ((with_reducible show wpList _ _ _ (⟨none, _, _, _, _, _⟩ :: _) _ _); refine wpList_store_rowS rfl _ (.tmp 14) (.tmp 201) rfl p14 rfl (c' := #[.int .i64 j0, .int .i64 j1]) rfl X14f.out infoJoin2 rfl (by simp [Value.oneCell']) ?_; (generalize v6.setRow p14 #[.int .i64 j0, .int .i64 j1] = vE at hz0 hz1 ⊢); have Z0 := Lib.hid hz0; have Z1 := Lib.hid hz1; clear hz0 hz1)
        go_roundw
        case measure => simp [intOf]; omega
        case rel => exact ⟨a + 1, j0, j1, by omega, by go_num, rfl, HCN.out, HEND.out, Z1.out, Z0.out⟩
    ·obtain rfl : a = dn0 := by omega
     have hlt' : ¬ (a : Int) < a := by omega
     have HEQ : Hid (r.exit = 0 → t0 = 0 ∧ t1 = 0) := Lib.hid (HE0_.out (by have := HND.out; omega))
     have X6w := Lib.hid ((BW.out.block _ (heap_lt MX6.out)).trans MX6.out)
     have BL := Lib.hid (MBZ.out.trans (BW.out.mono MBZ.out.size))
     clear hwd HE0_
     by_cases hx0 : r.exit = 0
     ·obtain ⟨rfl, rfl⟩ := HEQ.out hx0
      have d1 : (r.exit != 0) = false := by simpa using hx0
      have hcmp : ∀ w' : World, (Op.equalIn 10000 60 (.agg #[.int .i64 0, .int .i64 0]) (.agg #[.int .i64 0, .int .i64 0])).run Try.prog w' = .ok true w' := join_self 0 0
      clear hx0 HEQ
      obtain ⟨m0, m1⟩ := cell2_of X14.out
      obtain ⟨r0_, r1_, r2_, r3_, r4_, r5_, r6_⟩ := cell7_of X6w.out
      go_wp2_with fail
      go_ret
      exact ⟨rfl, BL.out⟩
     ·have d1 : (r.exit != 0) = true := by simpa using hx0
      clear hx0 HEQ
      obtain ⟨m0, m1⟩ := cell2_of X14.out
      obtain ⟨r0_, r1_, r2_, r3_, r4_, r5_, r6_⟩ := cell7_of X6w.out
      go_wp2_with fail
      go_ret
      exact ⟨rfl, BL.out⟩
end Go.Proofs.Ytccbdpeicemnjaa
