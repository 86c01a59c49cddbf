/-
  WayAsks: the walk, given the program's contracts.
  Conditions: none.
-/
import Derived.Test.YtjgdgdccnbmbiaaYGWayOne
import Derived.Test.YtjgdgdccnbmbiaaYWayAsksM
import Derived.Test.YtjgdgdccnbmbiaaYGPlnRefD
import Derived.BigQuiet
set_option linter.unusedVariables false
set_option linter.unusedSimpArgs false
set_option maxRecDepth 100000
namespace Go.Proofs.Ytjgdgdccnbmbiaa
open Go.RowKit

theorem asks_flank {A x : List Ak} {F : List Jn} (h : x = A ++ F.map flankA) {j : Nat} (hj : j < F.length) {a1 a2 : Int} (hf : F[j] = (a1, a2)) {M : Nat} (hM : M = A.length + j) (hm : M < x.length) : x[M] = (a1, a2, -1) := by
  subst h hM
  rw [List.getElem_append_right (by omega)]
  simp [hf, flankA]
theorem infoAsk3 : (Try.prog.info? 79).map (·.size) = some 3 := by kernel_rfl
theorem infoPt2 : (Try.prog.info? 81).map (·.size) = some 2 := by kernel_rfl
set_option maxHeartbeats 16000000 in
theorem walk_way_asks (hp : WaySaid) (hs : PlanSaid) (v : Value) (p : Pl) (id : Int) (w : World) (h : PlanV w w.heap.size v p) :
    Calls Try.prog 7 #[v, .int .i64 id] w fun e w' => e = .returned (.bool true) ∧ Below w.heap.size w w' := by
  obtain ⟨y2, y3, y4, y5, rfl, hin⟩ := h
  have HIN0 := Lib.hid hin
  obtain ⟨A2, c2, rfl, hcl2, hcm2⟩ := hin.secs.slice
  obtain ⟨A3, c3, rfl, -, -⟩ := hin.pts.slice
  obtain ⟨A4, c4, rfl, hcl4, hcm4⟩ := hin.sigs.slice
  obtain ⟨A5, c5, rfl, -, -⟩ := hin.routes.slice
  obtain ⟨n2, hn2⟩ : ∃ n, n = p.secs.length := ⟨_, rfl⟩
  obtain ⟨n3, hn3⟩ : ∃ n, n = p.pts.length := ⟨_, rfl⟩
  obtain ⟨n4, hn4⟩ : ∃ n, n = p.sigs.length := ⟨_, rfl⟩
  obtain ⟨n5, hn5⟩ : ∃ n, n = p.routes.length := ⟨_, rfl⟩
  have HN : Hid (n2 = p.secs.length ∧ n3 = p.pts.length ∧ n4 = p.sigs.length ∧ n5 = p.routes.length) := Lib.hid ⟨hn2, hn3, hn4, hn5⟩
  have HM4 : Hid (n4 ≤ 9223372036854775807) := Lib.hid (by rw [hn4]; unfold maxLen at hcm4; omega)
  have HP0 : Hid (PlanV w w.heap.size (.agg #[.int .i64 p.ver, .int .i64 p.par, .slice A2 n2 c2, .slice A3 n3 c3, .slice A4 n4 c4, .slice A5 n5 c5]) p) := Lib.hid ⟨_, _, _, _, rfl, by rw [hn2, hn3, hn4, hn5]; exact HIN0.out⟩
  rw [← hn2, ← hn3, ← hn4, ← hn5]
  clear hn2 hn3 hn4 hn5 HIN0 hin hcl2 hcm2 hcl4 hcm4
  have hq0 := heap_alloc_self w (.cells #[.int .i64 p.ver, .int .i64 p.par, .slice A2 n2 c2, .slice A3 n3 c3, .slice A4 n4 c4, .slice A5 n5 c5] 31)
  have hqb := below_new w (.cells #[.int .i64 p.ver, .int .i64 p.par, .slice A2 n2 c2, .slice A3 n3 c3, .slice A4 n4 c4, .slice A5 n5 c5] 31)
  go_enter Try.func7, Try.ntmps7
  go_upto_region 1 with fail
  generalize w.alloc (.cells #[.int .i64 p.ver, .int .i64 p.par, .slice A2 n2 c2, .slice A3 n3 c3, .slice A4 n4 c4, .slice A5 n5 c5] 31) = q at hq0 hqb ⊢
  have BZ := Lib.hid hqb
  have XP := Lib.hid hq0
  have HP := Lib.hid ((HP0.out.below hqb).more hqb.size)
  clear hq0 hqb HP0
  go_wp2_with fail
  refine (alive9 hp q).mono ?_
  rintro e w1 ⟨rfl, b1⟩
  have tBZ := BZ.out.trans (b1.mono BZ.out.size)
  have tXP := (b1.block _ (heap_lt XP.out)).trans XP.out
  have tHP := (HP.out.below b1).more b1.size
  clear BZ XP HP b1
  have BZ := Lib.hid tBZ
  have XP := Lib.hid tXP
  have HP := Lib.hid tHP
  clear tBZ tXP tHP
  obtain ⟨k0, k1, k2, k3, k4, k5⟩ := cell6_of XP.out
  go_wp2_with fail
  refine (rgreat8_any _ p w1 HP.out).mono ?_
  rintro e w2 ⟨⟨g, rfl, hg⟩, b2⟩
  clear k0 k1 k2 k3 k4 k5
  have tBZ := BZ.out.trans (b2.mono BZ.out.size)
  have tXP := (b2.block _ (heap_lt XP.out)).trans XP.out
  have tHP := (HP.out.below b2).more b2.size
  clear BZ XP HP b2
  have BZ := Lib.hid tBZ
  have XP := Lib.hid tXP
  have HP := Lib.hid tHP
  clear tBZ tXP tHP
  cases g with
  | true =>
    go_wp2_with fail
    go_ret
    exact ⟨rfl, BZ.out⟩
  | false =>
  have FEW := Lib.hid (hg rfl)
  clear hg
  obtain ⟨x, hx⟩ : ∃ x, x = wayV p id := ⟨_, rfl⟩
  obtain ⟨E, hE⟩ : ∃ x, x = wayE p id := ⟨_, rfl⟩
  obtain ⟨l, hl⟩ : ∃ x, x = leftV p id := ⟨_, rfl⟩
  obtain ⟨r, hr⟩ : ∃ x, x = elV p kRt p.routes id zRt := ⟨_, rfl⟩
  obtain ⟨E3, hE3⟩ : ∃ x, x = elE p kRt p.routes id := ⟨_, rfl⟩
  have XV := Lib.hid hx
  have XE := Lib.hid hE
  have XL := Lib.hid hl
  have RV := Lib.hid hr
  have RE := Lib.hid hE3
  clear hx hE hl hr hE3
  obtain ⟨k0, k1, k2, k3, k4, k5⟩ := cell6_of XP.out
  go_wp2_with fail
  refine (hp.of _ p id w2 HP.out).mono ?_
  rintro e w3 ⟨u0, u1, u2, rfl, hu, b3⟩
  rw [← XV.out] at hu
  rw [← XV.out, ← XE.out]
  obtain ⟨D0, dd0, rfl⟩ := hu.path.slice
  obtain ⟨D1, dd1, rfl⟩ := hu.over.slice
  obtain ⟨D2, dd2, rfl⟩ := hu.asks.slice
  obtain ⟨dn0, hD0⟩ : ∃ n, n = x.path.length := ⟨_, rfl⟩
  obtain ⟨dn1, hD1⟩ : ∃ n, n = x.over.length := ⟨_, rfl⟩
  obtain ⟨dn2, hD2⟩ : ∃ n, n = x.asks.length := ⟨_, rfl⟩
  have ND : Hid (dn0 = x.path.length ∧ dn1 = x.over.length ∧ dn2 = x.asks.length) := Lib.hid ⟨hD0, hD1, hD2⟩
  have WD : Hid (WayV w3 w3.heap.size (.agg #[.slice D0 dn0 dd0, .slice D1 dn1 dd1, .slice D2 dn2 dd2, .int .i64 x.near]) x) := Lib.hid ⟨_, _, _, rfl, by rw [hD0, hD1, hD2]; exact hu.in_⟩
  rw [← hD0, ← hD1, ← hD2]
  clear hu hD0 hD1 hD2 k0 k1 k2 k3 k4 k5
  have tBZ := BZ.out.trans (b3.mono BZ.out.size)
  have tXP := (b3.block _ (heap_lt XP.out)).trans XP.out
  have tHP := (HP.out.below b3).more b3.size
  clear BZ XP HP b3
  have BZ := Lib.hid tBZ
  have XP := Lib.hid tXP
  have HP := Lib.hid tHP
  clear tBZ tXP tHP
  have XX0 := heap_alloc_self w3 (.cells #[.slice none 0 0, .slice none 0 0, .slice none 0 0, .int .i64 0] 36)
  have hb1 := below_setRow (below_new w3 (.cells #[.slice none 0 0, .slice none 0 0, .slice none 0 0, .int .i64 0] 36)) (Nat.le_refl _) #[.slice D0 dn0 dd0, .slice D1 dn1 dd1, .slice D2 dn2 dd2, .int .i64 x.near]
  have hx1 := setRow_heap (w3.alloc (.cells #[.slice none 0 0, .slice none 0 0, .slice none 0 0, .int .i64 0] 36)) w3.heap.size _ #[.slice D0 dn0 dd0, .slice D1 dn1 dd1, .slice D2 dn2 dd2, .int .i64 x.near] 36 _ XX0
  go_upto_region 5 with ((with_reducible show wpList _ _ _ (⟨none, _, _, _, _, _⟩ :: _) _ _); refine wpList_store_rowS rfl _ (.tmp 6) (.tmp 30) rfl w3.heap.size rfl (c' := #[.slice D0 dn0 dd0, .slice D1 dn1 dd1, .slice D2 dn2 dd2, .int .i64 x.near]) rfl XX0 infoWay4 rfl (by simp [Value.oneCell']) ?_)
  generalize (w3.alloc (.cells #[.slice none 0 0, .slice none 0 0, .slice none 0 0, .int .i64 0] 36)).setRow w3.heap.size #[.slice D0 dn0 dd0, .slice D1 dn1 dd1, .slice D2 dn2 dd2, .int .i64 x.near] = q1 at hb1 hx1 ⊢
  obtain ⟨p6, hp1⟩ : ∃ n, n = w3.heap.size := ⟨_, rfl⟩
  rw [← hp1] at hx1 ⊢
  have X6 := Lib.hid hx1
  clear hx1 XX0 hp1
  have tBZ := BZ.out.trans (hb1.mono BZ.out.size)
  have tXP := (hb1.block _ (heap_lt XP.out)).trans XP.out
  have tHP := (HP.out.below hb1).more hb1.size
  have tWD := (WD.out.below hb1).more hb1.size
  clear BZ XP HP WD hb1
  have BZ := Lib.hid tBZ
  have XP := Lib.hid tXP
  have HP := Lib.hid tHP
  have WD := Lib.hid tWD
  clear tBZ tXP tHP tWD
  obtain ⟨k0, k1, k2, k3, k4, k5⟩ := cell6_of XP.out
  go_wp2_with fail
  refine (hs.route _ p id q1 HP.out).mono ?_
  rintro e w4 ⟨u3, u4, u5, rfl, hro, b4⟩
  rw [← RV.out] at hro
  rw [← RV.out, ← RE.out]
  obtain ⟨R3, g3, rfl⟩ := hro.path.slice
  obtain ⟨R4, g4, rfl⟩ := hro.over.slice
  obtain ⟨R5, g5, rfl⟩ := hro.flanks.slice
  obtain ⟨l3, hl3⟩ : ∃ n, n = r.path.length := ⟨_, rfl⟩
  obtain ⟨l4, hl4⟩ : ∃ n, n = r.over.length := ⟨_, rfl⟩
  obtain ⟨l5, hl5⟩ : ∃ n, n = r.flanks.length := ⟨_, rfl⟩
  have NR : Hid (l3 = r.path.length ∧ l4 = r.over.length ∧ l5 = r.flanks.length) := Lib.hid ⟨hl3, hl4, hl5⟩
  have HRV : Hid (RouteV w4 w4.heap.size (.agg #[.int .i64 r.id, .int .i64 r.entry, .int .i64 r.exit, .slice R3 l3 g3, .slice R4 l4 g4, .slice R5 l5 g5, .int .i64 r.timer]) r) := Lib.hid ⟨_, _, _, rfl, by rw [hl3, hl4, hl5]; exact hro.in_⟩
  rw [← hl3, ← hl4, ← hl5]
  clear hro hl3 hl4 hl5 k0 k1 k2 k3 k4 k5
  have tBZ := BZ.out.trans (b4.mono BZ.out.size)
  have tXP := (b4.block _ (heap_lt XP.out)).trans XP.out
  have tX6 := (b4.block _ (heap_lt X6.out)).trans X6.out
  have tHP := (HP.out.below b4).more b4.size
  have tWD := (WD.out.below b4).more b4.size
  clear BZ XP X6 HP WD b4
  have BZ := Lib.hid tBZ
  have XP := Lib.hid tXP
  have X6 := Lib.hid tX6
  have HP := Lib.hid tHP
  have WD := Lib.hid tWD
  clear tBZ tXP tX6 tHP tWD
  have XX0 := heap_alloc_self w4 (.cells #[.int .i64 0, .int .i64 0, .int .i64 0, .slice none 0 0, .slice none 0 0, .slice none 0 0, .int .i64 0] 60)
  have hb2 := below_setRow (below_new w4 (.cells #[.int .i64 0, .int .i64 0, .int .i64 0, .slice none 0 0, .slice none 0 0, .slice none 0 0, .int .i64 0] 60)) (Nat.le_refl _) #[.int .i64 r.id, .int .i64 r.entry, .int .i64 r.exit, .slice R3 l3 g3, .slice R4 l4 g4, .slice R5 l5 g5, .int .i64 r.timer]
  have hx2 := setRow_heap (w4.alloc (.cells #[.int .i64 0, .int .i64 0, .int .i64 0, .slice none 0 0, .slice none 0 0, .slice none 0 0, .int .i64 0] 60)) w4.heap.size _ #[.int .i64 r.id, .int .i64 r.entry, .int .i64 r.exit, .slice R3 l3 g3, .slice R4 l4 g4, .slice R5 l5 g5, .int .i64 r.timer] 60 _ XX0
  go_upto_region 6 with ((with_reducible show wpList _ _ _ (⟨none, _, _, _, _, _⟩ :: _) _ _); refine wpList_store_rowS rfl _ (.tmp 8) (.tmp 36) rfl w4.heap.size rfl (c' := #[.int .i64 r.id, .int .i64 r.entry, .int .i64 r.exit, .slice R3 l3 g3, .slice R4 l4 g4, .slice R5 l5 g5, .int .i64 r.timer]) rfl XX0 infoRoute7 rfl (by simp [Value.oneCell']) ?_)
  generalize (w4.alloc (.cells #[.int .i64 0, .int .i64 0, .int .i64 0, .slice none 0 0, .slice none 0 0, .slice none 0 0, .int .i64 0] 60)).setRow w4.heap.size #[.int .i64 r.id, .int .i64 r.entry, .int .i64 r.exit, .slice R3 l3 g3, .slice R4 l4 g4, .slice R5 l5 g5, .int .i64 r.timer] = q2 at hb2 hx2 ⊢
  obtain ⟨p8, hp2⟩ : ∃ n, n = w4.heap.size := ⟨_, rfl⟩
  rw [← hp2] at hx2 ⊢
  have X8 := Lib.hid hx2
  clear hx2 XX0 hp2
  have tBZ := BZ.out.trans (hb2.mono BZ.out.size)
  have tXP := (hb2.block _ (heap_lt XP.out)).trans XP.out
  have tX6 := (hb2.block _ (heap_lt X6.out)).trans X6.out
  have tHP := (HP.out.below hb2).more hb2.size
  have tWD := (WD.out.below hb2).more hb2.size
  have tHRV := (HRV.out.below hb2).more hb2.size
  clear BZ XP X6 HP WD HRV hb2
  have BZ := Lib.hid tBZ
  have XP := Lib.hid tXP
  have X6 := Lib.hid tX6
  have HP := Lib.hid tHP
  have WD := Lib.hid tWD
  have HRV := Lib.hid tHRV
  clear tBZ tXP tX6 tHP tWD tHRV
  by_cases h0 : E = 0
  rotate_left
  · have d0 : (E != 0) = true := by simpa using h0
    obtain rfl : dn2 = 0 := by
      have h1 := XV.out
      rw [wayV, if_neg (by rw [← XE.out]; exact h0)] at h1
      rw [ND.out.2.2, h1]; rfl
    clear h0
    obtain ⟨k0, k1, k2, k3⟩ := cell4_of X6.out
    go_wp2_with fail
    go_ret
    exact ⟨rfl, BZ.out⟩
  subst h0
  obtain ⟨kr, hkr, hat, he3, hrv, hri, hhg, hxv, -⟩ := way_zero XE.out.symm
  have HRE : Hid (r = p.routes[kr]) := Lib.hid (RV.out.trans hrv)
  have HRI : Hid (RouteIn p r) := Lib.hid (by rw [HRE.out]; exact hri)
  have HHG : Hid (Hangs p r) := Lib.hid (by rw [HRE.out]; exact hhg)
  have HXV : Hid (x = wayR p r) := Lib.hid (by rw [XV.out, HRE.out]; exact hxv)
  have XPO : Hid (x.path = r.path ∧ x.over = r.over) := Lib.hid (by rw [HXV.out]; exact ⟨rfl, rfl⟩)
  obtain rfl : E3 = 0 := RE.out.trans he3
  clear hat he3 hrv hri hhg hxv
  go_upto_region 8 with fail
  have HD0 : Hid (IntsIn q2 q2.heap.size (.slice D0 dn0 dd0) r.path) := Lib.hid (by
    obtain ⟨_, _, _, e, hi⟩ := WD.out
    cases e
    exact XPO.out.1 ▸ hi.path)
  have HD1 : Hid (IntsIn q2 q2.heap.size (.slice D1 dn1 dd1) r.over) := Lib.hid (by
    obtain ⟨_, _, _, e, hi⟩ := WD.out
    cases e
    exact XPO.out.2 ▸ hi.over)
  have NPO : Hid (dn0 = r.path.length ∧ dn1 = r.over.length) := Lib.hid (by rw [ND.out.1, ND.out.2.1, XPO.out.1, XPO.out.2]; exact ⟨rfl, rfl⟩)
  have NLE : Hid (dn0 + dn1 ≤ 8) := Lib.hid (by have := HRI.out.len; have := NPO.out; omega)
  obtain ⟨i0, hii, hz0, hzz, hz2⟩ := info_parts infoInt
  have I0 := Lib.hid hii
  have I1 := Lib.hid hz0
  have I2 := Lib.hid hzz
  have I3 := Lib.hid hz2
  clear hii hz0 hzz hz2
  refine wp_region_held_drew (S := fun v => Below q2.heap.size q2 v) (by kernel_rfl) (Below.refl q2.heap.size q2).drew (fun hHeld => ?_)
  refine tkH 1 ?_ rfl hHeld ?_ ?_
  rotate_left
  · intro w' hSw; go_simp; try with_reducible rfl
  simp only [zn, Act.put]
  refine tkH 2 ?_ rfl hHeld ?_ ?_
  rotate_left
  · intro w' hSw; obtain ⟨cw0, cw1, cw2, cw3⟩ := cell4_of ((hSw.block _ (heap_lt X6.out)).trans X6.out); go_simp; try with_reducible rfl
  simp only [zn, Act.put]
  refine tkH 4 ?_ rfl hHeld ?_ ?_
  rotate_left
  · intro w' hSw; go_simp; try with_reducible rfl
  simp only [zn, Act.put]
  refine tkH 5 ?_ rfl hHeld ?_ ?_
  rotate_left
  · intro w' hSw; obtain ⟨cw0, cw1, cw2, cw3⟩ := cell4_of ((hSw.block _ (heap_lt X6.out)).trans X6.out); go_simp; try with_reducible rfl
  simp only [zn, Act.put]
  have tb := (Below.refl q2.heap.size q2).drew
  generalize q2.drew = qa at tb hHeld ⊢
  have HB := Lib.hid tb
  clear tb
  refine wpAnyH_ready (rs := [0]) (by kernel_rfl) (by simp) ?_
  refine AllReadyH.cons rfl (fun K hK => ?_) AllReadyH.nil
  go_simp
  have tb := HB.out.alloc HB.out.size (.cells #[] 3)
  have t0 := heap_alloc_self qa (.cells #[] 3)
  refine hK.out _ _ ?_ (fun hHeld => ?_)
  · exact tb
  clear hK K
  try simp only [zn, Act.put]
  generalize qa.alloc (.cells #[] 3) = qb at tb t0 hHeld ⊢
  obtain ⟨pb, hpb⟩ : ∃ n, n = qa.heap.size := ⟨_, rfl⟩
  rw [← hpb] at t0 ⊢
  have PB : Hid (q2.heap.size ≤ pb) := Lib.hid (by rw [hpb]; exact HB.out.size)
  have T0 := Lib.hid t0
  have HB2 := Lib.hid tb
  clear tb t0 hpb HB
  obtain ⟨Yss, hy1, hy2, hy3, hy4, hy5, hy6, hy7⟩ := ((HD0.out.below intR HB2.out).more intR HB2.out.size).cells (by omega) intR_full intR_cells
  have Y1 := Lib.hid hy1
  have Y2 := Lib.hid hy2
  have Y3 := Lib.hid hy3
  have Y4 := Lib.hid hy4
  have Y6 := Lib.hid hy6
  have Y7 := Lib.hid hy7
  have YL : Hid (Yss.flatten.length = dn0 * 1) := Lib.hid (by rw [flat_length _ hy2, hy1, NPO.out.1])
  clear hy1 hy2 hy3 hy4 hy5 hy6 hy7
  refine wpAnyH_ready (rs := [3]) (by kernel_rfl) (by simp) ?_
  refine AllReadyH.cons rfl (fun K hK => ?_) AllReadyH.nil
  rw [if_pos (by rfl)]
  refine wp_append_list (.tmp 44) (.tmp 46) _ rfl Try.underlying33 I0.out I1.out rfl I2.out (by decide) I3.out (by decide) rfl (base := q2.heap.size) (n := 0) (ys := []) ⟨rfl, .inr ⟨_, _, _, rfl, PB.out, T0.out, Nat.zero_le _, Nat.zero_le _, rfl, rfl⟩⟩ rfl YL.out Y4.out Y7.out Y6.out (by have := NLE.out; omega) HB2.out.size ?_
  intro v4 w4_ hown4 hgrow4
  rw [Nat.zero_add, List.nil_append] at hown4
  obtain ⟨B4, d4, rfl⟩ := own_sliceN hown4
  have O4 := Lib.hid hown4
  have G4 : Hid (Below q2.heap.size q2 w4_) := Lib.hid (HB2.out.grown hgrow4 HB2.out.size (fun k hk => by cases hk; exact PB.out))
  clear hown4 hgrow4
  refine hK.out _ _ ?_ (fun hHeld => ?_)
  · exact G4.out
  clear hK K
  try simp only [zn, Act.put]
  obtain ⟨Zss, hy1, hy2, hy3, hy4, hy5, hy6, hy7⟩ := ((HD1.out.below intR G4.out).more intR G4.out.size).cells (by omega) intR_full intR_cells
  have Z1 := Lib.hid hy1
  have Z2 := Lib.hid hy2
  have Z3 := Lib.hid hy3
  have Z4 := Lib.hid hy4
  have Z6 := Lib.hid hy6
  have Z7 := Lib.hid hy7
  have ZL : Hid (Zss.flatten.length = dn1 * 1) := Lib.hid (by rw [flat_length _ hy2, hy1, NPO.out.2])
  clear hy1 hy2 hy3 hy4 hy5 hy6 hy7
  refine wpAnyH_ready (rs := [6]) (by kernel_rfl) (by simp) ?_
  refine AllReadyH.cons rfl (fun K hK => ?_) AllReadyH.nil
  rw [if_pos (by rfl)]
  refine wp_append_list (.tmp 47) (.tmp 49) _ rfl Try.underlying33 I0.out I1.out rfl I2.out (by decide) I3.out (by decide) rfl O4.out rfl ZL.out Z4.out Z7.out Z6.out (by have := NLE.out; omega) G4.out.size ?_
  intro v5 w5_ hown5 hgrow5
  have OC := own_cat (R := IntR) (sz := 1) intF hown5 (by rw [NPO.out.1, NPO.out.2]) Y1.out Z1.out Y2.out Z2.out Y3.out Z3.out (by have := NLE.out; unfold maxLen; omega)
  obtain ⟨AL, cL, rfl⟩ := own_sliceN hown5
  obtain ⟨nl, hnl⟩ : ∃ n, n = dn0 + dn1 := ⟨_, rfl⟩
  rw [← hnl] at OC ⊢
  have HNL : Hid (nl = (allR r).length ∧ nl = dn0 + dn1 ∧ nl ≤ 8) := Lib.hid (by have := NPO.out; have := HRI.out.len; omega)
  have ALL : Hid (IntsIn w5_ w5_.heap.size (.slice AL nl cL) (allR r)) := Lib.hid (OC.in_ intR_cells)
  have G5 : Hid (Below q2.heap.size q2 w5_) := Lib.hid (G4.out.grown hgrow5 G4.out.size (own_ge O4.out))
  clear OC hown5 hgrow5 hnl
  refine hK.out _ _ ?_ (fun hHeld => ?_)
  · exact G5.out
  clear hK K
  try simp only [zn, Act.put]
  refine tkH 7 ?_ rfl hHeld ?_ ?_
  rotate_left
  · intro w' hSw; go_simp; try with_reducible rfl
  simp only [zn, Act.put]
  refine wpAnyH_done (by kernel_rfl) ?_ _
  have bS := G5.out
  clear G5 G4 O4 HB2 T0 PB Y1 Y2 Y3 Y4 Y6 Y7 YL Z1 Z2 Z3 Z4 Z6 Z7 ZL I0 I1 I2 I3 HD0 HD1
  have tBZ := BZ.out.trans (bS.mono BZ.out.size)
  have tXP := (bS.block _ (heap_lt XP.out)).trans XP.out
  have tX6 := (bS.block _ (heap_lt X6.out)).trans X6.out
  have tX8 := (bS.block _ (heap_lt X8.out)).trans X8.out
  have tHP := (HP.out.below bS).more bS.size
  have tWD := (WD.out.below bS).more bS.size
  have tHRV := (HRV.out.below bS).more bS.size
  clear BZ XP X6 X8 HP WD HRV bS
  have BZ := Lib.hid tBZ
  have XP := Lib.hid tXP
  have X6 := Lib.hid tX6
  have X8 := Lib.hid tX8
  have HP := Lib.hid tHP
  have WD := Lib.hid tWD
  have HRV := Lib.hid tHRV
  clear tBZ tXP tX6 tX8 tHP tWD tHRV
  go_upto_region 9 with fail
  obtain ⟨N, hN⟩ : ∃ n, n = (asksL p r (allR r).length).length := ⟨_, rfl⟩
  have HXA : Hid (x.asks = asksL p r (allR r).length ++ r.flanks.map flankA) := Lib.hid (by rw [HXV.out]; rfl)
  have HNN : Hid (N = (asksL p r (allR r).length).length ∧ dn2 = N + l5 ∧ N ≤ 8 ∧ l5 ≤ 3) := Lib.hid (by
    have h1 := ND.out.2.2
    rw [HXA.out, List.length_append, List.length_map, ← hN, ← NR.out.2.2] at h1
    have h2 : (asksL p r (allR r).length).length ≤ (allR r).length := Nat.le_trans (List.length_filterMap_le _ _) (by simp)
    have h3 := HRI.out.len
    have h4 := HRI.out.route.flank
    have h5 := NR.out.2.2
    omega)
  have hw : IntKind.i64.wrap ((dn2 : Int) - (l5 : Int)) = (N : Int) := by have := HNN.out; rw [wrap_id (by omega) (by omega)]; omega
  have hneg : ¬ (N : Int) < 0 := by omega
  have AS : Hid (AsksIn w5_ w5_.heap.size (.slice D2 dn2 dd2) x.asks) := Lib.hid (by
    obtain ⟨_, _, _, e, hi⟩ := WD.out
    cases e
    exact hi.asks)
  have FL : Hid (JoinsIn w5_ w5_.heap.size (.slice R5 l5 g5) r.flanks) := Lib.hid (by
    obtain ⟨_, _, _, e, hi⟩ := HRV.out
    cases e
    exact hi.flanks)
  have LASTZ : Hid (∀ j (hj : j < (asksL p r (allR r).length).length), (-1 : Int) < (asksL p r (allR r).length)[j].2.2) := Lib.hid (fun j hj => by
    obtain ⟨a, -, h1, -⟩ := asks_at HRI.out _ (Nat.le_refl _) HHG.out j hj
    rw [h1]; omega)
  clear hN
  obtain ⟨k0, k1, k2, k3⟩ := cell4_of X6.out
  obtain ⟨m0, m1, m2, m3, m4, m5, m6⟩ := cell7_of X8.out
  go_wp2_with fail
  clear hw hneg k0 k1 k2 k3 m0 m1 m2 m3 m4 m5 m6
  go_loopw [12, 13] (fun s12 s13 wr => ∃ (i : Nat) (z : Int), i ≤ N ∧ s13 = .int .i64 i ∧ s12 = .int .i64 z ∧ (∀ j (hj : j < (asksL p r (allR r).length).length), i ≤ j → z < (asksL p r (allR r).length)[j].2.2) ∧ Below w5_.heap.size w5_ wr) (fun _ s13 _ => N - (intOf s13).toNat)
  case atStart => exact ⟨0, -1, by omega, by go_num, rfl, fun j hj _ => LASTZ.out j hj, Below.refl _ _⟩
  case round =>
    obtain ⟨i, z, hi, rfl, rfl, hz, hb⟩ := hrel
    have HZ := Lib.hid hz
    have BW := Lib.hid hb
    clear hz hb
    have X6r := Lib.hid ((BW.out.block _ (heap_lt X6.out)).trans X6.out)
    have X8r := Lib.hid ((BW.out.block _ (heap_lt X8.out)).trans X8.out)
    have hNb : N ≤ 8 := HNN.out.2.2.1
    by_cases hlt : i < N
    · have hlt' : (i : Int) < N := by omega
      have hil : i < (asksL p r (allR r).length).length := by rw [← HNN.out.1]; exact hlt
      have hia : i < x.asks.length := by rw [← ND.out.2.2]; have := HNN.out; omega
      have hid : (i : Int) < dn2 := by have := HNN.out; omega
      obtain ⟨a, ha, ha3, ha0, ha1, ha4, ha5, ha6⟩ := asks_at HRI.out _ (Nat.le_refl _) HHG.out i hil
      obtain ⟨e1, e2, e3, hk⟩ : ∃ a b c, (asksL p r (allR r).length)[i] = (a, b, c) := ⟨_, _, _, rfl⟩
      have hxk : x.asks[i] = (e1, e2, e3) := by rw [← hk]; simp only [HXA.out]; rw [List.getElem_append_left hil]
      have NEXT : Hid (∀ j (hj : j < (asksL p r (allR r).length).length), i + 1 ≤ j → e3 < (asksL p r (allR r).length)[j].2.2) := Lib.hid (fun j hj hij => by
        obtain ⟨a2, -, h1, -, -, -, -, h2⟩ := asks_at HRI.out _ (Nat.le_refl _) HHG.out j hj
        have h3 := h2 i (by omega)
        rw [hk] at h3
        rw [h1]; exact h3)
      have hzl : z < e3 := by have := HZ.out i hil (Nat.le_refl _); rw [hk] at this; exact this
      rw [hk] at ha3 ha0 ha1 ha4 ha5
      obtain ⟨ks, hks, hat, hsk, hidk⟩ := HRI.out.sec ha
      rw [hsk] at ha1
      dsimp only at ha1 ha0 ha3 ha4 ha5
      obtain ⟨hp1, hp2⟩ := point_of HRI.out.plan hks (by rw [← ha1]; exact ha0)
      rw [← ha1] at hp1 hp2
      rw [hidk] at hp2
      obtain ⟨q1, q2, hpv⟩ : ∃ a b, elV p kPt p.pts e1 (0, 0) = (a, b) := ⟨_, _, rfl⟩
      rw [hpv] at hp2
      have HPV : Hid (elE p kPt p.pts e1 = 0 ∧ elV p kPt p.pts e1 (0, 0) = (q1, q2)) := Lib.hid ⟨hp1, hpv⟩
      obtain rfl : e3 = (a : Int) := ha3
      have hq2 : q2 = (allR r).getD a 0 := hp2
      obtain ⟨ba, oa, e5, hba, hd0⟩ := (ALL.out.below intR BW.out).at ha
      cases e5
      have hl1 : wr.cell? ⟨ba, oa + a, none⟩ = some (.int .i64 q2) := by rw [hq2, List.getD, List.getElem?_eq_getElem ha]; simpa [IntR] using hd0
      have HL1 := Lib.hid hl1
      have hanl : (a : Int) < nl := by have := HNL.out; omega
      obtain ⟨bk, ok, e6, hbk, hg0, hg1, hg2⟩ := (AS.out.below sigR BW.out).at hia
      cases e6
      rw [hxk] at hg0 hg1 hg2
      have g0 : wr.cell? ⟨bk, ok + i * 3, none⟩ = some (.int .i64 e1) := hg0
      have g1 : wr.cell? ⟨bk, ok + i * 3 + 1, none⟩ = some (.int .i64 e2) := hg1
      have g2 : wr.cell? ⟨bk, ok + i * 3 + 2, none⟩ = some (.int .i64 (a : Int)) := hg2
      have FACT : Hid (z < (a : Int) ∧ a < nl ∧ 1 ≤ e2 ∧ e2 ≤ 2) := Lib.hid ⟨hzl, by omega, ha4, ha5⟩
      obtain ⟨k0, k1, k2, k3⟩ := cell4_of X6r.out
      have XX0 := heap_alloc_self wr (.cells #[.int .i64 0, .int .i64 0, .int .i64 0] 79)
      have hz0 := below_setRow (below_new wr (.cells #[.int .i64 0, .int .i64 0, .int .i64 0] 79)) (Nat.le_refl _) #[.int .i64 e1, .int .i64 e2, .int .i64 (a : Int)]
      have hz1 := setRow_heap (wr.alloc (.cells #[.int .i64 0, .int .i64 0, .int .i64 0] 79)) wr.heap.size _ #[.int .i64 e1, .int .i64 e2, .int .i64 (a : Int)] 79 _ XX0
      clear hk hxk hzl ha0 ha1 ha4 ha5 ha6 hat hsk hidk hp1 hp2 hpv hq2 hba hd0 hl1 hbk hg0 hg1 hg2
      go_upto_region 17 with ((with_reducible show wpList _ _ _ (⟨none, _, _, _, _, _⟩ :: _) _ _); refine wpList_store_rowS rfl _ (.tmp 14) (.tmp 69) rfl wr.heap.size rfl (c' := #[.int .i64 e1, .int .i64 e2, .int .i64 (a : Int)]) rfl XX0 infoAsk3 rfl (by simp [Value.oneCell']) ?_)
      generalize (wr.alloc (.cells #[.int .i64 0, .int .i64 0, .int .i64 0] 79)).setRow wr.heap.size #[.int .i64 e1, .int .i64 e2, .int .i64 (a : Int)] = v1 at hz0 hz1 ⊢
      obtain ⟨p14, hp14⟩ : ∃ n, n = wr.heap.size := ⟨_, rfl⟩
      rw [← hp14] at hz1 ⊢
      have X14 := Lib.hid hz1
      have BV := Lib.hid hz0
      have BM : Hid (Below w5_.heap.size w5_ v1) := Lib.hid (BW.out.trans (hz0.mono BW.out.size))
      clear hz0 hz1 XX0 hp14 g0 g1 g2 k0 k1 k2 k3
      obtain ⟨r0, r1, r2⟩ := cell3_of X14.out
      obtain ⟨k0, k1, k2, k3, k4, k5⟩ := cell6_of ((BM.out.block _ (heap_lt XP.out)).trans XP.out)
      go_wp2_with fail
      refine (hs.point _ p e1 v1 ((HP.out.below BM.out).more BM.out.size)).mono ?_
      rintro e v2 ⟨rfl, b2⟩
      rw [HPV.out.1, HPV.out.2]
      have BV2 : Hid (Below wr.heap.size wr v2) := Lib.hid (BV.out.trans (b2.mono BV.out.size))
      have X14b := Lib.hid ((b2.block _ (heap_lt X14.out)).trans X14.out)
      have XX0 := heap_alloc_self v2 (.cells #[.int .i64 0, .int .i64 0] 81)
      have hz0 := below_setRow (below_new v2 (.cells #[.int .i64 0, .int .i64 0] 81)) (Nat.le_refl _) #[.int .i64 q1, .int .i64 q2]
      have hz1 := setRow_heap (v2.alloc (.cells #[.int .i64 0, .int .i64 0] 81)) v2.heap.size _ #[.int .i64 q1, .int .i64 q2] 81 _ XX0
      clear b2 r0 r1 r2 k0 k1 k2 k3 k4 k5
      go_upto_region 18 with ((with_reducible show wpList _ _ _ (⟨none, _, _, _, _, _⟩ :: _) _ _); refine wpList_store_rowS rfl _ (.tmp 15) (.tmp 75) rfl v2.heap.size rfl (c' := #[.int .i64 q1, .int .i64 q2]) rfl XX0 infoPt2 rfl (by simp [Value.oneCell']) ?_)
      generalize (v2.alloc (.cells #[.int .i64 0, .int .i64 0] 81)).setRow v2.heap.size #[.int .i64 q1, .int .i64 q2] = v3 at hz0 hz1 ⊢
      obtain ⟨p15, hp15⟩ : ∃ n, n = v2.heap.size := ⟨_, rfl⟩
      rw [← hp15] at hz1 ⊢
      have BV3 : Hid (Below wr.heap.size wr v3) := Lib.hid (BV2.out.trans (hz0.mono BV2.out.size))
      have X14c := Lib.hid ((hz0.block _ (heap_lt X14b.out)).trans X14b.out)
      have X15 := Lib.hid hz1
      clear hz0 hz1 XX0 hp15
      obtain ⟨r0, r1, r2⟩ := cell3_of X14c.out
      obtain ⟨m0, m1⟩ := cell2_of X15.out
      have hl1 : v3.cell? ⟨ba, oa + a, none⟩ = some (.int .i64 q2) := (BV3.out.cell (cell_lt HL1.out)).trans HL1.out
      have f1 : decide ((a : Int) ≤ z) = false := decide_eq_false (by have := FACT.out; omega)
      have f2 : decide (nl ≤ a) = false := decide_eq_false (by have := FACT.out; omega)
      have f3 : decide (e2 < 1) = false := decide_eq_false (by have := FACT.out; omega)
      have f4 : decide (2 < e2) = false := decide_eq_false (by have := FACT.out; omega)
      have BD : Hid (∀ nq, Below v3.heap.size v3 (v3.drewN nq)) := Lib.hid (fun nq => drewN_below v3 nq)
      go_quiet (fail)
      have hdb := BD.out nq
      generalize v3.drewN nq = v4 at hdb ⊢
      have B4 : Hid (Below w5_.heap.size w5_ v4) := Lib.hid (BW.out.trans ((BV3.out.trans (hdb.mono BV3.out.size)).mono BW.out.size))
      have X14d := Lib.hid ((hdb.block _ (heap_lt X14c.out)).trans X14c.out)
      clear hdb BD r0 r1 r2 m0 m1 hl1 f1 f2 f3 f4
      obtain ⟨r0, r1, r2⟩ := cell3_of X14d.out
      go_wp2_with fail
      go_roundw
      case measure => simp [intOf]; omega
      case rel => exact ⟨i + 1, (a : Int), by omega, by go_num, rfl, NEXT.out, B4.out⟩
    · obtain rfl : N = i := by omega
      have hlt' : ¬ (N : Int) < N := by omega
      obtain ⟨wY, hY⟩ : ∃ u, u = wr := ⟨_, rfl⟩
      subst hY
      go_wp2_with fail
      go_loopw [17] (fun s17 wr => ∃ j : Nat, j ≤ l5 ∧ s17 = .int .i64 j ∧ Below w5_.heap.size w5_ wr) (fun s17 _ => l5 - (intOf s17).toNat)
      case atStart => exact ⟨0, by omega, by go_num, BW.out⟩
      case round =>
        clear BW X6r X8r HZ
        obtain ⟨j, hj, rfl, hb⟩ := hrel
        have BW := Lib.hid hb
        have X6r := Lib.hid ((hb.block _ (heap_lt X6.out)).trans X6.out)
        have X8r := Lib.hid ((hb.block _ (heap_lt X8.out)).trans X8.out)
        clear hb
        obtain ⟨k0, k1, k2, k3⟩ := cell4_of X6r.out
        obtain ⟨m0, m1, m2, m3, m4, m5, m6⟩ := cell7_of X8r.out
        have h5m : l5 ≤ 3 := HNN.out.2.2.2
        by_cases hlt2 : j < l5
        · have hlt2' : (j : Int) < l5 := by omega
          have hjf : j < r.flanks.length := by rw [← NR.out.2.2]; exact hlt2
          obtain ⟨M_, hM⟩ : ∃ n, n = N + j := ⟨_, rfl⟩
          have hMd : M_ < x.asks.length := by rw [← ND.out.2.2]; have := HNN.out; omega
          have hMd' : (M_ : Int) < dn2 := by have := HNN.out; omega
          have hw : IntKind.i64.wrap ((N : Int) + (j : Int)) = (M_ : Int) := by have := HNN.out; rw [wrap_id (by omega) (by omega)]; omega
          obtain ⟨a1, a2, hfl⟩ : ∃ a b, r.flanks[j] = (a, b) := ⟨_, _, rfl⟩
          have hxm : x.asks[M_] = (a1, a2, (-1 : Int)) := asks_flank HXA.out hjf hfl (by rw [← HNN.out.1]; exact hM) hMd
          obtain ⟨bk, ok, e6, hbk, hg0, hg1, hg2⟩ := (AS.out.below sigR BW.out).at hMd
          cases e6
          rw [hxm] at hg0 hg1 hg2
          have g0 : wr.cell? ⟨bk, ok + M_ * 3, none⟩ = some (.int .i64 a1) := hg0
          have g1 : wr.cell? ⟨bk, ok + M_ * 3 + 1, none⟩ = some (.int .i64 a2) := hg1
          have g2 : wr.cell? ⟨bk, ok + M_ * 3 + 2, none⟩ = some (.int .i64 (-1)) := hg2
          obtain ⟨bf, of_, e7, hbf, hh0, hh1⟩ := (FL.out.below joinR BW.out).at hjf
          cases e7
          rw [hfl] at hh0 hh1
          have j0 : wr.cell? ⟨bf, of_ + j * 2, none⟩ = some (.int .i64 a1) := hh0
          have j1 : wr.cell? ⟨bf, of_ + j * 2 + 1, none⟩ = some (.int .i64 a2) := hh1
          have hcmp : ∀ w' : World, (Op.equalIn 10000 79 (.agg #[.int .i64 a1, .int .i64 a2, .int .i64 (-1)]) (.agg #[.int .i64 a1, .int .i64 a2, .int .i64 (-1)])).run Try.prog w' = .ok true w' := eqAsk_eq (x := (a1, a2, -1)) (y := (a1, a2, -1)) rfl
          have BD : Hid (∀ nq, Below wr.heap.size wr (wr.drewN nq)) := Lib.hid (fun nq => drewN_below wr nq)
          have h0M : (0 : Int) ≤ (M_ : Int) := by omega
          clear hM hMd hfl hxm hbk hg0 hg1 hg2 hbf hh0 hh1 hjf
          go_upto_region 24 with fail
          go_quiet (fail)
          have hdb := BD.out nq
          generalize wr.drewN nq = v4 at hdb ⊢
          have B4 : Hid (Below w5_.heap.size w5_ v4) := Lib.hid (BW.out.trans (hdb.mono BW.out.size))
          clear hdb BD hw g0 g1 g2 j0 j1 hcmp k0 k1 k2 k3 m0 m1 m2 m3 m4 m5 m6
          go_wp2_with fail
          go_roundw
          case measure => simp [intOf]; omega
          case rel => exact ⟨j + 1, by omega, by go_num, B4.out⟩
        · obtain rfl : l5 = j := by omega
          have hlt2' : ¬ (l5 : Int) < l5 := by omega
          go_wp2_with fail
          go_ret
          exact ⟨rfl, BZ.out.trans (BW.out.mono BZ.out.size)⟩
end Go.Proofs.Ytjgdgdccnbmbiaa
