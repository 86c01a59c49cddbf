/-
 The program's package way: followed, Of, Outs.
 Conditions: none.
-/
import Derived.Test.YtemmgmjhomgbbaaQWayPK
import Derived.Test.YtemmgmjhomgbbaaQGWayRefF
import Derived.Test.YtemmgmjhomgbbaaQPlnP4
import Derived.Test.YtemmgmjhomgbbaaQGWayM
set_option linter.unusedVariables false
set_option linter.unusedSimpArgs false
set_option maxRecDepth 100000
namespace Go.Proofs.Ytemmgmjhomgbbaa
open Go.RowKit

/-- What followed answers. -/
def FwdP (w : World) (p : Pl) (id : Int) (e : Ending) (w' : World) : Prop :=
 ∃ (F : Nat → Value) (a b : Int) (h2 : Value) (t0 t1 : Int) (y0 y1 y2 : Value) (o : Value), e = .returned (.tuple #[.agg (wkRow F a b h2 t0 t1 y0 y1 y2 (wayV p id).near o), .int .i64 (wayE p id)]) ∧ (wkRow F a b h2 t0 t1 y0 y1 y2 (wayV p id).near o).all (·.oneCell') = true ∧
  WyOwn w' w.heap.size y0 y1 y2 (wayV p id) ∧ JoinsOwn w' w.heap.size o (leftV p id) ∧ Below w.heap.size w w'
theorem FwdP.zero {w w' : World} {p : Pl} {id E : Int} (hE : wayE p id = E) (h0 : E ≠ 0) {e : Ending} (he : e = .returned (.tuple #[.agg #[.int .i64 0, .int .i64 0, .slice none 0 0, .slice none 0 0, .slice none 0 0, .slice none 0 0, .int .i64 0, .int .i64 0, .int .i64 0, .slice none 0 0, .slice none 0 0, .slice none 0 0, .int .i64 0, .slice none 0 0, .int .i64 0, .int .i64 0, .slice none 0 0, .int .i64 0, .int .i64 0, .slice none 0 0, .slice none 0 0, .slice none 0 0, .int .i64 0, .slice none 0 0], .int .i64 E])) (hb : Below w.heap.size w w') : FwdP w p id e w' := by
 have hv : wayV p id = zWy := by rw [wayV, if_neg (by omega)]
 have hl : leftV p id = [] := by rw [leftV, if_neg (by omega)]
 refine ⟨zF, 0, 0, .slice none 0 0, 0, 0, .slice none 0 0, .slice none 0 0, .slice none 0 0, .slice none 0 0, ?_, ?_, ?_, ?_, hb⟩
 ·rw [he, hv, hE]; rfl
 ·exact wk_one zF_one 0 0 0 0 _ rfl rfl rfl rfl rfl
 ·rw [hv]; exact wyOwn_zero _ _
 ·rw [hl]; exact ListOwn.nil_
set_option maxHeartbeats 8000000 in
theorem pfollowed_any (v : Value) (p : Pl) (id : Int) (w : World) (h : PlanV w w.heap.size v p) :
  Calls Try.prog 40 #[v, .int .i64 id] w fun e w' => FwdP w p id e w' := by
 obtain ⟨v2, v3, v4, v5, rfl, hin⟩ := h
 have HIN := Lib.hid hin
 obtain ⟨A2, c2, rfl, -, -⟩ := hin.secs.slice
 obtain ⟨A3, c3, rfl, -, -⟩ := hin.pts.slice
 obtain ⟨A4, c4, rfl, -, -⟩ := hin.sigs.slice
 obtain ⟨A5, c5, rfl, -, -⟩ := hin.routes.slice
 obtain ⟨n2, hn2⟩ : ∃ n, n = p.secs.length := ⟨_, rfl⟩
 obtain ⟨n3, hn3⟩ : ∃ n, n = p.pts.length := ⟨_, rfl⟩
 obtain ⟨n4, hn4⟩ : ∃ n, n = p.sigs.length := ⟨_, rfl⟩
 obtain ⟨n5, hn5⟩ : ∃ n, n = p.routes.length := ⟨_, rfl⟩
 have HPV : Hid (PlIn w w.heap.size (.slice A2 n2 c2) (.slice A3 n3 c3) (.slice A4 n4 c4) (.slice A5 n5 c5) p) := Lib.hid (by rw [hn2, hn3, hn4, hn5]; exact HIN.out)
 rw [← hn2, ← hn3, ← hn4, ← hn5]
 clear hn2 hn3 hn4 hn5 hin HIN
 have hq := two_boxes w (.cells #[.int .i64 p.ver, .int .i64 p.par, .slice A2 n2 c2, .slice A3 n3 c3, .slice A4 n4 c4, .slice A5 n5 c5] 35) (.cells #[.int .i64 0, .int .i64 0, .slice none 0 0, .slice none 0 0, .slice none 0 0, .slice none 0 0, .int .i64 0, .int .i64 0, .int .i64 0, .slice none 0 0, .slice none 0 0, .slice none 0 0, .int .i64 0, .slice none 0 0, .int .i64 0, .int .i64 0, .slice none 0 0, .int .i64 0, .int .i64 0, .slice none 0 0, .slice none 0 0, .slice none 0 0, .int .i64 0, .slice none 0 0] 99)
 go_enter Try.func40, Try.ntmps40
 go_upto_region 1 with fail
 generalize (w.alloc (.cells #[.int .i64 p.ver, .int .i64 p.par, .slice A2 n2 c2, .slice A3 n3 c3, .slice A4 n4 c4, .slice A5 n5 c5] 35)).alloc (.cells #[.int .i64 0, .int .i64 0, .slice none 0 0, .slice none 0 0, .slice none 0 0, .slice none 0 0, .int .i64 0, .int .i64 0, .int .i64 0, .slice none 0 0, .slice none 0 0, .slice none 0 0, .int .i64 0, .slice none 0 0, .int .i64 0, .int .i64 0, .slice none 0 0, .int .i64 0, .int .i64 0, .slice none 0 0, .slice none 0 0, .slice none 0 0, .int .i64 0, .slice none 0 0] 99) = q at hq ⊢
 obtain ⟨q0, q1, qb⟩ := hq
 have X := Lib.hid q0
 have X4 := Lib.hid q1
 have BQ := Lib.hid qb
 clear q0 q1 qb
 have HPQ := Lib.hid ((HPV.out.below BQ.out).more BQ.out.size)
 obtain ⟨k0, k1, k2, k3, k4, k5⟩ := cell6_of X.out
 go_wp2_with fail
 refine (planSaid.route _ p id q ⟨_, _, _, _, rfl, HPQ.out⟩).mono ?_
 rintro e w1 ⟨u3, u4, u5, rfl, hu, b1⟩
 obtain ⟨r, hr⟩ : ∃ r, r = elV p kRt p.routes id zRt := ⟨_, rfl⟩
 obtain ⟨E, hE⟩ : ∃ z, z = elE p kRt p.routes id := ⟨_, rfl⟩
 rw [← hr] at hu ⊢
 rw [← hE]
 have HR0 := Lib.hid hr
 have HE := Lib.hid hE
 obtain ⟨D3, f3, rfl⟩ := hu.path.slice
 obtain ⟨D4, f4, rfl⟩ := hu.over.slice
 obtain ⟨D5, f5, rfl⟩ := hu.flanks.slice
 obtain ⟨l3, hl3⟩ : ∃ n, n = r.path.length := ⟨_, rfl⟩
 obtain ⟨l4, hl4⟩ : ∃ n, n = r.over.length := ⟨_, rfl⟩
 obtain ⟨l5, hl5⟩ : ∃ n, n = r.flanks.length := ⟨_, rfl⟩
 have RO : Hid (RtOwn w1 q.heap.size (.slice D3 l3 f3) (.slice D4 l4 f4) (.slice D5 l5 f5) r) := Lib.hid (by rw [hl3, hl4, hl5]; exact hu)
 rw [← hl3, ← hl4, ← hl5]
 have X1 := Lib.hid ((b1.block _ (heap_lt X.out)).trans X.out)
 have X41 := Lib.hid ((b1.block _ (heap_lt X4.out)).trans X4.out)
 have B1 := Lib.hid (BQ.out.trans (b1.mono BQ.out.size))
 have XX0 := heap_alloc_self w1 (.cells #[.int .i64 0, .int .i64 0, .int .i64 0, .slice none 0 0, .slice none 0 0, .slice none 0 0, .int .i64 0] 70)
 have hz0 := below_setRow (below_new w1 (.cells #[.int .i64 0, .int .i64 0, .int .i64 0, .slice none 0 0, .slice none 0 0, .slice none 0 0, .int .i64 0] 70)) (Nat.le_refl _) #[.int .i64 r.id, .int .i64 r.entry, .int .i64 r.exit, .slice D3 l3 f3, .slice D4 l4 f4, .slice D5 l5 f5, .int .i64 r.timer]
 have hz1 := setRow_heap (w1.alloc (.cells #[.int .i64 0, .int .i64 0, .int .i64 0, .slice none 0 0, .slice none 0 0, .slice none 0 0, .int .i64 0] 70)) w1.heap.size _ #[.int .i64 r.id, .int .i64 r.entry, .int .i64 r.exit, .slice D3 l3 f3, .slice D4 l4 f4, .slice D5 l5 f5, .int .i64 r.timer] 70 _ XX0
 clear hl3 hl4 hl5 hu b1 hr hE k0 k1 k2 k3 k4 k5
 go_upto_region 2 with ((with_reducible show wpList _ _ _ (⟨none, _, _, _, _, _⟩ :: _) _ _); refine wpList_store_rowS rfl _ (.tmp 6) (.tmp 12) rfl w1.heap.size rfl (c' := #[.int .i64 r.id, .int .i64 r.entry, .int .i64 r.exit, .slice D3 l3 f3, .slice D4 l4 f4, .slice D5 l5 f5, .int .i64 r.timer]) rfl XX0 infoRoute7 rfl (by simp [Value.oneCell']) ?_)
 generalize (w1.alloc (.cells #[.int .i64 0, .int .i64 0, .int .i64 0, .slice none 0 0, .slice none 0 0, .slice none 0 0, .int .i64 0] 70)).setRow w1.heap.size #[.int .i64 r.id, .int .i64 r.entry, .int .i64 r.exit, .slice D3 l3 f3, .slice D4 l4 f4, .slice D5 l5 f5, .int .i64 r.timer] = q2 at hz0 hz1 ⊢
 obtain ⟨p6, hp6⟩ : ∃ n, n = w1.heap.size := ⟨_, rfl⟩
 rw [← hp6] at hz1 ⊢
 have X6 := Lib.hid hz1
 have B2 : Hid (Below w.heap.size w q2) := Lib.hid (B1.out.trans (hz0.mono B1.out.size))
 have X2 := Lib.hid ((hz0.block _ (heap_lt X1.out)).trans X1.out)
 have X42 := Lib.hid ((hz0.block _ (heap_lt X41.out)).trans X41.out)
 have RO2 := Lib.hid (RO.out.below hz0)
 clear hz0 hz1 XX0 hp6
 by_cases h0 : E = 0
 rotate_left
 ·have d0 : (E != 0) = true := by simpa using h0
  have HW : Hid (wayE p id = E) := Lib.hid (by
   have := HE.out
   rw [elE] at this
   rw [wayE]
   cases hm : planMay p with
   | false => rw [hm] at this; exact this.symm
   | true =>
    rw [hm, if_pos rfl] at this
    rw [if_pos rfl]
    by_cases ha : at1 kRt p.routes id < 0
    ·rw [if_pos ha] at this ⊢; exact this.symm
    ·rw [if_neg ha] at this; exact absurd this h0)
  have H0 := Lib.hid h0
  clear h0
  go_wp2_with ((with_reducible show wpList _ _ _ (⟨none, _, _, _, _, _⟩ :: _) _ _); refine wpList_store_rowS rfl _ (.tmp 4) (.tmp 16) rfl (w.heap.size + 1) rfl (c' := #[.int .i64 0, .int .i64 0, .slice none 0 0, .slice none 0 0, .slice none 0 0, .slice none 0 0, .int .i64 0, .int .i64 0, .int .i64 0, .slice none 0 0, .slice none 0 0, .slice none 0 0, .int .i64 0, .slice none 0 0, .int .i64 0, .int .i64 0, .slice none 0 0, .int .i64 0, .int .i64 0, .slice none 0 0, .slice none 0 0, .slice none 0 0, .int .i64 0, .slice none 0 0]) rfl X42.out infoWalk rfl (by simp [Value.oneCell']) ?_)
  refine bodyPost_ret (results_rowS_tmp (c := #[.int .i64 0, .int .i64 0, .slice none 0 0, .slice none 0 0, .slice none 0 0, .slice none 0 0, .int .i64 0, .int .i64 0, .int .i64 0, .slice none 0 0, .slice none 0 0, .slice none 0 0, .int .i64 0, .slice none 0 0, .int .i64 0, .int .i64 0, .slice none 0 0, .int .i64 0, .int .i64 0, .slice none 0 0, .slice none 0 0, .slice none 0 0, .int .i64 0, .slice none 0 0]) rfl _ _ (w.heap.size + 1) rfl (setRow_heap _ _ _ _ _ _ X42.out) Try.underlying99 infoWalk (.int .i64 E) rfl) rfl ?_
  exact FwdP.zero HW.out H0.out rfl (below_setRow B2.out (Nat.le_succ _) _)
 subst h0
 have HP : Hid (planMay p = true ∧ ∃ k, ∃ hk : k < p.routes.length, at1 kRt p.routes id = (k : Int) ∧ r = p.routes[k]) := Lib.hid (by
  have h1 := HE.out
  rw [elE] at h1
  cases hm : planMay p with
  | false => rw [hm] at h1; simp at h1
  | true =>
   rw [hm, if_pos rfl] at h1
   rcases at1_cases kRt p.routes id with ⟨h2, -⟩ | ⟨k, hk, h2, -⟩
   ·rw [if_pos (by omega)] at h1; cases h1
   ·exact ⟨rfl, k, hk, h2, by rw [HR0.out]; exact (elE_some hm hk h2).2⟩)
 have HRI : Hid (RouteIn p r) := Lib.hid (by
  obtain ⟨hm, k, hk, -, rfl⟩ := HP.out
  exact routeIn_of (planMay_iff.1 hm) hk rfl)
 obtain ⟨k0, k1, k2, k3, k4, k5⟩ := cell6_of X2.out
 obtain ⟨m0, m1, m2, m3, m4, m5, m6⟩ := cell7_of X6.out
 go_wp2_with fail
 refine (pfollow_any _ _ p r q2 ⟨_, _, _, _, rfl, (HPV.out.below B2.out).more B2.out.size⟩ ⟨_, _, _, rfl, RO2.out.in_⟩ HRI.out).mono ?_
 rintro e w3 ⟨F, a, b, h2, t0, t1, y0, y1, y2, x, o, l, E, rfl, hone, hwy, hjo, hcase, b3⟩
 obtain ⟨row, hrow⟩ : ∃ c, c = wkRow F a b h2 t0 t1 y0 y1 y2 x.near o := ⟨_, rfl⟩
 rw [← hrow]
 have HROW := Lib.hid hrow
 have HSIZE : Hid (row.size = 24) := Lib.hid (by rw [hrow]; rfl)
 have HR1 : Hid (row.all (·.oneCell') = true) := Lib.hid (by rw [hrow]; exact hone)
 have INF : Hid ((Try.prog.info? 99).map (·.size) = some row.size) := Lib.hid (by rw [HSIZE.out]; exact infoWalk)
 have HONE := Lib.hid hone
 have HWY := Lib.hid hwy
 have HJO := Lib.hid hjo
 have X43 := Lib.hid ((b3.block _ (heap_lt X42.out)).trans X42.out)
 have B3 : Hid (Below w.heap.size w w3) := Lib.hid (B2.out.trans (b3.mono B2.out.size))
 have LQ : Hid (w.heap.size + 1 < q2.heap.size) := Lib.hid (heap_lt X42.out)
 have HC : Hid (wayE p id = E ∧ wayV p id = x ∧ leftV p id = l) := Lib.hid (by
  obtain ⟨hm, k, hk, hat, hrk⟩ := HP.out
  have hn : routeN p id = r := by rw [routeN_at hk hat, hrk]
  have hneg : ¬ at1 kRt p.routes id < 0 := by omega
  rcases hcase with ⟨hg, rfl, rfl, rfl⟩ | ⟨hg, rfl, rfl, rfl⟩
  ·have he : wayE p id = 0 := by rw [wayE, hm, if_pos rfl, if_neg hneg, hn, hangsB_true hg, if_pos rfl]
   exact ⟨he, by rw [wayV, if_pos he, hn], by rw [leftV, if_pos he, hn]⟩
  ·have he : wayE p id = 90 := by rw [wayE, hm, if_pos rfl, if_neg hneg, hn, hangsB_false hg]; rfl
   exact ⟨he, by rw [wayV, if_neg (by omega)], by rw [leftV, if_neg (by omega)]⟩)
 clear hrow hone hwy hjo hcase b3 k0 k1 k2 k3 k4 k5 m0 m1 m2 m3 m4 m5 m6
 go_wp2_with ((with_reducible show wpList _ _ _ (⟨none, _, _, _, _, _⟩ :: _) _ _); refine wpList_store_rowS rfl _ (.tmp 4) (.tmp 21) rfl (w.heap.size + 1) rfl (c' := row) rfl X43.out INF.out (by rw [HSIZE.out]; rfl) HR1.out ?_)
 refine bodyPost_ret (results_rowS_tmp (c := row) rfl _ _ (w.heap.size + 1) rfl (setRow_heap _ _ _ _ _ _ X43.out) Try.underlying99 INF.out (.int .i64 E) rfl) rfl ?_
 have hkp := grownBy_setRow w3 (w.heap.size + 1) row
 have hoo : JoinsOwn (w3.setRow (w.heap.size + 1) row) q2.heap.size o l := own_kept joinF HJO.out hkp (fun k hk => by have := own_lo HJO.out k hk; have := LQ.out; omega)
 obtain ⟨c1, c2', c3'⟩ := HC.out
 refine ⟨F, a, b, h2, t0, t1, y0, y1, y2, o, by rw [HROW.out, c1, c2'], by rw [c2']; exact HONE.out, ?_, ?_, below_setRow B3.out (Nat.le_succ _) _⟩
 ·rw [c2']; exact (HWY.out.kept hkp LQ.out).mono B2.out.size
 ·rw [c3']; exact hoo.mono B2.out.size
set_option maxHeartbeats 8000000 in
theorem pof_any (v : Value) (p : Pl) (id : Int) (w : World) (h : PlanV w w.heap.size v p) :
  Calls Try.prog 22 #[v, .int .i64 id] w fun e w' => ∃ u0 u1 u2, e = .returned (.tuple #[.agg #[u0, u1, u2, .int .i64 (wayV p id).near], .int .i64 (wayE p id)]) ∧ WyOwn w' w.heap.size u0 u1 u2 (wayV p id) ∧ Below w.heap.size w w' := by
 obtain ⟨v2, v3, v4, v5, rfl, hin⟩ := h
 have HIN := Lib.hid hin
 obtain ⟨A2, c2, rfl, -, -⟩ := hin.secs.slice
 obtain ⟨A3, c3, rfl, -, -⟩ := hin.pts.slice
 obtain ⟨A4, c4, rfl, -, -⟩ := hin.sigs.slice
 obtain ⟨A5, c5, rfl, -, -⟩ := hin.routes.slice
 obtain ⟨n2, hn2⟩ : ∃ n, n = p.secs.length := ⟨_, rfl⟩
 obtain ⟨n3, hn3⟩ : ∃ n, n = p.pts.length := ⟨_, rfl⟩
 obtain ⟨n4, hn4⟩ : ∃ n, n = p.sigs.length := ⟨_, rfl⟩
 obtain ⟨n5, hn5⟩ : ∃ n, n = p.routes.length := ⟨_, rfl⟩
 have HPV : Hid (PlIn w w.heap.size (.slice A2 n2 c2) (.slice A3 n3 c3) (.slice A4 n4 c4) (.slice A5 n5 c5) p) := Lib.hid (by rw [hn2, hn3, hn4, hn5]; exact HIN.out)
 rw [← hn2, ← hn3, ← hn4, ← hn5]
 clear hn2 hn3 hn4 hn5 hin HIN
 have hq := two_boxes w (.cells #[.int .i64 p.ver, .int .i64 p.par, .slice A2 n2 c2, .slice A3 n3 c3, .slice A4 n4 c4, .slice A5 n5 c5] 35) (.cells #[.slice none 0 0, .slice none 0 0, .slice none 0 0, .int .i64 0] 53)
 go_enter Try.func22, Try.ntmps22
 go_upto_region 1 with fail
 generalize (w.alloc (.cells #[.int .i64 p.ver, .int .i64 p.par, .slice A2 n2 c2, .slice A3 n3 c3, .slice A4 n4 c4, .slice A5 n5 c5] 35)).alloc (.cells #[.slice none 0 0, .slice none 0 0, .slice none 0 0, .int .i64 0] 53) = q at hq ⊢
 obtain ⟨q0, q1, qb⟩ := hq
 have X := Lib.hid q0
 have X4 := Lib.hid q1
 have BQ := Lib.hid qb
 clear q0 q1 qb
 obtain ⟨k0, k1, k2, k3, k4, k5⟩ := cell6_of X.out
 go_wp2_with fail
 refine (pfollowed_any _ p id q ⟨_, _, _, _, rfl, (HPV.out.below BQ.out).more BQ.out.size⟩).mono ?_
 rintro e w1 ⟨F, a, b, h2, t0, t1, y0, y1, y2, o, rfl, hone, hwy, hjo, b1⟩
 obtain ⟨x, hx⟩ : ∃ x, x = wayV p id := ⟨_, rfl⟩
 obtain ⟨E, hE⟩ : ∃ z, z = wayE p id := ⟨_, rfl⟩
 obtain ⟨l, hl⟩ : ∃ z, z = leftV p id := ⟨_, rfl⟩
 rw [← hx] at hone hwy ⊢
 rw [← hl] at hjo
 rw [← hE]
 obtain ⟨row, hrow⟩ : ∃ c, c = wkRow F a b h2 t0 t1 y0 y1 y2 x.near o := ⟨_, rfl⟩
 rw [← hrow]
 have HROW := Lib.hid hrow
 have HSIZE : Hid (row.size = 24) := Lib.hid (by rw [hrow]; rfl)
 have HR1 : Hid (row.all (·.oneCell') = true) := Lib.hid (by rw [hrow]; exact hone)
 have INF : Hid ((Try.prog.info? 99).map (·.size) = some row.size) := Lib.hid (by rw [HSIZE.out]; exact infoWalk)
 have HWY := Lib.hid hwy
 have HJO := Lib.hid hjo
 have HX := Lib.hid hx
 have HE := Lib.hid hE
 have HL := Lib.hid hl
 have B1 : Hid (Below w.heap.size w w1) := Lib.hid (BQ.out.trans (b1.mono BQ.out.size))
 have X41 := Lib.hid ((b1.block _ (heap_lt X4.out)).trans X4.out)
 have LQ : Hid (w.heap.size + 1 < q.heap.size) := Lib.hid (heap_lt X4.out)
 have XX0 := heap_alloc_self w1 (.cells #[.int .i64 0, .int .i64 0, .slice none 0 0, .slice none 0 0, .slice none 0 0, .slice none 0 0, .int .i64 0, .int .i64 0, .int .i64 0, .slice none 0 0, .slice none 0 0, .slice none 0 0, .int .i64 0, .slice none 0 0, .int .i64 0, .int .i64 0, .slice none 0 0, .int .i64 0, .int .i64 0, .slice none 0 0, .slice none 0 0, .slice none 0 0, .int .i64 0, .slice none 0 0] 99)
 have hz0 := below_setRow (below_new w1 (.cells #[.int .i64 0, .int .i64 0, .slice none 0 0, .slice none 0 0, .slice none 0 0, .slice none 0 0, .int .i64 0, .int .i64 0, .int .i64 0, .slice none 0 0, .slice none 0 0, .slice none 0 0, .int .i64 0, .slice none 0 0, .int .i64 0, .int .i64 0, .slice none 0 0, .int .i64 0, .int .i64 0, .slice none 0 0, .slice none 0 0, .slice none 0 0, .int .i64 0, .slice none 0 0] 99)) (Nat.le_refl _) row
 have hz1 := setRow_heap (w1.alloc (.cells #[.int .i64 0, .int .i64 0, .slice none 0 0, .slice none 0 0, .slice none 0 0, .slice none 0 0, .int .i64 0, .int .i64 0, .int .i64 0, .slice none 0 0, .slice none 0 0, .slice none 0 0, .int .i64 0, .slice none 0 0, .int .i64 0, .int .i64 0, .slice none 0 0, .int .i64 0, .int .i64 0, .slice none 0 0, .slice none 0 0, .slice none 0 0, .int .i64 0, .slice none 0 0] 99)) w1.heap.size _ row 99 _ XX0
 clear hrow hone hwy hjo b1 hx hE hl k0 k1 k2 k3 k4 k5
 go_upto_region 2 with ((with_reducible show wpList _ _ _ (⟨none, _, _, _, _, _⟩ :: _) _ _); refine wpList_store_rowS rfl _ (.tmp 6) (.tmp 12) rfl w1.heap.size rfl (c' := row) rfl XX0 INF.out (by rw [HSIZE.out]; rfl) HR1.out ?_)
 generalize (w1.alloc (.cells #[.int .i64 0, .int .i64 0, .slice none 0 0, .slice none 0 0, .slice none 0 0, .slice none 0 0, .int .i64 0, .int .i64 0, .int .i64 0, .slice none 0 0, .slice none 0 0, .slice none 0 0, .int .i64 0, .slice none 0 0, .int .i64 0, .int .i64 0, .slice none 0 0, .int .i64 0, .int .i64 0, .slice none 0 0, .slice none 0 0, .slice none 0 0, .int .i64 0, .slice none 0 0] 99)).setRow w1.heap.size row = q2 at hz0 hz1 ⊢
 obtain ⟨p6, hp6⟩ : ∃ n, n = w1.heap.size := ⟨_, rfl⟩
 rw [← hp6] at hz1 ⊢
 have X6 := Lib.hid hz1
 have B2 : Hid (Below w.heap.size w q2) := Lib.hid (B1.out.trans (hz0.mono B1.out.size))
 have HWY2 := Lib.hid (HWY.out.below hz0)
 have HJO2 := Lib.hid (HJO.out.below joinR hz0)
 have X42 := Lib.hid ((hz0.block _ (heap_lt X41.out)).trans X41.out)
 clear hz0 hz1 XX0 hp6
 obtain ⟨U0, d0, e0⟩ := HWY2.out.path.slice
 obtain ⟨U1, d1, e1⟩ := HWY2.out.over.slice
 obtain ⟨U2, d2, e2⟩ := HWY2.out.asks.slice
 subst e0 e1 e2
 obtain ⟨m0, hm0⟩ : ∃ n, n = x.path.length := ⟨_, rfl⟩
 obtain ⟨m1, hm1⟩ : ∃ n, n = x.over.length := ⟨_, rfl⟩
 obtain ⟨m2, hm2⟩ : ∃ n, n = x.asks.length := ⟨_, rfl⟩
 rw [← hm0, ← hm1, ← hm2] at HROW HWY2
 clear hm0 hm1 hm2 HWY
 have k19 : q2.cell? ⟨p6, 19, none⟩ = some (.slice U0 m0 d0) := by rw [cell_of_row _ _ 19 _ _ _ X6.out, HROW.out]; rfl
 have k20 : q2.cell? ⟨p6, 20, none⟩ = some (.slice U1 m1 d1) := by rw [cell_of_row _ _ 20 _ _ _ X6.out, HROW.out]; rfl
 have k21 : q2.cell? ⟨p6, 21, none⟩ = some (.slice U2 m2 d2) := by rw [cell_of_row _ _ 21 _ _ _ X6.out, HROW.out]; rfl
 have k22 : q2.cell? ⟨p6, 22, none⟩ = some (.int .i64 x.near) := by rw [cell_of_row _ _ 22 _ _ _ X6.out, HROW.out]; rfl
 go_wp2_with ((with_reducible show wpList _ _ _ (⟨none, _, _, _, _, _⟩ :: _) _ _); refine wpList_store_rowS rfl _ (.tmp 4) (.tmp 15) rfl (w.heap.size + 1) rfl (c' := #[.slice U0 m0 d0, .slice U1 m1 d1, .slice U2 m2 d2, .int .i64 x.near]) rfl X42.out infoWay4 rfl (by simp [Value.oneCell']) ?_)
 refine bodyPost_ret (results_rowS_tmp (c := #[.slice U0 m0 d0, .slice U1 m1 d1, .slice U2 m2 d2, .int .i64 x.near]) rfl _ _ (w.heap.size + 1) rfl (setRow_heap _ _ _ _ _ _ X42.out) Try.underlying53 infoWay4 (.int .i64 E) rfl) rfl ?_
 exact ⟨_, _, _, by rw [← HX.out, ← HE.out], by rw [← HX.out]; exact (HWY2.out.kept (grownBy_setRow q2 (w.heap.size + 1) _) LQ.out).mono BQ.out.size, below_setRow B2.out (Nat.le_succ _) _⟩

theorem waySaid : WaySaid where
 of := pof_any
end Go.Proofs.Ytemmgmjhomgbbaa
