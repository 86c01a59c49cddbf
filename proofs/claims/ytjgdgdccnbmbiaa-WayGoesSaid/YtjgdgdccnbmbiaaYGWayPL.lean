/-
  The program's package way: followed, Of, Outs.
  Conditions: none.
-/
import Derived.Test.YtjgdgdccnbmbiaaYWayPK
import Derived.Test.YtjgdgdccnbmbiaaYWayProg
import Derived.Test.YtjgdgdccnbmbiaaYPlnP4
import Derived.Test.YtjgdgdccnbmbiaaYGWayM
set_option linter.unusedVariables false
set_option linter.unusedSimpArgs false
set_option maxRecDepth 100000
namespace Go.Proofs.Ytjgdgdccnbmbiaa
open Go.RowKit

/-- What followed answers. -/
def FwdP (w : World) (p : Pl) (id : Int) (e : Ending) (w' : World) : Prop :=
  ∃ (F : Nat → Value) (a b : Int) (h2 : Value) (t0 t1 : Int) (y0 y1 y2 : Value) (o : Value), e = .returned (.tuple #[.agg (wkRow F a b h2 t0 t1 y0 y1 y2 (wayV p id).near o), .int .i64 (wayE p id)]) ∧ (wkRow F a b h2 t0 t1 y0 y1 y2 (wayV p id).near o).all (·.oneCell') = true ∧
    WyOwn w' w.heap.size y0 y1 y2 (wayV p id) ∧ JoinsOwn w' w.heap.size o (leftV p id) ∧ Below w.heap.size w w'
theorem FwdP.zero {w w' : World} {p : Pl} {id E : Int} (hE : wayE p id = E) (h0 : E ≠ 0) {e : Ending} (he : e = .returned (.tuple #[.agg #[.int .i64 0, .int .i64 0, .slice none 0 0, .slice none 0 0, .slice none 0 0, .slice none 0 0, .int .i64 0, .int .i64 0, .int .i64 0, .slice none 0 0, .slice none 0 0, .slice none 0 0, .int .i64 0, .slice none 0 0, .int .i64 0, .int .i64 0, .slice none 0 0, .int .i64 0, .int .i64 0, .slice none 0 0, .slice none 0 0, .slice none 0 0, .int .i64 0, .slice none 0 0], .int .i64 E])) (hb : Below w.heap.size w w') : FwdP w p id e w' := by
  have hv : wayV p id = zWy := by rw [wayV, if_neg (by omega)]
  have hl : leftV p id = [] := by rw [leftV, if_neg (by omega)]
  refine ⟨zF, 0, 0, .slice none 0 0, 0, 0, .slice none 0 0, .slice none 0 0, .slice none 0 0, .slice none 0 0, ?_, ?_, ?_, ?_, hb⟩
  · rw [he, hv, hE]; rfl
  · exact wk_one zF_one 0 0 0 0 _ rfl rfl rfl rfl rfl
  · rw [hv]; exact wyOwn_zero _ _
  · rw [hl]; exact ListOwn.nil_
set_option maxHeartbeats 8000000 in
theorem pfollowed_any (v : Value) (p : Pl) (id : Int) (w : World) (h : PlanV w w.heap.size v p) :
    Calls Try.prog 31 #[v, .int .i64 id] w fun e w' => FwdP w p id e w' := by
  obtain ⟨v2, v3, v4, v5, rfl, hin⟩ := h
  have HIN := Lib.hid hin
  obtain ⟨A2, c2, rfl, -, -⟩ := hin.secs.slice
  obtain ⟨A3, c3, rfl, -, -⟩ := hin.pts.slice
  obtain ⟨A4, c4, rfl, -, -⟩ := hin.sigs.slice
  obtain ⟨A5, c5, rfl, -, -⟩ := hin.routes.slice
  obtain ⟨n2, hn2⟩ : ∃ n, n = p.secs.length := ⟨_, rfl⟩
  obtain ⟨n3, hn3⟩ : ∃ n, n = p.pts.length := ⟨_, rfl⟩
  obtain ⟨n4, hn4⟩ : ∃ n, n = p.sigs.length := ⟨_, rfl⟩
  obtain ⟨n5, hn5⟩ : ∃ n, n = p.routes.length := ⟨_, rfl⟩
  have HPV : Hid (PlIn w w.heap.size (.slice A2 n2 c2) (.slice A3 n3 c3) (.slice A4 n4 c4) (.slice A5 n5 c5) p) := Lib.hid (by rw [hn2, hn3, hn4, hn5]; exact HIN.out)
  rw [← hn2, ← hn3, ← hn4, ← hn5]
  clear hn2 hn3 hn4 hn5 hin HIN
  have hq := two_boxes w (.cells #[.int .i64 p.ver, .int .i64 p.par, .slice A2 n2 c2, .slice A3 n3 c3, .slice A4 n4 c4, .slice A5 n5 c5] 31) (.cells #[.int .i64 0, .int .i64 0, .slice none 0 0, .slice none 0 0, .slice none 0 0, .slice none 0 0, .int .i64 0, .int .i64 0, .int .i64 0, .slice none 0 0, .slice none 0 0, .slice none 0 0, .int .i64 0, .slice none 0 0, .int .i64 0, .int .i64 0, .slice none 0 0, .int .i64 0, .int .i64 0, .slice none 0 0, .slice none 0 0, .slice none 0 0, .int .i64 0, .slice none 0 0] 87)
  go_enter Try.func31, Try.ntmps31
  go_upto_region 1 with fail
  generalize (w.alloc (.cells #[.int .i64 p.ver, .int .i64 p.par, .slice A2 n2 c2, .slice A3 n3 c3, .slice A4 n4 c4, .slice A5 n5 c5] 31)).alloc (.cells #[.int .i64 0, .int .i64 0, .slice none 0 0, .slice none 0 0, .slice none 0 0, .slice none 0 0, .int .i64 0, .int .i64 0, .int .i64 0, .slice none 0 0, .slice none 0 0, .slice none 0 0, .int .i64 0, .slice none 0 0, .int .i64 0, .int .i64 0, .slice none 0 0, .int .i64 0, .int .i64 0, .slice none 0 0, .slice none 0 0, .slice none 0 0, .int .i64 0, .slice none 0 0] 87) = q at hq ⊢
  obtain ⟨q0, q1, qb⟩ := hq
  have X := Lib.hid q0
  have X4 := Lib.hid q1
  have BQ := Lib.hid qb
  clear q0 q1 qb
  have HPQ := Lib.hid ((HPV.out.below BQ.out).more BQ.out.size)
  obtain ⟨k0, k1, k2, k3, k4, k5⟩ := cell6_of X.out
  go_wp2_with fail
  refine (planSaid.route _ p id q ⟨_, _, _, _, rfl, HPQ.out⟩).mono ?_
  rintro e w1 ⟨u3, u4, u5, rfl, hu, b1⟩
  obtain ⟨r, hr⟩ : ∃ r, r = elV p kRt p.routes id zRt := ⟨_, rfl⟩
  obtain ⟨E, hE⟩ : ∃ z, z = elE p kRt p.routes id := ⟨_, rfl⟩
  rw [← hr] at hu ⊢
  rw [← hE]
  have HR0 := Lib.hid hr
  have HE := Lib.hid hE
  obtain ⟨D3, f3, rfl⟩ := hu.path.slice
  obtain ⟨D4, f4, rfl⟩ := hu.over.slice
  obtain ⟨D5, f5, rfl⟩ := hu.flanks.slice
  obtain ⟨l3, hl3⟩ : ∃ n, n = r.path.length := ⟨_, rfl⟩
  obtain ⟨l4, hl4⟩ : ∃ n, n = r.over.length := ⟨_, rfl⟩
  obtain ⟨l5, hl5⟩ : ∃ n, n = r.flanks.length := ⟨_, rfl⟩
  have RO : Hid (RtOwn w1 q.heap.size (.slice D3 l3 f3) (.slice D4 l4 f4) (.slice D5 l5 f5) r) := Lib.hid (by rw [hl3, hl4, hl5]; exact hu)
  rw [← hl3, ← hl4, ← hl5]
  have X1 := Lib.hid ((b1.block _ (heap_lt X.out)).trans X.out)
  have X41 := Lib.hid ((b1.block _ (heap_lt X4.out)).trans X4.out)
  have B1 := Lib.hid (BQ.out.trans (b1.mono BQ.out.size))
  have XX0 := heap_alloc_self w1 (.cells #[.int .i64 0, .int .i64 0, .int .i64 0, .slice none 0 0, .slice none 0 0, .slice none 0 0, .int .i64 0] 60)
  have hz0 := below_setRow (below_new w1 (.cells #[.int .i64 0, .int .i64 0, .int .i64 0, .slice none 0 0, .slice none 0 0, .slice none 0 0, .int .i64 0] 60)) (Nat.le_refl _) #[.int .i64 r.id, .int .i64 r.entry, .int .i64 r.exit, .slice D3 l3 f3, .slice D4 l4 f4, .slice D5 l5 f5, .int .i64 r.timer]
  have hz1 := setRow_heap (w1.alloc (.cells #[.int .i64 0, .int .i64 0, .int .i64 0, .slice none 0 0, .slice none 0 0, .slice none 0 0, .int .i64 0] 60)) w1.heap.size _ #[.int .i64 r.id, .int .i64 r.entry, .int .i64 r.exit, .slice D3 l3 f3, .slice D4 l4 f4, .slice D5 l5 f5, .int .i64 r.timer] 60 _ XX0
  clear hl3 hl4 hl5 hu b1 hr hE k0 k1 k2 k3 k4 k5
  go_upto_region 2 with ((with_reducible show wpList _ _ _ (⟨none, _, _, _, _, _⟩ :: _) _ _); refine wpList_store_rowS rfl _ (.tmp 6) (.tmp 12) rfl w1.heap.size rfl (c' := #[.int .i64 r.id, .int .i64 r.entry, .int .i64 r.exit, .slice D3 l3 f3, .slice D4 l4 f4, .slice D5 l5 f5, .int .i64 r.timer]) rfl XX0 infoRoute7 rfl (by simp [Value.oneCell']) ?_)
  generalize (w1.alloc (.cells #[.int .i64 0, .int .i64 0, .int .i64 0, .slice none 0 0, .slice none 0 0, .slice none 0 0, .int .i64 0] 60)).setRow w1.heap.size #[.int .i64 r.id, .int .i64 r.entry, .int .i64 r.exit, .slice D3 l3 f3, .slice D4 l4 f4, .slice D5 l5 f5, .int .i64 r.timer] = q2 at hz0 hz1 ⊢
  obtain ⟨p6, hp6⟩ : ∃ n, n = w1.heap.size := ⟨_, rfl⟩
  rw [← hp6] at hz1 ⊢
  have X6 := Lib.hid hz1
  have B2 : Hid (Below w.heap.size w q2) := Lib.hid (B1.out.trans (hz0.mono B1.out.size))
  have X2 := Lib.hid ((hz0.block _ (heap_lt X1.out)).trans X1.out)
  have X42 := Lib.hid ((hz0.block _ (heap_lt X41.out)).trans X41.out)
  have RO2 := Lib.hid (RO.out.below hz0)
  clear hz0 hz1 XX0 hp6
  by_cases h0 : E = 0
  rotate_left
  · have d0 : (E != 0) = true := by simpa using h0
    have HW : Hid (wayE p id = E) := Lib.hid (by
      have := HE.out
      rw [elE] at this
      rw [wayE]
      cases hm : planMay p with
      | false => rw [hm] at this; exact this.symm
      | true =>
        rw [hm, if_pos rfl] at this
        rw [if_pos rfl]
        by_cases ha : at1 kRt p.routes id < 0
        · rw [if_pos ha] at this ⊢; exact this.symm
        · rw [if_neg ha] at this; exact absurd this h0)
    have H0 := Lib.hid h0
    clear h0
    go_wp2_with ((with_reducible show wpList _ _ _ (⟨none, _, _, _, _, _⟩ :: _) _ _); refine wpList_store_rowS rfl _ (.tmp 4) (.tmp 16) rfl (w.heap.size + 1) rfl (c' := #[.int .i64 0, .int .i64 0, .slice none 0 0, .slice none 0 0, .slice none 0 0, .slice none 0 0, .int .i64 0, .int .i64 0, .int .i64 0, .slice none 0 0, .slice none 0 0, .slice none 0 0, .int .i64 0, .slice none 0 0, .int .i64 0, .int .i64 0, .slice none 0 0, .int .i64 0, .int .i64 0, .slice none 0 0, .slice none 0 0, .slice none 0 0, .int .i64 0, .slice none 0 0]) rfl X42.out infoWalk rfl (by simp [Value.oneCell']) ?_)
    refine bodyPost_ret (results_rowS_tmp (c := #[.int .i64 0, .int .i64 0, .slice none 0 0, .slice none 0 0, .slice none 0 0, .slice none 0 0, .int .i64 0, .int .i64 0, .int .i64 0, .slice none 0 0, .slice none 0 0, .slice none 0 0, .int .i64 0, .slice none 0 0, .int .i64 0, .int .i64 0, .slice none 0 0, .int .i64 0, .int .i64 0, .slice none 0 0, .slice none 0 0, .slice none 0 0, .int .i64 0, .slice none 0 0]) rfl _ _ (w.heap.size + 1) rfl (setRow_heap _ _ _ _ _ _ X42.out) Try.underlying87 infoWalk (.int .i64 E) rfl) rfl ?_
    exact FwdP.zero HW.out H0.out rfl (below_setRow B2.out (Nat.le_succ _) _)
  subst h0
  have HP : Hid (planMay p = true ∧ ∃ k, ∃ hk : k < p.routes.length, at1 kRt p.routes id = (k : Int) ∧ r = p.routes[k]) := Lib.hid (by
    have h1 := HE.out
    rw [elE] at h1
    cases hm : planMay p with
    | false => rw [hm] at h1; simp at h1
    | true =>
      rw [hm, if_pos rfl] at h1
      rcases at1_cases kRt p.routes id with ⟨h2, -⟩ | ⟨k, hk, h2, -⟩
      · rw [if_pos (by omega)] at h1; cases h1
      · exact ⟨rfl, k, hk, h2, by rw [HR0.out]; exact (elE_some hm hk h2).2⟩)
  have HRI : Hid (RouteIn p r) := Lib.hid (by
    obtain ⟨hm, k, hk, -, rfl⟩ := HP.out
    exact routeIn_of (planMay_iff.1 hm) hk rfl)
  obtain ⟨k0, k1, k2, k3, k4, k5⟩ := cell6_of X2.out
  obtain ⟨m0, m1, m2, m3, m4, m5, m6⟩ := cell7_of X6.out
  go_wp2_with fail
  refine (pfollow_any _ _ p r q2 ⟨_, _, _, _, rfl, (HPV.out.below B2.out).more B2.out.size⟩ ⟨_, _, _, rfl, RO2.out.in_⟩ HRI.out).mono ?_
  rintro e w3 ⟨F, a, b, h2, t0, t1, y0, y1, y2, x, o, l, E, rfl, hone, hwy, hjo, hcase, b3⟩
  obtain ⟨row, hrow⟩ : ∃ c, c = wkRow F a b h2 t0 t1 y0 y1 y2 x.near o := ⟨_, rfl⟩
  rw [← hrow]
  have HROW := Lib.hid hrow
  have HSIZE : Hid (row.size = 24) := Lib.hid (by rw [hrow]; rfl)
  have HR1 : Hid (row.all (·.oneCell') = true) := Lib.hid (by rw [hrow]; exact hone)
  have INF : Hid ((Try.prog.info? 87).map (·.size) = some row.size) := Lib.hid (by rw [HSIZE.out]; exact infoWalk)
  have HONE := Lib.hid hone
  have HWY := Lib.hid hwy
  have HJO := Lib.hid hjo
  have X43 := Lib.hid ((b3.block _ (heap_lt X42.out)).trans X42.out)
  have B3 : Hid (Below w.heap.size w w3) := Lib.hid (B2.out.trans (b3.mono B2.out.size))
  have LQ : Hid (w.heap.size + 1 < q2.heap.size) := Lib.hid (heap_lt X42.out)
  have HC : Hid (wayE p id = E ∧ wayV p id = x ∧ leftV p id = l) := Lib.hid (by
    obtain ⟨hm, k, hk, hat, hrk⟩ := HP.out
    have hn : routeN p id = r := by rw [routeN_at hk hat, hrk]
    have hneg : ¬ at1 kRt p.routes id < 0 := by omega
    rcases hcase with ⟨hg, rfl, rfl, rfl⟩ | ⟨hg, rfl, rfl, rfl⟩
    · have he : wayE p id = 0 := by rw [wayE, hm, if_pos rfl, if_neg hneg, hn, hangsB_true hg, if_pos rfl]
      exact ⟨he, by rw [wayV, if_pos he, hn], by rw [leftV, if_pos he, hn]⟩
    · have he : wayE p id = 90 := by rw [wayE, hm, if_pos rfl, if_neg hneg, hn, hangsB_false hg]; rfl
      exact ⟨he, by rw [wayV, if_neg (by omega)], by rw [leftV, if_neg (by omega)]⟩)
  clear hrow hone hwy hjo hcase b3 k0 k1 k2 k3 k4 k5 m0 m1 m2 m3 m4 m5 m6
  go_wp2_with ((with_reducible show wpList _ _ _ (⟨none, _, _, _, _, _⟩ :: _) _ _); refine wpList_store_rowS rfl _ (.tmp 4) (.tmp 21) rfl (w.heap.size + 1) rfl (c' := row) rfl X43.out INF.out (by rw [HSIZE.out]; rfl) HR1.out ?_)
  refine bodyPost_ret (results_rowS_tmp (c := row) rfl _ _ (w.heap.size + 1) rfl (setRow_heap _ _ _ _ _ _ X43.out) Try.underlying87 INF.out (.int .i64 E) rfl) rfl ?_
  have hkp := grownBy_setRow w3 (w.heap.size + 1) row
  have hoo : JoinsOwn (w3.setRow (w.heap.size + 1) row) q2.heap.size o l := own_kept joinF HJO.out hkp (fun k hk => by have := own_lo HJO.out k hk; have := LQ.out; omega)
  obtain ⟨c1, c2', c3'⟩ := HC.out
  refine ⟨F, a, b, h2, t0, t1, y0, y1, y2, o, by rw [HROW.out, c1, c2'], by rw [c2']; exact HONE.out, ?_, ?_, below_setRow B3.out (Nat.le_succ _) _⟩
  · rw [c2']; exact (HWY.out.kept hkp LQ.out).mono B2.out.size
  · rw [c3']; exact hoo.mono B2.out.size
set_option maxHeartbeats 8000000 in
theorem pof_any (v : Value) (p : Pl) (id : Int) (w : World) (h : PlanV w w.heap.size v p) :
    Calls Try.prog 11 #[v, .int .i64 id] w fun e w' => ∃ u0 u1 u2, e = .returned (.tuple #[.agg #[u0, u1, u2, .int .i64 (wayV p id).near], .int .i64 (wayE p id)]) ∧ WyOwn w' w.heap.size u0 u1 u2 (wayV p id) ∧ Below w.heap.size w w' := by
  obtain ⟨v2, v3, v4, v5, rfl, hin⟩ := h
  have HIN := Lib.hid hin
  obtain ⟨A2, c2, rfl, -, -⟩ := hin.secs.slice
  obtain ⟨A3, c3, rfl, -, -⟩ := hin.pts.slice
  obtain ⟨A4, c4, rfl, -, -⟩ := hin.sigs.slice
  obtain ⟨A5, c5, rfl, -, -⟩ := hin.routes.slice
  obtain ⟨n2, hn2⟩ : ∃ n, n = p.secs.length := ⟨_, rfl⟩
  obtain ⟨n3, hn3⟩ : ∃ n, n = p.pts.length := ⟨_, rfl⟩
  obtain ⟨n4, hn4⟩ : ∃ n, n = p.sigs.length := ⟨_, rfl⟩
  obtain ⟨n5, hn5⟩ : ∃ n, n = p.routes.length := ⟨_, rfl⟩
  have HPV : Hid (PlIn w w.heap.size (.slice A2 n2 c2) (.slice A3 n3 c3) (.slice A4 n4 c4) (.slice A5 n5 c5) p) := Lib.hid (by rw [hn2, hn3, hn4, hn5]; exact HIN.out)
  rw [← hn2, ← hn3, ← hn4, ← hn5]
  clear hn2 hn3 hn4 hn5 hin HIN
  have hq := two_boxes w (.cells #[.int .i64 p.ver, .int .i64 p.par, .slice A2 n2 c2, .slice A3 n3 c3, .slice A4 n4 c4, .slice A5 n5 c5] 31) (.cells #[.slice none 0 0, .slice none 0 0, .slice none 0 0, .int .i64 0] 36)
  go_enter Try.func11, Try.ntmps11
  go_upto_region 1 with fail
  generalize (w.alloc (.cells #[.int .i64 p.ver, .int .i64 p.par, .slice A2 n2 c2, .slice A3 n3 c3, .slice A4 n4 c4, .slice A5 n5 c5] 31)).alloc (.cells #[.slice none 0 0, .slice none 0 0, .slice none 0 0, .int .i64 0] 36) = q at hq ⊢
  obtain ⟨q0, q1, qb⟩ := hq
  have X := Lib.hid q0
  have X4 := Lib.hid q1
  have BQ := Lib.hid qb
  clear q0 q1 qb
  obtain ⟨k0, k1, k2, k3, k4, k5⟩ := cell6_of X.out
  go_wp2_with fail
  refine (pfollowed_any _ p id q ⟨_, _, _, _, rfl, (HPV.out.below BQ.out).more BQ.out.size⟩).mono ?_
  rintro e w1 ⟨F, a, b, h2, t0, t1, y0, y1, y2, o, rfl, hone, hwy, hjo, b1⟩
  obtain ⟨x, hx⟩ : ∃ x, x = wayV p id := ⟨_, rfl⟩
  obtain ⟨E, hE⟩ : ∃ z, z = wayE p id := ⟨_, rfl⟩
  obtain ⟨l, hl⟩ : ∃ z, z = leftV p id := ⟨_, rfl⟩
  rw [← hx] at hone hwy ⊢
  rw [← hl] at hjo
  rw [← hE]
  obtain ⟨row, hrow⟩ : ∃ c, c = wkRow F a b h2 t0 t1 y0 y1 y2 x.near o := ⟨_, rfl⟩
  rw [← hrow]
  have HROW := Lib.hid hrow
  have HSIZE : Hid (row.size = 24) := Lib.hid (by rw [hrow]; rfl)
  have HR1 : Hid (row.all (·.oneCell') = true) := Lib.hid (by rw [hrow]; exact hone)
  have INF : Hid ((Try.prog.info? 87).map (·.size) = some row.size) := Lib.hid (by rw [HSIZE.out]; exact infoWalk)
  have HWY := Lib.hid hwy
  have HJO := Lib.hid hjo
  have HX := Lib.hid hx
  have HE := Lib.hid hE
  have HL := Lib.hid hl
  have B1 : Hid (Below w.heap.size w w1) := Lib.hid (BQ.out.trans (b1.mono BQ.out.size))
  have X41 := Lib.hid ((b1.block _ (heap_lt X4.out)).trans X4.out)
  have LQ : Hid (w.heap.size + 1 < q.heap.size) := Lib.hid (heap_lt X4.out)
  have XX0 := heap_alloc_self w1 (.cells #[.int .i64 0, .int .i64 0, .slice none 0 0, .slice none 0 0, .slice none 0 0, .slice none 0 0, .int .i64 0, .int .i64 0, .int .i64 0, .slice none 0 0, .slice none 0 0, .slice none 0 0, .int .i64 0, .slice none 0 0, .int .i64 0, .int .i64 0, .slice none 0 0, .int .i64 0, .int .i64 0, .slice none 0 0, .slice none 0 0, .slice none 0 0, .int .i64 0, .slice none 0 0] 87)
  have hz0 := below_setRow (below_new w1 (.cells #[.int .i64 0, .int .i64 0, .slice none 0 0, .slice none 0 0, .slice none 0 0, .slice none 0 0, .int .i64 0, .int .i64 0, .int .i64 0, .slice none 0 0, .slice none 0 0, .slice none 0 0, .int .i64 0, .slice none 0 0, .int .i64 0, .int .i64 0, .slice none 0 0, .int .i64 0, .int .i64 0, .slice none 0 0, .slice none 0 0, .slice none 0 0, .int .i64 0, .slice none 0 0] 87)) (Nat.le_refl _) row
  have hz1 := setRow_heap (w1.alloc (.cells #[.int .i64 0, .int .i64 0, .slice none 0 0, .slice none 0 0, .slice none 0 0, .slice none 0 0, .int .i64 0, .int .i64 0, .int .i64 0, .slice none 0 0, .slice none 0 0, .slice none 0 0, .int .i64 0, .slice none 0 0, .int .i64 0, .int .i64 0, .slice none 0 0, .int .i64 0, .int .i64 0, .slice none 0 0, .slice none 0 0, .slice none 0 0, .int .i64 0, .slice none 0 0] 87)) w1.heap.size _ row 87 _ XX0
  clear hrow hone hwy hjo b1 hx hE hl k0 k1 k2 k3 k4 k5
  go_upto_region 2 with ((with_reducible show wpList _ _ _ (⟨none, _, _, _, _, _⟩ :: _) _ _); refine wpList_store_rowS rfl _ (.tmp 6) (.tmp 12) rfl w1.heap.size rfl (c' := row) rfl XX0 INF.out (by rw [HSIZE.out]; rfl) HR1.out ?_)
  generalize (w1.alloc (.cells #[.int .i64 0, .int .i64 0, .slice none 0 0, .slice none 0 0, .slice none 0 0, .slice none 0 0, .int .i64 0, .int .i64 0, .int .i64 0, .slice none 0 0, .slice none 0 0, .slice none 0 0, .int .i64 0, .slice none 0 0, .int .i64 0, .int .i64 0, .slice none 0 0, .int .i64 0, .int .i64 0, .slice none 0 0, .slice none 0 0, .slice none 0 0, .int .i64 0, .slice none 0 0] 87)).setRow w1.heap.size row = q2 at hz0 hz1 ⊢
  obtain ⟨p6, hp6⟩ : ∃ n, n = w1.heap.size := ⟨_, rfl⟩
  rw [← hp6] at hz1 ⊢
  have X6 := Lib.hid hz1
  have B2 : Hid (Below w.heap.size w q2) := Lib.hid (B1.out.trans (hz0.mono B1.out.size))
  have HWY2 := Lib.hid (HWY.out.below hz0)
  have HJO2 := Lib.hid (HJO.out.below joinR hz0)
  have X42 := Lib.hid ((hz0.block _ (heap_lt X41.out)).trans X41.out)
  clear hz0 hz1 XX0 hp6
  obtain ⟨U0, d0, e0⟩ := HWY2.out.path.slice
  obtain ⟨U1, d1, e1⟩ := HWY2.out.over.slice
  obtain ⟨U2, d2, e2⟩ := HWY2.out.asks.slice
  subst e0 e1 e2
  obtain ⟨m0, hm0⟩ : ∃ n, n = x.path.length := ⟨_, rfl⟩
  obtain ⟨m1, hm1⟩ : ∃ n, n = x.over.length := ⟨_, rfl⟩
  obtain ⟨m2, hm2⟩ : ∃ n, n = x.asks.length := ⟨_, rfl⟩
  rw [← hm0, ← hm1, ← hm2] at HROW HWY2
  clear hm0 hm1 hm2 HWY
  have k19 : q2.cell? ⟨p6, 19, none⟩ = some (.slice U0 m0 d0) := by rw [cell_of_row _ _ 19 _ _ _ X6.out, HROW.out]; rfl
  have k20 : q2.cell? ⟨p6, 20, none⟩ = some (.slice U1 m1 d1) := by rw [cell_of_row _ _ 20 _ _ _ X6.out, HROW.out]; rfl
  have k21 : q2.cell? ⟨p6, 21, none⟩ = some (.slice U2 m2 d2) := by rw [cell_of_row _ _ 21 _ _ _ X6.out, HROW.out]; rfl
  have k22 : q2.cell? ⟨p6, 22, none⟩ = some (.int .i64 x.near) := by rw [cell_of_row _ _ 22 _ _ _ X6.out, HROW.out]; rfl
  go_wp2_with ((with_reducible show wpList _ _ _ (⟨none, _, _, _, _, _⟩ :: _) _ _); refine wpList_store_rowS rfl _ (.tmp 4) (.tmp 15) rfl (w.heap.size + 1) rfl (c' := #[.slice U0 m0 d0, .slice U1 m1 d1, .slice U2 m2 d2, .int .i64 x.near]) rfl X42.out infoWay4 rfl (by simp [Value.oneCell']) ?_)
  refine bodyPost_ret (results_rowS_tmp (c := #[.slice U0 m0 d0, .slice U1 m1 d1, .slice U2 m2 d2, .int .i64 x.near]) rfl _ _ (w.heap.size + 1) rfl (setRow_heap _ _ _ _ _ _ X42.out) Try.underlying36 infoWay4 (.int .i64 E) rfl) rfl ?_
  exact ⟨_, _, _, by rw [← HX.out, ← HE.out], by rw [← HX.out]; exact (HWY2.out.kept (grownBy_setRow q2 (w.heap.size + 1) _) LQ.out).mono BQ.out.size, below_setRow B2.out (Nat.le_succ _) _⟩
set_option maxHeartbeats 8000000 in
theorem pouts_any (v : Value) (p : Pl) (id : Int) (w : World) (h : PlanV w w.heap.size v p) :
    Calls Try.prog 9 #[v, .int .i64 id] w fun e w' => ∃ u, e = .returned (.tuple #[u, .int .i64 (wayE p id)]) ∧ JoinsOwn w' w.heap.size u (leftV p id) ∧ Below w.heap.size w w' := by
  obtain ⟨v2, v3, v4, v5, rfl, hin⟩ := h
  have HIN := Lib.hid hin
  obtain ⟨A2, c2, rfl, -, -⟩ := hin.secs.slice
  obtain ⟨A3, c3, rfl, -, -⟩ := hin.pts.slice
  obtain ⟨A4, c4, rfl, -, -⟩ := hin.sigs.slice
  obtain ⟨A5, c5, rfl, -, -⟩ := hin.routes.slice
  obtain ⟨n2, hn2⟩ : ∃ n, n = p.secs.length := ⟨_, rfl⟩
  obtain ⟨n3, hn3⟩ : ∃ n, n = p.pts.length := ⟨_, rfl⟩
  obtain ⟨n4, hn4⟩ : ∃ n, n = p.sigs.length := ⟨_, rfl⟩
  obtain ⟨n5, hn5⟩ : ∃ n, n = p.routes.length := ⟨_, rfl⟩
  have HPV : Hid (PlIn w w.heap.size (.slice A2 n2 c2) (.slice A3 n3 c3) (.slice A4 n4 c4) (.slice A5 n5 c5) p) := Lib.hid (by rw [hn2, hn3, hn4, hn5]; exact HIN.out)
  rw [← hn2, ← hn3, ← hn4, ← hn5]
  clear hn2 hn3 hn4 hn5 hin HIN
  have q0 := heap_alloc_self w (.cells #[.int .i64 p.ver, .int .i64 p.par, .slice A2 n2 c2, .slice A3 n3 c3, .slice A4 n4 c4, .slice A5 n5 c5] 31)
  have qb := below_new w (.cells #[.int .i64 p.ver, .int .i64 p.par, .slice A2 n2 c2, .slice A3 n3 c3, .slice A4 n4 c4, .slice A5 n5 c5] 31)
  go_enter Try.func9, Try.ntmps9
  go_upto_region 1 with fail
  generalize w.alloc (.cells #[.int .i64 p.ver, .int .i64 p.par, .slice A2 n2 c2, .slice A3 n3 c3, .slice A4 n4 c4, .slice A5 n5 c5] 31) = q at q0 qb ⊢
  have X := Lib.hid q0
  have BQ := Lib.hid qb
  clear q0 qb
  obtain ⟨k0, k1, k2, k3, k4, k5⟩ := cell6_of X.out
  go_wp2_with fail
  refine (pfollowed_any _ p id q ⟨_, _, _, _, rfl, (HPV.out.below BQ.out).more BQ.out.size⟩).mono ?_
  rintro e w1 ⟨F, a, b, h2, t0, t1, y0, y1, y2, o, rfl, hone, hwy, hjo, b1⟩
  obtain ⟨x, hx⟩ : ∃ x, x = wayV p id := ⟨_, rfl⟩
  obtain ⟨E, hE⟩ : ∃ z, z = wayE p id := ⟨_, rfl⟩
  obtain ⟨l, hl⟩ : ∃ z, z = leftV p id := ⟨_, rfl⟩
  rw [← hx] at hone hwy ⊢
  rw [← hl] at hjo
  rw [← hE]
  obtain ⟨row, hrow⟩ : ∃ c, c = wkRow F a b h2 t0 t1 y0 y1 y2 x.near o := ⟨_, rfl⟩
  rw [← hrow]
  have HROW := Lib.hid hrow
  have HSIZE : Hid (row.size = 24) := Lib.hid (by rw [hrow]; rfl)
  have HR1 : Hid (row.all (·.oneCell') = true) := Lib.hid (by rw [hrow]; exact hone)
  have INF : Hid ((Try.prog.info? 87).map (·.size) = some row.size) := Lib.hid (by rw [HSIZE.out]; exact infoWalk)
  have HWY := Lib.hid hwy
  have HJO := Lib.hid hjo
  have HX := Lib.hid hx
  have HE := Lib.hid hE
  have HL := Lib.hid hl
  have B1 : Hid (Below w.heap.size w w1) := Lib.hid (BQ.out.trans (b1.mono BQ.out.size))
  have XX0 := heap_alloc_self w1 (.cells #[.int .i64 0, .int .i64 0, .slice none 0 0, .slice none 0 0, .slice none 0 0, .slice none 0 0, .int .i64 0, .int .i64 0, .int .i64 0, .slice none 0 0, .slice none 0 0, .slice none 0 0, .int .i64 0, .slice none 0 0, .int .i64 0, .int .i64 0, .slice none 0 0, .int .i64 0, .int .i64 0, .slice none 0 0, .slice none 0 0, .slice none 0 0, .int .i64 0, .slice none 0 0] 87)
  have hz0 := below_setRow (below_new w1 (.cells #[.int .i64 0, .int .i64 0, .slice none 0 0, .slice none 0 0, .slice none 0 0, .slice none 0 0, .int .i64 0, .int .i64 0, .int .i64 0, .slice none 0 0, .slice none 0 0, .slice none 0 0, .int .i64 0, .slice none 0 0, .int .i64 0, .int .i64 0, .slice none 0 0, .int .i64 0, .int .i64 0, .slice none 0 0, .slice none 0 0, .slice none 0 0, .int .i64 0, .slice none 0 0] 87)) (Nat.le_refl _) row
  have hz1 := setRow_heap (w1.alloc (.cells #[.int .i64 0, .int .i64 0, .slice none 0 0, .slice none 0 0, .slice none 0 0, .slice none 0 0, .int .i64 0, .int .i64 0, .int .i64 0, .slice none 0 0, .slice none 0 0, .slice none 0 0, .int .i64 0, .slice none 0 0, .int .i64 0, .int .i64 0, .slice none 0 0, .int .i64 0, .int .i64 0, .slice none 0 0, .slice none 0 0, .slice none 0 0, .int .i64 0, .slice none 0 0] 87)) w1.heap.size _ row 87 _ XX0
  clear hrow hone hwy hjo b1 hx hE hl k0 k1 k2 k3 k4 k5
  go_upto_region 2 with ((with_reducible show wpList _ _ _ (⟨none, _, _, _, _, _⟩ :: _) _ _); refine wpList_store_rowS rfl _ (.tmp 6) (.tmp 12) rfl w1.heap.size rfl (c' := row) rfl XX0 INF.out (by rw [HSIZE.out]; rfl) HR1.out ?_)
  generalize (w1.alloc (.cells #[.int .i64 0, .int .i64 0, .slice none 0 0, .slice none 0 0, .slice none 0 0, .slice none 0 0, .int .i64 0, .int .i64 0, .int .i64 0, .slice none 0 0, .slice none 0 0, .slice none 0 0, .int .i64 0, .slice none 0 0, .int .i64 0, .int .i64 0, .slice none 0 0, .int .i64 0, .int .i64 0, .slice none 0 0, .slice none 0 0, .slice none 0 0, .int .i64 0, .slice none 0 0] 87)).setRow w1.heap.size row = q2 at hz0 hz1 ⊢
  obtain ⟨p6, hp6⟩ : ∃ n, n = w1.heap.size := ⟨_, rfl⟩
  rw [← hp6] at hz1 ⊢
  have X6 := Lib.hid hz1
  have B2 : Hid (Below w.heap.size w q2) := Lib.hid (B1.out.trans (hz0.mono B1.out.size))
  have HWY2 := Lib.hid (HWY.out.below hz0)
  have HJO2 := Lib.hid (HJO.out.below joinR hz0)
  clear hz0 hz1 XX0 hp6
  obtain ⟨U0, d0, e0⟩ := HJO2.out.slice
  subst e0
  obtain ⟨m0, hm0⟩ : ∃ n, n = l.length := ⟨_, rfl⟩
  rw [← hm0] at HROW HJO2
  clear hm0 HJO
  have k23 : q2.cell? ⟨p6, 23, none⟩ = some (.slice U0 m0 d0) := by rw [cell_of_row _ _ 23 _ _ _ X6.out, HROW.out]; rfl
  go_wp2_with fail
  go_ret2
  exact ⟨_, by rw [← HE.out]; rfl, by rw [← HL.out]; exact HJO2.out.mono BQ.out.size, B2.out⟩
end Go.Proofs.Ytjgdgdccnbmbiaa

/-
  The program's package way: ways compared.
  Conditions: none.
-/
set_option linter.unusedVariables false
set_option linter.unusedSimpArgs false
set_option maxRecDepth 100000
namespace Go.Proofs.Ytjgdgdccnbmbiaa
open Go.RowKit

set_option maxHeartbeats 4000000 in
theorem equal_ask (v y : Value) (l m : List Ak) (w : World) (h : AsksIn w w.heap.size v l) (h' : AsksIn w w.heap.size y m) :
    Calls Try.prog 41 #[v, y] w fun e w' => e = .returned (.bool (eqB l m)) ∧ Below w.heap.size w w' := by
  have H := Lib.hid h
  have H' := Lib.hid h'
  obtain ⟨A, c, rfl, hcl, hcm⟩ := h.slice
  obtain ⟨A', c', rfl, hcl', hcm'⟩ := h'.slice
  have hml : l.length ≤ 9223372036854775807 := by unfold maxLen at hcm; omega
  obtain ⟨n, hn⟩ : ∃ n, n = l.length := ⟨_, rfl⟩
  obtain ⟨n', hn'⟩ : ∃ n', n' = m.length := ⟨_, rfl⟩
  have HN := Lib.hid hn
  have HN' := Lib.hid hn'
  have HA := Lib.hid (show AsksIn w w.heap.size (.slice A n c) l by rw [hn]; exact H.out)
  have HA' := Lib.hid (show AsksIn w w.heap.size (.slice A' n' c') m by rw [hn']; exact H'.out)
  have hml' : n' ≤ 9223372036854775807 := by unfold maxLen at hcm'; omega
  rw [← hn] at hml ⊢
  rw [← hn']
  clear hn hn' H H' hcl hcm hcl' hcm' h h'
  go_enter Try.func41, Try.ntmps41
  by_cases hnn : n = n'
  · subst hnn
    go_wp2_with fail
    go_loopw [13] (fun s13 wr => ∃ i : Nat, i ≤ n ∧ s13 = .int .i64 i ∧ (∀ j (hj : j < i) (hl : j < l.length) (hm : j < m.length), l[j] = m[j]) ∧ Below w.heap.size w wr) (fun s13 _ => n - (intOf s13).toNat)
    case atStart => exact ⟨0, by omega, by go_num, fun j hj => absurd hj (by omega), Below.refl _ _⟩
    case round =>
      obtain ⟨i, hi, rfl, hall, hbw⟩ := hrel
      have HALL := Lib.hid hall
      have BW := Lib.hid hbw
      clear hall hbw
      by_cases hlt : i < n
      · have hlt' : (i : Int) < n := by omega
        have hir : i < l.length := by rw [← HN.out]; exact hlt
        have him : i < m.length := by rw [← HN'.out]; exact hlt
        obtain ⟨b, off, rfl, hb, hc0, hc1, hc2⟩ := ((HA.out.below sigR BW.out).more sigR BW.out.size).at hir
        obtain ⟨b', off', rfl, hb', hd0, hd1, hd2⟩ := ((HA'.out.below sigR BW.out).more sigR BW.out.size).at him
        obtain ⟨x, hx⟩ : ∃ z, z = l[i] := ⟨_, rfl⟩
        obtain ⟨y, hy⟩ : ∃ z, z = m[i] := ⟨_, rfl⟩
        rw [← hx] at hc0 hc1 hc2
        rw [← hy] at hd0 hd1 hd2
        have hg0 : wr.cell? ⟨b, off + i * 3, none⟩ = some (.int .i64 x.1) := hc0
        have hh0 : wr.cell? ⟨b', off' + i * 3, none⟩ = some (.int .i64 y.1) := hd0
        have hg1 : wr.cell? ⟨b, off + i * 3 + 1, none⟩ = some (.int .i64 x.2.1) := hc1
        have hh1 : wr.cell? ⟨b', off' + i * 3 + 1, none⟩ = some (.int .i64 y.2.1) := hd1
        have hg2 : wr.cell? ⟨b, off + i * 3 + 2, none⟩ = some (.int .i64 x.2.2) := hc2
        have hh2 : wr.cell? ⟨b', off' + i * 3 + 2, none⟩ = some (.int .i64 y.2.2) := hd2
        have HX := Lib.hid hx
        have HY := Lib.hid hy
        clear hc0 hc1 hc2 hd0 hd1 hd2 hx hy hb hb'
        have BD : Hid (∀ nq, Below w.heap.size w (wr.drewN nq)) := Lib.hid (fun nq => ⟨BW.out.os, BW.out.tape, BW.out.output, BW.out.size, BW.out.block⟩)
        go_upto_region 6 with fail
        by_cases he : x = y
        · have hcmp : ∀ w' : World, (Op.equalIn 10000 79 (.agg #[.int .i64 x.1, .int .i64 x.2.1, .int .i64 x.2.2]) (.agg #[.int .i64 y.1, .int .i64 y.2.1, .int .i64 y.2.2])).run Try.prog w' = .ok true w' := eqAsk_eq he
          have NX : Hid (∀ j (hj : j < i + 1) (hl : j < l.length) (hm : j < m.length), l[j] = m[j]) := Lib.hid (fun j hj h1 h2 => by
            rcases Nat.lt_or_ge j i with h | h
            · exact HALL.out j h h1 h2
            · obtain rfl : j = i := by omega
              rw [← HX.out, ← HY.out]; exact he)
          clear he
          go_quiet (fail)
          have hdb := BD.out nq
          generalize wr.drewN nq = q7 at hdb ⊢
          have B7 := Lib.hid hdb
          clear hdb BD hcmp hg0 hh0 hg1 hh1 hg2 hh2
          go_wp2_with fail
          go_roundw
          case measure => simp [intOf]; omega
          case rel => exact ⟨i + 1, by omega, by go_num, NX.out, B7.out⟩
        · have hcmp : ∀ w' : World, (Op.equalIn 10000 79 (.agg #[.int .i64 x.1, .int .i64 x.2.1, .int .i64 x.2.2]) (.agg #[.int .i64 y.1, .int .i64 y.2.1, .int .i64 y.2.2])).run Try.prog w' = .ok false w' := eqAsk_ne he
          have HF : Hid (eqB l m = false) := Lib.hid (eqB_false fun h => he (by rw [HX.out, HY.out]; exact getElem_congr' h))
          clear he
          go_quiet (fail)
          have hdb := BD.out nq
          generalize wr.drewN nq = q7 at hdb ⊢
          have B7 := Lib.hid hdb
          clear hdb BD hcmp hg0 hh0 hg1 hh1 hg2 hh2
          go_wp2_with fail
          go_ret
          exact ⟨by rw [HF.out]; rfl, B7.out⟩
      · obtain rfl : i = n := by omega
        have hlt' : ¬ (i : Int) < i := by omega
        have HF : Hid (eqB l m = true) := Lib.hid (eqB_true (list_ext (by rw [← HN.out, ← HN'.out]) fun j h1 h2 => HALL.out j (by rw [HN.out]; exact h1) h1 h2))
        go_wp2_with fail
        go_ret
        exact ⟨by rw [HF.out]; rfl, BW.out⟩
  · have hnn' : ((n : Int) != n') = true := by simpa using (show ¬ (n : Int) = n' by omega)
    have HF : Hid (eqB l m = false) := Lib.hid (eqB_false fun h => hnn (by rw [HN.out, HN'.out, h]))
    clear hnn
    go_wp2_with fail
    go_ret
    exact ⟨by rw [HF.out]; rfl, Below.refl _ _⟩
set_option maxHeartbeats 8000000 in
theorem psame9_any (v z : Value) (x y : Wy) (w : World) (h : WayV w w.heap.size v x) (h' : WayV w w.heap.size z y) :
    Calls Try.prog 19 #[v, z] w fun e w' => e = .returned (.bool (eqB x y)) ∧ Below w.heap.size w w' := by
  obtain ⟨u0, u1, u2, rfl, hx⟩ := h
  obtain ⟨z0, z1, z2, rfl, hy⟩ := h'
  obtain ⟨Ax0, cx0, rfl, -, -⟩ := hx.path.slice
  obtain ⟨nx0, hx0⟩ : ∃ n, n = x.path.length := ⟨_, rfl⟩
  have Hx0 : Hid (IntsIn w w.heap.size (.slice Ax0 nx0 cx0) x.path) := Lib.hid (by rw [hx0]; exact hx.path)
  rw [← hx0]
  clear hx0
  obtain ⟨Ax1, cx1, rfl, -, -⟩ := hx.over.slice
  obtain ⟨nx1, hx1⟩ : ∃ n, n = x.over.length := ⟨_, rfl⟩
  have Hx1 : Hid (IntsIn w w.heap.size (.slice Ax1 nx1 cx1) x.over) := Lib.hid (by rw [hx1]; exact hx.over)
  rw [← hx1]
  clear hx1
  obtain ⟨Ax2, cx2, rfl, -, -⟩ := hx.asks.slice
  obtain ⟨nx2, hx2⟩ : ∃ n, n = x.asks.length := ⟨_, rfl⟩
  have Hx2 : Hid (AsksIn w w.heap.size (.slice Ax2 nx2 cx2) x.asks) := Lib.hid (by rw [hx2]; exact hx.asks)
  rw [← hx2]
  clear hx2
  obtain ⟨Ay0, cy0, rfl, -, -⟩ := hy.path.slice
  obtain ⟨ny0, hy0⟩ : ∃ n, n = y.path.length := ⟨_, rfl⟩
  have Hy0 : Hid (IntsIn w w.heap.size (.slice Ay0 ny0 cy0) y.path) := Lib.hid (by rw [hy0]; exact hy.path)
  rw [← hy0]
  clear hy0
  obtain ⟨Ay1, cy1, rfl, -, -⟩ := hy.over.slice
  obtain ⟨ny1, hy1⟩ : ∃ n, n = y.over.length := ⟨_, rfl⟩
  have Hy1 : Hid (IntsIn w w.heap.size (.slice Ay1 ny1 cy1) y.over) := Lib.hid (by rw [hy1]; exact hy.over)
  rw [← hy1]
  clear hy1
  obtain ⟨Ay2, cy2, rfl, -, -⟩ := hy.asks.slice
  obtain ⟨ny2, hy2⟩ : ∃ n, n = y.asks.length := ⟨_, rfl⟩
  have Hy2 : Hid (AsksIn w w.heap.size (.slice Ay2 ny2 cy2) y.asks) := Lib.hid (by rw [hy2]; exact hy.asks)
  rw [← hy2]
  clear hy2
  clear hx hy
  have NO : Hid (∀ b : Bool, (x = y → b = true) → b = false → eqB x y = false) := Lib.hid (fun b h1 h2 => eqB_false (fun h => by rw [h1 h] at h2; cases h2))
  have YES : Hid (x.near = y.near → x.path = y.path → x.over = y.over → x.asks = y.asks → eqB x y = true) := Lib.hid (fun h1 h2 h3 h4 => eqB_true (wy_eq.2 ⟨h1, h2, h3, h4⟩))
  have hq := two_boxes w (.cells #[.slice Ax0 nx0 cx0, .slice Ax1 nx1 cx1, .slice Ax2 nx2 cx2, .int .i64 x.near] 36) (.cells #[.slice Ay0 ny0 cy0, .slice Ay1 ny1 cy1, .slice Ay2 ny2 cy2, .int .i64 y.near] 36)
  go_enter Try.func19, Try.ntmps19
  go_upto_region 1 with fail
  generalize (w.alloc (.cells #[.slice Ax0 nx0 cx0, .slice Ax1 nx1 cx1, .slice Ax2 nx2 cx2, .int .i64 x.near] 36)).alloc (.cells #[.slice Ay0 ny0 cy0, .slice Ay1 ny1 cy1, .slice Ay2 ny2 cy2, .int .i64 y.near] 36) = q at hq ⊢
  obtain ⟨q0, q1, qb⟩ := hq
  have X := Lib.hid q0
  have Y := Lib.hid q1
  have BQ := Lib.hid qb
  clear q0 q1 qb
  obtain ⟨k0, k1, k2, k3⟩ := cell4_of X.out
  obtain ⟨m0, m1, m2, m3⟩ := cell4_of Y.out
  go_wp2_with fail
  refine (equal_int _ _ x.path y.path q ((Hx0.out.below intR BQ.out).more intR BQ.out.size) ((Hy0.out.below intR BQ.out).more intR BQ.out.size)).mono ?_
  rintro e w1 ⟨rfl, b1⟩
  have X' := Lib.hid ((b1.block _ (heap_lt X.out)).trans X.out)
  have Y' := Lib.hid ((b1.block _ (heap_lt Y.out)).trans Y.out)
  have BQ' := Lib.hid (BQ.out.trans (b1.mono BQ.out.size))
  clear b1 k0 k1 k2 k3 m0 m1 m2 m3 X Y BQ
  have X := X'
  have Y := Y'
  have BQ := BQ'
  clear X' Y' BQ'
  by_cases e0 : x.path = y.path
  rotate_left
  · have HF : Hid (eqB x y = false) := Lib.hid (eqB_false (fun h => e0 (by rw [h])))
    rw [eqB_false e0]
    clear e0 NO YES
    go_wp2_with fail
    go_ret
    exact ⟨by rw [HF.out]; rfl, BQ.out⟩
  rw [eqB_true e0]
  have E0 := Lib.hid e0
  clear e0
  obtain ⟨k0, k1, k2, k3⟩ := cell4_of X.out
  obtain ⟨m0, m1, m2, m3⟩ := cell4_of Y.out
  go_wp2_with fail
  refine (equal_int _ _ x.over y.over w1 ((Hx1.out.below intR BQ.out).more intR BQ.out.size) ((Hy1.out.below intR BQ.out).more intR BQ.out.size)).mono ?_
  rintro e w2 ⟨rfl, b1⟩
  have X' := Lib.hid ((b1.block _ (heap_lt X.out)).trans X.out)
  have Y' := Lib.hid ((b1.block _ (heap_lt Y.out)).trans Y.out)
  have BQ' := Lib.hid (BQ.out.trans (b1.mono BQ.out.size))
  clear b1 k0 k1 k2 k3 m0 m1 m2 m3 X Y BQ
  have X := X'
  have Y := Y'
  have BQ := BQ'
  clear X' Y' BQ'
  by_cases e1 : x.over = y.over
  rotate_left
  · have HF : Hid (eqB x y = false) := Lib.hid (eqB_false (fun h => e1 (by rw [h])))
    rw [eqB_false e1]
    clear e1 NO YES
    go_wp2_with fail
    go_ret
    exact ⟨by rw [HF.out]; rfl, BQ.out⟩
  rw [eqB_true e1]
  have E1 := Lib.hid e1
  clear e1
  obtain ⟨k0, k1, k2, k3⟩ := cell4_of X.out
  obtain ⟨m0, m1, m2, m3⟩ := cell4_of Y.out
  go_wp2_with fail
  refine (equal_ask _ _ x.asks y.asks w2 ((Hx2.out.below sigR BQ.out).more sigR BQ.out.size) ((Hy2.out.below sigR BQ.out).more sigR BQ.out.size)).mono ?_
  rintro e w3 ⟨rfl, b1⟩
  have X' := Lib.hid ((b1.block _ (heap_lt X.out)).trans X.out)
  have Y' := Lib.hid ((b1.block _ (heap_lt Y.out)).trans Y.out)
  have BQ' := Lib.hid (BQ.out.trans (b1.mono BQ.out.size))
  clear b1 k0 k1 k2 k3 m0 m1 m2 m3 X Y BQ
  have X := X'
  have Y := Y'
  have BQ := BQ'
  clear X' Y' BQ'
  by_cases e2 : x.asks = y.asks
  rotate_left
  · have HF : Hid (eqB x y = false) := Lib.hid (eqB_false (fun h => e2 (by rw [h])))
    rw [eqB_false e2]
    clear e2 NO YES
    go_wp2_with fail
    go_ret
    exact ⟨by rw [HF.out]; rfl, BQ.out⟩
  rw [eqB_true e2]
  have E2 := Lib.hid e2
  clear e2
  obtain ⟨k0, k1, k2, k3⟩ := cell4_of X.out
  obtain ⟨m0, m1, m2, m3⟩ := cell4_of Y.out
  by_cases e3 : x.near = y.near
  · have HF : Hid (eqB x y = true) := Lib.hid (YES.out e3 E0.out E1.out E2.out)
    have hc : (x.near == y.near) = true := by simpa using e3
    clear e3 NO YES
    go_wp2_with fail
    go_ret
    exact ⟨by rw [HF.out]; rfl, BQ.out⟩
  · have HF : Hid (eqB x y = false) := Lib.hid (eqB_false (fun h => e3 (by rw [h])))
    have hc : (x.near == y.near) = false := by simpa using e3
    clear e3 NO YES
    go_wp2_with fail
    go_ret
    exact ⟨by rw [HF.out]; rfl, BQ.out⟩
end Go.Proofs.Ytjgdgdccnbmbiaa

/-
  What the program's package way answers: its contracts, proved over its text.
  Conditions: none.
-/
set_option linter.unusedVariables false
set_option linter.unusedSimpArgs false
set_option maxRecDepth 100000
namespace Go.Proofs.Ytjgdgdccnbmbiaa
open Go.RowKit

theorem waySaid : WaySaid where
  of := pof_any
  outs := pouts_any
  same := psame9_any
end Go.Proofs.Ytjgdgdccnbmbiaa
