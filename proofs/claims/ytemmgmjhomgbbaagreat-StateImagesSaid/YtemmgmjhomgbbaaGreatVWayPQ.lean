/-
 The program's package way: All.
 Conditions: none.
-/
import Derived.Test.YtemmgmjhomgbbaaGreatVWayPK
import Derived.Test.YtemmgmjhomgbbaaGreatVGWayPL
import Derived.Test.YtemmgmjhomgbbaaGreatVGWayAllM
set_option linter.unusedVariables false
set_option linter.unusedSimpArgs false
set_option maxRecDepth 100000
namespace Go.Proofs.YtemmgmjhomgbbaaGreat
open Go.RowKit

theorem heap_offT {W W' : World} {base n sz : Nat} {T T' : TypeId} {v : Value} {ys : List Value} {k : Nat} {cs : Array Value} (ho : W.ownsRow base T sz v n ys) (hg : W.grownBy W' v.ownBlock) (hT : T ≠ T') (hx : W.heap[k]? = some (.cells cs T' (0, 0))) : W'.heap[k]? = some (.cells cs T' (0, 0)) := by
 rw [hg.block k (heap_lt hx) (fun e => ?_)]
 ·exact hx
 ·obtain ⟨c1, h1, _⟩ := owns_block ho (g := k) (by first | exact e | exact e.symm)
  rw [hx] at h1
  injection h1 with h1
  injection h1 with _ e2
  exact hT e2.symm
theorem cell_new {W : World} {k : Nat} {T : TypeId} {cs : Array Value} (h : W.heap[k]? = some (.cells cs T (0, 0))) : ∀ (j : Nat) (u : Value), cs.toList[j]? = some u → W.cell? ⟨k, j, none⟩ = some u := fun j u hj => by
 rw [cell_of_row _ _ j _ _ _ h]; simpa using hj

set_option maxHeartbeats 16000000 in
theorem pall_any (v : Value) (p : Pl) (w : World) (h : PlanV w w.heap.size v p) :
  Calls Tryz.prog 44 #[v] w fun e w' => ∃ u1 u2, e = .returned (.tuple #[u1, u2, .int .i64 (allE p)]) ∧ WaysOwn w' w.heap.size u1 (allW p) ∧ JssOwn w' w.heap.size u2 (allL p) ∧ Below w.heap.size w w' := by
 obtain ⟨v2, v3, v4, v5, rfl, hin⟩ := h
 have HIN := Lib.hid hin
 obtain ⟨A2, c2, rfl, -, -⟩ := hin.secs.slice
 obtain ⟨A3, c3, rfl, -, -⟩ := hin.pts.slice
 obtain ⟨A4, c4, rfl, -, -⟩ := hin.sigs.slice
 obtain ⟨A5, c5, rfl, -, -⟩ := hin.routes.slice
 obtain ⟨n2, hn2⟩ : ∃ n, n = p.secs.length := ⟨_, rfl⟩
 obtain ⟨n3, hn3⟩ : ∃ n, n = p.pts.length := ⟨_, rfl⟩
 obtain ⟨n4, hn4⟩ : ∃ n, n = p.sigs.length := ⟨_, rfl⟩
 obtain ⟨n5, hn5⟩ : ∃ n, n = p.routes.length := ⟨_, rfl⟩
 have HPV : Hid (PlIn w w.heap.size (.slice A2 n2 c2) (.slice A3 n3 c3) (.slice A4 n4 c4) (.slice A5 n5 c5) p) := Lib.hid (by rw [hn2, hn3, hn4, hn5]; exact HIN.out)
 rw [← hn2, ← hn3, ← hn4, ← hn5]
 clear hn2 hn3 hn4 hn5 hin HIN
 obtain ⟨i0, hi, hz0, hz1, hz2⟩ := info_parts infoWayF
 have I0 := Lib.hid hi
 have I1 := Lib.hid hz0
 have I2 := Lib.hid hz1
 have I3 := Lib.hid hz2
 clear hi hz0 hz1 hz2
 obtain ⟨j0_, hi, hz0, hz1, hz2⟩ := info_parts infoJsF
 have K0 := Lib.hid hi
 have K1 := Lib.hid hz0
 have K2 := Lib.hid hz1
 have K3 := Lib.hid hz2
 clear hi hz0 hz1 hz2
 have hq0 := heap_alloc_self w (.cells #[.int .i64 p.ver, .int .i64 p.par, .slice A2 n2 c2, .slice A3 n3 c3, .slice A4 n4 c4, .slice A5 n5 c5] 27)
 have hqb := below_new w (.cells #[.int .i64 p.ver, .int .i64 p.par, .slice A2 n2 c2, .slice A3 n3 c3, .slice A4 n4 c4, .slice A5 n5 c5] 27)
 go_enter Tryz.func44, Tryz.ntmps44
 go_upto_region 1 with fail
 generalize w.alloc (.cells #[.int .i64 p.ver, .int .i64 p.par, .slice A2 n2 c2, .slice A3 n3 c3, .slice A4 n4 c4, .slice A5 n5 c5] 27) = q at hq0 hqb ⊢
 have XP := Lib.hid hq0
 have BQ := Lib.hid hqb
 clear hq0 hqb
 obtain ⟨k0, k1, k2, k3, k4, k5⟩ := cell6_of XP.out
 go_wp2_with fail
 refine (planSaid.check _ p q ⟨_, _, _, _, rfl, (HPV.out.below BQ.out).more BQ.out.size⟩).mono ?_
 rintro e w1 ⟨rfl, b1⟩
 have X1 := Lib.hid ((b1.block _ (heap_lt XP.out)).trans XP.out)
 have B1 := Lib.hid (BQ.out.trans (b1.mono BQ.out.size))
 clear b1 k0 k1 k2 k3 k4 k5
 obtain ⟨E0, hE0⟩ : ∃ E, E = chk8 p := ⟨_, rfl⟩
 rw [← hE0]
 cases hpm : planMay p with
 | false =>
  obtain rfl : E0 = 8 := by rw [hE0, chk8, hpm]; rfl
  have AE : Hid (allE p = 8) := Lib.hid (all_not hpm)
  have AC := Lib.hid (all_cases p)
  clear hpm hE0
  go_wp2_with fail
  go_ret3
  refine ⟨_, _, by rw [AE.out]; rfl, ?_, ?_, B1.out⟩
  ·rcases AC.out with ⟨h, -⟩ | ⟨-, h, -⟩
   ·rw [AE.out] at h; omega
   ·rw [h]; exact ListOwn.nil_
  ·rcases AC.out with ⟨h, -⟩ | ⟨-, -, h⟩
   ·rw [AE.out] at h; omega
   ·rw [h]; exact ListOwn.nil_
 | true =>
 obtain rfl : E0 = 0 := by rw [hE0, chk8, hpm]; rfl
 have HPM := Lib.hid (planMay_iff.1 hpm)
 have HN5 : Hid (n5 = p.routes.length) := Lib.hid (by
  obtain ⟨A_, c_, e_, -⟩ := HPV.out.routes
  cases e_; rfl)
 have HM : Hid (n5 ≤ 16) := Lib.hid (by rw [HN5.out]; exact HPM.out.n)
 clear hpm hE0
 have HI := Lib.hid ((HPV.out.below B1.out).more B1.out.size)
 have hm5 : n5 ≤ 9223372036854775807 := by have := HM.out; omega
 obtain ⟨k0, k1, k2, k3, k4, k5⟩ := cell6_of X1.out
 go_wp2_with fail
 clear k0 k1 k2 k3 k4 k5
 go_loopw [2, 3, 16] (fun s2 s3 s16 wr => ∃ (i : Nat) (sa sb : Value), i ≤ n5 ∧ s16 = .int .i64 i ∧ sa = s2 ∧ sb = s3 ∧ WaysOwn wr w1.heap.size sa ((p.routes.map (wayR p)).take i) ∧ JssOwn wr w1.heap.size sb ((p.routes.map (leftR p)).take i) ∧ (∀ k (hk : k < p.routes.length), k < i → Hangs p p.routes[k]) ∧ Below w1.heap.size w1 wr) (fun _ _ s16 _ => n5 - (intOf s16).toNat)
 case atStart => exact ⟨0, _, _, by omega, by go_num, rfl, rfl, ListOwn.nil_, ListOwn.nil_, fun k _ h => absurd h (by omega), Below.refl _ _⟩
 case round =>
  obtain ⟨i, sa, sb, hi, rfl, rfl, rfl, hw5, hj6, hgd, hb⟩ := hrel
  have W5 := Lib.hid hw5
  have J6 := Lib.hid hj6
  have GD := Lib.hid hgd
  have BW := Lib.hid hb
  clear hw5 hj6 hgd hb
  by_cases hlt : i < n5
  ·have hlt' : (i : Int) < n5 := by omega
   have hil : i < p.routes.length := by have := HN5.out; omega
   have HI16 : Hid (i < 16) := Lib.hid (by have := HM.out; omega)
   have HIr := Lib.hid ((HI.out.below BW.out).more BW.out.size)
   have XR := Lib.hid ((BW.out.block _ (heap_lt X1.out)).trans X1.out)
   obtain ⟨br, ofr, rfl, hbr, g0, g1, g2, g6, y3, y4, y5, g3, g4, g5, hrv⟩ := HIr.out.routes.at hil
   obtain ⟨r, hr⟩ : ∃ r, r = p.routes[i] := ⟨_, rfl⟩
   rw [← hr] at g0 g1 g2 g6 hrv
   have HRQ : Hid (∀ h : i < p.routes.length, p.routes[i] = r) := Lib.hid fun _ => hr.symm
   have HRI : Hid (RouteIn p r) := Lib.hid (routeIn_of HPM.out hil hr.symm)
   obtain ⟨D3, g3_, rfl, -, -⟩ := hrv.path.slice
   obtain ⟨D4, g4_, rfl, -, -⟩ := hrv.over.slice
   obtain ⟨D5, g5_, rfl, -, -⟩ := hrv.flanks.slice
   obtain ⟨l3, hl3⟩ : ∃ n, n = r.path.length := ⟨_, rfl⟩
   obtain ⟨l4, hl4⟩ : ∃ n, n = r.over.length := ⟨_, rfl⟩
   obtain ⟨l5, hl5⟩ : ∃ n, n = r.flanks.length := ⟨_, rfl⟩
   rw [← hl3] at g3 hrv
   rw [← hl4] at g4 hrv
   rw [← hl5] at g5 hrv
   have hr0 : wr.cell? ⟨br, ofr + i * 7, none⟩ = some (.int .i64 r.id) := g0
   have hr1 : wr.cell? ⟨br, ofr + i * 7 + 1, none⟩ = some (.int .i64 r.entry) := g1
   have hr2 : wr.cell? ⟨br, ofr + i * 7 + 2, none⟩ = some (.int .i64 r.exit) := g2
   have hr3 : wr.cell? ⟨br, ofr + i * 7 + 3, none⟩ = some (.slice D3 l3 g3_) := g3
   have hr4 : wr.cell? ⟨br, ofr + i * 7 + 4, none⟩ = some (.slice D4 l4 g4_) := g4
   have hr5 : wr.cell? ⟨br, ofr + i * 7 + 5, none⟩ = some (.slice D5 l5 g5_) := g5
   have hr6 : wr.cell? ⟨br, ofr + i * 7 + 6, none⟩ = some (.int .i64 r.timer) := g6
   have HRV := Lib.hid hrv
   have XX0 := heap_alloc_self wr (.cells #[.int .i64 0, .int .i64 0, .int .i64 0, .slice none 0 0, .slice none 0 0, .slice none 0 0, .int .i64 0] 64)
   have hz0 := below_setRow (below_new wr (.cells #[.int .i64 0, .int .i64 0, .int .i64 0, .slice none 0 0, .slice none 0 0, .slice none 0 0, .int .i64 0] 64)) (Nat.le_refl _) #[.int .i64 r.id, .int .i64 r.entry, .int .i64 r.exit, .slice D3 l3 g3_, .slice D4 l4 g4_, .slice D5 l5 g5_, .int .i64 r.timer]
   have hz1 := setRow_heap (wr.alloc (.cells #[.int .i64 0, .int .i64 0, .int .i64 0, .slice none 0 0, .slice none 0 0, .slice none 0 0, .int .i64 0] 64)) wr.heap.size _ #[.int .i64 r.id, .int .i64 r.entry, .int .i64 r.exit, .slice D3 l3 g3_, .slice D4 l4 g4_, .slice D5 l5 g5_, .int .i64 r.timer] 64 _ XX0
   clear g0 g1 g2 g6 g3 g4 g5 hrv hbr hr hl3 hl4 hl5
   go_upto_region 7 with ((with_reducible show wpList _ _ _ (⟨none, _, _, _, _, _⟩ :: _) _ _); refine wpList_store_rowS rfl _ (.tmp 6) (.tmp 19) rfl wr.heap.size rfl (c' := #[.int .i64 r.id, .int .i64 r.entry, .int .i64 r.exit, .slice D3 l3 g3_, .slice D4 l4 g4_, .slice D5 l5 g5_, .int .i64 r.timer]) rfl XX0 infoRoute7 rfl (by simp [Value.oneCell']) ?_)
   generalize (wr.alloc (.cells #[.int .i64 0, .int .i64 0, .int .i64 0, .slice none 0 0, .slice none 0 0, .slice none 0 0, .int .i64 0] 64)).setRow wr.heap.size #[.int .i64 r.id, .int .i64 r.entry, .int .i64 r.exit, .slice D3 l3 g3_, .slice D4 l4 g4_, .slice D5 l5 g5_, .int .i64 r.timer] = q1 at hz0 hz1 ⊢
   obtain ⟨p6, hp6⟩ : ∃ n, n = wr.heap.size := ⟨_, rfl⟩
   rw [← hp6] at hz1 ⊢
   have X6 := Lib.hid hz1
   have C1 := Lib.hid hz0
   clear hz0 hz1 XX0 hp6 hr0 hr1 hr2 hr3 hr4 hr5 hr6
   have hz0 := below_new q1 (.cells #[.int .i64 0, .int .i64 0, .slice none 0 0, .slice none 0 0, .slice none 0 0, .slice none 0 0, .int .i64 0, .int .i64 0, .int .i64 0, .slice none 0 0, .slice none 0 0, .slice none 0 0, .int .i64 0, .slice none 0 0, .int .i64 0, .int .i64 0, .slice none 0 0, .int .i64 0, .int .i64 0, .slice none 0 0, .slice none 0 0, .slice none 0 0, .int .i64 0, .slice none 0 0] 117)
   have hz1 := heap_alloc_self q1 (.cells #[.int .i64 0, .int .i64 0, .slice none 0 0, .slice none 0 0, .slice none 0 0, .slice none 0 0, .int .i64 0, .int .i64 0, .int .i64 0, .slice none 0 0, .slice none 0 0, .slice none 0 0, .int .i64 0, .slice none 0 0, .int .i64 0, .int .i64 0, .slice none 0 0, .int .i64 0, .int .i64 0, .slice none 0 0, .slice none 0 0, .slice none 0 0, .int .i64 0, .slice none 0 0] 117)
   go_upto_region 8 with fail
   generalize q1.alloc (.cells #[.int .i64 0, .int .i64 0, .slice none 0 0, .slice none 0 0, .slice none 0 0, .slice none 0 0, .int .i64 0, .int .i64 0, .int .i64 0, .slice none 0 0, .slice none 0 0, .slice none 0 0, .int .i64 0, .slice none 0 0, .int .i64 0, .int .i64 0, .slice none 0 0, .int .i64 0, .int .i64 0, .slice none 0 0, .slice none 0 0, .slice none 0 0, .int .i64 0, .slice none 0 0] 117) = q2 at hz0 hz1 ⊢
   obtain ⟨p7, hp7⟩ : ∃ n, n = q1.heap.size := ⟨_, rfl⟩
   rw [← hp7] at hz1 ⊢
   have X70 := Lib.hid hz1
   have C2 : Hid (Below wr.heap.size wr q2) := Lib.hid (C1.out.trans (hz0.mono C1.out.size))
   have X62 := Lib.hid ((hz0.block _ (heap_lt X6.out)).trans X6.out)
   have LQ : Hid (p7 < q2.heap.size) := Lib.hid (heap_lt hz1)
   have L7 : Hid (wr.heap.size ≤ p7) := Lib.hid (by rw [hp7]; exact C1.out.size)
   clear hz0 hz1 hp7
   have XR2 := Lib.hid ((C2.out.block _ (heap_lt XR.out)).trans XR.out)
   obtain ⟨k0, k1, k2, k3, k4, k5⟩ := cell6_of XR2.out
   obtain ⟨m0, m1, m2, m3, m4, m5, m6⟩ := cell7_of X62.out
   go_wp2_with fail
   refine (pfollow_any _ _ p r q2 ⟨_, _, _, _, rfl, (HIr.out.below C2.out).more C2.out.size⟩ ⟨_, _, _, rfl, (HRV.out.below C2.out).more C2.out.size⟩ HRI.out).mono ?_
   rintro e w3 ⟨F, a, b, h2, t0, t1, y0, y1, y2, x, o, l, E, rfl, hone, hwy, hjo, hcase, b3⟩
   obtain ⟨row, hrow⟩ : ∃ c, c = wkRow F a b h2 t0 t1 y0 y1 y2 x.near o := ⟨_, rfl⟩
   rw [← hrow]
   have HSIZE : Hid (row.size = 24) := Lib.hid (by rw [hrow]; rfl)
   have HR1 : Hid (row.all (·.oneCell') = true) := Lib.hid (by rw [hrow]; exact hone)
   have INF : Hid ((Tryz.prog.info? 117).map (·.size) = some row.size) := Lib.hid (by rw [HSIZE.out]; exact infoWalk)
   have hz1 := (b3.block _ (heap_lt X70.out)).trans X70.out
   have hkp := grownBy_setRow w3 p7 row
   have hjk : JoinsOwn (w3.setRow p7 row) q2.heap.size o l := own_kept joinF hjo hkp (fun k hk => by have := own_lo hjo k hk; have := LQ.out; omega)
   have hwk := hwy.kept hkp LQ.out
   have hb4 := below_setRow (C2.out.trans (b3.mono C2.out.size)) L7.out row
   have h7 := setRow_heap w3 p7 _ row 117 _ hz1
   have HZ1 := Lib.hid hz1
   have HC := Lib.hid hcase
   have HROW := Lib.hid hrow
   clear hone hwy hjo hcase b3 hz1 hkp k0 k1 k2 k3 k4 k5 m0 m1 m2 m3 m4 m5 m6 hrow
   go_upto_region 9 with ((with_reducible show wpList _ _ _ (⟨none, _, _, _, _, _⟩ :: _) _ _); refine wpList_store_rowS rfl _ (.tmp 7) (.tmp 24) rfl p7 rfl (c' := row) rfl HZ1.out INF.out (by rw [HSIZE.out]; rfl) HR1.out ?_)
   generalize w3.setRow p7 row = w4 at hjk hwk hb4 h7 ⊢
   have X7 := Lib.hid h7
   have C4 := Lib.hid hb4
   have WO := Lib.hid hwk
   have JO := Lib.hid hjk
   have BW4 : Hid (Below w1.heap.size w1 w4) := Lib.hid (BW.out.trans (C4.out.mono BW.out.size))
   clear hjk hwk hb4 h7 HZ1
   rcases HC.out with ⟨hh, rfl, hxw, hyl⟩ | ⟨hh, rfl, -, -⟩
   rotate_left
   ·have AE : Hid (allE p = 90) := Lib.hid (all_bad HPM.out hil (by rw [HRQ.out hil]; exact hh))
    have AC := Lib.hid (all_cases p)
    clear hh
    go_wp2_with fail
    go_ret3
    refine ⟨_, _, by rw [AE.out]; rfl, ?_, ?_, B1.out.trans (BW4.out.mono B1.out.size)⟩
    ·rcases AC.out with ⟨h, -⟩ | ⟨-, h, -⟩
     ·rw [AE.out] at h; omega
     ·rw [h]; exact ListOwn.nil_
    ·rcases AC.out with ⟨h, -⟩ | ⟨-, -, h⟩
     ·rw [AE.out] at h; omega
     ·rw [h]; exact ListOwn.nil_
   have HH : Hid (Hangs p p.routes[i]) := Lib.hid (by rw [HRQ.out hil]; exact hh)
   have HXW : Hid (x = wayR p p.routes[i]) := Lib.hid (by rw [HRQ.out hil]; exact hxw)
   have HYL : Hid (l = leftR p p.routes[i]) := Lib.hid (by rw [HRQ.out hil]; exact hyl)
   clear hh hxw hyl HC
   obtain ⟨U0, f0, rfl⟩ := WO.out.path.slice
   obtain ⟨U1, f1, rfl⟩ := WO.out.over.slice
   obtain ⟨U2, f2, rfl⟩ := WO.out.asks.slice
   obtain ⟨U, uc, rfl⟩ := JO.out.slice
   obtain ⟨z0, hz0⟩ : ∃ n, n = x.path.length := ⟨_, rfl⟩
   obtain ⟨z1, hz1⟩ : ∃ n, n = x.over.length := ⟨_, rfl⟩
   obtain ⟨z2, hz2⟩ : ∃ n, n = x.asks.length := ⟨_, rfl⟩
   obtain ⟨nu, hnu⟩ : ∃ n, n = l.length := ⟨_, rfl⟩
   rw [← hz0, ← hz1, ← hz2] at WO HROW
   rw [← hnu] at JO HROW
   clear hz0 hz1 hz2 hnu
   have HWC : Hid (∀ v : World, v.heap[p7]? = some (.cells row 117 (0, 0)) → v.cell? ⟨p7, 19, none⟩ = some (.slice U0 z0 f0) ∧ v.cell? ⟨p7, 20, none⟩ = some (.slice U1 z1 f1) ∧ v.cell? ⟨p7, 21, none⟩ = some (.slice U2 z2 f2) ∧ v.cell? ⟨p7, 22, none⟩ = some (.int .i64 x.near) ∧ v.cell? ⟨p7, 23, none⟩ = some (.slice U nu uc)) := Lib.hid (fun v hv => by
    refine ⟨?_, ?_, ?_, ?_, ?_⟩
    ·rw [cell_of_row _ _ 19 _ _ _ hv, HROW.out]; rfl
    ·rw [cell_of_row _ _ 20 _ _ _ hv, HROW.out]; rfl
    ·rw [cell_of_row _ _ 21 _ _ _ hv, HROW.out]; rfl
    ·rw [cell_of_row _ _ 22 _ _ _ hv, HROW.out]; rfl
    ·rw [cell_of_row _ _ 23 _ _ _ hv, HROW.out]; rfl)
   have P0 : Hid (Pend w4 w1.heap.size sa sb ((p.routes.map (wayR p)).take i) ((p.routes.map (leftR p)).take i) (.slice U0 z0 f0) (.slice U1 z1 f1) (.slice U2 z2 f2) (.slice U nu uc) x l) := Lib.hid (pend_of (b := 0) BW4.out.size (W5.out.below (wayO _) C4.out) (J6.out.below (jsO _) C4.out) (WO.out.mono (Nat.le_trans BW.out.size C2.out.size)) (JO.out.mono (Nat.le_trans BW.out.size C2.out.size)))
   have LW : Hid (((p.routes.map (wayR p)).take i).length = i) := Lib.hid (by rw [List.length_take, List.length_map]; omega)
   have LJ : Hid (((p.routes.map (leftR p)).take i).length = i) := Lib.hid (by rw [List.length_take, List.length_map]; omega)
   clear W5 J6 WO JO HROW
   go_upto_region 11 with fail
   refine wp_region_held_drew (S := fun v => Below w1.heap.size w4 v ∧ v.heap[p7]? = some (.cells row 117 (0, 0))) (by kernel_rfl) ⟨(Below.refl w1.heap.size w4).drew, ((Below.refl w4.heap.size w4).drew.block _ (heap_lt X7.out)).trans X7.out⟩ (fun hHeld => ?_)
   refine tk 0 hHeld ?_;refine tk 1 hHeld ?_;refine tkc 2 hHeld (fun w' hSw => HWC.out w' hSw.2) ?_;refine tk 5 hHeld ?_;refine tk 6 hHeld ?_;refine tkc 7 hHeld (fun w' hSw => HWC.out w' hSw.2) ?_
   have tb := (Below.refl w1.heap.size w4).drew
   have tx := ((Below.refl w4.heap.size w4).drew.block _ (heap_lt X7.out)).trans X7.out
   have tP := P0.out.below (Below.refl w4.heap.size w4).drew
   generalize w4.drew = V0 at tb tx tP hHeld ⊢
   have HB := Lib.hid tb
   have HX := Lib.hid tx
   have HP_ := Lib.hid tP
   clear tb tx tP P0
   refine wpAnyH_ready (rs := [3, 8]) (by kernel_rfl) (by simp) ?_
   refine AllReadyH.cons rfl (fun K hK => ?_) (AllReadyH.cons rfl (fun K hK => ?_) AllReadyH.nil)
   ·go_simp
    have tb := HB.out.alloc HP_.out.le (.cells #[.slice U0 z0 f0, .slice U1 z1 f1, .slice U2 z2 f2, .int .i64 x.near] 96)
    have tx := ((below_new V0 (.cells #[.slice U0 z0 f0, .slice U1 z1 f1, .slice U2 z2 f2, .int .i64 x.near] 96)).block _ (heap_lt HX.out)).trans HX.out
    have tP := HP_.out.below (below_new V0 (.cells #[.slice U0 z0 f0, .slice U1 z1 f1, .slice U2 z2 f2, .int .i64 x.near] 96))
    have ta := heap_alloc_self V0 (.cells #[.slice U0 z0 f0, .slice U1 z1 f1, .slice U2 z2 f2, .int .i64 x.near] 96)
    refine hK.out _ _ ?_ fun hHeld => ?_;exact ⟨tb, tx⟩;clear hK K;try simp only [zn, Act.put]
    generalize V0.alloc (.cells #[.slice U0 z0 f0, .slice U1 z1 f1, .slice U2 z2 f2, .int .i64 x.near] 96) = V1 at tb tx tP ta  hHeld ⊢
    obtain ⟨pa, hp⟩ : ∃ n, n = V0.heap.size := ⟨_, rfl⟩
    rw [← hp] at ta ⊢
    have XA := Lib.hid ta
    clear ta hp
    clear HB HX HP_
    have HB := Lib.hid tb
    have HX := Lib.hid tx
    have HP_ := Lib.hid tP
    clear tb tx tP
    refine wpAnyH_ready (rs := [4, 8]) (by kernel_rfl) (by simp) ?_
    refine AllReadyH.cons rfl (fun K hK => ?_) (AllReadyH.cons rfl (fun K hK => ?_) AllReadyH.nil)
    ·rw [if_pos (by rfl)]
     obtain ⟨yss, hown, hyl, -, hys, hyr⟩ := HP_.out.ways
     rw [LW.out] at hown hyl
     have O := Lib.hid hown
     have YL := Lib.hid hyl
     have YS := Lib.hid hys
     have YR := Lib.hid hyr
     clear hown hyl hys hyr
     refine wp_append_list (.tmp 29) (.tmp 32) _ rfl Tryz.underlying89 I0.out I1.out rfl I2.out (by decide) I3.out (by decide) rfl O.out rfl (m := 1) (news := [.slice U0 z0 f0, .slice U1 z1 f1, .slice U2 z2 f2, .int .i64 x.near]) rfl (fun h => by cases h) (fun a ha j u hj => by cases ha; rw [Addr.add_lit, Nat.zero_add]; exact cell_new XA.out j u hj) (by simp [Value.oneCell']) (by have := HI16.out; omega) HP_.out.le ?_
     intro vA V2 hownA hgrowA
     have tP := HP_.out.snocW LW.out O.out YL.out YS.out (by unfold maxLen; have := HI16.out; omega) YR.out hownA hgrowA
     have tb := HB.out.grown hgrowA HP_.out.le (own_ge O.out)
     have tx := heap_offT O.out hgrowA (by decide) HX.out
     clear hownA hgrowA O YL YS YR yss
     refine hK.out _ _ ?_ fun hHeld => ?_;exact ⟨tb, tx⟩;clear hK K;try simp only [zn, Act.put]
     clear HB HX HP_ XA
     have HB := Lib.hid tb
     have HX := Lib.hid tx
     have HP_ := Lib.hid tP
     clear tb tx tP
     refine tkr 8 (fun K hK => ?_)
     go_simp
     have tb := HB.out.alloc HP_.out.le (.cells #[.slice U nu uc] 58)
     have tx := ((below_new V2 (.cells #[.slice U nu uc] 58)).block _ (heap_lt HX.out)).trans HX.out
     have tP := HP_.out.below (below_new V2 (.cells #[.slice U nu uc] 58))
     have ta := heap_alloc_self V2 (.cells #[.slice U nu uc] 58)
     refine hK.out _ _ ?_ fun hHeld => ?_;exact ⟨tb, tx⟩;clear hK K;try simp only [zn, Act.put]
     generalize V2.alloc (.cells #[.slice U nu uc] 58) = V3 at tb tx tP ta  hHeld ⊢
     obtain ⟨pb, hp⟩ : ∃ n, n = V2.heap.size := ⟨_, rfl⟩
     rw [← hp] at ta ⊢
     have XB := Lib.hid ta
     clear ta hp
     clear HB HX HP_
     have HB := Lib.hid tb
     have HX := Lib.hid tx
     have HP_ := Lib.hid tP
     clear tb tx tP
     refine tkr 9 (fun K hK => ?_)
     rw [if_pos (by rfl)]
     obtain ⟨yss, hown, hyl, -, hys, hyr⟩ := HP_.out.jss
     rw [LJ.out] at hown hyl
     have O := Lib.hid hown
     have YL := Lib.hid hyl
     have YS := Lib.hid hys
     have YR := Lib.hid hyr
     clear hown hyl hys hyr
     refine wp_append_list (.tmp 34) (.tmp 37) _ rfl Tryz.underlying90 K0.out K1.out rfl K2.out (by decide) K3.out (by decide) rfl O.out rfl (m := 1) (news := [.slice U nu uc]) rfl (fun h => by cases h) (fun a ha j u hj => by cases ha; rw [Addr.add_lit, Nat.zero_add]; exact cell_new XB.out j u hj) (by simp [Value.oneCell']) (by have := HI16.out; omega) HP_.out.le ?_
     intro vA V4 hownA hgrowA
     have tP := HP_.out.snocJ LJ.out O.out YL.out YS.out (by unfold maxLen; have := HI16.out; omega) YR.out hownA hgrowA
     have tb := HB.out.grown hgrowA HP_.out.le (own_ge O.out)
     have tx := heap_offT O.out hgrowA (by decide) HX.out
     clear hownA hgrowA O YL YS YR yss
     refine hK.out _ _ ?_ fun hHeld => ?_;exact ⟨tb, tx⟩;clear hK K;try simp only [zn, Act.put]
     clear HB HX HP_ XB
     have HB := Lib.hid tb
     have HX := Lib.hid tx
     have HP_ := Lib.hid tP
     clear tb tx tP
     refine tk 10 hHeld ?_;refine tk 11 hHeld ?_
     refine wpAnyH_done (by kernel_rfl) ?_ _
     go_wp2_with fail
     go_roundw
     case measure => simp [intOf]; omega
     case rel =>
      refine ⟨i + 1, _, _, by omega, by go_num, rfl, rfl, ?_, ?_, fun k hk hki => ?_, BW4.out.trans (HB.out.mono (Nat.le_refl _))⟩
      ·rw [take_map _ _ hil, ← HXW.out]; exact HP_.out.ways
      ·rw [take_map _ _ hil, ← HYL.out]; exact HP_.out.jss
      ·rcases Nat.lt_or_ge k i with h | h
       ·exact GD.out k hk h
       ·obtain rfl : k = i := by omega
        exact HH.out
    ·go_simp
     have tb := HB.out.alloc HP_.out.le (.cells #[.slice U nu uc] 58)
     have tx := ((below_new V1 (.cells #[.slice U nu uc] 58)).block _ (heap_lt HX.out)).trans HX.out
     have tP := HP_.out.below (below_new V1 (.cells #[.slice U nu uc] 58))
     have ta := heap_alloc_self V1 (.cells #[.slice U nu uc] 58)
     have tXA := ((below_new V1 (.cells #[.slice U nu uc] 58)).block _ (heap_lt XA.out)).trans XA.out
     refine hK.out _ _ ?_ fun hHeld => ?_;exact ⟨tb, tx⟩;clear hK K;try simp only [zn, Act.put]
     generalize V1.alloc (.cells #[.slice U nu uc] 58) = V2 at tb tx tP ta tXA hHeld ⊢
     obtain ⟨pb, hp⟩ : ∃ n, n = V1.heap.size := ⟨_, rfl⟩
     rw [← hp] at ta ⊢
     have XB := Lib.hid ta
     clear ta hp
     clear HB HX HP_ XA
     have HB := Lib.hid tb
     have HX := Lib.hid tx
     have HP_ := Lib.hid tP
     clear tb tx tP
     have XA := Lib.hid tXA
     clear tXA
     refine tkr 4 (fun K hK => ?_)
     rw [if_pos (by rfl)]
     obtain ⟨yss, hown, hyl, -, hys, hyr⟩ := HP_.out.ways
     rw [LW.out] at hown hyl
     have O := Lib.hid hown
     have YL := Lib.hid hyl
     have YS := Lib.hid hys
     have YR := Lib.hid hyr
     clear hown hyl hys hyr
     refine wp_append_list (.tmp 29) (.tmp 32) _ rfl Tryz.underlying89 I0.out I1.out rfl I2.out (by decide) I3.out (by decide) rfl O.out rfl (m := 1) (news := [.slice U0 z0 f0, .slice U1 z1 f1, .slice U2 z2 f2, .int .i64 x.near]) rfl (fun h => by cases h) (fun a ha j u hj => by cases ha; rw [Addr.add_lit, Nat.zero_add]; exact cell_new XA.out j u hj) (by simp [Value.oneCell']) (by have := HI16.out; omega) HP_.out.le ?_
     intro vA V3 hownA hgrowA
     have tP := HP_.out.snocW LW.out O.out YL.out YS.out (by unfold maxLen; have := HI16.out; omega) YR.out hownA hgrowA
     have tb := HB.out.grown hgrowA HP_.out.le (own_ge O.out)
     have tx := heap_offT O.out hgrowA (by decide) HX.out
     have tXB := heap_offT O.out hgrowA (by decide) XB.out
     clear hownA hgrowA O YL YS YR yss
     refine hK.out _ _ ?_ fun hHeld => ?_;exact ⟨tb, tx⟩;clear hK K;try simp only [zn, Act.put]
     clear HB HX HP_ XA XB
     have HB := Lib.hid tb
     have HX := Lib.hid tx
     have HP_ := Lib.hid tP
     clear tb tx tP
     have XB := Lib.hid tXB
     clear tXB
     refine tkr 9 (fun K hK => ?_)
     rw [if_pos (by rfl)]
     obtain ⟨yss, hown, hyl, -, hys, hyr⟩ := HP_.out.jss
     rw [LJ.out] at hown hyl
     have O := Lib.hid hown
     have YL := Lib.hid hyl
     have YS := Lib.hid hys
     have YR := Lib.hid hyr
     clear hown hyl hys hyr
     refine wp_append_list (.tmp 34) (.tmp 37) _ rfl Tryz.underlying90 K0.out K1.out rfl K2.out (by decide) K3.out (by decide) rfl O.out rfl (m := 1) (news := [.slice U nu uc]) rfl (fun h => by cases h) (fun a ha j u hj => by cases ha; rw [Addr.add_lit, Nat.zero_add]; exact cell_new XB.out j u hj) (by simp [Value.oneCell']) (by have := HI16.out; omega) HP_.out.le ?_
     intro vA V4 hownA hgrowA
     have tP := HP_.out.snocJ LJ.out O.out YL.out YS.out (by unfold maxLen; have := HI16.out; omega) YR.out hownA hgrowA
     have tb := HB.out.grown hgrowA HP_.out.le (own_ge O.out)
     have tx := heap_offT O.out hgrowA (by decide) HX.out
     clear hownA hgrowA O YL YS YR yss
     refine hK.out _ _ ?_ fun hHeld => ?_;exact ⟨tb, tx⟩;clear hK K;try simp only [zn, Act.put]
     clear HB HX HP_ XB
     have HB := Lib.hid tb
     have HX := Lib.hid tx
     have HP_ := Lib.hid tP
     clear tb tx tP
     refine tk 10 hHeld ?_;refine tk 11 hHeld ?_
     refine wpAnyH_done (by kernel_rfl) ?_ _
     go_wp2_with fail
     go_roundw
     case measure => simp [intOf]; omega
     case rel =>
      refine ⟨i + 1, _, _, by omega, by go_num, rfl, rfl, ?_, ?_, fun k hk hki => ?_, BW4.out.trans (HB.out.mono (Nat.le_refl _))⟩
      ·rw [take_map _ _ hil, ← HXW.out]; exact HP_.out.ways
      ·rw [take_map _ _ hil, ← HYL.out]; exact HP_.out.jss
      ·rcases Nat.lt_or_ge k i with h | h
       ·exact GD.out k hk h
       ·obtain rfl : k = i := by omega
        exact HH.out
   ·go_simp
    have tb := HB.out.alloc HP_.out.le (.cells #[.slice U nu uc] 58)
    have tx := ((below_new V0 (.cells #[.slice U nu uc] 58)).block _ (heap_lt HX.out)).trans HX.out
    have tP := HP_.out.below (below_new V0 (.cells #[.slice U nu uc] 58))
    have ta := heap_alloc_self V0 (.cells #[.slice U nu uc] 58)
    refine hK.out _ _ ?_ fun hHeld => ?_;exact ⟨tb, tx⟩;clear hK K;try simp only [zn, Act.put]
    generalize V0.alloc (.cells #[.slice U nu uc] 58) = V1 at tb tx tP ta  hHeld ⊢
    obtain ⟨pb, hp⟩ : ∃ n, n = V0.heap.size := ⟨_, rfl⟩
    rw [← hp] at ta ⊢
    have XB := Lib.hid ta
    clear ta hp
    clear HB HX HP_
    have HB := Lib.hid tb
    have HX := Lib.hid tx
    have HP_ := Lib.hid tP
    clear tb tx tP
    refine tkr 3 (fun K hK => ?_)
    go_simp
    have tb := HB.out.alloc HP_.out.le (.cells #[.slice U0 z0 f0, .slice U1 z1 f1, .slice U2 z2 f2, .int .i64 x.near] 96)
    have tx := ((below_new V1 (.cells #[.slice U0 z0 f0, .slice U1 z1 f1, .slice U2 z2 f2, .int .i64 x.near] 96)).block _ (heap_lt HX.out)).trans HX.out
    have tP := HP_.out.below (below_new V1 (.cells #[.slice U0 z0 f0, .slice U1 z1 f1, .slice U2 z2 f2, .int .i64 x.near] 96))
    have ta := heap_alloc_self V1 (.cells #[.slice U0 z0 f0, .slice U1 z1 f1, .slice U2 z2 f2, .int .i64 x.near] 96)
    have tXB := ((below_new V1 (.cells #[.slice U0 z0 f0, .slice U1 z1 f1, .slice U2 z2 f2, .int .i64 x.near] 96)).block _ (heap_lt XB.out)).trans XB.out
    refine hK.out _ _ ?_ fun hHeld => ?_;exact ⟨tb, tx⟩;clear hK K;try simp only [zn, Act.put]
    generalize V1.alloc (.cells #[.slice U0 z0 f0, .slice U1 z1 f1, .slice U2 z2 f2, .int .i64 x.near] 96) = V2 at tb tx tP ta tXB hHeld ⊢
    obtain ⟨pa, hp⟩ : ∃ n, n = V1.heap.size := ⟨_, rfl⟩
    rw [← hp] at ta ⊢
    have XA := Lib.hid ta
    clear ta hp
    clear HB HX HP_ XB
    have HB := Lib.hid tb
    have HX := Lib.hid tx
    have HP_ := Lib.hid tP
    clear tb tx tP
    have XB := Lib.hid tXB
    clear tXB
    refine tkr 4 (fun K hK => ?_)
    rw [if_pos (by rfl)]
    obtain ⟨yss, hown, hyl, -, hys, hyr⟩ := HP_.out.ways
    rw [LW.out] at hown hyl
    have O := Lib.hid hown
    have YL := Lib.hid hyl
    have YS := Lib.hid hys
    have YR := Lib.hid hyr
    clear hown hyl hys hyr
    refine wp_append_list (.tmp 29) (.tmp 32) _ rfl Tryz.underlying89 I0.out I1.out rfl I2.out (by decide) I3.out (by decide) rfl O.out rfl (m := 1) (news := [.slice U0 z0 f0, .slice U1 z1 f1, .slice U2 z2 f2, .int .i64 x.near]) rfl (fun h => by cases h) (fun a ha j u hj => by cases ha; rw [Addr.add_lit, Nat.zero_add]; exact cell_new XA.out j u hj) (by simp [Value.oneCell']) (by have := HI16.out; omega) HP_.out.le ?_
    intro vA V3 hownA hgrowA
    have tP := HP_.out.snocW LW.out O.out YL.out YS.out (by unfold maxLen; have := HI16.out; omega) YR.out hownA hgrowA
    have tb := HB.out.grown hgrowA HP_.out.le (own_ge O.out)
    have tx := heap_offT O.out hgrowA (by decide) HX.out
    have tXB := heap_offT O.out hgrowA (by decide) XB.out
    clear hownA hgrowA O YL YS YR yss
    refine hK.out _ _ ?_ fun hHeld => ?_;exact ⟨tb, tx⟩;clear hK K;try simp only [zn, Act.put]
    clear HB HX HP_ XA XB
    have HB := Lib.hid tb
    have HX := Lib.hid tx
    have HP_ := Lib.hid tP
    clear tb tx tP
    have XB := Lib.hid tXB
    clear tXB
    refine tkr 9 (fun K hK => ?_)
    rw [if_pos (by rfl)]
    obtain ⟨yss, hown, hyl, -, hys, hyr⟩ := HP_.out.jss
    rw [LJ.out] at hown hyl
    have O := Lib.hid hown
    have YL := Lib.hid hyl
    have YS := Lib.hid hys
    have YR := Lib.hid hyr
    clear hown hyl hys hyr
    refine wp_append_list (.tmp 34) (.tmp 37) _ rfl Tryz.underlying90 K0.out K1.out rfl K2.out (by decide) K3.out (by decide) rfl O.out rfl (m := 1) (news := [.slice U nu uc]) rfl (fun h => by cases h) (fun a ha j u hj => by cases ha; rw [Addr.add_lit, Nat.zero_add]; exact cell_new XB.out j u hj) (by simp [Value.oneCell']) (by have := HI16.out; omega) HP_.out.le ?_
    intro vA V4 hownA hgrowA
    have tP := HP_.out.snocJ LJ.out O.out YL.out YS.out (by unfold maxLen; have := HI16.out; omega) YR.out hownA hgrowA
    have tb := HB.out.grown hgrowA HP_.out.le (own_ge O.out)
    have tx := heap_offT O.out hgrowA (by decide) HX.out
    clear hownA hgrowA O YL YS YR yss
    refine hK.out _ _ ?_ fun hHeld => ?_;exact ⟨tb, tx⟩;clear hK K;try simp only [zn, Act.put]
    clear HB HX HP_ XB
    have HB := Lib.hid tb
    have HX := Lib.hid tx
    have HP_ := Lib.hid tP
    clear tb tx tP
    refine tk 10 hHeld ?_;refine tk 11 hHeld ?_
    refine wpAnyH_done (by kernel_rfl) ?_ _
    go_wp2_with fail
    go_roundw
    case measure => simp [intOf]; omega
    case rel =>
     refine ⟨i + 1, _, _, by omega, by go_num, rfl, rfl, ?_, ?_, fun k hk hki => ?_, BW4.out.trans (HB.out.mono (Nat.le_refl _))⟩
     ·rw [take_map _ _ hil, ← HXW.out]; exact HP_.out.ways
     ·rw [take_map _ _ hil, ← HYL.out]; exact HP_.out.jss
     ·rcases Nat.lt_or_ge k i with h | h
      ·exact GD.out k hk h
      ·obtain rfl : k = i := by omega
       exact HH.out
  ·have hlt' : ¬ ((i : Int) < n5) := by omega
   have hin : i = p.routes.length := by have := HN5.out; omega
   have AE : Hid (allE p = 0) := Lib.hid (all_good HPM.out fun k hk => GD.out k hk (by omega))
   have AC := Lib.hid (all_cases p)
   have HWS : Hid (WaysOwn wr w1.heap.size sa (p.routes.map (wayR p))) := Lib.hid (by have h := W5.out; rw [List.take_of_length_le (by rw [List.length_map]; omega)] at h; exact h)
   have HJS : Hid (JssOwn wr w1.heap.size sb (p.routes.map (leftR p))) := Lib.hid (by have h := J6.out; rw [List.take_of_length_le (by rw [List.length_map]; omega)] at h; exact h)
   clear hin W5 J6
   go_wp2_with fail
   go_ret3
   rcases AC.out with ⟨-, -, h1, h2⟩ | ⟨h, -⟩
   ·exact ⟨_, _, by rw [AE.out]; rfl, by rw [h1]; exact ways_mono HWS.out B1.out.size, by rw [h2]; exact jss_mono HJS.out B1.out.size, B1.out.trans (BW.out.mono B1.out.size)⟩
   ·exact absurd AE.out h
end Go.Proofs.YtemmgmjhomgbbaaGreat
