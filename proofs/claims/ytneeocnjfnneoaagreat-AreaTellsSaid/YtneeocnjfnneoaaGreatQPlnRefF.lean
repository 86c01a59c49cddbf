/-
 The document's own functions of package plan: route.
 Conditions: none.
-/
import Derived.Test.YtneeocnjfnneoaaGreatQGPlnRefA
import Derived.Test.YtneeocnjfnneoaaGreatQGPlnRefB
set_option linter.unusedVariables false
set_option linter.unusedSimpArgs false
set_option maxRecDepth 100000
namespace Go.Proofs.YtneeocnjfnneoaaGreat
open Go.RowKit
/-- A route may be. -/
structure RouteMay (p : Pl) (r : Rt) : Prop where
 entry : ∃ k, ∃ hk : k < p.sigs.length, at1 (fun x : Sg => x.1) p.sigs r.entry = (k : Int) ∧ ∀ i (h : i < (r.path ++ r.over).length), (r.path ++ r.over)[i] ≠ p.sigs[k].2.1
 exit : r.exit ≠ 0 → 0 ≤ at1 (fun x : Sg => x.1) p.sigs r.exit ∧ r.exit ≠ r.entry
 over0 : r.exit = 0 → r.over.length = 0
 path : 1 ≤ r.path.length ∧ r.path.length ≤ 6
 over : r.over.length ≤ 2
 flank : r.flanks.length ≤ 3
 timer : 1 ≤ r.timer ∧ r.timer ≤ 9
 secs : ∀ i (h : i < (r.path ++ r.over).length), 0 ≤ atS p.secs (r.path ++ r.over)[i] ∧ ∀ m (hm : m < i), (r.path ++ r.over)[m] ≠ (r.path ++ r.over)[i]
 flanks : ∀ i (h : i < r.flanks.length), 0 ≤ at1 (fun x : Jn => x.1) p.pts r.flanks[i].1 ∧ (∀ j (hj : j + 1 = i), (r.flanks[j]'(by omega)).1 < r.flanks[i].1) ∧ 1 ≤ r.flanks[i].2 ∧ r.flanks[i].2 ≤ 2
noncomputable def routeMay (p : Pl) (r : Rt) : Bool := @decide (RouteMay p r) (Classical.propDecidable _)
theorem routeMay_true {p : Pl} {r : Rt} (h : RouteMay p r) : routeMay p r = true := by rw [routeMay]; exact @decide_eq_true _ (Classical.propDecidable _) h
theorem routeMay_false {p : Pl} {r : Rt} (h : ¬ RouteMay p r) : routeMay p r = false := by rw [routeMay]; exact @decide_eq_false _ (Classical.propDecidable _) h
theorem routeMay_iff {p : Pl} {r : Rt} : routeMay p r = true ↔ RouteMay p r := by rw [routeMay]; exact @decide_eq_true_iff _ (Classical.propDecidable _)

theorem wrap_id {x : Int} (h0 : -9223372036854775808 ≤ x) (h1 : x ≤ 9223372036854775807) : IntKind.i64.wrap x = x := by
 simp [IntKind.wrap, IntKind.signed, IntKind.bits]
 omega
set_option maxHeartbeats 16000000 in
theorem rroute_any (v y : Value) (p : Pl) (r : Rt) (w : World) (h : PlanV w w.heap.size v p) (h' : RouteV w w.heap.size y r) :
  Calls Tryz.prog 68 #[v, y] w fun e w' => e = .returned (.bool (routeMay p r)) ∧ Below w.heap.size w w' := by
 obtain ⟨y2, y3, y4, y5, rfl, hin⟩ := h
 obtain ⟨z3, z4, z5, rfl, hrt⟩ := h'
 obtain ⟨A2, c2, rfl, hcl2, hcm2⟩ := hin.secs.slice
 obtain ⟨A3, c3, rfl, hcl3, hcm3⟩ := hin.pts.slice
 obtain ⟨A4, c4, rfl, hcl4, hcm4⟩ := hin.sigs.slice
 obtain ⟨C3, e3, rfl, hdl3, hdm3⟩ := hrt.path.slice
 obtain ⟨C4, e4, rfl, hdl4, hdm4⟩ := hrt.over.slice
 obtain ⟨C5, e5, rfl, hdl5, hdm5⟩ := hrt.flanks.slice
 unfold maxLen at hcm2 hcm3 hcm4 hdm3 hdm4 hdm5
 obtain ⟨n2, hn2⟩ : ∃ n, n = p.secs.length := ⟨_, rfl⟩
 obtain ⟨n3, hn3⟩ : ∃ n, n = p.pts.length := ⟨_, rfl⟩
 obtain ⟨n4, hn4⟩ : ∃ n, n = p.sigs.length := ⟨_, rfl⟩
 obtain ⟨l3, hl3⟩ : ∃ n, n = r.path.length := ⟨_, rfl⟩
 obtain ⟨l4, hl4⟩ : ∃ n, n = r.over.length := ⟨_, rfl⟩
 obtain ⟨l5, hl5⟩ : ∃ n, n = r.flanks.length := ⟨_, rfl⟩
 have hm3 : l3 ≤ 9223372036854775807 := by omega
 have hm4 : l4 ≤ 9223372036854775807 := by omega
 have hm5 : l5 ≤ 9223372036854775807 := by omega
 have hm4s : n4 ≤ 9223372036854775807 := by omega
 have HS : Hid (SectsIn w w.heap.size (.slice A2 n2 c2) p.secs) := Lib.hid (by rw [hn2]; exact hin.secs)
 have HP : Hid (JoinsIn w w.heap.size (.slice A3 n3 c3) p.pts) := Lib.hid (by rw [hn3]; exact hin.pts)
 have HG : Hid (SigsIn w w.heap.size (.slice A4 n4 c4) p.sigs) := Lib.hid (by rw [hn4]; exact hin.sigs)
 have HF5 : Hid (JoinsIn w w.heap.size (.slice C5 l5 e5) r.flanks) := Lib.hid (by rw [hl5]; exact hrt.flanks)
 have HRT : Hid (RouteV w w.heap.size (.agg #[.int .i64 r.id, .int .i64 r.entry, .int .i64 r.exit, .slice C3 l3 e3, .slice C4 l4 e4, .slice C5 l5 e5, .int .i64 r.timer]) r) := Lib.hid ⟨_, _, _, rfl, by rw [hl3, hl4, hl5]; exact hrt⟩
 have HN : Hid (n4 = p.sigs.length ∧ l3 = r.path.length ∧ l4 = r.over.length ∧ l5 = r.flanks.length) := Lib.hid ⟨hn4, hl3, hl4, hl5⟩
 rw [← hn2, ← hn3, ← hn4, ← hl3, ← hl4, ← hl5]
 have hq := two_boxes w (.cells #[.int .i64 p.ver, .int .i64 p.par, .slice A2 n2 c2, .slice A3 n3 c3, .slice A4 n4 c4, y5] 33) (.cells #[.int .i64 r.id, .int .i64 r.entry, .int .i64 r.exit, .slice C3 l3 e3, .slice C4 l4 e4, .slice C5 l5 e5, .int .i64 r.timer] 54)
 clear hn2 hn3 hn4 hl3 hl4 hl5 hin hrt hcl2 hcm2 hcl3 hcm3 hcl4 hcm4 hdl3 hdm3 hdl4 hdm4 hdl5 hdm5
 go_enter Tryz.func68, Tryz.ntmps68
 go_upto_region 1 with fail
 generalize (w.alloc (.cells #[.int .i64 p.ver, .int .i64 p.par, .slice A2 n2 c2, .slice A3 n3 c3, .slice A4 n4 c4, y5] 33)).alloc (.cells #[.int .i64 r.id, .int .i64 r.entry, .int .i64 r.exit, .slice C3 l3 e3, .slice C4 l4 e4, .slice C5 l5 e5, .int .i64 r.timer] 54) = q at hq ⊢
 obtain ⟨q0, q1, qb⟩ := hq
 have XA0 := Lib.hid q0
 have XB0 := Lib.hid q1
 have QB := Lib.hid qb
 have HGQ := Lib.hid ((HG.out.below sigR qb).more sigR qb.size)
 have HRQ := Lib.hid ((HRT.out.below qb).more qb.size)
 clear q0 q1 qb
 obtain ⟨k0, k1, k2, k3, k4, k5⟩ := cell6_of XA0.out
 obtain ⟨m0, m1, m2, m3, m4, m5, m6⟩ := cell7_of XB0.out
 go_upto_region 2 with ((with_reducible show Calls _ _ _ _ _); refine (rsignalat_any _ p.sigs r.entry _ HGQ.out).mono ?_; rintro e w' ⟨rfl, hw'⟩; rw [hw']; clear hw' w')
 have BZ := QB
 obtain ⟨ke, hke⟩ : ∃ ke, ke = at1 (fun x : Sg => x.1) p.sigs r.entry := ⟨_, rfl⟩
 obtain ⟨kx, hkx⟩ : ∃ kx, kx = at1 (fun x : Sg => x.1) p.sigs r.exit := ⟨_, rfl⟩
 have HKE := Lib.hid hke
 have HKX := Lib.hid hkx
 have KEC := Lib.hid (at1_cases (fun x : Sg => x.1) p.sigs r.entry)
 rw [← hke]
 clear hke
 have XCALL : Hid (Calls Tryz.prog 101 #[.slice A4 n4 c4, .int .i64 r.exit] q fun e w' => e = .returned (.int .i64 kx) ∧ w' = q) := Lib.hid (by rw [hkx]; exact rsignalat_any _ p.sigs r.exit _ HGQ.out)
 clear hkx
 by_cases hke0 : ke < 0
 ·have dke : decide (ke < 0) = true := decide_eq_true hke0
  have HF : Hid (routeMay p r = false) := Lib.hid (routeMay_false fun h => by obtain ⟨k, _, hk, _⟩ := h.entry; have := HKE.out; omega)
  clear hke0
  go_wp2_with fail
  go_ret
  exact ⟨by rw [HF.out]; rfl, BZ.out⟩
 have dke : decide (ke < 0) = false := decide_eq_false hke0
 obtain ⟨k, hkr, hk1⟩ : ∃ k, ∃ hk : k < p.sigs.length, ke = (k : Int) := by
  rcases KEC.out with ⟨h, _⟩ | ⟨k, hk, h, _⟩
  ·have := HKE.out; omega
  ·exact ⟨k, hk, HKE.out.trans h⟩
 subst hk1
 clear hke0

 by_cases hbad : ((r.exit ≠ 0 ∧ (kx < 0 ∨ r.exit = r.entry)) ∨ (r.exit = 0 ∧ l4 ≠ 0))
 ·have HF : Hid (routeMay p r = false) := Lib.hid (routeMay_false fun h => by
   rcases hbad with ⟨h1, h2⟩ | ⟨h1, h2⟩
   ·have h3 := h.exit h1
    rw [← HKX.out] at h3
    rcases h2 with h2 | h2
    ·omega
    ·exact h3.2 h2
   ·have h3 := h.over0 h1
    rw [← HN.out.2.2.1] at h3
    exact h2 h3)
  rcases hbad with ⟨h1, h2⟩ | ⟨h1, h2⟩
  ·have d1 : (r.exit != 0) = true := by simpa using h1
   by_cases h3 : kx < 0
   ·have d3 : decide (kx < 0) = true := decide_eq_true h3
    clear h1 h2 h3
    go_wp2_with ((with_reducible show Calls _ _ _ _ _); refine XCALL.out.mono ?_; rintro e w' ⟨rfl, hw'⟩; rw [hw']; clear hw' w')
    go_ret
    exact ⟨by rw [HF.out]; rfl, BZ.out⟩
   ·have d3 : decide (kx < 0) = false := decide_eq_false h3
    have d4 : (r.exit == r.entry) = true := by rcases h2 with h2 | h2; exact absurd h2 h3; simpa using h2
    clear h1 h2 h3
    go_wp2_with ((with_reducible show Calls _ _ _ _ _); refine XCALL.out.mono ?_; rintro e w' ⟨rfl, hw'⟩; rw [hw']; clear hw' w')
    go_ret
    exact ⟨by rw [HF.out]; rfl, BZ.out⟩
  ·have d1 : (r.exit != 0) = false := by simpa using h1
   have d1' : (r.exit == 0) = true := by simpa using h1
   have d2 : ((l4 : Int) != 0) = true := by simpa using h2
   clear h1 h2
   go_wp2_with fail
   go_ret
   exact ⟨by rw [HF.out]; rfl, BZ.out⟩
 have EX1 : Hid ((r.exit ≠ 0 → 0 ≤ at1 (fun x : Sg => x.1) p.sigs r.exit ∧ r.exit ≠ r.entry) ∧ (r.exit = 0 → r.over.length = 0)) := Lib.hid (by
  rw [← HKX.out, ← HN.out.2.2.1]
  refine ⟨fun h => ⟨?_, fun h2 => hbad (.inl ⟨h, .inr h2⟩)⟩, fun h => ?_⟩
  ·by_cases h2 : kx < 0
   ·exact absurd (.inl ⟨h, .inl h2⟩) hbad
   ·omega
  ·rcases Nat.eq_zero_or_pos l4 with h2 | h2
   ·exact h2
   ·exact absurd (.inr ⟨h, by omega⟩) hbad)
 have NEXT : Hid ((r.exit != 0) = true ∧ decide (kx < 0) = false ∧ (r.exit == r.entry) = false ∧ (r.exit == 0) = false ∨ (r.exit != 0) = false ∧ (r.exit == 0) = true ∧ ((l4 : Int) != 0) = false) := Lib.hid (by
  by_cases h : r.exit = 0
  ·refine .inr ⟨by simpa using h, by simpa using h, ?_⟩
   rcases Nat.eq_zero_or_pos l4 with h2 | h2
   ·subst h2; rfl
   ·exact absurd (.inr ⟨h, by omega⟩) hbad
  ·refine .inl ⟨by simpa using h, decide_eq_false fun h2 => hbad (.inl ⟨h, .inl h2⟩), by simpa using fun h2 => hbad (.inl ⟨h, .inr h2⟩), by simpa using h⟩)
 clear hbad
 go_cut [48] from 11 to 48 (fun s48 wx => s48 = .bool false ∧ wx = q)
 case first =>
  rcases NEXT.out with ⟨d1, d2, d3, d4⟩ | ⟨d1, d2, d3⟩
  ·go_wp2_with ((with_reducible show Calls _ _ _ _ _); refine XCALL.out.mono ?_; rintro e w' ⟨rfl, hw'⟩; rw [hw']; clear hw' w')
   go_meet
   exact ⟨rfl, rfl⟩
  ·go_wp2_with fail
   go_meet
   exact ⟨rfl, rfl⟩
 case rest =>
  obtain ⟨rfl, rfl⟩ := hcut
  clear k0 k1 k2 k3 k4 k5 m0 m1 m2 m3 m4 m5 m6 dke XCALL
  have XA := XA0
  have XB := XB0
  obtain ⟨m0, m1, m2, m3, m4, m5, m6⟩ := cell7_of XB.out
  by_cases h1 : l3 < 1
  ·have d1 : decide ((l3 : Int) < 1) = true := decide_eq_true (by omega)
   have HF : Hid (routeMay p r = false) := Lib.hid (routeMay_false fun h => by have := h.path; have := HN.out; omega)
   clear h1
   go_wp2_with fail
   go_ret
   exact ⟨by rw [HF.out]; rfl, BZ.out⟩
  have d1 : decide ((l3 : Int) < 1) = false := decide_eq_false (by omega)
  by_cases h2 : 6 < l3
  ·have d2 : decide ((6 : Int) < l3) = true := decide_eq_true (by omega)
   have HF : Hid (routeMay p r = false) := Lib.hid (routeMay_false fun h => by have := h.path; have := HN.out; omega)
   clear h1 h2
   go_wp2_with fail
   go_ret
   exact ⟨by rw [HF.out]; rfl, BZ.out⟩
  have d2 : decide ((6 : Int) < l3) = false := decide_eq_false (by omega)
  by_cases h3 : 2 < l4
  ·have d3 : decide ((2 : Int) < l4) = true := decide_eq_true (by omega)
   have HF : Hid (routeMay p r = false) := Lib.hid (routeMay_false fun h => by have := h.over; have := HN.out; omega)
   clear h1 h2 h3
   go_wp2_with fail
   go_ret
   exact ⟨by rw [HF.out]; rfl, BZ.out⟩
  have d3 : decide ((2 : Int) < l4) = false := decide_eq_false (by omega)
  by_cases h4 : 3 < l5
  ·have d4 : decide ((3 : Int) < l5) = true := decide_eq_true (by omega)
   have HF : Hid (routeMay p r = false) := Lib.hid (routeMay_false fun h => by have := h.flank; have := HN.out; omega)
   clear h1 h2 h3 h4
   go_wp2_with fail
   go_ret
   exact ⟨by rw [HF.out]; rfl, BZ.out⟩
  have d4 : decide ((3 : Int) < l5) = false := decide_eq_false (by omega)
  by_cases h5 : r.timer < 1
  ·have d5 : decide (r.timer < 1) = true := decide_eq_true (by omega)
   have HF : Hid (routeMay p r = false) := Lib.hid (routeMay_false fun h => by have := h.timer; omega)
   clear h1 h2 h3 h4 h5
   go_wp2_with fail
   go_ret
   exact ⟨by rw [HF.out]; rfl, BZ.out⟩
  have d5 : decide (r.timer < 1) = false := decide_eq_false (by omega)
  by_cases h6 : 9 < r.timer
  ·have d6 : decide (9 < r.timer) = true := decide_eq_true (by omega)
   have HF : Hid (routeMay p r = false) := Lib.hid (routeMay_false fun h => by have := h.timer; omega)
   clear h1 h2 h3 h4 h5 h6
   go_wp2_with fail
   go_ret
   exact ⟨by rw [HF.out]; rfl, BZ.out⟩
  have d6 : decide (9 < r.timer) = false := decide_eq_false (by omega)
  have PARTS : Hid ((1 ≤ r.path.length ∧ r.path.length ≤ 6) ∧ r.over.length ≤ 2 ∧ r.flanks.length ≤ 3 ∧ 1 ≤ r.timer ∧ r.timer ≤ 9) := Lib.hid (by have := HN.out; omega)
  clear h1 h2 h3 h4 h5 h6
  go_wp2_with fail
  refine (rsections_any _ r wc HRQ.out (by have := PARTS.out; omega) (by have := PARTS.out; omega)).mono ?_
  rintro e w6 ⟨u, rfl, hu, b6⟩
  obtain ⟨Au, cu, rfl⟩ := hu.slice
  have B6 := Lib.hid (QB.out.trans (b6.mono QB.out.size))
  have Z2 := Lib.hid ((b6.block _ (heap_lt XA.out)).trans XA.out)
  have Z3 := Lib.hid ((b6.block _ (heap_lt XB.out)).trans XB.out)
  have HU0 := Lib.hid (hu.in_ intR_cells)
  obtain ⟨LL, hLL⟩ : ∃ LL, LL = r.path ++ r.over := ⟨_, rfl⟩
  have HLL := Lib.hid hLL
  rw [← hLL] at hu HU0 ⊢
  obtain ⟨N, hN⟩ : ∃ N, N = LL.length := ⟨_, rfl⟩
  have HNN := Lib.hid hN
  have HU : Hid (IntsIn w6 w6.heap.size (.slice Au N cu) LL) := Lib.hid (by rw [hN]; exact HU0.out)
  have HN8 : N ≤ 8 := by rw [hN, hLL, List.length_append]; have := PARTS.out; omega
  rw [← hN]
  have HS6 := Lib.hid ((HS.out.below secR_ B6.out).more secR_ B6.out.size)
  have HG6 := Lib.hid ((HG.out.below sigR B6.out).more sigR B6.out.size)
  have HP6 := Lib.hid ((HP.out.below joinR B6.out).more joinR B6.out.size)
  have HF6 := Lib.hid ((HF5.out.below joinR B6.out).more joinR B6.out.size)
  clear hu hLL hN b6 m0 m1 m2 m3 m4 m5 m6 d1 d2 d3 d4 d5 d6 XA XB XA0 XB0 HU0
  go_wp2_with fail
  go_loopw [7] (fun s7 wr => ∃ i : Nat, i ≤ N ∧ s7 = .int .i64 i ∧ (∀ j (hj : j < i) (hl : j < LL.length), (LL[j] ≠ p.sigs[k].2.1 ∧ 0 ≤ atS p.secs LL[j]) ∧ ∀ m (hm : m < j), (LL[m]'(by omega)) ≠ LL[j]) ∧ Below w6.heap.size w6 wr) (fun s7 _ => N - (intOf s7).toNat)
  case atStart => exact ⟨0, by omega, by go_num, fun j hj => absurd hj (by omega), Below.refl _ _⟩
  case round =>
   obtain ⟨i, hi, rfl, hall, hbw⟩ := hrel
   have HALL := Lib.hid hall
   have BW := Lib.hid hbw
   clear hall hbw
   by_cases hlt : i < N
   ·have hlt' : (i : Int) < N := by omega
    have hir : i < LL.length := by rw [← HNN.out]; exact hlt
    obtain ⟨bu, ou, rfl, hbu, hcu⟩ := ((HU.out.below intR BW.out).more intR BW.out.size).at hir
    obtain ⟨bg, og, rfl, hbg, -, hcg, -⟩ := ((HG6.out.below sigR BW.out).more sigR BW.out.size).at hkr
    obtain ⟨x, hx⟩ : ∃ x, x = LL[i] := ⟨_, rfl⟩
    obtain ⟨s1, hs1⟩ : ∃ s1, s1 = p.sigs[k].2.1 := ⟨_, rfl⟩
    have hkn : (k : Int) < n4 := by have := HN.out; omega
    have LCU : Hid (wr.cell? ⟨bu, ou + i, none⟩ = some (.int .i64 x)) := Lib.hid (by rw [hx]; simpa [IntR] using hcu)
    have LCG : Hid (wr.cell? ⟨bg, og + k * 3 + 1, none⟩ = some (.int .i64 s1)) := Lib.hid (by rw [hs1]; exact hcg)
    have LBU := Lib.hid hbu
    have LBG := Lib.hid hbg
    have HX := Lib.hid hx
    have HS1 := Lib.hid hs1
    have XA := Lib.hid ((BW.out.block _ (heap_lt Z2.out)).trans Z2.out)
    have XB := Lib.hid ((BW.out.block _ (heap_lt Z3.out)).trans Z3.out)
    have HSW := Lib.hid ((HS6.out.below secR_ BW.out).more secR_ BW.out.size)
    obtain ⟨kk, hkk⟩ : ∃ kk, kk = atS p.secs x := ⟨_, rfl⟩
    have HKK := Lib.hid hkk
    have BZ : Hid (Below w.heap.size w wr.drew) := Lib.hid (B6.out.trans ((BW.out.drew).mono B6.out.size))
    have ME : Hid (RouteMay p r → (x ≠ s1 ∧ 0 ≤ kk) ∧ ∀ m (hm : m < i), (LL[m]'(by omega)) ≠ x) := Lib.hid (fun h => by
     obtain ⟨k', hk', hke, hne⟩ := h.entry
     obtain rfl : k' = k := by have := HKE.out; omega
     have h2 := h.secs
     rw [HKK.out, HX.out, HS1.out]
     simp only [← HLL.out] at hne h2
     exact ⟨⟨hne i hir, (h2 i hir).1⟩, (h2 i hir).2⟩)
    clear hcu hcg hx hs1 hbu hbg hkk
    go_upto_region 10 with fail
    by_cases h1 : kk < 0
    ·have d1 : decide (kk < 0) = true := decide_eq_true h1
     have HF : Hid (routeMay p r = false) := Lib.hid (routeMay_false fun h => by have := (ME.out h).1.2; omega)
     clear h1
     refine wp_region_held_drew (S := fun v => Below wr.heap.size wr v) (by kernel_rfl) (Below.refl wr.heap.size wr).drew (fun hHeld => ?_)
     refine tk 0 hHeld ?_;refine tkc 1 hHeld (fun w' hSw => cell6_of ((hSw.block _ (heap_lt XA.out)).trans XA.out)) ?_;refine tk 2 hHeld ?_;refine tk 3 hHeld ?_;refine tk 4 hHeld ?_;refine tkc 5 hHeld (fun w' hSw => (hSw.cell (p := ⟨bu, ou + i, none⟩) LBU.out).trans LCU.out) ?_
     refine tkr 6 (fun K hK => ?_)
     go_simp
     refine (rat_any _ p.secs x wr.drew (HSW.out.below secR_ (Below.refl wr.heap.size wr).drew)).mono ?_
     rintro e w' ⟨rfl, rfl⟩
     rw [← HKK.out]
     try go_wp2_with fail
     refine hK.out _ _ ?_ fun hHeld => ?_;exact (Below.refl wr.heap.size wr).drew;clear hK K;try simp only [zn, Act.put]
     refine tk 7 hHeld ?_;refine tk 8 hHeld ?_;refine tks 9 hHeld ?_;refine tks 10 hHeld ?_;refine tks 11 hHeld ?_;refine tks 12 hHeld ?_;refine tks 13 hHeld ?_;refine tks 14 hHeld ?_;refine tks 15 hHeld ?_;refine tks 16 hHeld ?_;refine tks 17 hHeld ?_;refine tks 18 hHeld ?_;refine tks 19 hHeld ?_;refine tk 20 hHeld ?_
     refine wpAnyH_done (by kernel_rfl) ?_ _
     go_wp2_with fail
     go_ret
     exact ⟨by rw [HF.out]; rfl, BZ.out⟩
    have d1 : decide (kk < 0) = false := decide_eq_false h1
    have K0 : Hid (0 ≤ kk) := Lib.hid (by omega)
    clear h1
    by_cases h2 : x = s1
    ·have d2 : (x == s1) = true := by simpa using h2
     have HF : Hid (routeMay p r = false) := Lib.hid (routeMay_false fun h => (ME.out h).1.1 h2)
     clear h2
     refine wp_region_held_drew (S := fun v => Below wr.heap.size wr v) (by kernel_rfl) (Below.refl wr.heap.size wr).drew (fun hHeld => ?_)
     refine tk 0 hHeld ?_;refine tkc 1 hHeld (fun w' hSw => cell6_of ((hSw.block _ (heap_lt XA.out)).trans XA.out)) ?_;refine tk 2 hHeld ?_;refine tk 3 hHeld ?_;refine tk 4 hHeld ?_;refine tkc 5 hHeld (fun w' hSw => (hSw.cell (p := ⟨bu, ou + i, none⟩) LBU.out).trans LCU.out) ?_
     refine tkr 6 (fun K hK => ?_)
     go_simp
     refine (rat_any _ p.secs x wr.drew (HSW.out.below secR_ (Below.refl wr.heap.size wr).drew)).mono ?_
     rintro e w' ⟨rfl, rfl⟩
     rw [← HKK.out]
     try go_wp2_with fail
     refine hK.out _ _ ?_ fun hHeld => ?_;exact (Below.refl wr.heap.size wr).drew;clear hK K;try simp only [zn, Act.put]
     refine tk 7 hHeld ?_;refine tk 8 hHeld ?_;refine tk 9 hHeld ?_;refine tk 10 hHeld ?_;refine tk 11 hHeld ?_;refine tkc 12 hHeld (fun w' hSw => (hSw.cell (p := ⟨bu, ou + i, none⟩) LBU.out).trans LCU.out) ?_;refine tk 13 hHeld ?_;refine tkc 14 hHeld (fun w' hSw => cell6_of ((hSw.block _ (heap_lt XA.out)).trans XA.out)) ?_;refine tk 15 hHeld ?_;refine tk 16 hHeld ?_;refine tk 17 hHeld ?_;refine tkc 18 hHeld (fun w' hSw => (hSw.cell (p := ⟨bg, og + k * 3 + 1, none⟩) LBG.out).trans LCG.out) ?_;refine tk 19 hHeld ?_;refine tk 20 hHeld ?_
     refine wpAnyH_done (by kernel_rfl) ?_ _
     go_wp2_with fail
     go_ret
     exact ⟨by rw [HF.out]; rfl, BZ.out⟩
    have d2 : (x == s1) = false := by simpa using h2
    have XS : Hid (x ≠ s1) := Lib.hid h2
    clear h2
    refine wp_region_held_drew (S := fun v => Below wr.heap.size wr v) (by kernel_rfl) (Below.refl wr.heap.size wr).drew (fun hHeld => ?_)
    refine tk 0 hHeld ?_;refine tkc 1 hHeld (fun w' hSw => cell6_of ((hSw.block _ (heap_lt XA.out)).trans XA.out)) ?_;refine tk 2 hHeld ?_;refine tk 3 hHeld ?_;refine tk 4 hHeld ?_;refine tkc 5 hHeld (fun w' hSw => (hSw.cell (p := ⟨bu, ou + i, none⟩) LBU.out).trans LCU.out) ?_
    refine tkr 6 (fun K hK => ?_)
    go_simp
    refine (rat_any _ p.secs x wr.drew (HSW.out.below secR_ (Below.refl wr.heap.size wr).drew)).mono ?_
    rintro e w' ⟨rfl, rfl⟩
    rw [← HKK.out]
    try go_wp2_with fail
    refine hK.out _ _ ?_ fun hHeld => ?_;exact (Below.refl wr.heap.size wr).drew;clear hK K;try simp only [zn, Act.put]
    refine tk 7 hHeld ?_;refine tk 8 hHeld ?_;refine tk 9 hHeld ?_;refine tk 10 hHeld ?_;refine tk 11 hHeld ?_;refine tkc 12 hHeld (fun w' hSw => (hSw.cell (p := ⟨bu, ou + i, none⟩) LBU.out).trans LCU.out) ?_;refine tk 13 hHeld ?_;refine tkc 14 hHeld (fun w' hSw => cell6_of ((hSw.block _ (heap_lt XA.out)).trans XA.out)) ?_;refine tk 15 hHeld ?_;refine tk 16 hHeld ?_;refine tk 17 hHeld ?_;refine tkc 18 hHeld (fun w' hSw => (hSw.cell (p := ⟨bg, og + k * 3 + 1, none⟩) LBG.out).trans LCG.out) ?_;refine tk 19 hHeld ?_;refine tk 20 hHeld ?_
    refine wpAnyH_done (by kernel_rfl) ?_ _
    have BD0 : Hid (Below w6.heap.size w6 wr.drew) := Lib.hid BW.out.drew
    clear d1 d2
    generalize wr.drew = wd at BZ BD0 ⊢
    go_wp2_with fail
    go_loopw [8] (fun s8 wr => ∃ m : Nat, m ≤ i ∧ s8 = .int .i64 m ∧ (∀ j (hj : j < m) (hl : j < LL.length), LL[j] ≠ x) ∧ Below w6.heap.size w6 wr) (fun s8 _ => i - (intOf s8).toNat)
    case atStart => exact ⟨0, by omega, by go_num, fun j hj => absurd hj (by omega), BD0.out⟩
    case round =>
     obtain ⟨m, hm, rfl, hms, hbm⟩ := hrel
     have HMS := Lib.hid hms
     have BM := Lib.hid hbm
     clear hms hbm
     by_cases hmi : m < i
     ·have hmi' : (m : Int) < i := by omega
      have hmN : (m : Int) < N := by omega
      have hmr : m < LL.length := by omega
      obtain ⟨bm, om, e1, hbm, hcm⟩ := ((HU.out.below intR BM.out).more intR BM.out.size).at hmr
      cases e1
      obtain ⟨bn, on, e2, hbn, hcn⟩ := ((HU.out.below intR BM.out).more intR BM.out.size).at hir
      cases e2
      obtain ⟨xm, hxm⟩ : ∃ xm, xm = LL[m] := ⟨_, rfl⟩
      have hg1 : wr.cell? ⟨bu, ou + m, none⟩ = some (.int .i64 xm) := by rw [hxm]; simpa [IntR] using hcm
      have hg2 : wr.cell? ⟨bu, ou + i, none⟩ = some (.int .i64 x) := by rw [HX.out]; simpa [IntR] using hcn
      have HXM := Lib.hid hxm
      have BD : Hid (∀ nq, Below w6.heap.size w6 (wr.drewN nq)) := Lib.hid (fun nq => ⟨BM.out.os, BM.out.tape, BM.out.output, BM.out.size, BM.out.block⟩)
      clear hcm hcn hxm hbm hbn
      go_upto_region 15 with fail
      by_cases he : xm = x
      ·have hne : (xm == x) = true := by simpa using he
       have HF : Hid (routeMay p r = false) := Lib.hid (routeMay_false fun h => (ME.out h).2 m hmi (HXM.out.symm.trans he))
       clear he
       go_quiet (fail)
       have hdb := BD.out nq
       generalize wr.drewN nq = q9 at hdb ⊢
       have BY : Hid (Below w.heap.size w q9) := Lib.hid (B6.out.trans (hdb.mono B6.out.size))
       clear hdb hg1 hg2 BD
       go_wp2_with fail
       go_ret
       exact ⟨by rw [HF.out]; rfl, BY.out⟩
      ·have hne : (xm == x) = false := by simpa using he
       have NX : Hid (∀ j (hj : j < m + 1) (hl : j < LL.length), LL[j] ≠ x) := Lib.hid (fun j hj hl => by
        rcases Nat.lt_or_ge j m with h | h
        ·exact HMS.out j h hl
        ·obtain rfl : j = m := by omega
         exact fun h2 => he (HXM.out.trans h2))
       clear he
       go_quiet (fail)
       have hdb := BD.out nq
       generalize wr.drewN nq = q9 at hdb ⊢
       have BY := Lib.hid hdb
       clear hdb hg1 hg2 BD
       go_wp2_with fail
       go_roundw
       case measure => simp [intOf]; omega
       case rel => exact ⟨m + 1, by omega, by go_num, NX.out, BY.out⟩
     ·obtain rfl : m = i := by omega
      have hmi' : ¬ (m : Int) < m := by omega
      have NX : Hid (∀ j (hj : j < m + 1) (hl : j < LL.length), (LL[j] ≠ p.sigs[k].2.1 ∧ 0 ≤ atS p.secs LL[j]) ∧ ∀ t (hm : t < j), (LL[t]'(by omega)) ≠ LL[j]) := Lib.hid (fun j hj hl => by
       rcases Nat.lt_or_ge j m with h | h
       ·exact HALL.out j h hl
       ·obtain rfl : j = m := by omega
        rw [← HX.out, ← HS1.out, ← HKK.out]
        exact ⟨⟨XS.out, K0.out⟩, fun t ht => HMS.out t ht (by omega)⟩)
      go_wp2_with fail
      go_roundw
      case measure => simp [intOf]; omega
      case rel => exact ⟨m + 1, by omega, by go_num, NX.out, BM.out⟩
   ·obtain rfl : i = N := by omega
    have hlt' : ¬ (i : Int) < i := by omega
    have ALL : Hid (∀ j (hl : j < LL.length), (LL[j] ≠ p.sigs[k].2.1 ∧ 0 ≤ atS p.secs LL[j]) ∧ ∀ m (hm : m < j), (LL[m]'(by omega)) ≠ LL[j]) := Lib.hid (fun j hl => HALL.out j (by rw [HNN.out]; exact hl) hl)
    clear HALL
    go_wp2_with fail
    go_loopw [9] (fun s9 wr => ∃ a : Nat, a ≤ l5 ∧ s9 = .int .i64 a ∧ (∀ j (hj : j < a) (hl : j < r.flanks.length), 0 ≤ at1 (fun x : Jn => x.1) p.pts r.flanks[j].1 ∧ (∀ t (ht : t + 1 = j), (r.flanks[t]'(by omega)).1 < r.flanks[j].1) ∧ 1 ≤ r.flanks[j].2 ∧ r.flanks[j].2 ≤ 2) ∧ Below w6.heap.size w6 wr) (fun s9 _ => l5 - (intOf s9).toNat)
    case atStart => exact ⟨0, by omega, by go_num, fun j hj => absurd hj (by omega), BW.out⟩
    case round =>
     obtain ⟨a, ha, rfl, hall, hbw⟩ := hrel
     have HALL := Lib.hid hall
     clear BW
     have BW := Lib.hid hbw
     clear hall hbw
     have XA1 := Lib.hid ((BW.out.block _ (heap_lt Z2.out)).trans Z2.out)
     have XB1 := Lib.hid ((BW.out.block _ (heap_lt Z3.out)).trans Z3.out)
     obtain ⟨m0, m1, m2, m3, m4, m5, m6⟩ := cell7_of XB1.out
     by_cases hlt : a < l5
     ·have hlt2 : (a : Int) < l5 := by omega
      have har : a < r.flanks.length := by have := HN.out; omega
      obtain ⟨bf, of, rfl, hbf, hc0, hc1⟩ := ((HF6.out.below joinR BW.out).more joinR BW.out.size).at har
      obtain ⟨x0, x1, hx⟩ : ∃ x0 x1, r.flanks[a] = (x0, x1) := ⟨_, _, rfl⟩
      have HX := Lib.hid hx
      rw [hx] at hc0 hc1
      have hg0 : wr.cell? ⟨bf, of + a * 2, none⟩ = some (.int .i64 x0) := hc0
      have hg1 : wr.cell? ⟨bf, of + a * 2 + 1, none⟩ = some (.int .i64 x1) := hc1
      have hz0 := heap_alloc_self wr (.cells #[.int .i64 x0, .int .i64 x1] 64)
      have hzb := below_new wr (.cells #[.int .i64 x0, .int .i64 x1] 64)
      obtain ⟨wv, hwv⟩ : ∃ wv, wv = wr.alloc (.cells #[.int .i64 x0, .int .i64 x1] 64) := ⟨_, rfl⟩
      rw [← hwv] at hz0 hzb
      clear hc0 hc1 hx hbf
      go_upto_region 21 with fail
      rw [← hwv]
      have BV := Lib.hid (BW.out.trans (hzb.mono BW.out.size))
      have XC := Lib.hid hz0
      have XA := Lib.hid ((hzb.block _ (heap_lt XA1.out)).trans XA1.out)
      have XB := Lib.hid ((hzb.block _ (heap_lt XB1.out)).trans XB1.out)
      generalize wr.heap.size = p10 at XC ⊢
      clear hz0 hzb hwv m0 m1 m2 m3 m4 m5 m6 hg0 hg1 XA1 XB1
      have HPW := Lib.hid ((HP6.out.below joinR BV.out).more joinR BV.out.size)
      have HFW := Lib.hid ((HF6.out.below joinR BV.out).more joinR BV.out.size)
      obtain ⟨kk, hkk⟩ : ∃ kk, kk = at1 (fun x : Jn => x.1) p.pts x0 := ⟨_, rfl⟩
      have HKK := Lib.hid hkk
      clear hkk
      have BZ : Hid (Below w.heap.size w wv.drew) := Lib.hid (B6.out.trans ((BV.out.drew).mono B6.out.size))
      have ME : Hid (RouteMay p r → 0 ≤ kk ∧ (∀ j (hj : j + 1 = a), (r.flanks[j]'(by omega)).1 < x0) ∧ 1 ≤ x1 ∧ x1 ≤ 2) := Lib.hid (fun h => by
       have h2 := h.flanks a har
       rw [HX.out] at h2
       rw [HKK.out]
       exact h2)
      have NX : Hid (0 ≤ kk → (∀ j (hj : j + 1 = a), (r.flanks[j]'(by omega)).1 < x0) → 1 ≤ x1 → x1 ≤ 2 → ∀ j (hj : j < a + 1) (hl : j < r.flanks.length), 0 ≤ at1 (fun x : Jn => x.1) p.pts r.flanks[j].1 ∧ (∀ t (ht : t + 1 = j), (r.flanks[t]'(by omega)).1 < r.flanks[j].1) ∧ 1 ≤ r.flanks[j].2 ∧ r.flanks[j].2 ≤ 2) := Lib.hid (fun h1 h2 h3 h4 j hj hl => by
       rcases Nat.lt_or_ge j a with h | h
       ·exact HALL.out j h hl
       ·obtain rfl : j = a := by omega
        rw [HX.out]
        exact ⟨by rw [← HKK.out]; exact h1, h2, h3, h4⟩)
      by_cases h1 : kk < 0
      ·have d1 : decide (kk < 0) = true := decide_eq_true h1
       have HF : Hid (routeMay p r = false) := Lib.hid (routeMay_false fun h => by have := (ME.out h).1; omega)
       clear h1
       refine wp_region_held_drew (S := fun v => Below wv.heap.size wv v) (by kernel_rfl) (Below.refl wv.heap.size wv).drew (fun hHeld => ?_)
       refine tk 0 hHeld ?_;refine tkc 1 hHeld (fun w' hSw => cell6_of ((hSw.block _ (heap_lt XA.out)).trans XA.out)) ?_;refine tk 2 hHeld ?_;refine tkc 3 hHeld (fun w' hSw => cell2_of ((hSw.block _ (heap_lt XC.out)).trans XC.out)) ?_
       refine tkr 4 (fun K hK => ?_)
       go_simp
       refine (rpointat_any _ p.pts x0 wv.drew (HPW.out.below joinR (Below.refl wv.heap.size wv).drew)).mono ?_
       rintro e w' ⟨rfl, rfl⟩
       rw [← HKK.out]
       try go_wp2_with fail
       refine hK.out _ _ ?_ fun hHeld => ?_;exact (Below.refl wv.heap.size wv).drew;clear hK K;try simp only [zn, Act.put]
       refine tk 5 hHeld ?_;refine tk 6 hHeld ?_;refine tks 7 hHeld ?_;refine tks 8 hHeld ?_;refine tks 9 hHeld ?_;refine tks 10 hHeld ?_;refine tks 11 hHeld ?_;refine tks 12 hHeld ?_;refine tks 13 hHeld ?_;refine tks 14 hHeld ?_;refine tks 15 hHeld ?_;refine tks 16 hHeld ?_;refine tks 17 hHeld ?_;refine tks 18 hHeld ?_;refine tks 19 hHeld ?_;refine tks 20 hHeld ?_;refine tk 21 hHeld ?_;refine tk 22 hHeld ?_;refine tks 23 hHeld ?_;refine tks 24 hHeld ?_;refine tks 25 hHeld ?_;refine tk 26 hHeld ?_;refine tk 27 hHeld ?_;refine tks 28 hHeld ?_;refine tks 29 hHeld ?_;refine tks 30 hHeld ?_;refine tk 31 hHeld ?_
       refine wpAnyH_done (by kernel_rfl) ?_ _
       go_wp2_with fail
       go_ret
       exact ⟨by rw [HF.out]; rfl, BZ.out⟩
      have d1 : decide (kk < 0) = false := decide_eq_false h1
      have K0 : Hid (0 ≤ kk) := Lib.hid (by omega)
      clear h1
      rcases Nat.eq_zero_or_pos a with rfl | hap
      ·by_cases h3 : x1 < 1
       ·have d3 : decide (x1 < 1) = true := decide_eq_true h3
        have HF : Hid (routeMay p r = false) := Lib.hid (routeMay_false fun h => by have := (ME.out h).2.2.1; omega)
        clear h3
        refine wp_region_held_drew (S := fun v => Below wv.heap.size wv v) (by kernel_rfl) (Below.refl wv.heap.size wv).drew (fun hHeld => ?_)
        refine tk 0 hHeld ?_;refine tkc 1 hHeld (fun w' hSw => cell6_of ((hSw.block _ (heap_lt XA.out)).trans XA.out)) ?_;refine tk 2 hHeld ?_;refine tkc 3 hHeld (fun w' hSw => cell2_of ((hSw.block _ (heap_lt XC.out)).trans XC.out)) ?_
        refine tkr 4 (fun K hK => ?_)
        go_simp
        refine (rpointat_any _ p.pts x0 wv.drew (HPW.out.below joinR (Below.refl wv.heap.size wv).drew)).mono ?_
        rintro e w' ⟨rfl, rfl⟩
        rw [← HKK.out]
        try go_wp2_with fail
        refine hK.out _ _ ?_ fun hHeld => ?_;exact (Below.refl wv.heap.size wv).drew;clear hK K;try simp only [zn, Act.put]
        refine tk 5 hHeld ?_;refine tk 6 hHeld ?_;refine tk 7 hHeld ?_;refine tk 8 hHeld ?_;refine tk 9 hHeld ?_;refine tks 10 hHeld ?_;refine tks 11 hHeld ?_;refine tks 12 hHeld ?_;refine tks 13 hHeld ?_;refine tks 14 hHeld ?_;refine tks 15 hHeld ?_;refine tks 16 hHeld ?_;refine tks 17 hHeld ?_;refine tks 18 hHeld ?_;refine tks 19 hHeld ?_;refine tk 20 hHeld ?_;refine tk 21 hHeld ?_;refine tk 22 hHeld ?_;refine tk 23 hHeld ?_;refine tkc 24 hHeld (fun w' hSw => cell2_of ((hSw.block _ (heap_lt XC.out)).trans XC.out)) ?_;refine tk 25 hHeld ?_;refine tk 26 hHeld ?_;refine tk 27 hHeld ?_;refine tks 28 hHeld ?_;refine tks 29 hHeld ?_;refine tks 30 hHeld ?_;refine tk 31 hHeld ?_
        refine wpAnyH_done (by kernel_rfl) ?_ _
        go_wp2_with fail
        go_ret
        exact ⟨by rw [HF.out]; rfl, BZ.out⟩
       have d3 : decide (x1 < 1) = false := decide_eq_false h3
       by_cases h4 : 2 < x1
       ·have d4 : decide (2 < x1) = true := decide_eq_true h4
        have HF : Hid (routeMay p r = false) := Lib.hid (routeMay_false fun h => by have := (ME.out h).2.2.2; omega)
        clear h3 h4
        refine wp_region_held_drew (S := fun v => Below wv.heap.size wv v) (by kernel_rfl) (Below.refl wv.heap.size wv).drew (fun hHeld => ?_)
        refine tk 0 hHeld ?_;refine tkc 1 hHeld (fun w' hSw => cell6_of ((hSw.block _ (heap_lt XA.out)).trans XA.out)) ?_;refine tk 2 hHeld ?_;refine tkc 3 hHeld (fun w' hSw => cell2_of ((hSw.block _ (heap_lt XC.out)).trans XC.out)) ?_
        refine tkr 4 (fun K hK => ?_)
        go_simp
        refine (rpointat_any _ p.pts x0 wv.drew (HPW.out.below joinR (Below.refl wv.heap.size wv).drew)).mono ?_
        rintro e w' ⟨rfl, rfl⟩
        rw [← HKK.out]
        try go_wp2_with fail
        refine hK.out _ _ ?_ fun hHeld => ?_;exact (Below.refl wv.heap.size wv).drew;clear hK K;try simp only [zn, Act.put]
        refine tk 5 hHeld ?_;refine tk 6 hHeld ?_;refine tk 7 hHeld ?_;refine tk 8 hHeld ?_;refine tk 9 hHeld ?_;refine tks 10 hHeld ?_;refine tks 11 hHeld ?_;refine tks 12 hHeld ?_;refine tks 13 hHeld ?_;refine tks 14 hHeld ?_;refine tks 15 hHeld ?_;refine tks 16 hHeld ?_;refine tks 17 hHeld ?_;refine tks 18 hHeld ?_;refine tks 19 hHeld ?_;refine tk 20 hHeld ?_;refine tk 21 hHeld ?_;refine tk 22 hHeld ?_;refine tk 23 hHeld ?_;refine tkc 24 hHeld (fun w' hSw => cell2_of ((hSw.block _ (heap_lt XC.out)).trans XC.out)) ?_;refine tk 25 hHeld ?_;refine tk 26 hHeld ?_;refine tk 27 hHeld ?_;refine tk 28 hHeld ?_;refine tkc 29 hHeld (fun w' hSw => cell2_of ((hSw.block _ (heap_lt XC.out)).trans XC.out)) ?_;refine tk 30 hHeld ?_;refine tk 31 hHeld ?_
        refine wpAnyH_done (by kernel_rfl) ?_ _
        go_wp2_with fail
        go_ret
        exact ⟨by rw [HF.out]; rfl, BZ.out⟩
       have d4 : decide (2 < x1) = false := decide_eq_false h4
       have NN := Lib.hid (NX.out K0.out (fun j hj => by omega) (by omega) (by omega))
       clear h3 h4
       refine wp_region_held_drew (S := fun v => Below wv.heap.size wv v) (by kernel_rfl) (Below.refl wv.heap.size wv).drew (fun hHeld => ?_)
       refine tk 0 hHeld ?_;refine tkc 1 hHeld (fun w' hSw => cell6_of ((hSw.block _ (heap_lt XA.out)).trans XA.out)) ?_;refine tk 2 hHeld ?_;refine tkc 3 hHeld (fun w' hSw => cell2_of ((hSw.block _ (heap_lt XC.out)).trans XC.out)) ?_
       refine tkr 4 (fun K hK => ?_)
       go_simp
       refine (rpointat_any _ p.pts x0 wv.drew (HPW.out.below joinR (Below.refl wv.heap.size wv).drew)).mono ?_
       rintro e w' ⟨rfl, rfl⟩
       rw [← HKK.out]
       try go_wp2_with fail
       refine hK.out _ _ ?_ fun hHeld => ?_;exact (Below.refl wv.heap.size wv).drew;clear hK K;try simp only [zn, Act.put]
       refine tk 5 hHeld ?_;refine tk 6 hHeld ?_;refine tk 7 hHeld ?_;refine tk 8 hHeld ?_;refine tk 9 hHeld ?_;refine tks 10 hHeld ?_;refine tks 11 hHeld ?_;refine tks 12 hHeld ?_;refine tks 13 hHeld ?_;refine tks 14 hHeld ?_;refine tks 15 hHeld ?_;refine tks 16 hHeld ?_;refine tks 17 hHeld ?_;refine tks 18 hHeld ?_;refine tks 19 hHeld ?_;refine tk 20 hHeld ?_;refine tk 21 hHeld ?_;refine tk 22 hHeld ?_;refine tk 23 hHeld ?_;refine tkc 24 hHeld (fun w' hSw => cell2_of ((hSw.block _ (heap_lt XC.out)).trans XC.out)) ?_;refine tk 25 hHeld ?_;refine tk 26 hHeld ?_;refine tk 27 hHeld ?_;refine tk 28 hHeld ?_;refine tkc 29 hHeld (fun w' hSw => cell2_of ((hSw.block _ (heap_lt XC.out)).trans XC.out)) ?_;refine tk 30 hHeld ?_;refine tk 31 hHeld ?_
       refine wpAnyH_done (by kernel_rfl) ?_ _
       have BD0 : Hid (Below w6.heap.size w6 wv.drew) := Lib.hid BV.out.drew
       generalize wv.drew = wd at BD0 ⊢
       go_wp2_with fail
       go_roundw
       case measure => simp [intOf]; omega
       case rel => exact ⟨0 + 1, by omega, by go_num, NN.out, BD0.out⟩
      ·obtain ⟨y1, hy1⟩ : ∃ z, z = a - 1 := ⟨_, rfl⟩
       have g4 : (a : Int) - 1 = (y1 : Int) := by omega
       have g5 : (y1 : Int) < l5 := by omega
       have g6 : IntKind.i64.wrap (y1 : Int) = (y1 : Int) := wrap_id (by omega) (by omega)
       have hyr : y1 < r.flanks.length := by omega
       obtain ⟨bf', of', e1, hbf', hd0, -⟩ := HFW.out.at hyr
       cases e1
       obtain ⟨pv, hpv⟩ : ∃ pv, pv = r.flanks[y1].1 := ⟨_, rfl⟩
       have LPV : Hid (wv.cell? ⟨bf, of + y1 * 2, none⟩ = some (.int .i64 pv)) := Lib.hid (by rw [hpv]; exact hd0)
       have LBF := Lib.hid hbf'
       have PVE : Hid (∀ j (hj : j + 1 = a), (r.flanks[j]'(Nat.lt_trans (Nat.lt_of_succ_le (Nat.le_of_eq hj)) har)).1 = pv) := Lib.hid (fun j hj => by
        have e : j = y1 := by omega
        subst e
        exact hpv.symm)
       have YA : Hid (y1 + 1 = a) := Lib.hid (by omega)
       clear hd0 hpv hbf' hy1
       by_cases h2 : x0 ≤ pv
       ·have d2 : decide (x0 ≤ pv) = true := decide_eq_true h2
        have HF : Hid (routeMay p r = false) := Lib.hid (routeMay_false fun h => by
         have h5 := (ME.out h).2.1 y1 YA.out
         rw [PVE.out y1 YA.out] at h5
         omega)
        clear h2
        refine wp_region_held_drew (S := fun v => Below wv.heap.size wv v) (by kernel_rfl) (Below.refl wv.heap.size wv).drew (fun hHeld => ?_)
        refine tk 0 hHeld ?_;refine tkc 1 hHeld (fun w' hSw => cell6_of ((hSw.block _ (heap_lt XA.out)).trans XA.out)) ?_;refine tk 2 hHeld ?_;refine tkc 3 hHeld (fun w' hSw => cell2_of ((hSw.block _ (heap_lt XC.out)).trans XC.out)) ?_
        refine tkr 4 (fun K hK => ?_)
        go_simp
        refine (rpointat_any _ p.pts x0 wv.drew (HPW.out.below joinR (Below.refl wv.heap.size wv).drew)).mono ?_
        rintro e w' ⟨rfl, rfl⟩
        rw [← HKK.out]
        try go_wp2_with fail
        refine hK.out _ _ ?_ fun hHeld => ?_;exact (Below.refl wv.heap.size wv).drew;clear hK K;try simp only [zn, Act.put]
        refine tk 5 hHeld ?_;refine tk 6 hHeld ?_;refine tk 7 hHeld ?_;refine tk 8 hHeld ?_;refine tk 9 hHeld ?_;refine tk 10 hHeld ?_;refine tkc 11 hHeld (fun w' hSw => cell7_of ((hSw.block _ (heap_lt XB.out)).trans XB.out)) ?_;refine tk 12 hHeld ?_;refine tk 13 hHeld ?_;refine tk 14 hHeld ?_;refine tk 15 hHeld ?_;refine tkc 16 hHeld (fun w' hSw => (hSw.cell (p := ⟨bf, of + y1 * 2, none⟩) LBF.out).trans LPV.out) ?_;refine tk 17 hHeld ?_;refine tkc 18 hHeld (fun w' hSw => cell2_of ((hSw.block _ (heap_lt XC.out)).trans XC.out)) ?_;refine tk 19 hHeld ?_;refine tk 20 hHeld ?_;refine tk 21 hHeld ?_;refine tk 22 hHeld ?_;refine tks 23 hHeld ?_;refine tks 24 hHeld ?_;refine tks 25 hHeld ?_;refine tk 26 hHeld ?_;refine tk 27 hHeld ?_;refine tks 28 hHeld ?_;refine tks 29 hHeld ?_;refine tks 30 hHeld ?_;refine tk 31 hHeld ?_
        refine wpAnyH_done (by kernel_rfl) ?_ _
        go_wp2_with fail
        go_ret
        exact ⟨by rw [HF.out]; rfl, BZ.out⟩
       have d2 : decide (x0 ≤ pv) = false := decide_eq_false h2
       have PLT : Hid (∀ j (hj : j + 1 = a), (r.flanks[j]'(by omega)).1 < x0) := Lib.hid (fun j hj => by rw [PVE.out j hj]; omega)
       clear h2
       by_cases h3 : x1 < 1
       ·have d3 : decide (x1 < 1) = true := decide_eq_true h3
        have HF : Hid (routeMay p r = false) := Lib.hid (routeMay_false fun h => by have := (ME.out h).2.2.1; omega)
        clear h3
        refine wp_region_held_drew (S := fun v => Below wv.heap.size wv v) (by kernel_rfl) (Below.refl wv.heap.size wv).drew (fun hHeld => ?_)
        refine tk 0 hHeld ?_;refine tkc 1 hHeld (fun w' hSw => cell6_of ((hSw.block _ (heap_lt XA.out)).trans XA.out)) ?_;refine tk 2 hHeld ?_;refine tkc 3 hHeld (fun w' hSw => cell2_of ((hSw.block _ (heap_lt XC.out)).trans XC.out)) ?_
        refine tkr 4 (fun K hK => ?_)
        go_simp
        refine (rpointat_any _ p.pts x0 wv.drew (HPW.out.below joinR (Below.refl wv.heap.size wv).drew)).mono ?_
        rintro e w' ⟨rfl, rfl⟩
        rw [← HKK.out]
        try go_wp2_with fail
        refine hK.out _ _ ?_ fun hHeld => ?_;exact (Below.refl wv.heap.size wv).drew;clear hK K;try simp only [zn, Act.put]
        refine tk 5 hHeld ?_;refine tk 6 hHeld ?_;refine tk 7 hHeld ?_;refine tk 8 hHeld ?_;refine tk 9 hHeld ?_;refine tk 10 hHeld ?_;refine tkc 11 hHeld (fun w' hSw => cell7_of ((hSw.block _ (heap_lt XB.out)).trans XB.out)) ?_;refine tk 12 hHeld ?_;refine tk 13 hHeld ?_;refine tk 14 hHeld ?_;refine tk 15 hHeld ?_;refine tkc 16 hHeld (fun w' hSw => (hSw.cell (p := ⟨bf, of + y1 * 2, none⟩) LBF.out).trans LPV.out) ?_;refine tk 17 hHeld ?_;refine tkc 18 hHeld (fun w' hSw => cell2_of ((hSw.block _ (heap_lt XC.out)).trans XC.out)) ?_;refine tk 19 hHeld ?_;refine tk 20 hHeld ?_;refine tk 21 hHeld ?_;refine tk 22 hHeld ?_;refine tk 23 hHeld ?_;refine tkc 24 hHeld (fun w' hSw => cell2_of ((hSw.block _ (heap_lt XC.out)).trans XC.out)) ?_;refine tk 25 hHeld ?_;refine tk 26 hHeld ?_;refine tk 27 hHeld ?_;refine tks 28 hHeld ?_;refine tks 29 hHeld ?_;refine tks 30 hHeld ?_;refine tk 31 hHeld ?_
        refine wpAnyH_done (by kernel_rfl) ?_ _
        go_wp2_with fail
        go_ret
        exact ⟨by rw [HF.out]; rfl, BZ.out⟩
       have d3 : decide (x1 < 1) = false := decide_eq_false h3
       by_cases h4 : 2 < x1
       ·have d4 : decide (2 < x1) = true := decide_eq_true h4
        have HF : Hid (routeMay p r = false) := Lib.hid (routeMay_false fun h => by have := (ME.out h).2.2.2; omega)
        clear h3 h4
        refine wp_region_held_drew (S := fun v => Below wv.heap.size wv v) (by kernel_rfl) (Below.refl wv.heap.size wv).drew (fun hHeld => ?_)
        refine tk 0 hHeld ?_;refine tkc 1 hHeld (fun w' hSw => cell6_of ((hSw.block _ (heap_lt XA.out)).trans XA.out)) ?_;refine tk 2 hHeld ?_;refine tkc 3 hHeld (fun w' hSw => cell2_of ((hSw.block _ (heap_lt XC.out)).trans XC.out)) ?_
        refine tkr 4 (fun K hK => ?_)
        go_simp
        refine (rpointat_any _ p.pts x0 wv.drew (HPW.out.below joinR (Below.refl wv.heap.size wv).drew)).mono ?_
        rintro e w' ⟨rfl, rfl⟩
        rw [← HKK.out]
        try go_wp2_with fail
        refine hK.out _ _ ?_ fun hHeld => ?_;exact (Below.refl wv.heap.size wv).drew;clear hK K;try simp only [zn, Act.put]
        refine tk 5 hHeld ?_;refine tk 6 hHeld ?_;refine tk 7 hHeld ?_;refine tk 8 hHeld ?_;refine tk 9 hHeld ?_;refine tk 10 hHeld ?_;refine tkc 11 hHeld (fun w' hSw => cell7_of ((hSw.block _ (heap_lt XB.out)).trans XB.out)) ?_;refine tk 12 hHeld ?_;refine tk 13 hHeld ?_;refine tk 14 hHeld ?_;refine tk 15 hHeld ?_;refine tkc 16 hHeld (fun w' hSw => (hSw.cell (p := ⟨bf, of + y1 * 2, none⟩) LBF.out).trans LPV.out) ?_;refine tk 17 hHeld ?_;refine tkc 18 hHeld (fun w' hSw => cell2_of ((hSw.block _ (heap_lt XC.out)).trans XC.out)) ?_;refine tk 19 hHeld ?_;refine tk 20 hHeld ?_;refine tk 21 hHeld ?_;refine tk 22 hHeld ?_;refine tk 23 hHeld ?_;refine tkc 24 hHeld (fun w' hSw => cell2_of ((hSw.block _ (heap_lt XC.out)).trans XC.out)) ?_;refine tk 25 hHeld ?_;refine tk 26 hHeld ?_;refine tk 27 hHeld ?_;refine tk 28 hHeld ?_;refine tkc 29 hHeld (fun w' hSw => cell2_of ((hSw.block _ (heap_lt XC.out)).trans XC.out)) ?_;refine tk 30 hHeld ?_;refine tk 31 hHeld ?_
        refine wpAnyH_done (by kernel_rfl) ?_ _
        go_wp2_with fail
        go_ret
        exact ⟨by rw [HF.out]; rfl, BZ.out⟩
       have d4 : decide (2 < x1) = false := decide_eq_false h4
       have NN := Lib.hid (NX.out K0.out PLT.out (by omega) (by omega))
       clear h3 h4
       refine wp_region_held_drew (S := fun v => Below wv.heap.size wv v) (by kernel_rfl) (Below.refl wv.heap.size wv).drew (fun hHeld => ?_)
       refine tk 0 hHeld ?_;refine tkc 1 hHeld (fun w' hSw => cell6_of ((hSw.block _ (heap_lt XA.out)).trans XA.out)) ?_;refine tk 2 hHeld ?_;refine tkc 3 hHeld (fun w' hSw => cell2_of ((hSw.block _ (heap_lt XC.out)).trans XC.out)) ?_
       refine tkr 4 (fun K hK => ?_)
       go_simp
       refine (rpointat_any _ p.pts x0 wv.drew (HPW.out.below joinR (Below.refl wv.heap.size wv).drew)).mono ?_
       rintro e w' ⟨rfl, rfl⟩
       rw [← HKK.out]
       try go_wp2_with fail
       refine hK.out _ _ ?_ fun hHeld => ?_;exact (Below.refl wv.heap.size wv).drew;clear hK K;try simp only [zn, Act.put]
       refine tk 5 hHeld ?_;refine tk 6 hHeld ?_;refine tk 7 hHeld ?_;refine tk 8 hHeld ?_;refine tk 9 hHeld ?_;refine tk 10 hHeld ?_;refine tkc 11 hHeld (fun w' hSw => cell7_of ((hSw.block _ (heap_lt XB.out)).trans XB.out)) ?_;refine tk 12 hHeld ?_;refine tk 13 hHeld ?_;refine tk 14 hHeld ?_;refine tk 15 hHeld ?_;refine tkc 16 hHeld (fun w' hSw => (hSw.cell (p := ⟨bf, of + y1 * 2, none⟩) LBF.out).trans LPV.out) ?_;refine tk 17 hHeld ?_;refine tkc 18 hHeld (fun w' hSw => cell2_of ((hSw.block _ (heap_lt XC.out)).trans XC.out)) ?_;refine tk 19 hHeld ?_;refine tk 20 hHeld ?_;refine tk 21 hHeld ?_;refine tk 22 hHeld ?_;refine tk 23 hHeld ?_;refine tkc 24 hHeld (fun w' hSw => cell2_of ((hSw.block _ (heap_lt XC.out)).trans XC.out)) ?_;refine tk 25 hHeld ?_;refine tk 26 hHeld ?_;refine tk 27 hHeld ?_;refine tk 28 hHeld ?_;refine tkc 29 hHeld (fun w' hSw => cell2_of ((hSw.block _ (heap_lt XC.out)).trans XC.out)) ?_;refine tk 30 hHeld ?_;refine tk 31 hHeld ?_
       refine wpAnyH_done (by kernel_rfl) ?_ _
       have BD0 : Hid (Below w6.heap.size w6 wv.drew) := Lib.hid BV.out.drew
       generalize wv.drew = wd at BD0 ⊢
       go_wp2_with fail
       go_roundw
       case measure => simp [intOf]; omega
       case rel => exact ⟨a + 1, by omega, by go_num, NN.out, BD0.out⟩
     ·obtain rfl : a = l5 := by omega
      have hlt2 : ¬ (a : Int) < a := by omega
      have HR : Hid (routeMay p r = true) := Lib.hid (routeMay_true (by
       have hA := ALL.out
       rw [HLL.out] at hA
       exact ⟨⟨k, hkr, HKE.out.symm, fun i h => (hA i h).1.1⟩, EX1.out.1, EX1.out.2, PARTS.out.1, PARTS.out.2.1, PARTS.out.2.2.1, PARTS.out.2.2.2, fun i h => ⟨(hA i h).1.2, (hA i h).2⟩, fun i h => HALL.out i (by have := HN.out; omega) h⟩))
      have BY : Hid (Below w.heap.size w wr) := Lib.hid (B6.out.trans (BW.out.mono B6.out.size))
      go_wp2_with fail
      go_ret
      exact ⟨by rw [HR.out]; rfl, BY.out⟩
end Go.Proofs.YtneeocnjfnneoaaGreat
