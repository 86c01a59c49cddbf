/-
 The document's own function May of package plan.
 Conditions: none.
-/
import Derived.Test.YtneeocnjfnneoaaGreatQPlnRefF
set_option linter.unusedVariables false
set_option linter.unusedSimpArgs false
set_option maxRecDepth 100000
namespace Go.Proofs.YtneeocnjfnneoaaGreat
open Go.RowKit
/-- A plan may be. -/
structure PlanMay (p : Pl) : Prop where
 ver : 1 ≤ p.ver ∧ p.ver ≤ 2147483647
 par : 0 ≤ p.par ∧ p.par < p.ver
 n : p.routes.length ≤ 16
 secs : TMay p.secs
 pts : PtsMay p
 sigs : SigsMay p
 each : ∀ i (h : i < p.routes.length), (1 ≤ p.routes[i].id ∧ p.routes[i].id ≤ 99) ∧ (∀ j (hj : j + 1 = i), (p.routes[j]'(Nat.lt_trans (Nat.lt_of_succ_le (Nat.le_of_eq hj)) h)).id < p.routes[i].id) ∧ RouteMay p p.routes[i]
noncomputable def planMay (p : Pl) : Bool := @decide (PlanMay p) (Classical.propDecidable _)
theorem planMay_true {p : Pl} (h : PlanMay p) : planMay p = true := by rw [planMay]; exact @decide_eq_true _ (Classical.propDecidable _) h
theorem planMay_false {p : Pl} (h : ¬ PlanMay p) : planMay p = false := by rw [planMay]; exact @decide_eq_false _ (Classical.propDecidable _) h
theorem planMay_iff {p : Pl} : planMay p = true ↔ PlanMay p := by rw [planMay]; exact @decide_eq_true_iff _ (Classical.propDecidable _)

set_option maxHeartbeats 16000000 in
theorem rmay8_any (v : Value) (p : Pl) (w : World) (h : PlanV w w.heap.size v p) :
  Calls Tryz.prog 40 #[v] w fun e w' => e = .returned (.bool (planMay p)) ∧ Below w.heap.size w w' := by
 obtain ⟨y2, y3, y4, y5, rfl, hin⟩ := h
 have HIN0 := Lib.hid hin
 obtain ⟨A2, c2, rfl, hcl2, hcm2⟩ := hin.secs.slice
 obtain ⟨A3, c3, rfl, hcl3, hcm3⟩ := hin.pts.slice
 obtain ⟨A4, c4, rfl, hcl4, hcm4⟩ := hin.sigs.slice
 obtain ⟨A5, c5, rfl, hcl5, hcm5⟩ := hin.routes.slice
 unfold maxLen at hcm5
 obtain ⟨n2, hn2⟩ : ∃ n, n = p.secs.length := ⟨_, rfl⟩
 obtain ⟨n3, hn3⟩ : ∃ n, n = p.pts.length := ⟨_, rfl⟩
 obtain ⟨n4, hn4⟩ : ∃ n, n = p.sigs.length := ⟨_, rfl⟩
 obtain ⟨n5, hn5⟩ : ∃ n, n = p.routes.length := ⟨_, rfl⟩
 have hm5 : n5 ≤ 9223372036854775807 := by omega
 have HIN : Hid (PlIn w w.heap.size (.slice A2 n2 c2) (.slice A3 n3 c3) (.slice A4 n4 c4) (.slice A5 n5 c5) p) := Lib.hid (by rw [hn2, hn3, hn4, hn5]; exact HIN0.out)
 have HN5 := Lib.hid hn5
 rw [← hn2, ← hn3, ← hn4, ← hn5]
 have hq0 := heap_alloc_self w (.cells #[.int .i64 p.ver, .int .i64 p.par, .slice A2 n2 c2, .slice A3 n3 c3, .slice A4 n4 c4, .slice A5 n5 c5] 33)
 have hqb := below_new w (.cells #[.int .i64 p.ver, .int .i64 p.par, .slice A2 n2 c2, .slice A3 n3 c3, .slice A4 n4 c4, .slice A5 n5 c5] 33)
 clear hn2 hn3 hn4 hn5 HIN0 hcl2 hcm2 hcl3 hcm3 hcl4 hcm4 hcl5 hcm5 hin
 go_enter Tryz.func40, Tryz.ntmps40
 go_upto_region 1 with fail
 generalize w.alloc (.cells #[.int .i64 p.ver, .int .i64 p.par, .slice A2 n2 c2, .slice A3 n3 c3, .slice A4 n4 c4, .slice A5 n5 c5] 33) = q at hq0 hqb ⊢
 have BZ := Lib.hid hqb
 have QB := Lib.hid hqb
 have XQ := Lib.hid hq0
 have HINQ := Lib.hid ((HIN.out.below hqb).more hqb.size)
 obtain ⟨k0, k1, k2, k3, k4, k5⟩ := cell6_of hq0
 clear hq0 hqb
 by_cases h1 : p.ver < 1
 ·have d1 : decide (p.ver < 1) = true := decide_eq_true h1
  have HF : Hid (planMay p = false) := Lib.hid (planMay_false fun h => by have := h.ver; omega)
  clear h1
  go_wp2_with fail
  go_ret
  exact ⟨by rw [HF.out]; rfl, BZ.out⟩
 have d1 : decide (p.ver < 1) = false := decide_eq_false h1
 by_cases h2 : 2147483647 < p.ver
 ·have d2 : decide (2147483647 < p.ver) = true := decide_eq_true h2
  have HF : Hid (planMay p = false) := Lib.hid (planMay_false fun h => by have := h.ver; omega)
  clear h1 h2
  go_wp2_with fail
  go_ret
  exact ⟨by rw [HF.out]; rfl, BZ.out⟩
 have d2 : decide (2147483647 < p.ver) = false := decide_eq_false h2
 by_cases h3 : p.par < 0
 ·have d3 : decide (p.par < 0) = true := decide_eq_true h3
  have HF : Hid (planMay p = false) := Lib.hid (planMay_false fun h => by have := h.par; omega)
  clear h1 h2 h3
  go_wp2_with fail
  go_ret
  exact ⟨by rw [HF.out]; rfl, BZ.out⟩
 have d3 : decide (p.par < 0) = false := decide_eq_false h3
 by_cases h4 : p.ver ≤ p.par
 ·have d4 : decide (p.ver ≤ p.par) = true := decide_eq_true h4
  have HF : Hid (planMay p = false) := Lib.hid (planMay_false fun h => by have := h.par; omega)
  clear h1 h2 h3 h4
  go_wp2_with fail
  go_ret
  exact ⟨by rw [HF.out]; rfl, BZ.out⟩
 have d4 : decide (p.ver ≤ p.par) = false := decide_eq_false h4
 by_cases h5 : 16 < n5
 ·have d5 : decide ((16 : Int) < n5) = true := decide_eq_true (by omega)
  have HF : Hid (planMay p = false) := Lib.hid (planMay_false fun h => by have := h.n; have := HN5.out; omega)
  clear h1 h2 h3 h4 h5
  go_wp2_with fail
  go_ret
  exact ⟨by rw [HF.out]; rfl, BZ.out⟩
 have d5 : decide ((16 : Int) < n5) = false := decide_eq_false (by omega)
 have NUMS : Hid ((1 ≤ p.ver ∧ p.ver ≤ 2147483647) ∧ (0 ≤ p.par ∧ p.par < p.ver) ∧ p.routes.length ≤ 16) := Lib.hid (by have := HN5.out; omega)
 clear h1 h2 h3 h4 h5
 go_wp2_with fail
 refine (rmay7_any _ p.secs q HINQ.out.secs).mono ?_
 rintro e w1 ⟨rfl, b1⟩
 have B1 := Lib.hid (QB.out.trans (b1.mono QB.out.size))
 have X1 := Lib.hid ((b1.block _ (heap_lt XQ.out)).trans XQ.out)
 clear b1 k0 k1 k2 k3 k4 k5 d1 d2 d3 d4 d5 BZ
 obtain ⟨k0, k1, k2, k3, k4, k5⟩ := cell6_of X1.out
 have PL1 : Hid (PlanV w1 w1.heap.size (.agg #[.int .i64 p.ver, .int .i64 p.par, .slice A2 n2 c2, .slice A3 n3 c3, .slice A4 n4 c4, .slice A5 n5 c5]) p) := Lib.hid ⟨_, _, _, _, rfl, (HIN.out.below B1.out).more B1.out.size⟩
 cases hs : mayT p.secs with
 | false =>
  have HF : Hid (planMay p = false) := Lib.hid (planMay_false fun h => by rw [mayT_true h.secs] at hs; cases hs)
  have BZ := B1
  clear hs
  go_wp2_with fail
  go_ret
  exact ⟨by rw [HF.out]; rfl, BZ.out⟩
 | true =>
  have TS := Lib.hid (mayT_iff.1 hs)
  clear hs
  go_wp2_with fail
  refine (rpoints_any _ p w1 PL1.out).mono ?_
  rintro e w2 ⟨rfl, b2⟩
  have B2 := Lib.hid (B1.out.trans (b2.mono B1.out.size))
  have X2 := Lib.hid ((b2.block _ (heap_lt X1.out)).trans X1.out)
  clear b2 k0 k1 k2 k3 k4 k5
  obtain ⟨k0, k1, k2, k3, k4, k5⟩ := cell6_of X2.out
  have PL2 : Hid (PlanV w2 w2.heap.size (.agg #[.int .i64 p.ver, .int .i64 p.par, .slice A2 n2 c2, .slice A3 n3 c3, .slice A4 n4 c4, .slice A5 n5 c5]) p) := Lib.hid ⟨_, _, _, _, rfl, (HIN.out.below B2.out).more B2.out.size⟩
  cases hp : ptsMay p with
  | false =>
   have HF : Hid (planMay p = false) := Lib.hid (planMay_false fun h => by rw [ptsMay_true h.pts] at hp; cases hp)
   have BZ := B2
   clear hp
   go_wp2_with fail
   go_ret
   exact ⟨by rw [HF.out]; rfl, BZ.out⟩
  | true =>
   have TP := Lib.hid (ptsMay_iff.1 hp)
   clear hp
   go_wp2_with fail
   refine (rsignals_any _ p w2 PL2.out).mono ?_
   rintro e w3 ⟨rfl, b3⟩
   have B3 := Lib.hid (B2.out.trans (b3.mono B2.out.size))
   have X3 := Lib.hid ((b3.block _ (heap_lt X2.out)).trans X2.out)
   clear b3 k0 k1 k2 k3 k4 k5
   cases hg : sigsMay p with
   | false =>
    have HF : Hid (planMay p = false) := Lib.hid (planMay_false fun h => by rw [sigsMay_true h.sigs] at hg; cases hg)
    have BZ := B3
    clear hg
    go_wp2_with fail
    go_ret
    exact ⟨by rw [HF.out]; rfl, BZ.out⟩
   | true =>
    have TG := Lib.hid (sigsMay_iff.1 hg)
    clear hg
    go_wp2_with fail
    go_loopw [3] (fun s3 wr => ∃ a : Nat, a ≤ n5 ∧ s3 = .int .i64 a ∧ (∀ i (hi : i < a) (h : i < p.routes.length), (1 ≤ p.routes[i].id ∧ p.routes[i].id ≤ 99) ∧ (∀ j (hj : j + 1 = i), (p.routes[j]'(Nat.lt_trans (Nat.lt_of_succ_le (Nat.le_of_eq hj)) h)).id < p.routes[i].id) ∧ RouteMay p p.routes[i]) ∧ wr.heap[w.heap.size]? = some (.cells #[.int .i64 p.ver, .int .i64 p.par, .slice A2 n2 c2, .slice A3 n3 c3, .slice A4 n4 c4, .slice A5 n5 c5] 33 (0, 0)) ∧ Below w.heap.size w wr) (fun s3 _ => n5 - (intOf s3).toNat)
    case atStart => exact ⟨0, by omega, by go_num, fun i hi => absurd hi (by omega), X3.out, B3.out⟩
    case round =>
     obtain ⟨a, ha, rfl, hall, hx, hbw⟩ := hrel
     have HALL := Lib.hid hall
     have XW := Lib.hid hx
     have BW := Lib.hid hbw
     clear hall hx hbw B1 B2 B3 X1 X2 X3 PL1 PL2 QB XQ HINQ
     obtain ⟨k0, k1, k2, k3, k4, k5⟩ := cell6_of XW.out
     by_cases hlt : a < n5
     ·have hlt2 : (a : Int) < n5 := by omega
      have har : a < p.routes.length := by rw [← HN5.out]; exact hlt
      obtain ⟨bf, of, rfl, hbf, hc0, hc1, hc2, hc6, u3, u4, u5, hc3, hc4, hc5, hr⟩ := ((HIN.out.routes.below routeR BW.out).more routeR BW.out.size).at har
      obtain ⟨R, hR⟩ : ∃ R, R = p.routes[a] := ⟨_, rfl⟩
      have HR := Lib.hid hR
      rw [← hR] at hc0 hc1 hc2 hc6 hr
      obtain ⟨C3, e3, rfl, -, -⟩ := hr.path.slice
      obtain ⟨C4, e4, rfl, -, -⟩ := hr.over.slice
      obtain ⟨C5, e5, rfl, -, -⟩ := hr.flanks.slice
      obtain ⟨l3, hl3⟩ : ∃ n, n = R.path.length := ⟨_, rfl⟩
      obtain ⟨l4, hl4⟩ : ∃ n, n = R.over.length := ⟨_, rfl⟩
      obtain ⟨l5, hl5⟩ : ∃ n, n = R.flanks.length := ⟨_, rfl⟩
      rw [← hl3] at hc3
      rw [← hl4] at hc4
      rw [← hl5] at hc5
      have hr' : RtIn wr wr.heap.size (.slice C3 l3 e3) (.slice C4 l4 e4) (.slice C5 l5 e5) R := by rw [hl3, hl4, hl5]; exact hr
      have hg0 : wr.cell? ⟨bf, of + a * 7, none⟩ = some (.int .i64 R.id) := hc0
      have hg1 : wr.cell? ⟨bf, of + a * 7 + 1, none⟩ = some (.int .i64 R.entry) := hc1
      have hg2 : wr.cell? ⟨bf, of + a * 7 + 2, none⟩ = some (.int .i64 R.exit) := hc2
      have hg3 : wr.cell? ⟨bf, of + a * 7 + 3, none⟩ = some (.slice C3 l3 e3) := hc3
      have hg4 : wr.cell? ⟨bf, of + a * 7 + 4, none⟩ = some (.slice C4 l4 e4) := hc4
      have hg5 : wr.cell? ⟨bf, of + a * 7 + 5, none⟩ = some (.slice C5 l5 e5) := hc5
      have hg6 : wr.cell? ⟨bf, of + a * 7 + 6, none⟩ = some (.int .i64 R.timer) := hc6
      have hz0 := heap_alloc_self wr (.cells #[.int .i64 R.id, .int .i64 R.entry, .int .i64 R.exit, .slice C3 l3 e3, .slice C4 l4 e4, .slice C5 l5 e5, .int .i64 R.timer] 54)
      have hzb := below_new wr (.cells #[.int .i64 R.id, .int .i64 R.entry, .int .i64 R.exit, .slice C3 l3 e3, .slice C4 l4 e4, .slice C5 l5 e5, .int .i64 R.timer] 54)
      have hrv : RouteV wr wr.heap.size (.agg #[.int .i64 R.id, .int .i64 R.entry, .int .i64 R.exit, .slice C3 l3 e3, .slice C4 l4 e4, .slice C5 l5 e5, .int .i64 R.timer]) R := ⟨_, _, _, rfl, hr'⟩
      obtain ⟨wv, hwv⟩ : ∃ wv, wv = wr.alloc (.cells #[.int .i64 R.id, .int .i64 R.entry, .int .i64 R.exit, .slice C3 l3 e3, .slice C4 l4 e4, .slice C5 l5 e5, .int .i64 R.timer] 54) := ⟨_, rfl⟩
      rw [← hwv] at hz0 hzb
      clear hc0 hc1 hc2 hc3 hc4 hc5 hc6 hr hbf hR hl3 hl4 hl5 hr'
      go_upto_region 9 with fail
      rw [← hwv]
      have BV := Lib.hid (BW.out.trans (hzb.mono BW.out.size))
      have XC := Lib.hid hz0
      have XA := Lib.hid ((hzb.block _ (heap_lt XW.out)).trans XW.out)
      have HRV := Lib.hid ((hrv.below hzb).more hzb.size)
      have HPL : Hid (PlanV wv wv.heap.size (.agg #[.int .i64 p.ver, .int .i64 p.par, .slice A2 n2 c2, .slice A3 n3 c3, .slice A4 n4 c4, .slice (some ⟨bf, of, none⟩) n5 c5]) p) := Lib.hid ⟨_, _, _, _, rfl, (HIN.out.below BV.out).more BV.out.size⟩
      generalize wr.heap.size = p4 at XC ⊢
      clear hz0 hzb hwv hrv hg0 hg1 hg2 hg3 hg4 hg5 hg6 k0 k1 k2 k3 k4 k5 BW XW
      have BZ : Hid (Below w.heap.size w wv.drew) := Lib.hid BV.out.drew
      have ME : Hid (PlanMay p → (1 ≤ R.id ∧ R.id ≤ 99) ∧ (∀ j (hj : j + 1 = a), (p.routes[j]'(Nat.lt_trans (Nat.lt_of_succ_le (Nat.le_of_eq hj)) har)).id < R.id) ∧ RouteMay p R) := Lib.hid (fun h => by rw [HR.out]; exact h.each a har)
      have NX : Hid ((1 ≤ R.id ∧ R.id ≤ 99) → (∀ j (hj : j + 1 = a), (p.routes[j]'(Nat.lt_trans (Nat.lt_of_succ_le (Nat.le_of_eq hj)) har)).id < R.id) → RouteMay p R → ∀ i (hi : i < a + 1) (h : i < p.routes.length), (1 ≤ p.routes[i].id ∧ p.routes[i].id ≤ 99) ∧ (∀ j (hj : j + 1 = i), (p.routes[j]'(Nat.lt_trans (Nat.lt_of_succ_le (Nat.le_of_eq hj)) h)).id < p.routes[i].id) ∧ RouteMay p p.routes[i]) := Lib.hid (fun h1 h2 h3 i hi h => by
       rcases Nat.lt_or_ge i a with h4 | h4
       ·exact HALL.out i h4 h
       ·obtain rfl : i = a := by omega
        rw [← HR.out]
        exact ⟨h1, h2, h3⟩)
      by_cases h1 : R.id < 1
      ·have d1 : decide (R.id < 1) = true := decide_eq_true h1
       have HF : Hid (planMay p = false) := Lib.hid (planMay_false fun h => by have := (ME.out h).1; omega)
       clear h1
       refine wp_region_held_drew (S := fun v => Below wv.heap.size wv v) (by kernel_rfl) (Below.refl wv.heap.size wv).drew (fun hHeld => ?_)
       refine tk 0 hHeld ?_;refine tkc 1 hHeld (fun w' hSw => cell7_of ((hSw.block _ (heap_lt XC.out)).trans XC.out)) ?_;refine tk 2 hHeld ?_;refine tk 3 hHeld ?_;refine tks 4 hHeld ?_;refine tks 5 hHeld ?_;refine tks 6 hHeld ?_;refine tk 7 hHeld ?_;refine tk 8 hHeld ?_;refine tks 9 hHeld ?_;refine tks 10 hHeld ?_;refine tks 11 hHeld ?_;refine tks 12 hHeld ?_;refine tks 13 hHeld ?_;refine tks 14 hHeld ?_;refine tks 15 hHeld ?_;refine tks 16 hHeld ?_;refine tks 17 hHeld ?_;refine tks 18 hHeld ?_;refine tks 19 hHeld ?_;refine tks 20 hHeld ?_;refine tks 21 hHeld ?_;refine tks 22 hHeld ?_;refine tk 23 hHeld ?_;refine tk 24 hHeld ?_;refine tks 25 hHeld ?_;refine tks 26 hHeld ?_;refine tks 27 hHeld ?_;refine tks 28 hHeld ?_;refine tk 29 hHeld ?_
       refine wpAnyH_done (by kernel_rfl) ?_ _
       go_wp2_with fail
       go_ret
       exact ⟨by rw [HF.out]; rfl, BZ.out⟩
      have d1 : decide (R.id < 1) = false := decide_eq_false h1
      by_cases h2 : 99 < R.id
      ·have d2 : decide (99 < R.id) = true := decide_eq_true h2
       have HF : Hid (planMay p = false) := Lib.hid (planMay_false fun h => by have := (ME.out h).1; omega)
       clear h1 h2
       refine wp_region_held_drew (S := fun v => Below wv.heap.size wv v) (by kernel_rfl) (Below.refl wv.heap.size wv).drew (fun hHeld => ?_)
       refine tk 0 hHeld ?_;refine tkc 1 hHeld (fun w' hSw => cell7_of ((hSw.block _ (heap_lt XC.out)).trans XC.out)) ?_;refine tk 2 hHeld ?_;refine tk 3 hHeld ?_;refine tk 4 hHeld ?_;refine tkc 5 hHeld (fun w' hSw => cell7_of ((hSw.block _ (heap_lt XC.out)).trans XC.out)) ?_;refine tk 6 hHeld ?_;refine tk 7 hHeld ?_;refine tk 8 hHeld ?_;refine tks 9 hHeld ?_;refine tks 10 hHeld ?_;refine tks 11 hHeld ?_;refine tks 12 hHeld ?_;refine tks 13 hHeld ?_;refine tks 14 hHeld ?_;refine tks 15 hHeld ?_;refine tks 16 hHeld ?_;refine tks 17 hHeld ?_;refine tks 18 hHeld ?_;refine tks 19 hHeld ?_;refine tks 20 hHeld ?_;refine tks 21 hHeld ?_;refine tks 22 hHeld ?_;refine tk 23 hHeld ?_;refine tk 24 hHeld ?_;refine tks 25 hHeld ?_;refine tks 26 hHeld ?_;refine tks 27 hHeld ?_;refine tks 28 hHeld ?_;refine tk 29 hHeld ?_
       refine wpAnyH_done (by kernel_rfl) ?_ _
       go_wp2_with fail
       go_ret
       exact ⟨by rw [HF.out]; rfl, BZ.out⟩
      have d2 : decide (99 < R.id) = false := decide_eq_false h2
      have I12 : Hid (1 ≤ R.id ∧ R.id ≤ 99) := Lib.hid (by omega)
      clear h1 h2
      rcases Nat.eq_zero_or_pos a with rfl | hap
      ·cases hrm : routeMay p R with
       | false =>
        have HF : Hid (planMay p = false) := Lib.hid (planMay_false fun h => by rw [routeMay_true (ME.out h).2.2] at hrm; cases hrm)
        refine wp_region_held_drew (S := fun v => Below wv.heap.size wv v) (by kernel_rfl) (Below.refl wv.heap.size wv).drew (fun hHeld => ?_)
        refine tk 0 hHeld ?_;refine tkc 1 hHeld (fun w' hSw => cell7_of ((hSw.block _ (heap_lt XC.out)).trans XC.out)) ?_;refine tk 2 hHeld ?_;refine tk 3 hHeld ?_;refine tk 4 hHeld ?_;refine tkc 5 hHeld (fun w' hSw => cell7_of ((hSw.block _ (heap_lt XC.out)).trans XC.out)) ?_;refine tk 6 hHeld ?_;refine tk 7 hHeld ?_;refine tk 8 hHeld ?_;refine tk 9 hHeld ?_;refine tk 10 hHeld ?_;refine tk 11 hHeld ?_;refine tks 12 hHeld ?_;refine tks 13 hHeld ?_;refine tks 14 hHeld ?_;refine tks 15 hHeld ?_;refine tks 16 hHeld ?_;refine tks 17 hHeld ?_;refine tks 18 hHeld ?_;refine tks 19 hHeld ?_;refine tks 20 hHeld ?_;refine tks 21 hHeld ?_;refine tk 22 hHeld ?_;refine tk 23 hHeld ?_;refine tk 24 hHeld ?_;refine tkc 25 hHeld (fun w' hSw => cell6_of ((hSw.block _ (heap_lt XA.out)).trans XA.out)) ?_;refine tkc 26 hHeld (fun w' hSw => cell7_of ((hSw.block _ (heap_lt XC.out)).trans XC.out)) ?_
        refine tkr 27 (fun K hK => ?_)
        go_simp
        refine (rroute_any _ _ p R wv.drew (HPL.out.below (Below.refl wv.heap.size wv).drew) (HRV.out.below (Below.refl wv.heap.size wv).drew)).mono ?_
        rintro e w5 ⟨rfl, b5⟩
        rw [hrm]
        have B5 : Hid (Below wv.heap.size wv w5) := Lib.hid ((Below.refl wv.heap.size wv).drew.trans b5)
        clear b5
        try go_wp2_with fail
        refine hK.out _ _ ?_ fun hHeld => ?_;exact B5.out;clear hK K;try simp only [zn, Act.put]
        refine tk 28 hHeld ?_;refine tk 29 hHeld ?_
        refine wpAnyH_done (by kernel_rfl) ?_ _
        have BY : Hid (Below w.heap.size w w5) := Lib.hid (BV.out.trans (B5.out.mono BV.out.size))
        go_wp2_with fail
        go_ret
        exact ⟨by rw [HF.out]; rfl, BY.out⟩
       | true =>
        have NN := Lib.hid (NX.out I12.out (fun j hj => by omega) (routeMay_iff.1 hrm))
        refine wp_region_held_drew (S := fun v => Below wv.heap.size wv v) (by kernel_rfl) (Below.refl wv.heap.size wv).drew (fun hHeld => ?_)
        refine tk 0 hHeld ?_;refine tkc 1 hHeld (fun w' hSw => cell7_of ((hSw.block _ (heap_lt XC.out)).trans XC.out)) ?_;refine tk 2 hHeld ?_;refine tk 3 hHeld ?_;refine tk 4 hHeld ?_;refine tkc 5 hHeld (fun w' hSw => cell7_of ((hSw.block _ (heap_lt XC.out)).trans XC.out)) ?_;refine tk 6 hHeld ?_;refine tk 7 hHeld ?_;refine tk 8 hHeld ?_;refine tk 9 hHeld ?_;refine tk 10 hHeld ?_;refine tk 11 hHeld ?_;refine tks 12 hHeld ?_;refine tks 13 hHeld ?_;refine tks 14 hHeld ?_;refine tks 15 hHeld ?_;refine tks 16 hHeld ?_;refine tks 17 hHeld ?_;refine tks 18 hHeld ?_;refine tks 19 hHeld ?_;refine tks 20 hHeld ?_;refine tks 21 hHeld ?_;refine tk 22 hHeld ?_;refine tk 23 hHeld ?_;refine tk 24 hHeld ?_;refine tkc 25 hHeld (fun w' hSw => cell6_of ((hSw.block _ (heap_lt XA.out)).trans XA.out)) ?_;refine tkc 26 hHeld (fun w' hSw => cell7_of ((hSw.block _ (heap_lt XC.out)).trans XC.out)) ?_
        refine tkr 27 (fun K hK => ?_)
        go_simp
        refine (rroute_any _ _ p R wv.drew (HPL.out.below (Below.refl wv.heap.size wv).drew) (HRV.out.below (Below.refl wv.heap.size wv).drew)).mono ?_
        rintro e w5 ⟨rfl, b5⟩
        rw [hrm]
        have B5 : Hid (Below wv.heap.size wv w5) := Lib.hid ((Below.refl wv.heap.size wv).drew.trans b5)
        clear b5
        try go_wp2_with fail
        refine hK.out _ _ ?_ fun hHeld => ?_;exact B5.out;clear hK K;try simp only [zn, Act.put]
        refine tk 28 hHeld ?_;refine tk 29 hHeld ?_
        refine wpAnyH_done (by kernel_rfl) ?_ _
        have BY : Hid (Below w.heap.size w w5) := Lib.hid (BV.out.trans (B5.out.mono BV.out.size))
        have X5 := Lib.hid ((B5.out.block _ (heap_lt XA.out)).trans XA.out)
        go_wp2_with fail
        go_roundw
        case measure => simp [intOf]; omega
        case rel => exact ⟨0 + 1, by omega, by go_num, NN.out, X5.out, BY.out⟩
      ·obtain ⟨y1, hy1⟩ : ∃ z, z = a - 1 := ⟨_, rfl⟩
       have g4 : (a : Int) - 1 = (y1 : Int) := by omega
       have g5 : (y1 : Int) < n5 := by omega
       have g6 : IntKind.i64.wrap (y1 : Int) = (y1 : Int) := wrap_id (by omega) (by omega)
       have hyr : y1 < p.routes.length := by omega
       have YA : Hid (y1 + 1 = a) := Lib.hid (by omega)
       clear hy1
       obtain ⟨bf', of', e1, hbf', hd0, -⟩ := ((HIN.out.routes.below routeR BV.out).more routeR BV.out.size).at hyr
       cases e1
       obtain ⟨pv, hpv⟩ : ∃ pv, pv = p.routes[y1].id := ⟨_, rfl⟩
       have LPV : Hid (wv.cell? ⟨bf, of + y1 * 7, none⟩ = some (.int .i64 pv)) := Lib.hid (by rw [hpv]; exact hd0)
       have LBF := Lib.hid hbf'
       have PVE : Hid (∀ j (hj : j + 1 = a), (p.routes[j]'(Nat.lt_trans (Nat.lt_of_succ_le (Nat.le_of_eq hj)) har)).id = pv) := Lib.hid (fun j hj => by
        have e : j = y1 := by have := YA.out; omega
        subst e
        exact hpv.symm)
       clear hd0 hpv hbf'
       by_cases h2 : R.id ≤ pv
       ·have d3 : decide (R.id ≤ pv) = true := decide_eq_true h2
        have HF : Hid (planMay p = false) := Lib.hid (planMay_false fun h => by
         have h5 := (ME.out h).2.1 y1 YA.out
         rw [PVE.out y1 YA.out] at h5
         omega)
        clear h2
        refine wp_region_held_drew (S := fun v => Below wv.heap.size wv v) (by kernel_rfl) (Below.refl wv.heap.size wv).drew (fun hHeld => ?_)
        refine tk 0 hHeld ?_;refine tkc 1 hHeld (fun w' hSw => cell7_of ((hSw.block _ (heap_lt XC.out)).trans XC.out)) ?_;refine tk 2 hHeld ?_;refine tk 3 hHeld ?_;refine tk 4 hHeld ?_;refine tkc 5 hHeld (fun w' hSw => cell7_of ((hSw.block _ (heap_lt XC.out)).trans XC.out)) ?_;refine tk 6 hHeld ?_;refine tk 7 hHeld ?_;refine tk 8 hHeld ?_;refine tk 9 hHeld ?_;refine tk 10 hHeld ?_;refine tk 11 hHeld ?_;refine tk 12 hHeld ?_;refine tkc 13 hHeld (fun w' hSw => cell6_of ((hSw.block _ (heap_lt XA.out)).trans XA.out)) ?_;refine tk 14 hHeld ?_;refine tk 15 hHeld ?_;refine tk 16 hHeld ?_;refine tk 17 hHeld ?_;refine tkc 18 hHeld (fun w' hSw => (hSw.cell (p := ⟨bf, of + y1 * 7, none⟩) LBF.out).trans LPV.out) ?_;refine tk 19 hHeld ?_;refine tkc 20 hHeld (fun w' hSw => cell7_of ((hSw.block _ (heap_lt XC.out)).trans XC.out)) ?_;refine tk 21 hHeld ?_;refine tk 22 hHeld ?_;refine tk 23 hHeld ?_;refine tk 24 hHeld ?_;refine tks 25 hHeld ?_;refine tks 26 hHeld ?_;refine tks 27 hHeld ?_;refine tks 28 hHeld ?_;refine tk 29 hHeld ?_
        refine wpAnyH_done (by kernel_rfl) ?_ _
        go_wp2_with fail
        go_ret
        exact ⟨by rw [HF.out]; rfl, BZ.out⟩
       have d3 : decide (R.id ≤ pv) = false := decide_eq_false h2
       have PLT : Hid (∀ j (hj : j + 1 = a), (p.routes[j]'(Nat.lt_trans (Nat.lt_of_succ_le (Nat.le_of_eq hj)) har)).id < R.id) := Lib.hid (fun j hj => by rw [PVE.out j hj]; omega)
       clear h2
       cases hrm : routeMay p R with
       | false =>
        have HF : Hid (planMay p = false) := Lib.hid (planMay_false fun h => by rw [routeMay_true (ME.out h).2.2] at hrm; cases hrm)
        refine wp_region_held_drew (S := fun v => Below wv.heap.size wv v) (by kernel_rfl) (Below.refl wv.heap.size wv).drew (fun hHeld => ?_)
        refine tk 0 hHeld ?_;refine tkc 1 hHeld (fun w' hSw => cell7_of ((hSw.block _ (heap_lt XC.out)).trans XC.out)) ?_;refine tk 2 hHeld ?_;refine tk 3 hHeld ?_;refine tk 4 hHeld ?_;refine tkc 5 hHeld (fun w' hSw => cell7_of ((hSw.block _ (heap_lt XC.out)).trans XC.out)) ?_;refine tk 6 hHeld ?_;refine tk 7 hHeld ?_;refine tk 8 hHeld ?_;refine tk 9 hHeld ?_;refine tk 10 hHeld ?_;refine tk 11 hHeld ?_;refine tk 12 hHeld ?_;refine tkc 13 hHeld (fun w' hSw => cell6_of ((hSw.block _ (heap_lt XA.out)).trans XA.out)) ?_;refine tk 14 hHeld ?_;refine tk 15 hHeld ?_;refine tk 16 hHeld ?_;refine tk 17 hHeld ?_;refine tkc 18 hHeld (fun w' hSw => (hSw.cell (p := ⟨bf, of + y1 * 7, none⟩) LBF.out).trans LPV.out) ?_;refine tk 19 hHeld ?_;refine tkc 20 hHeld (fun w' hSw => cell7_of ((hSw.block _ (heap_lt XC.out)).trans XC.out)) ?_;refine tk 21 hHeld ?_;refine tk 22 hHeld ?_;refine tk 23 hHeld ?_;refine tk 24 hHeld ?_;refine tkc 25 hHeld (fun w' hSw => cell6_of ((hSw.block _ (heap_lt XA.out)).trans XA.out)) ?_;refine tkc 26 hHeld (fun w' hSw => cell7_of ((hSw.block _ (heap_lt XC.out)).trans XC.out)) ?_
        refine tkr 27 (fun K hK => ?_)
        go_simp
        refine (rroute_any _ _ p R wv.drew (HPL.out.below (Below.refl wv.heap.size wv).drew) (HRV.out.below (Below.refl wv.heap.size wv).drew)).mono ?_
        rintro e w5 ⟨rfl, b5⟩
        rw [hrm]
        have B5 : Hid (Below wv.heap.size wv w5) := Lib.hid ((Below.refl wv.heap.size wv).drew.trans b5)
        clear b5
        try go_wp2_with fail
        refine hK.out _ _ ?_ fun hHeld => ?_;exact B5.out;clear hK K;try simp only [zn, Act.put]
        refine tk 28 hHeld ?_;refine tk 29 hHeld ?_
        refine wpAnyH_done (by kernel_rfl) ?_ _
        have BY : Hid (Below w.heap.size w w5) := Lib.hid (BV.out.trans (B5.out.mono BV.out.size))
        go_wp2_with fail
        go_ret
        exact ⟨by rw [HF.out]; rfl, BY.out⟩
       | true =>
        have NN := Lib.hid (NX.out I12.out PLT.out (routeMay_iff.1 hrm))
        refine wp_region_held_drew (S := fun v => Below wv.heap.size wv v) (by kernel_rfl) (Below.refl wv.heap.size wv).drew (fun hHeld => ?_)
        refine tk 0 hHeld ?_;refine tkc 1 hHeld (fun w' hSw => cell7_of ((hSw.block _ (heap_lt XC.out)).trans XC.out)) ?_;refine tk 2 hHeld ?_;refine tk 3 hHeld ?_;refine tk 4 hHeld ?_;refine tkc 5 hHeld (fun w' hSw => cell7_of ((hSw.block _ (heap_lt XC.out)).trans XC.out)) ?_;refine tk 6 hHeld ?_;refine tk 7 hHeld ?_;refine tk 8 hHeld ?_;refine tk 9 hHeld ?_;refine tk 10 hHeld ?_;refine tk 11 hHeld ?_;refine tk 12 hHeld ?_;refine tkc 13 hHeld (fun w' hSw => cell6_of ((hSw.block _ (heap_lt XA.out)).trans XA.out)) ?_;refine tk 14 hHeld ?_;refine tk 15 hHeld ?_;refine tk 16 hHeld ?_;refine tk 17 hHeld ?_;refine tkc 18 hHeld (fun w' hSw => (hSw.cell (p := ⟨bf, of + y1 * 7, none⟩) LBF.out).trans LPV.out) ?_;refine tk 19 hHeld ?_;refine tkc 20 hHeld (fun w' hSw => cell7_of ((hSw.block _ (heap_lt XC.out)).trans XC.out)) ?_;refine tk 21 hHeld ?_;refine tk 22 hHeld ?_;refine tk 23 hHeld ?_;refine tk 24 hHeld ?_;refine tkc 25 hHeld (fun w' hSw => cell6_of ((hSw.block _ (heap_lt XA.out)).trans XA.out)) ?_;refine tkc 26 hHeld (fun w' hSw => cell7_of ((hSw.block _ (heap_lt XC.out)).trans XC.out)) ?_
        refine tkr 27 (fun K hK => ?_)
        go_simp
        refine (rroute_any _ _ p R wv.drew (HPL.out.below (Below.refl wv.heap.size wv).drew) (HRV.out.below (Below.refl wv.heap.size wv).drew)).mono ?_
        rintro e w5 ⟨rfl, b5⟩
        rw [hrm]
        have B5 : Hid (Below wv.heap.size wv w5) := Lib.hid ((Below.refl wv.heap.size wv).drew.trans b5)
        clear b5
        try go_wp2_with fail
        refine hK.out _ _ ?_ fun hHeld => ?_;exact B5.out;clear hK K;try simp only [zn, Act.put]
        refine tk 28 hHeld ?_;refine tk 29 hHeld ?_
        refine wpAnyH_done (by kernel_rfl) ?_ _
        have BY : Hid (Below w.heap.size w w5) := Lib.hid (BV.out.trans (B5.out.mono BV.out.size))
        have X5 := Lib.hid ((B5.out.block _ (heap_lt XA.out)).trans XA.out)
        go_wp2_with fail
        go_roundw
        case measure => simp [intOf]; omega
        case rel => exact ⟨a + 1, by omega, by go_num, NN.out, X5.out, BY.out⟩
     ·obtain rfl : a = n5 := by omega
      have hlt2 : ¬ (a : Int) < a := by omega
      have HRT : Hid (planMay p = true) := Lib.hid (planMay_true ⟨NUMS.out.1, NUMS.out.2.1, NUMS.out.2.2, TS.out, TP.out, TG.out, fun i h => HALL.out i (by rw [HN5.out]; exact h) h⟩)
      go_wp2_with fail
      go_ret
      exact ⟨by rw [HRT.out]; rfl, BW.out⟩

theorem results_rowS_tmp {P : Program} {fn : Func} {p u : Tmp} {ty : TypeId} (h : fn.results = #[.cell p ty, .tmp u]) (tmps : Array Value) (w : World) (g : Nat) {c : Array Value} {t : TypeId} {fr : Nat × Nat} (hp : tmps.getD p undef = .pointer (some ⟨g, 0, none⟩)) (hb : w.heap[g]? = some (.cells c t fr))
  {fs : Array Field} (hu : P.underlying ty = some (.struct fs)) (hi : (P.info? ty).map (·.size) = some c.size) (x : Value) (hx : tmps.getD u undef = x) : (results fn tmps).run P w = .ok (.tuple #[.agg c, x]) w := by
 have hp' : tmps[p]?.getD undef = .pointer (some ⟨g, 0, none⟩) := by simpa using hp
 rw [results_cell_tmp h, hp, hx]
 simp [asAddr, run_loadVar_row w g t ty c fr _ hb hu rfl (by simpa using hi)]
noncomputable def chk8 (p : Pl) : Int := if planMay p then 0 else 8
noncomputable def elE {α : Type} (p : Pl) (k : α → Int) (l : List α) (id : Int) : Int := if planMay p then (if at1 k l id < 0 then 6 else 0) else 8
noncomputable def elV {α : Type} (p : Pl) (k : α → Int) (l : List α) (id : Int) (z : α) : α := if elE p k l id = 0 then l.getD (at1 k l id).toNat z else z
abbrev kPt : Jn → Int := fun x => x.1
abbrev kSg : Sg → Int := fun x => x.1
abbrev kRt : Rt → Int := fun x => x.id
def zRt : Rt := ⟨0, 0, 0, [], [], [], 0⟩
theorem elE_bad {α : Type} {p : Pl} {k : α → Int} {l : List α} {id : Int} {z : α} (h : planMay p = false) : elE p k l id = 8 ∧ elV p k l id z = z := by
 have e : elE p k l id = 8 := by rw [elE, h]; rfl
 exact ⟨e, by rw [elV, e]; rfl⟩
theorem elE_none {α : Type} {p : Pl} {k : α → Int} {l : List α} {id : Int} {z : α} (h : planMay p = true) (h0 : at1 k l id < 0) : elE p k l id = 6 ∧ elV p k l id z = z := by
 have e : elE p k l id = 6 := by rw [elE, h, if_pos rfl, if_pos h0]
 exact ⟨e, by rw [elV, e]; rfl⟩
theorem elE_some {α : Type} {p : Pl} {k : α → Int} {l : List α} {id : Int} {z : α} (h : planMay p = true) {i : Nat} (hi : i < l.length) (h0 : at1 k l id = (i : Int)) : elE p k l id = 0 ∧ elV p k l id z = l[i] := by
 have e : elE p k l id = 0 := by rw [elE, h, if_pos rfl, if_neg (by omega)]
 exact ⟨e, by rw [elV, e, if_pos rfl, h0]; simp [List.getD, List.getElem?_eq_getElem hi]⟩

theorem infoPoint2 : (Tryz.prog.info? 60).map (·.size) = some 2 := by kernel_rfl
theorem infoSig3 : (Tryz.prog.info? 69).map (·.size) = some 3 := by kernel_rfl
noncomputable def stE (p : Pl) (sec en : Int) : Int := if planMay p then nextE7 p.secs sec en else 8
noncomputable def stN (p : Pl) (sec en : Int) : Int := if stE p sec en = 0 then standsS p.sigs sec en else 0

theorem at1_mem {α : Type} {k : α → Int} {l : List α} {id : Int} (h : ∃ s ∈ l, k s = id) : ∃ i, ∃ hi : i < l.length, at1 k l id = (i : Int) ∧ k l[i] = id := by
 rcases at1_cases k l id with ⟨-, h2⟩ | ⟨i, hi, h1, h2, -⟩
 ·obtain ⟨s, hs, he⟩ := h
  obtain ⟨j, hj, rfl⟩ := List.getElem_of_mem hs
  exact absurd he (h2 j hj)
 ·exact ⟨i, hi, h1, h2⟩
theorem at1_of {α : Type} {k : α → Int} {l : List α} {id : Int} {i : Nat} (h : at1 k l id = (i : Int)) : ∃ hi : i < l.length, k l[i] = id := by
 rcases at1_cases k l id with ⟨h1, -⟩ | ⟨j, hj, h1, h2, -⟩
 ·omega
 ·obtain rfl : j = i := by omega
  exact ⟨hj, h2⟩
theorem rise_of {α : Type} {k : α → Int} {l : List α} (h : ∀ i (h : i < l.length), ∀ j (hj : j + 1 = i), k (l[j]'(by omega)) < k l[i]) : l.Pairwise (fun a b => k a < k b) := by
 refine List.pairwise_iff_getElem.2 fun i j hi hj hlt => ?_
 have main : ∀ d i (hd : i + d + 1 < l.length), k (l[i]'(by omega)) < k l[i + d + 1] := by
  intro d
  induction d with
  | zero => exact fun i hd => h (i + 1) hd i rfl
  | succ d ih => exact fun i hd => Int.lt_trans (ih i (by omega)) (h (i + (d + 1) + 1) hd (i + d + 1) (by omega))
 have e := main (j - i - 1) i (by omega)
 have e2 : i + (j - i - 1) + 1 = j := by omega
 simp only [e2] at e
 exact e
theorem rise_uniq {α : Type} {k : α → Int} {l : List α} (h : l.Pairwise (fun a b => k a < k b)) {s t : α} (hs : s ∈ l) (ht : t ∈ l) (he : k s = k t) : s = t := by
 obtain ⟨i, hi, rfl⟩ := List.getElem_of_mem hs
 obtain ⟨j, hj, rfl⟩ := List.getElem_of_mem ht
 have h' := List.pairwise_iff_getElem.1 h
 rcases Nat.lt_trichotomy i j with hlt | rfl | hlt
 ·have := h' i j hi hj hlt; omega
 ·rfl
 ·have := h' j i hj hi hlt; omega

def namedB (rs : List Rt) (s : Sg) : Bool := rs.any (fun r => decide (r.entry = s.1 ∨ r.exit = s.1))
def fewP (p : Pl) (k : Nat) : Pl := ⟨if p.ver < 2147483647 then p.ver + 1 else p.ver, if p.ver < 2147483647 then p.ver else p.par, p.secs, p.pts, p.sigs.filter (namedB (p.routes.eraseIdx k)), p.routes.eraseIdx k⟩
theorem sigs_parts {p : Pl} (h : SigsMay p) : p.sigs.Pairwise (fun a b => a.1 < b.1 ∧ ¬ (a.2.1 = b.2.1 ∧ a.2.2 = b.2.2)) ∧ ∀ s ∈ p.sigs, 1 ≤ s.1 ∧ s.1 ≤ 99 ∧ ∃ k, ∃ hk : k < p.secs.length, atS p.secs s.2.1 = (k : Int) ∧ 0 ≤ s.2.2 ∧ s.2.2 < p.secs[k].2.2.length := by
 refine ⟨List.pairwise_iff_getElem.2 fun i j hi hj hlt => (h.each j hj).2.2.2 i hlt, fun s hs => ?_⟩
 obtain ⟨i, hi, rfl⟩ := List.getElem_of_mem hs
 exact ⟨(h.each i hi).1, (h.each i hi).2.1, (h.each i hi).2.2.1⟩
theorem few_may {p : Pl} (h : PlanMay p) (k : Nat) : PlanMay (fewP p k) := by
 obtain ⟨hs1, hs2⟩ := sigs_parts h.sigs
 have hsub : (p.sigs.filter (namedB (p.routes.eraseIdx k))).Sublist p.sigs := List.filter_sublist
 have hrs : (p.routes.eraseIdx k).Sublist p.routes := List.eraseIdx_sublist ..
 have hrise : p.sigs.Pairwise (fun a b : Sg => a.1 < b.1) := hs1.imp fun h => h.1
 have hv := h.ver
 have hp := h.par
 have here : ∀ r ∈ p.routes.eraseIdx k, ∀ s ∈ p.sigs, (r.entry = s.1 ∨ r.exit = s.1) → s ∈ p.sigs.filter (namedB (p.routes.eraseIdx k)) := fun r hr s hs he => List.mem_filter.2 ⟨hs, by rw [namedB, List.any_eq_true]; exact ⟨r, hr, decide_eq_true he⟩⟩
 refine ⟨?_, ?_, Nat.le_trans hrs.length_le h.n, h.secs, ⟨h.pts.n, h.pts.many, h.pts.each⟩, ⟨Nat.le_trans hsub.length_le h.sigs.n, fun i hi => ?_⟩, fun i hi => ?_⟩
 ·show 1 ≤ (if p.ver < 2147483647 then p.ver + 1 else p.ver) ∧ (if p.ver < 2147483647 then p.ver + 1 else p.ver) ≤ 2147483647
  split <;> omega
 ·show 0 ≤ (if p.ver < 2147483647 then p.ver else p.par) ∧ (if p.ver < 2147483647 then p.ver else p.par) < (if p.ver < 2147483647 then p.ver + 1 else p.ver)
  split <;> omega
 ·have hm : (fewP p k).sigs[i] ∈ p.sigs := hsub.subset (List.getElem_mem hi)
  obtain ⟨a, b, c⟩ := hs2 _ hm
  exact ⟨a, b, c, fun m hm => List.pairwise_iff_getElem.1 (hs1.sublist hsub) m i (Nat.lt_trans hm hi) hi hm⟩
 ·have hpr : p.routes.Pairwise (fun a b : Rt => a.id < b.id) := rise_of fun i h2 j hj => (h.each i h2).2.1 j hj
  have hm' : (fewP p k).routes[i] ∈ p.routes.eraseIdx k := List.getElem_mem hi
  have hm : (fewP p k).routes[i] ∈ p.routes := hrs.subset hm'
  generalize hr : (fewP p k).routes[i] = r at hm hm'
  obtain ⟨u, hu, rfl⟩ := List.getElem_of_mem hm
  obtain ⟨hid, -, hR⟩ := h.each u hu
  refine ⟨hid, fun j hj => ?_, ?_⟩
  ·rw [← hr]
   exact List.pairwise_iff_getElem.1 (hpr.sublist hrs) j i (Nat.lt_trans (Nat.lt_of_succ_le (Nat.le_of_eq hj)) hi) hi (Nat.lt_of_succ_le (Nat.le_of_eq hj))
  ·obtain ⟨n, hn, hat, hne⟩ := hR.entry
   obtain ⟨_, hne1⟩ := at1_of hat
   have hmem := here _ hm' p.sigs[n] (List.getElem_mem hn) (.inl hne1.symm)
   obtain ⟨i2, hi2, ha2, hk2⟩ := at1_mem (k := fun x : Sg => x.1) ⟨_, hmem, hne1⟩
   have hsame : (p.sigs.filter (namedB (p.routes.eraseIdx k)))[i2] = p.sigs[n] := rise_uniq (k := fun x : Sg => x.1) hrise (hsub.subset (List.getElem_mem hi2)) (List.getElem_mem hn) (hk2.trans hne1.symm)
   refine ⟨⟨i2, hi2, ha2, fun x hx => ?_⟩, fun hx => ⟨?_, (hR.exit hx).2⟩, hR.over0, hR.path, hR.over, hR.flank, hR.timer, hR.secs, hR.flanks⟩
   ·show _ ≠ ((p.sigs.filter (namedB (p.routes.eraseIdx k)))[i2]).2.1
    rw [hsame]
    exact hne x hx
   ·rcases at1_cases (fun x : Sg => x.1) p.sigs p.routes[u].exit with ⟨h1, -⟩ | ⟨j, hj, h1, h2, -⟩
    ·have := (hR.exit hx).1; omega
    ·obtain ⟨i3, hi3, ha3, -⟩ := at1_mem (k := fun x : Sg => x.1) ⟨_, here _ hm' p.sigs[j] (List.getElem_mem hj) (.inr h2.symm), h2⟩
     show 0 ≤ at1 (fun x : Sg => x.1) (p.sigs.filter (namedB (p.routes.eraseIdx k))) p.routes[u].exit
     omega
theorem few_chk {p : Pl} (h : planMay p = true) (k : Nat) : planMay (fewP p k) = true := planMay_true (few_may (planMay_iff.1 h) k)

theorem atS_of {l : List Sec} {id : Int} {i : Nat} (h : atS l id = (i : Int)) : ∃ hi : i < l.length, l[i].1 = id := by
 rcases atS_cases l id with h1 | ⟨j, hj, h1, h2⟩
 ·omega
 ·obtain rfl : j = i := by omega
  exact ⟨hj, h2⟩
theorem place_pt {p : Pl} (h : PlanMay p) (i : Nat) (hi : i < p.pts.length) : ∃ k, ∃ hk : k < p.secs.length, p.secs[k].2.1 = p.pts[i].1 ∧ p.secs[k].1 = p.pts[i].2 ∧ p.secs[k].2.2.length = 3 ∧ ∀ j (hj : j < p.secs.length), p.secs[j].2.1 = p.pts[i].1 → j = k := by
 obtain ⟨h1, -, -, k, hk, hat, hpt⟩ := h.pts.each i hi
 obtain ⟨_, hid⟩ := atS_of hat
 have hne : p.secs[k].2.1 ≠ 0 := by omega
 refine ⟨k, hk, hpt, hid, ?_, fun j hj he => ?_⟩
 ·have hs := (h.secs.s k hk).2.2
  rw [shapedB, if_neg hne] at hs
  simp only [Bool.and_eq_true, decide_eq_true_eq] at hs
  exact hs.2.2
 ·rcases Nat.lt_trichotomy j k with hlt | rfl | hlt
  ·exact absurd ⟨hne, he.trans hpt.symm⟩ (h.secs.k k j hlt hk).2
  ·rfl
  ·exact absurd ⟨by rw [he]; omega, hpt.trans he.symm⟩ (h.secs.k j k hlt hj).2
theorem stE_zero {p : Pl} (h : PlanMay p) {id en : Int} {k : Nat} (hk : k < p.secs.length) (hat : atS p.secs id = (k : Int)) (h0 : 0 ≤ en) (hn : en < p.secs[k].2.2.length) : stE p id en = 0 := by
 have hf : findE7 p.secs id = 0 := by rw [findE7, mayT_true h.secs, if_pos rfl, if_neg (by omega)]
 have hs : findS7 p.secs id = p.secs[k] := by rw [findS7, hf, if_pos rfl, hat]; simp [List.getD, List.getElem?_eq_getElem hk]
 rw [stE, planMay_true h, if_pos rfl, nextE7, hf, if_pos rfl, hs, if_neg (by omega)]
theorem place_sig {p : Pl} (h : PlanMay p) (i : Nat) (hi : i < p.sigs.length) : stE p p.sigs[i].2.1 p.sigs[i].2.2 = 0 ∧ stN p p.sigs[i].2.1 p.sigs[i].2.2 = p.sigs[i].1 := by
 obtain ⟨-, -, ⟨k, hk, hat, h0, hn⟩, hne⟩ := h.sigs.each i hi
 have e := stE_zero h hk hat h0 hn
 exact ⟨e, by rw [stN, e, if_pos rfl]; exact stands_some hi ⟨rfl, rfl⟩ (fun j hj => (hne j hj).2)⟩
theorem shaped_two {s : Sec} (h : shapedB s = true) : 2 ≤ s.2.2.length := by
 rw [shapedB] at h
 split at h
 ·have := of_decide_eq_true h; omega
 ·simp only [Bool.and_eq_true, decide_eq_true_eq] at h; omega
theorem stE_sec {p : Pl} (h : PlanMay p) {id : Int} (h0 : 0 ≤ atS p.secs id) : stE p id 0 = 0 := by
 rcases atS_cases p.secs id with h1 | ⟨k, hk, h1, -⟩
 ·omega
 ·exact stE_zero h hk h1 (Int.le_refl _) (by have := shaped_two (h.secs.s k hk).2.2; omega)
theorem place_route {p : Pl} (h : PlanMay p) (u : Nat) (hu : u < p.routes.length) : elE p kSg p.sigs p.routes[u].entry = 0 ∧
  ∀ i (hi : i < ((elV p kSg p.sigs p.routes[u].entry (0, 0, 0)).2.1 :: (p.routes[u].path ++ p.routes[u].over)).length),
   stE p ((elV p kSg p.sigs p.routes[u].entry (0, 0, 0)).2.1 :: (p.routes[u].path ++ p.routes[u].over))[i] 0 = 0 ∧
   ∀ m (hm : m < i), ((elV p kSg p.sigs p.routes[u].entry (0, 0, 0)).2.1 :: (p.routes[u].path ++ p.routes[u].over))[m] ≠ ((elV p kSg p.sigs p.routes[u].entry (0, 0, 0)).2.1 :: (p.routes[u].path ++ p.routes[u].over))[i] := by
 have hR := (h.each u hu).2.2
 obtain ⟨k, hk, hat, hne⟩ := hR.entry
 obtain ⟨e1, e2⟩ := elE_some (z := ((0, 0, 0) : Sg)) (planMay_true h) hk hat
 refine ⟨e1, fun i hi => ?_⟩
 have e2' : (elV p kSg p.sigs p.routes[u].entry (0, 0, 0)).2.1 = p.sigs[k].2.1 := by rw [e2]
 generalize elV p kSg p.sigs p.routes[u].entry (0, 0, 0) = S at hi e2' ⊢
 cases i with
 | zero =>
  refine ⟨?_, fun m hm => absurd hm (by omega)⟩
  show stE p S.2.1 0 = 0
  obtain ⟨-, -, ⟨k2, hk2, hat2, -, -⟩, -⟩ := h.sigs.each k hk
  rw [e2']
  exact stE_sec h (by omega)
 | succ i =>
  have hi' : i < (p.routes[u].path ++ p.routes[u].over).length := by simpa using hi
  refine ⟨stE_sec h (hR.secs i hi').1, fun m hm => ?_⟩
  cases m with
  | zero => exact fun he => hne i hi' ((show (p.routes[u].path ++ p.routes[u].over)[i] = S.2.1 from he.symm).trans e2')
  | succ m => exact (hR.secs i hi').2 m (by omega)
end Go.Proofs.YtneeocnjfnneoaaGreat
