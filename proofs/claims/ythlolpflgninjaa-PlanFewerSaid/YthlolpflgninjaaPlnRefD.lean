/-
  The document's own functions of package plan: signals.
  Conditions: none.
-/
import Derived.Test.YthlolpflgninjaaPlnRefC
set_option linter.unusedVariables false
set_option linter.unusedSimpArgs false
set_option maxRecDepth 100000
namespace Go.Proofs.Ythlolpflgninjaa
open Go.RowKit
/-- A plan's signals may be. -/
structure SigsMay (p : Pl) : Prop where
  n : p.sigs.length ≤ 10
  each : ∀ i (h : i < p.sigs.length), 1 ≤ p.sigs[i].1 ∧ p.sigs[i].1 ≤ 99 ∧ (∃ k, ∃ hk : k < p.secs.length, atS p.secs p.sigs[i].2.1 = (k : Int) ∧ 0 ≤ p.sigs[i].2.2 ∧ p.sigs[i].2.2 < p.secs[k].2.2.length) ∧ ∀ m (hm : m < i), (p.sigs[m]'(by omega)).1 < p.sigs[i].1 ∧ ¬ ((p.sigs[m]'(by omega)).2.1 = p.sigs[i].2.1 ∧ (p.sigs[m]'(by omega)).2.2 = p.sigs[i].2.2)
noncomputable def sigsMay (p : Pl) : Bool := @decide (SigsMay p) (Classical.propDecidable _)
theorem sigsMay_true {p : Pl} (h : SigsMay p) : sigsMay p = true := by rw [sigsMay]; exact @decide_eq_true _ (Classical.propDecidable _) h
theorem sigsMay_false {p : Pl} (h : ¬ SigsMay p) : sigsMay p = false := by rw [sigsMay]; exact @decide_eq_false _ (Classical.propDecidable _) h
theorem sigsMay_iff {p : Pl} : sigsMay p = true ↔ SigsMay p := by rw [sigsMay]; exact @decide_eq_true_iff _ (Classical.propDecidable _)

set_option maxHeartbeats 8000000 in
theorem rsignals_any (v : Value) (p : Pl) (w : World) (h : PlanV w w.heap.size v p) :
    Calls Try.prog 75 #[v] w fun e w' => e = .returned (.bool (sigsMay p)) ∧ Below w.heap.size w w' := by
  obtain ⟨y2, y3, y4, y5, rfl, hin⟩ := h
  have HIN := Lib.hid hin
  obtain ⟨A2, c2, rfl, hcl2, hcm2⟩ := hin.secs.slice
  obtain ⟨A4, c4, rfl, hcl4, hcm4⟩ := hin.sigs.slice
  unfold maxLen at hcm2 hcm4
  obtain ⟨n2, hn2⟩ : ∃ n, n = p.secs.length := ⟨_, rfl⟩
  obtain ⟨n4, hn4⟩ : ∃ n, n = p.sigs.length := ⟨_, rfl⟩
  have hm2 : n2 ≤ 9223372036854775807 := by omega
  have hm4 : n4 ≤ 9223372036854775807 := by omega
  have HS : Hid (SectsIn w w.heap.size (.slice A2 n2 c2) p.secs) := Lib.hid (by rw [hn2]; exact hin.secs)
  have HA : Hid (SigsIn w w.heap.size (.slice A4 n4 c4) p.sigs) := Lib.hid (by rw [hn4]; exact hin.sigs)
  have HN2 := Lib.hid hn2
  have HN4 := Lib.hid hn4
  rw [← hn2, ← hn4]
  have hq0 := heap_alloc_self w (.cells #[.int .i64 p.ver, .int .i64 p.par, .slice A2 n2 c2, y3, .slice A4 n4 c4, y5] 30)
  have hqb := below_new w (.cells #[.int .i64 p.ver, .int .i64 p.par, .slice A2 n2 c2, y3, .slice A4 n4 c4, y5] 30)
  clear hn2 hn4 HIN hcl2 hcm2 hcl4 hcm4 hin
  go_enter Try.func75, Try.ntmps75
  go_upto_region 1 with fail
  generalize w.alloc (.cells #[.int .i64 p.ver, .int .i64 p.par, .slice A2 n2 c2, y3, .slice A4 n4 c4, y5] 30) = q at hq0 hqb ⊢
  have QB := Lib.hid hqb
  have QX := Lib.hid hq0
  clear hq0 hqb
  go_wp2_with fail
  go_loopw [3] (fun s3 wr => ∃ a : Nat, a ≤ n4 ∧ s3 = .int .i64 a ∧ (∀ a' (ha : a' < a) (hl : a' < p.sigs.length), 1 ≤ p.sigs[a'].1 ∧ p.sigs[a'].1 ≤ 99 ∧ (∃ k, ∃ hk : k < p.secs.length, atS p.secs p.sigs[a'].2.1 = (k : Int) ∧ 0 ≤ p.sigs[a'].2.2 ∧ p.sigs[a'].2.2 < p.secs[k].2.2.length) ∧ ∀ m (hm : m < a'), (p.sigs[m]'(by omega)).1 < p.sigs[a'].1 ∧ ¬ ((p.sigs[m]'(by omega)).2.1 = p.sigs[a'].2.1 ∧ (p.sigs[m]'(by omega)).2.2 = p.sigs[a'].2.2)) ∧ wr.heap[w.heap.size]? = some (.cells #[.int .i64 p.ver, .int .i64 p.par, .slice A2 n2 c2, y3, .slice A4 n4 c4, y5] 30 (0, 0)) ∧ Below w.heap.size w wr) (fun s3 _ => n4 - (intOf s3).toNat)
  case atStart => exact ⟨0, by omega, by go_num, fun a' ha => absurd ha (by omega), QX.out, QB.out⟩
  case round =>
    obtain ⟨a, ha, rfl, hall, hx, hbw⟩ := hrel
    have HALL := Lib.hid hall
    have XW := Lib.hid hx
    have BW := Lib.hid hbw
    clear hall hx hbw QB QX
    obtain ⟨k0, k1, k2, k3, k4, k5⟩ := cell6_of XW.out
    by_cases hlt : a < n4
    · have hlt2 : (a : Int) < n4 := by omega
      have har : a < p.sigs.length := by rw [← HN4.out]; exact hlt
      obtain ⟨b, off, rfl, hb, hc0, hc1, hc2⟩ := ((HA.out.below sigR BW.out).more sigR BW.out.size).at har
      obtain ⟨x0, x1, x2, hx⟩ : ∃ x0 x1 x2, p.sigs[a] = (x0, x1, x2) := ⟨_, _, _, rfl⟩
      have HX := Lib.hid hx
      rw [hx] at hc0 hc1 hc2
      have hg0 : wr.cell? ⟨b, off + a * 3, none⟩ = some (.int .i64 x0) := hc0
      have hg1 : wr.cell? ⟨b, off + a * 3 + 1, none⟩ = some (.int .i64 x1) := hc1
      have hg2 : wr.cell? ⟨b, off + a * 3 + 2, none⟩ = some (.int .i64 x2) := hc2
      have hz0 := heap_alloc_self wr (.cells #[.int .i64 x0, .int .i64 x1, .int .i64 x2] 49)
      have hzb := below_new wr (.cells #[.int .i64 x0, .int .i64 x1, .int .i64 x2] 49)
      obtain ⟨q6, hq6⟩ : ∃ q6, q6 = wr.alloc (.cells #[.int .i64 x0, .int .i64 x1, .int .i64 x2] 49) := ⟨_, rfl⟩
      rw [← hq6] at hz0 hzb
      clear hc0 hc1 hc2 hx hb
      go_upto_region 5 with fail
      rw [← hq6]
      have B6 := Lib.hid (BW.out.trans (hzb.mono BW.out.size))
      have X6 := Lib.hid hz0
      have XW6 := Lib.hid ((hzb.block _ (heap_lt XW.out)).trans XW.out)
      generalize wr.heap.size = p4 at X6 ⊢
      clear hz0 hzb hq6 k0 k1 k2 k3 k4 k5 hg0 hg1 hg2 BW XW
      obtain ⟨k0, k1, k2, k3, k4, k5⟩ := cell6_of XW6.out
      obtain ⟨z0, z1, z2⟩ := cell3_of X6.out
      have HS6 := Lib.hid ((HS.out.below secR_ B6.out).more secR_ B6.out.size)
      have BD : Hid (∀ nq, Below w.heap.size w (q6.drewN nq)) := Lib.hid (fun nq => ⟨B6.out.os, B6.out.tape, B6.out.output, B6.out.size, B6.out.block⟩)
      have XD : Hid (∀ nq, (q6.drewN nq).heap[w.heap.size]? = some (.cells #[.int .i64 p.ver, .int .i64 p.par, .slice A2 n2 c2, y3, .slice (some ⟨b, off, none⟩) n4 c4, y5] 30 (0, 0))) := Lib.hid (fun nq => XW6.out)
      have YD : Hid (∀ nq, (q6.drewN nq).heap[p4]? = some (.cells #[.int .i64 x0, .int .i64 x1, .int .i64 x2] 49 (0, 0))) := Lib.hid (fun nq => X6.out)
      have ME : Hid (∀ h : SigsMay p, 1 ≤ x0 ∧ x0 ≤ 99 ∧ (∃ k, ∃ hk : k < p.secs.length, atS p.secs x1 = (k : Int) ∧ 0 ≤ x2 ∧ x2 < p.secs[k].2.2.length) ∧ ∀ m (hm : m < a), (p.sigs[m]'(by omega)).1 < x0 ∧ ¬ ((p.sigs[m]'(by omega)).2.1 = x1 ∧ (p.sigs[m]'(by omega)).2.2 = x2)) := Lib.hid (fun h => by have := h.each a har; rw [HX.out] at this; exact this)
      go_upto_region 6 with (refine (rat_any _ p.secs x1 _ HS6.out).mono ?_; rintro e w' ⟨rfl, hw'⟩; rw [hw']; clear hw' w')
      obtain ⟨kk, hkk⟩ : ∃ kk, kk = atS p.secs x1 := ⟨_, rfl⟩
      have HKK := Lib.hid hkk
      rw [← hkk]
      clear hkk
      by_cases h1 : x0 < 1
      · have d1 : decide (x0 < 1) = true := decide_eq_true h1
        have HF : Hid (sigsMay p = false) := Lib.hid (sigsMay_false fun h => by have := ME.out h; omega)
        clear h1
        go_quiet (fail)
        have hdb := BD.out nq
        have hdx := XD.out nq
        have hdy := YD.out nq
        generalize q6.drewN nq = q7 at hdb hdx hdy ⊢
        have B7 := Lib.hid hdb
        have X7 := Lib.hid hdx
        have Y7 := Lib.hid hdy
        clear hdb hdx hdy BD XD YD
        go_wp2_with fail
        go_ret
        exact ⟨by rw [HF.out]; rfl, B7.out⟩
      have d1 : decide (x0 < 1) = false := decide_eq_false h1
      by_cases h2 : 99 < x0
      · have d2 : decide (99 < x0) = true := decide_eq_true h2
        have HF : Hid (sigsMay p = false) := Lib.hid (sigsMay_false fun h => by have := ME.out h; omega)
        clear h1 h2
        go_quiet (fail)
        have hdb := BD.out nq
        have hdx := XD.out nq
        have hdy := YD.out nq
        generalize q6.drewN nq = q7 at hdb hdx hdy ⊢
        have B7 := Lib.hid hdb
        have X7 := Lib.hid hdx
        have Y7 := Lib.hid hdy
        clear hdb hdx hdy BD XD YD
        go_wp2_with fail
        go_ret
        exact ⟨by rw [HF.out]; rfl, B7.out⟩
      have d2 : decide (99 < x0) = false := decide_eq_false h2
      have H12 : Hid (1 ≤ x0 ∧ x0 ≤ 99) := Lib.hid (by omega)
      clear h1 h2
      have ATC := Lib.hid (atS_cases p.secs x1)
      by_cases h6 : kk < 0
      · have d6 : decide (kk < 0) = true := decide_eq_true h6
        have HF : Hid (sigsMay p = false) := Lib.hid (sigsMay_false fun h => by
          obtain ⟨k, _, hk, _⟩ := (ME.out h).2.2.1
          have := HKK.out
          omega)
        clear h6
        go_quiet (fail)
        have hdb := BD.out nq
        have hdx := XD.out nq
        have hdy := YD.out nq
        generalize q6.drewN nq = q7 at hdb hdx hdy ⊢
        have B7 := Lib.hid hdb
        have X7 := Lib.hid hdx
        have Y7 := Lib.hid hdy
        clear hdb hdx hdy BD XD YD
        go_wp2_with fail
        go_ret
        exact ⟨by rw [HF.out]; rfl, B7.out⟩
      obtain ⟨k, hkr, hk1⟩ : ∃ k, ∃ hk : k < p.secs.length, kk = (k : Int) := by
        rcases ATC.out with h | ⟨k, hk, h, _⟩
        · have := HKK.out; omega
        · exact ⟨k, hk, HKK.out.trans h⟩
      subst hk1
      have d6 : decide ((k : Int) < 0) = false := decide_eq_false h6
      clear h6
      by_cases h7 : x2 < 0
      · have d7 : decide (x2 < 0) = true := decide_eq_true h7
        have HF : Hid (sigsMay p = false) := Lib.hid (sigsMay_false fun h => by obtain ⟨k', _, _, h3, _⟩ := (ME.out h).2.2.1; omega)
        clear h7
        go_quiet (fail)
        have hdb := BD.out nq
        have hdx := XD.out nq
        have hdy := YD.out nq
        generalize q6.drewN nq = q7 at hdb hdx hdy ⊢
        have B7 := Lib.hid hdb
        have X7 := Lib.hid hdx
        have Y7 := Lib.hid hdy
        clear hdb hdx hdy BD XD YD
        go_wp2_with fail
        go_ret
        exact ⟨by rw [HF.out]; rfl, B7.out⟩
      have d7 : decide (x2 < 0) = false := decide_eq_false h7
      have hkn : (k : Int) < n2 := by have := HN2.out; omega
      obtain ⟨b2, off2, e2, hb2, hs0, hs1, u2, hs2, hu2⟩ := HS6.out.at hkr
      cases e2
      obtain ⟨Au, cu, rfl, -, -⟩ := hu2.slice
      obtain ⟨ne, hne⟩ : ∃ ne, ne = p.secs[k].2.2.length := ⟨_, rfl⟩
      have hg : q6.cell? ⟨b2, off2 + k * 3 + 2, none⟩ = some (.slice Au ne cu) := by rw [hne]; exact hs2
      have HNE := Lib.hid hne
      clear hs0 hs1 hs2 hu2 hne hb2
      by_cases h8 : (ne : Int) ≤ x2
      · have d8 : decide ((ne : Int) ≤ x2) = true := decide_eq_true h8
        have HF : Hid (sigsMay p = false) := Lib.hid (sigsMay_false fun h => by
          obtain ⟨k', hk', hk2, _, hk3⟩ := (ME.out h).2.2.1
          obtain rfl : k' = k := by have := HKK.out; omega
          rw [← HNE.out] at hk3
          omega)
        clear h7 h8
        go_quiet (fail)
        have hdb := BD.out nq
        have hdx := XD.out nq
        have hdy := YD.out nq
        generalize q6.drewN nq = q7 at hdb hdx hdy ⊢
        have B7 := Lib.hid hdb
        have X7 := Lib.hid hdx
        have Y7 := Lib.hid hdy
        clear hdb hdx hdy BD XD YD
        go_wp2_with fail
        go_ret
        exact ⟨by rw [HF.out]; rfl, B7.out⟩
      have d8 : decide ((ne : Int) ≤ x2) = false := decide_eq_false h8
      have KOK : Hid (∃ k, ∃ hk : k < p.secs.length, atS p.secs x1 = (k : Int) ∧ 0 ≤ x2 ∧ x2 < p.secs[k].2.2.length) := Lib.hid ⟨k, hkr, HKK.out.symm, by omega, by rw [← HNE.out]; omega⟩
      clear h7 h8
      go_quiet (fail)
      have hdb := BD.out nq
      have hdx := XD.out nq
      have hdy := YD.out nq
      generalize q6.drewN nq = q7 at hdb hdx hdy ⊢
      have B7 := Lib.hid hdb
      have X7 := Lib.hid hdx
      have Y7 := Lib.hid hdy
      clear hdb hdx hdy BD XD YD
      clear k0 k1 k2 k3 k4 k5 z0 z1 z2 hg B6 X6 XW6 HS6 d1 d2 d6 d7 d8
      go_wp2_with fail
      go_loopw [6] (fun s6 wr => ∃ m : Nat, m ≤ a ∧ s6 = .int .i64 m ∧ (∀ j (hj : j < m) (hl : j < p.sigs.length), p.sigs[j].1 < x0 ∧ ¬ (p.sigs[j].2.1 = x1 ∧ p.sigs[j].2.2 = x2)) ∧ wr.heap[w.heap.size]? = some (.cells #[.int .i64 p.ver, .int .i64 p.par, .slice (some ⟨b2, off2, none⟩) n2 c2, y3, .slice (some ⟨b, off, none⟩) n4 c4, y5] 30 (0, 0)) ∧ wr.heap[p4]? = some (.cells #[.int .i64 x0, .int .i64 x1, .int .i64 x2] 49 (0, 0)) ∧ Below w.heap.size w wr) (fun s6 _ => a - (intOf s6).toNat)
      case atStart => exact ⟨0, by omega, by go_num, fun j hj => absurd hj (by omega), X7.out, Y7.out, B7.out⟩
      case round =>
        obtain ⟨m, hm, rfl, hms, hx, hy, hbm⟩ := hrel
        have HMS := Lib.hid hms
        have XM := Lib.hid hx
        have YM := Lib.hid hy
        have BM := Lib.hid hbm
        clear hms hx hy hbm X7 Y7 B7
        obtain ⟨k0, k1, k2, k3, k4, k5⟩ := cell6_of XM.out
        obtain ⟨z0, z1, z2⟩ := cell3_of YM.out
        by_cases hma : m < a
        · have hma' : (m : Int) < a := by omega
          have hmn : (m : Int) < n4 := by omega
          have hmr : m < p.sigs.length := by omega
          obtain ⟨b', off', e', hb', hd0, hd1, hd2⟩ := ((HA.out.below sigR BM.out).more sigR BM.out.size).at hmr
          cases e'
          obtain ⟨t0, t1, t2, ht⟩ : ∃ t0 t1 t2, p.sigs[m] = (t0, t1, t2) := ⟨_, _, _, rfl⟩
          have HT := Lib.hid ht
          rw [ht] at hd0 hd1 hd2
          have hg0 : wr.cell? ⟨b, off + m * 3, none⟩ = some (.int .i64 t0) := hd0
          have hg1 : wr.cell? ⟨b, off + m * 3 + 1, none⟩ = some (.int .i64 t1) := hd1
          have hg2 : wr.cell? ⟨b, off + m * 3 + 2, none⟩ = some (.int .i64 t2) := hd2
          have hz0 := heap_alloc_self wr (.cells #[.int .i64 t0, .int .i64 t1, .int .i64 t2] 49)
          have hzb := below_new wr (.cells #[.int .i64 t0, .int .i64 t1, .int .i64 t2] 49)
          obtain ⟨q8, hq8⟩ : ∃ q8, q8 = wr.alloc (.cells #[.int .i64 t0, .int .i64 t1, .int .i64 t2] 49) := ⟨_, rfl⟩
          rw [← hq8] at hz0 hzb
          clear hd0 hd1 hd2 ht hb'
          go_upto_region 12 with fail
          rw [← hq8]
          have B8 := Lib.hid (BM.out.trans (hzb.mono BM.out.size))
          have T8 := Lib.hid hz0
          have X8 := Lib.hid ((hzb.block _ (heap_lt XM.out)).trans XM.out)
          have Y8 := Lib.hid ((hzb.block _ (heap_lt YM.out)).trans YM.out)
          generalize wr.heap.size = p7 at T8 ⊢
          clear hz0 hzb hq8 k0 k1 k2 k3 k4 k5 z0 z1 z2 hg0 hg1 hg2 BM XM YM
          obtain ⟨z0, z1, z2⟩ := cell3_of Y8.out
          obtain ⟨r0, r1, r2⟩ := cell3_of T8.out
          have NX : Hid (t0 < x0 → ¬ (t1 = x1 ∧ t2 = x2) → ∀ j (hj : j < m + 1) (hl : j < p.sigs.length), p.sigs[j].1 < x0 ∧ ¬ (p.sigs[j].2.1 = x1 ∧ p.sigs[j].2.2 = x2)) := Lib.hid (fun h1 h2 j hj hl => by
            rcases Nat.lt_or_ge j m with h | h
            · exact HMS.out j h hl
            · obtain rfl : j = m := by omega
              rw [HT.out]; exact ⟨h1, h2⟩)
          have HNF : Hid (¬ (t0 < x0 ∧ ¬ (t1 = x1 ∧ t2 = x2)) → sigsMay p = false) := Lib.hid (fun hn => sigsMay_false fun h => hn (by
            have := (ME.out h).2.2.2 m hma
            rw [HT.out] at this
            exact this))
          by_cases h1 : x0 ≤ t0
          · have d1 : decide (x0 ≤ t0) = true := decide_eq_true h1
            have HF := Lib.hid (HNF.out (fun h => by omega))
            clear h1
            go_wp2_with fail
            go_ret
            exact ⟨by rw [HF.out]; rfl, B8.out⟩
          have d1 : decide (x0 ≤ t0) = false := decide_eq_false h1
          by_cases h2 : t1 = x1
          · have d2 : (t1 == x1) = true := by simpa using h2
            by_cases h3 : t2 = x2
            · have d3 : (t2 == x2) = true := by simpa using h3
              have HF := Lib.hid (HNF.out (fun h => h.2 ⟨h2, h3⟩))
              clear h1 h2 h3
              go_wp2_with fail
              go_ret
              exact ⟨by rw [HF.out]; rfl, B8.out⟩
            · have d3 : (t2 == x2) = false := by simpa using h3
              have NN := Lib.hid (NX.out (by omega) (fun h => h3 h.2))
              clear h1 h2 h3
              go_wp2_with fail
              go_roundw
              case measure => simp [intOf]; omega
              case rel => exact ⟨m + 1, by omega, by go_num, NN.out, X8.out, Y8.out, B8.out⟩
          · have d2 : (t1 == x1) = false := by simpa using h2
            have NN := Lib.hid (NX.out (by omega) (fun h => h2 h.1))
            clear h1 h2
            go_wp2_with fail
            go_roundw
            case measure => simp [intOf]; omega
            case rel => exact ⟨m + 1, by omega, by go_num, NN.out, X8.out, Y8.out, B8.out⟩
        · obtain rfl : m = a := by omega
          have hma' : ¬ (m : Int) < m := by omega
          have NN : Hid (∀ a' (ha : a' < m + 1) (hl : a' < p.sigs.length), 1 ≤ p.sigs[a'].1 ∧ p.sigs[a'].1 ≤ 99 ∧ (∃ k, ∃ hk : k < p.secs.length, atS p.secs p.sigs[a'].2.1 = (k : Int) ∧ 0 ≤ p.sigs[a'].2.2 ∧ p.sigs[a'].2.2 < p.secs[k].2.2.length) ∧ ∀ m (hm : m < a'), (p.sigs[m]'(by omega)).1 < p.sigs[a'].1 ∧ ¬ ((p.sigs[m]'(by omega)).2.1 = p.sigs[a'].2.1 ∧ (p.sigs[m]'(by omega)).2.2 = p.sigs[a'].2.2)) := Lib.hid (fun a' ha' hl => by
            rcases Nat.lt_or_ge a' m with h | h
            · exact HALL.out a' h hl
            · obtain rfl : a' = m := by omega
              rw [HX.out]
              exact ⟨H12.out.1, H12.out.2, KOK.out, fun j hj => HMS.out j hj (by omega)⟩)
          go_wp2_with fail
          go_roundw
          case measure => simp [intOf]; omega
          case rel => exact ⟨m + 1, by omega, by go_num, NN.out, XM.out, BM.out⟩
    · obtain rfl : a = n4 := by omega
      have hlt2 : ¬ (a : Int) < a := by omega
      by_cases h6 : a ≤ 10
      · have d6 : decide ((a : Int) ≤ 10) = true := decide_eq_true (by omega)
        have HR : Hid (sigsMay p = true) := Lib.hid (sigsMay_true ⟨by rw [← HN4.out]; exact h6, fun a' ha' => HALL.out a' (by rw [HN4.out]; exact ha') ha'⟩)
        clear h6
        go_wp2_with fail
        go_ret
        exact ⟨by rw [HR.out]; rfl, BW.out⟩
      · have d6 : decide ((a : Int) ≤ 10) = false := decide_eq_false (by omega)
        have HF : Hid (sigsMay p = false) := Lib.hid (sigsMay_false fun h => h6 (by rw [HN4.out]; exact h.n))
        clear h6
        go_wp2_with fail
        go_ret
        exact ⟨by rw [HF.out]; rfl, BW.out⟩
end Go.Proofs.Ythlolpflgninjaa
