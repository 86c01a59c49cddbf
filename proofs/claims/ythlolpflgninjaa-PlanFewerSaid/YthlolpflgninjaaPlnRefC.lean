/-
  The document's own functions of package plan: points.
  Conditions: none.
-/
import Derived.Test.YthlolpflgninjaaPlnRefB
set_option linter.unusedVariables false
set_option linter.unusedSimpArgs false
set_option maxRecDepth 100000
namespace Go.Proofs.Ythlolpflgninjaa
open Go.RowKit
abbrev hasPt : Sec → Bool := fun s => decide (s.2.1 ≠ 0)
/-- A plan's points may be. -/
structure PtsMay (p : Pl) : Prop where
  n : p.pts.length ≤ 6
  many : p.secs.countP hasPt = p.pts.length
  each : ∀ i (h : i < p.pts.length), 1 ≤ p.pts[i].1 ∧ p.pts[i].1 ≤ 99 ∧ (∀ j (hj : j + 1 = i), (p.pts[j]'(by omega)).1 < p.pts[i].1) ∧ ∃ k, ∃ hk : k < p.secs.length, atS p.secs p.pts[i].2 = (k : Int) ∧ p.secs[k].2.1 = p.pts[i].1
noncomputable def ptsMay (p : Pl) : Bool := @decide (PtsMay p) (Classical.propDecidable _)
theorem ptsMay_true {p : Pl} (h : PtsMay p) : ptsMay p = true := by rw [ptsMay]; exact @decide_eq_true _ (Classical.propDecidable _) h
theorem ptsMay_false {p : Pl} (h : ¬ PtsMay p) : ptsMay p = false := by rw [ptsMay]; exact @decide_eq_false _ (Classical.propDecidable _) h
theorem ptsMay_iff {p : Pl} : ptsMay p = true ↔ PtsMay p := by rw [ptsMay]; exact @decide_eq_true_iff _ (Classical.propDecidable _)
theorem count_take {α : Type} (f : α → Bool) {l : List α} {i : Nat} (hi : i < l.length) : (l.take (i + 1)).countP f = (l.take i).countP f + if f l[i] then 1 else 0 := by
  rw [List.take_add_one, List.getElem?_eq_getElem hi, List.countP_append]
  simp [List.countP_cons]
theorem count_le {α : Type} (f : α → Bool) (l : List α) (i : Nat) : (l.take i).countP f ≤ i := Nat.le_trans List.countP_le_length (by rw [List.length_take]; omega)

set_option maxHeartbeats 8000000 in
theorem rpoints_any (v : Value) (p : Pl) (w : World) (h : PlanV w w.heap.size v p) :
    Calls Try.prog 74 #[v] w fun e w' => e = .returned (.bool (ptsMay p)) ∧ Below w.heap.size w w' := by
  obtain ⟨y2, y3, y4, y5, rfl, hin⟩ := h
  have HIN := Lib.hid hin
  obtain ⟨A2, c2, rfl, hcl2, hcm2⟩ := hin.secs.slice
  obtain ⟨A3, c3, rfl, hcl3, hcm3⟩ := hin.pts.slice
  unfold maxLen at hcm2 hcm3
  obtain ⟨n2, hn2⟩ : ∃ n, n = p.secs.length := ⟨_, rfl⟩
  obtain ⟨n3, hn3⟩ : ∃ n, n = p.pts.length := ⟨_, rfl⟩
  have hm2 : n2 ≤ 9223372036854775807 := by omega
  have hm3 : n3 ≤ 9223372036854775807 := by omega
  have HS : Hid (SectsIn w w.heap.size (.slice A2 n2 c2) p.secs) := Lib.hid (by rw [hn2]; exact hin.secs)
  have HA : Hid (JoinsIn w w.heap.size (.slice A3 n3 c3) p.pts) := Lib.hid (by rw [hn3]; exact hin.pts)
  have HN2 := Lib.hid hn2
  have HN3 := Lib.hid hn3
  rw [← hn2, ← hn3]
  have hq0 := heap_alloc_self w (.cells #[.int .i64 p.ver, .int .i64 p.par, .slice A2 n2 c2, .slice A3 n3 c3, y4, y5] 30)
  have hqb := below_new w (.cells #[.int .i64 p.ver, .int .i64 p.par, .slice A2 n2 c2, .slice A3 n3 c3, y4, y5] 30)
  clear hn2 hn3 HIN hcl2 hcm2 hcl3 hcm3 hin
  go_enter Try.func74, Try.ntmps74
  go_upto_region 1 with fail
  generalize w.alloc (.cells #[.int .i64 p.ver, .int .i64 p.par, .slice A2 n2 c2, .slice A3 n3 c3, y4, y5] 30) = q at hq0 hqb ⊢
  have QB := Lib.hid hqb
  have QX := Lib.hid hq0
  have HSQ := Lib.hid ((HS.out.below secR_ hqb).more secR_ hqb.size)
  obtain ⟨k0, k1, k2, k3, k4, k5⟩ := cell6_of hq0
  clear hq0 hqb k0 k1 k4 k5
  go_wp2_with fail
  go_loopw [3, 4] (fun s3 s4 wr => ∃ i m : Nat, i ≤ n2 ∧ s4 = .int .i64 i ∧ s3 = .int .i64 m ∧ m ≤ i ∧ m = (p.secs.take i).countP hasPt ∧ wr = q) (fun _ s4 _ => n2 - (intOf s4).toNat)
  case atStart => exact ⟨0, 0, by omega, by go_num, by go_num, by omega, by simp, rfl⟩
  case round =>
    obtain ⟨i, m, hi, rfl, rfl, hmi, hm, rfl⟩ := hrel
    have HM := Lib.hid hm
    clear hm
    by_cases hlt : i < n2
    · have hlt' : (i : Int) < n2 := by omega
      have hir : i < p.secs.length := by rw [← HN2.out]; exact hlt
      obtain ⟨b, off, rfl, hb, hc0, hc1, -⟩ := HSQ.out.at hir
      obtain ⟨z, hz⟩ : ∃ z, z = p.secs[i].2.1 := ⟨_, rfl⟩
      have hcell : wr.cell? ⟨b, off + i * 3 + 1, none⟩ = some (.int .i64 z) := by rw [hz]; exact hc1
      have HZ := Lib.hid hz
      clear hc0 hc1 hz hb
      by_cases he : z = 0
      · have hne : (z != 0) = false := by simpa using he
        have HS1 : Hid (m = (p.secs.take (i + 1)).countP hasPt) := Lib.hid (by rw [count_take hasPt hir, if_neg (by simp [hasPt, ← HZ.out, he]), ← HM.out]; rfl)
        clear he
        go_wp2_with fail
        go_roundw
        case measure => simp [intOf]; omega
        case rel => exact ⟨i + 1, m, by omega, by go_num, rfl, by omega, HS1.out, trivial⟩
      · have hne : (z != 0) = true := by simpa using he
        have HS1 : Hid (m + 1 = (p.secs.take (i + 1)).countP hasPt) := Lib.hid (by rw [count_take hasPt hir, if_pos (by simp [hasPt, ← HZ.out, he]), ← HM.out])
        clear he
        go_wp2_with fail
        go_roundw
        case measure => simp [intOf]; omega
        case rel => exact ⟨i + 1, m + 1, by omega, by go_num, by go_num, by omega, HS1.out, trivial⟩
    · obtain rfl : i = n2 := by omega
      have hlt' : ¬ (i : Int) < i := by omega
      have MANY : Hid (m = p.secs.countP hasPt) := Lib.hid (by rw [HM.out, HN2.out, List.take_length])
      have MLE : Hid (m ≤ i) := Lib.hid hmi
      clear HM
      go_wp2_with fail
      go_loopw [5] (fun s5 wr => ∃ a : Nat, a ≤ n3 ∧ s5 = .int .i64 a ∧ (∀ a' (ha : a' < a) (hl : a' < p.pts.length), 1 ≤ p.pts[a'].1 ∧ p.pts[a'].1 ≤ 99 ∧ (∀ j (hj : j + 1 = a'), (p.pts[j]'(by omega)).1 < p.pts[a'].1) ∧ ∃ k, ∃ hk : k < p.secs.length, atS p.secs p.pts[a'].2 = (k : Int) ∧ p.secs[k].2.1 = p.pts[a'].1) ∧ wr.heap[w.heap.size]? = some (.cells #[.int .i64 p.ver, .int .i64 p.par, .slice A2 i c2, .slice A3 n3 c3, y4, y5] 30 (0, 0)) ∧ Below w.heap.size w wr) (fun s5 _ => n3 - (intOf s5).toNat)
      case atStart => exact ⟨0, by omega, by go_num, fun a' ha => absurd ha (by omega), QX.out, QB.out⟩
      case round =>
        obtain ⟨a, ha, rfl, hall, hx, hbw⟩ := hrel
        have HALL := Lib.hid hall
        have XW := Lib.hid hx
        have BW := Lib.hid hbw
        clear hall hx hbw k2 k3 HSQ QB QX
        obtain ⟨k0, k1, k2, k3, k4, k5⟩ := cell6_of XW.out
        by_cases hlt : a < n3
        · have hlt2 : (a : Int) < n3 := by omega
          have har : a < p.pts.length := by rw [← HN3.out]; exact hlt
          obtain ⟨b, off, rfl, hb, hc0, hc1⟩ := ((HA.out.below joinR BW.out).more joinR BW.out.size).at har
          obtain ⟨x0, x1, hx⟩ : ∃ x0 x1, p.pts[a] = (x0, x1) := ⟨_, _, rfl⟩
          have HX := Lib.hid hx
          rw [hx] at hc0 hc1
          have hg0 : wr.cell? ⟨b, off + a * 2, none⟩ = some (.int .i64 x0) := hc0
          have hg1 : wr.cell? ⟨b, off + a * 2 + 1, none⟩ = some (.int .i64 x1) := hc1
          have hz0 := heap_alloc_self wr (.cells #[.int .i64 x0, .int .i64 x1] 43)
          have hzb := below_new wr (.cells #[.int .i64 x0, .int .i64 x1] 43)
          obtain ⟨q6, hq6⟩ : ∃ q6, q6 = wr.alloc (.cells #[.int .i64 x0, .int .i64 x1] 43) := ⟨_, rfl⟩
          rw [← hq6] at hz0 hzb
          clear hc0 hc1 hx hb
          go_upto_region 11 with fail
          rw [← hq6]
          have B6 := Lib.hid (BW.out.trans (hzb.mono BW.out.size))
          have X6 := Lib.hid hz0
          have XW6 := Lib.hid ((hzb.block _ (heap_lt XW.out)).trans XW.out)
          generalize wr.heap.size = p6 at X6 ⊢
          clear hz0 hzb hq6 k0 k1 k2 k3 k4 k5 hg0 hg1 BW XW
          obtain ⟨k0, k1, k2, k3, k4, k5⟩ := cell6_of XW6.out
          obtain ⟨z0, z1⟩ := cell2_of X6.out
          have HS6 := Lib.hid ((HS.out.below secR_ B6.out).more secR_ B6.out.size)
          have HA6 := Lib.hid ((HA.out.below joinR B6.out).more joinR B6.out.size)
          have BD : Hid (∀ nq, Below w.heap.size w (q6.drewN nq)) := Lib.hid (fun nq => ⟨B6.out.os, B6.out.tape, B6.out.output, B6.out.size, B6.out.block⟩)
          have XD : Hid (∀ nq, (q6.drewN nq).heap[w.heap.size]? = some (.cells #[.int .i64 p.ver, .int .i64 p.par, .slice A2 i c2, .slice (some ⟨b, off, none⟩) n3 c3, y4, y5] 30 (0, 0))) := Lib.hid (fun nq => XW6.out)
          have ME : Hid (∀ h : PtsMay p, 1 ≤ x0 ∧ x0 ≤ 99 ∧ (∀ j (hj : j + 1 = a), (p.pts[j]'(by omega)).1 < x0) ∧ ∃ k, ∃ hk : k < p.secs.length, atS p.secs x1 = (k : Int) ∧ p.secs[k].2.1 = x0) := Lib.hid (fun h => by have := h.each a har; rw [HX.out] at this; exact this)
          go_upto_region 12 with (refine (rat_any _ p.secs x1 _ HS6.out).mono ?_; rintro e w' ⟨rfl, hw'⟩; rw [hw']; clear hw' w')
          obtain ⟨kk, hkk⟩ : ∃ kk, kk = atS p.secs x1 := ⟨_, rfl⟩
          have HKK := Lib.hid hkk
          rw [← hkk]
          clear hkk
          by_cases h1 : x0 < 1
          · have d1 : decide (x0 < 1) = true := decide_eq_true h1
            have HF : Hid (ptsMay p = false) := Lib.hid (ptsMay_false fun h => by have := ME.out h; omega)
            clear h1
            go_quiet (fail)
            have hdb := BD.out nq
            have hdx := XD.out nq
            generalize q6.drewN nq = q7 at hdb hdx ⊢
            have B7 := Lib.hid hdb
            have X7 := Lib.hid hdx
            clear hdb hdx BD XD
            go_wp2_with fail
            go_ret
            exact ⟨by rw [HF.out]; rfl, B7.out⟩
          have d1 : decide (x0 < 1) = false := decide_eq_false h1
          by_cases h2 : 99 < x0
          · have d2 : decide (99 < x0) = true := decide_eq_true h2
            have HF : Hid (ptsMay p = false) := Lib.hid (ptsMay_false fun h => by have := ME.out h; omega)
            clear h1 h2
            go_quiet (fail)
            have hdb := BD.out nq
            have hdx := XD.out nq
            generalize q6.drewN nq = q7 at hdb hdx ⊢
            have B7 := Lib.hid hdb
            have X7 := Lib.hid hdx
            clear hdb hdx BD XD
            go_wp2_with fail
            go_ret
            exact ⟨by rw [HF.out]; rfl, B7.out⟩
          have d2 : decide (99 < x0) = false := decide_eq_false h2
          have H12 : Hid (1 ≤ x0 ∧ x0 ≤ 99) := Lib.hid (by omega)
          clear h1 h2
          have PREV : Hid (∃ pv : Int, (0 < a → q6.cell? ⟨b, off + (a - 1) * 2, none⟩ = some (.int .i64 pv)) ∧ (∀ j (hj : j + 1 = a), (p.pts[j]'(by omega)).1 = pv)) := Lib.hid (by
            rcases Nat.eq_zero_or_pos a with h0 | hp
            · exact ⟨0, fun h => absurd h (by omega), fun j hj => by omega⟩
            · have hr1 : a - 1 < p.pts.length := by omega
              obtain ⟨b', off', e', hb', hd0, hd1⟩ := HA6.out.at hr1
              cases e'
              refine ⟨p.pts[a - 1].1, fun _ => hd0, fun j hj => ?_⟩
              obtain rfl : j = a - 1 := by omega
              rfl)
          obtain ⟨pv, hpv, hpv2⟩ := PREV.out
          have PV2 := Lib.hid hpv2
          have PV := Lib.hid hpv
          clear hpv hpv2 PREV
          by_cases h3 : 0 < a ∧ x0 ≤ pv
          · have hap : 0 < a := h3.1
            have d4 : decide (x0 ≤ pv) = true := decide_eq_true h3.2
            have g3 := PV.out h3.1
            obtain ⟨y1, hy1⟩ : ∃ z, z = a - 1 := ⟨_, rfl⟩
            have g4 : (a : Int) - 1 = (y1 : Int) := by omega
            have g5 : (y1 : Int) < n3 := by omega
            have g6 : q6.cell? ⟨b, off + y1 * 2, none⟩ = some (.int .i64 pv) := by rw [hy1]; exact g3
            clear hy1
            have HF : Hid (ptsMay p = false) := Lib.hid (ptsMay_false fun h => by
              have h5 := (ME.out h).2.2.1 (a - 1) (by omega)
              rw [PV2.out (a - 1) (by omega)] at h5
              omega)
            clear h3
            go_quiet (fail)
            have hdb := BD.out nq
            have hdx := XD.out nq
            generalize q6.drewN nq = q7 at hdb hdx ⊢
            have B7 := Lib.hid hdb
            have X7 := Lib.hid hdx
            clear hdb hdx BD XD
            go_wp2_with fail
            go_ret
            exact ⟨by rw [HF.out]; rfl, B7.out⟩
          have d34 : a = 0 ∨ (decide (x0 ≤ pv) = false ∧ 0 < a) := by
            by_cases h : 0 < a
            · exact .inr ⟨decide_eq_false (fun h2 => h3 ⟨h, h2⟩), h⟩
            · exact .inl (by omega)
          have HPR : Hid (∀ j (hj : j + 1 = a), (p.pts[j]'(by omega)).1 < x0) := Lib.hid (fun j hj => by
            rw [PV2.out j hj]
            have := fun h2 => h3 ⟨(by omega : 0 < a), h2⟩
            omega)
          have ATC := Lib.hid (atS_cases p.secs x1)
          have NX : Hid (∀ k (hk : k < p.secs.length), kk = (k : Int) → p.secs[k].2.1 = x0 → ∀ a' (ha : a' < a + 1) (hl : a' < p.pts.length), 1 ≤ p.pts[a'].1 ∧ p.pts[a'].1 ≤ 99 ∧ (∀ j (hj : j + 1 = a'), (p.pts[j]'(by omega)).1 < p.pts[a'].1) ∧ ∃ k, ∃ hk : k < p.secs.length, atS p.secs p.pts[a'].2 = (k : Int) ∧ p.secs[k].2.1 = p.pts[a'].1) := Lib.hid (fun k hk hkk he a' ha' hl => by
            rcases Nat.lt_or_ge a' a with h | h
            · exact HALL.out a' h hl
            · obtain rfl : a' = a := by omega
              rw [HX.out]
              exact ⟨H12.out.1, H12.out.2, HPR.out, k, hk, HKK.out.symm.trans hkk, he⟩)
          clear h3
          rcases d34 with rfl | ⟨d4, hap⟩
          · by_cases h6 : kk < 0
            · have d6 : decide (kk < 0) = true := decide_eq_true h6
              have HF : Hid (ptsMay p = false) := Lib.hid (ptsMay_false fun h => by
                obtain ⟨k, _, hk, _⟩ := (ME.out h).2.2.2
                have := HKK.out
                omega)
              clear h6
              go_quiet (fail)
              have hdb := BD.out nq
              have hdx := XD.out nq
              generalize q6.drewN nq = q7 at hdb hdx ⊢
              have B7 := Lib.hid hdb
              have X7 := Lib.hid hdx
              clear hdb hdx BD XD
              go_wp2_with fail
              go_ret
              exact ⟨by rw [HF.out]; rfl, B7.out⟩
            · obtain ⟨k, hkr, hk1⟩ : ∃ k, ∃ hk : k < p.secs.length, kk = (k : Int) := by
                rcases ATC.out with h | ⟨k, hk, h, _⟩
                · have := HKK.out; omega
                · exact ⟨k, hk, HKK.out.trans h⟩
              subst hk1
              have d6 : decide ((k : Int) < 0) = false := decide_eq_false h6
              have hkn : (k : Int) < i := by have := HN2.out; omega
              obtain ⟨b2, off2, e2, hb2, hs0, hs1, -⟩ := HS6.out.at hkr
              cases e2
              obtain ⟨z, hz⟩ : ∃ z, z = p.secs[k].2.1 := ⟨_, rfl⟩
              have hg : q6.cell? ⟨b2, off2 + k * 3 + 1, none⟩ = some (.int .i64 z) := by rw [hz]; exact hs1
              have HZ := Lib.hid hz
              clear hs0 hs1 hz hb2 h6
              by_cases h7 : z = x0
              · have d7 : (z != x0) = false := by simpa using h7
                have NN := Lib.hid (NX.out k hkr rfl (HZ.out.symm.trans h7))
                clear h7 NX
                go_quiet (fail)
                have hdb := BD.out nq
                have hdx := XD.out nq
                generalize q6.drewN nq = q7 at hdb hdx ⊢
                have B7 := Lib.hid hdb
                have X7 := Lib.hid hdx
                clear hdb hdx BD XD
                go_wp2_with fail
                go_roundw
                case measure => simp [intOf]; omega
                case rel => exact ⟨0 + 1, by omega, by go_num, NN.out, X7.out, B7.out⟩
              · have d7 : (z != x0) = true := by simpa using h7
                have HF : Hid (ptsMay p = false) := Lib.hid (ptsMay_false fun h => by
                  obtain ⟨k', hk', hk2, hk3⟩ := (ME.out h).2.2.2
                  obtain rfl : k' = k := by have := HKK.out; omega
                  exact h7 (HZ.out.trans hk3))
                clear h7
                go_quiet (fail)
                have hdb := BD.out nq
                have hdx := XD.out nq
                generalize q6.drewN nq = q7 at hdb hdx ⊢
                have B7 := Lib.hid hdb
                have X7 := Lib.hid hdx
                clear hdb hdx BD XD
                go_wp2_with fail
                go_ret
                exact ⟨by rw [HF.out]; rfl, B7.out⟩
          · have g3 := PV.out hap
            obtain ⟨y1, hy1⟩ : ∃ z, z = a - 1 := ⟨_, rfl⟩
            have g4 : (a : Int) - 1 = (y1 : Int) := by omega
            have g5 : (y1 : Int) < n3 := by omega
            have g6 : q6.cell? ⟨b, off + y1 * 2, none⟩ = some (.int .i64 pv) := by rw [hy1]; exact g3
            clear hy1
            by_cases h6 : kk < 0
            · have d6 : decide (kk < 0) = true := decide_eq_true h6
              have HF : Hid (ptsMay p = false) := Lib.hid (ptsMay_false fun h => by
                obtain ⟨k, _, hk, _⟩ := (ME.out h).2.2.2
                have := HKK.out
                omega)
              clear h6
              go_quiet (fail)
              have hdb := BD.out nq
              have hdx := XD.out nq
              generalize q6.drewN nq = q7 at hdb hdx ⊢
              have B7 := Lib.hid hdb
              have X7 := Lib.hid hdx
              clear hdb hdx BD XD
              go_wp2_with fail
              go_ret
              exact ⟨by rw [HF.out]; rfl, B7.out⟩
            · obtain ⟨k, hkr, hk1⟩ : ∃ k, ∃ hk : k < p.secs.length, kk = (k : Int) := by
                rcases ATC.out with h | ⟨k, hk, h, _⟩
                · have := HKK.out; omega
                · exact ⟨k, hk, HKK.out.trans h⟩
              subst hk1
              have d6 : decide ((k : Int) < 0) = false := decide_eq_false h6
              have hkn : (k : Int) < i := by have := HN2.out; omega
              obtain ⟨b2, off2, e2, hb2, hs0, hs1, -⟩ := HS6.out.at hkr
              cases e2
              obtain ⟨z, hz⟩ : ∃ z, z = p.secs[k].2.1 := ⟨_, rfl⟩
              have hg : q6.cell? ⟨b2, off2 + k * 3 + 1, none⟩ = some (.int .i64 z) := by rw [hz]; exact hs1
              have HZ := Lib.hid hz
              clear hs0 hs1 hz hb2 h6
              by_cases h7 : z = x0
              · have d7 : (z != x0) = false := by simpa using h7
                have NN := Lib.hid (NX.out k hkr rfl (HZ.out.symm.trans h7))
                clear h7 NX
                go_quiet (fail)
                have hdb := BD.out nq
                have hdx := XD.out nq
                generalize q6.drewN nq = q7 at hdb hdx ⊢
                have B7 := Lib.hid hdb
                have X7 := Lib.hid hdx
                clear hdb hdx BD XD
                go_wp2_with fail
                go_roundw
                case measure => simp [intOf]; omega
                case rel => exact ⟨a + 1, by omega, by go_num, NN.out, X7.out, B7.out⟩
              · have d7 : (z != x0) = true := by simpa using h7
                have HF : Hid (ptsMay p = false) := Lib.hid (ptsMay_false fun h => by
                  obtain ⟨k', hk', hk2, hk3⟩ := (ME.out h).2.2.2
                  obtain rfl : k' = k := by have := HKK.out; omega
                  exact h7 (HZ.out.trans hk3))
                clear h7
                go_quiet (fail)
                have hdb := BD.out nq
                have hdx := XD.out nq
                generalize q6.drewN nq = q7 at hdb hdx ⊢
                have B7 := Lib.hid hdb
                have X7 := Lib.hid hdx
                clear hdb hdx BD XD
                go_wp2_with fail
                go_ret
                exact ⟨by rw [HF.out]; rfl, B7.out⟩
        · obtain rfl : a = n3 := by omega
          have hlt2 : ¬ (a : Int) < a := by omega
          have hmm : m ≤ 9223372036854775807 := by have := MLE.out; omega
          by_cases h6 : a ≤ 6
          · have d6 : decide ((a : Int) ≤ 6) = true := decide_eq_true (by omega)
            by_cases hma : m = a
            · have dm : ((m : Int) == a) = true := by rw [hma]; simp
              have HR : Hid (ptsMay p = true) := Lib.hid (ptsMay_true ⟨by rw [← HN3.out]; exact h6, by rw [← MANY.out, ← HN3.out]; exact hma, fun a' ha' => HALL.out a' (by rw [HN3.out]; exact ha') ha'⟩)
              clear h6 hma
              go_wp2_with fail
              go_ret
              exact ⟨by rw [HR.out]; rfl, BW.out⟩
            · have dm : ((m : Int) == a) = false := by rw [beq_eq_false_iff_ne]; omega
              have HF : Hid (ptsMay p = false) := Lib.hid (ptsMay_false fun h => hma (by rw [MANY.out, HN3.out]; exact h.many))
              clear h6 hma
              go_wp2_with fail
              go_ret
              exact ⟨by rw [HF.out]; rfl, BW.out⟩
          · have d6 : decide ((a : Int) ≤ 6) = false := decide_eq_false (by omega)
            have HF : Hid (ptsMay p = false) := Lib.hid (ptsMay_false fun h => h6 (by rw [HN3.out]; exact h.n))
            clear h6
            go_wp2_with fail
            go_ret
            exact ⟨by rw [HF.out]; rfl, BW.out⟩
end Go.Proofs.Ythlolpflgninjaa
