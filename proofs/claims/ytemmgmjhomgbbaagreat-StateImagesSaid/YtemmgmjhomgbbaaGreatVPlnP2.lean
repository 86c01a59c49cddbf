/-
 The program's package plan: leads, points, signals, routes, Check.
 Conditions: none.
-/
import Derived.Test.YtemmgmjhomgbbaaGreatVPlnP1
import Derived.Test.YtemmgmjhomgbbaaGreatVGTrkPH
set_option linter.unusedVariables false
set_option linter.unusedSimpArgs false
set_option maxRecDepth 100000
namespace Go.Proofs.YtemmgmjhomgbbaaGreat
open Go.RowKit

set_option maxHeartbeats 16000000 in
theorem leads_prog (v y : Value) (p : Pl) (r : Rt) (w : World) (h : PlanV w w.heap.size v p) (h' : RouteV w w.heap.size y r) (ht : TMay p.secs) :
  Calls Tryz.prog 109 #[v, y] w fun e w' => e = .returned (.bool (propB (LeadsP p r))) ∧ Below w.heap.size w w' := by
 have HT := Lib.hid ht
 clear ht
 obtain ⟨A2, c2, A3, c3, A4, c4, A5, c5, n2, n3, n4, n5, rfl, hm2, hm3, hm4, hm5, HCP, HIN, HN⟩ := open_plan h
 obtain ⟨z3, z4, z5, rfl, hrt⟩ := h'
 have HRT0 := Lib.hid hrt
 obtain ⟨C3, e3, rfl, hdl3, hdm3⟩ := hrt.path.slice
 obtain ⟨C4, e4, rfl, hdl4, hdm4⟩ := hrt.over.slice
 obtain ⟨C5, e5, rfl, hdl5, hdm5⟩ := hrt.flanks.slice
 unfold maxLen at hdm3 hdm4 hdm5
 obtain ⟨l3, hl3⟩ : ∃ n, n = r.path.length := ⟨_, rfl⟩
 obtain ⟨l4, hl4⟩ : ∃ n, n = r.over.length := ⟨_, rfl⟩
 obtain ⟨l5, hl5⟩ : ∃ n, n = r.flanks.length := ⟨_, rfl⟩
 have hk3 : l3 ≤ 9223372036854775807 := by omega
 have hk4 : l4 ≤ 9223372036854775807 := by omega
 have hk5 : l5 ≤ 9223372036854775807 := by omega
 have HRT : Hid (RtIn w w.heap.size (.slice C3 l3 e3) (.slice C4 l4 e4) (.slice C5 l5 e5) r) := Lib.hid (by rw [hl3, hl4, hl5]; exact HRT0.out)
 have HL : Hid (l3 = r.path.length ∧ l4 = r.over.length ∧ l5 = r.flanks.length) := Lib.hid ⟨hl3, hl4, hl5⟩
 rw [← hl3, ← hl4, ← hl5]
 clear hl3 hl4 hl5 HRT0 hrt hdl3 hdm3 hdl4 hdm4 hdl5 hdm5
 have hq := two_boxes w (.cells #[.int .i64 p.ver, .int .i64 p.par, .slice A2 n2 c2, .slice A3 n3 c3, .slice A4 n4 c4, .slice A5 n5 c5] 27) (.cells #[.int .i64 r.id, .int .i64 r.entry, .int .i64 r.exit, .slice C3 l3 e3, .slice C4 l4 e4, .slice C5 l5 e5, .int .i64 r.timer] 64)
 go_enter Tryz.func109, Tryz.ntmps109
 go_upto_region 1 with fail
 generalize (w.alloc (.cells #[.int .i64 p.ver, .int .i64 p.par, .slice A2 n2 c2, .slice A3 n3 c3, .slice A4 n4 c4, .slice A5 n5 c5] 27)).alloc (.cells #[.int .i64 r.id, .int .i64 r.entry, .int .i64 r.exit, .slice C3 l3 e3, .slice C4 l4 e4, .slice C5 l5 e5, .int .i64 r.timer] 64) = q at hq ⊢
 obtain ⟨q0, q1, qb⟩ := hq
 have XP := Lib.hid q0
 have XR := Lib.hid q1
 have BQ := Lib.hid qb
 clear q0 q1 qb
 obtain ⟨m0, m1, m2, m3, m4, m5, m6⟩ := cell7_of XR.out
 obtain ⟨k0, k1, k2, k3, k4, k5⟩ := cell6_of XP.out
 have HI := Lib.hid ((HIN.out.below BQ.out).more BQ.out.size)
 have HR := Lib.hid ((HRT.out.below BQ.out).more BQ.out.size)
 have FA := Lib.hid (find_at1 kSg p.sigs r.entry (0, 0, 0))
 go_wp2_with fail
 refine (find_sg _ p.sigs r.entry _ (((HIN.out.below BQ.out).more BQ.out.size).sigs)).mono ?_
 rintro e w1 ⟨rfl, b1⟩
 generalize findV kSg p.sigs r.entry (0, 0, 0) = fv at FA ⊢
 generalize findB kSg p.sigs r.entry = fb at FA ⊢
 obtain ⟨f0, f1, f2⟩ := fv
 dsimp only
 clear k0 k1 k2 k3 k4 k5 m0 m1 m2 m3 m4 m5 m6
 replace BQ := Lib.hid (BQ.out.trans (b1.mono BQ.out.size))
 replace XP := Lib.hid ((b1.block _ (heap_lt XP.out)).trans XP.out)
 replace XR := Lib.hid ((b1.block _ (heap_lt XR.out)).trans XR.out)
 replace HI := Lib.hid ((HI.out.below b1).more b1.size)
 replace HR := Lib.hid ((HR.out.below b1).more b1.size)
 clear b1
 obtain ⟨q3, hq⟩ : ∃ x, x = w1.alloc (.cells #[.int .i64 f0, .int .i64 f1, .int .i64 f2] 115) := ⟨_, rfl⟩
 have x1 := heap_alloc_self w1 (.cells #[.int .i64 f0, .int .i64 f1, .int .i64 f2] 115)
 have b1 := below_new w1 (.cells #[.int .i64 f0, .int .i64 f1, .int .i64 f2] 115)
 rw [← hq] at x1 b1
 go_upto_region 2 with fail
 rw [← hq]
 have X5 := Lib.hid x1
 generalize w1.heap.size = pX5 at X5 ⊢
 clear x1 hq
 replace BQ := Lib.hid (BQ.out.trans (b1.mono BQ.out.size))
 replace XP := Lib.hid ((b1.block _ (heap_lt XP.out)).trans XP.out)
 replace XR := Lib.hid ((b1.block _ (heap_lt XR.out)).trans XR.out)
 replace HI := Lib.hid ((HI.out.below b1).more b1.size)
 replace HR := Lib.hid ((HR.out.below b1).more b1.size)
 clear b1
 obtain ⟨m0, m1, m2, m3, m4, m5, m6⟩ := cell7_of XR.out
 obtain ⟨k0, k1, k2, k3, k4, k5⟩ := cell6_of XP.out
 rcases FA.out with ⟨rfl, -, ha⟩ | ⟨k, hk, rfl, hv, ha, -⟩
 ·have HF : Hid (propB (LeadsP p r) = false) := Lib.hid (propB_false fun h => by obtain ⟨k, hk, h2, -⟩ := h.entry; omega)
  go_wp2_with fail
  go_ret
  exact ⟨by rw [HF.out]; rfl, BQ.out⟩
 have KA : Hid (at1 kSg p.sigs r.entry = (k : Int) ∧ p.sigs[k].2.1 = f1) := Lib.hid ⟨ha, by rw [← hv]⟩
 clear ha hv
 go_wp2_with fail
 refine (leaves_any _ _ p r _ ⟨_, _, _, _, rfl, HI.out⟩ ⟨_, _, _, rfl, HR.out⟩).mono ?_
 rintro e w2 ⟨rfl, b1⟩
 clear k0 k1 k2 k3 k4 k5 m0 m1 m2 m3 m4 m5 m6
 replace BQ := Lib.hid (BQ.out.trans (b1.mono BQ.out.size))
 replace XP := Lib.hid ((b1.block _ (heap_lt XP.out)).trans XP.out)
 replace XR := Lib.hid ((b1.block _ (heap_lt XR.out)).trans XR.out)
 replace X5 := Lib.hid ((b1.block _ (heap_lt X5.out)).trans X5.out)
 replace HI := Lib.hid ((HI.out.below b1).more b1.size)
 replace HR := Lib.hid ((HR.out.below b1).more b1.size)
 clear b1
 obtain ⟨m0, m1, m2, m3, m4, m5, m6⟩ := cell7_of XR.out
 obtain ⟨k0, k1, k2, k3, k4, k5⟩ := cell6_of XP.out
 cases hlv : propB (LeavesP p r) with
 | false =>
  have HF : Hid (propB (LeadsP p r) = false) := Lib.hid (propB_false fun h => by rw [propB_true ⟨h.over0, h.exit⟩] at hlv; cases hlv)
  clear hlv
  go_wp2_with fail
  go_ret
  exact ⟨by rw [HF.out]; rfl, BQ.out⟩
 | true =>
 have LV := Lib.hid (propB_iff.1 hlv)
 clear hlv
 by_cases h1 : l3 < 1
 ·have d1 : decide ((l3 : Int) < 1) = true := decide_eq_true (by omega)
  have HF : Hid (propB (LeadsP p r) = false) := Lib.hid (propB_false fun h => by have := h.path.1; rw [← HL.out.1] at this; omega)
  clear h1
  go_wp2_with fail
  go_ret
  exact ⟨by rw [HF.out]; rfl, BQ.out⟩
 have d1 : decide ((l3 : Int) < 1) = false := decide_eq_false (by omega)
 by_cases h6 : 6 < l3
 ·have d6 : decide ((6 : Int) < l3) = true := decide_eq_true (by omega)
  have HF : Hid (propB (LeadsP p r) = false) := Lib.hid (propB_false fun h => by have := h.path.2; rw [← HL.out.1] at this; omega)
  clear h1 h6
  go_wp2_with fail
  go_ret
  exact ⟨by rw [HF.out]; rfl, BQ.out⟩
 have d6 : decide ((6 : Int) < l3) = false := decide_eq_false (by omega)
 by_cases h2 : 2 < l4
 ·have d2 : decide ((2 : Int) < l4) = true := decide_eq_true (by omega)
  have HF : Hid (propB (LeadsP p r) = false) := Lib.hid (propB_false fun h => by have := h.over; rw [← HL.out.2.1] at this; omega)
  clear h1 h6 h2
  go_wp2_with fail
  go_ret
  exact ⟨by rw [HF.out]; rfl, BQ.out⟩
 have d2 : decide ((2 : Int) < l4) = false := decide_eq_false (by omega)
 have LN : Hid ((1 ≤ l3 ∧ l3 ≤ 6) ∧ l4 ≤ 2) := Lib.hid (by omega)
 clear h1 h6 h2
 obtain ⟨q6, hq⟩ : ∃ x, x = w2.alloc (.cells #[.slice C3 l3 e3, .slice C4 l4 e4] 61) := ⟨_, rfl⟩
 have x1 := heap_alloc_self w2 (.cells #[.slice C3 l3 e3, .slice C4 l4 e4] 61)
 have b1 := below_new w2 (.cells #[.slice C3 l3 e3, .slice C4 l4 e4] 61)
 rw [← hq] at x1 b1
 have X6 := Lib.hid x1
 have HQ := Lib.hid hq
 have B6 := Lib.hid b1
 clear x1 b1 hq
 go_wp2_with fail
 rw [← HQ.out]
 have b1 := B6.out
 clear HQ B6 k0 k1 k2 k3 k4 k5 m0 m1 m2 m3 m4 m5 m6 d1 d2 d6
 generalize w2.heap.size = p6 at X6 ⊢
 replace BQ := Lib.hid (BQ.out.trans (b1.mono BQ.out.size))
 replace XP := Lib.hid ((b1.block _ (heap_lt XP.out)).trans XP.out)
 replace XR := Lib.hid ((b1.block _ (heap_lt XR.out)).trans XR.out)
 replace X5 := Lib.hid ((b1.block _ (heap_lt X5.out)).trans X5.out)
 replace HI := Lib.hid ((HI.out.below b1).more b1.size)
 replace HR := Lib.hid ((HR.out.below b1).more b1.size)
 clear b1
 refine (concat_any p6 C3 C4 l3 e3 l4 e4 r.path r.over q6 X6.out HR.out.path HR.out.over HL.out.1 HL.out.2.1 (by have := LN.out; omega) (by have := LN.out; omega)).mono ?_
 rintro e w6 ⟨A6, c6, N, rfl, hN, hI, b1⟩
 replace BQ := Lib.hid (BQ.out.trans (b1.mono BQ.out.size))
 replace XP := Lib.hid ((b1.block _ (heap_lt XP.out)).trans XP.out)
 replace X5 := Lib.hid ((b1.block _ (heap_lt X5.out)).trans X5.out)
 replace HI := Lib.hid ((HI.out.below b1).more b1.size)
 clear b1
 have LI := Lib.hid hI
 have HNN := Lib.hid hN
 have hNm : N ≤ 9223372036854775807 := by have := LN.out; have := HL.out; rw [hN, List.length_append]; omega
 have HC6 : Hid (N ≤ c6) := Lib.hid (by
  obtain ⟨A', cap, e6, h1, -, -, -⟩ := hI
  injection e6 with _ _ e7
  rw [hN, e7]
  exact h1)
 obtain ⟨al, hal⟩ : ∃ x, x = r.path ++ r.over := ⟨_, rfl⟩
 rw [← hal] at LI HNN
 have HAL := Lib.hid hal
 clear hN hI hal XR HR X6
 go_wp2_with fail
 go_loopw [50] (fun s50 wr => ∃ i : Nat, i ≤ N ∧ s50 = .int .i64 i ∧ (∀ i' (hi : i' < i) (hl : i' < al.length), al[i'] ≠ f1 ∧ 0 ≤ atS p.secs al[i'] ∧ ∀ m (hm : m < i'), al[m]'(by omega) ≠ al[i']) ∧ Below w6.heap.size w6 wr) (fun s50 _ => N - (intOf s50).toNat)
 case atStart => exact ⟨0, by omega, by go_num, fun i' hi => absurd hi (by omega), Below.refl _ _⟩
 case round =>
  obtain ⟨i, hi, rfl, hall, hb⟩ := hrel
  have HALL := Lib.hid hall
  have BW := Lib.hid hb
  have BV := Lib.hid (BQ.out.trans (hb.mono BQ.out.size))
  have YP := Lib.hid ((hb.block _ (heap_lt XP.out)).trans XP.out)
  have Y5 := Lib.hid ((hb.block _ (heap_lt X5.out)).trans X5.out)
  have LW := Lib.hid ((LI.out.below intR hb).more intR hb.size)
  have IW := Lib.hid ((HI.out.below hb).more hb.size)
  clear hall hb
  by_cases hlt : i < N
  ·have hlt' : (i : Int) < N := by omega
   have hic : (i : Int) ≤ c6 := by have := HC6.out; omega
   have hir : i < al.length := by rw [← HNN.out]; exact hlt
   have LT := Lib.hid (LW.out.take (Nat.le_of_lt hlt))
   obtain ⟨bk, off, rfl, hbk, hc0⟩ := LW.out.at hir
   obtain ⟨a, hz⟩ : ∃ z, z = al[i] := ⟨_, rfl⟩
   have hg0 : wr.cell? ⟨bk, off + i, none⟩ = some (.int .i64 a) := by rw [hz]; simpa [IntR] using hc0
   have HZ := Lib.hid hz
   clear hc0 hz hbk
   obtain ⟨g0, g1, g2⟩ := cell3_of Y5.out
   obtain ⟨k0, k1, k2, k3, k4, k5⟩ := cell6_of YP.out
   have FAIL : Hid (¬ (a ≠ f1 ∧ 0 ≤ atS p.secs a ∧ ∀ m (hm : m < i), al[m]'(by omega) ≠ a) → propB (LeadsP p r) = false) := Lib.hid (fun hn => propB_false fun h => hn (by
    have h2 := h.secs i (by rw [← HAL.out]; exact hir)
    obtain ⟨k2, hk2, he2, hne2⟩ := h.entry
    have h3 := hne2 i (by rw [← HAL.out]; exact hir)
    obtain rfl : k2 = k := by have := KA.out.1; omega
    rw [KA.out.2] at h3
    have hs := HAL.out
    subst hs
    rw [HZ.out]
    exact ⟨h3, h2.1, h2.2⟩))
   by_cases h1 : a = f1
   ·have hd : (a == f1) = true := by simpa using h1
    have HF := Lib.hid (FAIL.out fun h => h.1 h1)
    clear h1
    go_wp2_with fail
    go_ret
    exact ⟨by rw [HF.out]; rfl, BV.out⟩
   have hd : (a == f1) = false := by simpa using h1
   go_wp2_with fail
   refine (ends_any _ p.secs a wr IW.out.secs).mono ?_
   rintro e w7 ⟨rfl, b1⟩
   have B7 := Lib.hid (BW.out.trans (b1.mono BW.out.size))
   have BX := Lib.hid (BV.out.trans (b1.mono BV.out.size))
   have LT7 := Lib.hid ((LT.out.below intR b1).more intR b1.size)
   have ENZ := Lib.hid (endsN_zero HT.out (id := a))
   generalize endsN p.secs a = en at ENZ ⊢
   clear b1 k0 k1 k2 k3 k4 k5 g0 g1 g2 hg0
   by_cases h2 : en = 0
   ·have hd2 : (en == 0) = true := by simpa using h2
    have HF := Lib.hid (FAIL.out fun h => by have := ENZ.out.1 h2; omega)
    clear h1 h2
    go_wp2_with fail
    go_ret
    exact ⟨by rw [HF.out]; rfl, BX.out⟩
   have hd2 : (en == 0) = false := by simpa using h2
   have AT0 : Hid (0 ≤ atS p.secs a) := Lib.hid (by
    rcases Int.lt_or_le (atS p.secs a) 0 with h | h
    ·exact absurd (ENZ.out.2 h) h2
    ·exact h)
   have A1 := Lib.hid h1
   clear h1 h2
   go_wp2_with fail
   refine (contains_any _ (al.take i) a _ LT7.out).mono ?_
   rintro e w8 ⟨rfl, rfl⟩
   have INB := Lib.hid (inB_true (l := al.take i) (x := a))
   generalize inB (al.take i) a = ib at INB ⊢
   cases ib with
   | true =>
    have HF := Lib.hid (FAIL.out fun h => by
     obtain ⟨j, hj, he⟩ := INB.out.1 rfl
     rw [List.length_take] at hj
     rw [List.getElem_take] at he
     exact h.2.2 j (by omega) he)
    go_wp2_with fail
    go_ret
    exact ⟨by rw [HF.out]; rfl, BX.out⟩
   | false =>
    have NX : Hid (∀ i' (hi : i' < i + 1) (hl : i' < al.length), al[i'] ≠ f1 ∧ 0 ≤ atS p.secs al[i'] ∧ ∀ m (hm : m < i'), al[m]'(by omega) ≠ al[i']) := Lib.hid (fun i' hi' hl => by
     rcases Nat.lt_or_ge i' i with h | h
     ·exact HALL.out i' h hl
     ·obtain rfl : i' = i := by omega
      rw [← HZ.out]
      refine ⟨A1.out, AT0.out, fun m hm he => ?_⟩
      have := INB.out.2 ⟨m, by rw [List.length_take]; omega, by rw [List.getElem_take]; exact he⟩
      cases this)
    go_wp2_with fail
    go_roundw
    case measure => simp [intOf]; omega
    case rel => exact ⟨i + 1, by omega, by go_num, NX.out, B7.out⟩
  ·obtain rfl : i = N := by omega
   have hlt' : ¬ (i : Int) < i := by omega
   have HF : Hid (propB (LeadsP p r) = true) := Lib.hid (propB_true (by
    have hs := HAL.out
    subst hs
    have HA := fun a (ha : a < (r.path ++ r.over).length) => HALL.out a (by rw [HNN.out]; exact ha) ha
    exact ⟨⟨k, hk, KA.out.1, fun a ha => by rw [KA.out.2]; exact (HA a ha).1⟩, LV.out.2, LV.out.1, by rw [← HL.out.1]; exact LN.out.1, by rw [← HL.out.2.1]; exact LN.out.2, fun a ha => (HA a ha).2⟩))
   go_wp2_with fail
   go_ret
   exact ⟨by rw [HF.out]; rfl, BV.out⟩
set_option maxHeartbeats 16000000 in
theorem points_prog (v : Value) (p : Pl) (w : World) (h : PlanV w w.heap.size v p) (ht : TMay p.secs) :
  Calls Tryz.prog 85 #[v] w fun e w' => e = .returned (.bool (propB (PtsMay p))) ∧ Below w.heap.size w w' := by
 have HT := Lib.hid ht
 clear ht
 obtain ⟨A2, c2, A3, c3, A4, c4, A5, c5, n2, n3, n4, n5, rfl, hm2, hm3, hm4, hm5, HCP, HIN, HN⟩ := open_plan h
 have hq0 := heap_alloc_self w (.cells #[.int .i64 p.ver, .int .i64 p.par, .slice A2 n2 c2, .slice A3 n3 c3, .slice A4 n4 c4, .slice A5 n5 c5] 27)
 have hqb := below_new w (.cells #[.int .i64 p.ver, .int .i64 p.par, .slice A2 n2 c2, .slice A3 n3 c3, .slice A4 n4 c4, .slice A5 n5 c5] 27)
 go_enter Tryz.func85, Tryz.ntmps85
 go_upto_region 1 with fail
 generalize w.alloc (.cells #[.int .i64 p.ver, .int .i64 p.par, .slice A2 n2 c2, .slice A3 n3 c3, .slice A4 n4 c4, .slice A5 n5 c5] 27) = q at hq0 hqb ⊢
 have XP := Lib.hid hq0
 have BQ := Lib.hid hqb
 clear hq0 hqb
 obtain ⟨k0, k1, k2, k3, k4, k5⟩ := cell6_of XP.out
 by_cases h1 : 6 < n3
 ·have d1 : decide ((6 : Int) < n3) = true := decide_eq_true (by omega)
  have HF : Hid (propB (PtsMay p) = false) := Lib.hid (propB_false fun h => by have := (pts_iff HT.out).1 h; have := this.n; have := HN.out; omega)
  clear h1
  go_wp2_with fail
  go_ret
  exact ⟨by rw [HF.out]; rfl, BQ.out⟩
 have d1 : decide ((6 : Int) < n3) = false := decide_eq_false (by omega)
 have LIM : Hid (n3 ≤ 6) := Lib.hid (by omega)
 clear h1
 have HI := Lib.hid ((HIN.out.below BQ.out).more BQ.out.size)
 go_wp2_with fail
 refine (rising_pt _ p.pts _ HI.out.pts).mono ?_
 rintro e w1 ⟨rfl, b1⟩
 clear k0 k1 k2 k3 k4 k5
 replace BQ := Lib.hid (BQ.out.trans (b1.mono BQ.out.size))
 replace XP := Lib.hid ((b1.block _ (heap_lt XP.out)).trans XP.out)
 replace HI := Lib.hid ((HI.out.below b1).more b1.size)
 clear b1
 obtain ⟨k0, k1, k2, k3, k4, k5⟩ := cell6_of XP.out
 cases hrs : riseB kPt p.pts with
 | false =>
  have HF : Hid (propB (PtsMay p) = false) := Lib.hid (propB_false fun h => by rw [riseB_true (((pts_iff HT.out).1 h).rise)] at hrs; cases hrs)
  clear hrs
  go_wp2_with fail
  go_ret
  exact ⟨by rw [HF.out]; rfl, BQ.out⟩
 | true =>
 have RISE := Lib.hid (riseB_iff.1 hrs)
 clear hrs
 go_wp2_with fail
 clear k0 k1 k2 k3 k4 k5
 go_loopw [3, 21] (fun s3 s21 wr => ∃ (i m : Nat), i ≤ n2 ∧ s21 = .int .i64 i ∧ s3 = .int .i64 m ∧ m = (p.secs.take i).countP hasPt ∧ (∀ i' (hi : i' < i) (hl : i' < p.secs.length), p.secs[i'].2.1 ≠ 0 → ∃ j, ∃ hj : j < p.pts.length, at1 kPt p.pts p.secs[i'].2.1 = (j : Int) ∧ p.pts[j].2 = p.secs[i'].1) ∧ wr.heap[w.heap.size]? = some (.cells #[.int .i64 p.ver, .int .i64 p.par, .slice A2 n2 c2, .slice A3 n3 c3, .slice A4 n4 c4, .slice A5 n5 c5] 27 (0, 0)) ∧ Below w.heap.size w wr) (fun _ s21 _ => n2 - (intOf s21).toNat)
 case atStart => exact ⟨0, 0, by omega, by go_num, by go_num, rfl, fun i' hi => absurd hi (by omega), XP.out, BQ.out⟩
 case round =>
  obtain ⟨i, m, hi, rfl, rfl, hm, hall, hxp, hb⟩ := hrel
  have HM_ := Lib.hid hm
  have HALL := Lib.hid hall
  clear XP BQ
  have BW := Lib.hid hb
  have XP := Lib.hid hxp
  have hmi : m ≤ i := by rw [hm]; exact count_le _ _ _
  clear hall hb hm hxp
  by_cases hlt : i < n2
  ·have hlt' : (i : Int) < n2 := by omega
   have hir : i < p.secs.length := by rw [← HN.out.1]; exact hlt
   obtain ⟨bk, off, rfl, hbk, hc0, hc1, u, hc2, hu⟩ := ((HIN.out.secs.below secR_ BW.out).more secR_ BW.out.size).at hir
   obtain ⟨B3, d3, rfl, hu1, hu2⟩ := hu.slice
   obtain ⟨a, pt, es, hx⟩ : ∃ a pt es, p.secs[i] = (a, pt, es) := ⟨_, _, _, rfl⟩
   have HX := Lib.hid hx
   rw [hx] at hc0 hc1 hc2 hu hu1
   dsimp only at hc0 hc1 hc2 hu hu1
   obtain ⟨m3, e3⟩ : ∃ m, m = es.length := ⟨_, rfl⟩
   rw [← e3] at hc2 hu hu1
   have HM := Lib.hid e3
   have HU := Lib.hid hu
   have hm3 : m3 ≤ 9223372036854775807 := by unfold maxLen at hu2; omega
   have hg0 : wr.cell? ⟨bk, off + i * 3, none⟩ = some (.int .i64 a) := hc0
   have hg1 : wr.cell? ⟨bk, off + i * 3 + 1, none⟩ = some (.int .i64 pt) := hc1
   have hg2 : wr.cell? ⟨bk, off + i * 3 + 2, none⟩ = some (.slice B3 m3 d3) := hc2
   clear hc0 hc1 hc2 hx hbk hu e3 hu1 hu2
   obtain ⟨q, hq⟩ : ∃ x, x = wr.alloc (.cells #[.int .i64 a, .int .i64 pt, .slice B3 m3 d3] 60) := ⟨_, rfl⟩
   have x1 := heap_alloc_self wr (.cells #[.int .i64 a, .int .i64 pt, .slice B3 m3 d3] 60)
   have b1 := below_new wr (.cells #[.int .i64 a, .int .i64 pt, .slice B3 m3 d3] 60)
   rw [← hq] at x1 b1
   go_upto_region 7 with fail
   rw [← hq]
   have XS := Lib.hid x1
   generalize wr.heap.size = pXS at XS ⊢
   clear x1 hq hg0 hg1 hg2
   replace BW := Lib.hid (BW.out.trans (b1.mono BW.out.size))
   replace XP := Lib.hid ((b1.block _ (heap_lt XP.out)).trans XP.out)
   clear b1
   obtain ⟨g0, g1, g2⟩ := cell3_of XS.out
   obtain ⟨k0, k1, k2, k3, k4, k5⟩ := cell6_of XP.out
   have CNT : Hid ((p.secs.take (i + 1)).countP hasPt = m + if pt ≠ 0 then 1 else 0) := Lib.hid (by
    rw [count_take hasPt hir, HM_.out, HX.out]
    by_cases h : pt = 0
    ·rw [if_neg (by show ¬ decide (pt ≠ 0) = true; simpa using h), if_neg (by simpa using h)]
    ·rw [if_pos (by show decide (pt ≠ 0) = true; simpa using h), if_pos h])
   have NXT : Hid ((pt ≠ 0 → ∃ j, ∃ hj : j < p.pts.length, at1 kPt p.pts pt = (j : Int) ∧ p.pts[j].2 = a) → ∀ i' (hi : i' < i + 1) (hl : i' < p.secs.length), p.secs[i'].2.1 ≠ 0 → ∃ j, ∃ hj : j < p.pts.length, at1 kPt p.pts p.secs[i'].2.1 = (j : Int) ∧ p.pts[j].2 = p.secs[i'].1) := Lib.hid (fun h0 i' hi' hl => by
    rcases Nat.lt_or_ge i' i with h | h
    ·exact HALL.out i' h hl
    ·obtain rfl : i' = i := by omega
     rw [HX.out]; exact h0)
   have FAIL : Hid (pt ≠ 0 → ¬ (∃ j, ∃ hj : j < p.pts.length, at1 kPt p.pts pt = (j : Int) ∧ p.pts[j].2 = a) → propB (PtsMay p) = false) := Lib.hid (fun h0 hn => propB_false fun h => hn (by
    have := ((pts_iff HT.out).1 h).each i hir
    rw [HX.out] at this
    exact this h0))
   by_cases h0 : pt = 0
   ·have hd : (pt == 0) = true := by simpa using h0
    have NX := Lib.hid (NXT.out fun h => absurd h0 h)
    have CN : Hid (m = (p.secs.take (i + 1)).countP hasPt) := Lib.hid (by rw [CNT.out, if_neg (by simpa using h0), Nat.add_zero])
    clear h0
    go_wp2_with fail
    go_roundw
    case measure => simp [intOf]; omega
    case rel => exact ⟨i + 1, m, by omega, by go_num, rfl, CN.out, NX.out, XP.out, BW.out⟩
   have hd : (pt == 0) = false := by simpa using h0
   have CN : Hid (m + 1 = (p.secs.take (i + 1)).countP hasPt) := Lib.hid (by rw [CNT.out, if_pos h0])
   have P0 := Lib.hid h0
   clear h0
   have FA := Lib.hid (find_at1 kPt p.pts pt (0, 0))
   go_wp2_with fail
   refine (find_pt _ p.pts pt _ (((HIN.out.below BW.out).more BW.out.size).pts)).mono ?_
   rintro e w2 ⟨rfl, b1⟩
   generalize findV kPt p.pts pt (0, 0) = fv at FA ⊢
   generalize findB kPt p.pts pt = fb at FA ⊢
   obtain ⟨f0, f1⟩ := fv
   dsimp only
   clear g0 g1 g2 k0 k1 k2 k3 k4 k5
   replace BW := Lib.hid (BW.out.trans (b1.mono BW.out.size))
   replace XP := Lib.hid ((b1.block _ (heap_lt XP.out)).trans XP.out)
   replace XS := Lib.hid ((b1.block _ (heap_lt XS.out)).trans XS.out)
   clear b1
   obtain ⟨q3, hq⟩ : ∃ x, x = w2.alloc (.cells #[.int .i64 f0, .int .i64 f1] 67) := ⟨_, rfl⟩
   have x1 := heap_alloc_self w2 (.cells #[.int .i64 f0, .int .i64 f1] 67)
   have b1 := below_new w2 (.cells #[.int .i64 f0, .int .i64 f1] 67)
   rw [← hq] at x1 b1
   go_upto_region 9 with fail
   rw [← hq]
   have XQ := Lib.hid x1
   generalize w2.heap.size = pXQ at XQ ⊢
   clear x1 hq
   replace BW := Lib.hid (BW.out.trans (b1.mono BW.out.size))
   replace XP := Lib.hid ((b1.block _ (heap_lt XP.out)).trans XP.out)
   replace XS := Lib.hid ((b1.block _ (heap_lt XS.out)).trans XS.out)
   clear b1
   obtain ⟨g0, g1, g2⟩ := cell3_of XS.out
   obtain ⟨j0, j1⟩ := cell2_of XQ.out
   rcases FA.out with ⟨rfl, -, ha⟩ | ⟨j, hj, rfl, hv, ha, -⟩
   ·have HF := Lib.hid (FAIL.out P0.out (fun ⟨j, hj, h, _⟩ => by omega))
    go_wp2_with fail
    go_ret
    exact ⟨by rw [HF.out]; rfl, BW.out⟩
   by_cases h1 : f1 = a
   ·have d1 : (f1 != a) = false := by simpa using h1
    have NX := Lib.hid (NXT.out fun _ => ⟨j, hj, ha, by rw [← hv]; exact h1⟩)
    have hwm : IntKind.i64.wrap ((m : Int) + 1) = ((m + 1 : Nat) : Int) := by rw [wrap_id (by omega) (by omega)]; omega
    clear h1 ha hv
    go_wp2_with fail
    go_roundw
    case measure => simp [intOf]; omega
    case rel => exact ⟨i + 1, m + 1, by omega, by go_num, by go_num, CN.out, NX.out, XP.out, BW.out⟩
   ·have d1 : (f1 != a) = true := by simpa using h1
    have HF := Lib.hid (FAIL.out P0.out (fun ⟨j2, hj2, h2, h3⟩ => by
     obtain rfl : j2 = j := by omega
     rw [← hv] at h3
     exact h1 h3))
    clear h1 ha hv
    go_wp2_with fail
    go_ret
    exact ⟨by rw [HF.out]; rfl, BW.out⟩
  ·obtain rfl : i = n2 := by omega
   have hlt' : ¬ (i : Int) < i := by omega
   obtain ⟨k0, k1, k2, k3, k4, k5⟩ := cell6_of XP.out
   have ALL : Hid (m = p.secs.countP hasPt) := Lib.hid (by rw [HM_.out, HN.out.1, List.take_length])
   by_cases h1 : m = n3
   ·subst h1
    have HF : Hid (propB (PtsMay p) = true) := Lib.hid (propB_true ((pts_iff HT.out).2 ⟨by rw [← HN.out.2.1]; exact LIM.out, RISE.out, ALL.out.symm.trans HN.out.2.1, fun a ha => HALL.out a (by rw [HN.out.1]; exact ha) ha⟩))
    go_wp2_with fail
    go_ret
    exact ⟨by rw [HF.out]; rfl, BW.out⟩
   ·have d1 : ((m : Int) == n3) = false := by simpa using (show ¬ (m : Int) = n3 by omega)
    have d2 : (m == n3) = false := by simpa using h1
    have HF : Hid (propB (PtsMay p) = false) := Lib.hid (propB_false fun h => h1 (by rw [ALL.out, h.many]; exact HN.out.2.1.symm))
    clear h1
    go_wp2_with fail
    go_ret
    exact ⟨by rw [HF.out]; rfl, BW.out⟩

set_option maxHeartbeats 16000000 in
theorem signals_prog (v : Value) (p : Pl) (w : World) (h : PlanV w w.heap.size v p) :
  Calls Tryz.prog 86 #[v] w fun e w' => e = .returned (.bool (propB (SigsMay p))) ∧ Below w.heap.size w w' := by
 obtain ⟨A2, c2, A3, c3, A4, c4, A5, c5, n2, n3, n4, n5, rfl, hm2, hm3, hm4, hm5, HCP, HIN, HN⟩ := open_plan h
 have hq0 := heap_alloc_self w (.cells #[.int .i64 p.ver, .int .i64 p.par, .slice A2 n2 c2, .slice A3 n3 c3, .slice A4 n4 c4, .slice A5 n5 c5] 27)
 have hqb := below_new w (.cells #[.int .i64 p.ver, .int .i64 p.par, .slice A2 n2 c2, .slice A3 n3 c3, .slice A4 n4 c4, .slice A5 n5 c5] 27)
 go_enter Tryz.func86, Tryz.ntmps86
 go_upto_region 1 with fail
 generalize w.alloc (.cells #[.int .i64 p.ver, .int .i64 p.par, .slice A2 n2 c2, .slice A3 n3 c3, .slice A4 n4 c4, .slice A5 n5 c5] 27) = q at hq0 hqb ⊢
 have XP := Lib.hid hq0
 have BQ := Lib.hid hqb
 clear hq0 hqb
 obtain ⟨k0, k1, k2, k3, k4, k5⟩ := cell6_of XP.out
 by_cases h1 : 10 < n4
 ·have d1 : decide ((10 : Int) < n4) = true := decide_eq_true (by omega)
  have HF : Hid (propB (SigsMay p) = false) := Lib.hid (propB_false fun h => by have := sigs_iff.1 h; have := this.n; have := HN.out; omega)
  clear h1
  go_wp2_with fail
  go_ret
  exact ⟨by rw [HF.out]; rfl, BQ.out⟩
 have d1 : decide ((10 : Int) < n4) = false := decide_eq_false (by omega)
 have LIM : Hid (n4 ≤ 10) := Lib.hid (by omega)
 clear h1
 have HI := Lib.hid ((HIN.out.below BQ.out).more BQ.out.size)
 go_wp2_with fail
 refine (rising_sg _ p.sigs _ HI.out.sigs).mono ?_
 rintro e w1 ⟨rfl, b1⟩
 clear k0 k1 k2 k3 k4 k5
 replace BQ := Lib.hid (BQ.out.trans (b1.mono BQ.out.size))
 replace XP := Lib.hid ((b1.block _ (heap_lt XP.out)).trans XP.out)
 replace HI := Lib.hid ((HI.out.below b1).more b1.size)
 clear b1
 obtain ⟨k0, k1, k2, k3, k4, k5⟩ := cell6_of XP.out
 cases hrs : riseB kSg p.sigs with
 | false =>
  have HF : Hid (propB (SigsMay p) = false) := Lib.hid (propB_false fun h => by rw [riseB_true ((sigs_iff.1 h).rise)] at hrs; cases hrs)
  clear hrs
  go_wp2_with fail
  go_ret
  exact ⟨by rw [HF.out]; rfl, BQ.out⟩
 | true =>
 have RISE := Lib.hid (riseB_iff.1 hrs)
 clear hrs
 go_wp2_with fail
 clear k0 k1 k2 k3 k4 k5
 go_loopw [18] (fun s18 wr => ∃ i : Nat, i ≤ n4 ∧ s18 = .int .i64 i ∧ (∀ i' (hi : i' < i) (hl : i' < p.sigs.length), 0 ≤ p.sigs[i'].2.2 ∧ p.sigs[i'].2.2 < endsN p.secs p.sigs[i'].2.1 ∧ standsS (p.sigs.take i') p.sigs[i'].2.1 p.sigs[i'].2.2 = 0) ∧ wr.heap[w.heap.size]? = some (.cells #[.int .i64 p.ver, .int .i64 p.par, .slice A2 n2 c2, .slice A3 n3 c3, .slice A4 n4 c4, .slice A5 n5 c5] 27 (0, 0)) ∧ Below w.heap.size w wr) (fun s18 _ => n4 - (intOf s18).toNat)
 case atStart => exact ⟨0, by omega, by go_num, fun i' hi => absurd hi (by omega), XP.out, BQ.out⟩
 case round =>
  obtain ⟨i, hi, rfl, hall, hxp, hb⟩ := hrel
  have HALL := Lib.hid hall
  clear XP BQ HI
  have BW := Lib.hid hb
  have XP := Lib.hid hxp
  clear hall hb hxp
  by_cases hlt : i < n4
  ·have hlt' : (i : Int) < n4 := by omega
   have hic : (i : Int) ≤ c4 := by have := HCP.out; omega
   have hir : i < p.sigs.length := by rw [← HN.out.2.2.1]; exact hlt
   have HTK0 := Lib.hid (((HIN.out.sigs.below sigR BW.out).more sigR BW.out.size).take (Nat.le_of_lt hlt))
   have HI0 := Lib.hid ((HIN.out.below BW.out).more BW.out.size)
   obtain ⟨bk, off, rfl, hbk, hc0, hc1, hc2⟩ := ((HIN.out.sigs.below sigR BW.out).more sigR BW.out.size).at hir
   obtain ⟨a, b, c_, hx⟩ : ∃ a b c, p.sigs[i] = (a, b, c) := ⟨_, _, _, rfl⟩
   have HX := Lib.hid hx
   rw [hx] at hc0 hc1 hc2
   have hg0 : wr.cell? ⟨bk, off + i * 3, none⟩ = some (.int .i64 a) := hc0
   have hg1 : wr.cell? ⟨bk, off + i * 3 + 1, none⟩ = some (.int .i64 b) := hc1
   have hg2 : wr.cell? ⟨bk, off + i * 3 + 2, none⟩ = some (.int .i64 c_) := hc2
   clear hc0 hc1 hc2 hx hbk
   obtain ⟨q, hq⟩ : ∃ x, x = wr.alloc (.cells #[.int .i64 a, .int .i64 b, .int .i64 c_] 115) := ⟨_, rfl⟩
   have x1 := heap_alloc_self wr (.cells #[.int .i64 a, .int .i64 b, .int .i64 c_] 115)
   have b1 := below_new wr (.cells #[.int .i64 a, .int .i64 b, .int .i64 c_] 115)
   rw [← hq] at x1 b1
   go_upto_region 6 with fail
   rw [← hq]
   have X4 := Lib.hid x1
   generalize wr.heap.size = pX4 at X4 ⊢
   clear x1 hq hg0 hg1 hg2
   have HTK := Lib.hid ((HTK0.out.below sigR b1).more sigR b1.size)
   have HI := Lib.hid ((HI0.out.below b1).more b1.size)
   clear HTK0 HI0
   replace BW := Lib.hid (BW.out.trans (b1.mono BW.out.size))
   replace XP := Lib.hid ((b1.block _ (heap_lt XP.out)).trans XP.out)
   clear b1
   have FAIL : Hid (¬ (0 ≤ c_ ∧ c_ < endsN p.secs b ∧ standsS (p.sigs.take i) b c_ = 0) → propB (SigsMay p) = false) := Lib.hid (fun hn => propB_false fun h => hn (by
    have := (sigs_iff.1 h).each i hir
    rw [HX.out] at this
    exact this))
   have NXT : Hid ((0 ≤ c_ ∧ c_ < endsN p.secs b ∧ standsS (p.sigs.take i) b c_ = 0) → ∀ i' (hi : i' < i + 1) (hl : i' < p.sigs.length), 0 ≤ p.sigs[i'].2.2 ∧ p.sigs[i'].2.2 < endsN p.secs p.sigs[i'].2.1 ∧ standsS (p.sigs.take i') p.sigs[i'].2.1 p.sigs[i'].2.2 = 0) := Lib.hid (fun h0 i' hi' hl => by
    rcases Nat.lt_or_ge i' i with h | h
    ·exact HALL.out i' h hl
    ·obtain rfl : i' = i := by omega
     rw [HX.out]; exact h0)
   by_cases h0 : c_ < 0
   ·have d0 : decide (c_ < 0) = true := decide_eq_true h0
    have HF := Lib.hid (FAIL.out fun h => by omega)
    clear h0
    refine wp_region_held_drew (S := fun v => Below q.heap.size q v) (by kernel_rfl) (Below.refl q.heap.size q).drew (fun hHeld => ?_)
    refine tk 0 hHeld ?_;refine tkc 1 hHeld (fun w' hSw => cell3_of ((hSw.block _ (heap_lt X4.out)).trans X4.out)) ?_;refine tk 2 hHeld ?_;refine tk 3 hHeld ?_;refine tks 4 hHeld ?_;refine tks 5 hHeld ?_;refine tks 6 hHeld ?_;refine tks 7 hHeld ?_;refine tks 8 hHeld ?_;refine tks 9 hHeld ?_;refine tks 10 hHeld ?_;refine tks 11 hHeld ?_;refine tk 12 hHeld ?_;refine tk 13 hHeld ?_;refine tks 14 hHeld ?_;refine tks 15 hHeld ?_;refine tks 16 hHeld ?_;refine tks 17 hHeld ?_;refine tks 18 hHeld ?_;refine tks 19 hHeld ?_;refine tks 20 hHeld ?_;refine tks 21 hHeld ?_;refine tks 22 hHeld ?_;refine tks 23 hHeld ?_;refine tk 24 hHeld ?_
    refine wpAnyH_done (by kernel_rfl) ?_ _
    have b2 := (Below.refl q.heap.size q).drew
    replace BW := Lib.hid (BW.out.trans (b2.mono BW.out.size))
    replace XP := Lib.hid ((b2.block _ (heap_lt XP.out)).trans XP.out)
    clear b2
    go_wp2_with fail
    go_ret
    exact ⟨by rw [HF.out]; rfl, BW.out⟩
   have d0 : decide (c_ < 0) = false := decide_eq_false h0
   by_cases h1 : endsN p.secs b ≤ c_
   ·have d1 : decide (endsN p.secs b ≤ c_) = true := decide_eq_true h1
    have HF := Lib.hid (FAIL.out fun h => by omega)
    clear h0 h1
    refine wp_region_held_drew (S := fun v => Below q.heap.size q v) (by kernel_rfl) (Below.refl q.heap.size q).drew (fun hHeld => ?_)
    refine tk 0 hHeld ?_;refine tkc 1 hHeld (fun w' hSw => cell3_of ((hSw.block _ (heap_lt X4.out)).trans X4.out)) ?_;refine tk 2 hHeld ?_;refine tk 3 hHeld ?_;refine tk 4 hHeld ?_;refine tkc 5 hHeld (fun w' hSw => cell3_of ((hSw.block _ (heap_lt X4.out)).trans X4.out)) ?_;refine tk 6 hHeld ?_;refine tkc 7 hHeld (fun w' hSw => cell6_of ((hSw.block _ (heap_lt XP.out)).trans XP.out)) ?_;refine tk 8 hHeld ?_;refine tkc 9 hHeld (fun w' hSw => cell3_of ((hSw.block _ (heap_lt X4.out)).trans X4.out)) ?_
    refine tkr 10 (fun K hK => ?_)
    rw [if_pos (by rfl)]
    go_simp
    refine (ends_any _ p.secs b q.drew ((HI.out.secs.below secR_ (Below.refl q.heap.size q).drew))).mono ?_
    rintro e wA ⟨rfl, bA⟩
    have SA : Hid (Below q.heap.size q wA) := Lib.hid ((Below.refl q.heap.size q).drew.trans bA)
    clear bA
    try go_wp2_with fail
    refine hK.out _ _ ?_ fun hHeld => ?_;exact SA.out;clear hK K;try simp only [zn, Act.put]
    refine tk 11 hHeld ?_;refine tk 12 hHeld ?_;refine tk 13 hHeld ?_;refine tks 14 hHeld ?_;refine tks 15 hHeld ?_;refine tks 16 hHeld ?_;refine tks 17 hHeld ?_;refine tks 18 hHeld ?_;refine tks 19 hHeld ?_;refine tks 20 hHeld ?_;refine tks 21 hHeld ?_;refine tks 22 hHeld ?_;refine tks 23 hHeld ?_;refine tk 24 hHeld ?_
    refine wpAnyH_done (by kernel_rfl) ?_ _
    have b2 := SA.out
    replace BW := Lib.hid (BW.out.trans (b2.mono BW.out.size))
    replace XP := Lib.hid ((b2.block _ (heap_lt XP.out)).trans XP.out)
    clear b2
    go_wp2_with fail
    go_ret
    exact ⟨by rw [HF.out]; rfl, BW.out⟩
   have d1 : decide (endsN p.secs b ≤ c_) = false := decide_eq_false h1
   by_cases h2 : standsS (p.sigs.take i) b c_ = 0
   ·have d2 : (standsS (p.sigs.take i) b c_ != 0) = false := by simpa using h2
    have NX := Lib.hid (NXT.out ⟨by omega, by omega, h2⟩)
    clear h0 h1 h2
    refine wp_region_held_drew (S := fun v => Below q.heap.size q v) (by kernel_rfl) (Below.refl q.heap.size q).drew (fun hHeld => ?_)
    refine tk 0 hHeld ?_;refine tkc 1 hHeld (fun w' hSw => cell3_of ((hSw.block _ (heap_lt X4.out)).trans X4.out)) ?_;refine tk 2 hHeld ?_;refine tk 3 hHeld ?_;refine tk 4 hHeld ?_;refine tkc 5 hHeld (fun w' hSw => cell3_of ((hSw.block _ (heap_lt X4.out)).trans X4.out)) ?_;refine tk 6 hHeld ?_;refine tkc 7 hHeld (fun w' hSw => cell6_of ((hSw.block _ (heap_lt XP.out)).trans XP.out)) ?_;refine tk 8 hHeld ?_;refine tkc 9 hHeld (fun w' hSw => cell3_of ((hSw.block _ (heap_lt X4.out)).trans X4.out)) ?_
    refine tkr 10 (fun K hK => ?_)
    rw [if_pos (by rfl)]
    go_simp
    refine (ends_any _ p.secs b q.drew ((HI.out.secs.below secR_ (Below.refl q.heap.size q).drew))).mono ?_
    rintro e wA ⟨rfl, bA⟩
    have SA : Hid (Below q.heap.size q wA) := Lib.hid ((Below.refl q.heap.size q).drew.trans bA)
    clear bA
    try go_wp2_with fail
    refine hK.out _ _ ?_ fun hHeld => ?_;exact SA.out;clear hK K;try simp only [zn, Act.put]
    refine tk 11 hHeld ?_;refine tk 12 hHeld ?_;refine tk 13 hHeld ?_;refine tk 14 hHeld ?_;refine tkc 15 hHeld (fun w' hSw => cell6_of ((hSw.block _ (heap_lt XP.out)).trans XP.out)) ?_;refine tk 16 hHeld ?_;refine tk 17 hHeld ?_;refine tk 18 hHeld ?_;refine tkc 19 hHeld (fun w' hSw => cell3_of ((hSw.block _ (heap_lt X4.out)).trans X4.out)) ?_;refine tk 20 hHeld ?_;refine tkc 21 hHeld (fun w' hSw => cell3_of ((hSw.block _ (heap_lt X4.out)).trans X4.out)) ?_
    refine tkr 22 (fun K hK => ?_)
    rw [if_pos (by rfl)]
    go_simp
    refine (stands_any _ (p.sigs.take i) b c_ wA ((HTK.out.below sigR SA.out).more sigR SA.out.size)).mono ?_
    rintro e wB ⟨rfl, bB⟩
    have SB : Hid (Below q.heap.size q wB) := Lib.hid (SA.out.trans (bB.mono SA.out.size))
    clear bB
    try go_wp2_with fail
    refine hK.out _ _ ?_ fun hHeld => ?_;exact SB.out;clear hK K;try simp only [zn, Act.put]
    refine tk 23 hHeld ?_;refine tk 24 hHeld ?_
    refine wpAnyH_done (by kernel_rfl) ?_ _
    have b2 := SB.out
    replace BW := Lib.hid (BW.out.trans (b2.mono BW.out.size))
    replace XP := Lib.hid ((b2.block _ (heap_lt XP.out)).trans XP.out)
    clear b2
    go_wp2_with fail
    go_roundw
    case measure => simp [intOf]; omega
    case rel => exact ⟨i + 1, by omega, by go_num, NX.out, XP.out, BW.out⟩
   ·have d2 : (standsS (p.sigs.take i) b c_ != 0) = true := by simpa using h2
    have HF := Lib.hid (FAIL.out fun h => h2 h.2.2)
    clear h0 h1 h2
    refine wp_region_held_drew (S := fun v => Below q.heap.size q v) (by kernel_rfl) (Below.refl q.heap.size q).drew (fun hHeld => ?_)
    refine tk 0 hHeld ?_;refine tkc 1 hHeld (fun w' hSw => cell3_of ((hSw.block _ (heap_lt X4.out)).trans X4.out)) ?_;refine tk 2 hHeld ?_;refine tk 3 hHeld ?_;refine tk 4 hHeld ?_;refine tkc 5 hHeld (fun w' hSw => cell3_of ((hSw.block _ (heap_lt X4.out)).trans X4.out)) ?_;refine tk 6 hHeld ?_;refine tkc 7 hHeld (fun w' hSw => cell6_of ((hSw.block _ (heap_lt XP.out)).trans XP.out)) ?_;refine tk 8 hHeld ?_;refine tkc 9 hHeld (fun w' hSw => cell3_of ((hSw.block _ (heap_lt X4.out)).trans X4.out)) ?_
    refine tkr 10 (fun K hK => ?_)
    rw [if_pos (by rfl)]
    go_simp
    refine (ends_any _ p.secs b q.drew ((HI.out.secs.below secR_ (Below.refl q.heap.size q).drew))).mono ?_
    rintro e wA ⟨rfl, bA⟩
    have SA : Hid (Below q.heap.size q wA) := Lib.hid ((Below.refl q.heap.size q).drew.trans bA)
    clear bA
    try go_wp2_with fail
    refine hK.out _ _ ?_ fun hHeld => ?_;exact SA.out;clear hK K;try simp only [zn, Act.put]
    refine tk 11 hHeld ?_;refine tk 12 hHeld ?_;refine tk 13 hHeld ?_;refine tk 14 hHeld ?_;refine tkc 15 hHeld (fun w' hSw => cell6_of ((hSw.block _ (heap_lt XP.out)).trans XP.out)) ?_;refine tk 16 hHeld ?_;refine tk 17 hHeld ?_;refine tk 18 hHeld ?_;refine tkc 19 hHeld (fun w' hSw => cell3_of ((hSw.block _ (heap_lt X4.out)).trans X4.out)) ?_;refine tk 20 hHeld ?_;refine tkc 21 hHeld (fun w' hSw => cell3_of ((hSw.block _ (heap_lt X4.out)).trans X4.out)) ?_
    refine tkr 22 (fun K hK => ?_)
    rw [if_pos (by rfl)]
    go_simp
    refine (stands_any _ (p.sigs.take i) b c_ wA ((HTK.out.below sigR SA.out).more sigR SA.out.size)).mono ?_
    rintro e wB ⟨rfl, bB⟩
    have SB : Hid (Below q.heap.size q wB) := Lib.hid (SA.out.trans (bB.mono SA.out.size))
    clear bB
    try go_wp2_with fail
    refine hK.out _ _ ?_ fun hHeld => ?_;exact SB.out;clear hK K;try simp only [zn, Act.put]
    refine tk 23 hHeld ?_;refine tk 24 hHeld ?_
    refine wpAnyH_done (by kernel_rfl) ?_ _
    have b2 := SB.out
    replace BW := Lib.hid (BW.out.trans (b2.mono BW.out.size))
    replace XP := Lib.hid ((b2.block _ (heap_lt XP.out)).trans XP.out)
    clear b2
    go_wp2_with fail
    go_ret
    exact ⟨by rw [HF.out]; rfl, BW.out⟩
  ·obtain rfl : i = n4 := by omega
   have hlt' : ¬ (i : Int) < i := by omega
   have HF : Hid (propB (SigsMay p) = true) := Lib.hid (propB_true (sigs_iff.2 ⟨by rw [← HN.out.2.2.1]; exact LIM.out, RISE.out, fun a ha => HALL.out a (by rw [HN.out.2.2.1]; exact ha) ha⟩))
   go_wp2_with fail
   go_ret
   exact ⟨by rw [HF.out]; rfl, BW.out⟩
set_option maxHeartbeats 16000000 in
theorem routes_prog (v : Value) (p : Pl) (w : World) (h : PlanV w w.heap.size v p) (ht : TMay p.secs) (hr : RiseK kPt p.pts) :
  Calls Tryz.prog 87 #[v] w fun e w' => e = .returned (.bool (propB (RoutesP p))) ∧ Below w.heap.size w w' := by
 have HT := Lib.hid ht
 have HRI := Lib.hid hr
 clear ht hr
 obtain ⟨A2, c2, A3, c3, A4, c4, A5, c5, n2, n3, n4, n5, rfl, hm2, hm3, hm4, hm5, HCP, HIN, HN⟩ := open_plan h
 have hq0 := heap_alloc_self w (.cells #[.int .i64 p.ver, .int .i64 p.par, .slice A2 n2 c2, .slice A3 n3 c3, .slice A4 n4 c4, .slice A5 n5 c5] 27)
 have hqb := below_new w (.cells #[.int .i64 p.ver, .int .i64 p.par, .slice A2 n2 c2, .slice A3 n3 c3, .slice A4 n4 c4, .slice A5 n5 c5] 27)
 go_enter Tryz.func87, Tryz.ntmps87
 go_upto_region 1 with fail
 generalize w.alloc (.cells #[.int .i64 p.ver, .int .i64 p.par, .slice A2 n2 c2, .slice A3 n3 c3, .slice A4 n4 c4, .slice A5 n5 c5] 27) = q at hq0 hqb ⊢
 have XP := Lib.hid hq0
 have BQ := Lib.hid hqb
 clear hq0 hqb
 obtain ⟨k0, k1, k2, k3, k4, k5⟩ := cell6_of XP.out
 by_cases h1 : 16 < n5
 ·have d1 : decide ((16 : Int) < n5) = true := decide_eq_true (by omega)
  have HF : Hid (propB (RoutesP p) = false) := Lib.hid (propB_false fun h => by have := h; have := this.n; have := HN.out; omega)
  clear h1
  go_wp2_with fail
  go_ret
  exact ⟨by rw [HF.out]; rfl, BQ.out⟩
 have d1 : decide ((16 : Int) < n5) = false := decide_eq_false (by omega)
 have LIM : Hid (n5 ≤ 16) := Lib.hid (by omega)
 clear h1
 have HI := Lib.hid ((HIN.out.below BQ.out).more BQ.out.size)
 go_wp2_with fail
 refine (rising_rt _ p.routes _ HI.out.routes).mono ?_
 rintro e w1 ⟨rfl, b1⟩
 clear k0 k1 k2 k3 k4 k5
 replace BQ := Lib.hid (BQ.out.trans (b1.mono BQ.out.size))
 replace XP := Lib.hid ((b1.block _ (heap_lt XP.out)).trans XP.out)
 replace HI := Lib.hid ((HI.out.below b1).more b1.size)
 clear b1
 obtain ⟨k0, k1, k2, k3, k4, k5⟩ := cell6_of XP.out
 cases hrs : riseB kRt p.routes with
 | false =>
  have HF : Hid (propB (RoutesP p) = false) := Lib.hid (propB_false fun h => by rw [riseB_true (h.rise)] at hrs; cases hrs)
  clear hrs
  go_wp2_with fail
  go_ret
  exact ⟨by rw [HF.out]; rfl, BQ.out⟩
 | true =>
 have RISE := Lib.hid (riseB_iff.1 hrs)
 clear hrs
 go_wp2_with fail
 clear k0 k1 k2 k3 k4 k5
 go_loopw [18] (fun s18 wr => ∃ i : Nat, i ≤ n5 ∧ s18 = .int .i64 i ∧ (∀ i' (hi : i' < i) (hl : i' < p.routes.length), RouteMay p p.routes[i']) ∧ wr.heap[w.heap.size]? = some (.cells #[.int .i64 p.ver, .int .i64 p.par, .slice A2 n2 c2, .slice A3 n3 c3, .slice A4 n4 c4, .slice A5 n5 c5] 27 (0, 0)) ∧ Below w.heap.size w wr) (fun s18 _ => n5 - (intOf s18).toNat)
 case atStart => exact ⟨0, by omega, by go_num, fun i' hi => absurd hi (by omega), XP.out, BQ.out⟩
 case round =>
  obtain ⟨i, hi, rfl, hall, hxp, hb⟩ := hrel
  have HALL := Lib.hid hall
  clear XP BQ HI
  have BW := Lib.hid hb
  have XP := Lib.hid hxp
  clear hall hb hxp
  by_cases hlt : i < n5
  ·have hlt' : (i : Int) < n5 := by omega
   have hir : i < p.routes.length := by rw [← HN.out.2.2.2]; exact hlt
   have HI0 := Lib.hid ((HIN.out.below BW.out).more BW.out.size)
   obtain ⟨bk, off, rfl, hbk, hc0, hc1, hc2, hc6, u3, u4, u5, hc3, hc4, hc5, hr⟩ := ((HIN.out.routes.below routeR BW.out).more routeR BW.out.size).at hir
   obtain ⟨B3, d3, rfl, -, -⟩ := hr.path.slice
   obtain ⟨B4, d4, rfl, -, -⟩ := hr.over.slice
   obtain ⟨B5, d5, rfl, -, -⟩ := hr.flanks.slice
   obtain ⟨a, en, ex, lp, lo, lf, tm, hx⟩ : ∃ a en ex lp lo lf tm, p.routes[i] = (⟨a, en, ex, lp, lo, lf, tm⟩ : Rt) := ⟨_, _, _, _, _, _, _, rfl⟩
   have HX := Lib.hid hx
   rw [hx] at hc0 hc1 hc2 hc3 hc4 hc5 hc6 hr
   dsimp only at hc0 hc1 hc2 hc3 hc4 hc5 hc6 hr
   obtain ⟨m3, e3⟩ : ∃ m, m = lp.length := ⟨_, rfl⟩
   obtain ⟨m4, e4⟩ : ∃ m, m = lo.length := ⟨_, rfl⟩
   obtain ⟨m5, e5⟩ : ∃ m, m = lf.length := ⟨_, rfl⟩
   rw [← e3] at hc3 hr
   rw [← e4] at hc4 hr
   rw [← e5] at hc5 hr
   have HR := Lib.hid hr
   have HM : Hid (m3 = lp.length ∧ m4 = lo.length ∧ m5 = lf.length) := Lib.hid ⟨e3, e4, e5⟩
   have hg0 : wr.cell? ⟨bk, off + i * 7, none⟩ = some (.int .i64 a) := hc0
   have hg1 : wr.cell? ⟨bk, off + i * 7 + 1, none⟩ = some (.int .i64 en) := hc1
   have hg2 : wr.cell? ⟨bk, off + i * 7 + 2, none⟩ = some (.int .i64 ex) := hc2
   have hg3 : wr.cell? ⟨bk, off + i * 7 + 3, none⟩ = some (.slice B3 m3 d3) := hc3
   have hg4 : wr.cell? ⟨bk, off + i * 7 + 4, none⟩ = some (.slice B4 m4 d4) := hc4
   have hg5 : wr.cell? ⟨bk, off + i * 7 + 5, none⟩ = some (.slice B5 m5 d5) := hc5
   have hg6 : wr.cell? ⟨bk, off + i * 7 + 6, none⟩ = some (.int .i64 tm) := hc6
   clear hc0 hc1 hc2 hc3 hc4 hc5 hc6 hx hbk hr e3 e4 e5
   obtain ⟨q, hq⟩ : ∃ x, x = wr.alloc (.cells #[.int .i64 a, .int .i64 en, .int .i64 ex, .slice B3 m3 d3, .slice B4 m4 d4, .slice B5 m5 d5, .int .i64 tm] 64) := ⟨_, rfl⟩
   have x1 := heap_alloc_self wr (.cells #[.int .i64 a, .int .i64 en, .int .i64 ex, .slice B3 m3 d3, .slice B4 m4 d4, .slice B5 m5 d5, .int .i64 tm] 64)
   have b1 := below_new wr (.cells #[.int .i64 a, .int .i64 en, .int .i64 ex, .slice B3 m3 d3, .slice B4 m4 d4, .slice B5 m5 d5, .int .i64 tm] 64)
   rw [← hq] at x1 b1
   go_upto_region 6 with fail
   rw [← hq]
   have X4 := Lib.hid x1
   generalize wr.heap.size = pX4 at X4 ⊢
   clear x1 hq hg0 hg1 hg2 hg3 hg4 hg5 hg6
   have HI := Lib.hid ((HI0.out.below b1).more b1.size)
   have HRV := Lib.hid ((HR.out.below b1).more b1.size)
   clear HI0 HR
   replace BW := Lib.hid (BW.out.trans (b1.mono BW.out.size))
   replace XP := Lib.hid ((b1.block _ (heap_lt XP.out)).trans XP.out)
   clear b1
   obtain ⟨m0, m1, m2, m3_, m4_, m5_, m6⟩ := cell7_of X4.out
   obtain ⟨k0, k1, k2, k3, k4, k5⟩ := cell6_of XP.out
   have FAIL : Hid (¬ RouteMay p p.routes[i] → propB (RoutesP p) = false) := Lib.hid (fun hn => propB_false fun h => hn (h.each i hir))
   have NXT : Hid (RouteMay p p.routes[i] → ∀ i' (hi : i' < i + 1) (hl : i' < p.routes.length), RouteMay p p.routes[i']) := Lib.hid (fun h0 i' hi' hl => by
    rcases Nat.lt_or_ge i' i with h | h
    ·exact HALL.out i' h hl
    ·obtain rfl : i' = i := by omega
     exact h0)
   obtain ⟨rr, hrr⟩ : ∃ x, x = p.routes[i] := ⟨_, rfl⟩
   rw [← hrr] at FAIL NXT
   have HRR : Hid (rr = ⟨a, en, ex, lp, lo, lf, tm⟩) := Lib.hid (hrr.trans HX.out)
   clear hrr
   by_cases h0 : tm < 1
   ·have d0 : decide (tm < 1) = true := decide_eq_true h0
    have HF := Lib.hid (FAIL.out fun h => by have := h.timer.1; rw [HRR.out] at this; exact absurd this (by show ¬ 1 ≤ tm; omega))
    clear h0
    go_wp2_with fail
    go_ret
    exact ⟨by rw [HF.out]; rfl, BW.out⟩
   have d0 : decide (tm < 1) = false := decide_eq_false h0
   by_cases h1 : 9 < tm
   ·have d1 : decide (9 < tm) = true := decide_eq_true h1
    have HF := Lib.hid (FAIL.out fun h => by have := h.timer.2; rw [HRR.out] at this; exact absurd this (by show ¬ tm ≤ 9; omega))
    clear h0 h1
    go_wp2_with fail
    go_ret
    exact ⟨by rw [HF.out]; rfl, BW.out⟩
   have d1 : decide (9 < tm) = false := decide_eq_false h1
   have TMB : Hid (1 ≤ tm ∧ tm ≤ 9) := Lib.hid (by omega)
   clear h0 h1
   go_wp2_with fail
   refine (leads_prog _ _ p ⟨a, en, ex, lp, lo, lf, tm⟩ q ⟨_, _, _, _, rfl, HI.out⟩ ⟨_, _, _, rfl, HRV.out⟩ HT.out).mono ?_
   rintro e w2 ⟨rfl, b1⟩
   clear m0 m1 m2 m3_ m4_ m5_ m6 k0 k1 k2 k3 k4 k5
   replace BW := Lib.hid (BW.out.trans (b1.mono BW.out.size))
   replace XP := Lib.hid ((b1.block _ (heap_lt XP.out)).trans XP.out)
   replace X4 := Lib.hid ((b1.block _ (heap_lt X4.out)).trans X4.out)
   replace HI := Lib.hid ((HI.out.below b1).more b1.size)
   replace HRV := Lib.hid ((HRV.out.below b1).more b1.size)
   clear b1
   rw [← HRR.out]
   cases hld : propB (LeadsP p rr) with
   | false =>
    have HF := Lib.hid (FAIL.out fun h => by rw [propB_true (route_parts.1 h).2.1] at hld; cases hld)
    clear hld
    go_wp2_with fail
    go_ret
    exact ⟨by rw [HF.out]; rfl, BW.out⟩
   | true =>
   have LD := Lib.hid (propB_iff.1 hld)
   clear hld
   obtain ⟨m0, m1, m2, m3_, m4_, m5_, m6⟩ := cell7_of X4.out
   obtain ⟨k0, k1, k2, k3, k4, k5⟩ := cell6_of XP.out
   go_wp2_with fail
   refine (flanks_any _ _ p lf w2 ⟨_, _, _, _, rfl, HI.out⟩ HRV.out.flanks HRI.out).mono ?_
   rintro e w3 ⟨rfl, b1⟩
   clear m0 m1 m2 m3_ m4_ m5_ m6 k0 k1 k2 k3 k4 k5
   replace BW := Lib.hid (BW.out.trans (b1.mono BW.out.size))
   replace XP := Lib.hid ((b1.block _ (heap_lt XP.out)).trans XP.out)
   clear b1
   cases hfl : propB (FlanksP p lf) with
   | false =>
    have HF := Lib.hid (FAIL.out fun h => by have h2 := (route_parts.1 h).2.2; rw [HRR.out] at h2; rw [propB_true h2] at hfl; cases hfl)
    clear hfl
    go_wp2_with fail
    go_ret
    exact ⟨by rw [HF.out]; rfl, BW.out⟩
   | true =>
    have NX := Lib.hid (NXT.out (route_parts.2 ⟨by rw [HRR.out]; exact TMB.out, LD.out, by rw [HRR.out]; exact propB_iff.1 hfl⟩))
    clear hfl
    go_wp2_with fail
    go_roundw
    case measure => simp [intOf]; omega
    case rel => exact ⟨i + 1, by omega, by go_num, NX.out, XP.out, BW.out⟩
  ·obtain rfl : i = n5 := by omega
   have hlt' : ¬ (i : Int) < i := by omega
   have HF : Hid (propB (RoutesP p) = true) := Lib.hid (propB_true ⟨by rw [← HN.out.2.2.2]; exact LIM.out, RISE.out, fun a ha => HALL.out a (by rw [HN.out.2.2.2]; exact ha) ha⟩)
   go_wp2_with fail
   go_ret
   exact ⟨by rw [HF.out]; rfl, BW.out⟩
set_option maxHeartbeats 16000000 in
theorem check_prog (v : Value) (p : Pl) (w : World) (h : PlanV w w.heap.size v p) :
  Calls Tryz.prog 59 #[v] w fun e w' => e = .returned (.int .i64 (chk8 p)) ∧ Below w.heap.size w w' := by
 obtain ⟨A2, c2, A3, c3, A4, c4, A5, c5, n2, n3, n4, n5, rfl, hm2, hm3, hm4, hm5, HCP, HIN, HN⟩ := open_plan h
 have hq0 := heap_alloc_self w (.cells #[.int .i64 p.ver, .int .i64 p.par, .slice A2 n2 c2, .slice A3 n3 c3, .slice A4 n4 c4, .slice A5 n5 c5] 27)
 have hqb := below_new w (.cells #[.int .i64 p.ver, .int .i64 p.par, .slice A2 n2 c2, .slice A3 n3 c3, .slice A4 n4 c4, .slice A5 n5 c5] 27)
 go_enter Tryz.func59, Tryz.ntmps59
 go_upto_region 1 with fail
 generalize w.alloc (.cells #[.int .i64 p.ver, .int .i64 p.par, .slice A2 n2 c2, .slice A3 n3 c3, .slice A4 n4 c4, .slice A5 n5 c5] 27) = q at hq0 hqb ⊢
 have XP := Lib.hid hq0
 have BQ := Lib.hid hqb
 clear hq0 hqb
 have HI := Lib.hid ((HIN.out.below BQ.out).more BQ.out.size)
 have NO : Hid (¬ PlanMay p → chk8 p = 8) := Lib.hid (fun h => by rw [chk8, planMay_false h]; rfl)
 have YES : Hid (PlanMay p → chk8 p = 0) := Lib.hid (fun h => by rw [chk8, planMay_true h]; rfl)
 obtain ⟨k0, k1, k2, k3, k4, k5⟩ := cell6_of XP.out
 go_wp2_with fail
 refine (versions_any _ p _ ⟨_, _, _, _, rfl, HI.out⟩).mono ?_
 rintro e w1 ⟨rfl, b1⟩
 clear k0 k1 k2 k3 k4 k5
 replace BQ := Lib.hid (BQ.out.trans (b1.mono BQ.out.size))
 replace XP := Lib.hid ((b1.block _ (heap_lt XP.out)).trans XP.out)
 replace HI := Lib.hid ((HI.out.below b1).more b1.size)
 clear b1
 cases h1 : propB (VersP p) with
 | false =>
  have HF := Lib.hid (NO.out fun h => by rw [propB_true (plan_parts.1 h).1] at h1; cases h1)
  clear h1
  go_wp2_with fail
  go_ret
  exact ⟨by rw [HF.out]; rfl, BQ.out⟩
 | true =>
 have S1 := Lib.hid (propB_iff.1 h1)
 clear h1
 obtain ⟨k0, k1, k2, k3, k4, k5⟩ := cell6_of XP.out
 have CK1 : Hid (mayT p.secs = false → chkT p.secs = 8) := Lib.hid (fun h => by rw [chkT, h]; rfl)
 have CK0 : Hid (mayT p.secs = true → chkT p.secs = 0) := Lib.hid (fun h => by rw [chkT, h]; rfl)
 go_wp2_with fail
 refine (pcheck_any _ p.secs _ HI.out.secs).mono ?_
 rintro e w2 ⟨rfl, b1⟩
 clear k0 k1 k2 k3 k4 k5
 replace BQ := Lib.hid (BQ.out.trans (b1.mono BQ.out.size))
 replace XP := Lib.hid ((b1.block _ (heap_lt XP.out)).trans XP.out)
 replace HI := Lib.hid ((HI.out.below b1).more b1.size)
 clear b1
 generalize chkT p.secs = ck at CK0 CK1 ⊢
 cases hm : mayT p.secs with
 | false =>
  obtain rfl := CK1.out hm
  have HF := Lib.hid (NO.out fun h => by rw [mayT_true (plan_parts.1 h).2.1] at hm; cases hm)
  clear hm
  go_wp2_with fail
  go_ret
  exact ⟨by rw [HF.out]; rfl, BQ.out⟩
 | true =>
 obtain rfl := CK0.out hm
 have S2 := Lib.hid (mayT_iff.1 hm)
 clear hm
 obtain ⟨k0, k1, k2, k3, k4, k5⟩ := cell6_of XP.out
 go_wp2_with fail
 refine (points_prog _ p _ ⟨_, _, _, _, rfl, HI.out⟩ S2.out).mono ?_
 rintro e w3 ⟨rfl, b1⟩
 clear k0 k1 k2 k3 k4 k5
 replace BQ := Lib.hid (BQ.out.trans (b1.mono BQ.out.size))
 replace XP := Lib.hid ((b1.block _ (heap_lt XP.out)).trans XP.out)
 replace HI := Lib.hid ((HI.out.below b1).more b1.size)
 clear b1
 cases h3 : propB (PtsMay p) with
 | false =>
  have HF := Lib.hid (NO.out fun h => by rw [propB_true (plan_parts.1 h).2.2.1] at h3; cases h3)
  clear h3
  go_wp2_with fail
  go_ret
  exact ⟨by rw [HF.out]; rfl, BQ.out⟩
 | true =>
 have S3 := Lib.hid (propB_iff.1 h3)
 clear h3
 obtain ⟨k0, k1, k2, k3, k4, k5⟩ := cell6_of XP.out
 go_wp2_with fail
 refine (signals_prog _ p _ ⟨_, _, _, _, rfl, HI.out⟩).mono ?_
 rintro e w4 ⟨rfl, b1⟩
 clear k0 k1 k2 k3 k4 k5
 replace BQ := Lib.hid (BQ.out.trans (b1.mono BQ.out.size))
 replace XP := Lib.hid ((b1.block _ (heap_lt XP.out)).trans XP.out)
 replace HI := Lib.hid ((HI.out.below b1).more b1.size)
 clear b1
 cases h4 : propB (SigsMay p) with
 | false =>
  have HF := Lib.hid (NO.out fun h => by rw [propB_true (plan_parts.1 h).2.2.2.1] at h4; cases h4)
  clear h4
  go_wp2_with fail
  go_ret
  exact ⟨by rw [HF.out]; rfl, BQ.out⟩
 | true =>
 have S4 := Lib.hid (propB_iff.1 h4)
 clear h4
 obtain ⟨k0, k1, k2, k3, k4, k5⟩ := cell6_of XP.out
 go_wp2_with fail
 refine (routes_prog _ p _ ⟨_, _, _, _, rfl, HI.out⟩ S2.out ((pts_iff S2.out).1 S3.out).rise).mono ?_
 rintro e w5 ⟨rfl, b1⟩
 clear k0 k1 k2 k3 k4 k5
 replace BQ := Lib.hid (BQ.out.trans (b1.mono BQ.out.size))
 replace XP := Lib.hid ((b1.block _ (heap_lt XP.out)).trans XP.out)
 replace HI := Lib.hid ((HI.out.below b1).more b1.size)
 clear b1
 cases h5 : propB (RoutesP p) with
 | false =>
  have HF := Lib.hid (NO.out fun h => by rw [propB_true (plan_parts.1 h).2.2.2.2] at h5; cases h5)
  clear h5
  go_wp2_with fail
  go_ret
  exact ⟨by rw [HF.out]; rfl, BQ.out⟩
 | true =>
 have S5 := Lib.hid (propB_iff.1 h5)
 clear h5
 have HF := Lib.hid (YES.out (plan_parts.2 ⟨S1.out, S2.out, S3.out, S4.out, S5.out⟩))
 go_wp2_with fail
 go_ret
 exact ⟨by rw [HF.out]; rfl, BQ.out⟩
end Go.Proofs.YtemmgmjhomgbbaaGreat
