/-
  The document's own functions of package way: asked, Outs.
  Conditions: none.
-/
import Derived.Test.YtjgdgdccnbmbiaaVWayRefC
set_option linter.unusedVariables false
set_option linter.unusedSimpArgs false
set_option maxRecDepth 100000
namespace Go.Proofs.Ytjgdgdccnbmbiaa
open Go.RowKit

noncomputable def askK (p : Pl) (id : Int) : Int := if planMay p = true ∧ 0 ≤ at1 kRt p.routes id ∧ hangsB p (routeN p id) = true then at1 kRt p.routes id else 0
theorem rends_one (v y : Value) (p : Pl) (r : Rt) (w : World) (h : PlanV w w.heap.size v p) (h' : RouteV w w.heap.size y r) (hr : RouteIn p r) :
    Calls Try.prog 37 #[v, y] w fun e w' => Below w.heap.size w w' ∧ ∃ u z, e = .returned (.tuple #[u, z, .bool (hangsB p r)]) ∧ (hangsB p r = true → TwoInts w' w.heap.size u (insL p r (allR r).length) z (outsL p r (allR r).length)) :=
  (rends_any v y p r w h h' hr).mono fun e w' ⟨b, hh⟩ => ⟨b, by
    rcases hh with ⟨hg, u, z, e1, ht⟩ | ⟨hg, e1⟩
    · exact ⟨u, z, by rw [hangsB_true hg]; exact e1, fun _ => ht⟩
    · exact ⟨_, _, by rw [hangsB_false hg]; exact e1, fun h => by rw [hangsB_false hg] at h; cases h⟩⟩
theorem routeN_at {p : Pl} {id : Int} {k : Nat} (hk : k < p.routes.length) (h : at1 kRt p.routes id = (k : Int)) : routeN p id = p.routes[k] := by rw [routeN, h]; simp [List.getD, List.getElem?_eq_getElem hk]

set_option maxHeartbeats 8000000 in
theorem rasked_any (v : Value) (p : Pl) (id : Int) (w : World) (h : PlanV w w.heap.size v p) :
    Calls Try.prog 35 #[v, .int .i64 id] w fun e w' => e = .returned (.tuple #[.int .i64 (askK p id), .int .i64 (wayE p id)]) ∧ Below w.heap.size w w' := by
  obtain ⟨y2, y3, y4, y5, rfl, hin⟩ := h
  have HIN0 := Lib.hid hin
  obtain ⟨A2, c2, rfl, hcl2, hcm2⟩ := hin.secs.slice
  obtain ⟨A3, c3, rfl, hcl3, hcm3⟩ := hin.pts.slice
  obtain ⟨A4, c4, rfl, hcl4, hcm4⟩ := hin.sigs.slice
  obtain ⟨A5, c5, rfl, hcl5, hcm5⟩ := hin.routes.slice
  unfold maxLen at hcm2 hcm3 hcm4 hcm5
  obtain ⟨n2, hn2⟩ : ∃ n, n = p.secs.length := ⟨_, rfl⟩
  obtain ⟨n3, hn3⟩ : ∃ n, n = p.pts.length := ⟨_, rfl⟩
  obtain ⟨n4, hn4⟩ : ∃ n, n = p.sigs.length := ⟨_, rfl⟩
  obtain ⟨n5, hn5⟩ : ∃ n, n = p.routes.length := ⟨_, rfl⟩
  have hm2 : n2 ≤ 9223372036854775807 := by omega
  have hm3 : n3 ≤ 9223372036854775807 := by omega
  have hm4 : n4 ≤ 9223372036854775807 := by omega
  have hm5 : n5 ≤ 9223372036854775807 := by omega
  have HCP : Hid (n2 ≤ c2 ∧ n3 ≤ c3 ∧ n4 ≤ c4 ∧ n5 ≤ c5) := Lib.hid (by omega)
  have HIN : Hid (PlIn w w.heap.size (.slice A2 n2 c2) (.slice A3 n3 c3) (.slice A4 n4 c4) (.slice A5 n5 c5) p) := Lib.hid (by rw [hn2, hn3, hn4, hn5]; exact HIN0.out)
  have HN : Hid (n2 = p.secs.length ∧ n3 = p.pts.length ∧ n4 = p.sigs.length ∧ n5 = p.routes.length) := Lib.hid ⟨hn2, hn3, hn4, hn5⟩
  rw [← hn2, ← hn3, ← hn4, ← hn5]
  clear hn2 hn3 hn4 hn5 HIN0 hin hcl2 hcm2 hcl3 hcm3 hcl4 hcm4 hcl5 hcm5
  have hq0 := heap_alloc_self w (.cells #[.int .i64 p.ver, .int .i64 p.par, .slice A2 n2 c2, .slice A3 n3 c3, .slice A4 n4 c4, .slice A5 n5 c5] 31)
  have hqb := below_new w (.cells #[.int .i64 p.ver, .int .i64 p.par, .slice A2 n2 c2, .slice A3 n3 c3, .slice A4 n4 c4, .slice A5 n5 c5] 31)
  go_enter Try.func35, Try.ntmps35
  go_upto_region 1 with fail
  generalize w.alloc (.cells #[.int .i64 p.ver, .int .i64 p.par, .slice A2 n2 c2, .slice A3 n3 c3, .slice A4 n4 c4, .slice A5 n5 c5] 31) = q at hq0 hqb ⊢
  have XP := Lib.hid hq0
  have BQ := Lib.hid hqb
  clear hq0 hqb
  obtain ⟨k0, k1, k2, k3, k4, k5⟩ := cell6_of XP.out
  go_wp2_with fail
  refine (rmay8_any _ p q ⟨_, _, _, _, rfl, (HIN.out.below BQ.out).more BQ.out.size⟩).mono ?_
  rintro e w1 ⟨rfl, b1⟩
  have X1 := Lib.hid ((b1.block _ (heap_lt XP.out)).trans XP.out)
  have B1 := Lib.hid (BQ.out.trans (b1.mono BQ.out.size))
  clear b1 k0 k1 k2 k3 k4 k5
  obtain ⟨k0, k1, k2, k3, k4, k5⟩ := cell6_of X1.out
  cases hm : planMay p with
  | false =>
    have HF : Hid (askK p id = 0 ∧ wayE p id = 8) := Lib.hid ⟨by rw [askK, if_neg (by rw [hm]; intro h; cases h.1)], by rw [wayE, hm]; rfl⟩
    clear hm
    go_wp2_with fail
    refine bodyPost_ret (results_tmp2 rfl _ _ _) rfl ?_
    exact ⟨by rw [HF.out.1, HF.out.2]; rfl, B1.out⟩
  | true =>
  have HM := Lib.hid hm
  have HPM := Lib.hid (planMay_iff.1 hm)
  clear hm
  have HI := Lib.hid ((HIN.out.below B1.out).more B1.out.size)
  go_wp2_with fail
  refine (rrouteat_any _ p.routes id w1 HI.out.routes).mono ?_
  rintro e w' ⟨rfl, hw⟩
  obtain rfl := hw.symm
  clear hw
  obtain ⟨K, hK⟩ : ∃ K, K = at1 (fun x : Rt => x.id) p.routes id := ⟨_, rfl⟩
  have HK : Hid (at1 kRt p.routes id = K) := Lib.hid hK.symm
  rw [← hK]
  clear hK
  by_cases h0 : K < 0
  · have d0 : decide (K < 0) = true := decide_eq_true h0
    have HF : Hid (askK p id = 0 ∧ wayE p id = 6) := Lib.hid ⟨by rw [askK, HK.out, if_neg (by omega)], by rw [wayE, HM.out, if_pos rfl, HK.out, if_pos h0]⟩
    clear h0
    go_wp2_with fail
    refine bodyPost_ret (results_tmp2 rfl _ _ _) rfl ?_
    exact ⟨by rw [HF.out.1, HF.out.2]; rfl, B1.out⟩
  have d0 : decide (K < 0) = false := decide_eq_false h0
  have HNN := Lib.hid h0
  obtain ⟨kr, hkr, hatr⟩ : ∃ k : Nat, k < p.routes.length ∧ K = (k : Int) := by
    rcases at1_cases kRt p.routes id with h | ⟨k, hk, h, -⟩
    · have := HK.out; omega
    · exact ⟨k, hk, HK.out.symm.trans h⟩
  subst hatr
  have HAT := HK
  clear h0
  go_upto_region 6 with fail
  clear d0 k0 k1 k2 k3 k4 k5
  have hkr' : (kr : Int) < n5 := by have := HN.out; omega
  obtain ⟨br, ofr, rfl, hbr, g0, g1, g2, g6, y3, y4, y5, g3, g4, g5, hrv⟩ := HI.out.routes.at hkr
  obtain ⟨r, hr⟩ : ∃ r, r = p.routes[kr] := ⟨_, rfl⟩
  rw [← hr] at g0 g1 g2 g6 hrv
  have hr0 : w1.cell? ⟨br, ofr + kr * 7, none⟩ = some (.int .i64 r.id) := g0
  have hr1 : w1.cell? ⟨br, ofr + kr * 7 + 1, none⟩ = some (.int .i64 r.entry) := g1
  have hr2 : w1.cell? ⟨br, ofr + kr * 7 + 2, none⟩ = some (.int .i64 r.exit) := g2
  have hr3 : w1.cell? ⟨br, ofr + kr * 7 + 3, none⟩ = some y3 := g3
  have hr4 : w1.cell? ⟨br, ofr + kr * 7 + 4, none⟩ = some y4 := g4
  have hr5 : w1.cell? ⟨br, ofr + kr * 7 + 5, none⟩ = some y5 := g5
  have hr6 : w1.cell? ⟨br, ofr + kr * 7 + 6, none⟩ = some (.int .i64 r.timer) := g6
  have HRV := Lib.hid hrv
  have HRI : Hid (RouteIn p r) := Lib.hid (routeIn_of HPM.out hkr hr.symm)
  have HRN : Hid (routeN p id = r) := Lib.hid (by rw [routeN_at hkr HAT.out, hr])
  clear g0 g1 g2 g6 g3 g4 g5 hrv hbr hkr hr
  refine wp_region_held_drew (S := fun v => Below w1.heap.size w1 v) (by kernel_rfl) (Below.refl w1.heap.size w1).drew (fun hHeld => ?_)
  refine tkH 0 ?_ rfl hHeld ?_ ?_
  rotate_left
  · intro w' hSw; obtain ⟨cv0, cv1, cv2, cv3, cv4, cv5⟩ := cell6_of ((hSw.block _ (heap_lt X1.out)).trans X1.out); go_simp; try with_reducible rfl
  simp only [zn, Act.put]
  refine tkH 1 ?_ rfl hHeld ?_ ?_
  rotate_left
  · intro w' hSw; go_simp; try with_reducible rfl
  simp only [zn, Act.put]
  refine tkH 2 ?_ rfl hHeld ?_ ?_
  rotate_left
  · intro w' hSw; obtain ⟨cv0, cv1, cv2, cv3, cv4, cv5⟩ := cell6_of ((hSw.block _ (heap_lt X1.out)).trans X1.out); go_simp; try with_reducible rfl
  simp only [zn, Act.put]
  refine tkH 3 ?_ rfl hHeld ?_ ?_
  rotate_left
  · intro w' hSw; go_simp; try with_reducible rfl
  simp only [zn, Act.put]
  refine tkH 4 ?_ rfl hHeld ?_ ?_
  rotate_left
  · intro w' hSw; go_simp; try with_reducible rfl
  simp only [zn, Act.put]
  refine tkH 5 ?_ rfl hHeld ?_ ?_
  rotate_left
  · intro w' hSw; have cr0 := (hSw.cell (cell_lt hr0)).trans hr0; have cr1 := (hSw.cell (cell_lt hr1)).trans hr1; have cr2 := (hSw.cell (cell_lt hr2)).trans hr2; have cr3 := (hSw.cell (cell_lt hr3)).trans hr3; have cr4 := (hSw.cell (cell_lt hr4)).trans hr4; have cr5 := (hSw.cell (cell_lt hr5)).trans hr5; have cr6 := (hSw.cell (cell_lt hr6)).trans hr6; go_simp; try with_reducible rfl
  simp only [zn, Act.put]
  refine wpAnyH_ready (rs := [6]) (by kernel_rfl) (by simp) ?_
  refine AllReadyH.cons rfl (fun K hK => ?_) AllReadyH.nil
  go_simp
  refine (rends_one _ _ p r w1.drew ⟨_, _, _, _, rfl, (HI.out.below (Below.refl w1.heap.size w1).drew).more (Below.refl w1.heap.size w1).drew.size⟩ ⟨_, _, _, rfl, (HRV.out.below (Below.refl w1.heap.size w1).drew).more (Below.refl w1.heap.size w1).drew.size⟩ HRI.out).mono ?_
  rintro e wE ⟨bE, u, z, rfl, hT⟩
  have BE : Hid (Below w1.heap.size w1 wE) := Lib.hid ((Below.refl w1.heap.size w1).drew.trans bE)
  have HT := Lib.hid hT
  clear bE hT
  try go_wp2_with fail
  refine hK.out _ _ ?_ (fun hHeld => ?_)
  · exact BE.out
  clear hK K
  try simp only [zn, Act.put]
  refine tkH 7 ?_ rfl hHeld ?_ ?_
  rotate_left
  · intro w' hSw; go_simp; try with_reducible rfl
  simp only [zn, Act.put]
  refine tkH 8 ?_ rfl hHeld ?_ ?_
  rotate_left
  · intro w' hSw; go_simp; try with_reducible rfl
  simp only [zn, Act.put]
  refine tkH 9 ?_ rfl hHeld ?_ ?_
  rotate_left
  · intro w' hSw; go_simp; try with_reducible rfl
  simp only [zn, Act.put]
  refine tkH 10 ?_ rfl hHeld ?_ ?_
  rotate_left
  · intro w' hSw; go_simp; try with_reducible rfl
  simp only [zn, Act.put]
  refine tkH 11 ?_ rfl hHeld ?_ ?_
  rotate_left
  · intro w' hSw; go_simp; try with_reducible rfl
  simp only [zn, Act.put]
  refine tkH 12 ?_ rfl hHeld ?_ ?_
  rotate_left
  · intro w' hSw; go_simp; try with_reducible rfl
  simp only [zn, Act.put]
  refine tkH 13 ?_ rfl hHeld ?_ ?_
  rotate_left
  · intro w' hSw; go_simp; try with_reducible rfl
  simp only [zn, Act.put]
  refine wpAnyH_done (by kernel_rfl) ?_ _
  clear hr0 hr1 hr2 hr3 hr4 hr5 hr6
  have BZ := Lib.hid (B1.out.trans (BE.out.mono B1.out.size))
  cases hg : hangsB p r with
  | false =>
    have HF : Hid (askK p id = 0 ∧ wayE p id = 90) := Lib.hid ⟨by rw [askK, HRN.out, hg, if_neg (by intro h; cases h.2.2)], by rw [wayE, HM.out, if_pos rfl, HK.out, if_neg (by omega), HRN.out, hg]; rfl⟩
    clear hg
    go_wp2_with fail
    refine bodyPost_ret (results_tmp2 rfl _ _ _) rfl ?_
    exact ⟨by rw [HF.out.1, HF.out.2]; rfl, BZ.out⟩
  | true =>
    have HF : Hid (askK p id = (kr : Int) ∧ wayE p id = 0) := Lib.hid ⟨by rw [askK, HRN.out, hg, HK.out, if_pos ⟨HM.out, by omega, rfl⟩], by rw [wayE, HM.out, if_pos rfl, HK.out, if_neg (by omega), HRN.out, hg]; rfl⟩
    clear hg
    go_wp2_with fail
    refine bodyPost_ret (results_tmp2 rfl _ _ _) rfl ?_
    exact ⟨by rw [HF.out.1, HF.out.2]; rfl, BZ.out⟩

end Go.Proofs.Ytjgdgdccnbmbiaa

/-
  The document's own function of package way: Outs.
  Conditions: none.
-/
set_option linter.unusedVariables false
set_option linter.unusedSimpArgs false
set_option maxRecDepth 100000
namespace Go.Proofs.Ytjgdgdccnbmbiaa
open Go.RowKit

theorem wayE_zero {p : Pl} {id : Int} (h : wayE p id = 0) : planMay p = true ∧ 0 ≤ at1 kRt p.routes id ∧ hangsB p (routeN p id) = true := by
  rw [wayE] at h
  split at h
  · rename_i h1
    split at h
    · cases h
    · rename_i h2
      split at h
      · rename_i h3
        exact ⟨h1, by omega, h3⟩
      · cases h
  · cases h
theorem askK_zero {p : Pl} {id : Int} (h : wayE p id = 0) : askK p id = at1 kRt p.routes id := by rw [askK, if_pos (wayE_zero h)]
theorem left_take {p : Pl} {r : Rt} {a : Nat} (h : 0 ≤ outA p r a) : leftL p r (a + 1) = leftL p r a ++ [((allR r).getD a 0, outA p r a)] := by rw [leftL_succ, leftN, if_pos h]; rfl
theorem left_skip {p : Pl} {r : Rt} {a : Nat} (h : ¬ 0 ≤ outA p r a) : leftL p r (a + 1) = leftL p r a := by rw [leftL_succ, leftN, if_neg h]; simp
theorem leftL_len (p : Pl) (r : Rt) (n : Nat) : (leftL p r n).length ≤ n := by
  rw [leftL]
  exact Nat.le_trans (List.length_filterMap_le _ _) (by simp)
theorem outsL_at (p : Pl) (r : Rt) {n a : Nat} (h : a < n) : (outsL p r n)[a]'(by rw [outsL_len]; exact h) = outA p r a := by simp [outsL]

set_option maxHeartbeats 16000000 in
theorem routs_any (v : Value) (p : Pl) (id : Int) (w : World) (h : PlanV w w.heap.size v p) :
    Calls Try.prog 16 #[v, .int .i64 id] w fun e w' => ∃ u, e = .returned (.tuple #[u, .int .i64 (wayE p id)]) ∧ JoinsOwn w' w.heap.size u (leftV p id) ∧ Below w.heap.size w w' := by
  obtain ⟨y2, y3, y4, y5, rfl, hin⟩ := h
  have HIN0 := Lib.hid hin
  obtain ⟨A2, c2, rfl, hcl2, hcm2⟩ := hin.secs.slice
  obtain ⟨A3, c3, rfl, hcl3, hcm3⟩ := hin.pts.slice
  obtain ⟨A4, c4, rfl, hcl4, hcm4⟩ := hin.sigs.slice
  obtain ⟨A5, c5, rfl, hcl5, hcm5⟩ := hin.routes.slice
  unfold maxLen at hcm2 hcm3 hcm4 hcm5
  obtain ⟨n2, hn2⟩ : ∃ n, n = p.secs.length := ⟨_, rfl⟩
  obtain ⟨n3, hn3⟩ : ∃ n, n = p.pts.length := ⟨_, rfl⟩
  obtain ⟨n4, hn4⟩ : ∃ n, n = p.sigs.length := ⟨_, rfl⟩
  obtain ⟨n5, hn5⟩ : ∃ n, n = p.routes.length := ⟨_, rfl⟩
  have hm2 : n2 ≤ 9223372036854775807 := by omega
  have hm3 : n3 ≤ 9223372036854775807 := by omega
  have hm4 : n4 ≤ 9223372036854775807 := by omega
  have hm5 : n5 ≤ 9223372036854775807 := by omega
  have HCP : Hid (n2 ≤ c2 ∧ n3 ≤ c3 ∧ n4 ≤ c4 ∧ n5 ≤ c5) := Lib.hid (by omega)
  have HIN : Hid (PlIn w w.heap.size (.slice A2 n2 c2) (.slice A3 n3 c3) (.slice A4 n4 c4) (.slice A5 n5 c5) p) := Lib.hid (by rw [hn2, hn3, hn4, hn5]; exact HIN0.out)
  have HN : Hid (n2 = p.secs.length ∧ n3 = p.pts.length ∧ n4 = p.sigs.length ∧ n5 = p.routes.length) := Lib.hid ⟨hn2, hn3, hn4, hn5⟩
  rw [← hn2, ← hn3, ← hn4, ← hn5]
  clear hn2 hn3 hn4 hn5 HIN0 hin hcl2 hcm2 hcl3 hcm3 hcl4 hcm4 hcl5 hcm5
  have hq0 := heap_alloc_self w (.cells #[.int .i64 p.ver, .int .i64 p.par, .slice A2 n2 c2, .slice A3 n3 c3, .slice A4 n4 c4, .slice A5 n5 c5] 31)
  have hqb := below_new w (.cells #[.int .i64 p.ver, .int .i64 p.par, .slice A2 n2 c2, .slice A3 n3 c3, .slice A4 n4 c4, .slice A5 n5 c5] 31)
  go_enter Try.func16, Try.ntmps16
  go_upto_region 1 with fail
  generalize w.alloc (.cells #[.int .i64 p.ver, .int .i64 p.par, .slice A2 n2 c2, .slice A3 n3 c3, .slice A4 n4 c4, .slice A5 n5 c5] 31) = q at hq0 hqb ⊢
  have XP := Lib.hid hq0
  have BQ := Lib.hid hqb
  clear hq0 hqb
  obtain ⟨k0, k1, k2, k3, k4, k5⟩ := cell6_of XP.out
  go_wp2_with fail
  refine (rasked_any _ p id q ⟨_, _, _, _, rfl, (HIN.out.below BQ.out).more BQ.out.size⟩).mono ?_
  rintro e w1 ⟨rfl, b1⟩
  have X1 := Lib.hid ((b1.block _ (heap_lt XP.out)).trans XP.out)
  have B1 := Lib.hid (BQ.out.trans (b1.mono BQ.out.size))
  clear b1 k0 k1 k2 k3 k4 k5
  obtain ⟨E, hE⟩ : ∃ E, E = wayE p id := ⟨_, rfl⟩
  obtain ⟨K, hK⟩ : ∃ K, K = askK p id := ⟨_, rfl⟩
  rw [← hE, ← hK]
  by_cases h0 : E = 0
  rotate_left
  · have d0 : (E != 0) = true := by simpa using h0
    have HEE := Lib.hid hE.symm
    have HV : Hid (leftV p id = []) := Lib.hid (by rw [leftV, if_neg (by rw [← hE]; exact h0)])
    clear h0 hE hK
    go_wp2_with fail
    refine bodyPost_ret (results_tmp2 rfl _ _ _) rfl ?_
    exact ⟨_, by rw [HEE.out]; rfl, by rw [HV.out]; exact ListOwn.nil_, B1.out⟩
  subst h0
  obtain ⟨hm, ha, hg⟩ := wayE_zero hE.symm
  rw [askK_zero hE.symm] at hK
  obtain ⟨kr, hkr, hatr⟩ : ∃ k : Nat, k < p.routes.length ∧ at1 kRt p.routes id = (k : Int) := by
    rcases at1_cases kRt p.routes id with h | ⟨k, hk, h, -⟩
    · omega
    · exact ⟨k, hk, h⟩
  have HAT := Lib.hid hatr
  obtain rfl : K = (kr : Int) := hK.trans hatr
  have HPM := Lib.hid (planMay_iff.1 hm)
  have HG := Lib.hid hg
  have HE := Lib.hid hE.symm
  have HI := Lib.hid ((HIN.out.below B1.out).more B1.out.size)
  clear hm ha hg hE hK hatr
  obtain ⟨k0, k1, k2, k3, k4, k5⟩ := cell6_of X1.out
  go_upto_region 4 with fail
  clear k0 k1 k2 k3 k4 k5
  have hkr' : (kr : Int) < n5 := by have := HN.out; omega
  obtain ⟨br, ofr, rfl, hbr, g0, g1, g2, g6, y3, y4, y5, g3, g4, g5, hrv⟩ := HI.out.routes.at hkr
  obtain ⟨r, hr⟩ : ∃ r, r = p.routes[kr] := ⟨_, rfl⟩
  rw [← hr] at g0 g1 g2 g6 hrv
  have hr0 : w1.cell? ⟨br, ofr + kr * 7, none⟩ = some (.int .i64 r.id) := g0
  have hr1 : w1.cell? ⟨br, ofr + kr * 7 + 1, none⟩ = some (.int .i64 r.entry) := g1
  have hr2 : w1.cell? ⟨br, ofr + kr * 7 + 2, none⟩ = some (.int .i64 r.exit) := g2
  have hr3 : w1.cell? ⟨br, ofr + kr * 7 + 3, none⟩ = some y3 := g3
  have hr4 : w1.cell? ⟨br, ofr + kr * 7 + 4, none⟩ = some y4 := g4
  have hr5 : w1.cell? ⟨br, ofr + kr * 7 + 5, none⟩ = some y5 := g5
  have hr6 : w1.cell? ⟨br, ofr + kr * 7 + 6, none⟩ = some (.int .i64 r.timer) := g6
  have HRV := Lib.hid hrv
  have HRI : Hid (RouteIn p r) := Lib.hid (routeIn_of HPM.out hkr hr.symm)
  have HRN : Hid (routeN p id = r) := Lib.hid (by rw [routeN_at hkr HAT.out, hr])
  clear g0 g1 g2 g6 g3 g4 g5 hrv hbr hkr hr
  refine wp_region_held_drew (S := fun v => Below w1.heap.size w1 v) (by kernel_rfl) (Below.refl w1.heap.size w1).drew (fun hHeld => ?_)
  refine tkH 0 ?_ rfl hHeld ?_ ?_
  rotate_left
  · intro w' hSw; obtain ⟨cv0, cv1, cv2, cv3, cv4, cv5⟩ := cell6_of ((hSw.block _ (heap_lt X1.out)).trans X1.out); go_simp; try with_reducible rfl
  simp only [zn, Act.put]
  refine tkH 1 ?_ rfl hHeld ?_ ?_
  rotate_left
  · intro w' hSw; go_simp; try with_reducible rfl
  simp only [zn, Act.put]
  refine tkH 2 ?_ rfl hHeld ?_ ?_
  rotate_left
  · intro w' hSw; obtain ⟨cv0, cv1, cv2, cv3, cv4, cv5⟩ := cell6_of ((hSw.block _ (heap_lt X1.out)).trans X1.out); go_simp; try with_reducible rfl
  simp only [zn, Act.put]
  refine tkH 3 ?_ rfl hHeld ?_ ?_
  rotate_left
  · intro w' hSw; go_simp; try with_reducible rfl
  simp only [zn, Act.put]
  refine tkH 4 ?_ rfl hHeld ?_ ?_
  rotate_left
  · intro w' hSw; go_simp; try with_reducible rfl
  simp only [zn, Act.put]
  refine tkH 5 ?_ rfl hHeld ?_ ?_
  rotate_left
  · intro w' hSw; have cr0 := (hSw.cell (cell_lt hr0)).trans hr0; have cr1 := (hSw.cell (cell_lt hr1)).trans hr1; have cr2 := (hSw.cell (cell_lt hr2)).trans hr2; have cr3 := (hSw.cell (cell_lt hr3)).trans hr3; have cr4 := (hSw.cell (cell_lt hr4)).trans hr4; have cr5 := (hSw.cell (cell_lt hr5)).trans hr5; have cr6 := (hSw.cell (cell_lt hr6)).trans hr6; go_simp; try with_reducible rfl
  simp only [zn, Act.put]
  refine wpAnyH_ready (rs := [6]) (by kernel_rfl) (by simp) ?_
  refine AllReadyH.cons rfl (fun K hK => ?_) AllReadyH.nil
  go_simp
  refine (rends_one _ _ p r w1.drew ⟨_, _, _, _, rfl, (HI.out.below (Below.refl w1.heap.size w1).drew).more (Below.refl w1.heap.size w1).drew.size⟩ ⟨_, _, _, rfl, (HRV.out.below (Below.refl w1.heap.size w1).drew).more (Below.refl w1.heap.size w1).drew.size⟩ HRI.out).mono ?_
  rintro e wE ⟨bE, u, z, rfl, hT⟩
  have BE : Hid (Below w1.heap.size w1 wE) := Lib.hid ((Below.refl w1.heap.size w1).drew.trans bE)
  have HT := Lib.hid hT
  clear bE hT
  try go_wp2_with fail
  refine hK.out _ _ ?_ (fun hHeld => ?_)
  · exact BE.out
  clear hK K
  try simp only [zn, Act.put]
  refine tkH 7 ?_ rfl hHeld ?_ ?_
  rotate_left
  · intro w' hSw; go_simp; try with_reducible rfl
  simp only [zn, Act.put]
  refine tkH 8 ?_ rfl hHeld ?_ ?_
  rotate_left
  · intro w' hSw; go_simp; try with_reducible rfl
  simp only [zn, Act.put]
  refine tkH 9 ?_ rfl hHeld ?_ ?_
  rotate_left
  · intro w' hSw; go_simp; try with_reducible rfl
  simp only [zn, Act.put]
  refine tkH 10 ?_ rfl hHeld ?_ ?_
  rotate_left
  · intro w' hSw; go_simp; try with_reducible rfl
  simp only [zn, Act.put]
  refine tkH 11 ?_ rfl hHeld ?_ ?_
  rotate_left
  · intro w' hSw; go_simp; try with_reducible rfl
  simp only [zn, Act.put]
  refine tkH 12 ?_ rfl hHeld ?_ ?_
  rotate_left
  · intro w' hSw; go_simp; try with_reducible rfl
  simp only [zn, Act.put]
  refine tkH 13 ?_ rfl hHeld ?_ ?_
  rotate_left
  · intro w' hSw; go_simp; try with_reducible rfl
  simp only [zn, Act.put]
  refine wpAnyH_done (by kernel_rfl) ?_ _
  have T := Lib.hid (HT.out (by rw [← HRN.out]; exact HG.out))
  have X2 := Lib.hid ((BE.out.block _ (heap_lt X1.out)).trans X1.out)
  have B2 := Lib.hid (B1.out.trans (BE.out.mono B1.out.size))
  have c0 := (BE.out.cell (cell_lt hr0)).trans hr0
  have c1 := (BE.out.cell (cell_lt hr1)).trans hr1
  have c2' := (BE.out.cell (cell_lt hr2)).trans hr2
  have c3' := (BE.out.cell (cell_lt hr3)).trans hr3
  have c4' := (BE.out.cell (cell_lt hr4)).trans hr4
  have c5' := (BE.out.cell (cell_lt hr5)).trans hr5
  have c6 := (BE.out.cell (cell_lt hr6)).trans hr6
  have HRW := Lib.hid ((HRV.out.below BE.out).more BE.out.size)
  clear hr0 hr1 hr2 hr3 hr4 hr5 hr6 HT HRV
  obtain ⟨k0, k1, k2, k3, k4, k5⟩ := cell6_of X2.out
  go_wp2_with fail
  refine (rsections_any _ r wE ⟨_, _, _, rfl, HRW.out⟩ (by have := HRI.out.len; omega) (by have := HRI.out.len; omega)).mono ?_
  rintro e wS ⟨u', rfl, hu, b9⟩
  obtain ⟨AL, cL, rfl⟩ := hu.slice
  obtain ⟨nl, hnl⟩ : ∃ n, n = (r.path ++ r.over).length := ⟨_, rfl⟩
  have HNL : Hid (nl = (allR r).length) := Lib.hid hnl
  have LI : Hid (IntsIn wS wS.heap.size (.slice AL nl cL) (allR r)) := Lib.hid (by rw [hnl]; exact hu.in_ intR_cells)
  rw [← hnl]
  have ht := (T.out.b.below intR b9)
  obtain ⟨AO, cO, rfl⟩ := ht.slice
  have OI : Hid (IntsIn wS wS.heap.size (.slice AO nl cO) (outsL p r nl)) := Lib.hid (by have := ht.in_ intR_cells; rw [outsL_len, ← HNL.out] at this; exact this)
  rw [outsL_len, ← HNL.out]
  have BS := Lib.hid (B2.out.trans (b9.mono B2.out.size))
  have hnl8 : nl ≤ 8 := by have := HRI.out.len; have := HNL.out; omega
  clear hnl hu b9 ht T X1 X2 B1 B2 c0 c1 c2' c3' c4' c5' c6 k0 k1 k2 k3 k4 k5
  go_wp2_with fail
  go_loopw [12, 13] (fun s12 s13 wr => ∃ (i L : Nat) (A : Option Addr) (c : Nat), i ≤ nl ∧ s13 = .int .i64 i ∧ s12 = .slice A L c ∧ L = (leftL p r i).length ∧ JoinsOwn wr wS.heap.size (.slice A L c) (leftL p r i) ∧ Below wS.heap.size wS wr) (fun _ s13 _ => nl - (intOf s13).toNat)
  case atStart => exact ⟨0, 0, none, 0, by omega, by go_num, rfl, rfl, ListOwn.nil_, Below.refl _ _⟩
  case round =>
    obtain ⟨i, L, A, c, hi, rfl, rfl, hL, ho, hb⟩ := hrel
    have HLL := Lib.hid hL
    have LLE : Hid (L ≤ i) := Lib.hid (by rw [hL]; exact leftL_len p r i)
    have OW := Lib.hid ho
    have BV := Lib.hid hb
    clear hL ho hb
    by_cases hlt : i < nl
    · have hlt' : (i : Int) < nl := by omega
      have hia : i < (allR r).length := by have := HNL.out; omega
      have hio : i < (outsL p r nl).length := by rw [outsL_len]; exact hlt
      obtain ⟨bl, ofl, e2, hbl, hc0⟩ := (LI.out.below intR BV.out).at hia
      obtain ⟨bo, ofo, e3, hbo, hd0⟩ := (OI.out.below intR BV.out).at hio
      cases e2
      cases e3
      have HBL := Lib.hid hbl
      have HBO := Lib.hid hbo
      obtain ⟨z, hz⟩ : ∃ z, z = (allR r).getD i 0 := ⟨_, rfl⟩
      obtain ⟨X, hX⟩ : ∃ z, z = outA p r i := ⟨_, rfl⟩
      have hl1 : wr.cell? ⟨bl, ofl + i, none⟩ = some (.int .i64 z) := by rw [hz, List.getD, List.getElem?_eq_getElem hia]; simpa [IntR] using hc0
      have hz1 : wr.cell? ⟨bo, ofo + i, none⟩ = some (.int .i64 X) := by rw [outsL_at p r hlt, ← hX] at hd0; simpa [IntR] using hd0
      have HZ := Lib.hid hz
      have HX := Lib.hid hX
      clear hz hX hc0 hd0 hbl hbo
      go_upto_region 10 with fail
      by_cases h0 : 0 ≤ X
      · have d0 : decide (X ≥ 0) = true := decide_eq_true h0
        have d1 : decide (0 ≤ X) = true := decide_eq_true h0
        have h0 : Hid (0 ≤ outA p r i) := Lib.hid (by rw [← HX.out]; exact h0)
        obtain ⟨i0, hii, hz0, hzz, hz2⟩ := info_parts infoJoin
        have I0 := Lib.hid hii
        have I1 := Lib.hid hz0
        have I2 := Lib.hid hzz
        have I3 := Lib.hid hz2
        obtain ⟨yss, hown, hyl, hm, hys, hyr⟩ := OW.out
        rw [← HLL.out] at hown
        have O := Lib.hid hown
        have YL := Lib.hid hyl
        have YS := Lib.hid hys
        have YR := Lib.hid hyr
        clear hii hz0 hzz hz2 hown hyl hm hys hyr
        go_upto_region 11 with fail
        clear d0 d1
        refine wp_region_held_drew (S := fun v => Below wS.heap.size wr v) (by kernel_rfl) (Below.refl wS.heap.size wr).drew (fun hHeld => ?_)
        refine tkH 0 ?_ rfl hHeld ?_ ?_
        rotate_left
        · intro w' hSw; go_simp; try with_reducible rfl
        simp only [zn, Act.put]
        refine tkH 1 ?_ rfl hHeld ?_ ?_
        rotate_left
        · intro w' hSw; go_simp; try with_reducible rfl
        simp only [zn, Act.put]
        refine tkH 2 ?_ rfl hHeld ?_ ?_
        rotate_left
        · intro w' hSw; go_simp; try with_reducible rfl
        simp only [zn, Act.put]
        refine tkH 3 ?_ rfl hHeld ?_ ?_
        rotate_left
        · intro w' hSw; go_simp; try with_reducible rfl
        simp only [zn, Act.put]
        refine tkH 4 ?_ rfl hHeld ?_ ?_
        rotate_left
        · intro w' hSw; have cl := (hSw.cell (p := ⟨bl, ofl + i, none⟩) HBL.out).trans hl1; go_simp; try with_reducible rfl
        simp only [zn, Act.put]
        refine tkH 5 ?_ rfl hHeld ?_ ?_
        rotate_left
        · intro w' hSw; go_simp; try with_reducible rfl
        simp only [zn, Act.put]
        refine tkH 6 ?_ rfl hHeld ?_ ?_
        rotate_left
        · intro w' hSw; go_simp; try with_reducible rfl
        simp only [zn, Act.put]
        refine tkH 7 ?_ rfl hHeld ?_ ?_
        rotate_left
        · intro w' hSw; go_simp; try with_reducible rfl
        simp only [zn, Act.put]
        refine tkH 8 ?_ rfl hHeld ?_ ?_
        rotate_left
        · intro w' hSw; have cz := (hSw.cell (p := ⟨bo, ofo + i, none⟩) HBO.out).trans hz1; go_simp; try with_reducible rfl
        simp only [zn, Act.put]
        refine tkH 9 ?_ rfl hHeld ?_ ?_
        rotate_left
        · intro w' hSw; go_simp; try with_reducible rfl
        simp only [zn, Act.put]
        refine wpAnyH_ready (rs := [10]) (by kernel_rfl) (by simp) ?_
        refine AllReadyH.cons rfl (fun K hK => ?_) AllReadyH.nil
        go_simp
        refine hK.out _ _ ?_ (fun hHeld => ?_)
        · exact ((Below.refl wS.heap.size wr).drew.alloc BV.out.size _)
        clear hK K
        try simp only [zn, Act.put]
        refine wpAnyH_ready (rs := [11]) (by kernel_rfl) (by simp) ?_
        refine AllReadyH.cons rfl (fun K hK => ?_) AllReadyH.nil
        rw [if_pos (by rfl)]
        refine wp_append_list (.tmp 51) (.tmp 61) _ rfl Try.underlying22 I0.out I1.out rfl I2.out (by decide) I3.out (by decide) rfl (owns_below O.out ((Below.refl wr.heap.size wr).alloc (Nat.le_refl _) _).drew) rfl (m := 1) (news := [.int .i64 z, .int .i64 X]) rfl (fun h => by cases h) (fun a ha j u hj => by cases ha; rw [Addr.add_lit, Nat.zero_add]; show (wr.alloc (.cells #[.int .i64 z, .int .i64 X] 41)).cell? ⟨wr.heap.size, j, none⟩ = _; rw [World.cell?_alloc_new]; simpa using hj) (by simp [Value.oneCell']) (by have := LLE.out; omega) (by have := BV.out.size; simp; omega) ?_
        intro v5 w5 hown5 hgrow6
        have hgrow5 : World.grownBy (wr.alloc (.cells #[.int .i64 z, .int .i64 X] 41)) w5 (Value.ownBlock (.slice A L c)) := ⟨hgrow6.os, hgrow6.tape, hgrow6.output, hgrow6.size, hgrow6.block⟩
        have S5 : Hid (JoinsOwn w5 wS.heap.size v5 (leftL p r (i + 1))) := Lib.hid (by
          rw [left_take h0.out, ← HZ.out, ← HX.out]
          exact ListOwn.snoc (w1 := wr) (x := (z, X)) (ys := [.int .i64 z, .int .i64 X]) joinR (fun _ h _ _ => h) (by rw [← HLL.out]; exact O.out) YL.out YS.out rfl (by have := LLE.out; have := HLL.out; unfold maxLen; omega) YR.out (Below.refl _ _) ⟨rfl, rfl⟩ (by rw [← HLL.out]; exact hown5) hgrow5)
        have B5 : Hid (Below wS.heap.size wr w5) := Lib.hid (((Below.refl wS.heap.size wr).alloc BV.out.size _).grown hgrow5 (by have := BV.out.size; simp; omega) (own_ge O.out))
        have LN5 : Hid (L + 1 = (leftL p r (i + 1)).length) := Lib.hid (by rw [left_take h0.out, List.length_append, ← HLL.out]; rfl)
        obtain ⟨A6, c6, rfl⟩ := own_sliceN hown5
        clear hown5 hgrow5 hgrow6
        refine hK.out _ _ ?_ (fun hHeld => ?_)
        · exact B5.out
        clear hK K
        try simp only [zn, Act.put]
        refine tkH 12 ?_ rfl hHeld ?_ ?_
        rotate_left
        · intro w' hSw; go_simp; try with_reducible rfl
        simp only [zn, Act.put]
        refine wpAnyH_done (by kernel_rfl) ?_ _
        clear hl1 hz1
        go_wp2_with fail
        go_roundw
        case measure => simp [intOf]; omega
        case rel => exact ⟨i + 1, L + 1, A6, c6, by omega, by go_num, rfl, LN5.out, S5.out, BV.out.trans B5.out⟩
      · have d1 : (0 ≤ X) = False := eq_false h0
        have h2 : Hid (leftL p r (i + 1) = leftL p r i) := Lib.hid (left_skip (by rw [← HX.out]; exact h0))
        clear h0
        go_wp2_with fail
        go_roundw
        case measure => simp [intOf]; omega
        case rel => exact ⟨i + 1, L, A, c, by omega, by go_num, rfl, by rw [h2.out]; exact HLL.out, by rw [h2.out]; exact OW.out, BV.out⟩
    · obtain rfl : nl = i := by omega
      have hlt' : ¬ (nl : Int) < nl := by omega
      have HF : Hid (leftV p id = leftL p r nl) := Lib.hid (by rw [leftV, if_pos HE.out, HRN.out, ← HNL.out])
      go_wp2_with fail
      refine bodyPost_ret (results_tmp2 rfl _ _ _) rfl ?_
      exact ⟨_, by rw [HE.out]; rfl, by rw [HF.out]; exact OW.out.mono BS.out.size, BS.out.trans (BV.out.mono BS.out.size)⟩
end Go.Proofs.Ytjgdgdccnbmbiaa
