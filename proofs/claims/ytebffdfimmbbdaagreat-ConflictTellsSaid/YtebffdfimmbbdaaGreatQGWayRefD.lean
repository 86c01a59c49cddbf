/-
 The document's own functions of package way: asked, Outs.
 Conditions: none.
-/
import Derived.Test.YtebffdfimmbbdaaGreatQWayRefC
set_option linter.unusedVariables false
set_option linter.unusedSimpArgs false
set_option maxRecDepth 100000
namespace Go.Proofs.YtebffdfimmbbdaaGreat
open Go.RowKit

noncomputable def askK (p : Pl) (id : Int) : Int := if planMay p = true ∧ 0 ≤ at1 kRt p.routes id ∧ hangsB p (routeN p id) = true then at1 kRt p.routes id else 0
theorem rends_one (v y : Value) (p : Pl) (r : Rt) (w : World) (h : PlanV w w.heap.size v p) (h' : RouteV w w.heap.size y r) (hr : RouteIn p r) :
  Calls Tryz.prog 47 #[v, y] w fun e w' => Below w.heap.size w w' ∧ ∃ u z, e = .returned (.tuple #[u, z, .bool (hangsB p r)]) ∧ (hangsB p r = true → TwoInts w' w.heap.size u (insL p r (allR r).length) z (outsL p r (allR r).length)) :=
 (rends_any v y p r w h h' hr).mono fun e w' ⟨b, hh⟩ => ⟨b, by
  rcases hh with ⟨hg, u, z, e1, ht⟩ | ⟨hg, e1⟩
  ·exact ⟨u, z, by rw [hangsB_true hg]; exact e1, fun _ => ht⟩
  ·exact ⟨_, _, by rw [hangsB_false hg]; exact e1, fun h => by rw [hangsB_false hg] at h; cases h⟩⟩
theorem routeN_at {p : Pl} {id : Int} {k : Nat} (hk : k < p.routes.length) (h : at1 kRt p.routes id = (k : Int)) : routeN p id = p.routes[k] := by rw [routeN, h]; simp [List.getD, List.getElem?_eq_getElem hk]

set_option maxHeartbeats 8000000 in
theorem rasked_any (v : Value) (p : Pl) (id : Int) (w : World) (h : PlanV w w.heap.size v p) :
  Calls Tryz.prog 33 #[v, .int .i64 id] w fun e w' => e = .returned (.tuple #[.int .i64 (askK p id), .int .i64 (wayE p id)]) ∧ Below w.heap.size w w' := by
 obtain ⟨A2, c2, A3, c3, A4, c4, A5, c5, n2, n3, n4, n5, rfl, hm2, hm3, hm4, hm5, HCP, HIN, HN⟩ := open_plan h
 have hq0 := heap_alloc_self w (.cells #[.int .i64 p.ver, .int .i64 p.par, .slice A2 n2 c2, .slice A3 n3 c3, .slice A4 n4 c4, .slice A5 n5 c5] 27)
 have hqb := below_new w (.cells #[.int .i64 p.ver, .int .i64 p.par, .slice A2 n2 c2, .slice A3 n3 c3, .slice A4 n4 c4, .slice A5 n5 c5] 27)
 go_enter Tryz.func33, Tryz.ntmps33
 go_upto_region 1 with fail
 generalize w.alloc (.cells #[.int .i64 p.ver, .int .i64 p.par, .slice A2 n2 c2, .slice A3 n3 c3, .slice A4 n4 c4, .slice A5 n5 c5] 27) = q at hq0 hqb ⊢
 have XP := Lib.hid hq0
 have BQ := Lib.hid hqb
 clear hq0 hqb
 obtain ⟨k0, k1, k2, k3, k4, k5⟩ := cell6_of XP.out
 go_wp2_with fail
 refine (rmay8_any _ p q ⟨_, _, _, _, rfl, (HIN.out.below BQ.out).more BQ.out.size⟩).mono ?_
 rintro e w1 ⟨rfl, b1⟩
 have X1 := Lib.hid ((b1.block _ (heap_lt XP.out)).trans XP.out)
 have B1 := Lib.hid (BQ.out.trans (b1.mono BQ.out.size))
 clear b1 k0 k1 k2 k3 k4 k5
 obtain ⟨k0, k1, k2, k3, k4, k5⟩ := cell6_of X1.out
 cases hm : planMay p with
 | false =>
  have HF : Hid (askK p id = 0 ∧ wayE p id = 8) := Lib.hid ⟨by rw [askK, if_neg (by rw [hm]; intro h; cases h.1)], by rw [wayE, hm]; rfl⟩
  clear hm
  go_wp2_with fail
  refine bodyPost_ret (results_tmp2 rfl _ _ _) rfl ?_
  exact ⟨by rw [HF.out.1, HF.out.2]; rfl, B1.out⟩
 | true =>
 have HM := Lib.hid hm
 have HPM := Lib.hid (planMay_iff.1 hm)
 clear hm
 have HI := Lib.hid ((HIN.out.below B1.out).more B1.out.size)
 go_wp2_with fail
 refine (rrouteat_any _ p.routes id w1 HI.out.routes).mono ?_
 rintro e w' ⟨rfl, hw⟩
 obtain rfl := hw.symm
 clear hw
 obtain ⟨K, hK⟩ : ∃ K, K = at1 (fun x : Rt => x.id) p.routes id := ⟨_, rfl⟩
 have HK : Hid (at1 kRt p.routes id = K) := Lib.hid hK.symm
 rw [← hK]
 clear hK
 by_cases h0 : K < 0
 ·have d0 : decide (K < 0) = true := decide_eq_true h0
  have HF : Hid (askK p id = 0 ∧ wayE p id = 6) := Lib.hid ⟨by rw [askK, HK.out, if_neg (by omega)], by rw [wayE, HM.out, if_pos rfl, HK.out, if_pos h0]⟩
  clear h0
  go_wp2_with fail
  refine bodyPost_ret (results_tmp2 rfl _ _ _) rfl ?_
  exact ⟨by rw [HF.out.1, HF.out.2]; rfl, B1.out⟩
 have d0 : decide (K < 0) = false := decide_eq_false h0
 have HNN := Lib.hid h0
 obtain ⟨kr, hkr, hatr⟩ : ∃ k : Nat, k < p.routes.length ∧ K = (k : Int) := by
  rcases at1_cases kRt p.routes id with h | ⟨k, hk, h, -⟩
  ·have := HK.out; omega
  ·exact ⟨k, hk, HK.out.symm.trans h⟩
 subst hatr
 have HAT := HK
 clear h0
 go_upto_region 6 with fail
 clear d0 k0 k1 k2 k3 k4 k5
 have hkr' : (kr : Int) < n5 := by have := HN.out; omega
 obtain ⟨br, ofr, rfl, hbr, g0, g1, g2, g6, y3, y4, y5, g3, g4, g5, hrv⟩ := HI.out.routes.at hkr
 obtain ⟨r, hr⟩ : ∃ r, r = p.routes[kr] := ⟨_, rfl⟩
 rw [← hr] at g0 g1 g2 g6 hrv
 have hr0 : w1.cell? ⟨br, ofr + kr * 7, none⟩ = some (.int .i64 r.id) := g0
 have hr1 : w1.cell? ⟨br, ofr + kr * 7 + 1, none⟩ = some (.int .i64 r.entry) := g1
 have hr2 : w1.cell? ⟨br, ofr + kr * 7 + 2, none⟩ = some (.int .i64 r.exit) := g2
 have hr3 : w1.cell? ⟨br, ofr + kr * 7 + 3, none⟩ = some y3 := g3
 have hr4 : w1.cell? ⟨br, ofr + kr * 7 + 4, none⟩ = some y4 := g4
 have hr5 : w1.cell? ⟨br, ofr + kr * 7 + 5, none⟩ = some y5 := g5
 have hr6 : w1.cell? ⟨br, ofr + kr * 7 + 6, none⟩ = some (.int .i64 r.timer) := g6
 have HRV := Lib.hid hrv
 have HRI : Hid (RouteIn p r) := Lib.hid (routeIn_of HPM.out hkr hr.symm)
 have HRN : Hid (routeN p id = r) := Lib.hid (by rw [routeN_at hkr HAT.out, hr])
 clear g0 g1 g2 g6 g3 g4 g5 hrv hbr hkr hr
 refine wp_region_held_drew (S := fun v => Below w1.heap.size w1 v) (by kernel_rfl) (Below.refl w1.heap.size w1).drew (fun hHeld => ?_)
 refine tkc 0 hHeld (fun w' hSw => cell6_of ((hSw.block _ (heap_lt X1.out)).trans X1.out)) ?_;refine tk 1 hHeld ?_;refine tkc 2 hHeld (fun w' hSw => cell6_of ((hSw.block _ (heap_lt X1.out)).trans X1.out)) ?_;refine tk 3 hHeld ?_;refine tk 4 hHeld ?_
 refine wpAnyH_take (i := 5) (v := ?_) rfl (by kernel_rfl) (by kernel_rfl) (by kernel_rfl) (fun _ _ _ h => h) (Or.inl ⟨by rfl, ?_⟩) hHeld ?_
 rotate_left
 ·intro w' hSw; have cr0 := (hSw.cell (cell_lt hr0)).trans hr0; have cr1 := (hSw.cell (cell_lt hr1)).trans hr1; have cr2 := (hSw.cell (cell_lt hr2)).trans hr2; have cr3 := (hSw.cell (cell_lt hr3)).trans hr3; have cr4 := (hSw.cell (cell_lt hr4)).trans hr4; have cr5 := (hSw.cell (cell_lt hr5)).trans hr5; have cr6 := (hSw.cell (cell_lt hr6)).trans hr6; go_simp; try with_reducible rfl
 simp only [zn, Act.put]
 refine tkr 6 (fun K hK => ?_)
 go_simp
 refine (rends_one _ _ p r w1.drew ⟨_, _, _, _, rfl, (HI.out.below (Below.refl w1.heap.size w1).drew).more (Below.refl w1.heap.size w1).drew.size⟩ ⟨_, _, _, rfl, (HRV.out.below (Below.refl w1.heap.size w1).drew).more (Below.refl w1.heap.size w1).drew.size⟩ HRI.out).mono ?_
 rintro e wE ⟨bE, u, z, rfl, hT⟩
 have BE : Hid (Below w1.heap.size w1 wE) := Lib.hid ((Below.refl w1.heap.size w1).drew.trans bE)
 have HT := Lib.hid hT
 clear bE hT
 try go_wp2_with fail
 refine hK.out _ _ ?_ fun hHeld => ?_;exact BE.out;clear hK K;try simp only [zn, Act.put]
 refine tk 7 hHeld ?_;refine tk 8 hHeld ?_;refine tk 9 hHeld ?_;refine tk 10 hHeld ?_;refine tk 11 hHeld ?_;refine tk 12 hHeld ?_;refine tk 13 hHeld ?_
 refine wpAnyH_done (by kernel_rfl) ?_ _
 clear hr0 hr1 hr2 hr3 hr4 hr5 hr6
 have BZ := Lib.hid (B1.out.trans (BE.out.mono B1.out.size))
 cases hg : hangsB p r with
 | false =>
  have HF : Hid (askK p id = 0 ∧ wayE p id = 90) := Lib.hid ⟨by rw [askK, HRN.out, hg, if_neg (by intro h; cases h.2.2)], by rw [wayE, HM.out, if_pos rfl, HK.out, if_neg (by omega), HRN.out, hg]; rfl⟩
  clear hg
  go_wp2_with fail
  refine bodyPost_ret (results_tmp2 rfl _ _ _) rfl ?_
  exact ⟨by rw [HF.out.1, HF.out.2]; rfl, BZ.out⟩
 | true =>
  have HF : Hid (askK p id = (kr : Int) ∧ wayE p id = 0) := Lib.hid ⟨by rw [askK, HRN.out, hg, HK.out, if_pos ⟨HM.out, by omega, rfl⟩], by rw [wayE, HM.out, if_pos rfl, HK.out, if_neg (by omega), HRN.out, hg]; rfl⟩
  clear hg
  go_wp2_with fail
  refine bodyPost_ret (results_tmp2 rfl _ _ _) rfl ?_
  exact ⟨by rw [HF.out.1, HF.out.2]; rfl, BZ.out⟩


theorem wayE_zero {p : Pl} {id : Int} (h : wayE p id = 0) : planMay p = true ∧ 0 ≤ at1 kRt p.routes id ∧ hangsB p (routeN p id) = true := by
 rw [wayE] at h
 split at h
 ·rename_i h1
  split at h
  ·cases h
  ·rename_i h2
   split at h
   ·rename_i h3
    exact ⟨h1, by omega, h3⟩
   ·cases h
 ·cases h
theorem askK_zero {p : Pl} {id : Int} (h : wayE p id = 0) : askK p id = at1 kRt p.routes id := by rw [askK, if_pos (wayE_zero h)]
theorem left_take {p : Pl} {r : Rt} {a : Nat} (h : 0 ≤ outA p r a) : leftL p r (a + 1) = leftL p r a ++ [((allR r).getD a 0, outA p r a)] := by rw [leftL_succ, leftN, if_pos h]; rfl
theorem left_skip {p : Pl} {r : Rt} {a : Nat} (h : ¬ 0 ≤ outA p r a) : leftL p r (a + 1) = leftL p r a := by rw [leftL_succ, leftN, if_neg h]; simp
theorem leftL_len (p : Pl) (r : Rt) (n : Nat) : (leftL p r n).length ≤ n := by
 rw [leftL]
 exact Nat.le_trans (List.length_filterMap_le _ _) (by simp)
theorem outsL_at (p : Pl) (r : Rt) {n a : Nat} (h : a < n) : (outsL p r n)[a]'(by rw [outsL_len]; exact h) = outA p r a := by simp [outsL]

end Go.Proofs.YtebffdfimmbbdaaGreat
