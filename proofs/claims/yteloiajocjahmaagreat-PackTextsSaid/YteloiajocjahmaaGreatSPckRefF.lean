/-
 The document's own package pack: Text.
 Conditions: none.
-/
import Derived.Test.YteloiajocjahmaaGreatSPckRefC
import Derived.Test.YteloiajocjahmaaGreatSGPckP
set_option linter.unusedVariables false
set_option linter.unusedSimpArgs false
set_option maxRecDepth 100000
namespace Go.Proofs.YteloiajocjahmaaGreat
open Go.RowKit

theorem rtext_any (v : Value) (p : Pl) (w : World) (h : PlanV w w.heap.size v p) :
  Calls Tryz.prog 7 #[v] w fun e w' => ∃ u, e = .returned (.tuple #[u, .int .i64 (textE p)]) ∧ TxtOwn w' w.heap.size u (textV p) ∧ Below w.heap.size w w' := by
 obtain ⟨A2, c2, A3, c3, A4, c4, A5, c5, n2, n3, n4, n5, rfl, hm2, hm3, hm4, hm5, HCP, HIN, HN⟩ := open_plan h
 have hq0 := heap_alloc_self w (.cells #[.int .i64 p.ver, .int .i64 p.par, .slice A2 n2 c2, .slice A3 n3 c3, .slice A4 n4 c4, .slice A5 n5 c5] 27)
 have hqb := below_new w (.cells #[.int .i64 p.ver, .int .i64 p.par, .slice A2 n2 c2, .slice A3 n3 c3, .slice A4 n4 c4, .slice A5 n5 c5] 27)
 go_enter Tryz.func7, Tryz.ntmps7
 go_upto_region 1 with fail
 generalize w.alloc (.cells #[.int .i64 p.ver, .int .i64 p.par, .slice A2 n2 c2, .slice A3 n3 c3, .slice A4 n4 c4, .slice A5 n5 c5] 27) = q at hq0 hqb ⊢
 have XP := Lib.hid hq0
 have BQ := Lib.hid hqb
 clear hq0 hqb
 obtain ⟨k0, k1, k2, k3, k4, k5⟩ := cell6_of XP.out
 have PV : Hid (PlanV q q.heap.size (.agg #[.int .i64 p.ver, .int .i64 p.par, .slice A2 n2 c2, .slice A3 n3 c3, .slice A4 n4 c4, .slice A5 n5 c5]) p) := Lib.hid ⟨_, _, _, _, rfl, (HIN.out.below BQ.out).more BQ.out.size⟩
 go_wp2_with fail
 refine (rmay8_any _ p q PV.out).mono ?_
 rintro e w1 ⟨rfl, b1⟩
 have B1 := Lib.hid (BQ.out.trans (b1.mono BQ.out.size))
 have XP1 := Lib.hid ((b1.block _ (heap_lt XP.out)).trans XP.out)
 have PV1 := Lib.hid ((PV.out.below b1).more b1.size)
 clear b1 k0 k1 k2 k3 k4 k5 XP PV HIN
 rcases text_cases p with ⟨hm, he, hv⟩ | ⟨hm, he, hv⟩
 rotate_left
 ·have HE : Hid (textE p = 8 ∧ textV p = []) := Lib.hid ⟨he, hv⟩
  have HM := Lib.hid (planMay_false hm)
  clear hm he hv
  rw [HM.out]
  go_wp2_with fail
  refine bodyPost_ret (results_tmp2 rfl _ _ _) rfl ?_
  exact ⟨_, by rw [HE.out.1]; rfl, by rw [HE.out.2]; exact TxtOwn.nil_, B1.out⟩
 have HE : Hid (textE p = 0 ∧ textV p = textL p) := Lib.hid ⟨he, hv⟩
 have HM := Lib.hid (planMay_true hm)
 have HM_ := Lib.hid hm
 clear hm he hv
 rw [HM.out]
 obtain ⟨k0, k1, k2, k3, k4, k5⟩ := cell6_of XP1.out
 go_wp2_with fail
 refine (rwritten_any _ p w1 PV1.out HM_.out).mono ?_
 rintro e w2 ⟨u, rfl, ho, hb⟩
 have O2 : Hid (TxtOwn w2 w.heap.size u (textL p)) := Lib.hid (TxtOwn.mono ho B1.out.size)
 have B2 := Lib.hid (B1.out.trans (hb.mono B1.out.size))
 clear ho hb k0 k1 k2 k3 k4 k5
 go_wp2_with fail
 refine bodyPost_ret (results_tmp2 rfl _ _ _) rfl ?_
 exact ⟨_, by rw [HE.out.1]; rfl, by rw [HE.out.2]; exact O2.out, B2.out⟩
end Go.Proofs.YteloiajocjahmaaGreat
