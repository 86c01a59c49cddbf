/-
 ConflictNames: the walk, given the program's contracts.
 Conditions: none.
-/
import Derived.Test.YtebffdfimmbbdaaQGCnfSt
set_option linter.unusedVariables false
set_option linter.unusedSimpArgs false
set_option maxRecDepth 100000
namespace Go.Proofs.Ytebffdfimmbbdaa
open Go.RowKit

set_option maxHeartbeats 8000000 in
theorem walk_cnf_names (hc : CnfSaid) (w : World) : Calls Try.prog 3 #[] w fun e w' => e = .returned (.bool true) ∧ Below w.heap.size w w' := by
 go_enter Try.func3, Try.ntmps3
 go_wp2_with fail
 refine (st_any _).mono ?_
 rintro e wa0 ⟨v0, rfl, hv0, ba0⟩
 go_wp2_with fail
 refine (hc.two v0 (stPl' stSigs [] [] []) 1 1 wa0 hv0).mono ?_
 rintro e wb0 ⟨rfl, bb0⟩
 rw [two_11]
 generalize twoB (stPl' stSigs [] [] []) 1 1 = t1
 have cc := ba0.trans (bb0.mono ba0.size)
 have B0 : Hid (Below w.heap.size w wb0) := Lib.hid (cc)
 clear cc ba0 bb0 hv0
 go_wp2_with fail
 refine (st_any _).mono ?_
 rintro e wa1 ⟨v1, rfl, hv1, ba1⟩
 go_wp2_with fail
 refine (hc.two v1 (stPl' stSigs [] [] []) 1 9 wa1 hv1).mono ?_
 rintro e wb1 ⟨rfl, bb1⟩
 rw [two_19]
 generalize twoB (stPl' stSigs [] [] []) 1 9 = t2
 have cc := ba1.trans (bb1.mono ba1.size)
 have B1 : Hid (Below w.heap.size w wb1) := Lib.hid (B0.out.trans (cc.mono B0.out.size))
 clear cc ba1 bb1 hv1
 have HZ : Hid (PlanV wb1 wb1.heap.size (.agg #[.int .i64 0, .int .i64 0, .slice none 0 0, .slice none 0 0, .slice none 0 0, .slice none 0 0]) zPl) := Lib.hid ⟨_, _, _, _, rfl, ⟨ListIn.nil_, ListIn.nil_, ListIn.nil_, ListIn.nil_⟩⟩
 go_wp2_with fail
 refine (hc.table _ zPl wb1 HZ.out).mono ?_
 rintro e wc ⟨u, rfl, -, bc⟩
 rw [sndE_z]
 have B2 := Lib.hid (B1.out.trans (bc.mono B1.out.size))
 clear bc
 go_wp2_with fail
 refine (alive11 hc _).mono ?_
 rintro e wd ⟨rfl, bd⟩
 have B3 := Lib.hid (B2.out.trans (bd.mono B2.out.size))
 clear bd
 go_wp2_with fail
 go_ret
 exact ⟨rfl, B3.out⟩
end Go.Proofs.Ytebffdfimmbbdaa
