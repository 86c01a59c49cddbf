/-
 The numbers and the chapter's examples: the walk, given the program's answers.
 Conditions: none.
-/
import Derived.Test.YtdldphkofkbmaaaQGDifOne
set_option linter.unusedVariables false
set_option linter.unusedSimpArgs false
set_option maxRecDepth 100000
namespace Go.Proofs.Ytdldphkofkbmaaa
open Go.RowKit

set_option maxHeartbeats 8000000 in
theorem walk_diff_names (hc : DifSaid) (w : World) : Calls Try.prog 3 #[] w fun e w' => e = .returned (.bool true) ∧ Below w.heap.size w w' := by
 go_enter Try.func3, Try.ntmps3
 go_wp2_with fail
 refine (one13_any _).mono ?_
 rintro e wa0 ⟨va0, rfl, hva, ba⟩
 go_wp2_with fail
 refine (two13_any _).mono ?_
 rintro e wb0 ⟨vb0, rfl, hvb, bb⟩
 go_wp2_with fail
 refine (hc.one va0 vb0 planOne planTwo13 3 7 wb0 ((hva.below bb).more bb.size) hvb (by decide) (by decide)).mono ?_
 rintro e wc0 ⟨rfl, bc⟩
 rw [one_a.1, one_a.2]
 have cc := ba.trans ((bb.trans (bc.mono bb.size)).mono ba.size)
 have B0 : Hid (Below w.heap.size w wc0) := Lib.hid (cc)
 clear hva hvb ba bb bc cc
 go_wp2_with fail
 refine (two13_any _).mono ?_
 rintro e wa1 ⟨va1, rfl, hva, ba⟩
 go_wp2_with fail
 refine (one13_any _).mono ?_
 rintro e wb1 ⟨vb1, rfl, hvb, bb⟩
 go_wp2_with fail
 refine (hc.one va1 vb1 planTwo13 planOne 3 7 wb1 ((hva.below bb).more bb.size) hvb (by decide) (by decide)).mono ?_
 rintro e wc1 ⟨rfl, bc⟩
 rw [one_b.1, one_b.2]
 have cc := ba.trans ((bb.trans (bc.mono bb.size)).mono ba.size)
 have B1 : Hid (Below w.heap.size w wc1) := Lib.hid (B0.out.trans (cc.mono B0.out.size))
 clear hva hvb ba bb bc cc
 go_wp2_with fail
 refine (one13_any _).mono ?_
 rintro e wa2 ⟨va2, rfl, hva, ba⟩
 go_wp2_with fail
 refine (two13_any _).mono ?_
 rintro e wb2 ⟨vb2, rfl, hvb, bb⟩
 go_wp2_with fail
 refine (hc.one va2 vb2 planOne planTwo13 4 9 wb2 ((hva.below bb).more bb.size) hvb (by decide) (by decide)).mono ?_
 rintro e wc2 ⟨rfl, bc⟩
 rw [one_c]
 have cc := ba.trans ((bb.trans (bc.mono bb.size)).mono ba.size)
 have B2 : Hid (Below w.heap.size w wc2) := Lib.hid (B1.out.trans (cc.mono B1.out.size))
 clear hva hvb ba bb bc cc
 go_wp2_with fail
 refine (one13_any _).mono ?_
 rintro e wa3 ⟨va3, rfl, hva, ba⟩
 go_wp2_with fail
 refine (two13_any _).mono ?_
 rintro e wb3 ⟨vb3, rfl, hvb, bb⟩
 go_wp2_with fail
 refine (hc.one va3 vb3 planOne planTwo13 5 1 wb3 ((hva.below bb).more bb.size) hvb (by decide) (by decide)).mono ?_
 rintro e wc3 ⟨rfl, bc⟩
 rw [one_d]
 have cc := ba.trans ((bb.trans (bc.mono bb.size)).mono ba.size)
 have B3 : Hid (Below w.heap.size w wc3) := Lib.hid (B2.out.trans (cc.mono B2.out.size))
 clear hva hvb ba bb bc cc
 go_wp2_with fail
 refine (alive13 hc _).mono ?_
 rintro e wd ⟨rfl, bd⟩
 have B4 := Lib.hid (B3.out.trans (bd.mono B3.out.size))
 clear bd
 go_wp2_with fail
 go_ret
 exact ⟨rfl, B4.out⟩
end Go.Proofs.Ytdldphkofkbmaaa
