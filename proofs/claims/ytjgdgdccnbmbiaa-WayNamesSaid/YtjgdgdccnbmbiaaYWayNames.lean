/-
  WayNames: the walk, given the program's contracts.
  Conditions: none.
-/
import Derived.Test.YtjgdgdccnbmbiaaYGWayOne
import Derived.Test.YtjgdgdccnbmbiaaYGTrkEq
set_option linter.unusedVariables false
set_option linter.unusedSimpArgs false
set_option maxRecDepth 100000
namespace Go.Proofs.Ytjgdgdccnbmbiaa
open Go.RowKit

set_option maxHeartbeats 8000000 in
theorem walk_way_names (hp : WaySaid) (w : World) : Calls Try.prog 3 #[] w fun e w' => e = .returned (.bool true) ∧ Below w.heap.size w w' := by
  go_enter Try.func3, Try.ntmps3
  go_wp2_with fail
  refine (one9_any _).mono ?_
  rintro e wa1 ⟨va1, rfl, hv1, ba1⟩
  go_wp2_with fail
  refine (hp.outs va1 planNine 9 wa1 hv1).mono ?_
  rintro e wb1 ⟨u1, rfl, hu, bb1⟩
  rw [of_nine.2.2] at hu
  rw [of_nine.1]
  obtain ⟨A, c, rfl⟩ := hu.slice
  have HJ : Hid (JoinsOwn wb1 wa1.heap.size (.slice A 2 c) [(2, 1), (3, 1)]) := Lib.hid hu
  have B1 := Lib.hid (ba1.trans (bb1.mono ba1.size))
  clear hu hv1 ba1 bb1
  go_wp2_with fail
  refine (one9_any _).mono ?_
  rintro e wa2 ⟨va2, rfl, hv2, ba2⟩
  go_wp2_with fail
  refine (hp.of va2 planNine 7 wa2 hv2).mono ?_
  rintro e wb2 ⟨u0, u1, u2, rfl, hu, bb2⟩
  rw [of_seven.2] at hu
  rw [of_seven.1, of_seven.2, show zWy.near = 0 from rfl]
  obtain ⟨A0, d0, rfl⟩ := hu.path.slice
  obtain ⟨A1, d1, rfl⟩ := hu.over.slice
  obtain ⟨A2, d2, rfl⟩ := hu.asks.slice
  have bc := ba2.trans (bb2.mono ba2.size)
  have HJ2 := Lib.hid (HJ.out.below joinR bc)
  have B2 := Lib.hid (B1.out.trans (bc.mono B1.out.size))
  clear hu hv2 ba2 bb2 bc HJ B1
  have XX0 := heap_alloc_self wb2 (.cells #[.slice none 0 0, .slice none 0 0, .slice none 0 0, .int .i64 0] 36)
  have hz0 := below_setRow (below_new wb2 (.cells #[.slice none 0 0, .slice none 0 0, .slice none 0 0, .int .i64 0] 36)) (Nat.le_refl _) #[.slice A0 0 d0, .slice A1 0 d1, .slice A2 0 d2, .int .i64 0]
  go_upto_region 3 with ((with_reducible show wpList _ _ _ (⟨none, _, _, _, _, _⟩ :: _) _ _); refine wpList_store_rowS rfl _ (.tmp 3) (.tmp 15) rfl wb2.heap.size rfl (c' := #[.slice A0 0 d0, .slice A1 0 d1, .slice A2 0 d2, .int .i64 0]) rfl XX0 infoWay4 rfl (by simp [Value.oneCell']) ?_)
  generalize (wb2.alloc (.cells #[.slice none 0 0, .slice none 0 0, .slice none 0 0, .int .i64 0] 36)).setRow wb2.heap.size #[.slice A0 0 d0, .slice A1 0 d1, .slice A2 0 d2, .int .i64 0] = q2 at hz0 ⊢
  have HJ3 := Lib.hid (HJ2.out.below joinR hz0)
  have B3 := Lib.hid (B2.out.trans (hz0.mono B2.out.size))
  clear hz0 XX0 HJ2
  go_wp2_with fail
  refine (one9_any _).mono ?_
  rintro e wa3 ⟨va3, rfl, hv3, ba3⟩
  go_wp2_with fail
  refine (hp.outs va3 planNine 8 wa3 hv3).mono ?_
  rintro e wb3 ⟨u3, rfl, hu, bb3⟩
  rw [of_eight.2.2] at hu
  rw [of_eight.1]
  obtain ⟨A4, c4, rfl⟩ := hu.slice
  have bc := ba3.trans (bb3.mono ba3.size)
  have HJ4 := Lib.hid (HJ3.out.below joinR bc)
  have B4 := Lib.hid (B3.out.trans (bc.mono B3.out.size))
  clear hu hv3 ba3 bb3 bc HJ3 B3
  go_wp2_with fail
  refine (alive9 hp _).mono ?_
  rintro e w5 ⟨rfl, b5⟩
  have HJ5 := HJ4.out.below joinR b5
  have B5 := Lib.hid (B4.out.trans (b5.mono B4.out.size))
  obtain ⟨b, off, e1, hb1, c0, c1⟩ := (HJ5.in_ joinR_cells).at (show 0 < [((2, 1) : Jn), (3, 1)].length by decide)
  cases e1
  obtain ⟨b', off', e2, hb2, c2, c3⟩ := (HJ5.in_ joinR_cells).at (show 1 < [((2, 1) : Jn), (3, 1)].length by decide)
  cases e2
  have g0 : w5.cell? ⟨b, off, none⟩ = some (.int .i64 2) := by simpa using c0
  have g1 : w5.cell? ⟨b, off + 1, none⟩ = some (.int .i64 1) := by simpa using c1
  have g2 : w5.cell? ⟨b, off + 2, none⟩ = some (.int .i64 3) := by simpa using c2
  have g3 : w5.cell? ⟨b, off + 2 + 1, none⟩ = some (.int .i64 1) := by simpa using c3
  have hc1 : ∀ w' : World, (Op.equalIn 10000 41 (.agg #[.int .i64 2, .int .i64 1]) (.agg #[.int .i64 2, .int .i64 1])).run Try.prog w' = .ok true w' := join_self 2 1
  have hc2 : ∀ w' : World, (Op.equalIn 10000 41 (.agg #[.int .i64 3, .int .i64 1]) (.agg #[.int .i64 3, .int .i64 1])).run Try.prog w' = .ok true w' := join_self 3 1
  clear c0 c1 c2 c3 b5 HJ5 HJ4 B4 hb1 hb2
  go_wp2_with fail
  go_ret
  exact ⟨rfl, B5.out⟩
end Go.Proofs.Ytjgdgdccnbmbiaa
