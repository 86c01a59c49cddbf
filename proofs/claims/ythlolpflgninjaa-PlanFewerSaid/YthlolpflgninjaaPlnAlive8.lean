/-
  The chapter's first examples hold.
  Conditions: none.
-/
import Derived.Test.YthlolpflgninjaaPlnAlive
set_option linter.unusedVariables false
set_option linter.unusedSimpArgs false
set_option maxRecDepth 100000
namespace Go.Proofs.Ythlolpflgninjaa
open Go.RowKit

set_option maxHeartbeats 4000000 in
theorem alive8 (hp : PlanSaid) (w : World) : Calls Try.prog 11 #[] w fun e w' => e = .returned (.bool true) ∧ Below w.heap.size w w' := by
  go_enter Try.func11, Try.ntmps11
  go_wp2_with fail
  refine (one_any _).mono ?_
  rintro e w1 ⟨v1, rfl, hv1, b1⟩
  go_wp2_with fail
  refine (hp.point v1 planOne 5 w1 hv1).mono ?_
  rintro e w2 ⟨rfl, b2⟩
  rw [point_one.1, point_one.2]
  have B2 := Lib.hid (b1.trans (b2.mono b1.size))
  clear b1 b2 hv1
  have hx := heap_alloc_self w2 (.cells #[.int .i64 5, .int .i64 2] 43)
  have hb := below_new w2 (.cells #[.int .i64 5, .int .i64 2] 43)
  obtain ⟨q1, hq⟩ : ∃ q, q = w2.alloc (.cells #[.int .i64 5, .int .i64 2] 43) := ⟨_, rfl⟩
  rw [← hq] at hx hb
  go_upto_region 2 with fail
  rw [← hq]
  have BQ := Lib.hid (B2.out.trans (hb.mono B2.out.size))
  have X1 := Lib.hid hx
  generalize w2.heap.size = p1 at X1 ⊢
  clear hx hb hq
  go_wp2_with fail
  refine (one_any _).mono ?_
  rintro e w3 ⟨v3, rfl, hv3, b3⟩
  go_wp2_with fail
  refine (hp.signal v3 planOne 4 w3 hv3).mono ?_
  rintro e w4 ⟨rfl, b4⟩
  rw [signal_one.1, signal_one.2]
  have b34 := b3.trans (b4.mono b3.size)
  have B4 := Lib.hid (BQ.out.trans (b34.mono BQ.out.size))
  have X4 := Lib.hid ((b34.block _ (heap_lt X1.out)).trans X1.out)
  clear b3 b4 b34 hv3
  have hx := heap_alloc_self w4 (.cells #[.int .i64 4, .int .i64 1, .int .i64 0] 49)
  have hb := below_new w4 (.cells #[.int .i64 4, .int .i64 1, .int .i64 0] 49)
  obtain ⟨q2, hq⟩ : ∃ q, q = w4.alloc (.cells #[.int .i64 4, .int .i64 1, .int .i64 0] 49) := ⟨_, rfl⟩
  rw [← hq] at hx hb
  go_upto_region 3 with fail
  rw [← hq]
  have BR := Lib.hid (B4.out.trans (hb.mono B4.out.size))
  have Y1 := Lib.hid ((hb.block _ (heap_lt X4.out)).trans X4.out)
  have Y3 := Lib.hid hx
  generalize w4.heap.size = p3 at Y3 ⊢
  clear hx hb hq X1 X4
  go_wp2_with fail
  refine (one_any _).mono ?_
  rintro e w5 ⟨v5, rfl, hv5, b5⟩
  go_wp2_with fail
  refine (hp.stands v5 planOne 1 0 w5 hv5).mono ?_
  rintro e w6 ⟨rfl, b6⟩
  rw [stands_one.1, stands_one.2]
  have b56 := b5.trans (b6.mono b5.size)
  have B6 := Lib.hid (BR.out.trans (b56.mono BR.out.size))
  have Z1 := Lib.hid ((b56.block _ (heap_lt Y1.out)).trans Y1.out)
  have Z3 := Lib.hid ((b56.block _ (heap_lt Y3.out)).trans Y3.out)
  clear b5 b6 b56 hv5 Y1 Y3
  go_wp2_with fail
  refine (one_any _).mono ?_
  rintro e w7 ⟨v7, rfl, hv7, b7⟩
  have T1 := Lib.hid ((b7.block _ (heap_lt Z1.out)).trans Z1.out)
  have T3 := Lib.hid ((b7.block _ (heap_lt Z3.out)).trans Z3.out)
  have B7 := Lib.hid (B6.out.trans (b7.mono B6.out.size))
  go_wp2_with fail
  refine (hp.check v7 planOne w7 hv7).mono ?_
  rintro e w8 ⟨rfl, b8⟩
  rw [chk_one]
  obtain ⟨k0, k1⟩ := cell2_of ((b8.block _ (heap_lt T1.out)).trans T1.out)
  obtain ⟨r0, r1, r2⟩ := cell3_of ((b8.block _ (heap_lt T3.out)).trans T3.out)
  have B8 := Lib.hid (B7.out.trans (b8.mono B7.out.size))
  clear b7 b8 hv7
  have hcmp : ∀ w' : World, (Op.equalIn 10000 49 (.agg #[.int .i64 4, .int .i64 1, .int .i64 0]) (.agg #[.int .i64 4, .int .i64 1, .int .i64 0])).run Try.prog w' = .ok true w' := eqSig_eq (x := (4, 1, 0)) (y := (4, 1, 0)) rfl
  go_wp2_with fail
  go_ret
  exact ⟨rfl, B8.out⟩
end Go.Proofs.Ythlolpflgninjaa
