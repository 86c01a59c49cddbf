/-
 The program's package plan: the number of an element, of three kinds.
 Conditions: none.
-/
import Derived.Test.YtneeocnjfnneoaaGreatVGPlnRefA
set_option linter.unusedVariables false
set_option linter.unusedSimpArgs false
set_option maxRecDepth 100000
namespace Go.Proofs.YtneeocnjfnneoaaGreat
open Go.RowKit

theorem assert_same {P : Program} {w : World} {t x : TypeId} {v : Value} {fs : Array Field} (h : P.underlying t = some (.struct fs)) : (Instr.typeAssert (.iface t v) x t true).run P w = .ok (.tuple #[v, .bool true]) w := by
 simp [Instr.typeAssert, run_underlying h]
theorem assert_other {P : Program} {w : World} {t d x : TypeId} {v z : Value} {fs : Array Field} (h : P.underlying t = some (.struct fs)) (hne : ¬ d = t) (hi : (P.info? t).map (·.zero) = some (some z)) : (Instr.typeAssert (.iface d v) x t true).run P w = .ok (.tuple #[z, .bool false]) w := by
 cases hi2 : P.info? t with
 | none => rw [hi2] at hi; cases hi
 | some i =>
  rw [hi2] at hi
  have hz : i.zero = some z := by simpa using hi
  simp [Instr.typeAssert, run_underlying h, hne, zeroValue, typeInfo, hi2, hz]
theorem infoPtZ : (Tryz.prog.info? 60).map (·.zero) = some (some (.agg #[.int .i64 0, .int .i64 0])) := by kernel_rfl
theorem infoSgZ : (Tryz.prog.info? 69).map (·.zero) = some (some (.agg #[.int .i64 0, .int .i64 0, .int .i64 0])) := by kernel_rfl
set_option maxHeartbeats 4000000 in
theorem number_pt (a b : Int) (w : World) : Calls Tryz.prog 110 #[.agg #[.int .i64 a, .int .i64 b]] w fun e w' => e = .returned (.int .i64 a) ∧ Below w.heap.size w w' := by
 obtain ⟨q, hq⟩ : ∃ x, x = w.alloc (.cells #[.int .i64 a, .int .i64 b] 60) := ⟨_, rfl⟩
 have x1 := heap_alloc_self w (.cells #[.int .i64 a, .int .i64 b] 60)
 have b1 := below_new w (.cells #[.int .i64 a, .int .i64 b] 60)
 rw [← hq] at x1 b1
 have as_pt : ∀ w : World, (Instr.typeAssert (.iface 60 (.agg #[.int .i64 a, .int .i64 b])) 20 60 true).run Tryz.prog w = .ok (.tuple #[(.agg #[.int .i64 a, .int .i64 b]), .bool true]) w := fun w => assert_same Tryz.underlying60
 go_enter Tryz.func110, Tryz.ntmps110
 go_upto_region 1 with fail
 rw [← hq]
 have X1 := Lib.hid x1
 have B1 := Lib.hid b1
 clear x1 b1 hq
 obtain ⟨k0, k1⟩ := cell2_of X1.out
 obtain ⟨r, hr⟩ : ∃ x, x = q.alloc (.cells #[.int .i64 a, .int .i64 b] 60) := ⟨_, rfl⟩
 have x2 := heap_alloc_self q (.cells #[.int .i64 a, .int .i64 b] 60)
 have b2 := below_new q (.cells #[.int .i64 a, .int .i64 b] 60)
 rw [← hr] at x2 b2
 go_upto_region 4 with fail
 rw [← hr]
 have X2 := Lib.hid x2
 have B2 := Lib.hid (B1.out.trans (b2.mono B1.out.size))
 generalize q.heap.size = p2 at X2 ⊢
 clear x2 b2 hr k0 k1
 obtain ⟨k0, k1⟩ := cell2_of X2.out
 go_wp2_with fail
 go_ret
 exact ⟨rfl, B2.out⟩
set_option maxHeartbeats 4000000 in
theorem number_sg (a b c : Int) (w : World) : Calls Tryz.prog 111 #[.agg #[.int .i64 a, .int .i64 b, .int .i64 c]] w fun e w' => e = .returned (.int .i64 a) ∧ Below w.heap.size w w' := by
 obtain ⟨q, hq⟩ : ∃ x, x = w.alloc (.cells #[.int .i64 a, .int .i64 b, .int .i64 c] 69) := ⟨_, rfl⟩
 have x1 := heap_alloc_self w (.cells #[.int .i64 a, .int .i64 b, .int .i64 c] 69)
 have b1 := below_new w (.cells #[.int .i64 a, .int .i64 b, .int .i64 c] 69)
 rw [← hq] at x1 b1
 have as_pt : ∀ w : World, (Instr.typeAssert (.iface 69 (.agg #[.int .i64 a, .int .i64 b, .int .i64 c])) 20 60 true).run Tryz.prog w = .ok (.tuple #[.agg #[.int .i64 0, .int .i64 0], .bool false]) w := fun w => assert_other Tryz.underlying60 (by decide) infoPtZ
 have as_sg : ∀ w : World, (Instr.typeAssert (.iface 69 (.agg #[.int .i64 a, .int .i64 b, .int .i64 c])) 20 69 true).run Tryz.prog w = .ok (.tuple #[(.agg #[.int .i64 a, .int .i64 b, .int .i64 c]), .bool true]) w := fun w => assert_same Tryz.underlying69
 go_enter Tryz.func111, Tryz.ntmps111
 go_upto_region 1 with fail
 rw [← hq]
 have X1 := Lib.hid x1
 have B1 := Lib.hid b1
 clear x1 b1 hq
 obtain ⟨k0, k1, k2⟩ := cell3_of X1.out
 obtain ⟨r, hr⟩ : ∃ x, x = q.alloc (.cells #[.int .i64 a, .int .i64 b, .int .i64 c] 69) := ⟨_, rfl⟩
 have x2 := heap_alloc_self q (.cells #[.int .i64 a, .int .i64 b, .int .i64 c] 69)
 have b2 := below_new q (.cells #[.int .i64 a, .int .i64 b, .int .i64 c] 69)
 rw [← hr] at x2 b2
 go_upto_region 7 with fail
 rw [← hr]
 have X2 := Lib.hid x2
 have B2 := Lib.hid (B1.out.trans (b2.mono B1.out.size))
 generalize q.heap.size = p2 at X2 ⊢
 clear x2 b2 hr k0 k1 k2
 obtain ⟨k0, k1, k2⟩ := cell3_of X2.out
 go_wp2_with fail
 go_ret
 exact ⟨rfl, B2.out⟩
set_option maxHeartbeats 4000000 in
theorem number_rt (a en ex tm : Int) (B3 B4 B5 : Option Addr) (m3 m4 m5 d3 d4 d5 : Nat) (w : World) : Calls Tryz.prog 112 #[.agg #[.int .i64 a, .int .i64 en, .int .i64 ex, .slice B3 m3 d3, .slice B4 m4 d4, .slice B5 m5 d5, .int .i64 tm]] w fun e w' => e = .returned (.int .i64 a) ∧ Below w.heap.size w w' := by
 obtain ⟨q, hq⟩ : ∃ x, x = w.alloc (.cells #[.int .i64 a, .int .i64 en, .int .i64 ex, .slice B3 m3 d3, .slice B4 m4 d4, .slice B5 m5 d5, .int .i64 tm] 54) := ⟨_, rfl⟩
 have x1 := heap_alloc_self w (.cells #[.int .i64 a, .int .i64 en, .int .i64 ex, .slice B3 m3 d3, .slice B4 m4 d4, .slice B5 m5 d5, .int .i64 tm] 54)
 have b1 := below_new w (.cells #[.int .i64 a, .int .i64 en, .int .i64 ex, .slice B3 m3 d3, .slice B4 m4 d4, .slice B5 m5 d5, .int .i64 tm] 54)
 rw [← hq] at x1 b1
 have as_pt : ∀ w : World, (Instr.typeAssert (.iface 54 (.agg #[.int .i64 a, .int .i64 en, .int .i64 ex, .slice B3 m3 d3, .slice B4 m4 d4, .slice B5 m5 d5, .int .i64 tm])) 20 60 true).run Tryz.prog w = .ok (.tuple #[.agg #[.int .i64 0, .int .i64 0], .bool false]) w := fun w => assert_other Tryz.underlying60 (by decide) infoPtZ
 have as_sg : ∀ w : World, (Instr.typeAssert (.iface 54 (.agg #[.int .i64 a, .int .i64 en, .int .i64 ex, .slice B3 m3 d3, .slice B4 m4 d4, .slice B5 m5 d5, .int .i64 tm])) 20 69 true).run Tryz.prog w = .ok (.tuple #[.agg #[.int .i64 0, .int .i64 0, .int .i64 0], .bool false]) w := fun w => assert_other Tryz.underlying69 (by decide) infoSgZ
 have as_rt : ∀ w : World, (Instr.typeAssert (.iface 54 (.agg #[.int .i64 a, .int .i64 en, .int .i64 ex, .slice B3 m3 d3, .slice B4 m4 d4, .slice B5 m5 d5, .int .i64 tm])) 20 54 true).run Tryz.prog w = .ok (.tuple #[(.agg #[.int .i64 a, .int .i64 en, .int .i64 ex, .slice B3 m3 d3, .slice B4 m4 d4, .slice B5 m5 d5, .int .i64 tm]), .bool true]) w := fun w => assert_same Tryz.underlying54
 go_enter Tryz.func112, Tryz.ntmps112
 go_upto_region 1 with fail
 rw [← hq]
 have X1 := Lib.hid x1
 have B1 := Lib.hid b1
 clear x1 b1 hq
 obtain ⟨k0, k1, k2, k3, k4, k5, k6⟩ := cell7_of X1.out
 obtain ⟨r, hr⟩ : ∃ x, x = q.alloc (.cells #[.int .i64 a, .int .i64 en, .int .i64 ex, .slice B3 m3 d3, .slice B4 m4 d4, .slice B5 m5 d5, .int .i64 tm] 54) := ⟨_, rfl⟩
 have x2 := heap_alloc_self q (.cells #[.int .i64 a, .int .i64 en, .int .i64 ex, .slice B3 m3 d3, .slice B4 m4 d4, .slice B5 m5 d5, .int .i64 tm] 54)
 have b2 := below_new q (.cells #[.int .i64 a, .int .i64 en, .int .i64 ex, .slice B3 m3 d3, .slice B4 m4 d4, .slice B5 m5 d5, .int .i64 tm] 54)
 rw [← hr] at x2 b2
 go_upto_region 10 with fail
 rw [← hr]
 have X2 := Lib.hid x2
 have B2 := Lib.hid (B1.out.trans (b2.mono B1.out.size))
 generalize q.heap.size = p2 at X2 ⊢
 clear x2 b2 hr k0 k1 k2 k3 k4 k5 k6
 obtain ⟨k0, k1, k2, k3, k4, k5, k6⟩ := cell7_of X2.out
 go_wp2_with fail
 go_ret
 exact ⟨rfl, B2.out⟩
end Go.Proofs.YtneeocnjfnneoaaGreat
