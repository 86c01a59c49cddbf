/-
 The document's own package diff: place, same.
 Conditions: none.
-/
import Derived.Test.YtdldphkofkbmaaaQGDifM
import Derived.Test.YtdldphkofkbmaaaQGPlnRefD
import Derived.Test.YtdldphkofkbmaaaQGPlnRefB
set_option linter.unusedVariables false
set_option linter.unusedSimpArgs false
set_option maxRecDepth 100000
namespace Go.Proofs.Ytdldphkofkbmaaa
open Go.RowKit

theorem eqB_sec (s t : Sec) : eqB (Any13.sec s) (.sec t) = eqB s t := by rw [Bool.eq_iff_iff, eqB_iff, eqB_iff]; simp
theorem eqB_route (s t : Rt) : eqB (Any13.route s) (.route t) = eqB s t := by rw [Bool.eq_iff_iff, eqB_iff, eqB_iff]; simp
theorem eqB_pt (a b c d : Int) : eqB (Any13.pt (a, b)) (.pt (c, d)) = ((a == c) && (b == d)) := by rw [Bool.eq_iff_iff, eqB_iff]; simp
theorem eqB_sig (a b c d e f : Int) : eqB (Any13.sig (a, b, c)) (.sig (d, e, f)) = ((a == d) && ((b == e) && (c == f))) := by rw [Bool.eq_iff_iff, eqB_iff]; simp
theorem pt_eq13 (a b c d : Int) (w : World) : (Op.equalIn 10000 62 (.agg #[.int .i64 a, .int .i64 b]) (.agg #[.int .i64 c, .int .i64 d])).run Try.prog w = .ok ((a == c) && (b == d)) w := by
 have hagg : (isAgg 3).run Try.prog w = .ok false w := by
  unfold isAgg
  rw [Sem.run_bind, run_underlying Try.underlying3 w]
  simp
 rw [run_equalIn_agg w 9999 62 _ _ (by rw [Program.fieldsOf, Try.underlying62]) (by kernel_rfl)]
 simp only [Program.fieldsOf, Try.underlying62, Op.eqFields]
 have hi : ∀ x y : Int, (Op.equalIn 9999 3 (.int .i64 x) (.int .i64 y)).run Try.prog w = .ok (x == y) w := fun x y => run_equalIn_int w 9998 3 .i64 .i64 x y Try.underlying3
 by_cases h1 : a = c <;> by_cases h2 : b = d <;> simp [part, Sem.run_bind, Sem.run_ite, hagg, hi, h1, h2]
theorem sig_eq13 (a b c d e f : Int) (w : World) : (Op.equalIn 10000 64 (.agg #[.int .i64 a, .int .i64 b, .int .i64 c]) (.agg #[.int .i64 d, .int .i64 e, .int .i64 f])).run Try.prog w = .ok ((a == d) && ((b == e) && (c == f))) w := by
 have hagg : (isAgg 3).run Try.prog w = .ok false w := by
  unfold isAgg
  rw [Sem.run_bind, run_underlying Try.underlying3 w]
  simp
 rw [run_equalIn_agg w 9999 64 _ _ (by rw [Program.fieldsOf, Try.underlying64]) (by kernel_rfl)]
 simp only [Program.fieldsOf, Try.underlying64, Op.eqFields]
 have hi : ∀ x y : Int, (Op.equalIn 9999 3 (.int .i64 x) (.int .i64 y)).run Try.prog w = .ok (x == y) w := fun x y => run_equalIn_int w 9998 3 .i64 .i64 x y Try.underlying3
 by_cases h1 : a = d <;> by_cases h2 : b = e <;> by_cases h3 : c = f <;> simp [part, Sem.run_bind, Sem.run_ite, hagg, hi, h1, h2, h3]

/-- What Is answers. -/
noncomputable def isV (a b : Pl) (kind id : Int) : Int := if isD a b kind id = 4 then 0 else isD a b kind id
noncomputable def isT (a b : Pl) (kind id : Int) : Bool := decide (isD a b kind id ≠ 4)
theorem infoDiff13 : (Try.prog.info? 38).map (fun i => (i.zero, i.size, i.bytes)) = some (some (.agg #[.int .u8 0, .int .i64 0, .int .u8 0]), 3, 24) := by kernel_rfl
theorem slDiff : SliceOf 34 38 3 := ⟨Try.underlying34, by obtain ⟨i, hi, h1, h2, h3⟩ := info_parts infoDiff13; exact ⟨i, _, hi, h1, by decide, h2, by decide, by omega⟩⟩
theorem wrap_u8n (k : Nat) (h : k ≤ 255) : IntKind.u8.wrap (k : Int) = k := by
 simp [IntKind.wrap, IntKind.bits, IntKind.signed]; omega
end Go.Proofs.Ytdldphkofkbmaaa
