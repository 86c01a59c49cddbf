/-
  A byte that comes in as an argument is a byte.
  Conditions: none.
-/
import Derived.Test.YtdjoflhcagfmiaaBase
set_option linter.unusedVariables false
set_option linter.unusedSimpArgs false
set_option maxRecDepth 100000
namespace Go.Proofs.Ytdjoflhcagfmiaa

theorem int_u8 {a : Int} (h : (Lit.int .u8 a).wf = true) : ∃ t : UInt8, a = (t.toNat : Int) := by
  have hb := bounds_u8 h
  exact ⟨UInt8.ofNat a.toNat, by rw [UInt8.toNat_ofNat']; omega⟩
end Go.Proofs.Ytdjoflhcagfmiaa
