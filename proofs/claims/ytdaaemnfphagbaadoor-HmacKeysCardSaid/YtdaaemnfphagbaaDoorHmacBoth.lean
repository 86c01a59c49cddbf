/-
  The tag by whatever key, or the error.
  Conditions: at most 4,000 bytes; the table of constants reads as it was laid.
-/
import Derived.Test.YtdaaemnfphagbaaDoorHmacTag
set_option linter.unusedVariables false
set_option linter.unusedSimpArgs false
namespace Go.Proofs.YtdaaemnfphagbaaDoor
open Go.RowKit

/-- The tag, or what stands beside the error. -/
def tagZ (key b : List UInt8) : List UInt8 := if key.length ≤ 64 then tagL key b else List.replicate 32 0
def tagC (key : List UInt8) : Int := if key.length ≤ 64 then 0 else 3
theorem tagZ_length (key b : List UInt8) : (tagZ key b).length = 32 := by
  unfold tagZ; split
  · exact tagL_length _ _
  · exact List.length_replicate
theorem tag_both (v x : Value) (key b : List UInt8) (hbl : b.length ≤ 4000) (w : World) (hT : Tab w) (hk : Txt w w.heap.size v key) (hx : Txt w w.heap.size x b) :
    Calls Tryd.prog 8 #[v, x] w fun e w' => e = .returned (.tuple #[.agg (rowB (tagZ key b)), .int .i64 (tagC key)]) ∧ Below w.heap.size w w' := by
  by_cases h : key.length ≤ 64
  · rw [tagZ, tagC, if_pos h, if_pos h]; exact tag_any v x key b h hbl w hT hk hx
  · rw [tagZ, tagC, if_neg h, if_neg h]; exact tag_long v x key (by omega) w hk
end Go.Proofs.YtdaaemnfphagbaaDoor
