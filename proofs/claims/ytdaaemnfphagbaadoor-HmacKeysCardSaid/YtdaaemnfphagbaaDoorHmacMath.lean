/-
  Tags of bytes by a key, as mathematics.
  Conditions: none.
-/
import Derived.Test.YtdaaemnfphagbaaDoorShaGen
import Derived.Laws.BitsAll
import Derived.Laws.BitsAllLaws
set_option linter.unusedVariables false
set_option linter.unusedSimpArgs false
namespace Go.Proofs.YtdaaemnfphagbaaDoor
open Go.RowKit

/-- A key's block. -/
def padK (key : List UInt8) : List UInt8 := key ++ List.replicate (64 - key.length) 0
/-- Each byte of it turned. -/
def turnK (K : List UInt8) (t : UInt8) : List UInt8 := K.map (· ^^^ t)
def innerL (key b : List UInt8) : List UInt8 := sumL (turnK (padK key) 54 ++ b)
def tagL (key b : List UInt8) : List UInt8 := sumL (turnK (padK key) 92 ++ innerL key b)

theorem padK_length {key : List UInt8} (h : key.length ≤ 64) : (padK key).length = 64 := by
  simp [padK]; omega
theorem turnK_length (K : List UInt8) (t : UInt8) : (turnK K t).length = K.length := by simp [turnK]
theorem sumL_length (b : List UInt8) : (sumL b).length = 32 := told32_length _
theorem innerL_length (key b : List UInt8) : (innerL key b).length = 32 := sumL_length _
theorem tagL_length (key b : List UInt8) : (tagL key b).length = 32 := sumL_length _
theorem padK_noughts {key : List UInt8} {m : Nat} (h : key.length + m ≤ 64) : padK (key ++ List.replicate m 0) = padK key := by
  simp only [padK, List.append_assoc, List.length_append, List.length_replicate, List.replicate_append_replicate]
  congr 2
  omega
theorem innerL_noughts {key : List UInt8} {m : Nat} (b : List UInt8) (h : key.length + m ≤ 64) : innerL (key ++ List.replicate m 0) b = innerL key b := by
  rw [innerL, padK_noughts h]; rfl
theorem tagL_noughts {key : List UInt8} {m : Nat} (b : List UInt8) (h : key.length + m ≤ 64) : tagL (key ++ List.replicate m 0) b = tagL key b := by
  rw [tagL, padK_noughts h, innerL_noughts b h]; rfl
theorem padK_at {key : List UInt8} {i : Nat} (h : i < 64) : (padK key)[i]? = some (key.getD i 0) := by
  rw [padK, List.getD_eq_getElem?_getD]
  by_cases hi : i < key.length
  · rw [List.getElem?_append_left hi, List.getElem?_eq_getElem hi]; rfl
  · rw [List.getElem?_append_right (by omega), List.getElem?_replicate, if_pos (by omega), List.getElem?_eq_none (by omega)]; rfl
theorem turnK_take_succ {K : List UInt8} {t : UInt8} {i : Nat} {x : UInt8} (h : K[i]? = some x) : turnK (K.take (i + 1)) t = turnK (K.take i) t ++ [x ^^^ t] := by
  rw [List.take_add_one, h]; simp [turnK]
theorem xor_int (x t : UInt8) : bits .xor .u8 (x.toNat : Int) (t.toNat : Int) = (((x ^^^ t).toNat : Nat) : Int) := by
  rw [UInt8.toNat_xor]; exact u8_xor_nat _ _ (UInt8.toNat_lt x) (UInt8.toNat_lt t)
theorem tag_eleven : (tagL (List.replicate 20 11) [72, 105, 32, 84, 104, 101, 114, 101]) = [176, 52, 76, 97, 216, 219, 56, 83, 92, 168, 175, 206, 175, 11, 241, 43, 136, 29, 194, 0, 201, 131, 61, 167, 38, 233, 55, 108, 46, 50, 207, 247] := by decide +kernel
end Go.Proofs.YtdaaemnfphagbaaDoor
