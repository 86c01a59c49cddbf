/-
  Arrays of 32 bytes that come in as arguments.
  Conditions: none.
-/
import Derived.Test.YtdaaemnfphagbaaDoorShaArgs
set_option linter.unusedVariables false
set_option linter.unusedSimpArgs false
namespace Go.Proofs.YtdaaemnfphagbaaDoor
open Go.ChangeShapes Go.WideShapes Go.ChangeAt Go.RowKit

theorem b32_of_arg {H : Type} {enc : TypeId × Value → H} {W : World} {base b0 : Nat} {sp : Nat → Bool} {held : Bool} {v : Value} {d : DataW H} {p : List MemPlace} (hval : Value.okWide Tryd.prog W .any b0 22 v) (h : DataW.Trod enc Tryd.prog W base sp held 22 v d p) :
    ∃ l, v = .agg (rowB l) ∧ l.length = 32 := by
  obtain ⟨cs, rfl, hs, hc⟩ := arr_open Tryd.underlying22 Tryd.underlying5 (by kernel_rfl) (by kernel_rfl) hval h
  refine ⟨(List.range 32).map fun i => UInt8.ofNat (numOf cs[i]?), ?_, by simp⟩
  congr 1
  apply Array.ext
  · rw [rowB_size, List.length_map, List.length_range, hs]
  · intro i h1 h2
    obtain ⟨a, ha, hw⟩ := hc i (by omega)
    have hb := bounds_u8 hw
    rw [Array.getElem?_eq_getElem h1] at ha
    have hr : (rowB ((List.range 32).map fun i => UInt8.ofNat (numOf cs[i]?)))[i]? = some (.int .u8 (((UInt8.ofNat (numOf cs[i]?)).toNat : Nat) : Int)) := by
      rw [rowB_at (by simp; omega)]
      simp
    rw [Array.getElem?_eq_getElem h2] at hr
    rw [Option.some.inj hr, Option.some.inj ha, Array.getElem?_eq_getElem h1, Option.some.inj ha, UInt8.toNat_ofNat']
    simp only [numOf]
    congr 1
    omega
end Go.Proofs.YtdaaemnfphagbaaDoor
