/-
  Arrays of words and of bytes that come in as arguments.
  Conditions: none.
-/
import Derived.Test.YtdaaemnfphagbaaDoorShaLaid
import Derived.WideKeyArr2
set_option linter.unusedVariables false
set_option linter.unusedSimpArgs false
namespace Go.Proofs.YtdaaemnfphagbaaDoor
open Go.ChangeShapes Go.WideShapes Go.ChangeAt Go.RowKit

theorem arr_open {H : Type} {enc : TypeId × Value → H} {W : World} {base b0 n t e : Nat} {q : IntKind} {sp : Nat → Bool} {held : Bool} {v : Value} {d : DataW H} {p : List MemPlace} (ht : Tryd.prog.underlying t = some (.array n e)) (he : Tryd.prog.underlying e = some (.int q)) (hce : Tryd.prog.cellsOf e = 1) (hct : Tryd.prog.cellsOf t = n)
    (hval : Value.okWide Tryd.prog W .any b0 t v) (h : DataW.Trod enc Tryd.prog W base sp held t v d p) :
    ∃ cs : Array Value, v = .agg cs ∧ cs.size = n ∧ ∀ i, i < n → ∃ a : Int, cs[i]? = some (.int q a) ∧ (Lit.int q a).wf = true := by
  simp only [Value.okWide, ht] at hval
  obtain ⟨cs, rfl, h2, _⟩ := hval
  refine ⟨cs, rfl, by rw [h2, hct], fun i hi => ?_⟩
  obtain ⟨fuel, hf⟩ := h
  cases fuel with
  | zero => simp [DataW.trod] at hf
  | succ fuel =>
    simp only [DataW.trod, ht, hce, hct, Nat.mul_one, Value.cells] at hf
    split at hf
    · obtain ⟨xs, hm, hx⟩ := Option.map_eq_some_iff.1 hf
      obtain ⟨b, hb, hfb⟩ := Lib.mapM_at hm i i (by simp [hi])
      obtain ⟨z, hc, _, hw⟩ := DataW.trod_int he hfb
      refine ⟨z, ?_, hw⟩
      have := congrArg (·[0]?) hc
      simpa [List.getElem?_take, List.getElem?_drop] using this
    · cases hf

def numOf : Option Value → Nat
  | some (.int _ a) => a.toNat
  | _ => 0
theorem w8_of_arg {H : Type} {enc : TypeId × Value → H} {W : World} {base b0 : Nat} {sp : Nat → Bool} {held : Bool} {v : Value} {d : DataW H} {p : List MemPlace} (hval : Value.okWide Tryd.prog W .any b0 43 v) (h : DataW.Trod enc Tryd.prog W base sp held 43 v d p) :
    ∃ l, v = .agg (row32 l) ∧ W32 8 l := by
  obtain ⟨cs, rfl, hs, hc⟩ := arr_open Tryd.underlying43 Tryd.underlying42 (by kernel_rfl) (by kernel_rfl) hval h
  refine ⟨(List.range 8).map fun i => numOf cs[i]?, ?_, by simp, fun x hx => ?_⟩
  · congr 1
    apply Array.ext
    · rw [row32_size, List.length_map, List.length_range, hs]
    · intro i h1 h2
      obtain ⟨a, ha, hw⟩ := hc i (by omega)
      have hb := bounds_u32 hw
      rw [Array.getElem?_eq_getElem h1] at ha
      have hr : (row32 ((List.range 8).map fun i => numOf cs[i]?))[i]? = some (.int .u32 ((numOf cs[i]? : Nat) : Int)) := row32_at (by rw [List.getElem?_map, List.getElem?_range (by omega)]; rfl)
      rw [Array.getElem?_eq_getElem h2] at hr
      rw [Option.some.inj hr, Option.some.inj ha, Array.getElem?_eq_getElem h1, Option.some.inj ha]
      simp only [numOf]
      congr 1
      omega
  · obtain ⟨i, hi, rfl⟩ := List.mem_map.1 hx
    obtain ⟨a, ha, hw⟩ := hc i (by simpa using hi)
    have hb := bounds_u32 hw
    rw [ha]
    simp only [numOf]
    omega
theorem b64_of_arg {H : Type} {enc : TypeId × Value → H} {W : World} {base b0 : Nat} {sp : Nat → Bool} {held : Bool} {v : Value} {d : DataW H} {p : List MemPlace} (hval : Value.okWide Tryd.prog W .any b0 37 v) (h : DataW.Trod enc Tryd.prog W base sp held 37 v d p) :
    ∃ l, v = .agg (rowB l) ∧ l.length = 64 := by
  obtain ⟨cs, rfl, hs, hc⟩ := arr_open Tryd.underlying37 Tryd.underlying5 (by kernel_rfl) (by kernel_rfl) hval h
  refine ⟨(List.range 64).map fun i => UInt8.ofNat (numOf cs[i]?), ?_, by simp⟩
  congr 1
  apply Array.ext
  · rw [rowB_size, List.length_map, List.length_range, hs]
  · intro i h1 h2
    obtain ⟨a, ha, hw⟩ := hc i (by omega)
    have hb := bounds_u8 hw
    rw [Array.getElem?_eq_getElem h1] at ha
    have hr : (rowB ((List.range 64).map fun i => UInt8.ofNat (numOf cs[i]?)))[i]? = some (.int .u8 (((UInt8.ofNat (numOf cs[i]?)).toNat : Nat) : Int)) := by
      rw [rowB_at (by simp; omega)]
      simp
    rw [Array.getElem?_eq_getElem h2] at hr
    rw [Option.some.inj hr, Option.some.inj ha, Array.getElem?_eq_getElem h1, Option.some.inj ha, UInt8.toNat_ofNat']
    simp only [numOf]
    congr 1
    omega
end Go.Proofs.YtdaaemnfphagbaaDoor
