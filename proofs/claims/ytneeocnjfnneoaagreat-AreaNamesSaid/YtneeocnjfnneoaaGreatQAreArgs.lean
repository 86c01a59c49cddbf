/-
 An argument that is an area.
 Conditions: none.
-/
import Derived.Test.YtneeocnjfnneoaaGreatQGAreM
set_option linter.unusedVariables false
set_option linter.unusedSimpArgs false
set_option maxRecDepth 100000
namespace Go.Proofs.YtneeocnjfnneoaaGreat
open Go.ChangeShapes Go.WideShapes Go.ChangeAt Go.RowKit Go.Joins Go.Deep

theorem array4_ {α : Type} {cs : Array α} (h : cs.size = 4) : ∃ c0 c1 c2 c3, cs = #[c0, c1, c2, c3] := by
 obtain ⟨l⟩ := cs
 match l, h with
 | [c0, c1, c2, c3], _ => exact ⟨c0, c1, c2, c3, rfl⟩
theorem area_of_arg {H : Type} {enc : TypeId × Value → H} {W : World} {base : Nat} {v : Value} {d : DataW H} {p : List MemPlace} (hval : Value.okWide Tryz.prog W .any base 24 v) (h : DataW.Trod enc Tryz.prog W 0 (fun _ => true) true 24 v d p) : ∃ x, AreaV W W.heap.size v x := by
 obtain ⟨cs, rfl, hsz⟩ := okWide_struct Tryz.underlying24 hval
 have hsz4 : cs.size = 4 := hsz.trans (by kernel_rfl)
 obtain ⟨c0, c1, c2, c3, rfl⟩ := array4_ hsz4
 obtain ⟨fuel, hf0⟩ := h
 obtain ⟨n, hf⟩ := fields_of Tryz.underlying24 (by kernel_rfl) hf0 rfl
 obtain ⟨v0, y0, e0, h0⟩ := hf 0 _ rfl
 obtain ⟨v1, y1, e1, h1⟩ := hf 1 _ rfl
 obtain ⟨v2, y2, e2, h2⟩ := hf 2 _ rfl
 obtain ⟨v3, y3, e3, h3⟩ := hf 3 _ rfl
 cases e0; cases e1; cases e2; cases e3
 obtain ⟨l0, g0⟩ := ints_of_trod h0
 obtain ⟨l1, g1⟩ := ints_of_trod h1
 obtain ⟨l2, g2⟩ := ints_of_trod h2
 obtain ⟨l3, g3⟩ := ints_of_trod h3
 exact ⟨⟨l0, l1, l2, l3⟩, _, _, _, _, rfl, ⟨g0, g1, g2, g3⟩⟩
end Go.Proofs.YtneeocnjfnneoaaGreat
