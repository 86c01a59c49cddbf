/-
  A record, and a list of texts, that come in as arguments read as such.
  Conditions: none.
-/
import Derived.Test.YtdjoflhcagfmiaaDevArgs
import Derived.Test.YtdjoflhcagfmiaaSlotAlive
set_option linter.unusedVariables false
set_option linter.unusedSimpArgs false
set_option maxRecDepth 100000
namespace Go.Proofs.Ytdjoflhcagfmiaa
open Go.ChangeShapes Go.WideShapes Go.ChangeAt Go.RowKit Go.Joins Go.Deep

theorem rec_of_arg {H : Type} {enc : TypeId × Value → H} {W : World} {base : Nat} {v : Value} {d : DataW H} {p : List MemPlace} (hval : Value.okWide Try.prog W .any base 36 v) (h : DataW.Trod enc Try.prog W 0 (fun _ => true) true 36 v d p) :
    ∃ (g : Nat) (t : Bs), g < 4294967296 ∧ RcIn W W.heap.size v (g, t) := by
  obtain ⟨v0, v1, y0, y1, n, rfl, _, _, h0, h1⟩ := open_agg2 Try.underlying36 (by kernel_rfl) (by kernel_rfl) hval h
  obtain ⟨z, e0, _, hwf⟩ := DataW.trod_int Try.underlying33 h0
  obtain ⟨xs, hx⟩ := txt_of_trod h1
  have hb := bounds_u32 hwf
  cases e0
  exact ⟨z.toNat, xs, by omega, v1, by rw [show ((z.toNat : Nat) : Int) = z from by omega], hx⟩

theorem secs_of_arg {H : Type} {enc : TypeId × Value → H} {W : World} {base : Nat} {v : Value} {d : DataW H} {p : List MemPlace} (hval : Value.okWide Try.prog W .any base 26 v) (h : DataW.Trod enc Try.prog W 0 (fun _ => true) true 26 v d p) :
    ∃ ss, SecsIn W W.heap.size v ss := by
  obtain ⟨a, len, cap, rfl⟩ := okWide_slice Try.underlying26 hval
  obtain ⟨fuel, hf⟩ := h
  exact secs_of_trod (by simpa [Value.cells] using hf)

theorem int_u32 {a : Int} (h : (Lit.int .u32 a).wf = true) : ∃ n : Nat, n < 4294967296 ∧ a = (n : Int) := by
  have hb := bounds_u32 h
  exact ⟨a.toNat, by omega, by omega⟩
end Go.Proofs.Ytdjoflhcagfmiaa
