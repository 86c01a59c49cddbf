/-
  make([]int, n): a list of noughts.
  Conditions: at most 100,000.
-/
import Derived.Test.YtdpjdobmnkadjaaDevMem
import Derived.Test.YtdpjdobmnkadjaaDevClone
import Derived.Test.YtdpjdobmnkadjaaDevApart
set_option linter.unusedVariables false
set_option linter.unusedSimpArgs false
namespace Go.Proofs.Ytdpjdobmnkadjaa
open Go.RowKit

def i64v (k : Int) : Value := .int .i64 k
theorem nums_own {W : World} {base : Nat} {v : Value} {ks : List Int} (h : W.ownsRow base 3 1 v ks.length (ks.map i64v)) (hl : ks.length ≤ maxLen) : NumsIn W W.heap.size v ks := by
  have ho := h
  rcases h.2 with ⟨rfl, h0⟩ | ⟨g, cap, cur, rfl, _, hgb, hcap, hcur⟩
  · obtain rfl : ks = [] := List.eq_nil_of_length_eq_zero h0
    exact ⟨none, 0, rfl, Nat.le_refl _, Nat.zero_le _, fun _ => rfl, fun h => absurd h (by simp)⟩
  · refine ⟨_, cap, rfl, hcap, hcur.1, fun h => (by cases h), fun _ => ⟨g, 0, rfl, heap_lt hgb, fun j hj => ?_⟩⟩
    rw [Nat.zero_add, ho.cellAt j (by omega), List.getElem?_map, List.getElem?_eq_getElem hj]
    rfl
def noughts (n : Nat) : List Int := List.replicate n 0
theorem noughts_length (n : Nat) : (noughts n).length = n := List.length_replicate
theorem made_noughts_ (n : Nat) : (madeCells (Value.int IntKind.i64 0).cells (n * 1)).toList = (noughts n).map i64v := by
  rw [noughts, List.map_replicate]
  apply List.ext_getElem?
  intro j
  simp only [madeCells, Array.toList_map, Array.toList_range, List.getElem?_map, List.getElem?_replicate, Nat.mul_one]
  by_cases h : j < n
  · rw [List.getElem?_range h, if_pos h]
    simp [Value.cells, i64v, Nat.mod_one]
  · rw [List.getElem?_eq_none (by simp; omega), if_neg h]; rfl
theorem infoIntN : (Try.prog.info? 3).map (fun i => (i.zero, i.size, i.bytes)) = some (some (.int .i64 0), 1, 8) := by kernel_rfl
theorem made_ints (w : World) (n : Nat) (hn : n ≤ 100000) : ∃ o : Obj, (Instr.makeSlice 36 (.int .i64 (n : Int)) (.int .i64 (n : Int))).run Try.prog w = .ok (.slice (some ⟨w.heap.size, 0, none⟩) n n) (w.alloc o) ∧ NumsIn (w.alloc o) (w.alloc o).heap.size (.slice (some ⟨w.heap.size, 0, none⟩) n n) (noughts n) := by
  obtain ⟨i0, hi, hz0, hz1, hz2⟩ := info_parts infoIntN
  have h := run_make (P := Try.prog) w 36 3 i0 _ Try.underlying36 hi hz0 .i64 .i64 n n (by omega) (by omega) (by rw [hz2]; omega) (by omega)
  refine ⟨_, h, ?_⟩
  have ho : (w.alloc (.cells (madeCells (Value.int IntKind.i64 0).cells (n * i0.size)) 3)).ownsRow w.heap.size 3 1 (.slice (some ⟨w.heap.size, 0, none⟩) n n) (noughts n).length ((noughts n).map i64v) := by
    rw [noughts_length]
    refine ⟨by rw [List.length_map, noughts_length]; omega, .inr ⟨_, n, _, rfl, Nat.le_refl _, heap_alloc_self _ _, Nat.le_refl _, by unfold maxLen; omega, ?_, ?_⟩⟩
    · rw [size_madeCells, hz1]
    · rw [hz1, made_noughts_]
      exact List.take_of_length_le (by rw [List.length_map, noughts_length]; omega)
  exact nums_own ho (by rw [noughts_length]; unfold maxLen; omega)
end Go.Proofs.Ytdpjdobmnkadjaa
