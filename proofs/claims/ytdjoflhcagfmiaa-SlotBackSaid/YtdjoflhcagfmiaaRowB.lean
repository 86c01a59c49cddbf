/-
  Rows of bytes: a block that holds some, and made ones.
  Conditions: none.
-/
import Derived.Test.YtdjoflhcagfmiaaBase
import Derived.Test.YtdjoflhcagfmiaaRow
import Derived.Laws.MakeOwn
set_option linter.unusedVariables false
set_option linter.unusedSimpArgs false
set_option maxRecDepth 100000
namespace Go.Proofs.Ytdjoflhcagfmiaa
open Go.RowKit

def rowB (l : List UInt8) : Array Value := (l.map u8).toArray
theorem rowB_size (l : List UInt8) : (rowB l).size = l.length := by simp [rowB]
theorem rowB_one (l : List UInt8) : (rowB l).all (·.oneCell') = true := by
  rw [Array.all_eq_true']
  intro v hv
  obtain ⟨b, _, rfl⟩ := List.mem_map.1 (List.mem_toArray.1 hv)
  rfl
theorem rowB_at {l : List UInt8} {j : Nat} (h : j < l.length) : (rowB l)[j]? = some (.int .u8 (l[j].toNat : Int)) := by
  simp only [rowB, List.getElem?_toArray, List.getElem?_map, List.getElem?_eq_getElem h, Option.map_some]; rfl
theorem rowB_set (l : List UInt8) (j : Nat) (x : UInt8) : (rowB l).setIfInBounds j (.int .u8 (x.toNat : Int)) = rowB (l.set j x) := by
  simp [rowB, u8, List.map_set]

theorem infoByteSize : (Try.prog.info? 5).map (·.size) = some 1 := by kernel_rfl
theorem rowB_zero (n : Nat) : rowB (List.replicate n 0) = Array.replicate n (.int .u8 0) := by
  simp [rowB, u8]
theorem made_noughts (m : Nat) : madeCells (Value.int IntKind.u8 0).cells (m * 1) = rowB (List.replicate m 0) := by
  apply Array.ext
  · simp [madeCells, rowB, Value.cells]
  · intro i h1 h2
    simp [madeCells, rowB, Value.cells, u8, Nat.mod_one]
theorem make_noughts (m : Nat) (h : m ≤ 10000) (w' : World) : (Instr.makeSlice 34 (.int .i64 (m : Int)) (.int .i64 (m : Int))).run Try.prog w' = .ok (.slice (some ⟨w'.heap.size, 0, none⟩) m m) (w'.alloc (.cells (rowB (List.replicate m 0)) 5)) := by
  obtain ⟨i0, hi, hz0, hz1, hz2⟩ := info_parts infoByte
  have := run_make (P := Try.prog) w' 34 5 i0 _ Try.underlying34 hi hz0 .i64 .i64 m m (by omega) (by omega) (by rw [hz2]; omega) (by omega)
  rw [this]
  rw [hz1]
  show Result.ok _ (w'.alloc (.cells (madeCells _ ((m : Int).toNat * 1)) _)) = _
  rw [Int.toNat_natCast, made_noughts]
theorem txt_of_block {w : World} {b : Nat} {l : List UInt8} {t : TypeId} {fr : Nat × Nat} (h : w.heap[b]? = some (.cells (rowB l) t fr)) (hl : l.length ≤ maxLen) : Txt w w.heap.size (.slice (some ⟨b, 0, none⟩) l.length l.length) l :=
  ⟨_, _, rfl, Nat.le_refl _, hl, fun e => (by cases e), fun _ => ⟨_, _, rfl, (Array.getElem?_eq_some_iff.1 h).1, fun j hj => by
    rw [Nat.zero_add, cell_of_row _ _ j _ _ _ h, rowB_at hj]; rfl⟩⟩
theorem own_of_block {w : World} {base g : Nat} {l : List UInt8} (hb : base ≤ g) (h : w.heap[g]? = some (.cells (rowB l) 5 (0, 0))) (hm : l.length ≤ maxLen) : w.ownsRow base 5 1 (.slice (some ⟨g, 0, none⟩) l.length l.length) l.length (l.map u8) :=
  ⟨by simp, .inr ⟨g, l.length, rowB l, rfl, hb, h, Nat.le_refl _, hm, by rw [rowB_size]; omega, by rw [Nat.mul_one]; exact List.take_of_length_le (by simp [rowB])⟩⟩
/-- s[k:], whose place is known where something is left. -/
theorem cut_from (a : Option Addr) (n cap k : Nat) (hk : k ≤ n) (hn : n ≤ cap) : ∃ D, (∀ w' : World, (Instr.sliceAt 34 (.slice a n cap) (some (.int .i64 (k : Int))) none none).run Try.prog w' = .ok (.slice D (n - k) (cap - k)) w') ∧ (k < cap → D = a.map (·.add k)) := by
  obtain ⟨i0, hi, hz0, hz1, hz2⟩ := info_parts infoByte
  refine ⟨if cap = k then a else a.map (·.add (k * 1)), fun w' => ?_, fun h => by rw [if_neg (by omega), Nat.mul_one]⟩
  have hel : Try.prog.elem 34 = 5 := by kernel_rfl
  rw [run_sliceAt_slice w' _ _ _ _ _ (by rw [hel]; exact Try.underlying34), run_slice_l w' _ _ _ _ (by rw [hel]; exact Try.underlying34) .i64 (k : Int) (by omega) (by omega), hel]
  have hs : (sizeOf 5).run Try.prog w' = .ok 1 w' := by simp [sizeOf, typeInfo, hi, hz1]
  rw [hs]
  simp [Result.andThen, sliced]
end Go.Proofs.Ytdjoflhcagfmiaa
