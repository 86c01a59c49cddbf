/-
  The sixteen words of a block.
  Conditions: none.
-/
import Derived.Test.YtdaaemnfphagbaaDoorShaNext
import Derived.Deep.MidRow
set_option linter.unusedVariables false
set_option linter.unusedSimpArgs false
namespace Go.Proofs.YtdaaemnfphagbaaDoor
open Go.RowKit

def rowB (l : List UInt8) : Array Value := (l.map u8).toArray
theorem rowB_size (l : List UInt8) : (rowB l).size = l.length := by simp [rowB]
theorem rowB_one (l : List UInt8) : (rowB l).all (·.oneCell') = true := by
  rw [Array.all_eq_true_iff_forall_mem]
  intro v hv
  simp only [rowB, List.mem_toArray, List.mem_map] at hv
  obtain ⟨x, _, rfl⟩ := hv
  rfl
theorem rowB_at {l : List UInt8} {j : Nat} (h : j < l.length) : (rowB l)[j]? = some (.int .u8 (l[j].toNat : Int)) := by
  simp only [rowB, List.getElem?_toArray, List.getElem?_map, List.getElem?_eq_getElem h, Option.map_some]; rfl
theorem row32_set (l : List Nat) (j n : Nat) : (row32 l).setIfInBounds j (.int .u32 (n : Int)) = row32 (l.set j n) := by
  simp only [row32, List.setIfInBounds_toArray, List.map_set]; rfl
theorem row32_zero (n : Nat) : row32 (List.replicate n 0) = Array.replicate n (.int .u32 0) := by
  apply Array.ext'
  simp [row32, w32]

theorem zero16 : (∀ w, (zeroValue 48).run Tryd.prog w = .ok (.agg (Array.replicate 16 (.int .u32 0))) w) ∧ (Tryd.prog.info? 48).map (·.size) = some 16 := zero_of_info (by kernel_rfl)
theorem info64 : (Tryd.prog.info? 37).map (·.size) = some 64 := by kernel_rfl

/-- An element of an array by value. -/
theorem run_index_row {w : World} {t e : TypeId} {n : Nat} {cs : Array Value} {i : Nat} {v : Value} {ie : TypeInfo} {d : TypeDesc} (ht : Tryd.prog.underlying t = some (.array n e)) (he : Tryd.prog.underlying e = some d) (hd : d.isRow = false) (hi : Tryd.prog.info? e = some ie) (hs : ie.size = 1) (hlt : i < n) (hv : cs[i]? = some v) :
    (Instr.index t (.agg cs) (.int .i64 (i : Int))).run Tryd.prog w = .ok v w := by
  have hagg : (isAgg e).run Tryd.prog w = .ok false w := by
    unfold isAgg
    rw [Sem.run_bind, run_underlying he w]
    cases d <;> simp_all
  have hc : (0 : Int) ≤ (i : Int) ∧ (i : Int) < (n : Int) := by omega
  simp [Instr.index, asIntOf, Sem.run_bind, run_underlying ht w, hc, sizeOf, typeInfo, hi, hs, part, hagg, hv, hlt]

set_option maxHeartbeats 1000000 in
theorem words_any (B : List UInt8) (hB : B.length = 64) (w : World) :
    Calls Tryd.prog 23 #[.agg (rowB B)] w fun e w' => e = .returned (.agg (row32 (words16 B))) ∧ Below w.heap.size w w' := by
  have hz := zero16.1
  have hh0 : (((w.alloc (.cells (rowB B) 37)).alloc (.cells (Array.replicate 16 (.int .u32 0)) 48)).alloc (.cells (Array.replicate 16 (.int .u32 0)) 48)).heap[w.heap.size]? = some (.cells (rowB B) 37 (0, 0)) := by
    rw [heap_alloc_lt _ _ (by rw [heap_alloc_size, heap_alloc_size]; omega), heap_alloc_lt _ _ (by rw [heap_alloc_size]; omega), heap_alloc_self]
  have HH0 := Lib.hid hh0
  clear hh0
  go_enter Tryd.func23, Tryd.ntmps23
  go_wp2_with (refine wpList_load_row rfl 37 _ rfl _ rfl HH0.out Tryd.underlying37 (by rw [rowB_size, hB]; exact info64) ?_)
  rw [← row32_zero, ← part16_zero B]
  go_loopg [7] 64 (fun g s7 wx => ∃ i : Nat, i + g = 64 ∧ s7 = .int .i64 i ∧ wx = ((w.alloc (.cells (rowB B) 37)).alloc (.cells (row32 (part16 B 0)) 48)).alloc (.cells (row32 (part16 B i)) 48))
  case atStart => exact ⟨0, by omega, rfl, rfl⟩
  case round =>
    obtain ⟨i, hig, rfl, rfl⟩ := hrel
    cases gk with
    | zero =>
      obtain rfl : i = 64 := by omega
      have hh2 : (((w.alloc (.cells (rowB B) 37)).alloc (.cells (row32 (part16 B 0)) 48)).alloc (.cells (row32 (part16 B 64)) 48)).heap[w.heap.size + 1 + 1]? = some (.cells (row32 (part16 B 64)) 48 (0, 0)) := by
        have := heap_alloc_self ((w.alloc (.cells (rowB B) 37)).alloc (.cells (row32 (part16 B 0)) 48)) (.cells (row32 (part16 B 64)) 48)
        rwa [heap_alloc_size, heap_alloc_size] at this
      have hh1 : (((w.alloc (.cells (rowB B) 37)).alloc (.cells (row32 (part16 B 0)) 48)).alloc (.cells (row32 (part16 B 64)) 48)).heap[w.heap.size + 1]? = some (.cells (row32 (part16 B 0)) 48 (0, 0)) := by
        rw [heap_alloc_lt _ _ (by rw [heap_alloc_size, heap_alloc_size]; omega)]
        have := heap_alloc_self (w.alloc (.cells (rowB B) 37)) (.cells (row32 (part16 B 0)) 48)
        rwa [heap_alloc_size] at this
      have hb : Below w.heap.size w (((w.alloc (.cells (rowB B) 37)).alloc (.cells (row32 (part16 B 0)) 48)).alloc (.cells (row32 (part16 B 64)) 48)) :=
        (((Below.refl _ _).alloc (Nat.le_refl _) _).alloc (by simp) _).alloc (by simp; omega) _
      generalize ((w.alloc (.cells (rowB B) 37)).alloc (.cells (row32 (part16 B 0)) 48)).alloc (.cells (row32 (part16 B 64)) 48) = v at hh1 hh2 hb ⊢
      have H1 := Lib.hid hh1
      have H2 := Lib.hid hh2
      have HB := Lib.hid hb
      clear hh1 hh2 hb HH0
      go_wp2_with (first
        | refine wpList_load_row rfl 48 _ rfl _ rfl H2.out Tryd.underlying48 (by rw [row32_size, part16_length]; exact zero16.2) ?_
        | refine wpList_store_row rfl 48 _ _ rfl _ rfl rfl H1.out (by rw [row32_size, part16_length]; exact zero16.2) (by rw [row32_size, row32_size, part16_length, part16_length]) (row32_one _) ?_)
      rw [← part16_all hB]
      refine bodyPost_ret (v := .agg (row32 (part16 B 64))) ?_ rfl ⟨rfl, below_setRow HB.out (by omega) _⟩
      exact results_cell_row rfl _ _ (w.heap.size + 1) _ _ (0, 0) _ rfl (setRow_heap _ _ _ _ _ _ H1.out) Tryd.underlying48 rfl (by rw [row32_size, part16_length]; exact zero16.2)
    | succ g =>
      have hi : (i : Int) < 64 := by omega
      have hi0 : (0 : Int) ≤ i := by omega
      obtain ⟨n, hn, hlt, hset⟩ := part16_last (b := B) (i := i) (by omega) hB
      have hx := rowB_at (l := B) (j := i) (by omega)
      have hxl := UInt8.toNat_lt B[i]
      have hv : bits .or .u32 ((n : Int) * 256) (B[i].toNat : Int) = ((n * 256 + B[i].toNat : Nat) : Int) := by
        have h := shl_or hlt hxl
        rw [Nat.mod_eq_of_lt (by omega)] at h
        rw [show (n : Int) * 256 = ((n * 256 : Nat) : Int) by omega, u32_or_nat _ _ (by omega) (by omega), h]
      have hset' : (row32 (part16 B i)).setIfInBounds (i / 4) (.int .u32 ((n : Int) * 256 + (B[i].toNat : Int))) = row32 (part16 B (i + 1)) := by
        rw [← hset, ← row32_set]; rfl
      have HS := Lib.hid hset'
      have hn' := row32_at hn
      have hq : (i : Int) / 4 = ((i / 4 : Nat) : Int) := by omega
      clear hset hset' hn
      have hidx : ∀ w', (Instr.index 37 (.agg (rowB B)) (.int .i64 (i : Int))).run Tryd.prog w' = .ok (.int .u8 (B[i].toNat : Int)) w' := fun w' => by
        obtain ⟨ie, h1, h2, h3, h4⟩ := info_parts infoByte
        exact run_index_row Tryd.underlying37 Tryd.underlying5 rfl h1 h3 (by omega) hx
      clear hx
      generalize i / 4 = j at *
      have hj : (j : Int) < 16 := by omega
      generalize B[i].toNat = x at *
      go_wp2
      rw [HS.out]
      go_roundg g
      case measure => omega
      case rel => exact ⟨i + 1, by omega, by go_num, rfl⟩
end Go.Proofs.YtdaaemnfphagbaaDoor
