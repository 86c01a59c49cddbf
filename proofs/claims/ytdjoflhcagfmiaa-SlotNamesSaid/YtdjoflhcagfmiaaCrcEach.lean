/-
  The array of what a function makes of each byte.
  Conditions: none.
-/
import Derived.Test.YtdjoflhcagfmiaaCrcClo
import Derived.Test.YtdjoflhcagfmiaaRow
import Derived.Deep.LoopGhost
import Derived.Deep.WholeRow
import Derived.Laws.ResultCell
import Derived.Laws.NewBlocks
set_option linter.unusedVariables false
set_option linter.unusedSimpArgs false
set_option maxRecDepth 100000
namespace Go.Proofs.Ytdjoflhcagfmiaa
open Go.RowKit

/-- The first j words are laid. -/
def tabTo (j : Nat) : Array Value := (Array.range 256).map fun i => if i < j then .int .u32 (stps 8 i : Nat) else .int .u32 0
theorem tabTo_size (j : Nat) : (tabTo j).size = 256 := by simp [tabTo]
theorem tabTo_zero : tabTo 0 = Array.replicate 256 (.int .u32 0) := by
  apply Array.ext
  · simp [tabTo]
  · intro i h1 h2; simp [tabTo]
theorem tabTo_succ (j : Nat) : (tabTo j).setIfInBounds j (.int .u32 (stps 8 j : Nat)) = tabTo (j + 1) := by
  apply Array.ext
  · simp [tabTo]
  · intro i h1 h2
    rw [Array.getElem_setIfInBounds]
    · simp only [tabTo, Array.getElem_map, Array.getElem_range]
      by_cases hi : j = i
      · subst hi; simp
      · rw [if_neg hi]
        by_cases h : i < j
        · rw [if_pos h, if_pos (by omega)]
        · rw [if_neg h, if_neg (by omega)]
    · simpa [tabTo] using h1
theorem tabTo_one (j : Nat) : (tabTo j).all (·.oneCell') = true := by
  rw [Array.all_eq_true_iff_forall_mem]
  intro v hv
  obtain ⟨i, _, rfl⟩ := Array.mem_map.1 hv
  by_cases h : i < j
  · rw [if_pos h]; rfl
  · rw [if_neg h]; rfl
theorem tabTo_at {j : Nat} (h : j < 256) : (tabTo 256)[j]? = some (.int .u32 (stps 8 j : Nat)) := by
  simp [tabTo, h]
theorem tabTo_in {i j : Nat} (h : i < 256) : ∃ v, (tabTo j)[i]? = some v := ⟨_, Array.getElem?_eq_getElem (by rw [tabTo_size]; exact h)⟩

theorem zero_tab : (∀ w, (zeroValue 143).run Try.prog w = .ok (.agg (Array.replicate 256 (.int .u32 0))) w) ∧ (Try.prog.info? 143).map (·.size) = some 256 := zero_of_info (by kernel_rfl)

set_option maxHeartbeats 1000000 in
theorem each_any (b : Nat) (w : World) (hc : w.cell? ⟨b, 0, none⟩ = some (.int .i64 8)) :
    Calls Try.prog 101 #[.func (.func 104) #[] #[.pointer (some ⟨b, 0, none⟩)]] w fun e w' => e = .returned (.agg (tabTo 256)) ∧ w' = (w.alloc (.cells (tabTo 256) 143)).alloc (.cells (tabTo 256) 143) := by
  have hblt := cell_lt hc
  have hz := zero_tab.1
  go_enter Try.func101, Try.ntmps101
  go_wp2
  rw [← tabTo_zero]
  go_loopg [5] 256 (fun g s5 wx => ∃ i : Nat, i + g = 256 ∧ s5 = .int .i64 i ∧ wx = (w.alloc (.cells (tabTo 0) 143)).alloc (.cells (tabTo i) 143))
  case atStart => exact ⟨0, by omega, rfl, rfl⟩
  case round =>
    obtain ⟨i, hig, rfl, rfl⟩ := hrel
    cases gk with
    | zero =>
      obtain rfl : i = 256 := by omega
      have hh2 : ((w.alloc (.cells (tabTo 0) 143)).alloc (.cells (tabTo 256) 143)).heap[w.heap.size + 1]? = some (.cells (tabTo 256) 143 (0, 0)) := by
        have := heap_alloc_self (w.alloc (.cells (tabTo 0) 143)) (.cells (tabTo 256) 143)
        rwa [heap_alloc_size] at this
      have hh1 : ((w.alloc (.cells (tabTo 0) 143)).alloc (.cells (tabTo 256) 143)).heap[w.heap.size]? = some (.cells (tabTo 0) 143 (0, 0)) := by
        rw [heap_alloc_lt _ _ (by rw [heap_alloc_size]; omega), heap_alloc_self]
      go_wp2_with (first
        | refine wpList_load_row rfl 143 _ rfl _ rfl hh2 Try.underlying143 (by rw [tabTo_size]; exact zero_tab.2) ?_
        | refine wpList_store_row rfl 143 _ _ rfl _ rfl rfl hh1 (by rw [tabTo_size]; exact zero_tab.2) (by rw [tabTo_size, tabTo_size]) (tabTo_one _) ?_)
      have hw : ((w.alloc (.cells (tabTo 0) 143)).alloc (.cells (tabTo 256) 143)).setRow w.heap.size (tabTo 256) = (w.alloc (.cells (tabTo 256) 143)).alloc (.cells (tabTo 256) 143) := by
        rw [setRow_alloc_lt _ _ _ (by rw [heap_alloc_size]; omega), World.setRow_alloc_new]
      have hh3 : ((w.alloc (.cells (tabTo 256) 143)).alloc (.cells (tabTo 256) 143)).heap[w.heap.size]? = some (.cells (tabTo 256) 143 (0, 0)) := by
        rw [heap_alloc_lt _ _ (by rw [heap_alloc_size]; omega), heap_alloc_self]
      rw [hw]
      refine bodyPost_ret (v := .agg (tabTo 256)) ?_ rfl ⟨rfl, rfl⟩
      exact results_cell_row rfl _ _ w.heap.size _ _ (0, 0) _ rfl hh3 Try.underlying143 rfl (by rw [tabTo_size]; exact zero_tab.2)
    | succ g =>
      have hi : (i : Int) < 256 := by omega
      have hi0 : (0 : Int) ≤ i := by omega
      have hcell := tabTo_in (i := i) (j := i) (by omega)
      obtain ⟨v, hv⟩ := hcell
      have hs := tabTo_succ i
      have HS := Lib.hid hs
      clear hs
      go_wp2_with fail
      refine (clo 8 i b _ (by omega) (by omega) (by rw [World.cell?_alloc_lt _ _ _ (by simp; omega), World.cell?_alloc_lt _ _ _ hblt]; exact hc)).mono ?_
      rintro e w1 ⟨rfl, rfl⟩
      go_wp2
      go_roundg g
      case measure => omega
      case rel => exact ⟨i + 1, by omega, by go_num, by rw [HS.out]⟩
end Go.Proofs.Ytdjoflhcagfmiaa
