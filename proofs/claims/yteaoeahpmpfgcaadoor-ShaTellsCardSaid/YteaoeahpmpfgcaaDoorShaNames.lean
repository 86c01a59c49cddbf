/-
  The statement ShaNames' text returns true.
  Conditions: the table of constants reads as it was laid.
-/
import Derived.Test.YteaoeahpmpfgcaaDoorShaSmall
set_option linter.unusedVariables false
set_option linter.unusedSimpArgs false
namespace Go.Proofs.YteaoeahpmpfgcaaDoor
open Go.RowKit

theorem make_noughts (m : Nat) (h : m ≤ 10000) (w' : World) : (Instr.makeSlice 25 (.int .i64 (m : Int)) (.int .i64 (m : Int))).run Tryd.prog w' = .ok (.slice (some ⟨w'.heap.size, 0, none⟩) m m) (w'.alloc (.cells (rowB (List.replicate m 0)) 5)) := by
  obtain ⟨i0, hi, hz0, hz1, hz2⟩ := info_parts infoByte
  have := run_make (P := Tryd.prog) w' 25 5 i0 _ Tryd.underlying25 hi hz0 .i64 .i64 m m (by omega) (by omega) (by rw [hz2]; omega) (by omega)
  rw [this]
  rw [hz1]
  show Result.ok _ (w'.alloc (.cells (madeCells _ ((m : Int).toNat * 1)) _)) = _
  rw [Int.toNat_natCast, made_noughts]

theorem filled_noughts (m : Nat) (h : m ≤ 5000) (w : World) (hB : Nat) (hb : hB ≤ w.heap.size) :
    Calls Tryd.prog 9 #[.slice (some ⟨w.heap.size, 0, none⟩) m m] (w.alloc (.cells (rowB (List.replicate m 0)) 5)) fun e w' => (∃ A, e = .returned (.slice A (64 * ((m + 8) / 64 + 1)) (64 * ((m + 8) / 64 + 1)))) ∧ Below w.heap.size w w' := by
  have hx : Txt (w.alloc (.cells (rowB (List.replicate m 0)) 5)) (w.alloc (.cells (rowB (List.replicate m 0)) 5)).heap.size (.slice (some ⟨w.heap.size, 0, none⟩) m m) (List.replicate m 0) := by
    have := txt_of_block (heap_alloc_self w (.cells (rowB (List.replicate m 0)) 5)) (by rw [List.length_replicate]; unfold maxLen; omega)
    rwa [List.length_replicate] at this
  refine (filled_any _ _ (by rw [List.length_replicate]; exact h) _ hx).mono ?_
  rintro e w' ⟨rfl, -, b⟩
  refine ⟨⟨_, by rw [fill_length, List.length_replicate]⟩, (below_new w _).trans (b.mono (by simp))⟩

set_option maxHeartbeats 1000000 in
theorem walk_names (w : World) (hT : Tab w) : Calls Tryd.prog 3 #[] w fun e w' => e = .returned (.bool true) ∧ Below w.heap.size w w' := by
  have hz32 := zero32.1
  have HT := Lib.hid hT
  have m1 : ∀ w' : World, (Instr.makeSlice 25 (.int .i64 55) (.int .i64 55)).run Tryd.prog w' = .ok (.slice (some ⟨w'.heap.size, 0, none⟩) 55 55) (w'.alloc (.cells (rowB (List.replicate 55 0)) 5)) := make_noughts 55 (by omega)
  have m2 : ∀ w' : World, (Instr.makeSlice 25 (.int .i64 56) (.int .i64 56)).run Tryd.prog w' = .ok (.slice (some ⟨w'.heap.size, 0, none⟩) 56 56) (w'.alloc (.cells (rowB (List.replicate 56 0)) 5)) := make_noughts 56 (by omega)
  clear hT
  go_enter Tryd.func3, Tryd.ntmps3
  go_wp2_with fail
  refine (sum_any _ [] (by decide) _ HT.out (Txt.nil_ _ _)).mono ?_
  rintro e w1 ⟨rfl, b⟩
  have B1 := Lib.hid b
  have hs4 := sum_nil
  have hsl : (sumL []).length = 32 := by unfold sumL; exact told32_length _
  have ht : ∀ j, j < 4 → (sumL [])[j]? = [227, 176, 196, 66][j]? := fun j hj => by
    rw [← hs4, List.getElem?_take, if_pos hj]
  have x0 := ht 0 (by omega)
  have x1 := ht 1 (by omega)
  have x2 := ht 2 (by omega)
  have x3 := ht 3 (by omega)
  have HL := Lib.hid hsl
  clear b hs4 hsl ht
  generalize sumL [] = s at *
  simp only [List.getElem?_cons_zero, List.getElem?_cons_succ] at x0 x1 x2 x3
  have cell : ∀ (j : Nat) (x : UInt8), s[j]? = some x → (rowB s)[j]? = some (.int .u8 (x.toNat : Int)) := fun j x h => by
    simp only [rowB, List.getElem?_toArray, List.getElem?_map, h, Option.map_some]; rfl
  have y0 := cell 0 _ x0
  have y1 := cell 1 _ x1
  have y2 := cell 2 _ x2
  have y3 := cell 3 _ x3
  clear x0 x1 x2 x3 cell
  go_wp2_with (refine wpList_store_row rfl 22 _ _ rfl w1.heap.size rfl rfl (heap_alloc_self _ _) (by rw [rowB_size, HL.out]; exact zero32.2) (by rw [rowB_size, HL.out]; simp) (rowB_one _) ?_; rw [World.setRow_alloc_new])
  refine (alive_true _ (HT.out.below (B1.out.alloc B1.out.size _) HT.out.pos)).mono ?_
  rintro e w2 ⟨rfl, b⟩
  have hc : ∀ j : Nat, w2.cell? ⟨w1.heap.size, j, none⟩ = (rowB s)[j]? := fun j => by
    rw [b.cell (p := ⟨w1.heap.size, j, none⟩) (by simp), World.cell?_alloc_new]
  have B2 := Lib.hid ((B1.out.alloc B1.out.size (.cells (rowB s) 22)).trans (b.mono (B1.out.alloc B1.out.size _).size))
  have c0 := (hc 0).trans y0
  have c1 := (hc 1).trans y1
  have c2 := (hc 2).trans y2
  have c3 := (hc 3).trans y3
  clear hc y0 y1 y2 y3 b B1
  go_wp2_with fail
  refine (filled_noughts 55 (by omega) _ 0 (Nat.zero_le _)).mono ?_
  rintro e w3 ⟨⟨A, rfl⟩, b⟩
  have B3 := Lib.hid (B2.out.trans (b.mono B2.out.size))
  clear b B2
  go_wp2_with fail
  refine (filled_noughts 56 (by omega) _ 0 (Nat.zero_le _)).mono ?_
  rintro e w4 ⟨⟨A, rfl⟩, b⟩
  have B4 := Lib.hid (B3.out.trans (b.mono B3.out.size))
  clear b B3
  go_wp2
  go_ret
  exact ⟨rfl, B4.out⟩
end Go.Proofs.YteaoeahpmpfgcaaDoor
