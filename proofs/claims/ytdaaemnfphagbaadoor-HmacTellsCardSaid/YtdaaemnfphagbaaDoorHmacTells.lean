/-
  The statement HmacTells' text returns true: a tag, or the error, is the document's, and whether two tags are the same.
  Conditions: the table of constants reads as it was laid.
-/
import Derived.Test.YtdaaemnfphagbaaDoorHmacRefTag
import Derived.Test.YtdaaemnfphagbaaDoorHmacFlip
set_option linter.unusedVariables false
set_option linter.unusedSimpArgs false
namespace Go.Proofs.YtdaaemnfphagbaaDoor
open Go.RowKit

theorem tells_off (v0 v1 : Value) (X Y key b : List UInt8) (h : 3000 < key.length ∨ 3000 < b.length) (w : World) (h0 : Txt w w.heap.size v0 key) (h1 : Txt w w.heap.size v1 b) :
    Calls Tryd.prog 4 #[v0, v1, .agg (rowB X), .agg (rowB Y)] w fun e w' => e = .returned (.bool true) ∧ Below w.heap.size w w' := by
  obtain ⟨A0, c0, rfl, -, -, -, -⟩ := h0
  obtain ⟨A1, c1, rfl, -, -, -, -⟩ := h1
  by_cases g1 : (3000 : Int) < key.length
  · have g0 := g1
    clear g0
    go_enter Tryd.func4, Tryd.ntmps4
    go_wp2
    go_ret
    exact ⟨rfl, ((Below.refl _ _).alloc (Nat.le_refl _) _).alloc (by simp) _⟩
  · have g2 : (3000 : Int) < b.length := by omega
    go_enter Tryd.func4, Tryd.ntmps4
    go_wp2
    go_ret
    exact ⟨rfl, ((Below.refl _ _).alloc (Nat.le_refl _) _).alloc (by simp) _⟩

/-- What holds all through the last line. -/
def TAt (b6 b7 b11 b13 : Nat) (X Y Z : List UInt8) (v0 : Value) (key : List UInt8) (v1 : Value) (b : List UInt8) (v : World) : Prop :=
  v.heap[b6]? = some (.cells (rowB X) 22 (0, 0)) ∧ v.heap[b7]? = some (.cells (rowB Y) 22 (0, 0)) ∧
  v.heap[b11]? = some (.cells (rowB Z) 22 (0, 0)) ∧ v.heap[b13]? = some (.cells (rowB Z) 22 (0, 0)) ∧
  (convert 26 9 v0).run Tryd.prog v = .ok (.string ⟨key.toArray⟩) v ∧ (convert 26 9 v1).run Tryd.prog v = .ok (.string ⟨b.toArray⟩) v

set_option maxRecDepth 100000 in
set_option maxHeartbeats 4000000 in
theorem tells_all (v0 v1 : Value) (X Y key b : List UInt8) (hX : X.length = 32) (hY : Y.length = 32) (hk : key.length ≤ 3000) (hb : b.length ≤ 3000) (w : World) (hT : Tab w) (h0 : Txt w w.heap.size v0 key) (h1 : Txt w w.heap.size v1 b) :
    Calls Tryd.prog 4 #[v0, v1, .agg (rowB X), .agg (rowB Y)] w fun e w' => e = .returned (.bool true) ∧ Below w.heap.size w w' := by
  have HT := Lib.hid hT
  have HX0 := Lib.hid h0
  have HX1 := Lib.hid h1
  have XL := Lib.hid hX
  have YL := Lib.hid hY
  have ZL := Lib.hid (tagZ_length key b)
  have LE : Hid (b.length ≤ 4000) := Lib.hid (by omega)
  have g1 : ¬ (3000 : Int) < key.length := by omega
  have g2 : ¬ (3000 : Int) < b.length := by omega
  obtain ⟨A0, c0, rfl, -, -, -, -⟩ := h0
  obtain ⟨A1, c1, rfl, -, -, -, -⟩ := h1
  have hf0 : ((w.alloc (.cells (rowB X) 22)).alloc (.cells (rowB Y) 22)).heap[w.heap.size]? = some (.cells (rowB X) 22 (0, 0)) := by
    rw [heap_alloc_lt _ _ (by rw [heap_alloc_size]; omega), heap_alloc_self]
  have hf1 : ((w.alloc (.cells (rowB X) 22)).alloc (.cells (rowB Y) 22)).heap[w.heap.size + 1]? = some (.cells (rowB Y) 22 (0, 0)) := by
    have := heap_alloc_self (w.alloc (.cells (rowB X) 22)) (.cells (rowB Y) 22)
    rwa [heap_alloc_size] at this
  have hfb : Below w.heap.size w ((w.alloc (.cells (rowB X) 22)).alloc (.cells (rowB Y) 22)) :=
    ((Below.refl _ _).alloc (Nat.le_refl _) _).alloc (by simp) _
  have r0 := run_txt_string ((HX0.out.below hfb).more hfb.size)
  have r1 := run_txt_string ((HX1.out.below hfb).more hfb.size)
  have F0 := Lib.hid hf0
  have F1 := Lib.hid hf1
  have FB := Lib.hid hfb
  obtain ⟨c, hc⟩ : ∃ c : Bool, decide (X = Y) = c := ⟨_, rfl⟩
  have HC := Lib.hid hc
  have HEQ : Hid (∀ w' : World, (Op.equalIn 10000 22 (.agg (rowB X)) (.agg (rowB Y))).run Tryd.prog w' = .ok c w') := Lib.hid (fun w' => by rw [run_equal32 _ _ XL.out YL.out, HC.out])
  clear hT hX hY hk hb hf0 hf1 hfb hc
  go_enter Tryd.func4, Tryd.ntmps4
  go_wp2_with fail
  generalize (w.alloc (.cells (rowB X) 22)).alloc (.cells (rowB Y) 22) = u at F0 F1 FB r0 r1 ⊢
  clear r0 r1
  refine (tag_both _ _ key b LE.out _ (HT.out.below FB.out HT.out.pos) ((HX0.out.below FB.out).more FB.out.size) ((HX1.out.below FB.out).more FB.out.size)).mono ?_
  rintro e w2 ⟨rfl, b2⟩
  have B2 := Lib.hid (FB.out.trans (b2.mono FB.out.size))
  have X2 := Lib.hid ((b2.block _ (heap_lt F0.out)).trans F0.out)
  have Y2 := Lib.hid ((b2.block _ (heap_lt F1.out)).trans F1.out)
  clear b2 FB F0 F1
  go_wp2_with (refine wpList_store_new (op := ⟨none, _, _, _, _, _⟩) rfl _ _ rfl rfl rfl ZL.out ?_; intro q2 hx2 hb2; have Q2 := Lib.hid (B2.out.trans (hb2.out.mono B2.out.size)); have X3 := Lib.hid ((hb2.out.block _ (heap_lt X2.out)).trans X2.out); have Y3 := Lib.hid ((hb2.out.block _ (heap_lt Y2.out)).trans Y2.out); clear hb2 B2 X2 Y2)
  refine (tag_ref _ _ key b LE.out _ ((HX0.out.below Q2.out).more Q2.out.size) ((HX1.out.below Q2.out).more Q2.out.size)).mono ?_
  rintro e w3 ⟨rfl, b3⟩
  have B3 := Lib.hid (Q2.out.trans (b3.mono Q2.out.size))
  have X4 := Lib.hid ((b3.block _ (heap_lt X3.out)).trans X3.out)
  have Y4 := Lib.hid ((b3.block _ (heap_lt Y3.out)).trans Y3.out)
  have Z4 := Lib.hid ((b3.block _ (heap_lt hx2.out)).trans hx2.out)
  clear b3 Q2 X3 Y3 hx2
  go_wp2_with (refine wpList_store_new (op := ⟨none, _, _, _, _, _⟩) rfl _ _ rfl rfl rfl ZL.out ?_; intro q9 hx9 hb9; have Q9 := Lib.hid (B3.out.trans (hb9.out.mono B3.out.size)); have X9 := Lib.hid ((hb9.out.block _ (heap_lt X4.out)).trans X4.out); have Y9 := Lib.hid ((hb9.out.block _ (heap_lt Y4.out)).trans Y4.out); have Z9 := Lib.hid ((hb9.out.block _ (heap_lt Z4.out)).trans Z4.out); clear hb9 B3 X4 Y4 Z4)
  have KEEP : Hid (∀ w' : World, Below q9.heap.size q9 w' → TAt w.heap.size (w.heap.size + 1) w2.heap.size w3.heap.size X Y (tagZ key b) (.slice A0 key.length c0) key (.slice A1 b.length c1) b w') := Lib.hid (fun w' b =>
    ⟨(b.block _ (heap_lt X9.out)).trans X9.out, (b.block _ (heap_lt Y9.out)).trans Y9.out, (b.block _ (heap_lt Z9.out)).trans Z9.out, (b.block _ (heap_lt hx9.out)).trans hx9.out,
      run_txt_string (HX0.out.below (Q9.out.trans (b.mono Q9.out.size))), run_txt_string (HX1.out.below (Q9.out.trans (b.mono Q9.out.size)))⟩)
  have R0 : Hid (Below q9.heap.size q9 q9.drew) := Lib.hid (Below.refl _ q9).drew
  refine wp_region_held_drew (S := TAt w.heap.size (w.heap.size + 1) w2.heap.size w3.heap.size X Y (tagZ key b) (.slice A0 key.length c0) key (.slice A1 b.length c1) b) (by kernel_rfl) (KEEP.out _ R0.out) (fun hHeld => ?_)
  refine wpAnyH_take (i := 0) rfl (by kernel_rfl) (by kernel_rfl) (by kernel_rfl) (fun _ _ _ h => h) (yieldsIf_load_row (by rfl) 22 _ rfl w2.heap.size rfl (rowB (tagZ key b)) (fun w' hSw => run_load_row (hSw.2.2.1) Tryd.underlying22 (by rw [rowB_size, ZL.out]; exact zero32.2))) hHeld ?_
  simp only [List.getElem_toArray, List.getElem_cons_succ, List.getElem_cons_zero, Act.put, List.setIfInBounds_toArray, List.set_cons_zero, List.set_cons_succ]
  refine wpAnyH_take (i := 1) rfl (by kernel_rfl) (by kernel_rfl) (by kernel_rfl) (fun _ _ _ h => h) (yieldsIf_load_row (by rfl) 22 _ rfl w3.heap.size rfl (rowB (tagZ key b)) (fun w' hSw => run_load_row (hSw.2.2.2.1) Tryd.underlying22 (by rw [rowB_size, ZL.out]; exact zero32.2))) hHeld ?_
  simp only [List.getElem_toArray, List.getElem_cons_succ, List.getElem_cons_zero, Act.put, List.setIfInBounds_toArray, List.set_cons_zero, List.set_cons_succ]
  refine wpAnyH_take (i := 2) (v := ?_) rfl (by kernel_rfl) (by kernel_rfl) (by kernel_rfl) (fun _ _ _ h => h) (Or.inl ⟨by rfl, ?_⟩) hHeld ?_
  rotate_left
  · intro w' hSw; have hs1 := same32 (tagZ key b) ZL.out; go_simp; try with_reducible rfl
  simp only [List.getElem_toArray, List.getElem_cons_succ, List.getElem_cons_zero, Act.put, List.setIfInBounds_toArray, List.set_cons_zero, List.set_cons_succ]
  refine wpAnyH_take (i := 3) (v := ?_) rfl (by kernel_rfl) (by kernel_rfl) (by kernel_rfl) (fun _ _ _ h => h) (Or.inl ⟨by rfl, ?_⟩) hHeld ?_
  rotate_left
  · intro w' hSw; go_simp; try with_reducible rfl
  simp only [List.getElem_toArray, List.getElem_cons_succ, List.getElem_cons_zero, Act.put, List.setIfInBounds_toArray, List.set_cons_zero, List.set_cons_succ]
  refine wpAnyH_take (i := 4) (v := ?_) rfl (by kernel_rfl) (by kernel_rfl) (by kernel_rfl) (fun _ _ _ h => h) (Or.inl ⟨by rfl, ?_⟩) hHeld ?_
  rotate_left
  · intro w' hSw; go_simp; try with_reducible rfl
  simp only [List.getElem_toArray, List.getElem_cons_succ, List.getElem_cons_zero, Act.put, List.setIfInBounds_toArray, List.set_cons_zero, List.set_cons_succ]
  refine wpAnyH_take (i := 5) (v := ?_) rfl (by kernel_rfl) (by kernel_rfl) (by kernel_rfl) (fun _ _ _ h => h) (Or.inl ⟨by rfl, ?_⟩) hHeld ?_
  rotate_left
  · intro w' hSw; go_simp; try with_reducible rfl
  simp only [List.getElem_toArray, List.getElem_cons_succ, List.getElem_cons_zero, Act.put, List.setIfInBounds_toArray, List.set_cons_zero, List.set_cons_succ]
  refine wpAnyH_take (i := 6) (v := ?_) rfl (by kernel_rfl) (by kernel_rfl) (by kernel_rfl) (fun _ _ _ h => h) (Or.inl ⟨by rfl, ?_⟩) hHeld ?_
  rotate_left
  · intro w' hSw; go_simp; try with_reducible rfl
  simp only [List.getElem_toArray, List.getElem_cons_succ, List.getElem_cons_zero, Act.put, List.setIfInBounds_toArray, List.set_cons_zero, List.set_cons_succ]
  refine wpAnyH_take (i := 7) (v := ?_) rfl (by kernel_rfl) (by kernel_rfl) (by kernel_rfl) (fun _ _ _ h => h) (Or.inl ⟨by rfl, ?_⟩) hHeld ?_
  rotate_left
  · intro w' hSw; go_simp; try with_reducible rfl
  simp only [List.getElem_toArray, List.getElem_cons_succ, List.getElem_cons_zero, Act.put, List.setIfInBounds_toArray, List.set_cons_zero, List.set_cons_succ]
  refine wpAnyH_take (i := 8) (v := ?_) rfl (by kernel_rfl) (by kernel_rfl) (by kernel_rfl) (fun _ _ _ h => h) (Or.inl ⟨by rfl, ?_⟩) hHeld ?_
  rotate_left
  · intro w' hSw; go_simp; try with_reducible rfl
  simp only [List.getElem_toArray, List.getElem_cons_succ, List.getElem_cons_zero, Act.put, List.setIfInBounds_toArray, List.set_cons_zero, List.set_cons_succ]
  refine wpAnyH_take (i := 9) rfl (by kernel_rfl) (by kernel_rfl) (by kernel_rfl) (fun _ _ _ h => h) (yieldsIf_load_row (by rfl) 22 _ rfl w.heap.size rfl (rowB (X)) (fun w' hSw => run_load_row (hSw.1) Tryd.underlying22 (by rw [rowB_size, XL.out]; exact zero32.2))) hHeld ?_
  simp only [List.getElem_toArray, List.getElem_cons_succ, List.getElem_cons_zero, Act.put, List.setIfInBounds_toArray, List.set_cons_zero, List.set_cons_succ]
  refine wpAnyH_take (i := 10) rfl (by kernel_rfl) (by kernel_rfl) (by kernel_rfl) (fun _ _ _ h => h) (yieldsIf_load_row (by rfl) 22 _ rfl (w.heap.size + 1) rfl (rowB (Y)) (fun w' hSw => run_load_row (hSw.2.1) Tryd.underlying22 (by rw [rowB_size, YL.out]; exact zero32.2))) hHeld ?_
  simp only [List.getElem_toArray, List.getElem_cons_succ, List.getElem_cons_zero, Act.put, List.setIfInBounds_toArray, List.set_cons_zero, List.set_cons_succ]
  refine wpAnyH_take (i := 12) rfl (by kernel_rfl) (by kernel_rfl) (by kernel_rfl) (fun _ _ _ h => h) (yieldsIf_load_row (by rfl) 22 _ rfl w.heap.size rfl (rowB (X)) (fun w' hSw => run_load_row (hSw.1) Tryd.underlying22 (by rw [rowB_size, XL.out]; exact zero32.2))) hHeld ?_
  simp only [List.getElem_toArray, List.getElem_cons_succ, List.getElem_cons_zero, Act.put, List.setIfInBounds_toArray, List.set_cons_zero, List.set_cons_succ]
  refine wpAnyH_take (i := 13) rfl (by kernel_rfl) (by kernel_rfl) (by kernel_rfl) (fun _ _ _ h => h) (yieldsIf_load_row (by rfl) 22 _ rfl (w.heap.size + 1) rfl (rowB (Y)) (fun w' hSw => run_load_row (hSw.2.1) Tryd.underlying22 (by rw [rowB_size, YL.out]; exact zero32.2))) hHeld ?_
  simp only [List.getElem_toArray, List.getElem_cons_succ, List.getElem_cons_zero, Act.put, List.setIfInBounds_toArray, List.set_cons_zero, List.set_cons_succ]
  refine wpAnyH_take (i := 14) (v := ?_) rfl (by kernel_rfl) (by kernel_rfl) (by kernel_rfl) (fun _ _ _ h => h) (Or.inl ⟨by rfl, ?_⟩) hHeld ?_
  rotate_left
  · intro w' hSw; have hs2 := HEQ.out; go_simp; try with_reducible rfl
  simp only [List.getElem_toArray, List.getElem_cons_succ, List.getElem_cons_zero, Act.put, List.setIfInBounds_toArray, List.set_cons_zero, List.set_cons_succ]
  refine wpAnyH_ready (rs := [11]) (by kernel_rfl) (by simp) ?_
  refine AllReadyH.cons rfl (fun K hK => ?_) AllReadyH.nil
  go_simp
  refine (same_is X Y XL.out YL.out c HC.out _).mono ?_
  rintro e wA ⟨rfl, bA⟩
  have R1 := Lib.hid (R0.out.trans (bA.mono R0.out.size))
  clear bA
  try go_wp2_with fail
  refine hK.out _ _ ?_ (fun hHeld => ?_)
  · exact KEEP.out _ R1.out
  clear hK K
  try simp only [List.getElem_toArray, List.getElem_cons_succ, List.getElem_cons_zero, Act.put, List.setIfInBounds_toArray, List.set_cons_zero, List.set_cons_succ]
  refine wpAnyH_take (i := 15) (v := ?_) rfl (by kernel_rfl) (by kernel_rfl) (by kernel_rfl) (fun _ _ _ h => h) (Or.inl ⟨by rfl, ?_⟩) hHeld ?_
  rotate_left
  · intro w' hSw; go_simp; try with_reducible rfl
  simp only [List.getElem_toArray, List.getElem_cons_succ, List.getElem_cons_zero, Act.put, List.setIfInBounds_toArray, List.set_cons_zero, List.set_cons_succ]
  refine wpAnyH_take (i := 16) (v := ?_) rfl (by kernel_rfl) (by kernel_rfl) (by kernel_rfl) (fun _ _ _ h => h) (Or.inl ⟨by rfl, ?_⟩) hHeld ?_
  rotate_left
  · intro w' hSw; go_simp; try with_reducible rfl
  simp only [List.getElem_toArray, List.getElem_cons_succ, List.getElem_cons_zero, Act.put, List.setIfInBounds_toArray, List.set_cons_zero, List.set_cons_succ]
  refine wpAnyH_take (i := 17) (v := ?_) rfl (by kernel_rfl) (by kernel_rfl) (by kernel_rfl) (fun _ _ _ h => h) (Or.inl ⟨by rfl, ?_⟩) hHeld ?_
  rotate_left
  · intro w' hSw; go_simp; try with_reducible rfl
  simp only [List.getElem_toArray, List.getElem_cons_succ, List.getElem_cons_zero, Act.put, List.setIfInBounds_toArray, List.set_cons_zero, List.set_cons_succ]
  refine wpAnyH_take (i := 18) (v := ?_) rfl (by kernel_rfl) (by kernel_rfl) (by kernel_rfl) (fun _ _ _ h => h) (Or.inl ⟨by rfl, ?_⟩) hHeld ?_
  rotate_left
  · intro w' hSw; go_simp; try with_reducible rfl
  simp only [List.getElem_toArray, List.getElem_cons_succ, List.getElem_cons_zero, Act.put, List.setIfInBounds_toArray, List.set_cons_zero, List.set_cons_succ]
  refine wpAnyH_take (i := 19) (v := ?_) rfl (by kernel_rfl) (by kernel_rfl) (by kernel_rfl) (fun _ _ _ h => h) (Or.inl ⟨by rfl, ?_⟩) hHeld ?_
  rotate_left
  · intro w' hSw; have cvx := hSw.2.2.2.2.1; go_simp; try with_reducible rfl
  simp only [List.getElem_toArray, List.getElem_cons_succ, List.getElem_cons_zero, Act.put, List.setIfInBounds_toArray, List.set_cons_zero, List.set_cons_succ]
  refine wpAnyH_take (i := 20) (v := ?_) rfl (by kernel_rfl) (by kernel_rfl) (by kernel_rfl) (fun _ _ _ h => h) (Or.inl ⟨by rfl, ?_⟩) hHeld ?_
  rotate_left
  · intro w' hSw; go_simp; try with_reducible rfl
  simp only [List.getElem_toArray, List.getElem_cons_succ, List.getElem_cons_zero, Act.put, List.setIfInBounds_toArray, List.set_cons_zero, List.set_cons_succ]
  refine wpAnyH_take (i := 21) (v := ?_) rfl (by kernel_rfl) (by kernel_rfl) (by kernel_rfl) (fun _ _ _ h => h) (Or.inl ⟨by rfl, ?_⟩) hHeld ?_
  rotate_left
  · intro w' hSw; go_simp; try with_reducible rfl
  simp only [List.getElem_toArray, List.getElem_cons_succ, List.getElem_cons_zero, Act.put, List.setIfInBounds_toArray, List.set_cons_zero, List.set_cons_succ]
  refine wpAnyH_take (i := 22) (v := ?_) rfl (by kernel_rfl) (by kernel_rfl) (by kernel_rfl) (fun _ _ _ h => h) (Or.inl ⟨by rfl, ?_⟩) hHeld ?_
  rotate_left
  · intro w' hSw; go_simp; try with_reducible rfl
  simp only [List.getElem_toArray, List.getElem_cons_succ, List.getElem_cons_zero, Act.put, List.setIfInBounds_toArray, List.set_cons_zero, List.set_cons_succ]
  refine wpAnyH_take (i := 23) (v := ?_) rfl (by kernel_rfl) (by kernel_rfl) (by kernel_rfl) (fun _ _ _ h => h) (Or.inl ⟨by rfl, ?_⟩) hHeld ?_
  rotate_left
  · intro w' hSw; go_simp; try with_reducible rfl
  simp only [List.getElem_toArray, List.getElem_cons_succ, List.getElem_cons_zero, Act.put, List.setIfInBounds_toArray, List.set_cons_zero, List.set_cons_succ]
  refine wpAnyH_take (i := 24) (v := ?_) rfl (by kernel_rfl) (by kernel_rfl) (by kernel_rfl) (fun _ _ _ h => h) (Or.inl ⟨by rfl, ?_⟩) hHeld ?_
  rotate_left
  · intro w' hSw; go_simp; try with_reducible rfl
  simp only [List.getElem_toArray, List.getElem_cons_succ, List.getElem_cons_zero, Act.put, List.setIfInBounds_toArray, List.set_cons_zero, List.set_cons_succ]
  refine wpAnyH_take (i := 25) (v := ?_) rfl (by kernel_rfl) (by kernel_rfl) (by kernel_rfl) (fun _ _ _ h => h) (Or.inl ⟨by rfl, ?_⟩) hHeld ?_
  rotate_left
  · intro w' hSw; have cvx := hSw.2.2.2.2.2; go_simp; try with_reducible rfl
  simp only [List.getElem_toArray, List.getElem_cons_succ, List.getElem_cons_zero, Act.put, List.setIfInBounds_toArray, List.set_cons_zero, List.set_cons_succ]
  refine wpAnyH_take (i := 26) (v := ?_) rfl (by kernel_rfl) (by kernel_rfl) (by kernel_rfl) (fun _ _ _ h => h) (Or.inl ⟨by rfl, ?_⟩) hHeld ?_
  rotate_left
  · intro w' hSw; go_simp; try with_reducible rfl
  simp only [List.getElem_toArray, List.getElem_cons_succ, List.getElem_cons_zero, Act.put, List.setIfInBounds_toArray, List.set_cons_zero, List.set_cons_succ]
  refine wpAnyH_take (i := 27) (v := ?_) rfl (by kernel_rfl) (by kernel_rfl) (by kernel_rfl) (fun _ _ _ h => h) (Or.inl ⟨by rfl, ?_⟩) hHeld ?_
  rotate_left
  · intro w' hSw; go_simp; try with_reducible rfl
  simp only [List.getElem_toArray, List.getElem_cons_succ, List.getElem_cons_zero, Act.put, List.setIfInBounds_toArray, List.set_cons_zero, List.set_cons_succ]
  refine wpAnyH_take (i := 28) (v := ?_) rfl (by kernel_rfl) (by kernel_rfl) (by kernel_rfl) (fun _ _ _ h => h) (Or.inl ⟨by rfl, ?_⟩) hHeld ?_
  rotate_left
  · intro w' hSw; go_simp; try with_reducible rfl
  simp only [List.getElem_toArray, List.getElem_cons_succ, List.getElem_cons_zero, Act.put, List.setIfInBounds_toArray, List.set_cons_zero, List.set_cons_succ]
  refine wpAnyH_take (i := 29) (v := ?_) rfl (by kernel_rfl) (by kernel_rfl) (by kernel_rfl) (fun _ _ _ h => h) (Or.inl ⟨by rfl, ?_⟩) hHeld ?_
  rotate_left
  · intro w' hSw; go_simp; try with_reducible rfl
  simp only [List.getElem_toArray, List.getElem_cons_succ, List.getElem_cons_zero, Act.put, List.setIfInBounds_toArray, List.set_cons_zero, List.set_cons_succ]
  refine wpAnyH_done (by kernel_rfl) ?_ _
  have hall := Lib.hid (Q9.out.trans (R1.out.mono Q9.out.size))
  go_wp2_with fail
  go_ret
  exact ⟨rfl, hall.out⟩

theorem walk_tells (v0 v1 : Value) (X Y key b : List UInt8) (hX : X.length = 32) (hY : Y.length = 32) (w : World) (hT : Tab w) (h0 : Txt w w.heap.size v0 key) (h1 : Txt w w.heap.size v1 b) :
    Calls Tryd.prog 4 #[v0, v1, .agg (rowB X), .agg (rowB Y)] w fun e w' => e = .returned (.bool true) ∧ Below w.heap.size w w' := by
  by_cases h : 3000 < key.length ∨ 3000 < b.length
  · exact tells_off v0 v1 X Y key b h w h0 h1
  · exact tells_all v0 v1 X Y key b hX hY (by omega) (by omega) w hT h0 h1
end Go.Proofs.YtdaaemnfphagbaaDoor
