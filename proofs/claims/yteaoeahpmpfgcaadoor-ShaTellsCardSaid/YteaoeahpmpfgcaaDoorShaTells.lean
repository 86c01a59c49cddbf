/-
  The statement ShaTells' text returns true: blocks, bytes filled, hashes are the document's.
  Conditions: the table of constants reads as it was laid.
-/
import Derived.Test.YteaoeahpmpfgcaaDoorShaRefSum
import Derived.BigRegion
import Derived.Deep.RegionHeld3
set_option linter.unusedVariables false
set_option linter.unusedSimpArgs false
namespace Go.Proofs.YteaoeahpmpfgcaaDoor
open Go.RowKit

theorem tells_off (l : List Nat) (B : List UInt8) (v : Value) (xs : List UInt8) (w : World) (h0 : Txt w w.heap.size v xs) (h : 3000 < xs.length) :
    Calls Tryd.prog 4 #[.agg (row32 l), .agg (rowB B), v] w fun e w' => e = .returned (.bool true) ∧ Below w.heap.size w w' := by
  obtain ⟨A0, cap0, rfl, -, -, -, -⟩ := h0
  have g1 : (3000 : Int) < xs.length := by omega
  go_enter Tryd.func4, Tryd.ntmps4
  go_wp2
  go_ret
  exact ⟨rfl, ((Below.refl _ _).alloc (Nat.le_refl _) _).alloc (by simp) _⟩

/-- A whole array may be loaded first where S gives it. -/
theorem yieldsIf_load_row {P : Program} {ops : Array Oper} {S : World → Prop} {op : Oper} {a : Act} (hw : Region.wanted op (yielded ops a.tmps) = true) (ty : TypeId) (x : Operand) (ho : op.op = .load ty x) (b : Nat) (hx : a.eval x = .pointer (some ⟨b, 0, none⟩)) (c : Array Value)
    (hrun : ∀ w, S w → (Instr.loadAt ty (.pointer (some ⟨b, 0, none⟩))).run P w = .ok (.agg c) w) : YieldsIf P ops S op (.agg c) a := by
  refine .inl ⟨hw, fun w hS => ?_⟩
  unfold execOp
  simp only [ho, hx, hrun w hS, Sem.run_bind, Result.andThen_ok, Sem.run_pure]

/-- What holds all through the great line of ShaTells. -/
def TellsAt (b0 b1 bx : Nat) (h : List Nat) (B X : List UInt8) (v : World) : Prop :=
  v.heap[b0]? = some (.cells (row32 h) 28 (0, 0)) ∧ v.heap[b1]? = some (.cells (rowB B) 29 (0, 0)) ∧
  (convert 25 9 (.slice (some ⟨bx, 0, none⟩) X.length X.length)).run Tryd.prog v = .ok (.string ⟨X.toArray⟩) v

set_option maxRecDepth 100000 in
set_option maxHeartbeats 4000000 in
theorem tells_all (h : List Nat) (hok : W32 8 h) (B : List UInt8) (hB : B.length = 64) (v : Value) (xs : List UInt8) (w : World) (hT : Tab w) (hx : Txt w w.heap.size v xs) (hl : xs.length ≤ 3000) :
    Calls Tryd.prog 4 #[.agg (row32 h), .agg (rowB B), v] w fun e w' => e = .returned (.bool true) ∧ Below w.heap.size w w' := by
  have HT := Lib.hid hT
  have HX := Lib.hid hx
  have OKH := Lib.hid hok
  have HBL := Lib.hid hB
  have g1 : ¬ (3000 : Int) < xs.length := by omega
  obtain ⟨A0, cap0, rfl, -, -, -, -⟩ := hx
  have hf0 : ((w.alloc (.cells (row32 h) 28)).alloc (.cells (rowB B) 29)).heap[w.heap.size]? = some (.cells (row32 h) 28 (0, 0)) := by
    rw [heap_alloc_lt _ _ (by rw [heap_alloc_size]; omega), heap_alloc_self]
  have hf1 : ((w.alloc (.cells (row32 h) 28)).alloc (.cells (rowB B) 29)).heap[w.heap.size + 1]? = some (.cells (rowB B) 29 (0, 0)) := by
    have := heap_alloc_self (w.alloc (.cells (row32 h) 28)) (.cells (rowB B) 29)
    rwa [heap_alloc_size] at this
  have hfb : Below w.heap.size w ((w.alloc (.cells (row32 h) 28)).alloc (.cells (rowB B) 29)) :=
    ((Below.refl _ _).alloc (Nat.le_refl _) _).alloc (by simp) _
  have r0 := run_txt_string ((HX.out.below hfb).more hfb.size)
  have F0 := Lib.hid hf0
  have F1 := Lib.hid hf1
  have FB := Lib.hid hfb
  clear hT hok hB hf0 hf1 hfb
  go_enter Tryd.func4, Tryd.ntmps4
  go_wp2_with fail
  generalize (w.alloc (.cells (row32 h) 28)).alloc (.cells (rowB B) 29) = u at F0 F1 FB r0 ⊢
  clear r0
  refine (filled_any _ xs (by omega) _ ((HX.out.below FB.out).more FB.out.size)).mono ?_
  rintro e w2 ⟨rfl, hf, b⟩
  have B2 := Lib.hid (FB.out.trans (b.mono FB.out.size))
  have FX := Lib.hid hf
  have G0 := Lib.hid ((b.block _ (heap_lt F0.out)).trans F0.out)
  have G1 := Lib.hid ((b.block _ (heap_lt F1.out)).trans F1.out)
  obtain ⟨bx, hbx⟩ : ∃ bx, bx = u.heap.size := ⟨_, rfl⟩
  have GX : Hid (w.heap.size ≤ bx) := Lib.hid (by rw [hbx]; exact FB.out.size)
  rw [← hbx] at FX ⊢
  have hlen := fill_length xs
  have TX : Hid (Txt w2 w2.heap.size (.slice (some ⟨bx, 0, none⟩) (fill xs).length (fill xs).length) (fill xs)) := Lib.hid (txt_of_block FX.out (by rw [fill_length]; unfold maxLen; omega))
  obtain ⟨X, hX⟩ : ∃ X, X = fill xs := ⟨_, rfl⟩
  have HXE := Lib.hid hX
  have LX : Hid (X.length ≤ 6400) := Lib.hid (by rw [hX, hlen]; omega)
  rw [← hX] at FX TX ⊢
  clear b hf F0 F1 FB hbx hlen hX
  clear u
  have hkeep : ∀ w' : World, Below w2.heap.size w2 w' → TellsAt w.heap.size (w.heap.size + 1) bx h B X w' := fun w' hb =>
    ⟨(hb.block _ (heap_lt G0.out)).trans G0.out, (hb.block _ (heap_lt G1.out)).trans G1.out, run_txt_string (TX.out.below hb)⟩
  have KEEP := Lib.hid hkeep
  clear hkeep
  have R0 : Hid (Below w2.heap.size w2 w2.drew) := Lib.hid (Below.refl _ w2).drew
  have OKB := Lib.hid (blockL_ok OKH.out B)
  have OKS : Hid ((sumL xs).length = 32) := Lib.hid (by unfold sumL; exact told32_length _)
  go_wp2_with fail
  refine wp_region_held_drew (S := TellsAt w.heap.size (w.heap.size + 1) bx h B X) (by kernel_rfl) ?_ (fun hHeld => ?_)
  · exact KEEP.out _ R0.out
  refine wpAnyH_take (i := 0) rfl (by kernel_rfl) (by kernel_rfl) (by kernel_rfl) (fun _ _ _ h => h) (yieldsIf_load_row (by rfl) 28 _ rfl w.heap.size rfl (row32 h) (fun w' hSw => run_load_row hSw.1 Tryd.underlying28 (by rw [row32_size, OKH.out.1]; exact zero8.2))) hHeld ?_
  simp only [List.getElem_toArray, List.getElem_cons_succ, List.getElem_cons_zero, Act.put, List.setIfInBounds_toArray, List.set_cons_zero, List.set_cons_succ]
  refine wpAnyH_take (i := 1) rfl (by kernel_rfl) (by kernel_rfl) (by kernel_rfl) (fun _ _ _ h => h) (yieldsIf_load_row (by rfl) 29 _ rfl (w.heap.size + 1) rfl (rowB B) (fun w' hSw => run_load_row hSw.2.1 Tryd.underlying29 (by rw [rowB_size, HBL.out]; exact info64))) hHeld ?_
  simp only [List.getElem_toArray, List.getElem_cons_succ, List.getElem_cons_zero, Act.put, List.setIfInBounds_toArray, List.set_cons_zero, List.set_cons_succ]
  refine wpAnyH_take (i := 3) rfl (by kernel_rfl) (by kernel_rfl) (by kernel_rfl) (fun _ _ _ h => h) (yieldsIf_load_row (by rfl) 28 _ rfl w.heap.size rfl (row32 h) (fun w' hSw => run_load_row hSw.1 Tryd.underlying28 (by rw [row32_size, OKH.out.1]; exact zero8.2))) hHeld ?_
  simp only [List.getElem_toArray, List.getElem_cons_succ, List.getElem_cons_zero, Act.put, List.setIfInBounds_toArray, List.set_cons_zero, List.set_cons_succ]
  refine wpAnyH_take (i := 4) rfl (by kernel_rfl) (by kernel_rfl) (by kernel_rfl) (fun _ _ _ h => h) (yieldsIf_load_row (by rfl) 29 _ rfl (w.heap.size + 1) rfl (rowB B) (fun w' hSw => run_load_row hSw.2.1 Tryd.underlying29 (by rw [rowB_size, HBL.out]; exact info64))) hHeld ?_
  simp only [List.getElem_toArray, List.getElem_cons_succ, List.getElem_cons_zero, Act.put, List.setIfInBounds_toArray, List.set_cons_zero, List.set_cons_succ]
  refine wpAnyH_ready (rs := [2]) (by kernel_rfl) (by simp) ?_
  refine AllReadyH.cons rfl (fun K hK => ?_) AllReadyH.nil
  go_simp
  refine (block_any h OKH.out B HBL.out _ (HT.out.below (B2.out.trans (R0.out.mono B2.out.size)) HT.out.pos)).mono ?_
  rintro e w5 ⟨rfl, b⟩
  have R1 := Lib.hid (R0.out.trans (b.mono R0.out.size))
  clear b
  try go_wp2_with fail
  refine hK.out _ _ ?_ (fun hHeld => ?_)
  · exact KEEP.out _ R1.out
  clear hK K
  try simp only [List.getElem_toArray, List.getElem_cons_succ, List.getElem_cons_zero, Act.put, List.setIfInBounds_toArray, List.set_cons_zero, List.set_cons_succ]
  refine wpAnyH_ready (rs := [5]) (by kernel_rfl) (by simp) ?_
  refine AllReadyH.cons rfl (fun K hK => ?_) AllReadyH.nil
  go_simp
  refine (block_ref h OKH.out B HBL.out _).mono ?_
  rintro e w6 ⟨rfl, b⟩
  have R2 := Lib.hid (R1.out.trans (b.mono R1.out.size))
  clear b
  try go_wp2_with fail
  refine hK.out _ _ ?_ (fun hHeld => ?_)
  · exact KEEP.out _ R2.out
  clear hK K
  try simp only [List.getElem_toArray, List.getElem_cons_succ, List.getElem_cons_zero, Act.put, List.setIfInBounds_toArray, List.set_cons_zero, List.set_cons_succ]
  refine wpAnyH_take (i := 6) (v := ?_) rfl (by kernel_rfl) (by kernel_rfl) (by kernel_rfl) (fun _ _ _ h => h) (Or.inl ⟨by rfl, ?_⟩) hHeld ?_
  rotate_left
  · intro w' hSw; have hs8 := same8 (blockL h B) OKB.out.1; go_simp; try with_reducible rfl
  simp only [List.getElem_toArray, List.getElem_cons_succ, List.getElem_cons_zero, Act.put, List.setIfInBounds_toArray, List.set_cons_zero, List.set_cons_succ]
  refine wpAnyH_take (i := 7) (v := ?_) rfl (by kernel_rfl) (by kernel_rfl) (by kernel_rfl) (fun _ _ _ h => h) (Or.inl ⟨by rfl, ?_⟩) hHeld ?_
  rotate_left
  · intro w' hSw; go_simp; try with_reducible rfl
  simp only [List.getElem_toArray, List.getElem_cons_succ, List.getElem_cons_zero, Act.put, List.setIfInBounds_toArray, List.set_cons_zero, List.set_cons_succ]
  refine wpAnyH_take (i := 8) (v := ?_) rfl (by kernel_rfl) (by kernel_rfl) (by kernel_rfl) (fun _ _ _ h => h) (Or.inl ⟨by rfl, ?_⟩) hHeld ?_
  rotate_left
  · intro w' hSw; go_simp; try with_reducible rfl
  simp only [List.getElem_toArray, List.getElem_cons_succ, List.getElem_cons_zero, Act.put, List.setIfInBounds_toArray, List.set_cons_zero, List.set_cons_succ]
  refine wpAnyH_take (i := 9) (v := ?_) rfl (by kernel_rfl) (by kernel_rfl) (by kernel_rfl) (fun _ _ _ h => h) (Or.inl ⟨by rfl, ?_⟩) hHeld ?_
  rotate_left
  · intro w' hSw; have cvx := hSw.2.2; go_simp; try with_reducible rfl
  simp only [List.getElem_toArray, List.getElem_cons_succ, List.getElem_cons_zero, Act.put, List.setIfInBounds_toArray, List.set_cons_zero, List.set_cons_succ]
  refine wpAnyH_take (i := 10) (v := ?_) rfl (by kernel_rfl) (by kernel_rfl) (by kernel_rfl) (fun _ _ _ h => h) (Or.inl ⟨by rfl, ?_⟩) hHeld ?_
  rotate_left
  · intro w' hSw; go_simp; try with_reducible rfl
  simp only [List.getElem_toArray, List.getElem_cons_succ, List.getElem_cons_zero, Act.put, List.setIfInBounds_toArray, List.set_cons_zero, List.set_cons_succ]
  refine wpAnyH_ready (rs := [11]) (by kernel_rfl) (by simp) ?_
  refine AllReadyH.cons rfl (fun K hK => ?_) AllReadyH.nil
  go_simp
  refine (filled_ref _ xs (by omega) _ ((HX.out.below (B2.out.trans (R2.out.mono B2.out.size))).more (B2.out.trans (R2.out.mono B2.out.size)).size)).mono ?_
  rintro e w7 ⟨⟨gf, cf, rfl, -, -, ht⟩, b⟩
  rw [← HXE.out] at ht ⊢
  have cv7 := run_txt_string ht
  clear ht
  have R3 := Lib.hid (R2.out.trans (b.mono R2.out.size))
  clear b
  try go_wp2_with fail
  refine hK.out _ _ ?_ (fun hHeld => ?_)
  · exact KEEP.out _ R3.out
  clear hK K
  try simp only [List.getElem_toArray, List.getElem_cons_succ, List.getElem_cons_zero, Act.put, List.setIfInBounds_toArray, List.set_cons_zero, List.set_cons_succ]
  refine wpAnyH_ready (rs := [12]) (by kernel_rfl) (by simp) ?_
  refine AllReadyH.cons rfl (fun K hK => ?_) AllReadyH.nil
  go_simp
  refine hK.out _ _ ?_ (fun hHeld => ?_)
  · exact KEEP.out _ R3.out
  clear hK K
  try simp only [List.getElem_toArray, List.getElem_cons_succ, List.getElem_cons_zero, Act.put, List.setIfInBounds_toArray, List.set_cons_zero, List.set_cons_succ]
  clear cv7
  refine wpAnyH_take (i := 13) (v := ?_) rfl (by kernel_rfl) (by kernel_rfl) (by kernel_rfl) (fun _ _ _ h => h) (Or.inl ⟨by rfl, ?_⟩) hHeld ?_
  rotate_left
  · intro w' hSw; go_simp; try with_reducible rfl
  simp only [List.getElem_toArray, List.getElem_cons_succ, List.getElem_cons_zero, Act.put, List.setIfInBounds_toArray, List.set_cons_zero, List.set_cons_succ]
  refine wpAnyH_take (i := 14) (v := ?_) rfl (by kernel_rfl) (by kernel_rfl) (by kernel_rfl) (fun _ _ _ h => h) (Or.inl ⟨by rfl, ?_⟩) hHeld ?_
  rotate_left
  · intro w' hSw; go_simp; try with_reducible rfl
  simp only [List.getElem_toArray, List.getElem_cons_succ, List.getElem_cons_zero, Act.put, List.setIfInBounds_toArray, List.set_cons_zero, List.set_cons_succ]
  refine wpAnyH_take (i := 15) (v := ?_) rfl (by kernel_rfl) (by kernel_rfl) (by kernel_rfl) (fun _ _ _ h => h) (Or.inl ⟨by rfl, ?_⟩) hHeld ?_
  rotate_left
  · intro w' hSw; go_simp; try with_reducible rfl
  simp only [List.getElem_toArray, List.getElem_cons_succ, List.getElem_cons_zero, Act.put, List.setIfInBounds_toArray, List.set_cons_zero, List.set_cons_succ]
  refine wpAnyH_take (i := 16) (v := ?_) rfl (by kernel_rfl) (by kernel_rfl) (by kernel_rfl) (fun _ _ _ h => h) (Or.inl ⟨by rfl, ?_⟩) hHeld ?_
  rotate_left
  · intro w' hSw; go_simp; try with_reducible rfl
  simp only [List.getElem_toArray, List.getElem_cons_succ, List.getElem_cons_zero, Act.put, List.setIfInBounds_toArray, List.set_cons_zero, List.set_cons_succ]
  refine wpAnyH_take (i := 18) (v := ?_) rfl (by kernel_rfl) (by kernel_rfl) (by kernel_rfl) (fun _ _ _ h => h) (Or.inl ⟨by rfl, ?_⟩) hHeld ?_
  rotate_left
  · intro w' hSw; go_simp; try with_reducible rfl
  simp only [List.getElem_toArray, List.getElem_cons_succ, List.getElem_cons_zero, Act.put, List.setIfInBounds_toArray, List.set_cons_zero, List.set_cons_succ]
  refine wpAnyH_ready (rs := [17]) (by kernel_rfl) (by simp) ?_
  refine AllReadyH.cons rfl (fun K hK => ?_) AllReadyH.nil
  go_simp
  refine (sum_any _ xs (by omega) _ (HT.out.below (B2.out.trans (R3.out.mono B2.out.size)) HT.out.pos) ((HX.out.below (B2.out.trans (R3.out.mono B2.out.size))).more (B2.out.trans (R3.out.mono B2.out.size)).size)).mono ?_
  rintro e w8 ⟨rfl, b⟩
  have R4 := Lib.hid (R3.out.trans (b.mono R3.out.size))
  clear b
  try go_wp2_with fail
  refine hK.out _ _ ?_ (fun hHeld => ?_)
  · exact KEEP.out _ R4.out
  clear hK K
  try simp only [List.getElem_toArray, List.getElem_cons_succ, List.getElem_cons_zero, Act.put, List.setIfInBounds_toArray, List.set_cons_zero, List.set_cons_succ]
  refine wpAnyH_ready (rs := [19]) (by kernel_rfl) (by simp) ?_
  refine AllReadyH.cons rfl (fun K hK => ?_) AllReadyH.nil
  go_simp
  refine (sum_ref _ xs (by omega) _ ((HX.out.below (B2.out.trans (R4.out.mono B2.out.size))).more (B2.out.trans (R4.out.mono B2.out.size)).size)).mono ?_
  rintro e w9 ⟨rfl, b⟩
  have R5 := Lib.hid (R4.out.trans (b.mono R4.out.size))
  clear b
  try go_wp2_with fail
  refine hK.out _ _ ?_ (fun hHeld => ?_)
  · exact KEEP.out _ R5.out
  clear hK K
  try simp only [List.getElem_toArray, List.getElem_cons_succ, List.getElem_cons_zero, Act.put, List.setIfInBounds_toArray, List.set_cons_zero, List.set_cons_succ]
  refine wpAnyH_take (i := 20) (v := ?_) rfl (by kernel_rfl) (by kernel_rfl) (by kernel_rfl) (fun _ _ _ h => h) (Or.inl ⟨by rfl, ?_⟩) hHeld ?_
  rotate_left
  · intro w' hSw; have hs32 := same32 (sumL xs) OKS.out; go_simp; try with_reducible rfl
  simp only [List.getElem_toArray, List.getElem_cons_succ, List.getElem_cons_zero, Act.put, List.setIfInBounds_toArray, List.set_cons_zero, List.set_cons_succ]
  refine wpAnyH_take (i := 21) (v := ?_) rfl (by kernel_rfl) (by kernel_rfl) (by kernel_rfl) (fun _ _ _ h => h) (Or.inl ⟨by rfl, ?_⟩) hHeld ?_
  rotate_left
  · intro w' hSw; go_simp; try with_reducible rfl
  simp only [List.getElem_toArray, List.getElem_cons_succ, List.getElem_cons_zero, Act.put, List.setIfInBounds_toArray, List.set_cons_zero, List.set_cons_succ]
  refine wpAnyH_take (i := 22) (v := ?_) rfl (by kernel_rfl) (by kernel_rfl) (by kernel_rfl) (fun _ _ _ h => h) (Or.inl ⟨by rfl, ?_⟩) hHeld ?_
  rotate_left
  · intro w' hSw; go_simp; try with_reducible rfl
  simp only [List.getElem_toArray, List.getElem_cons_succ, List.getElem_cons_zero, Act.put, List.setIfInBounds_toArray, List.set_cons_zero, List.set_cons_succ]
  refine wpAnyH_done (by kernel_rfl) ?_ _
  have hall : Below w.heap.size w w9 := B2.out.trans (R5.out.mono B2.out.size)
  have hx9 := (R5.out.block _ (heap_lt FX.out)).trans FX.out
  have Z0 := Lib.hid hall
  have Z1 := Lib.hid hx9
  have hlx : (X.length : Int) ≤ 6400 := by have := LX.out; omega
  clear hall hx9 R0 R1 R2 R3 R4 R5 OKB OKS KEEP B2 FX TX G0 G1 HT OKH HBL
  go_wp2_with fail
  go_loopw [10] (fun s10 wr => ∃ (i : Nat) (l : List UInt8), i ≤ X.length ∧ l.length = X.length ∧ s10 = .int .i64 i ∧ wr.heap[bx]? = some (.cells (rowB l) 5 (0, 0)) ∧ Below w.heap.size w wr) (fun s10 _ => X.length - (intOf s10).toNat)
  case atStart => exact ⟨0, X, by omega, rfl, rfl, Z1.out, Z0.out⟩
  case round =>
    obtain ⟨i, l, hi, hll, rfl, q0, q1⟩ := hrel
    have Q0 := Lib.hid q0
    have Q1 := Lib.hid q1
    have LL := Lib.hid hll
    clear Z0 Z1 q0 q1
    by_cases hlt : i < X.length
    · have hlt' : (i : Int) < X.length := by omega
      obtain ⟨y, hy⟩ : ∃ y : UInt8, l[i]? = some y := ⟨_, List.getElem?_eq_getElem (by omega)⟩
      have hc : wr.cell? ⟨bx, i, none⟩ = some (.int .u8 ((y.toNat : Nat) : Int)) := by
        rw [cell_of_row wr bx i _ _ _ Q0.out]
        simp only [rowB, List.getElem?_toArray, List.getElem?_map, hy, Option.map_some]; rfl
      have hf := frozen_of_row wr bx i _ _ Q0.out
      have hxl := UInt8.toNat_lt y
      obtain ⟨x, hxe⟩ : ∃ x, x = y.toNat := ⟨_, rfl⟩
      rw [← hxe] at hc hxl
      have hset : (rowB l).setIfInBounds i (.int .u8 (((x : Int) + 1) % 256)) = rowB (l.set i (UInt8.ofNat (x + 1))) := by
        rw [← rowB_set, UInt8.toNat_ofNat']
        congr 2
      have HSET := Lib.hid hset
      clear hset hll hy hxe
      go_wp2
      go_roundw
      case measure => simp [intOf]; omega
      case rel =>
        refine ⟨i + 1, l.set i (UInt8.ofNat (x + 1)), by omega, by rw [List.length_set]; exact LL.out, by go_num, ?_, Q1.out.setCell (by have := GX.out; exact this) _⟩
        rw [heap_setCell_same _ _ _ _ _ _ Q0.out, HSET.out]
    · obtain rfl : i = X.length := by omega
      have hlt' : ¬ (X.length : Int) < X.length := by omega
      have r9 := run_txt_string ((HX.out.below Q1.out).more Q1.out.size)
      clear hll
      go_wp2
      go_ret
      exact ⟨rfl, Q1.out⟩

theorem walk_tells (l : List Nat) (hl : W32 8 l) (B : List UInt8) (hB : B.length = 64) (v : Value) (xs : List UInt8) (w : World) (hT : Tab w) (hx : Txt w w.heap.size v xs) :
    Calls Tryd.prog 4 #[.agg (row32 l), .agg (rowB B), v] w fun e w' => e = .returned (.bool true) ∧ Below w.heap.size w w' := by
  by_cases h : 3000 < xs.length
  · exact tells_off l B v xs w hx h
  · exact tells_all l hl B hB v xs w hT hx (by omega)
end Go.Proofs.YteaoeahpmpfgcaaDoor
