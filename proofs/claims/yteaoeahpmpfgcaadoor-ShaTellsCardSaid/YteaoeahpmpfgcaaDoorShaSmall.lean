/-
  Arrays that are the same; the example; eight words as bytes.
  Conditions: the table of constants reads as it was laid.
-/
import Derived.Test.YteaoeahpmpfgcaaDoorShaSum
import Derived.ChangeKeysEq
import Derived.Lib.SlBytesConst
set_option linter.unusedVariables false
set_option linter.unusedSimpArgs false
namespace Go.Proofs.YteaoeahpmpfgcaaDoor
open Go.RowKit

theorem eqItems_refl {P : Program} {w : World} {e d : TypeId} {k : IntKind} {xs : Array Value} (he : P.underlying e = some (.int k)) (is : List Nat) (h : ∀ i ∈ is, ∃ z, xs[i]? = some (.int k z)) :
    (Op.eqItems (d + 1) e 1 xs xs is).run P w = .ok true w := by
  induction is with
  | nil => simp [Op.eqItems]
  | cons i is ih =>
    obtain ⟨z, hz⟩ := h i (by simp)
    have hagg : (isAgg e).run P w = .ok false w := by
      unfold isAgg
      rw [Sem.run_bind, run_underlying he w]
      simp
    have hp : (part e xs (i * 1)).run P w = .ok (.int k z) w := by
      simp [part, Sem.run_bind, hagg, hz]
    simp only [Op.eqItems, Sem.run_bind, hp, Result.andThen_ok, run_equalIn_int w d e k k z z he]
    simpa using ih (fun j hj => h j (List.mem_cons_of_mem _ hj))
theorem run_equal_refl {P : Program} {w : World} {t e : TypeId} {n : Nat} {k : IntKind} {i : TypeInfo} {xs : Array Value} (ht : P.underlying t = some (.array n e)) (he : P.underlying e = some (.int k)) (hi : P.info? e = some i) (hc : P.cellsOf e = 1) (h : ∀ j, j < n → ∃ z, xs[j]? = some (.int k z)) :
    (Op.equalIn 10000 t (.agg xs) (.agg xs)).run P w = .ok true w := by
  rw [run_equalIn_array w 9999 xs xs ht hi, hc]
  exact eqItems_refl (d := 9998) he _ (fun j hj => h j (by simpa using hj))

theorem same32 (l : List UInt8) (h : l.length = 32) (w : World) : (Op.equalIn 10000 22 (.agg (rowB l)) (.agg (rowB l))).run Tryd.prog w = .ok true w := by
  obtain ⟨ie, h1, -, -, -⟩ := info_parts infoByte
  exact run_equal_refl Tryd.underlying22 Tryd.underlying5 h1 (by kernel_rfl) (fun j hj => ⟨_, rowB_at (by omega)⟩)
theorem same8 (l : List Nat) (h : l.length = 8) (w : World) : (Op.equalIn 10000 28 (.agg (row32 l)) (.agg (row32 l))).run Tryd.prog w = .ok true w := by
  obtain ⟨ie, h1, -, -, -⟩ := info_parts infoWord
  exact run_equal_refl Tryd.underlying28 Tryd.underlying27 h1 (by kernel_rfl) (fun j hj => ⟨_, row32_at (List.getElem?_eq_getElem (by omega))⟩)

set_option maxRecDepth 100000 in
theorem abc_any (w : World) : Calls Tryd.prog 16 #[] w fun e w' => e = .returned (.agg (rowB abc32)) ∧ Below w.heap.size w w' := by
  have hz32 := zero32.1
  have hh := heap_alloc_self w (.cells (Array.replicate 32 (.int .u8 0)) 22)
  have HH := Lib.hid hh
  clear hh
  go_enter Tryd.func16, Tryd.ntmps16
  go_wp2_with (refine wpList_store_row (c' := rowB abc32) rfl 22 _ _ rfl w.heap.size rfl rfl HH.out (by rw [rowB_size]; exact zero32.2) (by rw [rowB_size]; simp [abc32]) (rowB_one _) ?_)
  refine bodyPost_ret (v := .agg (rowB abc32)) ?_ rfl ⟨rfl, below_setRow ((Below.refl _ _).alloc (Nat.le_refl _) _) (Nat.le_refl _) _⟩
  exact results_cell_row rfl _ _ w.heap.size _ _ (0, 0) _ rfl (setRow_heap _ _ _ _ _ _ HH.out) Tryd.underlying22 rfl (by rw [rowB_size]; exact zero32.2)

theorem sum_lit (xs : List UInt8) (hl : xs.length ≤ 100) (fr : Nat × Nat) (w : World) (hT : Tab w) :
    Calls Tryd.prog 7 #[.slice (some ⟨w.heap.size, 0, none⟩) xs.length xs.length] (w.alloc (.cells (xs.map u8).toArray 5 fr)) fun e W' => e = .returned (.agg (rowB (sumL xs))) ∧ Below w.heap.size w W' :=
  (sum_any _ xs (by omega) _ (hT.below (below_new w _) hT.pos) (txt_mark w _ xs fr (by unfold maxLen; omega))).mono fun e W' ⟨he, hb⟩ => ⟨he, (below_new w _).trans (hb.mono (by simp))⟩

theorem alive_true (w : World) (hT : Tab w) : Calls Tryd.prog 8 #[] w fun e W' => e = .returned (.bool true) ∧ Below w.heap.size w W' := by
  have HT := Lib.hid hT
  clear hT
  have kc := fun (w : World) (C : Array Value) (n c : Nat) => Lib.run_convert_bytes_const (P := Tryd.prog) w 25 5 C n c Tryd.underlying25 Tryd.underlying5
  go_enter Tryd.func8, Tryd.ntmps8
  go_wp2_with fail
  refine (sum_lit [97, 98, 99] (by decide) _ _ HT.out).mono ?_
  rintro e w1 ⟨rfl, b⟩
  rw [sum_abc]
  have B1 := Lib.hid b
  clear b
  go_wp2_with fail
  refine (abc_any _).mono ?_
  rintro e w2 ⟨rfl, b⟩
  have B2 := Lib.hid (B1.out.trans (b.mono B1.out.size))
  clear b B1 kc
  have hs := same32 abc32 rfl
  go_wp2
  go_ret
  exact ⟨rfl, B2.out⟩

theorem begun_any (w : World) : Calls Tryd.prog 14 #[] w fun e w' => e = .returned (.agg (row32 begin8)) ∧ Below w.heap.size w w' := by
  have hz8 := zero8.1
  have hset : ((((((((Array.replicate 8 (Value.int .u32 0)).setIfInBounds 0 (.int .u32 1779033703)).setIfInBounds 1 (.int .u32 3144134277)).setIfInBounds 2 (.int .u32 1013904242)).setIfInBounds 3 (.int .u32 2773480762)).setIfInBounds 4 (.int .u32 1359893119)).setIfInBounds 5 (.int .u32 2600822924)).setIfInBounds 6 (.int .u32 528734635)).setIfInBounds 7 (.int .u32 1541459225) = row32 begin8 := by
    rw [set8]; rfl
  have HS := Lib.hid hset
  have hh := heap_alloc_self w (.cells (Array.replicate 8 (.int .u32 0)) 28)
  have HH := Lib.hid hh
  clear hh hset
  go_enter Tryd.func14, Tryd.ntmps14
  go_wp2_with (refine wpList_store_row rfl 28 _ _ rfl w.heap.size rfl rfl HH.out (by rw [HS.out]; exact zero8.2) (by rw [HS.out]; rfl) (by rw [HS.out]; exact row32_one _) ?_; rw [HS.out])
  refine bodyPost_ret (v := .agg (row32 begin8)) ?_ rfl ⟨rfl, below_setRow ((Below.refl _ _).alloc (Nat.le_refl _) _) (Nat.le_refl _) _⟩
  exact results_cell_row rfl _ _ w.heap.size _ _ (0, 0) _ rfl (setRow_heap _ _ _ _ _ _ HH.out) Tryd.underlying28 rfl zero8.2

set_option maxHeartbeats 1000000 in
theorem told_any (H : List Nat) (hH : W32 8 H) (w : World) : Calls Tryd.prog 15 #[.agg (row32 H)] w fun e w' => e = .returned (.agg (rowB (told32 H))) ∧ Below w.heap.size w w' := by
  have hz32 := zero32.1
  have OKH := Lib.hid hH
  clear hH
  go_enter Tryd.func15, Tryd.ntmps15
  go_wp2_with fail
  have hv0 : (((w.alloc (.cells (row32 H) 28)).alloc (.cells (Array.replicate 32 (.int .u8 0)) 22)).alloc (.cells (Array.replicate 32 (.int .u8 0)) 22)).heap[w.heap.size]? = some (.cells (row32 H) 28 (0, 0)) := by
    rw [heap_alloc_lt _ _ (by rw [heap_alloc_size, heap_alloc_size]; omega), heap_alloc_lt _ _ (by rw [heap_alloc_size]; omega), heap_alloc_self]
  have hv1 : (((w.alloc (.cells (row32 H) 28)).alloc (.cells (Array.replicate 32 (.int .u8 0)) 22)).alloc (.cells (Array.replicate 32 (.int .u8 0)) 22)).heap[w.heap.size + 1]? = some (.cells (Array.replicate 32 (.int .u8 0)) 22 (0, 0)) := by
    rw [heap_alloc_lt _ _ (by rw [heap_alloc_size, heap_alloc_size]; omega)]
    have := heap_alloc_self (w.alloc (.cells (row32 H) 28)) (.cells (Array.replicate 32 (.int .u8 0)) 22)
    rwa [heap_alloc_size] at this
  have hv2 : (((w.alloc (.cells (row32 H) 28)).alloc (.cells (Array.replicate 32 (.int .u8 0)) 22)).alloc (.cells (Array.replicate 32 (.int .u8 0)) 22)).heap[w.heap.size + 1 + 1]? = some (.cells (Array.replicate 32 (.int .u8 0)) 22 (0, 0)) := by
    have := heap_alloc_self ((w.alloc (.cells (row32 H) 28)).alloc (.cells (Array.replicate 32 (.int .u8 0)) 22)) (.cells (Array.replicate 32 (.int .u8 0)) 22)
    rwa [heap_alloc_size, heap_alloc_size] at this
  have hv3 : Below w.heap.size w (((w.alloc (.cells (row32 H) 28)).alloc (.cells (Array.replicate 32 (.int .u8 0)) 22)).alloc (.cells (Array.replicate 32 (.int .u8 0)) 22)) :=
    (((Below.refl _ _).alloc (Nat.le_refl _) _).alloc (by simp) _).alloc (by simp; omega) _
  generalize ((w.alloc (.cells (row32 H) 28)).alloc (.cells (Array.replicate 32 (.int .u8 0)) 22)).alloc (.cells (Array.replicate 32 (.int .u8 0)) 22) = q at hv0 hv1 hv2 hv3 ⊢
  have V0 := Lib.hid hv0
  have V1 := Lib.hid hv1
  have V2 := Lib.hid hv2
  have V3 := Lib.hid hv3
  clear hv0 hv1 hv2 hv3
  go_loopw [4] (fun s4 wx => ∃ i : Nat, i ≤ 32 ∧ s4 = .int .i64 i ∧ wx.heap[w.heap.size]? = some (.cells (row32 H) 28 (0, 0)) ∧ wx.heap[w.heap.size + 1]? = some (.cells (Array.replicate 32 (.int .u8 0)) 22 (0, 0)) ∧ wx.heap[w.heap.size + 1 + 1]? = some (.cells (rowB (tf (told32 H) 0 i)) 22 (0, 0)) ∧ Below w.heap.size w wx) (fun s4 _ => 32 - (intOf s4).toNat)
  case atStart => exact ⟨0, by omega, rfl, V0.out, V1.out, by rw [tf_zero, rowB_zero, told32_length]; exact V2.out, V3.out⟩
  case round =>
    obtain ⟨i, hi, rfl, q0, q1, q2, q3⟩ := hrel
    clear V0 V1 V2 V3
    have Q0 := Lib.hid q0
    have Q1 := Lib.hid q1
    have Q2 := Lib.hid q2
    have Q3 := Lib.hid q3
    clear q0 q1 q2 q3
    by_cases hlt : i < 32
    · have hlt' : (i : Int) < 32 := by omega
      obtain ⟨j, hj⟩ : ∃ j, j = i / 4 := ⟨_, rfl⟩
      obtain ⟨r, hr⟩ : ∃ r, r = i % 4 := ⟨_, rfl⟩
      obtain ⟨k, hk⟩ : ∃ k, k = 24 - 8 * r := ⟨_, rfl⟩
      have hjI : (i : Int) / 4 = j := by omega
      have hrI : (i : Int) % 4 = r := by omega
      have hrT : (i : Int).tmod 4 = r := by rw [Int.tmod_eq_emod_of_nonneg (by omega)]; exact hrI
      have hkI : (24 : Int) - (r : Int) * 8 = k := by omega
      have hkI' : (24 : Int) - 8 * (r : Int) = k := by omega
      have hj8 : (j : Int) < 8 := by omega
      have hr4 : (r : Int) < 4 := by omega
      have hk32 : (k : Int) < 32 := by omega
      have hset := tf_set (told32 H) 0 (i := i) (by rw [told32_length]; exact hlt)
      rw [told32_at H hlt, ← hj, ← hr, ← hk] at hset
      have hrow : (rowB (tf (told32 H) 0 i)).setIfInBounds i (.int .u8 (((H.getD j 0 : Nat) : Int) / 2 ^ k % 256)) = rowB (tf (told32 H) 0 (i + 1)) := by
        rw [← hset, ← rowB_set, UInt8.toNat_ofNat']
        congr 2
      have hc := row32_cell Q0.out (j := j) (n := H.getD j 0) (by rw [List.getD_eq_getElem?_getD, List.getElem?_eq_getElem (by rw [OKH.out.1]; omega)]; rfl)
      have hx := OKH.out.getD j
      obtain ⟨y, hc2⟩ : ∃ y, wr.cell? ⟨w.heap.size + 1 + 1, i, none⟩ = some y := ⟨_, (cell_of_row wr (w.heap.size + 1 + 1) i _ _ _ Q2.out).trans (rowB_at (l := tf (told32 H) 0 i) (j := i) (by rw [tf_length _ _ (by rw [told32_length]; omega), told32_length]; exact hlt))⟩
      have hf := frozen_of_row wr (w.heap.size + 1 + 1) i _ _ Q2.out
      have HSET := Lib.hid hrow
      clear hrow hset hj hr hk
      generalize H.getD j 0 = x at *
      go_wp2
      go_roundw
      case measure => simp [intOf]; omega
      case rel =>
        refine ⟨i + 1, by omega, by go_num, ?_, ?_, ?_, Q3.out.setCell (show w.heap.size ≤ w.heap.size + 1 + 1 by omega) _⟩
        · rw [heap_setCell_other _ _ _ _ (show w.heap.size ≠ w.heap.size + 1 + 1 by omega)]; exact Q0.out
        · rw [heap_setCell_other _ _ _ _ (show w.heap.size + 1 ≠ w.heap.size + 1 + 1 by omega)]; exact Q1.out
        · rw [heap_setCell_same _ _ _ _ _ _ Q2.out, HSET.out]
    · obtain rfl : i = 32 := by omega
      have hlt' : ¬ (32 : Int) < 32 := by omega
      have hall : rowB (tf (told32 H) 0 32) = rowB (told32 H) := by
        have := tf_all (told32 H) (0 : UInt8)
        rw [told32_length] at this
        rw [this]
      rw [hall] at Q2
      have HL := Lib.hid (told32_length H)
      clear hall hlt
      go_wp2_with (first
        | refine wpList_load_row rfl 22 _ rfl (w.heap.size + 1 + 1) rfl Q2.out Tryd.underlying22 (by rw [rowB_size, HL.out]; exact zero32.2) ?_
        | refine wpList_store_row rfl 22 _ _ rfl (w.heap.size + 1) rfl rfl Q1.out (by rw [rowB_size, HL.out]; exact zero32.2) (by rw [rowB_size, HL.out]; simp) (rowB_one _) ?_)
      refine bodyPost_ret (v := .agg (rowB (told32 H))) ?_ rfl ⟨rfl, below_setRow Q3.out (by omega) _⟩
      exact results_cell_row rfl _ _ (w.heap.size + 1) _ _ (0, 0) _ rfl (setRow_heap _ _ _ _ _ _ Q1.out) Tryd.underlying22 rfl (by rw [rowB_size, HL.out]; exact zero32.2)
end Go.Proofs.YteaoeahpmpfgcaaDoor
