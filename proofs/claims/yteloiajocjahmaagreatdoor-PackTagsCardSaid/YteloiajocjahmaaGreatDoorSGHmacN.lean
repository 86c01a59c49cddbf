/-
 Whether two tags are the same; whether two arrays of bytes are, as the language compares them.
 Conditions: none.
-/
import Derived.Test.YteloiajocjahmaaGreatDoorSGHmac
set_option linter.unusedVariables false
set_option linter.unusedSimpArgs false
set_option maxRecDepth 100000
namespace Go.Proofs.YteloiajocjahmaaGreatDoor
open Go.RowKit

theorem or_xor_zero (u x y : UInt8) : u ||| (x ^^^ y) = 0 ↔ u = 0 ∧ x = y := by
 rw [UInt8.or_eq_zero_iff, UInt8.xor_eq_zero_iff]
theorem toNat_zero_iff (u : UInt8) : (u.toNat : Int) = 0 ↔ u = 0 := by
 rw [← UInt8.toNat_inj]
 simp
theorem or_int (u x y : UInt8) : bits .or .u8 (u.toNat : Int) (bits .xor .u8 (x.toNat : Int) (y.toNat : Int)) = (((u ||| (x ^^^ y)).toNat : Nat) : Int) := by
 rw [xor_int, UInt8.toNat_or]; exact u8_or_nat _ _ (UInt8.toNat_lt u) (UInt8.toNat_lt _)
theorem take_same {a b : List UInt8} {i : Nat} {x y : UInt8} (hx : a[i]? = some x) (hy : b[i]? = some y) : a.take (i + 1) = b.take (i + 1) ↔ a.take i = b.take i ∧ x = y := by
 rw [List.take_add_one, List.take_add_one, hx, hy]
 have h1 := (List.getElem?_eq_some_iff.1 hx).1
 have h2 := (List.getElem?_eq_some_iff.1 hy).1
 constructor
 ·intro h
  have := List.append_inj h (by simp; omega)
  exact ⟨this.1, by simpa using this.2⟩
 ·rintro ⟨h, rfl⟩; rw [h]

set_option maxHeartbeats 1000000 in
theorem same_any (a b : List UInt8) (ha : a.length = 32) (hb : b.length = 32) (w : World) :
  Calls Tryz.prog 15 #[.agg (rowB a), .agg (rowB b)] w fun e w' => e = .returned (.bool (decide (a = b))) ∧ Below w.heap.size w w' := by
 have HA := Lib.hid ha
 have HB := Lib.hid hb
 have hf0 : ((w.alloc (.cells (rowB a) 47)).alloc (.cells (rowB b) 47)).heap[w.heap.size]? = some (.cells (rowB a) 47 (0, 0)) := by
  rw [heap_alloc_lt _ _ (by rw [heap_alloc_size]; omega), heap_alloc_self]
 have hf1 : ((w.alloc (.cells (rowB a) 47)).alloc (.cells (rowB b) 47)).heap[w.heap.size + 1]? = some (.cells (rowB b) 47 (0, 0)) := by
  have := heap_alloc_self (w.alloc (.cells (rowB a) 47)) (.cells (rowB b) 47)
  rwa [heap_alloc_size] at this
 have hfb : Below w.heap.size w ((w.alloc (.cells (rowB a) 47)).alloc (.cells (rowB b) 47)) :=
  ((Below.refl _ _).alloc (Nat.le_refl _) _).alloc (by simp) _
 have F0 := Lib.hid hf0
 have F1 := Lib.hid hf1
 have FB := Lib.hid hfb
 clear hf0 hf1 hfb ha hb
 go_enter Tryz.func15, Tryz.ntmps15
 go_wp2_with (refine wpList_load_row rfl 47 _ rfl w.heap.size rfl F0.out Tryz.underlying47 (by rw [rowB_size, HA.out]; exact zero32.2) ?_)
 generalize (w.alloc (.cells (rowB a) 47)).alloc (.cells (rowB b) 47) = q at F0 F1 FB ⊢
 go_loop [5, 9] (fun s5 s9 => ∃ (i : Nat) (u : UInt8), i ≤ 32 ∧ s5 = .int .u8 (u.toNat : Int) ∧ s9 = .int .i64 i ∧ (u = 0 ↔ a.take i = b.take i)) (fun _ s9 => 32 - (intOf s9).toNat)
 case atStart => exact ⟨0, 0, by omega, rfl, rfl, by simp⟩
 case round =>
  obtain ⟨i, u, hi, rfl, rfl, hu⟩ := hrel
  by_cases hlt : i < 32
  ·have hlt' : (i : Int) < 32 := by omega
   obtain ⟨x, hx⟩ : ∃ x, a[i]? = some x := ⟨_, List.getElem?_eq_getElem (by have := HA.out; omega)⟩
   obtain ⟨y, hy⟩ : ∃ y, b[i]? = some y := ⟨_, List.getElem?_eq_getElem (by have := HB.out; omega)⟩
   have hxc : (rowB a)[i]? = some (.int .u8 (x.toNat : Int)) := by
    simp only [rowB, List.getElem?_toArray, List.getElem?_map, hx, Option.map_some]; rfl
   have hyc : (rowB b)[i]? = some (.int .u8 (y.toNat : Int)) := by
    simp only [rowB, List.getElem?_toArray, List.getElem?_map, hy, Option.map_some]; rfl
   have hcell : q.cell? ⟨w.heap.size + 1, i, none⟩ = some (.int .u8 (y.toNat : Int)) := (cell_of_row q _ i _ _ _ F1.out).trans hyc
   have hidx : ∀ w' : World, (Instr.index 47 (.agg (rowB a)) (.int .i64 (i : Int))).run Tryz.prog w' = .ok (.int .u8 (x.toNat : Int)) w' := fun w' => by
    obtain ⟨ie, h1, h2, h3, h4⟩ := info_parts infoByte
    exact run_index_row Tryz.underlying47 Tryz.underlying5 rfl h1 h3 (by omega) hxc
   have hor := or_int u x y
   have HZ : Hid (u ||| (x ^^^ y) = 0 ↔ a.take (i + 1) = b.take (i + 1)) := Lib.hid (by rw [or_xor_zero, take_same hx hy, hu])
   clear hu hx hy hxc hyc
   generalize u ||| (x ^^^ y) = u' at hor HZ
   go_wp2
   go_round
   case rel => exact ⟨i + 1, u', by omega, rfl, by go_num, HZ.out⟩
   case measure => simp [intOf]; omega
  ·obtain rfl : i = 32 := by omega
   have hlt' : ¬ (32 : Int) < 32 := by omega
   rw [List.take_of_length_le (by rw [HA.out]; omega), List.take_of_length_le (by rw [HB.out]; omega), ← toNat_zero_iff] at hu
   have HU : Hid (((u.toNat : Int) == 0) = decide (a = b)) := Lib.hid (by rw [Bool.eq_iff_iff, beq_iff_eq, decide_eq_true_eq]; exact hu)
   clear hu
   go_wp2
   go_ret
   exact ⟨congrArg (fun z => Ending.returned (.bool z)) HU.out, FB.out⟩


/-- A tag, stored into a variable that was just made. -/
theorem wpList_store_new {ops : Array Oper} {rest : List Oper} {op : Oper} {a : Act} {w : World} {Q : Exit → Act → World → Prop} (hgd : op.guard = none) (x y : Operand) (ho : op.op = .store 47 x y)
  (hx : a.eval x = .pointer (some ⟨w.heap.size, 0, none⟩)) {l : List UInt8} (hy : a.eval y = .agg (rowB l)) (hl : l.length = 32)
  (h : ∀ q, Hid (q.heap[w.heap.size]? = some (.cells (rowB l) 47 (0, 0))) → Hid (Below w.heap.size w q) → wpList Tryz.prog ops Q rest (a.put op.dst undef) q) :
  wpList Tryz.prog ops Q (op :: rest) a (w.alloc (.cells (Array.replicate 32 (.int .u8 0)) 47)) := by
 refine wpList_store_row hgd 47 x y ho w.heap.size hx hy (heap_alloc_self _ _) (by rw [rowB_size, hl]; exact zero32.2) (by rw [rowB_size, hl]; simp) (rowB_one _) ?_
 rw [World.setRow_alloc_new]
 exact h _ (Lib.hid (heap_alloc_self _ _)) (Lib.hid (below_new _ _))

end Go.Proofs.YteloiajocjahmaaGreatDoor
