/-
  Whether two tags are the same; whether two arrays of bytes are, as the language compares them.
  Conditions: none.
-/
import Derived.Test.YtdaaemnfphagbaaDoorHmacMath
set_option linter.unusedVariables false
set_option linter.unusedSimpArgs false
namespace Go.Proofs.YtdaaemnfphagbaaDoor
open Go.RowKit

theorem or_xor_zero (u x y : UInt8) : u ||| (x ^^^ y) = 0 ↔ u = 0 ∧ x = y := by
  rw [UInt8.or_eq_zero_iff, UInt8.xor_eq_zero_iff]
theorem toNat_zero_iff (u : UInt8) : (u.toNat : Int) = 0 ↔ u = 0 := by
  rw [← UInt8.toNat_inj]
  simp
theorem or_int (u x y : UInt8) : bits .or .u8 (u.toNat : Int) (bits .xor .u8 (x.toNat : Int) (y.toNat : Int)) = (((u ||| (x ^^^ y)).toNat : Nat) : Int) := by
  rw [xor_int, UInt8.toNat_or]; exact u8_or_nat _ _ (UInt8.toNat_lt u) (UInt8.toNat_lt _)
theorem take_same {a b : List UInt8} {i : Nat} {x y : UInt8} (hx : a[i]? = some x) (hy : b[i]? = some y) : a.take (i + 1) = b.take (i + 1) ↔ a.take i = b.take i ∧ x = y := by
  rw [List.take_add_one, List.take_add_one, hx, hy]
  have h1 := (List.getElem?_eq_some_iff.1 hx).1
  have h2 := (List.getElem?_eq_some_iff.1 hy).1
  constructor
  · intro h
    have := List.append_inj h (by simp; omega)
    exact ⟨this.1, by simpa using this.2⟩
  · rintro ⟨h, rfl⟩; rw [h]

set_option maxHeartbeats 1000000 in
theorem same_any (a b : List UInt8) (ha : a.length = 32) (hb : b.length = 32) (w : World) :
    Calls Tryd.prog 10 #[.agg (rowB a), .agg (rowB b)] w fun e w' => e = .returned (.bool (decide (a = b))) ∧ Below w.heap.size w w' := by
  have HA := Lib.hid ha
  have HB := Lib.hid hb
  have hf0 : ((w.alloc (.cells (rowB a) 22)).alloc (.cells (rowB b) 22)).heap[w.heap.size]? = some (.cells (rowB a) 22 (0, 0)) := by
    rw [heap_alloc_lt _ _ (by rw [heap_alloc_size]; omega), heap_alloc_self]
  have hf1 : ((w.alloc (.cells (rowB a) 22)).alloc (.cells (rowB b) 22)).heap[w.heap.size + 1]? = some (.cells (rowB b) 22 (0, 0)) := by
    have := heap_alloc_self (w.alloc (.cells (rowB a) 22)) (.cells (rowB b) 22)
    rwa [heap_alloc_size] at this
  have hfb : Below w.heap.size w ((w.alloc (.cells (rowB a) 22)).alloc (.cells (rowB b) 22)) :=
    ((Below.refl _ _).alloc (Nat.le_refl _) _).alloc (by simp) _
  have F0 := Lib.hid hf0
  have F1 := Lib.hid hf1
  have FB := Lib.hid hfb
  clear hf0 hf1 hfb ha hb
  go_enter Tryd.func10, Tryd.ntmps10
  go_wp2_with (refine wpList_load_row rfl 22 _ rfl w.heap.size rfl F0.out Tryd.underlying22 (by rw [rowB_size, HA.out]; exact zero32.2) ?_)
  generalize (w.alloc (.cells (rowB a) 22)).alloc (.cells (rowB b) 22) = q at F0 F1 FB ⊢
  go_loop [5, 9] (fun s5 s9 => ∃ (i : Nat) (u : UInt8), i ≤ 32 ∧ s5 = .int .u8 (u.toNat : Int) ∧ s9 = .int .i64 i ∧ (u = 0 ↔ a.take i = b.take i)) (fun _ s9 => 32 - (intOf s9).toNat)
  case atStart => exact ⟨0, 0, by omega, rfl, rfl, by simp⟩
  case round =>
    obtain ⟨i, u, hi, rfl, rfl, hu⟩ := hrel
    by_cases hlt : i < 32
    · have hlt' : (i : Int) < 32 := by omega
      obtain ⟨x, hx⟩ : ∃ x, a[i]? = some x := ⟨_, List.getElem?_eq_getElem (by have := HA.out; omega)⟩
      obtain ⟨y, hy⟩ : ∃ y, b[i]? = some y := ⟨_, List.getElem?_eq_getElem (by have := HB.out; omega)⟩
      have hxc : (rowB a)[i]? = some (.int .u8 (x.toNat : Int)) := by
        simp only [rowB, List.getElem?_toArray, List.getElem?_map, hx, Option.map_some]; rfl
      have hyc : (rowB b)[i]? = some (.int .u8 (y.toNat : Int)) := by
        simp only [rowB, List.getElem?_toArray, List.getElem?_map, hy, Option.map_some]; rfl
      have hcell : q.cell? ⟨w.heap.size + 1, i, none⟩ = some (.int .u8 (y.toNat : Int)) := (cell_of_row q _ i _ _ _ F1.out).trans hyc
      have hidx : ∀ w' : World, (Instr.index 22 (.agg (rowB a)) (.int .i64 (i : Int))).run Tryd.prog w' = .ok (.int .u8 (x.toNat : Int)) w' := fun w' => by
        obtain ⟨ie, h1, h2, h3, h4⟩ := info_parts infoByte
        exact run_index_row Tryd.underlying22 Tryd.underlying5 rfl h1 h3 (by omega) hxc
      have hor := or_int u x y
      have HZ : Hid (u ||| (x ^^^ y) = 0 ↔ a.take (i + 1) = b.take (i + 1)) := Lib.hid (by rw [or_xor_zero, take_same hx hy, hu])
      clear hu hx hy hxc hyc
      generalize u ||| (x ^^^ y) = u' at hor HZ
      go_wp2
      go_round
      case rel => exact ⟨i + 1, u', by omega, rfl, by go_num, HZ.out⟩
      case measure => simp [intOf]; omega
    · obtain rfl : i = 32 := by omega
      have hlt' : ¬ (32 : Int) < 32 := by omega
      rw [List.take_of_length_le (by rw [HA.out]; omega), List.take_of_length_le (by rw [HB.out]; omega), ← toNat_zero_iff] at hu
      have HU : Hid (((u.toNat : Int) == 0) = decide (a = b)) := Lib.hid (by rw [Bool.eq_iff_iff, beq_iff_eq, decide_eq_true_eq]; exact hu)
      clear hu
      go_wp2
      go_ret
      exact ⟨congrArg (fun z => Ending.returned (.bool z)) HU.out, FB.out⟩

/-- Two arrays of bytes, as the language compares them. -/
theorem eqItems_bytes {w : World} {d : TypeId} {a b : List UInt8} (is : List Nat) (h : ∀ i ∈ is, i < a.length ∧ i < b.length) :
    (Op.eqItems (d + 1) 5 1 (rowB a) (rowB b) is).run Tryd.prog w = .ok (decide (∀ i ∈ is, a[i]? = b[i]?)) w := by
  induction is with
  | nil => simp [Op.eqItems]
  | cons i is ih =>
    obtain ⟨h1, h2⟩ := h i (by simp)
    have hagg : (isAgg 5).run Tryd.prog w = .ok false w := by
      unfold isAgg
      rw [Sem.run_bind, run_underlying Tryd.underlying5 w]
      simp
    have hp : ∀ l : List UInt8, (hl : i < l.length) → (part 5 (rowB l) (i * 1)).run Tryd.prog w = .ok (.int .u8 (l[i].toNat : Int)) w := fun l hl => by
      have := rowB_at hl
      simp [part, Sem.run_bind, hagg, this]
    simp only [Op.eqItems, Sem.run_bind, hp a h1, hp b h2, Result.andThen_ok, run_equalIn_int w d 5 .u8 .u8 _ _ Tryd.underlying5]
    have hih := ih (fun j hj => h j (List.mem_cons_of_mem _ hj))
    by_cases hxy : a[i] = b[i]
    · rw [if_neg (by simp [hxy]), hih]
      congr 1
      rw [decide_eq_decide]
      simp only [List.mem_cons, forall_eq_or_imp, List.getElem?_eq_getElem h1, List.getElem?_eq_getElem h2, hxy, true_and]
    · rw [if_pos (by
        have : ¬ (a[i].toNat : Int) = (b[i].toNat : Int) := fun e => hxy (UInt8.toNat_inj.1 (by omega))
        simpa using this)]
      have hno : ¬ ∀ (j : Nat), j ∈ i :: is → a[j]? = b[j]? := fun hall => by
        have := hall i (by simp)
        rw [List.getElem?_eq_getElem h1, List.getElem?_eq_getElem h2] at this
        exact hxy (Option.some.inj this)
      rw [decide_eq_false hno]
      rfl
theorem run_equal32 (a b : List UInt8) (ha : a.length = 32) (hb : b.length = 32) (w : World) : (Op.equalIn 10000 22 (.agg (rowB a)) (.agg (rowB b))).run Tryd.prog w = .ok (decide (a = b)) w := by
  obtain ⟨ie, h1, -, -, -⟩ := info_parts infoByte
  rw [run_equalIn_array w 9999 (rowB a) (rowB b) Tryd.underlying22 h1, show Tryd.prog.cellsOf 5 = 1 by kernel_rfl, eqItems_bytes (d := 9998) _ (fun i hi => by have := List.mem_range.1 hi; omega)]
  congr 1
  rw [decide_eq_decide]
  constructor
  · intro h
    apply List.ext_getElem? 
    intro i
    by_cases hi : i < 32
    · exact h i (List.mem_range.2 hi)
    · rw [List.getElem?_eq_none (by omega), List.getElem?_eq_none (by omega)]
  · rintro rfl i _; rfl
end Go.Proofs.YtdaaemnfphagbaaDoor
