/-
  The statement HmacSame's text returns true.
  Conditions: the table of constants reads as it was laid.
-/
import Derived.Test.YtdaaemnfphagbaaDoorHmacNames
set_option linter.unusedVariables false
set_option linter.unusedSimpArgs false
namespace Go.Proofs.YtdaaemnfphagbaaDoor
open Go.RowKit

theorem xor_self_iff (x t : UInt8) : x ^^^ t = x ↔ t = 0 := by
  constructor
  · intro h
    have : x ^^^ (x ^^^ t) = 0 := by rw [h]; exact UInt8.xor_self
    rwa [← UInt8.xor_assoc, UInt8.xor_self, UInt8.zero_xor] at this
  · rintro rfl; exact UInt8.xor_zero
theorem set_same_iff {X : List UInt8} {j : Nat} {x t : UInt8} (hx : X[j]? = some x) : X = X.set j (x ^^^ t) ↔ t = 0 := by
  have hj := (List.getElem?_eq_some_iff.1 hx).1
  constructor
  · intro h
    have : (X.set j (x ^^^ t))[j]? = some x := by rw [← h]; exact hx
    rw [List.getElem?_set_self hj] at this
    exact (xor_self_iff x t).1 (Option.some.inj this)
  · rintro rfl
    rw [UInt8.xor_zero]
    apply List.ext_getElem?
    intro i
    rw [List.getElem?_set]
    by_cases h : j = i
    · subst h; rw [if_pos rfl, if_pos hj, hx]
    · rw [if_neg h]
theorem same_is (a b : List UInt8) (ha : a.length = 32) (hb : b.length = 32) (c : Bool) (h : decide (a = b) = c) (w : World) :
    Calls Tryd.prog 10 #[.agg (rowB a), .agg (rowB b)] w fun e w' => e = .returned (.bool c) ∧ Below w.heap.size w w' := by
  subst h
  exact same_any a b ha hb w

set_option maxHeartbeats 1000000 in
theorem walk_flip (X : List UInt8) (hX : X.length = 32) (p t : UInt8) (w : World) (hT : Tab w) :
    Calls Tryd.prog 7 #[.agg (rowB X), .int .u8 (p.toNat : Int), .int .u8 (t.toNat : Int)] w fun e w' => e = .returned (.bool true) ∧ Below w.heap.size w w' := by
  have HT := Lib.hid hT
  have XL := Lib.hid hX
  obtain ⟨j, hj⟩ : ∃ j, j = p.toNat % 32 := ⟨_, rfl⟩
  have hjI : (p.toNat : Int) % 32 = j := by omega
  have hjT : (p.toNat : Int).tmod 32 = j := by rw [Int.tmod_eq_emod_of_nonneg (by omega)]; exact hjI
  have hj32 : (j : Int) < 32 := by omega
  obtain ⟨x, hx⟩ : ∃ x, X[j]? = some x := ⟨_, List.getElem?_eq_getElem (by omega)⟩
  have hxor := xor_int x t
  obtain ⟨Y, hY⟩ : ∃ Y, Y = X.set j (x ^^^ t) := ⟨_, rfl⟩
  have YL : Hid (Y.length = 32) := Lib.hid (by rw [hY, List.length_set]; exact hX)
  obtain ⟨c, hc⟩ : ∃ c : Bool, ((t.toNat : Int) == 0) = c := ⟨_, rfl⟩
  have C1 : Hid (decide (X = Y) = c) := Lib.hid (by
    rw [← hc, Bool.eq_iff_iff, decide_eq_true_eq, beq_iff_eq, toNat_zero_iff, hY]; exact set_same_iff hx)
  have C2 : Hid (decide (Y = X) = c) := Lib.hid (by
    rw [← C1.out, decide_eq_decide]; exact ⟨Eq.symm, Eq.symm⟩)
  have hset : (rowB X).setIfInBounds j (.int .u8 (((x ^^^ t).toNat : Nat) : Int)) = rowB Y := by
    rw [hY, ← rowB_set]
  have HSET := Lib.hid hset
  have HXC : Hid ((rowB X)[j]? = some (.int .u8 (x.toNat : Int))) := Lib.hid (by
    simp only [rowB, List.getElem?_toArray, List.getElem?_map, hx, Option.map_some]; rfl)
  clear hX hY hset hx hT hj
  generalize x ^^^ t = y at hxor HSET
  generalize p.toNat = pn at *
  go_enter Tryd.func7, Tryd.ntmps7
  go_wp2_with (first
    | (refine wpList_load_row rfl 22 _ rfl w.heap.size rfl (heap_alloc_self _ _) Tryd.underlying22 (by rw [rowB_size, XL.out]; exact zero32.2) ?_; have hq0 := heap_alloc_self w (.cells (rowB X) 22); have hqb := below_new w (.cells (rowB X) 22); generalize w.alloc (.cells (rowB X) 22) = q at hq0 hqb ⊢; have Q0 := Lib.hid hq0; have QB := Lib.hid hqb; clear hq0 hqb)
    | (refine wpList_store_new rfl _ _ rfl rfl rfl XL.out ?_; intro q1 hx1 hb1; have R0 := Lib.hid ((hb1.out.block _ (heap_lt Q0.out)).trans Q0.out); have RB := Lib.hid (QB.out.trans (hb1.out.mono QB.out.size)); have hcl := (cell_of_row q1 q.heap.size j _ _ _ hx1.out).trans HXC.out; have hfr := frozen_of_row q1 q.heap.size j _ _ hx1.out))
  have GT : Hid (w.heap.size < q.heap.size) := Lib.hid (heap_lt Q0.out)
  have hz1 : (q1.setCell ⟨q.heap.size, j, none⟩ (.int .u8 (((y.toNat : Nat)) : Int))).heap[q.heap.size]? = some (.cells (rowB Y) 22 (0, 0)) := by
    rw [heap_setCell_same _ _ _ _ _ _ hx1.out, HSET.out]
  have hz0 : (q1.setCell ⟨q.heap.size, j, none⟩ (.int .u8 (((y.toNat : Nat)) : Int))).heap[w.heap.size]? = some (.cells (rowB X) 22 (0, 0)) := by
    rw [heap_setCell_other _ _ _ _ (show w.heap.size ≠ q.heap.size by have := GT.out; omega)]; exact R0.out
  have hzb : Below w.heap.size w (q1.setCell ⟨q.heap.size, j, none⟩ (.int .u8 (((y.toNat : Nat)) : Int))) := RB.out.setCell (show w.heap.size ≤ q.heap.size by have := GT.out; omega) _
  generalize q1.setCell ⟨q.heap.size, j, none⟩ (.int .u8 (((y.toNat : Nat)) : Int)) = v at hz0 hz1 hzb ⊢
  have Z0 := Lib.hid hz0
  have Z1 := Lib.hid hz1
  have ZB := Lib.hid hzb
  clear hz0 hz1 hzb hcl hfr R0 RB hx1 hb1 HXC HSET Q0 QB hxor
  refine (alive_true _ (HT.out.below ZB.out HT.out.pos)).mono ?_
  rintro e w4 ⟨rfl, b⟩
  have B4 := Lib.hid (ZB.out.trans (b.mono ZB.out.size))
  have X4 := Lib.hid ((b.block _ (heap_lt Z0.out)).trans Z0.out)
  have Y4 := Lib.hid ((b.block _ (heap_lt Z1.out)).trans Z1.out)
  clear b ZB Z0 Z1
  go_wp2_with (first
    | refine wpList_load_let (by rfl) 22 _ rfl _ rfl X4.out Tryd.underlying22 (by rw [rowB_size, XL.out]; exact zero32.2) ?_
    | refine wpList_load_let (by rfl) 22 _ rfl _ rfl Y4.out Tryd.underlying22 (by rw [rowB_size, YL.out]; exact zero32.2) ?_)
  refine (same_is X Y XL.out YL.out c C1.out _).mono ?_
  rintro e w5 ⟨rfl, b⟩
  have B5 := Lib.hid (B4.out.trans (b.mono B4.out.size))
  have X5 := Lib.hid ((b.block _ (heap_lt X4.out)).trans X4.out)
  have Y5 := Lib.hid ((b.block _ (heap_lt Y4.out)).trans Y4.out)
  clear b B4 X4 Y4
  go_wp2_with (first
    | refine wpList_load_let (by rfl) 22 _ rfl _ rfl X5.out Tryd.underlying22 (by rw [rowB_size, XL.out]; exact zero32.2) ?_
    | refine wpList_load_let (by rfl) 22 _ rfl _ rfl Y5.out Tryd.underlying22 (by rw [rowB_size, YL.out]; exact zero32.2) ?_)
  refine (same_is Y X YL.out XL.out c C2.out _).mono ?_
  rintro e w6 ⟨rfl, b⟩
  have B6 := Lib.hid (B5.out.trans (b.mono B5.out.size))
  clear b B5 X5 Y5
  go_wp2_with fail
  go_ret
  exact ⟨rfl, B6.out⟩

theorem int_u8 {a : Int} (h : (Lit.int .u8 a).wf = true) : ∃ t : UInt8, a = (t.toNat : Int) := by
  have hb := bounds_u8 h
  exact ⟨UInt8.ofNat a.toNat, by rw [UInt8.toNat_ofNat']; omega⟩
theorem walk_same (X : List UInt8) (hX : X.length = 32) (a b : Int) (ha : (Lit.int .u8 a).wf = true) (hb : (Lit.int .u8 b).wf = true) (w : World) (hT : Tab w) :
    Calls Tryd.prog 7 #[.agg (rowB X), .int .u8 a, .int .u8 b] w fun e w' => e = .returned (.bool true) ∧ Below w.heap.size w w' := by
  obtain ⟨p, rfl⟩ := int_u8 ha
  obtain ⟨t, rfl⟩ := int_u8 hb
  exact walk_flip X hX p t w hT
end Go.Proofs.YtdaaemnfphagbaaDoor
