/-
  The statement CodeNames' text returns true: the chapter's examples.
  Conditions: none.
-/
import Derived.Test.YthlohfiidogiiaaAny
import Derived.Laws.Rows
set_option linter.unusedVariables false
set_option linter.unusedSimpArgs false
namespace Go.Proofs.Ythlohfiidogiiaa
open Go.RowKit Go.Shelf

theorem txt_new (w : World) (t : TypeId) (xs : List UInt8) (h : xs.length ≤ maxLen) : Txt (w.alloc (.cells (xs.map u8).toArray t)) (w.alloc (.cells (xs.map u8).toArray t)).heap.size (.slice (some ⟨w.heap.size, 0, none⟩) xs.length xs.length) xs :=
  ⟨_, _, rfl, Nat.le_refl _, h, fun e => (by cases e), fun _ => ⟨_, _, rfl, by simp, fun j hj => by
    have hn : (w.alloc (.cells (xs.map u8).toArray t)).heap[w.heap.size]? = some (.cells (xs.map u8).toArray t (0, 0)) := World.alloc_heap_new w _
    rw [Nat.zero_add, cell_of_row _ _ _ _ t (0, 0) hn]
    simp [hj]⟩⟩
theorem below_new (w : World) (o : Obj) : Below w.heap.size w (w.alloc o) := (Below.refl _ w).alloc (Nat.le_refl _) o

theorem get_lit (xs : List UInt8) (x m nx g : Int) (hl : xs.length ≤ maxLen) (hs : getSpec xs x = (m, nx, g)) (w : World) :
    Calls Try.prog 9 #[.slice (some ⟨w.heap.size, 0, none⟩) xs.length xs.length, .int .i64 x] (w.alloc (.cells (xs.map u8).toArray 5)) fun e W' => e = .returned (.tuple #[.int .i64 m, .int .i64 nx, .int .i64 g]) ∧ Below w.heap.size w W' :=
  (get_any _ xs x _ (txt_new w _ xs hl)).mono fun e W' ⟨he, hb⟩ => ⟨by rw [he, hs], (below_new w _).trans (hb.mono (by simp))⟩
theorem wrap_lit (xs ys : List UInt8) (hl : xs.length ≤ maxLen) (hs : wrapSpec xs = (ys, 0)) (hy : ys.length ≤ maxLen) (w : World) :
    Calls Try.prog 10 #[.slice (some ⟨w.heap.size, 0, none⟩) xs.length xs.length] (w.alloc (.cells (xs.map u8).toArray 5)) fun e W' => ∃ u, e = .returned (.tuple #[u, .int .i64 0]) ∧ Txt W' W'.heap.size u ys ∧ Below w.heap.size w W' :=
  (wrap_any _ xs _ (txt_new w _ xs hl)).mono fun e W' ⟨u, he, ho, hb⟩ => ⟨u, by rw [he, hs], by rw [hs] at ho; exact Txt.own hy ho, (below_new w _).trans (hb.mono (by simp))⟩
theorem unwrap_lit (xs ys : List UInt8) (x y nx g : Int) (hl : xs.length ≤ maxLen) (hs : unwrapSpec xs x y = (ys, nx, g)) (hy : ys.length ≤ maxLen) (w : World) :
    Calls Try.prog 11 #[.slice (some ⟨w.heap.size, 0, none⟩) xs.length xs.length, .int .i64 x, .int .i64 y] (w.alloc (.cells (xs.map u8).toArray 5)) fun e W' => ∃ u, e = .returned (.tuple #[u, .int .i64 nx, .int .i64 g]) ∧ Txt W' W'.heap.size u ys ∧ Below w.heap.size w W' :=
  (unwrap_any _ xs x y _ (txt_new w _ xs hl)).mono fun e W' ⟨u, he, ho, hb⟩ => ⟨u, by rw [he, hs], by rw [hs] at ho; exact Txt.own hy ho, (below_new w _).trans (hb.mono (by simp))⟩

theorem small (n : Nat) (h : n ≤ 100) : n ≤ maxLen := by unfold maxLen; omega
theorem e1 : getSpec [9, 172, 2] 1 = (300, 3, 0) := by decide +kernel
theorem e2 : getSpec [128, 0] 0 = (0, 0, 8) := by decide +kernel
theorem e3 : getSpec [128] 0 = (0, 0, 8) := by decide +kernel
theorem e4 : wrapSpec [7, 8] = ([2, 7, 8], 0) := by simp [wrapSpec, bytesOf]
theorem e5 : unwrapSpec [2, 7, 8, 9] 0 2 = ([7, 8], 3, 0) := by decide +kernel
theorem e6 : unwrapSpec [2, 7, 8, 9] 0 1 = ([], 0, 4) := by decide +kernel

set_option maxHeartbeats 800000 in
theorem walk_names (w : World) : Calls Try.prog 3 #[] w fun e w' => e = .returned (.bool true) ∧ Below w.heap.size w w' := by
  go_enter Try.func3, Try.ntmps3
  go_wp2_with fail
  refine (get_lit [9, 172, 2] 1 300 3 0 (small _ (by decide)) e1 _).mono ?_
  rintro e w1 ⟨rfl, b⟩
  have B1 := Lib.hid b
  clear b
  go_wp2_with fail
  refine (get_lit [128, 0] 0 0 0 8 (small _ (by decide)) e2 _).mono ?_
  rintro e w2 ⟨rfl, b⟩
  have B2 := Lib.hid (B1.out.trans (b.mono B1.out.size))
  clear b B1
  go_wp2_with fail
  refine (get_lit [128] 0 0 0 8 (small _ (by decide)) e3 _).mono ?_
  rintro e w3 ⟨rfl, b⟩
  have B3 := Lib.hid (B2.out.trans (b.mono B2.out.size))
  clear b B2
  go_wp2_with fail
  refine (wrap_lit [7, 8] [2, 7, 8] (small _ (by decide)) e4 (small _ (by decide)) _).mono ?_
  rintro e w4 ⟨u4, rfl, t4, b⟩
  have B4 := Lib.hid (B3.out.trans (b.mono B3.out.size))
  have T4 := Lib.hid t4
  clear b B3 t4
  go_wp2_with fail
  refine (unwrap_lit [2, 7, 8, 9] [7, 8] 0 2 3 0 (small _ (by decide)) e5 (small _ (by decide)) _).mono ?_
  rintro e w5 ⟨u5, rfl, t5, b⟩
  have B5 := Lib.hid (B4.out.trans (b.mono B4.out.size))
  have S4 := Lib.hid ((T4.out.below b).more b.size)
  have T5 := Lib.hid t5
  clear b B4 t5 T4
  go_wp2_with fail
  refine (unwrap_lit [2, 7, 8, 9] [] 0 1 0 4 (small _ (by decide)) e6 (small _ (by decide)) _).mono ?_
  rintro e w6 ⟨u6, rfl, t6, b⟩
  have B6 := Lib.hid (B5.out.trans (b.mono B5.out.size))
  have R4 := Lib.hid ((S4.out.below b).more b.size)
  have S5 := Lib.hid ((T5.out.below b).more b.size)
  clear b B5 t6 T5 S4
  go_wp2_with fail
  refine (alive_true _).mono ?_
  rintro e w7 ⟨rfl, b⟩
  have B7 := Lib.hid (B6.out.trans (b.mono B6.out.size))
  have r4 := run_txt_string (R4.out.below b)
  have r5 := run_txt_string (S5.out.below b)
  clear b B6
  go_wp2
  go_ret
  exact ⟨rfl, B7.out⟩
end Go.Proofs.Ythlohfiidogiiaa
