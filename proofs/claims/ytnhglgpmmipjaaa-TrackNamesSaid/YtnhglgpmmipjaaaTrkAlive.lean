/-
  The chapter's sections, and its first examples.
  Conditions: none.
-/
import Derived.Test.YtnhglgpmmipjaaaTrkProg
set_option linter.unusedVariables false
set_option linter.unusedSimpArgs false
set_option maxRecDepth 100000
namespace Go.Proofs.Ytnhglgpmmipjaaa
open Go.RowKit

def sec1 : Sec := (1, 0, [(2, 0), (0, 0)])
def sec2 : Sec := (2, 5, [(1, 0), (3, 0), (3, 1)])
def sec3 : Sec := (3, 0, [(2, 1), (2, 2)])
def secsT : List Sec := [sec1, sec2, sec3]
theorem mayThree : TMay secsT := by
  refine ⟨by decide, fun i h => ?_, fun i j hj hi => ?_, fun i k hi hk => ?_⟩
  · match i, h with
    | 0, _ => exact (show (1 : Int) ≤ sec1.1 ∧ sec1.1 ≤ 99 ∧ shapedB sec1 = true from ⟨by decide, by decide, by decide⟩)
    | 1, _ => exact (show (1 : Int) ≤ sec2.1 ∧ sec2.1 ≤ 99 ∧ shapedB sec2 = true from ⟨by decide, by decide, by decide⟩)
    | 2, _ => exact (show (1 : Int) ≤ sec3.1 ∧ sec3.1 ≤ 99 ∧ shapedB sec3 = true from ⟨by decide, by decide, by decide⟩)
  · match i, j, hj, hi with
    | 1, 0, _, _ => exact (show sec1.1 < sec2.1 ∧ ¬ (sec2.2.1 ≠ 0 ∧ sec1.2.1 = sec2.2.1) from ⟨by decide, by decide⟩)
    | 2, 0, _, _ => exact (show sec1.1 < sec3.1 ∧ ¬ (sec3.2.1 ≠ 0 ∧ sec1.2.1 = sec3.2.1) from ⟨by decide, by decide⟩)
    | 2, 1, _, _ => exact (show sec2.1 < sec3.1 ∧ ¬ (sec3.2.1 ≠ 0 ∧ sec2.2.1 = sec3.2.1) from ⟨by decide, by decide⟩)
  · match i, k, hi, hk with
    | 0, 0, _, _ => exact (show joinedB secsT sec1 0 = true by decide)
    | 0, 1, _, _ => exact (show joinedB secsT sec1 1 = true by decide)
    | 1, 0, _, _ => exact (show joinedB secsT sec2 0 = true by decide)
    | 1, 1, _, _ => exact (show joinedB secsT sec2 1 = true by decide)
    | 1, 2, _, _ => exact (show joinedB secsT sec2 2 = true by decide)
    | 2, 0, _, _ => exact (show joinedB secsT sec3 0 = true by decide)
    | 2, 1, _, _ => exact (show joinedB secsT sec3 1 = true by decide)
theorem chkThree : chkT secsT = 0 := by rw [chkT, mayT_true mayThree]; rfl
theorem findE_of {l : List Sec} {id : Int} (h : TMay l) : findE7 l id = if atS l id < 0 then 6 else 0 := by rw [findE7, mayT_true h]; rfl
theorem next_three (id k : Int) (j : Jn) (h : atS secsT id = 0 ∨ atS secsT id = 1 ∨ atS secsT id = 2) (hk : ¬ (k < 0 ∨ ((secsT.getD (atS secsT id).toNat (0, 0, [])).2.2.length : Int) ≤ k)) (hj : (secsT.getD (atS secsT id).toNat (0, 0, [])).2.2.getD k.toNat (0, 0) = j) :
    nextE7 secsT id k = 0 ∧ nextJ7 secsT id k = j := by
  have hE : findE7 secsT id = 0 := by rw [findE_of mayThree, if_neg (by omega)]
  have hS : findS7 secsT id = secsT.getD (atS secsT id).toNat (0, 0, []) := by rw [findS7, hE, if_pos rfl]
  have hN : nextE7 secsT id k = 0 := by rw [nextE7, hE, if_pos rfl, hS, if_neg hk]
  exact ⟨hN, by rw [nextJ7, hN, if_pos rfl, hS, hj]⟩

/-- A block of joins, or of sections, written down. -/
theorem joins_row {W : World} {b : Nat} {cs : Array Value} {l : List Jn} (h : W.heap[b]? = some (.cells cs 25 (0, 0))) (hl : l.length ≤ 100) (hc : ∀ j (hj : j < l.length), cs[j * 2]? = some (.int .i64 l[j].1) ∧ cs[j * 2 + 1]? = some (.int .i64 l[j].2)) :
    JoinsIn W W.heap.size (.slice (some ⟨b, 0, none⟩) l.length l.length) l :=
  ⟨_, _, rfl, Nat.le_refl _, by unfold maxLen; omega, (fun e => by cases e), fun _ => ⟨b, 0, rfl, heap_lt h, fun j hj => ⟨by show W.cell? ⟨b, 0 + j * 2 + 0, none⟩ = _; rw [cell_of_row _ _ _ _ _ _ h, Nat.zero_add]; exact (hc j hj).1, by show W.cell? ⟨b, 0 + j * 2 + 1, none⟩ = _; rw [cell_of_row _ _ _ _ _ _ h, Nat.zero_add]; exact (hc j hj).2⟩⟩⟩

set_option maxHeartbeats 4000000 in
theorem three_any (w : World) : Calls Try.prog 10 #[] w fun e w' => ∃ A c, e = .returned (.slice A 3 c) ∧ SectsIn w' w'.heap.size (.slice A 3 c) secsT ∧ Below w.heap.size w w' := by
  go_enter Try.func10, Try.ntmps10
  go_wp2_with fail
  go_ret
  have h0 := heap_alloc_self w (.cells #[.int .i64 2, .int .i64 0, .int .i64 0, .int .i64 0] 25)
  have b0 := below_new w (.cells #[.int .i64 2, .int .i64 0, .int .i64 0, .int .i64 0] 25)
  have s0 := heap_alloc_size w (.cells #[.int .i64 2, .int .i64 0, .int .i64 0, .int .i64 0] 25)
  generalize w.alloc (.cells #[.int .i64 2, .int .i64 0, .int .i64 0, .int .i64 0] 25) = w1 at h0 b0 s0 ⊢
  have h1 := heap_alloc_self w1 (.cells #[.int .i64 1, .int .i64 0, .int .i64 3, .int .i64 0, .int .i64 3, .int .i64 1] 25)
  have b1 := below_new w1 (.cells #[.int .i64 1, .int .i64 0, .int .i64 3, .int .i64 0, .int .i64 3, .int .i64 1] 25)
  have s1 := heap_alloc_size w1 (.cells #[.int .i64 1, .int .i64 0, .int .i64 3, .int .i64 0, .int .i64 3, .int .i64 1] 25)
  generalize w1.alloc (.cells #[.int .i64 1, .int .i64 0, .int .i64 3, .int .i64 0, .int .i64 3, .int .i64 1] 25) = w2 at h1 b1 s1 ⊢
  have h2 := heap_alloc_self w2 (.cells #[.int .i64 2, .int .i64 1, .int .i64 2, .int .i64 2] 25)
  have b2 := below_new w2 (.cells #[.int .i64 2, .int .i64 1, .int .i64 2, .int .i64 2] 25)
  have s2 := heap_alloc_size w2 (.cells #[.int .i64 2, .int .i64 1, .int .i64 2, .int .i64 2] 25)
  generalize w2.alloc (.cells #[.int .i64 2, .int .i64 1, .int .i64 2, .int .i64 2] 25) = w3 at h2 b2 s2 ⊢
  have h3 := heap_alloc_self w3 (.cells #[.int .i64 1, .int .i64 0, .slice (some ⟨w.heap.size, 0, none⟩) 2 2, .int .i64 2, .int .i64 5, .slice (some ⟨w.heap.size + 1, 0, none⟩) 3 3, .int .i64 3, .int .i64 0, .slice (some ⟨w.heap.size + 1 + 1, 0, none⟩) 2 2] 33)
  have b3 := below_new w3 (.cells #[.int .i64 1, .int .i64 0, .slice (some ⟨w.heap.size, 0, none⟩) 2 2, .int .i64 2, .int .i64 5, .slice (some ⟨w.heap.size + 1, 0, none⟩) 3 3, .int .i64 3, .int .i64 0, .slice (some ⟨w.heap.size + 1 + 1, 0, none⟩) 2 2] 33)
  generalize w3.alloc (.cells #[.int .i64 1, .int .i64 0, .slice (some ⟨w.heap.size, 0, none⟩) 2 2, .int .i64 2, .int .i64 5, .slice (some ⟨w.heap.size + 1, 0, none⟩) 3 3, .int .i64 3, .int .i64 0, .slice (some ⟨w.heap.size + 1 + 1, 0, none⟩) 2 2] 33) = w4 at h3 b3 ⊢
  rw [s2, s1, s0] at h3
  rw [s0] at h1
  rw [s1, s0] at h2
  have g2 := (b3.block _ (heap_lt h2)).trans h2
  have g1 := (b3.block _ (heap_lt ((b2.block _ (heap_lt h1)).trans h1))).trans ((b2.block _ (heap_lt h1)).trans h1)
  have h02 := (b2.block _ (heap_lt ((b1.block _ (heap_lt h0)).trans h0))).trans ((b1.block _ (heap_lt h0)).trans h0)
  have g0 := (b3.block _ (heap_lt h02)).trans h02
  have j0 : JoinsIn w4 w4.heap.size (.slice (some ⟨w.heap.size, 0, none⟩) 2 2) [(2, 0), (0, 0)] := joins_row (l := [(2, 0), (0, 0)]) g0 (by decide) (fun j hj => by
    match j, hj with
    | 0, _ => exact ⟨rfl, rfl⟩
    | 1, _ => exact ⟨rfl, rfl⟩)
  have j1 : JoinsIn w4 w4.heap.size (.slice (some ⟨w.heap.size + 1, 0, none⟩) 3 3) [(1, 0), (3, 0), (3, 1)] := joins_row (l := [(1, 0), (3, 0), (3, 1)]) g1 (by decide) (fun j hj => by
    match j, hj with
    | 0, _ => exact ⟨rfl, rfl⟩
    | 1, _ => exact ⟨rfl, rfl⟩
    | 2, _ => exact ⟨rfl, rfl⟩)
  have j2 : JoinsIn w4 w4.heap.size (.slice (some ⟨w.heap.size + 1 + 1, 0, none⟩) 2 2) [(2, 1), (2, 2)] := joins_row (l := [(2, 1), (2, 2)]) g2 (by decide) (fun j hj => by
    match j, hj with
    | 0, _ => exact ⟨rfl, rfl⟩
    | 1, _ => exact ⟨rfl, rfl⟩)
  refine ⟨_, 3, rfl, ⟨_, 3, rfl, Nat.le_refl _, by unfold maxLen; decide, (fun e => by cases e), fun _ => ⟨_, 0, rfl, heap_lt h3, fun j hj => ?_⟩⟩, b0.trans ((b1.trans ((b2.trans (b3.mono b2.size)).mono b1.size)).mono b0.size)⟩
  match j, hj with
  | 0, _ => exact ⟨cell_of_row _ _ _ _ _ _ h3, cell_of_row _ _ _ _ _ _ h3, _, cell_of_row _ _ _ _ _ _ h3, j0⟩
  | 1, _ => exact ⟨cell_of_row _ _ _ _ _ _ h3, cell_of_row _ _ _ _ _ _ h3, _, cell_of_row _ _ _ _ _ _ h3, j1⟩
  | 2, _ => exact ⟨cell_of_row _ _ _ _ _ _ h3, cell_of_row _ _ _ _ _ _ h3, _, cell_of_row _ _ _ _ _ _ h3, j2⟩

set_option maxHeartbeats 8000000 in
theorem alive7 (hp : TrkSaid) (w : World) : Calls Try.prog 14 #[] w fun e w' => e = .returned (.bool true) ∧ Below w.heap.size w w' := by
  obtain ⟨e21, j21⟩ := next_three 2 1 (3, 0) (.inr (.inl (by decide))) (by decide) (by decide)
  obtain ⟨e11, j11⟩ := next_three 1 1 (0, 0) (.inl (by decide)) (by decide) (by decide)
  have C := Lib.hid chkThree
  go_enter Try.func14, Try.ntmps14
  go_wp2_with fail
  refine (three_any w).mono ?_
  rintro e w1 ⟨A1, c1, rfl, hs1, b1⟩
  have S1 := Lib.hid hs1
  have B1 := Lib.hid b1
  clear hs1 b1
  go_wp2_with fail
  refine (hp.next _ secsT 2 1 w1 S1.out).mono ?_
  rintro e w2 ⟨rfl, b2⟩
  rw [e21, j21]
  dsimp only
  have B2 := Lib.hid (B1.out.trans (b2.mono B1.out.size))
  clear b2 e21 j21 S1
  have hy := heap_alloc_self w2 (.cells #[.int .i64 3, .int .i64 0] 25)
  have hb := below_new w2 (.cells #[.int .i64 3, .int .i64 0] 25)
  go_upto_region 2 with fail
  generalize w2.alloc (.cells #[.int .i64 3, .int .i64 0] 25) = q2 at hy hb ⊢
  have BQ := Lib.hid (B2.out.trans (hb.mono B2.out.size))
  have Y2 := Lib.hid hy
  generalize w2.heap.size = p1 at Y2 ⊢
  clear hy hb
  go_wp2_with fail
  refine (three_any q2).mono ?_
  rintro e w3 ⟨A3, c3, rfl, hs3, b3⟩
  have S3 := Lib.hid hs3
  have B3 := Lib.hid (BQ.out.trans (b3.mono BQ.out.size))
  have Y3 := Lib.hid ((b3.block _ (heap_lt Y2.out)).trans Y2.out)
  clear hs3 b3
  go_wp2_with fail
  refine (hp.next _ secsT 1 1 w3 S3.out).mono ?_
  rintro e w4 ⟨rfl, b4⟩
  rw [e11, j11]
  dsimp only
  have B4 := Lib.hid (B3.out.trans (b4.mono B3.out.size))
  have Y4 := Lib.hid ((b4.block _ (heap_lt Y3.out)).trans Y3.out)
  clear b4 e11 j11 S3
  have hy := heap_alloc_self w4 (.cells #[.int .i64 0, .int .i64 0] 25)
  have hb := below_new w4 (.cells #[.int .i64 0, .int .i64 0] 25)
  go_upto_region 3 with fail
  generalize w4.alloc (.cells #[.int .i64 0, .int .i64 0] 25) = q4 at hy hb ⊢
  have BR := Lib.hid (B4.out.trans (hb.mono B4.out.size))
  have Z4 := Lib.hid hy
  have Y5 := Lib.hid ((hb.block _ (heap_lt Y4.out)).trans Y4.out)
  generalize w4.heap.size = p3 at Z4 ⊢
  clear hy hb
  go_wp2_with fail
  refine (three_any q4).mono ?_
  rintro e w5 ⟨A5, c5, rfl, hs5, b5⟩
  have S5 := Lib.hid hs5
  have B5 := Lib.hid (BR.out.trans (b5.mono BR.out.size))
  have Y6 := Lib.hid ((b5.block _ (heap_lt Y5.out)).trans Y5.out)
  have Z6 := Lib.hid ((b5.block _ (heap_lt Z4.out)).trans Z4.out)
  clear hs5 b5
  go_wp2_with fail
  refine (hp.check _ secsT w5 S5.out).mono ?_
  rintro e w6 ⟨rfl, b6⟩
  rw [C.out]
  have B6 := Lib.hid (B5.out.trans (b6.mono B5.out.size))
  obtain ⟨k0, k1⟩ := cell2_of ((b6.block _ (heap_lt Y6.out)).trans Y6.out)
  obtain ⟨m0, m1⟩ := cell2_of ((b6.block _ (heap_lt Z6.out)).trans Z6.out)
  clear b6
  go_wp2_with fail
  go_ret
  exact ⟨rfl, B6.out⟩
end Go.Proofs.Ytnhglgpmmipjaaa
