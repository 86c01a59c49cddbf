/-
  The chapter's plan of layer 9, and what its routes come to.
  Conditions: none.
-/
import Derived.Test.YtjgdgdccnbmbiaaYGPlnRefD
import Derived.Test.YtjgdgdccnbmbiaaYWayProg
set_option linter.unusedVariables false
set_option linter.unusedSimpArgs false
set_option maxRecDepth 100000
namespace Go.Proofs.Ytjgdgdccnbmbiaa
open Go.RowKit

def pR9 : Rt := ⟨9, 4, 6, [2, 3], [], [], 1⟩
def planNine : Pl := ⟨2, 1, pSecs, [(5, 2)], [(4, 1, 0), (6, 3, 1)], [pR, pR9]⟩
theorem pts_nine : PtsMay planNine := by
  refine ⟨by decide, by decide, fun i h => ?_⟩
  match i, h with
  | 0, _ => exact ⟨(show (1 : Int) ≤ 5 by decide), (show (5 : Int) ≤ 99 by decide), fun j hj => by omega, 1, (show 1 < 3 by decide), (show atS pSecs 2 = 1 by decide), (show (5 : Int) = 5 from rfl)⟩
theorem sigs_nine : SigsMay planNine := by
  refine ⟨by decide, fun i h => ?_⟩
  match i, h with
  | 0, _ => exact ⟨(show (1 : Int) ≤ 4 by decide), (show (4 : Int) ≤ 99 by decide), ⟨0, (show 0 < 3 by decide), (show atS pSecs 1 = 0 by decide), (show (0 : Int) ≤ 0 by decide), (show (0 : Int) < ((2 : Nat) : Int) by decide)⟩, fun m hm => by omega⟩
  | 1, _ => exact ⟨(show (1 : Int) ≤ 6 by decide), (show (6 : Int) ≤ 99 by decide), ⟨2, (show 2 < 3 by decide), (show atS pSecs 3 = 2 by decide), (show (0 : Int) ≤ 1 by decide), (show (1 : Int) < ((2 : Nat) : Int) by decide)⟩, fun m hm => by
      match m, hm with
      | 0, _ => exact ⟨(show (4 : Int) < 6 by decide), fun h => absurd (show (1 : Int) = 3 from h.1) (by decide)⟩⟩
theorem secs_nine (i : Nat) (h : i < ([2, 3] ++ [] : List Int).length) : 0 ≤ atS pSecs ([2, 3] ++ [] : List Int)[i] ∧ ∀ m (hm : m < i), ([2, 3] ++ [] : List Int)[m] ≠ ([2, 3] ++ [] : List Int)[i] := by
  match i, h with
  | 0, _ => exact ⟨(show 0 ≤ atS pSecs 2 by decide), fun m hm => by omega⟩
  | 1, _ => exact ⟨(show 0 ≤ atS pSecs 3 by decide), fun m hm => by
      match m, hm with
      | 0, _ => exact (show (2 : Int) ≠ 3 by decide)⟩
theorem entry_nine (i : Nat) (h : i < ([2, 3] ++ [] : List Int).length) : ([2, 3] ++ [] : List Int)[i] ≠ 1 := by
  match i, h with
  | 0, _ => exact (show (2 : Int) ≠ 1 by decide)
  | 1, _ => exact (show (3 : Int) ≠ 1 by decide)
theorem route_eight : RouteMay planNine pR :=
  ⟨⟨0, (show 0 < 2 by decide), (by decide), entry_nine⟩, fun h => absurd rfl h, fun _ => rfl, by decide, by decide, by decide, by decide, secs_nine, fun i h => absurd (show i < 0 from h) (by omega)⟩
theorem route_nine9 : RouteMay planNine pR9 :=
  ⟨⟨0, (show 0 < 2 by decide), (by decide), entry_nine⟩, fun h => ⟨(show 0 ≤ at1 (fun x : Sg => x.1) planNine.sigs 6 by decide), (show (6 : Int) ≠ 4 by decide)⟩, fun h => absurd (show (6 : Int) = 0 from h) (by decide), by decide, by decide, by decide, by decide, secs_nine, fun i h => absurd (show i < 0 from h) (by omega)⟩
theorem may_nine : PlanMay planNine := by
  refine ⟨by decide, by decide, by decide, may_pSecs, pts_nine, sigs_nine, fun i h => ?_⟩
  match i, h with
  | 0, _ => exact ⟨(show (1 : Int) ≤ 8 ∧ (8 : Int) ≤ 99 by decide), fun j hj => by omega, route_eight⟩
  | 1, _ => exact ⟨(show (1 : Int) ≤ 9 ∧ (9 : Int) ≤ 99 by decide), fun j hj => by
      match j, hj with
      | 0, _ => exact (show (8 : Int) < 9 by decide), route_nine9⟩
theorem planMay_nine : planMay planNine = true := planMay_true may_nine
theorem hangs_nine : Hangs planNine pR9 := fun i hi => by
  match i, (show i < 2 from hi) with
  | 0, _ => exact ⟨(2, 0), by decide +kernel, by decide +kernel, by decide +kernel⟩
  | 1, _ => exact ⟨(3, 0), by decide +kernel, by decide +kernel, by decide +kernel⟩
theorem hangs_eight : ¬ Hangs planNine pR := hangs_not (a := 1) (j := (3, 0)) (show 1 < 2 by decide) (by decide +kernel) (fun h => absurd (h.2 (by decide +kernel)) (by decide +kernel))
def wayNine : Wy := ⟨[2, 3], [], [(5, 1, 0)], 1⟩
theorem of_nine : wayE planNine 9 = 0 ∧ wayV planNine 9 = wayNine ∧ leftV planNine 9 = [(2, 1), (3, 1)] := by
  have hn : routeN planNine 9 = pR9 := routeN_at (k := 1) (by decide) (by decide)
  have e : wayE planNine 9 = 0 := by rw [wayE, planMay_nine, if_pos rfl, if_neg (by decide), hn, hangsB_true hangs_nine, if_pos rfl]
  refine ⟨e, ?_, ?_⟩
  · rw [wayV, if_pos e, hn]
    exact wy_eq.2 ⟨by decide +kernel, rfl, rfl, by decide +kernel⟩
  · rw [leftV, if_pos e, hn]
    decide +kernel
theorem of_eight : wayE planNine 8 = 90 ∧ wayV planNine 8 = zWy ∧ leftV planNine 8 = [] := by
  have hn : routeN planNine 8 = pR := routeN_at (k := 0) (by decide) (by decide)
  have e : wayE planNine 8 = 90 := by rw [wayE, planMay_nine, if_pos rfl, if_neg (by decide), hn, hangsB_false hangs_eight]; rfl
  exact ⟨e, by rw [wayV, if_neg (by omega)], by rw [leftV, if_neg (by omega)]⟩
theorem of_seven : wayE planNine 7 = 6 ∧ wayV planNine 7 = zWy := by
  have e : wayE planNine 7 = 6 := by rw [wayE, planMay_nine, if_pos rfl, if_pos (by decide)]
  exact ⟨e, by rw [wayV, if_neg (by omega)]⟩

set_option maxHeartbeats 8000000 in
theorem one9_any (w : World) : Calls Try.prog 10 #[] w fun e w' => ∃ v, e = .returned v ∧ PlanV w' w'.heap.size v planNine ∧ Below w.heap.size w w' := by
  have hq0 := heap_alloc_self w (.cells #[.int .i64 0, .int .i64 0, .slice none 0 0, .slice none 0 0, .slice none 0 0, .slice none 0 0] 31)
  have hqb := below_new w (.cells #[.int .i64 0, .int .i64 0, .slice none 0 0, .slice none 0 0, .slice none 0 0, .slice none 0 0] 31)
  have hqs := heap_alloc_size w (.cells #[.int .i64 0, .int .i64 0, .slice none 0 0, .slice none 0 0, .slice none 0 0, .slice none 0 0] 31)
  go_enter Try.func10, Try.ntmps10
  go_upto_region 1 with fail
  generalize w.alloc (.cells #[.int .i64 0, .int .i64 0, .slice none 0 0, .slice none 0 0, .slice none 0 0, .slice none 0 0] 31) = q at hq0 hqb hqs ⊢
  have QX := Lib.hid hq0
  have QB := Lib.hid hqb
  have QS := Lib.hid hqs
  clear hq0 hqb hqs
  have h1 := heap_alloc_self q (.cells #[.int .i64 2, .int .i64 0, .int .i64 0, .int .i64 0] 41)
  have b1 := below_new q (.cells #[.int .i64 2, .int .i64 0, .int .i64 0, .int .i64 0] 41)
  have s1 := heap_alloc_size q (.cells #[.int .i64 2, .int .i64 0, .int .i64 0, .int .i64 0] 41)
  obtain ⟨w1, e1⟩ : ∃ x, x = q.alloc (.cells #[.int .i64 2, .int .i64 0, .int .i64 0, .int .i64 0] 41) := ⟨_, rfl⟩
  rw [← e1] at h1 b1 s1
  have h2 := heap_alloc_self w1 (.cells #[.int .i64 1, .int .i64 0, .int .i64 3, .int .i64 0, .int .i64 3, .int .i64 1] 41)
  have b2 := below_new w1 (.cells #[.int .i64 1, .int .i64 0, .int .i64 3, .int .i64 0, .int .i64 3, .int .i64 1] 41)
  have s2 := heap_alloc_size w1 (.cells #[.int .i64 1, .int .i64 0, .int .i64 3, .int .i64 0, .int .i64 3, .int .i64 1] 41)
  obtain ⟨w2, e2⟩ : ∃ x, x = w1.alloc (.cells #[.int .i64 1, .int .i64 0, .int .i64 3, .int .i64 0, .int .i64 3, .int .i64 1] 41) := ⟨_, rfl⟩
  rw [← e2] at h2 b2 s2
  have h3 := heap_alloc_self w2 (.cells #[.int .i64 2, .int .i64 1, .int .i64 2, .int .i64 2] 41)
  have b3 := below_new w2 (.cells #[.int .i64 2, .int .i64 1, .int .i64 2, .int .i64 2] 41)
  have s3 := heap_alloc_size w2 (.cells #[.int .i64 2, .int .i64 1, .int .i64 2, .int .i64 2] 41)
  obtain ⟨w3, e3⟩ : ∃ x, x = w2.alloc (.cells #[.int .i64 2, .int .i64 1, .int .i64 2, .int .i64 2] 41) := ⟨_, rfl⟩
  rw [← e3] at h3 b3 s3
  have h4 := heap_alloc_self w3 (.cells #[.int .i64 1, .int .i64 0, .slice (some ⟨q.heap.size, 0, none⟩) 2 2, .int .i64 2, .int .i64 5, .slice (some ⟨q.heap.size + 1, 0, none⟩) 3 3, .int .i64 3, .int .i64 0, .slice (some ⟨q.heap.size + 2, 0, none⟩) 2 2] 70)
  have b4 := below_new w3 (.cells #[.int .i64 1, .int .i64 0, .slice (some ⟨q.heap.size, 0, none⟩) 2 2, .int .i64 2, .int .i64 5, .slice (some ⟨q.heap.size + 1, 0, none⟩) 3 3, .int .i64 3, .int .i64 0, .slice (some ⟨q.heap.size + 2, 0, none⟩) 2 2] 70)
  have s4 := heap_alloc_size w3 (.cells #[.int .i64 1, .int .i64 0, .slice (some ⟨q.heap.size, 0, none⟩) 2 2, .int .i64 2, .int .i64 5, .slice (some ⟨q.heap.size + 1, 0, none⟩) 3 3, .int .i64 3, .int .i64 0, .slice (some ⟨q.heap.size + 2, 0, none⟩) 2 2] 70)
  obtain ⟨w4, e4⟩ : ∃ x, x = w3.alloc (.cells #[.int .i64 1, .int .i64 0, .slice (some ⟨q.heap.size, 0, none⟩) 2 2, .int .i64 2, .int .i64 5, .slice (some ⟨q.heap.size + 1, 0, none⟩) 3 3, .int .i64 3, .int .i64 0, .slice (some ⟨q.heap.size + 2, 0, none⟩) 2 2] 70) := ⟨_, rfl⟩
  rw [← e4] at h4 b4 s4
  have h5 := heap_alloc_self w4 (.cells #[.int .i64 5, .int .i64 2] 81)
  have b5 := below_new w4 (.cells #[.int .i64 5, .int .i64 2] 81)
  have s5 := heap_alloc_size w4 (.cells #[.int .i64 5, .int .i64 2] 81)
  obtain ⟨w5, e5⟩ : ∃ x, x = w4.alloc (.cells #[.int .i64 5, .int .i64 2] 81) := ⟨_, rfl⟩
  rw [← e5] at h5 b5 s5
  have h6 := heap_alloc_self w5 (.cells #[.int .i64 4, .int .i64 1, .int .i64 0, .int .i64 6, .int .i64 3, .int .i64 1] 64)
  have b6 := below_new w5 (.cells #[.int .i64 4, .int .i64 1, .int .i64 0, .int .i64 6, .int .i64 3, .int .i64 1] 64)
  have s6 := heap_alloc_size w5 (.cells #[.int .i64 4, .int .i64 1, .int .i64 0, .int .i64 6, .int .i64 3, .int .i64 1] 64)
  obtain ⟨w6, e6⟩ : ∃ x, x = w5.alloc (.cells #[.int .i64 4, .int .i64 1, .int .i64 0, .int .i64 6, .int .i64 3, .int .i64 1] 64) := ⟨_, rfl⟩
  rw [← e6] at h6 b6 s6
  have h7 := heap_alloc_self w6 (.cells #[.int .i64 2, .int .i64 3] 3)
  have b7 := below_new w6 (.cells #[.int .i64 2, .int .i64 3] 3)
  have s7 := heap_alloc_size w6 (.cells #[.int .i64 2, .int .i64 3] 3)
  obtain ⟨w7, e7⟩ : ∃ x, x = w6.alloc (.cells #[.int .i64 2, .int .i64 3] 3) := ⟨_, rfl⟩
  rw [← e7] at h7 b7 s7
  have h8 := heap_alloc_self w7 (.cells #[.int .i64 2, .int .i64 3] 3)
  have b8 := below_new w7 (.cells #[.int .i64 2, .int .i64 3] 3)
  have s8 := heap_alloc_size w7 (.cells #[.int .i64 2, .int .i64 3] 3)
  obtain ⟨w8, e8⟩ : ∃ x, x = w7.alloc (.cells #[.int .i64 2, .int .i64 3] 3) := ⟨_, rfl⟩
  rw [← e8] at h8 b8 s8
  have h9 := heap_alloc_self w8 (.cells #[.int .i64 8, .int .i64 4, .int .i64 0, .slice (some ⟨q.heap.size + 6, 0, none⟩) 2 2, .slice none 0 0, .slice none 0 0, .int .i64 3, .int .i64 9, .int .i64 4, .int .i64 6, .slice (some ⟨q.heap.size + 7, 0, none⟩) 2 2, .slice none 0 0, .slice none 0 0, .int .i64 1] 60)
  have b9 := below_new w8 (.cells #[.int .i64 8, .int .i64 4, .int .i64 0, .slice (some ⟨q.heap.size + 6, 0, none⟩) 2 2, .slice none 0 0, .slice none 0 0, .int .i64 3, .int .i64 9, .int .i64 4, .int .i64 6, .slice (some ⟨q.heap.size + 7, 0, none⟩) 2 2, .slice none 0 0, .slice none 0 0, .int .i64 1] 60)
  have s9 := heap_alloc_size w8 (.cells #[.int .i64 8, .int .i64 4, .int .i64 0, .slice (some ⟨q.heap.size + 6, 0, none⟩) 2 2, .slice none 0 0, .slice none 0 0, .int .i64 3, .int .i64 9, .int .i64 4, .int .i64 6, .slice (some ⟨q.heap.size + 7, 0, none⟩) 2 2, .slice none 0 0, .slice none 0 0, .int .i64 1] 60)
  obtain ⟨w9, e9⟩ : ∃ x, x = w8.alloc (.cells #[.int .i64 8, .int .i64 4, .int .i64 0, .slice (some ⟨q.heap.size + 6, 0, none⟩) 2 2, .slice none 0 0, .slice none 0 0, .int .i64 3, .int .i64 9, .int .i64 4, .int .i64 6, .slice (some ⟨q.heap.size + 7, 0, none⟩) 2 2, .slice none 0 0, .slice none 0 0, .int .i64 1] 60) := ⟨_, rfl⟩
  rw [← e9] at h9 b9 s9
  have z1 : w1.heap.size = q.heap.size + 1 := by omega
  have z2 : w2.heap.size = q.heap.size + 2 := by omega
  have z3 : w3.heap.size = q.heap.size + 3 := by omega
  have z4 : w4.heap.size = q.heap.size + 4 := by omega
  have z5 : w5.heap.size = q.heap.size + 5 := by omega
  have z6 : w6.heap.size = q.heap.size + 6 := by omega
  have z7 : w7.heap.size = q.heap.size + 7 := by omega
  have z8 : w8.heap.size = q.heap.size + 8 := by omega
  have z9 : w9.heap.size = q.heap.size + 9 := by omega
  have H1 : w9.heap[q.heap.size]? = some (.cells #[.int .i64 2, .int .i64 0, .int .i64 0, .int .i64 0] 41 (0, 0)) := by exact ((b9.block _ (by omega)).trans (((b8.block _ (by omega)).trans (((b7.block _ (by omega)).trans (((b6.block _ (by omega)).trans (((b5.block _ (by omega)).trans (((b4.block _ (by omega)).trans (((b3.block _ (by omega)).trans (((b2.block _ (by omega)).trans (h1))))))))))))))))
  have H2 : w9.heap[q.heap.size + 1]? = some (.cells #[.int .i64 1, .int .i64 0, .int .i64 3, .int .i64 0, .int .i64 3, .int .i64 1] 41 (0, 0)) := by rw [z1] at h2; exact ((b9.block _ (by omega)).trans (((b8.block _ (by omega)).trans (((b7.block _ (by omega)).trans (((b6.block _ (by omega)).trans (((b5.block _ (by omega)).trans (((b4.block _ (by omega)).trans (((b3.block _ (by omega)).trans (h2))))))))))))))
  have H3 : w9.heap[q.heap.size + 2]? = some (.cells #[.int .i64 2, .int .i64 1, .int .i64 2, .int .i64 2] 41 (0, 0)) := by rw [z2] at h3; exact ((b9.block _ (by omega)).trans (((b8.block _ (by omega)).trans (((b7.block _ (by omega)).trans (((b6.block _ (by omega)).trans (((b5.block _ (by omega)).trans (((b4.block _ (by omega)).trans (h3))))))))))))
  have H4 : w9.heap[q.heap.size + 3]? = some (.cells #[.int .i64 1, .int .i64 0, .slice (some ⟨q.heap.size, 0, none⟩) 2 2, .int .i64 2, .int .i64 5, .slice (some ⟨q.heap.size + 1, 0, none⟩) 3 3, .int .i64 3, .int .i64 0, .slice (some ⟨q.heap.size + 2, 0, none⟩) 2 2] 70 (0, 0)) := by rw [z3] at h4; exact ((b9.block _ (by omega)).trans (((b8.block _ (by omega)).trans (((b7.block _ (by omega)).trans (((b6.block _ (by omega)).trans (((b5.block _ (by omega)).trans (h4))))))))))
  have H5 : w9.heap[q.heap.size + 4]? = some (.cells #[.int .i64 5, .int .i64 2] 81 (0, 0)) := by rw [z4] at h5; exact ((b9.block _ (by omega)).trans (((b8.block _ (by omega)).trans (((b7.block _ (by omega)).trans (((b6.block _ (by omega)).trans (h5))))))))
  have H6 : w9.heap[q.heap.size + 5]? = some (.cells #[.int .i64 4, .int .i64 1, .int .i64 0, .int .i64 6, .int .i64 3, .int .i64 1] 64 (0, 0)) := by rw [z5] at h6; exact ((b9.block _ (by omega)).trans (((b8.block _ (by omega)).trans (((b7.block _ (by omega)).trans (h6))))))
  have H7 : w9.heap[q.heap.size + 6]? = some (.cells #[.int .i64 2, .int .i64 3] 3 (0, 0)) := by rw [z6] at h7; exact ((b9.block _ (by omega)).trans (((b8.block _ (by omega)).trans (h7))))
  have H8 : w9.heap[q.heap.size + 7]? = some (.cells #[.int .i64 2, .int .i64 3] 3 (0, 0)) := by rw [z7] at h8; exact ((b9.block _ (by omega)).trans (h8))
  have H9 : w9.heap[q.heap.size + 8]? = some (.cells #[.int .i64 8, .int .i64 4, .int .i64 0, .slice (some ⟨q.heap.size + 6, 0, none⟩) 2 2, .slice none 0 0, .slice none 0 0, .int .i64 3, .int .i64 9, .int .i64 4, .int .i64 6, .slice (some ⟨q.heap.size + 7, 0, none⟩) 2 2, .slice none 0 0, .slice none 0 0, .int .i64 1] 60 (0, 0)) := by rw [z8] at h9; exact h9
  have H0 : w9.heap[w.heap.size]? = some (.cells #[.int .i64 0, .int .i64 0, .slice none 0 0, .slice none 0 0, .slice none 0 0, .slice none 0 0] 31 (0, 0)) := ((b9.block _ (by have := QS.out; omega)).trans (((b8.block _ (by have := QS.out; omega)).trans (((b7.block _ (by have := QS.out; omega)).trans (((b6.block _ (by have := QS.out; omega)).trans (((b5.block _ (by have := QS.out; omega)).trans (((b4.block _ (by have := QS.out; omega)).trans (((b3.block _ (by have := QS.out; omega)).trans (((b2.block _ (by have := QS.out; omega)).trans (((b1.block _ (by have := QS.out; omega)).trans (QX.out))))))))))))))))))
  have hbq : Below w.heap.size w w9 := by
    refine QB.out.trans (Below.mono ?_ QB.out.size)
    have c1 := b1
    have c2 := c1.trans (b2.mono (show q.heap.size ≤ w1.heap.size by omega))
    have c3 := c2.trans (b3.mono (show q.heap.size ≤ w2.heap.size by omega))
    have c4 := c3.trans (b4.mono (show q.heap.size ≤ w3.heap.size by omega))
    have c5 := c4.trans (b5.mono (show q.heap.size ≤ w4.heap.size by omega))
    have c6 := c5.trans (b6.mono (show q.heap.size ≤ w5.heap.size by omega))
    have c7 := c6.trans (b7.mono (show q.heap.size ≤ w6.heap.size by omega))
    have c8 := c7.trans (b8.mono (show q.heap.size ≤ w7.heap.size by omega))
    have c9 := c8.trans (b9.mono (show q.heap.size ≤ w8.heap.size by omega))
    exact c9
  have H0' : (((((((((q.alloc (.cells #[.int .i64 2, .int .i64 0, .int .i64 0, .int .i64 0] 41)).alloc (.cells #[.int .i64 1, .int .i64 0, .int .i64 3, .int .i64 0, .int .i64 3, .int .i64 1] 41)).alloc (.cells #[.int .i64 2, .int .i64 1, .int .i64 2, .int .i64 2] 41)).alloc (.cells #[.int .i64 1, .int .i64 0, .slice (some ⟨q.heap.size, 0, none⟩) 2 2, .int .i64 2, .int .i64 5, .slice (some ⟨q.heap.size + 1, 0, none⟩) 3 3, .int .i64 3, .int .i64 0, .slice (some ⟨q.heap.size + 2, 0, none⟩) 2 2] 70)).alloc (.cells #[.int .i64 5, .int .i64 2] 81)).alloc (.cells #[.int .i64 4, .int .i64 1, .int .i64 0, .int .i64 6, .int .i64 3, .int .i64 1] 64)).alloc (.cells #[.int .i64 2, .int .i64 3] 3)).alloc (.cells #[.int .i64 2, .int .i64 3] 3)).alloc (.cells #[.int .i64 8, .int .i64 4, .int .i64 0, .slice (some ⟨q.heap.size + 6, 0, none⟩) 2 2, .slice none 0 0, .slice none 0 0, .int .i64 3, .int .i64 9, .int .i64 4, .int .i64 6, .slice (some ⟨q.heap.size + 7, 0, none⟩) 2 2, .slice none 0 0, .slice none 0 0, .int .i64 1] 60)).heap[w.heap.size]? = some (.cells #[.int .i64 0, .int .i64 0, .slice none 0 0, .slice none 0 0, .slice none 0 0, .slice none 0 0] 31 (0, 0)) := by rw [← e1, ← e2, ← e3, ← e4, ← e5, ← e6, ← e7, ← e8, ← e9]; exact H0
  have HH0 := Lib.hid H0'
  have E : Hid ((((((((((q.alloc (.cells #[.int .i64 2, .int .i64 0, .int .i64 0, .int .i64 0] 41)).alloc (.cells #[.int .i64 1, .int .i64 0, .int .i64 3, .int .i64 0, .int .i64 3, .int .i64 1] 41)).alloc (.cells #[.int .i64 2, .int .i64 1, .int .i64 2, .int .i64 2] 41)).alloc (.cells #[.int .i64 1, .int .i64 0, .slice (some ⟨q.heap.size, 0, none⟩) 2 2, .int .i64 2, .int .i64 5, .slice (some ⟨q.heap.size + 1, 0, none⟩) 3 3, .int .i64 3, .int .i64 0, .slice (some ⟨q.heap.size + 2, 0, none⟩) 2 2] 70)).alloc (.cells #[.int .i64 5, .int .i64 2] 81)).alloc (.cells #[.int .i64 4, .int .i64 1, .int .i64 0, .int .i64 6, .int .i64 3, .int .i64 1] 64)).alloc (.cells #[.int .i64 2, .int .i64 3] 3)).alloc (.cells #[.int .i64 2, .int .i64 3] 3)).alloc (.cells #[.int .i64 8, .int .i64 4, .int .i64 0, .slice (some ⟨q.heap.size + 6, 0, none⟩) 2 2, .slice none 0 0, .slice none 0 0, .int .i64 3, .int .i64 9, .int .i64 4, .int .i64 6, .slice (some ⟨q.heap.size + 7, 0, none⟩) 2 2, .slice none 0 0, .slice none 0 0, .int .i64 1] 60)) = w9) := Lib.hid (by rw [← e1, ← e2, ← e3, ← e4, ← e5, ← e6, ← e7, ← e8, ← e9])
  have K1 := Lib.hid H1
  have K2 := Lib.hid H2
  have K3 := Lib.hid H3
  have K4 := Lib.hid H4
  have K5 := Lib.hid H5
  have K6 := Lib.hid H6
  have K7 := Lib.hid H7
  have K8 := Lib.hid H8
  have K9 := Lib.hid H9
  have K0 := Lib.hid H0
  have KB := Lib.hid hbq
  clear H0 H0' hbq H1 H2 H3 H4 H5 H6 H7 H8 H9 h1 b1 s1 z1 h2 b2 s2 z2 h3 b3 s3 z3 h4 b4 s4 z4 h5 b5 s5 z5 h6 b6 s6 z6 h7 b7 s7 z7 h8 b8 s8 z8 h9 b9 s9 z9 e1 e2 e3 e4 e5 e6 e7 e8 e9
  go_wp2_with ((with_reducible show wpList _ _ _ (⟨none, _, _, _, _, _⟩ :: _) _ _); refine wpList_store_rowS rfl _ (.tmp 0) (.tmp 25) rfl w.heap.size rfl (c' := #[.int .i64 2, .int .i64 1, .slice (some ⟨q.heap.size + 3, 0, none⟩) 3 3, .slice (some ⟨q.heap.size + 4, 0, none⟩) 1 1, .slice (some ⟨q.heap.size + 5, 0, none⟩) 2 2, .slice (some ⟨q.heap.size + 8, 0, none⟩) 2 2]) rfl HH0.out infoPlan6 rfl (by simp [Value.oneCell']) ?_; rw [E.out])
  have hg := grownBy_setRow w9 w.heap.size #[.int .i64 2, .int .i64 1, .slice (some ⟨q.heap.size + 3, 0, none⟩) 3 3, .slice (some ⟨q.heap.size + 4, 0, none⟩) 1 1, .slice (some ⟨q.heap.size + 5, 0, none⟩) 2 2, .slice (some ⟨q.heap.size + 8, 0, none⟩) 2 2]
  have hneq : ∀ k, q.heap.size ≤ k → k ≠ w.heap.size := fun k hk => by have := QS.out; omega
  have KK : ∀ (b : Nat) (c : Array Value) (t : TypeId), q.heap.size ≤ b → w9.heap[b]? = some (.cells c t (0, 0)) → (w9.setRow w.heap.size #[.int .i64 2, .int .i64 1, .slice (some ⟨q.heap.size + 3, 0, none⟩) 3 3, .slice (some ⟨q.heap.size + 4, 0, none⟩) 1 1, .slice (some ⟨q.heap.size + 5, 0, none⟩) 2 2, .slice (some ⟨q.heap.size + 8, 0, none⟩) 2 2]).heap[b]? = some (.cells c t (0, 0)) := fun b c t hb h => (hg.block b (heap_lt h) (fun e => hneq b hb (by injection e))).trans h
  refine bodyPost_ret (results_cell_row rfl _ _ w.heap.size 31 #[.int .i64 2, .int .i64 1, .slice (some ⟨q.heap.size + 3, 0, none⟩) 3 3, .slice (some ⟨q.heap.size + 4, 0, none⟩) 1 1, .slice (some ⟨q.heap.size + 5, 0, none⟩) 2 2, .slice (some ⟨q.heap.size + 8, 0, none⟩) 2 2] (0, 0) _ rfl (setRow_heap _ _ _ _ _ _ K0.out) Try.underlying31 rfl infoPlan6) rfl ⟨_, rfl, ?_, below_setRow KB.out (Nat.le_refl _) _⟩
  have F1 := KK _ _ _ (by omega) K1.out
  have F2 := KK _ _ _ (by omega) K2.out
  have F3 := KK _ _ _ (by omega) K3.out
  have F4 := KK _ _ _ (by omega) K4.out
  have F5 := KK _ _ _ (by omega) K5.out
  have F6 := KK _ _ _ (by omega) K6.out
  have F7 := KK _ _ _ (by omega) K7.out
  have F8 := KK _ _ _ (by omega) K8.out
  have F9 := KK _ _ _ (by omega) K9.out
  generalize w9.setRow w.heap.size #[.int .i64 2, .int .i64 1, .slice (some ⟨q.heap.size + 3, 0, none⟩) 3 3, .slice (some ⟨q.heap.size + 4, 0, none⟩) 1 1, .slice (some ⟨q.heap.size + 5, 0, none⟩) 2 2, .slice (some ⟨q.heap.size + 8, 0, none⟩) 2 2] = W at F1 F2 F3 F4 F5 F6 F7 F8 F9 ⊢
  clear hg KK
  have cj : ∀ (b : Nat) (c : Array Value) (t : TypeId) (j : Nat) (v : Value), W.heap[b]? = some (.cells c t (0, 0)) → c[j]? = some v → W.cell? ⟨b, j, none⟩ = some v := fun b c t j v h hv => by rw [cell_of_row _ _ _ _ _ _ h]; exact hv
  have J1 : JoinsIn W W.heap.size (.slice (some ⟨q.heap.size, 0, none⟩) 2 2) pS1.2.2 := list_row (l := [(2, 0), (0, 0)]) F1 (by decide) (fun j hj => by
    match j, hj with
    | 0, _ => exact ⟨cj _ _ _ 0 _ F1 rfl, cj _ _ _ 1 _ F1 rfl⟩
    | 1, _ => exact ⟨cj _ _ _ 2 _ F1 rfl, cj _ _ _ 3 _ F1 rfl⟩)
  have J2 : JoinsIn W W.heap.size (.slice (some ⟨q.heap.size + 1, 0, none⟩) 3 3) pS2.2.2 := list_row (l := [(1, 0), (3, 0), (3, 1)]) F2 (by decide) (fun j hj => by
    match j, hj with
    | 0, _ => exact ⟨cj _ _ _ 0 _ F2 rfl, cj _ _ _ 1 _ F2 rfl⟩
    | 1, _ => exact ⟨cj _ _ _ 2 _ F2 rfl, cj _ _ _ 3 _ F2 rfl⟩
    | 2, _ => exact ⟨cj _ _ _ 4 _ F2 rfl, cj _ _ _ 5 _ F2 rfl⟩)
  have J3 : JoinsIn W W.heap.size (.slice (some ⟨q.heap.size + 2, 0, none⟩) 2 2) pS3.2.2 := list_row (l := [(2, 1), (2, 2)]) F3 (by decide) (fun j hj => by
    match j, hj with
    | 0, _ => exact ⟨cj _ _ _ 0 _ F3 rfl, cj _ _ _ 1 _ F3 rfl⟩
    | 1, _ => exact ⟨cj _ _ _ 2 _ F3 rfl, cj _ _ _ 3 _ F3 rfl⟩)
  have SS : SectsIn W W.heap.size (.slice (some ⟨q.heap.size + 3, 0, none⟩) 3 3) pSecs := list_row (l := pSecs) F4 (by decide) (fun j hj => by
    match j, hj with
    | 0, _ => exact ⟨cj _ _ _ 0 _ F4 rfl, cj _ _ _ 1 _ F4 rfl, _, cj _ _ _ 2 _ F4 rfl, J1⟩
    | 1, _ => exact ⟨cj _ _ _ 3 _ F4 rfl, cj _ _ _ 4 _ F4 rfl, _, cj _ _ _ 5 _ F4 rfl, J2⟩
    | 2, _ => exact ⟨cj _ _ _ 6 _ F4 rfl, cj _ _ _ 7 _ F4 rfl, _, cj _ _ _ 8 _ F4 rfl, J3⟩)
  have PP : JoinsIn W W.heap.size (.slice (some ⟨q.heap.size + 4, 0, none⟩) 1 1) [(5, 2)] := list_row (l := [(5, 2)]) F5 (by decide) (fun j hj => by
    match j, hj with
    | 0, _ => exact ⟨cj _ _ _ 0 _ F5 rfl, cj _ _ _ 1 _ F5 rfl⟩)
  have GG : SigsIn W W.heap.size (.slice (some ⟨q.heap.size + 5, 0, none⟩) 2 2) [(4, 1, 0), (6, 3, 1)] := list_row (l := [(4, 1, 0), (6, 3, 1)]) F6 (by decide) (fun j hj => by
    match j, hj with
    | 0, _ => exact ⟨cj _ _ _ 0 _ F6 rfl, cj _ _ _ 1 _ F6 rfl, cj _ _ _ 2 _ F6 rfl⟩
    | 1, _ => exact ⟨cj _ _ _ 3 _ F6 rfl, cj _ _ _ 4 _ F6 rfl, cj _ _ _ 5 _ F6 rfl⟩)
  have PA : IntsIn W W.heap.size (.slice (some ⟨q.heap.size + 6, 0, none⟩) 2 2) [2, 3] := ints2_of F7
  have PB : IntsIn W W.heap.size (.slice (some ⟨q.heap.size + 7, 0, none⟩) 2 2) [2, 3] := ints2_of F8
  have RR : RoutesIn W W.heap.size (.slice (some ⟨q.heap.size + 8, 0, none⟩) 2 2) [pR, pR9] := list_row (l := [pR, pR9]) F9 (by decide) (fun j hj => by
    match j, hj with
    | 0, _ => exact ⟨cj _ _ _ 0 _ F9 rfl, cj _ _ _ 1 _ F9 rfl, cj _ _ _ 2 _ F9 rfl, cj _ _ _ 6 _ F9 rfl, _, _, _, cj _ _ _ 3 _ F9 rfl, cj _ _ _ 4 _ F9 rfl, cj _ _ _ 5 _ F9 rfl, ⟨PA, ListIn.nil_, ListIn.nil_⟩⟩
    | 1, _ => exact ⟨cj _ _ _ 7 _ F9 rfl, cj _ _ _ 8 _ F9 rfl, cj _ _ _ 9 _ F9 rfl, cj _ _ _ 13 _ F9 rfl, _, _, _, cj _ _ _ 10 _ F9 rfl, cj _ _ _ 11 _ F9 rfl, cj _ _ _ 12 _ F9 rfl, ⟨PB, ListIn.nil_, ListIn.nil_⟩⟩)
  exact ⟨_, _, _, _, rfl, ⟨SS, PP, GG, RR⟩⟩
end Go.Proofs.Ytjgdgdccnbmbiaa

/-
  The chapter's first examples hold, given the program's contracts.
  Conditions: none.
-/
set_option linter.unusedVariables false
set_option linter.unusedSimpArgs false
set_option maxRecDepth 100000
namespace Go.Proofs.Ytjgdgdccnbmbiaa
open Go.RowKit

set_option maxHeartbeats 8000000 in
theorem alive9 (hp : WaySaid) (w : World) : Calls Try.prog 12 #[] w fun e w' => e = .returned (.bool true) ∧ Below w.heap.size w w' := by
  go_enter Try.func12, Try.ntmps12
  go_wp2_with fail
  refine (one9_any _).mono ?_
  rintro e wa1 ⟨va1, rfl, hv1, ba1⟩
  go_wp2_with fail
  refine (hp.of va1 planNine 9 wa1 hv1).mono ?_
  rintro e wb1 ⟨u0, u1, u2, rfl, hu, bb1⟩
  rw [of_nine.2.1] at hu
  rw [of_nine.1, of_nine.2.1, show wayNine.near = 1 from rfl]
  obtain ⟨A0, d0, rfl⟩ := hu.path.slice
  obtain ⟨A1, d1, rfl⟩ := hu.over.slice
  obtain ⟨A2, d2, rfl⟩ := hu.asks.slice
  have HU0 : Hid (WyOwn wb1 wa1.heap.size (.slice A0 2 d0) (.slice A1 0 d1) (.slice A2 1 d2) wayNine) := Lib.hid hu
  have B0 := Lib.hid (ba1.trans (bb1.mono ba1.size))
  clear hu hv1 ba1 bb1
  have XX0 := heap_alloc_self wb1 (.cells #[.slice none 0 0, .slice none 0 0, .slice none 0 0, .int .i64 0] 36)
  have hz0 := below_setRow (below_new wb1 (.cells #[.slice none 0 0, .slice none 0 0, .slice none 0 0, .int .i64 0] 36)) (Nat.le_refl _) #[.slice A0 2 d0, .slice A1 0 d1, .slice A2 1 d2, .int .i64 1]
  have hz1 := setRow_heap (wb1.alloc (.cells #[.slice none 0 0, .slice none 0 0, .slice none 0 0, .int .i64 0] 36)) wb1.heap.size _ #[.slice A0 2 d0, .slice A1 0 d1, .slice A2 1 d2, .int .i64 1] 36 _ XX0
  go_upto_region 2 with ((with_reducible show wpList _ _ _ (⟨none, _, _, _, _, _⟩ :: _) _ _); refine wpList_store_rowS rfl _ (.tmp 1) (.tmp 8) rfl wb1.heap.size rfl (c' := #[.slice A0 2 d0, .slice A1 0 d1, .slice A2 1 d2, .int .i64 1]) rfl XX0 infoWay4 rfl (by simp [Value.oneCell']) ?_)
  generalize (wb1.alloc (.cells #[.slice none 0 0, .slice none 0 0, .slice none 0 0, .int .i64 0] 36)).setRow wb1.heap.size #[.slice A0 2 d0, .slice A1 0 d1, .slice A2 1 d2, .int .i64 1] = q1 at hz0 hz1 ⊢
  obtain ⟨p1, hp1⟩ : ∃ n, n = wb1.heap.size := ⟨_, rfl⟩
  rw [← hp1] at hz1 ⊢
  have X1 := Lib.hid hz1
  have U1 := Lib.hid (HU0.out.below hz0)
  have B1 := Lib.hid (B0.out.trans (hz0.mono B0.out.size))
  clear hz0 hz1 XX0 hp1 HU0 B0
  go_wp2_with fail
  refine (one9_any _).mono ?_
  rintro e wa2 ⟨va2, rfl, hv2, ba2⟩
  go_wp2_with fail
  refine (hp.of va2 planNine 8 wa2 hv2).mono ?_
  rintro e wb2 ⟨u0, u1, u2, rfl, hu, bb2⟩
  rw [of_eight.2.1] at hu
  rw [of_eight.1, of_eight.2.1, show zWy.near = 0 from rfl]
  obtain ⟨C0, f0, rfl⟩ := hu.path.slice
  obtain ⟨C1, f1, rfl⟩ := hu.over.slice
  obtain ⟨C2, f2, rfl⟩ := hu.asks.slice
  have bc := ba2.trans (bb2.mono ba2.size)
  have X1b := Lib.hid ((bc.block _ (heap_lt X1.out)).trans X1.out)
  have U1b := Lib.hid (U1.out.below bc)
  have B1b := Lib.hid (B1.out.trans (bc.mono B1.out.size))
  clear hu hv2 ba2 bb2 bc X1 U1 B1
  have XX0 := heap_alloc_self wb2 (.cells #[.slice none 0 0, .slice none 0 0, .slice none 0 0, .int .i64 0] 36)
  have hz0 := below_setRow (below_new wb2 (.cells #[.slice none 0 0, .slice none 0 0, .slice none 0 0, .int .i64 0] 36)) (Nat.le_refl _) #[.slice C0 0 f0, .slice C1 0 f1, .slice C2 0 f2, .int .i64 0]
  have hz1 := setRow_heap (wb2.alloc (.cells #[.slice none 0 0, .slice none 0 0, .slice none 0 0, .int .i64 0] 36)) wb2.heap.size _ #[.slice C0 0 f0, .slice C1 0 f1, .slice C2 0 f2, .int .i64 0] 36 _ XX0
  go_upto_region 3 with ((with_reducible show wpList _ _ _ (⟨none, _, _, _, _, _⟩ :: _) _ _); refine wpList_store_rowS rfl _ (.tmp 3) (.tmp 13) rfl wb2.heap.size rfl (c' := #[.slice C0 0 f0, .slice C1 0 f1, .slice C2 0 f2, .int .i64 0]) rfl XX0 infoWay4 rfl (by simp [Value.oneCell']) ?_)
  generalize (wb2.alloc (.cells #[.slice none 0 0, .slice none 0 0, .slice none 0 0, .int .i64 0] 36)).setRow wb2.heap.size #[.slice C0 0 f0, .slice C1 0 f1, .slice C2 0 f2, .int .i64 0] = q2 at hz0 hz1 ⊢
  obtain ⟨p3, hp3⟩ : ∃ n, n = wb2.heap.size := ⟨_, rfl⟩
  rw [← hp3] at hz1 ⊢
  have X2 := Lib.hid ((hz0.block _ (heap_lt X1b.out)).trans X1b.out)
  have U2 := Lib.hid (U1b.out.below hz0)
  have B2 := Lib.hid (B1b.out.trans (hz0.mono B1b.out.size))
  clear hz0 hz1 XX0 hp3 X1b U1b B1b
  obtain ⟨k0, k1, k2, k3⟩ := cell4_of X2.out
  obtain ⟨w5, e5⟩ : ∃ x, x = q2.alloc (.cells #[.int .i64 2, .int .i64 3] 3) := ⟨_, rfl⟩
  have h5 := heap_alloc_self q2 (.cells #[.int .i64 2, .int .i64 3] 3)
  have b5 := below_new q2 (.cells #[.int .i64 2, .int .i64 3] 3)
  have s5 := heap_alloc_size q2 (.cells #[.int .i64 2, .int .i64 3] 3)
  rw [← e5] at h5 b5 s5
  have h6 := heap_alloc_self w5 (.cells #[.int .i64 5, .int .i64 1, .int .i64 0] 79)
  have b6 := below_new w5 (.cells #[.int .i64 5, .int .i64 1, .int .i64 0] 79)
  obtain ⟨w6, e6⟩ : ∃ x, x = w5.alloc (.cells #[.int .i64 5, .int .i64 1, .int .i64 0] 79) := ⟨_, rfl⟩
  rw [← e6] at h6 b6
  rw [s5] at h6
  have H5 := (b6.block _ (heap_lt h5)).trans h5
  have HPA : Hid (IntsIn w6 w6.heap.size (.slice (some ⟨q2.heap.size, 0, none⟩) 2 2) [2, 3]) := Lib.hid (ints2_of H5)
  have HAS : Hid (AsksIn w6 w6.heap.size (.slice (some ⟨q2.heap.size + 1, 0, none⟩) 1 1) [(5, 1, 0)]) := Lib.hid (list_row (l := [(5, 1, 0)]) h6 (by decide) (fun j hj => by
    match j, hj with
    | 0, _ => exact ⟨row_cj _ _ _ 0 _ h6 rfl, row_cj _ _ _ 1 _ h6 rfl, row_cj _ _ _ 2 _ h6 rfl⟩))
  have b56 := b5.trans (b6.mono b5.size)
  have U6 := Lib.hid (U2.out.below b56)
  have B6 := Lib.hid (B2.out.trans (b56.mono B2.out.size))
  have E6 : Hid ((q2.alloc (.cells #[.int .i64 2, .int .i64 3] 3)).alloc (.cells #[.int .i64 5, .int .i64 1, .int .i64 0] 79) = w6) := Lib.hid (by rw [← e5, ← e6])
  clear h5 h6 H5 b5 b6 b56 s5 e5 e6
  go_wp2_with fail
  rw [E6.out]
  refine (hp.same _ _ wayNine wayNine w6 ⟨_, _, _, rfl, U6.out.in_⟩ ⟨_, _, _, rfl, HPA.out, ListIn.nil_, HAS.out⟩).mono ?_
  rintro e w7 ⟨rfl, b7⟩
  rw [eqB_true rfl]
  have B7 := Lib.hid (B6.out.trans (b7.mono B6.out.size))
  clear b7
  go_wp2_with fail
  go_ret
  exact ⟨rfl, B7.out⟩
end Go.Proofs.Ytjgdgdccnbmbiaa
