/-
  The chapter's plan.
  Conditions: none.
-/
import Derived.Test.YthlolpflgninjaaPlnProg
set_option linter.unusedVariables false
set_option linter.unusedSimpArgs false
set_option maxRecDepth 100000
namespace Go.Proofs.Ythlolpflgninjaa
open Go.RowKit

def pS1 : Sec := (1, 0, [(2, 0), (0, 0)])
def pS2 : Sec := (2, 5, [(1, 0), (3, 0), (3, 1)])
def pS3 : Sec := (3, 0, [(2, 1), (2, 2)])
def pSecs : List Sec := [pS1, pS2, pS3]
def pR : Rt := ⟨8, 4, 0, [2, 3], [], [], 3⟩
def planOne : Pl := ⟨2, 1, pSecs, [(5, 2)], [(4, 1, 0)], [pR]⟩
theorem may_pSecs : TMay pSecs := by
  refine ⟨by decide, fun i h => ?_, fun i j hj hi => ?_, fun i k hi hk => ?_⟩
  · match i, h with
    | 0, _ => exact (show (1 : Int) ≤ pS1.1 ∧ pS1.1 ≤ 99 ∧ shapedB pS1 = true from ⟨by decide, by decide, by decide⟩)
    | 1, _ => exact (show (1 : Int) ≤ pS2.1 ∧ pS2.1 ≤ 99 ∧ shapedB pS2 = true from ⟨by decide, by decide, by decide⟩)
    | 2, _ => exact (show (1 : Int) ≤ pS3.1 ∧ pS3.1 ≤ 99 ∧ shapedB pS3 = true from ⟨by decide, by decide, by decide⟩)
  · match i, j, hj, hi with
    | 1, 0, _, _ => exact (show pS1.1 < pS2.1 ∧ ¬ (pS2.2.1 ≠ 0 ∧ pS1.2.1 = pS2.2.1) from ⟨by decide, by decide⟩)
    | 2, 0, _, _ => exact (show pS1.1 < pS3.1 ∧ ¬ (pS3.2.1 ≠ 0 ∧ pS1.2.1 = pS3.2.1) from ⟨by decide, by decide⟩)
    | 2, 1, _, _ => exact (show pS2.1 < pS3.1 ∧ ¬ (pS3.2.1 ≠ 0 ∧ pS2.2.1 = pS3.2.1) from ⟨by decide, by decide⟩)
  · match i, k, hi, hk with
    | 0, 0, _, _ => exact (show joinedB pSecs pS1 0 = true by decide)
    | 0, 1, _, _ => exact (show joinedB pSecs pS1 1 = true by decide)
    | 1, 0, _, _ => exact (show joinedB pSecs pS2 0 = true by decide)
    | 1, 1, _, _ => exact (show joinedB pSecs pS2 1 = true by decide)
    | 1, 2, _, _ => exact (show joinedB pSecs pS2 2 = true by decide)
    | 2, 0, _, _ => exact (show joinedB pSecs pS3 0 = true by decide)
    | 2, 1, _, _ => exact (show joinedB pSecs pS3 1 = true by decide)
theorem pts_one : PtsMay planOne := by
  refine ⟨by decide, by decide, fun i h => ?_⟩
  match i, h with
  | 0, _ => exact ⟨(show (1 : Int) ≤ 5 by decide), (show (5 : Int) ≤ 99 by decide), fun j hj => by omega, 1, (show 1 < 3 by decide), (show atS pSecs 2 = 1 by decide), (show (5 : Int) = 5 from rfl)⟩
theorem sigs_one : SigsMay planOne := by
  refine ⟨by decide, fun i h => ?_⟩
  match i, h with
  | 0, _ => exact ⟨(show (1 : Int) ≤ 4 by decide), (show (4 : Int) ≤ 99 by decide), ⟨0, (show 0 < 3 by decide), (show atS pSecs 1 = 0 by decide), (show (0 : Int) ≤ 0 by decide), (show (0 : Int) < ((2 : Nat) : Int) by decide)⟩, fun m hm => by omega⟩
theorem route_one : RouteMay planOne pR := by
  refine ⟨⟨0, (show 0 < 1 by decide), by decide, fun i h => ?_⟩, fun h => absurd rfl h, fun _ => rfl, by decide, by decide, by decide, by decide, fun i h => ?_, fun i h => absurd (show i < 0 from h) (by omega)⟩
  · match i, h with
    | 0, _ => exact (show (2 : Int) ≠ 1 by decide)
    | 1, _ => exact (show (3 : Int) ≠ 1 by decide)
  · match i, h with
    | 0, _ => exact ⟨(show 0 ≤ atS pSecs 2 by decide), fun m hm => by omega⟩
    | 1, _ => exact ⟨(show 0 ≤ atS pSecs 3 by decide), fun m hm => by
        match m, hm with
        | 0, _ => exact (show (2 : Int) ≠ 3 by decide)⟩
theorem may_one : PlanMay planOne := by
  refine ⟨by decide, by decide, by decide, may_pSecs, pts_one, sigs_one, fun i h => ?_⟩
  match i, h with
  | 0, _ => exact ⟨(show (1 : Int) ≤ 8 ∧ (8 : Int) ≤ 99 by decide), fun j hj => by omega, route_one⟩
theorem planMay_one : planMay planOne = true := planMay_true may_one
theorem chk_one : chk8 planOne = 0 := by rw [chk8, planMay_one]; rfl
theorem point_one : elE planOne kPt planOne.pts 5 = 0 ∧ elV planOne kPt planOne.pts 5 (0, 0) = (5, 2) := elE_some planMay_one (i := 0) (by decide) (by decide)
theorem signal_one : elE planOne kSg planOne.sigs 4 = 0 ∧ elV planOne kSg planOne.sigs 4 (0, 0, 0) = (4, 1, 0) := elE_some planMay_one (i := 0) (by decide) (by decide)
theorem route_nine : elE planOne kRt planOne.routes 9 = 6 ∧ elV planOne kRt planOne.routes 9 zRt = zRt := elE_none planMay_one (by decide)
theorem next_p (id k : Int) (E : Int) (h : (if atS pSecs id < 0 then (6 : Int) else if k < 0 ∨ ((pSecs.getD (atS pSecs id).toNat (0, 0, [])).2.2.length : Int) ≤ k then 2 else 0) = E) : nextE7 pSecs id k = E := by
  have hm := mayT_true may_pSecs
  rw [nextE7, findS7, findE7, hm, if_pos rfl]
  by_cases h0 : atS pSecs id < 0
  · rw [if_pos h0] at h ⊢
    rw [if_neg (by decide)]; exact h
  · rw [if_neg h0] at h ⊢
    rw [if_pos rfl, if_pos rfl]; exact h
theorem stands_one : stE planOne 1 0 = 0 ∧ stN planOne 1 0 = 4 := by
  have e : stE planOne 1 0 = 0 := by rw [stE, planMay_one, if_pos rfl]; exact next_p 1 0 0 (by decide)
  exact ⟨e, by rw [stN, e, if_pos rfl]; decide⟩
theorem stands_two : stE planOne 2 0 = 0 ∧ stN planOne 2 0 = 0 := by
  have e : stE planOne 2 0 = 0 := by rw [stE, planMay_one, if_pos rfl]; exact next_p 2 0 0 (by decide)
  exact ⟨e, by rw [stN, e, if_pos rfl]; decide⟩
theorem stands_nine : stE planOne 9 0 = 6 := by rw [stE, planMay_one, if_pos rfl]; exact next_p 9 0 6 (by decide)
theorem stands_arg : stE planOne 1 2 = 2 := by rw [stE, planMay_one, if_pos rfl]; exact next_p 1 2 2 (by decide)

theorem list_row {α : Type} {sz : Nat} {R : El α} {W : World} {b : Nat} {cs : Array Value} {t : TypeId} {l : List α} (h : W.heap[b]? = some (.cells cs t (0, 0))) (hl : l.length ≤ 100) (hc : ∀ j (hj : j < l.length), R W W.heap.size (fun k => W.cell? ⟨b, 0 + j * sz + k, none⟩) l[j]) :
    ListIn sz R W W.heap.size (.slice (some ⟨b, 0, none⟩) l.length l.length) l :=
  ⟨_, _, rfl, Nat.le_refl _, by unfold maxLen; omega, (fun e => by cases e), fun _ => ⟨b, 0, rfl, heap_lt h, hc⟩⟩
theorem row_cj {W : World} (b : Nat) (c : Array Value) (t : TypeId) (j : Nat) (v : Value) (h : W.heap[b]? = some (.cells c t (0, 0))) (hv : c[j]? = some v) : W.cell? ⟨b, j, none⟩ = some v := by rw [cell_of_row _ _ _ _ _ _ h]; exact hv
/-- The chapter's plan lies in the blocks from s on; its route's path is the slice at A, its timer t. -/
structure OneAt (W : World) (s : Nat) (A : Option Addr) (t : Int) : Prop where
  r1 : W.heap[s]? = some (.cells #[.int .i64 2, .int .i64 0, .int .i64 0, .int .i64 0] 66 (0, 0))
  r2 : W.heap[s + 1]? = some (.cells #[.int .i64 1, .int .i64 0, .int .i64 3, .int .i64 0, .int .i64 3, .int .i64 1] 66 (0, 0))
  r3 : W.heap[s + 2]? = some (.cells #[.int .i64 2, .int .i64 1, .int .i64 2, .int .i64 2] 66 (0, 0))
  r4 : W.heap[s + 3]? = some (.cells #[.int .i64 1, .int .i64 0, .slice (some ⟨s, 0, none⟩) 2 2, .int .i64 2, .int .i64 5, .slice (some ⟨s + 1, 0, none⟩) 3 3, .int .i64 3, .int .i64 0, .slice (some ⟨s + 2, 0, none⟩) 2 2] 64 (0, 0))
  r5 : W.heap[s + 4]? = some (.cells #[.int .i64 5, .int .i64 2] 43 (0, 0))
  r6 : W.heap[s + 5]? = some (.cells #[.int .i64 4, .int .i64 1, .int .i64 0] 49 (0, 0))
  r8 : W.heap[s + 7]? = some (.cells #[.int .i64 8, .int .i64 4, .int .i64 0, .slice A 2 2, .slice none 0 0, .slice none 0 0, .int .i64 t] 35 (0, 0))
abbrev oneV (par : Int) (s : Nat) : Value := .agg #[.int .i64 2, .int .i64 par, .slice (some ⟨s + 3, 0, none⟩) 3 3, .slice (some ⟨s + 4, 0, none⟩) 1 1, .slice (some ⟨s + 5, 0, none⟩) 1 1, .slice (some ⟨s + 7, 0, none⟩) 1 1]
theorem ints2_of {W : World} {g : Nat} {x y : Int} (h : W.heap[g]? = some (.cells #[.int .i64 x, .int .i64 y] 3 (0, 0))) : IntsIn W W.heap.size (.slice (some ⟨g, 0, none⟩) 2 2) [x, y] := list_row (l := [x, y]) h (by simp) (fun j hj => by
    match j, hj with
    | 0, _ => exact row_cj _ _ _ 0 _ h rfl
    | 1, _ => exact row_cj _ _ _ 1 _ h rfl)
theorem OneAt.plan {W : World} {s : Nat} {A : Option Addr} {t : Int} {l : List Int} (h : OneAt W s A t) (hl : IntsIn W W.heap.size (.slice A 2 2) l) (par : Int) :
    PlanV W W.heap.size (oneV par s) ⟨2, par, pSecs, [(5, 2)], [(4, 1, 0)], [⟨8, 4, 0, l, [], [], t⟩]⟩ := by
  have J1 : JoinsIn W W.heap.size (.slice (some ⟨s, 0, none⟩) 2 2) pS1.2.2 := list_row (l := [(2, 0), (0, 0)]) h.r1 (by decide) (fun j hj => by
    match j, hj with
    | 0, _ => exact ⟨row_cj _ _ _ 0 _ h.r1 rfl, row_cj _ _ _ 1 _ h.r1 rfl⟩
    | 1, _ => exact ⟨row_cj _ _ _ 2 _ h.r1 rfl, row_cj _ _ _ 3 _ h.r1 rfl⟩)
  have J2 : JoinsIn W W.heap.size (.slice (some ⟨s + 1, 0, none⟩) 3 3) pS2.2.2 := list_row (l := [(1, 0), (3, 0), (3, 1)]) h.r2 (by decide) (fun j hj => by
    match j, hj with
    | 0, _ => exact ⟨row_cj _ _ _ 0 _ h.r2 rfl, row_cj _ _ _ 1 _ h.r2 rfl⟩
    | 1, _ => exact ⟨row_cj _ _ _ 2 _ h.r2 rfl, row_cj _ _ _ 3 _ h.r2 rfl⟩
    | 2, _ => exact ⟨row_cj _ _ _ 4 _ h.r2 rfl, row_cj _ _ _ 5 _ h.r2 rfl⟩)
  have J3 : JoinsIn W W.heap.size (.slice (some ⟨s + 2, 0, none⟩) 2 2) pS3.2.2 := list_row (l := [(2, 1), (2, 2)]) h.r3 (by decide) (fun j hj => by
    match j, hj with
    | 0, _ => exact ⟨row_cj _ _ _ 0 _ h.r3 rfl, row_cj _ _ _ 1 _ h.r3 rfl⟩
    | 1, _ => exact ⟨row_cj _ _ _ 2 _ h.r3 rfl, row_cj _ _ _ 3 _ h.r3 rfl⟩)
  have SS : SectsIn W W.heap.size (.slice (some ⟨s + 3, 0, none⟩) 3 3) pSecs := list_row (l := pSecs) h.r4 (by decide) (fun j hj => by
    match j, hj with
    | 0, _ => exact ⟨row_cj _ _ _ 0 _ h.r4 rfl, row_cj _ _ _ 1 _ h.r4 rfl, _, row_cj _ _ _ 2 _ h.r4 rfl, J1⟩
    | 1, _ => exact ⟨row_cj _ _ _ 3 _ h.r4 rfl, row_cj _ _ _ 4 _ h.r4 rfl, _, row_cj _ _ _ 5 _ h.r4 rfl, J2⟩
    | 2, _ => exact ⟨row_cj _ _ _ 6 _ h.r4 rfl, row_cj _ _ _ 7 _ h.r4 rfl, _, row_cj _ _ _ 8 _ h.r4 rfl, J3⟩)
  have PP : JoinsIn W W.heap.size (.slice (some ⟨s + 4, 0, none⟩) 1 1) [(5, 2)] := list_row (l := [(5, 2)]) h.r5 (by decide) (fun j hj => by
    match j, hj with
    | 0, _ => exact ⟨row_cj _ _ _ 0 _ h.r5 rfl, row_cj _ _ _ 1 _ h.r5 rfl⟩)
  have GG : SigsIn W W.heap.size (.slice (some ⟨s + 5, 0, none⟩) 1 1) [(4, 1, 0)] := list_row (l := [(4, 1, 0)]) h.r6 (by decide) (fun j hj => by
    match j, hj with
    | 0, _ => exact ⟨row_cj _ _ _ 0 _ h.r6 rfl, row_cj _ _ _ 1 _ h.r6 rfl, row_cj _ _ _ 2 _ h.r6 rfl⟩)
  have RR : RoutesIn W W.heap.size (.slice (some ⟨s + 7, 0, none⟩) 1 1) [⟨8, 4, 0, l, [], [], t⟩] := list_row (l := [(⟨8, 4, 0, l, [], [], t⟩ : Rt)]) h.r8 (by simp) (fun j hj => by
    match j, hj with
    | 0, _ => exact ⟨row_cj _ _ _ 0 _ h.r8 rfl, row_cj _ _ _ 1 _ h.r8 rfl, row_cj _ _ _ 2 _ h.r8 rfl, row_cj _ _ _ 6 _ h.r8 rfl, _, _, _, row_cj _ _ _ 3 _ h.r8 rfl, row_cj _ _ _ 4 _ h.r8 rfl, row_cj _ _ _ 5 _ h.r8 rfl, ⟨hl, ListIn.nil_, ListIn.nil_⟩⟩)
  exact ⟨_, _, _, _, rfl, ⟨SS, PP, GG, RR⟩⟩
set_option maxHeartbeats 8000000 in
theorem one_at (w : World) : Calls Try.prog 9 #[] w fun e w' => ∃ s, e = .returned (oneV 1 s) ∧ OneAt w' s (some ⟨s + 6, 0, none⟩) 3 ∧ w'.heap[s + 6]? = some (.cells #[.int .i64 2, .int .i64 3] 3 (0, 0)) ∧ w.heap.size < s ∧ Below w.heap.size w w' := by
  have hq0 := heap_alloc_self w (.cells #[.int .i64 0, .int .i64 0, .slice none 0 0, .slice none 0 0, .slice none 0 0, .slice none 0 0] 30)
  have hqb := below_new w (.cells #[.int .i64 0, .int .i64 0, .slice none 0 0, .slice none 0 0, .slice none 0 0, .slice none 0 0] 30)
  have hqs := heap_alloc_size w (.cells #[.int .i64 0, .int .i64 0, .slice none 0 0, .slice none 0 0, .slice none 0 0, .slice none 0 0] 30)
  go_enter Try.func9, Try.ntmps9
  go_upto_region 1 with fail
  generalize w.alloc (.cells #[.int .i64 0, .int .i64 0, .slice none 0 0, .slice none 0 0, .slice none 0 0, .slice none 0 0] 30) = q at hq0 hqb hqs ⊢
  have QX := Lib.hid hq0
  have QB := Lib.hid hqb
  have QS := Lib.hid hqs
  clear hq0 hqb hqs
  have h1 := heap_alloc_self q (.cells #[.int .i64 2, .int .i64 0, .int .i64 0, .int .i64 0] 66)
  have b1 := below_new q (.cells #[.int .i64 2, .int .i64 0, .int .i64 0, .int .i64 0] 66)
  have s1 := heap_alloc_size q (.cells #[.int .i64 2, .int .i64 0, .int .i64 0, .int .i64 0] 66)
  obtain ⟨w1, e1⟩ : ∃ x, x = q.alloc (.cells #[.int .i64 2, .int .i64 0, .int .i64 0, .int .i64 0] 66) := ⟨_, rfl⟩
  rw [← e1] at h1 b1 s1
  have h2 := heap_alloc_self w1 (.cells #[.int .i64 1, .int .i64 0, .int .i64 3, .int .i64 0, .int .i64 3, .int .i64 1] 66)
  have b2 := below_new w1 (.cells #[.int .i64 1, .int .i64 0, .int .i64 3, .int .i64 0, .int .i64 3, .int .i64 1] 66)
  have s2 := heap_alloc_size w1 (.cells #[.int .i64 1, .int .i64 0, .int .i64 3, .int .i64 0, .int .i64 3, .int .i64 1] 66)
  obtain ⟨w2, e2⟩ : ∃ x, x = w1.alloc (.cells #[.int .i64 1, .int .i64 0, .int .i64 3, .int .i64 0, .int .i64 3, .int .i64 1] 66) := ⟨_, rfl⟩
  rw [← e2] at h2 b2 s2
  have h3 := heap_alloc_self w2 (.cells #[.int .i64 2, .int .i64 1, .int .i64 2, .int .i64 2] 66)
  have b3 := below_new w2 (.cells #[.int .i64 2, .int .i64 1, .int .i64 2, .int .i64 2] 66)
  have s3 := heap_alloc_size w2 (.cells #[.int .i64 2, .int .i64 1, .int .i64 2, .int .i64 2] 66)
  obtain ⟨w3, e3⟩ : ∃ x, x = w2.alloc (.cells #[.int .i64 2, .int .i64 1, .int .i64 2, .int .i64 2] 66) := ⟨_, rfl⟩
  rw [← e3] at h3 b3 s3
  have h4 := heap_alloc_self w3 (.cells #[.int .i64 1, .int .i64 0, .slice (some ⟨q.heap.size, 0, none⟩) 2 2, .int .i64 2, .int .i64 5, .slice (some ⟨q.heap.size + 1, 0, none⟩) 3 3, .int .i64 3, .int .i64 0, .slice (some ⟨q.heap.size + 2, 0, none⟩) 2 2] 64)
  have b4 := below_new w3 (.cells #[.int .i64 1, .int .i64 0, .slice (some ⟨q.heap.size, 0, none⟩) 2 2, .int .i64 2, .int .i64 5, .slice (some ⟨q.heap.size + 1, 0, none⟩) 3 3, .int .i64 3, .int .i64 0, .slice (some ⟨q.heap.size + 2, 0, none⟩) 2 2] 64)
  have s4 := heap_alloc_size w3 (.cells #[.int .i64 1, .int .i64 0, .slice (some ⟨q.heap.size, 0, none⟩) 2 2, .int .i64 2, .int .i64 5, .slice (some ⟨q.heap.size + 1, 0, none⟩) 3 3, .int .i64 3, .int .i64 0, .slice (some ⟨q.heap.size + 2, 0, none⟩) 2 2] 64)
  obtain ⟨w4, e4⟩ : ∃ x, x = w3.alloc (.cells #[.int .i64 1, .int .i64 0, .slice (some ⟨q.heap.size, 0, none⟩) 2 2, .int .i64 2, .int .i64 5, .slice (some ⟨q.heap.size + 1, 0, none⟩) 3 3, .int .i64 3, .int .i64 0, .slice (some ⟨q.heap.size + 2, 0, none⟩) 2 2] 64) := ⟨_, rfl⟩
  rw [← e4] at h4 b4 s4
  have h5 := heap_alloc_self w4 (.cells #[.int .i64 5, .int .i64 2] 43)
  have b5 := below_new w4 (.cells #[.int .i64 5, .int .i64 2] 43)
  have s5 := heap_alloc_size w4 (.cells #[.int .i64 5, .int .i64 2] 43)
  obtain ⟨w5, e5⟩ : ∃ x, x = w4.alloc (.cells #[.int .i64 5, .int .i64 2] 43) := ⟨_, rfl⟩
  rw [← e5] at h5 b5 s5
  have h6 := heap_alloc_self w5 (.cells #[.int .i64 4, .int .i64 1, .int .i64 0] 49)
  have b6 := below_new w5 (.cells #[.int .i64 4, .int .i64 1, .int .i64 0] 49)
  have s6 := heap_alloc_size w5 (.cells #[.int .i64 4, .int .i64 1, .int .i64 0] 49)
  obtain ⟨w6, e6⟩ : ∃ x, x = w5.alloc (.cells #[.int .i64 4, .int .i64 1, .int .i64 0] 49) := ⟨_, rfl⟩
  rw [← e6] at h6 b6 s6
  have h7 := heap_alloc_self w6 (.cells #[.int .i64 2, .int .i64 3] 3)
  have b7 := below_new w6 (.cells #[.int .i64 2, .int .i64 3] 3)
  have s7 := heap_alloc_size w6 (.cells #[.int .i64 2, .int .i64 3] 3)
  obtain ⟨w7, e7⟩ : ∃ x, x = w6.alloc (.cells #[.int .i64 2, .int .i64 3] 3) := ⟨_, rfl⟩
  rw [← e7] at h7 b7 s7
  have h8 := heap_alloc_self w7 (.cells #[.int .i64 8, .int .i64 4, .int .i64 0, .slice (some ⟨q.heap.size + 6, 0, none⟩) 2 2, .slice none 0 0, .slice none 0 0, .int .i64 3] 35)
  have b8 := below_new w7 (.cells #[.int .i64 8, .int .i64 4, .int .i64 0, .slice (some ⟨q.heap.size + 6, 0, none⟩) 2 2, .slice none 0 0, .slice none 0 0, .int .i64 3] 35)
  have s8 := heap_alloc_size w7 (.cells #[.int .i64 8, .int .i64 4, .int .i64 0, .slice (some ⟨q.heap.size + 6, 0, none⟩) 2 2, .slice none 0 0, .slice none 0 0, .int .i64 3] 35)
  obtain ⟨w8, e8⟩ : ∃ x, x = w7.alloc (.cells #[.int .i64 8, .int .i64 4, .int .i64 0, .slice (some ⟨q.heap.size + 6, 0, none⟩) 2 2, .slice none 0 0, .slice none 0 0, .int .i64 3] 35) := ⟨_, rfl⟩
  rw [← e8] at h8 b8 s8
  have z1 : w1.heap.size = q.heap.size + 1 := by omega
  have z2 : w2.heap.size = q.heap.size + 2 := by omega
  have z3 : w3.heap.size = q.heap.size + 3 := by omega
  have z4 : w4.heap.size = q.heap.size + 4 := by omega
  have z5 : w5.heap.size = q.heap.size + 5 := by omega
  have z6 : w6.heap.size = q.heap.size + 6 := by omega
  have z7 : w7.heap.size = q.heap.size + 7 := by omega
  have z8 : w8.heap.size = q.heap.size + 8 := by omega
  have H1 : w8.heap[q.heap.size]? = some (.cells #[.int .i64 2, .int .i64 0, .int .i64 0, .int .i64 0] 66 (0, 0)) := by exact ((b8.block _ (by omega)).trans (((b7.block _ (by omega)).trans (((b6.block _ (by omega)).trans (((b5.block _ (by omega)).trans (((b4.block _ (by omega)).trans (((b3.block _ (by omega)).trans (((b2.block _ (by omega)).trans (h1))))))))))))))
  have H2 : w8.heap[q.heap.size + 1]? = some (.cells #[.int .i64 1, .int .i64 0, .int .i64 3, .int .i64 0, .int .i64 3, .int .i64 1] 66 (0, 0)) := by rw [z1] at h2; exact ((b8.block _ (by omega)).trans (((b7.block _ (by omega)).trans (((b6.block _ (by omega)).trans (((b5.block _ (by omega)).trans (((b4.block _ (by omega)).trans (((b3.block _ (by omega)).trans (h2))))))))))))
  have H3 : w8.heap[q.heap.size + 2]? = some (.cells #[.int .i64 2, .int .i64 1, .int .i64 2, .int .i64 2] 66 (0, 0)) := by rw [z2] at h3; exact ((b8.block _ (by omega)).trans (((b7.block _ (by omega)).trans (((b6.block _ (by omega)).trans (((b5.block _ (by omega)).trans (((b4.block _ (by omega)).trans (h3))))))))))
  have H4 : w8.heap[q.heap.size + 3]? = some (.cells #[.int .i64 1, .int .i64 0, .slice (some ⟨q.heap.size, 0, none⟩) 2 2, .int .i64 2, .int .i64 5, .slice (some ⟨q.heap.size + 1, 0, none⟩) 3 3, .int .i64 3, .int .i64 0, .slice (some ⟨q.heap.size + 2, 0, none⟩) 2 2] 64 (0, 0)) := by rw [z3] at h4; exact ((b8.block _ (by omega)).trans (((b7.block _ (by omega)).trans (((b6.block _ (by omega)).trans (((b5.block _ (by omega)).trans (h4))))))))
  have H5 : w8.heap[q.heap.size + 4]? = some (.cells #[.int .i64 5, .int .i64 2] 43 (0, 0)) := by rw [z4] at h5; exact ((b8.block _ (by omega)).trans (((b7.block _ (by omega)).trans (((b6.block _ (by omega)).trans (h5))))))
  have H6 : w8.heap[q.heap.size + 5]? = some (.cells #[.int .i64 4, .int .i64 1, .int .i64 0] 49 (0, 0)) := by rw [z5] at h6; exact ((b8.block _ (by omega)).trans (((b7.block _ (by omega)).trans (h6))))
  have H7 : w8.heap[q.heap.size + 6]? = some (.cells #[.int .i64 2, .int .i64 3] 3 (0, 0)) := by rw [z6] at h7; exact ((b8.block _ (by omega)).trans (h7))
  have H8 : w8.heap[q.heap.size + 7]? = some (.cells #[.int .i64 8, .int .i64 4, .int .i64 0, .slice (some ⟨q.heap.size + 6, 0, none⟩) 2 2, .slice none 0 0, .slice none 0 0, .int .i64 3] 35 (0, 0)) := by rw [z7] at h8; exact h8
  have H0 : w8.heap[w.heap.size]? = some (.cells #[.int .i64 0, .int .i64 0, .slice none 0 0, .slice none 0 0, .slice none 0 0, .slice none 0 0] 30 (0, 0)) := ((b8.block _ (by have := QS.out; omega)).trans (((b7.block _ (by have := QS.out; omega)).trans (((b6.block _ (by have := QS.out; omega)).trans (((b5.block _ (by have := QS.out; omega)).trans (((b4.block _ (by have := QS.out; omega)).trans (((b3.block _ (by have := QS.out; omega)).trans (((b2.block _ (by have := QS.out; omega)).trans (((b1.block _ (by have := QS.out; omega)).trans (QX.out))))))))))))))))
  have hbq : Below w.heap.size w w8 := by
    refine QB.out.trans (Below.mono ?_ QB.out.size)
    have c1 := b1
    have c2 := c1.trans (b2.mono (show q.heap.size ≤ w1.heap.size by omega))
    have c3 := c2.trans (b3.mono (show q.heap.size ≤ w2.heap.size by omega))
    have c4 := c3.trans (b4.mono (show q.heap.size ≤ w3.heap.size by omega))
    have c5 := c4.trans (b5.mono (show q.heap.size ≤ w4.heap.size by omega))
    have c6 := c5.trans (b6.mono (show q.heap.size ≤ w5.heap.size by omega))
    have c7 := c6.trans (b7.mono (show q.heap.size ≤ w6.heap.size by omega))
    have c8 := c7.trans (b8.mono (show q.heap.size ≤ w7.heap.size by omega))
    exact c8
  have H0' : ((((((((q.alloc (.cells #[.int .i64 2, .int .i64 0, .int .i64 0, .int .i64 0] 66)).alloc (.cells #[.int .i64 1, .int .i64 0, .int .i64 3, .int .i64 0, .int .i64 3, .int .i64 1] 66)).alloc (.cells #[.int .i64 2, .int .i64 1, .int .i64 2, .int .i64 2] 66)).alloc (.cells #[.int .i64 1, .int .i64 0, .slice (some ⟨q.heap.size, 0, none⟩) 2 2, .int .i64 2, .int .i64 5, .slice (some ⟨q.heap.size + 1, 0, none⟩) 3 3, .int .i64 3, .int .i64 0, .slice (some ⟨q.heap.size + 2, 0, none⟩) 2 2] 64)).alloc (.cells #[.int .i64 5, .int .i64 2] 43)).alloc (.cells #[.int .i64 4, .int .i64 1, .int .i64 0] 49)).alloc (.cells #[.int .i64 2, .int .i64 3] 3)).alloc (.cells #[.int .i64 8, .int .i64 4, .int .i64 0, .slice (some ⟨q.heap.size + 6, 0, none⟩) 2 2, .slice none 0 0, .slice none 0 0, .int .i64 3] 35)).heap[w.heap.size]? = some (.cells #[.int .i64 0, .int .i64 0, .slice none 0 0, .slice none 0 0, .slice none 0 0, .slice none 0 0] 30 (0, 0)) := by rw [← e1, ← e2, ← e3, ← e4, ← e5, ← e6, ← e7, ← e8]; exact H0
  have HH0 := Lib.hid H0'
  have E : Hid (((((((((q.alloc (.cells #[.int .i64 2, .int .i64 0, .int .i64 0, .int .i64 0] 66)).alloc (.cells #[.int .i64 1, .int .i64 0, .int .i64 3, .int .i64 0, .int .i64 3, .int .i64 1] 66)).alloc (.cells #[.int .i64 2, .int .i64 1, .int .i64 2, .int .i64 2] 66)).alloc (.cells #[.int .i64 1, .int .i64 0, .slice (some ⟨q.heap.size, 0, none⟩) 2 2, .int .i64 2, .int .i64 5, .slice (some ⟨q.heap.size + 1, 0, none⟩) 3 3, .int .i64 3, .int .i64 0, .slice (some ⟨q.heap.size + 2, 0, none⟩) 2 2] 64)).alloc (.cells #[.int .i64 5, .int .i64 2] 43)).alloc (.cells #[.int .i64 4, .int .i64 1, .int .i64 0] 49)).alloc (.cells #[.int .i64 2, .int .i64 3] 3)).alloc (.cells #[.int .i64 8, .int .i64 4, .int .i64 0, .slice (some ⟨q.heap.size + 6, 0, none⟩) 2 2, .slice none 0 0, .slice none 0 0, .int .i64 3] 35)) = w8) := Lib.hid (by rw [← e1, ← e2, ← e3, ← e4, ← e5, ← e6, ← e7, ← e8])
  have K1 := Lib.hid H1
  have K2 := Lib.hid H2
  have K3 := Lib.hid H3
  have K4 := Lib.hid H4
  have K5 := Lib.hid H5
  have K6 := Lib.hid H6
  have K7 := Lib.hid H7
  have K8 := Lib.hid H8
  have K0 := Lib.hid H0
  have KB := Lib.hid hbq
  clear H0 H0' hbq H1 H2 H3 H4 H5 H6 H7 H8 h1 b1 s1 z1 h2 b2 s2 z2 h3 b3 s3 z3 h4 b4 s4 z4 h5 b5 s5 z5 h6 b6 s6 z6 h7 b7 s7 z7 h8 b8 s8 z8 e1 e2 e3 e4 e5 e6 e7 e8
  go_wp2_with ((with_reducible show wpList _ _ _ (⟨none, _, _, _, _, _⟩ :: _) _ _); refine wpList_store_rowS rfl _ (.tmp 0) (.tmp 22) rfl w.heap.size rfl (c' := #[.int .i64 2, .int .i64 1, .slice (some ⟨q.heap.size + 3, 0, none⟩) 3 3, .slice (some ⟨q.heap.size + 4, 0, none⟩) 1 1, .slice (some ⟨q.heap.size + 5, 0, none⟩) 1 1, .slice (some ⟨q.heap.size + 7, 0, none⟩) 1 1]) rfl HH0.out infoPlan6 rfl (by simp [Value.oneCell']) ?_; rw [E.out])
  have hg := grownBy_setRow w8 w.heap.size #[.int .i64 2, .int .i64 1, .slice (some ⟨q.heap.size + 3, 0, none⟩) 3 3, .slice (some ⟨q.heap.size + 4, 0, none⟩) 1 1, .slice (some ⟨q.heap.size + 5, 0, none⟩) 1 1, .slice (some ⟨q.heap.size + 7, 0, none⟩) 1 1]
  have hneq : ∀ k, q.heap.size ≤ k → k ≠ w.heap.size := fun k hk => by have := QS.out; omega
  have KK : ∀ (b : Nat) (c : Array Value) (t : TypeId), q.heap.size ≤ b → w8.heap[b]? = some (.cells c t (0, 0)) → (w8.setRow w.heap.size #[.int .i64 2, .int .i64 1, .slice (some ⟨q.heap.size + 3, 0, none⟩) 3 3, .slice (some ⟨q.heap.size + 4, 0, none⟩) 1 1, .slice (some ⟨q.heap.size + 5, 0, none⟩) 1 1, .slice (some ⟨q.heap.size + 7, 0, none⟩) 1 1]).heap[b]? = some (.cells c t (0, 0)) := fun b c t hb h => (hg.block b (heap_lt h) (fun e => hneq b hb (by injection e))).trans h
  refine bodyPost_ret (results_cell_row rfl _ _ w.heap.size 30 #[.int .i64 2, .int .i64 1, .slice (some ⟨q.heap.size + 3, 0, none⟩) 3 3, .slice (some ⟨q.heap.size + 4, 0, none⟩) 1 1, .slice (some ⟨q.heap.size + 5, 0, none⟩) 1 1, .slice (some ⟨q.heap.size + 7, 0, none⟩) 1 1] (0, 0) _ rfl (setRow_heap _ _ _ _ _ _ K0.out) Try.underlying30 rfl infoPlan6) rfl ⟨_, rfl, ?_, ?_, (show w.heap.size < q.heap.size by have := QS.out; omega), below_setRow KB.out (Nat.le_refl _) _⟩
  · exact ⟨KK _ _ _ (by omega) K1.out, KK _ _ _ (by omega) K2.out, KK _ _ _ (by omega) K3.out, KK _ _ _ (by omega) K4.out, KK _ _ _ (by omega) K5.out, KK _ _ _ (by omega) K6.out, KK _ _ _ (by omega) K8.out⟩
  · exact KK _ _ _ (by omega) K7.out
theorem one_any (w : World) : Calls Try.prog 9 #[] w fun e w' => ∃ v, e = .returned v ∧ PlanV w' w'.heap.size v planOne ∧ Below w.heap.size w w' :=
  (one_at w).mono fun e w' ⟨s, h1, h2, h3, _, h5⟩ => ⟨_, h1, h2.plan (ints2_of h3) 1, h5⟩
end Go.Proofs.Ythlolpflgninjaa
