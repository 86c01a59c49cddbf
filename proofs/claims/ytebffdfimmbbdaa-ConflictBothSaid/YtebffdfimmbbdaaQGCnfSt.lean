/-
 The chapters' station as the statements lay it: its blocks, and that they read as it.
 Conditions: none.
-/
import Derived.Test.YtebffdfimmbbdaaQGSndSt
import Derived.Test.YtebffdfimmbbdaaQGPlnRefD
import Derived.Test.YtebffdfimmbbdaaQGCnfM
set_option linter.unusedVariables false
set_option linter.unusedSimpArgs false
set_option maxRecDepth 100000
namespace Go.Proofs.Ytebffdfimmbbdaa
open Go.RowKit

/-- The literal's blocks, from s on, but the signals'; the flanks of its routes. -/
structure stAt (W : World) (s : Nat) (F0 F1 F2 : Value) : Prop where
 r0 : W.heap[s]? = some (.cells #[.int .i64 0, .int .i64 0, .int .i64 2, .int .i64 0] 57 (0, 0))
 r1 : W.heap[s + 1]? = some (.cells #[.int .i64 1, .int .i64 1, .int .i64 3, .int .i64 0, .int .i64 4, .int .i64 0] 57 (0, 0))
 r2 : W.heap[s + 2]? = some (.cells #[.int .i64 2, .int .i64 1, .int .i64 5, .int .i64 1] 57 (0, 0))
 r3 : W.heap[s + 3]? = some (.cells #[.int .i64 2, .int .i64 2, .int .i64 5, .int .i64 2] 57 (0, 0))
 r4 : W.heap[s + 4]? = some (.cells #[.int .i64 6, .int .i64 0, .int .i64 3, .int .i64 1, .int .i64 4, .int .i64 1] 57 (0, 0))
 r5 : W.heap[s + 5]? = some (.cells #[.int .i64 5, .int .i64 0, .int .i64 0, .int .i64 0] 57 (0, 0))
 r6 : W.heap[s + 6]? = some (.cells #[.int .i64 1, .int .i64 0, .slice (some ⟨s, 0, none⟩) 2 2, .int .i64 2, .int .i64 2, .slice (some ⟨s + 1, 0, none⟩) 3 3, .int .i64 3, .int .i64 0, .slice (some ⟨s + 2, 0, none⟩) 2 2, .int .i64 4, .int .i64 0, .slice (some ⟨s + 3, 0, none⟩) 2 2, .int .i64 5, .int .i64 5, .slice (some ⟨s + 4, 0, none⟩) 3 3, .int .i64 6, .int .i64 0, .slice (some ⟨s + 5, 0, none⟩) 2 2] 60 (0, 0))
 r7 : W.heap[s + 7]? = some (.cells #[.int .i64 2, .int .i64 2, .int .i64 5, .int .i64 5] 62 (0, 0))
 r9 : W.heap[s + 9]? = some (.cells #[.int .i64 2, .int .i64 3] 3 (0, 0))
 r10 : W.heap[s + 10]? = some (.cells #[.int .i64 5] 3 (0, 0))
 r11 : W.heap[s + 11]? = some (.cells #[.int .i64 5, .int .i64 6] 3 (0, 0))
 r12 : W.heap[s + 12]? = some (.cells #[.int .i64 5, .int .i64 4, .int .i64 2, .int .i64 1] 3 (0, 0))
 r13 : W.heap[s + 13]? = some (.cells #[.int .i64 1, .int .i64 1, .int .i64 3, .slice (some ⟨s + 9, 0, none⟩) 2 2, .slice (some ⟨s + 10, 0, none⟩) 1 1, F0, .int .i64 2, .int .i64 3, .int .i64 3, .int .i64 0, .slice (some ⟨s + 11, 0, none⟩) 2 2, .slice none 0 0, F1, .int .i64 1, .int .i64 6, .int .i64 6, .int .i64 0, .slice (some ⟨s + 12, 0, none⟩) 4 4, .slice none 0 0, F2, .int .i64 1] 41 (0, 0))
abbrev stV (s : Nat) (G : Value) : Value := .agg #[.int .i64 1, .int .i64 0, .slice (some ⟨s + 6, 0, none⟩) 6 6, .slice (some ⟨s + 7, 0, none⟩) 2 2, G, .slice (some ⟨s + 13, 0, none⟩) 3 3]
theorem stAt.below {W W' : World} {s : Nat} {F0 F1 F2 : Value} (h : stAt W s F0 F1 F2) (hb : Below W.heap.size W W') : stAt W' s F0 F1 F2 :=
 ⟨(hb.block _ (heap_lt h.r0)).trans h.r0, (hb.block _ (heap_lt h.r1)).trans h.r1, (hb.block _ (heap_lt h.r2)).trans h.r2, (hb.block _ (heap_lt h.r3)).trans h.r3, (hb.block _ (heap_lt h.r4)).trans h.r4, (hb.block _ (heap_lt h.r5)).trans h.r5, (hb.block _ (heap_lt h.r6)).trans h.r6, (hb.block _ (heap_lt h.r7)).trans h.r7, (hb.block _ (heap_lt h.r9)).trans h.r9, (hb.block _ (heap_lt h.r10)).trans h.r10, (hb.block _ (heap_lt h.r11)).trans h.r11, (hb.block _ (heap_lt h.r12)).trans h.r12, (hb.block _ (heap_lt h.r13)).trans h.r13⟩
theorem stAt.flank0 {W : World} {s : Nat} {F0 F1 F2 : Value} (h : stAt W s F0 F1 F2) (X : Value) : stAt (W.setCell ⟨s + 13, 5, none⟩ X) s X F1 F2 :=
 ⟨(heap_setFar W _ _ _ _ (by omega)).trans h.r0, (heap_setFar W _ _ _ _ (by omega)).trans h.r1, (heap_setFar W _ _ _ _ (by omega)).trans h.r2, (heap_setFar W _ _ _ _ (by omega)).trans h.r3, (heap_setFar W _ _ _ _ (by omega)).trans h.r4, (heap_setFar W _ _ _ _ (by omega)).trans h.r5, (heap_setFar W _ _ _ _ (by omega)).trans h.r6, (heap_setFar W _ _ _ _ (by omega)).trans h.r7, (heap_setFar W _ _ _ _ (by omega)).trans h.r9, (heap_setFar W _ _ _ _ (by omega)).trans h.r10, (heap_setFar W _ _ _ _ (by omega)).trans h.r11, (heap_setFar W _ _ _ _ (by omega)).trans h.r12, heap_setK h.r13 _⟩
theorem stAt.flank1 {W : World} {s : Nat} {F0 F1 F2 : Value} (h : stAt W s F0 F1 F2) (X : Value) : stAt (W.setCell ⟨s + 13, 12, none⟩ X) s F0 X F2 :=
 ⟨(heap_setFar W _ _ _ _ (by omega)).trans h.r0, (heap_setFar W _ _ _ _ (by omega)).trans h.r1, (heap_setFar W _ _ _ _ (by omega)).trans h.r2, (heap_setFar W _ _ _ _ (by omega)).trans h.r3, (heap_setFar W _ _ _ _ (by omega)).trans h.r4, (heap_setFar W _ _ _ _ (by omega)).trans h.r5, (heap_setFar W _ _ _ _ (by omega)).trans h.r6, (heap_setFar W _ _ _ _ (by omega)).trans h.r7, (heap_setFar W _ _ _ _ (by omega)).trans h.r9, (heap_setFar W _ _ _ _ (by omega)).trans h.r10, (heap_setFar W _ _ _ _ (by omega)).trans h.r11, (heap_setFar W _ _ _ _ (by omega)).trans h.r12, heap_setK h.r13 _⟩
theorem stAt.flank2 {W : World} {s : Nat} {F0 F1 F2 : Value} (h : stAt W s F0 F1 F2) (X : Value) : stAt (W.setCell ⟨s + 13, 19, none⟩ X) s F0 F1 X :=
 ⟨(heap_setFar W _ _ _ _ (by omega)).trans h.r0, (heap_setFar W _ _ _ _ (by omega)).trans h.r1, (heap_setFar W _ _ _ _ (by omega)).trans h.r2, (heap_setFar W _ _ _ _ (by omega)).trans h.r3, (heap_setFar W _ _ _ _ (by omega)).trans h.r4, (heap_setFar W _ _ _ _ (by omega)).trans h.r5, (heap_setFar W _ _ _ _ (by omega)).trans h.r6, (heap_setFar W _ _ _ _ (by omega)).trans h.r7, (heap_setFar W _ _ _ _ (by omega)).trans h.r9, (heap_setFar W _ _ _ _ (by omega)).trans h.r10, (heap_setFar W _ _ _ _ (by omega)).trans h.r11, (heap_setFar W _ _ _ _ (by omega)).trans h.r12, heap_setK h.r13 _⟩
theorem stAt.grown {W W' : World} {s : Nat} {F0 F1 F2 : Value} (h : stAt W s F0 F1 F2) (hg : W.grownBy W' (some (s + 8))) : stAt W' s F0 F1 F2 :=
 ⟨(hg.block _ (heap_lt h.r0) (fun e => by injection e with e; omega)).trans h.r0, (hg.block _ (heap_lt h.r1) (fun e => by injection e with e; omega)).trans h.r1, (hg.block _ (heap_lt h.r2) (fun e => by injection e with e; omega)).trans h.r2, (hg.block _ (heap_lt h.r3) (fun e => by injection e with e; omega)).trans h.r3, (hg.block _ (heap_lt h.r4) (fun e => by injection e with e; omega)).trans h.r4, (hg.block _ (heap_lt h.r5) (fun e => by injection e with e; omega)).trans h.r5, (hg.block _ (heap_lt h.r6) (fun e => by injection e with e; omega)).trans h.r6, (hg.block _ (heap_lt h.r7) (fun e => by injection e with e; omega)).trans h.r7, (hg.block _ (heap_lt h.r9) (fun e => by injection e with e; omega)).trans h.r9, (hg.block _ (heap_lt h.r10) (fun e => by injection e with e; omega)).trans h.r10, (hg.block _ (heap_lt h.r11) (fun e => by injection e with e; omega)).trans h.r11, (hg.block _ (heap_lt h.r12) (fun e => by injection e with e; omega)).trans h.r12, (hg.block _ (heap_lt h.r13) (fun e => by injection e with e; omega)).trans h.r13⟩
theorem stAt.setFar {W : World} {s p : Nat} {F0 F1 F2 : Value} (h : stAt W s F0 F1 F2) (hp : s + 13 < p) (k : Nat) (x : Value) : stAt (W.setCell ⟨p, k, none⟩ x) s F0 F1 F2 :=
 ⟨(heap_setFar W _ _ _ _ (by omega)).trans h.r0, (heap_setFar W _ _ _ _ (by omega)).trans h.r1, (heap_setFar W _ _ _ _ (by omega)).trans h.r2, (heap_setFar W _ _ _ _ (by omega)).trans h.r3, (heap_setFar W _ _ _ _ (by omega)).trans h.r4, (heap_setFar W _ _ _ _ (by omega)).trans h.r5, (heap_setFar W _ _ _ _ (by omega)).trans h.r6, (heap_setFar W _ _ _ _ (by omega)).trans h.r7, (heap_setFar W _ _ _ _ (by omega)).trans h.r9, (heap_setFar W _ _ _ _ (by omega)).trans h.r10, (heap_setFar W _ _ _ _ (by omega)).trans h.r11, (heap_setFar W _ _ _ _ (by omega)).trans h.r12, (heap_setFar W _ _ _ _ (by omega)).trans h.r13⟩
theorem stAt.plan {W : World} {s : Nat} {F0 F1 F2 G : Value} {f0 f1 f2 : List Jn} {gs : List Sg} (h : stAt W s F0 F1 F2) (hg : SigsIn W W.heap.size G gs) (h0 : JoinsIn W W.heap.size F0 f0) (h1 : JoinsIn W W.heap.size F1 f1) (h2 : JoinsIn W W.heap.size F2 f2) :
  PlanV W W.heap.size (stV s G) (stPl' gs f0 f1 f2) := by
 have J0 : JoinsIn W W.heap.size (.slice (some ⟨s, 0, none⟩) 2 2) ([(0, 0), (2, 0)] : List Jn) := list_row (l := ([(0, 0), (2, 0)] : List Jn)) h.r0 (by first | decide | simp) (fun j hj => by
  match j, hj with
  | 0, _ => exact ⟨row_cj _ _ _ 0 _ h.r0 rfl, row_cj _ _ _ 1 _ h.r0 rfl⟩
  | 1, _ => exact ⟨row_cj _ _ _ 2 _ h.r0 rfl, row_cj _ _ _ 3 _ h.r0 rfl⟩)
 have J1 : JoinsIn W W.heap.size (.slice (some ⟨s + 1, 0, none⟩) 3 3) ([(1, 1), (3, 0), (4, 0)] : List Jn) := list_row (l := ([(1, 1), (3, 0), (4, 0)] : List Jn)) h.r1 (by first | decide | simp) (fun j hj => by
  match j, hj with
  | 0, _ => exact ⟨row_cj _ _ _ 0 _ h.r1 rfl, row_cj _ _ _ 1 _ h.r1 rfl⟩
  | 1, _ => exact ⟨row_cj _ _ _ 2 _ h.r1 rfl, row_cj _ _ _ 3 _ h.r1 rfl⟩
  | 2, _ => exact ⟨row_cj _ _ _ 4 _ h.r1 rfl, row_cj _ _ _ 5 _ h.r1 rfl⟩)
 have J2 : JoinsIn W W.heap.size (.slice (some ⟨s + 2, 0, none⟩) 2 2) ([(2, 1), (5, 1)] : List Jn) := list_row (l := ([(2, 1), (5, 1)] : List Jn)) h.r2 (by first | decide | simp) (fun j hj => by
  match j, hj with
  | 0, _ => exact ⟨row_cj _ _ _ 0 _ h.r2 rfl, row_cj _ _ _ 1 _ h.r2 rfl⟩
  | 1, _ => exact ⟨row_cj _ _ _ 2 _ h.r2 rfl, row_cj _ _ _ 3 _ h.r2 rfl⟩)
 have J3 : JoinsIn W W.heap.size (.slice (some ⟨s + 3, 0, none⟩) 2 2) ([(2, 2), (5, 2)] : List Jn) := list_row (l := ([(2, 2), (5, 2)] : List Jn)) h.r3 (by first | decide | simp) (fun j hj => by
  match j, hj with
  | 0, _ => exact ⟨row_cj _ _ _ 0 _ h.r3 rfl, row_cj _ _ _ 1 _ h.r3 rfl⟩
  | 1, _ => exact ⟨row_cj _ _ _ 2 _ h.r3 rfl, row_cj _ _ _ 3 _ h.r3 rfl⟩)
 have J4 : JoinsIn W W.heap.size (.slice (some ⟨s + 4, 0, none⟩) 3 3) ([(6, 0), (3, 1), (4, 1)] : List Jn) := list_row (l := ([(6, 0), (3, 1), (4, 1)] : List Jn)) h.r4 (by first | decide | simp) (fun j hj => by
  match j, hj with
  | 0, _ => exact ⟨row_cj _ _ _ 0 _ h.r4 rfl, row_cj _ _ _ 1 _ h.r4 rfl⟩
  | 1, _ => exact ⟨row_cj _ _ _ 2 _ h.r4 rfl, row_cj _ _ _ 3 _ h.r4 rfl⟩
  | 2, _ => exact ⟨row_cj _ _ _ 4 _ h.r4 rfl, row_cj _ _ _ 5 _ h.r4 rfl⟩)
 have J5 : JoinsIn W W.heap.size (.slice (some ⟨s + 5, 0, none⟩) 2 2) ([(5, 0), (0, 0)] : List Jn) := list_row (l := ([(5, 0), (0, 0)] : List Jn)) h.r5 (by first | decide | simp) (fun j hj => by
  match j, hj with
  | 0, _ => exact ⟨row_cj _ _ _ 0 _ h.r5 rfl, row_cj _ _ _ 1 _ h.r5 rfl⟩
  | 1, _ => exact ⟨row_cj _ _ _ 2 _ h.r5 rfl, row_cj _ _ _ 3 _ h.r5 rfl⟩)
 have SS : SectsIn W W.heap.size (.slice (some ⟨s + 6, 0, none⟩) 6 6) ([(1, 0, [(0, 0), (2, 0)]), (2, 2, [(1, 1), (3, 0), (4, 0)]), (3, 0, [(2, 1), (5, 1)]), (4, 0, [(2, 2), (5, 2)]), (5, 5, [(6, 0), (3, 1), (4, 1)]), (6, 0, [(5, 0), (0, 0)])] : List Sec) := list_row (l := ([(1, 0, [(0, 0), (2, 0)]), (2, 2, [(1, 1), (3, 0), (4, 0)]), (3, 0, [(2, 1), (5, 1)]), (4, 0, [(2, 2), (5, 2)]), (5, 5, [(6, 0), (3, 1), (4, 1)]), (6, 0, [(5, 0), (0, 0)])] : List Sec)) h.r6 (by first | decide | simp) (fun j hj => by
  match j, hj with
  | 0, _ => exact ⟨row_cj _ _ _ 0 _ h.r6 rfl, row_cj _ _ _ 1 _ h.r6 rfl, _, row_cj _ _ _ 2 _ h.r6 rfl, J0⟩
  | 1, _ => exact ⟨row_cj _ _ _ 3 _ h.r6 rfl, row_cj _ _ _ 4 _ h.r6 rfl, _, row_cj _ _ _ 5 _ h.r6 rfl, J1⟩
  | 2, _ => exact ⟨row_cj _ _ _ 6 _ h.r6 rfl, row_cj _ _ _ 7 _ h.r6 rfl, _, row_cj _ _ _ 8 _ h.r6 rfl, J2⟩
  | 3, _ => exact ⟨row_cj _ _ _ 9 _ h.r6 rfl, row_cj _ _ _ 10 _ h.r6 rfl, _, row_cj _ _ _ 11 _ h.r6 rfl, J3⟩
  | 4, _ => exact ⟨row_cj _ _ _ 12 _ h.r6 rfl, row_cj _ _ _ 13 _ h.r6 rfl, _, row_cj _ _ _ 14 _ h.r6 rfl, J4⟩
  | 5, _ => exact ⟨row_cj _ _ _ 15 _ h.r6 rfl, row_cj _ _ _ 16 _ h.r6 rfl, _, row_cj _ _ _ 17 _ h.r6 rfl, J5⟩)
 have PP : JoinsIn W W.heap.size (.slice (some ⟨s + 7, 0, none⟩) 2 2) ([(2, 2), (5, 5)] : List Jn) := list_row (l := ([(2, 2), (5, 5)] : List Jn)) h.r7 (by first | decide | simp) (fun j hj => by
  match j, hj with
  | 0, _ => exact ⟨row_cj _ _ _ 0 _ h.r7 rfl, row_cj _ _ _ 1 _ h.r7 rfl⟩
  | 1, _ => exact ⟨row_cj _ _ _ 2 _ h.r7 rfl, row_cj _ _ _ 3 _ h.r7 rfl⟩)
 have A0 : IntsIn W W.heap.size (.slice (some ⟨s + 9, 0, none⟩) 2 2) ([2, 3] : List Int) := list_row (l := ([2, 3] : List Int)) h.r9 (by first | decide | simp) (fun j hj => by
  match j, hj with
  | 0, _ => exact row_cj _ _ _ 0 _ h.r9 rfl
  | 1, _ => exact row_cj _ _ _ 1 _ h.r9 rfl)
 have O0 : IntsIn W W.heap.size (.slice (some ⟨s + 10, 0, none⟩) 1 1) ([5] : List Int) := list_row (l := ([5] : List Int)) h.r10 (by first | decide | simp) (fun j hj => by
  match j, hj with
  | 0, _ => exact row_cj _ _ _ 0 _ h.r10 rfl)
 have A1 : IntsIn W W.heap.size (.slice (some ⟨s + 11, 0, none⟩) 2 2) ([5, 6] : List Int) := list_row (l := ([5, 6] : List Int)) h.r11 (by first | decide | simp) (fun j hj => by
  match j, hj with
  | 0, _ => exact row_cj _ _ _ 0 _ h.r11 rfl
  | 1, _ => exact row_cj _ _ _ 1 _ h.r11 rfl)
 have A2 : IntsIn W W.heap.size (.slice (some ⟨s + 12, 0, none⟩) 4 4) ([5, 4, 2, 1] : List Int) := list_row (l := ([5, 4, 2, 1] : List Int)) h.r12 (by first | decide | simp) (fun j hj => by
  match j, hj with
  | 0, _ => exact row_cj _ _ _ 0 _ h.r12 rfl
  | 1, _ => exact row_cj _ _ _ 1 _ h.r12 rfl
  | 2, _ => exact row_cj _ _ _ 2 _ h.r12 rfl
  | 3, _ => exact row_cj _ _ _ 3 _ h.r12 rfl)
 have RR : RoutesIn W W.heap.size (.slice (some ⟨s + 13, 0, none⟩) 3 3) ([⟨1, 1, 3, [2, 3], [5], f0, 2⟩, ⟨3, 3, 0, [5, 6], [], f1, 1⟩, ⟨6, 6, 0, [5, 4, 2, 1], [], f2, 1⟩] : List Rt) := list_row (l := ([⟨1, 1, 3, [2, 3], [5], f0, 2⟩, ⟨3, 3, 0, [5, 6], [], f1, 1⟩, ⟨6, 6, 0, [5, 4, 2, 1], [], f2, 1⟩] : List Rt)) h.r13 (by first | decide | simp) (fun j hj => by
  match j, hj with
  | 0, _ => exact ⟨row_cj _ _ _ 0 _ h.r13 rfl, row_cj _ _ _ 1 _ h.r13 rfl, row_cj _ _ _ 2 _ h.r13 rfl, row_cj _ _ _ 6 _ h.r13 rfl, _, _, _, row_cj _ _ _ 3 _ h.r13 rfl, row_cj _ _ _ 4 _ h.r13 rfl, row_cj _ _ _ 5 _ h.r13 rfl, ⟨A0, O0, h0⟩⟩
  | 1, _ => exact ⟨row_cj _ _ _ 7 _ h.r13 rfl, row_cj _ _ _ 8 _ h.r13 rfl, row_cj _ _ _ 9 _ h.r13 rfl, row_cj _ _ _ 13 _ h.r13 rfl, _, _, _, row_cj _ _ _ 10 _ h.r13 rfl, row_cj _ _ _ 11 _ h.r13 rfl, row_cj _ _ _ 12 _ h.r13 rfl, ⟨A1, ListIn.nil_, h1⟩⟩
  | 2, _ => exact ⟨row_cj _ _ _ 14 _ h.r13 rfl, row_cj _ _ _ 15 _ h.r13 rfl, row_cj _ _ _ 16 _ h.r13 rfl, row_cj _ _ _ 20 _ h.r13 rfl, _, _, _, row_cj _ _ _ 17 _ h.r13 rfl, row_cj _ _ _ 18 _ h.r13 rfl, row_cj _ _ _ 19 _ h.r13 rfl, ⟨A2, ListIn.nil_, h2⟩⟩)
 exact ⟨_, _, _, _, rfl, ⟨SS, PP, hg, RR⟩⟩
theorem st_sigs {W : World} {g : Nat} (h : W.heap[g]? = some (.cells #[.int .i64 1, .int .i64 1, .int .i64 1, .int .i64 3, .int .i64 3, .int .i64 1, .int .i64 4, .int .i64 4, .int .i64 1, .int .i64 6, .int .i64 6, .int .i64 0] 64 (0, 0))) : SigsOwn W g (.slice (some ⟨g, 0, none⟩) 4 4) ([(1, 1, 1), (3, 3, 1), (4, 4, 1), (6, 6, 0)] : List Sg) :=
 ⟨[[.int .i64 1, .int .i64 1, .int .i64 1], [.int .i64 3, .int .i64 3, .int .i64 1], [.int .i64 4, .int .i64 4, .int .i64 1], [.int .i64 6, .int .i64 6, .int .i64 0]], ⟨rfl, .inr ⟨g, _, _, rfl, Nat.le_refl _, h, Nat.le_refl _, by decide, rfl, rfl⟩⟩, rfl, by decide, by simp, fun j ys x h1 h2 => by
  match j, h1, h2 with
  | 0, h1, h2 => cases h1; cases h2; exact ⟨rfl, rfl, rfl⟩
  | 1, h1, h2 => cases h1; cases h2; exact ⟨rfl, rfl, rfl⟩
  | 2, h1, h2 => cases h1; cases h2; exact ⟨rfl, rfl, rfl⟩
  | 3, h1, h2 => cases h1; cases h2; exact ⟨rfl, rfl, rfl⟩⟩
set_option maxHeartbeats 16000000 in
theorem st_at (w : World) : Calls Try.prog 8 #[] w fun e w' => ∃ s, e = .returned (stV s (.slice (some ⟨s + 8, 0, none⟩) 4 4)) ∧ stAt w' s (.slice none 0 0) (.slice none 0 0) (.slice none 0 0) ∧ w'.heap[s + 8]? = some (.cells #[.int .i64 1, .int .i64 1, .int .i64 1, .int .i64 3, .int .i64 3, .int .i64 1, .int .i64 4, .int .i64 4, .int .i64 1, .int .i64 6, .int .i64 6, .int .i64 0] 64 (0, 0)) ∧ w.heap.size < s ∧ Below w.heap.size w w' := by
 have hq0 := heap_alloc_self w (.cells #[.int .i64 0, .int .i64 0, .slice none 0 0, .slice none 0 0, .slice none 0 0, .slice none 0 0] 30)
 have hqb := below_new w (.cells #[.int .i64 0, .int .i64 0, .slice none 0 0, .slice none 0 0, .slice none 0 0, .slice none 0 0] 30)
 have hqs := heap_alloc_size w (.cells #[.int .i64 0, .int .i64 0, .slice none 0 0, .slice none 0 0, .slice none 0 0, .slice none 0 0] 30)
 go_enter Try.func8, Try.ntmps8
 go_upto_region 1 with fail
 generalize w.alloc (.cells #[.int .i64 0, .int .i64 0, .slice none 0 0, .slice none 0 0, .slice none 0 0, .slice none 0 0] 30) = q at hq0 hqb hqs ⊢
 have QX := Lib.hid hq0
 have QB := Lib.hid hqb
 have QS := Lib.hid hqs
 clear hq0 hqb hqs
 have h1 := heap_alloc_self q (.cells #[.int .i64 0, .int .i64 0, .int .i64 2, .int .i64 0] 57)
 have b1 := below_new q (.cells #[.int .i64 0, .int .i64 0, .int .i64 2, .int .i64 0] 57)
 have s1 := heap_alloc_size q (.cells #[.int .i64 0, .int .i64 0, .int .i64 2, .int .i64 0] 57)
 obtain ⟨w1, e1⟩ : ∃ x, x = q.alloc (.cells #[.int .i64 0, .int .i64 0, .int .i64 2, .int .i64 0] 57) := ⟨_, rfl⟩
 rw [← e1] at h1 b1 s1
 have h2 := heap_alloc_self w1 (.cells #[.int .i64 1, .int .i64 1, .int .i64 3, .int .i64 0, .int .i64 4, .int .i64 0] 57)
 have b2 := below_new w1 (.cells #[.int .i64 1, .int .i64 1, .int .i64 3, .int .i64 0, .int .i64 4, .int .i64 0] 57)
 have s2 := heap_alloc_size w1 (.cells #[.int .i64 1, .int .i64 1, .int .i64 3, .int .i64 0, .int .i64 4, .int .i64 0] 57)
 obtain ⟨w2, e2⟩ : ∃ x, x = w1.alloc (.cells #[.int .i64 1, .int .i64 1, .int .i64 3, .int .i64 0, .int .i64 4, .int .i64 0] 57) := ⟨_, rfl⟩
 rw [← e2] at h2 b2 s2
 have h3 := heap_alloc_self w2 (.cells #[.int .i64 2, .int .i64 1, .int .i64 5, .int .i64 1] 57)
 have b3 := below_new w2 (.cells #[.int .i64 2, .int .i64 1, .int .i64 5, .int .i64 1] 57)
 have s3 := heap_alloc_size w2 (.cells #[.int .i64 2, .int .i64 1, .int .i64 5, .int .i64 1] 57)
 obtain ⟨w3, e3⟩ : ∃ x, x = w2.alloc (.cells #[.int .i64 2, .int .i64 1, .int .i64 5, .int .i64 1] 57) := ⟨_, rfl⟩
 rw [← e3] at h3 b3 s3
 have h4 := heap_alloc_self w3 (.cells #[.int .i64 2, .int .i64 2, .int .i64 5, .int .i64 2] 57)
 have b4 := below_new w3 (.cells #[.int .i64 2, .int .i64 2, .int .i64 5, .int .i64 2] 57)
 have s4 := heap_alloc_size w3 (.cells #[.int .i64 2, .int .i64 2, .int .i64 5, .int .i64 2] 57)
 obtain ⟨w4, e4⟩ : ∃ x, x = w3.alloc (.cells #[.int .i64 2, .int .i64 2, .int .i64 5, .int .i64 2] 57) := ⟨_, rfl⟩
 rw [← e4] at h4 b4 s4
 have h5 := heap_alloc_self w4 (.cells #[.int .i64 6, .int .i64 0, .int .i64 3, .int .i64 1, .int .i64 4, .int .i64 1] 57)
 have b5 := below_new w4 (.cells #[.int .i64 6, .int .i64 0, .int .i64 3, .int .i64 1, .int .i64 4, .int .i64 1] 57)
 have s5 := heap_alloc_size w4 (.cells #[.int .i64 6, .int .i64 0, .int .i64 3, .int .i64 1, .int .i64 4, .int .i64 1] 57)
 obtain ⟨w5, e5⟩ : ∃ x, x = w4.alloc (.cells #[.int .i64 6, .int .i64 0, .int .i64 3, .int .i64 1, .int .i64 4, .int .i64 1] 57) := ⟨_, rfl⟩
 rw [← e5] at h5 b5 s5
 have h6 := heap_alloc_self w5 (.cells #[.int .i64 5, .int .i64 0, .int .i64 0, .int .i64 0] 57)
 have b6 := below_new w5 (.cells #[.int .i64 5, .int .i64 0, .int .i64 0, .int .i64 0] 57)
 have s6 := heap_alloc_size w5 (.cells #[.int .i64 5, .int .i64 0, .int .i64 0, .int .i64 0] 57)
 obtain ⟨w6, e6⟩ : ∃ x, x = w5.alloc (.cells #[.int .i64 5, .int .i64 0, .int .i64 0, .int .i64 0] 57) := ⟨_, rfl⟩
 rw [← e6] at h6 b6 s6
 have h7 := heap_alloc_self w6 (.cells #[.int .i64 1, .int .i64 0, .slice (some ⟨q.heap.size, 0, none⟩) 2 2, .int .i64 2, .int .i64 2, .slice (some ⟨q.heap.size + 1, 0, none⟩) 3 3, .int .i64 3, .int .i64 0, .slice (some ⟨q.heap.size + 2, 0, none⟩) 2 2, .int .i64 4, .int .i64 0, .slice (some ⟨q.heap.size + 3, 0, none⟩) 2 2, .int .i64 5, .int .i64 5, .slice (some ⟨q.heap.size + 4, 0, none⟩) 3 3, .int .i64 6, .int .i64 0, .slice (some ⟨q.heap.size + 5, 0, none⟩) 2 2] 60)
 have b7 := below_new w6 (.cells #[.int .i64 1, .int .i64 0, .slice (some ⟨q.heap.size, 0, none⟩) 2 2, .int .i64 2, .int .i64 2, .slice (some ⟨q.heap.size + 1, 0, none⟩) 3 3, .int .i64 3, .int .i64 0, .slice (some ⟨q.heap.size + 2, 0, none⟩) 2 2, .int .i64 4, .int .i64 0, .slice (some ⟨q.heap.size + 3, 0, none⟩) 2 2, .int .i64 5, .int .i64 5, .slice (some ⟨q.heap.size + 4, 0, none⟩) 3 3, .int .i64 6, .int .i64 0, .slice (some ⟨q.heap.size + 5, 0, none⟩) 2 2] 60)
 have s7 := heap_alloc_size w6 (.cells #[.int .i64 1, .int .i64 0, .slice (some ⟨q.heap.size, 0, none⟩) 2 2, .int .i64 2, .int .i64 2, .slice (some ⟨q.heap.size + 1, 0, none⟩) 3 3, .int .i64 3, .int .i64 0, .slice (some ⟨q.heap.size + 2, 0, none⟩) 2 2, .int .i64 4, .int .i64 0, .slice (some ⟨q.heap.size + 3, 0, none⟩) 2 2, .int .i64 5, .int .i64 5, .slice (some ⟨q.heap.size + 4, 0, none⟩) 3 3, .int .i64 6, .int .i64 0, .slice (some ⟨q.heap.size + 5, 0, none⟩) 2 2] 60)
 obtain ⟨w7, e7⟩ : ∃ x, x = w6.alloc (.cells #[.int .i64 1, .int .i64 0, .slice (some ⟨q.heap.size, 0, none⟩) 2 2, .int .i64 2, .int .i64 2, .slice (some ⟨q.heap.size + 1, 0, none⟩) 3 3, .int .i64 3, .int .i64 0, .slice (some ⟨q.heap.size + 2, 0, none⟩) 2 2, .int .i64 4, .int .i64 0, .slice (some ⟨q.heap.size + 3, 0, none⟩) 2 2, .int .i64 5, .int .i64 5, .slice (some ⟨q.heap.size + 4, 0, none⟩) 3 3, .int .i64 6, .int .i64 0, .slice (some ⟨q.heap.size + 5, 0, none⟩) 2 2] 60) := ⟨_, rfl⟩
 rw [← e7] at h7 b7 s7
 have h8 := heap_alloc_self w7 (.cells #[.int .i64 2, .int .i64 2, .int .i64 5, .int .i64 5] 62)
 have b8 := below_new w7 (.cells #[.int .i64 2, .int .i64 2, .int .i64 5, .int .i64 5] 62)
 have s8 := heap_alloc_size w7 (.cells #[.int .i64 2, .int .i64 2, .int .i64 5, .int .i64 5] 62)
 obtain ⟨w8, e8⟩ : ∃ x, x = w7.alloc (.cells #[.int .i64 2, .int .i64 2, .int .i64 5, .int .i64 5] 62) := ⟨_, rfl⟩
 rw [← e8] at h8 b8 s8
 have h9 := heap_alloc_self w8 (.cells #[.int .i64 1, .int .i64 1, .int .i64 1, .int .i64 3, .int .i64 3, .int .i64 1, .int .i64 4, .int .i64 4, .int .i64 1, .int .i64 6, .int .i64 6, .int .i64 0] 64)
 have b9 := below_new w8 (.cells #[.int .i64 1, .int .i64 1, .int .i64 1, .int .i64 3, .int .i64 3, .int .i64 1, .int .i64 4, .int .i64 4, .int .i64 1, .int .i64 6, .int .i64 6, .int .i64 0] 64)
 have s9 := heap_alloc_size w8 (.cells #[.int .i64 1, .int .i64 1, .int .i64 1, .int .i64 3, .int .i64 3, .int .i64 1, .int .i64 4, .int .i64 4, .int .i64 1, .int .i64 6, .int .i64 6, .int .i64 0] 64)
 obtain ⟨w9, e9⟩ : ∃ x, x = w8.alloc (.cells #[.int .i64 1, .int .i64 1, .int .i64 1, .int .i64 3, .int .i64 3, .int .i64 1, .int .i64 4, .int .i64 4, .int .i64 1, .int .i64 6, .int .i64 6, .int .i64 0] 64) := ⟨_, rfl⟩
 rw [← e9] at h9 b9 s9
 have h10 := heap_alloc_self w9 (.cells #[.int .i64 2, .int .i64 3] 3)
 have b10 := below_new w9 (.cells #[.int .i64 2, .int .i64 3] 3)
 have s10 := heap_alloc_size w9 (.cells #[.int .i64 2, .int .i64 3] 3)
 obtain ⟨w10, e10⟩ : ∃ x, x = w9.alloc (.cells #[.int .i64 2, .int .i64 3] 3) := ⟨_, rfl⟩
 rw [← e10] at h10 b10 s10
 have h11 := heap_alloc_self w10 (.cells #[.int .i64 5] 3)
 have b11 := below_new w10 (.cells #[.int .i64 5] 3)
 have s11 := heap_alloc_size w10 (.cells #[.int .i64 5] 3)
 obtain ⟨w11, e11⟩ : ∃ x, x = w10.alloc (.cells #[.int .i64 5] 3) := ⟨_, rfl⟩
 rw [← e11] at h11 b11 s11
 have h12 := heap_alloc_self w11 (.cells #[.int .i64 5, .int .i64 6] 3)
 have b12 := below_new w11 (.cells #[.int .i64 5, .int .i64 6] 3)
 have s12 := heap_alloc_size w11 (.cells #[.int .i64 5, .int .i64 6] 3)
 obtain ⟨w12, e12⟩ : ∃ x, x = w11.alloc (.cells #[.int .i64 5, .int .i64 6] 3) := ⟨_, rfl⟩
 rw [← e12] at h12 b12 s12
 have h13 := heap_alloc_self w12 (.cells #[.int .i64 5, .int .i64 4, .int .i64 2, .int .i64 1] 3)
 have b13 := below_new w12 (.cells #[.int .i64 5, .int .i64 4, .int .i64 2, .int .i64 1] 3)
 have s13 := heap_alloc_size w12 (.cells #[.int .i64 5, .int .i64 4, .int .i64 2, .int .i64 1] 3)
 obtain ⟨w13, e13⟩ : ∃ x, x = w12.alloc (.cells #[.int .i64 5, .int .i64 4, .int .i64 2, .int .i64 1] 3) := ⟨_, rfl⟩
 rw [← e13] at h13 b13 s13
 have h14 := heap_alloc_self w13 (.cells #[.int .i64 1, .int .i64 1, .int .i64 3, .slice (some ⟨q.heap.size + 9, 0, none⟩) 2 2, .slice (some ⟨q.heap.size + 10, 0, none⟩) 1 1, .slice none 0 0, .int .i64 2, .int .i64 3, .int .i64 3, .int .i64 0, .slice (some ⟨q.heap.size + 11, 0, none⟩) 2 2, .slice none 0 0, .slice none 0 0, .int .i64 1, .int .i64 6, .int .i64 6, .int .i64 0, .slice (some ⟨q.heap.size + 12, 0, none⟩) 4 4, .slice none 0 0, .slice none 0 0, .int .i64 1] 41)
 have b14 := below_new w13 (.cells #[.int .i64 1, .int .i64 1, .int .i64 3, .slice (some ⟨q.heap.size + 9, 0, none⟩) 2 2, .slice (some ⟨q.heap.size + 10, 0, none⟩) 1 1, .slice none 0 0, .int .i64 2, .int .i64 3, .int .i64 3, .int .i64 0, .slice (some ⟨q.heap.size + 11, 0, none⟩) 2 2, .slice none 0 0, .slice none 0 0, .int .i64 1, .int .i64 6, .int .i64 6, .int .i64 0, .slice (some ⟨q.heap.size + 12, 0, none⟩) 4 4, .slice none 0 0, .slice none 0 0, .int .i64 1] 41)
 have s14 := heap_alloc_size w13 (.cells #[.int .i64 1, .int .i64 1, .int .i64 3, .slice (some ⟨q.heap.size + 9, 0, none⟩) 2 2, .slice (some ⟨q.heap.size + 10, 0, none⟩) 1 1, .slice none 0 0, .int .i64 2, .int .i64 3, .int .i64 3, .int .i64 0, .slice (some ⟨q.heap.size + 11, 0, none⟩) 2 2, .slice none 0 0, .slice none 0 0, .int .i64 1, .int .i64 6, .int .i64 6, .int .i64 0, .slice (some ⟨q.heap.size + 12, 0, none⟩) 4 4, .slice none 0 0, .slice none 0 0, .int .i64 1] 41)
 obtain ⟨w14, e14⟩ : ∃ x, x = w13.alloc (.cells #[.int .i64 1, .int .i64 1, .int .i64 3, .slice (some ⟨q.heap.size + 9, 0, none⟩) 2 2, .slice (some ⟨q.heap.size + 10, 0, none⟩) 1 1, .slice none 0 0, .int .i64 2, .int .i64 3, .int .i64 3, .int .i64 0, .slice (some ⟨q.heap.size + 11, 0, none⟩) 2 2, .slice none 0 0, .slice none 0 0, .int .i64 1, .int .i64 6, .int .i64 6, .int .i64 0, .slice (some ⟨q.heap.size + 12, 0, none⟩) 4 4, .slice none 0 0, .slice none 0 0, .int .i64 1] 41) := ⟨_, rfl⟩
 rw [← e14] at h14 b14 s14
 have z1 : w1.heap.size = q.heap.size + 1 := by omega
 have z2 : w2.heap.size = q.heap.size + 2 := by omega
 have z3 : w3.heap.size = q.heap.size + 3 := by omega
 have z4 : w4.heap.size = q.heap.size + 4 := by omega
 have z5 : w5.heap.size = q.heap.size + 5 := by omega
 have z6 : w6.heap.size = q.heap.size + 6 := by omega
 have z7 : w7.heap.size = q.heap.size + 7 := by omega
 have z8 : w8.heap.size = q.heap.size + 8 := by omega
 have z9 : w9.heap.size = q.heap.size + 9 := by omega
 have z10 : w10.heap.size = q.heap.size + 10 := by omega
 have z11 : w11.heap.size = q.heap.size + 11 := by omega
 have z12 : w12.heap.size = q.heap.size + 12 := by omega
 have z13 : w13.heap.size = q.heap.size + 13 := by omega
 have z14 : w14.heap.size = q.heap.size + 14 := by omega
 have c14 := Below.refl w14.heap.size w14
 have c13 : Below w13.heap.size w13 w14 := b14.trans (c14.mono b14.size)
 have c12 : Below w12.heap.size w12 w14 := b13.trans (c13.mono b13.size)
 have c11 : Below w11.heap.size w11 w14 := b12.trans (c12.mono b12.size)
 have c10 : Below w10.heap.size w10 w14 := b11.trans (c11.mono b11.size)
 have c9 : Below w9.heap.size w9 w14 := b10.trans (c10.mono b10.size)
 have c8 : Below w8.heap.size w8 w14 := b9.trans (c9.mono b9.size)
 have c7 : Below w7.heap.size w7 w14 := b8.trans (c8.mono b8.size)
 have c6 : Below w6.heap.size w6 w14 := b7.trans (c7.mono b7.size)
 have c5 : Below w5.heap.size w5 w14 := b6.trans (c6.mono b6.size)
 have c4 : Below w4.heap.size w4 w14 := b5.trans (c5.mono b5.size)
 have c3 : Below w3.heap.size w3 w14 := b4.trans (c4.mono b4.size)
 have c2 : Below w2.heap.size w2 w14 := b3.trans (c3.mono b3.size)
 have c1 : Below w1.heap.size w1 w14 := b2.trans (c2.mono b2.size)
 have H1 : w14.heap[q.heap.size]? = some (.cells #[.int .i64 0, .int .i64 0, .int .i64 2, .int .i64 0] 57 (0, 0)) := by exact (c1.block _ (by omega)).trans h1
 have H2 : w14.heap[q.heap.size + 1]? = some (.cells #[.int .i64 1, .int .i64 1, .int .i64 3, .int .i64 0, .int .i64 4, .int .i64 0] 57 (0, 0)) := by rw [z1] at h2; exact (c2.block _ (by omega)).trans h2
 have H3 : w14.heap[q.heap.size + 2]? = some (.cells #[.int .i64 2, .int .i64 1, .int .i64 5, .int .i64 1] 57 (0, 0)) := by rw [z2] at h3; exact (c3.block _ (by omega)).trans h3
 have H4 : w14.heap[q.heap.size + 3]? = some (.cells #[.int .i64 2, .int .i64 2, .int .i64 5, .int .i64 2] 57 (0, 0)) := by rw [z3] at h4; exact (c4.block _ (by omega)).trans h4
 have H5 : w14.heap[q.heap.size + 4]? = some (.cells #[.int .i64 6, .int .i64 0, .int .i64 3, .int .i64 1, .int .i64 4, .int .i64 1] 57 (0, 0)) := by rw [z4] at h5; exact (c5.block _ (by omega)).trans h5
 have H6 : w14.heap[q.heap.size + 5]? = some (.cells #[.int .i64 5, .int .i64 0, .int .i64 0, .int .i64 0] 57 (0, 0)) := by rw [z5] at h6; exact (c6.block _ (by omega)).trans h6
 have H7 : w14.heap[q.heap.size + 6]? = some (.cells #[.int .i64 1, .int .i64 0, .slice (some ⟨q.heap.size, 0, none⟩) 2 2, .int .i64 2, .int .i64 2, .slice (some ⟨q.heap.size + 1, 0, none⟩) 3 3, .int .i64 3, .int .i64 0, .slice (some ⟨q.heap.size + 2, 0, none⟩) 2 2, .int .i64 4, .int .i64 0, .slice (some ⟨q.heap.size + 3, 0, none⟩) 2 2, .int .i64 5, .int .i64 5, .slice (some ⟨q.heap.size + 4, 0, none⟩) 3 3, .int .i64 6, .int .i64 0, .slice (some ⟨q.heap.size + 5, 0, none⟩) 2 2] 60 (0, 0)) := by rw [z6] at h7; exact (c7.block _ (by omega)).trans h7
 have H8 : w14.heap[q.heap.size + 7]? = some (.cells #[.int .i64 2, .int .i64 2, .int .i64 5, .int .i64 5] 62 (0, 0)) := by rw [z7] at h8; exact (c8.block _ (by omega)).trans h8
 have H9 : w14.heap[q.heap.size + 8]? = some (.cells #[.int .i64 1, .int .i64 1, .int .i64 1, .int .i64 3, .int .i64 3, .int .i64 1, .int .i64 4, .int .i64 4, .int .i64 1, .int .i64 6, .int .i64 6, .int .i64 0] 64 (0, 0)) := by rw [z8] at h9; exact (c9.block _ (by omega)).trans h9
 have H10 : w14.heap[q.heap.size + 9]? = some (.cells #[.int .i64 2, .int .i64 3] 3 (0, 0)) := by rw [z9] at h10; exact (c10.block _ (by omega)).trans h10
 have H11 : w14.heap[q.heap.size + 10]? = some (.cells #[.int .i64 5] 3 (0, 0)) := by rw [z10] at h11; exact (c11.block _ (by omega)).trans h11
 have H12 : w14.heap[q.heap.size + 11]? = some (.cells #[.int .i64 5, .int .i64 6] 3 (0, 0)) := by rw [z11] at h12; exact (c12.block _ (by omega)).trans h12
 have H13 : w14.heap[q.heap.size + 12]? = some (.cells #[.int .i64 5, .int .i64 4, .int .i64 2, .int .i64 1] 3 (0, 0)) := by rw [z12] at h13; exact (c13.block _ (by omega)).trans h13
 have H14 : w14.heap[q.heap.size + 13]? = some (.cells #[.int .i64 1, .int .i64 1, .int .i64 3, .slice (some ⟨q.heap.size + 9, 0, none⟩) 2 2, .slice (some ⟨q.heap.size + 10, 0, none⟩) 1 1, .slice none 0 0, .int .i64 2, .int .i64 3, .int .i64 3, .int .i64 0, .slice (some ⟨q.heap.size + 11, 0, none⟩) 2 2, .slice none 0 0, .slice none 0 0, .int .i64 1, .int .i64 6, .int .i64 6, .int .i64 0, .slice (some ⟨q.heap.size + 12, 0, none⟩) 4 4, .slice none 0 0, .slice none 0 0, .int .i64 1] 41 (0, 0)) := by rw [z13] at h14; exact (c14.block _ (by omega)).trans h14
 have cq : Below q.heap.size q w14 := b1.trans (c1.mono b1.size)
 have H0 : w14.heap[w.heap.size]? = some (.cells #[.int .i64 0, .int .i64 0, .slice none 0 0, .slice none 0 0, .slice none 0 0, .slice none 0 0] 30 (0, 0)) := (cq.block _ (by have := QS.out; omega)).trans QX.out
 have hbq : Below w.heap.size w w14 := QB.out.trans (cq.mono QB.out.size)
 have H0' : ((((((((((((((q.alloc (.cells #[.int .i64 0, .int .i64 0, .int .i64 2, .int .i64 0] 57)).alloc (.cells #[.int .i64 1, .int .i64 1, .int .i64 3, .int .i64 0, .int .i64 4, .int .i64 0] 57)).alloc (.cells #[.int .i64 2, .int .i64 1, .int .i64 5, .int .i64 1] 57)).alloc (.cells #[.int .i64 2, .int .i64 2, .int .i64 5, .int .i64 2] 57)).alloc (.cells #[.int .i64 6, .int .i64 0, .int .i64 3, .int .i64 1, .int .i64 4, .int .i64 1] 57)).alloc (.cells #[.int .i64 5, .int .i64 0, .int .i64 0, .int .i64 0] 57)).alloc (.cells #[.int .i64 1, .int .i64 0, .slice (some ⟨q.heap.size, 0, none⟩) 2 2, .int .i64 2, .int .i64 2, .slice (some ⟨q.heap.size + 1, 0, none⟩) 3 3, .int .i64 3, .int .i64 0, .slice (some ⟨q.heap.size + 2, 0, none⟩) 2 2, .int .i64 4, .int .i64 0, .slice (some ⟨q.heap.size + 3, 0, none⟩) 2 2, .int .i64 5, .int .i64 5, .slice (some ⟨q.heap.size + 4, 0, none⟩) 3 3, .int .i64 6, .int .i64 0, .slice (some ⟨q.heap.size + 5, 0, none⟩) 2 2] 60)).alloc (.cells #[.int .i64 2, .int .i64 2, .int .i64 5, .int .i64 5] 62)).alloc (.cells #[.int .i64 1, .int .i64 1, .int .i64 1, .int .i64 3, .int .i64 3, .int .i64 1, .int .i64 4, .int .i64 4, .int .i64 1, .int .i64 6, .int .i64 6, .int .i64 0] 64)).alloc (.cells #[.int .i64 2, .int .i64 3] 3)).alloc (.cells #[.int .i64 5] 3)).alloc (.cells #[.int .i64 5, .int .i64 6] 3)).alloc (.cells #[.int .i64 5, .int .i64 4, .int .i64 2, .int .i64 1] 3)).alloc (.cells #[.int .i64 1, .int .i64 1, .int .i64 3, .slice (some ⟨q.heap.size + 9, 0, none⟩) 2 2, .slice (some ⟨q.heap.size + 10, 0, none⟩) 1 1, .slice none 0 0, .int .i64 2, .int .i64 3, .int .i64 3, .int .i64 0, .slice (some ⟨q.heap.size + 11, 0, none⟩) 2 2, .slice none 0 0, .slice none 0 0, .int .i64 1, .int .i64 6, .int .i64 6, .int .i64 0, .slice (some ⟨q.heap.size + 12, 0, none⟩) 4 4, .slice none 0 0, .slice none 0 0, .int .i64 1] 41)).heap[w.heap.size]? = some (.cells #[.int .i64 0, .int .i64 0, .slice none 0 0, .slice none 0 0, .slice none 0 0, .slice none 0 0] 30 (0, 0)) := by rw [← e1, ← e2, ← e3, ← e4, ← e5, ← e6, ← e7, ← e8, ← e9, ← e10, ← e11, ← e12, ← e13, ← e14]; exact H0
 have HH0 := Lib.hid H0'
 have E : Hid (((((((((((((((q.alloc (.cells #[.int .i64 0, .int .i64 0, .int .i64 2, .int .i64 0] 57)).alloc (.cells #[.int .i64 1, .int .i64 1, .int .i64 3, .int .i64 0, .int .i64 4, .int .i64 0] 57)).alloc (.cells #[.int .i64 2, .int .i64 1, .int .i64 5, .int .i64 1] 57)).alloc (.cells #[.int .i64 2, .int .i64 2, .int .i64 5, .int .i64 2] 57)).alloc (.cells #[.int .i64 6, .int .i64 0, .int .i64 3, .int .i64 1, .int .i64 4, .int .i64 1] 57)).alloc (.cells #[.int .i64 5, .int .i64 0, .int .i64 0, .int .i64 0] 57)).alloc (.cells #[.int .i64 1, .int .i64 0, .slice (some ⟨q.heap.size, 0, none⟩) 2 2, .int .i64 2, .int .i64 2, .slice (some ⟨q.heap.size + 1, 0, none⟩) 3 3, .int .i64 3, .int .i64 0, .slice (some ⟨q.heap.size + 2, 0, none⟩) 2 2, .int .i64 4, .int .i64 0, .slice (some ⟨q.heap.size + 3, 0, none⟩) 2 2, .int .i64 5, .int .i64 5, .slice (some ⟨q.heap.size + 4, 0, none⟩) 3 3, .int .i64 6, .int .i64 0, .slice (some ⟨q.heap.size + 5, 0, none⟩) 2 2] 60)).alloc (.cells #[.int .i64 2, .int .i64 2, .int .i64 5, .int .i64 5] 62)).alloc (.cells #[.int .i64 1, .int .i64 1, .int .i64 1, .int .i64 3, .int .i64 3, .int .i64 1, .int .i64 4, .int .i64 4, .int .i64 1, .int .i64 6, .int .i64 6, .int .i64 0] 64)).alloc (.cells #[.int .i64 2, .int .i64 3] 3)).alloc (.cells #[.int .i64 5] 3)).alloc (.cells #[.int .i64 5, .int .i64 6] 3)).alloc (.cells #[.int .i64 5, .int .i64 4, .int .i64 2, .int .i64 1] 3)).alloc (.cells #[.int .i64 1, .int .i64 1, .int .i64 3, .slice (some ⟨q.heap.size + 9, 0, none⟩) 2 2, .slice (some ⟨q.heap.size + 10, 0, none⟩) 1 1, .slice none 0 0, .int .i64 2, .int .i64 3, .int .i64 3, .int .i64 0, .slice (some ⟨q.heap.size + 11, 0, none⟩) 2 2, .slice none 0 0, .slice none 0 0, .int .i64 1, .int .i64 6, .int .i64 6, .int .i64 0, .slice (some ⟨q.heap.size + 12, 0, none⟩) 4 4, .slice none 0 0, .slice none 0 0, .int .i64 1] 41)) = w14) := Lib.hid (by rw [← e1, ← e2, ← e3, ← e4, ← e5, ← e6, ← e7, ← e8, ← e9, ← e10, ← e11, ← e12, ← e13, ← e14])
 have K1 := Lib.hid H1
 have K2 := Lib.hid H2
 have K3 := Lib.hid H3
 have K4 := Lib.hid H4
 have K5 := Lib.hid H5
 have K6 := Lib.hid H6
 have K7 := Lib.hid H7
 have K8 := Lib.hid H8
 have K9 := Lib.hid H9
 have K10 := Lib.hid H10
 have K11 := Lib.hid H11
 have K12 := Lib.hid H12
 have K13 := Lib.hid H13
 have K14 := Lib.hid H14
 have K0 := Lib.hid H0
 have KB := Lib.hid hbq
 clear H0 H0' hbq cq H1 H2 H3 H4 H5 H6 H7 H8 H9 H10 H11 H12 H13 H14 h1 b1 s1 z1 c1 e1 h2 b2 s2 z2 c2 e2 h3 b3 s3 z3 c3 e3 h4 b4 s4 z4 c4 e4 h5 b5 s5 z5 c5 e5 h6 b6 s6 z6 c6 e6 h7 b7 s7 z7 c7 e7 h8 b8 s8 z8 c8 e8 h9 b9 s9 z9 c9 e9 h10 b10 s10 z10 c10 e10 h11 b11 s11 z11 c11 e11 h12 b12 s12 z12 c12 e12 h13 b13 s13 z13 c13 e13 h14 b14 s14 z14 c14 e14
 go_wp2_with ((with_reducible show wpList _ _ _ (⟨none, _, _, _, _, _⟩ :: _) _ _); refine wpList_store_rowS rfl _ (.tmp 0) (.tmp 44) rfl w.heap.size rfl (c' := #[.int .i64 1, .int .i64 0, .slice (some ⟨q.heap.size + 6, 0, none⟩) 6 6, .slice (some ⟨q.heap.size + 7, 0, none⟩) 2 2, .slice (some ⟨q.heap.size + 8, 0, none⟩) 4 4, .slice (some ⟨q.heap.size + 13, 0, none⟩) 3 3]) rfl HH0.out infoPlan6 rfl (by simp [Value.oneCell']) ?_; rw [E.out])
 have hg := grownBy_setRow w14 w.heap.size #[.int .i64 1, .int .i64 0, .slice (some ⟨q.heap.size + 6, 0, none⟩) 6 6, .slice (some ⟨q.heap.size + 7, 0, none⟩) 2 2, .slice (some ⟨q.heap.size + 8, 0, none⟩) 4 4, .slice (some ⟨q.heap.size + 13, 0, none⟩) 3 3]
 have hneq : ∀ k, q.heap.size ≤ k → k ≠ w.heap.size := fun k hk => by have := QS.out; omega
 have KK : ∀ (b : Nat) (c : Array Value) (t : TypeId), q.heap.size ≤ b → w14.heap[b]? = some (.cells c t (0, 0)) → (w14.setRow w.heap.size #[.int .i64 1, .int .i64 0, .slice (some ⟨q.heap.size + 6, 0, none⟩) 6 6, .slice (some ⟨q.heap.size + 7, 0, none⟩) 2 2, .slice (some ⟨q.heap.size + 8, 0, none⟩) 4 4, .slice (some ⟨q.heap.size + 13, 0, none⟩) 3 3]).heap[b]? = some (.cells c t (0, 0)) := fun b c t hb h => (hg.block b (heap_lt h) (fun e => hneq b hb (by injection e))).trans h
 refine bodyPost_ret (results_cell_row rfl _ _ w.heap.size 30 #[.int .i64 1, .int .i64 0, .slice (some ⟨q.heap.size + 6, 0, none⟩) 6 6, .slice (some ⟨q.heap.size + 7, 0, none⟩) 2 2, .slice (some ⟨q.heap.size + 8, 0, none⟩) 4 4, .slice (some ⟨q.heap.size + 13, 0, none⟩) 3 3] (0, 0) _ rfl (setRow_heap _ _ _ _ _ _ K0.out) Try.underlying30 rfl infoPlan6) rfl ⟨_, rfl, ?_, ?_, by have := QS.out; omega, below_setRow KB.out (Nat.le_refl _) _⟩
 ·exact ⟨KK _ _ _ (by omega) K1.out, KK _ _ _ (by omega) K2.out, KK _ _ _ (by omega) K3.out, KK _ _ _ (by omega) K4.out, KK _ _ _ (by omega) K5.out, KK _ _ _ (by omega) K6.out, KK _ _ _ (by omega) K7.out, KK _ _ _ (by omega) K8.out, KK _ _ _ (by omega) K10.out, KK _ _ _ (by omega) K11.out, KK _ _ _ (by omega) K12.out, KK _ _ _ (by omega) K13.out, KK _ _ _ (by omega) K14.out⟩
 ·exact KK _ _ _ (by omega) K9.out

/-- Whether two ways conflict, reckoned. -/
def confC (x y : Wy) : Bool := ((x.path ++ x.over).any fun s => (y.path ++ y.over).any fun t => decide (s = t)) || (x.asks.any fun k => y.asks.any fun m => decide (k.1 = m.1) && decide (k.2.1 ≠ m.2.1))
theorem confC_eq (x y : Wy) : confW x y = confC x y := by
 have h : confC x y = true ↔ ConfW x y := by
  simp only [confC, ConfW, Bool.or_eq_true, List.any_eq_true, decide_eq_true_eq, Bool.and_eq_true]
  constructor
  ·rintro (⟨s, h1, t, h2, rfl⟩ | ⟨k, hk, m, hm, h1⟩)
   ·exact .inl ⟨s, h1, h2⟩
   ·exact .inr ⟨k, hk, m, hm, h1⟩
  ·rintro (⟨s, h1, h2⟩ | ⟨k, hk, m, hm, h1⟩)
   ·exact .inl ⟨s, h1, s, h2, rfl⟩
   ·exact .inr ⟨k, hk, m, hm, h1⟩
 cases hc : confC x y with
 | true => exact confW_true (h.1 hc)
 | false => exact confW_false (fun h2 => by rw [h.2 h2] at hc; cases hc)
theorem two_13 : twoE (stPl' stSigs [] [] []) 1 3 = 0 ∧ twoB (stPl' stSigs [] [] []) 1 3 = true := by
 have e : twoE (stPl' stSigs [] [] []) 1 3 = 0 := by rw [twoE, if_pos (soundP_true sound_st)]; decide
 exact ⟨e, by rw [twoB, if_pos e, confC_eq]; decide +kernel⟩
theorem two_11 : twoE (stPl' stSigs [] [] []) 1 1 = 2 := by rw [twoE, if_pos (soundP_true sound_st)]; decide
theorem two_19 : twoE (stPl' stSigs [] [] []) 1 9 = 6 := by rw [twoE, if_pos (soundP_true sound_st)]; decide
theorem tab_st : tabL (stPl' stSigs [] [] []) = [(1, 3), (1, 6), (3, 6)] := by
 rw [tabL, if_pos (soundP_true sound_st)]
 simp only [tabC, rowC, confC_eq]
 decide +kernel
def zPl : Pl := ⟨0, 0, [], [], [], []⟩
theorem sndE_z : sndE zPl = 100 := by
 rcases sndE_cases zPl with ⟨-, h⟩ | ⟨h, -⟩
 ·exact absurd h.may.ver.1 (by decide)
 ·exact h
theorem sndE_st : sndE (stPl' stSigs [] [] []) = 0 := sndE_zero.2 sound_st
theorem st_any (w : World) : Calls Try.prog 8 #[] w fun e w' => ∃ v, e = .returned v ∧ PlanV w' w'.heap.size v (stPl' stSigs [] [] []) ∧ Below w.heap.size w w' :=
 (st_at w).mono fun e w' ⟨s, h1, h2, h3, _, h5⟩ => ⟨_, h1, h2.plan ((st_sigs h3).in_ sigR_cells) ListIn.nil_ ListIn.nil_ ListIn.nil_, h5⟩
set_option maxHeartbeats 8000000 in
theorem alive11 (hc : CnfSaid) (w : World) : Calls Try.prog 10 #[] w fun e w' => e = .returned (.bool true) ∧ Below w.heap.size w w' := by
 go_enter Try.func10, Try.ntmps10
 go_wp2_with fail
 refine (st_any _).mono ?_
 rintro e wa0 ⟨v0, rfl, hv0, ba0⟩
 go_wp2_with fail
 refine (hc.two v0 (stPl' stSigs [] [] []) 1 3 wa0 hv0).mono ?_
 rintro e wb0 ⟨rfl, bb0⟩
 rw [two_13.1, two_13.2]
 have cc := ba0.trans (bb0.mono ba0.size)
 have B0 : Hid (Below w.heap.size w wb0) := Lib.hid (cc)
 clear cc ba0 bb0 hv0
 go_wp2_with fail
 refine (st_any _).mono ?_
 rintro e wa1 ⟨v1, rfl, hv1, ba1⟩
 go_wp2_with fail
 refine (hc.table v1 (stPl' stSigs [] [] []) wa1 hv1).mono ?_
 rintro e wb1 ⟨u, rfl, hu, bb1⟩
 rw [tab_st] at hu
 rw [sndE_st]
 have cc := ba1.trans (bb1.mono ba1.size)
 have B1 := Lib.hid (B0.out.trans (cc.mono B0.out.size))
 obtain ⟨A, c, rfl⟩ := hu.slice
 have hin := hu.in_ joinR_cells
 obtain ⟨b, off, e1, -, c0, c1⟩ := hin.at (show 0 < [((1, 3) : Jn), (1, 6), (3, 6)].length by decide)
 cases e1
 obtain ⟨b', off', e2, -, c2, c3⟩ := hin.at (show 1 < [((1, 3) : Jn), (1, 6), (3, 6)].length by decide)
 cases e2
 obtain ⟨b', off', e2, -, c4, c5⟩ := hin.at (show 2 < [((1, 3) : Jn), (1, 6), (3, 6)].length by decide)
 cases e2
 have g0 : wb1.cell? ⟨b, off, none⟩ = some (.int .i64 1) := by simpa using c0
 have g1 : wb1.cell? ⟨b, off + 1, none⟩ = some (.int .i64 3) := by simpa using c1
 have g2 : wb1.cell? ⟨b, off + 2, none⟩ = some (.int .i64 1) := by simpa using c2
 have g3 : wb1.cell? ⟨b, off + 2 + 1, none⟩ = some (.int .i64 6) := by simpa using c3
 have g4 : wb1.cell? ⟨b, off + 4, none⟩ = some (.int .i64 3) := by simpa using c4
 have g5 : wb1.cell? ⟨b, off + 4 + 1, none⟩ = some (.int .i64 6) := by simpa using c5
 have hc1 : ∀ w' : World, (Op.equalIn 10000 42 (.agg #[.int .i64 1, .int .i64 3]) (.agg #[.int .i64 1, .int .i64 3])).run Try.prog w' = .ok true w' := pair_self 1 3
 have hc2 : ∀ w' : World, (Op.equalIn 10000 42 (.agg #[.int .i64 1, .int .i64 6]) (.agg #[.int .i64 1, .int .i64 6])).run Try.prog w' = .ok true w' := pair_self 1 6
 have hc3 : ∀ w' : World, (Op.equalIn 10000 42 (.agg #[.int .i64 3, .int .i64 6]) (.agg #[.int .i64 3, .int .i64 6])).run Try.prog w' = .ok true w' := pair_self 3 6
 clear c0 c1 c2 c3 c4 c5 hin hu hv1 ba1 bb1 cc B0
 go_wp2_with fail
 go_ret
 exact ⟨rfl, B1.out⟩
end Go.Proofs.Ytebffdfimmbbdaa
