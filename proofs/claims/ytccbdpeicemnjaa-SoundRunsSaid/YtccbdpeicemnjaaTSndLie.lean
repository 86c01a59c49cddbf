/-
 The array of lies of SoundRuns, and the points that a route asks.
 Conditions: none.
-/
import Derived.Test.YtccbdpeicemnjaaTSndRunsM
import Derived.Test.YtccbdpeicemnjaaTGWayM
set_option linter.unusedVariables false
set_option linter.unusedSimpArgs false
set_option maxRecDepth 100000
namespace Go.Proofs.Ytccbdpeicemnjaa
open Go.RowKit

/-- A hundred numbers, as cells. -/
def lieRow (f : Nat → Int) : Array Value := ((List.range 100).map fun i => Value.int .i64 (f i)).toArray
theorem lieRow_at (f : Nat → Int) {j : Nat} (h : j < 100) : (lieRow f)[j]? = some (.int .i64 (f j)) := by
 simp [lieRow, h]
theorem lieRow_set (f : Nat → Int) {q : Nat} (v : Int) (h : q < 100) : (lieRow f).setIfInBounds q (.int .i64 v) = lieRow (fun i => if i = q then v else f i) := by
 apply Array.ext_getElem?
 intro i
 rw [Array.getElem?_setIfInBounds]
 by_cases hi : i < 100
 ·rw [lieRow_at f hi, lieRow_at _ hi]
  by_cases h2 : q = i
  ·subst h2
   rw [if_pos rfl, if_pos (by simpa [lieRow] using h), if_pos rfl]
  ·rw [if_neg h2, if_neg (fun e => h2 e.symm)]
 ·rw [show (lieRow f)[i]? = none from by simp [lieRow]; omega, show (lieRow fun j => if j = q then v else f j)[i]? = none from by simp [lieRow]; omega, if_neg (by omega)]
theorem lie_cell {W : World} {g : Nat} {f : Nat → Int} {t : TypeId} (h : W.heap[g]? = some (.cells (lieRow f) t (0, 0))) {j : Nat} (hj : j < 100) : W.cell? ⟨g, j, none⟩ = some (.int .i64 (f j)) := by
 rw [cell_of_row _ _ _ _ _ _ h]; exact lieRow_at f hj
theorem infoIntL : (Try.prog.info? 3).map (fun i => (i.zero, i.size, i.bytes)) = some (some (.int .i64 0), 1, 8) := by kernel_rfl
theorem lieRow_made : madeCells (Value.int IntKind.i64 0).cells 100 = lieRow (fun _ => 0) := by kernel_rfl
theorem made_lies (w : World) : ∃ o : Obj, (Instr.makeSlice 32 (.int .i64 100) (.int .i64 100)).run Try.prog w = .ok (.slice (some ⟨w.heap.size, 0, none⟩) 100 100) (w.alloc o) ∧ (w.alloc o).heap[w.heap.size]? = some (.cells (lieRow fun _ => 0) 3 (0, 0)) := by
 obtain ⟨i0, hi, hz0, hz1, hz2⟩ := info_parts infoIntL
 have h := run_make (P := Try.prog) w 32 3 i0 _ Try.underlying32 hi hz0 .i64 .i64 100 100 (by omega) (by omega) (by rw [hz2]; omega) (by omega)
 refine ⟨_, h, ?_⟩
 rw [hz1, show (100 : Int).toNat * 1 = 100 from rfl, lieRow_made]
 exact heap_alloc_self _ _
/-- The points that a route asks have numbers from 1 to 99. -/
theorem ask_range {p : Pl} {r : Rt} (hr : RouteIn p r) {k : Ak} (hk : k ∈ (wayR p r).asks) : 1 ≤ k.1 ∧ k.1 ≤ 99 := by
 have h' : k ∈ asksL p r (allR r).length ++ r.flanks.map flankA := hk
 rcases List.mem_append.1 h' with h1 | h1
 ·obtain ⟨i, hi, he⟩ := List.mem_filterMap.1 h1
  have hi' := List.mem_range.1 hi
  have hp := (askN_parts he).1
  have hs := (hr.shaped hi').1
  rw [shapedB] at hs
  by_cases h0 : (secN p ((allR r).getD i 0)).2.1 = 0
  ·exfalso
   rw [askN] at he
   simp only [h0, if_pos] at he
   cases he
  ·rw [if_neg h0] at hs
   simp only [Bool.and_eq_true, decide_eq_true_eq] at hs
   rw [hp]
   exact ⟨hs.1, hs.2.1⟩
 ·obtain ⟨f, hf, rfl⟩ := List.mem_map.1 h1
  obtain ⟨i, hi, rfl⟩ := List.getElem_of_mem hf
  have h2 := (hr.route.flanks i hi).1
  rcases at1_cases (fun x : Jn => x.1) p.pts r.flanks[i].1 with ⟨h3, -⟩ | ⟨m, hm, -, h4, -⟩
  ·omega
  ·have h5 := hr.plan.pts.each m hm
   have h4' : p.pts[m].1 = r.flanks[i].1 := h4
   show 1 ≤ r.flanks[i].1 ∧ r.flanks[i].1 ≤ 99
   omega
/-- The lie that the train finds a section's point in. -/
theorem sound_out {p : Pl} {r : Rt} (hs : Sound p r) (hr : RouteIn p r) {a : Nat} {t : Jn} (ha : a < (allR r).length) (hh : HereIn p r a t) (hb : lastB r a = false) {e : Nat} (he : outN p r a t.2 = (e : Int)) (hel : e < (secN p ((allR r).getD a 0)).2.2.length) (h0 : 0 ≤ lieS (secN p ((allR r).getD a 0)).2.1 t.2 (e : Int)) :
  ∃ L : Int, (L = if (secN p ((allR r).getD a 0)).2.1 = 0 then 0 else lieA (wayR p r).asks (secN p ((allR r).getD a 0)).2.1) ∧ outE (secN p ((allR r).getD a 0)) t.2 L = 0 ∧ outV (secN p ((allR r).getD a 0)) t.2 L = (e : Int) := by
 have hg := goes_out hr ha hh hb he hel h0
 have hl := goes_lie (p := p) (r := r) ha
 refine ⟨_, rfl, ?_⟩
 by_cases hp : (secN p ((allR r).getD a 0)).2.1 = 0
 ·rw [if_pos hp]
  have hn : askN p r a = none := by rw [askN]; simp only [hp, if_pos]
  rw [hn] at hl
  rw [hl] at hg
  exact hg
 ·rw [if_neg hp]
  have hoa : outA p r a = (e : Int) := by rw [outA, hb, in_of hh.comes]; exact he
  have hk : askN p r a = some ((secN p ((allR r).getD a 0)).2.1, lieS (secN p ((allR r).getD a 0)).2.1 t.2 (e : Int), (a : Int)) := by
   have hin := in_of hh.comes
   rw [askN]
   simp only [hoa, hin]
   rw [if_neg hp, if_pos (show (0 : Int) ≤ (e : Int) by omega), if_pos (lie_pos hp h0)]
  rw [hk] at hl
  rw [hl] at hg
  rw [sound_lie hs ha hk]
  exact hg
end Go.Proofs.Ytccbdpeicemnjaa
