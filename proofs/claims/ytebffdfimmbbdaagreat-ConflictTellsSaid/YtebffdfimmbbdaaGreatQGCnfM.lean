/-
 Routes that conflict: the mathematics.
 Conditions: none.
-/
import Derived.Test.YtebffdfimmbbdaaGreatQGSndM
import Derived.Test.YtebffdfimmbbdaaGreatQGWayAllM
import Derived.Test.YtebffdfimmbbdaaGreatQGBase
import Derived.Test.YtebffdfimmbbdaaGreatQGTrkRef
import Derived.Test.YtebffdfimmbbdaaGreatQGPlnRefB
import Derived.ChangeKeysEq
set_option linter.unusedVariables false
set_option linter.unusedSimpArgs false
set_option maxRecDepth 100000
namespace Go.Proofs.YtebffdfimmbbdaaGreat
open Go.RowKit

/-- Two ways have a section in common, or ask one point for unlike lies. -/
def ConfW (x y : Wy) : Prop := (∃ s, s ∈ x.path ++ x.over ∧ s ∈ y.path ++ y.over) ∨ ∃ k ∈ x.asks, ∃ m ∈ y.asks, k.1 = m.1 ∧ k.2.1 ≠ m.2.1
noncomputable def confW (x y : Wy) : Bool := @decide (ConfW x y) (Classical.propDecidable _)
theorem confW_true {x y : Wy} (h : ConfW x y) : confW x y = true := by rw [confW]; exact @decide_eq_true _ (Classical.propDecidable _) h
theorem confW_false {x y : Wy} (h : ¬ ConfW x y) : confW x y = false := by rw [confW]; exact @decide_eq_false _ (Classical.propDecidable _) h
theorem confW_iff {x y : Wy} : confW x y = true ↔ ConfW x y := by rw [confW]; exact @decide_eq_true_iff _ (Classical.propDecidable _)
theorem conf_symm {x y : Wy} (h : ConfW x y) : ConfW y x := by
 rcases h with ⟨s, h1, h2⟩ | ⟨k, hk, m, hm, h1, h2⟩
 ·exact .inl ⟨s, h2, h1⟩
 ·exact .inr ⟨m, hm, k, hk, h1.symm, fun e => h2 e.symm⟩
theorem confW_symm (x y : Wy) : confW x y = confW y x := by
 cases h : confW y x with
 | true => exact confW_true (conf_symm (confW_iff.1 h))
 | false =>
  cases h2 : confW x y with
  | false => rfl
  | true => rw [confW_true (conf_symm (confW_iff.1 h2))] at h; cases h
theorem conf_entry {p : Pl} {x y : Rt} (hx : Hangs p x) (hy : Hangs p y) (he : x.entry = y.entry) (h1 : 0 < x.path.length) (h2 : 0 < y.path.length) : ConfW (wayR p x) (wayR p y) :=
 .inl ⟨x.path[0], List.mem_append_left _ (List.getElem_mem h1), by rw [entry_first hx hy he h1 h2]; exact List.mem_append_left _ (List.getElem_mem h2)⟩
/-- What Two answers. -/
noncomputable def twoE (p : Pl) (a b : Int) : Int := if soundP p then (if at1 kRt p.routes a < 0 ∨ at1 kRt p.routes b < 0 then 6 else if a = b then 2 else 0) else 100
noncomputable def twoB (p : Pl) (a b : Int) : Bool := if twoE p a b = 0 then confW (wayR p (routeN p a)) (wayR p (routeN p b)) else false
/-- The pairs of one route with those behind it, up to the n-th; all pairs of the first m routes with those behind them. -/
def rtI (p : Pl) (i : Nat) : Rt := p.routes.getD i zRt
noncomputable def rowC (p : Pl) (i n : Nat) : List Jn := ((List.range n).filter fun k => decide (i < k) && confW (wayR p (rtI p i)) (wayR p (rtI p k))).map fun k => ((rtI p i).id, (rtI p k).id)
noncomputable def tabC (p : Pl) (m : Nat) : List Jn := (List.range m).flatMap fun i => rowC p i p.routes.length
noncomputable def tabL (p : Pl) : List Jn := if soundP p then tabC p p.routes.length else []
theorem tabC_succ (p : Pl) (m : Nat) : tabC p (m + 1) = tabC p m ++ rowC p m p.routes.length := by
 rw [tabC, List.range_succ, List.flatMap_append, List.flatMap_singleton]; rfl
theorem rowC_zero (p : Pl) (i : Nat) {n : Nat} (h : n ≤ i + 1) : rowC p i n = [] := by
 rw [rowC, List.map_eq_nil_iff, List.filter_eq_nil_iff]
 intro k hk
 have := List.mem_range.1 hk
 rw [decide_eq_false (by omega)]
 simp
theorem rowC_take {p : Pl} {i n : Nat} (h : i < n) (hc : confW (wayR p (rtI p i)) (wayR p (rtI p n)) = true) : rowC p i (n + 1) = rowC p i n ++ [((rtI p i).id, (rtI p n).id)] := by
 rw [rowC, List.range_succ, List.filter_append, List.map_append]
 congr 1
 simp [h, hc]
theorem rowC_skip {p : Pl} {i n : Nat} (hc : confW (wayR p (rtI p i)) (wayR p (rtI p n)) = false) : rowC p i (n + 1) = rowC p i n := by
 rw [rowC, List.range_succ, List.filter_append, List.map_append]
 simp [hc, rowC]
theorem twoE_zero {p : Pl} {a b : Int} (h : twoE p a b = 0) : PlanSound p ∧ 0 ≤ at1 kRt p.routes a ∧ 0 ≤ at1 kRt p.routes b ∧ a ≠ b := by
 rw [twoE] at h
 split at h
 ·rename_i h1
  split at h
  ·cases h
  ·rename_i h2
   split at h
   ·cases h
   ·rename_i h3
    exact ⟨soundP_iff.1 h1, by omega, by omega, h3⟩
 ·cases h
theorem two_at {p : Pl} (h : PlanSound p) {i k : Nat} (hi : i < p.routes.length) (hk : k < p.routes.length) (hik : i ≠ k) :
  twoE p (rtI p i).id (rtI p k).id = 0 ∧ twoB p (rtI p i).id (rtI p k).id = confW (wayR p (rtI p i)) (wayR p (rtI p k)) := by
 have e1 : rtI p i = p.routes[i] := by rw [rtI, List.getD, List.getElem?_eq_getElem hi]; rfl
 have e2 : rtI p k = p.routes[k] := by rw [rtI, List.getD, List.getElem?_eq_getElem hk]; rfl
 have up : ∀ {m : Nat} (hm : m < p.routes.length), at1 kRt p.routes p.routes[m].id = (m : Int) := fun {m} hm => at1_some hm rfl fun j hj => by
  have := ids_up h.may m j hm hj
  show p.routes[j].id ≠ p.routes[m].id
  omega
 have hne : p.routes[i].id ≠ p.routes[k].id := fun e => by
  have h1 := up hi
  have h2 := up hk
  rw [e] at h1
  omega
 have hE : twoE p (rtI p i).id (rtI p k).id = 0 := by rw [twoE, if_pos (soundP_true h), e1, e2, up hi, up hk, if_neg (by omega), if_neg hne]
 refine ⟨hE, ?_⟩
 rw [twoB, if_pos hE, e1, e2, routeN_at hi (up hi), routeN_at hk (up hk)]

theorem two_unsound {p : Pl} {a b S : Int} (hS : sndE p = S) (h0 : S ≠ 0) : twoE p a b = S ∧ twoB p a b = false := by
 rcases sndE_cases p with ⟨h1, -⟩ | ⟨h1, h2⟩
 ·exact absurd (hS.symm.trans h1) h0
 ·have e : twoE p a b = 100 := by rw [twoE, soundP_false h2]; rfl
  exact ⟨by rw [e, ← hS, h1], by rw [twoB, e]; rfl⟩
theorem two_noone {p : Pl} {a b : Int} (h : PlanSound p) (h0 : at1 kRt p.routes a < 0 ∨ at1 kRt p.routes b < 0) : twoE p a b = 6 ∧ twoB p a b = false := by
 have e : twoE p a b = 6 := by rw [twoE, if_pos (soundP_true h), if_pos h0]
 exact ⟨e, by rw [twoB, e]; rfl⟩
theorem two_one {p : Pl} {a b : Int} (h : PlanSound p) (ha : 0 ≤ at1 kRt p.routes a) (hb : 0 ≤ at1 kRt p.routes b) (hab : a = b) : twoE p a b = 2 ∧ twoB p a b = false := by
 have e : twoE p a b = 2 := by rw [twoE, if_pos (soundP_true h), if_neg (by omega), if_pos hab]
 exact ⟨e, by rw [twoB, e]; rfl⟩
theorem two_two {p : Pl} {a b : Int} (h : PlanSound p) (ha : 0 ≤ at1 kRt p.routes a) (hb : 0 ≤ at1 kRt p.routes b) (hab : a ≠ b) : twoE p a b = 0 ∧ twoB p a b = confW (wayR p (routeN p a)) (wayR p (routeN p b)) := by
 have e : twoE p a b = 0 := by rw [twoE, if_pos (soundP_true h), if_neg (by omega), if_neg hab]
 exact ⟨e, by rw [twoB, if_pos e]⟩
theorem way_sound {p : Pl} {c : Int} (h : PlanSound p) (hc : 0 ≤ at1 kRt p.routes c) : wayE p c = 0 ∧ wayV p c = wayR p (routeN p c) := by
 rcases at1_cases kRt p.routes c with ⟨h1, -⟩ | ⟨k, hk, h1, -⟩
 ·omega
 ·have e : wayE p c = 0 := by rw [wayE, if_pos (planMay_true h.may), if_neg (by omega), routeN_at hk h1, hangsB_true (h.each k hk).hangs, if_pos rfl]
  exact ⟨e, by rw [wayV, if_pos e]⟩
theorem way_len {p : Pl} {c : Int} (h : PlanSound p) (hc : 0 ≤ at1 kRt p.routes c) : (wayR p (routeN p c)).path.length ≤ 1000 ∧ (wayR p (routeN p c)).over.length ≤ 1000 := by
 rcases at1_cases kRt p.routes c with ⟨h1, -⟩ | ⟨k, hk, h1, -⟩
 ·omega
 ·rw [routeN_at hk h1]
  have h2 := (h.may.each k hk).2.2
  have h3 := h2.path
  have h4 := h2.over
  show p.routes[k].path.length ≤ 1000 ∧ p.routes[k].over.length ≤ 1000
  omega
theorem way_none {p : Pl} {c : Int} (h : PlanSound p) (hc : at1 kRt p.routes c < 0) : wayE p c = 6 := by
 rw [wayE, if_pos (planMay_true h.may), if_pos hc]
theorem way_eight {p : Pl} {k : Nat} (h : PlanSound p) (hk : k < p.routes.length) : 1 ≤ (wayR p p.routes[k]).path.length + (wayR p p.routes[k]).over.length ∧ (wayR p p.routes[k]).path.length + (wayR p p.routes[k]).over.length ≤ 1000 := by
 have h2 := (h.may.each k hk).2.2
 have h3 := h2.path
 have h4 := h2.over
 show 1 ≤ p.routes[k].path.length + p.routes[k].over.length ∧ p.routes[k].path.length + p.routes[k].over.length ≤ 1000
 omega
theorem way_told {p : Pl} {c : Int} (h : PlanSound p) : (wayE p c = 0 ↔ 0 ≤ at1 kRt p.routes c) ∧ (wayE p c = 0 → wayV p c = wayR p (routeN p c) ∧ 1 ≤ (wayV p c).path.length + (wayV p c).over.length ∧ (wayV p c).path.length + (wayV p c).over.length ≤ 1000) := by
 rcases Int.lt_or_le (at1 kRt p.routes c) 0 with h1 | h1
 ·have := way_none h h1
  exact ⟨by omega, by omega⟩
 ·obtain ⟨h2, h3⟩ := way_sound h h1
  refine ⟨by omega, fun _ => ⟨h3, ?_⟩⟩
  rw [h3]
  rcases at1_cases kRt p.routes c with ⟨h1', -⟩ | ⟨k, hk, h1', -⟩
  ·omega
  ·rw [routeN_at hk h1']
   exact way_eight h hk
theorem all_sound {p : Pl} (h : PlanSound p) : allE p = 0 ∧ allW p = p.routes.map (wayR p) := by
 have e := all_good h.may fun k hk => (h.each k hk).hangs
 exact ⟨e, by rw [allW, if_pos e]⟩

abbrev PairsOwn (W : World) (lo : Nat) (v : Value) (l : List Jn) : Prop := ListOwn 41 2 JoinR W lo v l
theorem infoPair : (Tryz.prog.info? 41).map (fun i => (i.zero, i.size, i.bytes)) = some (some (.agg #[.int .i64 0, .int .i64 0]), 2, 16) := by kernel_rfl
theorem rowC_len (p : Pl) (i n : Nat) : (rowC p i n).length ≤ n := by
 rw [rowC, List.length_map]
 exact Nat.le_trans (List.length_filter_le _ _) (by simp)
theorem tabC_len (p : Pl) : ∀ m, (tabC p m).length ≤ m * p.routes.length
 | 0 => by simp [tabC]
 | m + 1 => by
  rw [tabC_succ, List.length_append, Nat.succ_mul]
  exact Nat.add_le_add (tabC_len p m) (rowC_len p m _)
theorem pair_eq (a b c d : Int) (w : World) : (Op.equalIn 10000 41 (.agg #[.int .i64 a, .int .i64 b]) (.agg #[.int .i64 c, .int .i64 d])).run Tryz.prog w = .ok ((a == c) && (b == d)) w := by
 obtain ⟨ie, hie, -, -, -⟩ := info_parts infoInt
 have hagg : (isAgg 3).run Tryz.prog w = .ok false w := by
  unfold isAgg
  rw [Sem.run_bind, run_underlying Tryz.underlying3 w]
  simp
 have hi : ∀ x y : Int, (Op.equalIn 9999 3 (.int .i64 x) (.int .i64 y)).run Tryz.prog w = .ok (x == y) w := fun x y => run_equalIn_int w 9998 3 .i64 .i64 x y Tryz.underlying3
 rw [run_equalIn_array w 9999 _ _ Tryz.underlying41 hie, show Tryz.prog.cellsOf 3 = 1 by kernel_rfl, show List.range 2 = [0, 1] from rfl]
 simp only [Op.eqItems]
 by_cases h1 : a = c <;> by_cases h2 : b = d <;> simp [part, Sem.run_bind, Sem.run_ite, hagg, hi, h1, h2]
theorem pair_self (a b : Int) (w : World) : (Op.equalIn 10000 41 (.agg #[.int .i64 a, .int .i64 b]) (.agg #[.int .i64 a, .int .i64 b])).run Tryz.prog w = .ok true w := by
 rw [pair_eq]
 simp
/-- What the program's package conflict answers: to be proved over the program's own text; the walks of the statements take it. -/
structure CnfSaid : Prop where
 two : ∀ (v : Value) (p : Pl) (a b : Int) (w : World), PlanV w w.heap.size v p →
  Calls Tryz.prog 6 #[v, .int .i64 a, .int .i64 b] w fun e w' => e = .returned (.tuple #[.bool (twoB p a b), .int .i64 (twoE p a b)]) ∧ Below w.heap.size w w'
 table : ∀ (v : Value) (p : Pl) (w : World), PlanV w w.heap.size v p →
  Calls Tryz.prog 8 #[v] w fun e w' => ∃ u, e = .returned (.tuple #[u, .int .i64 (sndE p)]) ∧ PairsOwn w' w.heap.size u (tabL p) ∧ Below w.heap.size w w'
end Go.Proofs.YtebffdfimmbbdaaGreat
