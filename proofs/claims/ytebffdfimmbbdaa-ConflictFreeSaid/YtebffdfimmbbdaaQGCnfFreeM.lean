/-
 Each point is asked for one lie: the mathematics.
 Conditions: none.
-/
import Derived.Test.YtebffdfimmbbdaaQGSndM
import Derived.Test.YtebffdfimmbbdaaQWayGoesM
import Derived.Test.YtebffdfimmbbdaaQGWayM
import Derived.Test.YtebffdfimmbbdaaQGCnfM
set_option linter.unusedVariables false
set_option linter.unusedSimpArgs false
set_option maxRecDepth 100000
namespace Go.Proofs.Ytebffdfimmbbdaa
open Go.RowKit

/-- The lie for which a point is asked, of a list; 0: it isn't. -/
def lieA (l : List Ak) (pt : Int) : Int := match l.find? (fun k => decide (k.1 = pt)) with
 | some k => k.2.1
 | none => 0
theorem lieA_mem {l : List Ak} (h : OnceA l) {k : Ak} (hk : k ∈ l) : lieA l k.1 = k.2.1 := by
 rw [lieA]
 cases hf : l.find? (fun m => decide (m.1 = k.1)) with
 | none => exact absurd (List.find?_eq_none.1 hf k hk) (by simp)
 | some m =>
  have h1 : m.1 = k.1 := by simpa using List.find?_some hf
  obtain ⟨i, hi, hie⟩ := List.getElem_of_mem (List.mem_of_find?_eq_some hf)
  obtain ⟨j, hj, hje⟩ := List.getElem_of_mem hk
  have e : m = k := by
   rcases Nat.lt_trichotomy i j with h2 | h2 | h2
   ·exact absurd (by rw [hie, hje]; exact h1) (h j hj i h2)
   ·subst h2; exact hie.symm.trans hje
   ·exact absurd (by rw [hie, hje]; exact h1.symm) (h i hi j h2)
  show m.2.1 = k.2.1
  rw [e]
theorem lieA_none {l : List Ak} {pt : Int} (h : ∀ k ∈ l, k.1 ≠ pt) : lieA l pt = 0 := by
 rw [lieA, List.find?_eq_none.2 (fun k hk => by simpa using h k hk)]
/-- One more that is asked, of a point that wasn't. -/
theorem lieA_snoc {l : List Ak} {k : Ak} (h : ∀ m ∈ l, m.1 ≠ k.1) (pt : Int) : lieA (l ++ [k]) pt = if pt = k.1 then k.2.1 else lieA l pt := by
 rw [lieA, List.find?_append]
 by_cases hp : pt = k.1
 ·rw [if_pos hp, List.find?_eq_none.2 (fun m hm => by simpa [hp] using h m hm)]
  simp [hp]
 ·rw [if_neg hp, lieA]
  cases hf : l.find? (fun m => decide (m.1 = pt)) with
  | some m => rfl
  | none => simp [List.find?, Ne.symm hp]
theorem once_take {l : List Ak} (h : OnceA l) {i : Nat} (hi : i < l.length) : ∀ m ∈ l.take i, m.1 ≠ l[i].1 := fun m hm => by
 obtain ⟨k, hk, rfl⟩ := List.getElem_of_mem hm
 rw [List.length_take] at hk
 rw [List.getElem_take]
 exact h i hi k (by omega)
/-- What a section asks of its point is what is asked of it. -/
theorem sound_lie {p : Pl} {r : Rt} (h : Sound p r) {a : Nat} (ha : a < (allR r).length) {k : Ak} (hk : askN p r a = some k) : lieA (wayR p r).asks k.1 = k.2.1 := by
 refine lieA_mem h.once (List.mem_append_left _ ?_)
 rw [asksL]
 exact List.mem_filterMap.2 ⟨a, List.mem_range.2 ha, hk⟩

/-- A hundred numbers, as cells. -/
def lieRow (f : Nat → Int) : Array Value := ((List.range 100).map fun i => Value.int .i64 (f i)).toArray
theorem lieRow_at (f : Nat → Int) {j : Nat} (h : j < 100) : (lieRow f)[j]? = some (.int .i64 (f j)) := by
 simp [lieRow, h]
theorem lieRow_set (f : Nat → Int) {q : Nat} (v : Int) (h : q < 100) : (lieRow f).setIfInBounds q (.int .i64 v) = lieRow (fun i => if i = q then v else f i) := by
 apply Array.ext_getElem?
 intro i
 rw [Array.getElem?_setIfInBounds]
 by_cases hi : i < 100
 ·rw [lieRow_at f hi, lieRow_at _ hi]
  by_cases h2 : q = i
  ·subst h2
   rw [if_pos rfl, if_pos (by simpa [lieRow] using h), if_pos rfl]
  ·rw [if_neg h2, if_neg (fun e => h2 e.symm)]
 ·rw [show (lieRow f)[i]? = none from by simp [lieRow]; omega, show (lieRow fun j => if j = q then v else f j)[i]? = none from by simp [lieRow]; omega, if_neg (by omega)]
theorem lie_cell {W : World} {g : Nat} {f : Nat → Int} {t : TypeId} (h : W.heap[g]? = some (.cells (lieRow f) t (0, 0))) {j : Nat} (hj : j < 100) : W.cell? ⟨g, j, none⟩ = some (.int .i64 (f j)) := by
 rw [cell_of_row _ _ _ _ _ _ h]; exact lieRow_at f hj
theorem infoIntL : (Try.prog.info? 3).map (fun i => (i.zero, i.size, i.bytes)) = some (some (.int .i64 0), 1, 8) := by kernel_rfl
theorem lieRow_made : madeCells (Value.int IntKind.i64 0).cells 100 = lieRow (fun _ => 0) := by kernel_rfl
theorem made_lies (w : World) : ∃ o : Obj, (Instr.makeSlice 38 (.int .i64 100) (.int .i64 100)).run Try.prog w = .ok (.slice (some ⟨w.heap.size, 0, none⟩) 100 100) (w.alloc o) ∧ (w.alloc o).heap[w.heap.size]? = some (.cells (lieRow fun _ => 0) 3 (0, 0)) := by
 obtain ⟨i0, hi, hz0, hz1, hz2⟩ := info_parts infoIntL
 have h := run_make (P := Try.prog) w 38 3 i0 _ Try.underlying38 hi hz0 .i64 .i64 100 100 (by omega) (by omega) (by rw [hz2]; omega) (by omega)
 refine ⟨_, h, ?_⟩
 rw [hz1, show (100 : Int).toNat * 1 = 100 from rfl, lieRow_made]
 exact heap_alloc_self _ _
/-- The points that a route asks have numbers from 1 to 99. -/
theorem ask_range {p : Pl} {r : Rt} (hr : RouteIn p r) {k : Ak} (hk : k ∈ (wayR p r).asks) : 1 ≤ k.1 ∧ k.1 ≤ 99 := by
 have h' : k ∈ asksL p r (allR r).length ++ r.flanks.map flankA := hk
 rcases List.mem_append.1 h' with h1 | h1
 ·obtain ⟨i, hi, he⟩ := List.mem_filterMap.1 h1
  have hi' := List.mem_range.1 hi
  have hp := (askN_parts he).1
  have hs := (hr.shaped hi').1
  rw [shapedB] at hs
  by_cases h0 : (secN p ((allR r).getD i 0)).2.1 = 0
  ·exfalso
   rw [askN] at he
   simp only [h0, if_pos] at he
   cases he
  ·rw [if_neg h0] at hs
   simp only [Bool.and_eq_true, decide_eq_true_eq] at hs
   rw [hp]
   exact ⟨hs.1, hs.2.1⟩
 ·obtain ⟨f, hf, rfl⟩ := List.mem_map.1 h1
  obtain ⟨i, hi, rfl⟩ := List.getElem_of_mem hf
  have h2 := (hr.route.flanks i hi).1
  rcases at1_cases (fun x : Jn => x.1) p.pts r.flanks[i].1 with ⟨h3, -⟩ | ⟨m, hm, -, h4, -⟩
  ·omega
  ·have h5 := hr.plan.pts.each m hm
   have h4' : p.pts[m].1 = r.flanks[i].1 := h4
   show 1 ≤ r.flanks[i].1 ∧ r.flanks[i].1 ≤ 99
   omega
/-- The lie that the train finds a section's point in. -/
theorem sound_out {p : Pl} {r : Rt} (hs : Sound p r) (hr : RouteIn p r) {a : Nat} {t : Jn} (ha : a < (allR r).length) (hh : HereIn p r a t) (hb : lastB r a = false) {e : Nat} (he : outN p r a t.2 = (e : Int)) (hel : e < (secN p ((allR r).getD a 0)).2.2.length) (h0 : 0 ≤ lieS (secN p ((allR r).getD a 0)).2.1 t.2 (e : Int)) :
  ∃ L : Int, (L = if (secN p ((allR r).getD a 0)).2.1 = 0 then 0 else lieA (wayR p r).asks (secN p ((allR r).getD a 0)).2.1) ∧ outE (secN p ((allR r).getD a 0)) t.2 L = 0 ∧ outV (secN p ((allR r).getD a 0)) t.2 L = (e : Int) := by
 have hg := goes_out hr ha hh hb he hel h0
 have hl := goes_lie (p := p) (r := r) ha
 refine ⟨_, rfl, ?_⟩
 by_cases hp : (secN p ((allR r).getD a 0)).2.1 = 0
 ·rw [if_pos hp]
  have hn : askN p r a = none := by rw [askN]; simp only [hp, if_pos]
  rw [hn] at hl
  rw [hl] at hg
  exact hg
 ·rw [if_neg hp]
  have hoa : outA p r a = (e : Int) := by rw [outA, hb, in_of hh.comes]; exact he
  have hk : askN p r a = some ((secN p ((allR r).getD a 0)).2.1, lieS (secN p ((allR r).getD a 0)).2.1 t.2 (e : Int), (a : Int)) := by
   have hin := in_of hh.comes
   rw [askN]
   simp only [hoa, hin]
   rw [if_neg hp, if_pos (show (0 : Int) ≤ (e : Int) by omega), if_pos (lie_pos hp h0)]
  rw [hk] at hl
  rw [hl] at hg
  rw [sound_lie hs ha hk]
  exact hg

def secsW (x : Wy) : List Int := x.path ++ x.over
def rtL (p : Pl) (L : List Int) (j : Nat) : Rt := routeN p (L.getD j 0)
def wayL (p : Pl) (L : List Int) (j : Nat) : Wy := wayR p (rtL p L j)
/-- Numbers of routes no two of which conflict. -/
structure FreeL (p : Pl) (L : List Int) : Prop where
 there : ∀ j, j < L.length → 0 ≤ at1 kRt p.routes (L.getD j 0)
 two : ∀ i, i < L.length → ∀ j, j < i → twoE p (L.getD j 0) (L.getD i 0) = 0 ∧ twoB p (L.getD j 0) (L.getD i 0) = false
theorem FreeL.nil_ (p : Pl) : FreeL p [] := ⟨fun j h => absurd h (by simp), fun i h => absurd h (by simp)⟩
theorem getD_snoc_lt {L : List Int} {y : Int} {j : Nat} (h : j < L.length) : (L ++ [y]).getD j 0 = L.getD j 0 := by
 rw [List.getD, List.getD, List.getElem?_append_left h]
theorem getD_snoc_eq {L : List Int} {y : Int} : (L ++ [y]).getD L.length 0 = y := by
 rw [List.getD, List.getElem?_append_right (Nat.le_refl _)]; simp
theorem FreeL.snoc {p : Pl} {L : List Int} {y : Int} (h : FreeL p L) (hy : 0 ≤ at1 kRt p.routes y) (h2 : ∀ j, j < L.length → twoE p (L.getD j 0) y = 0 ∧ twoB p (L.getD j 0) y = false) : FreeL p (L ++ [y]) := by
 refine ⟨fun j hj => ?_, fun i hi j hj => ?_⟩
 ·rw [List.length_append, List.length_singleton] at hj
  rcases Nat.lt_or_ge j L.length with h1 | h1
  ·rw [getD_snoc_lt h1]; exact h.there j h1
  ·obtain rfl : j = L.length := by omega
   rw [getD_snoc_eq]; exact hy
 ·rw [List.length_append, List.length_singleton] at hi
  rw [getD_snoc_lt (show j < L.length by omega)]
  rcases Nat.lt_or_ge i L.length with h1 | h1
  ·rw [getD_snoc_lt h1]; exact h.two i h1 j hj
  ·obtain rfl : i = L.length := by omega
   rw [getD_snoc_eq]; exact h2 j hj
section
variable {p : Pl} {L : List Int}
theorem free_in (hp : PlanSound p) (h : FreeL p L) {i : Nat} (hi : i < L.length) : RouteIn p (rtL p L i) ∧ Sound p (rtL p L i) := by
 have h1 := h.there i hi
 rcases at1_cases kRt p.routes (L.getD i 0) with ⟨h2, -⟩ | ⟨k, hk, h2, -, -⟩
 ·omega
 ·have e : rtL p L i = p.routes[k] := routeN_at hk h2
  rw [e]
  exact ⟨routeIn_of hp.may hk rfl, hp.each k hk⟩
theorem free_way (hp : PlanSound p) (h : FreeL p L) {i : Nat} (hi : i < L.length) : wayE p (L.getD i 0) = 0 ∧ wayV p (L.getD i 0) = wayL p L i := by
 have h1 := (free_in hp h hi).2.hangs
 have e : wayE p (L.getD i 0) = 0 := by
  have h2 := h.there i hi
  rw [wayE, if_pos (planMay_true hp.may), if_neg (by omega), if_pos (show hangsB p (routeN p (L.getD i 0)) = true from hangsB_true h1)]
 exact ⟨e, by rw [wayV, if_pos e]; rfl⟩
theorem free_not (h : FreeL p L) {i j : Nat} (hi : i < L.length) (hj : j < i) : ¬ ConfW (wayL p L j) (wayL p L i) := by
 obtain ⟨h1, h2⟩ := h.two i hi j hj
 rw [twoB, if_pos h1] at h2
 intro hc
 have h3 : confW (wayR p (routeN p (L.getD j 0))) (wayR p (routeN p (L.getD i 0))) = true := confW_true hc
 rw [h3] at h2
 cases h2
/-- A section's number is an index of a hundred. -/
theorem free_sec (hp : PlanSound p) (h : FreeL p L) {i : Nat} (hi : i < L.length) {k : Nat} (hk : k < (secsW (wayL p L i)).length) : ∃ s : Nat, s < 100 ∧ (secsW (wayL p L i))[k] = (s : Int) := by
 obtain ⟨hr, -⟩ := free_in hp h hi
 have h1 := hr.route.secs k hk
 have h2 := hr.plan.secs
 rcases atS_cases p.secs ((rtL p L i).path ++ (rtL p L i).over)[k] with h3 | ⟨m, hm, h3, h4⟩
 ·omega
 ·have h5 := h2.s m hm
  have h6 : (secsW (wayL p L i))[k] = p.secs[m].1 := h4.symm
  exact ⟨p.secs[m].1.toNat, by omega, by omega⟩
theorem free_ask (hp : PlanSound p) (h : FreeL p L) {i : Nat} (hi : i < L.length) {k : Nat} (hk : k < (wayL p L i).asks.length) : ∃ s : Nat, s < 100 ∧ (wayL p L i).asks[k].1 = (s : Int) := by
 obtain ⟨hr, -⟩ := free_in hp h hi
 have h1 := ask_range hr (List.getElem_mem hk)
 exact ⟨((wayL p L i).asks[k]).1.toNat, by unfold wayL at h1 ⊢; omega, by unfold wayL at h1 ⊢; omega⟩
/-- What stands in the array of holders: sections of the routes before, or of this one. -/
def HeldF (p : Pl) (L : List Int) (i : Nat) (l : List Int) (f : Nat → Int) : Prop := ∀ s : Nat, f s ≠ 0 → (∃ j, j < i ∧ (s : Int) ∈ secsW (wayL p L j)) ∨ (s : Int) ∈ l
theorem held_free (hp : PlanSound p) (h : FreeL p L) {f : Nat → Int} {i k s : Nat} (hi : i < L.length) (hk : k < (secsW (wayL p L i)).length) (hs : (secsW (wayL p L i))[k] = (s : Int)) (hf : HeldF p L i ((secsW (wayL p L i)).take k) f) : f s = 0 := by
 by_cases h0 : f s = 0
 ·exact h0
 exfalso
 rcases hf s h0 with ⟨j, hj, h1⟩ | h1
 ·exact free_not h hi hj (.inl ⟨s, h1, by rw [← hs]; exact List.getElem_mem hk⟩)
 ·obtain ⟨m, hm, h2⟩ := List.getElem_of_mem h1
  rw [List.length_take] at hm
  rw [List.getElem_take] at h2
  have h3 := ((free_in hp h hi).1.route.secs k hk).2 m (by omega)
  exact h3 (h2.trans hs.symm)
theorem held_set {f : Nat → Int} {i k s : Nat} {l : List Int} (v : Int) (hk : k < l.length) (hs : l[k] = (s : Int)) (hf : HeldF p L i (l.take k) f) : HeldF p L i (l.take (k + 1)) (fun q => if q = s then v else f q) := fun q hq => by
 by_cases h : q = s
 ·subst h
  exact .inr (by rw [← hs, List.take_add_one, List.getElem?_eq_getElem hk]; exact List.mem_append_right _ (List.mem_singleton.2 rfl))
 ·dsimp only at hq
  rw [if_neg h] at hq
  rcases hf q hq with h1 | h1
  ·exact .inl h1
  ·exact .inr (by rw [List.take_add_one]; exact List.mem_append_left _ h1)
theorem held_next {f : Nat → Int} {i : Nat} (hf : HeldF p L i (secsW (wayL p L i)) f) : HeldF p L (i + 1) [] f := fun q hq => by
 rcases hf q hq with ⟨j, hj, h⟩ | h
 ·exact .inl ⟨j, by omega, h⟩
 ·exact .inl ⟨i, by omega, h⟩
/-- What stands in the array of lies. -/
def LieF (p : Pl) (L : List Int) (i : Nat) (l : List Ak) (g : Nat → Int) : Prop := ∀ s : Nat, g s ≠ 0 → (∃ j, j < i ∧ ∃ k ∈ (wayL p L j).asks, k.1 = (s : Int) ∧ k.2.1 = g s) ∨ ∃ k ∈ l, k.1 = (s : Int) ∧ k.2.1 = g s
theorem lie_free (hp : PlanSound p) (h : FreeL p L) {g : Nat → Int} {i k s : Nat} (hi : i < L.length) (hk : k < (wayL p L i).asks.length) (hs : (wayL p L i).asks[k].1 = (s : Int)) (hg : LieF p L i ((wayL p L i).asks.take k) g) : g s = 0 ∨ g s = (wayL p L i).asks[k].2.1 := by
 by_cases h0 : g s = 0
 ·exact .inl h0
 rcases hg s h0 with ⟨j, hj, m, hm, h1, h2⟩ | ⟨m, hm, h1, h2⟩
 ·right
  by_cases h3 : g s = (wayL p L i).asks[k].2.1
  ·exact h3
  ·exact absurd (.inr ⟨m, hm, _, List.getElem_mem hk, h1.trans hs.symm, by rw [h2]; exact h3⟩) (free_not h hi hj)
 ·exact absurd (h1.trans hs.symm) (once_take (free_in hp h hi).2.once hk m hm)
theorem lie_set {g : Nat → Int} {i k s : Nat} {l : List Ak} (hk : k < l.length) (hs : l[k].1 = (s : Int)) (hg : LieF p L i (l.take k) g) : LieF p L i (l.take (k + 1)) (fun q => if q = s then l[k].2.1 else g q) := fun q hq => by
 by_cases h : q = s
 ·subst h
  dsimp only
  exact .inr ⟨l[k], by rw [List.take_add_one, List.getElem?_eq_getElem hk]; exact List.mem_append_right _ (List.mem_singleton.2 rfl), hs, by rw [if_pos rfl]⟩
 ·dsimp only at hq ⊢
  rw [if_neg h] at hq ⊢
  rcases hg q hq with h1 | ⟨m, hm, h1⟩
  ·exact .inl h1
  ·exact .inr ⟨m, by rw [List.take_add_one]; exact List.mem_append_left _ hm, h1⟩
theorem lie_next {g : Nat → Int} {i : Nat} (hg : LieF p L i (wayL p L i).asks g) : LieF p L (i + 1) [] g := fun q hq => by
 rcases hg q hq with ⟨j, hj, h⟩ | h
 ·exact .inl ⟨j, by omega, h⟩
 ·exact .inl ⟨i, by omega, h⟩
/-- What is left of a number is free of those taken. -/
def apartB (p : Pl) (L : List Int) (y : Int) (n : Nat) : Prop := 0 ≤ at1 kRt p.routes y ∧ ∀ j, j < n → twoE p (L.getD j 0) y = 0 ∧ twoB p (L.getD j 0) y = false
theorem apart_succ {y : Int} {n : Nat} : apartB p L y (n + 1) ↔ apartB p L y n ∧ twoE p (L.getD n 0) y = 0 ∧ twoB p (L.getD n 0) y = false := by
 constructor
 ·rintro ⟨h1, h2⟩
  exact ⟨⟨h1, fun j hj => h2 j (by omega)⟩, h2 n (by omega)⟩
 ·rintro ⟨⟨h1, h2⟩, h3⟩
  refine ⟨h1, fun j hj => ?_⟩
  rcases Nat.lt_or_ge j n with h | h
  ·exact h2 j h
  ·obtain rfl : j = n := by omega
   exact h3
end
end Go.Proofs.Ytebffdfimmbbdaa
