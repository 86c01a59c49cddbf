/-
 The program's package area: what its maps gather, and that it is the document's area.
 Conditions: none.
-/
import Derived.Test.YtneeocnjfnneoaaGreatVGDifPA
import Derived.Test.YtneeocnjfnneoaaGreatVGAreM
import Derived.Maps.AppendAt
import Derived.Shelf.SortM.Plain
import Derived.Shelf.SortM.SortNone
set_option linter.unusedVariables false
set_option linter.unusedSimpArgs false
set_option maxRecDepth 100000
namespace Go.Proofs.YtneeocnjfnneoaaGreat
open Go.RowKit

/-! ### Sets of elements, as maps hold them -/
/-- Block b is a map that holds just the elements of g. -/
structure GathE (W : World) (b : Nat) (g : K13 → Prop) (es : Ents) : Prop where
 map : MapB W b es
 nd : KeysNd es
 un : ∀ q ∈ es, q.2 = .agg #[]
 keys : ∀ k, k ∈ es.map (·.1) ↔ g k
def Gath (W : World) (b : Nat) (g : K13 → Prop) : Prop := ∃ es, GathE W b g es
theorem GathE.lt {W : World} {b : Nat} {g : K13 → Prop} {es : Ents} (h : GathE W b g es) : b < W.heap.size := h.map.lt
theorem Gath.lt {W : World} {b : Nat} {g : K13 → Prop} (h : Gath W b g) : b < W.heap.size := by obtain ⟨es, h⟩ := h; exact h.map.lt
theorem GathE.below {W W' : World} {b n : Nat} {g : K13 → Prop} {es : Ents} (h : GathE W b g es) (hb : Below n W W') (hn : b < n) : GathE W' b g es := ⟨h.map.below hb hn, h.nd, h.un, h.keys⟩
theorem Gath.below {W W' : World} {b n : Nat} {g : K13 → Prop} (h : Gath W b g) (hb : Below n W W') (hn : b < n) : Gath W' b g := by obtain ⟨es, h⟩ := h; exact ⟨es, h.below hb hn⟩
theorem GathE.same {W W' : World} {b : Nat} {g : K13 → Prop} {es : Ents} (h : GathE W b g es) (hb : W'.heap[b]? = W.heap[b]?) : GathE W' b g es := ⟨hb.trans h.map, h.nd, h.un, h.keys⟩
theorem Gath.same {W W' : World} {b : Nat} {g : K13 → Prop} (h : Gath W b g) (hb : W'.heap[b]? = W.heap[b]?) : Gath W' b g := by obtain ⟨es, h⟩ := h; exact ⟨es, h.same hb⟩
theorem GathE.iff {W : World} {b : Nat} {g g' : K13 → Prop} {es : Ents} (h : GathE W b g es) (hg : ∀ k, g k ↔ g' k) : GathE W b g' es := ⟨h.map, h.nd, h.un, fun k => (h.keys k).trans (hg k)⟩
theorem Gath.iff {W : World} {b : Nat} {g g' : K13 → Prop} (h : Gath W b g) (hg : ∀ k, g k ↔ g' k) : Gath W b g' := by obtain ⟨es, h⟩ := h; exact ⟨es, h.iff hg⟩
theorem Gath.new (W : World) : Gath (W.alloc (.map #[] 0)) W.heap.size fun _ => False := ⟨[], MapB.new W, by simp [KeysNd], by simp, by simp⟩
theorem putE_mem (es : Ents) (hn : KeysNd es) (x : K13) (v : Value) (k : K13) : k ∈ (putE es x v).map (·.1) ↔ k ∈ es.map (·.1) ∨ k = x := by
 rw [← look_ne, look_put hn, ← look_ne (es := es)]
 by_cases e : k = x
 ·simp [e]
 ·simp [e]
/-- One more. -/
theorem GathE.put {W W' : World} {b : Nat} {g : K13 → Prop} {es : Ents} (h : GathE W b g es) (k : K13) (hm : MapB W' b (putE es k (.agg #[]))) : Gath W' b fun z => g z ∨ z = k := by
 refine ⟨_, hm, put_nd h.nd k _, fun q hq => ?_, fun z => ?_⟩
 ·rcases put_mem hq with rfl | hq
  ·rfl
  ·exact h.un q hq
 ·rw [putE_mem es h.nd, h.keys]
theorem GathE.at_ {W : World} {b : Nat} {g : K13 → Prop} {es : Ents} (h : GathE W b g es) (k : K13) : (look es k).getD (.agg #[]) = .agg #[] ∧ ((look es k).isSome = true ↔ g k) := by
 cases e : look es k with
 | some v => exact ⟨h.un _ (look_some e), fun _ => (h.keys k).1 (List.mem_map.2 ⟨_, look_some e, rfl⟩), fun _ => rfl⟩
 | none => exact ⟨rfl, fun g => (by cases g), fun hg => absurd ((h.keys k).2 hg) (look_none.1 e)⟩
/-- What a map turns is turned in its block alone. -/
theorem Gath.same13 {W W' : World} {b : Nat} {g g' : K13 → Prop} (h : Gath W b g) (h' : Gath W' b g') (hg : W.grownBy W' (some b)) : Same13 W.heap.size W W' := by
 obtain ⟨es, h⟩ := h
 obtain ⟨es', h'⟩ := h'
 exact map_same hg h.map h'.map
theorem Gath.not_cells {W : World} {b : Nat} {g : K13 → Prop} (h : Gath W b g) (c : Array Value) (t : TypeId) (f : Nat × Nat) : W.heap[b]? ≠ some (.cells c t f) := by
 obtain ⟨es, h⟩ := h
 have := h.map
 unfold MapB at this
 rw [this]
 exact fun e => by cases e
/-- All that may be gathered. -/
def all14 : List K13 := (List.range 4).flatMap fun i => (List.range 99).map fun (j : Nat) => (((i : Nat) : Int) + 1, (j : Int) + 1)
theorem all14_mem {k : K13} (h : (1 ≤ k.1 ∧ k.1 ≤ 4) ∧ 1 ≤ k.2 ∧ k.2 ≤ 99) : k ∈ all14 := by
 unfold all14
 rw [List.mem_flatMap]
 obtain ⟨a, b⟩ := k
 dsimp only at h
 refine ⟨(a - 1).toNat, List.mem_range.2 (by omega), List.mem_map.2 ⟨(b - 1).toNat, List.mem_range.2 (by omega), ?_⟩⟩
 have h1 : (((a - 1).toNat : Nat) : Int) + 1 = a := by omega
 have h2 : (((b - 1).toNat : Nat) : Int) + 1 = b := by omega
 rw [h1, h2]
theorem all14_len : all14.length = 396 := by decide +kernel
theorem nodup_le13 : ∀ (l m : List K13), l.Nodup → (∀ x ∈ l, x ∈ m) → l.length ≤ m.length
 | [], m, _, _ => Nat.zero_le _
 | x :: l, m, hn, h => by
  rw [List.nodup_cons] at hn
  have hx := h x (List.mem_cons_self ..)
  have h1 := nodup_le13 l (m.erase x) hn.2 fun y hy => (List.mem_erase_of_ne (fun e => by subst e; exact hn.1 hy)).2 (h y (List.mem_cons_of_mem _ hy))
  rw [List.length_erase_of_mem hx] at h1
  have := List.length_pos_of_mem hx
  rw [List.length_cons]
  omega
/-- Sets of elements that may be. -/
def Fit14 (g : K13 → Prop) : Prop := ∀ k, g k → (1 ≤ k.1 ∧ k.1 ≤ 4) ∧ 1 ≤ k.2 ∧ k.2 ≤ 99
theorem GathE.len {W : World} {b : Nat} {g : K13 → Prop} {es : Ents} (h : GathE W b g es) (hf : Fit14 g) : es.length ≤ 396 := by
 have := nodup_le13 (es.map (fun q : K13 × Value => q.1)) all14 h.nd fun k hk => all14_mem (hf k ((h.keys k).1 hk))
 rwa [all14_len, List.length_map] at this
theorem iter_fewer {W : World} {b r cnt : Nat} {es vs : Ents} (h : Iter13 W b r es vs cnt) : vs.length ≤ es.length := by
 obtain ⟨-, seen, c0, -, -, -, -, hsub, hn⟩ := h
 have h1 := nodup_le13 (vs.map (fun q : K13 × Value => q.1)) (es.map (fun q : K13 × Value => q.1)) hn fun x hx => by
  obtain ⟨q, hq, rfl⟩ := List.mem_map.1 hx
  exact List.mem_map.2 ⟨q, hsub q hq, rfl⟩
 simpa using h1

/-! ### The numbers of one kind, in order -/
def ofKind (kind : Int) (vs : Ents) : List Int := (vs.filter fun q => decide (q.1.1 = kind)).map fun q => q.1.2
theorem ofKind_yes {kind : Int} (vs : Ents) {q : K13 × Value} (h : q.1.1 = kind) : ofKind kind (vs ++ [q]) = ofKind kind vs ++ [q.1.2] := by
 unfold ofKind
 rw [List.filter_append, List.map_append]
 simp [h]
theorem ofKind_no {kind : Int} (vs : Ents) {q : K13 × Value} (h : ¬ q.1.1 = kind) : ofKind kind (vs ++ [q]) = ofKind kind vs := by
 unfold ofKind
 rw [List.filter_append, List.map_append]
 simp [h]
theorem ofKind_len (kind : Int) (vs : Ents) : (ofKind kind vs).length ≤ vs.length := by
 unfold ofKind
 rw [List.length_map]
 exact List.length_filter_le _ _
theorem ofKind_mem {kind id : Int} {vs : Ents} : id ∈ ofKind kind vs ↔ (kind, id) ∈ vs.map (·.1) := by
 unfold ofKind
 simp only [List.mem_map, List.mem_filter, decide_eq_true_iff]
 constructor
 ·rintro ⟨q, ⟨h1, h2⟩, rfl⟩; exact ⟨q, h1, by rw [← h2]⟩
 ·rintro ⟨q, h1, e⟩; exact ⟨q, ⟨h1, by rw [e]⟩, by rw [e]⟩
theorem ofKind_nodup (kind : Int) : ∀ (vs : Ents), KeysNd vs → (ofKind kind vs).Nodup
 | [], _ => by simp [ofKind]
 | q :: r, h => by
  unfold KeysNd at h
  rw [List.map_cons, List.nodup_cons] at h
  have ih := ofKind_nodup kind r h.2
  by_cases e : q.1.1 = kind
  ·have e2 : ofKind kind (q :: r) = q.1.2 :: ofKind kind r := by simp [ofKind, e]
   rw [e2, List.nodup_cons]
   refine ⟨fun hm => h.1 ?_, ih⟩
   have h3 := ofKind_mem.1 hm
   rw [← e] at h3
   exact h3
  ·have e2 : ofKind kind (q :: r) = ofKind kind r := by simp [ofKind, e]
   rw [e2]
   exact ih
/-- Sorted, they are the area's list. -/
theorem sort_ids {l : List Int} (hn : l.Nodup) {f : Int → Bool} (hm : ∀ id, id ∈ l ↔ f id = true) (hr : ∀ id, f id = true → 1 ≤ id ∧ id ≤ 99) : l.mergeSort (fun x y => decide (x ≤ y)) = idsL f := by
 have hp := List.mergeSort_perm l (fun x y => decide (x ≤ y))
 have hs : (l.mergeSort (fun x y => decide (x ≤ y))).Pairwise (fun x y => decide (x ≤ y) = true) := List.pairwise_mergeSort (fun a b c h1 h2 => by simp at h1 h2 ⊢; omega) (fun a b => by simp; omega) l
 have hnd : (l.mergeSort (fun x y => decide (x ≤ y))).Nodup := hp.nodup_iff.2 hn
 have hlt : (l.mergeSort (fun x y => decide (x ≤ y))).Pairwise (· < ·) := by
  refine (List.Pairwise.and hs hnd).imp fun {a b} h => ?_
  have h1 := of_decide_eq_true h.1
  have h2 : a ≠ b := h.2
  omega
 refine sorted_ext (k := fun x : Int => x) _ _ hlt (ids_sorted _) fun x => ?_
 rw [hp.mem_iff, hm, ids_mem]
 exact ⟨fun h => ⟨hr x h, h⟩, fun h => h.2⟩

/-! ### What a route uses -/
/-- A section with a point is that point's. -/
theorem sec_pt {p : Pl} (h : PlanMay p) {s : Sec} (hs : s ∈ p.secs) (h0 : s.2.1 ≠ 0) : ∃ x ∈ p.pts, x.1 = s.2.1 ∧ x.2 = s.1 := by
 have hsub : ∀ z ∈ p.pts.map (·.1), z ∈ (p.secs.filter hasPt).map (·.2.1) := fun z hz => by
  obtain ⟨x, hx, rfl⟩ := List.mem_map.1 hz
  obtain ⟨s', h1, h2, h3, h4, h5⟩ := pt_there h hx
  exact List.mem_map.2 ⟨s', List.mem_filter.2 ⟨h1, by simp [hasPt, h3]; omega⟩, h3⟩
 have hnd : (p.pts.map (·.1)).Nodup := by
  have h1 := (may_rising h).pts
  have h2 : (p.pts.map (·.1)).Pairwise (· < ·) := List.pairwise_map.2 h1
  exact h2.imp fun {a b} g e => by omega
 have hin : s.2.1 ∈ p.pts.map (·.1) := Classical.not_not.1 fun hn => by
  have := nodup_le14 (s.2.1 :: p.pts.map (·.1)) ((p.secs.filter hasPt).map (·.2.1)) (List.nodup_cons.2 ⟨hn, hnd⟩) fun z hz => by
   rcases List.mem_cons.1 hz with rfl | hz
   ·exact List.mem_map.2 ⟨s, List.mem_filter.2 ⟨hs, by simp [hasPt]; exact h0⟩, rfl⟩
   ·exact hsub z hz
  rw [List.length_cons, List.length_map, List.length_map, ← List.countP_eq_length_filter, h.pts.many] at this
  omega
 obtain ⟨x, hx, e⟩ := List.mem_map.1 hin
 obtain ⟨s', h1, h2, h3, -⟩ := pt_there h hx
 have : s' = s := pt_unique h h1 hs (by rw [h3]; simpa [e] using h0) (by rw [h3]; exact e)
 subst this
 exact ⟨x, hx, e, h2.symm⟩
/-- All but what the points bring along. -/
def flK (r : Rt) (i : Nat) (k : K13) : Prop :=
 (((((False ∨ (k.1 = 4 ∧ k.2 ∈ [r.id] ∧ k.2 ≠ 0)) ∨ (k.1 = 1 ∧ k.2 ∈ r.path ∧ k.2 ≠ 0)) ∨ (k.1 = 1 ∧ k.2 ∈ r.over ∧ k.2 ≠ 0)) ∨ (k.1 = 3 ∧ k.2 ∈ [r.entry, r.exit] ∧ k.2 ≠ 0))) ∨ (k.1 = 2 ∧ k.2 ∈ (r.flanks.take i).map (·.1) ∧ k.2 ≠ 0)
theorem flK_zero (r : Rt) (k : K13) : flK r 0 k ↔ ((((False ∨ (k.1 = 4 ∧ k.2 ∈ [r.id] ∧ k.2 ≠ 0)) ∨ (k.1 = 1 ∧ k.2 ∈ r.path ∧ k.2 ≠ 0)) ∨ (k.1 = 1 ∧ k.2 ∈ r.over ∧ k.2 ≠ 0)) ∨ (k.1 = 3 ∧ k.2 ∈ [r.entry, r.exit] ∧ k.2 ≠ 0)) := by simp [flK]
theorem flK_succ (r : Rt) {i : Nat} (hi : i < r.flanks.length) (k : K13) : flK r (i + 1) k ↔ flK r i k ∨ (k.1 = 2 ∧ k.2 ∈ [r.flanks[i].1] ∧ k.2 ≠ 0) := by
 unfold flK
 rw [List.take_add_one, List.getElem?_eq_getElem hi, Option.toList_some, List.map_append, List.mem_append, List.map_singleton]
 constructor
 ·rintro (h | ⟨h1, h2 | h2, h3⟩)
  ·exact .inl (.inl h)
  ·exact .inl (.inr ⟨h1, h2, h3⟩)
  ·exact .inr ⟨h1, h2, h3⟩
 ·rintro ((h | ⟨h1, h2, h3⟩) | ⟨h1, h2, h3⟩)
  ·exact .inl h
  ·exact .inr ⟨h1, .inl h2, h3⟩
  ·exact .inr ⟨h1, .inr h2, h3⟩
def hitK (r : Rt) (q : Jn) : Prop := flK r r.flanks.length (1, q.2) ∨ flK r r.flanks.length (2, q.1)
/-- What has come when i points were looked at. -/
def ptK (p : Pl) (r : Rt) (i : Nat) (k : K13) : Prop := flK r r.flanks.length k ∨ ∃ q ∈ p.pts.take i, hitK r q ∧ (k = (1, q.2) ∨ k = (2, q.1))
theorem ptK_zero (p : Pl) (r : Rt) (k : K13) : ptK p r 0 k ↔ flK r r.flanks.length k := by simp [ptK]
theorem pt_sec_in {p : Pl} (h : PlanMay p) {x : Jn} (hx : x ∈ p.pts) : 1 ≤ x.2 ∧ x.2 ≤ 99 ∧ 1 ≤ x.1 ∧ x.1 ≤ 99 := by
 obtain ⟨s, h1, h2, h3, h4, h5⟩ := pt_there h hx
 have := sec_in h h1
 omega
theorem pts_one14 {p : Pl} (h : PlanMay p) {x y : Jn} (hx : x ∈ p.pts) (hy : y ∈ p.pts) (e : x.2 = y.2 ∨ x.1 = y.1) : x = y := by
 have hid : x.1 = y.1 → x = y := fun e => by
  have h1 := elD_pt (may_rising h) hx
  have h2 := elD_pt (may_rising h) hy
  rw [e, h2] at h1
  cases h1
  rfl
 rcases e with e | e
 ·obtain ⟨s, h1, h2, h3, -⟩ := pt_there h hx
  obtain ⟨s', g1, g2, g3, -⟩ := pt_there h hy
  have f1 := elD_sec (may_rising h) h1
  have f2 := elD_sec (may_rising h) g1
  rw [h2, e, ← g2, f2] at f1
  cases f1
  exact hid (by rw [← h3, ← g3])
 ·exact hid e
theorem ptK_hit {p : Pl} (h : PlanMay p) (r : Rt) {i : Nat} (hi : i < p.pts.length) : (ptK p r i (1, p.pts[i].2) ∨ ptK p r i (2, p.pts[i].1)) ↔ hitK r p.pts[i] := by
 have hm := List.getElem_mem hi
 constructor
 ·rintro ((h1 | ⟨q, hq, h1, h2⟩) | (h1 | ⟨q, hq, h1, h2⟩))
  ·exact .inl h1
  ·have : q = p.pts[i] := by
    rcases h2 with e | e
    ·injection e with e1 e2; exact (pts_one14 h hm (List.mem_of_mem_take hq) (.inl e2)).symm
    ·injection e with e1 e2; cases e1
   exact this ▸ h1
  ·exact .inr h1
  ·have : q = p.pts[i] := by
    rcases h2 with e | e
    ·injection e with e1 e2; cases e1
    ·injection e with e1 e2; exact (pts_one14 h hm (List.mem_of_mem_take hq) (.inr e2)).symm
   exact this ▸ h1
 ·rintro (h1 | h1)
  ·exact .inl (.inl h1)
  ·exact .inr (.inl h1)
theorem ptK_yes {p : Pl} (h : PlanMay p) (r : Rt) {i : Nat} (hi : i < p.pts.length) (hh : hitK r p.pts[i]) (k : K13) :
  ptK p r (i + 1) k ↔ (ptK p r i k ∨ (k.1 = 1 ∧ k.2 ∈ [p.pts[i].2] ∧ k.2 ≠ 0)) ∨ (k.1 = 2 ∧ k.2 ∈ [p.pts[i].1] ∧ k.2 ≠ 0) := by
 have hin := pt_sec_in h (List.getElem_mem hi)
 unfold ptK
 rw [List.take_add_one, List.getElem?_eq_getElem hi, Option.toList_some]
 obtain ⟨a, b⟩ := k
 simp only [List.mem_append, List.mem_singleton, Prod.mk.injEq]
 constructor
 ·rintro (h1 | ⟨q, hq | rfl, h2, h3⟩)
  ·exact .inl (.inl (.inl h1))
  ·exact .inl (.inl (.inr ⟨q, hq, h2, h3⟩))
  ·rcases h3 with ⟨e1, e2⟩ | ⟨e1, e2⟩
   ·exact .inl (.inr ⟨e1, e2, by omega⟩)
   ·exact .inr ⟨e1, e2, by omega⟩
 ·rintro (((h1 | ⟨q, hq, h2, h3⟩) | ⟨e1, e2, -⟩) | ⟨e1, e2, -⟩)
  ·exact .inl h1
  ·exact .inr ⟨q, .inl hq, h2, h3⟩
  ·exact .inr ⟨_, .inr rfl, hh, .inl ⟨e1, e2⟩⟩
  ·exact .inr ⟨_, .inr rfl, hh, .inr ⟨e1, e2⟩⟩
theorem ptK_no {p : Pl} (r : Rt) {i : Nat} (hi : i < p.pts.length) (hh : ¬ hitK r p.pts[i]) (k : K13) : ptK p r (i + 1) k ↔ ptK p r i k := by
 unfold ptK
 rw [List.take_add_one, List.getElem?_eq_getElem hi, Option.toList_some]
 simp only [List.mem_append, List.mem_singleton]
 constructor
 ·rintro (h1 | ⟨q, hq | rfl, h2, h3⟩)
  ·exact .inl h1
  ·exact .inr ⟨q, hq, h2, h3⟩
  ·exact absurd h2 hh
 ·rintro (h1 | ⟨q, hq, h2, h3⟩)
  ·exact .inl h1
  ·exact .inr ⟨q, .inl hq, h2, h3⟩
theorem flank_pt {p : Pl} (h : PlanMay p) {r : Rt} (hr : r ∈ p.routes) {f : Jn} (hf : f ∈ r.flanks) : ∃ x ∈ p.pts, x.1 = f.1 := by
 obtain ⟨i, hi, rfl⟩ := List.getElem_of_mem hr
 obtain ⟨j, hj, rfl⟩ := List.getElem_of_mem hf
 have h1 := ((h.each i hi).2.2.flanks j hj).1
 rcases at1_cases (fun x : Jn => x.1) p.pts p.routes[i].flanks[j].1 with ⟨g1, -⟩ | ⟨k, hk, g1, g2, -⟩
 ·omega
 ·exact ⟨_, List.getElem_mem hk, g2⟩
/-- In the end: what the route uses. -/
theorem ptK_all {p : Pl} (h : PlanMay p) {r : Rt} (hr : r ∈ p.routes) (k : K13) : ptK p r p.pts.length k ↔ useB p r k.1 k.2 = true := by
 have hRi := may_rising h
 have hin : ∀ q ∈ p.pts, hitK r q ↔ q.2 ∈ secsU p r := fun q hq => by
  have g := pt_sec_in h hq
  constructor
  ·rintro (h1 | h1)
   ·simp [flK] at h1
    unfold secsU
    rw [List.mem_append, List.mem_append]
    rcases h1 with h1 | h1
    ·exact .inl (.inl h1.1)
    ·exact .inl (.inr h1.1)
   ·simp [flK] at h1
    obtain ⟨⟨z, hz⟩, -⟩ := h1
    unfold secsU
    refine List.mem_append_right _ (List.mem_map.2 ⟨_, hz, ?_⟩)
    exact sec_of_pt hRi hq
  ·intro h1
   unfold secsU at h1
   rw [List.mem_append, List.mem_append] at h1
   rcases h1 with (h1 | h1) | h1
   ·exact .inl (by simp [flK, h1]; omega)
   ·exact .inl (by simp [flK, h1]; omega)
   ·obtain ⟨f, hf, e⟩ := List.mem_map.1 h1
    obtain ⟨x, hx, e2⟩ := flank_pt h hr hf
    rw [← e2, sec_of_pt hRi hx] at e
    have : x = q := pts_one14 h hx hq (.inl e)
    subst this
    refine .inr ?_
    have : x.1 ∈ r.flanks.map (·.1) := List.mem_map.2 ⟨f, hf, e2.symm⟩
    simp only [List.mem_map] at this
    simp [flK]
    refine ⟨?_, by omega⟩
    obtain ⟨f', h1, h2⟩ := this
    exact ⟨f'.2, by rw [← h2]; exact h1⟩
 obtain ⟨kind, id⟩ := k
 unfold ptK
 rw [List.take_length]
 try dsimp only
 constructor
 ·rintro (h1 | ⟨q, hq, h1, h2⟩)
  ·unfold flK at h1
   dsimp only at h1
   rw [List.take_length] at h1
   rcases h1 with ((((h1 | ⟨rfl, h1, h0⟩) | ⟨rfl, h1, h0⟩) | ⟨rfl, h1, h0⟩) | ⟨rfl, h1, h0⟩) | ⟨rfl, h1, h0⟩
   ·exact h1.elim
   ·simp [useB]; simpa using h1
   ·simp [useB, secsU, h1]
   ·simp [useB, secsU, h1]
   ·simp [useB, h0]; simpa using h1
   ·obtain ⟨f, hf, e⟩ := List.mem_map.1 h1
    try dsimp only at e
    subst e
    obtain ⟨x, hx, e2⟩ := flank_pt h hr hf
    obtain ⟨s, g1, g2, g3, -⟩ := pt_there h hx
    have e3 := sec_of_pt hRi hx
    rw [e2] at e3
    have e4 := pt_of_sec hRi g1
    simp only [useB, show ¬ (2 : Int) = 1 by decide, if_false, if_true, decide_eq_true_iff]
    exact ⟨h0, List.mem_map.2 ⟨s.1, List.mem_append_right _ (List.mem_map.2 ⟨f, hf, by rw [e3, g2]⟩), by rw [e4, g3, e2]⟩⟩
  ·have h3 := (hin q hq).1 h1
   have g := pt_sec_in h hq
   rcases h2 with e | e
   ·injection e with e1 e2
    subst e1; subst e2
    simp [useB, h3]
   ·injection e with e1 e2
    subst e1; subst e2
    obtain ⟨s, g1, g2, g3, -⟩ := pt_there h hq
    have e4 := pt_of_sec hRi g1
    simp only [useB, show ¬ (2 : Int) = 1 by decide, if_false, if_true, decide_eq_true_iff]
    exact ⟨by omega, List.mem_map.2 ⟨q.2, h3, by rw [← g2, e4, g3]⟩⟩
 ·intro hu
  have hr3 := use_in h hr hu
  by_cases h1 : kind = 1
  ·subst h1
   simp [useB] at hu
   unfold secsU at hu
   rw [List.mem_append, List.mem_append] at hu
   rcases hu with (h1 | h1) | h1
   ·exact .inl (by simp [flK, h1]; omega)
   ·exact .inl (by simp [flK, h1]; omega)
   ·obtain ⟨f, hf, e⟩ := List.mem_map.1 h1
    obtain ⟨x, hx, e2⟩ := flank_pt h hr hf
    rw [← e2, sec_of_pt hRi hx] at e
    subst e
    refine .inr ⟨x, hx, (hin x hx).2 ?_, .inl rfl⟩
    unfold secsU
    exact List.mem_append_right _ (List.mem_map.2 ⟨f, hf, by rw [← e2, sec_of_pt hRi hx]⟩)
  ·by_cases h2 : kind = 2
   ·subst h2
    simp only [useB, show ¬ (2 : Int) = 1 by decide, if_false, if_true, decide_eq_true_iff] at hu
    obtain ⟨h0, hu⟩ := hu
    obtain ⟨s, hs, e⟩ := List.mem_map.1 hu
    obtain ⟨x, hx, rfl⟩ := secsU_there h hr hs
    rw [pt_of_sec hRi hx] at e
    obtain ⟨q, hq, e1, e2⟩ := sec_pt h hx (by rw [e]; exact h0)
    exact .inr ⟨q, hq, (hin q hq).2 (by rw [e2]; exact hs), .inr (by rw [e1, e])⟩
   ·by_cases h3 : kind = 3
    ·subst h3
     simp [useB] at hu
     exact .inl (by simp [flK]; exact ⟨hu.2, hu.1⟩)
    ·by_cases h4 : kind = 4
     ·subst h4
      simp [useB] at hu
      subst hu
      exact .inl (by simp [flK]; omega)
     ·omega
/-- What changes, of the first i of all. -/
noncomputable def chK (a b : Pl) (i : Nat) (k : K13) : Prop := ∃ x ∈ (diffL a b).take i, x.2.2 ≠ 0 ∧ k = (x.1, x.2.1)
theorem chK_zero (a b : Pl) (k : K13) : chK a b 0 k ↔ False := by simp [chK]
theorem chK_yes {a b : Pl} {i : Nat} (hi : i < (diffL a b).length) (h : (diffL a b)[i].2.2 ≠ 0) (k : K13) : chK a b (i + 1) k ↔ chK a b i k ∨ (k.1 = (diffL a b)[i].1 ∧ k.2 ∈ [(diffL a b)[i].2.1] ∧ k.2 ≠ 0) := by
 have hin := (diffN_mem.1 (List.getElem_mem hi)).2.2.1
 unfold chK
 rw [List.take_add_one, List.getElem?_eq_getElem hi, Option.toList_some]
 obtain ⟨u, v⟩ := k
 simp only [List.mem_append, List.mem_singleton, Prod.mk.injEq]
 constructor
 ·rintro ⟨x, hx | rfl, h1, h2⟩
  ·exact .inl ⟨x, hx, h1, h2⟩
  ·exact .inr ⟨h2.1, h2.2, by omega⟩
 ·rintro (⟨x, hx, h1, h2⟩ | ⟨h1, h2, -⟩)
  ·exact ⟨x, .inl hx, h1, h2⟩
  ·exact ⟨_, .inr rfl, h, h1, h2⟩
theorem chK_no {a b : Pl} {i : Nat} (hi : i < (diffL a b).length) (h : ¬ (diffL a b)[i].2.2 ≠ 0) (k : K13) : chK a b (i + 1) k ↔ chK a b i k := by
 unfold chK
 rw [List.take_add_one, List.getElem?_eq_getElem hi, Option.toList_some]
 simp only [List.mem_append, List.mem_singleton]
 constructor
 ·rintro ⟨x, hx | rfl, h1, h2⟩
  ·exact ⟨x, hx, h1, h2⟩
  ·exact absurd h1 h
 ·rintro ⟨x, hx, h1, h2⟩
  exact ⟨x, .inl hx, h1, h2⟩
theorem chK_all {a b : Pl} (ha : PlanMay a) (hb : PlanMay b) (k : K13) : chK a b (diffL a b).length k ↔ chB a b k.1 k.2 = true := by
 unfold chK
 rw [List.take_length]
 constructor
 ·rintro ⟨x, hx, h1, rfl⟩
  obtain ⟨g1, g2, g3, g4, g5, g6⟩ := diffN_mem.1 hx
  have g2' : x.1 ≤ 4 := by exact_mod_cast g2
  exact decide_eq_true ⟨⟨g1, g2'⟩, by dsimp only; rw [← g5]; exact h1, by dsimp only; rw [← g5]; exact g6⟩
 ·intro h
  obtain ⟨h1, h2, h3⟩ := of_decide_eq_true h
  have hin := (ch_in ha hb h).2
  exact ⟨(k.1, k.2, isD a b k.1 k.2), diffN_mem.2 ⟨h1.1, by exact_mod_cast h1.2, hin.1, hin.2, rfl, h3⟩, h2, rfl⟩
/-- The area of a change, of all routes of both plans. -/
def metK (p : Pl) (c : K13 → Prop) (i : Nat) (k : K13) : Prop := ∃ r ∈ p.routes.take i, (∃ z, useB p r z.1 z.2 = true ∧ c z) ∧ useB p r k.1 k.2 = true
theorem metK_zero (p : Pl) (c : K13 → Prop) (k : K13) : metK p c 0 k ↔ False := by simp [metK]
theorem metK_yes {p : Pl} {c : K13 → Prop} {i : Nat} (hi : i < p.routes.length) (h : ∃ z, useB p p.routes[i] z.1 z.2 = true ∧ c z) (k : K13) : metK p c (i + 1) k ↔ metK p c i k ∨ useB p p.routes[i] k.1 k.2 = true := by
 unfold metK
 rw [List.take_add_one, List.getElem?_eq_getElem hi, Option.toList_some]
 simp only [List.mem_append, List.mem_singleton]
 constructor
 ·rintro ⟨r, hr | rfl, h1, h2⟩
  ·exact .inl ⟨r, hr, h1, h2⟩
  ·exact .inr h2
 ·rintro (⟨r, hr, h1, h2⟩ | h2)
  ·exact ⟨r, .inl hr, h1, h2⟩
  ·exact ⟨_, .inr rfl, h, h2⟩
theorem metK_no {p : Pl} {c : K13 → Prop} {i : Nat} (hi : i < p.routes.length) (h : ¬ ∃ z, useB p p.routes[i] z.1 z.2 = true ∧ c z) (k : K13) : metK p c (i + 1) k ↔ metK p c i k := by
 unfold metK
 rw [List.take_add_one, List.getElem?_eq_getElem hi, Option.toList_some]
 simp only [List.mem_append, List.mem_singleton]
 constructor
 ·rintro ⟨r, hr | rfl, h1, h2⟩
  ·exact ⟨r, hr, h1, h2⟩
  ·exact absurd h1 h
 ·rintro ⟨r, hr, h1, h2⟩
  exact ⟨r, .inl hr, h1, h2⟩
theorem metK_iff (p : Pl) (a b : Pl) (k : K13) : metK p (fun z => chB a b z.1 z.2 = true) p.routes.length k ↔ ∃ r ∈ p.routes, Meet14 (useB p r) (chB a b) ∧ useB p r k.1 k.2 = true := by
 unfold metK Meet14
 rw [List.take_length]
 constructor
 ·rintro ⟨r, hr, ⟨z, h1, h2⟩, h3⟩; exact ⟨r, hr, ⟨z.1, z.2, h1, h2⟩, h3⟩
 ·rintro ⟨r, hr, ⟨x, y, h1, h2⟩, h3⟩; exact ⟨r, hr, ⟨(x, y), h1, h2⟩, h3⟩
theorem area_all (a b : Pl) (k : K13) : ((chB a b k.1 k.2 = true ∨ metK a (fun z => chB a b z.1 z.2 = true) a.routes.length k) ∨ metK b (fun z => chB a b z.1 z.2 = true) b.routes.length k) ↔ areaB a b k.1 k.2 = true := by
 rw [areaB_iff, metK_iff, metK_iff]
 unfold InA
 exact or_assoc
theorem fit_use {p : Pl} (h : PlanMay p) {r : Rt} (hr : r ∈ p.routes) : Fit14 fun k => useB p r k.1 k.2 = true := fun k hk => use_in h hr hk
theorem fit_area {a b : Pl} (ha : PlanMay a) (hb : PlanMay b) : Fit14 fun k => areaB a b k.1 k.2 = true := fun k hk => area_in ha hb (areaB_iff.1 hk)

theorem run_equalIn_agg14 (a b c d : Int) (w : World) : (Op.equalIn 10000 77 (.agg #[.int .u8 a, .int .i64 b]) (.agg #[.int .u8 c, .int .i64 d])).run Tryz.prog w = .ok ((a == c) && (b == d)) w := by
 have hagg : (isAgg 3).run Tryz.prog w = .ok false w := by
  unfold isAgg
  rw [Sem.run_bind, run_underlying Tryz.underlying3 w]
  simp
 have hagg8 : (isAgg 5).run Tryz.prog w = .ok false w := by
  unfold isAgg
  rw [Sem.run_bind, run_underlying Tryz.underlying5 w]
  simp
 rw [run_equalIn_agg w 9999 77 _ _ (by rw [Program.fieldsOf, Tryz.underlying77]) (by kernel_rfl)]
 simp only [Program.fieldsOf, Tryz.underlying77, Op.eqFields]
 have hi : ∀ x y : Int, (Op.equalIn 9999 3 (.int .i64 x) (.int .i64 y)).run Tryz.prog w = .ok (x == y) w := fun x y => run_equalIn_int w 9998 3 .i64 .i64 x y Tryz.underlying3
 have hi8 : ∀ x y : Int, (Op.equalIn 9999 5 (.int .u8 x) (.int .u8 y)).run Tryz.prog w = .ok (x == y) w := fun x y => run_equalIn_int w 9998 5 .u8 .u8 x y Tryz.underlying5
 by_cases h1 : a = c <;> by_cases h2 : b = d <;> simp [part, Sem.run_bind, Sem.run_ite, hagg, hagg8, hi, hi8, h1, h2]
theorem checkKey_int14 {P : Program} (em : Bool) (n : Nat) (t : TypeId) {k : IntKind} (h : P.underlying t = some (.int k)) (k' : IntKind) (z : Int) (w : World) : (Instr.checkKey em (n + 1) t (.int k' z)).run P w = .ok () w := by
 simp [Instr.checkKey, run_underlying h]
theorem keyT14 : KeyT Tryz.prog 77 where
 desc := ⟨_, Tryz.underlying77⟩
 eq x y w := by
  have h := run_equalIn_agg14 x.1 x.2 y.1 y.2 w
  have e : (Op.equal 77 (keyV x) (keyV y)).run Tryz.prog w = .ok ((x.1 == y.1) && (x.2 == y.2)) w := h
  rw [e]
  congr 1
  rw [Bool.eq_iff_iff]
  simp [Prod.ext_iff]
 check em x w := by
  have h1 : ∀ z, (Instr.checkKey em 9999 5 (.int .u8 z)).run Tryz.prog w = .ok () w := fun z => checkKey_int14 em 9998 5 Tryz.underlying5 .u8 z w
  have h2 : ∀ z, (Instr.checkKey em 9999 3 (.int .i64 z)).run Tryz.prog w = .ok () w := fun z => checkKey_int14 em 9998 3 Tryz.underlying3 .i64 z w
  have hagg : (isAgg 3).run Tryz.prog w = .ok false w := by
   unfold isAgg
   rw [Sem.run_bind, run_underlying Tryz.underlying3 w]
   simp
  have hagg8 : (isAgg 5).run Tryz.prog w = .ok false w := by
   unfold isAgg
   rw [Sem.run_bind, run_underlying Tryz.underlying5 w]
   simp
  unfold keyV
  rw [show (10000 : Nat) = 9999 + 1 from rfl, Instr.checkKey]
  simp [run_underlying Tryz.underlying77, part, Sem.run_bind, Sem.run_ite, hagg, hagg8, h1, h2]
theorem zeroUnit14 (w : World) : (zeroValue 78).run Tryz.prog w = .ok (.agg #[]) w := Tryz.zeroValue78 w
theorem infoUnit14 : (Tryz.prog.info? 78).map (·.size) = some 0 := by kernel_rfl
theorem infoEl14 : (Tryz.prog.info? 77).map (·.size) = some 2 := by kernel_rfl
theorem add_step {g : K13 → Prop} {kind : Int} {ids : List Int} {i : Nat} (hi : i < ids.length) (h0 : ids[i] ≠ 0) (z : K13) :
  ((g z ∨ (z.1 = kind ∧ z.2 ∈ ids.take i ∧ z.2 ≠ 0)) ∨ z = (kind, ids[i])) ↔ (g z ∨ (z.1 = kind ∧ z.2 ∈ ids.take (i + 1) ∧ z.2 ≠ 0)) := by
 rw [List.take_add_one, List.getElem?_eq_getElem hi, Option.toList_some]
 obtain ⟨a, b⟩ := z
 simp only [List.mem_append, List.mem_singleton, Prod.mk.injEq]
 constructor
 ·rintro ((h | ⟨h1, h2, h3⟩) | ⟨h1, h2⟩)
  ·exact .inl h
  ·exact .inr ⟨h1, .inl h2, h3⟩
  ·exact .inr ⟨h1, .inr h2, by rw [h2]; exact h0⟩
 ·rintro (h | ⟨h1, h2 | h2, h3⟩)
  ·exact .inl (.inl h)
  ·exact .inl (.inr ⟨h1, h2, h3⟩)
  ·exact .inr ⟨h1, h2⟩
theorem add_skip {g : K13 → Prop} {kind : Int} {ids : List Int} {i : Nat} (hi : i < ids.length) (h0 : ids[i] = 0) (z : K13) :
  (g z ∨ (z.1 = kind ∧ z.2 ∈ ids.take i ∧ z.2 ≠ 0)) ↔ (g z ∨ (z.1 = kind ∧ z.2 ∈ ids.take (i + 1) ∧ z.2 ≠ 0)) := by
 rw [List.take_add_one, List.getElem?_eq_getElem hi, Option.toList_some]
 simp only [List.mem_append, List.mem_singleton]
 constructor
 ·rintro (h | ⟨h1, h2, h3⟩)
  ·exact .inl h
  ·exact .inr ⟨h1, .inl h2, h3⟩
 ·rintro (h | ⟨h1, h2 | h2, h3⟩)
  ·exact .inl h
  ·exact .inr ⟨h1, h2, h3⟩
  ·exact absurd (h2.trans h0) h3
noncomputable def gB (g : K13 → Prop) (k : K13) : Bool := @decide (g k) (Classical.propDecidable _)
theorem gB_iff {g : K13 → Prop} {k : K13} : gB g k = true ↔ g k := by rw [gB]; exact @decide_eq_true_iff _ (Classical.propDecidable _)
theorem gB_no {g : K13 → Prop} {k : K13} : gB g k = false ↔ ¬ g k := by rw [← Bool.not_eq_true, gB_iff]
theorem gB_of (u : Int → Int → Bool) (k i : Int) : gB (fun z => u z.1 z.2 = true) (k, i) = u k i := by rw [Bool.eq_iff_iff, gB_iff]
/-- Lists just made of one number, and of two. -/
theorem one_arg14 (w : World) (x : Int) : IntsIn (w.alloc (.cells #[.int .i64 x] 3)) (w.alloc (.cells #[.int .i64 x] 3)).heap.size (.slice (some ⟨w.heap.size, 0, none⟩) 1 1) [x] := by
 refine ⟨some ⟨w.heap.size, 0, none⟩, 1, rfl, Nat.le_refl _, by unfold maxLen; omega, ⟨(fun h => by cases h), fun _ => ⟨w.heap.size, 0, rfl, by simp, fun j hj => ?_⟩⟩⟩
 have hj0 : j = 0 := by simpa using hj
 subst hj0
 show World.cell? _ _ = _
 rw [World.cell?_alloc_new]
 simp
theorem two_arg14 (w : World) (x y : Int) : IntsIn (w.alloc (.cells #[.int .i64 x, .int .i64 y] 3)) (w.alloc (.cells #[.int .i64 x, .int .i64 y] 3)).heap.size (.slice (some ⟨w.heap.size, 0, none⟩) 2 2) [x, y] := by
 refine ⟨some ⟨w.heap.size, 0, none⟩, 2, rfl, Nat.le_refl _, by unfold maxLen; omega, ⟨(fun h => by cases h), fun _ => ⟨w.heap.size, 0, rfl, by simp, fun j hj => ?_⟩⟩⟩
 have hj2 : j = 0 ∨ j = 1 := by simp at hj; omega
 rcases hj2 with rfl | rfl
 ·show World.cell? _ _ = _
  rw [World.cell?_alloc_new]
  simp
 ·show World.cell? _ _ = _
  rw [World.cell?_alloc_new]
  simp
/-- Two boxes that are read, a map that is turned. -/
structure UseAt (w W : World) (mb : Nat) (c0 c1 : Array Value) (t0 t1 : TypeId) (g : K13 → Prop) : Prop where
 g : Gath W mb g
 b : Below w.heap.size w W
 x0 : W.heap[w.heap.size]? = some (.cells c0 t0 (0, 0))
 x1 : W.heap[w.heap.size + 1]? = some (.cells c1 t1 (0, 0))
 lo : w.heap.size + 1 < mb
section
variable {w W W' : World} {mb : Nat} {c0 c1 : Array Value} {t0 t1 : TypeId} {g g' : K13 → Prop}
theorem UseAt.below (h : UseAt w W mb c0 c1 t0 t1 g) (b : Below W.heap.size W W') : UseAt w W' mb c0 c1 t0 t1 g :=
 ⟨h.g.below b h.g.lt, h.b.trans (b.mono h.b.size), (b.block _ (heap_lt h.x0)).trans h.x0, (b.block _ (heap_lt h.x1)).trans h.x1, h.lo⟩
theorem UseAt.turn (h : UseAt w W mb c0 c1 t0 t1 g) (hg : Gath W' mb g') (b : W.grownBy W' (some mb)) : UseAt w W' mb c0 c1 t0 t1 g' := by
 have hlo := h.lo
 exact ⟨hg, h.b.grown b h.b.size (fun k e => by cases e; omega), (b.block _ (heap_lt h.x0) (fun e => by injection e; omega)).trans h.x0, (b.block _ (heap_lt h.x1) (fun e => by injection e; omega)).trans h.x1, h.lo⟩
theorem UseAt.iff (h : UseAt w W mb c0 c1 t0 t1 g) (hg : ∀ k, g k ↔ g' k) : UseAt w W mb c0 c1 t0 t1 g' := ⟨h.g.iff hg, h.b, h.x0, h.x1, h.lo⟩
end
theorem infoFl14 : (Tryz.prog.info? 64).map (·.size) = some 2 := by kernel_rfl
theorem infoPt14 : (Tryz.prog.info? 60).map (·.size) = some 2 := by kernel_rfl
set_option maxHeartbeats 8000000 in
theorem add14_any (b : Nat) (g : K13 → Prop) (kind : Int) (ids : List Int) (v : Value) (w : World) (hg : Gath w b g) (hi : IntsIn w w.heap.size v ids) :
  Calls Tryz.prog 60 #[.map (some b), .int .u8 kind, v] w fun e w' => e = .returned (.tuple #[]) ∧ Gath w' b (fun z => g z ∨ (z.1 = kind ∧ z.2 ∈ ids ∧ z.2 ≠ 0)) ∧ w.grownBy w' (some b) := by
 obtain ⟨A, c, rfl, hcl, hcm⟩ := hi.slice
 obtain ⟨n, hn⟩ : ∃ n, n = ids.length := ⟨_, rfl⟩
 have HA : Hid (IntsIn w w.heap.size (.slice A n c) ids) := Lib.hid (by rw [hn]; exact hi)
 have hn9 : n ≤ 9223372036854775807 := by unfold maxLen at hcm; omega
 have HN := Lib.hid hn
 have HG := Lib.hid hg
 rw [← hn]
 clear hn hi hcl hcm hg
 go_enter Tryz.func60, Tryz.ntmps60
 go_upto_region 1 with fail
 go_loopw [10] (fun s10 wr => ∃ i : Nat, s10 = .int .i64 i ∧ i ≤ n ∧ Gath wr b (fun z => g z ∨ (z.1 = kind ∧ z.2 ∈ ids.take i ∧ z.2 ≠ 0)) ∧ w.grownBy wr (some b)) (fun s10 _ => n - (intOf s10).toNat)
 case atStart => exact ⟨0, by go_num, by omega, HG.out.iff (fun k => by simp), World.grownBy.refl w _⟩
 case round =>
  obtain ⟨i, rfl, hi, hgw, hgr⟩ := hrel
  have HW := Lib.hid hgw
  have HR := Lib.hid hgr
  clear hgw hgr
  by_cases hlt : i < n
  ·have hlt' : (i : Int) < n := by omega
   have hir : i < ids.length := by rw [← HN.out]; exact hlt
   obtain ⟨bk, off, rfl, hb, hc0⟩ := HA.out.at hir
   obtain ⟨x, hx⟩ : ∃ x, x = ids[i] := ⟨_, rfl⟩
   have hcell : wr.cell? ⟨bk, off + i, none⟩ = some (.int .i64 x) := ((HG.out.same13 HW.out HR.out).cell ⟨bk, off + i, none⟩ hb).trans (by rw [hx]; simpa [IntR] using hc0)
   by_cases he : x = 0
   ·have hne : (x != 0) = false := by simpa using he
    have HI := Lib.hid (HW.out.iff (add_skip (g := g) (kind := kind) hir (by rw [← hx]; exact he)))
    clear hc0 hb hx he
    go_wp2_with fail
    go_roundw
    case measure => simp [intOf]; omega
    case rel => exact ⟨i + 1, by go_num, by omega, HI.out, HR.out⟩
   ·have hne : (x != 0) = true := by simpa using he
    have HI : Hid (∀ W, Gath W b (fun z => (g z ∨ (z.1 = kind ∧ z.2 ∈ ids.take i ∧ z.2 ≠ 0)) ∨ z = (kind, x)) → Gath W b (fun z => g z ∨ (z.1 = kind ∧ z.2 ∈ ids.take (i + 1) ∧ z.2 ≠ 0))) := Lib.hid (fun W h => h.iff (by rw [hx]; exact add_step (g := g) (kind := kind) hir (by rw [← hx]; exact he)))
    obtain ⟨es, hge⟩ := HW.out
    have GE := Lib.hid hge
    clear hc0 hb hx he hge
    go_wp2_with ((with_reducible show wpList _ _ _ (⟨none, .mapUpdate _ _ _ _, _, _, _, _⟩ :: _) _ _); refine wpList_update13 _ rfl (.tmp 16) (.tmp 19) (.tmp 20) 73 78 rfl keyT14 Tryz.underlying73 b es (kind, x) (.agg #[]) rfl rfl rfl GE.out.map ?_; intro w5 hm5 hg5 hs5; go_frame)
    have HF := Lib.hid (HI.out _ (GE.out.put (kind, x) hm5))
    have HR5 := Lib.hid (HR.out.trans hg5)
    clear hm5 hg5 hs5
    go_roundw
    case measure => simp [intOf]; omega
    case rel => exact ⟨i + 1, by go_num, by omega, HF.out, HR5.out⟩
  ·obtain rfl : i = n := by omega
   have hlt' : ¬ (i : Int) < i := by omega
   have HF := HW.out
   rw [List.take_of_length_le (Nat.le_of_eq HN.out.symm)] at HF
   have HF := Lib.hid HF
   go_wp2_with fail
   go_end0
   exact ⟨rfl, HF.out, HR.out⟩
set_option maxHeartbeats 4000000 in
theorem has14_any (b : Nat) (g : K13 → Prop) (kind id : Int) (w : World) (hg : Gath w b g) :
  Calls Tryz.prog 62 #[.map (some b), .int .u8 kind, .int .i64 id] w fun e w' => e = .returned (.bool (gB g (kind, id))) ∧ Below w.heap.size w w' := by
 obtain ⟨es, hge⟩ := hg
 have h1 := hge.at_ (kind, id)
 have L1 : (look es (kind, id)).getD (.agg #[]) = .agg #[] := h1.1
 have L2 : (look es (kind, id)).isSome = gB g (kind, id) := by rw [Bool.eq_iff_iff, gB_iff]; exact h1.2
 have GE := Lib.hid hge
 clear hge h1
 have hb := below_new w (.cells #[] 78)
 have BW := Lib.hid hb
 clear hb
 go_enter Tryz.func62, Tryz.ntmps62
 go_wp2_with (first
  | ((with_reducible show wpList _ _ _ (⟨some 14, .lookup _ _ _ _, _, _, _, _⟩ :: _) _ _); refine wpList_lookup13 _ rfl (.tmp 10) (.tmp 13) 73 78 true rfl keyT14 Tryz.underlying73 (zeroUnit14 _) b es (kind, id) rfl rfl GE.out.map ?_; rw [if_pos rfl, L1, L2])
  | ((with_reducible show wpList _ _ _ (⟨none, .store _ _ _, _, _, _, _⟩ :: _) _ _); refine wpList_store_rowS rfl _ (.tmp 7) (.tmp 15) rfl w.heap.size rfl (c' := #[]) rfl (heap_alloc_self w (.cells #[] 78)) infoUnit14 rfl (by simp [Value.oneCell']) ?_; rw [World.setRow_alloc_new]))
 go_ret
 exact ⟨rfl, BW.out⟩

def renI14 : Go.Shelf.Ren := ⟨fun | 5 => 98 | 8 => 119 | 7 => 122 | 19 => 139 | 20 => 140 | 10 => 141 | 11 => 142 | 12 => 143 | 13 => 144 | 14 => 145 | 15 => 146 | 16 => 147 | 17 => 148 | 18 => 149 | 30 => 163 | 31 => 159 | 32 => 160 | 33 => 164 | 34 => 165 | 35 => 121 | 40 => 169 | n => n, fun | 23 => 22 | 25 => 3 | 3 => 3 | 32 => 175 | 22 => 22 | 0 => 0 | 44 => 196 | 46 => 198 | 4 => 4 | 36 => 189 | 35 => 188 | 41 => 193 | 5 => 5 | 9 => 9 | 53 => 211 | 57 => 215 | 63 => 221 | 64 => 222 | n => n, fun | n => n⟩
theorem sortI14 : SlLaysM.n5 Tryz.prog renI14 := {
 mixed := by kernel_rfl,
 f5 := ⟨Tryz.f98.name, by decide, Tryz.func98.trans (congrArg some (by kernel_rfl))⟩,
 f7 := ⟨Tryz.f122.name, by decide, Tryz.func122.trans (congrArg some (by kernel_rfl))⟩,
 f8 := Tryz.func119.trans (congrArg some (by kernel_rfl)),
 f10 := ⟨Tryz.f141.name, by decide, Tryz.func141.trans (congrArg some (by kernel_rfl))⟩,
 f11 := ⟨Tryz.f142.name, by decide, Tryz.func142.trans (congrArg some (by kernel_rfl))⟩,
 f12 := ⟨Tryz.f143.name, by decide, Tryz.func143.trans (congrArg some (by kernel_rfl))⟩,
 f13 := ⟨Tryz.f144.name, by decide, Tryz.func144.trans (congrArg some (by kernel_rfl))⟩,
 f14 := ⟨Tryz.f145.name, by decide, Tryz.func145.trans (congrArg some (by kernel_rfl))⟩,
 f15 := ⟨Tryz.f146.name, by decide, Tryz.func146.trans (congrArg some (by kernel_rfl))⟩,
 f16 := ⟨Tryz.f147.name, by decide, Tryz.func147.trans (congrArg some (by kernel_rfl))⟩,
 f17 := ⟨Tryz.f148.name, by decide, Tryz.func148.trans (congrArg some (by kernel_rfl))⟩,
 f18 := ⟨Tryz.f149.name, by decide, Tryz.func149.trans (congrArg some (by kernel_rfl))⟩,
 f19 := Tryz.func139.trans (congrArg some (by kernel_rfl)),
 f20 := Tryz.func140.trans (congrArg some (by kernel_rfl)),
 f30 := ⟨Tryz.f163.name, by decide, Tryz.func163.trans (congrArg some (by kernel_rfl))⟩,
 f31 := Tryz.func159.trans (congrArg some (by kernel_rfl)),
 f32 := Tryz.func160.trans (congrArg some (by kernel_rfl)),
 f33 := ⟨Tryz.f164.name, by decide, Tryz.func164.trans (congrArg some (by kernel_rfl))⟩,
 f34 := ⟨Tryz.f165.name, by decide, Tryz.func165.trans (congrArg some (by kernel_rfl))⟩,
 f35 := ⟨Tryz.f121.name, by decide, Tryz.func121.trans (congrArg some (by kernel_rfl))⟩,
 f40 := ⟨Tryz.f169.name, by decide, Tryz.func169.trans (congrArg some (by kernel_rfl))⟩,
 t0 := Tryz.underlying0,
 a0 := Tryz.isAgg0,
 z0 := Tryz.sizeOf0,
 v0 := Tryz.zeroValue0,
 t3 := Tryz.underlying3,
 a3 := Tryz.isAgg3,
 z3 := Tryz.sizeOf3,
 v3 := Tryz.zeroValue3,
 t4 := Tryz.underlying4,
 a4 := Tryz.isAgg4,
 z4 := Tryz.sizeOf4,
 v4 := Tryz.zeroValue4,
 t5 := Tryz.underlying5,
 a5 := Tryz.isAgg5,
 z5 := Tryz.sizeOf5,
 v5 := Tryz.zeroValue5,
 t9 := Tryz.underlying9,
 a9 := Tryz.isAgg9,
 z9 := Tryz.sizeOf9,
 v9 := Tryz.zeroValue9,
 t22 := Tryz.underlying22,
 a22 := Tryz.isAgg22,
 z22 := Tryz.sizeOf22,
 v22 := Tryz.zeroValue22,
 t23 := Tryz.underlying22,
 a23 := Tryz.isAgg22,
 z23 := Tryz.sizeOf22,
 v23 := Tryz.zeroValue22,
 t25 := Tryz.underlying3,
 a25 := Tryz.isAgg3,
 z25 := Tryz.sizeOf3,
 v25 := Tryz.zeroValue3,
 t32 := Tryz.underlying175,
 a32 := Tryz.isAgg175,
 z32 := Tryz.sizeOf175,
 v32 := Tryz.zeroValue175,
 t35 := Tryz.underlying188,
 a35 := Tryz.isAgg188,
 z35 := Tryz.sizeOf188,
 v35 := Tryz.zeroValue188,
 t36 := Tryz.underlying189,
 a36 := Tryz.isAgg189,
 z36 := Tryz.sizeOf189,
 v36 := Tryz.zeroValue189,
 t41 := Tryz.underlying193,
 a41 := Tryz.isAgg193,
 z41 := Tryz.sizeOf193,
 v41 := Tryz.zeroValue193,
 t44 := Tryz.underlying196,
 a44 := Tryz.isAgg196,
 z44 := Tryz.sizeOf196,
 v44 := Tryz.zeroValue196,
 t46 := Tryz.underlying198,
 a46 := Tryz.isAgg198,
 z46 := Tryz.sizeOf198,
 v46 := Tryz.zeroValue198,
 t53 := Tryz.underlying211,
 a53 := Tryz.isAgg211,
 z53 := Tryz.sizeOf211,
 v53 := Tryz.zeroValue211,
 t57 := Tryz.underlying215,
 a57 := Tryz.isAgg215,
 z57 := Tryz.sizeOf215,
 v57 := Tryz.zeroValue215,
 t63 := Tryz.underlying221,
 a63 := Tryz.isAgg221,
 z63 := Tryz.sizeOf221,
 v63 := Tryz.zeroValue221,
 t64 := Tryz.underlying222,
 a64 := Tryz.isAgg222,
 z64 := Tryz.sizeOf222,
 v64 := Tryz.zeroValue222 }
end Go.Proofs.YtneeocnjfnneoaaGreat
