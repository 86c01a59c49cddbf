/-
 Areas: what a route uses, what changes, the area of a change: by membership.
 Conditions: none.
-/
import Derived.Test.YtneeocnjfnneoaaGreatVGDifM
set_option linter.unusedVariables false
set_option linter.unusedSimpArgs false
set_option maxRecDepth 100000
namespace Go.Proofs.YtneeocnjfnneoaaGreat
open Go.RowKit

/-- An area's four lists. -/
structure Ar where
 secs : List Int
 pts : List Int
 sigs : List Int
 routes : List Int
def ptOfD (p : Pl) (s : Int) : Int := (p.secs.getD (atS p.secs s).toNat (0, 0, [])).2.1
def secOfD (p : Pl) (x : Int) : Int := (p.pts.getD (at1 (fun q : Jn => q.1) p.pts x).toNat (0, 0)).2
/-- The sections that a route uses. -/
def secsU (p : Pl) (r : Rt) : List Int := r.path ++ r.over ++ r.flanks.map fun f => secOfD p f.1
/-- Whether a route uses an element. -/
def useB (p : Pl) (r : Rt) (kind id : Int) : Bool :=
 if kind = 1 then decide (id ∈ secsU p r) else if kind = 2 then decide (id ≠ 0 ∧ id ∈ (secsU p r).map (ptOfD p)) else if kind = 3 then decide (id ≠ 0 ∧ (id = r.entry ∨ id = r.exit)) else if kind = 4 then decide (id = r.id) else false
/-- What changes. -/
noncomputable def chB (a b : Pl) (kind id : Int) : Bool := decide ((1 ≤ kind ∧ kind ≤ 4) ∧ isD a b kind id ≠ 0 ∧ isD a b kind id ≠ 4)
/-- Two areas have an element in common. -/
def Meet14 (u c : Int → Int → Bool) : Prop := ∃ kind id, u kind id = true ∧ c kind id = true
/-- An element is in the area of a change. -/
def InA (a b : Pl) (kind id : Int) : Prop :=
 chB a b kind id = true ∨ (∃ r ∈ a.routes, Meet14 (useB a r) (chB a b) ∧ useB a r kind id = true) ∨ ∃ r ∈ b.routes, Meet14 (useB b r) (chB a b) ∧ useB b r kind id = true
noncomputable def areaB (a b : Pl) (kind id : Int) : Bool := @decide (InA a b kind id) (Classical.propDecidable _)
theorem areaB_iff {a b : Pl} {kind id : Int} : areaB a b kind id = true ↔ InA a b kind id := by rw [areaB]; exact @decide_eq_true_iff _ (Classical.propDecidable _)
/-- The numbers from 1 to 99 of which f says yes. -/
def idsL (f : Int → Bool) : List Int := ((List.range 99).map fun (j : Nat) => (j : Int) + 1).filter f
def arOf (u : Int → Int → Bool) : Ar := ⟨idsL (u 1), idsL (u 2), idsL (u 3), idsL (u 4)⟩
def hasA (x : Ar) (kind id : Int) : Bool := if kind = 1 then decide (id ∈ x.secs) else if kind = 2 then decide (id ∈ x.pts) else if kind = 3 then decide (id ∈ x.sigs) else if kind = 4 then decide (id ∈ x.routes) else false
theorem ids_mem {f : Int → Bool} {id : Int} : id ∈ idsL f ↔ (1 ≤ id ∧ id ≤ 99) ∧ f id = true := by
 unfold idsL
 rw [List.mem_filter, List.mem_map]
 constructor
 ·rintro ⟨⟨j, hj, rfl⟩, h⟩
  rw [List.mem_range] at hj
  exact ⟨by omega, h⟩
 ·rintro ⟨⟨h1, h2⟩, h⟩
  exact ⟨⟨(id - 1).toNat, List.mem_range.2 (by omega), by omega⟩, h⟩
theorem ids_sorted (f : Int → Bool) : (idsL f).Pairwise (· < ·) := by
 refine List.Pairwise.filter _ ?_
 rw [List.pairwise_map]
 exact List.pairwise_lt_range.imp fun h => by omega
theorem ids_ext {f g : Int → Bool} (h : ∀ id, 1 ≤ id → id ≤ 99 → f id = g id) : idsL f = idsL g := by
 unfold idsL
 refine List.filter_congr fun x hx => ?_
 obtain ⟨j, hj, rfl⟩ := List.mem_map.1 hx
 rw [List.mem_range] at hj
 exact h _ (by omega) (by omega)
theorem has_of {u : Int → Int → Bool} {kind id : Int} : hasA (arOf u) kind id = true ↔ (1 ≤ kind ∧ kind ≤ 4) ∧ (1 ≤ id ∧ id ≤ 99) ∧ u kind id = true := by
 unfold hasA arOf
 dsimp only
 by_cases h1 : kind = 1
 ·subst h1; simp [ids_mem]
 ·by_cases h2 : kind = 2
  ·subst h2; simp [ids_mem]
  ·by_cases h3 : kind = 3
   ·subst h3; simp [ids_mem]
   ·by_cases h4 : kind = 4
    ·subst h4; simp [ids_mem]
    ·simp only [h1, h2, h3, h4, if_false]
     constructor
     ·intro h; cases h
     ·intro h; omega
theorem arOf_ext {u u' : Int → Int → Bool} (h : ∀ kind id, 1 ≤ kind → kind ≤ 4 → 1 ≤ id → id ≤ 99 → u kind id = u' kind id) : arOf u = arOf u' := by
 unfold arOf
 rw [ids_ext fun id h1 h2 => h 1 id (by decide) (by decide) h1 h2, ids_ext fun id h1 h2 => h 2 id (by decide) (by decide) h1 h2, ids_ext fun id h1 h2 => h 3 id (by decide) (by decide) h1 h2, ids_ext fun id h1 h2 => h 4 id (by decide) (by decide) h1 h2]

/-! ### A plan's elements -/
theorem elD_sec {p : Pl} (h : Rising p) {x : Sec} (hx : x ∈ p.secs) : elD p 1 x.1 = .sec x := by
 obtain ⟨g1, g2⟩ := (at1_get h.secs (0, 0, []) x).1 hx
 simp only [elD, placeD, if_true, atS_at1]
 rw [if_neg g1, g2]
theorem elD_pt {p : Pl} (h : Rising p) {x : Jn} (hx : x ∈ p.pts) : elD p 2 x.1 = .pt x := by
 obtain ⟨g1, g2⟩ := (at1_get h.pts (0, 0) x).1 hx
 simp only [elD, placeD, if_true, show ¬ (2 : Int) = 1 by decide, if_false]
 rw [if_neg g1, g2]
theorem elD_route {p : Pl} (h : Rising p) {x : Rt} (hx : x ∈ p.routes) : elD p 4 x.id = .route x := by
 obtain ⟨g1, g2⟩ := (at1_get h.routes ⟨0, 0, 0, [], [], [], 0⟩ x).1 hx
 simp only [elD, placeD, show ¬ (4 : Int) = 1 by decide, show ¬ (4 : Int) = 2 by decide, show ¬ (4 : Int) = 3 by decide, if_false]
 rw [if_neg g1, g2]
theorem el_sec_mem {p : Pl} {id : Int} {x : Sec} (h : elD p 1 id = .sec x) : x ∈ p.secs ∧ x.1 = id := by
 unfold elD at h
 split at h
 ·cases h
 ·rename_i hn
  simp only [if_true] at h
  cases h
  simp only [placeD, if_true, atS_at1] at hn ⊢
  rcases at1_cases (fun s : Sec => s.1) p.secs id with ⟨h1, -⟩ | ⟨k, hk, h1, h2, -⟩
  ·rw [h1] at hn; exact absurd (by decide) hn
  ·rw [h1, Int.toNat_natCast, List.getD, List.getElem?_eq_getElem hk, Option.getD_some]
   exact ⟨List.getElem_mem hk, h2⟩
theorem el_pt_mem {p : Pl} {id : Int} {x : Jn} (h : elD p 2 id = .pt x) : x ∈ p.pts ∧ x.1 = id := by
 unfold elD at h
 split at h
 ·cases h
 ·rename_i hn
  simp only [show ¬ (2 : Int) = 1 by decide, if_true, if_false] at h
  cases h
  simp only [placeD, show ¬ (2 : Int) = 1 by decide, if_true, if_false] at hn ⊢
  rcases at1_cases (fun s : Jn => s.1) p.pts id with ⟨h1, -⟩ | ⟨k, hk, h1, h2, -⟩
  ·rw [h1] at hn; exact absurd (by decide) hn
  ·rw [h1, Int.toNat_natCast, List.getD, List.getElem?_eq_getElem hk, Option.getD_some]
   exact ⟨List.getElem_mem hk, h2⟩
theorem el_route_mem {p : Pl} {id : Int} {x : Rt} (h : elD p 4 id = .route x) : x ∈ p.routes ∧ x.id = id := by
 unfold elD at h
 split at h
 ·cases h
 ·rename_i hn
  simp only [show ¬ (4 : Int) = 1 by decide, show ¬ (4 : Int) = 2 by decide, show ¬ (4 : Int) = 3 by decide, if_false] at h
  cases h
  simp only [placeD, show ¬ (4 : Int) = 1 by decide, show ¬ (4 : Int) = 2 by decide, show ¬ (4 : Int) = 3 by decide, if_false] at hn ⊢
  rcases at1_cases (fun s : Rt => s.id) p.routes id with ⟨h1, -⟩ | ⟨k, hk, h1, h2, -⟩
  ·rw [h1] at hn; exact absurd (by decide) hn
  ·rw [h1, Int.toNat_natCast, List.getD, List.getElem?_eq_getElem hk, Option.getD_some]
   exact ⟨List.getElem_mem hk, h2⟩
theorem pt_of_sec {p : Pl} (h : Rising p) {x : Sec} (hx : x ∈ p.secs) : ptOfD p x.1 = x.2.1 := by
 obtain ⟨g1, g2⟩ := (at1_get h.secs (0, 0, []) x).1 hx
 rw [ptOfD, atS_at1, g2]
theorem sec_of_pt {p : Pl} (h : Rising p) {x : Jn} (hx : x ∈ p.pts) : secOfD p x.1 = x.2 := by
 obtain ⟨g1, g2⟩ := (at1_get h.pts (0, 0) x).1 hx
 rw [secOfD, g2]
/-- A point's section is there, and has that point. -/
theorem pt_there {p : Pl} (h : PlanMay p) {x : Jn} (hx : x ∈ p.pts) : ∃ s ∈ p.secs, s.1 = x.2 ∧ s.2.1 = x.1 ∧ 1 ≤ x.1 ∧ x.1 ≤ 99 := by
 obtain ⟨i, hi, rfl⟩ := List.getElem_of_mem hx
 obtain ⟨h1, h2, -, k, hk, h3, h4⟩ := h.pts.each i hi
 refine ⟨p.secs[k], List.getElem_mem hk, ?_, h4, h1, h2⟩
 rw [atS_at1] at h3
 rcases at1_cases (fun s : Sec => s.1) p.secs p.pts[i].2 with ⟨g1, -⟩ | ⟨k', hk', g1, g2, -⟩
 ·omega
 ·have : k' = k := by omega
  subst this
  exact g2
/-- Each section that a route uses is there. -/
theorem secsU_there {p : Pl} (h : PlanMay p) {r : Rt} (hr : r ∈ p.routes) {s : Int} (hs : s ∈ secsU p r) : ∃ x ∈ p.secs, x.1 = s := by
 obtain ⟨i, hi, rfl⟩ := List.getElem_of_mem hr
 have hm := (h.each i hi).2.2
 unfold secsU at hs
 rcases List.mem_append.1 hs with hs | hs
 ·obtain ⟨j, hj, rfl⟩ := List.getElem_of_mem hs
  have h1 := (hm.secs j hj).1
  rw [atS_at1] at h1
  rcases at1_cases (fun s : Sec => s.1) p.secs (p.routes[i].path ++ p.routes[i].over)[j] with ⟨g1, -⟩ | ⟨k, hk, g1, g2, -⟩
  ·omega
  ·exact ⟨_, List.getElem_mem hk, g2⟩
 ·obtain ⟨f, hf, rfl⟩ := List.mem_map.1 hs
  obtain ⟨j, hj, rfl⟩ := List.getElem_of_mem hf
  have h1 := (hm.flanks j hj).1
  rcases at1_cases (fun x : Jn => x.1) p.pts p.routes[i].flanks[j].1 with ⟨g1, -⟩ | ⟨k, hk, g1, g2, -⟩
  ·omega
  ·obtain ⟨s, hs1, hs2, -⟩ := pt_there h (List.getElem_mem hk)
   refine ⟨s, hs1, ?_⟩
   rw [← g2, sec_of_pt (may_rising h) (List.getElem_mem hk)]
   exact hs2
theorem sec_in {p : Pl} (h : PlanMay p) {x : Sec} (hx : x ∈ p.secs) : 1 ≤ x.1 ∧ x.1 ≤ 99 ∧ (x.2.1 ≠ 0 → 1 ≤ x.2.1 ∧ x.2.1 ≤ 99) := by
 obtain ⟨i, hi, rfl⟩ := List.getElem_of_mem hx
 obtain ⟨h1, h2, h3⟩ := h.secs.s i hi
 refine ⟨h1, h2, fun h0 => ?_⟩
 unfold shapedB at h3
 rw [if_neg h0] at h3
 simp at h3
 omega
/-- What a route uses has a number from 1 to 99, and a kind. -/
theorem use_in {p : Pl} (h : PlanMay p) {r : Rt} (hr : r ∈ p.routes) {kind id : Int} (hu : useB p r kind id = true) : (1 ≤ kind ∧ kind ≤ 4) ∧ 1 ≤ id ∧ id ≤ 99 := by
 have hsec : ∀ s ∈ secsU p r, (1 ≤ s ∧ s ≤ 99) ∧ (ptOfD p s ≠ 0 → 1 ≤ ptOfD p s ∧ ptOfD p s ≤ 99) := fun s hs => by
  obtain ⟨x, hx, rfl⟩ := secsU_there h hr hs
  have h1 := sec_in h hx
  rw [pt_of_sec (may_rising h) hx]
  exact ⟨⟨h1.1, h1.2.1⟩, h1.2.2⟩
 obtain ⟨i, hi, rfl⟩ := List.getElem_of_mem hr
 have hm := (h.each i hi).2.2
 have hsg : ∀ z, 0 ≤ at1 (fun x : Sg => x.1) p.sigs z → 1 ≤ z ∧ z ≤ 99 := fun z hz => by
  rcases at1_cases (fun x : Sg => x.1) p.sigs z with ⟨g1, -⟩ | ⟨k, hk, g1, g2, -⟩
  ·omega
  ·have := h.sigs.each k hk
   have g3 : p.sigs[k].1 = z := g2
   omega
 unfold useB at hu
 by_cases h1 : kind = 1
 ·rw [if_pos h1] at hu
  exact ⟨by omega, (hsec id (of_decide_eq_true hu)).1⟩
 ·rw [if_neg h1] at hu
  by_cases h2 : kind = 2
  ·rw [if_pos h2] at hu
   obtain ⟨g1, g2⟩ := of_decide_eq_true hu
   obtain ⟨s, hs, rfl⟩ := List.mem_map.1 g2
   exact ⟨by omega, (hsec s hs).2 g1⟩
  ·rw [if_neg h2] at hu
   by_cases h3 : kind = 3
   ·rw [if_pos h3] at hu
    obtain ⟨g1, g2⟩ := of_decide_eq_true hu
    refine ⟨by omega, ?_⟩
    rcases g2 with rfl | rfl
    ·obtain ⟨k, hk, g3, -⟩ := hm.entry
     exact hsg _ (by omega)
    ·exact hsg _ (hm.exit g1).1
   ·rw [if_neg h3] at hu
    by_cases h4 : kind = 4
    ·rw [if_pos h4] at hu
     rw [of_decide_eq_true hu]
     exact ⟨by omega, (h.each i hi).1⟩
    ·rw [if_neg h4] at hu; cases hu
theorem ch_in {a b : Pl} (ha : PlanMay a) (hb : PlanMay b) {kind id : Int} (h : chB a b kind id = true) : (1 ≤ kind ∧ kind ≤ 4) ∧ 1 ≤ id ∧ id ≤ 99 := by
 obtain ⟨h1, h2, h3⟩ := of_decide_eq_true h
 refine ⟨h1, ?_⟩
 have h4 : ¬ (placeD a kind id < 0 ∧ placeD b kind id < 0) := fun e => h3 (isD_four.2 e)
 by_cases h5 : placeD a kind id < 0
 ·have h6 : ¬ placeD b kind id < 0 := fun e => h4 ⟨h5, e⟩
  exact keys_in hb kind id ((place_in b kind id).1 h6)
 ·exact keys_in ha kind id ((place_in a kind id).1 h5)
theorem area_in {a b : Pl} (ha : PlanMay a) (hb : PlanMay b) {kind id : Int} (h : InA a b kind id) : (1 ≤ kind ∧ kind ≤ 4) ∧ 1 ≤ id ∧ id ≤ 99 := by
 rcases h with h | ⟨r, hr, -, hu⟩ | ⟨r, hr, -, hu⟩
 ·exact ch_in ha hb h
 ·exact use_in ha hr hu
 ·exact use_in hb hr hu

/-! ### The other way round; a version alone -/
theorem ch_symm (a b : Pl) (kind id : Int) : chB b a kind id = chB a b kind id := by
 unfold chB
 rw [isD_flip a b]
 congr 1
 unfold flipD
 have := isD_range a b kind id
 refine propext ⟨fun ⟨h1, h2, h3⟩ => ⟨h1, ?_, ?_⟩, fun ⟨h1, h2, h3⟩ => ⟨h1, ?_, ?_⟩⟩
 all_goals (repeat' split at *)
 all_goals omega
theorem area_symm {a b : Pl} {kind id : Int} : InA b a kind id ↔ InA a b kind id := by
 have hf : chB b a = chB a b := funext fun k => funext fun i => ch_symm a b k i
 unfold InA
 rw [hf]
 constructor
 ·rintro (h | h | h)
  ·exact .inl h
  ·exact .inr (.inr h)
  ·exact .inr (.inl h)
 ·rintro (h | h | h)
  ·exact .inl h
  ·exact .inr (.inr h)
  ·exact .inr (.inl h)
theorem areaB_symm (a b : Pl) : areaB b a = areaB a b := funext fun k => funext fun i => by rw [Bool.eq_iff_iff, areaB_iff, areaB_iff]; exact area_symm
/-! ### A route that uses nothing that changes -/
theorem ch_same {a b : Pl} {kind id : Int} (hk : 1 ≤ kind ∧ kind ≤ 4) (hn : ¬ placeD a kind id < 0) (h : ¬ chB a b kind id = true) : elD a kind id = elD b kind id := by
 have h1 : isD a b kind id ≠ 4 := fun e => hn (isD_four.1 e).1
 have h2 : isD a b kind id = 0 := Classical.not_not.1 fun g => h (decide_eq_true ⟨hk, g, h1⟩)
 exact (isD_zero.1 h2).1
theorem same_route {a b : Pl} (ha : PlanMay a) (hb : PlanMay b) {r : Rt} (hr : r ∈ a.routes) (h : ¬ Meet14 (useB a r) (chB a b)) : r ∈ b.routes ∧ ∀ kind id, useB b r kind id = useB a r kind id := by
 have hra := may_rising ha
 have hrb := may_rising hb
 have hno : ∀ kind id, useB a r kind id = true → ¬ chB a b kind id = true := fun kind id hu hc => h ⟨kind, id, hu, hc⟩
 have hsame : ∀ kind id, 1 ≤ kind ∧ kind ≤ 4 → useB a r kind id = true → elD a kind id ≠ .none → elD a kind id = elD b kind id := fun kind id hk hu hn => ch_same hk (fun e => hn ((elD_none a kind id).2 e)) (hno kind id hu)
 have hrt : r ∈ b.routes := by
  have e := hsame 4 r.id (by omega) (by simp [useB]) (by rw [elD_route hra hr]; simp)
  rw [elD_route hra hr] at e
  exact (el_route_mem e.symm).1
 have hsec : ∀ s ∈ secsU a r, ∃ x, x ∈ a.secs ∧ x ∈ b.secs ∧ x.1 = s := fun s hs => by
  obtain ⟨x, hx, rfl⟩ := secsU_there ha hr hs
  have e := hsame 1 x.1 (by omega) (by simp [useB, hs]) (by rw [elD_sec hra hx]; simp)
  rw [elD_sec hra hx] at e
  exact ⟨x, hx, (el_sec_mem e.symm).1, rfl⟩
 have hpt : ∀ s ∈ secsU a r, ptOfD b s = ptOfD a s := fun s hs => by
  obtain ⟨x, h1, h2, rfl⟩ := hsec s hs
  rw [pt_of_sec hra h1, pt_of_sec hrb h2]
 have hfl : ∀ f ∈ r.flanks, secOfD b f.1 = secOfD a f.1 := fun f hf => by
  obtain ⟨i, hi, rfl⟩ := List.getElem_of_mem hr
  have hm := (ha.each i hi).2.2
  obtain ⟨j, hj, rfl⟩ := List.getElem_of_mem hf
  have h1 := (hm.flanks j hj).1
  rcases at1_cases (fun x : Jn => x.1) a.pts a.routes[i].flanks[j].1 with ⟨g1, -⟩ | ⟨k, hk, g1, g2, -⟩
  ·omega
  ·have hx := List.getElem_mem hk
   obtain ⟨s, hs1, hs2, hs3, hs4, hs5⟩ := pt_there ha hx
   have hin : s.1 ∈ secsU a a.routes[i] := List.mem_append_right _ (List.mem_map.2 ⟨_, hf, by rw [← g2, sec_of_pt hra hx]; exact hs2.symm⟩)
   have hu : useB a a.routes[i] 2 a.pts[k].1 = true := by
    unfold useB
    rw [if_neg (by decide), if_pos rfl]
    exact decide_eq_true ⟨by omega, List.mem_map.2 ⟨s.1, hin, by rw [pt_of_sec hra hs1]; exact hs3⟩⟩
   have e := hsame 2 a.pts[k].1 (by omega) hu (by rw [elD_pt hra hx]; simp)
   rw [elD_pt hra hx] at e
   have hxb := (el_pt_mem e.symm).1
   rw [← g2, sec_of_pt hra hx, sec_of_pt hrb hxb]
 have hU : secsU b r = secsU a r := by
  unfold secsU
  congr 1
  exact List.map_congr_left hfl
 have hM : (secsU b r).map (ptOfD b) = (secsU a r).map (ptOfD a) := by
  rw [hU]
  exact List.map_congr_left hpt
 refine ⟨hrt, fun kind id => ?_⟩
 unfold useB
 rw [hU]
 rw [hU] at hM
 rw [hM]

/-- An area's four lists, as they read. -/
structure ArIn (W : World) (B : Nat) (u0 u1 u2 u3 : Value) (x : Ar) : Prop where
 secs : IntsIn W B u0 x.secs
 pts : IntsIn W B u1 x.pts
 sigs : IntsIn W B u2 x.sigs
 routes : IntsIn W B u3 x.routes
theorem ArIn.below {W W' : World} {B : Nat} {u0 u1 u2 u3 : Value} {x : Ar} (h : ArIn W B u0 u1 u2 u3 x) (hb : Below B W W') : ArIn W' B u0 u1 u2 u3 x := ⟨h.secs.below intR hb, h.pts.below intR hb, h.sigs.below intR hb, h.routes.below intR hb⟩
theorem ArIn.more {W : World} {B B' : Nat} {u0 u1 u2 u3 : Value} {x : Ar} (h : ArIn W B u0 u1 u2 u3 x) (hb : B ≤ B') : ArIn W B' u0 u1 u2 u3 x := ⟨h.secs.more intR hb, h.pts.more intR hb, h.sigs.more intR hb, h.routes.more intR hb⟩
def AreaV (W : World) (B : Nat) (v : Value) (x : Ar) : Prop := ∃ u0 u1 u2 u3, v = .agg #[u0, u1, u2, u3] ∧ ArIn W B u0 u1 u2 u3 x
theorem AreaV.below {W W' : World} {B : Nat} {v : Value} {x : Ar} (h : AreaV W B v x) (hb : Below B W W') : AreaV W' B v x := by
 obtain ⟨u0, u1, u2, u3, rfl, hr⟩ := h
 exact ⟨u0, u1, u2, u3, rfl, hr.below hb⟩
theorem AreaV.more {W : World} {B B' : Nat} {v : Value} {x : Ar} (h : AreaV W B v x) (hb : B ≤ B') : AreaV W B' v x := by
 obtain ⟨u0, u1, u2, u3, rfl, hr⟩ := h
 exact ⟨u0, u1, u2, u3, rfl, hr.more hb⟩
def noAr : Ar := ⟨[], [], [], []⟩
theorem noAr_in (W : World) (B : Nat) : ArIn W B (.slice none 0 0) (.slice none 0 0) (.slice none 0 0) (.slice none 0 0) noAr := ⟨ListIn.nil_, ListIn.nil_, ListIn.nil_, ListIn.nil_⟩
noncomputable def arE (a b : Pl) : Int := if bothB a b then 0 else 8
noncomputable def arV (a b : Pl) : Ar := if bothB a b then arOf (areaB a b) else noAr
/-- The route of a number. -/
def routeD (p : Pl) (id : Int) : Rt := p.routes.getD (at1 (fun x : Rt => x.id) p.routes id).toNat ⟨0, 0, 0, [], [], [], 0⟩
noncomputable def usE (p : Pl) (id : Int) : Int := if planMay p then (if at1 (fun x : Rt => x.id) p.routes id < 0 then 6 else 0) else 8
noncomputable def usV (p : Pl) (id : Int) : Ar := if usE p id = 0 then arOf (useB p (routeD p id)) else noAr
theorem ar_cases (a b : Pl) : (PlanMay a ∧ PlanMay b ∧ arE a b = 0 ∧ arV a b = arOf (areaB a b)) ∨ (¬ (PlanMay a ∧ PlanMay b) ∧ arE a b = 8 ∧ arV a b = noAr) := by
 rcases both_cases a b with ⟨h1, h2, h⟩ | ⟨h1, h⟩
 ·exact .inl ⟨h1, h2, by rw [arE, h]; rfl, by rw [arV, h]; rfl⟩
 ·exact .inr ⟨h1, by rw [arE, h]; rfl, by rw [arV, h]; rfl⟩
theorem us_cases (p : Pl) (id : Int) : (PlanMay p ∧ usE p id = 0 ∧ usV p id = arOf (useB p (routeD p id)) ∧ routeD p id ∈ p.routes ∧ (routeD p id).id = id) ∨ (PlanMay p ∧ at1 (fun x : Rt => x.id) p.routes id < 0 ∧ usE p id = 6 ∧ usV p id = noAr) ∨ (¬ PlanMay p ∧ usE p id = 8 ∧ usV p id = noAr) := by
 by_cases h : PlanMay p
 ·rcases at1_cases (fun x : Rt => x.id) p.routes id with ⟨h1, -⟩ | ⟨k, hk, h1, h2, -⟩
  ·have e : usE p id = 6 := by rw [usE, planMay_true h, if_pos rfl, if_pos (by omega)]
   exact .inr (.inl ⟨h, by omega, e, by rw [usV, e]; rfl⟩)
  ·have e : usE p id = 0 := by rw [usE, planMay_true h, if_pos rfl, if_neg (by omega)]
   have er : routeD p id = p.routes[k] := by rw [routeD, h1, Int.toNat_natCast, List.getD, List.getElem?_eq_getElem hk, Option.getD_some]
   exact .inl ⟨h, e, by rw [usV, if_pos e], by rw [er]; exact List.getElem_mem hk, by rw [er]; exact h2⟩
 ·have e : usE p id = 8 := by rw [usE, planMay_false h]; rfl
  exact .inr (.inr ⟨h, e, by rw [usV, e]; rfl⟩)
/-- The program's answers: to be proved over the program's own text; the walks of the statements take it. -/
structure AreaSaid : Prop where
 of : ∀ (v y : Value) (a b : Pl) (w : World), PlanV w w.heap.size v a → PlanV w w.heap.size y b →
  Calls Tryz.prog 9 #[v, y] w fun e w' => ∃ u0 u1 u2 u3, e = .returned (.tuple #[.agg #[u0, u1, u2, u3], .int .i64 (arE a b)]) ∧ ArIn w' w'.heap.size u0 u1 u2 u3 (arV a b) ∧ Below w.heap.size w w'
 uses : ∀ (v : Value) (p : Pl) (id : Int) (w : World), PlanV w w.heap.size v p →
  Calls Tryz.prog 11 #[v, .int .i64 id] w fun e w' => ∃ u0 u1 u2 u3, e = .returned (.tuple #[.agg #[u0, u1, u2, u3], .int .i64 (usE p id)]) ∧ ArIn w' w'.heap.size u0 u1 u2 u3 (usV p id) ∧ Below w.heap.size w w'
 has : ∀ (v : Value) (x : Ar) (kind id : Int) (w : World), AreaV w w.heap.size v x → 0 ≤ kind → kind < 256 →
  Calls Tryz.prog 14 #[v, .int .u8 kind, .int .i64 id] w fun e w' => e = .returned (.bool (hasA x kind id)) ∧ Below w.heap.size w w'
 same : ∀ (v y : Value) (x z : Ar) (w : World), AreaV w w.heap.size v x → AreaV w w.heap.size y z →
  Calls Tryz.prog 13 #[v, y] w fun e w' => e = .returned (.bool (eqB x z)) ∧ Below w.heap.size w w'

/-- Two sections with one point are one. -/
theorem pt_unique {p : Pl} (h : PlanMay p) {x y : Sec} (hx : x ∈ p.secs) (hy : y ∈ p.secs) (h0 : x.2.1 ≠ 0) (e : x.2.1 = y.2.1) : x = y := by
 obtain ⟨i, hi, rfl⟩ := List.getElem_of_mem hx
 obtain ⟨j, hj, rfl⟩ := List.getElem_of_mem hy
 rcases Nat.lt_trichotomy i j with g | g | g
 ·have := (h.secs.k j i g hj).2
  exact absurd ⟨by rw [← e]; exact h0, e⟩ this
 ·subst g; rfl
 ·have := (h.secs.k i j g hi).2
  exact absurd ⟨h0, e.symm⟩ this
theorem route_unique {p : Pl} (h : PlanMay p) {r s : Rt} (hr : r ∈ p.routes) (hs : s ∈ p.routes) (e : r.id = s.id) : r = s := by
 have h1 := elD_route (may_rising h) hr
 have h2 := elD_route (may_rising h) hs
 rw [e, h2] at h1
 cases h1
 rfl
theorem nodup_le14 : ∀ (l m : List Int), l.Nodup → (∀ x ∈ l, x ∈ m) → l.length ≤ m.length
 | [], m, _, _ => Nat.zero_le _
 | x :: l, m, hn, h => by
  rw [List.nodup_cons] at hn
  have hx := h x (List.mem_cons_self ..)
  have h1 := nodup_le14 l (m.erase x) hn.2 fun y hy => (List.mem_erase_of_ne (fun e => by subst e; exact hn.1 hy)).2 (h y (List.mem_cons_of_mem _ hy))
  rw [List.length_erase_of_mem hx] at h1
  have := List.length_pos_of_mem hx
  rw [List.length_cons]
  omega
/-- Something that changes is told, and is in an area. -/
theorem meets_iff {a b p : Pl} (ha : PlanMay a) (hb : PlanMay b) {r : Rt} : ((diffL a b).any fun x => decide (x.2.2 ≠ 0) && hasA (arOf (useB p r)) x.1 x.2.1) = true ↔ Meet14 (useB p r) (chB a b) := by
 rw [List.any_eq_true]
 constructor
 ·rintro ⟨x, hx, h⟩
  rw [Bool.and_eq_true, decide_eq_true_iff] at h
  obtain ⟨h1, h2, h3, h4, h5, h6⟩ := diffN_mem.1 hx
  refine ⟨x.1, x.2.1, (has_of.1 h.2).2.2, decide_eq_true ⟨⟨h1, by exact_mod_cast h2⟩, ?_, ?_⟩⟩
  ·rw [← h5]; exact h.1
  ·rw [← h5]; exact h6
 ·rintro ⟨k, i, h1, h2⟩
  obtain ⟨⟨g1, g2⟩, g3⟩ := ch_in ha hb h2
  obtain ⟨-, g4, g5⟩ := of_decide_eq_true h2
  refine ⟨(k, i, isD a b k i), diffN_mem.2 ⟨g1, by exact_mod_cast g2, g3.1, g3.2, rfl, g5⟩, ?_⟩
  rw [Bool.and_eq_true, decide_eq_true_iff]
  exact ⟨g4, has_of.2 ⟨⟨g1, g2⟩, g3, h1⟩⟩
/-- All that changes is in the area. -/
theorem ch_has {a b : Pl} (ha : PlanMay a) (hb : PlanMay b) {x : Df} (hx : x ∈ diffL a b) (h0 : x.2.2 ≠ 0) : hasA (arOf (areaB a b)) x.1 x.2.1 = true := by
 obtain ⟨h1, h2, h3, h4, h5, h6⟩ := diffN_mem.1 hx
 have hc : chB a b x.1 x.2.1 = true := decide_eq_true ⟨⟨h1, by exact_mod_cast h2⟩, by rw [← h5]; exact h0, by rw [← h5]; exact h6⟩
 exact has_of.2 ⟨⟨h1, by exact_mod_cast h2⟩, ⟨h3, h4⟩, areaB_iff.2 (.inl hc)⟩
/-- A route that uses something that changes is in the area with all that it uses. -/
theorem use_has {a b : Pl} {r : Rt} (hr : r ∈ a.routes ∧ Meet14 (useB a r) (chB a b)) {kind id : Int} (h : hasA (arOf (useB a r)) kind id = true) : hasA (arOf (areaB a b)) kind id = true := by
 obtain ⟨h1, h2, h3⟩ := has_of.1 h
 exact has_of.2 ⟨h1, h2, areaB_iff.2 (.inr (.inl ⟨r, hr.1, hr.2, h3⟩))⟩
theorem use_has_b {a b : Pl} {r : Rt} (hr : r ∈ b.routes ∧ Meet14 (useB b r) (chB a b)) {kind id : Int} (h : hasA (arOf (useB b r)) kind id = true) : hasA (arOf (areaB a b)) kind id = true := by
 obtain ⟨h1, h2, h3⟩ := has_of.1 h
 exact has_of.2 ⟨h1, h2, areaB_iff.2 (.inr (.inr ⟨r, hr.1, hr.2, h3⟩))⟩
/-- One that uses nothing that changes is the same in the other plan, and is not in the area. -/
theorem use_not {a b : Pl} (ha : PlanMay a) (hb : PlanMay b) {r : Rt} (hr : r ∈ a.routes) (h : ¬ Meet14 (useB a r) (chB a b)) : r ∈ b.routes ∧ hasA (arOf (areaB a b)) 4 r.id = false := by
 obtain ⟨h1, h2⟩ := same_route ha hb hr h
 refine ⟨h1, ?_⟩
 rw [← Bool.not_eq_true, has_of]
 rintro ⟨-, -, g⟩
 rcases areaB_iff.1 g with g | ⟨s, hs, hm, hu⟩ | ⟨s, hs, hm, hu⟩
 ·exact h ⟨4, r.id, by simp [useB], g⟩
 ·have : r.id = s.id := by simpa [useB] using hu
  exact h (route_unique ha hr hs this ▸ hm)
 ·have : r.id = s.id := by simpa [useB] using hu
  have e := route_unique hb h1 hs this
  subst e
  obtain ⟨k, i, g1, g2⟩ := hm
  exact h ⟨k, i, by rw [← h2]; exact g1, g2⟩
theorem use_not_b {a b : Pl} (ha : PlanMay a) (hb : PlanMay b) {r : Rt} (hr : r ∈ b.routes) (h : ¬ Meet14 (useB b r) (chB a b)) : r ∈ a.routes ∧ hasA (arOf (areaB a b)) 4 r.id = false := by
 have hf : chB a b = chB b a := funext fun k => funext fun i => ch_symm b a k i
 rw [hf] at h
 rw [← areaB_symm]
 exact use_not hb ha hr h

def chC (a b : Pl) (kind id : Int) : Bool := decide ((1 ≤ kind ∧ kind ≤ 4) ∧ isC a b kind id ≠ 0 ∧ isC a b kind id ≠ 4)
theorem chB_C (a b : Pl) (kind id : Int) : chB a b kind id = chC a b kind id := by unfold chB chC; rw [isD_C]
def meetC (u c : Int → Int → Bool) : Bool := (List.range 4).any fun (i : Nat) => (List.range 99).any fun (j : Nat) => u ((i : Int) + 1) ((j : Int) + 1) && c ((i : Int) + 1) ((j : Int) + 1)
def areaC (a b : Pl) (kind id : Int) : Bool :=
 chC a b kind id || (a.routes.any fun r => meetC (useB a r) (chC a b) && useB a r kind id) || b.routes.any fun r => meetC (useB b r) (chC a b) && useB b r kind id
theorem meet_C {a b : Pl} (ha : PlanMay a) (hb : PlanMay b) (u : Int → Int → Bool) : meetC u (chC a b) = true ↔ Meet14 u (chB a b) := by
 unfold meetC
 rw [List.any_eq_true]
 constructor
 ·rintro ⟨i, hi, h⟩
  obtain ⟨j, hj, h⟩ := List.any_eq_true.1 h
  rw [Bool.and_eq_true] at h
  exact ⟨_, _, h.1, by rw [chB_C]; exact h.2⟩
 ·rintro ⟨kind, id, h1, h2⟩
  obtain ⟨g1, g2⟩ := ch_in ha hb h2
  refine ⟨(kind - 1).toNat, List.mem_range.2 (by omega), List.any_eq_true.2 ⟨(id - 1).toNat, List.mem_range.2 (by omega), ?_⟩⟩
  rw [show (((kind - 1).toNat : Nat) : Int) + 1 = kind by omega, show (((id - 1).toNat : Nat) : Int) + 1 = id by omega, h1, ← chB_C, h2]
  rfl
theorem area_C {a b : Pl} (ha : PlanMay a) (hb : PlanMay b) (kind id : Int) : areaB a b kind id = areaC a b kind id := by
 rw [Bool.eq_iff_iff, areaB_iff]
 unfold InA areaC
 rw [Bool.or_eq_true, Bool.or_eq_true, List.any_eq_true, List.any_eq_true, chB_C, or_assoc]
 simp only [Bool.and_eq_true, meet_C ha hb]
theorem arV_C {a b : Pl} (ha : PlanMay a) (hb : PlanMay b) : arV a b = arOf (areaC a b) := by
 rw [arV, bothB, planMay_true ha, planMay_true hb]
 exact arOf_ext fun kind id _ _ _ _ => area_C ha hb kind id
def arEq (x y : Ar) : Bool := decide (x.secs = y.secs) && (decide (x.pts = y.pts) && (decide (x.sigs = y.sigs) && decide (x.routes = y.routes)))
theorem arEq_iff (x y : Ar) : arEq x y = true ↔ x = y := by
 obtain ⟨a1, a2, a3, a4⟩ := x
 obtain ⟨b1, b2, b3, b4⟩ := y
 simp only [arEq, Bool.and_eq_true, decide_eq_true_eq, Ar.mk.injEq]
theorem usV_one : usE planOne 8 = 0 ∧ usV planOne 8 = ⟨[2, 3], [5], [4], [8]⟩ := by
 have e : usE planOne 8 = 0 := by rw [usE, planMay_true may_one13]; rfl
 refine ⟨e, ?_⟩
 rw [usV, if_pos e]
 exact (arEq_iff _ _).1 (by decide +kernel)
theorem arV_one_two : arE planOne planTwo13 = 0 ∧ arV planOne planTwo13 = ⟨[2, 3], [5], [4, 7], [8]⟩ := by
 refine ⟨by rw [arE, both_one_two]; rfl, ?_⟩
 rw [arV_C may_one13 may_two13]
 exact (arEq_iff _ _).1 (by decide +kernel)
end Go.Proofs.YtneeocnjfnneoaaGreat
