/-
 What a route comes to: the mathematics.
 Conditions: none.
-/
import Derived.Test.YtemmgmjhomgbbaaGreatVGPlnRefC
import Derived.Test.YtemmgmjhomgbbaaGreatVGPlnRefB
import Derived.Test.YtemmgmjhomgbbaaGreatVGPlnRefD
set_option linter.unusedVariables false
set_option linter.unusedSimpArgs false
set_option maxRecDepth 100000
namespace Go.Proofs.YtemmgmjhomgbbaaGreat
open Go.RowKit

/-- What a route asks of a point: the point, the lie, the place. -/
abbrev Ak := Int × Int × Int
structure Wy where
 path : List Int
 over : List Int
 asks : List Ak
 near : Int
def allR (r : Rt) : List Int := r.path ++ r.over
/-- The section of that number. -/
def secN (p : Pl) (id : Int) : Sec := p.secs.getD (atS p.secs id).toNat (0, 0, [])
/-- The signal of that number. -/
def sigN (p : Pl) (id : Int) : Sg := p.sigs.getD (at1 kSg p.sigs id).toNat (0, 0, 0)
/-- Whether that end is right, by which a route's section of that place may be left. -/
def rightB (p : Pl) (r : Rt) (a : Nat) (inn : Int) (e : Nat) : Bool :=
 let s := secN p ((allR r).getD a 0)
 let j := s.2.2.getD e (0, 0)
 decide (0 ≤ lieS s.2.1 inn (e : Int)) && (if a + 1 = r.path.length then decide (r.exit = 0 ∧ j.1 = 0 ∨ r.exit ≠ 0 ∧ standsS p.sigs s.1 (e : Int) = r.exit) else decide (j.1 = (allR r).getD (a + 1) 0))
/-- The end by which a route's section of that place is left; -1: there is none. -/
def outN (p : Pl) (r : Rt) (a : Nat) (inn : Int) : Int := match (List.range (secN p ((allR r).getD a 0)).2.2.length).find? (rightB p r a inn) with
 | some e => (e : Int)
 | none => -1
theorem outN_some {p : Pl} {r : Rt} {a : Nat} {inn : Int} {e : Nat} (he : e < (secN p ((allR r).getD a 0)).2.2.length) (h : rightB p r a inn e = true) (h0 : ∀ j, j < e → rightB p r a inn j = false) : outN p r a inn = (e : Int) := by
 have hr : List.range (secN p ((allR r).getD a 0)).2.2.length = List.range e ++ e :: (List.range' (e + 1) ((secN p ((allR r).getD a 0)).2.2.length - e - 1)) := by
  rw [List.range_eq_range', List.range_eq_range', show (secN p ((allR r).getD a 0)).2.2.length = e + (1 + ((secN p ((allR r).getD a 0)).2.2.length - e - 1)) from by omega, ← List.range'_append_1, Nat.zero_add, Nat.add_comm 1, List.range'_succ]
  congr 3
  omega
 rw [outN, hr, List.find?_append, List.find?_eq_none.2 (fun x hx => by rw [h0 x (List.mem_range.1 hx)]; exact Bool.false_ne_true), Option.none_or, List.find?_cons_of_pos h]
theorem outN_none {p : Pl} {r : Rt} {a : Nat} {inn : Int} (h0 : ∀ j, j < (secN p ((allR r).getD a 0)).2.2.length → rightB p r a inn j = false) : outN p r a inn = -1 := by
 rw [outN, List.find?_eq_none.2 (fun x hx => by rw [h0 x (List.mem_range.1 hx)]; exact Bool.false_ne_true)]
theorem outN_cases (p : Pl) (r : Rt) (a : Nat) (inn : Int) : outN p r a inn = -1 ∨ ∃ e, e < (secN p ((allR r).getD a 0)).2.2.length ∧ outN p r a inn = (e : Int) ∧ rightB p r a inn e = true := by
 rw [outN]
 cases h : (List.range (secN p ((allR r).getD a 0)).2.2.length).find? (rightB p r a inn) with
 | none => exact .inl rfl
 | some e => exact .inr ⟨e, List.mem_range.1 (List.mem_of_find?_eq_some h), rfl, by simpa using List.find?_some h⟩
/-- Where one comes to, behind the route's first a sections. -/
def comesN (p : Pl) (r : Rt) : Nat → Option Jn
 | 0 => some ((secN p (sigN p r.entry).2.1).2.2.getD (sigN p r.entry).2.2.toNat (0, 0))
 | a + 1 => match comesN p r a with
  | none => none
  | some j => if j.1 = (allR r).getD a 0 then (if outN p r a j.2 < 0 then none else some ((secN p ((allR r).getD a 0)).2.2.getD (outN p r a j.2).toNat (0, 0))) else none
def inN (p : Pl) (r : Rt) (a : Nat) : Int := match comesN p r a with
 | some j => j.2
 | none => 0
/-- Whether the section of that place is an overlap's last one. -/
def lastB (r : Rt) (a : Nat) : Bool := decide (a + 1 = (allR r).length ∧ 0 < r.over.length)
def outA (p : Pl) (r : Rt) (a : Nat) : Int := if lastB r a then -1 else outN p r a (inN p r a)
/-- The first a sections hang together. -/
def HangsTo (p : Pl) (r : Rt) (a : Nat) : Prop := ∀ i, i < a → ∃ j, comesN p r i = some j ∧ j.1 = (allR r).getD i 0 ∧ (lastB r i = false → 0 ≤ outN p r i j.2)
def Hangs (p : Pl) (r : Rt) : Prop := HangsTo p r (allR r).length
noncomputable def hangsB (p : Pl) (r : Rt) : Bool := @decide (Hangs p r) (Classical.propDecidable _)
theorem hangsB_true {p : Pl} {r : Rt} (h : Hangs p r) : hangsB p r = true := by rw [hangsB]; exact @decide_eq_true _ (Classical.propDecidable _) h
theorem hangsB_iff {p : Pl} {r : Rt} : hangsB p r = true ↔ Hangs p r := by rw [hangsB]; exact @decide_eq_true_iff _ (Classical.propDecidable _)
/-- What is asked at a place. -/
def askN (p : Pl) (r : Rt) (a : Nat) : Option Ak :=
 let s := secN p ((allR r).getD a 0)
 let lie := if 0 ≤ outA p r a then lieS s.2.1 (inN p r a) (outA p r a) else inN p r a
 if s.2.1 = 0 then none else if 0 < lie then some (s.2.1, lie, (a : Int)) else none
def asksL (p : Pl) (r : Rt) (n : Nat) : List Ak := (List.range n).filterMap (askN p r)
theorem asksL_succ (p : Pl) (r : Rt) (n : Nat) : asksL p r (n + 1) = asksL p r n ++ (askN p r n).toList := by
 rw [asksL, List.range_succ, List.filterMap_append]
 congr 1
def flankA (f : Jn) : Ak := (f.1, f.2, -1)
def wayR (p : Pl) (r : Rt) : Wy := ⟨r.path, r.over, asksL p r (allR r).length ++ r.flanks.map flankA, (sigN p r.entry).2.1⟩
def leftN (p : Pl) (r : Rt) (a : Nat) : Option Jn := if 0 ≤ outA p r a then some ((allR r).getD a 0, outA p r a) else none
def leftL (p : Pl) (r : Rt) (n : Nat) : List Jn := (List.range n).filterMap (leftN p r)
theorem leftL_succ (p : Pl) (r : Rt) (n : Nat) : leftL p r (n + 1) = leftL p r n ++ (leftN p r n).toList := by
 rw [leftL, List.range_succ, List.filterMap_append]
 congr 1
/-- The route of that number. -/
def routeN (p : Pl) (id : Int) : Rt := p.routes.getD (at1 kRt p.routes id).toNat zRt
noncomputable def wayE (p : Pl) (id : Int) : Int := if planMay p then (if at1 kRt p.routes id < 0 then 6 else if hangsB p (routeN p id) then 0 else 90) else 8
def zWy : Wy := ⟨[], [], [], 0⟩
noncomputable def wayV (p : Pl) (id : Int) : Wy := if wayE p id = 0 then wayR p (routeN p id) else zWy
noncomputable def leftV (p : Pl) (id : Int) : List Jn := if wayE p id = 0 then leftL p (routeN p id) (allR (routeN p id)).length else []

/-- What is known of a route of a plan that may be. -/
structure RouteIn (p : Pl) (r : Rt) : Prop where
 plan : PlanMay p
 route : RouteMay p r
theorem routeIn_of {p : Pl} (h : PlanMay p) {u : Nat} (hu : u < p.routes.length) {r : Rt} (hr : p.routes[u] = r) : RouteIn p r := by
 subst hr
 exact ⟨h, (h.each u hu).2.2⟩
theorem secN_at {p : Pl} {id : Int} {k : Nat} (hk : k < p.secs.length) (h : atS p.secs id = (k : Int)) : secN p id = p.secs[k] := by rw [secN, h]; simp [List.getD, List.getElem?_eq_getElem hk]
theorem sigN_at {p : Pl} {id : Int} {k : Nat} (hk : k < p.sigs.length) (h : at1 kSg p.sigs id = (k : Int)) : sigN p id = p.sigs[k] := by rw [sigN, h]; simp [List.getD, List.getElem?_eq_getElem hk]
theorem RouteIn.len {p : Pl} {r : Rt} (h : RouteIn p r) : 1 ≤ (allR r).length ∧ (allR r).length ≤ 8 ∧ (allR r).length = r.path.length + r.over.length ∧ r.over.length ≤ 2 := by
 have h1 := h.route.path
 have h2 := h.route.over
 rw [allR, List.length_append]
 omega
/-- The section of a place. -/
theorem RouteIn.sec {p : Pl} {r : Rt} (h : RouteIn p r) {a : Nat} (ha : a < (allR r).length) : ∃ k, ∃ hk : k < p.secs.length, atS p.secs ((allR r).getD a 0) = (k : Int) ∧ secN p ((allR r).getD a 0) = p.secs[k] ∧ p.secs[k].1 = (allR r).getD a 0 := by
 have h0 := (h.route.secs a ha).1
 have e : (allR r).getD a 0 = (r.path ++ r.over)[a] := by
  have ha' : a < (r.path ++ r.over).length := ha
  rw [allR, List.getD, List.getElem?_eq_getElem ha']; rfl
 rcases atS_cases p.secs ((r.path ++ r.over)[a]) with h1 | ⟨k, hk, h1, h2⟩
 ·omega
 ·exact ⟨k, hk, by rw [e]; exact h1, by rw [e]; exact secN_at hk h1, by rw [e]; exact h2⟩
/-- The entry's signal, and its section. -/
theorem RouteIn.entry {p : Pl} {r : Rt} (h : RouteIn p r) : ∃ k, ∃ hk : k < p.sigs.length, at1 kSg p.sigs r.entry = (k : Int) ∧ sigN p r.entry = p.sigs[k] ∧ ∃ m, ∃ hm : m < p.secs.length, atS p.secs p.sigs[k].2.1 = (m : Int) ∧ secN p p.sigs[k].2.1 = p.secs[m] ∧ 0 ≤ p.sigs[k].2.2 ∧ p.sigs[k].2.2 < p.secs[m].2.2.length := by
 obtain ⟨k, hk, ha, -⟩ := h.route.entry
 obtain ⟨-, -, ⟨m, hm, h1, h2, h3⟩, -⟩ := h.plan.sigs.each k hk
 exact ⟨k, hk, ha, sigN_at hk ha, m, hm, h1, secN_at hm h1, h2, h3⟩
theorem comes_succ {p : Pl} {r : Rt} {a : Nat} {j : Jn} (h : comesN p r a = some j) (h1 : j.1 = (allR r).getD a 0) {e : Nat} (h2 : outN p r a j.2 = (e : Int)) : comesN p r (a + 1) = some ((secN p ((allR r).getD a 0)).2.2.getD e (0, 0)) := by
 rw [comesN, h]
 dsimp only
 rw [if_pos h1, if_neg (by omega), h2]
 simp
theorem in_of {p : Pl} {r : Rt} {a : Nat} {j : Jn} (h : comesN p r a = some j) : inN p r a = j.2 := by rw [inN, h]
theorem hangs_snoc {p : Pl} {r : Rt} {a : Nat} {j : Jn} (h : HangsTo p r a) (hc : comesN p r a = some j) (h1 : j.1 = (allR r).getD a 0) (h2 : lastB r a = false → 0 ≤ outN p r a j.2) : HangsTo p r (a + 1) := fun i hi => by
 rcases Nat.lt_or_ge i a with h3 | h3
 ·exact h i h3
 ·obtain rfl : i = a := by omega
  exact ⟨j, hc, h1, h2⟩
theorem hangs_not {p : Pl} {r : Rt} {a : Nat} {j : Jn} (ha : a < (allR r).length) (hc : comesN p r a = some j) (h : ¬ (j.1 = (allR r).getD a 0 ∧ (lastB r a = false → 0 ≤ outN p r a j.2))) : ¬ Hangs p r := fun hh => by
 obtain ⟨j2, h1, h2, h3⟩ := hh a ha
 rw [hc] at h1
 injection h1 with h1
 subst h1
 exact h ⟨h2, h3⟩

abbrev AsksIn (W : World) (B : Nat) (v : Value) (l : List Ak) : Prop := ListIn 3 SigR W B v l
abbrev AsksOwn (W : World) (lo : Nat) (v : Value) (l : List Ak) : Prop := ListOwn 108 3 SigR W lo v l
structure WyIn (W : World) (B : Nat) (u0 u1 u2 : Value) (x : Wy) : Prop where
 path : IntsIn W B u0 x.path
 over : IntsIn W B u1 x.over
 asks : AsksIn W B u2 x.asks
theorem WyIn.below {W W' : World} {B : Nat} {u0 u1 u2 : Value} {x : Wy} (h : WyIn W B u0 u1 u2 x) (hb : Below B W W') : WyIn W' B u0 u1 u2 x := ⟨h.path.below intR hb, h.over.below intR hb, h.asks.below sigR hb⟩
theorem WyIn.more {W : World} {B B' : Nat} {u0 u1 u2 : Value} {x : Wy} (h : WyIn W B u0 u1 u2 x) (hb : B ≤ B') : WyIn W B' u0 u1 u2 x := ⟨h.path.more intR hb, h.over.more intR hb, h.asks.more sigR hb⟩
def WayV (W : World) (B : Nat) (v : Value) (x : Wy) : Prop := ∃ u0 u1 u2, v = .agg #[u0, u1, u2, .int .i64 x.near] ∧ WyIn W B u0 u1 u2 x
theorem WayV.below {W W' : World} {B : Nat} {v : Value} {x : Wy} (h : WayV W B v x) (hb : Below B W W') : WayV W' B v x := by
 obtain ⟨u0, u1, u2, rfl, hr⟩ := h
 exact ⟨u0, u1, u2, rfl, hr.below hb⟩
theorem WayV.more {W : World} {B B' : Nat} {v : Value} {x : Wy} (h : WayV W B v x) (hb : B ≤ B') : WayV W B' v x := by
 obtain ⟨u0, u1, u2, rfl, hr⟩ := h
 exact ⟨u0, u1, u2, rfl, hr.more hb⟩
structure WyOwn (W : World) (lo : Nat) (u0 u1 u2 : Value) (x : Wy) : Prop where
 path : IntsOwn W lo u0 x.path
 over : IntsOwn W lo u1 x.over
 asks : AsksOwn W lo u2 x.asks
theorem WyOwn.below {W W' : World} {lo : Nat} {u0 u1 u2 : Value} {x : Wy} (h : WyOwn W lo u0 u1 u2 x) (hb : Below W.heap.size W W') : WyOwn W' lo u0 u1 u2 x := ⟨h.path.below intR hb, h.over.below intR hb, h.asks.below sigR hb⟩
theorem WyOwn.mono {W : World} {lo lo' : Nat} {u0 u1 u2 : Value} {x : Wy} (h : WyOwn W lo u0 u1 u2 x) (hl : lo' ≤ lo) : WyOwn W lo' u0 u1 u2 x := ⟨h.path.mono hl, h.over.mono hl, h.asks.mono hl⟩
theorem WyOwn.in_ {W : World} {lo : Nat} {u0 u1 u2 : Value} {x : Wy} (h : WyOwn W lo u0 u1 u2 x) : WyIn W W.heap.size u0 u1 u2 x := ⟨h.path.in_ intR_cells, h.over.in_ intR_cells, h.asks.in_ sigR_cells⟩
theorem WyOwn.kept {W W' : World} {lo g : Nat} {u0 u1 u2 : Value} {x : Wy} (h : WyOwn W lo u0 u1 u2 x) (hg : W.grownBy W' (some g)) (hl : g < lo) : WyOwn W' lo u0 u1 u2 x :=
 ⟨own_kept intF h.path hg (fun k hk => by have := own_lo h.path k hk; omega), own_kept intF h.over hg (fun k hk => by have := own_lo h.over k hk; omega), own_kept sigF h.asks hg (fun k hk => by have := own_lo h.asks k hk; omega)⟩
theorem wy_eq {a b : Wy} : a = b ↔ a.near = b.near ∧ a.path = b.path ∧ a.over = b.over ∧ a.asks = b.asks := by
 constructor
 ·rintro rfl; exact ⟨rfl, rfl, rfl, rfl⟩
 ·obtain ⟨a0, a1, a2, a3⟩ := a
  obtain ⟨b0, b1, b2, b3⟩ := b
  rintro ⟨h0, h1, h2, h3⟩
  dsimp only at h0 h1 h2 h3
  subst h0 h1 h2 h3
  rfl
theorem infoWay4 : (Tryz.prog.info? 96).map (·.size) = some 4 := by kernel_rfl
theorem infoAskI : (Tryz.prog.info? 108).map (fun i => (i.zero, i.size, i.bytes)) = some (some (.agg #[.int .i64 0, .int .i64 0, .int .i64 0]), 3, 24) := by kernel_rfl
theorem cell4_of {w : World} {b : Nat} {v0 v1 v2 v3 : Value} {t : TypeId} {fr : Nat × Nat} (h : w.heap[b]? = some (.cells #[v0, v1, v2, v3] t fr)) : w.cell? ⟨b, 0, none⟩ = some v0 ∧ w.cell? ⟨b, 1, none⟩ = some v1 ∧ w.cell? ⟨b, 2, none⟩ = some v2 ∧ w.cell? ⟨b, 3, none⟩ = some v3 :=
 ⟨cell_of_row _ _ _ _ _ _ h, cell_of_row _ _ _ _ _ _ h, cell_of_row _ _ _ _ _ _ h, cell_of_row _ _ _ _ _ _ h⟩
end Go.Proofs.YtemmgmjhomgbbaaGreat
