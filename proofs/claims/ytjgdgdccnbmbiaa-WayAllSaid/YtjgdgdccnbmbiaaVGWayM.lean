/-
  What a route comes to: the mathematics.
  Conditions: none.
-/
import Derived.Test.YtjgdgdccnbmbiaaVGPlnRefC
import Derived.Test.YtjgdgdccnbmbiaaVGPlnRefB
import Derived.Test.YtjgdgdccnbmbiaaVGPlnRefD
import Derived.BigQuiet
set_option linter.unusedVariables false
set_option linter.unusedSimpArgs false
set_option maxRecDepth 100000
namespace Go.Proofs.Ytjgdgdccnbmbiaa
open Go.RowKit

/-- What a route asks of a point: the point, the lie, the place. -/
abbrev Ak := Int × Int × Int
structure Wy where
  path : List Int
  over : List Int
  asks : List Ak
  near : Int
def allR (r : Rt) : List Int := r.path ++ r.over
/-- The section of that number. -/
def secN (p : Pl) (id : Int) : Sec := p.secs.getD (atS p.secs id).toNat (0, 0, [])
/-- The signal of that number. -/
def sigN (p : Pl) (id : Int) : Sg := p.sigs.getD (at1 kSg p.sigs id).toNat (0, 0, 0)
/-- Whether that end is right, by which a route's section of that place may be left. -/
def rightB (p : Pl) (r : Rt) (a : Nat) (inn : Int) (e : Nat) : Bool :=
  let s := secN p ((allR r).getD a 0)
  let j := s.2.2.getD e (0, 0)
  decide (0 ≤ lieS s.2.1 inn (e : Int)) && (if a + 1 = r.path.length then decide (r.exit = 0 ∧ j.1 = 0 ∨ r.exit ≠ 0 ∧ standsS p.sigs s.1 (e : Int) = r.exit) else decide (j.1 = (allR r).getD (a + 1) 0))
/-- The end by which a route's section of that place is left; -1: there is none. -/
def outN (p : Pl) (r : Rt) (a : Nat) (inn : Int) : Int := match (List.range (secN p ((allR r).getD a 0)).2.2.length).find? (rightB p r a inn) with
  | some e => (e : Int)
  | none => -1
theorem outN_some {p : Pl} {r : Rt} {a : Nat} {inn : Int} {e : Nat} (he : e < (secN p ((allR r).getD a 0)).2.2.length) (h : rightB p r a inn e = true) (h0 : ∀ j, j < e → rightB p r a inn j = false) : outN p r a inn = (e : Int) := by
  have hr : List.range (secN p ((allR r).getD a 0)).2.2.length = List.range e ++ e :: (List.range' (e + 1) ((secN p ((allR r).getD a 0)).2.2.length - e - 1)) := by
    rw [List.range_eq_range', List.range_eq_range', show (secN p ((allR r).getD a 0)).2.2.length = e + (1 + ((secN p ((allR r).getD a 0)).2.2.length - e - 1)) from by omega, ← List.range'_append_1, Nat.zero_add, Nat.add_comm 1, List.range'_succ]
    congr 3
    omega
  rw [outN, hr, List.find?_append, List.find?_eq_none.2 (fun x hx => by rw [h0 x (List.mem_range.1 hx)]; exact Bool.false_ne_true), Option.none_or, List.find?_cons_of_pos h]
theorem outN_none {p : Pl} {r : Rt} {a : Nat} {inn : Int} (h0 : ∀ j, j < (secN p ((allR r).getD a 0)).2.2.length → rightB p r a inn j = false) : outN p r a inn = -1 := by
  rw [outN, List.find?_eq_none.2 (fun x hx => by rw [h0 x (List.mem_range.1 hx)]; exact Bool.false_ne_true)]
theorem outN_cases (p : Pl) (r : Rt) (a : Nat) (inn : Int) : outN p r a inn = -1 ∨ ∃ e, e < (secN p ((allR r).getD a 0)).2.2.length ∧ outN p r a inn = (e : Int) ∧ rightB p r a inn e = true := by
  rw [outN]
  cases h : (List.range (secN p ((allR r).getD a 0)).2.2.length).find? (rightB p r a inn) with
  | none => exact .inl rfl
  | some e => exact .inr ⟨e, List.mem_range.1 (List.mem_of_find?_eq_some h), rfl, by simpa using List.find?_some h⟩
/-- Where one comes to, behind the route's first a sections. -/
def comesN (p : Pl) (r : Rt) : Nat → Option Jn
  | 0 => some ((secN p (sigN p r.entry).2.1).2.2.getD (sigN p r.entry).2.2.toNat (0, 0))
  | a + 1 => match comesN p r a with
    | none => none
    | some j => if j.1 = (allR r).getD a 0 then (if outN p r a j.2 < 0 then none else some ((secN p ((allR r).getD a 0)).2.2.getD (outN p r a j.2).toNat (0, 0))) else none
def inN (p : Pl) (r : Rt) (a : Nat) : Int := match comesN p r a with
  | some j => j.2
  | none => 0
/-- Whether the section of that place is an overlap's last one. -/
def lastB (r : Rt) (a : Nat) : Bool := decide (a + 1 = (allR r).length ∧ 0 < r.over.length)
def outA (p : Pl) (r : Rt) (a : Nat) : Int := if lastB r a then -1 else outN p r a (inN p r a)
/-- The first a sections hang together. -/
def HangsTo (p : Pl) (r : Rt) (a : Nat) : Prop := ∀ i, i < a → ∃ j, comesN p r i = some j ∧ j.1 = (allR r).getD i 0 ∧ (lastB r i = false → 0 ≤ outN p r i j.2)
def Hangs (p : Pl) (r : Rt) : Prop := HangsTo p r (allR r).length
noncomputable def hangsB (p : Pl) (r : Rt) : Bool := @decide (Hangs p r) (Classical.propDecidable _)
theorem hangsB_true {p : Pl} {r : Rt} (h : Hangs p r) : hangsB p r = true := by rw [hangsB]; exact @decide_eq_true _ (Classical.propDecidable _) h
theorem hangsB_false {p : Pl} {r : Rt} (h : ¬ Hangs p r) : hangsB p r = false := by rw [hangsB]; exact @decide_eq_false _ (Classical.propDecidable _) h
theorem hangsB_iff {p : Pl} {r : Rt} : hangsB p r = true ↔ Hangs p r := by rw [hangsB]; exact @decide_eq_true_iff _ (Classical.propDecidable _)
def insL (p : Pl) (r : Rt) (n : Nat) : List Int := (List.range n).map (inN p r)
def outsL (p : Pl) (r : Rt) (n : Nat) : List Int := (List.range n).map (outA p r)
theorem insL_succ (p : Pl) (r : Rt) (n : Nat) : insL p r (n + 1) = insL p r n ++ [inN p r n] := by rw [insL, List.range_succ, List.map_append]; rfl
theorem outsL_succ (p : Pl) (r : Rt) (n : Nat) : outsL p r (n + 1) = outsL p r n ++ [outA p r n] := by rw [outsL, List.range_succ, List.map_append]; rfl
/-- What is asked at a place. -/
def askN (p : Pl) (r : Rt) (a : Nat) : Option Ak :=
  let s := secN p ((allR r).getD a 0)
  let lie := if 0 ≤ outA p r a then lieS s.2.1 (inN p r a) (outA p r a) else inN p r a
  if s.2.1 = 0 then none else if 0 < lie then some (s.2.1, lie, (a : Int)) else none
def asksL (p : Pl) (r : Rt) (n : Nat) : List Ak := (List.range n).filterMap (askN p r)
theorem asksL_succ (p : Pl) (r : Rt) (n : Nat) : asksL p r (n + 1) = asksL p r n ++ (askN p r n).toList := by
  rw [asksL, List.range_succ, List.filterMap_append]
  congr 1
def flankA (f : Jn) : Ak := (f.1, f.2, -1)
def wayR (p : Pl) (r : Rt) : Wy := ⟨r.path, r.over, asksL p r (allR r).length ++ r.flanks.map flankA, (sigN p r.entry).2.1⟩
def leftN (p : Pl) (r : Rt) (a : Nat) : Option Jn := if 0 ≤ outA p r a then some ((allR r).getD a 0, outA p r a) else none
def leftL (p : Pl) (r : Rt) (n : Nat) : List Jn := (List.range n).filterMap (leftN p r)
theorem leftL_succ (p : Pl) (r : Rt) (n : Nat) : leftL p r (n + 1) = leftL p r n ++ (leftN p r n).toList := by
  rw [leftL, List.range_succ, List.filterMap_append]
  congr 1
/-- The route of that number. -/
def routeN (p : Pl) (id : Int) : Rt := p.routes.getD (at1 kRt p.routes id).toNat zRt
noncomputable def wayE (p : Pl) (id : Int) : Int := if planMay p then (if at1 kRt p.routes id < 0 then 6 else if hangsB p (routeN p id) then 0 else 90) else 8
def zWy : Wy := ⟨[], [], [], 0⟩
noncomputable def wayV (p : Pl) (id : Int) : Wy := if wayE p id = 0 then wayR p (routeN p id) else zWy
noncomputable def leftV (p : Pl) (id : Int) : List Jn := if wayE p id = 0 then leftL p (routeN p id) (allR (routeN p id)).length else []

/-- What is known of a route of a plan that may be. -/
structure RouteIn (p : Pl) (r : Rt) : Prop where
  plan : PlanMay p
  route : RouteMay p r
theorem routeIn_of {p : Pl} (h : PlanMay p) {u : Nat} (hu : u < p.routes.length) {r : Rt} (hr : p.routes[u] = r) : RouteIn p r := by
  subst hr
  exact ⟨h, (h.each u hu).2.2⟩
theorem secN_at {p : Pl} {id : Int} {k : Nat} (hk : k < p.secs.length) (h : atS p.secs id = (k : Int)) : secN p id = p.secs[k] := by rw [secN, h]; simp [List.getD, List.getElem?_eq_getElem hk]
theorem sigN_at {p : Pl} {id : Int} {k : Nat} (hk : k < p.sigs.length) (h : at1 kSg p.sigs id = (k : Int)) : sigN p id = p.sigs[k] := by rw [sigN, h]; simp [List.getD, List.getElem?_eq_getElem hk]
theorem RouteIn.len {p : Pl} {r : Rt} (h : RouteIn p r) : 1 ≤ (allR r).length ∧ (allR r).length ≤ 8 ∧ (allR r).length = r.path.length + r.over.length ∧ r.over.length ≤ 2 := by
  have h1 := h.route.path
  have h2 := h.route.over
  rw [allR, List.length_append]
  omega
/-- The section of a place. -/
theorem RouteIn.sec {p : Pl} {r : Rt} (h : RouteIn p r) {a : Nat} (ha : a < (allR r).length) : ∃ k, ∃ hk : k < p.secs.length, atS p.secs ((allR r).getD a 0) = (k : Int) ∧ secN p ((allR r).getD a 0) = p.secs[k] ∧ p.secs[k].1 = (allR r).getD a 0 := by
  have h0 := (h.route.secs a ha).1
  have e : (allR r).getD a 0 = (r.path ++ r.over)[a] := by
    have ha' : a < (r.path ++ r.over).length := ha
    rw [allR, List.getD, List.getElem?_eq_getElem ha']; rfl
  rcases atS_cases p.secs ((r.path ++ r.over)[a]) with h1 | ⟨k, hk, h1, h2⟩
  · omega
  · exact ⟨k, hk, by rw [e]; exact h1, by rw [e]; exact secN_at hk h1, by rw [e]; exact h2⟩
/-- The entry's signal, and its section. -/
theorem RouteIn.entry {p : Pl} {r : Rt} (h : RouteIn p r) : ∃ k, ∃ hk : k < p.sigs.length, at1 kSg p.sigs r.entry = (k : Int) ∧ sigN p r.entry = p.sigs[k] ∧ ∃ m, ∃ hm : m < p.secs.length, atS p.secs p.sigs[k].2.1 = (m : Int) ∧ secN p p.sigs[k].2.1 = p.secs[m] ∧ 0 ≤ p.sigs[k].2.2 ∧ p.sigs[k].2.2 < p.secs[m].2.2.length := by
  obtain ⟨k, hk, ha, -⟩ := h.route.entry
  obtain ⟨-, -, ⟨m, hm, h1, h2, h3⟩, -⟩ := h.plan.sigs.each k hk
  exact ⟨k, hk, ha, sigN_at hk ha, m, hm, h1, secN_at hm h1, h2, h3⟩
theorem comes_succ {p : Pl} {r : Rt} {a : Nat} {j : Jn} (h : comesN p r a = some j) (h1 : j.1 = (allR r).getD a 0) {e : Nat} (h2 : outN p r a j.2 = (e : Int)) : comesN p r (a + 1) = some ((secN p ((allR r).getD a 0)).2.2.getD e (0, 0)) := by
  rw [comesN, h]
  dsimp only
  rw [if_pos h1, if_neg (by omega), h2]
  simp
theorem in_of {p : Pl} {r : Rt} {a : Nat} {j : Jn} (h : comesN p r a = some j) : inN p r a = j.2 := by rw [inN, h]
theorem hangs_snoc {p : Pl} {r : Rt} {a : Nat} {j : Jn} (h : HangsTo p r a) (hc : comesN p r a = some j) (h1 : j.1 = (allR r).getD a 0) (h2 : lastB r a = false → 0 ≤ outN p r a j.2) : HangsTo p r (a + 1) := fun i hi => by
  rcases Nat.lt_or_ge i a with h3 | h3
  · exact h i h3
  · obtain rfl : i = a := by omega
    exact ⟨j, hc, h1, h2⟩
theorem hangs_not {p : Pl} {r : Rt} {a : Nat} {j : Jn} (ha : a < (allR r).length) (hc : comesN p r a = some j) (h : ¬ (j.1 = (allR r).getD a 0 ∧ (lastB r a = false → 0 ≤ outN p r a j.2))) : ¬ Hangs p r := fun hh => by
  obtain ⟨j2, h1, h2, h3⟩ := hh a ha
  rw [hc] at h1
  injection h1 with h1
  subst h1
  exact h ⟨h2, h3⟩
end Go.Proofs.Ytjgdgdccnbmbiaa

/-
  Ways, as values and slices read them.
  Conditions: none.
-/
set_option linter.unusedVariables false
set_option linter.unusedSimpArgs false
set_option maxRecDepth 100000
namespace Go.Proofs.Ytjgdgdccnbmbiaa
open Go.RowKit

abbrev AsksIn (W : World) (B : Nat) (v : Value) (l : List Ak) : Prop := ListIn 3 SigR W B v l
abbrev AsksOwn (W : World) (lo : Nat) (v : Value) (l : List Ak) : Prop := ListOwn 79 3 SigR W lo v l
structure WyIn (W : World) (B : Nat) (u0 u1 u2 : Value) (x : Wy) : Prop where
  path : IntsIn W B u0 x.path
  over : IntsIn W B u1 x.over
  asks : AsksIn W B u2 x.asks
theorem WyIn.below {W W' : World} {B : Nat} {u0 u1 u2 : Value} {x : Wy} (h : WyIn W B u0 u1 u2 x) (hb : Below B W W') : WyIn W' B u0 u1 u2 x := ⟨h.path.below intR hb, h.over.below intR hb, h.asks.below sigR hb⟩
theorem WyIn.more {W : World} {B B' : Nat} {u0 u1 u2 : Value} {x : Wy} (h : WyIn W B u0 u1 u2 x) (hb : B ≤ B') : WyIn W B' u0 u1 u2 x := ⟨h.path.more intR hb, h.over.more intR hb, h.asks.more sigR hb⟩
def WayV (W : World) (B : Nat) (v : Value) (x : Wy) : Prop := ∃ u0 u1 u2, v = .agg #[u0, u1, u2, .int .i64 x.near] ∧ WyIn W B u0 u1 u2 x
theorem WayV.below {W W' : World} {B : Nat} {v : Value} {x : Wy} (h : WayV W B v x) (hb : Below B W W') : WayV W' B v x := by
  obtain ⟨u0, u1, u2, rfl, hr⟩ := h
  exact ⟨u0, u1, u2, rfl, hr.below hb⟩
theorem WayV.more {W : World} {B B' : Nat} {v : Value} {x : Wy} (h : WayV W B v x) (hb : B ≤ B') : WayV W B' v x := by
  obtain ⟨u0, u1, u2, rfl, hr⟩ := h
  exact ⟨u0, u1, u2, rfl, hr.more hb⟩
structure WyOwn (W : World) (lo : Nat) (u0 u1 u2 : Value) (x : Wy) : Prop where
  path : IntsOwn W lo u0 x.path
  over : IntsOwn W lo u1 x.over
  asks : AsksOwn W lo u2 x.asks
theorem WyOwn.below {W W' : World} {lo : Nat} {u0 u1 u2 : Value} {x : Wy} (h : WyOwn W lo u0 u1 u2 x) (hb : Below W.heap.size W W') : WyOwn W' lo u0 u1 u2 x := ⟨h.path.below intR hb, h.over.below intR hb, h.asks.below sigR hb⟩
theorem WyOwn.mono {W : World} {lo lo' : Nat} {u0 u1 u2 : Value} {x : Wy} (h : WyOwn W lo u0 u1 u2 x) (hl : lo' ≤ lo) : WyOwn W lo' u0 u1 u2 x := ⟨h.path.mono hl, h.over.mono hl, h.asks.mono hl⟩
theorem WyOwn.in_ {W : World} {lo : Nat} {u0 u1 u2 : Value} {x : Wy} (h : WyOwn W lo u0 u1 u2 x) : WyIn W W.heap.size u0 u1 u2 x := ⟨h.path.in_ intR_cells, h.over.in_ intR_cells, h.asks.in_ sigR_cells⟩
theorem WyOwn.kept {W W' : World} {lo g : Nat} {u0 u1 u2 : Value} {x : Wy} (h : WyOwn W lo u0 u1 u2 x) (hg : W.grownBy W' (some g)) (hl : g < lo) : WyOwn W' lo u0 u1 u2 x :=
  ⟨own_kept intF h.path hg (fun k hk => by have := own_lo h.path k hk; omega), own_kept intF h.over hg (fun k hk => by have := own_lo h.over k hk; omega), own_kept sigF h.asks hg (fun k hk => by have := own_lo h.asks k hk; omega)⟩
theorem wy_eq {a b : Wy} : a = b ↔ a.near = b.near ∧ a.path = b.path ∧ a.over = b.over ∧ a.asks = b.asks := by
  constructor
  · rintro rfl; exact ⟨rfl, rfl, rfl, rfl⟩
  · obtain ⟨a0, a1, a2, a3⟩ := a
    obtain ⟨b0, b1, b2, b3⟩ := b
    rintro ⟨h0, h1, h2, h3⟩
    dsimp only at h0 h1 h2 h3
    subst h0 h1 h2 h3
    rfl
theorem infoWay4 : (Try.prog.info? 36).map (·.size) = some 4 := by kernel_rfl
theorem infoAskI : (Try.prog.info? 79).map (fun i => (i.zero, i.size, i.bytes)) = some (some (.agg #[.int .i64 0, .int .i64 0, .int .i64 0]), 3, 24) := by kernel_rfl
theorem cell4_of {w : World} {b : Nat} {v0 v1 v2 v3 : Value} {t : TypeId} {fr : Nat × Nat} (h : w.heap[b]? = some (.cells #[v0, v1, v2, v3] t fr)) : w.cell? ⟨b, 0, none⟩ = some v0 ∧ w.cell? ⟨b, 1, none⟩ = some v1 ∧ w.cell? ⟨b, 2, none⟩ = some v2 ∧ w.cell? ⟨b, 3, none⟩ = some v3 :=
  ⟨cell_of_row _ _ _ _ _ _ h, cell_of_row _ _ _ _ _ _ h, cell_of_row _ _ _ _ _ _ h, cell_of_row _ _ _ _ _ _ h⟩
theorem eqAsk (a b c d e f : Int) (w : World) : (Op.equalIn 10000 79 (.agg #[.int .i64 a, .int .i64 b, .int .i64 c]) (.agg #[.int .i64 d, .int .i64 e, .int .i64 f])).run Try.prog w = .ok ((a == d) && ((b == e) && (c == f))) w := by
  have hagg : (isAgg 3).run Try.prog w = .ok false w := by
    unfold isAgg
    rw [Sem.run_bind, run_underlying Try.underlying3 w]
    simp
  rw [run_equalIn_agg w 9999 79 _ _ (by rw [Program.fieldsOf, Try.underlying79]) (by kernel_rfl)]
  simp only [Program.fieldsOf, Try.underlying79, Op.eqFields]
  have hi : ∀ x y : Int, (Op.equalIn 9999 3 (.int .i64 x) (.int .i64 y)).run Try.prog w = .ok (x == y) w := fun x y => run_equalIn_int w 9998 3 .i64 .i64 x y Try.underlying3
  by_cases h1 : a = d <;> by_cases h2 : b = e <;> by_cases h3 : c = f <;> simp [part, Sem.run_bind, Sem.run_ite, hagg, hi, h1, h2, h3]
theorem eqAsk_ne {x y : Ak} (h : ¬ x = y) (w : World) : (Op.equalIn 10000 79 (.agg #[.int .i64 x.1, .int .i64 x.2.1, .int .i64 x.2.2]) (.agg #[.int .i64 y.1, .int .i64 y.2.1, .int .i64 y.2.2])).run Try.prog w = .ok false w := by
  rw [eqAsk]
  congr 1
  by_cases h1 : x.1 = y.1
  · by_cases h2 : x.2.1 = y.2.1
    · have h3 : ¬ x.2.2 = y.2.2 := fun h3 => h (Prod.ext h1 (Prod.ext h2 h3))
      simp [h3]
    · simp [h2]
  · simp [h1]
theorem eqAsk_eq {x y : Ak} (h : x = y) (w : World) : (Op.equalIn 10000 79 (.agg #[.int .i64 x.1, .int .i64 x.2.1, .int .i64 x.2.2]) (.agg #[.int .i64 y.1, .int .i64 y.2.1, .int .i64 y.2.2])).run Try.prog w = .ok true w := by
  rw [eqAsk, h]; simp

end Go.Proofs.Ytjgdgdccnbmbiaa

/-
  The document's own functions of package way: SameJoins, Same.
  Conditions: none.
-/
set_option linter.unusedVariables false
set_option linter.unusedSimpArgs false
set_option maxRecDepth 100000
namespace Go.Proofs.Ytjgdgdccnbmbiaa
open Go.RowKit

set_option maxHeartbeats 4000000 in
theorem rsamejoins_any (v y : Value) (l m : List Jn) (w : World) (h : JoinsIn w w.heap.size v l) (h' : JoinsIn w w.heap.size y m) :
    Calls Try.prog 18 #[v, y] w fun e w' => e = .returned (.bool (eqB l m)) ∧ Below w.heap.size w w' := by
  have H := Lib.hid h
  have H' := Lib.hid h'
  obtain ⟨A, c, rfl, hcl, hcm⟩ := h.slice
  obtain ⟨A', c', rfl, hcl', hcm'⟩ := h'.slice
  have hml : l.length ≤ 9223372036854775807 := by unfold maxLen at hcm; omega
  obtain ⟨n, hn⟩ : ∃ n, n = l.length := ⟨_, rfl⟩
  obtain ⟨n', hn'⟩ : ∃ n', n' = m.length := ⟨_, rfl⟩
  have HN := Lib.hid hn
  have HN' := Lib.hid hn'
  have HA := Lib.hid (show JoinsIn w w.heap.size (.slice A n c) l by rw [hn]; exact H.out)
  have HA' := Lib.hid (show JoinsIn w w.heap.size (.slice A' n' c') m by rw [hn']; exact H'.out)
  have hml' : n' ≤ 9223372036854775807 := by unfold maxLen at hcm'; omega
  rw [← hn] at hml ⊢
  rw [← hn']
  clear hn hn' H H' hcl hcm hcl' hcm' h h'
  go_enter Try.func18, Try.ntmps18
  by_cases hnn : n = n'
  · subst hnn
    go_wp2_with fail
    go_loopw [5] (fun s5 wr => ∃ i : Nat, i ≤ n ∧ s5 = .int .i64 i ∧ (∀ j (hj : j < i) (hl : j < l.length) (hm : j < m.length), l[j] = m[j]) ∧ Below w.heap.size w wr) (fun s5 _ => n - (intOf s5).toNat)
    case atStart => exact ⟨0, by omega, by go_num, fun j hj => absurd hj (by omega), Below.refl _ _⟩
    case round =>
      obtain ⟨i, hi, rfl, hall, hbw⟩ := hrel
      have HALL := Lib.hid hall
      have BW := Lib.hid hbw
      clear hall hbw
      by_cases hlt : i < n
      · have hlt' : (i : Int) < n := by omega
        have hir : i < l.length := by rw [← HN.out]; exact hlt
        have him : i < m.length := by rw [← HN'.out]; exact hlt
        obtain ⟨b, off, rfl, hb, hc0, hc1⟩ := ((HA.out.below joinR BW.out).more joinR BW.out.size).at hir
        obtain ⟨b', off', rfl, hb', hd0, hd1⟩ := ((HA'.out.below joinR BW.out).more joinR BW.out.size).at him
        obtain ⟨x, hx⟩ : ∃ z, z = l[i] := ⟨_, rfl⟩
        obtain ⟨y, hy⟩ : ∃ z, z = m[i] := ⟨_, rfl⟩
        rw [← hx] at hc0 hc1
        rw [← hy] at hd0 hd1
        have hg0 : wr.cell? ⟨b, off + i * 2, none⟩ = some (.int .i64 x.1) := hc0
        have hh0 : wr.cell? ⟨b', off' + i * 2, none⟩ = some (.int .i64 y.1) := hd0
        have hg1 : wr.cell? ⟨b, off + i * 2 + 1, none⟩ = some (.int .i64 x.2) := hc1
        have hh1 : wr.cell? ⟨b', off' + i * 2 + 1, none⟩ = some (.int .i64 y.2) := hd1
        have HX := Lib.hid hx
        have HY := Lib.hid hy
        clear hc0 hc1 hd0 hd1 hx hy hb hb'
        have BD : Hid (∀ nq, Below w.heap.size w (wr.drewN nq)) := Lib.hid (fun nq => ⟨BW.out.os, BW.out.tape, BW.out.output, BW.out.size, BW.out.block⟩)
        go_upto_region 6 with fail
        by_cases he : x = y
        · have hcmp : ∀ w' : World, (Op.equalIn 10000 41 (.agg #[.int .i64 x.1, .int .i64 x.2]) (.agg #[.int .i64 y.1, .int .i64 y.2])).run Try.prog w' = .ok true w' := eqJoin_eq he
          have NX : Hid (∀ j (hj : j < i + 1) (hl : j < l.length) (hm : j < m.length), l[j] = m[j]) := Lib.hid (fun j hj h1 h2 => by
            rcases Nat.lt_or_ge j i with h | h
            · exact HALL.out j h h1 h2
            · obtain rfl : j = i := by omega
              rw [← HX.out, ← HY.out]; exact he)
          clear he
          go_quiet (fail)
          have hdb := BD.out nq
          generalize wr.drewN nq = q7 at hdb ⊢
          have B7 := Lib.hid hdb
          clear hdb BD hcmp hg0 hh0 hg1 hh1
          go_wp2_with fail
          go_roundw
          case measure => simp [intOf]; omega
          case rel => exact ⟨i + 1, by omega, by go_num, NX.out, B7.out⟩
        · have hcmp : ∀ w' : World, (Op.equalIn 10000 41 (.agg #[.int .i64 x.1, .int .i64 x.2]) (.agg #[.int .i64 y.1, .int .i64 y.2])).run Try.prog w' = .ok false w' := eqJoin_ne he
          have HF : Hid (eqB l m = false) := Lib.hid (eqB_false fun h => he (by rw [HX.out, HY.out]; exact getElem_congr' h))
          clear he
          go_quiet (fail)
          have hdb := BD.out nq
          generalize wr.drewN nq = q7 at hdb ⊢
          have B7 := Lib.hid hdb
          clear hdb BD hcmp hg0 hh0 hg1 hh1
          go_wp2_with fail
          go_ret
          exact ⟨by rw [HF.out]; rfl, B7.out⟩
      · obtain rfl : i = n := by omega
        have hlt' : ¬ (i : Int) < i := by omega
        have HF : Hid (eqB l m = true) := Lib.hid (eqB_true (list_ext (by rw [← HN.out, ← HN'.out]) fun j h1 h2 => HALL.out j (by rw [HN.out]; exact h1) h1 h2))
        go_wp2_with fail
        go_ret
        exact ⟨by rw [HF.out]; rfl, BW.out⟩
  · have hnn' : ((n : Int) != n') = true := by simpa using (show ¬ (n : Int) = n' by omega)
    have HF : Hid (eqB l m = false) := Lib.hid (eqB_false fun h => hnn (by rw [HN.out, HN'.out, h]))
    clear hnn
    go_wp2_with fail
    go_ret
    exact ⟨by rw [HF.out]; rfl, Below.refl _ _⟩
set_option maxHeartbeats 8000000 in
theorem rsame9_any (v z : Value) (x y : Wy) (w : World) (h : WayV w w.heap.size v x) (h' : WayV w w.heap.size z y) :
    Calls Try.prog 17 #[v, z] w fun e w' => e = .returned (.bool (eqB x y)) ∧ Below w.heap.size w w' := by
  obtain ⟨a0, a1, a2, rfl, hi⟩ := h
  have HA0 := Lib.hid hi
  obtain ⟨A0, c0, rfl, hcA0, hbA0⟩ := hi.path.slice
  obtain ⟨A1, c1, rfl, hcA1, hbA1⟩ := hi.over.slice
  obtain ⟨A2, c2, rfl, hcA2, hbA2⟩ := hi.asks.slice
  obtain ⟨n0, hn0⟩ : ∃ n, n = x.path.length := ⟨_, rfl⟩
  obtain ⟨n1, hn1⟩ : ∃ n, n = x.over.length := ⟨_, rfl⟩
  obtain ⟨n2, hn2⟩ : ∃ n, n = x.asks.length := ⟨_, rfl⟩
  have HA : Hid (WyIn w w.heap.size (.slice A0 n0 c0) (.slice A1 n1 c1) (.slice A2 n2 c2) x) := Lib.hid (by rw [hn0, hn1, hn2]; exact HA0.out)
  have NA : Hid (n2 = x.asks.length) := Lib.hid hn2
  have hlA : n2 ≤ 9223372036854775807 := by unfold maxLen at hbA2; omega
  rw [← hn0, ← hn1, ← hn2]
  clear hn0 hn1 hn2 HA0 hi hbA0 hbA1 hbA2 hcA0 hcA1 hcA2
  obtain ⟨b0, b1, b2, rfl, h2i⟩ := h'
  have HB0 := Lib.hid h2i
  obtain ⟨B0, d0, rfl, hcB0, hbB0⟩ := h2i.path.slice
  obtain ⟨B1, d1, rfl, hcB1, hbB1⟩ := h2i.over.slice
  obtain ⟨B2, d2, rfl, hcB2, hbB2⟩ := h2i.asks.slice
  obtain ⟨m0, hm0⟩ : ∃ n, n = y.path.length := ⟨_, rfl⟩
  obtain ⟨m1, hm1⟩ : ∃ n, n = y.over.length := ⟨_, rfl⟩
  obtain ⟨m2, hm2⟩ : ∃ n, n = y.asks.length := ⟨_, rfl⟩
  have HB : Hid (WyIn w w.heap.size (.slice B0 m0 d0) (.slice B1 m1 d1) (.slice B2 m2 d2) y) := Lib.hid (by rw [hm0, hm1, hm2]; exact HB0.out)
  have NB : Hid (m2 = y.asks.length) := Lib.hid hm2
  have hlB : m2 ≤ 9223372036854775807 := by unfold maxLen at hbB2; omega
  rw [← hm0, ← hm1, ← hm2]
  clear hm0 hm1 hm2 HB0 h2i hbB0 hbB1 hbB2 hcB0 hcB1 hcB2
  have hq := two_boxes w (.cells #[.slice A0 n0 c0, .slice A1 n1 c1, .slice A2 n2 c2, .int .i64 x.near] 36) (.cells #[.slice B0 m0 d0, .slice B1 m1 d1, .slice B2 m2 d2, .int .i64 y.near] 36)
  go_enter Try.func17, Try.ntmps17
  go_upto_region 1 with fail
  generalize (w.alloc (.cells #[.slice A0 n0 c0, .slice A1 n1 c1, .slice A2 n2 c2, .int .i64 x.near] 36)).alloc (.cells #[.slice B0 m0 d0, .slice B1 m1 d1, .slice B2 m2 d2, .int .i64 y.near] 36) = q at hq ⊢
  obtain ⟨q0, q1, qb⟩ := hq
  have XA := Lib.hid q0
  have XB := Lib.hid q1
  have BQ := Lib.hid qb
  clear q0 q1 qb
  have HR := Lib.hid ((HA.out.below BQ.out).more BQ.out.size)
  have HS := Lib.hid ((HB.out.below BQ.out).more BQ.out.size)
  clear HA HB
  obtain ⟨k0, k1, k2, k3⟩ := cell4_of XA.out
  obtain ⟨j0, j1, j2, j3⟩ := cell4_of XB.out
  by_cases h0 : x.near = y.near
  rotate_left
  · have d : (x.near != y.near) = true := by simpa using h0
    have HF : Hid (eqB x y = false) := Lib.hid (eqB_false (fun h => h0 (wy_eq.1 h).1))
    clear h0
    go_wp2_with fail
    go_ret
    exact ⟨by rw [HF.out]; rfl, BQ.out⟩
  have d0 : (x.near != y.near) = false := by simpa using h0
  have E0 := Lib.hid h0
  clear h0
  go_wp2_with fail
  refine (rints_any _ _ x.path y.path _ HR.out.path HS.out.path).mono ?_
  rintro e w1 ⟨rfl, b1⟩
  clear k0 k1 k2 k3 j0 j1 j2 j3
  have tBQ := BQ.out.trans (b1.mono BQ.out.size)
  have tXA := (b1.block _ (heap_lt XA.out)).trans XA.out
  have tXB := (b1.block _ (heap_lt XB.out)).trans XB.out
  have tHR := (HR.out.below b1).more b1.size
  have tHS := (HS.out.below b1).more b1.size
  clear BQ XA XB HR HS b1
  have BQ := Lib.hid tBQ
  have XA := Lib.hid tXA
  have XB := Lib.hid tXB
  have HR := Lib.hid tHR
  have HS := Lib.hid tHS
  clear tBQ tXA tXB tHR tHS
  cases hc : decide (x.path = y.path) with
  | false =>
    have HF : Hid (eqB x y = false) := Lib.hid (eqB_false (fun h => by rw [decide_eq_true (wy_eq.1 h).2.1] at hc; cases hc))
    clear hc
    obtain ⟨k0, k1, k2, k3⟩ := cell4_of XA.out
    obtain ⟨j0, j1, j2, j3⟩ := cell4_of XB.out
    go_wp2_with fail
    go_ret
    exact ⟨by rw [HF.out]; rfl, BQ.out⟩
  | true =>
  have E1 := Lib.hid (of_decide_eq_true hc)
  clear hc
  obtain ⟨k0, k1, k2, k3⟩ := cell4_of XA.out
  obtain ⟨j0, j1, j2, j3⟩ := cell4_of XB.out
  go_wp2_with fail
  refine (rints_any _ _ x.over y.over _ HR.out.over HS.out.over).mono ?_
  rintro e w2 ⟨rfl, b1⟩
  clear k0 k1 k2 k3 j0 j1 j2 j3
  have tBQ := BQ.out.trans (b1.mono BQ.out.size)
  have tXA := (b1.block _ (heap_lt XA.out)).trans XA.out
  have tXB := (b1.block _ (heap_lt XB.out)).trans XB.out
  have tHR := (HR.out.below b1).more b1.size
  have tHS := (HS.out.below b1).more b1.size
  clear BQ XA XB HR HS b1
  have BQ := Lib.hid tBQ
  have XA := Lib.hid tXA
  have XB := Lib.hid tXB
  have HR := Lib.hid tHR
  have HS := Lib.hid tHS
  clear tBQ tXA tXB tHR tHS
  cases hc : decide (x.over = y.over) with
  | false =>
    have HF : Hid (eqB x y = false) := Lib.hid (eqB_false (fun h => by rw [decide_eq_true (wy_eq.1 h).2.2.1] at hc; cases hc))
    clear hc
    obtain ⟨k0, k1, k2, k3⟩ := cell4_of XA.out
    obtain ⟨j0, j1, j2, j3⟩ := cell4_of XB.out
    go_wp2_with fail
    go_ret
    exact ⟨by rw [HF.out]; rfl, BQ.out⟩
  | true =>
  have E2 := Lib.hid (of_decide_eq_true hc)
  clear hc
  obtain ⟨k0, k1, k2, k3⟩ := cell4_of XA.out
  obtain ⟨j0, j1, j2, j3⟩ := cell4_of XB.out
  by_cases hl : n2 = m2
  rotate_left
  · have d : ((n2 : Int) != m2) = true := by simpa using (show ¬ (n2 : Int) = m2 by omega)
    have HF : Hid (eqB x y = false) := Lib.hid (eqB_false (fun h => hl (by rw [NA.out, NB.out, h])))
    clear hl
    go_wp2_with fail
    go_ret
    exact ⟨by rw [HF.out]; rfl, BQ.out⟩
  subst hl
  go_wp2_with fail
  clear k0 k1 k2 k3 j0 j1 j2 j3
  go_loopw [5] (fun s5 wr => ∃ i : Nat, i ≤ n2 ∧ s5 = .int .i64 i ∧ (∀ j (hj : j < i) (hl : j < x.asks.length) (hm : j < y.asks.length), x.asks[j] = y.asks[j]) ∧ Below w2.heap.size w2 wr) (fun s5 _ => n2 - (intOf s5).toNat)
  case atStart => exact ⟨0, by omega, by go_num, fun j hj => absurd hj (by omega), Below.refl _ _⟩
  case round =>
    obtain ⟨i, hi, rfl, hall, hb⟩ := hrel
    have HALL := Lib.hid hall
    have BW := Lib.hid hb
    have YA := Lib.hid ((hb.block _ (heap_lt XA.out)).trans XA.out)
    have YB := Lib.hid ((hb.block _ (heap_lt XB.out)).trans XB.out)
    have RW := Lib.hid ((HR.out.below hb).more hb.size)
    have SW := Lib.hid ((HS.out.below hb).more hb.size)
    have BT := Lib.hid (BQ.out.trans (hb.mono BQ.out.size))
    clear hall hb
    obtain ⟨k0, k1, k2, k3⟩ := cell4_of YA.out
    obtain ⟨j0, j1, j2, j3⟩ := cell4_of YB.out
    by_cases hlt : i < n2
    · have hlt' : (i : Int) < n2 := by omega
      have hir : i < x.asks.length := by rw [← NA.out]; exact hlt
      have him : i < y.asks.length := by rw [← NB.out]; exact hlt
      obtain ⟨b, off, rfl, hb, hc0, hc1, hc2⟩ := RW.out.asks.at hir
      obtain ⟨b', off', rfl, hb', hd0, hd1, hd2⟩ := SW.out.asks.at him
      obtain ⟨s, hs⟩ : ∃ z, z = x.asks[i] := ⟨_, rfl⟩
      obtain ⟨t, ht⟩ : ∃ z, z = y.asks[i] := ⟨_, rfl⟩
      rw [← hs] at hc0 hc1 hc2
      rw [← ht] at hd0 hd1 hd2
      have hg0 : wr.cell? ⟨b, off + i * 3, none⟩ = some (.int .i64 s.1) := hc0
      have hh0 : wr.cell? ⟨b', off' + i * 3, none⟩ = some (.int .i64 t.1) := hd0
      have hg1 : wr.cell? ⟨b, off + i * 3 + 1, none⟩ = some (.int .i64 s.2.1) := hc1
      have hh1 : wr.cell? ⟨b', off' + i * 3 + 1, none⟩ = some (.int .i64 t.2.1) := hd1
      have hg2 : wr.cell? ⟨b, off + i * 3 + 2, none⟩ = some (.int .i64 s.2.2) := hc2
      have hh2 : wr.cell? ⟨b', off' + i * 3 + 2, none⟩ = some (.int .i64 t.2.2) := hd2
      have HSX := Lib.hid hs
      have HTX := Lib.hid ht
      have BD : Hid (∀ nq, Below w2.heap.size w2 (wr.drewN nq) ∧ Below w.heap.size w (wr.drewN nq)) := Lib.hid (fun nq => ⟨⟨BW.out.os, BW.out.tape, BW.out.output, BW.out.size, BW.out.block⟩, ⟨BT.out.os, BT.out.tape, BT.out.output, BT.out.size, BT.out.block⟩⟩)
      clear hc0 hc1 hc2 hd0 hd1 hd2 hs ht hb hb'
      go_upto_region 6 with fail
      by_cases he : s = t
      · have hcmp : ∀ w' : World, (Op.equalIn 10000 79 (.agg #[.int .i64 s.1, .int .i64 s.2.1, .int .i64 s.2.2]) (.agg #[.int .i64 t.1, .int .i64 t.2.1, .int .i64 t.2.2])).run Try.prog w' = .ok true w' := eqAsk_eq he
        have NX : Hid (∀ j (hj : j < i + 1) (hl : j < x.asks.length) (hm : j < y.asks.length), x.asks[j] = y.asks[j]) := Lib.hid (fun j hj h1 h2 => by
          rcases Nat.lt_or_ge j i with h | h
          · exact HALL.out j h h1 h2
          · obtain rfl : j = i := by omega
            rw [← HSX.out, ← HTX.out]; exact he)
        clear he
        go_quiet (fail)
        have hdb := BD.out nq
        generalize wr.drewN nq = q7 at hdb ⊢
        have B7 := Lib.hid hdb.1
        clear hdb BD hcmp hg0 hg1 hg2 hh0 hh1 hh2 k0 k1 k2 k3 j0 j1 j2 j3
        go_wp2_with fail
        go_roundw
        case measure => simp [intOf]; omega
        case rel => exact ⟨i + 1, by omega, by go_num, NX.out, B7.out⟩
      · have hcmp : ∀ w' : World, (Op.equalIn 10000 79 (.agg #[.int .i64 s.1, .int .i64 s.2.1, .int .i64 s.2.2]) (.agg #[.int .i64 t.1, .int .i64 t.2.1, .int .i64 t.2.2])).run Try.prog w' = .ok false w' := eqAsk_ne he
        have HF : Hid (eqB x y = false) := Lib.hid (eqB_false fun h => he (by rw [HSX.out, HTX.out]; exact getElem_congr' (wy_eq.1 h).2.2.2))
        clear he
        go_quiet (fail)
        have hdb := BD.out nq
        generalize wr.drewN nq = q7 at hdb ⊢
        have B7 := Lib.hid hdb.2
        clear hdb BD hcmp hg0 hg1 hg2 hh0 hh1 hh2 k0 k1 k2 k3 j0 j1 j2 j3
        go_wp2_with fail
        go_ret
        exact ⟨by rw [HF.out]; rfl, B7.out⟩
    · obtain rfl : n2 = i := by omega
      have hlt' : ¬ (n2 : Int) < n2 := by omega
      have HF : Hid (eqB x y = true) := Lib.hid (eqB_true (wy_eq.2 ⟨E0.out, E1.out, E2.out, list_ext (by rw [← NA.out, ← NB.out]) fun j h1 h2 => HALL.out j (by rw [NA.out]; exact h1) h1 h2⟩))
      go_wp2_with fail
      go_ret
      exact ⟨by rw [HF.out]; rfl, BT.out⟩
end Go.Proofs.Ytjgdgdccnbmbiaa
