/-
  Plans, as values and slices read them; an argument that is a plan.
  Conditions: none.
-/
import Derived.Test.YthlolpflgninjaaTrackMem
set_option linter.unusedVariables false
set_option linter.unusedSimpArgs false
set_option maxRecDepth 100000
namespace Go.Proofs.Ythlolpflgninjaa
open Go.ChangeShapes Go.WideShapes Go.ChangeAt Go.RowKit Go.Joins Go.Deep

/-- A signal: its number, its section, its end. -/
abbrev Sg := Int × Int × Int
structure Rt where
  id : Int
  entry : Int
  exit : Int
  path : List Int
  over : List Int
  flanks : List Jn
  timer : Int
structure Pl where
  ver : Int
  par : Int
  secs : List Sec
  pts : List Jn
  sigs : List Sg
  routes : List Rt
def IntR : El Int := fun W B c x => c 0 = some (.int .i64 x)
theorem intR : Elem IntR := ⟨fun h _ => h, fun h _ => h⟩
theorem intR_cells {W : World} {B : Nat} (c c' : Nat → Option Value) (x : Int) (h : ∀ k, k < 1 → c k = c' k) (hx : IntR W B c x) : IntR W B c' x := (h 0 (by omega)).symm.trans hx
def SigR : El Sg := fun W B c x => c 0 = some (.int .i64 x.1) ∧ c 1 = some (.int .i64 x.2.1) ∧ c 2 = some (.int .i64 x.2.2)
theorem sigR : Elem SigR := ⟨fun h _ => h, fun h _ => h⟩
theorem sigR_cells {W : World} {B : Nat} (c c' : Nat → Option Value) (x : Sg) (h : ∀ k, k < 3 → c k = c' k) (hx : SigR W B c x) : SigR W B c' x :=
  ⟨(h 0 (by omega)).symm.trans hx.1, (h 1 (by omega)).symm.trans hx.2.1, (h 2 (by omega)).symm.trans hx.2.2⟩
abbrev IntsIn (W : World) (B : Nat) (v : Value) (l : List Int) : Prop := ListIn 1 IntR W B v l
abbrev SigsIn (W : World) (B : Nat) (v : Value) (l : List Sg) : Prop := ListIn 3 SigR W B v l
/-- A route's three lists. -/
structure RtIn (W : World) (B : Nat) (u3 u4 u5 : Value) (r : Rt) : Prop where
  path : IntsIn W B u3 r.path
  over : IntsIn W B u4 r.over
  flanks : JoinsIn W B u5 r.flanks
theorem RtIn.below {W W' : World} {B : Nat} {u3 u4 u5 : Value} {r : Rt} (h : RtIn W B u3 u4 u5 r) (hb : Below B W W') : RtIn W' B u3 u4 u5 r := ⟨h.path.below intR hb, h.over.below intR hb, h.flanks.below joinR hb⟩
theorem RtIn.more {W : World} {B B' : Nat} {u3 u4 u5 : Value} {r : Rt} (h : RtIn W B u3 u4 u5 r) (hb : B ≤ B') : RtIn W B' u3 u4 u5 r := ⟨h.path.more intR hb, h.over.more intR hb, h.flanks.more joinR hb⟩
def RouteR : El Rt := fun W B c r => c 0 = some (.int .i64 r.id) ∧ c 1 = some (.int .i64 r.entry) ∧ c 2 = some (.int .i64 r.exit) ∧ c 6 = some (.int .i64 r.timer) ∧ ∃ u3 u4 u5, c 3 = some u3 ∧ c 4 = some u4 ∧ c 5 = some u5 ∧ RtIn W B u3 u4 u5 r
theorem routeR : Elem RouteR := ⟨fun ⟨h0, h1, h2, h6, u3, u4, u5, h3, h4, h5, h⟩ hb => ⟨h0, h1, h2, h6, u3, u4, u5, h3, h4, h5, h.below hb⟩, fun ⟨h0, h1, h2, h6, u3, u4, u5, h3, h4, h5, h⟩ hb => ⟨h0, h1, h2, h6, u3, u4, u5, h3, h4, h5, h.more hb⟩⟩
theorem routeR_cells {W : World} {B : Nat} (c c' : Nat → Option Value) (x : Rt) (h : ∀ k, k < 7 → c k = c' k) (hx : RouteR W B c x) : RouteR W B c' x := by
  obtain ⟨h0, h1, h2, h6, u3, u4, u5, h3, h4, h5, hr⟩ := hx
  exact ⟨(h 0 (by omega)).symm.trans h0, (h 1 (by omega)).symm.trans h1, (h 2 (by omega)).symm.trans h2, (h 6 (by omega)).symm.trans h6, u3, u4, u5, (h 3 (by omega)).symm.trans h3, (h 4 (by omega)).symm.trans h4, (h 5 (by omega)).symm.trans h5, hr⟩
abbrev RoutesIn (W : World) (B : Nat) (v : Value) (l : List Rt) : Prop := ListIn 7 RouteR W B v l
/-- A route by value. -/
def RouteV (W : World) (B : Nat) (v : Value) (r : Rt) : Prop := ∃ u3 u4 u5, v = .agg #[.int .i64 r.id, .int .i64 r.entry, .int .i64 r.exit, u3, u4, u5, .int .i64 r.timer] ∧ RtIn W B u3 u4 u5 r
theorem RouteV.below {W W' : World} {B : Nat} {v : Value} {r : Rt} (h : RouteV W B v r) (hb : Below B W W') : RouteV W' B v r := by
  obtain ⟨u3, u4, u5, rfl, hr⟩ := h
  exact ⟨u3, u4, u5, rfl, hr.below hb⟩
theorem RouteV.more {W : World} {B B' : Nat} {v : Value} {r : Rt} (h : RouteV W B v r) (hb : B ≤ B') : RouteV W B' v r := by
  obtain ⟨u3, u4, u5, rfl, hr⟩ := h
  exact ⟨u3, u4, u5, rfl, hr.more hb⟩
/-- A plan's four lists. -/
structure PlIn (W : World) (B : Nat) (u2 u3 u4 u5 : Value) (p : Pl) : Prop where
  secs : SectsIn W B u2 p.secs
  pts : JoinsIn W B u3 p.pts
  sigs : SigsIn W B u4 p.sigs
  routes : RoutesIn W B u5 p.routes
theorem PlIn.below {W W' : World} {B : Nat} {u2 u3 u4 u5 : Value} {p : Pl} (h : PlIn W B u2 u3 u4 u5 p) (hb : Below B W W') : PlIn W' B u2 u3 u4 u5 p := ⟨h.secs.below secR_ hb, h.pts.below joinR hb, h.sigs.below sigR hb, h.routes.below routeR hb⟩
theorem PlIn.more {W : World} {B B' : Nat} {u2 u3 u4 u5 : Value} {p : Pl} (h : PlIn W B u2 u3 u4 u5 p) (hb : B ≤ B') : PlIn W B' u2 u3 u4 u5 p := ⟨h.secs.more secR_ hb, h.pts.more joinR hb, h.sigs.more sigR hb, h.routes.more routeR hb⟩
def PlanV (W : World) (B : Nat) (v : Value) (p : Pl) : Prop := ∃ u2 u3 u4 u5, v = .agg #[.int .i64 p.ver, .int .i64 p.par, u2, u3, u4, u5] ∧ PlIn W B u2 u3 u4 u5 p
theorem PlanV.below {W W' : World} {B : Nat} {v : Value} {p : Pl} (h : PlanV W B v p) (hb : Below B W W') : PlanV W' B v p := by
  obtain ⟨u2, u3, u4, u5, rfl, hr⟩ := h
  exact ⟨u2, u3, u4, u5, rfl, hr.below hb⟩
theorem PlanV.more {W : World} {B B' : Nat} {v : Value} {p : Pl} (h : PlanV W B v p) (hb : B ≤ B') : PlanV W B' v p := by
  obtain ⟨u2, u3, u4, u5, rfl, hr⟩ := h
  exact ⟨u2, u3, u4, u5, rfl, hr.more hb⟩

section
variable {H : Type} {enc : TypeId × Value → H} {W : World} {base : Nat} {v : Value} {d : DataW H} {p : List MemPlace}
/-- Each field of a struct whose fields are one cell each. -/
theorem fields_of {t : TypeId} {fs : Array Field} {fuel : Nat} {cs : List Value} {x : DataW H × List MemPlace} (ht : Try.prog.underlying t = some (.struct fs)) (hone : oneCellFields Try.prog fs = true)
    (h : DataW.trod enc Try.prog W 0 (fun _ => true) true fuel t cs = some x) (hl : cs.length = fs.size) :
    ∃ n, ∀ (i : Nat) (f : Field), fs[i]? = some f → ∃ v y, cs[i]? = some v ∧ DataW.trod enc Try.prog W 0 (fun _ => true) true n f.type [v] = some y := by
  obtain ⟨xs, n, _, _, _, hxl, hf⟩ := DataW.trod_struct ht h
  refine ⟨n, fun i f hi => ?_⟩
  have hlt : i < fs.size := (Array.getElem?_eq_some_iff.1 hi).1
  obtain ⟨o, k⟩ := hone_of hone i f hi
  have h1 := hf i f hi
  rw [o, k, List.getElem?_eq_getElem (by omega : i < xs.length)] at h1
  refine ⟨cs[i]'(by omega), xs[i]'(by omega), List.getElem?_eq_getElem (by omega), ?_⟩
  rw [← h1]
  congr 1
  rw [List.drop_eq_getElem_cons (by omega : i < cs.length)]
  rfl
theorem int_field {n : Nat} {v : Value} {y : DataW H × List MemPlace} (h : DataW.trod enc Try.prog W 0 (fun _ => true) true n 3 [v] = some y) : ∃ z : Int, v = .int .i64 z := by
  obtain ⟨z, e, _, _⟩ := DataW.trod_int Try.underlying3 h
  cases e
  exact ⟨z, rfl⟩
theorem ints_of_trod {n : Nat} {y : DataW H × List MemPlace} (h : DataW.trod enc Try.prog W 0 (fun _ => true) true n 32 [v] = some y) : ∃ l, IntsIn W W.heap.size v l :=
  list_of_trod (sz := 1) (R := IntR) Try.underlying32 (by kernel_rfl) (by omega) (fun n cs y ht hcl => by
    match cs, hcl with
    | [c0], _ =>
      obtain ⟨z, rfl⟩ := int_field ht
      exact ⟨z, rfl⟩) 0 (fun c c' x h hx => intR_cells c c' x h hx) h
theorem flanks_of_trod {n : Nat} {y : DataW H × List MemPlace} (h : DataW.trod enc Try.prog W 0 (fun _ => true) true n 33 [v] = some y) : ∃ l, JoinsIn W W.heap.size v l :=
  list_of_trod (sz := 2) (R := JoinR) Try.underlying33 (by kernel_rfl) (by omega) (fun n cs y ht hcl => by
    obtain ⟨k, hf⟩ := fields_of Try.underlying86 (by kernel_rfl) ht hcl
    obtain ⟨v0, y0, e0, h0⟩ := hf 0 _ rfl
    obtain ⟨v1, y1, e1, h1⟩ := hf 1 _ rfl
    obtain ⟨z0, rfl⟩ := int_field h0
    obtain ⟨z1, rfl⟩ := int_field h1
    exact ⟨(z0, z1), e0, e1⟩) (0, 0) (fun c c' x h hx => joinR_cells c c' x h hx) h
theorem points_of_trod {n : Nat} {y : DataW H × List MemPlace} (h : DataW.trod enc Try.prog W 0 (fun _ => true) true n 26 [v] = some y) : ∃ l, JoinsIn W W.heap.size v l :=
  list_of_trod (sz := 2) (R := JoinR) Try.underlying26 (by kernel_rfl) (by omega) (fun n cs y ht hcl => by
    obtain ⟨k, hf⟩ := fields_of Try.underlying43 (by kernel_rfl) ht hcl
    obtain ⟨v0, y0, e0, h0⟩ := hf 0 _ rfl
    obtain ⟨v1, y1, e1, h1⟩ := hf 1 _ rfl
    obtain ⟨z0, rfl⟩ := int_field h0
    obtain ⟨z1, rfl⟩ := int_field h1
    exact ⟨(z0, z1), e0, e1⟩) (0, 0) (fun c c' x h hx => joinR_cells c c' x h hx) h
theorem signals_of_trod {n : Nat} {y : DataW H × List MemPlace} (h : DataW.trod enc Try.prog W 0 (fun _ => true) true n 27 [v] = some y) : ∃ l, SigsIn W W.heap.size v l :=
  list_of_trod (sz := 3) (R := SigR) Try.underlying27 (by kernel_rfl) (by omega) (fun n cs y ht hcl => by
    obtain ⟨k, hf⟩ := fields_of Try.underlying49 (by kernel_rfl) ht hcl
    obtain ⟨v0, y0, e0, h0⟩ := hf 0 _ rfl
    obtain ⟨v1, y1, e1, h1⟩ := hf 1 _ rfl
    obtain ⟨v2, y2, e2, h2⟩ := hf 2 _ rfl
    obtain ⟨z0, rfl⟩ := int_field h0
    obtain ⟨z1, rfl⟩ := int_field h1
    obtain ⟨z2, rfl⟩ := int_field h2
    exact ⟨(z0, z1, z2), e0, e1, e2⟩) (0, 0, 0) (fun c c' x h hx => sigR_cells c c' x h hx) h
theorem routes_of_trod {n : Nat} {y : DataW H × List MemPlace} (h : DataW.trod enc Try.prog W 0 (fun _ => true) true n 28 [v] = some y) : ∃ l, RoutesIn W W.heap.size v l :=
  list_of_trod (sz := 7) (R := RouteR) Try.underlying28 (by kernel_rfl) (by omega) (fun n cs y ht hcl => by
    obtain ⟨k, hf⟩ := fields_of Try.underlying35 (by kernel_rfl) ht hcl
    obtain ⟨v0, y0, e0, h0⟩ := hf 0 _ rfl
    obtain ⟨v1, y1, e1, h1⟩ := hf 1 _ rfl
    obtain ⟨v2, y2, e2, h2⟩ := hf 2 _ rfl
    obtain ⟨v3, y3, e3, h3⟩ := hf 3 _ rfl
    obtain ⟨v4, y4, e4, h4⟩ := hf 4 _ rfl
    obtain ⟨v5, y5, e5, h5⟩ := hf 5 _ rfl
    obtain ⟨v6, y6, e6, h6⟩ := hf 6 _ rfl
    obtain ⟨z0, rfl⟩ := int_field h0
    obtain ⟨z1, rfl⟩ := int_field h1
    obtain ⟨z2, rfl⟩ := int_field h2
    obtain ⟨z6, rfl⟩ := int_field h6
    obtain ⟨l3, g3⟩ := ints_of_trod h3
    obtain ⟨l4, g4⟩ := ints_of_trod h4
    obtain ⟨l5, g5⟩ := flanks_of_trod h5
    exact ⟨⟨z0, z1, z2, l3, l4, l5, z6⟩, e0, e1, e2, e6, v3, v4, v5, e3, e4, e5, ⟨g3, g4, g5⟩⟩) ⟨0, 0, 0, [], [], [], 0⟩ (fun c c' x h hx => routeR_cells c c' x h hx) h
theorem array6 {α : Type} {cs : Array α} (h : cs.size = 6) : ∃ c0 c1 c2 c3 c4 c5, cs = #[c0, c1, c2, c3, c4, c5] := by
  obtain ⟨l⟩ := cs
  match l, h with
  | [c0, c1, c2, c3, c4, c5], _ => exact ⟨c0, c1, c2, c3, c4, c5, rfl⟩
theorem plan_of_arg (hval : Value.okWide Try.prog W .any base 30 v) (h : DataW.Trod enc Try.prog W 0 (fun _ => true) true 30 v d p) : ∃ x, PlanV W W.heap.size v x := by
  obtain ⟨cs, rfl, hsz⟩ := okWide_struct Try.underlying30 hval
  have hsz6 : cs.size = 6 := hsz.trans (by kernel_rfl)
  obtain ⟨c0, c1, c2, c3, c4, c5, rfl⟩ := array6 hsz6
  obtain ⟨fuel, hf0⟩ := h
  obtain ⟨n, hf⟩ := fields_of Try.underlying30 (by kernel_rfl) hf0 rfl
  obtain ⟨v0, y0, e0, h0⟩ := hf 0 _ rfl
  obtain ⟨v1, y1, e1, h1⟩ := hf 1 _ rfl
  obtain ⟨v2, y2, e2, h2⟩ := hf 2 _ rfl
  obtain ⟨v3, y3, e3, h3⟩ := hf 3 _ rfl
  obtain ⟨v4, y4, e4, h4⟩ := hf 4 _ rfl
  obtain ⟨v5, y5, e5, h5⟩ := hf 5 _ rfl
  cases e0; cases e1; cases e2; cases e3; cases e4; cases e5
  obtain ⟨z0, rfl⟩ := int_field h0
  obtain ⟨z1, rfl⟩ := int_field h1
  obtain ⟨l2, g2⟩ := sects_of_trod h2
  obtain ⟨l3, g3⟩ := points_of_trod h3
  obtain ⟨l4, g4⟩ := signals_of_trod h4
  obtain ⟨l5, g5⟩ := routes_of_trod h5
  exact ⟨⟨z0, z1, l2, l3, l4, l5⟩, _, _, _, _, rfl, ⟨g2, g3, g4, g5⟩⟩
end
end Go.Proofs.Ythlolpflgninjaa
