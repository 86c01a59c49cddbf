/-
  Lists, routes and plans of the call's own.
  Conditions: none.
-/
import Derived.Test.YthlolpflgninjaaPlnRefB
import Derived.Test.YthlolpflgninjaaHeldEnd
import Derived.Test.YthlolpflgninjaaTrkOwn
set_option linter.unusedVariables false
set_option linter.unusedSimpArgs false
set_option maxRecDepth 100000
namespace Go.Proofs.Ythlolpflgninjaa
open Go.RowKit

/-- Elements that hold no memory. -/
def FlatR {α : Type} (R : El α) : Prop := ∀ {W W' : World} {B B' : Nat} {c : Nat → Option Value} {x : α}, R W B c x → R W' B' c x
theorem intF : FlatR IntR := fun h => h
theorem joinF : FlatR JoinR := fun h => h
theorem sigF : FlatR SigR := fun h => h
section
variable {α : Type} {T : TypeId} {sz : Nat} {R : El α} {W W' : World} {lo : Nat} {v : Value} {l : List α}
theorem own_belowB (hf : FlatR R) {B : Nat} (h : ListOwn T sz R W lo v l) (hk : ∀ k, v.ownBlock = some k → k < B) (hb : Below B W W') : ListOwn T sz R W' lo v l := by
  obtain ⟨yss, ho, hl, hm, hs, ht⟩ := h
  exact ⟨yss, owns_belowB ho hk hb, hl, hm, hs, fun j ys x h1 h2 => hf (ht j ys x h1 h2)⟩
theorem own_kept (hf : FlatR R) {g : Nat} (h : ListOwn T sz R W lo v l) (hg : W.grownBy W' (some g)) (hc : ∀ k, v.ownBlock = some k → k ≠ g) : ListOwn T sz R W' lo v l := by
  obtain ⟨yss, ho, hl, hm, hs, ht⟩ := h
  refine ⟨yss, ho.kept hg ?_, hl, hm, hs, fun j ys x h1 h2 => hf (ht j ys x h1 h2)⟩
  cases hv : v.ownBlock with
  | none => exact .inl rfl
  | some k => refine .inr (fun e => ?_); injection e with e; exact hc k hv e
theorem own_grown (hf : FlatR R) {r : Option Nat} (h : ListOwn T sz R W lo v l) (hg : W.grownBy W' r) (hc : ∀ k, v.ownBlock = some k → r ≠ some k) : ListOwn T sz R W' lo v l := by
  obtain ⟨yss, ho, hl, hm, hs, ht⟩ := h
  refine ⟨yss, ho.kept hg ?_, hl, hm, hs, fun j ys x h1 h2 => hf (ht j ys x h1 h2)⟩
  cases hv : v.ownBlock with
  | none => exact .inl rfl
  | some k => exact .inr (fun e => hc k hv e.symm)
theorem own_block (h : ListOwn T sz R W lo v l) {k : Nat} (hk : v.ownBlock = some k) : ∃ cur, W.heap[k]? = some (.cells cur T (0, 0)) ∧ lo ≤ k := by
  obtain ⟨yss, ho, _⟩ := h
  exact owns_block ho hk
theorem own_lt (h : ListOwn T sz R W lo v l) : ∀ k, v.ownBlock = some k → k < W.heap.size := fun k hk => by
  obtain ⟨cur, h1, _⟩ := own_block h hk
  exact heap_lt h1
theorem own_lo (h : ListOwn T sz R W lo v l) : ∀ k, v.ownBlock = some k → lo ≤ k := fun k hk => (own_block h hk).choose_spec.2
end
abbrev IntsOwn (W : World) (lo : Nat) (v : Value) (l : List Int) : Prop := ListOwn 3 1 IntR W lo v l
abbrev FlanksOwn (W : World) (lo : Nat) (v : Value) (l : List Jn) : Prop := ListOwn 86 2 JoinR W lo v l
abbrev PointsOwn (W : World) (lo : Nat) (v : Value) (l : List Jn) : Prop := ListOwn 43 2 JoinR W lo v l
abbrev SigsOwn (W : World) (lo : Nat) (v : Value) (l : List Sg) : Prop := ListOwn 49 3 SigR W lo v l
/-- A route's three lists, of the call's own. -/
structure RtOwn (W : World) (lo : Nat) (u3 u4 u5 : Value) (r : Rt) : Prop where
  path : IntsOwn W lo u3 r.path
  over : IntsOwn W lo u4 r.over
  flanks : FlanksOwn W lo u5 r.flanks
theorem RtOwn.below {W W' : World} {lo : Nat} {u3 u4 u5 : Value} {r : Rt} (h : RtOwn W lo u3 u4 u5 r) (hb : Below W.heap.size W W') : RtOwn W' lo u3 u4 u5 r := ⟨h.path.below intR hb, h.over.below intR hb, h.flanks.below joinR hb⟩
theorem RtOwn.mono {W : World} {lo lo' : Nat} {u3 u4 u5 : Value} {r : Rt} (h : RtOwn W lo u3 u4 u5 r) (hl : lo' ≤ lo) : RtOwn W lo' u3 u4 u5 r := ⟨h.path.mono hl, h.over.mono hl, h.flanks.mono hl⟩
theorem RtOwn.in_ {W : World} {lo : Nat} {u3 u4 u5 : Value} {r : Rt} (h : RtOwn W lo u3 u4 u5 r) : RtIn W W.heap.size u3 u4 u5 r := ⟨h.path.in_ intR_cells, h.over.in_ intR_cells, h.flanks.in_ joinR_cells⟩
/-- A route whose lists lie in memory of the call's own. -/
def RouteO (lo : Nat) : El Rt := fun W B c r => c 0 = some (.int .i64 r.id) ∧ c 1 = some (.int .i64 r.entry) ∧ c 2 = some (.int .i64 r.exit) ∧ c 6 = some (.int .i64 r.timer) ∧ ∃ u3 u4 u5, c 3 = some u3 ∧ c 4 = some u4 ∧ c 5 = some u5 ∧ RtOwn W lo u3 u4 u5 r ∧
  (∀ k, u3.ownBlock = some k → k < B) ∧ (∀ k, u4.ownBlock = some k → k < B) ∧ ∀ k, u5.ownBlock = some k → k < B
theorem routeO (lo : Nat) : Elem (RouteO lo) := ⟨fun ⟨h0, h1, h2, h6, u3, u4, u5, h3, h4, h5, h, b3, b4, b5⟩ hb => ⟨h0, h1, h2, h6, u3, u4, u5, h3, h4, h5, ⟨own_belowB intF h.path b3 hb, own_belowB intF h.over b4 hb, own_belowB joinF h.flanks b5 hb⟩, b3, b4, b5⟩,
  fun ⟨h0, h1, h2, h6, u3, u4, u5, h3, h4, h5, h, b3, b4, b5⟩ hb => ⟨h0, h1, h2, h6, u3, u4, u5, h3, h4, h5, h, fun k hk => Nat.lt_of_lt_of_le (b3 k hk) hb, fun k hk => Nat.lt_of_lt_of_le (b4 k hk) hb, fun k hk => Nat.lt_of_lt_of_le (b5 k hk) hb⟩⟩
theorem routeO_cells {lo : Nat} {W : World} {B : Nat} (c c' : Nat → Option Value) (x : Rt) (h : ∀ k, k < 7 → c k = c' k) (hx : RouteO lo W B c x) : RouteO lo W B c' x := by
  obtain ⟨h0, h1, h2, h6, u3, u4, u5, h3, h4, h5, hr⟩ := hx
  exact ⟨(h 0 (by omega)).symm.trans h0, (h 1 (by omega)).symm.trans h1, (h 2 (by omega)).symm.trans h2, (h 6 (by omega)).symm.trans h6, u3, u4, u5, (h 3 (by omega)).symm.trans h3, (h 4 (by omega)).symm.trans h4, (h 5 (by omega)).symm.trans h5, hr⟩
theorem routeO_grown {lo : Nat} {W W' : World} {c : Nat → Option Value} {y : Rt} {g : Nat} (hlo : lo ≤ g) (h : RouteO lo W W.heap.size c y) (hg : W.grownBy W' (some g)) (hc : ∃ cur, W.heap[g]? = some (.cells cur 35 (0, 0))) : RouteO lo W' W'.heap.size c y := by
  obtain ⟨h0, h1, h2, h6, u3, u4, u5, h3, h4, h5, h, b3, b4, b5⟩ := h
  obtain ⟨cur, hc⟩ := hc
  refine ⟨h0, h1, h2, h6, u3, u4, u5, h3, h4, h5, ⟨own_kept intF h.path hg (fun k hk e => ?_), own_kept intF h.over hg (fun k hk e => ?_), own_kept joinF h.flanks hg (fun k hk e => ?_)⟩, fun k hk => Nat.lt_of_lt_of_le (b3 k hk) hg.size, fun k hk => Nat.lt_of_lt_of_le (b4 k hk) hg.size, fun k hk => Nat.lt_of_lt_of_le (b5 k hk) hg.size⟩
  · subst e
    obtain ⟨cur', hc', _⟩ := own_block h.path hk
    rw [hc] at hc'
    cases hc'
  · subst e
    obtain ⟨cur', hc', _⟩ := own_block h.over hk
    rw [hc] at hc'
    cases hc'
  · subst e
    obtain ⟨cur', hc', _⟩ := own_block h.flanks hk
    rw [hc] at hc'
    cases hc'
theorem in_boundB {α : Type} {T : TypeId} {sz : Nat} {R : El α} {W : World} {lo B : Nat} {v : Value} {l : List α} (hf : FlatR R) (hR : ∀ (c c' : Nat → Option Value) (x : α), (∀ k, k < sz → c k = c' k) → R W W.heap.size c x → R W W.heap.size c' x) (h : ListOwn T sz R W lo v l) (hk : ∀ k, v.ownBlock = some k → k < B) : ListIn sz R W B v l := by
  obtain ⟨A, cap, e, g1, g2, g3, g4⟩ := h.in_ hR
  refine ⟨A, cap, e, g1, g2, g3, fun hp => ?_⟩
  obtain ⟨b, off, rfl, hb, hc⟩ := g4 hp
  exact ⟨b, off, rfl, hk b (by rw [e]; rfl), fun j hj => hf (hc j hj)⟩
theorem routeO_in {lo : Nat} {W : World} {B : Nat} {c : Nat → Option Value} {s : Rt} (h : RouteO lo W B c s) : RouteR W B c s := by
  obtain ⟨h0, h1, h2, h6, u3, u4, u5, h3, h4, h5, h, b3, b4, b5⟩ := h
  exact ⟨h0, h1, h2, h6, u3, u4, u5, h3, h4, h5, ⟨in_boundB intF intR_cells h.path b3, in_boundB intF intR_cells h.over b4, in_boundB joinF joinR_cells h.flanks b5⟩⟩
abbrev RoutesOwn (W : World) (lo : Nat) (v : Value) (l : List Rt) : Prop := ListOwn 35 7 (RouteO lo) W lo v l
theorem RoutesOwn.in_ {W : World} {lo : Nat} {v : Value} {l : List Rt} (h : RoutesOwn W lo v l) : RoutesIn W W.heap.size v l := by
  obtain ⟨A, cap, e, g1, g2, g3, g4⟩ := ListOwn.in_ (fun c c' x hc hx => routeO_cells c c' x hc hx) h
  refine ⟨A, cap, e, g1, g2, g3, fun hp => ?_⟩
  obtain ⟨b, off, e, hb, hc⟩ := g4 hp
  exact ⟨b, off, e, hb, fun j hj => routeO_in (hc j hj)⟩
/-- One more route. -/
theorem routes_snoc {W w1 w2 : World} {lo n : Nat} {v v2 u3 u4 u5 : Value} {l : List Rt} {r : Rt} {o : Obj} {yss : List (List Value)} (hn : l.length = n) (ho : W.ownsRow lo 35 7 v n yss.flatten) (hl : yss.length = n) (hs : ∀ ys ∈ yss, ys.length = 7) (hm : n + 1 ≤ maxLen)
    (ht : ∀ (j : Nat) (ys : List Value) (x : Rt), yss[j]? = some ys → l[j]? = some x → RouteO lo W W.heap.size (fun k => ys[k]?) x) (hlo : lo ≤ W.heap.size) (hb : Below W.heap.size W w1) (hu : RtOwn w1 W.heap.size u3 u4 u5 r)
    (hown : w2.ownsRow lo 35 7 v2 (n + 1) (yss.flatten ++ [.int .i64 r.id, .int .i64 r.entry, .int .i64 r.exit, u3, u4, u5, .int .i64 r.timer])) (hgr : (w1.alloc o).grownBy w2 v.ownBlock) : RoutesOwn w2 lo v2 (l ++ [r]) := by
  subst hn
  exact ListOwn.snoc (routeO lo) (fun h1 h2 h3 h4 => routeO_grown h1 h2 h3 h4) ho hl hs rfl hm ht hb ⟨rfl, rfl, rfl, rfl, u3, u4, u5, rfl, rfl, rfl, hu.mono hlo, own_lt hu.path, own_lt hu.over, own_lt hu.flanks⟩ hown hgr
/-- A plan's four lists, of the call's own. -/
structure PlOwn (W : World) (lo : Nat) (u2 u3 u4 u5 : Value) (p : Pl) : Prop where
  secs : SectsOwn W lo u2 p.secs
  pts : PointsOwn W lo u3 p.pts
  sigs : SigsOwn W lo u4 p.sigs
  routes : RoutesOwn W lo u5 p.routes
theorem PlOwn.below {W W' : World} {lo : Nat} {u2 u3 u4 u5 : Value} {p : Pl} (h : PlOwn W lo u2 u3 u4 u5 p) (hb : Below W.heap.size W W') : PlOwn W' lo u2 u3 u4 u5 p := ⟨h.secs.below (secO_ lo) hb, h.pts.below joinR hb, h.sigs.below sigR hb, h.routes.below (routeO lo) hb⟩
theorem PlOwn.in_ {W : World} {lo : Nat} {u2 u3 u4 u5 : Value} {p : Pl} (h : PlOwn W lo u2 u3 u4 u5 p) : PlIn W W.heap.size u2 u3 u4 u5 p := ⟨h.secs.in_, h.pts.in_ joinR_cells, h.sigs.in_ sigR_cells, h.routes.in_⟩
end Go.Proofs.Ythlolpflgninjaa
