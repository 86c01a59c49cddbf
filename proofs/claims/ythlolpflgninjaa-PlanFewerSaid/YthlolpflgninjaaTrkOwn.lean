/-
  Lists of sections of the call's own, each section's ends in memory of the call's own too.
  Conditions: none.
-/
import Derived.Test.YthlolpflgninjaaTrkRefG
set_option linter.unusedVariables false
set_option linter.unusedSimpArgs false
set_option maxRecDepth 100000
namespace Go.Proofs.Ythlolpflgninjaa
open Go.RowKit

theorem owns_belowB {w w' : World} {B base e size n : Nat} {v : Value} {ys : List Value} (h : w.ownsRow base e size v n ys) (hk : ∀ k, v.ownBlock = some k → k < B) (hb : Below B w w') : w'.ownsRow base e size v n ys := by
  refine ⟨h.1, ?_⟩
  rcases h.2 with h2 | ⟨g, cap, cur, h1, h2, h3, h4⟩
  · exact .inl h2
  · exact .inr ⟨g, cap, cur, h1, h2, (hb.block g (hk g (by rw [h1]; rfl))).trans h3, h4⟩
theorem joins_belowB {W W' : World} {B lo : Nat} {v : Value} {l : List Jn} (h : JoinsOwn W lo v l) (hk : ∀ k, v.ownBlock = some k → k < B) (hb : Below B W W') : JoinsOwn W' lo v l := by
  obtain ⟨yss, ho, hl, hm, hs, ht⟩ := h
  exact ⟨yss, owns_belowB ho hk hb, hl, hm, hs, fun j ys x h1 h2 => ht j ys x h1 h2⟩
/-- A section whose ends lie in memory of the call's own. -/
def SecO (lo : Nat) : El Sec := fun W B c s => c 0 = some (.int .i64 s.1) ∧ c 1 = some (.int .i64 s.2.1) ∧ ∃ u, c 2 = some u ∧ JoinsOwn W lo u s.2.2 ∧ ∀ k, u.ownBlock = some k → k < B
theorem secO_ (lo : Nat) : Elem (SecO lo) := ⟨fun ⟨h0, h1, u, h2, h3, h4⟩ hb => ⟨h0, h1, u, h2, joins_belowB h3 h4 hb, h4⟩, fun ⟨h0, h1, u, h2, h3, h4⟩ hb => ⟨h0, h1, u, h2, h3, fun k hk => Nat.lt_of_lt_of_le (h4 k hk) hb⟩⟩
theorem secO_cells {lo : Nat} {W : World} {B : Nat} (c c' : Nat → Option Value) (x : Sec) (h : ∀ k, k < 3 → c k = c' k) (hx : SecO lo W B c x) : SecO lo W B c' x := by
  obtain ⟨h0, h1, u, h2, h3⟩ := hx
  exact ⟨(h 0 (by omega)).symm.trans h0, (h 1 (by omega)).symm.trans h1, u, (h 2 (by omega)).symm.trans h2, h3⟩
theorem joins_kept {W W' : World} {lo g : Nat} {v : Value} {l : List Jn} (h : JoinsOwn W lo v l) (hg : W.grownBy W' (some g)) (hc : ∀ k, v.ownBlock = some k → k ≠ g) : JoinsOwn W' lo v l := by
  obtain ⟨yss, ho, hl, hm, hs, ht⟩ := h
  refine ⟨yss, ho.kept hg ?_, hl, hm, hs, fun j ys x h1 h2 => ht j ys x h1 h2⟩
  cases hv : v.ownBlock with
  | none => exact .inl rfl
  | some k => refine .inr (fun e => ?_); injection e with e; exact hc k hv e
theorem joins_block {W : World} {lo : Nat} {v : Value} {l : List Jn} (h : JoinsOwn W lo v l) {k : Nat} (hk : v.ownBlock = some k) : ∃ cur, W.heap[k]? = some (.cells cur 66 (0, 0)) ∧ lo ≤ k := by
  obtain ⟨yss, ho, _⟩ := h
  exact owns_block ho hk
theorem joins_lt {W : World} {lo : Nat} {v : Value} {l : List Jn} (h : JoinsOwn W lo v l) : ∀ k, v.ownBlock = some k → k < W.heap.size := fun k hk => by
  obtain ⟨cur, h1, _⟩ := joins_block h hk
  exact heap_lt h1
theorem secO_grown {lo : Nat} {W W' : World} {c : Nat → Option Value} {y : Sec} {g : Nat} (hlo : lo ≤ g) (h : SecO lo W W.heap.size c y) (hg : W.grownBy W' (some g)) (hc : ∃ cur, W.heap[g]? = some (.cells cur 64 (0, 0))) : SecO lo W' W'.heap.size c y := by
  obtain ⟨h0, h1, u, h2, h3, h4⟩ := h
  refine ⟨h0, h1, u, h2, joins_kept h3 hg (fun k hk e => ?_), fun k hk => Nat.lt_of_lt_of_le (h4 k hk) hg.size⟩
  subst e
  obtain ⟨cur, hc⟩ := hc
  obtain ⟨cur', hc', _⟩ := joins_block h3 hk
  rw [hc] at hc'
  cases hc'
theorem secO_in {lo : Nat} {W : World} {B : Nat} {c : Nat → Option Value} {s : Sec} (h : SecO lo W B c s) : SecR W B c s := by
  obtain ⟨h0, h1, u, h2, h3, h4⟩ := h
  obtain ⟨A, cap, e, g1, g2, g3, g4⟩ := h3.in_ joinR_cells
  refine ⟨h0, h1, u, h2, A, cap, e, g1, g2, g3, fun hp => ?_⟩
  obtain ⟨b, off, rfl, hb, hc⟩ := g4 hp
  exact ⟨b, off, rfl, h4 b (by rw [e]; rfl), hc⟩
abbrev SectsOwn (W : World) (lo : Nat) (v : Value) (l : List Sec) : Prop := ListOwn 64 3 (SecO lo) W lo v l
theorem SectsOwn.in_ {W : World} {lo : Nat} {v : Value} {l : List Sec} (h : SectsOwn W lo v l) : SectsIn W W.heap.size v l := by
  obtain ⟨A, cap, e, g1, g2, g3, g4⟩ := ListOwn.in_ (fun c c' x hc hx => secO_cells c c' x hc hx) h
  refine ⟨A, cap, e, g1, g2, g3, fun hp => ?_⟩
  obtain ⟨b, off, e, hb, hc⟩ := g4 hp
  exact ⟨b, off, e, hb, fun j hj => secO_in (hc j hj)⟩
/-- One more section. -/
theorem sects_snoc {W w1 w2 : World} {lo n : Nat} {v v2 u : Value} {l : List Sec} {s : Sec} {o : Obj} {yss : List (List Value)} (hn : l.length = n) (ho : W.ownsRow lo 64 3 v n yss.flatten) (hl : yss.length = n) (hs : ∀ ys ∈ yss, ys.length = 3) (hm : n + 1 ≤ maxLen)
    (ht : ∀ (j : Nat) (ys : List Value) (x : Sec), yss[j]? = some ys → l[j]? = some x → SecO lo W W.heap.size (fun k => ys[k]?) x) (hlo : lo ≤ W.heap.size) (hb : Below W.heap.size W w1) (hu : JoinsOwn w1 W.heap.size u s.2.2)
    (hown : w2.ownsRow lo 64 3 v2 (n + 1) (yss.flatten ++ [.int .i64 s.1, .int .i64 s.2.1, u])) (hgr : (w1.alloc o).grownBy w2 v.ownBlock) : SectsOwn w2 lo v2 (l ++ [s]) := by
  subst hn
  exact ListOwn.snoc (secO_ lo) (fun h1 h2 h3 h4 => secO_grown h1 h2 h3 h4) ho hl hs rfl hm ht hb ⟨rfl, rfl, u, rfl, hu.mono hlo, joins_lt hu⟩ hown hgr
/-- The first numbers of a row of joins of the call's own, whatever they are. -/
def ToRow (W : World) (lo m : Nat) (A : Option Addr) : Prop := m = 0 ∨ ∃ (g : Nat) (cur : Array Value), A = some ⟨g, 0, none⟩ ∧ lo ≤ g ∧ W.heap[g]? = some (.cells cur 66 (0, 0)) ∧ ∀ j, j < m → ∃ z : Int, cur[j * 2]? = some (.int .i64 z)
theorem toRow_of {W : World} {lo m c : Nat} {A : Option Addr} {l : List Jn} (h : JoinsOwn W lo (.slice A m c) l) (hl : l.length = m) : ToRow W lo m A := by
  subst hl
  obtain ⟨yss, ho, h1, hm, hs, ht⟩ := h
  have ho' := ho
  rcases ho.2 with ⟨e, h0⟩ | ⟨g, cap, cur, e, hlo, hc, _⟩
  · exact .inl h0
  · cases e
    refine .inr ⟨g, cur, rfl, hlo, hc, fun j hj => ?_⟩
    have hx : l[j]? = some l[j] := List.getElem?_eq_getElem hj
    have hy : yss[j]? = some (yss[j]'(by omega)) := List.getElem?_eq_getElem (by omega)
    refine ⟨l[j].1, ?_⟩
    have h2 := ho'.cellAt (j * 2 + 0) (by omega)
    have h3 : (yss[j]'(by omega))[0]? = some (.int .i64 l[j].1) := (ht j _ _ hy hx).1
    rw [flat_at yss j 0 _ hs hy (by omega), h3, cell_of_row _ _ _ _ _ _ hc] at h2
    exact h2
theorem toRow_set {W : World} {lo m g i : Nat} {cur : Array Value} (hlo : lo ≤ g) (h : W.heap[g]? = some (.cells cur 66 (0, 0))) (hc : ∀ j, j < m → ∃ z : Int, cur[j * 2]? = some (.int .i64 z)) (x : Int) : ToRow (W.setCell ⟨g, i * 2, none⟩ (.int .i64 x)) lo m (some ⟨g, 0, none⟩) := by
  refine .inr ⟨g, _, rfl, hlo, heap_setK h _, fun j hj => ?_⟩
  obtain ⟨z, hz⟩ := hc j hj
  have hlt : j * 2 < cur.size := (Array.getElem?_eq_some_iff.1 hz).1
  by_cases he : i * 2 = j * 2
  · exact ⟨x, by rw [he, Array.getElem?_setIfInBounds_self_of_lt hlt]⟩
  · exact ⟨z, by rw [Array.getElem?_setIfInBounds_ne he]; exact hz⟩
end Go.Proofs.Ythlolpflgninjaa
