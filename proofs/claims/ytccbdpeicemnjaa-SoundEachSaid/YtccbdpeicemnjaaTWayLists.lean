/-
 Lists of ways, and lists of lists of ends, of the call's own.
 Conditions: none.
-/
import Derived.Test.YtccbdpeicemnjaaTWayProg
set_option linter.unusedVariables false
set_option linter.unusedSimpArgs false
namespace Go.Proofs.Ytccbdpeicemnjaa
open Go.RowKit

/-- A way whose lists lie in memory of the call's own. -/
def WayO (lo : Nat) : El Wy := fun W B c x => c 3 = some (.int .i64 x.near) ∧ ∃ u0 u1 u2, c 0 = some u0 ∧ c 1 = some u1 ∧ c 2 = some u2 ∧ WyOwn W lo u0 u1 u2 x ∧
 (∀ k, u0.ownBlock = some k → k < B) ∧ (∀ k, u1.ownBlock = some k → k < B) ∧ ∀ k, u2.ownBlock = some k → k < B
theorem wayO (lo : Nat) : Elem (WayO lo) := ⟨fun ⟨h3, u0, u1, u2, h0, h1, h2, h, b0, b1, b2⟩ hb => ⟨h3, u0, u1, u2, h0, h1, h2, ⟨own_belowB intF h.path b0 hb, own_belowB intF h.over b1 hb, own_belowB sigF h.asks b2 hb⟩, b0, b1, b2⟩,
 fun ⟨h3, u0, u1, u2, h0, h1, h2, h, b0, b1, b2⟩ hb => ⟨h3, u0, u1, u2, h0, h1, h2, h, fun k hk => Nat.lt_of_lt_of_le (b0 k hk) hb, fun k hk => Nat.lt_of_lt_of_le (b1 k hk) hb, fun k hk => Nat.lt_of_lt_of_le (b2 k hk) hb⟩⟩
theorem wayO_cells {lo : Nat} {W : World} {B : Nat} (c c' : Nat → Option Value) (x : Wy) (h : ∀ k, k < 4 → c k = c' k) (hx : WayO lo W B c x) : WayO lo W B c' x := by
 obtain ⟨h3, u0, u1, u2, h0, h1, h2, hr⟩ := hx
 exact ⟨(h 3 (by omega)).symm.trans h3, u0, u1, u2, (h 0 (by omega)).symm.trans h0, (h 1 (by omega)).symm.trans h1, (h 2 (by omega)).symm.trans h2, hr⟩
theorem wayO_grown {lo : Nat} {W W' : World} {c : Nat → Option Value} {y : Wy} {g : Nat} {T : TypeId} (hT1 : T ≠ 3) (hT2 : T ≠ 58) (h : WayO lo W W.heap.size c y) (hg : W.grownBy W' (some g)) (hc : ∃ cur, W.heap[g]? = some (.cells cur T (0, 0))) : WayO lo W' W'.heap.size c y := by
 obtain ⟨h3, u0, u1, u2, h0, h1, h2, h, b0, b1, b2⟩ := h
 obtain ⟨cur, hc⟩ := hc
 refine ⟨h3, u0, u1, u2, h0, h1, h2, ⟨own_kept intF h.path hg (fun k hk e => ?_), own_kept intF h.over hg (fun k hk e => ?_), own_kept sigF h.asks hg (fun k hk e => ?_)⟩, fun k hk => Nat.lt_of_lt_of_le (b0 k hk) hg.size, fun k hk => Nat.lt_of_lt_of_le (b1 k hk) hg.size, fun k hk => Nat.lt_of_lt_of_le (b2 k hk) hg.size⟩
 ·subst e
  obtain ⟨cur', hc', _⟩ := own_block h.path hk
  rw [hc] at hc'
  injection hc' with hc'
  injection hc' with _ e
  exact hT1 e
 ·subst e
  obtain ⟨cur', hc', _⟩ := own_block h.over hk
  rw [hc] at hc'
  injection hc' with hc'
  injection hc' with _ e
  exact hT1 e
 ·subst e
  obtain ⟨cur', hc', _⟩ := own_block h.asks hk
  rw [hc] at hc'
  injection hc' with hc'
  injection hc' with _ e
  exact hT2 e
abbrev WaysOwn (W : World) (lo : Nat) (v : Value) (l : List Wy) : Prop := ListOwn 52 4 (WayO lo) W lo v l
/-- One more way. -/
theorem ways_snoc {W w1 w2 : World} {lo n : Nat} {v v2 u0 u1 u2 : Value} {l : List Wy} {x : Wy} {o : Obj} {yss : List (List Value)} (hn : l.length = n) (ho : W.ownsRow lo 52 4 v n yss.flatten) (hl : yss.length = n) (hs : ∀ ys ∈ yss, ys.length = 4) (hm : n + 1 ≤ maxLen)
  (ht : ∀ (j : Nat) (ys : List Value) (y : Wy), yss[j]? = some ys → l[j]? = some y → WayO lo W W.heap.size (fun k => ys[k]?) y) (hlo : lo ≤ W.heap.size) (hb : Below W.heap.size W w1) (hu : WyOwn w1 W.heap.size u0 u1 u2 x)
  (hown : w2.ownsRow lo 52 4 v2 (n + 1) (yss.flatten ++ [u0, u1, u2, .int .i64 x.near])) (hgr : (w1.alloc o).grownBy w2 v.ownBlock) : WaysOwn w2 lo v2 (l ++ [x]) := by
 subst hn
 exact ListOwn.snoc (wayO lo) (fun h1 h2 h3 h4 => wayO_grown (by decide) (by decide) h2 h3 h4) ho hl hs rfl hm ht hb ⟨rfl, u0, u1, u2, rfl, rfl, rfl, hu.mono hlo, own_lt hu.path, own_lt hu.over, own_lt hu.asks⟩ hown hgr
/-- A list of ends in memory of the call's own. -/
def JsO (lo : Nat) : El (List Jn) := fun W B c x => ∃ u, c 0 = some u ∧ JoinsOwn W lo u x ∧ ∀ k, u.ownBlock = some k → k < B
theorem jsO (lo : Nat) : Elem (JsO lo) := ⟨fun ⟨u, h0, h, b⟩ hb => ⟨u, h0, own_belowB joinF h b hb, b⟩, fun ⟨u, h0, h, b⟩ hb => ⟨u, h0, h, fun k hk => Nat.lt_of_lt_of_le (b k hk) hb⟩⟩
theorem jsO_grown {lo : Nat} {W W' : World} {c : Nat → Option Value} {y : List Jn} {g : Nat} {T : TypeId} (hT : T ≠ 60) (h : JsO lo W W.heap.size c y) (hg : W.grownBy W' (some g)) (hc : ∃ cur, W.heap[g]? = some (.cells cur T (0, 0))) : JsO lo W' W'.heap.size c y := by
 obtain ⟨u, h0, h, b⟩ := h
 obtain ⟨cur, hc⟩ := hc
 refine ⟨u, h0, own_kept joinF h hg (fun k hk e => ?_), fun k hk => Nat.lt_of_lt_of_le (b k hk) hg.size⟩
 subst e
 obtain ⟨cur', hc', _⟩ := own_block h hk
 rw [hc] at hc'
 injection hc' with hc'
 injection hc' with _ e
 exact hT e
abbrev JssOwn (W : World) (lo : Nat) (v : Value) (l : List (List Jn)) : Prop := ListOwn 63 1 (JsO lo) W lo v l
/-- One more list. -/
theorem jss_snoc {W w1 w2 : World} {lo n : Nat} {v v2 u : Value} {l : List (List Jn)} {x : List Jn} {o : Obj} {yss : List (List Value)} (hn : l.length = n) (ho : W.ownsRow lo 63 1 v n yss.flatten) (hl : yss.length = n) (hs : ∀ ys ∈ yss, ys.length = 1) (hm : n + 1 ≤ maxLen)
  (ht : ∀ (j : Nat) (ys : List Value) (y : List Jn), yss[j]? = some ys → l[j]? = some y → JsO lo W W.heap.size (fun k => ys[k]?) y) (hlo : lo ≤ W.heap.size) (hb : Below W.heap.size W w1) (hu : JoinsOwn w1 W.heap.size u x)
  (hown : w2.ownsRow lo 63 1 v2 (n + 1) (yss.flatten ++ [u])) (hgr : (w1.alloc o).grownBy w2 v.ownBlock) : JssOwn w2 lo v2 (l ++ [x]) := by
 subst hn
 exact ListOwn.snoc (jsO lo) (fun h1 h2 h3 h4 => jsO_grown (by decide) h2 h3 h4) ho hl hs rfl hm ht hb ⟨u, rfl, hu.mono hlo, own_lt hu⟩ hown hgr
end Go.Proofs.Ytccbdpeicemnjaa
