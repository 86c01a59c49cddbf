/-
  Rows of the call's own whose cells may be changed: what is kept of them is their shape.
  Conditions: none.
-/
import Derived.Test.YthlolpflgninjaaPlnRow
set_option linter.unusedVariables false
set_option linter.unusedSimpArgs false
set_option maxRecDepth 100000
namespace Go.Proofs.Ythlolpflgninjaa
open Go.RowKit

theorem block_ne {W : World} {a b : Nat} {c d : Array Value} {t u : TypeId} {f g : Nat × Nat} (h : W.heap[a]? = some (.cells c t f)) (k : W.heap[b]? = some (.cells d u g)) (hne : t ≠ u) : a ≠ b := fun e => by
  subst e
  rw [h] at k
  injection k with k
  injection k with k1 k2
  exact hne k2
/-- The first numbers of a row that lies between two marks, whatever they are. -/
def IntB (W : World) (lo hi m : Nat) (A : Option Addr) : Prop := m = 0 ∨ ∃ (g : Nat) (cur : Array Value), A = some ⟨g, 0, none⟩ ∧ (lo ≤ g ∧ g < hi) ∧ W.heap[g]? = some (.cells cur 3 (0, 0)) ∧ ∀ j, j < m → ∃ z : Int, cur[j]? = some (.int .i64 z)
def ToB (W : World) (lo hi m : Nat) (A : Option Addr) : Prop := m = 0 ∨ ∃ (g : Nat) (cur : Array Value), A = some ⟨g, 0, none⟩ ∧ (lo ≤ g ∧ g < hi) ∧ W.heap[g]? = some (.cells cur 66 (0, 0)) ∧ ∀ j, j < m → ∃ z : Int, cur[j * 2]? = some (.int .i64 z)
theorem intB_of {W : World} {lo m : Nat} {A : Option Addr} (h : IntRow W lo m A) : IntB W lo W.heap.size m A := by
  rcases h with h | ⟨b, c, e, hlo, hb, hz⟩
  · exact .inl h
  · exact .inr ⟨b, c, e, ⟨hlo, heap_lt hb⟩, hb, hz⟩
theorem toB_of {W : World} {lo m : Nat} {A : Option Addr} (h : ToRow W lo m A) : ToB W lo W.heap.size m A := by
  rcases h with h | ⟨b, c, e, hlo, hb, hz⟩
  · exact .inl h
  · exact .inr ⟨b, c, e, ⟨hlo, heap_lt hb⟩, hb, hz⟩
theorem intB_set {W : World} {lo hi m g i : Nat} {cur : Array Value} (hlo : lo ≤ g ∧ g < hi) (h : W.heap[g]? = some (.cells cur 3 (0, 0))) (hc : ∀ j, j < m → ∃ z : Int, cur[j]? = some (.int .i64 z)) (x : Int) : IntB (W.setCell ⟨g, i, none⟩ (.int .i64 x)) lo hi m (some ⟨g, 0, none⟩) := by
  rcases intRow_set (i := i) hlo.1 h hc x with h | ⟨b, c, e, -, hb, hz⟩
  · exact .inl h
  · cases e; exact .inr ⟨g, c, rfl, hlo, hb, hz⟩
theorem toB_set {W : World} {lo hi m g i : Nat} {cur : Array Value} (hlo : lo ≤ g ∧ g < hi) (h : W.heap[g]? = some (.cells cur 66 (0, 0))) (hc : ∀ j, j < m → ∃ z : Int, cur[j * 2]? = some (.int .i64 z)) (x : Int) : ToB (W.setCell ⟨g, i * 2, none⟩ (.int .i64 x)) lo hi m (some ⟨g, 0, none⟩) := by
  rcases toRow_set (i := i) hlo.1 h hc x with h | ⟨b, c, e, -, hb, hz⟩
  · exact .inl h
  · cases e; exact .inr ⟨g, c, rfl, hlo, hb, hz⟩
theorem intB_far {W : World} {lo hi m g : Nat} {A : Option Addr} {cur : Array Value} {T : TypeId} (h : IntB W lo hi m A) (hg : W.heap[g]? = some (.cells cur T (0, 0))) (hT : T ≠ 3) (k : Nat) (x : Value) : IntB (W.setCell ⟨g, k, none⟩ x) lo hi m A := by
  rcases h with h | ⟨b, c, e, hlo, hb, hz⟩
  · exact .inl h
  · exact .inr ⟨b, c, e, hlo, (heap_setFar W g k b x (block_ne hb hg (Ne.symm hT))).trans hb, hz⟩
theorem intB_any {W : World} {lo hi m g : Nat} {A : Option Addr} (h : IntB W lo hi m A) (k : Nat) (x : Int) : IntB (W.setCell ⟨g, k, none⟩ (.int .i64 x)) lo hi m A := by
  rcases h with h | ⟨b, c, rfl, hlo, hb, hz⟩
  · exact .inl h
  · by_cases he : b = g
    · subst he
      exact intB_set hlo hb hz x
    · exact .inr ⟨b, c, rfl, hlo, (heap_setFar W g k b _ he).trans hb, hz⟩
theorem toB_far {W : World} {lo hi m g : Nat} {A : Option Addr} {cur : Array Value} {T : TypeId} (h : ToB W lo hi m A) (hg : W.heap[g]? = some (.cells cur T (0, 0))) (hT : T ≠ 66) (k : Nat) (x : Value) : ToB (W.setCell ⟨g, k, none⟩ x) lo hi m A := by
  rcases h with h | ⟨b, c, e, hlo, hb, hz⟩
  · exact .inl h
  · exact .inr ⟨b, c, e, hlo, (heap_setFar W g k b x (block_ne hb hg (Ne.symm hT))).trans hb, hz⟩
theorem toB_any {W : World} {lo hi m g : Nat} {A : Option Addr} (h : ToB W lo hi m A) (i : Nat) (x : Int) : ToB (W.setCell ⟨g, i * 2, none⟩ (.int .i64 x)) lo hi m A := by
  rcases h with h | ⟨b, c, rfl, hlo, hb, hz⟩
  · exact .inl h
  · by_cases he : b = g
    · subst he
      exact toB_set hlo hb hz x
    · exact .inr ⟨b, c, rfl, hlo, (heap_setFar W g _ b _ he).trans hb, hz⟩
/-- Routes of the call's own, whatever their timers and paths say: each has a timer, and a path of the call's own. -/
def RtB (W : World) (lo hi n : Nat) (A : Option Addr) : Prop := n = 0 ∨ ∃ (g : Nat) (cur : Array Value), A = some ⟨g, 0, none⟩ ∧ (lo ≤ g ∧ g < hi) ∧ W.heap[g]? = some (.cells cur 35 (0, 0)) ∧ ∀ j, j < n → (∃ z : Int, cur[j * 7 + 6]? = some (.int .i64 z)) ∧ ∃ D m c, cur[j * 7 + 3]? = some (.slice D m c) ∧ m ≤ 9223372036854775807 ∧ IntB W lo hi m D
theorem rtB_of {W : World} {lo n c : Nat} {A : Option Addr} {l : List Rt} (h : RoutesOwn W lo (.slice A n c) l) (hl : l.length = n) : RtB W lo W.heap.size n A := by
  subst hl
  obtain ⟨yss, ho, h1, hm, hs, ht⟩ := h
  have ho' := ho
  rcases ho.2 with ⟨e, h0⟩ | ⟨g, cap, cur, e, hlo, hc, _⟩
  · exact .inl h0
  · cases e
    refine .inr ⟨g, cur, rfl, ⟨hlo, heap_lt hc⟩, hc, fun j hj => ?_⟩
    have hx : l[j]? = some l[j] := List.getElem?_eq_getElem hj
    have hy : yss[j]? = some (yss[j]'(by omega)) := List.getElem?_eq_getElem (by omega)
    obtain ⟨-, -, -, h6, u3, u4, u5, h3, -, -, hr, -⟩ := ht j _ _ hy hx
    have hlen := flat_length yss hs
    have h6 : (yss[j]'(by omega))[6]? = some (.int .i64 l[j].timer) := h6
    have h3 : (yss[j]'(by omega))[3]? = some u3 := h3
    have c6 := ho'.cellAt (j * 7 + 6) (by omega)
    have c3 := ho'.cellAt (j * 7 + 3) (by omega)
    rw [flat_at yss j 6 _ hs hy (by omega), h6, cell_of_row _ _ _ _ _ _ hc] at c6
    rw [flat_at yss j 3 _ hs hy (by omega), h3, cell_of_row _ _ _ _ _ _ hc] at c3
    obtain ⟨D, dg, rfl⟩ := hr.path.slice
    refine ⟨⟨_, c6⟩, D, _, _, c3, ?_, intB_of (intRow_of hr.path rfl)⟩
    obtain ⟨_, _, _, h, _⟩ := hr.path
    unfold maxLen at h; omega
theorem rtB_timer {W : World} {lo hi n g i : Nat} {cur : Array Value} (hlo : lo ≤ g ∧ g < hi) (h : W.heap[g]? = some (.cells cur 35 (0, 0))) (hc : ∀ j, j < n → (∃ z : Int, cur[j * 7 + 6]? = some (.int .i64 z)) ∧ ∃ D m c, cur[j * 7 + 3]? = some (.slice D m c) ∧ m ≤ 9223372036854775807 ∧ IntB W lo hi m D) (x : Int) :
    RtB (W.setCell ⟨g, i * 7 + 6, none⟩ (.int .i64 x)) lo hi n (some ⟨g, 0, none⟩) := by
  refine .inr ⟨g, _, rfl, hlo, heap_setK h _, fun j hj => ?_⟩
  obtain ⟨⟨z, hz⟩, D, m, c, h3, hm, hi⟩ := hc j hj
  have hlt : j * 7 + 6 < cur.size := (Array.getElem?_eq_some_iff.1 hz).1
  refine ⟨?_, D, m, c, ?_, hm, intB_far hi h (by decide) _ _⟩
  · by_cases he : i * 7 + 6 = j * 7 + 6
    · exact ⟨x, by rw [he, Array.getElem?_setIfInBounds_self_of_lt hlt]⟩
    · exact ⟨z, by rw [Array.getElem?_setIfInBounds_ne he]; exact hz⟩
  · rw [Array.getElem?_setIfInBounds_ne (by omega)]; exact h3
theorem rtB_path {W : World} {lo hi n g : Nat} {A : Option Addr} {cur : Array Value} (h : RtB W lo hi n A) (hg : W.heap[g]? = some (.cells cur 3 (0, 0))) (k : Nat) (x : Int) : RtB (W.setCell ⟨g, k, none⟩ (.int .i64 x)) lo hi n A := by
  rcases h with h | ⟨b, c, rfl, hlo, hb, hz⟩
  · exact .inl h
  · refine .inr ⟨b, c, rfl, hlo, (heap_setFar W g k b _ (block_ne hb hg (by decide))).trans hb, fun j hj => ?_⟩
    obtain ⟨h6, D, m, c, h3, hm, hi⟩ := hz j hj
    exact ⟨h6, D, m, c, h3, hm, intB_any hi k x⟩
/-- Sections of the call's own, whatever their ends lead to. -/
def ScB (W : World) (lo hi n : Nat) (A : Option Addr) : Prop := n = 0 ∨ ∃ (g : Nat) (cur : Array Value), A = some ⟨g, 0, none⟩ ∧ (lo ≤ g ∧ g < hi) ∧ W.heap[g]? = some (.cells cur 64 (0, 0)) ∧ ∀ j, j < n → ∃ D m c, cur[j * 3 + 2]? = some (.slice D m c) ∧ m ≤ 9223372036854775807 ∧ ToB W lo hi m D
theorem scB_of {W : World} {lo n c : Nat} {A : Option Addr} {l : List Sec} (h : SectsOwn W lo (.slice A n c) l) (hl : l.length = n) : ScB W lo W.heap.size n A := by
  subst hl
  obtain ⟨yss, ho, h1, hm, hs, ht⟩ := h
  have ho' := ho
  rcases ho.2 with ⟨e, h0⟩ | ⟨g, cap, cur, e, hlo, hc, _⟩
  · exact .inl h0
  · cases e
    refine .inr ⟨g, cur, rfl, ⟨hlo, heap_lt hc⟩, hc, fun j hj => ?_⟩
    have hx : l[j]? = some l[j] := List.getElem?_eq_getElem hj
    have hy : yss[j]? = some (yss[j]'(by omega)) := List.getElem?_eq_getElem (by omega)
    obtain ⟨-, -, u, h2, hr, -⟩ := ht j _ _ hy hx
    have hlen := flat_length yss hs
    have h2 : (yss[j]'(by omega))[2]? = some u := h2
    have c2 := ho'.cellAt (j * 3 + 2) (by omega)
    rw [flat_at yss j 2 _ hs hy (by omega), h2, cell_of_row _ _ _ _ _ _ hc] at c2
    obtain ⟨D, dg, rfl⟩ := hr.slice
    refine ⟨D, _, _, c2, ?_, toB_of (toRow_of hr rfl)⟩
    obtain ⟨_, _, _, h, _⟩ := hr
    unfold maxLen at h; omega
theorem scB_far {W : World} {lo hi n g : Nat} {A : Option Addr} {cur : Array Value} {T : TypeId} (h : ScB W lo hi n A) (hg : W.heap[g]? = some (.cells cur T (0, 0))) (hT : T ≠ 64) (hJ : T ≠ 66) (k : Nat) (x : Value) : ScB (W.setCell ⟨g, k, none⟩ x) lo hi n A := by
  rcases h with h | ⟨b, c, rfl, hlo, hb, hz⟩
  · exact .inl h
  · refine .inr ⟨b, c, rfl, hlo, (heap_setFar W g k b _ (block_ne hb hg (Ne.symm hT))).trans hb, fun j hj => ?_⟩
    obtain ⟨D, m, c, h2, hm, hi⟩ := hz j hj
    exact ⟨D, m, c, h2, hm, toB_far hi hg hJ k x⟩
theorem scB_to {W : World} {lo hi n g : Nat} {A : Option Addr} {cur : Array Value} (h : ScB W lo hi n A) (hg : W.heap[g]? = some (.cells cur 66 (0, 0))) (i : Nat) (x : Int) : ScB (W.setCell ⟨g, i * 2, none⟩ (.int .i64 x)) lo hi n A := by
  rcases h with h | ⟨b, c, rfl, hlo, hb, hz⟩
  · exact .inl h
  · refine .inr ⟨b, c, rfl, hlo, (heap_setFar W g _ b _ (block_ne hb hg (by decide))).trans hb, fun j hj => ?_⟩
    obtain ⟨D, m, c, h2, hm, hi⟩ := hz j hj
    exact ⟨D, m, c, h2, hm, toB_any hi i x⟩
theorem intB_below {W W' : World} {lo hi m : Nat} {A : Option Addr} (h : IntB W lo hi m A) (b : Below W.heap.size W W') : IntB W' lo hi m A := by
  rcases h with h | ⟨g, c, e, hlo, hb, hz⟩
  · exact .inl h
  · exact .inr ⟨g, c, e, hlo, (b.block _ (heap_lt hb)).trans hb, hz⟩
theorem toB_below {W W' : World} {lo hi m : Nat} {A : Option Addr} (h : ToB W lo hi m A) (b : Below W.heap.size W W') : ToB W' lo hi m A := by
  rcases h with h | ⟨g, c, e, hlo, hb, hz⟩
  · exact .inl h
  · exact .inr ⟨g, c, e, hlo, (b.block _ (heap_lt hb)).trans hb, hz⟩
theorem rtB_below {W W' : World} {lo hi n : Nat} {A : Option Addr} (h : RtB W lo hi n A) (b : Below W.heap.size W W') : RtB W' lo hi n A := by
  rcases h with h | ⟨g, c, e, hlo, hb, hz⟩
  · exact .inl h
  · refine .inr ⟨g, c, e, hlo, (b.block _ (heap_lt hb)).trans hb, fun j hj => ?_⟩
    obtain ⟨h6, D, m, c, h3, hm, hi⟩ := hz j hj
    exact ⟨h6, D, m, c, h3, hm, intB_below hi b⟩
theorem scB_below {W W' : World} {lo hi n : Nat} {A : Option Addr} (h : ScB W lo hi n A) (b : Below W.heap.size W W') : ScB W' lo hi n A := by
  rcases h with h | ⟨g, c, e, hlo, hb, hz⟩
  · exact .inl h
  · refine .inr ⟨g, c, e, hlo, (b.block _ (heap_lt hb)).trans hb, fun j hj => ?_⟩
    obtain ⟨D, m, c, h2, hm, hi⟩ := hz j hj
    exact ⟨D, m, c, h2, hm, toB_below hi b⟩
end Go.Proofs.Ythlolpflgninjaa
