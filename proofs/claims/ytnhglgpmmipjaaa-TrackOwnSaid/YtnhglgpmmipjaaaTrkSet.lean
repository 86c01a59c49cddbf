/-
  A join of the call's own is written over.
  Conditions: none.
-/
import Derived.Test.YtnhglgpmmipjaaaTrkShiftM
set_option linter.unusedVariables false
set_option linter.unusedSimpArgs false
set_option maxRecDepth 100000
namespace Go.Proofs.Ytnhglgpmmipjaaa
open Go.RowKit

theorem flat_set {sz : Nat} : ∀ (yss : List (List Value)) (j k : Nat) (x : Value), (∀ ys ∈ yss, ys.length = sz) → (hj : j < yss.length) → k < sz → yss.flatten.set (j * sz + k) x = (yss.set j (yss[j].set k x)).flatten
  | [], j, k, x, _, hj, _ => by simp at hj
  | y :: yss, 0, k, x, hl, hj, hk => by
    have hy := hl y (by simp)
    simp only [List.flatten_cons, Nat.zero_mul, Nat.zero_add, List.set_cons_zero, List.getElem_cons_zero]
    rw [List.set_append_left _ _ (by omega)]
  | y :: yss, j + 1, k, x, hl, hj, hk => by
    have hy := hl y (by simp)
    simp only [List.flatten_cons, List.set_cons_succ, List.getElem_cons_succ]
    rw [List.set_append_right _ _ (by rw [hy, Nat.succ_mul]; omega), hy, show (j + 1) * sz + k - sz = j * sz + k from by rw [Nat.succ_mul]; omega]
    rw [flat_set yss j k x (fun z hz => hl z (by simp [hz])) (by simpa using hj) hk]
theorem joins_set {W : World} {lo g n c k q : Nat} {js : List Jn} {z : Int} {x : Jn} (h : JoinsOwn W lo (.slice (some ⟨g, 0, none⟩) n c) js) (hn : js.length = n) (hk : k < js.length) (hq : q < 2) (hx : x = if q = 0 then (z, js[k].2) else (js[k].1, z)) :
    JoinsOwn (W.setCell ⟨g, k * 2 + q, none⟩ (.int .i64 z)) lo (.slice (some ⟨g, 0, none⟩) n c) (js.set k x) := by
  obtain ⟨yss, ho, h1, hm, hs, ht⟩ := h
  have hky : k < yss.length := by omega
  rw [hn] at ho
  have hst := ho.stored (k * 2 + q) (.int .i64 z)
  rw [flat_set yss k q _ hs hky hq] at hst
  refine ⟨yss.set k (yss[k].set q (.int .i64 z)), by rw [List.length_set, hn]; exact hst.1, by simp [h1], by simpa using hm, fun ys hy => ?_, fun j ys y hy hy' => ?_⟩
  · rcases List.mem_or_eq_of_mem_set hy with h | rfl
    · exact hs _ h
    · rw [List.length_set]; exact hs _ (List.getElem_mem hky)
  · by_cases hj : k = j
    · subst hj
      rw [List.getElem?_set_self hky] at hy
      rw [List.getElem?_set_self hk] at hy'
      cases hy
      cases hy'
      have h0 := ht k _ _ (List.getElem?_eq_getElem hky) (List.getElem?_eq_getElem hk)
      have h2 := hs _ (List.getElem_mem hky)
      obtain ⟨e0, e1⟩ := h0
      dsimp only at e0 e1
      match q, hq with
      | 0, _ =>
        rw [if_pos rfl] at hx
        subst hx
        exact ⟨by show (yss[k].set 0 _)[0]? = _; rw [List.getElem?_set_self (by omega)], by show (yss[k].set 0 _)[1]? = _; rw [List.getElem?_set_ne (by omega)]; exact e1⟩
      | 1, _ =>
        rw [if_neg (by omega)] at hx
        subst hx
        exact ⟨by show (yss[k].set 1 _)[0]? = _; rw [List.getElem?_set_ne (by omega)]; exact e0, by show (yss[k].set 1 _)[1]? = _; rw [List.getElem?_set_self (by omega)]⟩
    · rw [List.getElem?_set_ne hj] at hy hy'
      exact ht j ys y hy hy'
/-- A row of which the first ones are rewritten. -/
def part7 (f : Jn → Jn) (es : List Jn) (k : Nat) : List Jn := (es.take k).map f ++ es.drop k
theorem part7_length (f : Jn → Jn) (es : List Jn) {k : Nat} (hk : k ≤ es.length) : (part7 f es k).length = es.length := by simp [part7]; omega
theorem part7_at (f : Jn → Jn) (es : List Jn) {k : Nat} (hk : k < es.length) : (part7 f es k)[k]'(by rw [part7_length f es (by omega)]; exact hk) = es[k] := by
  have hl : ((es.take k).map f).length = k := by simp; omega
  have h : (part7 f es k)[k]? = some es[k] := by
    rw [part7, List.getElem?_append_right (by omega), hl, Nat.sub_self, List.getElem?_drop, Nat.add_zero, List.getElem?_eq_getElem hk]
  rw [List.getElem?_eq_getElem (by rw [part7_length f es (by omega)]; exact hk)] at h
  exact Option.some.inj h
theorem part7_next (f : Jn → Jn) (es : List Jn) {k : Nat} (hk : k < es.length) : part7 f es (k + 1) = (part7 f es k).set k (f es[k]) := by
  have hl : ((es.take k).map f).length = k := by simp; omega
  rw [part7, part7, List.set_append_right _ _ (by omega), hl, Nat.sub_self, List.drop_eq_getElem_cons hk, List.set_cons_zero, List.take_add_one, List.getElem?_eq_getElem hk, List.map_append, Option.toList_some, List.map_singleton, List.append_assoc, List.singleton_append]
theorem part7_same (f : Jn → Jn) (es : List Jn) {k : Nat} (hk : k < es.length) (h : f es[k] = es[k]) : part7 f es (k + 1) = part7 f es k := by
  rw [part7_next f es hk, h]
  conv => lhs; rw [← part7_at f es hk]
  exact List.set_getElem_self _
theorem part7_zero (f : Jn → Jn) (es : List Jn) : part7 f es 0 = es := by simp [part7]
theorem part7_all (f : Jn → Jn) (es : List Jn) : part7 f es es.length = es.map f := by simp [part7]
theorem joins_set2 {W : World} {lo g n c k : Nat} {js : List Jn} {a b : Int} (h : JoinsOwn W lo (.slice (some ⟨g, 0, none⟩) n c) js) (hn : js.length = n) (hk : k < js.length) :
    JoinsOwn ((W.setCell ⟨g, k * 2, none⟩ (.int .i64 a)).setCell ⟨g, k * 2 + 1, none⟩ (.int .i64 b)) lo (.slice (some ⟨g, 0, none⟩) n c) (js.set k (a, b)) := by
  have h1 := joins_set (q := 0) (z := a) h hn hk (by omega) rfl
  have h2 := joins_set (k := k) (q := 1) (z := b) h1 (by simp [hn]) (by simpa using hk) (by omega) rfl
  have e : (if (1 : Nat) = 0 then ((b, ((js.set k (if (0 : Nat) = 0 then (a, js[k].2) else (js[k].1, a)))[k]'(by simpa using hk)).2) : Jn) else (((js.set k (if (0 : Nat) = 0 then (a, js[k].2) else (js[k].1, a)))[k]'(by simpa using hk)).1, b)) = (a, b) := by
    rw [if_neg (by omega), List.getElem_set_self]; rfl
  rw [e, List.set_set] at h2
  exact h2
/-- One of the call's own joins. -/
theorem joins_own_at {W : World} {lo n c k : Nat} {A : Option Addr} {js : List Jn} (h : JoinsOwn W lo (.slice A n c) js) (hk : k < js.length) :
    ∃ g cur, A = some ⟨g, 0, none⟩ ∧ lo ≤ g ∧ W.heap[g]? = some (.cells cur 25 (0, 0)) ∧ W.cell? ⟨g, k * 2, none⟩ = some (.int .i64 js[k].1) ∧ W.cell? ⟨g, k * 2 + 1, none⟩ = some (.int .i64 js[k].2) := by
  have hin := (h.in_ joinR_cells).at hk
  obtain ⟨yss, ho, -⟩ := h
  rcases ho.2 with ⟨e, h0⟩ | ⟨g, cap, cur, e, hlo, hc, -⟩
  · omega
  · cases e
    obtain ⟨b, off, ha, -, hc0, hc1⟩ := hin
    injection ha with ha
    injection ha with e1 e2
    subst e1 e2
    simp only [Nat.zero_add] at hc0 hc1
    exact ⟨_, cur, rfl, hlo, hc, hc0, hc1⟩
end Go.Proofs.Ytnhglgpmmipjaaa
