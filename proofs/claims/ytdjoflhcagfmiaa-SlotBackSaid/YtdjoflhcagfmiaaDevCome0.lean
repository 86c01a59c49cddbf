/-
  Rows of sectors that a loop's rounds turn: what stays, and how one sector is set anew.
  Conditions: none.
-/
import Derived.Test.YtdjoflhcagfmiaaDevPieces
set_option linter.unusedVariables false
set_option linter.unusedSimpArgs false
set_option maxRecDepth 100000
namespace Go.Proofs.Ytdjoflhcagfmiaa
open Go.RowKit Go.Shelf

theorem owns_turned {W W' : World} {row : Option Nat} {base e size n : Nat} {v : Value} {ys : List Value} (h : W.ownsRow base e size v n ys) (hg : W.grownBy W' row) (hr : ∀ r, row = some r → ∃ o : Obj, W.heap[r]? = some o ∧ o.isCells = false) : W'.ownsRow base e size v n ys := by
  refine h.kept hg ?_
  cases hb : v.ownBlock with
  | none => exact .inl rfl
  | some g =>
    refine .inr fun e1 => ?_
    obtain ⟨c, h1, _⟩ := owns_block h hb
    obtain ⟨o, h2, h3⟩ := hr g e1.symm
    rw [h1] at h2
    cases h2
    cases h3
theorem SecsAt.turned {W W' : World} {row : Option Nat} {lo : Nat} {v : Value} {ss : List Bs} (h : SecsAt W lo v ss) (hg : W.grownBy W' row) (hr : ∀ r, row = some r → ∃ o : Obj, W.heap[r]? = some o ∧ o.isCells = false) : SecsAt W' lo v ss := by
  obtain ⟨ys, ho, hl, hm, he, hd⟩ := h
  exact ⟨ys, owns_turned ho hg hr, hl, hm, fun j y s h1 h2 => ⟨owns_turned (he j y s h1 h2).1 hg hr, (he j y s h1 h2).2⟩, hd⟩
theorem heap_turned {W W' : World} {row : Option Nat} {b : Nat} {c : Array Value} {t : TypeId} {fr : Nat × Nat} (h : W.heap[b]? = some (.cells c t fr)) (hg : W.grownBy W' row) (hr : ∀ r, row = some r → ∃ o : Obj, W.heap[r]? = some o ∧ o.isCells = false) : W'.heap[b]? = some (.cells c t fr) :=
  (hg.block b (heap_lt h) (fun e => by
    obtain ⟨o, h2, h3⟩ := hr b e.symm
    rw [h] at h2
    cases h2
    cases h3)).trans h
theorem heap_other {W W' : World} {g b : Nat} {cur : Array Value} {c : Array Value} {t e : TypeId} {fr fr' : Nat × Nat} (hne : t ≠ e) (h : W.heap[b]? = some (.cells c t fr)) (hg : W.heap[g]? = some (.cells cur e fr')) (hgr : W.grownBy W' (some g)) : W'.heap[b]? = some (.cells c t fr) :=
  (hgr.block b (heap_lt h) (fun e1 => by
    obtain rfl : b = g := by simpa using e1
    rw [h] at hg
    cases hg
    exact hne rfl)).trans h

/-- One sector of a row of the call's own: where it lies, and the row with that sector set anew. -/
theorem SecsAt.at {W : World} {lo n c : Nat} {A : Option Addr} {ss : List Bs} (h : SecsAt W lo (.slice A n c) ss) {a : Nat} (ha : a < ss.length) (hp : 0 < ss[a].length) :
    ∃ (b g cap : Nat) (cur : Array Value), A = some ⟨b, 0, none⟩ ∧ W.cell? ⟨b, a, none⟩ = some (.slice (some ⟨g, 0, none⟩) ss[a].length cap) ∧ W.heap[g]? = some (.cells cur 5 (0, 0)) ∧ lo ≤ g ∧
      W.ownsRow lo 5 1 (.slice (some ⟨g, 0, none⟩) ss[a].length cap) ss[a].length (ss[a].map u8) ∧
      ∀ (W' : World) (s' : Bs), s'.length = ss[a].length → W'.ownsRow lo 5 1 (.slice (some ⟨g, 0, none⟩) ss[a].length cap) ss[a].length (s'.map u8) → W.grownBy W' (some g) → SecsAt W' lo (.slice A n c) (ss.set a s') := by
  obtain ⟨ys, ho, hl, hm, he, hd⟩ := h
  have ho' := ho
  rcases ho.2 with ⟨_, h0⟩ | ⟨b, cap0, cur0, e, _, hgb, hcap, hcur⟩
  · omega
  · cases e
    have hy : ys[a]? = some ys[a] := List.getElem?_eq_getElem (by omega)
    obtain ⟨h1, h2⟩ := he a _ _ hy (List.getElem?_eq_getElem ha)
    rcases h1.2 with ⟨_, h0⟩ | ⟨g, cap, cur, e1, hlo, hg, hrest⟩
    · omega
    · have hb : ys[a].ownBlock = some g := by rw [e1]; rfl
      refine ⟨b, g, cap, cur, rfl, ?_, hg, hlo, by rw [e1] at h1; exact h1, fun W' s' hs' hrow hgr => ?_⟩
      · rw [ho'.cellAt a (by omega), hy, e1]
      · refine ⟨ys, ?_, by simp [hl], by simpa using hm, fun j y s hj hs => ?_, hd⟩
        · rw [List.length_set]
          refine ho'.kept hgr ?_
          exact .inr (fun e2 => by
            have : b = g := by simpa [Value.ownBlock] using e2
            subst this
            rw [hg] at hgb; cases hgb)
        · by_cases hja : j = a
          · subst hja
            rw [hy] at hj
            cases hj
            rw [List.getElem?_set_self (by omega)] at hs
            cases hs
            rw [e1, hs']
            exact ⟨hrow, h2⟩
          · rw [List.getElem?_set_ne (by omega)] at hs
            obtain ⟨h3, h4⟩ := he j y s hj hs
            refine ⟨h3.kept hgr ?_, h4⟩
            cases hyb : y.ownBlock with
            | none => exact .inl rfl
            | some q =>
              refine .inr (fun e2 => hja (hd j a y ys[a] g hj hy (by rw [hyb]; exact e2) hb))
theorem modify_set {α : Type} (l : List α) (a : Nat) (f : α → α) (h : a < l.length) : l.modify a f = l.set a (f l[a]) := by
  apply List.ext_getElem?
  intro i
  rw [List.getElem?_modify, List.getElem?_set]
  by_cases e : a = i
  · subst e
    simp [List.getElem?_eq_getElem h, h]
  · simp [e]
end Go.Proofs.Ytdjoflhcagfmiaa
