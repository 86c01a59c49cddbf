/-
  Lists of texts of the call's own, written in place: what they look like stays.
  Conditions: none.
-/
import Derived.Test.YtdjoflhcagfmiaaMFind
import Derived.Test.YtdjoflhcagfmiaaMTold
set_option linter.unusedVariables false
set_option linter.unusedSimpArgs false
set_option maxRecDepth 100000
namespace Go.Proofs.Ytdjoflhcagfmiaa
open Go.RowKit

/-- A text of the call's own, whatever its bytes are. -/
def TxtSh (W : World) (lo n : Nat) (u : Value) : Prop :=
  ∃ (b off cap : Nat) (cs : Array Value), u = .slice (some ⟨b, off, none⟩) n cap ∧ lo ≤ b ∧ W.heap[b]? = some (.cells cs 5 (0, 0)) ∧ n ≤ cap ∧ cap ≤ maxLen ∧ ∀ j, j < n → ∃ x : UInt8, cs[off + j]? = some (.int .u8 (x.toNat : Int))
theorem OwnTxt.sh {W : World} {lo : Nat} {u : Value} {t : Bs} (h : OwnTxt W lo u t) : TxtSh W lo t.length u := by
  obtain ⟨b, off, cap, cs, rfl, h0, hh, h1, h2, h3⟩ := h
  exact ⟨b, off, cap, cs, rfl, h0, hh, h1, h2, fun j hj => ⟨t[j], h3 j hj⟩⟩
theorem TxtSh.of_own {W : World} {lo n : Nat} {u : Value} {xs : Bs} (h : W.ownsRow lo 5 1 u n (xs.map u8)) (hn : 0 < n) (hl : n = xs.length) (hm : n ≤ 100000) : TxtSh W lo n u := by
  rcases h.2 with ⟨e1, h0⟩ | ⟨b, cap, cur, rfl, hlo, hgb, hcap, hmx, hsz, htk⟩
  · omega
  · refine ⟨b, 0, cap, cur, rfl, hlo, hgb, hcap, hmx, fun j hj => ⟨xs[j]'(by omega), ?_⟩⟩
    have h1 : (cur.toList.take (n * 1))[j]? = (xs.map u8)[j]? := by rw [htk]
    rw [List.getElem?_take_of_lt (by omega), Array.getElem?_toList, List.getElem?_map, List.getElem?_eq_getElem (by omega)] at h1
    rw [Nat.zero_add]
    exact h1
theorem TxtSh.mono {W : World} {lo lo' n : Nat} {u : Value} (h : TxtSh W lo n u) (hl : lo' ≤ lo) : TxtSh W lo' n u := by
  obtain ⟨b, off, cap, cs, rfl, h0, h⟩ := h
  exact ⟨b, off, cap, cs, rfl, Nat.le_trans hl h0, h⟩
theorem TxtSh.set {W : World} {lo n g k : Nat} {u : Value} {y : UInt8} {cur : Array Value} (h : TxtSh W lo n u) (hg : W.heap[g]? = some (.cells cur 5 (0, 0))) : TxtSh (W.setCell ⟨g, k, none⟩ (.int .u8 (y.toNat : Int))) lo n u := by
  obtain ⟨b, off, cap, cs, rfl, h0, hh, h1, h2, h3⟩ := h
  by_cases e : b = g
  · subst e
    rw [hh] at hg
    cases hg
    have hset : (W.setCell ⟨b, k, none⟩ (.int .u8 (y.toNat : Int))).heap[b]? = some (.cells (cur.setIfInBounds k (.int .u8 (y.toNat : Int))) 5 (0, 0)) := by
      simp only [World.setCell, Array.getElem?_modify, if_true, hh, Option.map_some]
      rfl
    refine ⟨b, off, cap, _, rfl, h0, hset, h1, h2, fun j hj => ?_⟩
    obtain ⟨x, hx⟩ := h3 j hj
    rw [Array.getElem?_setIfInBounds]
    split
    · have hlt : off + j < cur.size := (Array.getElem?_eq_some_iff.1 hx).1
      rw [if_pos (by omega)]
      exact ⟨y, rfl⟩
    · exact ⟨x, hx⟩
  · exact ⟨b, off, cap, cs, rfl, h0, (heap_setFar W g k b _ e).trans hh, h1, h2, h3⟩
theorem TxtSh.below {W W' : World} {lo n : Nat} {u : Value} (h : TxtSh W lo n u) (hb : Below W.heap.size W W') : TxtSh W' lo n u := by
  obtain ⟨b, off, cap, cs, rfl, h0, hh, h⟩ := h
  exact ⟨b, off, cap, cs, rfl, h0, (hb.block _ (heap_lt hh)).trans hh, h⟩
theorem TxtSh.cell {W : World} {lo n j : Nat} {u : Value} (h : TxtSh W lo n u) (hj : j < n) :
    ∃ (b off cap : Nat) (cs : Array Value) (x : UInt8), u = .slice (some ⟨b, off, none⟩) n cap ∧ lo ≤ b ∧ W.heap[b]? = some (.cells cs 5 (0, 0)) ∧ n ≤ cap ∧ cap ≤ maxLen ∧ W.cell? ⟨b, off + j, none⟩ = some (.int .u8 (x.toNat : Int)) ∧ W.frozen? ⟨b, off + j, none⟩ = false := by
  obtain ⟨b, off, cap, cs, rfl, h0, hh, h1, h2, h3⟩ := h
  obtain ⟨x, hx⟩ := h3 j hj
  exact ⟨b, off, cap, cs, x, rfl, h0, hh, h1, h2, by rw [cell_of_row _ _ _ _ _ _ hh]; exact hx, frozen2_of hh _⟩

/-- A list of structs of two cells, the second one a text of the call's own. -/
def LSh (T : TypeId) (W : World) (lo n : Nat) (A : Option Addr) (L : Nat → Nat) : Prop :=
  n = 0 ∨ ∃ (b : Nat) (cur : Array Value), A = some ⟨b, 0, none⟩ ∧ W.heap[b]? = some (.cells cur T (0, 0)) ∧ ∀ i, i < n → ∃ u, cur[i * 2 + 1]? = some u ∧ TxtSh W lo (L i) u
theorem LSh.set {T : TypeId} {W : World} {lo n g k : Nat} {A : Option Addr} {L : Nat → Nat} {y : UInt8} {cur : Array Value} (hT : T ≠ 5) (h : LSh T W lo n A L) (hg : W.heap[g]? = some (.cells cur 5 (0, 0))) :
    LSh T (W.setCell ⟨g, k, none⟩ (.int .u8 (y.toNat : Int))) lo n A L := by
  rcases h with h | ⟨b, cs, rfl, hh, h⟩
  · exact .inl h
  · have e : b ≠ g := fun e => by
      subst e
      rw [hh] at hg
      cases hg
      exact hT rfl
    refine .inr ⟨b, cs, rfl, (heap_setFar W g k b _ e).trans hh, fun i hi => ?_⟩
    obtain ⟨u, hu, ht⟩ := h i hi
    exact ⟨u, hu, ht.set hg⟩
theorem LSh.below {T : TypeId} {W W' : World} {lo n : Nat} {A : Option Addr} {L : Nat → Nat} (h : LSh T W lo n A L) (hb : Below W.heap.size W W') : LSh T W' lo n A L := by
  rcases h with h | ⟨b, cs, rfl, hh, h⟩
  · exact .inl h
  · refine .inr ⟨b, cs, rfl, (hb.block _ (heap_lt hh)).trans hh, fun i hi => ?_⟩
    obtain ⟨u, hu, ht⟩ := h i hi
    exact ⟨u, hu, ht.below hb⟩
theorem LSh.at {T : TypeId} {W : World} {lo n i : Nat} {A : Option Addr} {L : Nat → Nat} (h : LSh T W lo n A L) (hi : i < n) :
    ∃ (b : Nat) (u : Value), A = some ⟨b, 0, none⟩ ∧ W.cell? ⟨b, i * 2 + 1, none⟩ = some u ∧ TxtSh W lo (L i) u := by
  rcases h with h | ⟨b, cs, rfl, hh, h⟩
  · omega
  · obtain ⟨u, hu, ht⟩ := h i hi
    exact ⟨b, u, rfl, by rw [cell_of_row _ _ _ _ _ _ hh]; exact hu, ht⟩
theorem WtsAt.sh {W : World} {lo n c : Nat} {A : Option Addr} {ws : List Wr} (h : WtsAt W lo (.slice A n c) ws) (h128 : ∀ x ∈ ws, x.2.length = 128) : LSh 52 W lo n A (fun _ => 128) := by
  obtain ⟨ys, ho, hl, hm, he⟩ := h
  rcases ho.2 with ⟨e, h0⟩ | ⟨b, cap, cur, e, hlo, hgb, hcap, hmx, hsz, htk⟩
  · cases e; exact .inl rfl
  · cases e
    refine .inr ⟨b, cur, rfl, hgb, fun i hi => ?_⟩
    have hy : ys[i]? = some (ys[i]'(by omega)) := List.getElem?_eq_getElem (by omega)
    have hx : ws[i]? = some ws[i] := List.getElem?_eq_getElem hi
    obtain ⟨h1, h2⟩ := he i _ _ hy hx
    have hlen := h128 ws[i] (List.getElem_mem hi)
    have hts : TxtSh W lo 128 (ys[i]'(by omega)) := TxtSh.of_own (by rw [hlen] at h1; exact h1) (by omega) hlen.symm (by omega)
    refine ⟨ys[i]'(by omega), ?_, hts⟩
    have h3 : (cur.toList.take (ws.length * 2))[i * 2 + 1]? = (wcells ws ys)[i * 2 + 1]? := by rw [htk]
    rw [List.getElem?_take_of_lt (by omega), Array.getElem?_toList, (wcells_at ws ys i _ _ hx hy).2] at h3
    exact h3
def lensR (rs : List Rc) (i : Nat) : Nat := (rs.map fun r => r.2.length).getD i 0
theorem RecsAt.sh {W : World} {lo n c : Nat} {A : Option Addr} {rs : List Rc} (h : RecsAt W lo (.slice A n c) rs) : LSh 36 W lo n A (lensR rs) := by
  obtain ⟨us, ho, hl, hm, he⟩ := h
  rcases ho.2 with ⟨e, h0⟩ | ⟨b, cap, cur, e, hlo, hgb, hcap, hmx, hsz, htk⟩
  · cases e; exact .inl rfl
  · cases e
    refine .inr ⟨b, cur, rfl, hgb, fun i hi => ?_⟩
    have hy : us[i]? = some (us[i]'(by omega)) := List.getElem?_eq_getElem (by omega)
    have hx : rs[i]? = some rs[i] := List.getElem?_eq_getElem hi
    refine ⟨us[i]'(by omega), ?_, ?_⟩
    · have h3 : (cur.toList.take (rs.length * 2))[i * 2 + 1]? = (rcells rs us)[i * 2 + 1]? := by rw [htk]
      rw [List.getElem?_take_of_lt (by omega), Array.getElem?_toList, (rcells_at rs us i _ _ hx hy).2] at h3
      exact h3
    · have h4 := (he i _ _ hy hx).sh
      rw [lensR, List.getD_eq_getElem?_getD, List.getElem?_map, hx]
      exact h4
theorem LSh.mono {T : TypeId} {W : World} {lo lo' n : Nat} {A : Option Addr} {L : Nat → Nat} (h : LSh T W lo n A L) (hl : lo' ≤ lo) : LSh T W lo' n A L := by
  rcases h with h | ⟨b, cs, rfl, hh, h⟩
  · exact .inl h
  · refine .inr ⟨b, cs, rfl, hh, fun i hi => ?_⟩
    obtain ⟨u, hu, ht⟩ := h i hi
    exact ⟨u, hu, ht.mono hl⟩
theorem put_tells {ss : List Bs} {ws : List Wr} {g : Nat} {t : Bs} : Tells (putS ss ws g t) (putW ss ws g t) := by
  by_cases h : putE ss ws g t = 0
  · rw [putS, putW, if_pos h, if_pos h]
    rw [putE] at h
    by_cases hm : mayB ss ws = true
    · rw [if_pos hm] at h
      by_cases h0 : g = 0
      · rw [if_pos h0] at h; exact absurd h (by decide)
      · rw [if_neg h0] at h
        by_cases hl : 1882 < t.length
        · rw [if_pos hl] at h; exact absurd h (by decide)
        · rw [if_neg hl] at h
          by_cases hr : 256 < ws.length + cntR t
          · rw [if_pos hr] at h; exact absurd h (by decide)
          · exact (put_may (mayB_iff.1 hm) (by omega) (by omega)).tells
    · rw [if_neg hm] at h; exact absurd h (by decide)
  · rw [putS, putW, if_neg h, if_neg h]
    exact Tells.nil_
theorem put_128 {ss : List Bs} {ws : List Wr} {g : Nat} {t : Bs} : ∀ x ∈ putW ss ws g t, x.2.length = 128 := by
  by_cases h : putE ss ws g t = 0
  · rw [putW, if_pos h]
    rw [putE] at h
    by_cases hm : mayB ss ws = true
    · rw [if_pos hm] at h
      by_cases h0 : g = 0
      · rw [if_pos h0] at h; exact absurd h (by decide)
      · rw [if_neg h0] at h
        by_cases hl : 1882 < t.length
        · rw [if_pos hl] at h; exact absurd h (by decide)
        · rw [if_neg hl] at h
          by_cases hr : 256 < ws.length + cntR t
          · rw [if_pos hr] at h; exact absurd h (by decide)
          · intro x hx
            exact ((put_may (mayB_iff.1 hm) (by omega) (by omega)).w x hx).2.2
    · rw [if_neg hm] at h; exact absurd h (by decide)
  · rw [putW, if_neg h]
    intro x hx
    simp at hx
end Go.Proofs.Ytdjoflhcagfmiaa
