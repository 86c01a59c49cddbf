/-
  Where ends lead: back; and no two to one.
  Conditions: none.
-/
import Derived.Test.YthlolpflgninjaaTrkOwn
import Derived.Test.YthlolpflgninjaaTrkAlive
set_option linter.unusedVariables false
set_option linter.unusedSimpArgs false
set_option maxRecDepth 100000
namespace Go.Proofs.Ythlolpflgninjaa
open Go.RowKit

theorem chk_may {l : List Sec} (h : chkT l = 0) : TMay l := by
  rw [chkT] at h
  split at h
  · exact mayT_iff.1 (by assumption)
  · omega
theorem at_mem {l : List Sec} (h : TMay l) {i : Nat} (hi : i < l.length) : atS l l[i].1 = (i : Int) := by
  rw [atS, find_some hi rfl (fun j hj => by have := (h.k i j hj hi).1; omega)]
theorem id_inj {l : List Sec} (h : TMay l) {i j : Nat} (hi : i < l.length) (hj : j < l.length) (he : l[i].1 = l[j].1) : i = j := by
  have h1 := at_mem h hi
  rw [he, at_mem h hj] at h1
  omega
theorem find_mem {l : List Sec} (h : TMay l) {i : Nat} (hi : i < l.length) : findE7 l l[i].1 = 0 ∧ findS7 l l[i].1 = l[i] := by
  have hE : findE7 l l[i].1 = 0 := by rw [findE_of h, at_mem h hi, if_neg (by omega)]
  exact ⟨hE, by rw [findS7, if_pos hE, at_mem h hi, Int.toNat_natCast, List.getD_eq_getElem?_getD, List.getElem?_eq_getElem hi]; rfl⟩
theorem next_mem {l : List Sec} (h : TMay l) {i e : Nat} (hi : i < l.length) (he : e < l[i].2.2.length) : nextE7 l l[i].1 (e : Int) = 0 ∧ nextJ7 l l[i].1 (e : Int) = l[i].2.2.getD e (0, 0) := by
  obtain ⟨h1, h2⟩ := find_mem h hi
  have hE : nextE7 l l[i].1 (e : Int) = 0 := by rw [nextE7, if_pos h1, h2, if_neg (by omega)]
  exact ⟨hE, by rw [nextJ7, if_pos hE, h2, Int.toNat_natCast]⟩
theorem back_of {l : List Sec} (h : TMay l) {i e : Nat} (hi : i < l.length) (he : e < l[i].2.2.length) : nextE7 l l[i].1 (e : Int) = 0 ∧
    (nextJ7 l l[i].1 (e : Int) = (0, 0) ∨ (nextJ7 l l[i].1 (e : Int) ≠ (0, 0) ∧ nextE7 l (nextJ7 l l[i].1 (e : Int)).1 (nextJ7 l l[i].1 (e : Int)).2 = 0 ∧ nextJ7 l (nextJ7 l l[i].1 (e : Int)).1 (nextJ7 l l[i].1 (e : Int)).2 = (l[i].1, (e : Int)) ∧ nextJ7 l l[i].1 (e : Int) ≠ (l[i].1, (e : Int)))) := by
  obtain ⟨h1, h2⟩ := next_mem h hi he
  refine ⟨h1, ?_⟩
  rw [h2]
  have hj := h.e i e hi he
  rw [joinedB] at hj
  generalize l[i].2.2.getD e (0, 0) = J at hj ⊢
  obtain ⟨x, y⟩ := J
  dsimp only at hj ⊢
  split at hj
  · rename_i h0
    exact .inl (by rw [h0.1, h0.2])
  · rename_i h0
    split at hj
    · simp at hj
    · rename_i h3
      rcases atS_cases l x with hx | ⟨k, hk, hx, hid⟩
      · exact absurd (.inl (by omega)) h3
      · rw [hx, Int.toNat_natCast] at hj h3
        have hg : l.getD k (0, 0, []) = l[k] := by rw [List.getD_eq_getElem?_getD, List.getElem?_eq_getElem hk]; rfl
        rw [hg] at hj h3
        have hy0 : ¬ y < 0 := fun h => h3 (.inr (.inl h))
        have hy1 : ¬ ((l[k].2.2.length : Int) ≤ y) := fun h => h3 (.inr (.inr (.inl h)))
        have hne : ¬ (x = l[i].1 ∧ y = (e : Int)) := fun h => h3 (.inr (.inr (.inr h)))
        obtain ⟨z, rfl⟩ : ∃ z : Nat, y = (z : Int) := ⟨y.toNat, by omega⟩
        obtain ⟨n1, n2⟩ := next_mem h hk (show z < l[k].2.2.length by omega)
        rw [hid] at n1 n2
        refine .inr ⟨fun h => h0 (by cases h; exact ⟨rfl, rfl⟩), n1, ?_, fun h => hne (by cases h; exact ⟨rfl, rfl⟩)⟩
        rw [n2]
        rw [Int.toNat_natCast] at hj
        exact of_decide_eq_true hj
/-- Ends that were led to, by ends ahead of this one. -/
def Led (l : List Sec) (i e : Nat) (ls : List Jn) : Prop := ∀ x ∈ ls, ∃ (i' e' : Nat) (h : i' < l.length), (i' < i ∨ i' = i ∧ e' < e) ∧ nextJ7 l x.1 x.2 = (l[i'].1, (e' : Int))
theorem led_not {l : List Sec} (h : TMay l) {i e : Nat} {ls : List Jn} (hL : Led l i e ls) (hi : i < l.length) {J : Jn} (hJ : nextJ7 l J.1 J.2 = (l[i].1, (e : Int))) : ∀ x ∈ ls, x ≠ J := by
  rintro x hx rfl
  obtain ⟨i', e', hi', hlt, hn⟩ := hL x hx
  rw [hJ] at hn
  injection hn with h1 h2
  have := id_inj h hi hi' h1
  omega
theorem led_snoc {l : List Sec} {i e : Nat} {ls : List Jn} (hL : Led l i e ls) (hi : i < l.length) {J : Jn} (hJ : nextJ7 l J.1 J.2 = (l[i].1, (e : Int))) : Led l i (e + 1) (ls ++ [J]) := by
  intro x hx
  rcases List.mem_append.1 hx with h | h
  · obtain ⟨i', e', hi', hlt, hn⟩ := hL x h
    exact ⟨i', e', hi', by omega, hn⟩
  · rw [List.mem_singleton.1 h]
    exact ⟨i, e, hi, by omega, hJ⟩
theorem led_next {l : List Sec} {i e : Nat} {ls : List Jn} (hL : Led l i e ls) : Led l i (e + 1) ls := fun x h => by
  obtain ⟨i', e', hi', hlt, hn⟩ := hL x h
  exact ⟨i', e', hi', by omega, hn⟩
theorem led_row {l : List Sec} {i e : Nat} {ls : List Jn} (hL : Led l i e ls) : Led l (i + 1) 0 ls := fun x h => by
  obtain ⟨i', e', hi', hlt, hn⟩ := hL x h
  exact ⟨i', e', hi', by omega, hn⟩
/-- The cells of one section. -/
theorem sect_cells {W : World} {B n c b off i : Nat} {l : List Sec} (h : SectsIn W B (.slice (some ⟨b, off, none⟩) n c) l) (hi : i < l.length) :
    W.cell? ⟨b, off + i * 3, none⟩ = some (.int .i64 l[i].1) ∧ W.cell? ⟨b, off + i * 3 + 1, none⟩ = some (.int .i64 l[i].2.1) ∧ ∃ Au cu, W.cell? ⟨b, off + i * 3 + 2, none⟩ = some (.slice Au l[i].2.2.length cu) ∧ JoinsIn W B (.slice Au l[i].2.2.length cu) l[i].2.2 := by
  obtain ⟨b', off', e, hb, hc0, hc1, u, hc2, hu⟩ := h.at hi
  cases e
  have hu' := hu
  obtain ⟨Au, cu, rfl, -, -⟩ := hu.slice
  exact ⟨hc0, hc1, Au, cu, hc2, hu'⟩
end Go.Proofs.Ythlolpflgninjaa
