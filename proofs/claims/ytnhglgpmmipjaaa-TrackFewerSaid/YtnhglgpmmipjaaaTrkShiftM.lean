/-
  Sections with greater numbers, all alike, are joined alike.
  Conditions: none.
-/
import Derived.Test.YtnhglgpmmipjaaaTrkMayM
set_option linter.unusedVariables false
set_option linter.unusedSimpArgs false
set_option maxRecDepth 100000
namespace Go.Proofs.Ytnhglgpmmipjaaa
open Go.RowKit

def shiftJ (n : Int) (j : Jn) : Jn := if 0 < j.1 then (j.1 + n, j.2) else j
def shiftS (n : Int) (s : Sec) : Sec := (s.1 + n, s.2.1, s.2.2.map (shiftJ n))
theorem shift_may {l : List Sec} (h : TMay l) {n : Int} (h0 : 0 ≤ n) (h9 : ∀ s ∈ l, s.1 + n ≤ 99) : TMay (l.map (shiftS n)) := by
  obtain ⟨h1, h2, h3, h4⟩ := may_parts h
  refine may_of (by simpa using h1) (fun t ht => ?_) (List.pairwise_map.2 (h3.imp fun {a b} hab => ⟨by show a.1 + n < b.1 + n; omega, hab.2⟩)) (fun t ht k hk => ?_)
  · obtain ⟨s, hs, rfl⟩ := List.mem_map.1 ht
    obtain ⟨a, b, c⟩ := h2 s hs
    exact ⟨by show 1 ≤ s.1 + n; omega, h9 s hs, by rw [shiftS, shaped_map (b := s.1)]; exact c⟩
  · obtain ⟨s, hs, rfl⟩ := List.mem_map.1 ht
    have hk' : k < s.2.2.length := by simpa [shiftS] using hk
    have he : (shiftS n s).2.2.getD k (0, 0) = shiftJ n (s.2.2.getD k (0, 0)) := getD_map hk'
    rw [he]
    rcases h4 s hs k hk' with e0 | ⟨u, hu, u1, u2, u3, u4, u5⟩
    · left; rw [e0, shiftJ]; rfl
    · right
      have hp : 0 < (s.2.2.getD k (0, 0)).1 := by have := (h2 u hu).1; omega
      have hs1 := (h2 s hs).1
      rw [shiftJ, if_pos hp]
      refine ⟨shiftS n u, List.mem_map.2 ⟨u, hu, rfl⟩, by show u.1 + n = _ + n; omega, u2, by simpa [shiftS] using u3, fun e => u4 ⟨?_, e.2⟩, ?_⟩
      · have e1 : (s.2.2.getD k (0, 0)).1 + n = s.1 + n := e.1
        omega
      · have hm : (s.2.2.getD k (0, 0)).2.toNat < u.2.2.length := by omega
        have := getD_map (f := shiftJ n) hm
        rw [u5, shiftJ, if_pos (show 0 < ((s.1, (k : Int)) : Jn).1 by show 0 < s.1; omega)] at this
        exact this
theorem shift_not {l : List Sec} {n : Int} {s : Sec} (hs : s ∈ l) (h : 99 < s.1 + n) : chkT (l.map (shiftS n)) = 8 := by
  have hm : ¬ TMay (l.map (shiftS n)) := fun h' => by
    have := ((may_parts h').2.1 (shiftS n s) (List.mem_map.2 ⟨s, hs, rfl⟩)).2.1
    have e : (shiftS n s).1 = s.1 + n := rfl
    omega
  rw [chkT, mayT_false hm]; rfl
theorem last_most {l : List Sec} (h : TMay l) {s : Sec} (hs : s ∈ l) (hp : 0 < l.length) : s.1 ≤ (l[l.length - 1]'(by omega)).1 := by
  obtain ⟨i, hi, rfl⟩ := List.getElem_of_mem hs
  by_cases he : i = l.length - 1
  · subst he; exact Int.le_refl _
  · have := (h.k (l.length - 1) i (by omega) (by omega)).1
    omega
/-- Where an end leads, in both. -/
theorem shift_next {l : List Sec} (h : TMay l) {n : Int} (h0 : 0 ≤ n) (h9 : ∀ s ∈ l, s.1 + n ≤ 99) {i e : Nat} (hi : i < l.length) (he : e < l[i].2.2.length) :
    nextE7 l l[i].1 (e : Int) = 0 ∧ nextE7 (l.map (shiftS n)) (l[i].1 + n) (e : Int) = 0 ∧ nextJ7 (l.map (shiftS n)) (l[i].1 + n) (e : Int) = shiftJ n (nextJ7 l l[i].1 (e : Int)) := by
  obtain ⟨a1, a2⟩ := next_mem h hi he
  have hi' : i < (l.map (shiftS n)).length := by simpa using hi
  have hg : (l.map (shiftS n))[i]'hi' = shiftS n l[i] := List.getElem_map _
  have he' : e < ((l.map (shiftS n))[i]'hi').2.2.length := by rw [hg]; simpa [shiftS] using he
  obtain ⟨b1, b2⟩ := next_mem (shift_may h h0 h9) hi' he'
  rw [hg] at b1 b2
  refine ⟨a1, b1, ?_⟩
  rw [a2]
  exact b2.trans (getD_map he)
end Go.Proofs.Ytnhglgpmmipjaaa
