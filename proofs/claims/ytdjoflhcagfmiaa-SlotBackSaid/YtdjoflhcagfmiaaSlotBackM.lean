/-
  What is found once one record, and once two records were put, as mathematics.
  Conditions: none.
-/
import Derived.Test.YtdjoflhcagfmiaaSlotAlive
set_option linter.unusedVariables false
set_option linter.unusedSimpArgs false
set_option maxRecDepth 100000
namespace Go.Proofs.Ytdjoflhcagfmiaa

theorem putE_bad {ss : List Bs} {ws : List Wr} {g : Nat} {t : Bs} (h : mayB ss ws = false) : putE ss ws g t = 8 := by rw [putE, h]; rfl
theorem putE_zero {ss : List Bs} {ws : List Wr} {g : Nat} {t : Bs} (hg : g < 4294967296) (h : putE ss ws g t = 0) : May ss ws ∧ okR g t ∧ ws.length + cntR t ≤ 256 ∧ putS ss ws g t = ss ∧ putW ss ws g t = ws ++ putWs g t := by
  have hS : putS ss ws g t = ss := by rw [putS, if_pos h]
  have hW : putW ss ws g t = ws ++ putWs g t := by rw [putW, if_pos h]
  rw [putE] at h
  split at h
  · rename_i hm
    split at h
    · cases h
    · split at h
      · cases h
      · split at h
        · cases h
        · exact ⟨mayB_iff.1 hm, ⟨by omega, hg, by omega⟩, by omega, hS, hW⟩
  · cases h
theorem one_of {α : Type} {l : List α} (h : l.length = 1) : ∃ x, l = [x] := by
  match l, h with
  | [x], _ => exact ⟨x, rfl⟩
theorem find_halves {V : List Bs} (h : (findL V).length = 2) : ∃ x y, halfL V 0 = [x] ∧ halfL V 16 = [y] := by
  rw [findL, sortL_length, List.length_append] at h
  have h1 := halfL_le V 0
  have h2 := halfL_le V 16
  obtain ⟨x, hx⟩ := one_of (show (halfL V 0).length = 1 by omega)
  obtain ⟨y, hy⟩ := one_of (show (halfL V 16).length = 1 by omega)
  exact ⟨x, y, hx, hy⟩
theorem find_two {V : List Bs} (h : May V []) {a b : Rc} (hl : findL V = [a, b]) : b.1 < a.1 ∧ slotN a.1 ≠ slotN b.1 := by
  obtain ⟨x, y, hx, hy⟩ := find_halves (V := V) (by rw [hl]; rfl)
  have sx : slotN x.1 = 0 := half_slot h (by omega) (by rw [hx]; simp)
  have sy : slotN y.1 = 16 := half_slot h (by omega) (by rw [hy]; simp)
  rw [findL, hx, hy] at hl
  have hs : (if x.1 < y.1 then [y, x] else [x, y]) = [a, b] := hl
  have hne : x.1 ≠ y.1 := fun e => by rw [e, sy] at sx; omega
  split at hs
  · cases hs
    exact ⟨by assumption, by rw [sx, sy]; omega⟩
  · cases hs
    exact ⟨by omega, by rw [sx, sy]; omega⟩
theorem back_find {ss : List Bs} {ws : List Wr} {g : Nat} {t : Bs} {g' : Nat} {t' : Bs} (h : May ss ws) (hok : okR g t) (hok' : okR g' t') (hr : ws.length + cntR t' + cntR t ≤ 256) (hne : slotN g ≠ slotN g') :
    halfL (viewL ss ((ws ++ putWs g' t') ++ putWs g t)) (slotN g) = [(g, t)] ∧ halfL (viewL ss ((ws ++ putWs g' t') ++ putWs g t)) (slotN g') = [(g', t')] := by
  have hm := put_may (g := g') h hok'.2.2 (by omega)
  have hl : (ws ++ putWs g' t').length + cntR t ≤ 256 := by rw [List.length_append, putWs_length]; omega
  refine ⟨put_whole hm hok hl, ?_⟩
  have e : slotN g' = 16 - slotN g := by rcases slotN_cases g with h1 | h1 <;> rcases slotN_cases g' with h2 | h2 <;> omega
  rw [e, put_otherL hm hok hl, ← e]
  exact put_whole h hok' (by omega)
theorem back_two {ss : List Bs} {ws : List Wr} {g : Nat} {t : Bs} {g' : Nat} {t' : Bs} (h : May ss ws) (hok : okR g t) (hok' : okR g' t') (hr : ws.length + cntR t' + cntR t ≤ 256) (hne : slotN g ≠ slotN g') :
    ∃ x y, findR ss ((ws ++ putWs g' t') ++ putWs g t) = [x, y] ∧ findR ss ((ws ++ putWs g t) ++ putWs g' t') = [x, y] := by
  obtain ⟨a1, a2⟩ := back_find h hok hok' hr hne
  obtain ⟨b1, b2⟩ := back_find h hok' hok (by omega) (Ne.symm hne)
  have m1 : May ss ((ws ++ putWs g' t') ++ putWs g t) := put_may (put_may h hok'.2.2 (by omega)) hok.2.2 (by rw [List.length_append, putWs_length]; omega)
  have m2 : May ss ((ws ++ putWs g t) ++ putWs g' t') := put_may (put_may h hok.2.2 (by omega)) hok'.2.2 (by rw [List.length_append, putWs_length]; omega)
  rw [findR_may m1, findR_may m2]
  generalize viewL ss ((ws ++ putWs g' t') ++ putWs g t) = V1 at *
  generalize viewL ss ((ws ++ putWs g t) ++ putWs g' t') = V2 at *
  have two : ∀ p q : Rc, ∃ x y, sortL [p, q] = [x, y] := fun p q => by
    show ∃ x y, (if p.1 < q.1 then [q, p] else [p, q]) = [x, y]
    split
    · exact ⟨_, _, rfl⟩
    · exact ⟨_, _, rfl⟩
  rcases slotN_cases g with h1 | h1
  · have h2 : slotN g' = 16 := by rcases slotN_cases g' with h2 | h2 <;> omega
    rw [h1] at a1 b2
    rw [h2] at a2 b1
    obtain ⟨x, y, e⟩ := two (g, t) (g', t')
    exact ⟨x, y, by rw [findL, a1, a2]; exact e, by rw [findL, b1, b2]; exact e⟩
  · have h2 : slotN g' = 0 := by rcases slotN_cases g' with h2 | h2 <;> omega
    rw [h1] at a1 b2
    rw [h2] at a2 b1
    obtain ⟨x, y, e⟩ := two (g', t') (g, t)
    exact ⟨x, y, by rw [findL, a1, a2]; exact e, by rw [findL, b1, b2]; exact e⟩
end Go.Proofs.Ytdjoflhcagfmiaa
