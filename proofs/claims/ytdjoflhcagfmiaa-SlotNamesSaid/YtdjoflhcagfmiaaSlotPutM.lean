/-
  A record's writes, as mathematics: what waits on a disk once it is put.
  Conditions: none.
-/
import Derived.Test.YtdjoflhcagfmiaaSlotMath
import Derived.Test.YtdjoflhcagfmiaaDevWrite
set_option linter.unusedVariables false
set_option linter.unusedSimpArgs false
set_option maxRecDepth 100000
namespace Go.Proofs.Ytdjoflhcagfmiaa

/-- The writes of a record. -/
def wrR (g : Nat) (t : Bs) (i : Nat) : Wr := (((slotN g + i : Nat) : Int), secR g (bodyR g t) i)
def putWs (g : Nat) (t : Bs) : List Wr := (List.range (cntR t)).map (wrR g t)
theorem putWs_length (g : Nat) (t : Bs) : (putWs g t).length = cntR t := by simp [putWs]
theorem putWs_at {g : Nat} {t : Bs} {i : Nat} (h : i < cntR t) : (putWs g t)[i]? = some (wrR g t i) := by simp [putWs, List.getElem?_range h]
def putE (ss : List Bs) (ws : List Wr) (g : Nat) (t : Bs) : Int :=
  if mayB ss ws then (if g = 0 then 2 else if 1882 < t.length then 3 else if 256 < ws.length + cntR t then 9 else 0) else 8
def putS (ss : List Bs) (ws : List Wr) (g : Nat) (t : Bs) : List Bs := if putE ss ws g t = 0 then ss else []
def putW (ss : List Bs) (ws : List Wr) (g : Nat) (t : Bs) : List Wr := if putE ss ws g t = 0 then ws ++ putWs g t else []
theorem slotN_cases (g : Nat) : slotN g = 0 ∨ slotN g = 16 := by
  unfold slotN
  rcases Nat.mod_two_eq_zero_or_one g with h | h <;> rw [h] <;> simp
theorem slotN_le (g : Nat) : slotN g ≤ 16 := by rcases slotN_cases g with h | h <;> omega
theorem wrR_ok {g : Nat} {t : Bs} {i : Nat} (hi : i < 16) : okW (wrR g t i) := by
  have := slotN_le g
  exact ⟨by show (0 : Int) ≤ ((slotN g + i : Nat) : Int); omega, by show ((slotN g + i : Nat) : Int) < 32; omega, secR_length _ _ _⟩
theorem putWs_ok {g : Nat} {t : Bs} (ht : t.length ≤ 1882) : ∀ x ∈ putWs g t, okW x := by
  intro x hx
  obtain ⟨i, hi, rfl⟩ := List.mem_map.1 hx
  exact wrR_ok (by have := List.mem_range.1 hi; have := cntR_le ht; omega)
theorem may_part {ss : List Bs} {ws : List Wr} {g : Nat} {t : Bs} (h : May ss ws) (ht : t.length ≤ 1882) {i : Nat} (hi : ws.length + i ≤ 256) : May ss (ws ++ (putWs g t).take i) :=
  ⟨h.n, by rw [List.length_append, List.length_take]; omega, h.s, fun x hx => by
    rcases List.mem_append.1 hx with hx | hx
    · exact h.w x hx
    · exact putWs_ok ht x (List.mem_of_mem_take hx)⟩
theorem part_snoc (ws : List Wr) {g : Nat} {t : Bs} {i : Nat} (hi : i < cntR t) : ws ++ (putWs g t).take (i + 1) = (ws ++ (putWs g t).take i) ++ [wrR g t i] := by
  rw [List.take_add_one, putWs_at hi, Option.toList_some, List.append_assoc]
theorem part_writeE {ss : List Bs} {ws : List Wr} {g : Nat} {t : Bs} (h : May ss ws) (ht : t.length ≤ 1882) {i : Nat} (hi : ws.length + i ≤ 256) (hin : i < cntR t) :
    writeE ss (ws ++ (putWs g t).take i) ((slotN g + i : Nat) : Int) (secR g (bodyR g t) i) = if ws.length + i = 256 then 9 else 0 := by
  have h16 := cntR_le ht
  have hs := slotN_le g
  have hm := mayB_iff.2 (may_part (g := g) h ht hi)
  have hl : (ws ++ (putWs g t).take i).length = ws.length + i := by rw [List.length_append, List.length_take, putWs_length]; omega
  rw [writeE, atE, hm, if_pos rfl, if_pos (by omega : (0 : Int) ≤ ((slotN g + i : Nat) : Int) ∧ ((slotN g + i : Nat) : Int) < 32)]; simp only [↓reduceIte]; rw [if_pos (secR_length _ _ _), hl]
end Go.Proofs.Ytdjoflhcagfmiaa
