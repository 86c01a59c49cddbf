/-
  Ways through a section: as they lead there they lead back, and how many there are.
  Conditions: none.
-/
import Derived.Test.YtnhglgpmmipjaaaTrkOwn
set_option linter.unusedVariables false
set_option linter.unusedSimpArgs false
set_option maxRecDepth 100000
namespace Go.Proofs.Ytnhglgpmmipjaaa
open Go.RowKit

theorem lie_sym (pt a b : Int) : lieS pt a b = lieS pt b a := by
  unfold lieS
  split
  · split <;> split <;> omega
  · (repeat' split) <;> omega
theorem lie_inj (pt a b j : Int) (h : 0 ≤ lieS pt a b) (he : lieS pt a j = lieS pt a b) : j = b := by
  unfold lieS at *
  split at h
  · rename_i h0
    rw [if_pos h0, if_pos h0] at he
    split at he <;> split at he <;> omega
  · rename_i h0
    rw [if_neg h0, if_neg h0] at he
    (repeat' split at he) <;> omega
theorem thrE_sym (s : Sec) (a b : Int) : thrE s b a = thrE s a b := by rw [thrE, thrE, lie_sym]
theorem thrL_sym (s : Sec) (a b : Int) : thrL s b a = thrL s a b := by rw [thrL, thrL, thrE_sym, lie_sym]
theorem thr_zero {s : Sec} {a b : Int} (h : thrE s a b = 0) : shapedB s = true ∧ 0 ≤ lieS s.2.1 a b ∧ thrL s a b = lieS s.2.1 a b := by
  have h' := h
  rw [thrE] at h
  split at h
  · split at h
    · omega
    · exact ⟨by assumption, by omega, by rw [thrL, if_pos h']⟩
  · omega
theorem shaped_len {s : Sec} (h : shapedB s = true) : (s.2.1 = 0 ∧ s.2.2.length = 2) ∨ (s.2.1 ≠ 0 ∧ s.2.2.length = 3) := by
  rw [shapedB] at h
  split at h
  · exact .inl ⟨by assumption, of_decide_eq_true h⟩
  · simp at h; exact .inr ⟨by assumption, h.2.2⟩
theorem lie_range {s : Sec} {a b : Int} (h : shapedB s = true) (hl : 0 ≤ lieS s.2.1 a b) : 0 ≤ a ∧ a < s.2.2.length ∧ 0 ≤ b ∧ b < s.2.2.length ∧ a ≠ b := by
  have hs := shaped_len h
  unfold lieS at hl
  rcases hs with ⟨h0, h1⟩ | ⟨h0, h1⟩
  · rw [if_pos h0] at hl
    rw [h1]
    split at hl <;> omega
  · rw [if_neg h0] at hl
    rw [h1]
    (repeat' split at hl) <;> omega
theorem out_of_thr {s : Sec} {a b : Int} (h : thrE s a b = 0) : outE s a (thrL s a b) = 0 ∧ outV s a (thrL s a b) = b ∧ 0 ≤ a ∧ a < s.2.2.length ∧ a ≠ b := by
  obtain ⟨h1, h2, h3⟩ := thr_zero h
  obtain ⟨r1, r2, r3, r4, r5⟩ := lie_range h1 h2
  rw [h3]
  obtain ⟨t, rfl⟩ : ∃ t : Nat, b = (t : Int) := ⟨b.toNat, by omega⟩
  have hT : outT s a (lieS s.2.1 a (t : Int)) = some t := outT_some (by omega) rfl (fun j hj he => by have := lie_inj _ _ _ _ h2 he; omega)
  have hE : outE s a (lieS s.2.1 a (t : Int)) = 0 := by rw [outE, if_pos h1, if_neg (by omega), hT]
  exact ⟨hE, by rw [outV, if_pos hE, hT], r1, r2, r5⟩
theorem thr_of_out {s : Sec} {a lie : Int} (h : outE s a lie = 0) : thrE s a (outV s a lie) = 0 ∧ thrL s a (outV s a lie) = lie := by
  have h' := h
  rw [outE] at h
  split at h
  · rename_i hs
    split at h
    · omega
    · rename_i hl
      cases hT : outT s a lie with
      | none => rw [hT] at h; simp at h
      | some t =>
        have hV : outV s a lie = (t : Int) := by rw [outV, if_pos h', hT]
        have hlie : lieS s.2.1 a (t : Int) = lie := by
          rw [outT] at hT
          simpa using List.find?_some hT
        have hE : thrE s a (t : Int) = 0 := by rw [thrE, if_pos hs, hlie, if_neg hl]
        rw [hV]
        exact ⟨hE, by rw [thrL, if_pos hE, hlie]⟩
  · omega
/-- How many ways: from one end, to the first ends; from the first ends. -/
def cntB (s : Sec) (a : Int) : Nat → Nat
  | 0 => 0
  | j + 1 => cntB s a j + if thrE s a ((j : Int) - 1) = 0 then 1 else 0
def cntA (s : Sec) : Nat → Nat
  | 0 => 0
  | i + 1 => cntA s i + cntB s ((i : Int) - 1) 6
theorem cntB_le (s : Sec) (a : Int) : ∀ j, cntB s a j ≤ j
  | 0 => Nat.le_refl _
  | j + 1 => by have := cntB_le s a j; rw [cntB]; split <;> omega
theorem cntA_le (s : Sec) : ∀ i, cntA s i ≤ 6 * i
  | 0 => Nat.le_refl _
  | i + 1 => by have := cntA_le s i; have := cntB_le s ((i : Int) - 1) 6; rw [cntA]; omega
theorem cnt_not {s : Sec} (h : shapedB s = false) : thrE s 0 1 = 8 ∧ cntA s 6 = 0 := by
  have hE : ∀ a b, thrE s a b = 8 := fun a b => by rw [thrE, h]; rfl
  exact ⟨hE 0 1, by simp [cntA, cntB, hE]⟩
theorem cnt_is {s : Sec} (h : shapedB s = true) : thrE s 0 1 = 0 ∧ ((s.2.2.length = 2 ∧ cntA s 6 = 2) ∨ (s.2.2.length = 3 ∧ cntA s 6 = 4)) := by
  have hE : ∀ a b, thrE s a b = if lieS s.2.1 a b < 0 then 2 else 0 := fun a b => by rw [thrE, h]; rfl
  rcases shaped_len h with ⟨h0, h1⟩ | ⟨h0, h1⟩
  · have hL : ∀ a b, thrE s a b = if lieS 0 a b < 0 then 2 else 0 := fun a b => by rw [hE, h0]
    exact ⟨by rw [hL]; decide, .inl ⟨h1, by simp only [cntA, cntB, hL]; decide⟩⟩
  · have hP : ∀ a b, lieS s.2.1 a b = lieS 1 a b := fun a b => by unfold lieS; rw [if_neg h0, if_neg (show ¬ (1 : Int) = 0 by decide)]
    have hL : ∀ a b, thrE s a b = if lieS 1 a b < 0 then 2 else 0 := fun a b => by rw [hE, hP]
    exact ⟨by rw [hL]; decide, .inr ⟨h1, by simp only [cntA, cntB, hL]; decide⟩⟩
end Go.Proofs.Ytnhglgpmmipjaaa
