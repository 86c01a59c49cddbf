/-
  Plain facts on a number's digits to 128, lowest first. No program is named here.
  Conditions: none.
-/
set_option linter.unusedVariables false
set_option linter.unusedSimpArgs false
namespace Go.Proofs.Ythlohfiidogiiaa

/-- n without its k lowest digits. -/
def dv (n : Nat) : Nat → Nat
  | 0 => n
  | k + 1 => dv n k / 128

theorem dv_succ (n k : Nat) : dv n (k + 1) = dv n k / 128 := rfl
theorem dv_le (n k : Nat) : dv n k ≤ n := by
  induction k with
  | zero => exact Nat.le_refl _
  | succ k ih => rw [dv_succ]; omega

/-- One digit as it is handed out, and whether it is the last. -/
def dg (n k : Nat) : Int × Bool := (((dv n k : Nat) : Int) % 128, decide (((dv n k : Nat) : Int) < 128))

/-- What has come when k rounds are over. -/
def upto {α : Type} (f : Nat → α) (k : Nat) : List α := (List.range k).map f
theorem upto_succ {α : Type} (f : Nat → α) (k : Nat) : upto f (k + 1) = upto f k ++ [f k] := by simp [upto, List.range_succ]
theorem upto_length {α : Type} (f : Nat → α) (k : Nat) : (upto f k).length = k := by simp [upto]
theorem upto_prefix {α : Type} (f : Nat → α) {k m : Nat} (h : k ≤ m) : upto f k <+: upto f m := by
  induction m with
  | zero => obtain rfl : k = 0 := by omega
            exact List.prefix_refl _
  | succ m ih =>
    by_cases e : k = m + 1
    · subst e; exact List.prefix_refl _
    · exact (ih (by omega)).trans (by rw [upto_succ]; exact List.prefix_append _ _)
/-- A beginning of those is as many of them. -/
theorem prefix_upto {α : Type} (f : Nat → α) {pre : List α} {m : Nat} (h : pre <+: upto f m) : pre = upto f pre.length := by
  have hl := h.length_le
  rw [upto_length] at hl
  have h2 := upto_prefix f hl
  exact List.prefix_of_prefix_length_le h h2 (by rw [upto_length]; exact Nat.le_refl _) |>.eq_of_length (by rw [upto_length])
theorem prefix_snoc_upto {α : Type} (f : Nat → α) {pre : List α} {x : α} {m : Nat} (h : pre ++ [x] <+: upto f m) : pre.length < m ∧ pre = upto f pre.length ∧ x = f pre.length := by
  have h1 := prefix_upto f h
  have hl := h.length_le
  rw [upto_length] at hl
  simp only [List.length_append, List.length_cons, List.length_nil] at hl h1
  rw [upto_succ] at h1
  have := List.append_inj h1 (by rw [upto_length])
  exact ⟨by omega, this.1, by simpa using this.2⟩

/-- A digit's byte. -/
def byt (x : Int × Bool) : UInt8 := if x.2 then UInt8.ofNat x.1.toNat else UInt8.ofNat (x.1 + 128).toNat

/-- A number's bytes. -/
def bytesOf (n : Nat) : List UInt8 := if n < 128 then [UInt8.ofNat n] else UInt8.ofNat (n % 128 + 128) :: bytesOf (n / 128)
termination_by n
decreasing_by omega

theorem dv_shift (n k : Nat) : dv n (k + 1) = dv (n / 128) k := by
  induction k with
  | zero => rfl
  | succ k ih => rw [dv_succ, ih, dv_succ]
theorem dg_shift (n k : Nat) : dg n (k + 1) = dg (n / 128) k := by simp only [dg, dv_shift]
theorem upto_shift {α : Type} (f : Nat → α) (k : Nat) : upto f (k + 1) = f 0 :: upto (fun i => f (i + 1)) k := by
  simp [upto, List.range_succ_eq_map, Function.comp_def]
theorem dg_range (n k : Nat) : 0 ≤ (dg n k).1 ∧ (dg n k).1 < 128 := by simp only [dg]; omega

theorem dg0_last (n : Nat) : (dg n 0).2 = decide (n < 128) := by
  have e : ((n : Int) < 128) = (n < 128) := propext (by omega)
  exact Bool.eq_iff_iff.2 (by rw [dg, decide_eq_true_iff, decide_eq_true_iff, dv, e])
theorem dg0_fst (n : Nat) : (dg n 0).1 = ((n : Nat) : Int) % 128 := rfl
theorem byt0_last {n : Nat} (h : n < 128) : byt (dg n 0) = UInt8.ofNat n := by
  have e : (((n : Nat) : Int) % 128).toNat = n := by omega
  unfold byt
  rw [dg0_last, decide_eq_true h, if_pos rfl, dg0_fst, e]
theorem byt0_more {n : Nat} (h : ¬ n < 128) : byt (dg n 0) = UInt8.ofNat (n % 128 + 128) := by
  have e : (((n : Nat) : Int) % 128 + 128).toNat = n % 128 + 128 := by omega
  unfold byt
  rw [dg0_last, decide_eq_false h, if_neg (by decide), dg0_fst, e]

/-- The digits up to the last one are the number's bytes. -/
theorem bytesOf_upto (k : Nat) : ∀ n, (dg n k).2 = true → (∀ i, i < k → (dg n i).2 = false) → (upto (dg n) (k + 1)).map byt = bytesOf n := by
  induction k with
  | zero =>
    intro n h _
    rw [dg0_last] at h
    have h' := of_decide_eq_true h
    rw [bytesOf, if_pos h', ← byt0_last h']
    rfl
  | succ k ih =>
    intro n h hf
    have h0 := hf 0 (by omega)
    rw [dg0_last] at h0
    have h0' := of_decide_eq_false h0
    have e : (fun i => dg n (i + 1)) = dg (n / 128) := funext fun i => dg_shift n i
    rw [upto_shift, List.map_cons, bytesOf, if_neg h0', byt0_more h0', e]
    rw [ih (n / 128) (by rw [← dg_shift]; exact h) (fun i hi => by rw [← dg_shift]; exact hf (i + 1) (by omega))]

theorem dv_small {n : Nat} (h : n ≤ 2147483647) : dv n 4 < 128 := by simp only [dv]; omega
theorem bytesOf_length_pos (n : Nat) : 0 < (bytesOf n).length := by rw [bytesOf]; split <;> simp
theorem bytesOf_length_le {n : Nat} (h : n ≤ 2147483647) : (bytesOf n).length ≤ 5 := by
  have s : ∀ n, n < 128 → (bytesOf n).length = 1 := fun n h => by rw [bytesOf, if_pos h]; rfl
  have g : ∀ n m, (bytesOf (n / 128)).length ≤ m → (bytesOf n).length ≤ m + 1 := fun n m h => by
    rw [bytesOf]; split
    · simp
    · simpa using h
  exact g _ _ (g _ _ (g _ _ (g _ _ (Nat.le_of_eq (s _ (by omega))))))
end Go.Proofs.Ythlohfiidogiiaa
