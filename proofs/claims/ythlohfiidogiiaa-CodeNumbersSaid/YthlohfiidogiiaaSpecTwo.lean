/-
  What follows of Unwrap's plain function: where it refuses, what it hands out, and that what is wrapped is unwrapped.
  Conditions: none.
-/
import Derived.Test.YthlohfiidogiiaaSpec
set_option linter.unusedVariables false
set_option linter.unusedSimpArgs false
namespace Go.Proofs.Ythlohfiidogiiaa

/-- Where Unwrap refuses it answers nothing else. -/
theorem unwrapSpec_no {xs : List UInt8} {x y : Int} (h : (unwrapSpec xs x y).2.2 ≠ 0) : (unwrapSpec xs x y).1 = [] ∧ (unwrapSpec xs x y).2.1 = 0 := by
  unfold unwrapSpec at h ⊢
  by_cases h1 : x < 0 ∨ (xs.length : Int) < x ∨ y < 0 ∨ 65536 < y
  · rw [if_pos h1]; exact ⟨rfl, rfl⟩
  · rw [if_neg h1] at h ⊢
    by_cases h2 : (getSpec xs x).2.2 ≠ 0
    · rw [if_pos h2]; exact ⟨rfl, rfl⟩
    · rw [if_neg h2] at h ⊢
      by_cases h3 : y < (getSpec xs x).1
      · rw [if_pos h3]; exact ⟨rfl, rfl⟩
      · rw [if_neg h3] at h ⊢
        by_cases h4 : (xs.length : Int) < (getSpec xs x).2.1 + (getSpec xs x).1
        · rw [if_pos h4]; exact ⟨rfl, rfl⟩
        · rw [if_neg h4] at h; exact absurd rfl h
theorem unwrapSpec_ok {xs : List UInt8} {x y : Int} (h : (unwrapSpec xs x y).2.2 = 0) : ∃ k n : Nat, x = k ∧ (n : Int) ≤ y ∧ y ≤ 65536 ∧ k + ((bytesOf n).length + n) ≤ xs.length ∧
    unwrapSpec xs x y = ((xs.drop (k + (bytesOf n).length)).take n, (k : Int) + ((bytesOf n).length : Int) + n, 0) ∧ (xs.drop k).take ((bytesOf n).length + n) = bytesOf n ++ (xs.drop (k + (bytesOf n).length)).take n := by
  unfold unwrapSpec at h ⊢
  by_cases h1 : x < 0 ∨ (xs.length : Int) < x ∨ y < 0 ∨ 65536 < y
  · rw [if_pos h1] at h; cases h
  · rw [if_neg h1] at h ⊢
    by_cases h2 : (getSpec xs x).2.2 ≠ 0
    · rw [if_pos h2] at h; exact absurd h h2
    · rw [if_neg h2] at h ⊢
      obtain ⟨k, n, e1, e2, e3, e4, e5, _⟩ := getSpec_ok (Decidable.not_not.1 h2)
      rw [e5] at h ⊢
      dsimp only at h ⊢
      by_cases h3 : y < n
      · rw [if_pos h3] at h; cases h
      · rw [if_neg h3] at h ⊢
        by_cases h4 : (xs.length : Int) < (k : Int) + ((bytesOf n).length : Int) + n
        · rw [if_pos h4] at h; cases h
        · rw [if_neg h4]
          have e6 : ((k : Int) + ((bytesOf n).length : Int)).toNat = k + (bytesOf n).length := by omega
          refine ⟨k, n, e1, by omega, by omega, by omega, by rw [e6, Int.toNat_natCast], ?_⟩
          rw [List.take_add, e4, List.drop_drop]
theorem unwrapSpec_wrap (ahead b behind : List UInt8) (hb : b.length ≤ 65536) : unwrapSpec (ahead ++ (bytesOf b.length ++ b) ++ behind) ahead.length b.length = (b, (ahead.length : Int) + (((bytesOf b.length).length + b.length : Nat) : Int), 0) := by
  have hg := getSpec_put ahead (b ++ behind) (n := b.length) (by omega)
  have e : ahead ++ bytesOf b.length ++ (b ++ behind) = ahead ++ (bytesOf b.length ++ b) ++ behind := by simp
  rw [e] at hg
  unfold unwrapSpec
  rw [hg]
  dsimp only
  have e6 : ((ahead.length : Int) + ((bytesOf b.length).length : Int)).toNat = (ahead ++ bytesOf b.length).length := by simp; omega
  rw [if_neg (by simp only [List.length_append]; omega), if_neg (by decide), if_neg (by omega), if_neg (by simp only [List.length_append]; omega), e6, ← e, Int.toNat_natCast, List.drop_left, List.take_left]
  congr 2
  omega
theorem wrapSpec_ok {xs : List UInt8} (h : xs.length ≤ 65536) : wrapSpec xs = (bytesOf xs.length ++ xs, 0) := by unfold wrapSpec; rw [if_neg (by omega)]
theorem wrapSpec_no {xs : List UInt8} (h : 65536 < xs.length) : wrapSpec xs = ([], 4) := by unfold wrapSpec; rw [if_pos h]
end Go.Proofs.Ythlohfiidogiiaa
