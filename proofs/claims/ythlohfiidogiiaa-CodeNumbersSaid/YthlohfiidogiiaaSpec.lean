/-
  What Put, Get, Wrap and Unwrap answer, as plain functions of numbers and lists of bytes, and what follows of them: a number is read where it was written, and only as it is written.
  Conditions: none.
-/
import Derived.Test.YthlohfiidogiiaaScan
set_option linter.unusedVariables false
set_option linter.unusedSimpArgs false
namespace Go.Proofs.Ythlohfiidogiiaa

def putSpec (x : Int) : List UInt8 × Int := if x < 0 ∨ 2147483647 < x then ([], 2) else (bytesOf x.toNat, 0)
def getSpec (xs : List UInt8) (x : Int) : Int × Int × Int :=
  if x < 0 ∨ (xs.length : Int) < x then (0, 0, 2) else
    if (scan 0 0 ((xs.drop x.toNat).take 5)).2 = 0 then (0, 0, 8) else (((scan 0 0 ((xs.drop x.toNat).take 5)).1 : Int), x + ((scan 0 0 ((xs.drop x.toNat).take 5)).2 : Int), 0)
def wrapSpec (xs : List UInt8) : List UInt8 × Int := if 65536 < xs.length then ([], 4) else (bytesOf xs.length ++ xs, 0)
def unwrapSpec (xs : List UInt8) (x y : Int) : List UInt8 × Int × Int :=
  if x < 0 ∨ (xs.length : Int) < x ∨ y < 0 ∨ 65536 < y then ([], 0, 2) else
    if (getSpec xs x).2.2 ≠ 0 then ([], 0, (getSpec xs x).2.2) else
      if y < (getSpec xs x).1 then ([], 0, 4) else
        if (xs.length : Int) < (getSpec xs x).2.1 + (getSpec xs x).1 then ([], 0, 8) else
          ((xs.drop (getSpec xs x).2.1.toNat).take (getSpec xs x).1.toNat, (getSpec xs x).2.1 + (getSpec xs x).1, 0)

theorem scan_cons (n s : Nat) (x : UInt8) (r : List UInt8) : scan n s (x :: r) = if 2147483647 / 2 ^ (7 * s) < x.toNat % 128 then (0, 0) else
      if x.toNat < 128 then (if x.toNat % 128 = 0 ∧ 0 < s then (0, 0) else (n + x.toNat % 128 * 2 ^ (7 * s), s + 1))
      else scan (n + x.toNat % 128 * 2 ^ (7 * s)) (s + 1) r := rfl

theorem toNat_ofNat_lt {n : Nat} (h : n < 256) : (UInt8.ofNat n).toNat = n := by rw [UInt8.toNat_ofNat']; omega
theorem pow_succ7 (s : Nat) : 2 ^ (7 * (s + 1)) = 128 * 2 ^ (7 * s) := by rw [Nat.mul_add, Nat.pow_add]; omega

/-- What is written is read. -/
theorem scan_bytes (q : Nat) : ∀ (m s : Nat) (r : List UInt8), q * 2 ^ (7 * s) ≤ 2147483647 → (0 < s → 0 < q) → scan m s (bytesOf q ++ r) = (m + q * 2 ^ (7 * s), s + (bytesOf q).length) := by
  induction q using Nat.strongRecOn with
  | _ q ih =>
    intro m s r hq hs
    have hp : 0 < 2 ^ (7 * s) := Nat.pow_pos (by decide)
    have hql : q ≤ 2147483647 / 2 ^ (7 * s) := (Nat.le_div_iff_mul_le hp).2 hq
    by_cases h : q < 128
    · have e : bytesOf q = [UInt8.ofNat q] := by rw [bytesOf, if_pos h]
      rw [e, List.cons_append, scan_cons, toNat_ofNat_lt (by omega), Nat.mod_eq_of_lt h, if_neg (by omega), if_pos h, if_neg (by omega)]
      rfl
    · have e : bytesOf q = UInt8.ofNat (q % 128 + 128) :: bytesOf (q / 128) := by rw [bytesOf, if_neg h]
      have hm : (q % 128 + 128) % 128 = q % 128 := by omega
      have hd : q / 128 * (128 * 2 ^ (7 * s)) + q % 128 * 2 ^ (7 * s) = q * 2 ^ (7 * s) := by
        rw [← Nat.mul_assoc, ← Nat.add_mul]
        congr 1
        omega
      rw [e, List.cons_append, scan_cons, toNat_ofNat_lt (by omega), hm, if_neg (by omega), if_neg (by omega), ih (q / 128) (by omega) _ _ _ (by rw [pow_succ7]; omega) (by omega), pow_succ7, List.length_cons]
      congr 1
      · omega
      · omega

theorem pile_le {q d p : Nat} (h : q * (128 * p) ≤ 2147483647) (hd : d < 128) (hp : p = 1 ∨ p = 128 ∨ p = 16384 ∨ p = 2097152) : (d + 128 * q) * p ≤ 2147483647 := by
  rcases hp with rfl | rfl | rfl | rfl
  · have a : q ≤ 16777215 := (Nat.le_div_iff_mul_le (by decide)).2 h
    exact Nat.le_trans (Nat.mul_le_mul_right 1 (show d + 128 * q ≤ 2147483647 by omega)) (by decide)
  · have a : q ≤ 131071 := (Nat.le_div_iff_mul_le (by decide)).2 h
    exact Nat.le_trans (Nat.mul_le_mul_right 128 (show d + 128 * q ≤ 16777215 by omega)) (by decide)
  · have a : q ≤ 1023 := (Nat.le_div_iff_mul_le (by decide)).2 h
    exact Nat.le_trans (Nat.mul_le_mul_right 16384 (show d + 128 * q ≤ 131071 by omega)) (by decide)
  · have a : q ≤ 7 := (Nat.le_div_iff_mul_le (by decide)).2 h
    exact Nat.le_trans (Nat.mul_le_mul_right 2097152 (show d + 128 * q ≤ 1023 by omega)) (by decide)

/-- What is read is written so. -/
theorem scan_sound (l : List UInt8) : ∀ (m s n t : Nat), scan m s l = (n, t) → t ≠ 0 → ∃ q, n = m + q * 2 ^ (7 * s) ∧ q * 2 ^ (7 * s) ≤ 2147483647 ∧ t = s + (bytesOf q).length ∧ bytesOf q <+: l ∧ (0 < s → 0 < q) := by
  induction l with
  | nil => intro m s n t h ht; simp only [scan, Prod.mk.injEq] at h; omega
  | cons x r ih =>
    intro m s n t h ht
    have hp : 0 < 2 ^ (7 * s) := Nat.pow_pos (by decide)
    have hx := x.toNat_lt
    rw [scan_cons] at h
    by_cases hbig : 2147483647 / 2 ^ (7 * s) < x.toNat % 128
    · rw [if_pos hbig] at h; simp only [Prod.mk.injEq] at h; omega
    · rw [if_neg hbig] at h
      have hle : x.toNat % 128 * 2 ^ (7 * s) ≤ 2147483647 := (Nat.le_div_iff_mul_le hp).1 (by omega)
      by_cases hlast : x.toNat < 128
      · rw [if_pos hlast] at h
        by_cases hz : x.toNat % 128 = 0 ∧ 0 < s
        · rw [if_pos hz] at h; simp only [Prod.mk.injEq] at h; omega
        · rw [if_neg hz] at h
          simp only [Prod.mk.injEq] at h
          have e : bytesOf (x.toNat % 128) = [x] := by rw [bytesOf, if_pos (by omega), Nat.mod_eq_of_lt hlast]; simp
          exact ⟨x.toNat % 128, h.1.symm, hle, by rw [e]; exact h.2.symm, by rw [e]; exact ⟨r, rfl⟩, by omega⟩
      · rw [if_neg hlast] at h
        obtain ⟨q, h1, h2, h3, h4, h5⟩ := ih _ _ _ _ h ht
        have hq := h5 (by omega)
        rw [pow_succ7] at h1 h2
        have hs : s = 0 ∨ s = 1 ∨ s = 2 ∨ s = 3 := by
          by_cases h4s : s ≤ 3
          · omega
          · exfalso
            have : 2 ^ 28 ≤ 2 ^ (7 * s) := Nat.pow_le_pow_right (by decide) (by omega)
            have : 1 * (128 * 2 ^ (7 * s)) ≤ q * (128 * 2 ^ (7 * s)) := Nat.mul_le_mul_right _ hq
            omega
        have e : bytesOf (x.toNat % 128 + 128 * q) = x :: bytesOf q := by
          have e1 : (x.toNat % 128 + 128 * q) % 128 + 128 = x.toNat := by omega
          have e2 : (x.toNat % 128 + 128 * q) / 128 = q := by omega
          have e3 : ¬ x.toNat % 128 + 128 * q < 128 := by omega
          generalize x.toNat % 128 + 128 * q = z at e1 e2 e3 ⊢
          rw [bytesOf, if_neg e3, e1, e2, UInt8.ofNat_toNat]
        have h7 : bytesOf (x.toNat % 128 + 128 * q) <+: x :: r := e ▸ List.cons_prefix_cons.2 ⟨rfl, h4⟩
        have h6 : t = s + (bytesOf (x.toNat % 128 + 128 * q)).length := by
          have := congrArg List.length e
          rw [List.length_cons] at this
          omega
        refine ⟨x.toNat % 128 + 128 * q, ?_, ?_, h6, h7, by omega⟩
        · rw [h1, Nat.add_mul, Nat.mul_assoc 128 q, Nat.mul_left_comm 128 q]; omega
        · exact pile_le h2 (by omega) (by rcases hs with rfl | rfl | rfl | rfl <;> simp)

/-- A number read: what it is, and that its bytes stand there. -/
theorem getSpec_ok {xs : List UInt8} {x : Int} (h : (getSpec xs x).2.2 = 0) : ∃ k n : Nat, x = k ∧ k + (bytesOf n).length ≤ xs.length ∧ n ≤ 2147483647 ∧ (xs.drop k).take (bytesOf n).length = bytesOf n ∧ getSpec xs x = ((n : Int), (k : Int) + ((bytesOf n).length : Int), 0) ∧ scan 0 0 ((xs.drop k).take 5) = (n, (bytesOf n).length) := by
  unfold getSpec at h ⊢
  by_cases h1 : x < 0 ∨ (xs.length : Int) < x
  · rw [if_pos h1] at h; cases h
  · rw [if_neg h1] at h ⊢
    obtain ⟨k, rfl⟩ : ∃ k : Nat, x = k := ⟨x.toNat, by omega⟩
    rw [Int.toNat_natCast] at h ⊢
    generalize hr : scan 0 0 ((xs.drop k).take 5) = r at h ⊢
    obtain ⟨n, s⟩ := r
    by_cases h2 : s = 0
    · rw [if_pos h2] at h; cases h
    · rw [if_neg h2]
      obtain ⟨q, e1, e2, e3, e4, _⟩ := scan_sound _ _ _ _ _ hr h2
      simp only [Nat.mul_zero, Nat.pow_zero, Nat.mul_one, Nat.zero_add] at e1 e2 e3
      subst e1
      subst e3
      have hl := e4.length_le
      rw [List.length_take, List.length_drop] at hl
      refine ⟨k, n, rfl, by omega, e2, ?_, rfl, hr⟩
      have := List.prefix_iff_eq_take.1 (e4.trans (List.take_prefix 5 (xs.drop k)))
      exact this.symm
theorem getSpec_no {xs : List UInt8} {x : Int} (h : (getSpec xs x).2.2 ≠ 0) : (getSpec xs x).1 = 0 ∧ (getSpec xs x).2.1 = 0 := by
  unfold getSpec at h ⊢
  split
  · exact ⟨rfl, rfl⟩
  · split
    · exact ⟨rfl, rfl⟩
    · rename_i h1 h2; rw [if_neg h1, if_neg h2] at h; exact absurd rfl h
/-- What was put is got, whatever stands around it. -/
theorem getSpec_put (ahead behind : List UInt8) {n : Nat} (hn : n ≤ 2147483647) : getSpec (ahead ++ bytesOf n ++ behind) ahead.length = ((n : Int), (ahead.length : Int) + ((bytesOf n).length : Int), 0) := by
  have hl := bytesOf_length_le hn
  have e : ((ahead ++ bytesOf n ++ behind).drop ahead.length).take 5 = bytesOf n ++ behind.take (5 - (bytesOf n).length) := by
    rw [List.append_assoc, List.drop_left, List.take_append, List.take_of_length_le hl]
  unfold getSpec
  rw [if_neg (by simp only [List.length_append]; omega), Int.toNat_natCast, e, scan_bytes n 0 0 _ (by simpa using hn) (by omega)]
  have hp := bytesOf_length_pos n
  rw [if_neg (by simp only [Nat.zero_add]; omega)]
  simp
end Go.Proofs.Ythlohfiidogiiaa
