/-
  The number that some digits make, and when the document's own reading of a number agrees with the plain function.
  Conditions: none.
-/
import Derived.Test.YthlohfiidogiiaaSpecTwo
set_option linter.unusedVariables false
set_option linter.unusedSimpArgs false
namespace Go.Proofs.Ythlohfiidogiiaa

def val : List UInt8 → Nat
  | [] => 0
  | x :: r => x.toNat % 128 + 128 * val r

theorem val_snoc (p : List UInt8) (x : UInt8) : val (p ++ [x]) = val p + x.toNat % 128 * 128 ^ p.length := by
  induction p with
  | nil => simp [val]
  | cons y r ih =>
    have e : 128 * (x.toNat % 128 * 128 ^ r.length) = x.toNat % 128 * (128 ^ r.length * 128) := by rw [Nat.mul_comm 128, Nat.mul_assoc]
    rw [List.cons_append, val, ih, val, List.length_cons, Nat.pow_succ, Nat.mul_add, e, Nat.add_assoc]
theorem val_lt (p : List UInt8) : val p < 128 ^ p.length := by
  induction p with
  | nil => simp [val]
  | cons y r ih => rw [val, List.length_cons, Nat.pow_succ]; omega

/-- A number's bytes: the last one is below 128, the others are not; and they make the number. -/
theorem bytesOf_shape (n : Nat) : val (bytesOf n) = n ∧ ∃ p x, bytesOf n = p ++ [x] ∧ x.toNat < 128 ∧ ∀ y ∈ p, 128 ≤ y.toNat := by
  induction n using Nat.strongRecOn with
  | _ n ih =>
    by_cases h : n < 128
    · have e : bytesOf n = [UInt8.ofNat n] := by rw [bytesOf, if_pos h]
      rw [e]
      refine ⟨?_, [], _, rfl, ?_, by simp⟩
      · rw [val, val, toNat_ofNat_lt (by omega)]; omega
      · rw [toNat_ofNat_lt (by omega)]; exact h
    · have e : bytesOf n = UInt8.ofNat (n % 128 + 128) :: bytesOf (n / 128) := by rw [bytesOf, if_neg h]
      obtain ⟨h1, p, x, h2, h3, h4⟩ := ih (n / 128) (by omega)
      rw [e]
      refine ⟨?_, UInt8.ofNat (n % 128 + 128) :: p, x, by rw [h2]; rfl, h3, ?_⟩
      · rw [val, h1, toNat_ofNat_lt (by omega)]; omega
      · intro y hy
        rcases List.mem_cons.1 hy with rfl | hy
        · rw [toNat_ofNat_lt (by omega)]; omega
        · exact h4 y hy

/-- Two beginnings of one list that end at the first byte below 128 are one. -/
theorem first_last {l p q : List UInt8} {x y : UInt8} (hp : p ++ [x] <+: l) (hq : q ++ [y] <+: l) (hx : x.toNat < 128) (hy : y.toNat < 128) (hpa : ∀ z ∈ p, 128 ≤ z.toNat) (hqa : ∀ z ∈ q, 128 ≤ z.toNat) : p ++ [x] = q ++ [y] := by
  have key : ∀ {p q : List UInt8} {x y : UInt8}, p ++ [x] <+: q ++ [y] → x.toNat < 128 → (∀ z ∈ q, 128 ≤ z.toNat) → p ++ [x] = q ++ [y] := by
    intro p q x y h hx hqa
    by_cases hl : (p ++ [x]).length = (q ++ [y]).length
    · exact h.eq_of_length hl
    · have hlt := h.length_le
      have h2 : p ++ [x] <+: q := List.prefix_of_prefix_length_le h (List.prefix_append q [y]) (by simp at hl hlt ⊢; omega)
      have := hqa x (h2.subset (by simp))
      omega
  rcases Nat.le_total (p ++ [x]).length (q ++ [y]).length with h | h
  · exact key (List.prefix_of_prefix_length_le hp hq h) hx hqa
  · exact (key (List.prefix_of_prefix_length_le hq hp h) hy hpa).symm

theorem getSpec_at {xs : List UInt8} {k : Nat} (hk : k ≤ xs.length) : getSpec xs k = if (scan 0 0 ((xs.drop k).take 5)).2 = 0 then (0, 0, 8) else (((scan 0 0 ((xs.drop k).take 5)).1 : Int), (k : Int) + ((scan 0 0 ((xs.drop k).take 5)).2 : Int), 0) := by
  unfold getSpec
  rw [if_neg (by omega), Int.toNat_natCast]

/-- No byte below 128 among the first five: no number. -/
theorem getSpec_none {xs : List UInt8} {k : Nat} (hk : k ≤ xs.length) (h : ∀ z ∈ (xs.drop k).take 5, 128 ≤ z.toNat) : getSpec xs k = (0, 0, 8) := by
  rw [getSpec_at hk]
  generalize hr : scan 0 0 ((xs.drop k).take 5) = r
  obtain ⟨n, s⟩ := r
  by_cases h2 : s = 0
  · rw [if_pos h2]
  · obtain ⟨q, _, _, _, e4, _⟩ := scan_sound _ _ _ _ _ hr h2
    obtain ⟨_, p, x, e5, e6, _⟩ := bytesOf_shape q
    rw [e5] at e4
    have := h x (e4.subset (by simp))
    omega
/-- At the first byte below 128: the number, if these are its bytes. -/
theorem getSpec_last {xs p : List UInt8} {x : UInt8} {k : Nat} (hk : k ≤ xs.length) (hp : p ++ [x] <+: (xs.drop k).take 5) (hx : x.toNat < 128) (hpa : ∀ z ∈ p, 128 ≤ z.toNat) :
    getSpec xs k = if val (p ++ [x]) ≤ 2147483647 ∧ bytesOf (val (p ++ [x])) = p ++ [x] then ((val (p ++ [x]) : Int), (k : Int) + ((p.length + 1 : Nat) : Int), 0) else (0, 0, 8) := by
  rw [getSpec_at hk]
  by_cases h : val (p ++ [x]) ≤ 2147483647 ∧ bytesOf (val (p ++ [x])) = p ++ [x]
  · rw [if_pos h]
    obtain ⟨r, hr⟩ := hp
    have hs := scan_bytes (val (p ++ [x])) 0 0 r (by simpa using h.1) (by omega)
    rw [h.2, hr] at hs
    rw [hs, if_neg (by simp)]
    simp
  · rw [if_neg h]
    generalize hr : scan 0 0 ((xs.drop k).take 5) = r
    obtain ⟨n, s⟩ := r
    by_cases h2 : s = 0
    · rw [if_pos h2]
    · exfalso
      obtain ⟨q, _, e2, _, e4, _⟩ := scan_sound _ _ _ _ _ hr h2
      obtain ⟨e0, p', x', e5, e6, e7⟩ := bytesOf_shape q
      have e8 := e4
      rw [e5] at e8
      have e9 := first_last hp e8 hx e6 hpa e7
      rw [← e5] at e9
      apply h
      rw [e9, e0]
      exact ⟨by simpa using e2, rfl⟩
end Go.Proofs.Ythlohfiidogiiaa
