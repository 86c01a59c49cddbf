/-
 Plain facts on a number's digits to 128, lowest first. No program is named here.
 Conditions: none.
-/
set_option linter.unusedVariables false
set_option linter.unusedSimpArgs false
namespace Go.Proofs.YteloiajocjahmaaGreatDoor

/-- n without its k lowest digits. -/
def dv (n : Nat) : Nat → Nat
 | 0 => n
 | k + 1 => dv n k / 128

theorem dv_succ (n k : Nat) : dv n (k + 1) = dv n k / 128 := rfl
theorem dv_le (n k : Nat) : dv n k ≤ n := by
 induction k with
 | zero => exact Nat.le_refl _
 | succ k ih => rw [dv_succ]; omega

/-- One digit as it is handed out, and whether it is the last. -/
def dg (n k : Nat) : Int × Bool := (((dv n k : Nat) : Int) % 128, decide (((dv n k : Nat) : Int) < 128))

/-- What has come when k rounds are over. -/
def upto {α : Type} (f : Nat → α) (k : Nat) : List α := (List.range k).map f
theorem upto_succ {α : Type} (f : Nat → α) (k : Nat) : upto f (k + 1) = upto f k ++ [f k] := by simp [upto, List.range_succ]
theorem upto_length {α : Type} (f : Nat → α) (k : Nat) : (upto f k).length = k := by simp [upto]
theorem upto_prefix {α : Type} (f : Nat → α) {k m : Nat} (h : k ≤ m) : upto f k <+: upto f m := by
 induction m with
 | zero =>
  obtain rfl : k = 0 := by omega
  exact List.prefix_refl _
 | succ m ih =>
  by_cases e : k = m + 1
  ·subst e; exact List.prefix_refl _
  ·exact (ih (by omega)).trans (by rw [upto_succ]; exact List.prefix_append _ _)
/-- A beginning of those is as many of them. -/
theorem prefix_upto {α : Type} (f : Nat → α) {pre : List α} {m : Nat} (h : pre <+: upto f m) : pre = upto f pre.length := by
 have hl := h.length_le
 rw [upto_length] at hl
 have h2 := upto_prefix f hl
 exact List.prefix_of_prefix_length_le h h2 (by rw [upto_length]; exact Nat.le_refl _) |>.eq_of_length (by rw [upto_length])
theorem prefix_snoc_upto {α : Type} (f : Nat → α) {pre : List α} {x : α} {m : Nat} (h : pre ++ [x] <+: upto f m) : pre.length < m ∧ pre = upto f pre.length ∧ x = f pre.length := by
 have h1 := prefix_upto f h
 have hl := h.length_le
 rw [upto_length] at hl
 simp only [List.length_append, List.length_cons, List.length_nil] at hl h1
 rw [upto_succ] at h1
 have := List.append_inj h1 (by rw [upto_length])
 exact ⟨by omega, this.1, by simpa using this.2⟩

/-- A digit's byte. -/
def byt (x : Int × Bool) : UInt8 := if x.2 then UInt8.ofNat x.1.toNat else UInt8.ofNat (x.1 + 128).toNat

/-- A number's bytes. -/
def bytesOf (n : Nat) : List UInt8 := if n < 128 then [UInt8.ofNat n] else UInt8.ofNat (n % 128 + 128) :: bytesOf (n / 128)
termination_by n
decreasing_by omega

theorem dv_shift (n k : Nat) : dv n (k + 1) = dv (n / 128) k := by
 induction k with
 | zero => rfl
 | succ k ih => rw [dv_succ, ih, dv_succ]
theorem dg_shift (n k : Nat) : dg n (k + 1) = dg (n / 128) k := by simp only [dg, dv_shift]
theorem upto_shift {α : Type} (f : Nat → α) (k : Nat) : upto f (k + 1) = f 0 :: upto (fun i => f (i + 1)) k := by
 simp [upto, List.range_succ_eq_map, Function.comp_def]
theorem dg_range (n k : Nat) : 0 ≤ (dg n k).1 ∧ (dg n k).1 < 128 := by simp only [dg]; omega

theorem dg0_last (n : Nat) : (dg n 0).2 = decide (n < 128) := by
 have e : ((n : Int) < 128) = (n < 128) := propext (by omega)
 exact Bool.eq_iff_iff.2 (by rw [dg, decide_eq_true_iff, decide_eq_true_iff, dv, e])
theorem dg0_fst (n : Nat) : (dg n 0).1 = ((n : Nat) : Int) % 128 := rfl
theorem byt0_last {n : Nat} (h : n < 128) : byt (dg n 0) = UInt8.ofNat n := by
 have e : (((n : Nat) : Int) % 128).toNat = n := by omega
 unfold byt
 rw [dg0_last, decide_eq_true h, if_pos rfl, dg0_fst, e]
theorem byt0_more {n : Nat} (h : ¬ n < 128) : byt (dg n 0) = UInt8.ofNat (n % 128 + 128) := by
 have e : (((n : Nat) : Int) % 128 + 128).toNat = n % 128 + 128 := by omega
 unfold byt
 rw [dg0_last, decide_eq_false h, if_neg (by decide), dg0_fst, e]

/-- The digits up to the last one are the number's bytes. -/
theorem bytesOf_upto (k : Nat) : ∀ n, (dg n k).2 = true → (∀ i, i < k → (dg n i).2 = false) → (upto (dg n) (k + 1)).map byt = bytesOf n := by
 induction k with
 | zero =>
  intro n h _
  rw [dg0_last] at h
  have h' := of_decide_eq_true h
  rw [bytesOf, if_pos h', ← byt0_last h']
  rfl
 | succ k ih =>
  intro n h hf
  have h0 := hf 0 (by omega)
  rw [dg0_last] at h0
  have h0' := of_decide_eq_false h0
  have e : (fun i => dg n (i + 1)) = dg (n / 128) := funext fun i => dg_shift n i
  rw [upto_shift, List.map_cons, bytesOf, if_neg h0', byt0_more h0', e]
  rw [ih (n / 128) (by rw [← dg_shift]; exact h) (fun i hi => by rw [← dg_shift]; exact hf (i + 1) (by omega))]

theorem dv_small {n : Nat} (h : n ≤ 2147483647) : dv n 4 < 128 := by simp only [dv]; omega
theorem bytesOf_length_pos (n : Nat) : 0 < (bytesOf n).length := by rw [bytesOf]; split <;> simp
theorem bytesOf_length_le {n : Nat} (h : n ≤ 2147483647) : (bytesOf n).length ≤ 5 := by
 have s : ∀ n, n < 128 → (bytesOf n).length = 1 := fun n h => by rw [bytesOf, if_pos h]; rfl
 have g : ∀ n m, (bytesOf (n / 128)).length ≤ m → (bytesOf n).length ≤ m + 1 := fun n m h => by
  rw [bytesOf]; split
  ·simp
  ·simpa using h
 exact g _ _ (g _ _ (g _ _ (g _ _ (Nat.le_of_eq (s _ (by omega))))))

/-- n: what the digits so far make; s: how many they are. -/
def scan (n s : Nat) : List UInt8 → Nat × Nat
 | [] => (0, 0)
 | x :: r => if 2147483647 / 2 ^ (7 * s) < x.toNat % 128 then (0, 0) else
   if x.toNat < 128 then (if x.toNat % 128 = 0 ∧ 0 < s then (0, 0) else (n + x.toNat % 128 * 2 ^ (7 * s), s + 1))
   else scan (n + x.toNat % 128 * 2 ^ (7 * s)) (s + 1) r


def putSpec (x : Int) : List UInt8 × Int := if x < 0 ∨ 2147483647 < x then ([], 2) else (bytesOf x.toNat, 0)
def getSpec (xs : List UInt8) (x : Int) : Int × Int × Int :=
 if x < 0 ∨ (xs.length : Int) < x then (0, 0, 2) else
  if (scan 0 0 ((xs.drop x.toNat).take 5)).2 = 0 then (0, 0, 8) else (((scan 0 0 ((xs.drop x.toNat).take 5)).1 : Int), x + ((scan 0 0 ((xs.drop x.toNat).take 5)).2 : Int), 0)
theorem scan_cons (n s : Nat) (x : UInt8) (r : List UInt8) : scan n s (x :: r) = if 2147483647 / 2 ^ (7 * s) < x.toNat % 128 then (0, 0) else
   if x.toNat < 128 then (if x.toNat % 128 = 0 ∧ 0 < s then (0, 0) else (n + x.toNat % 128 * 2 ^ (7 * s), s + 1))
   else scan (n + x.toNat % 128 * 2 ^ (7 * s)) (s + 1) r := rfl

theorem toNat_ofNat_lt {n : Nat} (h : n < 256) : (UInt8.ofNat n).toNat = n := by rw [UInt8.toNat_ofNat']; omega
theorem pow_succ7 (s : Nat) : 2 ^ (7 * (s + 1)) = 128 * 2 ^ (7 * s) := by rw [Nat.mul_add, Nat.pow_add]; omega

/-- What is written is read. -/
theorem scan_bytes (q : Nat) : ∀ (m s : Nat) (r : List UInt8), q * 2 ^ (7 * s) ≤ 2147483647 → (0 < s → 0 < q) → scan m s (bytesOf q ++ r) = (m + q * 2 ^ (7 * s), s + (bytesOf q).length) := by
 induction q using Nat.strongRecOn with
 | _ q ih =>
  intro m s r hq hs
  have hp : 0 < 2 ^ (7 * s) := Nat.pow_pos (by decide)
  have hql : q ≤ 2147483647 / 2 ^ (7 * s) := (Nat.le_div_iff_mul_le hp).2 hq
  by_cases h : q < 128
  ·have e : bytesOf q = [UInt8.ofNat q] := by rw [bytesOf, if_pos h]
   rw [e, List.cons_append, scan_cons, toNat_ofNat_lt (by omega), Nat.mod_eq_of_lt h, if_neg (by omega), if_pos h, if_neg (by omega)]
   rfl
  ·have e : bytesOf q = UInt8.ofNat (q % 128 + 128) :: bytesOf (q / 128) := by rw [bytesOf, if_neg h]
   have hm : (q % 128 + 128) % 128 = q % 128 := by omega
   have hd : q / 128 * (128 * 2 ^ (7 * s)) + q % 128 * 2 ^ (7 * s) = q * 2 ^ (7 * s) := by
    rw [← Nat.mul_assoc, ← Nat.add_mul]
    congr 1
    omega
   rw [e, List.cons_append, scan_cons, toNat_ofNat_lt (by omega), hm, if_neg (by omega), if_neg (by omega), ih (q / 128) (by omega) _ _ _ (by rw [pow_succ7]; omega) (by omega), pow_succ7, List.length_cons]
   congr 1
   ·omega
   ·omega

theorem pile_le {q d p : Nat} (h : q * (128 * p) ≤ 2147483647) (hd : d < 128) (hp : p = 1 ∨ p = 128 ∨ p = 16384 ∨ p = 2097152) : (d + 128 * q) * p ≤ 2147483647 := by
 rcases hp with rfl | rfl | rfl | rfl
 ·have a : q ≤ 16777215 := (Nat.le_div_iff_mul_le (by decide)).2 h
  exact Nat.le_trans (Nat.mul_le_mul_right 1 (show d + 128 * q ≤ 2147483647 by omega)) (by decide)
 ·have a : q ≤ 131071 := (Nat.le_div_iff_mul_le (by decide)).2 h
  exact Nat.le_trans (Nat.mul_le_mul_right 128 (show d + 128 * q ≤ 16777215 by omega)) (by decide)
 ·have a : q ≤ 1023 := (Nat.le_div_iff_mul_le (by decide)).2 h
  exact Nat.le_trans (Nat.mul_le_mul_right 16384 (show d + 128 * q ≤ 131071 by omega)) (by decide)
 ·have a : q ≤ 7 := (Nat.le_div_iff_mul_le (by decide)).2 h
  exact Nat.le_trans (Nat.mul_le_mul_right 2097152 (show d + 128 * q ≤ 1023 by omega)) (by decide)

/-- What is read is written so. -/
theorem scan_sound (l : List UInt8) : ∀ (m s n t : Nat), scan m s l = (n, t) → t ≠ 0 → ∃ q, n = m + q * 2 ^ (7 * s) ∧ q * 2 ^ (7 * s) ≤ 2147483647 ∧ t = s + (bytesOf q).length ∧ bytesOf q <+: l ∧ (0 < s → 0 < q) := by
 induction l with
 | nil => intro m s n t h ht; simp only [scan, Prod.mk.injEq] at h; omega
 | cons x r ih =>
  intro m s n t h ht
  have hp : 0 < 2 ^ (7 * s) := Nat.pow_pos (by decide)
  have hx := x.toNat_lt
  rw [scan_cons] at h
  by_cases hbig : 2147483647 / 2 ^ (7 * s) < x.toNat % 128
  ·rw [if_pos hbig] at h; simp only [Prod.mk.injEq] at h; omega
  ·rw [if_neg hbig] at h
   have hle : x.toNat % 128 * 2 ^ (7 * s) ≤ 2147483647 := (Nat.le_div_iff_mul_le hp).1 (by omega)
   by_cases hlast : x.toNat < 128
   ·rw [if_pos hlast] at h
    by_cases hz : x.toNat % 128 = 0 ∧ 0 < s
    ·rw [if_pos hz] at h; simp only [Prod.mk.injEq] at h; omega
    ·rw [if_neg hz] at h
     simp only [Prod.mk.injEq] at h
     have e : bytesOf (x.toNat % 128) = [x] := by rw [bytesOf, if_pos (by omega), Nat.mod_eq_of_lt hlast]; simp
     exact ⟨x.toNat % 128, h.1.symm, hle, by rw [e]; exact h.2.symm, by rw [e]; exact ⟨r, rfl⟩, by omega⟩
   ·rw [if_neg hlast] at h
    obtain ⟨q, h1, h2, h3, h4, h5⟩ := ih _ _ _ _ h ht
    have hq := h5 (by omega)
    rw [pow_succ7] at h1 h2
    have hs : s = 0 ∨ s = 1 ∨ s = 2 ∨ s = 3 := by
     by_cases h4s : s ≤ 3
     ·omega
     ·exfalso
      have : 2 ^ 28 ≤ 2 ^ (7 * s) := Nat.pow_le_pow_right (by decide) (by omega)
      have : 1 * (128 * 2 ^ (7 * s)) ≤ q * (128 * 2 ^ (7 * s)) := Nat.mul_le_mul_right _ hq
      omega
    have e : bytesOf (x.toNat % 128 + 128 * q) = x :: bytesOf q := by
     have e1 : (x.toNat % 128 + 128 * q) % 128 + 128 = x.toNat := by omega
     have e2 : (x.toNat % 128 + 128 * q) / 128 = q := by omega
     have e3 : ¬ x.toNat % 128 + 128 * q < 128 := by omega
     generalize x.toNat % 128 + 128 * q = z at e1 e2 e3 ⊢
     rw [bytesOf, if_neg e3, e1, e2, UInt8.ofNat_toNat]
    have h7 : bytesOf (x.toNat % 128 + 128 * q) <+: x :: r := e ▸ List.cons_prefix_cons.2 ⟨rfl, h4⟩
    have h6 : t = s + (bytesOf (x.toNat % 128 + 128 * q)).length := by
     have := congrArg List.length e
     rw [List.length_cons] at this
     omega
    refine ⟨x.toNat % 128 + 128 * q, ?_, ?_, h6, h7, by omega⟩
    ·rw [h1, Nat.add_mul, Nat.mul_assoc 128 q, Nat.mul_left_comm 128 q]; omega
    ·exact pile_le h2 (by omega) (by rcases hs with rfl | rfl | rfl | rfl <;> simp)

/-- A number read: what it is, and that its bytes stand there. -/
theorem getSpec_ok {xs : List UInt8} {x : Int} (h : (getSpec xs x).2.2 = 0) : ∃ k n : Nat, x = k ∧ k + (bytesOf n).length ≤ xs.length ∧ n ≤ 2147483647 ∧ (xs.drop k).take (bytesOf n).length = bytesOf n ∧ getSpec xs x = ((n : Int), (k : Int) + ((bytesOf n).length : Int), 0) ∧ scan 0 0 ((xs.drop k).take 5) = (n, (bytesOf n).length) := by
 unfold getSpec at h ⊢
 by_cases h1 : x < 0 ∨ (xs.length : Int) < x
 ·rw [if_pos h1] at h; cases h
 ·rw [if_neg h1] at h ⊢
  obtain ⟨k, rfl⟩ : ∃ k : Nat, x = k := ⟨x.toNat, by omega⟩
  rw [Int.toNat_natCast] at h ⊢
  generalize hr : scan 0 0 ((xs.drop k).take 5) = r at h ⊢
  obtain ⟨n, s⟩ := r
  by_cases h2 : s = 0
  ·rw [if_pos h2] at h; cases h
  ·rw [if_neg h2]
   obtain ⟨q, e1, e2, e3, e4, _⟩ := scan_sound _ _ _ _ _ hr h2
   simp only [Nat.mul_zero, Nat.pow_zero, Nat.mul_one, Nat.zero_add] at e1 e2 e3
   subst e1
   subst e3
   have hl := e4.length_le
   rw [List.length_take, List.length_drop] at hl
   refine ⟨k, n, rfl, by omega, e2, ?_, rfl, hr⟩
   have := List.prefix_iff_eq_take.1 (e4.trans (List.take_prefix 5 (xs.drop k)))
   exact this.symm
/-- What was put is got, whatever stands around it. -/
theorem getSpec_put (ahead behind : List UInt8) {n : Nat} (hn : n ≤ 2147483647) : getSpec (ahead ++ bytesOf n ++ behind) ahead.length = ((n : Int), (ahead.length : Int) + ((bytesOf n).length : Int), 0) := by
 have hl := bytesOf_length_le hn
 have e : ((ahead ++ bytesOf n ++ behind).drop ahead.length).take 5 = bytesOf n ++ behind.take (5 - (bytesOf n).length) := by
  rw [List.append_assoc, List.drop_left, List.take_append, List.take_of_length_le hl]
 unfold getSpec
 rw [if_neg (by simp only [List.length_append]; omega), Int.toNat_natCast, e, scan_bytes n 0 0 _ (by simpa using hn) (by omega)]
 have hp := bytesOf_length_pos n
 rw [if_neg (by simp only [Nat.zero_add]; omega)]
 simp

def val : List UInt8 → Nat
 | [] => 0
 | x :: r => x.toNat % 128 + 128 * val r

theorem val_snoc (p : List UInt8) (x : UInt8) : val (p ++ [x]) = val p + x.toNat % 128 * 128 ^ p.length := by
 induction p with
 | nil => simp [val]
 | cons y r ih =>
  have e : 128 * (x.toNat % 128 * 128 ^ r.length) = x.toNat % 128 * (128 ^ r.length * 128) := by rw [Nat.mul_comm 128, Nat.mul_assoc]
  rw [List.cons_append, val, ih, val, List.length_cons, Nat.pow_succ, Nat.mul_add, e, Nat.add_assoc]
theorem val_lt (p : List UInt8) : val p < 128 ^ p.length := by
 induction p with
 | nil => simp [val]
 | cons y r ih => rw [val, List.length_cons, Nat.pow_succ]; omega

/-- A number's bytes: the last one is below 128, the others are not; and they make the number. -/
theorem bytesOf_shape (n : Nat) : val (bytesOf n) = n ∧ ∃ p x, bytesOf n = p ++ [x] ∧ x.toNat < 128 ∧ ∀ y ∈ p, 128 ≤ y.toNat := by
 induction n using Nat.strongRecOn with
 | _ n ih =>
  by_cases h : n < 128
  ·have e : bytesOf n = [UInt8.ofNat n] := by rw [bytesOf, if_pos h]
   rw [e]
   refine ⟨?_, [], _, rfl, ?_, by simp⟩
   ·rw [val, val, toNat_ofNat_lt (by omega)]; omega
   ·rw [toNat_ofNat_lt (by omega)]; exact h
  ·have e : bytesOf n = UInt8.ofNat (n % 128 + 128) :: bytesOf (n / 128) := by rw [bytesOf, if_neg h]
   obtain ⟨h1, p, x, h2, h3, h4⟩ := ih (n / 128) (by omega)
   rw [e]
   refine ⟨?_, UInt8.ofNat (n % 128 + 128) :: p, x, by rw [h2]; rfl, h3, ?_⟩
   ·rw [val, h1, toNat_ofNat_lt (by omega)]; omega
   ·intro y hy
    rcases List.mem_cons.1 hy with rfl | hy
    ·rw [toNat_ofNat_lt (by omega)]; omega
    ·exact h4 y hy

/-- Two beginnings of one list that end at the first byte below 128 are one. -/
theorem first_last {l p q : List UInt8} {x y : UInt8} (hp : p ++ [x] <+: l) (hq : q ++ [y] <+: l) (hx : x.toNat < 128) (hy : y.toNat < 128) (hpa : ∀ z ∈ p, 128 ≤ z.toNat) (hqa : ∀ z ∈ q, 128 ≤ z.toNat) : p ++ [x] = q ++ [y] := by
 have key : ∀ {p q : List UInt8} {x y : UInt8}, p ++ [x] <+: q ++ [y] → x.toNat < 128 → (∀ z ∈ q, 128 ≤ z.toNat) → p ++ [x] = q ++ [y] := by
  intro p q x y h hx hqa
  by_cases hl : (p ++ [x]).length = (q ++ [y]).length
  ·exact h.eq_of_length hl
  ·have hlt := h.length_le
   have h2 : p ++ [x] <+: q := List.prefix_of_prefix_length_le h (List.prefix_append q [y]) (by simp at hl hlt ⊢; omega)
   have := hqa x (h2.subset (by simp))
   omega
 rcases Nat.le_total (p ++ [x]).length (q ++ [y]).length with h | h
 ·exact key (List.prefix_of_prefix_length_le hp hq h) hx hqa
 ·exact (key (List.prefix_of_prefix_length_le hq hp h) hy hpa).symm

theorem getSpec_at {xs : List UInt8} {k : Nat} (hk : k ≤ xs.length) : getSpec xs k = if (scan 0 0 ((xs.drop k).take 5)).2 = 0 then (0, 0, 8) else (((scan 0 0 ((xs.drop k).take 5)).1 : Int), (k : Int) + ((scan 0 0 ((xs.drop k).take 5)).2 : Int), 0) := by
 unfold getSpec
 rw [if_neg (by omega), Int.toNat_natCast]

/-- No byte below 128 among the first five: no number. -/
theorem getSpec_none {xs : List UInt8} {k : Nat} (hk : k ≤ xs.length) (h : ∀ z ∈ (xs.drop k).take 5, 128 ≤ z.toNat) : getSpec xs k = (0, 0, 8) := by
 rw [getSpec_at hk]
 generalize hr : scan 0 0 ((xs.drop k).take 5) = r
 obtain ⟨n, s⟩ := r
 by_cases h2 : s = 0
 ·rw [if_pos h2]
 ·obtain ⟨q, _, _, _, e4, _⟩ := scan_sound _ _ _ _ _ hr h2
  obtain ⟨_, p, x, e5, e6, _⟩ := bytesOf_shape q
  rw [e5] at e4
  have := h x (e4.subset (by simp))
  omega
/-- At the first byte below 128: the number, if these are its bytes. -/
theorem getSpec_last {xs p : List UInt8} {x : UInt8} {k : Nat} (hk : k ≤ xs.length) (hp : p ++ [x] <+: (xs.drop k).take 5) (hx : x.toNat < 128) (hpa : ∀ z ∈ p, 128 ≤ z.toNat) :
  getSpec xs k = if val (p ++ [x]) ≤ 2147483647 ∧ bytesOf (val (p ++ [x])) = p ++ [x] then ((val (p ++ [x]) : Int), (k : Int) + ((p.length + 1 : Nat) : Int), 0) else (0, 0, 8) := by
 rw [getSpec_at hk]
 by_cases h : val (p ++ [x]) ≤ 2147483647 ∧ bytesOf (val (p ++ [x])) = p ++ [x]
 ·rw [if_pos h]
  obtain ⟨r, hr⟩ := hp
  have hs := scan_bytes (val (p ++ [x])) 0 0 r (by simpa using h.1) (by omega)
  rw [h.2, hr] at hs
  rw [hs, if_neg (by simp)]
  simp
 ·rw [if_neg h]
  generalize hr : scan 0 0 ((xs.drop k).take 5) = r
  obtain ⟨n, s⟩ := r
  by_cases h2 : s = 0
  ·rw [if_pos h2]
  ·exfalso
   obtain ⟨q, _, e2, _, e4, _⟩ := scan_sound _ _ _ _ _ hr h2
   obtain ⟨e0, p', x', e5, e6, e7⟩ := bytesOf_shape q
   have e8 := e4
   rw [e5] at e8
   have e9 := first_last hp e8 hx e6 hpa e7
   rw [← e5] at e9
   apply h
   rw [e9, e0]
   exact ⟨by simpa using e2, rfl⟩
end Go.Proofs.YteloiajocjahmaaGreatDoor
