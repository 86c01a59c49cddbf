/-
  Check sums as plain functions on numbers: a word's steps are linear by exclusive or, and lose nothing.
  Conditions: none.
-/
set_option linter.unusedVariables false
set_option linter.unusedSimpArgs false
set_option maxRecDepth 100000
namespace Go.Proofs.Ytdjoflhcagfmiaa

theorem xlc (a b c : Nat) : a ^^^ (b ^^^ c) = b ^^^ (a ^^^ c) := by rw [← Nat.xor_assoc, Nat.xor_comm a b, Nat.xor_assoc]
theorem xself (a b : Nat) : a ^^^ (a ^^^ b) = b := by rw [← Nat.xor_assoc, Nat.xor_self, Nat.zero_xor]
theorem xzero {a b : Nat} (h : a ^^^ b = 0) : a = b := by
  have := xself a b
  rw [h, Nat.xor_zero] at this
  exact this

/-- A step of a word. -/
def stp (w : Nat) : Nat := w / 2 ^^^ w % 2 * 3988292384
/-- So many steps. -/
def stps : Nat → Nat → Nat
  | 0, w => w
  | n + 1, w => stps n (stp w)

theorem stp_zero : stp 0 = 0 := rfl
theorem stp_xor (a b : Nat) : stp (a ^^^ b) = stp a ^^^ stp b := by
  unfold stp
  have hm : (a ^^^ b) % 2 * 3988292384 = a % 2 * 3988292384 ^^^ b % 2 * 3988292384 := by
    have h := @Nat.xor_mod_two_pow a b 1
    simp only [Nat.pow_one] at h
    rw [h]
    rcases Nat.mod_two_eq_zero_or_one a with ha | ha <;> rcases Nat.mod_two_eq_zero_or_one b with hb | hb <;> rw [ha, hb] <;> rfl
  rw [Nat.xor_div_two, hm]
  simp only [Nat.xor_assoc, xlc (b / 2)]
theorem stp_double (m : Nat) : stp (2 * m) = m := by
  unfold stp
  rw [show 2 * m / 2 = m by omega, show 2 * m % 2 = 0 by omega]
  simp
theorem stp_lt {w : Nat} (h : w < 4294967296) : stp w < 4294967296 := by
  unfold stp
  have h2 : w % 2 * 3988292384 < 2 ^ 32 := by omega
  exact Nat.xor_lt_two_pow (n := 32) (by omega) h2
theorem stp_zero' {w : Nat} (h : w < 4294967296) (h0 : stp w = 0) : w = 0 := by
  unfold stp at h0
  have := xzero h0
  omega

theorem stps_zero (n : Nat) : stps n 0 = 0 := by
  induction n with
  | zero => rfl
  | succ n ih => exact ih
theorem stps_succ (n w : Nat) : stps (n + 1) w = stp (stps n w) := by
  induction n generalizing w with
  | zero => rfl
  | succ n ih => exact ih (stp w)
theorem stps_add (m n w : Nat) : stps (m + n) w = stps n (stps m w) := by
  induction n with
  | zero => rfl
  | succ n ih => rw [← Nat.add_assoc, stps_succ, stps_succ, ih]
theorem stps_xor (n a b : Nat) : stps n (a ^^^ b) = stps n a ^^^ stps n b := by
  induction n with
  | zero => rfl
  | succ n ih => rw [stps_succ, stps_succ, stps_succ, ih, stp_xor]
theorem stps_high (n m : Nat) : stps n (2 ^ n * m) = m := by
  induction n generalizing m with
  | zero => show 1 * m = m; omega
  | succ n ih =>
    show stps n (stp (2 ^ (n + 1) * m)) = m
    rw [show 2 ^ (n + 1) * m = 2 * (2 ^ n * m) by rw [Nat.pow_succ]; ac_rfl, stp_double, ih]
theorem stps_lt {n w : Nat} (h : w < 4294967296) : stps n w < 4294967296 := by
  induction n with
  | zero => exact h
  | succ n ih => rw [stps_succ]; exact stp_lt ih
theorem stps_zero' {n w : Nat} (h : w < 4294967296) (h0 : stps n w = 0) : w = 0 := by
  induction n with
  | zero => exact h0
  | succ n ih => rw [stps_succ] at h0; exact ih (stp_zero' (stps_lt h) h0)

/-- What is above a word's lowest byte only moves. -/
theorem stps_table {w x : Nat} (hw : w < 4294967296) (hx : x < 256) : stps 8 (w ^^^ x) = w / 256 ^^^ stps 8 (w % 256 ^^^ x) := by
  have h : w = w % 256 ^^^ 2 ^ 8 * (w / 256) := by
    have h1 := Nat.two_pow_add_eq_or_of_lt (i := 8) (b := w % 256) (by omega) (w / 256)
    apply Nat.eq_of_testBit_eq
    intro i
    rw [Nat.testBit_xor, Nat.mul_comm, Nat.testBit_mul_two_pow, show (256 : Nat) = 2 ^ 8 from rfl, Nat.testBit_mod_two_pow, Nat.testBit_div_two_pow]
    by_cases hi : i < 8
    · simp [hi, show ¬ 8 ≤ i by omega]
    · simp [hi, Nat.not_lt.1 hi]
  conv => lhs; rw [h, Nat.xor_assoc, Nat.xor_comm, Nat.xor_assoc, stps_xor, stps_high]
  rw [Nat.xor_comm x]

/-- The word behind bytes. -/
def crcR (w : Nat) : List UInt8 → Nat
  | [] => w
  | x :: xs => crcR (stps 8 (w ^^^ x.toNat)) xs
/-- The check sum of bytes, of which those ahead have the check sum sum. -/
def over (sum : Nat) (xs : List UInt8) : Nat := crcR (4294967295 ^^^ sum) xs ^^^ 4294967295

theorem u8_lt (x : UInt8) : x.toNat < 256 := UInt8.toNat_lt x
theorem u8_lt' (x : UInt8) : x.toNat < 4294967296 := by have := UInt8.toNat_lt x; omega
theorem xor_word {a b : Nat} (ha : a < 4294967296) (hb : b < 4294967296) : a ^^^ b < 4294967296 := Nat.xor_lt_two_pow (n := 32) ha hb

theorem crcR_lt {w : Nat} (h : w < 4294967296) (xs : List UInt8) : crcR w xs < 4294967296 := by
  induction xs generalizing w with
  | nil => exact h
  | cons x xs ih => exact ih (stps_lt (xor_word h (u8_lt' x)))
theorem crcR_append (w : Nat) (xs ys : List UInt8) : crcR w (xs ++ ys) = crcR (crcR w xs) ys := by
  induction xs generalizing w with
  | nil => rfl
  | cons x xs ih => exact ih _
theorem over_lt {s : Nat} (h : s < 4294967296) (xs : List UInt8) : over s xs < 4294967296 := xor_word (crcR_lt (xor_word (by omega) h) xs) (by omega)

/-- Bytes as one number, the first one lowest. -/
def num : List UInt8 → Nat
  | [] => 0
  | x :: xs => x.toNat ^^^ 2 ^ 8 * num xs

theorem num_mod (x n : Nat) (h : x < 256) : (x ^^^ 2 ^ 8 * n) % 256 = x ∧ (x ^^^ 2 ^ 8 * n) / 256 = n := by
  have h1 := @Nat.xor_mod_two_pow x (2 ^ 8 * n) 8
  have h2 := @Nat.xor_div_two_pow x (2 ^ 8 * n) 8
  rw [Nat.mul_mod_right, Nat.xor_zero] at h1
  rw [Nat.mul_div_cancel_left _ (by omega), Nat.div_eq_of_lt (show x < 2 ^ 8 by omega), Nat.zero_xor] at h2
  exact ⟨h1.trans (Nat.mod_eq_of_lt (by omega)), h2⟩
theorem num_inj {xs ys : List UInt8} (hl : xs.length = ys.length) (h : num xs = num ys) : xs = ys := by
  induction xs generalizing ys with
  | nil => cases ys with
    | nil => rfl
    | cons y ys => cases hl
  | cons x xs ih => cases ys with
    | nil => cases hl
    | cons y ys =>
      have hx := num_mod x.toNat (num xs) (u8_lt x)
      have hy := num_mod y.toNat (num ys) (u8_lt y)
      have h' : x.toNat ^^^ 2 ^ 8 * num xs = y.toNat ^^^ 2 ^ 8 * num ys := h
      rw [h'] at hx
      rw [ih (by simpa using hl) (hx.2.symm.trans hy.2), UInt8.toNat_inj.1 (hx.1.symm.trans hy.1)]
theorem crcR_num (w : Nat) (xs : List UInt8) : crcR w xs = stps (8 * xs.length) (w ^^^ num xs) := by
  induction xs generalizing w with
  | nil => show w = w ^^^ 0; rw [Nat.xor_zero]
  | cons x xs ih =>
    show crcR (stps 8 (w ^^^ x.toNat)) xs = _
    rw [ih, List.length_cons, show 8 * (xs.length + 1) = 8 + 8 * xs.length by omega, stps_add]
    show _ = stps (8 * xs.length) (stps 8 (w ^^^ (x.toNat ^^^ 2 ^ 8 * num xs)))
    rw [← Nat.xor_assoc, stps_xor 8 (w ^^^ x.toNat), stps_high]
theorem shift_xor (k a b : Nat) : 2 ^ k * (a ^^^ b) = 2 ^ k * a ^^^ 2 ^ k * b := by
  have h := @Nat.shiftLeft_xor_distrib k a b
  simp only [Nat.shiftLeft_eq] at h
  rw [Nat.mul_comm, h, Nat.mul_comm a, Nat.mul_comm b]

/-- A bit that is turned in a byte is one that is turned in the number. -/
theorem num_turn {xs : List UInt8} {k : Nat} (h : k / 8 < xs.length) (y : UInt8) (hy : y.toNat = xs[k / 8].toNat ^^^ 2 ^ (k % 8)) : num (xs.set (k / 8) y) = num xs ^^^ 2 ^ k := by
  induction xs generalizing k with
  | nil => simp at h
  | cons x xs ih =>
    by_cases hk : k < 8
    · have e0 : k / 8 = 0 := by omega
      have e1 : k % 8 = k := by omega
      simp only [e0, List.getElem_cons_zero, e1] at hy
      rw [e0]
      show y.toNat ^^^ 2 ^ 8 * num xs = (x.toNat ^^^ 2 ^ 8 * num xs) ^^^ 2 ^ k
      rw [hy]
      simp only [Nat.xor_assoc, Nat.xor_comm (2 ^ k)]
    · obtain ⟨j, rfl⟩ : ∃ j, k = j + 8 := ⟨k - 8, by omega⟩
      have e0 : (j + 8) / 8 = j / 8 + 1 := by omega
      have e1 : (j + 8) % 8 = j % 8 := by omega
      simp only [e0, List.getElem_cons_succ, e1] at hy
      have h' : j / 8 < xs.length := by simp at h; omega
      rw [e0]
      show x.toNat ^^^ 2 ^ 8 * num (xs.set (j / 8) y) = (x.toNat ^^^ 2 ^ 8 * num xs) ^^^ 2 ^ (j + 8)
      rw [ih h' hy, shift_xor, ← Nat.pow_add, Nat.xor_assoc, Nat.add_comm 8 j]

/-- Bits that are turned within 32 give another word. -/
theorem crcR_burst {w t first : Nat} {xs ys : List UInt8} (hl : ys.length = xs.length) (hn : num ys = num xs ^^^ 2 ^ first * t) (ht : t < 4294967296) (hf : first ≤ 8 * xs.length) (h : crcR w xs = crcR w ys) : xs = ys := by
  rw [crcR_num, crcR_num, hl, hn, ← Nat.xor_assoc, stps_xor _ (w ^^^ num xs)] at h
  have h0 : stps (8 * xs.length) (2 ^ first * t) = 0 := by
    have := congrArg (fun z => stps (8 * xs.length) (w ^^^ num xs) ^^^ z) h
    simp only [Nat.xor_self, xself] at this
    exact this.symm
  rw [show 8 * xs.length = first + (8 * xs.length - first) by omega, stps_add, stps_high] at h0
  rw [stps_zero' ht h0, Nat.mul_zero, Nat.xor_zero] at hn
  exact (num_inj hl hn).symm
theorem over_burst {s t first : Nat} {xs ys : List UInt8} (hl : ys.length = xs.length) (hn : num ys = num xs ^^^ 2 ^ first * t) (ht : t < 4294967296) (hf : first ≤ 8 * xs.length) : over s xs = over s ys ↔ xs = ys := by
  constructor
  · intro h
    unfold over at h
    rw [Nat.xor_comm, Nat.xor_comm (crcR _ ys)] at h
    have h' := congrArg (fun z => 4294967295 ^^^ z) h
    simp only [xself] at h'
    exact crcR_burst hl hn ht hf h'
  · rintro rfl; rfl

theorem over_over (s : Nat) (xs ys : List UInt8) : over (over s xs) ys = over s (xs ++ ys) := by
  unfold over
  rw [crcR_append, Nat.xor_comm (crcR _ xs), xself]
/-- The same bytes behind turn unlike words into unlike ones. -/
theorem over_inj {s s' : Nat} (h : s < 4294967296) (h' : s' < 4294967296) (xs : List UInt8) : over s xs = over s' xs ↔ s = s' := by
  constructor
  · intro he
    unfold over at he
    rw [Nat.xor_comm, Nat.xor_comm (crcR (4294967295 ^^^ s') xs)] at he
    have h1 := congrArg (fun z => 4294967295 ^^^ z) he
    simp only [xself] at h1
    rw [crcR_num, crcR_num] at h1
    have h2 : stps (8 * xs.length) (s ^^^ s') = 0 := by
      have e : s ^^^ s' = ((4294967295 ^^^ s) ^^^ num xs) ^^^ ((4294967295 ^^^ s') ^^^ num xs) := by
        simp only [Nat.xor_assoc, xlc _ 4294967295, xself]
        rw [xlc (num xs) s', Nat.xor_self, Nat.xor_zero]
      rw [e, stps_xor, h1, Nat.xor_self]
    exact xzero (stps_zero' (xor_word h h') h2)
  · rintro rfl; rfl

def xor2 : List UInt8 → List UInt8 → List UInt8 := List.zipWith (· ^^^ ·)
theorem num_xor2 {xs ys : List UInt8} (h : xs.length = ys.length) : num (xor2 xs ys) = num xs ^^^ num ys := by
  induction xs generalizing ys with
  | nil => cases ys with
    | nil => rfl
    | cons y ys => cases h
  | cons x xs ih => cases ys with
    | nil => cases h
    | cons y ys =>
      show (x ^^^ y).toNat ^^^ 2 ^ 8 * num (xor2 xs ys) = (x.toNat ^^^ 2 ^ 8 * num xs) ^^^ (y.toNat ^^^ 2 ^ 8 * num ys)
      rw [ih (by simpa using h), shift_xor, UInt8.toNat_xor]
      simp only [Nat.xor_assoc, xlc (2 ^ 8 * num xs) y.toNat]
/-- The check sums of three texts of one length. -/
theorem over_three {as bs cs : List UInt8} (hb : bs.length = as.length) (hc : cs.length = as.length) : over 0 (xor2 (xor2 as bs) cs) = over 0 as ^^^ over 0 bs ^^^ over 0 cs := by
  have h2 : (xor2 as bs).length = as.length := by unfold xor2; rw [List.length_zipWith, hb, Nat.min_self]
  have h3 : (xor2 (xor2 as bs) cs).length = as.length := by
    show (List.zipWith _ (xor2 as bs) cs).length = _
    rw [List.length_zipWith, h2, hc, Nat.min_self]
  unfold over
  rw [crcR_num, crcR_num, crcR_num, crcR_num, h3, hb, hc, num_xor2 (h2.trans hc.symm), num_xor2 hb.symm]
  simp only [Nat.xor_zero, stps_xor]
  generalize stps (8 * as.length) 4294967295 = f
  generalize stps (8 * as.length) (num as) = a
  generalize stps (8 * as.length) (num bs) = b
  generalize stps (8 * as.length) (num cs) = c
  simp only [Nat.xor_assoc, Nat.xor_comm, xlc, xself]
theorem not_word {w : Nat} (h : w < 4294967296) : 4294967295 - w = 4294967295 ^^^ w := by
  apply Nat.eq_of_testBit_eq
  intro i
  have h1 := Nat.testBit_two_pow_sub_succ (x := w) (n := 32) h i
  have h2 := Nat.testBit_two_pow_sub_succ (x := 0) (n := 32) (by omega) i
  rw [show 4294967295 - w = 2 ^ 32 - (w + 1) by omega, h1, Nat.testBit_xor, show (4294967295 : Nat) = 2 ^ 32 - (0 + 1) by omega, h2]
  by_cases hi : i < 32
  · simp [hi]
  · have hb : w.testBit i = false := Nat.testBit_lt_two_pow (Nat.lt_of_lt_of_le h (show 2 ^ 32 ≤ 2 ^ i from Nat.pow_le_pow_right (by omega) (by omega)))
    simp [hi, hb]
end Go.Proofs.Ytdjoflhcagfmiaa
