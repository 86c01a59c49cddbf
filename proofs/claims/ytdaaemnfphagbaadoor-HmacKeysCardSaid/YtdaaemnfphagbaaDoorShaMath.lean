/-
  Hashes as plain functions on numbers and bytes.
  Conditions: none.
-/
set_option linter.unusedVariables false
set_option linter.unusedSimpArgs false
namespace Go.Proofs.YtdaaemnfphagbaaDoor

/-- A word of 32 bits turned right by n. -/
def rotr (n x : Nat) : Nat := x / 2 ^ n + x % 2 ^ n * 2 ^ (32 - n)
def rot3 (p q r x : Nat) : Nat := rotr p x ^^^ rotr q x ^^^ rotr r x
def mix (p q s x : Nat) : Nat := rotr p x ^^^ rotr q x ^^^ x / 2 ^ s
def ch (e f g : Nat) : Nat := g ^^^ (e &&& (f ^^^ g))
def maj (a b c : Nat) : Nat := (a &&& b) ||| (c &&& (a ||| b))
/-- What a step makes of eight words. -/
def stepL (m : Nat) : List Nat → List Nat
  | [a, b, c, d, e, f, g, h] =>
    [((h + rot3 6 11 25 e + ch e f g + m) % 4294967296 + (rot3 2 13 22 a + maj a b c) % 4294967296) % 4294967296, a, b, c, (d + (h + rot3 6 11 25 e + ch e f g + m) % 4294967296) % 4294967296, e, f, g]
  | l => l
def wordAt (l : List Nat) (t : Nat) : Nat := (l.getD (t - 16) 0 + mix 7 18 3 (l.getD (t - 15) 0) + l.getD (t - 7) 0 + mix 17 19 10 (l.getD (t - 2) 0)) % 4294967296
/-- The words, and so many made of them. -/
def sched (ws : List Nat) : Nat → List Nat
  | 0 => ws
  | n + 1 => sched ws n ++ [wordAt (sched ws n) (16 + n)]
def hw (l : List UInt8) : Nat := l.foldl (fun n x => n * 256 + x.toNat) 0
def words16 (b : List UInt8) : List Nat := (List.range 16).map fun j => hw ((b.drop (4 * j)).take 4)
def kk : List Nat := [1116352408, 1899447441, 3049323471, 3921009573, 961987163, 1508970993, 2453635748, 2870763221, 3624381080, 310598401, 607225278, 1426881987, 1925078388, 2162078206, 2614888103, 3248222580, 3835390401, 4022224774, 264347078, 604807628, 770255983, 1249150122, 1555081692, 1996064986, 2554220882, 2821834349, 2952996808, 3210313671, 3336571891, 3584528711, 113926993, 338241895, 666307205, 773529912, 1294757372, 1396182291, 1695183700, 1986661051, 2177026350, 2456956037, 2730485921, 2820302411, 3259730800, 3345764771, 3516065817, 3600352804, 4094571909, 275423344, 430227734, 506948616, 659060556, 883997877, 958139571, 1322822218, 1537002063, 1747873779, 1955562222, 2024104815, 2227730452, 2361852424, 2428436474, 2756734187, 3204031479, 3329325298]
def begin8 : List Nat := [1779033703, 3144134277, 1013904242, 2773480762, 1359893119, 2600822924, 528734635, 1541459225]
/-- Behind so many steps. -/
def rounds (ws h : List Nat) : Nat → List Nat
  | 0 => h
  | t + 1 => stepL ((kk.getD t 0 + ws.getD t 0) % 4294967296) (rounds ws h t)
def addL (h g : List Nat) : List Nat := List.zipWith (fun x y => (x + y) % 4294967296) h g
/-- What a block makes of eight words. -/
def blockL (h : List Nat) (b : List UInt8) : List Nat := addL h (rounds (sched (words16 b) 48) h 64)
def be8 (n : Nat) : List UInt8 := (List.range 8).map fun i => UInt8.ofNat (n / 2 ^ (56 - 8 * i))
/-- Bytes, filled. -/
def fill (b : List UInt8) : List UInt8 := b ++ 128 :: (List.replicate (64 * ((b.length + 8) / 64 + 1) - b.length - 9) 0 ++ be8 (8 * b.length))
/-- Behind so many blocks. -/
def hashTo (x : List UInt8) (h : List Nat) : Nat → List Nat
  | 0 => h
  | n + 1 => blockL (hashTo x h n) ((x.drop (64 * n)).take 64)
def told32 (h : List Nat) : List UInt8 := (List.range 32).map fun i => UInt8.ofNat (h.getD (i / 4) 0 / 2 ^ (24 - 8 * (i % 4)))
def sumL (b : List UInt8) : List UInt8 := told32 (hashTo (fill b) begin8 ((b.length + 8) / 64 + 1))

def abc32 : List UInt8 := [186, 120, 22, 191, 143, 1, 207, 234, 65, 65, 64, 222, 93, 174, 34, 35, 176, 3, 97, 163, 150, 23, 122, 156, 180, 16, 255, 97, 242, 0, 21, 173]
theorem sum_abc : sumL [97, 98, 99] = abc32 := by decide +kernel
theorem sum_nil : (sumL []).take 4 = [227, 176, 196, 66] := by decide +kernel

/-! ### Words -/
theorem rotr_or {n x : Nat} (h1 : n ≤ 32) (hx : x < 4294967296) : (x * 2 ^ (32 - n) % 4294967296) ||| (x / 2 ^ n) = rotr n x := by
  have hp : 2 ^ n * 2 ^ (32 - n) = 4294967296 := by rw [← Nat.pow_add, Nat.add_sub_cancel' h1]
  have hm : x * 2 ^ (32 - n) % 4294967296 = x % 2 ^ n * 2 ^ (32 - n) := by
    rw [← hp, Nat.mul_mod_mul_right]
  have hd : x / 2 ^ n < 2 ^ (32 - n) := by
    rw [Nat.div_lt_iff_lt_mul (Nat.two_pow_pos n), Nat.mul_comm, hp]
    exact hx
  rw [hm, Nat.mul_comm (x % 2 ^ n), ← Nat.two_pow_add_eq_or_of_lt hd, rotr, Nat.mul_comm (2 ^ (32 - n)), Nat.add_comm]
theorem rotr_lt {n x : Nat} (h1 : n ≤ 32) (hx : x < 4294967296) : rotr n x < 4294967296 := by
  rw [← rotr_or h1 hx]
  refine Nat.or_lt_two_pow (n := 32) (Nat.mod_lt _ (by omega)) ?_
  exact Nat.lt_of_le_of_lt (Nat.div_le_self _ _) hx
theorem rotr_zero (x : Nat) : rotr 0 x = x := by
  unfold rotr
  rw [Nat.pow_zero, Nat.div_one, Nat.mod_one]
  omega
/-- Turned by one more. -/
theorem rotr_succ {n x : Nat} (h : n < 32) : rotr n x / 2 + rotr n x % 2 * 2147483648 = rotr (n + 1) x := by
  obtain ⟨m, hm⟩ : ∃ m, 32 - n = m + 1 := ⟨31 - n, by omega⟩
  have e1 : 32 - (n + 1) = m := by omega
  have e2 : n + m = 31 := by omega
  unfold rotr
  rw [hm, e1, Nat.pow_succ 2 m, Nat.pow_succ 2 n, ← Nat.div_div_eq_div_mul]
  have hq : x % (2 ^ n * 2) = x % 2 ^ n + 2 ^ n * (x / 2 ^ n % 2) := Nat.mod_mul
  rw [hq, Nat.add_mul]
  have h31 : 2 ^ n * (x / 2 ^ n % 2) * 2 ^ m = x / 2 ^ n % 2 * 2147483648 := by
    rw [Nat.mul_comm (2 ^ n), Nat.mul_assoc, ← Nat.pow_add, e2]
  rw [h31]
  generalize x / 2 ^ n = q
  have h2 : x % 2 ^ n * (2 ^ m * 2) = 2 * (x % 2 ^ n * 2 ^ m) := by rw [← Nat.mul_assoc, Nat.mul_comm]
  rw [h2]
  generalize x % 2 ^ n * 2 ^ m = r
  omega
theorem xor_w {a b : Nat} (ha : a < 4294967296) (hb : b < 4294967296) : a ^^^ b < 4294967296 := Nat.xor_lt_two_pow (n := 32) ha hb
theorem and_w {a b : Nat} (hb : b < 4294967296) : a &&& b < 4294967296 := Nat.and_lt_two_pow (n := 32) _ hb
theorem or_w {a b : Nat} (ha : a < 4294967296) (hb : b < 4294967296) : a ||| b < 4294967296 := Nat.or_lt_two_pow (n := 32) ha hb
theorem rot3_lt {p q r x : Nat} (hp : p ≤ 32) (hq : q ≤ 32) (hr : r ≤ 32) (hx : x < 4294967296) : rot3 p q r x < 4294967296 := xor_w (xor_w (rotr_lt hp hx) (rotr_lt hq hx)) (rotr_lt hr hx)
theorem mix_lt {p q s x : Nat} (hp : p ≤ 32) (hq : q ≤ 32) (hx : x < 4294967296) : mix p q s x < 4294967296 := xor_w (xor_w (rotr_lt hp hx) (rotr_lt hq hx)) (Nat.lt_of_le_of_lt (Nat.div_le_self _ _) hx)
theorem ch_lt {e f g : Nat} (he : e < 4294967296) (hf : f < 4294967296) (hg : g < 4294967296) : ch e f g < 4294967296 := xor_w hg (and_w (xor_w hf hg))
theorem maj_lt {a b c : Nat} (ha : a < 4294967296) (hb : b < 4294967296) (hc : c < 4294967296) : maj a b c < 4294967296 := or_w (and_w hb) (and_w (or_w ha hb))
theorem testBit_high {x i : Nat} (hx : x < 4294967296) (h : ¬ i < 32) : x.testBit i = false :=
  Nat.testBit_lt_two_pow (Nat.lt_of_lt_of_le (show x < 2 ^ 32 from hx) (Nat.pow_le_pow_right (by decide) (show 32 ≤ i by omega)))
theorem ch_code {e f g : Nat} (he : e < 4294967296) (hf : f < 4294967296) (hg : g < 4294967296) : (e &&& f) ||| (g &&& (4294967295 - e)) = ch e f g := by
  unfold ch
  apply Nat.eq_of_testBit_eq
  intro i
  have h := Nat.testBit_two_pow_sub_succ (n := 32) he i
  rw [show 2 ^ 32 - (e + 1) = 4294967295 - e by omega] at h
  rw [Nat.testBit_or, Nat.testBit_and, Nat.testBit_and, h, Nat.testBit_xor, Nat.testBit_and, Nat.testBit_xor]
  by_cases hi : i < 32
  · rw [decide_eq_true hi]
    cases e.testBit i <;> cases f.testBit i <;> cases g.testBit i <;> rfl
  · rw [testBit_high he hi, testBit_high hf hi, testBit_high hg hi]; simp
theorem maj_code (a b c : Nat) : (a &&& b) ||| (a &&& c) ||| (b &&& c) = maj a b c := by
  unfold maj
  apply Nat.eq_of_testBit_eq
  intro i
  simp only [Nat.testBit_or, Nat.testBit_and]
  cases a.testBit i <;> cases b.testBit i <;> cases c.testBit i <;> rfl

/-! ### Lists of words -/
/-- Words of 32 bits, n of them. -/
def W32 (n : Nat) (l : List Nat) : Prop := l.length = n ∧ ∀ x ∈ l, x < 4294967296
theorem W32.getD {n : Nat} {l : List Nat} (h : W32 n l) (i : Nat) : l.getD i 0 < 4294967296 := by
  rw [List.getD_eq_getElem?_getD]
  cases e : l[i]? with
  | none => simp
  | some x => exact h.2 x (List.mem_of_getElem? e)
theorem stepL_ok {m : Nat} {l : List Nat} (h : W32 8 l) : W32 8 (stepL m l) := by
  obtain ⟨hl, hx⟩ := h
  match l, hl with
  | [a, b, c, d, e, f, g, i], _ =>
    refine ⟨rfl, ?_⟩
    intro x hm
    simp only [stepL, List.mem_cons, List.not_mem_nil, or_false] at hm
    rcases hm with rfl | rfl | rfl | rfl | rfl | rfl | rfl | rfl
    · exact Nat.mod_lt _ (by omega)
    · exact hx _ (by simp)
    · exact hx _ (by simp)
    · exact hx _ (by simp)
    · exact Nat.mod_lt _ (by omega)
    · exact hx _ (by simp)
    · exact hx _ (by simp)
    · exact hx _ (by simp)
theorem rounds_ok {ws h : List Nat} (hh : W32 8 h) (t : Nat) : W32 8 (rounds ws h t) := by
  induction t with
  | zero => exact hh
  | succ t ih => exact stepL_ok ih
theorem addL_length {h g : List Nat} (hh : h.length = 8) (hg : g.length = 8) : (addL h g).length = 8 := by
  unfold addL; rw [List.length_zipWith, hh, hg]; rfl
theorem addL_ok {h g : List Nat} (hh : h.length = 8) (hg : g.length = 8) : W32 8 (addL h g) := by
  refine ⟨addL_length hh hg, fun x hx => ?_⟩
  unfold addL at hx
  obtain ⟨i, hi, rfl⟩ := List.getElem_of_mem hx
  rw [List.getElem_zipWith]
  exact Nat.mod_lt _ (by omega)
theorem blockL_ok {h : List Nat} (hh : W32 8 h) (b : List UInt8) : W32 8 (blockL h b) := addL_ok hh.1 (rounds_ok hh 64).1
theorem begin8_ok : W32 8 begin8 := ⟨rfl, by decide⟩
theorem hashTo_ok {h : List Nat} (hh : W32 8 h) (x : List UInt8) (n : Nat) : W32 8 (hashTo x h n) := by
  induction n with
  | zero => exact hh
  | succ n ih => exact blockL_ok ih _
theorem kk_ok : W32 64 kk := ⟨rfl, by decide⟩

theorem sched_length (ws : List Nat) (n : Nat) : (sched ws n).length = ws.length + n := by
  induction n with
  | zero => rfl
  | succ n ih => rw [sched, List.length_append, ih]; rfl
theorem sched_ok {ws : List Nat} (h : W32 16 ws) (n : Nat) : W32 (16 + n) (sched ws n) := by
  induction n with
  | zero => exact h
  | succ n ih =>
    refine ⟨by rw [sched_length, h.1], fun x hx => ?_⟩
    rw [sched, List.mem_append, List.mem_singleton] at hx
    rcases hx with hx | rfl
    · exact ih.2 x hx
    · exact Nat.mod_lt _ (by omega)
/-- What stands early stays. -/
theorem sched_getD {ws : List Nat} (hw : ws.length = 16) {n m j : Nat} (hnm : n ≤ m) (hj : j < 16 + n) : (sched ws m).getD j 0 = (sched ws n).getD j 0 := by
  obtain ⟨k, rfl⟩ : ∃ k, m = n + k := ⟨m - n, by omega⟩
  clear hnm
  induction k with
  | zero => rfl
  | succ k ih =>
    rw [← ih, show n + (k + 1) = (n + k) + 1 from rfl, sched, List.getD_eq_getElem?_getD, List.getD_eq_getElem?_getD, List.getElem?_append_left (by rw [sched_length, hw]; omega)]

/-- The window that goes round: behind n words more. -/
def winL (ws : List Nat) (n : Nat) : List Nat := (List.range 16).map fun i => (sched ws n).getD (i + 16 * ((15 + n - i) / 16)) 0
theorem winL_length (ws : List Nat) (n : Nat) : (winL ws n).length = 16 := by simp [winL]
theorem winL_at (ws : List Nat) {n j : Nat} (h1 : n ≤ j) (h2 : j < 16 + n) : (winL ws n)[j % 16]? = some ((sched ws n).getD j 0) := by
  unfold winL
  rw [List.getElem?_map, List.getElem?_range (by omega), Option.map_some]
  congr 2
  omega
theorem winL_zero {ws : List Nat} (hw : ws.length = 16) : winL ws 0 = ws := by
  apply List.ext_getElem?
  intro i
  by_cases hi : i < 16
  · have := winL_at ws (n := 0) (j := i) (by omega) (by omega)
    rw [Nat.mod_eq_of_lt hi] at this
    rw [this, sched, List.getD_eq_getElem?_getD, List.getElem?_eq_getElem (by omega)]; rfl
  · rw [List.getElem?_eq_none (by rw [winL_length]; omega), List.getElem?_eq_none (by omega)]
theorem winL_succ {ws : List Nat} (hw : ws.length = 16) (n : Nat) : (winL ws n).set (n % 16) (wordAt (sched ws n) (16 + n)) = winL ws (n + 1) := by
  apply List.ext_getElem?
  intro i
  rw [List.getElem?_set]
  by_cases hi : i < 16
  · by_cases e : n % 16 = i
    · rw [if_pos e, if_pos (by rw [winL_length]; omega)]
      subst e
      have := winL_at ws (n := n + 1) (j := 16 + n) (by omega) (by omega)
      rw [show (16 + n) % 16 = n % 16 by omega] at this
      rw [this, sched, List.getD_eq_getElem?_getD, List.getElem?_append_right (by rw [sched_length, hw]; omega), sched_length, hw, Nat.sub_self, List.getElem?_cons_zero, Option.getD_some]
    · rw [if_neg e]
      have hj : ∃ j, n + 1 ≤ j ∧ j < 16 + n ∧ j % 16 = i := ⟨i + 16 * ((15 + n - i) / 16), by omega, by omega, by omega⟩
      obtain ⟨j, h1, h2, rfl⟩ := hj
      rw [winL_at ws (by omega) h2, winL_at ws h1 (by omega), sched_getD hw (show n ≤ n + 1 by omega) h2]
  · rw [if_neg (by omega), List.getElem?_eq_none (by rw [winL_length]; omega), List.getElem?_eq_none (by rw [winL_length]; omega)]
theorem winL_lt {ws : List Nat} (h : W32 16 ws) (n : Nat) : W32 16 (winL ws n) := by
  refine ⟨winL_length _ _, fun x hx => ?_⟩
  obtain ⟨i, hi, rfl⟩ := List.mem_map.1 hx
  exact (sched_ok h n).getD _
theorem wordAt_lt (l : List Nat) (t : Nat) : wordAt l t < 4294967296 := Nat.mod_lt _ (by omega)

/-! ### Words out of bytes -/
theorem hw_snoc (l : List UInt8) (x : UInt8) : hw (l ++ [x]) = hw l * 256 + x.toNat := by simp [hw]
theorem hw_lt (l : List UInt8) : hw l < 256 ^ l.length := by
  suffices h : ∀ (l : List UInt8) (r : List UInt8), l = r.reverse → hw l < 256 ^ l.length from h l l.reverse (by simp)
  intro l r
  induction r generalizing l with
  | nil => rintro rfl; decide
  | cons x r ih =>
    rintro rfl
    have h1 := ih r.reverse rfl
    have hx := UInt8.toNat_lt x
    rw [List.reverse_cons, hw_snoc, List.length_append]
    show _ < 256 ^ (_ + 1)
    rw [Nat.pow_succ]
    omega
theorem hw_word (l : List UInt8) (h : l.length ≤ 4) : hw l < 4294967296 := Nat.lt_of_lt_of_le (hw_lt l) (Nat.pow_le_pow_right (by omega) h)
theorem hw_short (l : List UInt8) (h : l.length ≤ 3) : hw l < 16777216 := Nat.lt_of_lt_of_le (hw_lt l) (Nat.pow_le_pow_right (by omega) h)
theorem words16_ok (b : List UInt8) : W32 16 (words16 b) := by
  refine ⟨by simp [words16], fun x hx => ?_⟩
  obtain ⟨j, hj, rfl⟩ := List.mem_map.1 hx
  exact hw_word _ (by rw [List.length_take]; omega)
/-- The words behind i bytes. -/
def part16 (b : List UInt8) (i : Nat) : List Nat := (List.range 16).map fun j => hw (((b.take i).drop (4 * j)).take 4)
theorem part16_zero (b : List UInt8) : part16 b 0 = List.replicate 16 0 := by
  apply List.ext_getElem
  · simp [part16]
  · intro i h1 h2
    rw [List.getElem_replicate]
    simp [part16, hw]
theorem part16_all {b : List UInt8} (h : b.length = 64) : part16 b 64 = words16 b := by
  unfold part16 words16
  rw [List.take_of_length_le (by omega)]
theorem part16_length (b : List UInt8) (i : Nat) : (part16 b i).length = 16 := by simp [part16]
theorem part16_at (b : List UInt8) {i j : Nat} (h : j < 16) : (part16 b i)[j]? = some (hw (((b.take i).drop (4 * j)).take 4)) := by
  unfold part16
  rw [List.getElem?_map, List.getElem?_range h]; rfl
theorem part16_last {b : List UInt8} {i : Nat} (h : i < 64) (hl : b.length = 64) : ∃ n, (part16 b i)[i / 4]? = some n ∧ n < 16777216 ∧ (part16 b i).set (i / 4) (n * 256 + (b[i]'(by omega)).toNat) = part16 b (i + 1) := by
  refine ⟨_, part16_at b (by omega), hw_short _ (by simp; omega), ?_⟩
  apply List.ext_getElem?
  intro j
  rw [List.getElem?_set]
  by_cases hj : j < 16
  · have ht : b.take (i + 1) = b.take i ++ [b[i]] := by rw [List.take_add_one, List.getElem?_eq_getElem (by omega)]; rfl
    by_cases e : i / 4 = j
    · rw [if_pos e, if_pos (by rw [part16_length]; omega), part16_at b hj]
      subst e
      have h1 : ((b.take i).drop (4 * (i / 4))).take 4 = (b.take i).drop (4 * (i / 4)) := List.take_of_length_le (by rw [List.length_drop, List.length_take]; omega)
      have h2 : ((b.take i).drop (4 * (i / 4)) ++ [b[i]]).take 4 = (b.take i).drop (4 * (i / 4)) ++ [b[i]] := List.take_of_length_le (by rw [List.length_append, List.length_drop, List.length_take, List.length_singleton]; omega)
      rw [← hw_snoc, ht, List.drop_append_of_le_length (by rw [List.length_take]; omega), h1, h2]
    · rw [if_neg e, part16_at b hj, part16_at b hj]
      congr 2
      rcases Nat.lt_or_ge i (4 * j) with h1 | h1
      · rw [List.drop_eq_nil_of_le (by rw [List.length_take]; omega), List.drop_eq_nil_of_le (by rw [List.length_take]; omega)]
      · rw [ht, List.drop_append_of_le_length (by rw [List.length_take]; omega), List.take_append_of_le_length (by rw [List.length_drop, List.length_take]; omega)]
  · rw [if_neg (by omega), List.getElem?_eq_none (by rw [part16_length]; omega), List.getElem?_eq_none (by rw [part16_length]; omega)]
theorem shl_or {n x : Nat} (hn : n < 16777216) (hx : x < 256) : (n * 256 % 4294967296) ||| x = n * 256 + x := by
  rw [Nat.mod_eq_of_lt (by omega), Nat.mul_comm, show (256 : Nat) = 2 ^ 8 from rfl, ← Nat.two_pow_add_eq_or_of_lt (by omega)]

/-- The first i sums, and what was ahead of the others. -/
def addP (h g : List Nat) (i : Nat) : List Nat := (addL h g).take i ++ h.drop i
theorem addP_zero (h g : List Nat) : addP h g 0 = h := by simp [addP]
theorem addP_all {h g : List Nat} (hh : h.length = 8) (hg : g.length = 8) : addP h g 8 = addL h g := by
  unfold addP
  rw [List.take_of_length_le (by rw [addL_length hh hg]; omega), List.drop_eq_nil_of_le (by omega), List.append_nil]
theorem addP_length {h g : List Nat} (hh : h.length = 8) (hg : g.length = 8) {i : Nat} (hi : i ≤ 8) : (addP h g i).length = 8 := by
  unfold addP
  rw [List.length_append, List.length_take, List.length_drop, addL_length hh hg, hh]
  omega
theorem addP_get {h g : List Nat} (hh : h.length = 8) (hg : g.length = 8) {i : Nat} (hi : i < 8) : (addP h g i)[i]? = some (h.getD i 0) := by
  unfold addP
  have hl : ((addL h g).take i).length = i := by rw [List.length_take, addL_length hh hg]; omega
  rw [List.getElem?_append_right (by omega), hl, Nat.sub_self, List.getElem?_drop, Nat.add_zero, List.getD_eq_getElem?_getD, List.getElem?_eq_getElem (by omega)]
  rfl
theorem addL_get {h g : List Nat} (hh : h.length = 8) (hg : g.length = 8) {i : Nat} (hi : i < 8) : (addL h g)[i]? = some ((h.getD i 0 + g.getD i 0) % 4294967296) := by
  unfold addL
  rw [List.getElem?_zipWith, List.getD_eq_getElem?_getD, List.getD_eq_getElem?_getD, List.getElem?_eq_getElem (show i < h.length by omega), List.getElem?_eq_getElem (show i < g.length by omega), Option.getD_some, Option.getD_some]
theorem addP_set {h g : List Nat} (hh : h.length = 8) (hg : g.length = 8) {i : Nat} (hi : i < 8) : (addP h g i).set i ((h.getD i 0 + g.getD i 0) % 4294967296) = addP h g (i + 1) := by
  have hl : ((addL h g).take i).length = i := by rw [List.length_take, addL_length hh hg]; omega
  unfold addP
  rw [List.set_append, if_neg (by omega), hl, Nat.sub_self, List.take_add_one, addL_get hh hg hi, List.append_assoc]
  congr 1
  rw [List.drop_eq_getElem_cons (show i < h.length by omega)]
  rfl

/-! ### Bytes filled -/
theorem be8_length (n : Nat) : (be8 n).length = 8 := by simp [be8]
theorem be8_drop {n i : Nat} (h : i < 8) : (be8 n).drop (8 - (i + 1)) = UInt8.ofNat (n / 2 ^ (8 * i)) :: (be8 n).drop (8 - i) := by
  rw [List.drop_eq_getElem_cons (by rw [be8_length]; omega)]
  congr 1
  · simp only [be8, List.getElem_map, List.getElem_range]
    congr 3
    omega
  · congr 1
    omega
/-- Behind i bytes of the count. -/
def partF (b : List UInt8) (i : Nat) : List UInt8 := b ++ 128 :: (List.replicate (64 * ((b.length + 8) / 64 + 1) - b.length - 1 - i) 0 ++ (be8 (8 * b.length)).drop (8 - i))
theorem partF_length (b : List UInt8) {i : Nat} (h : i ≤ 8) : (partF b i).length = 64 * ((b.length + 8) / 64 + 1) := by
  unfold partF
  rw [List.length_append, List.length_cons, List.length_append, List.length_replicate, List.length_drop, be8_length]
  omega
theorem partF_all (b : List UInt8) : partF b 8 = fill b := by
  unfold partF fill
  rw [Nat.sub_self, List.drop_zero, show 64 * ((b.length + 8) / 64 + 1) - b.length - 1 - 8 = 64 * ((b.length + 8) / 64 + 1) - b.length - 9 by omega]
theorem fill_length (b : List UInt8) : (fill b).length = 64 * ((b.length + 8) / 64 + 1) := by rw [← partF_all, partF_length b (by omega)]
theorem partF_zero (b : List UInt8) : (b ++ List.replicate (64 * ((b.length + 8) / 64 + 1) - b.length) 0).set b.length 128 = partF b 0 := by
  have hk : 64 * ((b.length + 8) / 64 + 1) - b.length = (64 * ((b.length + 8) / 64 + 1) - b.length - 1 - 0) + 1 := by omega
  unfold partF
  rw [List.set_append, if_neg (by omega), Nat.sub_self, hk, List.replicate_succ, List.set_cons_zero, List.drop_eq_nil_of_le (by rw [be8_length]; omega), List.append_nil]
  congr 4
theorem partF_set (b : List UInt8) {i : Nat} (h : i < 8) : (partF b i).set (64 * ((b.length + 8) / 64 + 1) - 1 - i) (UInt8.ofNat (8 * b.length / 2 ^ (8 * i))) = partF b (i + 1) := by
  have hk : 64 * ((b.length + 8) / 64 + 1) - b.length - 1 - i = (64 * ((b.length + 8) / 64 + 1) - b.length - 1 - (i + 1)) + 1 := by omega
  have hn : 64 * ((b.length + 8) / 64 + 1) - 1 - i - b.length = (64 * ((b.length + 8) / 64 + 1) - b.length - 1 - (i + 1)) + 1 := by omega
  unfold partF
  rw [be8_drop h, List.set_append, if_neg (by omega), hn, List.set_cons_succ, hk, List.set_append, if_pos (by rw [List.length_replicate]; omega)]
  generalize 64 * ((b.length + 8) / 64 + 1) - b.length - 1 - (i + 1) = k
  congr 2
  rw [List.replicate_succ', List.set_append, if_neg (by rw [List.length_replicate]; omega), List.length_replicate, Nat.sub_self, List.set_cons_zero, List.append_assoc]
  rfl

/-! ### Filling a row from its head -/
def tf {α : Type} (l : List α) (z : α) (i : Nat) : List α := l.take i ++ List.replicate (l.length - i) z
theorem tf_zero {α : Type} (l : List α) (z : α) : tf l z 0 = List.replicate l.length z := by simp [tf]
theorem tf_all {α : Type} (l : List α) (z : α) : tf l z l.length = l := by simp [tf]
theorem tf_length {α : Type} (l : List α) (z : α) {i : Nat} (h : i ≤ l.length) : (tf l z i).length = l.length := by
  unfold tf
  rw [List.length_append, List.length_take, List.length_replicate]
  omega
theorem tf_set {α : Type} (l : List α) (z : α) {i : Nat} (h : i < l.length) : (tf l z i).set i l[i] = tf l z (i + 1) := by
  have hl : (l.take i).length = i := by rw [List.length_take]; omega
  have hr : l.length - i = (l.length - (i + 1)) + 1 := by omega
  unfold tf
  rw [List.set_append, if_neg (by omega), hl, Nat.sub_self, List.take_add_one, List.getElem?_eq_getElem h, hr, List.replicate_succ, List.set_cons_zero, List.append_assoc]
  rfl
theorem told32_length (h : List Nat) : (told32 h).length = 32 := by simp [told32]
theorem told32_at (h : List Nat) {i : Nat} (hi : i < 32) : (told32 h)[i]'(by rw [told32_length]; exact hi) = UInt8.ofNat (h.getD (i / 4) 0 / 2 ^ (24 - 8 * (i % 4))) := by
  simp only [told32, List.getElem_map, List.getElem_range]

/-! ### What filled bytes are made of -/
theorem fill_take (b : List UInt8) : (fill b).take b.length = b := by
  unfold fill
  rw [List.take_append_of_le_length (Nat.le_refl _), List.take_length]
theorem fill_mark (b : List UInt8) : (fill b)[b.length]? = some 128 := by
  unfold fill
  rw [List.getElem?_append_right (Nat.le_refl _), Nat.sub_self]
  rfl
theorem fill_nought (b : List UInt8) {i : Nat} (h1 : b.length < i) (h2 : i + 8 < 64 * ((b.length + 8) / 64 + 1)) : (fill b)[i]? = some 0 := by
  obtain ⟨k, rfl⟩ : ∃ k, i = b.length + 1 + k := ⟨i - b.length - 1, by omega⟩
  unfold fill
  rw [List.getElem?_append_right (by omega), show b.length + 1 + k - b.length = k + 1 by omega, List.getElem?_cons_succ, List.getElem?_append_left (by rw [List.length_replicate]; omega), List.getElem?_replicate, if_pos (by omega)]
theorem fill_count (b : List UInt8) {t : Nat} (ht : t < 8) : (fill b)[64 * ((b.length + 8) / 64 + 1) - 8 + t]? = some (UInt8.ofNat (8 * b.length / 2 ^ (56 - 8 * t))) := by
  have hk : 64 * ((b.length + 8) / 64 + 1) - 8 + t - b.length = (64 * ((b.length + 8) / 64 + 1) - b.length - 9 + t) + 1 := by omega
  unfold fill
  rw [List.getElem?_append_right (by omega), hk, List.getElem?_cons_succ, List.getElem?_append_right (by rw [List.length_replicate]; omega), List.length_replicate, show 64 * ((b.length + 8) / 64 + 1) - b.length - 9 + t - (64 * ((b.length + 8) / 64 + 1) - b.length - 9) = t by omega]
  unfold be8
  rw [List.getElem?_map, List.getElem?_range ht]; rfl
theorem fill_inj {a b : List UInt8} (ha : a.length ≤ 3000) (hb : b.length ≤ 3000) (h : fill a = fill b) : a = b := by
  have hl : 64 * ((a.length + 8) / 64 + 1) = 64 * ((b.length + 8) / 64 + 1) := by rw [← fill_length, ← fill_length, h]
  have key : ∀ t, t < 8 → (8 * a.length / 2 ^ (56 - 8 * t)) % 256 = (8 * b.length / 2 ^ (56 - 8 * t)) % 256 := by
    intro t ht
    have h1 := fill_count a ht
    have h2 := fill_count b ht
    rw [h, hl, h2] at h1
    have h3 := congrArg UInt8.toNat (Option.some.inj h1)
    rw [UInt8.toNat_ofNat', UInt8.toNat_ofNat'] at h3
    exact h3.symm
  have k7 := key 7 (by omega)
  have k6 := key 6 (by omega)
  simp only [Nat.reduceMul, Nat.reduceSub, Nat.reducePow, Nat.div_one] at k7 k6
  have hlen : a.length = b.length := by omega
  rw [← fill_take a, ← fill_take b, h, hlen]
/-- The number that the last bytes tell, up to place i. -/
def toldN (n M i : Nat) : Nat := n / 2 ^ (64 - 8 * (i + 8 - M))
theorem toldN_early {n M i : Nat} (h : i + 8 ≤ M) (hn : n ≤ 24000) : toldN n M i = 0 := by
  unfold toldN
  rw [show i + 8 - M = 0 by omega]
  exact Nat.div_eq_of_lt (by omega)
theorem toldN_late {n M t : Nat} (h8 : 8 ≤ M) (h : t < 8) : toldN n M (M - 8 + (t + 1)) = 256 * toldN n M (M - 8 + t) + (UInt8.ofNat (n / 2 ^ (56 - 8 * t))).toNat := by
  unfold toldN
  rw [show M - 8 + (t + 1) + 8 - M = t + 1 by omega, show M - 8 + t + 8 - M = t by omega, show 64 - 8 * (t + 1) = 56 - 8 * t by omega, show 64 - 8 * t = (56 - 8 * t) + 8 by omega, Nat.pow_add, ← Nat.div_div_eq_div_mul, UInt8.toNat_ofNat']
  generalize n / 2 ^ (56 - 8 * t) = q
  omega
theorem toldN_all (n M : Nat) : toldN n M M = n := by
  unfold toldN
  rw [show M + 8 - M = 8 by omega]
  simp
theorem toldN_le (n M i : Nat) : toldN n M i ≤ n := Nat.div_le_self _ _

/-- The count's bytes, written from the last one on: behind k of them. -/
def tailP (n k : Nat) : List UInt8 := List.replicate (8 - k) 0 ++ (be8 n).drop (8 - k)
theorem tailP_zero (n : Nat) : tailP n 0 = List.replicate 8 0 := by
  unfold tailP
  rw [List.drop_eq_nil_of_le (by rw [be8_length]; omega), List.append_nil]
theorem tailP_all (n : Nat) : tailP n 8 = be8 n := by simp [tailP]
theorem tailP_length (n : Nat) {k : Nat} (h : k ≤ 8) : (tailP n k).length = 8 := by
  unfold tailP
  rw [List.length_append, List.length_replicate, List.length_drop, be8_length]
  omega
theorem tailP_set (n : Nat) {k : Nat} (h : k < 8) : (tailP n k).set (7 - k) (UInt8.ofNat (n / 2 ^ (8 * k))) = tailP n (k + 1) := by
  have hr : 8 - k = (7 - k) + 1 := by omega
  have hq : 8 - (k + 1) = 7 - k := by omega
  unfold tailP
  rw [be8_drop h, hq, List.set_append, if_pos (by rw [List.length_replicate]; omega), hr, List.replicate_succ', List.set_append, if_neg (by rw [List.length_replicate]; omega), List.length_replicate, Nat.sub_self, List.set_cons_zero, List.append_assoc]
  rfl
end Go.Proofs.YtdaaemnfphagbaaDoor
