/-
 Hashes as plain functions on numbers and bytes.
 Conditions: none.
-/
import Derived.Test.YteloiajocjahmaaGreatDoorSGTxt
import Derived.Laws.ShiftsVar
import Derived.Laws.ShiftsVarLaws
import Derived.Laws.BitsAllLaws
import Derived.Deep.QuietTactic
import Derived.BigQuiet
import Derived.IntWalk
import Derived.Lib.Hide
import Derived.Deep.LoopGhost
import Derived.Deep.DeepMust
import Derived.Deep.WholeRow
import Derived.Laws.ResultCell
import Derived.Laws.NewBlocks
import Derived.Deep.MidRow
import Derived.Test.YteloiajocjahmaaGreatDoorSGBase
import Derived.StillTailTactics
set_option linter.unusedVariables false
set_option linter.unusedSimpArgs false
set_option maxRecDepth 100000
namespace Go.Proofs.YteloiajocjahmaaGreatDoor

/-- A word of 32 bits turned right by n. -/
def rotr (n x : Nat) : Nat := x / 2 ^ n + x % 2 ^ n * 2 ^ (32 - n)
def rot3 (p q r x : Nat) : Nat := rotr p x ^^^ rotr q x ^^^ rotr r x
def mix (p q s x : Nat) : Nat := rotr p x ^^^ rotr q x ^^^ x / 2 ^ s
def ch (e f g : Nat) : Nat := g ^^^ (e &&& (f ^^^ g))
def maj (a b c : Nat) : Nat := (a &&& b) ||| (c &&& (a ||| b))
/-- What a step makes of eight words. -/
def stepL (m : Nat) : List Nat → List Nat
 | [a, b, c, d, e, f, g, h] =>
  [((h + rot3 6 11 25 e + ch e f g + m) % 4294967296 + (rot3 2 13 22 a + maj a b c) % 4294967296) % 4294967296, a, b, c, (d + (h + rot3 6 11 25 e + ch e f g + m) % 4294967296) % 4294967296, e, f, g]
 | l => l
def wordAt (l : List Nat) (t : Nat) : Nat := (l.getD (t - 16) 0 + mix 7 18 3 (l.getD (t - 15) 0) + l.getD (t - 7) 0 + mix 17 19 10 (l.getD (t - 2) 0)) % 4294967296
/-- The words, and so many made of them. -/
def sched (ws : List Nat) : Nat → List Nat
 | 0 => ws
 | n + 1 => sched ws n ++ [wordAt (sched ws n) (16 + n)]
def hw (l : List UInt8) : Nat := l.foldl (fun n x => n * 256 + x.toNat) 0
def words16 (b : List UInt8) : List Nat := (List.range 16).map fun j => hw ((b.drop (4 * j)).take 4)
def kk : List Nat := [1116352408, 1899447441, 3049323471, 3921009573, 961987163, 1508970993, 2453635748, 2870763221, 3624381080, 310598401, 607225278, 1426881987, 1925078388, 2162078206, 2614888103, 3248222580, 3835390401, 4022224774, 264347078, 604807628, 770255983, 1249150122, 1555081692, 1996064986, 2554220882, 2821834349, 2952996808, 3210313671, 3336571891, 3584528711, 113926993, 338241895, 666307205, 773529912, 1294757372, 1396182291, 1695183700, 1986661051, 2177026350, 2456956037, 2730485921, 2820302411, 3259730800, 3345764771, 3516065817, 3600352804, 4094571909, 275423344, 430227734, 506948616, 659060556, 883997877, 958139571, 1322822218, 1537002063, 1747873779, 1955562222, 2024104815, 2227730452, 2361852424, 2428436474, 2756734187, 3204031479, 3329325298]
def begin8 : List Nat := [1779033703, 3144134277, 1013904242, 2773480762, 1359893119, 2600822924, 528734635, 1541459225]
/-- Behind so many steps. -/
def rounds (ws h : List Nat) : Nat → List Nat
 | 0 => h
 | t + 1 => stepL ((kk.getD t 0 + ws.getD t 0) % 4294967296) (rounds ws h t)
def addL (h g : List Nat) : List Nat := List.zipWith (fun x y => (x + y) % 4294967296) h g
/-- What a block makes of eight words. -/
def blockL (h : List Nat) (b : List UInt8) : List Nat := addL h (rounds (sched (words16 b) 48) h 64)
def be8 (n : Nat) : List UInt8 := (List.range 8).map fun i => UInt8.ofNat (n / 2 ^ (56 - 8 * i))
/-- Bytes, filled. -/
def fill (b : List UInt8) : List UInt8 := b ++ 128 :: (List.replicate (64 * ((b.length + 8) / 64 + 1) - b.length - 9) 0 ++ be8 (8 * b.length))
/-- Behind so many blocks. -/
def hashTo (x : List UInt8) (h : List Nat) : Nat → List Nat
 | 0 => h
 | n + 1 => blockL (hashTo x h n) ((x.drop (64 * n)).take 64)
def told32 (h : List Nat) : List UInt8 := (List.range 32).map fun i => UInt8.ofNat (h.getD (i / 4) 0 / 2 ^ (24 - 8 * (i % 4)))
def sumL (b : List UInt8) : List UInt8 := told32 (hashTo (fill b) begin8 ((b.length + 8) / 64 + 1))

/-! ### Words -/
theorem rotr_or {n x : Nat} (h1 : n ≤ 32) (hx : x < 4294967296) : (x * 2 ^ (32 - n) % 4294967296) ||| (x / 2 ^ n) = rotr n x := by
 have hp : 2 ^ n * 2 ^ (32 - n) = 4294967296 := by rw [← Nat.pow_add, Nat.add_sub_cancel' h1]
 have hm : x * 2 ^ (32 - n) % 4294967296 = x % 2 ^ n * 2 ^ (32 - n) := by
  rw [← hp, Nat.mul_mod_mul_right]
 have hd : x / 2 ^ n < 2 ^ (32 - n) := by
  rw [Nat.div_lt_iff_lt_mul (Nat.two_pow_pos n), Nat.mul_comm, hp]
  exact hx
 rw [hm, Nat.mul_comm (x % 2 ^ n), ← Nat.two_pow_add_eq_or_of_lt hd, rotr, Nat.mul_comm (2 ^ (32 - n)), Nat.add_comm]
theorem rotr_lt {n x : Nat} (h1 : n ≤ 32) (hx : x < 4294967296) : rotr n x < 4294967296 := by
 rw [← rotr_or h1 hx]
 refine Nat.or_lt_two_pow (n := 32) (Nat.mod_lt _ (by omega)) ?_
 exact Nat.lt_of_le_of_lt (Nat.div_le_self _ _) hx
theorem rotr_zero (x : Nat) : rotr 0 x = x := by
 unfold rotr
 rw [Nat.pow_zero, Nat.div_one, Nat.mod_one]
 omega
/-- Turned by one more. -/
theorem rotr_succ {n x : Nat} (h : n < 32) : rotr n x / 2 + rotr n x % 2 * 2147483648 = rotr (n + 1) x := by
 obtain ⟨m, hm⟩ : ∃ m, 32 - n = m + 1 := ⟨31 - n, by omega⟩
 have e1 : 32 - (n + 1) = m := by omega
 have e2 : n + m = 31 := by omega
 unfold rotr
 rw [hm, e1, Nat.pow_succ 2 m, Nat.pow_succ 2 n, ← Nat.div_div_eq_div_mul]
 have hq : x % (2 ^ n * 2) = x % 2 ^ n + 2 ^ n * (x / 2 ^ n % 2) := Nat.mod_mul
 rw [hq, Nat.add_mul]
 have h31 : 2 ^ n * (x / 2 ^ n % 2) * 2 ^ m = x / 2 ^ n % 2 * 2147483648 := by
  rw [Nat.mul_comm (2 ^ n), Nat.mul_assoc, ← Nat.pow_add, e2]
 rw [h31]
 generalize x / 2 ^ n = q
 have h2 : x % 2 ^ n * (2 ^ m * 2) = 2 * (x % 2 ^ n * 2 ^ m) := by rw [← Nat.mul_assoc, Nat.mul_comm]
 rw [h2]
 generalize x % 2 ^ n * 2 ^ m = r
 omega
theorem xor_w {a b : Nat} (ha : a < 4294967296) (hb : b < 4294967296) : a ^^^ b < 4294967296 := Nat.xor_lt_two_pow (n := 32) ha hb
theorem and_w {a b : Nat} (hb : b < 4294967296) : a &&& b < 4294967296 := Nat.and_lt_two_pow (n := 32) _ hb
theorem or_w {a b : Nat} (ha : a < 4294967296) (hb : b < 4294967296) : a ||| b < 4294967296 := Nat.or_lt_two_pow (n := 32) ha hb
theorem rot3_lt {p q r x : Nat} (hp : p ≤ 32) (hq : q ≤ 32) (hr : r ≤ 32) (hx : x < 4294967296) : rot3 p q r x < 4294967296 := xor_w (xor_w (rotr_lt hp hx) (rotr_lt hq hx)) (rotr_lt hr hx)
theorem mix_lt {p q s x : Nat} (hp : p ≤ 32) (hq : q ≤ 32) (hx : x < 4294967296) : mix p q s x < 4294967296 := xor_w (xor_w (rotr_lt hp hx) (rotr_lt hq hx)) (Nat.lt_of_le_of_lt (Nat.div_le_self _ _) hx)
theorem ch_lt {e f g : Nat} (he : e < 4294967296) (hf : f < 4294967296) (hg : g < 4294967296) : ch e f g < 4294967296 := xor_w hg (and_w (xor_w hf hg))
theorem maj_lt {a b c : Nat} (ha : a < 4294967296) (hb : b < 4294967296) (hc : c < 4294967296) : maj a b c < 4294967296 := or_w (and_w hb) (and_w (or_w ha hb))
theorem testBit_high {x i : Nat} (hx : x < 4294967296) (h : ¬ i < 32) : x.testBit i = false :=
 Nat.testBit_lt_two_pow (Nat.lt_of_lt_of_le (show x < 2 ^ 32 from hx) (Nat.pow_le_pow_right (by decide) (show 32 ≤ i by omega)))
theorem ch_code {e f g : Nat} (he : e < 4294967296) (hf : f < 4294967296) (hg : g < 4294967296) : (e &&& f) ||| (g &&& (4294967295 - e)) = ch e f g := by
 unfold ch
 apply Nat.eq_of_testBit_eq
 intro i
 have h := Nat.testBit_two_pow_sub_succ (n := 32) he i
 rw [show 2 ^ 32 - (e + 1) = 4294967295 - e by omega] at h
 rw [Nat.testBit_or, Nat.testBit_and, Nat.testBit_and, h, Nat.testBit_xor, Nat.testBit_and, Nat.testBit_xor]
 by_cases hi : i < 32
 ·rw [decide_eq_true hi]
  cases e.testBit i <;> cases f.testBit i <;> cases g.testBit i <;> rfl
 ·rw [testBit_high he hi, testBit_high hf hi, testBit_high hg hi]; simp
theorem maj_code (a b c : Nat) : (a &&& b) ||| (a &&& c) ||| (b &&& c) = maj a b c := by
 unfold maj
 apply Nat.eq_of_testBit_eq
 intro i
 simp only [Nat.testBit_or, Nat.testBit_and]
 cases a.testBit i <;> cases b.testBit i <;> cases c.testBit i <;> rfl

/-! ### Lists of words -/
/-- Words of 32 bits, n of them. -/
def W32 (n : Nat) (l : List Nat) : Prop := l.length = n ∧ ∀ x ∈ l, x < 4294967296
theorem W32.getD {n : Nat} {l : List Nat} (h : W32 n l) (i : Nat) : l.getD i 0 < 4294967296 := by
 rw [List.getD_eq_getElem?_getD]
 cases e : l[i]? with
 | none => simp
 | some x => exact h.2 x (List.mem_of_getElem? e)
theorem stepL_ok {m : Nat} {l : List Nat} (h : W32 8 l) : W32 8 (stepL m l) := by
 obtain ⟨hl, hx⟩ := h
 match l, hl with
 | [a, b, c, d, e, f, g, i], _ =>
  refine ⟨rfl, ?_⟩
  intro x hm
  simp only [stepL, List.mem_cons, List.not_mem_nil, or_false] at hm
  rcases hm with rfl | rfl | rfl | rfl | rfl | rfl | rfl | rfl
  ·exact Nat.mod_lt _ (by omega)
  ·exact hx _ (by simp)
  ·exact hx _ (by simp)
  ·exact hx _ (by simp)
  ·exact Nat.mod_lt _ (by omega)
  ·exact hx _ (by simp)
  ·exact hx _ (by simp)
  ·exact hx _ (by simp)
theorem rounds_ok {ws h : List Nat} (hh : W32 8 h) (t : Nat) : W32 8 (rounds ws h t) := by
 induction t with
 | zero => exact hh
 | succ t ih => exact stepL_ok ih
theorem addL_length {h g : List Nat} (hh : h.length = 8) (hg : g.length = 8) : (addL h g).length = 8 := by
 unfold addL; rw [List.length_zipWith, hh, hg]; rfl
theorem addL_ok {h g : List Nat} (hh : h.length = 8) (hg : g.length = 8) : W32 8 (addL h g) := by
 refine ⟨addL_length hh hg, fun x hx => ?_⟩
 unfold addL at hx
 obtain ⟨i, hi, rfl⟩ := List.getElem_of_mem hx
 rw [List.getElem_zipWith]
 exact Nat.mod_lt _ (by omega)
theorem blockL_ok {h : List Nat} (hh : W32 8 h) (b : List UInt8) : W32 8 (blockL h b) := addL_ok hh.1 (rounds_ok hh 64).1
theorem begin8_ok : W32 8 begin8 := ⟨rfl, by decide⟩
theorem hashTo_ok {h : List Nat} (hh : W32 8 h) (x : List UInt8) (n : Nat) : W32 8 (hashTo x h n) := by
 induction n with
 | zero => exact hh
 | succ n ih => exact blockL_ok ih _
theorem kk_ok : W32 64 kk := ⟨rfl, by decide⟩

theorem sched_length (ws : List Nat) (n : Nat) : (sched ws n).length = ws.length + n := by
 induction n with
 | zero => rfl
 | succ n ih => rw [sched, List.length_append, ih]; rfl
theorem sched_ok {ws : List Nat} (h : W32 16 ws) (n : Nat) : W32 (16 + n) (sched ws n) := by
 induction n with
 | zero => exact h
 | succ n ih =>
  refine ⟨by rw [sched_length, h.1], fun x hx => ?_⟩
  rw [sched, List.mem_append, List.mem_singleton] at hx
  rcases hx with hx | rfl
  ·exact ih.2 x hx
  ·exact Nat.mod_lt _ (by omega)
/-- What stands early stays. -/
theorem sched_getD {ws : List Nat} (hw : ws.length = 16) {n m j : Nat} (hnm : n ≤ m) (hj : j < 16 + n) : (sched ws m).getD j 0 = (sched ws n).getD j 0 := by
 obtain ⟨k, rfl⟩ : ∃ k, m = n + k := ⟨m - n, by omega⟩
 clear hnm
 induction k with
 | zero => rfl
 | succ k ih =>
  rw [← ih, show n + (k + 1) = (n + k) + 1 from rfl, sched, List.getD_eq_getElem?_getD, List.getD_eq_getElem?_getD, List.getElem?_append_left (by rw [sched_length, hw]; omega)]

/-- The window that goes round: behind n words more. -/
def winL (ws : List Nat) (n : Nat) : List Nat := (List.range 16).map fun i => (sched ws n).getD (i + 16 * ((15 + n - i) / 16)) 0
theorem winL_length (ws : List Nat) (n : Nat) : (winL ws n).length = 16 := by simp [winL]
theorem winL_at (ws : List Nat) {n j : Nat} (h1 : n ≤ j) (h2 : j < 16 + n) : (winL ws n)[j % 16]? = some ((sched ws n).getD j 0) := by
 unfold winL
 rw [List.getElem?_map, List.getElem?_range (by omega), Option.map_some]
 congr 2
 omega
theorem winL_zero {ws : List Nat} (hw : ws.length = 16) : winL ws 0 = ws := by
 apply List.ext_getElem?
 intro i
 by_cases hi : i < 16
 ·have := winL_at ws (n := 0) (j := i) (by omega) (by omega)
  rw [Nat.mod_eq_of_lt hi] at this
  rw [this, sched, List.getD_eq_getElem?_getD, List.getElem?_eq_getElem (by omega)]; rfl
 ·rw [List.getElem?_eq_none (by rw [winL_length]; omega), List.getElem?_eq_none (by omega)]
theorem winL_succ {ws : List Nat} (hw : ws.length = 16) (n : Nat) : (winL ws n).set (n % 16) (wordAt (sched ws n) (16 + n)) = winL ws (n + 1) := by
 apply List.ext_getElem?
 intro i
 rw [List.getElem?_set]
 by_cases hi : i < 16
 ·by_cases e : n % 16 = i
  ·rw [if_pos e, if_pos (by rw [winL_length]; omega)]
   subst e
   have := winL_at ws (n := n + 1) (j := 16 + n) (by omega) (by omega)
   rw [show (16 + n) % 16 = n % 16 by omega] at this
   rw [this, sched, List.getD_eq_getElem?_getD, List.getElem?_append_right (by rw [sched_length, hw]; omega), sched_length, hw, Nat.sub_self, List.getElem?_cons_zero, Option.getD_some]
  ·rw [if_neg e]
   have hj : ∃ j, n + 1 ≤ j ∧ j < 16 + n ∧ j % 16 = i := ⟨i + 16 * ((15 + n - i) / 16), by omega, by omega, by omega⟩
   obtain ⟨j, h1, h2, rfl⟩ := hj
   rw [winL_at ws (by omega) h2, winL_at ws h1 (by omega), sched_getD hw (show n ≤ n + 1 by omega) h2]
 ·rw [if_neg (by omega), List.getElem?_eq_none (by rw [winL_length]; omega), List.getElem?_eq_none (by rw [winL_length]; omega)]
theorem wordAt_lt (l : List Nat) (t : Nat) : wordAt l t < 4294967296 := Nat.mod_lt _ (by omega)

/-! ### Words out of bytes -/
theorem hw_snoc (l : List UInt8) (x : UInt8) : hw (l ++ [x]) = hw l * 256 + x.toNat := by simp [hw]
theorem hw_lt (l : List UInt8) : hw l < 256 ^ l.length := by
 suffices h : ∀ (l : List UInt8) (r : List UInt8), l = r.reverse → hw l < 256 ^ l.length from h l l.reverse (by simp)
 intro l r
 induction r generalizing l with
 | nil => rintro rfl; decide
 | cons x r ih =>
  rintro rfl
  have h1 := ih r.reverse rfl
  have hx := UInt8.toNat_lt x
  rw [List.reverse_cons, hw_snoc, List.length_append]
  show _ < 256 ^ (_ + 1)
  rw [Nat.pow_succ]
  omega
theorem hw_word (l : List UInt8) (h : l.length ≤ 4) : hw l < 4294967296 := Nat.lt_of_lt_of_le (hw_lt l) (Nat.pow_le_pow_right (by omega) h)
theorem hw_short (l : List UInt8) (h : l.length ≤ 3) : hw l < 16777216 := Nat.lt_of_lt_of_le (hw_lt l) (Nat.pow_le_pow_right (by omega) h)
theorem words16_ok (b : List UInt8) : W32 16 (words16 b) := by
 refine ⟨by simp [words16], fun x hx => ?_⟩
 obtain ⟨j, hj, rfl⟩ := List.mem_map.1 hx
 exact hw_word _ (by rw [List.length_take]; omega)
/-- The words behind i bytes. -/
def part16 (b : List UInt8) (i : Nat) : List Nat := (List.range 16).map fun j => hw (((b.take i).drop (4 * j)).take 4)
theorem part16_zero (b : List UInt8) : part16 b 0 = List.replicate 16 0 := by
 apply List.ext_getElem
 ·simp [part16]
 ·intro i h1 h2
  rw [List.getElem_replicate]
  simp [part16, hw]
theorem part16_all {b : List UInt8} (h : b.length = 64) : part16 b 64 = words16 b := by
 unfold part16 words16
 rw [List.take_of_length_le (by omega)]
theorem part16_length (b : List UInt8) (i : Nat) : (part16 b i).length = 16 := by simp [part16]
theorem part16_at (b : List UInt8) {i j : Nat} (h : j < 16) : (part16 b i)[j]? = some (hw (((b.take i).drop (4 * j)).take 4)) := by
 unfold part16
 rw [List.getElem?_map, List.getElem?_range h]; rfl
theorem part16_last {b : List UInt8} {i : Nat} (h : i < 64) (hl : b.length = 64) : ∃ n, (part16 b i)[i / 4]? = some n ∧ n < 16777216 ∧ (part16 b i).set (i / 4) (n * 256 + (b[i]'(by omega)).toNat) = part16 b (i + 1) := by
 refine ⟨_, part16_at b (by omega), hw_short _ (by simp; omega), ?_⟩
 apply List.ext_getElem?
 intro j
 rw [List.getElem?_set]
 by_cases hj : j < 16
 ·have ht : b.take (i + 1) = b.take i ++ [b[i]] := by rw [List.take_add_one, List.getElem?_eq_getElem (by omega)]; rfl
  by_cases e : i / 4 = j
  ·rw [if_pos e, if_pos (by rw [part16_length]; omega), part16_at b hj]
   subst e
   have h1 : ((b.take i).drop (4 * (i / 4))).take 4 = (b.take i).drop (4 * (i / 4)) := List.take_of_length_le (by rw [List.length_drop, List.length_take]; omega)
   have h2 : ((b.take i).drop (4 * (i / 4)) ++ [b[i]]).take 4 = (b.take i).drop (4 * (i / 4)) ++ [b[i]] := List.take_of_length_le (by rw [List.length_append, List.length_drop, List.length_take, List.length_singleton]; omega)
   rw [← hw_snoc, ht, List.drop_append_of_le_length (by rw [List.length_take]; omega), h1, h2]
  ·rw [if_neg e, part16_at b hj, part16_at b hj]
   congr 2
   rcases Nat.lt_or_ge i (4 * j) with h1 | h1
   ·rw [List.drop_eq_nil_of_le (by rw [List.length_take]; omega), List.drop_eq_nil_of_le (by rw [List.length_take]; omega)]
   ·rw [ht, List.drop_append_of_le_length (by rw [List.length_take]; omega), List.take_append_of_le_length (by rw [List.length_drop, List.length_take]; omega)]
 ·rw [if_neg (by omega), List.getElem?_eq_none (by rw [part16_length]; omega), List.getElem?_eq_none (by rw [part16_length]; omega)]
theorem shl_or {n x : Nat} (hn : n < 16777216) (hx : x < 256) : (n * 256 % 4294967296) ||| x = n * 256 + x := by
 rw [Nat.mod_eq_of_lt (by omega), Nat.mul_comm, show (256 : Nat) = 2 ^ 8 from rfl, ← Nat.two_pow_add_eq_or_of_lt (by omega)]

/-- The first i sums, and what was ahead of the others. -/
def addP (h g : List Nat) (i : Nat) : List Nat := (addL h g).take i ++ h.drop i
theorem addP_zero (h g : List Nat) : addP h g 0 = h := by simp [addP]
theorem addP_all {h g : List Nat} (hh : h.length = 8) (hg : g.length = 8) : addP h g 8 = addL h g := by
 unfold addP
 rw [List.take_of_length_le (by rw [addL_length hh hg]; omega), List.drop_eq_nil_of_le (by omega), List.append_nil]
theorem addP_get {h g : List Nat} (hh : h.length = 8) (hg : g.length = 8) {i : Nat} (hi : i < 8) : (addP h g i)[i]? = some (h.getD i 0) := by
 unfold addP
 have hl : ((addL h g).take i).length = i := by rw [List.length_take, addL_length hh hg]; omega
 rw [List.getElem?_append_right (by omega), hl, Nat.sub_self, List.getElem?_drop, Nat.add_zero, List.getD_eq_getElem?_getD, List.getElem?_eq_getElem (by omega)]
 rfl
theorem addL_get {h g : List Nat} (hh : h.length = 8) (hg : g.length = 8) {i : Nat} (hi : i < 8) : (addL h g)[i]? = some ((h.getD i 0 + g.getD i 0) % 4294967296) := by
 unfold addL
 rw [List.getElem?_zipWith, List.getD_eq_getElem?_getD, List.getD_eq_getElem?_getD, List.getElem?_eq_getElem (show i < h.length by omega), List.getElem?_eq_getElem (show i < g.length by omega), Option.getD_some, Option.getD_some]
theorem addP_set {h g : List Nat} (hh : h.length = 8) (hg : g.length = 8) {i : Nat} (hi : i < 8) : (addP h g i).set i ((h.getD i 0 + g.getD i 0) % 4294967296) = addP h g (i + 1) := by
 have hl : ((addL h g).take i).length = i := by rw [List.length_take, addL_length hh hg]; omega
 unfold addP
 rw [List.set_append, if_neg (by omega), hl, Nat.sub_self, List.take_add_one, addL_get hh hg hi, List.append_assoc]
 congr 1
 rw [List.drop_eq_getElem_cons (show i < h.length by omega)]
 rfl

/-! ### Bytes filled -/
theorem be8_length (n : Nat) : (be8 n).length = 8 := by simp [be8]
theorem be8_drop {n i : Nat} (h : i < 8) : (be8 n).drop (8 - (i + 1)) = UInt8.ofNat (n / 2 ^ (8 * i)) :: (be8 n).drop (8 - i) := by
 rw [List.drop_eq_getElem_cons (by rw [be8_length]; omega)]
 congr 1
 ·simp only [be8, List.getElem_map, List.getElem_range]
  congr 3
  omega
 ·congr 1
  omega
/-- Behind i bytes of the count. -/
def partF (b : List UInt8) (i : Nat) : List UInt8 := b ++ 128 :: (List.replicate (64 * ((b.length + 8) / 64 + 1) - b.length - 1 - i) 0 ++ (be8 (8 * b.length)).drop (8 - i))
theorem partF_length (b : List UInt8) {i : Nat} (h : i ≤ 8) : (partF b i).length = 64 * ((b.length + 8) / 64 + 1) := by
 unfold partF
 rw [List.length_append, List.length_cons, List.length_append, List.length_replicate, List.length_drop, be8_length]
 omega
theorem partF_all (b : List UInt8) : partF b 8 = fill b := by
 unfold partF fill
 rw [Nat.sub_self, List.drop_zero, show 64 * ((b.length + 8) / 64 + 1) - b.length - 1 - 8 = 64 * ((b.length + 8) / 64 + 1) - b.length - 9 by omega]
theorem fill_length (b : List UInt8) : (fill b).length = 64 * ((b.length + 8) / 64 + 1) := by rw [← partF_all, partF_length b (by omega)]
theorem partF_zero (b : List UInt8) : (b ++ List.replicate (64 * ((b.length + 8) / 64 + 1) - b.length) 0).set b.length 128 = partF b 0 := by
 have hk : 64 * ((b.length + 8) / 64 + 1) - b.length = (64 * ((b.length + 8) / 64 + 1) - b.length - 1 - 0) + 1 := by omega
 unfold partF
 rw [List.set_append, if_neg (by omega), Nat.sub_self, hk, List.replicate_succ, List.set_cons_zero, List.drop_eq_nil_of_le (by rw [be8_length]; omega), List.append_nil]
 congr 4
theorem partF_set (b : List UInt8) {i : Nat} (h : i < 8) : (partF b i).set (64 * ((b.length + 8) / 64 + 1) - 1 - i) (UInt8.ofNat (8 * b.length / 2 ^ (8 * i))) = partF b (i + 1) := by
 have hk : 64 * ((b.length + 8) / 64 + 1) - b.length - 1 - i = (64 * ((b.length + 8) / 64 + 1) - b.length - 1 - (i + 1)) + 1 := by omega
 have hn : 64 * ((b.length + 8) / 64 + 1) - 1 - i - b.length = (64 * ((b.length + 8) / 64 + 1) - b.length - 1 - (i + 1)) + 1 := by omega
 unfold partF
 rw [be8_drop h, List.set_append, if_neg (by omega), hn, List.set_cons_succ, hk, List.set_append, if_pos (by rw [List.length_replicate]; omega)]
 generalize 64 * ((b.length + 8) / 64 + 1) - b.length - 1 - (i + 1) = k
 congr 2
 rw [List.replicate_succ', List.set_append, if_neg (by rw [List.length_replicate]; omega), List.length_replicate, Nat.sub_self, List.set_cons_zero, List.append_assoc]
 rfl

/-! ### Filling a row from its head -/
def tf {α : Type} (l : List α) (z : α) (i : Nat) : List α := l.take i ++ List.replicate (l.length - i) z
theorem tf_zero {α : Type} (l : List α) (z : α) : tf l z 0 = List.replicate l.length z := by simp [tf]
theorem tf_all {α : Type} (l : List α) (z : α) : tf l z l.length = l := by simp [tf]
theorem tf_length {α : Type} (l : List α) (z : α) {i : Nat} (h : i ≤ l.length) : (tf l z i).length = l.length := by
 unfold tf
 rw [List.length_append, List.length_take, List.length_replicate]
 omega
theorem tf_set {α : Type} (l : List α) (z : α) {i : Nat} (h : i < l.length) : (tf l z i).set i l[i] = tf l z (i + 1) := by
 have hl : (l.take i).length = i := by rw [List.length_take]; omega
 have hr : l.length - i = (l.length - (i + 1)) + 1 := by omega
 unfold tf
 rw [List.set_append, if_neg (by omega), hl, Nat.sub_self, List.take_add_one, List.getElem?_eq_getElem h, hr, List.replicate_succ, List.set_cons_zero, List.append_assoc]
 rfl
theorem told32_length (h : List Nat) : (told32 h).length = 32 := by simp [told32]
theorem told32_at (h : List Nat) {i : Nat} (hi : i < 32) : (told32 h)[i]'(by rw [told32_length]; exact hi) = UInt8.ofNat (h.getD (i / 4) 0 / 2 ^ (24 - 8 * (i % 4))) := by
 simp only [told32, List.getElem_map, List.getElem_range]

/-! ### What filled bytes are made of -/
/-- The count's bytes, written from the last one on: behind k of them. -/
def tailP (n k : Nat) : List UInt8 := List.replicate (8 - k) 0 ++ (be8 n).drop (8 - k)
theorem tailP_zero (n : Nat) : tailP n 0 = List.replicate 8 0 := by
 unfold tailP
 rw [List.drop_eq_nil_of_le (by rw [be8_length]; omega), List.append_nil]
theorem tailP_all (n : Nat) : tailP n 8 = be8 n := by simp [tailP]
theorem tailP_length (n : Nat) {k : Nat} (h : k ≤ 8) : (tailP n k).length = 8 := by
 unfold tailP
 rw [List.length_append, List.length_replicate, List.length_drop, be8_length]
 omega
theorem tailP_set (n : Nat) {k : Nat} (h : k < 8) : (tailP n k).set (7 - k) (UInt8.ofNat (n / 2 ^ (8 * k))) = tailP n (k + 1) := by
 have hr : 8 - k = (7 - k) + 1 := by omega
 have hq : 8 - (k + 1) = 7 - k := by omega
 unfold tailP
 rw [be8_drop h, hq, List.set_append, if_pos (by rw [List.length_replicate]; omega), hr, List.replicate_succ', List.set_append, if_neg (by rw [List.length_replicate]; omega), List.length_replicate, Nat.sub_self, List.set_cons_zero, List.append_assoc]
 rfl
open Go.RowKit

def w32 (n : Nat) : Value := .int .u32 (n : Int)

def Turn (n : Nat) : Prop := n = 2 ∨ n = 6 ∨ n = 7 ∨ n = 11 ∨ n = 13 ∨ n = 17 ∨ n = 18 ∨ n = 19 ∨ n = 22 ∨ n = 25

theorem turn_and {n : Nat} (hn : Turn n) : bits .and .u64 (IntKind.u64.wrap (-(n : Int))) 31 = ((32 - n : Nat) : Int) := by
 rcases hn with rfl | rfl | rfl | rfl | rfl | rfl | rfl | rfl | rfl | rfl <;> rfl
theorem turn_le {n : Nat} (hn : Turn n) : 1 ≤ n ∧ n ≤ 31 := by unfold Turn at hn; omega

theorem rot_any (x n : Nat) (k : Int) (hx : x < 4294967296) (hn : Turn n) (hk : k = -(n : Int)) (w : World) :
  Calls Tryz.prog 130 #[.int .u32 x, .int .i64 k] w fun e w' => e = .returned (.int .u32 (rotr n x : Nat)) ∧ w = w' := by
 have ha := turn_and hn
 obtain ⟨n1, n2⟩ := turn_le hn
 rw [← hk] at ha
 have hs : wrap64 (32 - ((32 - n : Nat) : Int)) = n := by unfold wrap64; omega
 obtain ⟨c, hc⟩ : ∃ c, c = 32 - n := ⟨_, rfl⟩
 rw [← hc] at ha
 have c0 : (0 : Int) ≤ c := by omega
 have c1 : (c : Int) ≤ 32 := by omega
 have hd : (32 : Int) - c = n := by omega
 have HC := Lib.hid hc
 have HK := Lib.hid hk
 clear hn hc hk hs
 go_enter Tryz.func130, Tryz.ntmps130
 go_wp2
 go_ret
 refine ⟨?_, rfl⟩
 have h := rotr_or (n := n) (x := x) (by omega) hx
 rw [← HC.out] at h
 have h2 : x / 2 ^ n < 4294967296 := Nat.lt_of_le_of_lt (Nat.div_le_self _ _) hx
 have e1 : (x : Int) * 2 ^ c % 4294967296 = ((x * 2 ^ c % 4294967296 : Nat) : Int) := by simp
 have e2 : (x : Int) / 2 ^ n = ((x / 2 ^ n : Nat) : Int) := by simp
 rw [e1, e2, u32_or_nat _ _ (Nat.mod_lt _ (by omega)) h2, h]
 rfl

theorem turned_any (x p q r : Nat) (p' q' r' : Int) (hx : x < 4294967296) (hp : Turn p) (hq : Turn q) (hr : Turn r) (ep : p' = p) (eq : q' = q) (er : r' = r) (w : World) :
  Calls Tryz.prog 131 #[.int .u32 x, .int .i64 p', .int .i64 q', .int .i64 r'] w fun e w' => e = .returned (.int .u32 (rot3 p q r x : Nat)) ∧ w = w' := by
 subst ep eq er
 have bp := turn_le hp
 have bq := turn_le hq
 have br := turn_le hr
 have p1 : (1 : Int) ≤ p := by omega
 have p2 : (p : Int) ≤ 31 := by omega
 have q1 : (1 : Int) ≤ q := by omega
 have q2 : (q : Int) ≤ 31 := by omega
 have r1 : (1 : Int) ≤ r := by omega
 have r2 : (r : Int) ≤ 31 := by omega
 have HP := Lib.hid hp
 have HQ := Lib.hid hq
 have HR := Lib.hid hr
 clear hp hq hr
 go_enter Tryz.func131, Tryz.ntmps131
 go_wp2_with fail
 refine (rot_any x p _ hx HP.out rfl _).mono ?_
 rintro e w1 ⟨rfl, rfl⟩
 go_wp2_with fail
 refine (rot_any x q _ hx HQ.out rfl _).mono ?_
 rintro e w1 ⟨rfl, rfl⟩
 go_wp2_with fail
 refine (rot_any x r _ hx HR.out rfl _).mono ?_
 rintro e w1 ⟨rfl, rfl⟩
 go_wp2
 go_ret
 refine ⟨?_, rfl⟩
 have lp := rotr_lt (n := p) (by omega) hx
 have lq := rotr_lt (n := q) (by omega) hx
 have lr := rotr_lt (n := r) (by omega) hx
 rw [u32_xor_nat _ _ lp lq, u32_xor_nat _ _ (xor_w lp lq) lr]
 rfl

def row32 (l : List Nat) : Array Value := (l.map w32).toArray
theorem row32_size (l : List Nat) : (row32 l).size = l.length := by simp [row32]
theorem row32_one (l : List Nat) : (row32 l).all (·.oneCell') = true := by
 rw [Array.all_eq_true_iff_forall_mem]
 intro v hv
 simp only [row32, List.mem_toArray, List.mem_map] at hv
 obtain ⟨x, _, rfl⟩ := hv
 rfl
theorem zero8 : (∀ w, (zeroValue 124).run Tryz.prog w = .ok (.agg (Array.replicate 8 (.int .u32 0))) w) ∧ (Tryz.prog.info? 124).map (·.size) = some 8 := zero_of_info (by kernel_rfl)

theorem set8 (z a b c d e f g h : Value) : ((((((((Array.replicate 8 z).setIfInBounds 0 a).setIfInBounds 1 b).setIfInBounds 2 c).setIfInBounds 3 d).setIfInBounds 4 e).setIfInBounds 5 f).setIfInBounds 6 g).setIfInBounds 7 h = #[a, b, c, d, e, f, g, h] := by
 apply Array.ext'
 simp [List.replicate]

set_option maxHeartbeats 1000000 in
theorem step_eight (a b c d e f g h m : Nat) (ha : a < 4294967296) (hb : b < 4294967296) (hc : c < 4294967296) (hd : d < 4294967296) (he : e < 4294967296) (hf : f < 4294967296) (hg : g < 4294967296) (hh : h < 4294967296) (hm : m < 4294967296) (w : World) :
  Calls Tryz.prog 122 #[.agg #[.int .u32 a, .int .u32 b, .int .u32 c, .int .u32 d, .int .u32 e, .int .u32 f, .int .u32 g, .int .u32 h], .int .u32 m] w fun x w' => x = .returned (.agg (row32 (stepL m [a, b, c, d, e, f, g, h]))) ∧ Below w.heap.size w w' := by
 have hz := zero8.1
 go_enter Tryz.func122, Tryz.ntmps122
 go_wp2
 go_quiet (fail)
 have hb1 : Below w.heap.size w (((w.alloc (.cells #[.int .u32 a, .int .u32 b, .int .u32 c, .int .u32 d, .int .u32 e, .int .u32 f, .int .u32 g, .int .u32 h] 124)).alloc (.cells (Array.replicate 8 (.int .u32 0)) 124)).drewN nq) :=
  below_drewN (((Below.refl _ _).alloc (Nat.le_refl _) _).alloc (by simp) _) nq
 have hh1 : (((w.alloc (.cells #[.int .u32 a, .int .u32 b, .int .u32 c, .int .u32 d, .int .u32 e, .int .u32 f, .int .u32 g, .int .u32 h] 124)).alloc (.cells (Array.replicate 8 (.int .u32 0)) 124)).drewN nq).heap[w.heap.size + 1]? = some (.cells (Array.replicate 8 (.int .u32 0)) 124 (0, 0)) := by
  have := heap_alloc_self (w.alloc (.cells #[.int .u32 a, .int .u32 b, .int .u32 c, .int .u32 d, .int .u32 e, .int .u32 f, .int .u32 g, .int .u32 h] 124)) (.cells (Array.replicate 8 (.int .u32 0)) 124)
  rw [heap_alloc_size] at this
  exact this
 generalize ((w.alloc (.cells #[.int .u32 a, .int .u32 b, .int .u32 c, .int .u32 d, .int .u32 e, .int .u32 f, .int .u32 g, .int .u32 h] 124)).alloc (.cells (Array.replicate 8 (.int .u32 0)) 124)).drewN nq = W at hb1 hh1 ⊢
 have HB := Lib.hid hb1
 have HH := Lib.hid hh1
 clear hb1 hh1
 go_wp2_with fail
 refine (turned_any e 6 11 25 _ _ _ he (by unfold Turn; omega) (by unfold Turn; omega) (by unfold Turn; omega) rfl rfl rfl _).mono ?_
 rintro x w1 ⟨rfl, rfl⟩
 go_wp2_with fail
 refine (turned_any a 2 13 22 _ _ _ ha (by unfold Turn; omega) (by unfold Turn; omega) (by unfold Turn; omega) rfl rfl rfl _).mono ?_
 rintro x w1 ⟨rfl, rfl⟩
 have le := rot3_lt (p := 6) (q := 11) (r := 25) (by omega) (by omega) (by omega) he
 have la := rot3_lt (p := 2) (q := 13) (r := 22) (by omega) (by omega) (by omega) ha
 have ec : bits .or .u32 (bits .and .u32 (e : Int) f) (bits .andNot .u32 (g : Int) e) = (ch e f g : Nat) := by
  rw [u32_and_nat _ _ he hf, u32_andNot_nat _ _ hg he, u32_or_nat _ _ (and_w hf) (and_w (by omega)), ch_code he hf hg]
 have em : bits .or .u32 (bits .or .u32 (bits .and .u32 (a : Int) b) (bits .and .u32 (a : Int) c)) (bits .and .u32 (b : Int) c) = (maj a b c : Nat) := by
  rw [u32_and_nat _ _ ha hb, u32_and_nat _ _ ha hc, u32_and_nat _ _ hb hc, u32_or_nat _ _ (and_w hb) (and_w hc), u32_or_nat _ _ (or_w (and_w hb) (and_w hc)) (and_w hc), maj_code]
 have lc := ch_lt he hf hg
 have lm := maj_lt ha hb hc
 have hv : (#[.int .u32 (((h : Int) + (rot3 6 11 25 e : Nat) + (ch e f g : Nat) + m + ((rot3 2 13 22 a : Nat) + (maj a b c : Nat))) % 4294967296), .int .u32 a, .int .u32 b, .int .u32 c, .int .u32 (((d : Int) + ((h : Int) + (rot3 6 11 25 e : Nat) + (ch e f g : Nat) + m)) % 4294967296), .int .u32 e, .int .u32 f, .int .u32 g] : Array Value) = row32 (stepL m [a, b, c, d, e, f, g, h]) := by
  simp only [row32, stepL, List.map_cons, List.map_nil, w32]
  have e1 : ((h : Int) + (rot3 6 11 25 e : Nat) + (ch e f g : Nat) + m + ((rot3 2 13 22 a : Nat) + (maj a b c : Nat))) % 4294967296 = ((((h + rot3 6 11 25 e + ch e f g + m) % 4294967296 + (rot3 2 13 22 a + maj a b c) % 4294967296) % 4294967296 : Nat) : Int) := by omega
  have e2 : ((d : Int) + ((h : Int) + (rot3 6 11 25 e : Nat) + (ch e f g : Nat) + m)) % 4294967296 = (((d + (h + rot3 6 11 25 e + ch e f g + m) % 4294967296) % 4294967296 : Nat) : Int) := by omega
  rw [e1, e2]
 have HV := Lib.hid hv
 clear hv lc lm le la
 go_wp2_with (refine wpList_store_row rfl 124 _ _ rfl (w.heap.size + 1) rfl rfl HH.out (by rw [set8, HV.out, row32_size]; exact zero8.2) (by rw [set8, HV.out, row32_size]; rfl) (by rw [set8, HV.out]; exact row32_one _) ?_; rw [set8, HV.out])
 refine bodyPost_ret (v := .agg (row32 (stepL m [a, b, c, d, e, f, g, h]))) ?_ rfl ⟨rfl, below_setRow HB.out (by omega) _⟩
 exact results_cell_row rfl _ _ (w.heap.size + 1) _ _ (0, 0) _ rfl (setRow_heap _ _ _ _ _ _ HH.out) Tryz.underlying124 rfl (by rw [row32_size]; exact zero8.2)

/-- A step. -/
theorem step_any (l : List Nat) (m : Nat) (hl : W32 8 l) (hm : m < 4294967296) (w : World) :
  Calls Tryz.prog 122 #[.agg (row32 l), .int .u32 m] w fun x w' => x = .returned (.agg (row32 (stepL m l))) ∧ Below w.heap.size w w' := by
 obtain ⟨h0, hx⟩ := hl
 match l, h0 with
 | [a, b, c, d, e, f, g, h], _ =>
  exact step_eight a b c d e f g h m (hx _ (by simp)) (hx _ (by simp)) (hx _ (by simp)) (hx _ (by simp)) (hx _ (by simp)) (hx _ (by simp)) (hx _ (by simp)) (hx _ (by simp)) hm w

theorem row32_at {l : List Nat} {j n : Nat} (h : l[j]? = some n) : (row32 l)[j]? = some (.int .u32 (n : Int)) := by
 simp only [row32, List.getElem?_toArray, List.getElem?_map, h, Option.map_some]; rfl
theorem row32_cell {w : World} {b : Nat} {l : List Nat} {t : TypeId} (h : w.heap[b]? = some (.cells (row32 l) t (0, 0))) {j n : Nat} (hj : l[j]? = some n) : w.cell? ⟨b, j, none⟩ = some (.int .u32 (n : Int)) := by
 rw [cell_of_row _ _ _ _ _ _ h]; exact row32_at hj

theorem ret_int {k : IntKind} {a b : Int} (h : a = b) : Ending.returned (.int k a) = .returned (.int k b) := by rw [h]

set_option maxHeartbeats 1000000 in
theorem next_cells (b t j1 j2 j3 j4 x y p q : Nat) (t1 : 16 ≤ t) (t2 : t < 64) (h1 : (t - 15) % 16 = j1) (h2 : (t - 2) % 16 = j2) (h3 : t % 16 = j3) (h4 : (t - 7) % 16 = j4)
  (hx : x < 4294967296) (hy : y < 4294967296) (hp : p < 4294967296) (hq : q < 4294967296) (w : World)
  (c1 : w.cell? ⟨b, j1, none⟩ = some (.int .u32 (x : Int))) (c2 : w.cell? ⟨b, j2, none⟩ = some (.int .u32 (y : Int))) (c3 : w.cell? ⟨b, j3, none⟩ = some (.int .u32 (p : Int))) (c4 : w.cell? ⟨b, j4, none⟩ = some (.int .u32 (q : Int))) :
  Calls Tryz.prog 121 #[.pointer (some ⟨b, 0, none⟩), .int .i64 t] w fun e w' => e = .returned (.int .u32 ((p + mix 7 18 3 x + q + mix 17 19 10 y) % 4294967296 : Nat)) ∧ Below w.heap.size w w' := by
 have e1 : ((t : Int) - 15) % 16 = j1 := by omega
 have e2 : ((t : Int) - 2) % 16 = j2 := by omega
 have e3 : (t : Int) % 16 = j3 := by omega
 have e4 : ((t : Int) - 7) % 16 = j4 := by omega
 have b1 : (j1 : Int) < 16 := by omega
 have b2 : (j2 : Int) < 16 := by omega
 have b3 : (j3 : Int) < 16 := by omega
 have b4 : (j4 : Int) < 16 := by omega
 have t1' : (16 : Int) ≤ t := by omega
 have t2' : (t : Int) < 64 := by omega
 have w1 : IntKind.i64.wrap ((t : Int) - 15) = t - 15 := IntWalk.i64_in _ (by omega)
 have w2 : IntKind.i64.wrap ((t : Int) - 2) = t - 2 := IntWalk.i64_in _ (by omega)
 have w4 : IntKind.i64.wrap ((t : Int) - 7) = t - 7 := IntWalk.i64_in _ (by omega)
 have m1 : ((t : Int) - 15).tmod 16 = j1 := by rw [Int.tmod_eq_emod_of_nonneg (by omega)]; exact e1
 have m2 : ((t : Int) - 2).tmod 16 = j2 := by rw [Int.tmod_eq_emod_of_nonneg (by omega)]; exact e2
 have m3 : (t : Int).tmod 16 = j3 := by rw [Int.tmod_eq_emod_of_nonneg (by omega)]; exact e3
 have m4 : ((t : Int) - 7).tmod 16 = j4 := by rw [Int.tmod_eq_emod_of_nonneg (by omega)]; exact e4
 clear h1 h2 h3 h4
 go_enter Tryz.func121, Tryz.ntmps121
 go_wp2
 go_quiet (fail)
 have hb : Below w.heap.size w (w.drewN nq) := below_drewN (Below.refl _ _) nq
 have c3' : (w.drewN nq).cell? ⟨b, j3, none⟩ = some (.int .u32 (p : Int)) := c3
 have c4' : (w.drewN nq).cell? ⟨b, j4, none⟩ = some (.int .u32 (q : Int)) := c4
 generalize w.drewN nq = v at hb c3' c4' ⊢
 have HB := Lib.hid hb
 clear hb c1 c2 c3 c4
 go_wp2_with fail
 refine (rot_any x 7 _ hx (by unfold Turn; omega) rfl _).mono ?_
 rintro z w1 ⟨rfl, rfl⟩
 go_wp2_with fail
 refine (rot_any x 18 _ hx (by unfold Turn; omega) rfl _).mono ?_
 rintro z w1 ⟨rfl, rfl⟩
 go_wp2_with fail
 refine (rot_any y 17 _ hy (by unfold Turn; omega) rfl _).mono ?_
 rintro z w1 ⟨rfl, rfl⟩
 go_wp2_with fail
 refine (rot_any y 19 _ hy (by unfold Turn; omega) rfl _).mono ?_
 rintro z w1 ⟨rfl, rfl⟩
 go_wp2
 go_quiet (fail)
 go_wp2
 go_ret
 have lx7 := rotr_lt (n := 7) (by omega) hx
 have lx18 := rotr_lt (n := 18) (by omega) hx
 have ly17 := rotr_lt (n := 17) (by omega) hy
 have ly19 := rotr_lt (n := 19) (by omega) hy
 have mx : bits .xor .u32 (bits .xor .u32 (rotr 7 x : Nat) (rotr 18 x : Nat)) ((x : Int) / 8) = (mix 7 18 3 x : Nat) := by
  rw [u32_xor_nat _ _ lx7 lx18, show (x : Int) / 8 = ((x / 2 ^ 3 : Nat) : Int) by omega, u32_xor_nat _ _ (xor_w lx7 lx18) (Nat.lt_of_le_of_lt (Nat.div_le_self _ _) hx)]
  rfl
 have my : bits .xor .u32 (bits .xor .u32 (rotr 17 y : Nat) (rotr 19 y : Nat)) ((y : Int) / 1024) = (mix 17 19 10 y : Nat) := by
  rw [u32_xor_nat _ _ ly17 ly19, show (y : Int) / 1024 = ((y / 2 ^ 10 : Nat) : Int) by omega, u32_xor_nat _ _ (xor_w ly17 ly19) (Nat.lt_of_le_of_lt (Nat.div_le_self _ _) hy)]
  rfl
 rw [mx, my]
 exact ⟨ret_int (by omega), below_drewN HB.out _⟩

/-- The next word of the window. -/
theorem next_any (ws : List Nat) (hws : W32 16 ws) (n b : Nat) (hn : n < 48) (T : Int) (hT : T = ((16 + n : Nat) : Int)) (ty : TypeId) (w : World) (hh : w.heap[b]? = some (.cells (row32 (winL ws n)) ty (0, 0))) :
  Calls Tryz.prog 121 #[.pointer (some ⟨b, 0, none⟩), .int .i64 T] w fun e w' => e = .returned (.int .u32 (wordAt (sched ws n) (16 + n) : Nat)) ∧ Below w.heap.size w w' := by
 subst hT
 have ok := sched_ok hws n
 have h := next_cells b (16 + n) _ _ _ _ _ _ _ _ (by omega) (by omega) rfl rfl rfl rfl (ok.getD (16 + n - 15)) (ok.getD (16 + n - 2)) (ok.getD (16 + n - 16)) (ok.getD (16 + n - 7)) w
  (row32_cell hh (winL_at ws (by omega) (by omega))) (row32_cell hh (winL_at ws (by omega) (by omega)))
  (row32_cell hh (by rw [show (16 + n) % 16 = (16 + n - 16) % 16 by omega]; exact winL_at ws (by omega) (by omega))) (row32_cell hh (winL_at ws (by omega) (by omega)))
 exact h

def rowB (l : List UInt8) : Array Value := (l.map u8).toArray
theorem rowB_size (l : List UInt8) : (rowB l).size = l.length := by simp [rowB]
theorem rowB_one (l : List UInt8) : (rowB l).all (·.oneCell') = true := by
 rw [Array.all_eq_true_iff_forall_mem]
 intro v hv
 simp only [rowB, List.mem_toArray, List.mem_map] at hv
 obtain ⟨x, _, rfl⟩ := hv
 rfl
theorem rowB_at {l : List UInt8} {j : Nat} (h : j < l.length) : (rowB l)[j]? = some (.int .u8 (l[j].toNat : Int)) := by
 simp only [rowB, List.getElem?_toArray, List.getElem?_map, List.getElem?_eq_getElem h, Option.map_some]; rfl
theorem row32_set (l : List Nat) (j n : Nat) : (row32 l).setIfInBounds j (.int .u32 (n : Int)) = row32 (l.set j n) := by
 simp only [row32, List.setIfInBounds_toArray, List.map_set]; rfl
theorem row32_zero (n : Nat) : row32 (List.replicate n 0) = Array.replicate n (.int .u32 0) := by
 apply Array.ext'
 simp [row32, w32]

theorem zero16 : (∀ w, (zeroValue 170).run Tryz.prog w = .ok (.agg (Array.replicate 16 (.int .u32 0))) w) ∧ (Tryz.prog.info? 170).map (·.size) = some 16 := zero_of_info (by kernel_rfl)
theorem info64 : (Tryz.prog.info? 67).map (·.size) = some 64 := by kernel_rfl

/-- An element of an array by value. -/
theorem run_index_row {w : World} {t e : TypeId} {n : Nat} {cs : Array Value} {i : Nat} {v : Value} {ie : TypeInfo} {d : TypeDesc} (ht : Tryz.prog.underlying t = some (.array n e)) (he : Tryz.prog.underlying e = some d) (hd : d.isRow = false) (hi : Tryz.prog.info? e = some ie) (hs : ie.size = 1) (hlt : i < n) (hv : cs[i]? = some v) :
  (Instr.index t (.agg cs) (.int .i64 (i : Int))).run Tryz.prog w = .ok v w := by
 have hagg : (isAgg e).run Tryz.prog w = .ok false w := by
  unfold isAgg
  rw [Sem.run_bind, run_underlying he w]
  cases d <;> simp_all
 have hc : (0 : Int) ≤ (i : Int) ∧ (i : Int) < (n : Int) := by omega
 simp [Instr.index, asIntOf, Sem.run_bind, run_underlying ht w, hc, sizeOf, typeInfo, hi, hs, part, hagg, hv, hlt]

set_option maxHeartbeats 1000000 in
theorem words_any (B : List UInt8) (hB : B.length = 64) (w : World) :
  Calls Tryz.prog 120 #[.agg (rowB B)] w fun e w' => e = .returned (.agg (row32 (words16 B))) ∧ Below w.heap.size w w' := by
 have hz := zero16.1
 have hh0 : (((w.alloc (.cells (rowB B) 67)).alloc (.cells (Array.replicate 16 (.int .u32 0)) 170)).alloc (.cells (Array.replicate 16 (.int .u32 0)) 170)).heap[w.heap.size]? = some (.cells (rowB B) 67 (0, 0)) := by
  rw [heap_alloc_lt _ _ (by rw [heap_alloc_size, heap_alloc_size]; omega), heap_alloc_lt _ _ (by rw [heap_alloc_size]; omega), heap_alloc_self]
 have HH0 := Lib.hid hh0
 clear hh0
 go_enter Tryz.func120, Tryz.ntmps120
 go_wp2_with (refine wpList_load_row rfl 67 _ rfl _ rfl HH0.out Tryz.underlying67 (by rw [rowB_size, hB]; exact info64) ?_)
 rw [← row32_zero, ← part16_zero B]
 go_loopg [7] 64 (fun g s7 wx => ∃ i : Nat, i + g = 64 ∧ s7 = .int .i64 i ∧ wx = ((w.alloc (.cells (rowB B) 67)).alloc (.cells (row32 (part16 B 0)) 170)).alloc (.cells (row32 (part16 B i)) 170))
 case atStart => exact ⟨0, by omega, rfl, rfl⟩
 case round =>
  obtain ⟨i, hig, rfl, rfl⟩ := hrel
  cases gk with
  | zero =>
   obtain rfl : i = 64 := by omega
   have hh2 : (((w.alloc (.cells (rowB B) 67)).alloc (.cells (row32 (part16 B 0)) 170)).alloc (.cells (row32 (part16 B 64)) 170)).heap[w.heap.size + 1 + 1]? = some (.cells (row32 (part16 B 64)) 170 (0, 0)) := by
    have := heap_alloc_self ((w.alloc (.cells (rowB B) 67)).alloc (.cells (row32 (part16 B 0)) 170)) (.cells (row32 (part16 B 64)) 170)
    rwa [heap_alloc_size, heap_alloc_size] at this
   have hh1 : (((w.alloc (.cells (rowB B) 67)).alloc (.cells (row32 (part16 B 0)) 170)).alloc (.cells (row32 (part16 B 64)) 170)).heap[w.heap.size + 1]? = some (.cells (row32 (part16 B 0)) 170 (0, 0)) := by
    rw [heap_alloc_lt _ _ (by rw [heap_alloc_size, heap_alloc_size]; omega)]
    have := heap_alloc_self (w.alloc (.cells (rowB B) 67)) (.cells (row32 (part16 B 0)) 170)
    rwa [heap_alloc_size] at this
   have hb : Below w.heap.size w (((w.alloc (.cells (rowB B) 67)).alloc (.cells (row32 (part16 B 0)) 170)).alloc (.cells (row32 (part16 B 64)) 170)) :=
    (((Below.refl _ _).alloc (Nat.le_refl _) _).alloc (by simp) _).alloc (by simp; omega) _
   generalize ((w.alloc (.cells (rowB B) 67)).alloc (.cells (row32 (part16 B 0)) 170)).alloc (.cells (row32 (part16 B 64)) 170) = v at hh1 hh2 hb ⊢
   have H1 := Lib.hid hh1
   have H2 := Lib.hid hh2
   have HB := Lib.hid hb
   clear hh1 hh2 hb HH0
   go_wp2_with (first
    | refine wpList_load_row rfl 170 _ rfl _ rfl H2.out Tryz.underlying170 (by rw [row32_size, part16_length]; exact zero16.2) ?_
    | refine wpList_store_row rfl 170 _ _ rfl _ rfl rfl H1.out (by rw [row32_size, part16_length]; exact zero16.2) (by rw [row32_size, row32_size, part16_length, part16_length]) (row32_one _) ?_)
   rw [← part16_all hB]
   refine bodyPost_ret (v := .agg (row32 (part16 B 64))) ?_ rfl ⟨rfl, below_setRow HB.out (by omega) _⟩
   exact results_cell_row rfl _ _ (w.heap.size + 1) _ _ (0, 0) _ rfl (setRow_heap _ _ _ _ _ _ H1.out) Tryz.underlying170 rfl (by rw [row32_size, part16_length]; exact zero16.2)
  | succ g =>
   have hi : (i : Int) < 64 := by omega
   have hi0 : (0 : Int) ≤ i := by omega
   obtain ⟨n, hn, hlt, hset⟩ := part16_last (b := B) (i := i) (by omega) hB
   have hx := rowB_at (l := B) (j := i) (by omega)
   have hxl := UInt8.toNat_lt B[i]
   have hv : bits .or .u32 ((n : Int) * 256) (B[i].toNat : Int) = ((n * 256 + B[i].toNat : Nat) : Int) := by
    have h := shl_or hlt hxl
    rw [Nat.mod_eq_of_lt (by omega)] at h
    rw [show (n : Int) * 256 = ((n * 256 : Nat) : Int) by omega, u32_or_nat _ _ (by omega) (by omega), h]
   have hset' : (row32 (part16 B i)).setIfInBounds (i / 4) (.int .u32 ((n : Int) * 256 + (B[i].toNat : Int))) = row32 (part16 B (i + 1)) := by
    rw [← hset, ← row32_set]; rfl
   have HS := Lib.hid hset'
   have hn' := row32_at hn
   have hq : (i : Int) / 4 = ((i / 4 : Nat) : Int) := by omega
   clear hset hset' hn
   have hidx : ∀ w', (Instr.index 67 (.agg (rowB B)) (.int .i64 (i : Int))).run Tryz.prog w' = .ok (.int .u8 (B[i].toNat : Int)) w' := fun w' => by
    obtain ⟨ie, h1, h2, h3, h4⟩ := info_parts infoByte
    exact run_index_row Tryz.underlying67 Tryz.underlying5 rfl h1 h3 (by omega) hx
   clear hx
   generalize i / 4 = j at *
   have hj : (j : Int) < 16 := by omega
   generalize B[i].toNat = x at *
   go_wp2
   rw [HS.out]
   go_roundg g
   case measure => omega
   case rel => exact ⟨i + 1, by omega, by go_num, rfl⟩

/-- The table of constants lies in its place. -/
def Tab (w : World) : Prop := ∀ (i n : Nat), kk[i]? = some n → w.cell? ⟨0, i, none⟩ = some (.int .u32 (n : Int))
theorem Tab.pos {w : World} (h : Tab w) : 0 < w.heap.size := cell_lt (h 0 1116352408 rfl)
theorem Tab.below {w w' : World} {B : Nat} (h : Tab w) (hb : Below B w w') (hB : 0 < B) : Tab w' := fun i n hi => (hb.cell (p := ⟨0, i, none⟩) hB).trans (h i n hi)
theorem kk_get {i : Nat} (h : i < 64) : kk[i]? = some (kk.getD i 0) := by
 rw [List.getD_eq_getElem?_getD, List.getElem?_eq_getElem (show i < kk.length from h)]; rfl

theorem infoWord : (Tryz.prog.info? 123).map (fun i => (i.zero, i.size, i.bytes)) = some (some (.int .u32 0), 1, 4) := by kernel_rfl

theorem run_load_row {w : World} {b : Nat} {c : Array Value} {t ty : TypeId} {fr : Nat × Nat} {n e : Nat} (hb : w.heap[b]? = some (.cells c t fr)) (hu : Tryz.prog.underlying ty = some (.array n e)) (hi : (Tryz.prog.info? ty).map (·.size) = some c.size) :
  (Instr.loadAt ty (.pointer (some ⟨b, 0, none⟩))).run Tryz.prog w = .ok (.agg c) w := by
 simp only [Instr.loadAt, Instr.sureAddr, Sem.run_bind, Sem.run_pure, Result.andThen_ok, run_loadVar_row w b t ty c fr (.array n e) hb hu rfl hi]

/-- A whole array, loaded in the head of a region that draws its order. -/
theorem wpStill_load_row {P : Program} {ops : Array Oper} {w : World} {Q : Act → Prop} {a : Act} {o : Oper} {rest : List Oper} (hgd : o.guard = none) (ty : TypeId) (x : Operand) (ho : o.op = .load ty x) (b : Nat) (hx : a.eval x = .pointer (some ⟨b, 0, none⟩))
  {c : Array Value} (hrun : (Instr.loadAt ty (.pointer (some ⟨b, 0, none⟩))).run P w = .ok (.agg c) w) (h : wpStill P ops w Q rest (a.put o.dst (.agg c))) : wpStill P ops w Q (o :: rest) a := by
 refine wpStill_step (fun K hK => ?_)
 rw [if_pos (by simp [Region.wanted, hgd])]
 unfold Oper.still execOp
 simp only [ho, hx, hrun, Sem.run_bind, Result.andThen_ok, Sem.run_pure, Functor.map]
 first
  | exact ⟨rfl, hK _ h⟩
  | (rw [Sem.run_bind, hrun]; exact ⟨rfl, hK _ h⟩)

/-- What holds at the head of Block's great loop. -/
def AtHead (w : World) (h ws : List Nat) (bw bm t : Nat) (v : World) : Prop :=
 v.heap[w.heap.size]? = some (.cells (row32 h) 124 (0, 0)) ∧ v.heap[w.heap.size + 1 + 1]? = some (.cells (Array.replicate 8 (.int .u32 0)) 124 (0, 0)) ∧
 v.heap[bw]? = some (.cells (row32 (winL ws (t - 16))) 170 (0, 0)) ∧ v.heap[bm]? = some (.cells (row32 (rounds (sched ws 48) h t)) 124 (0, 0)) ∧ Below w.heap.size w v

/-- What holds when the window bears word t. -/
def AtMid (w : World) (h ws : List Nat) (bw bm t : Nat) (v : World) : Prop :=
 v.heap[w.heap.size]? = some (.cells (row32 h) 124 (0, 0)) ∧ v.heap[w.heap.size + 1 + 1]? = some (.cells (Array.replicate 8 (.int .u32 0)) 124 (0, 0)) ∧
 v.heap[bw]? = some (.cells (row32 (winL ws (t + 1 - 16))) 170 (0, 0)) ∧ v.heap[bm]? = some (.cells (row32 (rounds (sched ws 48) h t)) 124 (0, 0)) ∧ Below w.heap.size w v
theorem AtMid.below {w v v' : World} {h ws : List Nat} {bw bm t : Nat} (a : AtMid w h ws bw bm t v) (b : Below v.heap.size v v') : AtMid w h ws bw bm t v' := by
 obtain ⟨h1, h2, h3, h4, h5⟩ := a
 exact ⟨(b.block _ (heap_lt h1)).trans h1, (b.block _ (heap_lt h2)).trans h2, (b.block _ (heap_lt h3)).trans h3, (b.block _ (heap_lt h4)).trans h4, h5.trans (b.mono h5.size)⟩
theorem AtMid.drew {w v : World} {h ws : List Nat} {bw bm t : Nat} (a : AtMid w h ws bw bm t v) : AtMid w h ws bw bm t v.drew := ⟨a.1, a.2.1, a.2.2.1, a.2.2.2.1, a.2.2.2.2.drew⟩
theorem step_int (l : List Nat) (m : Nat) (M : Int) (hM : M = (m : Int)) (hl : W32 8 l) (hm : m < 4294967296) (w : World) :
  Calls Tryz.prog 122 #[.agg (row32 l), .int .u32 M] w fun x w' => x = .returned (.agg (row32 (stepL m l))) ∧ Below w.heap.size w w' := by
 subst hM
 exact step_any l m hl hm w

set_option maxHeartbeats 1000000 in
theorem block_any (h : List Nat) (hh : W32 8 h) (B : List UInt8) (hB : B.length = 64) (w : World) (hT : Tab w) :
  Calls Tryz.prog 100 #[.agg (row32 h), .agg (rowB B)] w fun e w' => e = .returned (.agg (row32 (blockL h B))) ∧ Below w.heap.size w w' := by
 obtain ⟨ws, hws⟩ : ∃ ws, ws = words16 B := ⟨_, rfl⟩
 have hblk : blockL h B = addL h (rounds (sched ws 48) h 64) := by rw [hws]; rfl
 rw [hblk]
 have W1 : Hid (W32 16 ws) := Lib.hid (by rw [hws]; exact words16_ok B)
 have HW := Lib.hid hws
 clear hblk hws
 have hz8 := zero8.1
 have hz16 := zero16.1
 have HT := Lib.hid hT
 have HHH := Lib.hid hh
 have HBL := Lib.hid hB
 have hf0 : (((w.alloc (.cells (row32 h) 124)).alloc (.cells (rowB B) 67)).alloc (.cells (Array.replicate 8 (.int .u32 0)) 124)).heap[w.heap.size]? = some (.cells (row32 h) 124 (0, 0)) := by
  rw [heap_alloc_lt _ _ (by rw [heap_alloc_size, heap_alloc_size]; omega), heap_alloc_lt _ _ (by rw [heap_alloc_size]; omega), heap_alloc_self]
 have hf1 : (((w.alloc (.cells (row32 h) 124)).alloc (.cells (rowB B) 67)).alloc (.cells (Array.replicate 8 (.int .u32 0)) 124)).heap[w.heap.size + 1]? = some (.cells (rowB B) 67 (0, 0)) := by
  rw [heap_alloc_lt _ _ (by rw [heap_alloc_size, heap_alloc_size]; omega)]
  have := heap_alloc_self (w.alloc (.cells (row32 h) 124)) (.cells (rowB B) 67)
  rwa [heap_alloc_size] at this
 have hf2 : (((w.alloc (.cells (row32 h) 124)).alloc (.cells (rowB B) 67)).alloc (.cells (Array.replicate 8 (.int .u32 0)) 124)).heap[w.heap.size + 1 + 1]? = some (.cells (Array.replicate 8 (.int .u32 0)) 124 (0, 0)) := by
  have := heap_alloc_self ((w.alloc (.cells (row32 h) 124)).alloc (.cells (rowB B) 67)) (.cells (Array.replicate 8 (.int .u32 0)) 124)
  rwa [heap_alloc_size, heap_alloc_size] at this
 have hfb : Below w.heap.size w (((w.alloc (.cells (row32 h) 124)).alloc (.cells (rowB B) 67)).alloc (.cells (Array.replicate 8 (.int .u32 0)) 124)) :=
  (((Below.refl _ _).alloc (Nat.le_refl _) _).alloc (by simp) _).alloc (by simp; omega) _
 have hfs : w.heap.size + 1 + 1 + 1 = (((w.alloc (.cells (row32 h) 124)).alloc (.cells (rowB B) 67)).alloc (.cells (Array.replicate 8 (.int .u32 0)) 124)).heap.size := by simp
 have F0 := Lib.hid hf0
 have F1 := Lib.hid hf1
 have F2 := Lib.hid hf2
 have FB := Lib.hid hfb
 have FS := Lib.hid hfs
 clear hf0 hf1 hf2 hfb hfs hT hh hB
 go_enter Tryz.func100, Tryz.ntmps100
 go_wp2_with (refine wpList_load_row rfl 67 _ rfl _ rfl F1.out Tryz.underlying67 (by rw [rowB_size, HBL.out]; exact info64) ?_)
 refine (words_any B HBL.out _).mono ?_
 rintro e w1 ⟨rfl, b⟩
 have hs1 : w.heap.size + 1 + 1 + 1 ≤ w1.heap.size := by have := b.size; have := FS.out; omega
 have G0 := Lib.hid ((b.block w.heap.size (by rw [← FS.out]; omega)).trans F0.out)
 have G2 := Lib.hid ((b.block (w.heap.size + 1 + 1) (by rw [← FS.out]; omega)).trans F2.out)
 have GB := Lib.hid (FB.out.trans (b.mono (by rw [← FS.out]; omega)))
 have GS := Lib.hid hs1
 clear b F0 F1 F2 FB FS hs1
 rw [← HW.out]
 go_wp2_with (first
  | refine wpList_store_row rfl 170 _ _ rfl w1.heap.size rfl rfl (heap_alloc_self _ _) (by rw [row32_size, W1.out.1]; exact zero16.2) (by rw [row32_size, W1.out.1]; simp) (row32_one _) ?_; rw [World.setRow_alloc_new]
  | refine wpList_load_row rfl 124 _ rfl w.heap.size rfl ((heap_alloc_lt _ _ (by have := GS.out; omega)).trans G0.out) Tryz.underlying124 (by rw [row32_size, HHH.out.1]; exact zero8.2) ?_
  | refine wpList_store_row rfl 124 _ _ rfl (w1.heap.size + 1) rfl rfl (by have := heap_alloc_self (w1.alloc (.cells (row32 ws) 170)) (.cells (Array.replicate 8 (.int .u32 0)) 124); rwa [heap_alloc_size] at this) (by rw [row32_size, HHH.out.1]; exact zero8.2) (by rw [row32_size, HHH.out.1]; simp) (row32_one _) ?_)
 have hv : AtHead w h ws w1.heap.size (w1.heap.size + 1) 0 (((w1.alloc (.cells (row32 ws) 170)).alloc (.cells (Array.replicate 8 (.int .u32 0)) 124)).setRow (w1.heap.size + 1) (row32 h)) := by
  have g := GS.out
  refine ⟨?_, ?_, ?_, ?_, ?_⟩
  ·rw [setRow_other _ _ _ _ (by omega), heap_alloc_lt _ _ (by rw [heap_alloc_size]; omega), heap_alloc_lt _ _ (by omega)]; exact G0.out
  ·rw [setRow_other _ _ _ _ (by omega), heap_alloc_lt _ _ (by rw [heap_alloc_size]; omega), heap_alloc_lt _ _ (by omega)]; exact G2.out
  ·rw [setRow_other _ _ _ _ (by omega), heap_alloc_lt _ _ (by rw [heap_alloc_size]; omega), winL_zero W1.out.1]; exact heap_alloc_self _ _
  ·refine setRow_heap _ _ (Array.replicate 8 (.int .u32 0)) _ _ _ ?_
   have := heap_alloc_self (w1.alloc (.cells (row32 ws) 170)) (.cells (Array.replicate 8 (.int .u32 0)) 124)
   rwa [heap_alloc_size] at this
  ·exact below_setRow ((GB.out.alloc (by omega) _).alloc (by rw [heap_alloc_size]; omega) _) (by omega) _
 generalize ((w1.alloc (.cells (row32 ws) 170)).alloc (.cells (Array.replicate 8 (.int .u32 0)) 124)).setRow (w1.heap.size + 1) (row32 h) = v at hv ⊢
 have HV := Lib.hid hv
 clear hv G0 G2 GB HW
 obtain ⟨bw, hbw⟩ : ∃ bw, bw = w1.heap.size := ⟨_, rfl⟩
 rw [← hbw] at HV ⊢
 have GS' : Hid (w.heap.size + 1 + 1 + 1 ≤ bw) := Lib.hid (by rw [hbw]; exact GS.out)
 clear hbw GS
 clear w1
 go_loopw [13] (fun s13 wr => ∃ t : Nat, t ≤ 64 ∧ s13 = .int .i64 t ∧ AtHead w h ws bw (bw + 1) t wr) (fun s13 _ => 64 - (intOf s13).toNat)
 case atStart => exact ⟨0, by omega, rfl, HV.out⟩
 case round =>
  obtain ⟨t, ht, rfl, hr⟩ := hrel
  have HR := Lib.hid hr
  clear hr HV
  by_cases hlt : t < 64
  ·have hlt' : (t : Int) < 64 := by omega
   have hqm : (t : Int) % 16 = ((t % 16 : Nat) : Int) := by omega
   obtain ⟨j, hj⟩ : ∃ j, j = t % 16 := ⟨_, rfl⟩
   have hjl : (j : Int) < 16 := by omega
   rw [← hj] at hqm
   have hqt : (t : Int).tmod 16 = j := by rw [Int.tmod_eq_emod_of_nonneg (by omega)]; exact hqm
   have HJ := Lib.hid hj
   clear hj
   by_cases h16 : 16 ≤ t
   ·have h16' : (16 : Int) ≤ t := by omega
    go_wp2_with fail
    refine (next_any ws W1.out (t - 16) bw (by omega) _ (by omega) _ _ HR.out.2.2.1).mono ?_
    rintro e w2 ⟨rfl, b⟩
    have e16 : 16 + (t - 16) = t := by omega
    have emod : (t - 16) % 16 = j := by have := HJ.out; omega
    have hset := winL_succ W1.out.1 (t - 16)
    rw [e16, emod, show t - 16 + 1 = t + 1 - 16 by omega] at hset
    have HB2 := Lib.hid b
    have f3 := (b.block bw (heap_lt HR.out.2.2.1)).trans HR.out.2.2.1
    obtain ⟨y, hy⟩ : ∃ y, (winL ws (t - 16))[j]? = some y := ⟨_, List.getElem?_eq_getElem (by rw [winL_length]; omega)⟩
    have hc := row32_cell f3 hy
    have hf := frozen_of_row w2 bw j _ _ f3
    have F3 := Lib.hid f3
    have HS := Lib.hid hset
    rw [e16]
    clear b f3 hset e16 emod hy
    have hx := wordAt_lt (sched ws (t - 16)) t
    generalize wordAt (sched ws (t - 16)) t = x at HS hx ⊢
    go_wp2
    have hm : AtMid w h ws bw (bw + 1) t (w2.setCell ⟨bw, j, none⟩ (.int .u32 (x : Int))) := by
     obtain ⟨r0, r2, r3, r4, r5⟩ := HR.out
     have g := GS'.out
     refine ⟨?_, ?_, ?_, ?_, ?_⟩
     ·rw [heap_setCell_other _ _ _ _ (show w.heap.size ≠ bw by omega), HB2.out.block _ (heap_lt r0)]; exact r0
     ·rw [heap_setCell_other _ _ _ _ (show w.heap.size + 1 + 1 ≠ bw by omega), HB2.out.block _ (heap_lt r2)]; exact r2
     ·rw [heap_setCell_same _ _ _ _ _ _ F3.out, row32_set, HS.out]
     ·rw [heap_setCell_other _ _ _ _ (show bw + 1 ≠ bw by omega), HB2.out.block _ (heap_lt r4)]; exact r4
     ·exact (r5.trans (HB2.out.mono r5.size)).setCell (show w.heap.size ≤ bw by omega) _
    generalize w2.setCell ⟨bw, j, none⟩ (.int .u32 (x : Int)) = v at hm ⊢
    have HM := Lib.hid hm
    clear hm F3 HS HB2 hc hf hx HR h16 h16'
    have hd : AtMid w h ws bw (bw + 1) t v.drew := HM.out.drew
    refine wp_region_still_tail 9 (by kernel_rfl) (by kernel_rfl) ?_
    change wpStill _ _ (World.drew v) (fun a' => wpList _ _ _ _ a' (World.drew v)) _ _
    generalize World.drew v = u at hd ⊢
    have HD := Lib.hid hd
    have RK := Lib.hid (rounds_ok (ws := sched ws 48) HHH.out t)
    have hload := run_load_row HD.out.2.2.2.1 Tryz.underlying124 (by rw [row32_size, RK.out.1]; exact zero8.2)
    have hck := (HT.out.below HD.out.2.2.2.2 HT.out.pos) t _ (kk_get hlt)
    have hcw := row32_cell HD.out.2.2.1 (j := j) (n := (sched ws 48).getD t 0) (by rw [HJ.out, winL_at ws (by omega) (by omega), sched_getD W1.out.1 (show t + 1 - 16 ≤ 48 by omega) (by omega)])
    have hk := kk_ok.getD t
    have hw := (sched_ok W1.out 48).getD t
    have hstep : rounds (sched ws 48) h (t + 1) = stepL ((kk.getD t 0 + (sched ws 48).getD t 0) % 4294967296) (rounds (sched ws 48) h t) := rfl
    have HST := Lib.hid hstep
    have HB0 := Lib.hid hd.2.2.2.1
    clear hd hstep HM
    generalize kk.getD t 0 = k at *
    generalize (sched ws 48).getD t 0 = x at *
    simp only [List.take_succ_cons, List.take_zero, List.drop_succ_cons, List.drop_zero]
    refine wpStill_load_row rfl 124 _ rfl (bw + 1) rfl hload ?_
    simp only [Act.put, List.setIfInBounds_toArray, List.set_cons_zero, List.set_cons_succ]
    clear hload
    repeat still_step
    refine wpStill_nil ?_
    clear hck hcw
    go_wp2_with fail
    refine (step_int _ ((k + x) % 4294967296) _ (by omega) RK.out (Nat.mod_lt _ (by omega)) _).mono ?_
    rintro e w3 ⟨rfl, b⟩
    have hu := HD.out.below b
    rw [← HST.out]
    have HU := Lib.hid hu
    have R1 := Lib.hid (rounds_ok (ws := sched ws 48) HHH.out (t + 1))
    clear hu b
    go_wp2_with (refine wpList_store_row rfl 124 _ _ rfl (bw + 1) rfl rfl HU.out.2.2.2.1 (by rw [row32_size, R1.out.1]; exact zero8.2) (by rw [row32_size, row32_size, R1.out.1, RK.out.1]) (row32_one _) ?_)
    go_roundw
    case measure => simp [intOf]; omega
    case rel =>
     obtain ⟨r0, r2, r3, r4, r5⟩ := HU.out
     have g := GS'.out
     refine ⟨t + 1, by omega, by go_num, ?_, ?_, ?_, ?_, ?_⟩
     ·rw [setRow_other _ _ _ _ (by omega)]; exact r0
     ·rw [setRow_other _ _ _ _ (by omega)]; exact r2
     ·rw [setRow_other _ _ _ _ (by omega)]; exact r3
     ·exact setRow_heap _ _ _ _ _ _ r4
     ·exact below_setRow r5 (by omega) _
   ·have h16' : ¬ (16 : Int) ≤ t := by omega
    go_wp2
    have hm : AtMid w h ws bw (bw + 1) t wr := by
     have := HR.out
     unfold AtHead at this
     unfold AtMid
     rw [show t + 1 - 16 = t - 16 by omega]
     exact this
    generalize wr = v at hm ⊢
    have HM := Lib.hid hm
    clear hm h16 h16'
    have hd : AtMid w h ws bw (bw + 1) t v.drew := HM.out.drew
    refine wp_region_still_tail 9 (by kernel_rfl) (by kernel_rfl) ?_
    change wpStill _ _ (World.drew v) (fun a' => wpList _ _ _ _ a' (World.drew v)) _ _
    generalize World.drew v = u at hd ⊢
    have HD := Lib.hid hd
    have RK := Lib.hid (rounds_ok (ws := sched ws 48) HHH.out t)
    have hload := run_load_row HD.out.2.2.2.1 Tryz.underlying124 (by rw [row32_size, RK.out.1]; exact zero8.2)
    have hck := (HT.out.below HD.out.2.2.2.2 HT.out.pos) t _ (kk_get hlt)
    have hcw := row32_cell HD.out.2.2.1 (j := j) (n := (sched ws 48).getD t 0) (by rw [HJ.out, winL_at ws (by omega) (by omega), sched_getD W1.out.1 (show t + 1 - 16 ≤ 48 by omega) (by omega)])
    have hk := kk_ok.getD t
    have hw := (sched_ok W1.out 48).getD t
    have hstep : rounds (sched ws 48) h (t + 1) = stepL ((kk.getD t 0 + (sched ws 48).getD t 0) % 4294967296) (rounds (sched ws 48) h t) := rfl
    have HST := Lib.hid hstep
    have HB0 := Lib.hid hd.2.2.2.1
    clear hd hstep HM
    generalize kk.getD t 0 = k at *
    generalize (sched ws 48).getD t 0 = x at *
    simp only [List.take_succ_cons, List.take_zero, List.drop_succ_cons, List.drop_zero]
    refine wpStill_load_row rfl 124 _ rfl (bw + 1) rfl hload ?_
    simp only [Act.put, List.setIfInBounds_toArray, List.set_cons_zero, List.set_cons_succ]
    clear hload
    repeat still_step
    refine wpStill_nil ?_
    clear hck hcw
    go_wp2_with fail
    refine (step_int _ ((k + x) % 4294967296) _ (by omega) RK.out (Nat.mod_lt _ (by omega)) _).mono ?_
    rintro e w3 ⟨rfl, b⟩
    have hu := HD.out.below b
    rw [← HST.out]
    have HU := Lib.hid hu
    have R1 := Lib.hid (rounds_ok (ws := sched ws 48) HHH.out (t + 1))
    clear hu b
    go_wp2_with (refine wpList_store_row rfl 124 _ _ rfl (bw + 1) rfl rfl HU.out.2.2.2.1 (by rw [row32_size, R1.out.1]; exact zero8.2) (by rw [row32_size, row32_size, R1.out.1, RK.out.1]) (row32_one _) ?_)
    go_roundw
    case measure => simp [intOf]; omega
    case rel =>
     obtain ⟨r0, r2, r3, r4, r5⟩ := HU.out
     have g := GS'.out
     refine ⟨t + 1, by omega, by go_num, ?_, ?_, ?_, ?_, ?_⟩
     ·rw [setRow_other _ _ _ _ (by omega)]; exact r0
     ·rw [setRow_other _ _ _ _ (by omega)]; exact r2
     ·rw [setRow_other _ _ _ _ (by omega)]; exact r3
     ·exact setRow_heap _ _ _ _ _ _ r4
     ·exact below_setRow r5 (by omega) _
  ·obtain rfl : t = 64 := by omega
   have hlt' : ¬ (64 : Int) < 64 := by omega
   obtain ⟨r0, r2, r3, r4, r5⟩ := HR.out
   obtain ⟨g, hg⟩ : ∃ g, g = rounds (sched ws 48) h 64 := ⟨_, rfl⟩
   have RK : Hid (W32 8 g) := Lib.hid (by rw [hg]; exact rounds_ok HHH.out 64)
   rw [← hg] at r4
   have HG := Lib.hid hg
   clear hg
   rw [← addP_zero h g] at r0
   have R0 := Lib.hid r0
   have R2 := Lib.hid r2
   have R4 := Lib.hid r4
   have R5 := Lib.hid r5
   clear r0 r2 r3 r4 r5 HR hlt hlt'
   go_wp2_with (refine wpList_load_row rfl 124 _ rfl (bw + 1) rfl R4.out Tryz.underlying124 (by rw [row32_size, RK.out.1]; exact zero8.2) ?_)
   clear R4
   go_loopw [35] (fun s35 wx => ∃ i : Nat, i ≤ 8 ∧ s35 = .int .i64 i ∧ wx.heap[w.heap.size]? = some (.cells (row32 (addP h g i)) 124 (0, 0)) ∧ wx.heap[w.heap.size + 1 + 1]? = some (.cells (Array.replicate 8 (.int .u32 0)) 124 (0, 0)) ∧ Below w.heap.size w wx) (fun s35 _ => 8 - (intOf s35).toNat)
   case atStart => exact ⟨0, by omega, rfl, R0.out, R2.out, R5.out⟩
   case round =>
    obtain ⟨i, hi, rfl, q0, q2, q5⟩ := hrel
    clear R0 R2 R5
    have Q2 := Lib.hid q2
    have Q5 := Lib.hid q5
    by_cases hlt : i < 8
    ·have hlt' : (i : Int) < 8 := by omega
     have hc := row32_cell q0 (addP_get HHH.out.1 RK.out.1 hlt)
     have hf := frozen_of_row wr w.heap.size i _ _ q0
     have hidx : ∀ w', (Instr.index 124 (.agg (row32 g)) (.int .i64 (i : Int))).run Tryz.prog w' = .ok (.int .u32 ((g.getD i 0 : Nat) : Int)) w' := fun w' => by
      obtain ⟨ie, h1, h2, h3, h4⟩ := info_parts infoWord
      exact run_index_row Tryz.underlying124 Tryz.underlying123 rfl h1 h3 hlt (row32_at (by rw [List.getD_eq_getElem?_getD, List.getElem?_eq_getElem (by rw [RK.out.1]; exact hlt)]; rfl))
     have hset : (row32 (addP h g i)).setIfInBounds i (.int .u32 ((((h.getD i 0 : Nat) : Int) + ((g.getD i 0 : Nat) : Int)) % 4294967296)) = row32 (addP h g (i + 1)) := by
      rw [← addP_set HHH.out.1 RK.out.1 hlt, ← row32_set]
      congr 2
     have HS := Lib.hid hset
     have Q0 := Lib.hid q0
     have l1 := HHH.out.getD i
     have l2 := RK.out.getD i
     clear q0 q2 q5 hset
     generalize h.getD i 0 = x at *
     generalize g.getD i 0 = y at *
     go_wp2
     go_roundw
     case measure => simp [intOf]; omega
     case rel =>
      refine ⟨i + 1, by omega, by go_num, ?_, ?_, ?_⟩
      ·rw [heap_setCell_same _ _ _ _ _ _ Q0.out, HS.out]
      ·rw [heap_setCell_other _ _ _ _ (show w.heap.size + 1 + 1 ≠ w.heap.size by omega)]; exact Q2.out
      ·exact Q5.out.setCell (Nat.le_refl _) _
    ·obtain rfl : i = 8 := by omega
     have hlt' : ¬ (8 : Int) < 8 := by omega
     rw [addP_all HHH.out.1 RK.out.1] at q0
     have ok := addL_length HHH.out.1 RK.out.1
     have Q0 := Lib.hid q0
     have OK := Lib.hid ok
     clear q0 q2 q5 ok hlt
     go_wp2_with (first
      | refine wpList_load_row rfl 124 _ rfl w.heap.size rfl Q0.out Tryz.underlying124 (by rw [row32_size, OK.out]; exact zero8.2) ?_
      | refine wpList_store_row rfl 124 _ _ rfl (w.heap.size + 1 + 1) rfl rfl Q2.out (by rw [row32_size, OK.out]; exact zero8.2) (by rw [row32_size, OK.out]; simp) (row32_one _) ?_)
     refine bodyPost_ret (v := .agg (row32 (addL h g))) ?_ rfl ⟨by rw [HG.out], below_setRow Q5.out (by omega) _⟩
     exact results_cell_row rfl _ _ (w.heap.size + 1 + 1) _ _ (0, 0) _ rfl (setRow_heap _ _ _ _ _ _ Q2.out) Tryz.underlying124 rfl (by rw [row32_size, OK.out]; exact zero8.2)
end Go.Proofs.YteloiajocjahmaaGreatDoor
