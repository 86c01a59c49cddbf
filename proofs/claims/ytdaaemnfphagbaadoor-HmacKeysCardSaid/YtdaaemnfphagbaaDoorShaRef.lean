/-
  The document's own answer: a word turned right, shifted, sums of words.
  Conditions: none.
-/
import Derived.Test.YtdaaemnfphagbaaDoorShaGen
set_option linter.unusedVariables false
set_option linter.unusedSimpArgs false
namespace Go.Proofs.YtdaaemnfphagbaaDoor
open Go.RowKit

theorem right_any (x n : Nat) (k : Int) (hx : x < 4294967296) (hn : n ≤ 31) (hk : k = (n : Int)) (w : World) :
    Calls Tryd.prog 35 #[.int .u32 x, .int .i64 k] w fun e w' => e = .returned (.int .u32 (rotr n x : Nat)) ∧ w' = w := by
  subst hk
  have hn' : (n : Int) ≤ 31 := by omega
  go_enter Tryd.func35, Tryd.ntmps35
  go_wp2
  go_loop [0, 5] (fun s0 s5 => ∃ i : Nat, i ≤ n ∧ s5 = .int .i64 i ∧ s0 = .int .u32 (rotr i x : Nat)) (fun _ s5 => n - (intOf s5).toNat)
  case atStart => exact ⟨0, by omega, rfl, by rw [rotr_zero]⟩
  case round =>
    obtain ⟨i, hi, rfl, rfl⟩ := hrel
    have hl := rotr_lt (n := i) (by omega) hx
    by_cases hlt : i < n
    · have hlt' : (i : Int) < n := by omega
      have hs := rotr_succ (n := i) (x := x) (by omega)
      have hl2 := rotr_lt (n := i + 1) (by omega) hx
      have HS := Lib.hid hs
      have HL2 := Lib.hid hl2
      clear hs hl2
      generalize rotr i x = X at *
      go_wp2
      go_round
      case measure => simp [intOf]; omega
      case rel => exact ⟨i + 1, by omega, by go_num, by rw [← HS.out]; congr 1⟩
    · obtain rfl : i = n := by omega
      have hlt' : ¬ (i : Int) < i := by omega
      go_wp2
      go_ret
      exact ⟨rfl, rfl⟩

theorem shifted_any (x n : Nat) (k : Int) (hx : x < 4294967296) (hn : n ≤ 31) (hk : k = (n : Int)) (w : World) :
    Calls Tryd.prog 29 #[.int .u32 x, .int .i64 k] w fun e w' => e = .returned (.int .u32 (x / 2 ^ n : Nat)) ∧ w' = w := by
  subst hk
  have hn' : (n : Int) ≤ 31 := by omega
  go_enter Tryd.func29, Tryd.ntmps29
  go_wp2
  go_loop [0, 5] (fun s0 s5 => ∃ i : Nat, i ≤ n ∧ s5 = .int .i64 i ∧ s0 = .int .u32 (x / 2 ^ i : Nat)) (fun _ s5 => n - (intOf s5).toNat)
  case atStart => exact ⟨0, by omega, rfl, by simp⟩
  case round =>
    obtain ⟨i, hi, rfl, rfl⟩ := hrel
    have hl : x / 2 ^ i < 4294967296 := Nat.lt_of_le_of_lt (Nat.div_le_self _ _) hx
    by_cases hlt : i < n
    · have hlt' : (i : Int) < n := by omega
      have hs : x / 2 ^ (i + 1) = x / 2 ^ i / 2 := by rw [Nat.pow_succ, ← Nat.div_div_eq_div_mul]
      have HS := Lib.hid hs
      clear hs
      generalize x / 2 ^ i = X at *
      go_wp2
      go_round
      case measure => simp [intOf]; omega
      case rel => exact ⟨i + 1, by omega, by go_num, by rw [HS.out]; congr 1⟩
    · obtain rfl : i = n := by omega
      have hlt' : ¬ (i : Int) < i := by omega
      obtain ⟨X, hX⟩ : ∃ X, X = x / 2 ^ i := ⟨_, rfl⟩
      rw [← hX] at hl ⊢
      have HX := Lib.hid hX
      clear hX
      go_wp2
      go_ret
      exact ⟨ret_int (by rw [HX.out]; simp), rfl⟩

def sumM (l : List Nat) : Nat := l.foldl (fun n x => (n + x) % 4294967296) 0
theorem sumM_snoc (l : List Nat) (x : Nat) : sumM (l ++ [x]) = (sumM l + x) % 4294967296 := by simp [sumM]
theorem sumM_lt (l : List Nat) : sumM l < 4294967296 := by
  rcases l.eq_nil_or_concat with rfl | ⟨l', x, rfl⟩
  · decide
  · rw [List.concat_eq_append, sumM_snoc]; exact Nat.mod_lt _ (by omega)

theorem sumM2 (a b : Nat) : sumM [a, b] = (a + b) % 4294967296 := by
  simp only [sumM, List.foldl_cons, List.foldl_nil, Nat.zero_add, Nat.mod_add_mod]
theorem sumM4 (a b c d : Nat) : sumM [a, b, c, d] = (a + b + c + d) % 4294967296 := by
  simp only [sumM, List.foldl_cons, List.foldl_nil, Nat.zero_add, Nat.mod_add_mod]
theorem sumM5 (a b c d e : Nat) : sumM [a, b, c, d, e] = (a + b + c + d + e) % 4294967296 := by
  simp only [sumM, List.foldl_cons, List.foldl_nil, Nat.zero_add, Nat.mod_add_mod]

theorem sum_words (b : Nat) (l : List Nat) (hl : l.length ≤ 10) (hw : ∀ x ∈ l, x < 4294967296) (t : TypeId) (w : World) (hb : w.heap[b]? = some (.cells (row32 l) t (0, 0))) (n c : Nat) (hn : n = l.length) :
    Calls Tryd.prog 34 #[.slice (some ⟨b, 0, none⟩) n c] w fun e w' => e = .returned (.int .u32 (sumM l : Nat)) ∧ w' = w := by
  subst hn
  have HB := Lib.hid hb
  have HW := Lib.hid hw
  clear hb hw
  go_enter Tryd.func34, Tryd.ntmps34
  go_wp2
  go_loop [3, 4] (fun s3 s4 => ∃ i : Nat, i ≤ l.length ∧ s4 = .int .i64 i ∧ s3 = .int .i64 (sumM (l.take i) : Nat)) (fun _ s4 => l.length - (intOf s4).toNat)
  case atStart => exact ⟨0, by omega, rfl, rfl⟩
  case round =>
    obtain ⟨i, hi, rfl, rfl⟩ := hrel
    have hl := sumM_lt (l.take i)
    by_cases hlt : i < l.length
    · have hlt' : (i : Int) < l.length := by omega
      have hs : sumM (l.take (i + 1)) = (sumM (l.take i) + l[i]) % 4294967296 := by
        rw [List.take_add_one, List.getElem?_eq_getElem hlt]; exact sumM_snoc _ _
      have hc := row32_cell HB.out (List.getElem?_eq_getElem hlt)
      have hx := HW.out l[i] (List.getElem_mem hlt)
      have HS := Lib.hid hs
      clear hs
      generalize l[i] = x at *
      generalize sumM (l.take i) = X at *
      go_wp2
      go_round
      case measure => simp [intOf]; omega
      case rel => exact ⟨i + 1, by omega, by go_num, by rw [HS.out]; congr 1⟩
    · obtain rfl : i = l.length := by omega
      have hlt' : ¬ (l.length : Int) < l.length := by omega
      rw [List.take_length] at hl ⊢
      obtain ⟨X, hX⟩ : ∃ X, X = sumM l := ⟨_, rfl⟩
      rw [← hX] at hl ⊢
      have HX := Lib.hid hX
      clear hX
      go_wp2
      go_ret
      exact ⟨ret_int (by rw [HX.out]), rfl⟩

theorem choose_any (e f g : Nat) (he : e < 4294967296) (hf : f < 4294967296) (hg : g < 4294967296) (w : World) :
    Calls Tryd.prog 36 #[.int .u32 e, .int .u32 f, .int .u32 g] w fun x w' => x = .returned (.int .u32 (ch e f g : Nat)) ∧ w' = w := by
  go_enter Tryd.func36, Tryd.ntmps36
  go_wp2
  go_ret
  refine ⟨ret_int ?_, rfl⟩
  rw [u32_xor_nat _ _ hf hg, u32_and_nat _ _ he (xor_w hf hg), u32_xor_nat _ _ hg (and_w (xor_w hf hg))]
  rfl
theorem most_any (a b c : Nat) (ha : a < 4294967296) (hb : b < 4294967296) (hc : c < 4294967296) (w : World) :
    Calls Tryd.prog 37 #[.int .u32 a, .int .u32 b, .int .u32 c] w fun x w' => x = .returned (.int .u32 (maj a b c : Nat)) ∧ w' = w := by
  go_enter Tryd.func37, Tryd.ntmps37
  go_wp2
  go_ret
  refine ⟨ret_int ?_, rfl⟩
  rw [u32_and_nat _ _ ha hb, u32_or_nat _ _ ha hb, u32_and_nat _ _ hc (or_w ha hb), u32_or_nat _ _ (and_w hb) (and_w (or_w ha hb))]
  rfl
end Go.Proofs.YtdaaemnfphagbaaDoor
