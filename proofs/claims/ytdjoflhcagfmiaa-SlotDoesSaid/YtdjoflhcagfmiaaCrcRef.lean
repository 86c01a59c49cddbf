/-
  The document's own answer for check sums is the same plain function.
  Conditions: none.
-/
import Derived.Test.YtdjoflhcagfmiaaMBase
import Derived.Deep.QuietTactic
import Derived.BigQuiet
set_option linter.unusedVariables false
set_option linter.unusedSimpArgs false
set_option maxRecDepth 100000
namespace Go.Proofs.Ytdjoflhcagfmiaa
open Go.RowKit

theorem rstep_any (x : Nat) (w : World) (hx : x < 4294967296) :
    Calls Try.prog 103 #[.int .u32 x] w fun e w' => e = .returned (.int .u32 (stp x : Nat)) ∧ w' = w := by
  have hs := stp_int x hx
  by_cases h : x % 2 = 1
  · have h' : (x : Int) % 2 = 1 := by omega
    rw [h'] at hs
    have hs' : bits .xor .u32 ((x : Int) / 2) 3988292384 = (stp x : Nat) := by simpa using hs
    go_enter Try.func103, Try.ntmps103
    go_wp2
    go_ret
    exact ⟨rfl, rfl⟩
  · have h' : (x : Int) % 2 = 0 := by omega
    have hs' : (x : Int) / 2 = (stp x : Nat) := by
      unfold stp
      rw [show x % 2 = 0 by omega, Nat.zero_mul, Nat.xor_zero]
      omega
    clear hs
    go_enter Try.func103, Try.ntmps103
    go_wp2
    go_ret
    exact ⟨rfl, rfl⟩

theorem word_sub {x : Nat} (h : x < 4294967296) : (4294967295 : Int) - x = ((4294967295 ^^^ x : Nat) : Int) := by
  rw [← not_word h]; omega

set_option maxHeartbeats 1000000 in
theorem rover_any (s : Nat) (hs : s < 4294967296) (v : Value) (xs : List UInt8) (w : World) (hx : Txt w w.heap.size v xs) :
    Calls Try.prog 98 #[.int .u32 s, v] w fun e w' => e = .returned (.int .u32 (over s xs : Nat)) ∧ w' = w := by
  obtain ⟨A, cap, rfl, h1, h2, -, h3⟩ := hx
  unfold maxLen at h2
  have H3 := Lib.hid h3
  clear h3
  have hst := word_sub hs
  have hF : 4294967295 ^^^ s < 4294967296 := xor_word (by omega) hs
  obtain ⟨F, hFe⟩ : ∃ F, F = 4294967295 ^^^ s := ⟨_, rfl⟩
  rw [← hFe] at hst hF
  have HFE := Lib.hid hFe
  clear hFe
  go_enter Try.func98, Try.ntmps98
  go_wp2
  go_loop [5, 6] (fun c i => ∃ j : Nat, c = .int .u32 (crcR F (xs.take j) : Nat) ∧ i = .int .i64 j ∧ j ≤ xs.length) (fun _ i => xs.length - (intOf i).toNat)
  case atStart => exact ⟨0, rfl, rfl, by omega⟩
  case round =>
    obtain ⟨j, rfl, rfl, hj⟩ := hrel
    clear hst
    by_cases hlt : j < xs.length
    · obtain ⟨b, off, rfl, -, hc⟩ := H3.out (by omega)
      have hcj := hc j hlt
      have hw := crcR_lt hF (xs.take j)
      have hT := crcR_take (w := F) hlt
      rw [u8_eq] at hcj
      have hxw := u32_xor_nat (crcR F (xs.take j)) xs[j].toNat hw (u8_lt' xs[j])
      have hwx := xor_word hw (u8_lt' xs[j])
      have hx0 := u8_lt xs[j]
      generalize hX : xs[j] = x at *
      generalize crcR F (xs.take j) = W at *
      have HT := Lib.hid hT
      clear hc hX hT
      have hlt' : (j : Int) < xs.length := by omega
      have hj0 : (0 : Int) ≤ j := by omega
      generalize hV : W ^^^ x.toNat = V at *
      clear hV
      go_wp2
      go_loop [5, 7] (fun c i => ∃ k : Nat, c = .int .u32 (stps k V : Nat) ∧ i = .int .i64 k ∧ k ≤ 8) (fun _ i => 8 - (intOf i).toNat)
      case atStart => exact ⟨0, rfl, rfl, by omega⟩
      case round =>
        obtain ⟨k, rfl, rfl, hk⟩ := hrel
        clear hxw
        by_cases hk8 : k < 8
        · have hk8' : (k : Int) < 8 := by omega
          go_wp2_with fail
          refine (rstep_any (stps k V) _ (stps_lt hwx)).mono ?_
          rintro e w1 ⟨rfl, rfl⟩
          rw [← stps_succ]
          go_wp2
          go_round
          case rel => exact ⟨k + 1, rfl, by go_num, by omega⟩
          case measure => simp [intOf]; omega
        · obtain rfl : k = 8 := by omega
          go_wp2
          go_round
          case rel => exact ⟨j + 1, by rw [HT.out], by go_num, by omega⟩
          case measure => simp [intOf]; omega
    · obtain rfl : j = xs.length := by omega
      have hlt' : ¬ (xs.length : Int) < xs.length := by omega
      rw [List.take_length]
      have he := word_sub (crcR_lt hF xs)
      rw [HFE.out, Nat.xor_comm 4294967295 (crcR _ _)] at he
      have he' : (4294967295 : Int) - (crcR F xs : Nat) = (over s xs : Nat) := by rw [HFE.out]; exact he
      clear he
      have ho : over s xs < 4294967296 := over_lt hs xs
      have hcl := crcR_lt hF xs
      obtain ⟨o, hO⟩ : ∃ o, o = over s xs := ⟨_, rfl⟩
      rw [← hO] at ho he'
      have HO := Lib.hid hO
      clear hO
      generalize crcR F xs = W at *
      go_wp2
      go_ret
      exact ⟨by rw [← HO.out]; rfl, rfl⟩
theorem rof_any (v : Value) (xs : List UInt8) (w : World) (hx : Txt w w.heap.size v xs) :
    Calls Try.prog 89 #[v] w fun e w' => e = .returned (.int .u32 (over 0 xs : Nat)) ∧ w' = w := by
  go_enter Try.func89, Try.ntmps89
  go_wp2_with fail
  refine (rover_any 0 (by omega) v xs _ hx).mono ?_
  rintro e w1 ⟨rfl, rfl⟩
  go_wp2
  go_ret
  exact ⟨rfl, rfl⟩

end Go.Proofs.Ytdjoflhcagfmiaa
