/-
  The document's own answer for check sums is the same plain function; the statement CrcTells' text returns true.
  Conditions: none.
-/
import Derived.Test.YtbpmbdndjfdbpaaCrcOver
import Derived.Deep.QuietTactic
import Derived.BigQuiet
set_option linter.unusedVariables false
set_option linter.unusedSimpArgs false
namespace Go.Proofs.Ytbpmbdndjfdbpaa
open Go.RowKit

theorem rstep_any (x : Nat) (w : World) (hx : x < 4294967296) :
    Calls Try.prog 15 #[.int .u32 x] w fun e w' => e = .returned (.int .u32 (stp x : Nat)) ∧ w' = w := by
  have hs := stp_int x hx
  by_cases h : x % 2 = 1
  · have h' : (x : Int) % 2 = 1 := by omega
    rw [h'] at hs
    have hs' : bits .xor .u32 ((x : Int) / 2) 3988292384 = (stp x : Nat) := by simpa using hs
    go_enter Try.func15, Try.ntmps15
    go_wp2
    go_ret
    exact ⟨rfl, rfl⟩
  · have h' : (x : Int) % 2 = 0 := by omega
    have hs' : (x : Int) / 2 = (stp x : Nat) := by
      unfold stp
      rw [show x % 2 = 0 by omega, Nat.zero_mul, Nat.xor_zero]
      omega
    clear hs
    go_enter Try.func15, Try.ntmps15
    go_wp2
    go_ret
    exact ⟨rfl, rfl⟩

theorem word_sub {x : Nat} (h : x < 4294967296) : (4294967295 : Int) - x = ((4294967295 ^^^ x : Nat) : Int) := by
  rw [← not_word h]; omega

set_option maxHeartbeats 1000000 in
theorem rover_any (s : Nat) (hs : s < 4294967296) (v : Value) (xs : List UInt8) (w : World) (hx : Txt w w.heap.size v xs) :
    Calls Try.prog 12 #[.int .u32 s, v] w fun e w' => e = .returned (.int .u32 (over s xs : Nat)) ∧ w' = w := by
  obtain ⟨A, cap, rfl, h1, h2, -, h3⟩ := hx
  unfold maxLen at h2
  have H3 := Lib.hid h3
  clear h3
  have hst := word_sub hs
  have hF : 4294967295 ^^^ s < 4294967296 := xor_word (by omega) hs
  obtain ⟨F, hFe⟩ : ∃ F, F = 4294967295 ^^^ s := ⟨_, rfl⟩
  rw [← hFe] at hst hF
  have HFE := Lib.hid hFe
  clear hFe
  go_enter Try.func12, Try.ntmps12
  go_wp2
  go_loop [5, 6] (fun c i => ∃ j : Nat, c = .int .u32 (crcR F (xs.take j) : Nat) ∧ i = .int .i64 j ∧ j ≤ xs.length) (fun _ i => xs.length - (intOf i).toNat)
  case atStart => exact ⟨0, rfl, rfl, by omega⟩
  case round =>
    obtain ⟨j, rfl, rfl, hj⟩ := hrel
    clear hst
    by_cases hlt : j < xs.length
    · obtain ⟨b, off, rfl, -, hc⟩ := H3.out (by omega)
      have hcj := hc j hlt
      have hw := crcR_lt hF (xs.take j)
      have hT := crcR_take (w := F) hlt
      rw [u8_eq] at hcj
      have hxw := u32_xor_nat (crcR F (xs.take j)) xs[j].toNat hw (u8_lt' xs[j])
      have hwx := xor_word hw (u8_lt' xs[j])
      have hx0 := u8_lt xs[j]
      generalize hX : xs[j] = x at *
      generalize crcR F (xs.take j) = W at *
      have HT := Lib.hid hT
      clear hc hX hT
      have hlt' : (j : Int) < xs.length := by omega
      have hj0 : (0 : Int) ≤ j := by omega
      generalize hV : W ^^^ x.toNat = V at *
      clear hV
      go_wp2
      go_loop [5, 7] (fun c i => ∃ k : Nat, c = .int .u32 (stps k V : Nat) ∧ i = .int .i64 k ∧ k ≤ 8) (fun _ i => 8 - (intOf i).toNat)
      case atStart => exact ⟨0, rfl, rfl, by omega⟩
      case round =>
        obtain ⟨k, rfl, rfl, hk⟩ := hrel
        clear hxw
        by_cases hk8 : k < 8
        · have hk8' : (k : Int) < 8 := by omega
          go_wp2_with fail
          refine (rstep_any (stps k V) _ (stps_lt hwx)).mono ?_
          rintro e w1 ⟨rfl, rfl⟩
          rw [← stps_succ]
          go_wp2
          go_round
          case rel => exact ⟨k + 1, rfl, by go_num, by omega⟩
          case measure => simp [intOf]; omega
        · obtain rfl : k = 8 := by omega
          go_wp2
          go_round
          case rel => exact ⟨j + 1, by rw [HT.out], by go_num, by omega⟩
          case measure => simp [intOf]; omega
    · obtain rfl : j = xs.length := by omega
      have hlt' : ¬ (xs.length : Int) < xs.length := by omega
      rw [List.take_length]
      have he := word_sub (crcR_lt hF xs)
      rw [HFE.out, Nat.xor_comm 4294967295 (crcR _ _)] at he
      have he' : (4294967295 : Int) - (crcR F xs : Nat) = (over s xs : Nat) := by rw [HFE.out]; exact he
      clear he
      have ho : over s xs < 4294967296 := over_lt hs xs
      have hcl := crcR_lt hF xs
      obtain ⟨o, hO⟩ : ∃ o, o = over s xs := ⟨_, rfl⟩
      rw [← hO] at ho he'
      have HO := Lib.hid hO
      clear hO
      generalize crcR F xs = W at *
      go_wp2
      go_ret
      exact ⟨by rw [← HO.out]; rfl, rfl⟩
theorem rof_any (v : Value) (xs : List UInt8) (w : World) (hx : Txt w w.heap.size v xs) :
    Calls Try.prog 11 #[v] w fun e w' => e = .returned (.int .u32 (over 0 xs : Nat)) ∧ w' = w := by
  go_enter Try.func11, Try.ntmps11
  go_wp2_with fail
  refine (rover_any 0 (by omega) v xs _ hx).mono ?_
  rintro e w1 ⟨rfl, rfl⟩
  go_wp2
  go_ret
  exact ⟨rfl, rfl⟩

set_option maxHeartbeats 400000 in
theorem walk_tells (v0 : Value) (xs0 : List UInt8) (s : Nat) (w : World) (h0 : Txt w w.heap.size v0 xs0) (hs : s < 4294967296) :
    Calls Try.prog 4 #[v0, .int .u32 s] w fun e w' => e = .returned (.bool true) ∧ Below w.heap.size w w' := by
  have H0 := Lib.hid h0
  obtain ⟨A0, cap0, rfl, -, -, -, -⟩ := h0
  by_cases g0 : 5000 < xs0.length
  · have g0' : (5000 : Int) < xs0.length := by omega
    go_enter Try.func4, Try.ntmps4
    go_wp2
    go_ret
    exact ⟨rfl, Below.refl _ _⟩
  · have g0' : ¬ (5000 : Int) < xs0.length := by omega
    have r0 := run_txt_string H0.out
    go_enter Try.func4, Try.ntmps4
    go_wp2_with fail
    refine (of_any _ xs0 _ H0.out).mono ?_
    rintro e w1 ⟨rfl, b⟩
    have B1 := Lib.hid b
    clear b r0
    go_wp2_with fail
    refine (rof_any _ xs0 _ ((H0.out.below B1.out).more B1.out.size)).mono ?_
    rintro e w2 ⟨rfl, rfl⟩
    generalize over 0 xs0 = p
    go_wp2_with fail
    refine (over_any s hs _ xs0 _ ((H0.out.below B1.out).more B1.out.size)).mono ?_
    rintro e w3 ⟨rfl, b⟩
    have B3 := Lib.hid (B1.out.trans (b.mono B1.out.size))
    clear b
    go_wp2_with fail
    refine (rover_any s hs _ xs0 _ ((H0.out.below B3.out).more B3.out.size)).mono ?_
    rintro e w4 ⟨rfl, rfl⟩
    generalize over s xs0 = q
    have r3 := run_txt_string (H0.out.below B3.out)
    go_wp2
    go_ret
    exact ⟨rfl, B3.out⟩
end Go.Proofs.Ytbpmbdndjfdbpaa
