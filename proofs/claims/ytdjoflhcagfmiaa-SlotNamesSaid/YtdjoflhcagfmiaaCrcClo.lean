/-
  The function that takes so many steps of a word, and the one that makes it.
  Conditions: none.
-/
import Derived.Test.YtdjoflhcagfmiaaCrcMath
import Derived.Test.YtdjoflhcagfmiaaBase
import Derived.Lib.Hide
import Derived.IntWalk
import Derived.Below
import Derived.Laws.BitsAll
import Derived.Laws.BitsAllLaws
import Derived.Deep.DeepMust
set_option linter.unusedVariables false
set_option linter.unusedSimpArgs false
set_option maxRecDepth 100000
namespace Go.Proofs.Ytdjoflhcagfmiaa
open Go.RowKit

def u32 (n : Nat) : Value := .int .u32 (n : Int)

theorem stp_int (x : Nat) (hx : x < 4294967296) : bits .xor .u32 ((x : Int) / 2) ((x : Int) % 2 * 3988292384) = (stp x : Nat) := by
  have h1 : ((x : Int) % 2 * 3988292384) = ((x % 2 * 3988292384 : Nat) : Int) := by omega
  have h2 : (x : Int) / 2 = ((x / 2 : Nat) : Int) := by omega
  rw [h1, h2, u32_xor_nat _ _ (by omega) (by omega)]
  rfl

theorem clo (k x b : Nat) (w : World) (hk : k < 1000) (hx : x < 4294967296) (hc : w.cell? ⟨b, 0, none⟩ = some (.int .i64 k)) :
    Calls Try.prog 104 #[.int .u32 x, .pointer (some ⟨b, 0, none⟩)] w fun e w' => e = .returned (.int .u32 (stps k x : Nat)) ∧ w' = w := by
  go_enter Try.func104, Try.ntmps104
  go_wp2
  go_loop [0, 5] (fun c i => ∃ j : Nat, c = .int .u32 (stps j x : Nat) ∧ i = .int .i64 j ∧ j ≤ k) (fun _ i => k - (intOf i).toNat)
  case atStart => exact ⟨0, rfl, rfl, by omega⟩
  case round =>
    obtain ⟨j, rfl, rfl, hj⟩ := hrel
    have hl := stps_lt (n := j) hx
    have hs := stp_int (stps j x) hl
    rw [← stps_succ] at hs
    by_cases hlt : j < k
    · have hlt' : (j : Int) < k := by omega
      go_wp2
      go_round
      case rel => exact ⟨j + 1, rfl, by go_num, by omega⟩
      case measure => simp [intOf]; omega
    · obtain rfl : j = k := by omega
      have hlt' : ¬ (j : Int) < j := by omega
      go_wp2
      go_ret
      exact ⟨rfl, rfl⟩
theorem steps_any (w : World) :
    Calls Try.prog 102 #[.int .i64 8] w fun e w' => e = .returned (.func (.func 104) #[] #[.pointer (some ⟨w.heap.size, 0, none⟩)]) ∧ w' = w.alloc (.cells #[.int .i64 8] 3) := by
  have hmf : ∀ (fn : Fn) (first cap : Array Value) (w : World), (Instr.makeFunc fn first cap).run Try.prog w = .ok (.func fn first cap) w := fun _ _ _ _ => rfl
  go_enter Try.func102, Try.ntmps102
  go_wp2
  go_ret
  exact ⟨rfl, rfl⟩
end Go.Proofs.Ytdjoflhcagfmiaa
