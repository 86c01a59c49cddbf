/-
  What a reader of digits makes of some bytes, in plain numbers: the number that stands at their beginning and how many bytes it takes, or nothing; and that this is the number whose bytes they are.
  Conditions: none.
-/
import Derived.Test.YthlohfiidogiiaaMath
set_option linter.unusedVariables false
set_option linter.unusedSimpArgs false
namespace Go.Proofs.Ythlohfiidogiiaa

/-- n: what the digits so far make; s: how many they are. -/
def scan (n s : Nat) : List UInt8 → Nat × Nat
  | [] => (0, 0)
  | x :: r => if 2147483647 / 2 ^ (7 * s) < x.toNat % 128 then (0, 0) else
      if x.toNat < 128 then (if x.toNat % 128 = 0 ∧ 0 < s then (0, 0) else (n + x.toNat % 128 * 2 ^ (7 * s), s + 1))
      else scan (n + x.toNat % 128 * 2 ^ (7 * s)) (s + 1) r

/-- What the digits of a beginning make, none of them the last. -/
def pile : List UInt8 → Nat
  | [] => 0
  | x :: r => x.toNat % 128 + 128 * pile r
end Go.Proofs.Ythlohfiidogiiaa
