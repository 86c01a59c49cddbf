/-
  The statements' own function: the number of four bytes.
  Conditions: at least four bytes.
-/
import Derived.Test.YtdjoflhcagfmiaaMFind
import Derived.Test.YtdjoflhcagfmiaaMRef
import Derived.Laws.BitsAllLaws
set_option linter.unusedVariables false
set_option linter.unusedSimpArgs false
set_option maxRecDepth 100000
namespace Go.Proofs.Ytdjoflhcagfmiaa
open Go.RowKit

theorem or_shl {a b k : Nat} (h : a < 2 ^ k) : a ||| (b * 2 ^ k) = a + 2 ^ k * b := by
  rw [Nat.or_comm, Nat.mul_comm b, ← Nat.two_pow_add_eq_or_of_lt h b, Nat.add_comm]
theorem le4 (a b c d : UInt8) (l : Bs) : leN ((a :: b :: c :: d :: l).take 4) = a.toNat + 256 * b.toNat + 65536 * c.toNat + 16777216 * d.toNat := by
  show a.toNat + 256 * (b.toNat + 256 * (c.toNat + 256 * (d.toNat + 256 * 0))) = _
  omega

set_option maxHeartbeats 4000000 in
theorem lnum_any (v : Value) (xs : Bs) (w : World) (hx : Txt w w.heap.size v xs) (hl : 4 ≤ xs.length) :
    Calls Try.prog 28 #[v] w fun e w' => e = .returned (.int .u32 (leN (xs.take 4) : Nat)) ∧ Below w.heap.size w w' := by
  obtain ⟨n, hn⟩ : ∃ n, xs.length = n := ⟨_, rfl⟩
  obtain ⟨b, o, c, rfl, hb, c0⟩ := txt_byte_ hx hn (j := 0) (by omega)
  obtain ⟨b', o', c', e, -, c1⟩ := txt_byte_ hx hn (j := 1) (by omega)
  cases e
  obtain ⟨b', o', c', e, -, c2⟩ := txt_byte_ hx hn (j := 2) (by omega)
  cases e
  obtain ⟨b', o', c', e, -, c3⟩ := txt_byte_ hx hn (j := 3) (by omega)
  cases e
  obtain ⟨a0, a1, a2, a3, l, rfl⟩ : ∃ a0 a1 a2 a3 l, xs = a0 :: a1 :: a2 :: a3 :: l := by
    match xs, hl with
    | a0 :: a1 :: a2 :: a3 :: l, _ => exact ⟨_, _, _, _, _, rfl⟩
  rw [le4]
  simp only [List.getElem_cons_zero, List.getElem_cons_succ, Nat.add_zero] at c0 c1 c2 c3
  have hn4 : 4 ≤ n := by omega
  clear hx hn hl hb
  have l0 := UInt8.toNat_lt a0
  have l1 := UInt8.toNat_lt a1
  have l2 := UInt8.toNat_lt a2
  have l3 := UInt8.toNat_lt a3
  generalize a0.toNat = A0 at *
  generalize a1.toNat = A1 at *
  generalize a2.toNat = A2 at *
  generalize a3.toNat = A3 at *
  go_enter Try.func28, Try.ntmps28
  go_wp2_with fail
  have v1 : bits .or .u32 (A0 : Int) ((A1 : Int) * 256) = ((A0 + 256 * A1 : Nat) : Int) := by
    rw [show (A1 : Int) * 256 = ((A1 * 2 ^ 8 : Nat) : Int) by omega, u32_or_nat _ _ (by omega) (by omega), or_shl (by omega)]
  have v2 : bits .or .u32 ((A0 + 256 * A1 : Nat) : Int) ((A2 : Int) * 65536) = ((A0 + 256 * A1 + 65536 * A2 : Nat) : Int) := by
    rw [show (A2 : Int) * 65536 = ((A2 * 2 ^ 16 : Nat) : Int) by omega, u32_or_nat _ _ (by omega) (by omega), or_shl (by omega)]
  have v3 : bits .or .u32 ((A0 + 256 * A1 + 65536 * A2 : Nat) : Int) ((A3 : Int) * 16777216) = ((A0 + 256 * A1 + 65536 * A2 + 16777216 * A3 : Nat) : Int) := by
    rw [show (A3 : Int) * 16777216 = ((A3 * 2 ^ 24 : Nat) : Int) by omega, u32_or_nat _ _ (by omega) (by omega), or_shl (by omega)]
  obtain ⟨N3, hN3⟩ : ∃ N, N = A0 + 256 * A1 + 65536 * A2 + 16777216 * A3 := ⟨_, rfl⟩
  rw [← hN3] at v3
  have HN3 := Lib.hid hN3
  clear hN3
  generalize A0 + 256 * A1 + 65536 * A2 = N2 at v2 v3
  generalize A0 + 256 * A1 = N1 at v1 v2
  go_region
  go_wp2_with fail
  go_ret
  exact ⟨by rw [← HN3.out]; rfl, (Below.refl _ _).drew⟩
end Go.Proofs.Ytdjoflhcagfmiaa
