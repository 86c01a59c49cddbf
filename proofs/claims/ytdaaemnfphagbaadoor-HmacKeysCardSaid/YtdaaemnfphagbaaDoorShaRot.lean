/-
  A word turned right, as the program turns it.
  Conditions: none.
-/
import Derived.Test.YtdaaemnfphagbaaDoorShaMath
import Derived.Test.YtdaaemnfphagbaaDoorBase
import Derived.Laws.ShiftsVar
import Derived.Laws.ShiftsVarLaws
import Derived.Laws.BitsAllLaws
import Derived.Deep.QuietTactic
import Derived.BigQuiet
import Derived.IntWalk
import Derived.Lib.Hide
set_option linter.unusedVariables false
set_option linter.unusedSimpArgs false
namespace Go.Proofs.YtdaaemnfphagbaaDoor
open Go.RowKit

def w32 (n : Nat) : Value := .int .u32 (n : Int)

def Turn (n : Nat) : Prop := n = 2 ∨ n = 6 ∨ n = 7 ∨ n = 11 ∨ n = 13 ∨ n = 17 ∨ n = 18 ∨ n = 19 ∨ n = 22 ∨ n = 25

theorem turn_and {n : Nat} (hn : Turn n) : bits .and .u64 (IntKind.u64.wrap (-(n : Int))) 31 = ((32 - n : Nat) : Int) := by
  rcases hn with rfl | rfl | rfl | rfl | rfl | rfl | rfl | rfl | rfl | rfl <;> rfl
theorem turn_le {n : Nat} (hn : Turn n) : 1 ≤ n ∧ n ≤ 31 := by unfold Turn at hn; omega

theorem rot_any (x n : Nat) (k : Int) (hx : x < 4294967296) (hn : Turn n) (hk : k = -(n : Int)) (w : World) :
    Calls Tryd.prog 30 #[.int .u32 x, .int .i64 k] w fun e w' => e = .returned (.int .u32 (rotr n x : Nat)) ∧ w = w' := by
  have ha := turn_and hn
  obtain ⟨n1, n2⟩ := turn_le hn
  rw [← hk] at ha
  have hs : wrap64 (32 - ((32 - n : Nat) : Int)) = n := by unfold wrap64; omega
  obtain ⟨c, hc⟩ : ∃ c, c = 32 - n := ⟨_, rfl⟩
  rw [← hc] at ha
  have c0 : (0 : Int) ≤ c := by omega
  have c1 : (c : Int) ≤ 32 := by omega
  have hd : (32 : Int) - c = n := by omega
  have HC := Lib.hid hc
  have HK := Lib.hid hk
  clear hn hc hk hs
  go_enter Tryd.func30, Tryd.ntmps30
  go_wp2
  go_ret
  refine ⟨?_, rfl⟩
  have h := rotr_or (n := n) (x := x) (by omega) hx
  rw [← HC.out] at h
  have h2 : x / 2 ^ n < 4294967296 := Nat.lt_of_le_of_lt (Nat.div_le_self _ _) hx
  have e1 : (x : Int) * 2 ^ c % 4294967296 = ((x * 2 ^ c % 4294967296 : Nat) : Int) := by simp
  have e2 : (x : Int) / 2 ^ n = ((x / 2 ^ n : Nat) : Int) := by simp
  rw [e1, e2, u32_or_nat _ _ (Nat.mod_lt _ (by omega)) h2, h]
  rfl

theorem turned_any (x p q r : Nat) (p' q' r' : Int) (hx : x < 4294967296) (hp : Turn p) (hq : Turn q) (hr : Turn r) (ep : p' = p) (eq : q' = q) (er : r' = r) (w : World) :
    Calls Tryd.prog 31 #[.int .u32 x, .int .i64 p', .int .i64 q', .int .i64 r'] w fun e w' => e = .returned (.int .u32 (rot3 p q r x : Nat)) ∧ w = w' := by
  subst ep eq er
  have bp := turn_le hp
  have bq := turn_le hq
  have br := turn_le hr
  have p1 : (1 : Int) ≤ p := by omega
  have p2 : (p : Int) ≤ 31 := by omega
  have q1 : (1 : Int) ≤ q := by omega
  have q2 : (q : Int) ≤ 31 := by omega
  have r1 : (1 : Int) ≤ r := by omega
  have r2 : (r : Int) ≤ 31 := by omega
  have HP := Lib.hid hp
  have HQ := Lib.hid hq
  have HR := Lib.hid hr
  clear hp hq hr
  go_enter Tryd.func31, Tryd.ntmps31
  go_wp2_with fail
  refine (rot_any x p _ hx HP.out rfl _).mono ?_
  rintro e w1 ⟨rfl, rfl⟩
  go_wp2_with fail
  refine (rot_any x q _ hx HQ.out rfl _).mono ?_
  rintro e w1 ⟨rfl, rfl⟩
  go_wp2_with fail
  refine (rot_any x r _ hx HR.out rfl _).mono ?_
  rintro e w1 ⟨rfl, rfl⟩
  go_wp2
  go_ret
  refine ⟨?_, rfl⟩
  have lp := rotr_lt (n := p) (by omega) hx
  have lq := rotr_lt (n := q) (by omega) hx
  have lr := rotr_lt (n := r) (by omega) hx
  rw [u32_xor_nat _ _ lp lq, u32_xor_nat _ _ (xor_w lp lq) lr]
  rfl
end Go.Proofs.YtdaaemnfphagbaaDoor
