/-
 What the program's Put, value and Get answer, said of every call: Get's number and place, or the error for a bad argument or for no number.
 Conditions: the bytes can be read as a slice; the numbers fit an int.
-/
import Derived.Test.YteloiajocjahmaaGreatDoorSGCodP
import Derived.Test.YteloiajocjahmaaGreatDoorSCodValue
import Derived.Fence
import Derived.Below
import Derived.Laws.CopyOwn
import Derived.Test.YteloiajocjahmaaGreatDoorSGCodM
set_option linter.unusedVariables false
set_option linter.unusedSimpArgs false
namespace Go.Proofs.YteloiajocjahmaaGreatDoor
open Go.RowKit Go.Shelf

theorem put_ok (N : Nat) (hN : N ≤ 2147483647) (w : World) : Calls Tryz.prog 23 #[.int .i64 N] w fun e W' => ∃ v, e = .returned (.tuple #[v, .int .i64 0]) ∧ W'.ownsRow w.heap.size 5 1 v (bytesOf N).length ((bytesOf N).map u8) ∧ Below w.heap.size w W' :=
 (callsIn_wide (n := 3)).1 (put_in Fence.wide 3 trivial trivial trivial rfl (by omega) N hN w)

theorem value_ok (v : Value) (xs : List UInt8) (w : World) (hx : Txt w w.heap.size v xs) :
  Calls Tryz.prog 102 #[v] w fun e W' => e = .returned (.tuple #[.int .i64 (scan 0 0 (xs.take 5)).1, .int .i64 (scan 0 0 (xs.take 5)).2]) ∧ Below w.heap.size w W' :=
 (callsIn_wide (n := 3)).1 (value_in Fence.wide 3 trivial trivial trivial rfl (by omega) v xs w hx)

set_option maxHeartbeats 400000 in
theorem put_no (x : Int) (h : x < 0 ∨ 2147483647 < x) (w : World) : Calls Tryz.prog 23 #[.int .i64 x] w fun e W' => e = .returned (.tuple #[.slice none 0 0, .int .i64 2]) ∧ w = W' := by
 rcases h with h | h
 ·have h2 : ¬ 2147483647 < x := by omega
  go_enter Tryz.func23, Tryz.ntmps23
  go_wp2
  go_ret2
  exact ⟨rfl, rfl⟩
 ·have h2 : ¬ x < 0 := by omega
  go_enter Tryz.func23, Tryz.ntmps23
  go_wp2
  go_ret2
  exact ⟨rfl, rfl⟩

/-- A piece of a text from k on, as the program cuts it. -/
theorem Txt.from_ne {W : World} {B : Nat} {A : Option Addr} {cap : Nat} {xs : List UInt8} (h : Txt W B (.slice A xs.length cap) xs) {k : Nat} (hk : k ≤ xs.length) :
  Txt W B (.slice (A.map (·.add k)) (xs.length - k) (cap - k)) (xs.drop k) := by
 obtain ⟨A', cap', e, h1, h2, hn, h3⟩ := h
 cases e
 refine ⟨_, _, by rw [List.length_drop], by rw [List.length_drop]; omega, by omega, ?_, fun hp => ?_⟩
 ·intro hA
  cases A with
  | none => have := hn rfl; omega
  | some a => cases hA
 rw [List.length_drop] at hp
 obtain ⟨b, off, rfl, hb, hc⟩ := h3 (by omega)
 refine ⟨b, off + k, by simp [Addr.add_lit], hb, fun j hj => ?_⟩
 rw [List.length_drop] at hj
 rw [List.getElem_drop, ← hc (k + j) (by omega), Nat.add_assoc]
theorem Txt.from_eq {W : World} {B : Nat} {A : Option Addr} {k : Nat} {xs : List UInt8} (h : Txt W B (.slice A xs.length k) xs) (hk : k ≤ xs.length) : Txt W B (.slice A 0 0) (xs.drop k) := by
 obtain ⟨A', cap', e, h1, h2, hn, h3⟩ := h
 cases e
 have e : xs.drop k = [] := List.drop_eq_nil_of_le (by omega)
 rw [e]
 exact ⟨A, 0, rfl, Nat.le_refl _, Nat.zero_le _, fun _ => rfl, fun hp => absurd hp (by simp)⟩

set_option maxHeartbeats 400000 in
theorem get_arg (v : Value) (xs : List UInt8) (x : Int) (w : World) (hx : Txt w w.heap.size v xs) (h : x < 0 ∨ (xs.length : Int) < x) :
  Calls Tryz.prog 73 #[v, .int .i64 x] w fun e W' => e = .returned (.tuple #[.int .i64 0, .int .i64 0, .int .i64 2]) ∧ w = W' := by
 obtain ⟨A, cap, rfl, _, _, _, _⟩ := hx
 rcases h with h | h
 ·have h2 : ¬ (xs.length : Int) < x := by omega
  go_enter Tryz.func73, Tryz.ntmps73
  go_wp2
  go_ret3
  exact ⟨rfl, rfl⟩
 ·have h2 : ¬ x < 0 := by omega
  go_enter Tryz.func73, Tryz.ntmps73
  go_wp2
  go_ret3
  exact ⟨rfl, rfl⟩

set_option maxHeartbeats 400000 in
theorem get_bad0 (v : Value) (xs : List UInt8) (k n s : Nat) (w : World) (hx : Txt w w.heap.size v xs) (h : k ≤ xs.length) (hs : scan 0 0 ((xs.drop k).take 5) = (n, s)) (hz : s = 0) :
  Calls Tryz.prog 73 #[v, .int .i64 k] w fun e W' => e = .returned (.tuple #[.int .i64 0, .int .i64 0, .int .i64 8]) ∧ Below w.heap.size w W' := by
 have hle := hx.le
 unfold maxLen at hle
 obtain ⟨A, cap, rfl, h1, h2, _, _⟩ := id hx
 unfold maxLen at h2
 have hf : ∀ v', Txt w w.heap.size v' (xs.drop k) → Calls Tryz.prog 102 #[v'] w fun e W' => e = .returned (.tuple #[.int .i64 n, .int .i64 s]) ∧ Below w.heap.size w W' := fun v' hv' => by
  have := value_ok v' _ w hv'
  rwa [hs] at this
 have HF := Lib.hid hf
 clear hf hs
 subst hz
 by_cases hck : cap = k
 ·subst hck
  have HX := Lib.hid (hx.from_eq h)
  clear hx
  go_enter Tryz.func73, Tryz.ntmps73
  go_wp2_with (go_at_call 102; refine (HF.out _ HX.out).mono ?_; rintro e w' ⟨rfl, hb⟩; have Hb := Lib.hid hb; clear hb)
  go_ret3
  exact ⟨rfl, Hb.out⟩
 ·have HX := Lib.hid (hx.from_ne h)
  clear hx
  go_enter Tryz.func73, Tryz.ntmps73
  go_wp2_with (go_at_call 102; refine (HF.out _ HX.out).mono ?_; rintro e w' ⟨rfl, hb⟩; have Hb := Lib.hid hb; clear hb)
  go_ret3
  exact ⟨rfl, Hb.out⟩

set_option maxHeartbeats 400000 in
theorem get_ok (v : Value) (xs : List UInt8) (k n s : Nat) (w : World) (hx : Txt w w.heap.size v xs) (h : k ≤ xs.length) (hs : scan 0 0 ((xs.drop k).take 5) = (n, s)) (hz : 0 < s) (h5 : k + s ≤ xs.length) :
  Calls Tryz.prog 73 #[v, .int .i64 k] w fun e W' => e = .returned (.tuple #[.int .i64 n, .int .i64 ((k : Int) + s), .int .i64 0]) ∧ Below w.heap.size w W' := by
 have hle := hx.le
 unfold maxLen at hle
 obtain ⟨A, cap, rfl, h1, h2, _, _⟩ := id hx
 unfold maxLen at h2
 have hf : ∀ v', Txt w w.heap.size v' (xs.drop k) → Calls Tryz.prog 102 #[v'] w fun e W' => e = .returned (.tuple #[.int .i64 n, .int .i64 s]) ∧ Below w.heap.size w W' := fun v' hv' => by
  have := value_ok v' _ w hv'
  rwa [hs] at this
 have HF := Lib.hid hf
 clear hf hs
 have hz' : ((s : Int) == 0) = false := by simp; omega
 by_cases hck : cap = k
 ·exfalso; omega
 ·have HX := Lib.hid (hx.from_ne h)
  clear hx
  go_enter Tryz.func73, Tryz.ntmps73
  go_wp2_with (go_at_call 102; refine (HF.out _ HX.out).mono ?_; rintro e w' ⟨rfl, hb⟩; have Hb := Lib.hid hb; clear hb)
  go_ret3
  exact ⟨rfl, Hb.out⟩


theorem put_any (x : Int) (w : World) : Calls Tryz.prog 23 #[.int .i64 x] w fun e W' => ∃ u, e = .returned (.tuple #[u, .int .i64 (putSpec x).2]) ∧ W'.ownsRow w.heap.size 5 1 u (putSpec x).1.length ((putSpec x).1.map u8) ∧ Below w.heap.size w W' := by
 unfold putSpec
 by_cases h : x < 0 ∨ 2147483647 < x
 ·rw [if_pos h]
  exact (put_no x h w).mono fun e W' ⟨he, hw⟩ => ⟨_, he, World.ownsRow_nil _ _ _ _, hw ▸ Below.refl _ _⟩
 ·rw [if_neg h]
  obtain ⟨n, rfl⟩ : ∃ n : Nat, x = n := ⟨x.toNat, by omega⟩
  exact put_ok n (by omega) w

theorem get_any (v : Value) (xs : List UInt8) (x : Int) (w : World) (hx : Txt w w.heap.size v xs) :
  Calls Tryz.prog 73 #[v, .int .i64 x] w fun e W' => e = .returned (.tuple #[.int .i64 (getSpec xs x).1, .int .i64 (getSpec xs x).2.1, .int .i64 (getSpec xs x).2.2]) ∧ Below w.heap.size w W' := by
 by_cases h0 : (getSpec xs x).2.2 = 0
 ·obtain ⟨k, n, rfl, h1, h2, h3, h4, h5⟩ := getSpec_ok h0
  rw [h4]
  exact get_ok v xs k n _ w hx (by omega) h5 (bytesOf_length_pos n) h1
 ·unfold getSpec at h0 ⊢
  by_cases h : x < 0 ∨ (xs.length : Int) < x
  ·rw [if_pos h]
   exact (get_arg v xs x w hx h).mono fun e W' ⟨he, hw⟩ => ⟨he, hw ▸ Below.refl _ _⟩
  ·rw [if_neg h] at h0 ⊢
   obtain ⟨k, rfl⟩ : ∃ k : Nat, x = k := ⟨x.toNat, by omega⟩
   rw [Int.toNat_natCast] at h0 ⊢
   by_cases hs : (scan 0 0 ((xs.drop k).take 5)).2 = 0
   ·rw [if_pos hs]
    exact get_bad0 v xs k (scan 0 0 ((xs.drop k).take 5)).1 (scan 0 0 ((xs.drop k).take 5)).2 w hx (by omega) rfl hs
   ·rw [if_neg hs] at h0
    exact absurd rfl h0

end Go.Proofs.YteloiajocjahmaaGreatDoor
