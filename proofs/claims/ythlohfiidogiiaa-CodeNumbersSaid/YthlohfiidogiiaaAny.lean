/-
  Each call of the program's Put, Get, Wrap and Unwrap answers what its plain function says, in memory of its own.
  Conditions: the bytes can be read as a slice.
-/
import Derived.Test.YthlohfiidogiiaaAlive
import Derived.Test.YthlohfiidogiiaaSpec
set_option linter.unusedVariables false
set_option linter.unusedSimpArgs false
namespace Go.Proofs.Ythlohfiidogiiaa
open Go.RowKit Go.Shelf

theorem put_any (x : Int) (w : World) : Calls Try.prog 13 #[.int .i64 x] w fun e W' => ∃ u, e = .returned (.tuple #[u, .int .i64 (putSpec x).2]) ∧ W'.ownsRow w.heap.size 5 1 u (putSpec x).1.length ((putSpec x).1.map u8) ∧ Below w.heap.size w W' := by
  unfold putSpec
  by_cases h : x < 0 ∨ 2147483647 < x
  · rw [if_pos h]
    exact (put_no x h w).mono fun e W' ⟨he, hw⟩ => ⟨_, he, World.ownsRow_nil _ _ _ _, hw ▸ Below.refl _ _⟩
  · rw [if_neg h]
    obtain ⟨n, rfl⟩ : ∃ n : Nat, x = n := ⟨x.toNat, by omega⟩
    exact put_ok n (by omega) w

theorem get_any (v : Value) (xs : List UInt8) (x : Int) (w : World) (hx : Txt w w.heap.size v xs) :
    Calls Try.prog 9 #[v, .int .i64 x] w fun e W' => e = .returned (.tuple #[.int .i64 (getSpec xs x).1, .int .i64 (getSpec xs x).2.1, .int .i64 (getSpec xs x).2.2]) ∧ Below w.heap.size w W' := by
  by_cases h0 : (getSpec xs x).2.2 = 0
  · obtain ⟨k, n, rfl, h1, h2, h3, h4, h5⟩ := getSpec_ok h0
    rw [h4]
    exact get_ok v xs k n _ w hx (by omega) h5 (bytesOf_length_pos n) h1
  · unfold getSpec at h0 ⊢
    by_cases h : x < 0 ∨ (xs.length : Int) < x
    · rw [if_pos h]
      exact (get_arg v xs x w hx h).mono fun e W' ⟨he, hw⟩ => ⟨he, hw ▸ Below.refl _ _⟩
    · rw [if_neg h] at h0 ⊢
      obtain ⟨k, rfl⟩ : ∃ k : Nat, x = k := ⟨x.toNat, by omega⟩
      rw [Int.toNat_natCast] at h0 ⊢
      by_cases hs : (scan 0 0 ((xs.drop k).take 5)).2 = 0
      · rw [if_pos hs]
        exact get_bad0 v xs k (scan 0 0 ((xs.drop k).take 5)).1 (scan 0 0 ((xs.drop k).take 5)).2 w hx (by omega) rfl hs
      · rw [if_neg hs] at h0
        exact absurd rfl h0

theorem wrap_any (v : Value) (xs : List UInt8) (w : World) (hx : Txt w w.heap.size v xs) :
    Calls Try.prog 10 #[v] w fun e W' => ∃ u, e = .returned (.tuple #[u, .int .i64 (wrapSpec xs).2]) ∧ W'.ownsRow w.heap.size 5 1 u (wrapSpec xs).1.length ((wrapSpec xs).1.map u8) ∧ Below w.heap.size w W' := by
  unfold wrapSpec
  by_cases h : 65536 < xs.length
  · rw [if_pos h]
    exact (wrap_no v xs w hx h).mono fun e W' ⟨he, hw⟩ => ⟨_, he, World.ownsRow_nil _ _ _ _, hw ▸ Below.refl _ _⟩
  · rw [if_neg h]
    exact (wrap_ok v xs w hx (by omega)).mono fun e W' ⟨u, he, ho, hb⟩ => ⟨u, he, by rw [List.length_append, List.map_append]; exact ho, hb⟩

theorem unwrap_any (v : Value) (xs : List UInt8) (x y : Int) (w : World) (hx : Txt w w.heap.size v xs) :
    Calls Try.prog 11 #[v, .int .i64 x, .int .i64 y] w fun e W' => ∃ u, e = .returned (.tuple #[u, .int .i64 (unwrapSpec xs x y).2.1, .int .i64 (unwrapSpec xs x y).2.2]) ∧
      W'.ownsRow w.heap.size 5 1 u (unwrapSpec xs x y).1.length ((unwrapSpec xs x y).1.map u8) ∧ Below w.heap.size w W' := by
  unfold unwrapSpec
  by_cases h : x < 0 ∨ (xs.length : Int) < x ∨ y < 0 ∨ 65536 < y
  · rw [if_pos h]
    exact (unwrap_arg v xs x y w hx h).mono fun e W' ⟨he, hw⟩ => ⟨_, he, World.ownsRow_nil _ _ _ _, hw ▸ Below.refl _ _⟩
  · rw [if_neg h]
    obtain ⟨k, rfl⟩ : ∃ k : Nat, x = k := ⟨x.toNat, by omega⟩
    obtain ⟨z, rfl⟩ : ∃ z : Nat, y = z := ⟨y.toNat, by omega⟩
    by_cases h0 : (getSpec xs k).2.2 ≠ 0
    · rw [if_pos h0]
      have h8 : (getSpec xs k).2.2 = 8 ∧ (scan 0 0 ((xs.drop k).take 5)).2 = 0 := by
        unfold getSpec at h0 ⊢
        rw [if_neg (by omega)] at h0 ⊢
        rw [Int.toNat_natCast] at h0 ⊢
        by_cases hs : (scan 0 0 ((xs.drop k).take 5)).2 = 0
        · rw [if_pos hs]; exact ⟨rfl, hs⟩
        · rw [if_neg hs] at h0; exact absurd rfl h0
      rw [h8.1]
      exact (unwrap_bad0 v xs k z (scan 0 0 ((xs.drop k).take 5)).1 (scan 0 0 ((xs.drop k).take 5)).2 w hx (by omega) (by omega) rfl h8.2).mono fun e W' ⟨he, hb⟩ => ⟨_, he, World.ownsRow_nil _ _ _ _, hb⟩
    · rw [if_neg h0]
      obtain ⟨k', n, e1, h1, h2, h3, h4, h5⟩ := getSpec_ok (Decidable.not_not.1 h0)
      obtain rfl : k = k' := by omega
      have hp := bytesOf_length_pos n
      rw [h4]
      dsimp only
      by_cases hm : (z : Int) < n
      · rw [if_pos hm]
        exact (unwrap_more v xs k z n _ w hx (by omega) (by omega) h5 hp h1 (by omega) h2).mono fun e W' ⟨he, hb⟩ => ⟨_, he, World.ownsRow_nil _ _ _ _, hb⟩
      · rw [if_neg hm]
        by_cases hf : (xs.length : Int) < (k : Int) + ((bytesOf n).length : Int) + n
        · rw [if_pos hf]
          exact (unwrap_few v xs k z n _ w hx (by omega) (by omega) h5 hp h1 (by omega) (by omega)).mono fun e W' ⟨he, hb⟩ => ⟨_, he, World.ownsRow_nil _ _ _ _, hb⟩
        · rw [if_neg hf]
          have e2 : ((k : Int) + ((bytesOf n).length : Int)).toNat = k + (bytesOf n).length := by omega
          rw [e2, Int.toNat_natCast]
          refine (unwrap_ok v xs k z n _ w hx (by omega) (by omega) h5 hp (by omega) (by omega)).mono fun e W' ⟨u, he, ho, hb⟩ => ⟨u, he, ?_, hb⟩
          rw [List.length_take, List.length_drop, Nat.min_eq_left (by omega)]
          exact ho
end Go.Proofs.Ythlohfiidogiiaa
