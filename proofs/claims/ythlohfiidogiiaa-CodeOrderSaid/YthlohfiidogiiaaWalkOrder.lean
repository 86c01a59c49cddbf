/-
  The statement CodeOrder's text returns true: a greater number has at least as many bytes, and as many as its digits.
  Conditions: none.
-/
import Derived.Test.YthlohfiidogiiaaAny
set_option linter.unusedVariables false
set_option linter.unusedSimpArgs false
namespace Go.Proofs.Ythlohfiidogiiaa
open Go.RowKit Go.Shelf

theorem bytesOf_len (n : Nat) : (bytesOf n).length = if n < 128 then 1 else (bytesOf (n / 128)).length + 1 := by
  rw [bytesOf]; split <;> simp
theorem bytesOf_mono (a : Nat) : ∀ b, a ≤ b → (bytesOf a).length ≤ (bytesOf b).length := by
  induction a using Nat.strongRecOn with
  | _ a ih =>
    intro b h
    rw [bytesOf_len a, bytesOf_len b]
    by_cases ha : a < 128
    · rw [if_pos ha]; split <;> omega
    · rw [if_neg ha, if_neg (by omega)]
      have := ih (a / 128) (by omega) (b / 128) (by omega)
      omega

theorem own_slice {w : World} {base e n : Nat} {v : Value} {ys : List Value} (h : w.ownsRow base e 1 v n ys) : ∃ A c, v = .slice A n c := by
  rcases h.2 with ⟨rfl, rfl⟩ | ⟨g, cap, cur, rfl, _⟩
  · exact ⟨none, 0, rfl⟩
  · exact ⟨_, _, rfl⟩

set_option maxHeartbeats 400000 in
theorem walk_order_le (lo hi : Int) (hle : lo < hi) (w : World) :
    Calls Try.prog 7 #[.int .i64 lo, .int .i64 hi] w fun e w' => e = .returned (.bool true) ∧ Below w.heap.size w w' := by
  by_cases h1 : lo < 0 ∨ 2147483647 < lo
  · go_enter Try.func7, Try.ntmps7
    go_wp2_with fail
    refine (alive_true _).mono ?_
    rintro e w1 ⟨rfl, b1⟩
    have B1 := Lib.hid b1
    clear b1
    go_wp2_with fail
    refine (put_no lo h1 _).mono ?_
    rintro e w2 ⟨rfl, rfl⟩
    go_wp2_with fail
    refine (put_any hi _).mono ?_
    rintro e w3 ⟨u, rfl, ho, hb⟩
    have HB := Lib.hid hb
    clear hb ho
    generalize (putSpec hi).2 = ee
    go_wp2
    go_ret
    exact ⟨rfl, B1.out.trans (HB.out.mono B1.out.size)⟩
  · by_cases h2 : 2147483647 < hi
    · obtain ⟨a, rfl⟩ : ∃ a : Nat, lo = a := ⟨lo.toNat, by omega⟩
      go_enter Try.func7, Try.ntmps7
      go_wp2_with fail
      refine (alive_true _).mono ?_
      rintro e w1 ⟨rfl, b1⟩
      have B1 := Lib.hid b1
      clear b1
      go_wp2_with fail
      refine (put_ok a (by omega) _).mono ?_
      rintro e w2 ⟨u, rfl, ho, hb⟩
      have HB := Lib.hid hb
      clear hb ho
      go_wp2_with fail
      refine (put_no hi (by omega) _).mono ?_
      rintro e w3 ⟨rfl, rfl⟩
      go_wp2
      go_ret
      exact ⟨rfl, B1.out.trans (HB.out.mono B1.out.size)⟩
    · obtain ⟨a, rfl⟩ : ∃ a : Nat, lo = a := ⟨lo.toNat, by omega⟩
      obtain ⟨b, rfl⟩ : ∃ b : Nat, hi = b := ⟨hi.toNat, by omega⟩
      have hmono := bytesOf_mono a b (by omega)
      have hl5 := bytesOf_length_le (n := b) (by omega)
      have hla := bytesOf_length_le (n := a) (by omega)
      generalize hL : (bytesOf a).length = la at *
      generalize hM : (bytesOf b).length = lb at *
      have HL := Lib.hid hL
      have HM := Lib.hid hM
      clear hL hM
      go_enter Try.func7, Try.ntmps7
      go_wp2_with fail
      refine (alive_true _).mono ?_
      rintro e w1 ⟨rfl, b1⟩
      have B1 := Lib.hid b1
      clear b1
      go_wp2_with fail
      refine (put_ok a (by omega) _).mono ?_
      rintro e w2 ⟨u, rfl, ho, hb⟩
      rw [HL.out] at ho
      obtain ⟨A1, c1, rfl⟩ := own_slice ho
      have HB := Lib.hid hb
      clear hb ho
      go_wp2_with fail
      refine (put_ok b (by omega) _).mono ?_
      rintro e w3 ⟨u, rfl, ho, hb⟩
      rw [HM.out] at ho
      obtain ⟨A2, c2, rfl⟩ := own_slice ho
      have HC := Lib.hid hb
      clear hb ho
      go_wp2
      go_loop [10, 11] (fun c k => ∃ (j q : Nat), c = .int .i64 j ∧ k = .int .i64 q ∧ 1 ≤ j ∧ q ≤ b ∧ j + (bytesOf q).length = lb + 1) (fun _ k => (intOf k).toNat)
      case atStart => exact ⟨1, b, rfl, rfl, by omega, by omega, by rw [HM.out]; omega⟩
      case round =>
        obtain ⟨j, q, rfl, rfl, hj, hq, hr⟩ := hrel
        have HR := Lib.hid hr
        have hpos := bytesOf_length_pos q
        have hjl : j ≤ lb := by omega
        clear hr hpos
        by_cases hlt : q < 128
        · have hjb : j = lb := by have := HR.out; rw [bytesOf_len, if_pos hlt] at this; omega
          subst hjb
          have hq2 : ¬ (128 : Int) ≤ q := by omega
          go_wp2
          go_ret
          exact ⟨rfl, (B1.out.trans (HB.out.mono B1.out.size)).trans (HC.out.mono (Nat.le_trans B1.out.size HB.out.size))⟩
        · have hq2 : (128 : Int) ≤ q := by omega
          go_wp2
          go_round
          case rel => exact ⟨j + 1, q / 128, by go_num, by go_num, by omega, by omega, by have := HR.out; rw [bytesOf_len, if_neg hlt] at this; omega⟩
          case measure => simp [intOf]; omega
set_option maxHeartbeats 400000 in
theorem walk_order_gt (lo hi : Int) (hle : lo < hi) (w : World) :
    Calls Try.prog 7 #[.int .i64 hi, .int .i64 lo] w fun e w' => e = .returned (.bool true) ∧ Below w.heap.size w w' := by
  by_cases h1 : lo < 0 ∨ 2147483647 < lo
  · go_enter Try.func7, Try.ntmps7
    go_wp2_with fail
    refine (alive_true _).mono ?_
    rintro e w1 ⟨rfl, b1⟩
    have B1 := Lib.hid b1
    clear b1
    go_wp2_with fail
    refine (put_no lo h1 _).mono ?_
    rintro e w2 ⟨rfl, rfl⟩
    go_wp2_with fail
    refine (put_any hi _).mono ?_
    rintro e w3 ⟨u, rfl, ho, hb⟩
    have HB := Lib.hid hb
    clear hb ho
    generalize (putSpec hi).2 = ee
    go_wp2
    go_ret
    exact ⟨rfl, B1.out.trans (HB.out.mono B1.out.size)⟩
  · by_cases h2 : 2147483647 < hi
    · obtain ⟨a, rfl⟩ : ∃ a : Nat, lo = a := ⟨lo.toNat, by omega⟩
      go_enter Try.func7, Try.ntmps7
      go_wp2_with fail
      refine (alive_true _).mono ?_
      rintro e w1 ⟨rfl, b1⟩
      have B1 := Lib.hid b1
      clear b1
      go_wp2_with fail
      refine (put_ok a (by omega) _).mono ?_
      rintro e w2 ⟨u, rfl, ho, hb⟩
      have HB := Lib.hid hb
      clear hb ho
      go_wp2_with fail
      refine (put_no hi (by omega) _).mono ?_
      rintro e w3 ⟨rfl, rfl⟩
      go_wp2
      go_ret
      exact ⟨rfl, B1.out.trans (HB.out.mono B1.out.size)⟩
    · obtain ⟨a, rfl⟩ : ∃ a : Nat, lo = a := ⟨lo.toNat, by omega⟩
      obtain ⟨b, rfl⟩ : ∃ b : Nat, hi = b := ⟨hi.toNat, by omega⟩
      have hmono := bytesOf_mono a b (by omega)
      have hl5 := bytesOf_length_le (n := b) (by omega)
      have hla := bytesOf_length_le (n := a) (by omega)
      generalize hL : (bytesOf a).length = la at *
      generalize hM : (bytesOf b).length = lb at *
      have HL := Lib.hid hL
      have HM := Lib.hid hM
      clear hL hM
      go_enter Try.func7, Try.ntmps7
      go_wp2_with fail
      refine (alive_true _).mono ?_
      rintro e w1 ⟨rfl, b1⟩
      have B1 := Lib.hid b1
      clear b1
      go_wp2_with fail
      refine (put_ok a (by omega) _).mono ?_
      rintro e w2 ⟨u, rfl, ho, hb⟩
      rw [HL.out] at ho
      obtain ⟨A1, c1, rfl⟩ := own_slice ho
      have HB := Lib.hid hb
      clear hb ho
      go_wp2_with fail
      refine (put_ok b (by omega) _).mono ?_
      rintro e w3 ⟨u, rfl, ho, hb⟩
      rw [HM.out] at ho
      obtain ⟨A2, c2, rfl⟩ := own_slice ho
      have HC := Lib.hid hb
      clear hb ho
      go_wp2
      go_loop [10, 11] (fun c k => ∃ (j q : Nat), c = .int .i64 j ∧ k = .int .i64 q ∧ 1 ≤ j ∧ q ≤ b ∧ j + (bytesOf q).length = lb + 1) (fun _ k => (intOf k).toNat)
      case atStart => exact ⟨1, b, rfl, rfl, by omega, by omega, by rw [HM.out]; omega⟩
      case round =>
        obtain ⟨j, q, rfl, rfl, hj, hq, hr⟩ := hrel
        have HR := Lib.hid hr
        have hpos := bytesOf_length_pos q
        have hjl : j ≤ lb := by omega
        clear hr hpos
        by_cases hlt : q < 128
        · have hjb : j = lb := by have := HR.out; rw [bytesOf_len, if_pos hlt] at this; omega
          subst hjb
          have hq2 : ¬ (128 : Int) ≤ q := by omega
          go_wp2
          go_ret
          exact ⟨rfl, (B1.out.trans (HB.out.mono B1.out.size)).trans (HC.out.mono (Nat.le_trans B1.out.size HB.out.size))⟩
        · have hq2 : (128 : Int) ≤ q := by omega
          go_wp2
          go_round
          case rel => exact ⟨j + 1, q / 128, by go_num, by go_num, by omega, by omega, by have := HR.out; rw [bytesOf_len, if_neg hlt] at this; omega⟩
          case measure => simp [intOf]; omega

set_option maxHeartbeats 400000 in
theorem walk_order_eq (lo : Int) (w : World) :
    Calls Try.prog 7 #[.int .i64 lo, .int .i64 lo] w fun e w' => e = .returned (.bool true) ∧ Below w.heap.size w w' := by
  by_cases h1 : lo < 0 ∨ 2147483647 < lo
  · go_enter Try.func7, Try.ntmps7
    go_wp2_with fail
    refine (alive_true _).mono ?_
    rintro e w1 ⟨rfl, b1⟩
    have B1 := Lib.hid b1
    clear b1
    go_wp2_with fail
    refine (put_no lo h1 _).mono ?_
    rintro e w2 ⟨rfl, rfl⟩
    go_wp2_with fail
    refine (put_any lo _).mono ?_
    rintro e w3 ⟨u, rfl, ho, hb⟩
    have HB := Lib.hid hb
    clear hb ho
    generalize (putSpec lo).2 = ee
    go_wp2
    go_ret
    exact ⟨rfl, B1.out.trans (HB.out.mono B1.out.size)⟩
  · by_cases h2 : 2147483647 < lo
    · exfalso; omega
    · obtain ⟨a, rfl⟩ : ∃ a : Nat, lo = a := ⟨lo.toNat, by omega⟩
      have hla := bytesOf_length_le (n := a) (by omega)
      generalize hL : (bytesOf a).length = la at *
      have HL := Lib.hid hL
      clear hL
      go_enter Try.func7, Try.ntmps7
      go_wp2_with fail
      refine (alive_true _).mono ?_
      rintro e w1 ⟨rfl, b1⟩
      have B1 := Lib.hid b1
      clear b1
      go_wp2_with fail
      refine (put_ok a (by omega) _).mono ?_
      rintro e w2 ⟨u, rfl, ho, hb⟩
      rw [HL.out] at ho
      obtain ⟨A1, c1, rfl⟩ := own_slice ho
      have HB := Lib.hid hb
      clear hb ho
      go_wp2_with fail
      refine (put_ok a (by omega) _).mono ?_
      rintro e w3 ⟨u, rfl, ho, hb⟩
      rw [HL.out] at ho
      obtain ⟨A2, c2, rfl⟩ := own_slice ho
      have HC := Lib.hid hb
      clear hb ho
      go_wp2
      go_loop [10, 11] (fun c k => ∃ (j q : Nat), c = .int .i64 j ∧ k = .int .i64 q ∧ 1 ≤ j ∧ q ≤ a ∧ j + (bytesOf q).length = la + 1) (fun _ k => (intOf k).toNat)
      case atStart => exact ⟨1, a, rfl, rfl, by omega, by omega, by rw [HL.out]; omega⟩
      case round =>
        obtain ⟨j, q, rfl, rfl, hj, hq, hr⟩ := hrel
        have HR := Lib.hid hr
        have hpos := bytesOf_length_pos q
        have hjl : j ≤ la := by omega
        clear hr hpos
        by_cases hlt : q < 128
        · have hjb : j = la := by have := HR.out; rw [bytesOf_len, if_pos hlt] at this; omega
          subst hjb
          have hq2 : ¬ (128 : Int) ≤ q := by omega
          go_wp2
          go_ret
          exact ⟨rfl, (B1.out.trans (HB.out.mono B1.out.size)).trans (HC.out.mono (Nat.le_trans B1.out.size HB.out.size))⟩
        · have hq2 : (128 : Int) ≤ q := by omega
          go_wp2
          go_round
          case rel => exact ⟨j + 1, q / 128, by go_num, by go_num, by omega, by omega, by have := HR.out; rw [bytesOf_len, if_neg hlt] at this; omega⟩
          case measure => simp [intOf]; omega
theorem walk_order (n m : Int) (w : World) : Calls Try.prog 7 #[.int .i64 n, .int .i64 m] w fun e w' => e = .returned (.bool true) ∧ Below w.heap.size w w' := by
  by_cases h : n < m
  · exact walk_order_le n m h w
  · by_cases h2 : m < n
    · exact walk_order_gt m n h2 w
    · obtain rfl : n = m := by omega
      exact walk_order_eq n w
end Go.Proofs.Ythlohfiidogiiaa
