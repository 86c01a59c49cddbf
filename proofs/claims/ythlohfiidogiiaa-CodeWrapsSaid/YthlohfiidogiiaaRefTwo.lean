/-
  The document's own Put, Wrap and Unwrap, as the statements' package computes them, answer what the plain functions say.
  Conditions: the bytes can be read as a slice.
-/
import Derived.Test.YthlohfiidogiiaaRef
import Derived.Test.YthlohfiidogiiaaVal
set_option linter.unusedVariables false
set_option linter.unusedSimpArgs false
namespace Go.Proofs.Ythlohfiidogiiaa
open Go.RowKit Go.Shelf

theorem rbytes_any (N : Nat) (w : World) (hN : N ≤ 34359738368) : Calls Try.prog 20 #[.int .i64 N] w fun e W' => ∃ u, e = .returned u ∧ W'.ownsRow w.heap.size 5 1 u (bytesOf N).length ((bytesOf N).map u8) ∧ Below w.heap.size w W' :=
  rbytes_ok (N + 1) N w (Nat.lt_succ_self N) hN

set_option maxHeartbeats 400000 in
theorem rput_any (x : Int) (w : World) : Calls Try.prog 14 #[.int .i64 x] w fun e W' => ∃ u, e = .returned (.tuple #[u, .int .i64 (putSpec x).2]) ∧ W'.ownsRow w.heap.size 5 1 u (putSpec x).1.length ((putSpec x).1.map u8) ∧ Below w.heap.size w W' := by
  unfold putSpec
  by_cases h : x < 0 ∨ 2147483647 < x
  · rw [if_pos h]
    by_cases h1 : x < 0
    · have g1 : decide (x < 0) = true := decide_eq_true h1
      go_enter Try.func14, Try.ntmps14
      go_wp2
      go_ret2
      exact ⟨_, rfl, World.ownsRow_nil _ _ _ _, Below.refl _ _⟩
    · have g1 : decide (x < 0) = false := decide_eq_false h1
      have h2 : 2147483647 < x := by omega
      go_enter Try.func14, Try.ntmps14
      go_wp2
      go_ret2
      exact ⟨_, rfl, World.ownsRow_nil _ _ _ _, Below.refl _ _⟩
  · rw [if_neg h]
    obtain ⟨n, rfl⟩ : ∃ n : Nat, x = n := ⟨x.toNat, by omega⟩
    have g1 : decide ((n : Int) < 0) = false := decide_eq_false (by omega)
    have h2 : ¬ 2147483647 < (n : Int) := by omega
    have HB := Lib.hid (fun w' => rbytes_any n w' (by omega))
    rw [Int.toNat_natCast]
    clear h
    go_enter Try.func14, Try.ntmps14
    go_wp2_with fail
    refine (HB.out _).mono ?_
    rintro e w1 ⟨u, rfl, ho, hb⟩
    have HO := Lib.hid ho
    have HBl := Lib.hid hb
    clear ho hb
    go_wp2
    go_ret2
    exact ⟨_, rfl, HO.out, HBl.out⟩

set_option maxHeartbeats 400000 in
theorem rwrapped_ok (v : Value) (xs : List UInt8) (w : World) (hx : Txt w w.heap.size v xs) (h : xs.length ≤ 65536) :
    Calls Try.prog 21 #[v] w fun e W' => ∃ u, e = .returned u ∧ W'.ownsRow w.heap.size 5 1 u ((bytesOf xs.length).length + xs.length) ((bytesOf xs.length).map u8 ++ xs.map u8) ∧ Below w.heap.size w W' := by
  obtain ⟨i0, hi, hz0, hz1, hz2⟩ := info_parts infoByte
  have hbl := bytesOf_length_le (n := xs.length) (by omega)
  have HP := Lib.hid (rbytes_any xs.length w (by omega))
  have HX := Lib.hid hx
  obtain ⟨A, cap, rfl, _, _, _, _⟩ := hx
  generalize hbs : (bytesOf xs.length).length = m at *
  clear hbs
  go_enter Try.func21, Try.ntmps21
  go_wp2_with (first
    | (go_at_call 20; go_must (refine HP.out.mono ?_; rintro e w' ⟨u, rfl, hown, hb⟩; have HO := Lib.hid hown; have HB := Lib.hid hb; clear hown hb))
    | (at_builtin; go_must (refine wpList_append_txt (o := ⟨some 7, _, _, _, _, _⟩) rfl (.tmp 5) (.tmp 6) _ rfl Try.underlying25 hi hz0 hz1 hz2 rfl HO.out rfl (HX.out.below HB.out) (by omega) HB.out.size ?_; intro v' w1 hown' hgrow; have HO2 := Lib.hid hown'; have HG : Hid (World.grownBy _ w1 u.ownBlock) := Lib.hid hgrow; clear hown' hgrow)))
  go_ret
  refine ⟨_, rfl, HO2.out, HB.out.grown HG.out HB.out.size (fun k e => (HO.out.lt k e).1)⟩

set_option maxHeartbeats 400000 in
theorem rwrap_any (v : Value) (xs : List UInt8) (w : World) (hx : Txt w w.heap.size v xs) :
    Calls Try.prog 16 #[v] w fun e W' => ∃ u, e = .returned (.tuple #[u, .int .i64 (wrapSpec xs).2]) ∧ W'.ownsRow w.heap.size 5 1 u (wrapSpec xs).1.length ((wrapSpec xs).1.map u8) ∧ Below w.heap.size w W' := by
  by_cases h : 65536 < xs.length
  · rw [wrapSpec_no h]
    obtain ⟨A, cap, rfl, _, _, _, _⟩ := hx
    have h' : 65536 < (xs.length : Int) := by omega
    go_enter Try.func16, Try.ntmps16
    go_wp2
    go_ret2
    exact ⟨_, rfl, World.ownsRow_nil _ _ _ _, Below.refl _ _⟩
  · rw [wrapSpec_ok (by omega), List.length_append, List.map_append]
    have HW := Lib.hid (rwrapped_ok v xs w hx (by omega))
    obtain ⟨A, cap, rfl, _, _, _, _⟩ := hx
    have h' : ¬ 65536 < (xs.length : Int) := by omega
    go_enter Try.func16, Try.ntmps16
    go_wp2_with fail
    refine HW.out.mono ?_
    rintro e w1 ⟨u, rfl, ho, hb⟩
    have HO := Lib.hid ho
    have HBl := Lib.hid hb
    clear ho hb
    go_wp2
    go_ret2
    exact ⟨_, rfl, HO.out, HBl.out⟩
end Go.Proofs.Ythlohfiidogiiaa
