/-
  What the program's Wrap and Unwrap answer: the bytes behind how many they are, the bytes that stand so wrapped, or an error.
  Conditions: the bytes can be read as a slice.
-/
import Derived.Test.YthlohfiidogiiaaGet
set_option linter.unusedVariables false
set_option linter.unusedSimpArgs false
namespace Go.Proofs.Ythlohfiidogiiaa
open Go.RowKit Go.Shelf

set_option maxHeartbeats 400000 in
theorem wrap_no (v : Value) (xs : List UInt8) (w : World) (hx : Txt w w.heap.size v xs) (h : 65536 < xs.length) :
    Calls Try.prog 10 #[v] w fun e W' => e = .returned (.tuple #[.slice none 0 0, .int .i64 4]) ∧ w = W' := by
  obtain ⟨A, cap, rfl, _, _, _, _⟩ := hx
  have h' : 65536 < (xs.length : Int) := by omega
  go_enter Try.func10, Try.ntmps10
  go_wp2
  go_ret2
  exact ⟨rfl, rfl⟩

set_option maxHeartbeats 400000 in
theorem wrap_ok (v : Value) (xs : List UInt8) (w : World) (hx : Txt w w.heap.size v xs) (h : xs.length ≤ 65536) :
    Calls Try.prog 10 #[v] w fun e W' => ∃ u, e = .returned (.tuple #[u, .int .i64 0]) ∧ W'.ownsRow w.heap.size 5 1 u ((bytesOf xs.length).length + xs.length) ((bytesOf xs.length).map u8 ++ xs.map u8) ∧ Below w.heap.size w W' := by
  obtain ⟨i0, hi, hz0, hz1, hz2⟩ := info_parts infoByte
  have hbl := bytesOf_length_le (n := xs.length) (by omega)
  have hp := put_ok xs.length (by omega) w
  have HP := Lib.hid hp
  have HX := Lib.hid hx
  obtain ⟨A, cap, rfl, _, _, _, _⟩ := hx
  clear hp
  generalize hbs : (bytesOf xs.length).length = m at *
  have h' : ¬ 65536 < (xs.length : Int) := by omega
  go_enter Try.func10, Try.ntmps10
  go_wp2_with (first
    | (go_at_call 13; go_must (refine HP.out.mono ?_; rintro e w' ⟨u, rfl, hown, hb⟩; have HO := Lib.hid hown; have HB := Lib.hid hb; clear hown hb))
    | (at_builtin; go_must (refine wpList_append_txt rfl (.tmp 15) (.tmp 16) _ rfl Try.underlying25 hi hz0 hz1 hz2 rfl HO.out rfl (HX.out.below HB.out) (by omega) HB.out.size ?_; intro v' w1 hown' hgrow; have HO2 := Lib.hid hown'; have HG : Hid (World.grownBy _ w1 u.ownBlock) := Lib.hid hgrow; clear hown' hgrow)))
  go_ret2
  refine ⟨_, rfl, HO2.out, HB.out.grown HG.out HB.out.size (fun k e => (HO.out.lt k e).1)⟩

/-- Unwrap refuses a bad place or a bad limit. -/
theorem unwrap_arg (v : Value) (xs : List UInt8) (x y : Int) (w : World) (hx : Txt w w.heap.size v xs) (h : x < 0 ∨ (xs.length : Int) < x ∨ y < 0 ∨ 65536 < y) :
    Calls Try.prog 11 #[v, .int .i64 x, .int .i64 y] w fun e W' => e = .returned (.tuple #[.slice none 0 0, .int .i64 0, .int .i64 2]) ∧ w = W' := by
  obtain ⟨A, cap, rfl, _, _, _, _⟩ := hx
  by_cases h1 : x < 0
  · have g1 : decide (x < 0) = true := decide_eq_true h1
    go_enter Try.func11, Try.ntmps11
    go_wp2
    go_ret3
    exact ⟨rfl, rfl⟩
  · have g1 : decide (x < 0) = false := decide_eq_false h1
    by_cases h2 : (xs.length : Int) < x
    · have g2 : decide ((xs.length : Int) < x) = true := decide_eq_true h2
      go_enter Try.func11, Try.ntmps11
      go_wp2
      go_ret3
      exact ⟨rfl, rfl⟩
    · have g2 : decide ((xs.length : Int) < x) = false := decide_eq_false h2
      by_cases h3 : y < 0
      · have g3 : decide (y < 0) = true := decide_eq_true h3
        go_enter Try.func11, Try.ntmps11
        go_wp2
        go_ret3
        exact ⟨rfl, rfl⟩
      · have g3 : decide (y < 0) = false := decide_eq_false h3
        have h4 : 65536 < y := by omega
        go_enter Try.func11, Try.ntmps11
        go_wp2
        go_ret3
        exact ⟨rfl, rfl⟩

set_option maxHeartbeats 1000000 in
/-- Unwrap hands on that there is no number. -/
theorem unwrap_bad0 (v : Value) (xs : List UInt8) (k y n s : Nat) (w : World) (hx : Txt w w.heap.size v xs) (h : k ≤ xs.length) (hy : y ≤ 65536) (hs : scan 0 0 ((xs.drop k).take 5) = (n, s)) (hz : s = 0) :
    Calls Try.prog 11 #[v, .int .i64 k, .int .i64 y] w fun e W' => e = .returned (.tuple #[.slice none 0 0, .int .i64 0, .int .i64 8]) ∧ Below w.heap.size w W' := by
  have hg := get_bad0 v xs k n s w hx h hs hz
  have HG := Lib.hid hg
  obtain ⟨A, cap, rfl, _, _, _, _⟩ := hx
  clear hg hs
  go_enter Try.func11, Try.ntmps11
  go_wp2_with (go_at_call 9; go_must (refine HG.out.mono ?_; rintro e w' ⟨rfl, hb⟩; have HB := Lib.hid hb; clear hb))
  go_ret3
  exact ⟨rfl, HB.out⟩

set_option maxHeartbeats 1000000 in
/-- More bytes than asked for, or more than there are. -/
theorem unwrap_more (v : Value) (xs : List UInt8) (k y n s : Nat) (w : World) (hx : Txt w w.heap.size v xs) (h : k ≤ xs.length) (hy : y ≤ 65536) (hs : scan 0 0 ((xs.drop k).take 5) = (n, s)) (hz : 0 < s) (hks : k + s ≤ xs.length) (hn : y < n) (hn2 : n ≤ 2147483647) :
    Calls Try.prog 11 #[v, .int .i64 k, .int .i64 y] w fun e W' => e = .returned (.tuple #[.slice none 0 0, .int .i64 0, .int .i64 4]) ∧ Below w.heap.size w W' := by
  have hg := get_ok v xs k n s w hx h hs hz hks
  have HG := Lib.hid hg
  obtain ⟨A, cap, rfl, _, _, _, _⟩ := hx
  clear hg hs
  go_enter Try.func11, Try.ntmps11
  go_wp2_with (go_at_call 9; go_must (refine HG.out.mono ?_; rintro e w' ⟨rfl, hb⟩; have HB := Lib.hid hb; clear hb))
  go_ret3
  exact ⟨rfl, HB.out⟩

set_option maxHeartbeats 1000000 in
theorem unwrap_few (v : Value) (xs : List UInt8) (k y n s : Nat) (w : World) (hx : Txt w w.heap.size v xs) (h : k ≤ xs.length) (hy : y ≤ 65536) (hs : scan 0 0 ((xs.drop k).take 5) = (n, s)) (hz : 0 < s) (hks : k + s ≤ xs.length) (hn : n ≤ y) (hn2 : xs.length < k + s + n) :
    Calls Try.prog 11 #[v, .int .i64 k, .int .i64 y] w fun e W' => e = .returned (.tuple #[.slice none 0 0, .int .i64 0, .int .i64 8]) ∧ Below w.heap.size w W' := by
  have hg := get_ok v xs k n s w hx h hs hz hks
  have HG := Lib.hid hg
  have hle := hx.le
  unfold maxLen at hle
  obtain ⟨A, cap, rfl, _, _, _, _⟩ := hx
  have hlt : (xs.length : Int) - ((k : Int) + s) < n := by omega
  clear hg hs
  go_enter Try.func11, Try.ntmps11
  go_wp2_with (go_at_call 9; go_must (refine HG.out.mono ?_; rintro e w' ⟨rfl, hb⟩; have HB := Lib.hid hb; clear hb))
  go_ret3
  exact ⟨rfl, HB.out⟩
end Go.Proofs.Ythlohfiidogiiaa
