/-
  The statements' own first check, that the chapter's first examples hold, comes out true; and what a text of bytes is as a string.
  Conditions: none.
-/
import Derived.Test.YthlohfiidogiiaaUnwrap
import Derived.Laws.BytesString
import Derived.Laws.IdiomStrings
set_option linter.unusedVariables false
set_option linter.unusedSimpArgs false
namespace Go.Proofs.Ythlohfiidogiiaa
open Go.RowKit Go.Shelf

/-- A text as a string. -/
theorem run_txt_string {W : World} {B : Nat} {v : Value} {xs : List UInt8} (h : Txt W B v xs) : (convert 25 9 v).run Try.prog W = .ok (.string ⟨xs.toArray⟩) W := by
  obtain ⟨A, cap, rfl, _, _, hn, _⟩ := id h
  cases A with
  | none =>
    obtain rfl := hn rfl
    have hl : xs.length = 0 := by obtain ⟨_, _, e, h1, _⟩ := h; cases e; omega
    obtain rfl : xs = [] := List.eq_nil_of_length_eq_zero hl
    rw [run_convert_bytes_string W _ _ 5 none _ 0 Try.underlying25 Try.underlying5 Try.underlying9]
    rfl
  | some a =>
    refine run_convert_bytes_back W _ _ 5 a cap xs Try.underlying25 Try.underlying5 Try.underlying9 (fun j hj => ?_)
    exact h.cells j _ (by rw [List.getElem?_map, List.getElem?_eq_getElem hj]; rfl)

theorem bytesOf_127 : bytesOf 127 = [127] := by simp [bytesOf]
theorem bytesOf_300 : bytesOf 300 = [172, 2] := by simp [bytesOf]

theorem put_127 (w : World) : Calls Try.prog 13 #[.int .i64 127] w fun e W' => ∃ v, e = .returned (.tuple #[v, .int .i64 0]) ∧ Txt W' W'.heap.size v [127] ∧ Below w.heap.size w W' :=
  (put_ok 127 (by omega) w).mono fun e W' ⟨v, he, ho, hb⟩ => ⟨v, he, by rw [bytesOf_127] at ho; exact Txt.own (by simp [maxLen]) ho, hb⟩
theorem put_300 (w : World) : Calls Try.prog 13 #[.int .i64 300] w fun e W' => ∃ v, e = .returned (.tuple #[v, .int .i64 0]) ∧ Txt W' W'.heap.size v [172, 2] ∧ Below w.heap.size w W' :=
  (put_ok 300 (by omega) w).mono fun e W' ⟨v, he, ho, hb⟩ => ⟨v, he, by rw [bytesOf_300] at ho; exact Txt.own (by simp [maxLen]) ho, hb⟩

set_option maxHeartbeats 400000 in
theorem alive_true (w : World) : Calls Try.prog 12 #[] w fun e W' => e = .returned (.bool true) ∧ Below w.heap.size w W' := by
  have hno := fun w' => put_no (-1) (by omega) w'
  have HN := Lib.hid hno
  clear hno
  go_enter Try.func12, Try.ntmps12
  go_wp2_with fail
  refine (put_127 _).mono ?_
  rintro e w1 ⟨v1, rfl, h1, b1⟩
  have H1 := Lib.hid h1
  have B1 := Lib.hid b1
  clear h1 b1
  go_wp2_with fail
  refine (put_300 _).mono ?_
  rintro e w2 ⟨v2, rfl, h2, b2⟩
  have H2 := Lib.hid h2
  have B2 := Lib.hid b2
  clear h2 b2
  go_wp2_with fail
  refine (HN.out _).mono ?_
  rintro e w3 ⟨rfl, rfl⟩
  have r1 := run_txt_string (H1.out.below B2.out)
  have r2 := run_txt_string H2.out
  go_wp2
  go_ret
  exact ⟨rfl, B1.out.trans (B2.out.mono B1.out.size)⟩
end Go.Proofs.Ythlohfiidogiiaa
