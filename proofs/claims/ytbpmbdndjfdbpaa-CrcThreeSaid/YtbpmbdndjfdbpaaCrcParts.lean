/-
  The statement CrcParts' text returns true: a check sum goes on over parts, and the same bytes behind turn unlike ones into unlike ones.
  Conditions: none.
-/
import Derived.Test.YtbpmbdndjfdbpaaCrcOver
import Derived.Maps.AppendAt
set_option linter.unusedVariables false
set_option linter.unusedSimpArgs false
namespace Go.Proofs.Ytbpmbdndjfdbpaa
open Go.RowKit

set_option maxHeartbeats 400000 in
theorem parts_long (v0 v1 v2 : Value) (xs0 xs1 xs2 : List UInt8) (w : World) (h0 : Txt w w.heap.size v0 xs0) (h1 : Txt w w.heap.size v1 xs1) (h2 : Txt w w.heap.size v2 xs2) (h : 5000 < xs0.length ∨ 5000 < xs1.length ∨ 5000 < xs2.length) :
    Calls Try.prog 6 #[v0, v1, v2] w fun e w' => e = .returned (.bool true) ∧ Below w.heap.size w w' := by
  obtain ⟨A0, cap0, rfl, -, -, -, -⟩ := h0
  obtain ⟨A1, cap1, rfl, -, -, -, -⟩ := h1
  obtain ⟨A2, cap2, rfl, -, -, -, -⟩ := h2
  by_cases g0 : 5000 < xs0.length
  · have g0' : decide ((5000 : Int) < xs0.length) = true := decide_eq_true (by omega)
    go_enter Try.func6, Try.ntmps6
    go_wp2_with fail
    refine (alive_true _).mono ?_
    rintro e w1 ⟨rfl, b⟩
    have B1 := Lib.hid b
    clear b
    go_wp2
    go_ret
    exact ⟨rfl, B1.out⟩
  · have g0' : decide ((5000 : Int) < xs0.length) = false := decide_eq_false (by omega)
    by_cases g1 : 5000 < xs1.length
    · have g1' : decide ((5000 : Int) < xs1.length) = true := decide_eq_true (by omega)
      go_enter Try.func6, Try.ntmps6
      go_wp2_with fail
      refine (alive_true _).mono ?_
      rintro e w1 ⟨rfl, b⟩
      have B1 := Lib.hid b
      clear b
      go_wp2
      go_ret
      exact ⟨rfl, B1.out⟩
    · have g1' : decide ((5000 : Int) < xs1.length) = false := decide_eq_false (by omega)
      have g2' : decide ((5000 : Int) < xs2.length) = true := decide_eq_true (by omega)
      go_enter Try.func6, Try.ntmps6
      go_wp2_with fail
      refine (alive_true _).mono ?_
      rintro e w1 ⟨rfl, b⟩
      have B1 := Lib.hid b
      clear b
      go_wp2
      go_ret
      exact ⟨rfl, B1.out⟩

theorem same_word {p q x y : Nat} (h : p = q ↔ x = y) : (((p : Int) == q) == ((x : Int) == y)) = true := by
  have e : (p : Int) = q ↔ (x : Int) = y := by rw [Int.natCast_inj, Int.natCast_inj]; exact h
  show (decide ((p : Int) = q) == decide ((x : Int) = y)) = true
  by_cases hx : (x : Int) = y
  · rw [decide_eq_true hx, decide_eq_true (e.2 hx)]; rfl
  · rw [decide_eq_false hx, decide_eq_false fun hp => hx (e.1 hp)]; rfl

set_option maxHeartbeats 2000000 in
theorem parts_all (v0 v1 v2 : Value) (xs0 xs1 xs2 : List UInt8) (w : World) (h0 : Txt w w.heap.size v0 xs0) (h1 : Txt w w.heap.size v1 xs1) (h2 : Txt w w.heap.size v2 xs2) (g0 : xs0.length ≤ 5000) (g1 : xs1.length ≤ 5000) (g2 : xs2.length ≤ 5000) :
    Calls Try.prog 6 #[v0, v1, v2] w fun e w' => e = .returned (.bool true) ∧ Below w.heap.size w w' := by
  have H0 := Lib.hid h0
  have H1 := Lib.hid h1
  have H2 := Lib.hid h2
  have g0' : decide ((5000 : Int) < xs0.length) = false := decide_eq_false (by omega)
  have g1' : decide ((5000 : Int) < xs1.length) = false := decide_eq_false (by omega)
  have g2' : decide ((5000 : Int) < xs2.length) = false := decide_eq_false (by omega)
  obtain ⟨A0, cap0, rfl, -, -, -, -⟩ := h0
  obtain ⟨A1, cap1, rfl, -, -, -, -⟩ := h1
  obtain ⟨A2, cap2, rfl, -, -, -, -⟩ := h2
  obtain ⟨i0, hi, hz0, hz1, hz2⟩ := info_parts infoByte
  go_enter Try.func6, Try.ntmps6
  go_wp2_with fail
  refine (alive_true _).mono ?_
  rintro e w1 ⟨rfl, b⟩
  have B1 := Lib.hid b
  clear b
  go_wp2_with fail
  refine (of_any _ xs0 _ ((H0.out.below B1.out).more B1.out.size)).mono ?_
  rintro e w2 ⟨rfl, b⟩
  have B2 := Lib.hid (B1.out.trans (b.mono B1.out.size))
  clear b
  go_wp2_with fail
  refine (of_any _ xs1 _ ((H1.out.below B2.out).more B2.out.size)).mono ?_
  rintro e w3 ⟨rfl, b⟩
  have B3 := Lib.hid (B2.out.trans (b.mono B2.out.size))
  clear b
  have bnil : ∀ (j : Nat), (Value.slice none 0 0).ownBlock = some j → w3.heap.size ≤ j := fun j e => by cases e
  go_wp2_with (first
    | (go_at_call 9; fail)
    | (at_builtin; refine wpList_append_txt (o := ⟨some 36, _, _, _, _, _⟩) rfl (.tmp 34) (.tmp 35) _ rfl Try.underlying25 hi hz0 hz1 hz2 rfl (World.ownsRow_nil _ w3.heap.size 5 1) rfl (H0.out.below B3.out) (by omega) (Nat.le_refl _) ?_; intro v4 w4 hown4 hgrow4; have b4 := (Below.refl w3.heap.size w3).grown hgrow4 (Nat.le_refl _) bnil; have B4 := Lib.hid b4; have bs4 := b4.size; have O4 := Lib.hid hown4; clear b4 hown4 hgrow4)
    | (at_builtin; refine wpList_append_txt (o := ⟨some 39, _, _, _, _, _⟩) rfl (.tmp 37) (.tmp 38) _ rfl Try.underlying25 hi hz0 hz1 hz2 rfl O4.out rfl (((H2.out.below B3.out).more B3.out.size).below B4.out) (by omega) bs4 ?_; intro v5 w5 hown5 hgrow5; have hg5 : World.grownBy _ w5 v4.ownBlock := hgrow5; have b5 := B4.out.grown hg5 bs4 (fun j e => (O4.out.lt j e).1); have B5 := Lib.hid b5; have bs5 := b5.size; have O5 := Lib.hid hown5; clear b5 hown5 hgrow5 hg5))
  have hall : Txt w5 w5.heap.size v5 (xs0 ++ xs2) := by
    have ho := O5.out
    have e1 : 0 + xs0.length + xs2.length = (xs0 ++ xs2).length := by simp only [List.length_append]; omega
    have e2 : [] ++ xs0.map u8 ++ xs2.map u8 = (xs0 ++ xs2).map u8 := by simp
    rw [e1, e2] at ho
    refine Txt.own ?_ ho
    rw [← e1]
    unfold maxLen
    omega
  have C5 := Lib.hid (B3.out.trans (B5.out.mono B3.out.size))
  have HA := Lib.hid hall
  clear hall
  refine (of_any _ _ _ HA.out).mono ?_
  rintro e w6 ⟨rfl, b⟩
  have C6 := Lib.hid (C5.out.trans (b.mono C5.out.size))
  clear b
  have hx := over_lt (s := 0) (by omega) xs0
  have hy := over_lt (s := 0) (by omega) xs1
  have hinj := over_inj hx hy xs2
  have hoo := over_over 0 xs0 xs2
  generalize over 0 xs0 = x at *
  generalize over 0 xs1 = y at *
  rw [← hoo]
  have HI := Lib.hid hinj
  clear hinj hoo
  go_wp2_with fail
  refine (over_any x hx _ xs2 _ ((H2.out.below C6.out).more C6.out.size)).mono ?_
  rintro e w7 ⟨rfl, b⟩
  have C7 := Lib.hid (C6.out.trans (b.mono C6.out.size))
  clear b
  go_wp2_with fail
  refine (over_any x hx _ xs2 _ ((H2.out.below C7.out).more C7.out.size)).mono ?_
  rintro e w8 ⟨rfl, b⟩
  have C8 := Lib.hid (C7.out.trans (b.mono C7.out.size))
  clear b
  go_wp2_with fail
  refine (over_any y hy _ xs2 _ ((H2.out.below C8.out).more C8.out.size)).mono ?_
  rintro e w9 ⟨rfl, b⟩
  have C9 := Lib.hid (C8.out.trans (b.mono C8.out.size))
  clear b
  generalize over x xs2 = p at *
  generalize over y xs2 = q at *
  have hd := same_word HI.out
  go_wp2
  go_ret
  exact ⟨rfl, C9.out⟩
theorem walk_parts (v0 v1 v2 : Value) (xs0 xs1 xs2 : List UInt8) (w : World) (h0 : Txt w w.heap.size v0 xs0) (h1 : Txt w w.heap.size v1 xs1) (h2 : Txt w w.heap.size v2 xs2) :
    Calls Try.prog 6 #[v0, v1, v2] w fun e w' => e = .returned (.bool true) ∧ Below w.heap.size w w' := by
  by_cases h : 5000 < xs0.length ∨ 5000 < xs1.length ∨ 5000 < xs2.length
  · exact parts_long v0 v1 v2 xs0 xs1 xs2 w h0 h1 h2 h
  · exact parts_all v0 v1 v2 xs0 xs1 xs2 w h0 h1 h2 (by omega) (by omega) (by omega)
end Go.Proofs.Ytbpmbdndjfdbpaa
