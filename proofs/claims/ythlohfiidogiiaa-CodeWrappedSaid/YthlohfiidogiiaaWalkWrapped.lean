/-
  The statement CodeWrapped's text returns true: what is wrapped is unwrapped, whatever stands around it, and nothing else is.
  Conditions: none.
-/
import Derived.Test.YthlohfiidogiiaaWalkBack
import Derived.Test.YthlohfiidogiiaaSpecTwo
set_option linter.unusedVariables false
set_option linter.unusedSimpArgs false
namespace Go.Proofs.Ythlohfiidogiiaa
open Go.RowKit Go.Shelf

set_option maxHeartbeats 400000 in
theorem wrapped_long (v0 v1 v2 : Value) (xs0 xs1 xs2 : List UInt8) (x y : Int) (w : World) (h0 : Txt w w.heap.size v0 xs0) (h1 : Txt w w.heap.size v1 xs1) (h2 : Txt w w.heap.size v2 xs2) (h : 70000 < xs0.length ∨ 1000 < xs1.length ∨ 1000 < xs2.length) :
    Calls Try.prog 8 #[v0, v1, v2, .int .i64 x, .int .i64 y] w fun e w' => e = .returned (.bool true) ∧ Below w.heap.size w w' := by
  by_cases g0 : 70000 < xs0.length
  · have g0' : decide ((70000 : Int) < xs0.length) = true := decide_eq_true (by omega)
    obtain ⟨A0, cap0, rfl, _, _, _, _⟩ := h0
    obtain ⟨A1, cap1, rfl, _, _, _, _⟩ := h1
    obtain ⟨A2, cap2, rfl, _, _, _, _⟩ := h2
    go_enter Try.func8, Try.ntmps8
    go_wp2_with fail
    refine (alive_true _).mono ?_
    rintro e w1 ⟨rfl, b⟩
    have B1 := Lib.hid b
    clear b
    go_wp2
    go_ret
    exact ⟨rfl, B1.out⟩
  · have g0' : decide ((70000 : Int) < xs0.length) = false := decide_eq_false (by omega)
    by_cases g1 : 1000 < xs1.length
    · have g1' : decide ((1000 : Int) < xs1.length) = true := decide_eq_true (by omega)
      obtain ⟨A0, cap0, rfl, _, _, _, _⟩ := h0
      obtain ⟨A1, cap1, rfl, _, _, _, _⟩ := h1
      obtain ⟨A2, cap2, rfl, _, _, _, _⟩ := h2
      go_enter Try.func8, Try.ntmps8
      go_wp2_with fail
      refine (alive_true _).mono ?_
      rintro e w1 ⟨rfl, b⟩
      have B1 := Lib.hid b
      clear b
      go_wp2
      go_ret
      exact ⟨rfl, B1.out⟩
    · have g1' : decide ((1000 : Int) < xs1.length) = false := decide_eq_false (by omega)
      have g2' : decide ((1000 : Int) < xs2.length) = true := decide_eq_true (by omega)
      obtain ⟨A0, cap0, rfl, _, _, _, _⟩ := h0
      obtain ⟨A1, cap1, rfl, _, _, _, _⟩ := h1
      obtain ⟨A2, cap2, rfl, _, _, _, _⟩ := h2
      go_enter Try.func8, Try.ntmps8
      go_wp2_with fail
      refine (alive_true _).mono ?_
      rintro e w1 ⟨rfl, b⟩
      have B1 := Lib.hid b
      clear b
      go_wp2
      go_ret
      exact ⟨rfl, B1.out⟩

set_option maxHeartbeats 2000000 in
theorem wrapped_no (v0 v1 v2 : Value) (xs0 xs1 xs2 : List UInt8) (x y : Int) (w : World) (h0 : Txt w w.heap.size v0 xs0) (h1 : Txt w w.heap.size v1 xs1) (h2 : Txt w w.heap.size v2 xs2) (g0 : xs0.length ≤ 70000) (g1 : xs1.length ≤ 1000) (g2 : xs2.length ≤ 1000) (hn : 65536 < xs0.length) :
    Calls Try.prog 8 #[v0, v1, v2, .int .i64 x, .int .i64 y] w fun e w' => e = .returned (.bool true) ∧ Below w.heap.size w w' := by
  have H0 := Lib.hid h0
  have H1 := Lib.hid h1
  have H2 := Lib.hid h2
  have g0' : decide ((70000 : Int) < xs0.length) = false := decide_eq_false (by omega)
  have g1' : decide ((1000 : Int) < xs1.length) = false := decide_eq_false (by omega)
  have g2' : decide ((1000 : Int) < xs2.length) = false := decide_eq_false (by omega)
  obtain ⟨A0, cap0, rfl, _, _, _, _⟩ := h0
  obtain ⟨A1, cap1, rfl, _, _, _, _⟩ := h1
  obtain ⟨A2, cap2, rfl, _, _, _, _⟩ := h2
  go_enter Try.func8, Try.ntmps8
  go_wp2_with fail
  refine (alive_true _).mono ?_
  rintro e w1 ⟨rfl, b⟩
  have B1 := Lib.hid b
  clear b
  go_wp2_with fail
  refine (wrap_no _ xs0 _ ((H0.out.below B1.out).more B1.out.size) hn).mono ?_
  rintro e w6 ⟨rfl, rfl⟩
  have B6 := B1
  go_wp2_with fail
  refine (unwrap_any _ xs1 x y _ ((H1.out.below B6.out).more B6.out.size)).mono ?_
  rintro e w7 ⟨u7, rfl, ho7, b⟩
  have B7 := Lib.hid (B6.out.trans (b.mono B6.out.size))
  clear b
  by_cases hg : (unwrapSpec xs1 x y).2.2 = 0
  · obtain ⟨k, n, rfl, e1, e2, e3, e4, e5⟩ := unwrapSpec_ok hg
    rw [e4] at ho7 ⊢
    dsimp only at ho7 ⊢
    have hp := bytesOf_length_pos n
    obtain ⟨b, off, rfl, hcap, hsub⟩ := H1.out.sub (L := (bytesOf n).length + n) (by omega) e3
    rw [e5] at hsub
    have hun : ((xs1.drop (k + (bytesOf n).length)).take n).length = n := by simp; omega
    generalize hU : (xs1.drop (k + (bytesOf n).length)).take n = U at *
    have HS := Lib.hid hsub
    have HU7 := Lib.hid (Txt.own (by unfold maxLen; omega) ho7)
    rw [hun] at ho7
    obtain ⟨A7, c7, rfl⟩ := own_slice_ ho7
    obtain ⟨M, hM⟩ : ∃ M, M = (bytesOf n).length + n := ⟨_, rfl⟩
    have eM : (k : Int) + ((bytesOf n).length : Int) + n = (k : Int) + M := by omega
    have hMc : k + M ≤ cap1 := by omega
    rw [eM]
    rw [← hM] at HS
    have HM := Lib.hid hM
    clear hM eM
    generalize hL : (bytesOf n).length = L at *
    have HLm := Lib.hid hL
    have HUn := Lib.hid hun
    clear hL hg e4 e5 hsub hU hun ho7
    go_wp2_with fail
    refine (wrap_ok _ U _ (HU7.out) (by rw [HUn.out]; omega)).mono ?_
    rintro e w8 ⟨u8_, rfl, ho, b⟩
    rw [HUn.out, HLm.out] at ho
    have ht : Txt w8 w8.heap.size u8_ (bytesOf n ++ U) := by
      refine Txt.own (base := w7.heap.size) (e := 5) ?_ ?_
      · rw [List.length_append, HLm.out, HUn.out]; unfold maxLen; omega
      · rw [List.length_append, List.map_append, HLm.out, HUn.out]; exact ho
    have HU := Lib.hid ht
    have B8 := Lib.hid (B7.out.trans (b.mono B7.out.size))
    clear b ho ht
    have r1 := fun nq => run_txt_string (HU.out.drewN nq)
    have r2 := fun nq => run_txt_string ((HS.out.below B8.out).drewN nq)
    have hny : decide ((n : Int) ≤ y) = true := decide_eq_true (by omega)
    go_wp2
    go_quiet (fail)
    go_wp2
    go_ret
    exact ⟨rfl, below_drewN B8.out _⟩
  · obtain ⟨e1, e2⟩ := unwrapSpec_no hg
    rw [e1] at ho7
    rw [e2]
    have hne : ((unwrapSpec xs1 x y).2.2 != 0) = true := by simpa using hg
    generalize (unwrapSpec xs1 x y).2.2 = g at *
    obtain ⟨A7, c7, rfl⟩ := own_slice_ ho7
    clear e1 e2 ho7
    go_wp2
    go_ret
    exact ⟨rfl, B7.out⟩

set_option maxHeartbeats 2000000 in
theorem wrapped_ok (v0 v1 v2 : Value) (xs0 xs1 xs2 : List UInt8) (x y : Int) (w : World) (h0 : Txt w w.heap.size v0 xs0) (h1 : Txt w w.heap.size v1 xs1) (h2 : Txt w w.heap.size v2 xs2) (g0 : xs0.length ≤ 65536) (g1 : xs1.length ≤ 1000) (g2 : xs2.length ≤ 1000) :
    Calls Try.prog 8 #[v0, v1, v2, .int .i64 x, .int .i64 y] w fun e w' => e = .returned (.bool true) ∧ Below w.heap.size w w' := by
  obtain ⟨i0, hi, hz0, hz1, hz2⟩ := info_parts infoByte
  have H0 := Lib.hid h0
  have H1 := Lib.hid h1
  have H2 := Lib.hid h2
  have g0' : decide ((70000 : Int) < xs0.length) = false := decide_eq_false (by omega)
  have g1' : decide ((1000 : Int) < xs1.length) = false := decide_eq_false (by omega)
  have g2' : decide ((1000 : Int) < xs2.length) = false := decide_eq_false (by omega)
  obtain ⟨A0, cap0, rfl, _, _, _, _⟩ := h0
  obtain ⟨A1, cap1, rfl, _, _, _, _⟩ := h1
  obtain ⟨A2, cap2, rfl, _, _, _, _⟩ := h2
  have hl5 := bytesOf_length_le (n := xs0.length) (by omega)
  generalize hbL : (bytesOf xs0.length).length = N at *
  have HbL := Lib.hid hbL
  clear hbL
  go_enter Try.func8, Try.ntmps8
  go_wp2_with fail
  refine (alive_true _).mono ?_
  rintro e w1 ⟨rfl, b⟩
  have B1 := Lib.hid b
  clear b
  go_wp2_with fail
  refine (wrap_ok _ xs0 _ ((H0.out.below B1.out).more B1.out.size) g0).mono ?_
  rintro e w2 ⟨u, rfl, ho, b⟩
  have ht : Txt w2 w2.heap.size u (bytesOf xs0.length ++ xs0) := by
    refine Txt.own (base := w1.heap.size) (e := 5) ?_ ?_
    · have := HbL.out; rw [List.length_append]; unfold maxLen; omega
    · rw [List.length_append, List.map_append]; exact ho
  have HT := Lib.hid ht
  rw [HbL.out] at ho
  have HO := Lib.hid ho
  obtain ⟨Au, cu, rfl⟩ := own_slice_ ho
  have B2 := Lib.hid (B1.out.trans (b.mono B1.out.size))
  clear b ho ht
  have bs2 := B2.out.size
  have bnil : ∀ (j : Nat), (Value.slice none 0 0).ownBlock = some j → w2.heap.size ≤ j := fun j e => by cases e
  have hwl : (bytesOf xs0.length ++ xs0).length = N + xs0.length := by rw [List.length_append, HbL.out]
  have HWL := Lib.hid hwl
  clear hwl
  go_wp2_with (first
    | (go_at_call 11; fail)
    | (at_builtin; refine wpList_append_txt (o := ⟨some 51, _, _, _, _, _⟩) rfl (.tmp 49) (.tmp 50) _ rfl Try.underlying25 hi hz0 hz1 hz2 rfl (World.ownsRow_nil _ w2.heap.size 5 1) rfl (H1.out.below B2.out) (by omega) (Nat.le_refl _) ?_; intro v3 w3 hown3 hgrow3; have b3 := (Below.refl w2.heap.size w2).grown hgrow3 (Nat.le_refl _) bnil; have B3 := Lib.hid b3; have bs3 := b3.size; have O3 := Lib.hid hown3; clear b3 hown3 hgrow3)
    | (at_builtin; refine wpList_append_txt (o := ⟨some 54, _, _, _, _, _⟩) rfl (.tmp 52) (.tmp 53) _ rfl Try.underlying25 hi hz0 hz1 hz2 rfl O3.out rfl (HT.out.below B3.out) (by have := HWL.out; omega) bs3 ?_; intro v4 w4 hown4 hgrow4; have hg4 : World.grownBy _ w4 v3.ownBlock := hgrow4; have b4 := B3.out.grown hg4 bs3 (fun j e => (O3.out.lt j e).1); have B4 := Lib.hid b4; have bs4 := b4.size; have O4 := Lib.hid hown4; clear b4 hown4 hgrow4 hg4)
    | (at_builtin; refine wpList_append_txt (o := ⟨some 57, _, _, _, _, _⟩) rfl (.tmp 55) (.tmp 56) _ rfl Try.underlying25 hi hz0 hz1 hz2 rfl O4.out rfl ((H2.out.below B2.out).more B2.out.size |>.below B4.out) (by have := HWL.out; omega) bs4 ?_; intro v5 w5 hown5 hgrow5; have hg5 : World.grownBy _ w5 v4.ownBlock := hgrow5; have b5 := B4.out.grown hg5 bs4 (fun j e => (O4.out.lt j e).1); have B5 := Lib.hid b5; have bs5 := b5.size; have O5 := Lib.hid hown5; clear b5 hown5 hgrow5 hg5))
  have hall : Txt w5 w5.heap.size v5 (xs1 ++ (bytesOf xs0.length ++ xs0) ++ xs2) := by
    have ho := O5.out
    have e1 : 0 + xs1.length + (bytesOf xs0.length ++ xs0).length + xs2.length = (xs1 ++ (bytesOf xs0.length ++ xs0) ++ xs2).length := by simp only [List.length_append]; omega
    have e2 : [] ++ xs1.map u8 ++ (bytesOf xs0.length ++ xs0).map u8 ++ xs2.map u8 = (xs1 ++ (bytesOf xs0.length ++ xs0) ++ xs2).map u8 := by simp
    rw [e1, e2] at ho
    refine Txt.own ?_ ho
    have := HWL.out
    rw [← e1]
    unfold maxLen
    omega
  have HA := Lib.hid hall
  clear hall
  refine (unwrap_any _ _ _ _ _ HA.out).mono ?_
  rw [unwrapSpec_wrap xs1 xs0 xs2 g0, HbL.out]
  rintro e w6 ⟨u6, rfl, ho6, b⟩
  dsimp only at ho6
  have T6 := Lib.hid (Txt.own (by unfold maxLen; omega) ho6)
  have B6 := Lib.hid ((B2.out.trans (B5.out.mono B2.out.size)).trans (b.mono (Nat.le_trans B2.out.size bs5)))
  clear b ho6
  have r61 := run_txt_string T6.out
  have r62 := run_txt_string (H0.out.below B6.out)
  have hnat : ((N + xs0.length : Nat) : Int) = (N : Int) + xs0.length := by omega
  go_wp2_with fail
  refine (unwrap_any _ xs1 x y _ ((H1.out.below B6.out).more B6.out.size)).mono ?_
  rintro e w7 ⟨u7, rfl, ho7, b⟩
  have B7 := Lib.hid (B6.out.trans (b.mono B6.out.size))
  clear b
  by_cases hg : (unwrapSpec xs1 x y).2.2 = 0
  · obtain ⟨k, n, rfl, e1, e2, e3, e4, e5⟩ := unwrapSpec_ok hg
    rw [e4] at ho7 ⊢
    dsimp only at ho7 ⊢
    have hp := bytesOf_length_pos n
    obtain ⟨b, off, rfl, hcap, hsub⟩ := H1.out.sub (L := (bytesOf n).length + n) (by omega) e3
    rw [e5] at hsub
    have hun : ((xs1.drop (k + (bytesOf n).length)).take n).length = n := by simp; omega
    generalize hU : (xs1.drop (k + (bytesOf n).length)).take n = U at *
    have HS := Lib.hid hsub
    have HU7 := Lib.hid (Txt.own (by unfold maxLen; omega) ho7)
    rw [hun] at ho7
    obtain ⟨A7, c7, rfl⟩ := own_slice_ ho7
    obtain ⟨M, hM⟩ : ∃ M, M = (bytesOf n).length + n := ⟨_, rfl⟩
    have eM : (k : Int) + ((bytesOf n).length : Int) + n = (k : Int) + M := by omega
    have hMc : k + M ≤ cap1 := by omega
    rw [eM]
    rw [← hM] at HS
    have HM := Lib.hid hM
    clear hM eM
    generalize hL : (bytesOf n).length = L at *
    have HLm := Lib.hid hL
    have HUn := Lib.hid hun
    clear hL hg e4 e5 hsub hU hun ho7
    go_wp2_with fail
    refine (wrap_ok _ U _ (HU7.out) (by rw [HUn.out]; omega)).mono ?_
    rintro e w8 ⟨u8_, rfl, ho, b⟩
    rw [HUn.out, HLm.out] at ho
    have ht : Txt w8 w8.heap.size u8_ (bytesOf n ++ U) := by
      refine Txt.own (base := w7.heap.size) (e := 5) ?_ ?_
      · rw [List.length_append, HLm.out, HUn.out]; unfold maxLen; omega
      · rw [List.length_append, List.map_append, HLm.out, HUn.out]; exact ho
    have HU := Lib.hid ht
    have B8 := Lib.hid (B7.out.trans (b.mono B7.out.size))
    clear b ho ht
    have r1 := fun nq => run_txt_string (HU.out.drewN nq)
    have r2 := fun nq => run_txt_string ((HS.out.below B8.out).drewN nq)
    have hny : decide ((n : Int) ≤ y) = true := decide_eq_true (by omega)
    go_wp2
    go_quiet (fail)
    go_wp2
    go_ret
    exact ⟨rfl, below_drewN B8.out _⟩
  · obtain ⟨e1, e2⟩ := unwrapSpec_no hg
    rw [e1] at ho7
    rw [e2]
    have hne : ((unwrapSpec xs1 x y).2.2 != 0) = true := by simpa using hg
    generalize (unwrapSpec xs1 x y).2.2 = g at *
    obtain ⟨A7, c7, rfl⟩ := own_slice_ ho7
    clear e1 e2 ho7
    go_wp2
    go_ret
    exact ⟨rfl, B7.out⟩


theorem walk_wrapped (v0 v1 v2 : Value) (xs0 xs1 xs2 : List UInt8) (x y : Int) (w : World) (h0 : Txt w w.heap.size v0 xs0) (h1 : Txt w w.heap.size v1 xs1) (h2 : Txt w w.heap.size v2 xs2) :
    Calls Try.prog 8 #[v0, v1, v2, .int .i64 x, .int .i64 y] w fun e w' => e = .returned (.bool true) ∧ Below w.heap.size w w' := by
  by_cases g : 70000 < xs0.length ∨ 1000 < xs1.length ∨ 1000 < xs2.length
  · exact wrapped_long v0 v1 v2 xs0 xs1 xs2 x y w h0 h1 h2 g
  · by_cases hn : 65536 < xs0.length
    · exact wrapped_no v0 v1 v2 xs0 xs1 xs2 x y w h0 h1 h2 (by omega) (by omega) (by omega) hn
    · exact wrapped_ok v0 v1 v2 xs0 xs1 xs2 x y w h0 h1 h2 (by omega) (by omega) (by omega)
end Go.Proofs.Ythlohfiidogiiaa
