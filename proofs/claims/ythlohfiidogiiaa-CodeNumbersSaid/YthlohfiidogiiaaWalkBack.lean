/-
  The statement CodeBack's text returns true: what is put is got, whatever stands around it; what is got is put as these bytes.
  Conditions: none.
-/
import Derived.Test.YthlohfiidogiiaaAny
import Derived.Deep.QuietTactic
import Derived.BigQuiet
set_option linter.unusedVariables false
set_option linter.unusedSimpArgs false
namespace Go.Proofs.Ythlohfiidogiiaa
open Go.RowKit Go.Shelf

theorem own_slice_ {w : World} {base e n : Nat} {v : Value} {ys : List Value} (h : w.ownsRow base e 1 v n ys) : ∃ A c, v = .slice A n c := by
  rcases h.2 with ⟨rfl, rfl⟩ | ⟨g, cap, cur, rfl, _⟩
  · exact ⟨none, 0, rfl⟩
  · exact ⟨_, _, rfl⟩

theorem Txt.sub {W : World} {B : Nat} {A : Option Addr} {cap k L : Nat} {xs : List UInt8} (h : Txt W B (.slice A xs.length cap) xs) (hL : 0 < L) (hk : k + L ≤ xs.length) :
    ∃ b off, A = some ⟨b, off, none⟩ ∧ xs.length ≤ cap ∧ Txt W B (.slice (some ⟨b, off + k, none⟩) L (cap - k)) ((xs.drop k).take L) := by
  obtain ⟨A', cap', e, h1, h2, hn, h3⟩ := h
  cases e
  obtain ⟨b, off, rfl, hb, hc⟩ := h3 (by omega)
  have hl : ((xs.drop k).take L).length = L := by simp; omega
  refine ⟨b, off, rfl, h1, _, _, by rw [hl], by rw [hl]; omega, by omega, fun e => (by cases e), fun _ => ⟨b, off + k, rfl, hb, fun j hj => ?_⟩⟩
  rw [hl] at hj
  rw [Nat.add_assoc, hc (k + j) (by omega)]
  simp
theorem below_drewN {B : Nat} {W W' : World} (h : Below B W W') (n : Nat) : Below B W (W'.drewN n) := ⟨h.os, h.tape, h.output, h.size, h.block⟩
theorem Txt.drewN {W : World} {B : Nat} {v : Value} {xs : List UInt8} (h : Txt W B v xs) (n : Nat) : Txt (W.drewN n) B v xs := h

set_option maxHeartbeats 400000 in
/-- Too much around: true at once. -/
theorem back_long (n : Int) (v1 v2 : Value) (xs1 xs2 : List UInt8) (x : Int) (w : World) (h1 : Txt w w.heap.size v1 xs1) (h2 : Txt w w.heap.size v2 xs2) (h : 1000 < xs1.length ∨ 1000 < xs2.length) :
    Calls Try.prog 6 #[.int .i64 n, v1, v2, .int .i64 x] w fun e w' => e = .returned (.bool true) ∧ Below w.heap.size w w' := by
  by_cases g1 : 1000 < xs1.length
  · have g1' : decide ((1000 : Int) < xs1.length) = true := decide_eq_true (by omega)
    obtain ⟨A1, cap1, rfl, _, _, _, _⟩ := h1
    obtain ⟨A2, cap2, rfl, _, _, _, _⟩ := h2
    go_enter Try.func6, Try.ntmps6
    go_wp2_with fail
    refine (alive_true _).mono ?_
    rintro e w1 ⟨rfl, b⟩
    have B1 := Lib.hid b
    clear b
    go_wp2
    go_ret
    exact ⟨rfl, B1.out⟩
  · have g1' : decide ((1000 : Int) < xs1.length) = false := decide_eq_false (by omega)
    have g2' : decide ((1000 : Int) < xs2.length) = true := decide_eq_true (by omega)
    obtain ⟨A1, cap1, rfl, _, _, _, _⟩ := h1
    obtain ⟨A2, cap2, rfl, _, _, _, _⟩ := h2
    go_enter Try.func6, Try.ntmps6
    go_wp2_with fail
    refine (alive_true _).mono ?_
    rintro e w1 ⟨rfl, b⟩
    have B1 := Lib.hid b
    clear b
    go_wp2
    go_ret
    exact ⟨rfl, B1.out⟩

set_option maxHeartbeats 1000000 in
theorem back_no (n : Int) (v1 v2 : Value) (xs1 xs2 : List UInt8) (x : Int) (w : World) (h1 : Txt w w.heap.size v1 xs1) (h2 : Txt w w.heap.size v2 xs2) (g1 : xs1.length ≤ 1000) (g2 : xs2.length ≤ 1000) (hn : n < 0 ∨ 2147483647 < n) :
    Calls Try.prog 6 #[.int .i64 n, v1, v2, .int .i64 x] w fun e w' => e = .returned (.bool true) ∧ Below w.heap.size w w' := by
  have H1 := Lib.hid h1
  have g1' : decide ((1000 : Int) < xs1.length) = false := decide_eq_false (by omega)
  have g2' : decide ((1000 : Int) < xs2.length) = false := decide_eq_false (by omega)
  obtain ⟨A1, cap1, rfl, _, _, _, _⟩ := h1
  obtain ⟨A2, cap2, rfl, _, _, _, _⟩ := h2
  have HN := Lib.hid (put_no n hn)
  clear hn
  go_enter Try.func6, Try.ntmps6
  go_wp2_with fail
  refine (alive_true _).mono ?_
  rintro e w1 ⟨rfl, b⟩
  have B1 := Lib.hid b
  clear b
  go_wp2_with fail
  refine (HN.out _).mono ?_
  rintro e w2 ⟨rfl, rfl⟩
  go_wp2_with fail
  refine (get_any _ xs1 x _ ((H1.out.below B1.out).more B1.out.size)).mono ?_
  rintro e w2 ⟨rfl, b⟩
  have B2 := Lib.hid (B1.out.trans (b.mono B1.out.size))
  clear b
  by_cases hg : (getSpec xs1 x).2.2 = 0
  · obtain ⟨k, m, rfl, e1, e2, e3, e4, _⟩ := getSpec_ok hg
    rw [e4]
    dsimp only
    have hp := bytesOf_length_pos m
    obtain ⟨b, off, rfl, hcap, hsub⟩ := H1.out.sub hp e1
    rw [e3] at hsub
    have HS := Lib.hid hsub
    generalize hL : (bytesOf m).length = L at *
    have HL := Lib.hid hL
    clear hL hg e4 e3 hsub
    go_wp2_with fail
    refine (put_ok m e2 _).mono ?_
    rintro e w3 ⟨u, rfl, ho, b⟩
    have HU := Lib.hid (Txt.own (by have := bytesOf_length_le e2; unfold maxLen; omega) ho)
    have B3 := Lib.hid (B2.out.trans (b.mono B2.out.size))
    clear b ho
    have r1 := fun nq => run_txt_string (HU.out.drewN nq)
    have r2 := fun nq => run_txt_string ((HS.out.below B3.out).drewN nq)
    go_wp2
    go_quiet (fail)
    go_wp2
    go_ret
    exact ⟨rfl, below_drewN B3.out _⟩
  · obtain ⟨e1, e2⟩ := getSpec_no hg
    rw [e1, e2]
    have hne : ((getSpec xs1 x).2.2 != 0) = true := by simpa using hg
    generalize (getSpec xs1 x).2.2 = g at *
    clear e1 e2
    go_wp2
    go_ret
    exact ⟨rfl, B2.out⟩


set_option maxHeartbeats 2000000 in
theorem back_ok (n : Nat) (v1 v2 : Value) (xs1 xs2 : List UInt8) (x : Int) (w : World) (h1 : Txt w w.heap.size v1 xs1) (h2 : Txt w w.heap.size v2 xs2) (g1 : xs1.length ≤ 1000) (g2 : xs2.length ≤ 1000) (hn : n ≤ 2147483647) :
    Calls Try.prog 6 #[.int .i64 n, v1, v2, .int .i64 x] w fun e w' => e = .returned (.bool true) ∧ Below w.heap.size w w' := by
  obtain ⟨i0, hi, hz0, hz1, hz2⟩ := info_parts infoByte
  have H1 := Lib.hid h1
  have H2 := Lib.hid h2
  have g1' : decide ((1000 : Int) < xs1.length) = false := decide_eq_false (by omega)
  have g2' : decide ((1000 : Int) < xs2.length) = false := decide_eq_false (by omega)
  obtain ⟨A1, cap1, rfl, _, _, _, _⟩ := h1
  obtain ⟨A2, cap2, rfl, _, _, _, _⟩ := h2
  have hl5 := bytesOf_length_le hn
  generalize hbL : (bytesOf n).length = N at *
  have HbL := Lib.hid hbL
  clear hbL
  go_enter Try.func6, Try.ntmps6
  go_wp2_with fail
  refine (alive_true _).mono ?_
  rintro e w1 ⟨rfl, b⟩
  have B1 := Lib.hid b
  clear b
  go_wp2_with fail
  refine (put_ok n hn _).mono ?_
  rintro e w2 ⟨u, rfl, ho, b⟩
  have HT := Lib.hid (Txt.own (by have := HbL.out; unfold maxLen; omega) ho)
  rw [HbL.out] at ho
  have HO := Lib.hid ho
  obtain ⟨Au, cu, rfl⟩ := own_slice_ ho
  have B2 := Lib.hid (B1.out.trans (b.mono B1.out.size))
  clear b ho
  have bnil : ∀ (j : Nat), (Value.slice none 0 0).ownBlock = some j → w2.heap.size ≤ j := fun j e => by cases e
  go_wp2_with (first
    | (go_at_call 9; fail)
    | (at_builtin; refine wpList_append_txt (o := ⟨some 44, _, _, _, _, _⟩) rfl (.tmp 42) (.tmp 43) _ rfl Try.underlying25 hi hz0 hz1 hz2 rfl (World.ownsRow_nil _ w2.heap.size 5 1) rfl (H1.out.below B2.out) (by omega) (Nat.le_refl _) ?_; intro v3 w3 hown3 hgrow3; have b3 := (Below.refl w2.heap.size w2).grown hgrow3 (Nat.le_refl _) bnil; have B3 := Lib.hid b3; have bs3 := b3.size; have O3 := Lib.hid hown3; clear b3 hown3 hgrow3)
    | (at_builtin; refine wpList_append_txt (o := ⟨some 47, _, _, _, _, _⟩) rfl (.tmp 45) (.tmp 46) _ rfl Try.underlying25 hi hz0 hz1 hz2 rfl O3.out rfl (HT.out.below B3.out) (by have := HbL.out; omega) bs3 ?_; intro v4 w4 hown4 hgrow4; have hg4 : World.grownBy _ w4 v3.ownBlock := hgrow4; have b4 := B3.out.grown hg4 bs3 (fun j e => (O3.out.lt j e).1); have B4 := Lib.hid b4; have bs4 := b4.size; have O4 := Lib.hid hown4; clear b4 hown4 hgrow4 hg4)
    | (at_builtin; refine wpList_append_txt (o := ⟨some 50, _, _, _, _, _⟩) rfl (.tmp 48) (.tmp 49) _ rfl Try.underlying25 hi hz0 hz1 hz2 rfl O4.out rfl ((H2.out.below B2.out).more B2.out.size |>.below B4.out) (by have := HbL.out; omega) bs4 ?_; intro v5 w5 hown5 hgrow5; have hg5 : World.grownBy _ w5 v4.ownBlock := hgrow5; have b5 := B4.out.grown hg5 bs4 (fun j e => (O4.out.lt j e).1); have B5 := Lib.hid b5; have bs5 := b5.size; have O5 := Lib.hid hown5; clear b5 hown5 hgrow5 hg5))
  have hall : Txt w5 w5.heap.size v5 (xs1 ++ bytesOf n ++ xs2) := by
    have ho := O5.out
    have e1 : 0 + xs1.length + (bytesOf n).length + xs2.length = (xs1 ++ bytesOf n ++ xs2).length := by simp; omega
    have e2 : [] ++ xs1.map u8 ++ (bytesOf n).map u8 ++ xs2.map u8 = (xs1 ++ bytesOf n ++ xs2).map u8 := by simp
    rw [e1, e2] at ho
    refine Txt.own ?_ ho
    have := HbL.out
    rw [← e1]
    unfold maxLen
    omega
  have HA := Lib.hid hall
  clear hall
  refine (get_any _ _ _ _ HA.out).mono ?_
  rw [getSpec_put xs1 xs2 hn, HbL.out]
  rintro e w6 ⟨rfl, b⟩
  have B6 := Lib.hid ((B2.out.trans (B5.out.mono B2.out.size)).trans (b.mono (Nat.le_trans B2.out.size bs5)))
  clear b
  go_wp2_with fail
  refine (get_any _ xs1 x _ ((H1.out.below B6.out).more B6.out.size)).mono ?_
  rintro e w7 ⟨rfl, b⟩
  have B7 := Lib.hid (B6.out.trans (b.mono B6.out.size))
  clear b
  by_cases hg : (getSpec xs1 x).2.2 = 0
  · obtain ⟨k, m, rfl, e1, e2, e3, e4, _⟩ := getSpec_ok hg
    rw [e4]
    dsimp only
    have hp := bytesOf_length_pos m
    obtain ⟨b, off, rfl, hcap, hsub⟩ := H1.out.sub hp e1
    rw [e3] at hsub
    have HS := Lib.hid hsub
    generalize hL : (bytesOf m).length = L at *
    have HLm := Lib.hid hL
    clear hL hg e4 e3 hsub
    go_wp2_with fail
    refine (put_ok m e2 _).mono ?_
    rintro e w8 ⟨u, rfl, ho, b⟩
    have HU := Lib.hid (Txt.own (by have := bytesOf_length_le e2; unfold maxLen; omega) ho)
    have B8 := Lib.hid (B7.out.trans (b.mono B7.out.size))
    clear b ho
    have r1 := fun nq => run_txt_string (HU.out.drewN nq)
    have r2 := fun nq => run_txt_string ((HS.out.below B8.out).drewN nq)
    go_wp2
    go_quiet (fail)
    go_wp2
    go_ret
    exact ⟨rfl, below_drewN B8.out _⟩
  · obtain ⟨e1, e2⟩ := getSpec_no hg
    rw [e1, e2]
    have hne : ((getSpec xs1 x).2.2 != 0) = true := by simpa using hg
    generalize (getSpec xs1 x).2.2 = g at *
    clear e1 e2
    go_wp2
    go_ret
    exact ⟨rfl, B7.out⟩

theorem walk_back (n : Int) (v1 v2 : Value) (xs1 xs2 : List UInt8) (x : Int) (w : World) (h1 : Txt w w.heap.size v1 xs1) (h2 : Txt w w.heap.size v2 xs2) :
    Calls Try.prog 6 #[.int .i64 n, v1, v2, .int .i64 x] w fun e w' => e = .returned (.bool true) ∧ Below w.heap.size w w' := by
  by_cases g : 1000 < xs1.length ∨ 1000 < xs2.length
  · exact back_long n v1 v2 xs1 xs2 x w h1 h2 g
  · by_cases hn : n < 0 ∨ 2147483647 < n
    · exact back_no n v1 v2 xs1 xs2 x w h1 h2 (by omega) (by omega) hn
    · obtain ⟨N, rfl⟩ : ∃ N : Nat, n = N := ⟨n.toNat, by omega⟩
      exact back_ok N v1 v2 xs1 xs2 x w h1 h2 (by omega) (by omega) (by omega)
end Go.Proofs.Ythlohfiidogiiaa
