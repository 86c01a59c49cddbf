/-
 The program's package plan: numbers that rise, elements found, of three kinds.
 Conditions: none.
-/
import Derived.Test.YtneeocnjfnneoaaGreatVPlnPA
import Derived.Test.YtneeocnjfnneoaaGreatVPlnPM
set_option linter.unusedVariables false
set_option linter.unusedSimpArgs false
set_option maxRecDepth 100000
namespace Go.Proofs.YtneeocnjfnneoaaGreat
open Go.RowKit

def findB {α : Type} (k : α → Int) (l : List α) (id : Int) : Bool := decide (0 ≤ at1 k l id)
def findV {α : Type} (k : α → Int) (l : List α) (id : Int) (z : α) : α := if at1 k l id < 0 then z else l.getD (at1 k l id).toNat z
theorem find_no {α : Type} {k : α → Int} {l : List α} {id : Int} {z : α} (h : ∀ j (h : j < l.length), k l[j] ≠ id) : findB k l id = false ∧ findV k l id z = z := by
 rw [findB, findV, at1_none h]
 exact ⟨rfl, rfl⟩
theorem find_yes {α : Type} {k : α → Int} {l : List α} {id : Int} {z : α} {i : Nat} (hi : i < l.length) (he : k l[i] = id) (h : ∀ j (h : j < i), k (l[j]'(by omega)) ≠ id) : findB k l id = true ∧ findV k l id z = l[i] := by
 rw [findB, findV, at1_some hi he h, if_neg (by omega)]
 exact ⟨decide_eq_true (by omega), by simp [List.getD, List.getElem?_eq_getElem hi]⟩
theorem find_at1 {α : Type} (k : α → Int) (l : List α) (id : Int) (z : α) : (findB k l id = false ∧ findV k l id z = z ∧ at1 k l id < 0) ∨ ∃ i, ∃ hi : i < l.length, findB k l id = true ∧ findV k l id z = l[i] ∧ at1 k l id = (i : Int) ∧ k l[i] = id := by
 rcases at1_cases k l id with ⟨h1, h2⟩ | ⟨i, hi, h1, h2, h3⟩
 ·obtain ⟨a, b⟩ := find_no (z := z) h2
  exact .inl ⟨a, b, by omega⟩
 ·obtain ⟨a, b⟩ := find_yes (z := z) hi h2 h3
  exact .inr ⟨i, hi, a, b, h1, h2⟩

set_option maxHeartbeats 4000000 in
theorem rising_pt (v : Value) (l : List Jn) (w : World) (h : JoinsIn w w.heap.size v l) :
  Calls Tryz.prog 79 #[v] w fun e w' => e = .returned (.bool (riseB kPt l)) ∧ Below w.heap.size w w' := by
 obtain ⟨A, c, n, rfl, hml, HN, HA⟩ := open_list h
 go_enter Tryz.func79, Tryz.ntmps79
 go_wp2_with fail
 go_loopw [3, 9] (fun s3 s9 wr => ∃ (i : Nat) (z : Int), i ≤ n ∧ s9 = .int .i64 i ∧ s3 = .int .i64 z ∧ LastK kPt l i z ∧ (∀ i' (hi : i' < i) (hl : i' < l.length), 1 ≤ kPt l[i'] ∧ kPt l[i'] ≤ 99 ∧ ∀ j (hj : j + 1 = i'), kPt (l[j]'(by omega)) < kPt l[i']) ∧ Below w.heap.size w wr) (fun _ s9 _ => n - (intOf s9).toNat)
 case atStart => exact ⟨0, 0, by omega, by go_num, by go_num, .inl ⟨rfl, rfl⟩, fun i' hi => absurd hi (by omega), Below.refl _ _⟩
 case round =>
  obtain ⟨i, z, hi, rfl, rfl, hz, hall, hb⟩ := hrel
  have HZ := Lib.hid hz
  have HALL := Lib.hid hall
  have BW := Lib.hid hb
  clear hall hb hz
  by_cases hlt : i < n
  ·have hlt' : (i : Int) < n := by omega
   have hir : i < l.length := by rw [← HN.out]; exact hlt
   obtain ⟨bk, off, rfl, hbk, hc0, hc1⟩ := ((HA.out.below joinR BW.out).more joinR BW.out.size).at hir
   obtain ⟨a, b, hx⟩ : ∃ a b, l[i] = (a, b) := ⟨_, _, rfl⟩
   have HX := Lib.hid hx
   rw [hx] at hc0 hc1
   have hg0 : wr.cell? ⟨bk, off + i * 2, none⟩ = some (.int .i64 a) := hc0
   have hg1 : wr.cell? ⟨bk, off + i * 2 + 1, none⟩ = some (.int .i64 b) := hc1
   clear hc0 hc1 hx hbk
   obtain ⟨q, hq⟩ : ∃ x, x = wr.alloc (.cells #[.int .i64 a, .int .i64 b] 60) := ⟨_, rfl⟩
   have x1 := heap_alloc_self wr (.cells #[.int .i64 a, .int .i64 b] 60)
   have b1 := below_new wr (.cells #[.int .i64 a, .int .i64 b] 60)
   rw [← hq] at x1 b1
   go_upto_region 5 with fail
   rw [← hq]
   have X1 := Lib.hid x1
   have B1 := Lib.hid (BW.out.trans (b1.mono BW.out.size))
   generalize wr.heap.size = p1 at X1 ⊢
   clear x1 b1 hq hg0 hg1
   obtain ⟨k0, k1⟩ := cell2_of X1.out
   have KX : Hid (kPt l[i] = a) := Lib.hid (by rw [HX.out])
   by_cases h1 : a ≤ z
   ·have h1d : decide (a ≤ z) = true := decide_eq_true h1
    have HF : Hid (riseB kPt l = false) := Lib.hid (riseB_false fun h => by
     have h2 := h i hir
     rw [KX.out] at h2
     rcases HZ.out with ⟨rfl, hz0⟩ | ⟨hr, hp, hz0⟩
     ·omega
     ·have := h2.2.2 (i - 1) (by omega)
      omega)
    clear h1
    go_wp2_with ((with_reducible show Calls _ _ _ _ _); refine (number_pt a b _).mono ?_; rintro e w2 ⟨rfl, b2⟩; have B2 := Lib.hid (B1.out.trans (b2.mono B1.out.size)); clear b2)
    go_ret
    exact ⟨by rw [HF.out]; rfl, B2.out⟩
   have h1d : decide (a ≤ z) = false := decide_eq_false h1
   by_cases h2 : 99 < a
   ·have h2d : decide (99 < a) = true := decide_eq_true h2
    have HF : Hid (riseB kPt l = false) := Lib.hid (riseB_false fun h => by
     have h3 := h i hir
     rw [KX.out] at h3
     omega)
    clear h1 h2
    go_wp2_with ((with_reducible show Calls _ _ _ _ _); refine (number_pt a b _).mono ?_; rintro e w2 ⟨rfl, b2⟩; have B2 := Lib.hid (B1.out.trans (b2.mono B1.out.size)); clear b2)
    go_ret
    exact ⟨by rw [HF.out]; rfl, B2.out⟩
   have h2d : decide (99 < a) = false := decide_eq_false h2
   have NX : Hid (LastK kPt l (i + 1) a ∧ (∀ i' (hi : i' < i + 1) (hl : i' < l.length), 1 ≤ kPt l[i'] ∧ kPt l[i'] ≤ 99 ∧ ∀ j (hj : j + 1 = i'), kPt (l[j]'(by omega)) < kPt l[i'])) := Lib.hid (by
    refine ⟨.inr ⟨hir, by omega, KX.out.symm⟩, fun i' hi' hl => ?_⟩
    rcases Nat.lt_or_ge i' i with h | h
    ·exact HALL.out i' h hl
    ·obtain rfl : i' = i := by omega
     rw [KX.out]
     rcases HZ.out with ⟨rfl, hz0⟩ | ⟨hr, hp, hz0⟩
     ·exact ⟨by omega, by omega, fun j hj => by omega⟩
     ·have h3 := (HALL.out (i' - 1) (by omega) hr).1
      refine ⟨by omega, by omega, fun j hj => ?_⟩
      obtain rfl : j = i' - 1 := by omega
      omega)
   clear h1 h2
   go_wp2_with ((with_reducible show Calls _ _ _ _ _); refine (number_pt a b _).mono ?_; rintro e w2 ⟨rfl, b2⟩; have B2 := Lib.hid (B1.out.trans (b2.mono B1.out.size)); clear b2)
   go_roundw
   case measure => simp [intOf]; omega
   case rel => exact ⟨i + 1, a, by omega, by go_num, rfl, NX.out.1, NX.out.2, B2.out⟩
  ·obtain rfl : i = n := by omega
   have hlt' : ¬ (i : Int) < i := by omega
   have HR : Hid (riseB kPt l = true) := Lib.hid (riseB_true fun a ha => HALL.out a (by rw [HN.out]; exact ha) ha)
   go_wp2_with fail
   go_ret
   exact ⟨by rw [HR.out]; rfl, BW.out⟩
set_option maxHeartbeats 4000000 in
theorem rising_sg (v : Value) (l : List Sg) (w : World) (h : SigsIn w w.heap.size v l) :
  Calls Tryz.prog 81 #[v] w fun e w' => e = .returned (.bool (riseB kSg l)) ∧ Below w.heap.size w w' := by
 obtain ⟨A, c, n, rfl, hml, HN, HA⟩ := open_list h
 go_enter Tryz.func81, Tryz.ntmps81
 go_wp2_with fail
 go_loopw [3, 9] (fun s3 s9 wr => ∃ (i : Nat) (z : Int), i ≤ n ∧ s9 = .int .i64 i ∧ s3 = .int .i64 z ∧ LastK kSg l i z ∧ (∀ i' (hi : i' < i) (hl : i' < l.length), 1 ≤ kSg l[i'] ∧ kSg l[i'] ≤ 99 ∧ ∀ j (hj : j + 1 = i'), kSg (l[j]'(by omega)) < kSg l[i']) ∧ Below w.heap.size w wr) (fun _ s9 _ => n - (intOf s9).toNat)
 case atStart => exact ⟨0, 0, by omega, by go_num, by go_num, .inl ⟨rfl, rfl⟩, fun i' hi => absurd hi (by omega), Below.refl _ _⟩
 case round =>
  obtain ⟨i, z, hi, rfl, rfl, hz, hall, hb⟩ := hrel
  have HZ := Lib.hid hz
  have HALL := Lib.hid hall
  have BW := Lib.hid hb
  clear hall hb hz
  by_cases hlt : i < n
  ·have hlt' : (i : Int) < n := by omega
   have hir : i < l.length := by rw [← HN.out]; exact hlt
   obtain ⟨bk, off, rfl, hbk, hc0, hc1, hc2⟩ := ((HA.out.below sigR BW.out).more sigR BW.out.size).at hir
   obtain ⟨a, b, c, hx⟩ : ∃ a b c, l[i] = (a, b, c) := ⟨_, _, _, rfl⟩
   have HX := Lib.hid hx
   rw [hx] at hc0 hc1 hc2
   have hg0 : wr.cell? ⟨bk, off + i * 3, none⟩ = some (.int .i64 a) := hc0
   have hg1 : wr.cell? ⟨bk, off + i * 3 + 1, none⟩ = some (.int .i64 b) := hc1
   have hg2 : wr.cell? ⟨bk, off + i * 3 + 2, none⟩ = some (.int .i64 c) := hc2
   clear hc0 hc1 hc2 hx hbk
   obtain ⟨q, hq⟩ : ∃ x, x = wr.alloc (.cells #[.int .i64 a, .int .i64 b, .int .i64 c] 69) := ⟨_, rfl⟩
   have x1 := heap_alloc_self wr (.cells #[.int .i64 a, .int .i64 b, .int .i64 c] 69)
   have b1 := below_new wr (.cells #[.int .i64 a, .int .i64 b, .int .i64 c] 69)
   rw [← hq] at x1 b1
   go_upto_region 5 with fail
   rw [← hq]
   have X1 := Lib.hid x1
   have B1 := Lib.hid (BW.out.trans (b1.mono BW.out.size))
   generalize wr.heap.size = p1 at X1 ⊢
   clear x1 b1 hq hg0 hg1 hg2
   obtain ⟨k0, k1, k2⟩ := cell3_of X1.out
   have KX : Hid (kSg l[i] = a) := Lib.hid (by rw [HX.out])
   by_cases h1 : a ≤ z
   ·have h1d : decide (a ≤ z) = true := decide_eq_true h1
    have HF : Hid (riseB kSg l = false) := Lib.hid (riseB_false fun h => by
     have h2 := h i hir
     rw [KX.out] at h2
     rcases HZ.out with ⟨rfl, hz0⟩ | ⟨hr, hp, hz0⟩
     ·omega
     ·have := h2.2.2 (i - 1) (by omega)
      omega)
    clear h1
    go_wp2_with ((with_reducible show Calls _ _ _ _ _); refine (number_sg a b c _).mono ?_; rintro e w2 ⟨rfl, b2⟩; have B2 := Lib.hid (B1.out.trans (b2.mono B1.out.size)); clear b2)
    go_ret
    exact ⟨by rw [HF.out]; rfl, B2.out⟩
   have h1d : decide (a ≤ z) = false := decide_eq_false h1
   by_cases h2 : 99 < a
   ·have h2d : decide (99 < a) = true := decide_eq_true h2
    have HF : Hid (riseB kSg l = false) := Lib.hid (riseB_false fun h => by
     have h3 := h i hir
     rw [KX.out] at h3
     omega)
    clear h1 h2
    go_wp2_with ((with_reducible show Calls _ _ _ _ _); refine (number_sg a b c _).mono ?_; rintro e w2 ⟨rfl, b2⟩; have B2 := Lib.hid (B1.out.trans (b2.mono B1.out.size)); clear b2)
    go_ret
    exact ⟨by rw [HF.out]; rfl, B2.out⟩
   have h2d : decide (99 < a) = false := decide_eq_false h2
   have NX : Hid (LastK kSg l (i + 1) a ∧ (∀ i' (hi : i' < i + 1) (hl : i' < l.length), 1 ≤ kSg l[i'] ∧ kSg l[i'] ≤ 99 ∧ ∀ j (hj : j + 1 = i'), kSg (l[j]'(by omega)) < kSg l[i'])) := Lib.hid (by
    refine ⟨.inr ⟨hir, by omega, KX.out.symm⟩, fun i' hi' hl => ?_⟩
    rcases Nat.lt_or_ge i' i with h | h
    ·exact HALL.out i' h hl
    ·obtain rfl : i' = i := by omega
     rw [KX.out]
     rcases HZ.out with ⟨rfl, hz0⟩ | ⟨hr, hp, hz0⟩
     ·exact ⟨by omega, by omega, fun j hj => by omega⟩
     ·have h3 := (HALL.out (i' - 1) (by omega) hr).1
      refine ⟨by omega, by omega, fun j hj => ?_⟩
      obtain rfl : j = i' - 1 := by omega
      omega)
   clear h1 h2
   go_wp2_with ((with_reducible show Calls _ _ _ _ _); refine (number_sg a b c _).mono ?_; rintro e w2 ⟨rfl, b2⟩; have B2 := Lib.hid (B1.out.trans (b2.mono B1.out.size)); clear b2)
   go_roundw
   case measure => simp [intOf]; omega
   case rel => exact ⟨i + 1, a, by omega, by go_num, rfl, NX.out.1, NX.out.2, B2.out⟩
  ·obtain rfl : i = n := by omega
   have hlt' : ¬ (i : Int) < i := by omega
   have HR : Hid (riseB kSg l = true) := Lib.hid (riseB_true fun a ha => HALL.out a (by rw [HN.out]; exact ha) ha)
   go_wp2_with fail
   go_ret
   exact ⟨by rw [HR.out]; rfl, BW.out⟩
set_option maxHeartbeats 4000000 in
theorem rising_rt (v : Value) (l : List Rt) (w : World) (h : RoutesIn w w.heap.size v l) :
  Calls Tryz.prog 84 #[v] w fun e w' => e = .returned (.bool (riseB kRt l)) ∧ Below w.heap.size w w' := by
 obtain ⟨A, c, n, rfl, hml, HN, HA⟩ := open_list h
 go_enter Tryz.func84, Tryz.ntmps84
 go_wp2_with fail
 go_loopw [3, 9] (fun s3 s9 wr => ∃ (i : Nat) (z : Int), i ≤ n ∧ s9 = .int .i64 i ∧ s3 = .int .i64 z ∧ LastK kRt l i z ∧ (∀ i' (hi : i' < i) (hl : i' < l.length), 1 ≤ kRt l[i'] ∧ kRt l[i'] ≤ 99 ∧ ∀ j (hj : j + 1 = i'), kRt (l[j]'(by omega)) < kRt l[i']) ∧ Below w.heap.size w wr) (fun _ s9 _ => n - (intOf s9).toNat)
 case atStart => exact ⟨0, 0, by omega, by go_num, by go_num, .inl ⟨rfl, rfl⟩, fun i' hi => absurd hi (by omega), Below.refl _ _⟩
 case round =>
  obtain ⟨i, z, hi, rfl, rfl, hz, hall, hb⟩ := hrel
  have HZ := Lib.hid hz
  have HALL := Lib.hid hall
  have BW := Lib.hid hb
  clear hall hb hz
  by_cases hlt : i < n
  ·have hlt' : (i : Int) < n := by omega
   have hir : i < l.length := by rw [← HN.out]; exact hlt
   obtain ⟨bk, off, rfl, hbk, hc0, hc1, hc2, hc6, u3, u4, u5, hc3, hc4, hc5, hr⟩ := ((HA.out.below routeR BW.out).more routeR BW.out.size).at hir
   obtain ⟨B3, d3, rfl, -, -⟩ := hr.path.slice
   obtain ⟨B4, d4, rfl, -, -⟩ := hr.over.slice
   obtain ⟨B5, d5, rfl, -, -⟩ := hr.flanks.slice
   obtain ⟨a, en, ex, lp, lo, lf, tm, hx⟩ : ∃ a en ex lp lo lf tm, l[i] = (⟨a, en, ex, lp, lo, lf, tm⟩ : Rt) := ⟨_, _, _, _, _, _, _, rfl⟩
   have HX := Lib.hid hx
   rw [hx] at hc0 hc1 hc2 hc3 hc4 hc5 hc6 hr
   dsimp only at hc0 hc1 hc2 hc3 hc4 hc5 hc6 hr
   obtain ⟨m3, e3⟩ : ∃ m, m = lp.length := ⟨_, rfl⟩
   obtain ⟨m4, e4⟩ : ∃ m, m = lo.length := ⟨_, rfl⟩
   obtain ⟨m5, e5⟩ : ∃ m, m = lf.length := ⟨_, rfl⟩
   rw [← e3] at hc3 hr
   rw [← e4] at hc4 hr
   rw [← e5] at hc5 hr
   have HR := Lib.hid hr
   have HM : Hid (m3 = lp.length ∧ m4 = lo.length ∧ m5 = lf.length) := Lib.hid ⟨e3, e4, e5⟩
   have hg0 : wr.cell? ⟨bk, off + i * 7, none⟩ = some (.int .i64 a) := hc0
   have hg1 : wr.cell? ⟨bk, off + i * 7 + 1, none⟩ = some (.int .i64 en) := hc1
   have hg2 : wr.cell? ⟨bk, off + i * 7 + 2, none⟩ = some (.int .i64 ex) := hc2
   have hg3 : wr.cell? ⟨bk, off + i * 7 + 3, none⟩ = some (.slice B3 m3 d3) := hc3
   have hg4 : wr.cell? ⟨bk, off + i * 7 + 4, none⟩ = some (.slice B4 m4 d4) := hc4
   have hg5 : wr.cell? ⟨bk, off + i * 7 + 5, none⟩ = some (.slice B5 m5 d5) := hc5
   have hg6 : wr.cell? ⟨bk, off + i * 7 + 6, none⟩ = some (.int .i64 tm) := hc6
   clear hc0 hc1 hc2 hc3 hc4 hc5 hc6 hx hbk hr e3 e4 e5
   obtain ⟨q, hq⟩ : ∃ x, x = wr.alloc (.cells #[.int .i64 a, .int .i64 en, .int .i64 ex, .slice B3 m3 d3, .slice B4 m4 d4, .slice B5 m5 d5, .int .i64 tm] 54) := ⟨_, rfl⟩
   have x1 := heap_alloc_self wr (.cells #[.int .i64 a, .int .i64 en, .int .i64 ex, .slice B3 m3 d3, .slice B4 m4 d4, .slice B5 m5 d5, .int .i64 tm] 54)
   have b1 := below_new wr (.cells #[.int .i64 a, .int .i64 en, .int .i64 ex, .slice B3 m3 d3, .slice B4 m4 d4, .slice B5 m5 d5, .int .i64 tm] 54)
   rw [← hq] at x1 b1
   go_upto_region 5 with fail
   rw [← hq]
   have X1 := Lib.hid x1
   have B1 := Lib.hid (BW.out.trans (b1.mono BW.out.size))
   generalize wr.heap.size = p1 at X1 ⊢
   clear x1 b1 hq hg0 hg1 hg2 hg3 hg4 hg5 hg6
   obtain ⟨k0, k1, k2, k3, k4, k5, k6⟩ := cell7_of X1.out
   have KX : Hid (kRt l[i] = a) := Lib.hid (by rw [HX.out])
   by_cases h1 : a ≤ z
   ·have h1d : decide (a ≤ z) = true := decide_eq_true h1
    have HF : Hid (riseB kRt l = false) := Lib.hid (riseB_false fun h => by
     have h2 := h i hir
     rw [KX.out] at h2
     rcases HZ.out with ⟨rfl, hz0⟩ | ⟨hr, hp, hz0⟩
     ·omega
     ·have := h2.2.2 (i - 1) (by omega)
      omega)
    clear h1
    go_wp2_with ((with_reducible show Calls _ _ _ _ _); refine (number_rt a en ex tm B3 B4 B5 m3 m4 m5 d3 d4 d5 _).mono ?_; rintro e w2 ⟨rfl, b2⟩; have B2 := Lib.hid (B1.out.trans (b2.mono B1.out.size)); clear b2)
    go_ret
    exact ⟨by rw [HF.out]; rfl, B2.out⟩
   have h1d : decide (a ≤ z) = false := decide_eq_false h1
   by_cases h2 : 99 < a
   ·have h2d : decide (99 < a) = true := decide_eq_true h2
    have HF : Hid (riseB kRt l = false) := Lib.hid (riseB_false fun h => by
     have h3 := h i hir
     rw [KX.out] at h3
     omega)
    clear h1 h2
    go_wp2_with ((with_reducible show Calls _ _ _ _ _); refine (number_rt a en ex tm B3 B4 B5 m3 m4 m5 d3 d4 d5 _).mono ?_; rintro e w2 ⟨rfl, b2⟩; have B2 := Lib.hid (B1.out.trans (b2.mono B1.out.size)); clear b2)
    go_ret
    exact ⟨by rw [HF.out]; rfl, B2.out⟩
   have h2d : decide (99 < a) = false := decide_eq_false h2
   have NX : Hid (LastK kRt l (i + 1) a ∧ (∀ i' (hi : i' < i + 1) (hl : i' < l.length), 1 ≤ kRt l[i'] ∧ kRt l[i'] ≤ 99 ∧ ∀ j (hj : j + 1 = i'), kRt (l[j]'(by omega)) < kRt l[i'])) := Lib.hid (by
    refine ⟨.inr ⟨hir, by omega, KX.out.symm⟩, fun i' hi' hl => ?_⟩
    rcases Nat.lt_or_ge i' i with h | h
    ·exact HALL.out i' h hl
    ·obtain rfl : i' = i := by omega
     rw [KX.out]
     rcases HZ.out with ⟨rfl, hz0⟩ | ⟨hr, hp, hz0⟩
     ·exact ⟨by omega, by omega, fun j hj => by omega⟩
     ·have h3 := (HALL.out (i' - 1) (by omega) hr).1
      refine ⟨by omega, by omega, fun j hj => ?_⟩
      obtain rfl : j = i' - 1 := by omega
      omega)
   clear h1 h2
   go_wp2_with ((with_reducible show Calls _ _ _ _ _); refine (number_rt a en ex tm B3 B4 B5 m3 m4 m5 d3 d4 d5 _).mono ?_; rintro e w2 ⟨rfl, b2⟩; have B2 := Lib.hid (B1.out.trans (b2.mono B1.out.size)); clear b2)
   go_roundw
   case measure => simp [intOf]; omega
   case rel => exact ⟨i + 1, a, by omega, by go_num, rfl, NX.out.1, NX.out.2, B2.out⟩
  ·obtain rfl : i = n := by omega
   have hlt' : ¬ (i : Int) < i := by omega
   have HR : Hid (riseB kRt l = true) := Lib.hid (riseB_true fun a ha => HALL.out a (by rw [HN.out]; exact ha) ha)
   go_wp2_with fail
   go_ret
   exact ⟨by rw [HR.out]; rfl, BW.out⟩
set_option maxHeartbeats 4000000 in
theorem find_pt (v : Value) (l : List Jn) (id : Int) (w : World) (h : JoinsIn w w.heap.size v l) :
  Calls Tryz.prog 80 #[v, .int .i64 id] w fun e w' => e = .returned (.tuple #[.agg #[.int .i64 (findV kPt l id (0, 0)).1, .int .i64 (findV kPt l id (0, 0)).2], .bool (findB kPt l id)]) ∧ Below w.heap.size w w' := by
 obtain ⟨A, c, n, rfl, hml, HN, HA⟩ := open_list h
 obtain ⟨q, hq⟩ : ∃ x, x = w.alloc (.cells #[.int .i64 0, .int .i64 0] 60) := ⟨_, rfl⟩
 have x1 := heap_alloc_self w (.cells #[.int .i64 0, .int .i64 0] 60)
 have b1 := below_new w (.cells #[.int .i64 0, .int .i64 0] 60)
 rw [← hq] at x1 b1
 go_enter Tryz.func80, Tryz.ntmps80
 go_upto_region 1 with fail
 rw [← hq]
 have X1 := Lib.hid x1
 have B1 := Lib.hid b1
 clear x1 b1 hq
 go_wp2_with fail
 go_loopw [11] (fun s11 wr => ∃ i : Nat, i ≤ n ∧ s11 = .int .i64 i ∧ (∀ j (hj : j < i) (hl : j < l.length), kPt l[j] ≠ id) ∧ wr.heap[w.heap.size]? = some (.cells #[.int .i64 0, .int .i64 0] 60 (0, 0)) ∧ Below w.heap.size w wr) (fun s11 _ => n - (intOf s11).toNat)
 case atStart => exact ⟨0, by omega, by go_num, fun j hj => absurd hj (by omega), X1.out, B1.out⟩
 case round =>
  obtain ⟨i, hi, rfl, hall, hx4, hb⟩ := hrel
  have HALL := Lib.hid hall
  have BW := Lib.hid hb
  have X4 := Lib.hid hx4
  clear hall hb hx4 X1 B1
  by_cases hlt : i < n
  ·have hlt' : (i : Int) < n := by omega
   have hir : i < l.length := by rw [← HN.out]; exact hlt
   obtain ⟨bk, off, rfl, hbk, hc0, hc1⟩ := (HA.out.below joinR BW.out).at hir
   obtain ⟨a, b, hx⟩ : ∃ a b, l[i] = (a, b) := ⟨_, _, rfl⟩
   have HX := Lib.hid hx
   rw [hx] at hc0 hc1
   have hg0 : wr.cell? ⟨bk, off + i * 2, none⟩ = some (.int .i64 a) := hc0
   have hg1 : wr.cell? ⟨bk, off + i * 2 + 1, none⟩ = some (.int .i64 b) := hc1
   clear hc0 hc1 hx hbk
   obtain ⟨q2, hq2⟩ : ∃ x, x = wr.alloc (.cells #[.int .i64 a, .int .i64 b] 60) := ⟨_, rfl⟩
   have x1 := heap_alloc_self wr (.cells #[.int .i64 a, .int .i64 b] 60)
   have b1 := below_new wr (.cells #[.int .i64 a, .int .i64 b] 60)
   rw [← hq2] at x1 b1
   go_upto_region 4 with fail
   rw [← hq2]
   have X7 := Lib.hid x1
   have X47 := Lib.hid ((b1.block _ (heap_lt X4.out)).trans X4.out)
   have B1W := Lib.hid (b1.mono BW.out.size)
   have B1 := Lib.hid (BW.out.trans (b1.mono BW.out.size))
   generalize wr.heap.size = p1 at X7 ⊢
   clear x1 b1 hq2 hg0 hg1
   obtain ⟨k0, k1⟩ := cell2_of X7.out
   have KX : Hid (kPt l[i] = a) := Lib.hid (by rw [HX.out])
   by_cases he : a = id
   ·have hd : (a == id) = true := by simpa using he
    have FY : Hid (findB kPt l id = true ∧ findV kPt l id (0, 0) = l[i]) := Lib.hid (find_yes hir (KX.out.trans he) fun j hj => HALL.out j hj (by omega))
    rw [HX.out] at FY
    clear he
    go_upto_region 5 with ((with_reducible show Calls _ _ _ _ _); refine (number_pt a b _).mono ?_; rintro e w2 ⟨rfl, b2⟩; have B2 := Lib.hid (B1.out.trans (b2.mono B1.out.size)); have B2W := Lib.hid (B1W.out.trans (b2.mono B1.out.size)); have X42 := Lib.hid ((b2.block _ (heap_lt X47.out)).trans X47.out); have X72 := Lib.hid ((b2.block _ (heap_lt X7.out)).trans X7.out); clear b2)
    clear k0 k1
    obtain ⟨k0, k1⟩ := cell2_of X72.out
    go_wp2_with ((with_reducible show wpList _ _ _ (⟨none, _, _, _, _, _⟩ :: _) _ _); refine wpList_store_rowS rfl _ (.tmp 4) (.tmp 19) rfl w.heap.size rfl (c' := #[.int .i64 a, .int .i64 b]) rfl X42.out infoPoint2 rfl (by simp [Value.oneCell']) ?_)
    exact bodyPost_ret (results_rowS_tmp (c := #[.int .i64 a, .int .i64 b]) rfl _ _ w.heap.size rfl (setRow_heap _ _ _ _ _ _ X42.out) Tryz.underlying60 infoPoint2 (.bool true) rfl) rfl ⟨by rw [FY.out.1, FY.out.2], below_setRow B2.out (Nat.le_refl _) _⟩
   ·have hd : (a == id) = false := by simpa using he
    have NX : Hid (∀ j (hj : j < i + 1) (hl : j < l.length), kPt l[j] ≠ id) := Lib.hid (fun j hj hl => by
     rcases Nat.lt_or_ge j i with h | h
     ·exact HALL.out j h hl
     ·obtain rfl : j = i := by omega
      rw [KX.out]; exact he)
    clear he
    go_wp2_with ((with_reducible show Calls _ _ _ _ _); refine (number_pt a b _).mono ?_; rintro e w2 ⟨rfl, b2⟩; have B2 := Lib.hid (B1.out.trans (b2.mono B1.out.size)); have X42 := Lib.hid ((b2.block _ (heap_lt X47.out)).trans X47.out); clear b2)
    go_roundw
    case measure => simp [intOf]; omega
    case rel => exact ⟨i + 1, by omega, by go_num, NX.out, X42.out, B2.out⟩
  ·obtain rfl : i = n := by omega
   have hlt' : ¬ (i : Int) < i := by omega
   have FN : Hid (findB kPt l id = false ∧ findV kPt l id (0, 0) = (0, 0)) := Lib.hid (find_no fun j hj => HALL.out j (by rw [HN.out]; exact hj) hj)
   obtain ⟨q8, hq8⟩ : ∃ x, x = wr.alloc (.cells #[.int .i64 0, .int .i64 0] 60) := ⟨_, rfl⟩
   have x1 := heap_alloc_self wr (.cells #[.int .i64 0, .int .i64 0] 60)
   have b1 := below_new wr (.cells #[.int .i64 0, .int .i64 0] 60)
   rw [← hq8] at x1 b1
   go_upto_region 8 with fail
   rw [← hq8]
   have X8 := Lib.hid x1
   have X48 := Lib.hid ((b1.block _ (heap_lt X4.out)).trans X4.out)
   have B8 := Lib.hid (BW.out.trans (b1.mono BW.out.size))
   generalize wr.heap.size = p1 at X8 ⊢
   clear x1 b1 hq8
   obtain ⟨k0, k1⟩ := cell2_of X8.out
   go_wp2_with ((with_reducible show wpList _ _ _ (⟨none, _, _, _, _, _⟩ :: _) _ _); refine wpList_store_rowS rfl _ (.tmp 4) (.tmp 21) rfl w.heap.size rfl (c' := #[.int .i64 0, .int .i64 0]) rfl X48.out infoPoint2 rfl (by simp [Value.oneCell']) ?_)
   exact bodyPost_ret (results_rowS_tmp (c := #[.int .i64 0, .int .i64 0]) rfl _ _ w.heap.size rfl (setRow_heap _ _ _ _ _ _ X48.out) Tryz.underlying60 infoPoint2 (.bool false) rfl) rfl ⟨by rw [FN.out.1, FN.out.2], below_setRow B8.out (Nat.le_refl _) _⟩
set_option maxHeartbeats 4000000 in
theorem find_sg (v : Value) (l : List Sg) (id : Int) (w : World) (h : SigsIn w w.heap.size v l) :
  Calls Tryz.prog 113 #[v, .int .i64 id] w fun e w' => e = .returned (.tuple #[.agg #[.int .i64 (findV kSg l id (0, 0, 0)).1, .int .i64 (findV kSg l id (0, 0, 0)).2.1, .int .i64 (findV kSg l id (0, 0, 0)).2.2], .bool (findB kSg l id)]) ∧ Below w.heap.size w w' := by
 obtain ⟨A, c, n, rfl, hml, HN, HA⟩ := open_list h
 obtain ⟨q, hq⟩ : ∃ x, x = w.alloc (.cells #[.int .i64 0, .int .i64 0, .int .i64 0] 69) := ⟨_, rfl⟩
 have x1 := heap_alloc_self w (.cells #[.int .i64 0, .int .i64 0, .int .i64 0] 69)
 have b1 := below_new w (.cells #[.int .i64 0, .int .i64 0, .int .i64 0] 69)
 rw [← hq] at x1 b1
 go_enter Tryz.func113, Tryz.ntmps113
 go_upto_region 1 with fail
 rw [← hq]
 have X1 := Lib.hid x1
 have B1 := Lib.hid b1
 clear x1 b1 hq
 go_wp2_with fail
 go_loopw [11] (fun s11 wr => ∃ i : Nat, i ≤ n ∧ s11 = .int .i64 i ∧ (∀ j (hj : j < i) (hl : j < l.length), kSg l[j] ≠ id) ∧ wr.heap[w.heap.size]? = some (.cells #[.int .i64 0, .int .i64 0, .int .i64 0] 69 (0, 0)) ∧ Below w.heap.size w wr) (fun s11 _ => n - (intOf s11).toNat)
 case atStart => exact ⟨0, by omega, by go_num, fun j hj => absurd hj (by omega), X1.out, B1.out⟩
 case round =>
  obtain ⟨i, hi, rfl, hall, hx4, hb⟩ := hrel
  have HALL := Lib.hid hall
  have BW := Lib.hid hb
  have X4 := Lib.hid hx4
  clear hall hb hx4 X1 B1
  by_cases hlt : i < n
  ·have hlt' : (i : Int) < n := by omega
   have hir : i < l.length := by rw [← HN.out]; exact hlt
   obtain ⟨bk, off, rfl, hbk, hc0, hc1, hc2⟩ := (HA.out.below sigR BW.out).at hir
   obtain ⟨a, b, c, hx⟩ : ∃ a b c, l[i] = (a, b, c) := ⟨_, _, _, rfl⟩
   have HX := Lib.hid hx
   rw [hx] at hc0 hc1 hc2
   have hg0 : wr.cell? ⟨bk, off + i * 3, none⟩ = some (.int .i64 a) := hc0
   have hg1 : wr.cell? ⟨bk, off + i * 3 + 1, none⟩ = some (.int .i64 b) := hc1
   have hg2 : wr.cell? ⟨bk, off + i * 3 + 2, none⟩ = some (.int .i64 c) := hc2
   clear hc0 hc1 hc2 hx hbk
   obtain ⟨q2, hq2⟩ : ∃ x, x = wr.alloc (.cells #[.int .i64 a, .int .i64 b, .int .i64 c] 69) := ⟨_, rfl⟩
   have x1 := heap_alloc_self wr (.cells #[.int .i64 a, .int .i64 b, .int .i64 c] 69)
   have b1 := below_new wr (.cells #[.int .i64 a, .int .i64 b, .int .i64 c] 69)
   rw [← hq2] at x1 b1
   go_upto_region 4 with fail
   rw [← hq2]
   have X7 := Lib.hid x1
   have X47 := Lib.hid ((b1.block _ (heap_lt X4.out)).trans X4.out)
   have B1W := Lib.hid (b1.mono BW.out.size)
   have B1 := Lib.hid (BW.out.trans (b1.mono BW.out.size))
   generalize wr.heap.size = p1 at X7 ⊢
   clear x1 b1 hq2 hg0 hg1 hg2
   obtain ⟨k0, k1, k2⟩ := cell3_of X7.out
   have KX : Hid (kSg l[i] = a) := Lib.hid (by rw [HX.out])
   by_cases he : a = id
   ·have hd : (a == id) = true := by simpa using he
    have FY : Hid (findB kSg l id = true ∧ findV kSg l id (0, 0, 0) = l[i]) := Lib.hid (find_yes hir (KX.out.trans he) fun j hj => HALL.out j hj (by omega))
    rw [HX.out] at FY
    clear he
    go_upto_region 5 with ((with_reducible show Calls _ _ _ _ _); refine (number_sg a b c _).mono ?_; rintro e w2 ⟨rfl, b2⟩; have B2 := Lib.hid (B1.out.trans (b2.mono B1.out.size)); have B2W := Lib.hid (B1W.out.trans (b2.mono B1.out.size)); have X42 := Lib.hid ((b2.block _ (heap_lt X47.out)).trans X47.out); have X72 := Lib.hid ((b2.block _ (heap_lt X7.out)).trans X7.out); clear b2)
    clear k0 k1 k2
    obtain ⟨k0, k1, k2⟩ := cell3_of X72.out
    go_wp2_with ((with_reducible show wpList _ _ _ (⟨none, _, _, _, _, _⟩ :: _) _ _); refine wpList_store_rowS rfl _ (.tmp 4) (.tmp 19) rfl w.heap.size rfl (c' := #[.int .i64 a, .int .i64 b, .int .i64 c]) rfl X42.out infoSig3 rfl (by simp [Value.oneCell']) ?_)
    exact bodyPost_ret (results_rowS_tmp (c := #[.int .i64 a, .int .i64 b, .int .i64 c]) rfl _ _ w.heap.size rfl (setRow_heap _ _ _ _ _ _ X42.out) Tryz.underlying69 infoSig3 (.bool true) rfl) rfl ⟨by rw [FY.out.1, FY.out.2], below_setRow B2.out (Nat.le_refl _) _⟩
   ·have hd : (a == id) = false := by simpa using he
    have NX : Hid (∀ j (hj : j < i + 1) (hl : j < l.length), kSg l[j] ≠ id) := Lib.hid (fun j hj hl => by
     rcases Nat.lt_or_ge j i with h | h
     ·exact HALL.out j h hl
     ·obtain rfl : j = i := by omega
      rw [KX.out]; exact he)
    clear he
    go_wp2_with ((with_reducible show Calls _ _ _ _ _); refine (number_sg a b c _).mono ?_; rintro e w2 ⟨rfl, b2⟩; have B2 := Lib.hid (B1.out.trans (b2.mono B1.out.size)); have X42 := Lib.hid ((b2.block _ (heap_lt X47.out)).trans X47.out); clear b2)
    go_roundw
    case measure => simp [intOf]; omega
    case rel => exact ⟨i + 1, by omega, by go_num, NX.out, X42.out, B2.out⟩
  ·obtain rfl : i = n := by omega
   have hlt' : ¬ (i : Int) < i := by omega
   have FN : Hid (findB kSg l id = false ∧ findV kSg l id (0, 0, 0) = (0, 0, 0)) := Lib.hid (find_no fun j hj => HALL.out j (by rw [HN.out]; exact hj) hj)
   obtain ⟨q8, hq8⟩ : ∃ x, x = wr.alloc (.cells #[.int .i64 0, .int .i64 0, .int .i64 0] 69) := ⟨_, rfl⟩
   have x1 := heap_alloc_self wr (.cells #[.int .i64 0, .int .i64 0, .int .i64 0] 69)
   have b1 := below_new wr (.cells #[.int .i64 0, .int .i64 0, .int .i64 0] 69)
   rw [← hq8] at x1 b1
   go_upto_region 8 with fail
   rw [← hq8]
   have X8 := Lib.hid x1
   have X48 := Lib.hid ((b1.block _ (heap_lt X4.out)).trans X4.out)
   have B8 := Lib.hid (BW.out.trans (b1.mono BW.out.size))
   generalize wr.heap.size = p1 at X8 ⊢
   clear x1 b1 hq8
   obtain ⟨k0, k1, k2⟩ := cell3_of X8.out
   go_wp2_with ((with_reducible show wpList _ _ _ (⟨none, _, _, _, _, _⟩ :: _) _ _); refine wpList_store_rowS rfl _ (.tmp 4) (.tmp 21) rfl w.heap.size rfl (c' := #[.int .i64 0, .int .i64 0, .int .i64 0]) rfl X48.out infoSig3 rfl (by simp [Value.oneCell']) ?_)
   exact bodyPost_ret (results_rowS_tmp (c := #[.int .i64 0, .int .i64 0, .int .i64 0]) rfl _ _ w.heap.size rfl (setRow_heap _ _ _ _ _ _ X48.out) Tryz.underlying69 infoSig3 (.bool false) rfl) rfl ⟨by rw [FN.out.1, FN.out.2], below_setRow B8.out (Nat.le_refl _) _⟩
end Go.Proofs.YtneeocnjfnneoaaGreat
