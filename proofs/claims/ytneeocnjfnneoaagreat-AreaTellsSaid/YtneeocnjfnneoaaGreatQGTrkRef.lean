/-
 The document's own functions of package track: At, Shaped, Lie, Great.
 Conditions: none.
-/
import Derived.Test.YtneeocnjfnneoaaGreatQGBase
import Derived.Laws.OwnMore
import Derived.Laws.AppendOwn
import Derived.Laws.AppendOwnNone
set_option linter.unusedVariables false
set_option linter.unusedSimpArgs false
set_option maxRecDepth 100000
namespace Go.Proofs.YtneeocnjfnneoaaGreat
open Go.RowKit

/-- A section's place; -1: there is none. -/
def atS (l : List Sec) (id : Int) : Int := match l.findIdx? (fun s => decide (s.1 = id)) with
 | some i => (i : Int)
 | none => -1
theorem find_none {l : List Sec} {id : Int} : (∀ j (h : j < l.length), l[j].1 ≠ id) → l.findIdx? (fun s => decide (s.1 = id)) = none := fun h => by
 rw [List.findIdx?_eq_none_iff]
 intro x hx
 obtain ⟨j, hj, rfl⟩ := List.getElem_of_mem hx
 exact decide_eq_false (h j hj)
theorem find_some {l : List Sec} {id : Int} {i : Nat} (hi : i < l.length) (he : l[i].1 = id) (h : ∀ j (h : j < i), (l[j]'(by omega)).1 ≠ id) : l.findIdx? (fun s => decide (s.1 = id)) = some i := by
 rw [List.findIdx?_eq_some_iff_getElem]
 exact ⟨hi, decide_eq_true he, fun j hj => by simpa using h j hj⟩
theorem atS_none {l : List Sec} {id : Int} (h : ∀ j (h : j < l.length), l[j].1 ≠ id) : atS l id = -1 := by rw [atS, find_none h]
theorem atS_some {l : List Sec} {id : Int} {i : Nat} (hi : i < l.length) (he : l[i].1 = id) (h : ∀ j (h : j < i), (l[j]'(by omega)).1 ≠ id) : atS l id = (i : Int) := by rw [atS, find_some hi he h]
def shapedB (s : Sec) : Bool := if s.2.1 = 0 then decide (s.2.2.length = 2) else decide (1 ≤ s.2.1) && (decide (s.2.1 ≤ 99) && decide (s.2.2.length = 3))
def lieS (pt a b : Int) : Int :=
 if pt = 0 then (if a = 0 ∧ b = 1 ∨ a = 1 ∧ b = 0 then 0 else -1)
 else if a = 0 ∧ (b = 1 ∨ b = 2) then b else if b = 0 ∧ (a = 1 ∨ a = 2) then a else -1

theorem rat_any (v : Value) (l : List Sec) (id : Int) (w : World) (h : SectsIn w w.heap.size v l) :
  Calls Tryz.prog 75 #[v, .int .i64 id] w fun e w' => e = .returned (.int .i64 (atS l id)) ∧ w' = w := by
 obtain ⟨A, c, n, rfl, hml, HN, HA⟩ := open_list h
 go_enter Tryz.func75, Tryz.ntmps75
 go_wp2_with fail
 go_loopw [5] (fun s5 wr => ∃ i : Nat, i ≤ n ∧ s5 = .int .i64 i ∧ (∀ j (hj : j < i) (hl : j < l.length), l[j].1 ≠ id) ∧ wr = w) (fun s5 _ => n - (intOf s5).toNat)
 case atStart => exact ⟨0, by omega, by go_num, fun j hj => absurd hj (by omega), rfl⟩
 case round =>
  obtain ⟨i, hi, rfl, hall, rfl⟩ := hrel
  have HALL := Lib.hid hall
  clear hall
  by_cases hlt : i < n
  ·have hlt' : (i : Int) < n := by omega
   have hir : i < l.length := by rw [← HN.out]; exact hlt
   obtain ⟨b, off, rfl, hb, hc0, -⟩ := HA.out.at hir
   have hcell : wr.cell? ⟨b, off + i * 3, none⟩ = some (.int .i64 l[i].1) := by simpa using hc0
   obtain ⟨z, hz⟩ : ∃ z, z = l[i].1 := ⟨_, rfl⟩
   rw [← hz] at hcell
   have HZ := Lib.hid hz
   clear hc0 hz
   by_cases he : z = id
   ·have HR : Hid (atS l id = (i : Int)) := Lib.hid (atS_some hir (by rw [← HZ.out]; exact he) fun j hj => HALL.out j hj (by omega))
    go_wp2_with fail
    go_ret
    exact ⟨by rw [HR.out]; rfl, rfl⟩
   ·have HS : Hid (∀ j (hj : j < i + 1) (hl : j < l.length), l[j].1 ≠ id) := Lib.hid (fun j hj hl => by
     rcases Nat.lt_or_ge j i with h | h
     ·exact HALL.out j h hl
     ·obtain rfl : j = i := by omega
      rw [← HZ.out]; exact he)
    go_wp2_with fail
    go_roundw
    case measure => simp [intOf]; omega
    case rel => exact ⟨i + 1, by omega, by go_num, HS.out, trivial⟩
  ·obtain rfl : i = n := by omega
   have hlt' : ¬ (i : Int) < i := by omega
   have HR : Hid (atS l id = -1) := Lib.hid (atS_none fun j hj => HALL.out j (by rw [HN.out]; exact hj) hj)
   go_wp2_with fail
   go_ret
   exact ⟨by rw [HR.out]; rfl, rfl⟩

theorem rshaped_any (v : Value) (s : Sec) (w : World) (h : SecV w w.heap.size v s) :
  Calls Tryz.prog 99 #[v] w fun e w' => e = .returned (.bool (shapedB s)) ∧ Below w.heap.size w w' := by
 obtain ⟨u, rfl, hu⟩ := h
 obtain ⟨A, c, rfl, -, -⟩ := hu.slice
 obtain ⟨id, pt, l⟩ := s
 obtain ⟨n, hn⟩ : ∃ n, n = l.length := ⟨_, rfl⟩
 have HS : Hid (shapedB (id, pt, l) = if pt = 0 then decide (n = 2) else decide (1 ≤ pt) && (decide (pt ≤ 99) && decide (n = 3))) := Lib.hid (by rw [hn]; rfl)
 have HB := Lib.hid (below_new w (.cells #[.int .i64 id, .int .i64 pt, .slice A n c] 67))
 dsimp only at hu ⊢
 rw [← hn]
 clear hu hn
 by_cases h0 : pt = 0
 ·subst h0
  have hs : shapedB (id, 0, l) = ((n : Int) == 2) := by rw [HS.out, if_pos rfl, Bool.eq_iff_iff, decide_eq_true_iff, beq_iff_eq]; omega
  have HR := Lib.hid hs
  clear hs
  go_enter Tryz.func99, Tryz.ntmps99
  go_wp2_with fail
  go_ret
  exact ⟨by rw [HR.out]; rfl, HB.out⟩
 ·by_cases h1 : 1 ≤ pt
  ·by_cases h2 : pt ≤ 99
   ·have hs : shapedB (id, pt, l) = ((n : Int) == 3) := by
     rw [HS.out, if_neg h0, decide_eq_true h1, decide_eq_true h2, Bool.true_and, Bool.true_and, Bool.eq_iff_iff, decide_eq_true_iff, beq_iff_eq]; omega
    have HR := Lib.hid hs
    clear hs
    go_enter Tryz.func99, Tryz.ntmps99
    go_wp2_with fail
    go_ret
    exact ⟨by rw [HR.out]; rfl, HB.out⟩
   ·have hs : shapedB (id, pt, l) = false := by rw [HS.out, if_neg h0, decide_eq_false h2, Bool.false_and, Bool.and_false]
    have hd2 : decide (pt ≤ 99) = false := decide_eq_false h2
    have HR := Lib.hid hs
    clear hs
    go_enter Tryz.func99, Tryz.ntmps99
    go_wp2_with fail
    go_ret
    exact ⟨by rw [HR.out]; rfl, HB.out⟩
  ·have hs : shapedB (id, pt, l) = false := by rw [HS.out, if_neg h0, decide_eq_false h1, Bool.false_and]
   have hd1 : decide (1 ≤ pt) = false := decide_eq_false h1
   have HR := Lib.hid hs
   clear hs
   go_enter Tryz.func99, Tryz.ntmps99
   go_wp2_with fail
   go_ret
   exact ⟨by rw [HR.out]; rfl, HB.out⟩

/-- Sections that are not great. -/
def Few (l : List Sec) : Prop := l.length ≤ 40 ∧ ∀ s ∈ l, s.2.2.length ≤ 20
theorem rgreat_any (v : Value) (l : List Sec) (w : World) (h : SectsIn w w.heap.size v l) :
  Calls Tryz.prog 37 #[v] w fun e w' => (∃ g : Bool, e = .returned (.bool g) ∧ (g = false → Few l)) ∧ w' = w := by
 obtain ⟨A, c, n, rfl, hml, HN, HA⟩ := open_list h
 go_enter Tryz.func37, Tryz.ntmps37
 go_wp2_with fail
 go_loopw [3] (fun s3 wr => ∃ i : Nat, i ≤ n ∧ s3 = .int .i64 i ∧ (∀ j (hj : j < i) (hl : j < l.length), l[j].2.2.length ≤ 20) ∧ wr = w) (fun s3 _ => n - (intOf s3).toNat)
 case atStart => exact ⟨0, by omega, by go_num, fun j hj => absurd hj (by omega), rfl⟩
 case round =>
  obtain ⟨i, hi, rfl, hall, rfl⟩ := hrel
  have HALL := Lib.hid hall
  clear hall
  by_cases hlt : i < n
  ·have hlt' : decide ((i : Int) < n) = true := decide_eq_true (by omega)
   have hir : i < l.length := by rw [← HN.out]; exact hlt
   by_cases h40 : i < 40
   ·have h40' : decide ((i : Int) < 40) = true := decide_eq_true (by omega)
    obtain ⟨b, off, rfl, hb, hc0, hc1, u, hc2, hu⟩ := HA.out.at hir
    obtain ⟨Au, cu, rfl, hul, hum⟩ := hu.slice
    obtain ⟨k, hk⟩ : ∃ k, k = l[i].2.2.length := ⟨_, rfl⟩
    rw [← hk] at hc2
    have HK := Lib.hid hk
    have hkm : k ≤ 9223372036854775807 := by unfold maxLen at hum; omega
    have hcell : wr.cell? ⟨b, off + i * 3 + 2, none⟩ = some (.slice Au k cu) := hc2
    clear hc0 hc1 hc2 hu hul hum hk
    by_cases h20 : 20 < k
    ·have h20' : (20 : Int) < k := by omega
     go_wp2_with fail
     go_ret
     exact ⟨⟨true, rfl, fun h => by cases h⟩, rfl⟩
    ·have h20' : ¬ (20 : Int) < k := by omega
     have HS : Hid (∀ j (hj : j < i + 1) (hl : j < l.length), l[j].2.2.length ≤ 20) := Lib.hid (fun j hj hl => by
      rcases Nat.lt_or_ge j i with h | h
      ·exact HALL.out j h hl
      ·obtain rfl : j = i := by omega
       rw [← HK.out]; omega)
     go_wp2_with fail
     go_roundw
     case measure => simp [intOf]; omega
     case rel => exact ⟨i + 1, by omega, by go_num, HS.out, trivial⟩
   ·have h40' : decide ((i : Int) < 40) = false := decide_eq_false (by omega)
    have hn40 : (40 : Int) < n := by omega
    go_wp2_with fail
    go_ret
    exact ⟨⟨true, rfl, fun h => by cases h⟩, rfl⟩
  ·obtain rfl : i = n := by omega
   have hlt' : decide ((i : Int) < i) = false := decide_eq_false (by omega)
   have HE : Hid (∀ s ∈ l, s.2.2.length ≤ 20) := Lib.hid (fun s hs => by
    obtain ⟨j, hj, rfl⟩ := List.getElem_of_mem hs
    exact HALL.out j (by rw [HN.out]; exact hj) hj)
   by_cases h40 : 40 < i
   ·have h40' : (40 : Int) < i := by omega
    go_wp2_with fail
    go_ret
    exact ⟨⟨true, rfl, fun h => by cases h⟩, rfl⟩
   ·have h40' : ¬ (40 : Int) < i := by omega
    have h40d : decide ((40 : Int) < i) = false := decide_eq_false h40'
    have HL : Hid (l.length ≤ 40) := Lib.hid (by rw [← HN.out]; omega)
    go_wp2_with fail
    go_ret
    exact ⟨.inl ⟨rfl, HL.out, HE.out⟩, rfl⟩
theorem infoJoin2 : (Tryz.prog.info? 85).map (·.size) = some 2 := by kernel_rfl
def joinedB (l : List Sec) (s : Sec) (k : Nat) : Bool :=
 if (s.2.2.getD k (0, 0)).1 = 0 ∧ (s.2.2.getD k (0, 0)).2 = 0 then true
 else if atS l (s.2.2.getD k (0, 0)).1 < 0 ∨ (s.2.2.getD k (0, 0)).2 < 0 ∨ ((l.getD (atS l (s.2.2.getD k (0, 0)).1).toNat (0, 0, [])).2.2.length : Int) ≤ (s.2.2.getD k (0, 0)).2 ∨ ((s.2.2.getD k (0, 0)).1 = s.1 ∧ (s.2.2.getD k (0, 0)).2 = (k : Int)) then false
 else decide ((l.getD (atS l (s.2.2.getD k (0, 0)).1).toNat (0, 0, [])).2.2.getD (s.2.2.getD k (0, 0)).2.toNat (0, 0) = (s.1, (k : Int)))
theorem atS_cases (l : List Sec) (id : Int) : atS l id = -1 ∨ ∃ (i : Nat) (h : i < l.length), atS l id = (i : Int) ∧ l[i].1 = id := by
 rw [atS]
 cases h : l.findIdx? (fun s => decide (s.1 = id)) with
 | none => exact .inl rfl
 | some i =>
  obtain ⟨hi, he, _⟩ := List.findIdx?_eq_some_iff_getElem.1 h
  exact .inr ⟨i, hi, rfl, of_decide_eq_true he⟩

theorem joined_case {l : List Sec} {s : Sec} {k : Nat} {a b : Int} (hj : s.2.2.getD k (0, 0) = (a, b)) :
  joinedB l s k = if a = 0 ∧ b = 0 then true else if atS l a < 0 ∨ b < 0 ∨ ((l.getD (atS l a).toNat (0, 0, [])).2.2.length : Int) ≤ b ∨ (a = s.1 ∧ b = (k : Int)) then false
   else decide ((l.getD (atS l a).toNat (0, 0, [])).2.2.getD b.toNat (0, 0) = (s.1, (k : Int))) := by rw [joinedB, hj]

set_option maxHeartbeats 8000000 in
theorem rjoined_any (v sv : Value) (l : List Sec) (s : Sec) (k : Nat) (w : World) (h : SectsIn w w.heap.size v l) (hs : SecV w w.heap.size sv s) (hk : k < s.2.2.length) :
  Calls Tryz.prog 100 #[v, sv, .int .i64 (k : Int)] w fun e w' => e = .returned (.bool (joinedB l s k)) ∧ Below w.heap.size w w' := by
 have H := Lib.hid h
 obtain ⟨A, c, rfl, hcl, hcm⟩ := h.slice
 obtain ⟨u, rfl, hu⟩ := hs
 obtain ⟨Au, cu, rfl, hul, hum⟩ := hu.slice
 obtain ⟨id, pt, es⟩ := s
 dsimp only at hu hk hul ⊢
 obtain ⟨n, hn⟩ : ∃ n, n = l.length := ⟨_, rfl⟩
 have HN := Lib.hid hn
 rw [← hn]
 have HA := Lib.hid (show SectsIn w w.heap.size (.slice A n c) l by rw [hn]; exact H.out)
 obtain ⟨bk, ok_, rfl, hbk, hj0, hj1⟩ := hu.at hk
 have hjd : es.getD k (0, 0) = es[k] := by rw [List.getD_eq_getElem?_getD, List.getElem?_eq_getElem hk]; rfl
 obtain ⟨a, b, hab⟩ : ∃ a b, es[k] = (a, b) := ⟨_, _, rfl⟩
 have HJ := Lib.hid (joined_case (l := l) (s := (id, pt, es)) (k := k) (hjd.trans hab))
 rw [hab] at hj0 hj1
 dsimp only at hj0 hj1
 obtain ⟨ne, hne⟩ : ∃ ne, ne = es.length := ⟨_, rfl⟩
 have hkn : (k : Int) < ne := by rw [hne]; omega
 have hnm : ne ≤ 9223372036854775807 := by unfold maxLen at hum; omega
 rw [← hne]
 have hx0 : w.cell? ⟨bk, ok_ + k * 2, none⟩ = some (.int .i64 a) := hj0
 have hx1 : w.cell? ⟨bk, ok_ + k * 2 + 1, none⟩ = some (.int .i64 b) := hj1
 obtain ⟨q4, hq4⟩ : ∃ q4, q4 = w.alloc (.cells #[.int .i64 id, .int .i64 pt, .slice (some ⟨bk, ok_, none⟩) ne cu] 67) := ⟨_, rfl⟩
 have hx4 := heap_alloc_self w (.cells #[.int .i64 id, .int .i64 pt, .slice (some ⟨bk, ok_, none⟩) ne cu] 67)
 have hb4 := below_new w (.cells #[.int .i64 id, .int .i64 pt, .slice (some ⟨bk, ok_, none⟩) ne cu] 67)
 rw [← hq4] at hx4 hb4
 have hy0 := (hb4.cell (p := ⟨bk, ok_ + k * 2, none⟩) hbk).trans hx0
 have hy1 := (hb4.cell (p := ⟨bk, ok_ + k * 2 + 1, none⟩) hbk).trans hx1
 have Q4 := Lib.hid hq4
 clear hj0 hj1 hx0 hx1 hjd hab hne hcl hcm hul hum hu hq4 hk hn h
 go_enter Tryz.func100, Tryz.ntmps100
 go_upto_region 1 with fail
 rw [← Q4.out]
 clear Q4
 obtain ⟨k0, k1, k2⟩ := cell3_of hx4
 go_upto_region 2 with fail
 have hx7 := heap_alloc_self q4 (.cells #[.int .i64 a, .int .i64 b] 85)
 have hb7 := below_new q4 (.cells #[.int .i64 a, .int .i64 b] 85)
 obtain ⟨q, hq⟩ : ∃ q, q = q4.alloc (.cells #[.int .i64 a, .int .i64 b] 85) := ⟨_, rfl⟩
 rw [← hq] at hx7 hb7 ⊢
 have X7 := Lib.hid hx7
 have X4 := Lib.hid ((hb7.block _ (heap_lt hx4)).trans hx4)
 have QB := Lib.hid (hb4.trans (hb7.mono hb4.size))
 have QD := Lib.hid (Below.refl q.heap.size q).drew
 generalize q4.heap.size = p7 at X7 ⊢
 clear hx7 hb7 hx4 hb4 hy0 hy1 k0 k1 k2 hq hbk
 obtain ⟨k0, k1⟩ := cell2_of X7.out
 go_cut [22] from 15 to 22 (fun s22 wx => s22 = .bool (decide (a = 0 ∧ b = 0)) ∧ wx = q)
 case first =>
  by_cases ha : a = 0
  ·subst ha
   by_cases hb : b = 0
   ·subst hb
    go_wp2_with fail
    go_meet
    exact ⟨by simp, rfl⟩
   ·have hbb : (b == 0) = false := by simpa using hb
    have HD : Hid (decide ((0 : Int) = 0 ∧ b = 0) = false) := Lib.hid (decide_eq_false fun h => hb h.2)
    clear hb
    go_wp2_with fail
    go_meet
    exact ⟨by rw [HD.out], rfl⟩
  ·have haa : (a == 0) = false := by simpa using ha
   have HD : Hid (decide (a = 0 ∧ b = 0) = false) := Lib.hid (decide_eq_false fun h => ha h.1)
   clear ha
   go_wp2_with fail
   go_meet
   exact ⟨by rw [HD.out], rfl⟩
 case rest =>
  obtain ⟨rfl, rfl⟩ := hcut
  obtain ⟨q, hq⟩ : ∃ q : World, q = wc := ⟨_, rfl⟩
  subst hq
  by_cases hz : a = 0 ∧ b = 0
  ·have HR : Hid (joinedB l (id, pt, es) k = true) := Lib.hid (by rw [HJ.out, if_pos hz])
   rw [decide_eq_true hz]
   clear hz
   go_wp2_with fail
   go_ret
   exact ⟨by rw [HR.out]; rfl, QB.out⟩
  ·rw [decide_eq_false hz]
   have HJ2 := Lib.hid (HJ.out.trans (if_neg hz))
   clear hz
   go_wp2_with fail
   refine (rat_any _ l a q ((HA.out.below secR_ QB.out).more secR_ QB.out.size)).mono ?_
   rintro e w' ⟨rfl, hw'⟩
   obtain rfl : q = w' := hw'.symm
   clear k0 k1
   rcases atS_cases l a with hi | ⟨i, hil, hi, hid⟩
   ·have HR : Hid (joinedB l (id, pt, es) k = false) := Lib.hid (by rw [HJ2.out, if_pos (.inl (by omega))])
    rw [hi]
    clear hi
    go_wp2_with fail
    refine wp_region_held_drew (S := fun v => Below q.heap.size q v) (by kernel_rfl) QD.out (fun hHeld => ?_)
    refine tk 0 hHeld ?_;refine tk 1 hHeld ?_;refine tk 2 hHeld ?_;refine tks 3 hHeld ?_;refine tks 4 hHeld ?_;refine tks 5 hHeld ?_;refine tk 6 hHeld ?_;refine tk 7 hHeld ?_;refine tks 8 hHeld ?_;refine tks 9 hHeld ?_;refine tks 10 hHeld ?_;refine tks 11 hHeld ?_;refine tks 12 hHeld ?_;refine tks 13 hHeld ?_;refine tks 14 hHeld ?_;refine tks 15 hHeld ?_;refine tks 16 hHeld ?_;refine tk 17 hHeld ?_;refine tk 18 hHeld ?_;refine tks 19 hHeld ?_;refine tks 20 hHeld ?_;refine tks 21 hHeld ?_;refine tks 22 hHeld ?_;refine tks 23 hHeld ?_;refine tks 24 hHeld ?_;refine tks 25 hHeld ?_;refine tks 26 hHeld ?_;refine tks 27 hHeld ?_;refine tks 28 hHeld ?_;refine tks 29 hHeld ?_;refine tk 30 hHeld ?_
    refine wpAnyH_done (by kernel_rfl) ?_ _
    have HB := Lib.hid (QB.out.trans (QD.out.mono QB.out.size))
    go_wp2_with fail
    go_ret
    exact ⟨by rw [HR.out]; rfl, HB.out⟩
   ·obtain ⟨bl, ol, rfl, hbl, -, -, ul, hc2, hul⟩ := ((HA.out.below secR_ QB.out).more secR_ QB.out.size).at hil
    obtain ⟨Al, cl, rfl, hlc, hlm⟩ := hul.slice
    obtain ⟨ml, hml⟩ : ∃ ml, ml = l[i].2.2.length := ⟨_, rfl⟩
    have hgd : (l.getD i (0, 0, [])).2.2 = l[i].2.2 := by rw [List.getD_eq_getElem?_getD, List.getElem?_eq_getElem hil]; rfl
    have HLS : Hid (ml = l[i].2.2.length) := Lib.hid hml
    have HUL : Hid (JoinsIn q q.heap.size (.slice Al ml cl) l[i].2.2) := Lib.hid (by rw [hml]; exact hul)
    rw [← hml] at hc2 hlc
    have hmlm : ml ≤ 9223372036854775807 := by unfold maxLen at hlm; omega
    have hin : (i : Int) < n := by rw [HN.out]; omega
    have hi0 : decide ((i : Int) < 0) = false := decide_eq_false (by omega)
    have LBL := Lib.hid hbl
    have LC2 : Hid (q.cell? ⟨bl, ol + i * 3 + 2, none⟩ = some (.slice Al ml cl)) := Lib.hid hc2
    obtain ⟨rf, hrf⟩ : ∃ rf : Bool, rf = decide (b < 0 ∨ (ml : Int) ≤ b ∨ (a = id ∧ b = (k : Int))) := ⟨_, rfl⟩
    have HR2 := Lib.hid hrf
    have HJ3 : Hid (joinedB l (id, pt, es) k = if b < 0 ∨ (ml : Int) ≤ b ∨ (a = id ∧ b = (k : Int)) then false else decide (l[i].2.2.getD b.toNat (0, 0) = (id, (k : Int)))) := Lib.hid (by
     rw [HJ2.out, hi, Int.toNat_natCast, hgd, hml]
     by_cases hc : b < 0 ∨ (l[i].2.2.length : Int) ≤ b ∨ (a = id ∧ b = (k : Int))
     ·rw [if_pos hc, if_pos (.inr hc)]
     ·rw [if_neg hc, if_neg (fun h => h.elim (fun h => absurd h (by omega)) hc)])
    rw [hi]
    clear hi hc2 hul hlm hlc hml hgd hbl hrf
    go_upto_region 5 with fail
    go_cut [57] from 27 to 57 (fun s57 wx => s57 = .bool rf ∧ Below q.heap.size q wx)
    case first =>
     by_cases hb0 : b < 0
     ·have HRF : Hid (rf = true) := Lib.hid (by rw [HR2.out, decide_eq_true (.inl hb0)])
      have hbd : decide (b < 0) = true := decide_eq_true hb0
      refine wp_region_held_drew (S := fun v => Below q.heap.size q v) (by kernel_rfl) QD.out (fun hHeld => ?_)
      refine tk 0 hHeld ?_;refine tk 1 hHeld ?_;refine tk 2 hHeld ?_
      refine wpAnyH_take (i := 3) (v := ?_) rfl (by kernel_rfl) (by kernel_rfl) (by kernel_rfl) (fun _ _ _ h => h) (Or.inl ⟨by rfl, ?_⟩) hHeld ?_
      rotate_left
      ·intro w' hSw; obtain ⟨cu0, cu1⟩ := cell2_of ((hSw.block _ (heap_lt X7.out)).trans X7.out); obtain ⟨cv0, cv1, cv2⟩ := cell3_of ((hSw.block _ (heap_lt X4.out)).trans X4.out); go_simp; try with_reducible rfl
      simp only [zn, Act.put]
      refine wpAnyH_take (i := 4) (v := ?_) rfl (by kernel_rfl) (by kernel_rfl) (by kernel_rfl) (fun _ _ _ h => h) (Or.inl ⟨by rfl, ?_⟩) hHeld ?_
      rotate_left
      ·intro w' hSw; obtain ⟨cu0, cu1⟩ := cell2_of ((hSw.block _ (heap_lt X7.out)).trans X7.out); obtain ⟨cv0, cv1, cv2⟩ := cell3_of ((hSw.block _ (heap_lt X4.out)).trans X4.out); go_simp; try with_reducible rfl
      simp only [zn, Act.put]
      refine tk 5 hHeld ?_;refine tk 6 hHeld ?_;refine tk 7 hHeld ?_;refine tks 8 hHeld ?_;refine tks 9 hHeld ?_;refine tks 10 hHeld ?_;refine tks 11 hHeld ?_;refine tks 12 hHeld ?_;refine tks 13 hHeld ?_;refine tks 14 hHeld ?_;refine tks 15 hHeld ?_;refine tks 16 hHeld ?_;refine tk 17 hHeld ?_;refine tk 18 hHeld ?_;refine tks 19 hHeld ?_;refine tks 20 hHeld ?_;refine tks 21 hHeld ?_;refine tks 22 hHeld ?_;refine tks 23 hHeld ?_;refine tks 24 hHeld ?_;refine tks 25 hHeld ?_;refine tks 26 hHeld ?_;refine tks 27 hHeld ?_;refine tks 28 hHeld ?_;refine tks 29 hHeld ?_;refine tk 30 hHeld ?_
      refine wpAnyH_done (by kernel_rfl) ?_ _
      go_wp2_with fail
      go_meet
      exact ⟨by rw [HRF.out], QD.out⟩
     ·have hbd : decide (b < 0) = false := decide_eq_false hb0
      by_cases hbm : (ml : Int) ≤ b
      ·have HRF : Hid (rf = true) := Lib.hid (by rw [HR2.out, decide_eq_true (.inr (.inl hbm))])
       have hbmd : decide ((ml : Int) ≤ b) = true := decide_eq_true hbm
       refine wp_region_held_drew (S := fun v => Below q.heap.size q v) (by kernel_rfl) QD.out (fun hHeld => ?_)
       refine tk 0 hHeld ?_;refine tk 1 hHeld ?_;refine tk 2 hHeld ?_
       refine wpAnyH_take (i := 3) (v := ?_) rfl (by kernel_rfl) (by kernel_rfl) (by kernel_rfl) (fun _ _ _ h => h) (Or.inl ⟨by rfl, ?_⟩) hHeld ?_
       rotate_left
       ·intro w' hSw; obtain ⟨cu0, cu1⟩ := cell2_of ((hSw.block _ (heap_lt X7.out)).trans X7.out); obtain ⟨cv0, cv1, cv2⟩ := cell3_of ((hSw.block _ (heap_lt X4.out)).trans X4.out); go_simp; try with_reducible rfl
       simp only [zn, Act.put]
       refine wpAnyH_take (i := 4) (v := ?_) rfl (by kernel_rfl) (by kernel_rfl) (by kernel_rfl) (fun _ _ _ h => h) (Or.inl ⟨by rfl, ?_⟩) hHeld ?_
       rotate_left
       ·intro w' hSw; obtain ⟨cu0, cu1⟩ := cell2_of ((hSw.block _ (heap_lt X7.out)).trans X7.out); obtain ⟨cv0, cv1, cv2⟩ := cell3_of ((hSw.block _ (heap_lt X4.out)).trans X4.out); go_simp; try with_reducible rfl
       simp only [zn, Act.put]
       refine tk 5 hHeld ?_;refine tk 6 hHeld ?_;refine tk 7 hHeld ?_
       refine wpAnyH_take (i := 8) (v := ?_) rfl (by kernel_rfl) (by kernel_rfl) (by kernel_rfl) (fun _ _ _ h => h) (Or.inl ⟨by rfl, ?_⟩) hHeld ?_
       rotate_left
       ·intro w' hSw; obtain ⟨cu0, cu1⟩ := cell2_of ((hSw.block _ (heap_lt X7.out)).trans X7.out); obtain ⟨cv0, cv1, cv2⟩ := cell3_of ((hSw.block _ (heap_lt X4.out)).trans X4.out); go_simp; try with_reducible rfl
       simp only [zn, Act.put]
       refine wpAnyH_take (i := 9) (v := ?_) rfl (by kernel_rfl) (by kernel_rfl) (by kernel_rfl) (fun _ _ _ h => h) (Or.inl ⟨by rfl, ?_⟩) hHeld ?_
       rotate_left
       ·intro w' hSw; obtain ⟨cu0, cu1⟩ := cell2_of ((hSw.block _ (heap_lt X7.out)).trans X7.out); obtain ⟨cv0, cv1, cv2⟩ := cell3_of ((hSw.block _ (heap_lt X4.out)).trans X4.out); go_simp; try with_reducible rfl
       simp only [zn, Act.put]
       refine tk 10 hHeld ?_;refine tk 11 hHeld ?_;refine tk 12 hHeld ?_;refine tk 13 hHeld ?_;refine tkc 14 hHeld (fun w' hSw => (hSw.cell (p := ⟨bl, ol + i * 3 + 2, none⟩) LBL.out).trans LC2.out) ?_;refine tk 15 hHeld ?_;refine tk 16 hHeld ?_;refine tk 17 hHeld ?_;refine tk 18 hHeld ?_;refine tks 19 hHeld ?_;refine tks 20 hHeld ?_;refine tks 21 hHeld ?_;refine tks 22 hHeld ?_;refine tks 23 hHeld ?_;refine tks 24 hHeld ?_;refine tks 25 hHeld ?_;refine tks 26 hHeld ?_;refine tks 27 hHeld ?_;refine tks 28 hHeld ?_;refine tks 29 hHeld ?_;refine tk 30 hHeld ?_
       refine wpAnyH_done (by kernel_rfl) ?_ _
       go_wp2_with fail
       go_meet
       exact ⟨by rw [HRF.out], QD.out⟩
      ·have hbmd : decide ((ml : Int) ≤ b) = false := decide_eq_false hbm
       by_cases hai : a = id
       ·have haid : (a == id) = true := by simpa using hai
        by_cases hbk : b = (k : Int)
        ·have hbkd : (b == (k : Int)) = true := by simpa using hbk
         have HRF : Hid (rf = true) := Lib.hid (by rw [HR2.out, decide_eq_true (.inr (.inr ⟨hai, hbk⟩))])
         clear hai hbk
         refine wp_region_held_drew (S := fun v => Below q.heap.size q v) (by kernel_rfl) QD.out (fun hHeld => ?_)
         refine tk 0 hHeld ?_;refine tk 1 hHeld ?_;refine tk 2 hHeld ?_
         refine wpAnyH_take (i := 3) (v := ?_) rfl (by kernel_rfl) (by kernel_rfl) (by kernel_rfl) (fun _ _ _ h => h) (Or.inl ⟨by rfl, ?_⟩) hHeld ?_
         rotate_left
         ·intro w' hSw; obtain ⟨cu0, cu1⟩ := cell2_of ((hSw.block _ (heap_lt X7.out)).trans X7.out); obtain ⟨cv0, cv1, cv2⟩ := cell3_of ((hSw.block _ (heap_lt X4.out)).trans X4.out); go_simp; try with_reducible rfl
         simp only [zn, Act.put]
         refine wpAnyH_take (i := 4) (v := ?_) rfl (by kernel_rfl) (by kernel_rfl) (by kernel_rfl) (fun _ _ _ h => h) (Or.inl ⟨by rfl, ?_⟩) hHeld ?_
         rotate_left
         ·intro w' hSw; obtain ⟨cu0, cu1⟩ := cell2_of ((hSw.block _ (heap_lt X7.out)).trans X7.out); obtain ⟨cv0, cv1, cv2⟩ := cell3_of ((hSw.block _ (heap_lt X4.out)).trans X4.out); go_simp; try with_reducible rfl
         simp only [zn, Act.put]
         refine tk 5 hHeld ?_;refine tk 6 hHeld ?_;refine tk 7 hHeld ?_
         refine wpAnyH_take (i := 8) (v := ?_) rfl (by kernel_rfl) (by kernel_rfl) (by kernel_rfl) (fun _ _ _ h => h) (Or.inl ⟨by rfl, ?_⟩) hHeld ?_
         rotate_left
         ·intro w' hSw; obtain ⟨cu0, cu1⟩ := cell2_of ((hSw.block _ (heap_lt X7.out)).trans X7.out); obtain ⟨cv0, cv1, cv2⟩ := cell3_of ((hSw.block _ (heap_lt X4.out)).trans X4.out); go_simp; try with_reducible rfl
         simp only [zn, Act.put]
         refine wpAnyH_take (i := 9) (v := ?_) rfl (by kernel_rfl) (by kernel_rfl) (by kernel_rfl) (fun _ _ _ h => h) (Or.inl ⟨by rfl, ?_⟩) hHeld ?_
         rotate_left
         ·intro w' hSw; obtain ⟨cu0, cu1⟩ := cell2_of ((hSw.block _ (heap_lt X7.out)).trans X7.out); obtain ⟨cv0, cv1, cv2⟩ := cell3_of ((hSw.block _ (heap_lt X4.out)).trans X4.out); go_simp; try with_reducible rfl
         simp only [zn, Act.put]
         refine tk 10 hHeld ?_;refine tk 11 hHeld ?_;refine tk 12 hHeld ?_;refine tk 13 hHeld ?_;refine tkc 14 hHeld (fun w' hSw => (hSw.cell (p := ⟨bl, ol + i * 3 + 2, none⟩) LBL.out).trans LC2.out) ?_;refine tk 15 hHeld ?_;refine tk 16 hHeld ?_;refine tk 17 hHeld ?_;refine tk 18 hHeld ?_
         refine wpAnyH_take (i := 19) (v := ?_) rfl (by kernel_rfl) (by kernel_rfl) (by kernel_rfl) (fun _ _ _ h => h) (Or.inl ⟨by rfl, ?_⟩) hHeld ?_
         rotate_left
         ·intro w' hSw; obtain ⟨cu0, cu1⟩ := cell2_of ((hSw.block _ (heap_lt X7.out)).trans X7.out); obtain ⟨cv0, cv1, cv2⟩ := cell3_of ((hSw.block _ (heap_lt X4.out)).trans X4.out); go_simp; try with_reducible rfl
         simp only [zn, Act.put]
         refine wpAnyH_take (i := 20) (v := ?_) rfl (by kernel_rfl) (by kernel_rfl) (by kernel_rfl) (fun _ _ _ h => h) (Or.inl ⟨by rfl, ?_⟩) hHeld ?_
         rotate_left
         ·intro w' hSw; obtain ⟨cu0, cu1⟩ := cell2_of ((hSw.block _ (heap_lt X7.out)).trans X7.out); obtain ⟨cv0, cv1, cv2⟩ := cell3_of ((hSw.block _ (heap_lt X4.out)).trans X4.out); go_simp; try with_reducible rfl
         simp only [zn, Act.put]
         refine wpAnyH_take (i := 21) (v := ?_) rfl (by kernel_rfl) (by kernel_rfl) (by kernel_rfl) (fun _ _ _ h => h) (Or.inl ⟨by rfl, ?_⟩) hHeld ?_
         rotate_left
         ·intro w' hSw; obtain ⟨cu0, cu1⟩ := cell2_of ((hSw.block _ (heap_lt X7.out)).trans X7.out); obtain ⟨cv0, cv1, cv2⟩ := cell3_of ((hSw.block _ (heap_lt X4.out)).trans X4.out); go_simp; try with_reducible rfl
         simp only [zn, Act.put]
         refine wpAnyH_take (i := 22) (v := ?_) rfl (by kernel_rfl) (by kernel_rfl) (by kernel_rfl) (fun _ _ _ h => h) (Or.inl ⟨by rfl, ?_⟩) hHeld ?_
         rotate_left
         ·intro w' hSw; obtain ⟨cu0, cu1⟩ := cell2_of ((hSw.block _ (heap_lt X7.out)).trans X7.out); obtain ⟨cv0, cv1, cv2⟩ := cell3_of ((hSw.block _ (heap_lt X4.out)).trans X4.out); go_simp; try with_reducible rfl
         simp only [zn, Act.put]
         refine tk 23 hHeld ?_;refine tk 24 hHeld ?_
         refine wpAnyH_take (i := 25) (v := ?_) rfl (by kernel_rfl) (by kernel_rfl) (by kernel_rfl) (fun _ _ _ h => h) (Or.inl ⟨by rfl, ?_⟩) hHeld ?_
         rotate_left
         ·intro w' hSw; obtain ⟨cu0, cu1⟩ := cell2_of ((hSw.block _ (heap_lt X7.out)).trans X7.out); obtain ⟨cv0, cv1, cv2⟩ := cell3_of ((hSw.block _ (heap_lt X4.out)).trans X4.out); go_simp; try with_reducible rfl
         simp only [zn, Act.put]
         refine wpAnyH_take (i := 26) (v := ?_) rfl (by kernel_rfl) (by kernel_rfl) (by kernel_rfl) (fun _ _ _ h => h) (Or.inl ⟨by rfl, ?_⟩) hHeld ?_
         rotate_left
         ·intro w' hSw; obtain ⟨cu0, cu1⟩ := cell2_of ((hSw.block _ (heap_lt X7.out)).trans X7.out); obtain ⟨cv0, cv1, cv2⟩ := cell3_of ((hSw.block _ (heap_lt X4.out)).trans X4.out); go_simp; try with_reducible rfl
         simp only [zn, Act.put]
         refine tk 27 hHeld ?_;refine tk 28 hHeld ?_;refine tk 29 hHeld ?_;refine tk 30 hHeld ?_
         refine wpAnyH_done (by kernel_rfl) ?_ _
         go_wp2_with fail
         go_meet
         exact ⟨by rw [HRF.out], QD.out⟩
        ·have hbkd : (b == (k : Int)) = false := by simpa using hbk
         have HRF : Hid (rf = false) := Lib.hid (by rw [HR2.out, decide_eq_false (fun h => h.elim hb0 fun h => h.elim hbm fun h => hbk h.2)])
         clear hai hbk
         refine wp_region_held_drew (S := fun v => Below q.heap.size q v) (by kernel_rfl) QD.out (fun hHeld => ?_)
         refine tk 0 hHeld ?_;refine tk 1 hHeld ?_;refine tk 2 hHeld ?_
         refine wpAnyH_take (i := 3) (v := ?_) rfl (by kernel_rfl) (by kernel_rfl) (by kernel_rfl) (fun _ _ _ h => h) (Or.inl ⟨by rfl, ?_⟩) hHeld ?_
         rotate_left
         ·intro w' hSw; obtain ⟨cu0, cu1⟩ := cell2_of ((hSw.block _ (heap_lt X7.out)).trans X7.out); obtain ⟨cv0, cv1, cv2⟩ := cell3_of ((hSw.block _ (heap_lt X4.out)).trans X4.out); go_simp; try with_reducible rfl
         simp only [zn, Act.put]
         refine wpAnyH_take (i := 4) (v := ?_) rfl (by kernel_rfl) (by kernel_rfl) (by kernel_rfl) (fun _ _ _ h => h) (Or.inl ⟨by rfl, ?_⟩) hHeld ?_
         rotate_left
         ·intro w' hSw; obtain ⟨cu0, cu1⟩ := cell2_of ((hSw.block _ (heap_lt X7.out)).trans X7.out); obtain ⟨cv0, cv1, cv2⟩ := cell3_of ((hSw.block _ (heap_lt X4.out)).trans X4.out); go_simp; try with_reducible rfl
         simp only [zn, Act.put]
         refine tk 5 hHeld ?_;refine tk 6 hHeld ?_;refine tk 7 hHeld ?_
         refine wpAnyH_take (i := 8) (v := ?_) rfl (by kernel_rfl) (by kernel_rfl) (by kernel_rfl) (fun _ _ _ h => h) (Or.inl ⟨by rfl, ?_⟩) hHeld ?_
         rotate_left
         ·intro w' hSw; obtain ⟨cu0, cu1⟩ := cell2_of ((hSw.block _ (heap_lt X7.out)).trans X7.out); obtain ⟨cv0, cv1, cv2⟩ := cell3_of ((hSw.block _ (heap_lt X4.out)).trans X4.out); go_simp; try with_reducible rfl
         simp only [zn, Act.put]
         refine wpAnyH_take (i := 9) (v := ?_) rfl (by kernel_rfl) (by kernel_rfl) (by kernel_rfl) (fun _ _ _ h => h) (Or.inl ⟨by rfl, ?_⟩) hHeld ?_
         rotate_left
         ·intro w' hSw; obtain ⟨cu0, cu1⟩ := cell2_of ((hSw.block _ (heap_lt X7.out)).trans X7.out); obtain ⟨cv0, cv1, cv2⟩ := cell3_of ((hSw.block _ (heap_lt X4.out)).trans X4.out); go_simp; try with_reducible rfl
         simp only [zn, Act.put]
         refine tk 10 hHeld ?_;refine tk 11 hHeld ?_;refine tk 12 hHeld ?_;refine tk 13 hHeld ?_;refine tkc 14 hHeld (fun w' hSw => (hSw.cell (p := ⟨bl, ol + i * 3 + 2, none⟩) LBL.out).trans LC2.out) ?_;refine tk 15 hHeld ?_;refine tk 16 hHeld ?_;refine tk 17 hHeld ?_;refine tk 18 hHeld ?_
         refine wpAnyH_take (i := 19) (v := ?_) rfl (by kernel_rfl) (by kernel_rfl) (by kernel_rfl) (fun _ _ _ h => h) (Or.inl ⟨by rfl, ?_⟩) hHeld ?_
         rotate_left
         ·intro w' hSw; obtain ⟨cu0, cu1⟩ := cell2_of ((hSw.block _ (heap_lt X7.out)).trans X7.out); obtain ⟨cv0, cv1, cv2⟩ := cell3_of ((hSw.block _ (heap_lt X4.out)).trans X4.out); go_simp; try with_reducible rfl
         simp only [zn, Act.put]
         refine wpAnyH_take (i := 20) (v := ?_) rfl (by kernel_rfl) (by kernel_rfl) (by kernel_rfl) (fun _ _ _ h => h) (Or.inl ⟨by rfl, ?_⟩) hHeld ?_
         rotate_left
         ·intro w' hSw; obtain ⟨cu0, cu1⟩ := cell2_of ((hSw.block _ (heap_lt X7.out)).trans X7.out); obtain ⟨cv0, cv1, cv2⟩ := cell3_of ((hSw.block _ (heap_lt X4.out)).trans X4.out); go_simp; try with_reducible rfl
         simp only [zn, Act.put]
         refine wpAnyH_take (i := 21) (v := ?_) rfl (by kernel_rfl) (by kernel_rfl) (by kernel_rfl) (fun _ _ _ h => h) (Or.inl ⟨by rfl, ?_⟩) hHeld ?_
         rotate_left
         ·intro w' hSw; obtain ⟨cu0, cu1⟩ := cell2_of ((hSw.block _ (heap_lt X7.out)).trans X7.out); obtain ⟨cv0, cv1, cv2⟩ := cell3_of ((hSw.block _ (heap_lt X4.out)).trans X4.out); go_simp; try with_reducible rfl
         simp only [zn, Act.put]
         refine wpAnyH_take (i := 22) (v := ?_) rfl (by kernel_rfl) (by kernel_rfl) (by kernel_rfl) (fun _ _ _ h => h) (Or.inl ⟨by rfl, ?_⟩) hHeld ?_
         rotate_left
         ·intro w' hSw; obtain ⟨cu0, cu1⟩ := cell2_of ((hSw.block _ (heap_lt X7.out)).trans X7.out); obtain ⟨cv0, cv1, cv2⟩ := cell3_of ((hSw.block _ (heap_lt X4.out)).trans X4.out); go_simp; try with_reducible rfl
         simp only [zn, Act.put]
         refine tk 23 hHeld ?_;refine tk 24 hHeld ?_
         refine wpAnyH_take (i := 25) (v := ?_) rfl (by kernel_rfl) (by kernel_rfl) (by kernel_rfl) (fun _ _ _ h => h) (Or.inl ⟨by rfl, ?_⟩) hHeld ?_
         rotate_left
         ·intro w' hSw; obtain ⟨cu0, cu1⟩ := cell2_of ((hSw.block _ (heap_lt X7.out)).trans X7.out); obtain ⟨cv0, cv1, cv2⟩ := cell3_of ((hSw.block _ (heap_lt X4.out)).trans X4.out); go_simp; try with_reducible rfl
         simp only [zn, Act.put]
         refine wpAnyH_take (i := 26) (v := ?_) rfl (by kernel_rfl) (by kernel_rfl) (by kernel_rfl) (fun _ _ _ h => h) (Or.inl ⟨by rfl, ?_⟩) hHeld ?_
         rotate_left
         ·intro w' hSw; obtain ⟨cu0, cu1⟩ := cell2_of ((hSw.block _ (heap_lt X7.out)).trans X7.out); obtain ⟨cv0, cv1, cv2⟩ := cell3_of ((hSw.block _ (heap_lt X4.out)).trans X4.out); go_simp; try with_reducible rfl
         simp only [zn, Act.put]
         refine tk 27 hHeld ?_;refine tk 28 hHeld ?_;refine tk 29 hHeld ?_;refine tk 30 hHeld ?_
         refine wpAnyH_done (by kernel_rfl) ?_ _
         go_wp2_with fail
         go_meet
         exact ⟨by rw [HRF.out], QD.out⟩
       ·have haid : (a == id) = false := by simpa using hai
        have HRF : Hid (rf = false) := Lib.hid (by rw [HR2.out, decide_eq_false (fun h => h.elim hb0 fun h => h.elim hbm fun h => hai h.1)])
        clear hai
        refine wp_region_held_drew (S := fun v => Below q.heap.size q v) (by kernel_rfl) QD.out (fun hHeld => ?_)
        refine tk 0 hHeld ?_;refine tk 1 hHeld ?_;refine tk 2 hHeld ?_
        refine wpAnyH_take (i := 3) (v := ?_) rfl (by kernel_rfl) (by kernel_rfl) (by kernel_rfl) (fun _ _ _ h => h) (Or.inl ⟨by rfl, ?_⟩) hHeld ?_
        rotate_left
        ·intro w' hSw; obtain ⟨cu0, cu1⟩ := cell2_of ((hSw.block _ (heap_lt X7.out)).trans X7.out); obtain ⟨cv0, cv1, cv2⟩ := cell3_of ((hSw.block _ (heap_lt X4.out)).trans X4.out); go_simp; try with_reducible rfl
        simp only [zn, Act.put]
        refine wpAnyH_take (i := 4) (v := ?_) rfl (by kernel_rfl) (by kernel_rfl) (by kernel_rfl) (fun _ _ _ h => h) (Or.inl ⟨by rfl, ?_⟩) hHeld ?_
        rotate_left
        ·intro w' hSw; obtain ⟨cu0, cu1⟩ := cell2_of ((hSw.block _ (heap_lt X7.out)).trans X7.out); obtain ⟨cv0, cv1, cv2⟩ := cell3_of ((hSw.block _ (heap_lt X4.out)).trans X4.out); go_simp; try with_reducible rfl
        simp only [zn, Act.put]
        refine tk 5 hHeld ?_;refine tk 6 hHeld ?_;refine tk 7 hHeld ?_
        refine wpAnyH_take (i := 8) (v := ?_) rfl (by kernel_rfl) (by kernel_rfl) (by kernel_rfl) (fun _ _ _ h => h) (Or.inl ⟨by rfl, ?_⟩) hHeld ?_
        rotate_left
        ·intro w' hSw; obtain ⟨cu0, cu1⟩ := cell2_of ((hSw.block _ (heap_lt X7.out)).trans X7.out); obtain ⟨cv0, cv1, cv2⟩ := cell3_of ((hSw.block _ (heap_lt X4.out)).trans X4.out); go_simp; try with_reducible rfl
        simp only [zn, Act.put]
        refine wpAnyH_take (i := 9) (v := ?_) rfl (by kernel_rfl) (by kernel_rfl) (by kernel_rfl) (fun _ _ _ h => h) (Or.inl ⟨by rfl, ?_⟩) hHeld ?_
        rotate_left
        ·intro w' hSw; obtain ⟨cu0, cu1⟩ := cell2_of ((hSw.block _ (heap_lt X7.out)).trans X7.out); obtain ⟨cv0, cv1, cv2⟩ := cell3_of ((hSw.block _ (heap_lt X4.out)).trans X4.out); go_simp; try with_reducible rfl
        simp only [zn, Act.put]
        refine tk 10 hHeld ?_;refine tk 11 hHeld ?_;refine tk 12 hHeld ?_;refine tk 13 hHeld ?_;refine tkc 14 hHeld (fun w' hSw => (hSw.cell (p := ⟨bl, ol + i * 3 + 2, none⟩) LBL.out).trans LC2.out) ?_;refine tk 15 hHeld ?_;refine tk 16 hHeld ?_;refine tk 17 hHeld ?_;refine tk 18 hHeld ?_
        refine wpAnyH_take (i := 19) (v := ?_) rfl (by kernel_rfl) (by kernel_rfl) (by kernel_rfl) (fun _ _ _ h => h) (Or.inl ⟨by rfl, ?_⟩) hHeld ?_
        rotate_left
        ·intro w' hSw; obtain ⟨cu0, cu1⟩ := cell2_of ((hSw.block _ (heap_lt X7.out)).trans X7.out); obtain ⟨cv0, cv1, cv2⟩ := cell3_of ((hSw.block _ (heap_lt X4.out)).trans X4.out); go_simp; try with_reducible rfl
        simp only [zn, Act.put]
        refine wpAnyH_take (i := 20) (v := ?_) rfl (by kernel_rfl) (by kernel_rfl) (by kernel_rfl) (fun _ _ _ h => h) (Or.inl ⟨by rfl, ?_⟩) hHeld ?_
        rotate_left
        ·intro w' hSw; obtain ⟨cu0, cu1⟩ := cell2_of ((hSw.block _ (heap_lt X7.out)).trans X7.out); obtain ⟨cv0, cv1, cv2⟩ := cell3_of ((hSw.block _ (heap_lt X4.out)).trans X4.out); go_simp; try with_reducible rfl
        simp only [zn, Act.put]
        refine wpAnyH_take (i := 21) (v := ?_) rfl (by kernel_rfl) (by kernel_rfl) (by kernel_rfl) (fun _ _ _ h => h) (Or.inl ⟨by rfl, ?_⟩) hHeld ?_
        rotate_left
        ·intro w' hSw; obtain ⟨cu0, cu1⟩ := cell2_of ((hSw.block _ (heap_lt X7.out)).trans X7.out); obtain ⟨cv0, cv1, cv2⟩ := cell3_of ((hSw.block _ (heap_lt X4.out)).trans X4.out); go_simp; try with_reducible rfl
        simp only [zn, Act.put]
        refine wpAnyH_take (i := 22) (v := ?_) rfl (by kernel_rfl) (by kernel_rfl) (by kernel_rfl) (fun _ _ _ h => h) (Or.inl ⟨by rfl, ?_⟩) hHeld ?_
        rotate_left
        ·intro w' hSw; obtain ⟨cu0, cu1⟩ := cell2_of ((hSw.block _ (heap_lt X7.out)).trans X7.out); obtain ⟨cv0, cv1, cv2⟩ := cell3_of ((hSw.block _ (heap_lt X4.out)).trans X4.out); go_simp; try with_reducible rfl
        simp only [zn, Act.put]
        refine tk 23 hHeld ?_;refine tk 24 hHeld ?_;refine tks 25 hHeld ?_;refine tks 26 hHeld ?_;refine tks 27 hHeld ?_;refine tks 28 hHeld ?_;refine tk 29 hHeld ?_;refine tk 30 hHeld ?_
        refine wpAnyH_done (by kernel_rfl) ?_ _
        go_wp2_with fail
        go_meet
        exact ⟨by rw [HRF.out], QD.out⟩
    case rest =>
     obtain ⟨rfl, hbl⟩ := hcut
     obtain ⟨w5, hw5⟩ : ∃ w5 : World, w5 = wc := ⟨_, rfl⟩
     subst hw5
     have X45 := Lib.hid ((hbl.block _ (heap_lt X4.out)).trans X4.out)
     have X75 := Lib.hid ((hbl.block _ (heap_lt X7.out)).trans X7.out)
     have B5 := Lib.hid (QB.out.trans (hbl.mono QB.out.size))
     have LBL5 : Hid (bl < w5.heap.size) := Lib.hid (Nat.lt_of_lt_of_le LBL.out hbl.size)
     have LC5 : Hid (w5.cell? ⟨bl, ol + i * 3 + 2, none⟩ = some (.slice Al ml cl)) := Lib.hid ((hbl.cell (p := ⟨bl, _, none⟩) LBL.out).trans LC2.out)
     have HUL5 := Lib.hid ((HUL.out.below joinR hbl).more joinR hbl.size)
     have Q2 := Lib.hid (Below.refl w5.heap.size w5).drew
     by_cases hc : b < 0 ∨ (ml : Int) ≤ b ∨ (a = id ∧ b = (k : Int))
     ·have HR : Hid (joinedB l (id, pt, es) k = false) := Lib.hid (by rw [HJ3.out, if_pos hc])
      have hrt : rf = true := by rw [HR2.out, decide_eq_true hc]
      rw [hrt]
      clear hc hrt
      go_wp2_with fail
      go_ret
      exact ⟨by rw [HR.out]; rfl, B5.out⟩
     ·have HJ4 := Lib.hid (HJ3.out.trans (if_neg hc))
      have hrt : rf = false := by rw [HR2.out, decide_eq_false hc]
      rw [hrt]
      obtain ⟨m, hm⟩ : ∃ m : Nat, m = b.toNat := ⟨_, rfl⟩
      have hbm : b = (m : Int) := by have := not_or.1 hc; omega
      have hml : m < ml := by have h1 := not_or.1 hc; have h2 := not_or.1 h1.2; omega
      have hmi : m < l[i].2.2.length := by rw [← HLS.out]; exact hml
      obtain ⟨be, oe, rfl, hbe, he0, he1⟩ := HUL5.out.at hmi
      have hge : l[i].2.2.getD b.toNat (0, 0) = l[i].2.2[m] := by rw [← hm, List.getD_eq_getElem?_getD, List.getElem?_eq_getElem hmi]; rfl
      obtain ⟨f0, f1, hf⟩ : ∃ f0 f1, l[i].2.2[m] = (f0, f1) := ⟨_, _, rfl⟩
      rw [hf] at he0 he1 hge
      dsimp only at he0 he1
      have HR : Hid (joinedB l (id, pt, es) k = decide (f0 = id ∧ f1 = (k : Int))) := Lib.hid (by
       rw [HJ4.out, hge]
       exact decide_eq_decide.2 (by rw [Prod.mk.injEq]))
      have LBE := Lib.hid hbe
      have LE0 : Hid (w5.cell? ⟨be, oe + m * 2, none⟩ = some (.int .i64 f0)) := Lib.hid he0
      have LE1 : Hid (w5.cell? ⟨be, oe + m * 2 + 1, none⟩ = some (.int .i64 f1)) := Lib.hid he1
      subst hbm
      have hmi' : (m : Int) < ml := by omega
      clear hc hrt hge hf he0 he1 hbe hm hmi
      go_wp2_with fail
      refine wp_region_held_drew (S := fun v => Below w5.heap.size w5 v) (by kernel_rfl) Q2.out (fun hHeld => ?_)
      refine tk 0 hHeld ?_;refine tk 1 hHeld ?_;refine tk 2 hHeld ?_;refine tk 3 hHeld ?_;refine tkc 4 hHeld (fun w' hSw => (hSw.cell (p := ⟨bl, ol + i * 3 + 2, none⟩) LBL5.out).trans LC5.out) ?_;refine tk 5 hHeld ?_;refine tkc 6 hHeld (fun w' hSw => cell2_of ((hSw.block _ (heap_lt X75.out)).trans X75.out)) ?_;refine tk 7 hHeld ?_
      refine wpAnyH_take (i := 8) (v := ?_) rfl (by kernel_rfl) (by kernel_rfl) (by kernel_rfl) (fun _ _ _ h => h) (Or.inl ⟨by rfl, ?_⟩) hHeld ?_
      rotate_left
      ·intro w' hSw; have ce := (hSw.cell (p := ⟨be, oe + m * 2, none⟩) LBE.out).trans LE0.out; have cf := (hSw.cell (p := ⟨be, oe + m * 2 + 1, none⟩) LBE.out).trans LE1.out; go_simp; try with_reducible rfl
      simp only [zn, Act.put]
      refine tkr 9 (fun K hK => ?_)
      go_simp
      refine hK.out _ _ ?_ fun hHeld => ?_;exact (below_new w5 _).drew;clear hK K;try simp only [zn, Act.put]
      refine tkr 10 (fun K hK => ?_)
      rw [if_pos (by rfl)]
      refine wp_store_2 85 _ _ rfl w5.heap.size rfl rfl (heap_alloc_self _ _) infoJoin2 rfl rfl ?_
      refine hK.out _ _ ?_ fun hHeld => ?_;exact below_setRow (below_new w5 _).drew (Nat.le_refl _) _;clear hK K;try simp only [zn, Act.put]
      refine wpAnyH_done (by kernel_rfl) ?_ _
      have hx9 := setRow_heap (w5.alloc (.cells #[.int .i64 0, .int .i64 0] 85)).drew w5.heap.size _ #[.int .i64 f0, .int .i64 f1] _ _ (heap_alloc_self w5 (.cells #[.int .i64 0, .int .i64 0] 85))
      have hb9 : Below w5.heap.size w5 ((w5.alloc (.cells #[.int .i64 0, .int .i64 0] 85)).drew.setRow w5.heap.size #[.int .i64 f0, .int .i64 f1]) := below_setRow (below_new w5 _).drew (Nat.le_refl _) _
      generalize (w5.alloc (.cells #[.int .i64 0, .int .i64 0] 85)).drew.setRow w5.heap.size #[.int .i64 f0, .int .i64 f1] = w9 at hx9 hb9 ⊢
      have B9 := Lib.hid (B5.out.trans (hb9.mono B5.out.size))
      obtain ⟨k0, k1⟩ := cell2_of hx9
      obtain ⟨m0, m1, m2⟩ := cell3_of ((hb9.block _ (heap_lt X45.out)).trans X45.out)
      clear hx9 hb9
      by_cases hf0 : f0 = id
      ·have hf0b : (f0 == id) = true := by simpa using hf0
       have HR2 : Hid (joinedB l (id, pt, es) k = (f1 == (k : Int))) := Lib.hid (by
        rw [HR.out, Bool.eq_iff_iff, decide_eq_true_iff, beq_iff_eq]
        exact ⟨fun h => h.2, fun h => ⟨hf0, h⟩⟩)
       clear hf0
       go_wp2_with fail
       go_ret
       exact ⟨by rw [HR2.out]; rfl, B9.out⟩
      ·have hf0b : (f0 == id) = false := by simpa using hf0
       have HR2 : Hid (joinedB l (id, pt, es) k = false) := Lib.hid (by rw [HR.out, decide_eq_false (fun h => hf0 h.1)])
       clear hf0
       go_wp2_with fail
       go_ret
       exact ⟨by rw [HR2.out]; rfl, B9.out⟩
/-- Sections may be. -/
structure TMay (l : List Sec) : Prop where
 n : l.length ≤ 16
 s : ∀ i (h : i < l.length), 1 ≤ l[i].1 ∧ l[i].1 ≤ 99 ∧ shapedB l[i] = true
 k : ∀ i j (hj : j < i) (hi : i < l.length), (l[j]'(by omega)).1 < l[i].1 ∧ ¬ (l[i].2.1 ≠ 0 ∧ (l[j]'(by omega)).2.1 = l[i].2.1)
 e : ∀ i k (hi : i < l.length), k < l[i].2.2.length → joinedB l l[i] k = true
noncomputable def mayT (l : List Sec) : Bool := @decide (TMay l) (Classical.propDecidable _)
theorem mayT_true {l : List Sec} (h : TMay l) : mayT l = true := by rw [mayT]; exact @decide_eq_true _ (Classical.propDecidable _) h
theorem mayT_false {l : List Sec} (h : ¬ TMay l) : mayT l = false := by rw [mayT]; exact @decide_eq_false _ (Classical.propDecidable _) h
theorem mayT_iff {l : List Sec} : mayT l = true ↔ TMay l := by rw [mayT]; exact @decide_eq_true_iff _ (Classical.propDecidable _)

set_option maxHeartbeats 8000000 in
theorem rmay7_any (v : Value) (l : List Sec) (w : World) (h : SectsIn w w.heap.size v l) :
  Calls Tryz.prog 65 #[v] w fun e w' => e = .returned (.bool (mayT l)) ∧ Below w.heap.size w w' := by
 obtain ⟨A, c, n, rfl, hml, HN, HA⟩ := open_list h
 go_enter Tryz.func65, Tryz.ntmps65
 by_cases h16 : 16 < n
 ·have h16' : (16 : Int) < n := by omega
  have HF : Hid (mayT l = false) := Lib.hid (mayT_false fun h => by have := h.n; rw [← HN.out] at this; omega)
  go_wp2_with fail
  go_ret
  exact ⟨by rw [HF.out]; rfl, Below.refl _ _⟩
 have h16' : ¬ (16 : Int) < n := by omega
 go_wp2_with fail
 go_loopw [3] (fun s3 wr => ∃ i : Nat, i ≤ n ∧ s3 = .int .i64 i ∧ (∀ i' (hi : i' < i) (hl : i' < l.length), (1 ≤ l[i'].1 ∧ l[i'].1 ≤ 99 ∧ shapedB l[i'] = true) ∧ ∀ j (hj : j < i'), (l[j]'(by omega)).1 < l[i'].1 ∧ ¬ (l[i'].2.1 ≠ 0 ∧ (l[j]'(by omega)).2.1 = l[i'].2.1)) ∧ Below w.heap.size w wr) (fun s3 _ => n - (intOf s3).toNat)
 case atStart => exact ⟨0, by omega, by go_num, fun i' hi => absurd hi (by omega), Below.refl _ _⟩
 case round =>
  obtain ⟨i, hi, rfl, hall, hb⟩ := hrel
  have HALL := Lib.hid hall
  have BW := Lib.hid hb
  clear hall hb
  by_cases hlt : i < n
  ·have hlt' : (i : Int) < n := by omega
   have hir : i < l.length := by rw [← HN.out]; exact hlt
   obtain ⟨b, off, rfl, hb, hc0, hc1, u, hc2, hu⟩ := ((HA.out.below secR_ BW.out).more secR_ BW.out.size).at hir
   obtain ⟨id, pt, es, hs⟩ : ∃ id pt es, l[i] = (id, pt, es) := ⟨_, _, _, rfl⟩
   have HS := Lib.hid hs
   rw [hs] at hc0 hc1 hu
   dsimp only at hc0 hc1 hu
   obtain ⟨Au, cu, rfl, -, -⟩ := hu.slice
   obtain ⟨ne, hne⟩ : ∃ ne, ne = es.length := ⟨_, rfl⟩
   rw [← hne] at hc2
   have hg0 : wr.cell? ⟨b, off + i * 3, none⟩ = some (.int .i64 id) := hc0
   have hg1 : wr.cell? ⟨b, off + i * 3 + 1, none⟩ = some (.int .i64 pt) := hc1
   have hg2 : wr.cell? ⟨b, off + i * 3 + 2, none⟩ = some (.slice Au ne cu) := hc2
   have HSV : Hid (SecV wr wr.heap.size (.agg #[.int .i64 id, .int .i64 pt, .slice Au ne cu]) (id, pt, es)) := Lib.hid ⟨_, rfl, by rw [hne]; exact hu⟩
   have hx4 := heap_alloc_self wr (.cells #[.int .i64 id, .int .i64 pt, .slice Au ne cu] 67)
   have hb4 := below_new wr (.cells #[.int .i64 id, .int .i64 pt, .slice Au ne cu] 67)
   obtain ⟨q, hq⟩ : ∃ q, q = wr.alloc (.cells #[.int .i64 id, .int .i64 pt, .slice Au ne cu] 67) := ⟨_, rfl⟩
   rw [← hq] at hx4 hb4
   have X4 := Lib.hid hx4
   have B4 := Lib.hid hb4
   have HQ := Lib.hid hq
   have BQ := Lib.hid (BW.out.trans (hb4.mono BW.out.size))
   clear hc0 hc1 hc2 hu hne hs hx4 hb4 hq hb
   go_upto_region 7 with fail
   rw [← HQ.out]
   clear hg0 hg1 hg2 HQ
   generalize hp4 : wr.heap.size = p4 at X4 ⊢
   clear hp4
   obtain ⟨k0, k1, k2⟩ := cell3_of X4.out
   by_cases h1 : id < 1
   ·have h1d : decide (id < 1) = true := decide_eq_true h1
    have HF : Hid (mayT l = false) := Lib.hid (mayT_false fun h => by have := (h.s i hir).1; rw [HS.out] at this; exact absurd this (by omega))
    have BZ := BQ
    go_wp2_with fail
    go_ret
    exact ⟨by rw [HF.out]; rfl, BZ.out⟩
   have h1d : decide (id < 1) = false := decide_eq_false h1
   by_cases h2 : 99 < id
   ·have h2d : decide (99 < id) = true := decide_eq_true h2
    have HF : Hid (mayT l = false) := Lib.hid (mayT_false fun h => by have := (h.s i hir).2.1; rw [HS.out] at this; exact absurd this (by omega))
    have BZ := BQ
    go_wp2_with fail
    go_ret
    exact ⟨by rw [HF.out]; rfl, BZ.out⟩
   have h2d : decide (99 < id) = false := decide_eq_false h2
   go_wp2_with fail
   refine (rshaped_any _ (id, pt, es) q (by obtain ⟨u, e, hu⟩ := HSV.out; exact ⟨u, e, (hu.below joinR B4.out).more joinR B4.out.size⟩)).mono ?_
   rintro e w2 ⟨rfl, b2⟩
   have X2 := Lib.hid ((b2.block _ (heap_lt X4.out)).trans X4.out)
   have B2 := Lib.hid (BQ.out.trans (b2.mono BQ.out.size))
   clear b2 k0 k1 k2
   cases hsh : shapedB (id, pt, es) with
   | false =>
    have HF : Hid (mayT l = false) := Lib.hid (mayT_false fun h => by have := (h.s i hir).2.2; rw [HS.out, hsh] at this; cases this)
    have BZ := B2
    clear hsh
    go_wp2_with fail
    go_ret
    exact ⟨by rw [HF.out]; rfl, BZ.out⟩
   | true =>
    have HSH := Lib.hid hsh
    clear hsh X4
    go_wp2_with fail
    go_loopw [5] (fun s5 wr => ∃ k : Nat, k ≤ i ∧ s5 = .int .i64 k ∧ (∀ j (hj : j < k) (hl : j < l.length), l[j].1 < id ∧ ¬ (pt ≠ 0 ∧ l[j].2.1 = pt)) ∧ wr.heap[p4]? = some (.cells #[.int .i64 id, .int .i64 pt, .slice Au ne cu] 67 (0, 0)) ∧ Below w.heap.size w wr) (fun s5 _ => i - (intOf s5).toNat)
    case atStart => exact ⟨0, by omega, by go_num, fun j hj => absurd hj (by omega), X2.out, B2.out⟩
    case round =>
     obtain ⟨k, hk, rfl, hpair, hx4, hbl⟩ := hrel
     have HP := Lib.hid hpair
     have X4 := Lib.hid hx4
     have B5 := Lib.hid hbl
     clear hpair hx4 hbl
     by_cases hki : k < i
     ·have hki' : (k : Int) < i := by omega
      have hkn : (k : Int) < n := by omega
      have hkr : k < l.length := by omega
      obtain ⟨b', off', hA', hb', hd0, hd1, -⟩ := ((HA.out.below secR_ B5.out).more secR_ B5.out.size).at hkr
      cases hA'
      obtain ⟨idk, ptk, hpk⟩ : ∃ idk ptk, idk = l[k].1 ∧ ptk = l[k].2.1 := ⟨_, _, rfl, rfl⟩
      rw [← hpk.1] at hd0
      rw [← hpk.2] at hd1
      have HPK := Lib.hid hpk
      have LBK := Lib.hid hb'
      have LK0 : Hid (wr.cell? ⟨b, off + k * 3, none⟩ = some (.int .i64 idk)) := Lib.hid hd0
      have LK1 : Hid (wr.cell? ⟨b, off + k * 3 + 1, none⟩ = some (.int .i64 ptk)) := Lib.hid hd1
      have BZ : Hid (Below w.heap.size w wr.drew) := Lib.hid B5.out.drew
      have X4D : Hid (wr.drew.heap[p4]? = some (.cells #[.int .i64 id, .int .i64 pt, .slice Au ne cu] 67 (0, 0))) := Lib.hid X4.out
      have HNX : Hid (idk < id → ¬ (pt ≠ 0 ∧ ptk = pt) → ∀ j (hj : j < k + 1) (hl : j < l.length), l[j].1 < id ∧ ¬ (pt ≠ 0 ∧ l[j].2.1 = pt)) := Lib.hid (fun h1 h2 j hj hl => by
       rcases Nat.lt_or_ge j k with h | h
       ·exact HP.out j h hl
       ·obtain rfl : j = k := by omega
        rw [← HPK.out.1, ← HPK.out.2]; exact ⟨h1, h2⟩)
      have HNF : Hid (¬ (idk < id ∧ ¬ (pt ≠ 0 ∧ ptk = pt)) → mayT l = false) := Lib.hid (fun hn => mayT_false fun h => hn (by
       have := h.k i k hki hir
       rw [HS.out, ← HPK.out.1, ← HPK.out.2] at this
       exact this))
      clear hd0 hd1 hpk hb'
      by_cases hge : id ≤ idk
      ·have hged : decide (id ≤ idk) = true := decide_eq_true hge
       have HF := Lib.hid (HNF.out (fun h => by omega))
       go_wp2_with fail
       refine wp_region_held_drew (S := fun v => Below wr.heap.size wr v) (by kernel_rfl) (Below.refl wr.heap.size wr).drew (fun hHeld => ?_)
       refine tk 0 hHeld ?_;refine tk 1 hHeld ?_;refine tk 2 hHeld ?_;refine tk 3 hHeld ?_
       refine wpAnyH_take (i := 4) (v := ?_) rfl (by kernel_rfl) (by kernel_rfl) (by kernel_rfl) (fun _ _ _ h => h) (Or.inl ⟨by rfl, ?_⟩) hHeld ?_
       rotate_left
       ·intro w' hSw; have cl := (hSw.cell (p := ⟨b, off + k * 3, none⟩) LBK.out).trans LK0.out; have cm := (hSw.cell (p := ⟨b, off + k * 3 + 1, none⟩) LBK.out).trans LK1.out; go_simp; try with_reducible rfl
       simp only [zn, Act.put]
       refine tk 5 hHeld ?_;refine tkc 6 hHeld (fun w' hSw => cell3_of ((hSw.block _ (heap_lt X4.out)).trans X4.out)) ?_;refine tk 7 hHeld ?_;refine tk 8 hHeld ?_;refine tks 9 hHeld ?_;refine tks 10 hHeld ?_;refine tks 11 hHeld ?_;refine tks 12 hHeld ?_;refine tks 13 hHeld ?_;refine tks 14 hHeld ?_;refine tks 15 hHeld ?_;refine tks 16 hHeld ?_;refine tks 17 hHeld ?_;refine tks 18 hHeld ?_;refine tks 19 hHeld ?_;refine tks 20 hHeld ?_;refine tks 21 hHeld ?_;refine tk 22 hHeld ?_
       refine wpAnyH_done (by kernel_rfl) ?_ _
       go_wp2_with fail
       go_ret
       exact ⟨by rw [HF.out]; rfl, BZ.out⟩
      ·have hged : decide (id ≤ idk) = false := decide_eq_false hge
       by_cases hp0 : pt = 0
       ·have hp0b : (pt != 0) = false := by simpa using hp0
        have HNZ := Lib.hid (HNX.out (by omega) (fun h => h.1 hp0))
        clear hp0
        go_wp2_with fail
        refine wp_region_held_drew (S := fun v => Below wr.heap.size wr v) (by kernel_rfl) (Below.refl wr.heap.size wr).drew (fun hHeld => ?_)
        refine tk 0 hHeld ?_;refine tk 1 hHeld ?_;refine tk 2 hHeld ?_;refine tk 3 hHeld ?_
        refine wpAnyH_take (i := 4) (v := ?_) rfl (by kernel_rfl) (by kernel_rfl) (by kernel_rfl) (fun _ _ _ h => h) (Or.inl ⟨by rfl, ?_⟩) hHeld ?_
        rotate_left
        ·intro w' hSw; have cl := (hSw.cell (p := ⟨b, off + k * 3, none⟩) LBK.out).trans LK0.out; have cm := (hSw.cell (p := ⟨b, off + k * 3 + 1, none⟩) LBK.out).trans LK1.out; go_simp; try with_reducible rfl
        simp only [zn, Act.put]
        refine tk 5 hHeld ?_;refine tkc 6 hHeld (fun w' hSw => cell3_of ((hSw.block _ (heap_lt X4.out)).trans X4.out)) ?_;refine tk 7 hHeld ?_;refine tk 8 hHeld ?_;refine tk 9 hHeld ?_;refine tkc 10 hHeld (fun w' hSw => cell3_of ((hSw.block _ (heap_lt X4.out)).trans X4.out)) ?_;refine tk 11 hHeld ?_;refine tk 12 hHeld ?_;refine tks 13 hHeld ?_;refine tks 14 hHeld ?_;refine tks 15 hHeld ?_;refine tks 16 hHeld ?_;refine tks 17 hHeld ?_;refine tks 18 hHeld ?_;refine tks 19 hHeld ?_;refine tks 20 hHeld ?_;refine tk 21 hHeld ?_;refine tk 22 hHeld ?_
        refine wpAnyH_done (by kernel_rfl) ?_ _
        go_wp2_with fail
        go_roundw
        case measure => simp [intOf]; omega
        case rel => exact ⟨k + 1, by omega, by go_num, HNZ.out, X4D.out, BZ.out⟩
       ·have hp0b : (pt != 0) = true := by simpa using hp0
        by_cases hpp : ptk = pt
        ·have hppb : (ptk == pt) = true := by simpa using hpp
         have HF := Lib.hid (HNF.out (fun h => h.2 ⟨hp0, hpp⟩))
         clear hp0 hpp
         go_wp2_with fail
         refine wp_region_held_drew (S := fun v => Below wr.heap.size wr v) (by kernel_rfl) (Below.refl wr.heap.size wr).drew (fun hHeld => ?_)
         refine tk 0 hHeld ?_;refine tk 1 hHeld ?_;refine tk 2 hHeld ?_;refine tk 3 hHeld ?_
         refine wpAnyH_take (i := 4) (v := ?_) rfl (by kernel_rfl) (by kernel_rfl) (by kernel_rfl) (fun _ _ _ h => h) (Or.inl ⟨by rfl, ?_⟩) hHeld ?_
         rotate_left
         ·intro w' hSw; have cl := (hSw.cell (p := ⟨b, off + k * 3, none⟩) LBK.out).trans LK0.out; have cm := (hSw.cell (p := ⟨b, off + k * 3 + 1, none⟩) LBK.out).trans LK1.out; go_simp; try with_reducible rfl
         simp only [zn, Act.put]
         refine tk 5 hHeld ?_;refine tkc 6 hHeld (fun w' hSw => cell3_of ((hSw.block _ (heap_lt X4.out)).trans X4.out)) ?_;refine tk 7 hHeld ?_;refine tk 8 hHeld ?_;refine tk 9 hHeld ?_;refine tkc 10 hHeld (fun w' hSw => cell3_of ((hSw.block _ (heap_lt X4.out)).trans X4.out)) ?_;refine tk 11 hHeld ?_;refine tk 12 hHeld ?_;refine tk 13 hHeld ?_;refine tk 14 hHeld ?_;refine tk 15 hHeld ?_;refine tk 16 hHeld ?_
         refine wpAnyH_take (i := 17) (v := ?_) rfl (by kernel_rfl) (by kernel_rfl) (by kernel_rfl) (fun _ _ _ h => h) (Or.inl ⟨by rfl, ?_⟩) hHeld ?_
         rotate_left
         ·intro w' hSw; have cl := (hSw.cell (p := ⟨b, off + k * 3, none⟩) LBK.out).trans LK0.out; have cm := (hSw.cell (p := ⟨b, off + k * 3 + 1, none⟩) LBK.out).trans LK1.out; go_simp; try with_reducible rfl
         simp only [zn, Act.put]
         refine tk 18 hHeld ?_;refine tkc 19 hHeld (fun w' hSw => cell3_of ((hSw.block _ (heap_lt X4.out)).trans X4.out)) ?_;refine tk 20 hHeld ?_;refine tk 21 hHeld ?_;refine tk 22 hHeld ?_
         refine wpAnyH_done (by kernel_rfl) ?_ _
         go_wp2_with fail
         go_ret
         exact ⟨by rw [HF.out]; rfl, BZ.out⟩
        ·have hppb : (ptk == pt) = false := by simpa using hpp
         have HNZ := Lib.hid (HNX.out (by omega) (fun h => hpp h.2))
         clear hp0 hpp
         go_wp2_with fail
         refine wp_region_held_drew (S := fun v => Below wr.heap.size wr v) (by kernel_rfl) (Below.refl wr.heap.size wr).drew (fun hHeld => ?_)
         refine tk 0 hHeld ?_;refine tk 1 hHeld ?_;refine tk 2 hHeld ?_;refine tk 3 hHeld ?_
         refine wpAnyH_take (i := 4) (v := ?_) rfl (by kernel_rfl) (by kernel_rfl) (by kernel_rfl) (fun _ _ _ h => h) (Or.inl ⟨by rfl, ?_⟩) hHeld ?_
         rotate_left
         ·intro w' hSw; have cl := (hSw.cell (p := ⟨b, off + k * 3, none⟩) LBK.out).trans LK0.out; have cm := (hSw.cell (p := ⟨b, off + k * 3 + 1, none⟩) LBK.out).trans LK1.out; go_simp; try with_reducible rfl
         simp only [zn, Act.put]
         refine tk 5 hHeld ?_;refine tkc 6 hHeld (fun w' hSw => cell3_of ((hSw.block _ (heap_lt X4.out)).trans X4.out)) ?_;refine tk 7 hHeld ?_;refine tk 8 hHeld ?_;refine tk 9 hHeld ?_;refine tkc 10 hHeld (fun w' hSw => cell3_of ((hSw.block _ (heap_lt X4.out)).trans X4.out)) ?_;refine tk 11 hHeld ?_;refine tk 12 hHeld ?_;refine tk 13 hHeld ?_;refine tk 14 hHeld ?_;refine tk 15 hHeld ?_;refine tk 16 hHeld ?_
         refine wpAnyH_take (i := 17) (v := ?_) rfl (by kernel_rfl) (by kernel_rfl) (by kernel_rfl) (fun _ _ _ h => h) (Or.inl ⟨by rfl, ?_⟩) hHeld ?_
         rotate_left
         ·intro w' hSw; have cl := (hSw.cell (p := ⟨b, off + k * 3, none⟩) LBK.out).trans LK0.out; have cm := (hSw.cell (p := ⟨b, off + k * 3 + 1, none⟩) LBK.out).trans LK1.out; go_simp; try with_reducible rfl
         simp only [zn, Act.put]
         refine tk 18 hHeld ?_;refine tkc 19 hHeld (fun w' hSw => cell3_of ((hSw.block _ (heap_lt X4.out)).trans X4.out)) ?_;refine tk 20 hHeld ?_;refine tk 21 hHeld ?_;refine tk 22 hHeld ?_
         refine wpAnyH_done (by kernel_rfl) ?_ _
         go_wp2_with fail
         go_roundw
         case measure => simp [intOf]; omega
         case rel => exact ⟨k + 1, by omega, by go_num, HNZ.out, X4D.out, BZ.out⟩
     ·obtain rfl : k = i := by omega
      have hki' : ¬ (k : Int) < k := by omega
      have HNI : Hid (∀ i' (hi : i' < k + 1) (hl : i' < l.length), (1 ≤ l[i'].1 ∧ l[i'].1 ≤ 99 ∧ shapedB l[i'] = true) ∧ ∀ j (hj : j < i'), (l[j]'(by omega)).1 < l[i'].1 ∧ ¬ (l[i'].2.1 ≠ 0 ∧ (l[j]'(by omega)).2.1 = l[i'].2.1)) := Lib.hid (fun i' hi' hl => by
       rcases Nat.lt_or_ge i' k with h | h
       ·exact HALL.out i' h hl
       ·obtain rfl : i' = k := by omega
        rw [HS.out]
        exact ⟨⟨by omega, by omega, HSH.out⟩, fun j hj => HP.out j hj (by omega)⟩)
      go_wp2_with fail
      go_roundw
      case measure => simp [intOf]; omega
      case rel => exact ⟨k + 1, by omega, by go_num, HNI.out, B5.out⟩
  ·obtain rfl : i = n := by omega
   have hlt' : ¬ (i : Int) < i := by omega
   have HROW := HALL
   have HL16 : Hid (l.length ≤ 16) := Lib.hid (by rw [← HN.out]; omega)
   clear HALL
   go_wp2_with fail
   go_loopw [6] (fun s6 wr => ∃ k : Nat, k ≤ i ∧ s6 = .int .i64 k ∧ (∀ a (ha : a < k) (hl : a < l.length) b, b < l[a].2.2.length → joinedB l l[a] b = true) ∧ Below w.heap.size w wr) (fun s6 _ => i - (intOf s6).toNat)
   case atStart => exact ⟨0, by omega, by go_num, fun a ha => absurd ha (by omega), BW.out⟩
   case round =>
    obtain ⟨k, hk, rfl, hall, hb⟩ := hrel
    have HALL := Lib.hid hall
    clear BW
    have BW := Lib.hid hb
    clear hall hb hlt hlt'
    by_cases hlt : k < i
    ·have hlt' : (k : Int) < i := by omega
     have hkr : k < l.length := by rw [← HN.out]; exact hlt
     go_wp2_with fail
     go_loopw [7] (fun s7 wr => ∃ m : Nat, m ≤ l[k].2.2.length ∧ s7 = .int .i64 m ∧ (∀ b, b < m → joinedB l l[k] b = true) ∧ Below w.heap.size w wr) (fun s7 _ => l[k].2.2.length - (intOf s7).toNat)
     case atStart => exact ⟨0, by omega, by go_num, fun b hb => absurd hb (by omega), BW.out⟩
     case round =>
      obtain ⟨m, hm, rfl, hms, hb⟩ := hrel
      have HMS := Lib.hid hms
      clear BW
      have BW := Lib.hid hb
      clear hms hb
      obtain ⟨b, off, rfl, hb, hc0, hc1, u, hc2, hu⟩ := ((HA.out.below secR_ BW.out).more secR_ BW.out.size).at hkr
      obtain ⟨Au, cu, rfl, hul, hum⟩ := hu.slice
      obtain ⟨s, hs⟩ : ∃ s, s = l[k] := ⟨_, rfl⟩
      have HS := Lib.hid hs
      rw [← hs] at hc0 hc1 hc2 hu hul hm HMS ⊢
      obtain ⟨id, pt, es⟩ := s
      dsimp only at hc0 hc1 hc2 hu hul hm ⊢
      obtain ⟨ne, hne⟩ : ∃ ne, ne = es.length := ⟨_, rfl⟩
      rw [← hne] at hc2 hul hm ⊢
      have HNE := Lib.hid hne
      have hnm : ne ≤ 9223372036854775807 := by unfold maxLen at hum; omega
      have hg0 : wr.cell? ⟨b, off + k * 3, none⟩ = some (.int .i64 id) := hc0
      have hg1 : wr.cell? ⟨b, off + k * 3 + 1, none⟩ = some (.int .i64 pt) := hc1
      have hg2 : wr.cell? ⟨b, off + k * 3 + 2, none⟩ = some (.slice Au ne cu) := hc2
      have HSV : Hid (SecV wr wr.heap.size (.agg #[.int .i64 id, .int .i64 pt, .slice Au ne cu]) (id, pt, es)) := Lib.hid ⟨_, rfl, by rw [hne]; exact hu⟩
      clear hc0 hc1 hc2 hu hul hum hs hne hb
      by_cases hmn : m < ne
      ·have hmn' : (m : Int) < ne := by omega
       go_wp2_with fail
       refine (rjoined_any _ _ l (id, pt, es) m wr ((HA.out.below secR_ BW.out).more secR_ BW.out.size) HSV.out (by rw [← HNE.out]; exact hmn)).mono ?_
       rintro e w2 ⟨rfl, b2⟩
       have B2 := Lib.hid (BW.out.trans (b2.mono BW.out.size))
       clear b2 hg0 hg1 hg2
       cases hj : joinedB l (id, pt, es) m with
       | false =>
        have HF : Hid (mayT l = false) := Lib.hid (mayT_false fun h => by
         have := h.e k m hkr (by rw [← HS.out, ← HNE.out]; exact hmn)
         rw [← HS.out, hj] at this
         cases this)
        have BZ := B2
        clear hj
        go_wp2_with fail
        go_ret
        exact ⟨by rw [HF.out]; rfl, BZ.out⟩
       | true =>
        have HNX : Hid (∀ b, b < m + 1 → joinedB l (id, pt, es) b = true) := Lib.hid (fun b hb => by
         rcases Nat.lt_or_ge b m with h | h
         ·exact HMS.out b h
         ·obtain rfl : b = m := by omega
          exact hj)
        clear hj
        go_wp2_with fail
        go_roundw
        case measure => simp [intOf]; omega
        case rel => exact ⟨m + 1, by omega, by go_num, HNX.out, B2.out⟩
      ·obtain rfl : m = ne := by omega
       have hmn' : ¬ (m : Int) < m := by omega
       have HNK : Hid (∀ a (ha : a < k + 1) (hl : a < l.length) b, b < l[a].2.2.length → joinedB l l[a] b = true) := Lib.hid (fun a ha hl b hb => by
        rcases Nat.lt_or_ge a k with h | h
        ·exact HALL.out a h hl b hb
        ·obtain rfl : a = k := by omega
         rw [← HS.out] at hb ⊢
         exact HMS.out b (by rw [HNE.out]; exact hb))
       go_wp2_with fail
       go_roundw
       case measure => simp [intOf]; omega
       case rel => exact ⟨k + 1, by omega, by go_num, HNK.out, BW.out⟩
    ·obtain rfl : k = i := by omega
     have hlt' : ¬ (k : Int) < k := by omega
     have HF : Hid (mayT l = true) := Lib.hid (mayT_true ⟨HL16.out, fun a ha => (HROW.out a (by rw [HN.out]; exact ha) ha).1, fun a b hb ha => (HROW.out a (by rw [HN.out]; exact ha) ha).2 b hb, fun a b ha hb => HALL.out a (by rw [HN.out]; exact ha) ha b hb⟩)
     go_wp2_with fail
     go_ret
     exact ⟨by rw [HF.out]; rfl, BW.out⟩

noncomputable def chkT (l : List Sec) : Int := if mayT l then 0 else 8

theorem run_append_list {P : Program} {w : World} {base t ty e size bytes : Nat} {i : TypeInfo} {z : Value} (ht : P.underlying t = some (.slice e)) (hi : P.info? e = some i) (hz : i.zero = some z) (hzs : z.cells.size = size) (hsize : i.size = size) (hsz : 0 < size) (hby : i.bytes = bytes) (hb8 : bytes ≤ 100)
  {v : Value} {n m c : Nat} {A : Option Addr} {ys news : List Value} (hown : w.ownsRow base e size v n ys) (hl : news.length = m * size) (hA : A = none → m = 0 ∧ c = 0)
  (hc : ∀ a, A = some a → ∀ j u, news[j]? = some u → w.cell? (a.add j) = some u) (h1 : ∀ u ∈ news, u.oneCell' = true) (h63 : n + m ≤ 100000) (hbase : base ≤ w.heap.size) :
  ∃ v' w', (Builtin.append_ #[t, t] ty #[v, .slice A m c]).run P w = .ok v' w' ∧ w'.ownsRow base e size v' (n + m) (ys ++ news) ∧ w.grownBy w' v.ownBlock := by
 cases A with
 | none =>
  obtain ⟨rfl, rfl⟩ := hA rfl
  obtain rfl : news = [] := List.eq_nil_of_length_eq_zero (by omega)
  exact ⟨v, w, run_append_owned_none (P := P) (w := w) base t ty e i size ht hi v n ys hown, by simpa using hown, World.grownBy.refl w _⟩
 | some a =>
  obtain ⟨v', w', hr, ho, hg, _⟩ := run_append_own (P := P) w base t ty e i z size bytes ht hi hz hsize hby hzs hsz v n ys hown a m c news hl (hc a rfl) h1 (by unfold maxLen; omega) (by have := Nat.mul_le_mul h63 hb8; omega) hbase
  exact ⟨v', w', hr, ho, hg⟩
theorem wpList_append_list {P : Program} {w : World} {ops : Array Oper} {rest : List Oper} {o : Oper} {a : Act} {Q : Exit → Act → World → Prop} (hgd : o.guard = none) (s x : Operand) (t : TypeId)
  (ho : o.op = .call { callee := .builtin .append, args := #[s, x], argTypes := #[t, t] })
  {base e size bytes : Nat} {i : TypeInfo} {z : Value} (ht : P.underlying t = some (.slice e)) (hi : P.info? e = some i) (hz : i.zero = some z) (hzs : z.cells.size = size) (hsize : i.size = size) (hsz : 0 < size) (hby : i.bytes = bytes) (hb8 : bytes ≤ 100)
  {v : Value} {n m c : Nat} {A : Option Addr} {ys news : List Value} (hs : a.eval s = v) (hown : w.ownsRow base e size v n ys) (hu : a.eval x = .slice A m c) (hl : news.length = m * size) (hA : A = none → m = 0 ∧ c = 0)
  (hc : ∀ a, A = some a → ∀ j u, news[j]? = some u → w.cell? (a.add j) = some u) (h1 : ∀ u ∈ news, u.oneCell' = true) (h63 : n + m ≤ 100000) (hbase : base ≤ w.heap.size)
  (h : ∀ v' w', w'.ownsRow base e size v' (n + m) (ys ++ news) → w.grownBy w' v.ownBlock → wpList P ops Q rest (a.put o.dst v') w') : wpList P ops Q (o :: rest) a w := by
 refine wpList_plain hgd fun K hK => ?_
 obtain ⟨v', w', hrun, h2, h3⟩ := run_append_list (ty := o.type) ht hi hz hzs hsize hsz hby hb8 hown hl hA hc h1 h63 hbase
 unfold Oper.wp execOp
 simp only [ho, resolve, invoke, builtin, Sem.run_bind, Sem.run_pure, Result.andThen_ok, List.map_toArray, List.map_cons, List.map_nil, hs, hu, hrun]
 exact hK _ _ (h v' w' h2 h3)
theorem wp_append_list {P : Program} {w : World} {o : Oper} {a : Act} {K : Act → World → Prop} {Q : Exit → Act → World → Prop} (s x : Operand) (t : TypeId)
  (ho : o.op = .call { callee := .builtin .append, args := #[s, x], argTypes := #[t, t] })
  {base e size bytes : Nat} {i : TypeInfo} {z : Value} (ht : P.underlying t = some (.slice e)) (hi : P.info? e = some i) (hz : i.zero = some z) (hzs : z.cells.size = size) (hsize : i.size = size) (hsz : 0 < size) (hby : i.bytes = bytes) (hb8 : bytes ≤ 100)
  {v : Value} {n m c : Nat} {A : Option Addr} {ys news : List Value} (hs : a.eval s = v) (hown : w.ownsRow base e size v n ys) (hu : a.eval x = .slice A m c) (hl : news.length = m * size) (hA : A = none → m = 0 ∧ c = 0)
  (hc : ∀ a, A = some a → ∀ j u, news[j]? = some u → w.cell? (a.add j) = some u) (h1 : ∀ u ∈ news, u.oneCell' = true) (h63 : n + m ≤ 100000) (hbase : base ≤ w.heap.size)
  (h : ∀ v' w', w'.ownsRow base e size v' (n + m) (ys ++ news) → w.grownBy w' v.ownBlock → K (a.put o.dst v') w') : o.wp P a w K Q := by
 obtain ⟨v', w', hrun, h2, h3⟩ := run_append_list (ty := o.type) ht hi hz hzs hsize hsz hby hb8 hown hl hA hc h1 h63 hbase
 unfold Oper.wp execOp
 simp only [ho, resolve, invoke, builtin, Sem.run_bind, Sem.run_pure, Result.andThen_ok, List.map_toArray, List.map_cons, List.map_nil, hs, hu, hrun]
 exact h v' w' h2 h3

/-- The cells of a list that is read. -/
theorem ListIn.cells {α : Type} {sz : Nat} {R : El α} {W : World} {B n c : Nat} {A : Option Addr} {xs : List α} (hsz : 0 < sz)
  (hfull : ∀ (c : Nat → Option Value) (x : α), R W B c x → ∀ k, k < sz → ∃ v, c k = some v ∧ v.oneCell' = true) (hR : ∀ (c c' : Nat → Option Value) (x : α), (∀ k, k < sz → c k = c' k) → R W B c x → R W B c' x)
  (h : ListIn sz R W B (.slice A n c) xs) :
  ∃ yss : List (List Value), yss.length = xs.length ∧ (∀ ys ∈ yss, ys.length = sz) ∧ (∀ (j : Nat) (ys : List Value) (x : α), yss[j]? = some ys → xs[j]? = some x → R W B (fun k => ys[k]?) x) ∧
   (A = none → n = 0 ∧ c = 0) ∧ n = xs.length ∧ (∀ u ∈ yss.flatten, u.oneCell' = true) ∧ ∀ a, A = some a → ∀ j u, yss.flatten[j]? = some u → W.cell? (a.add j) = some u := by
 obtain ⟨A', cap, e, h1, h2, hn, h3⟩ := h
 cases e
 rcases Nat.eq_zero_or_pos xs.length with h0 | hp
 ·obtain rfl : xs = [] := List.eq_nil_of_length_eq_zero h0
  exact ⟨[], rfl, by simp, fun j ys x h => by simp at h, fun h => ⟨rfl, hn h⟩, rfl, by simp, fun a _ j u h => by simp at h⟩
 obtain ⟨b, off, rfl, hb, hc⟩ := h3 hp
 have each : ∀ j, ∃ ys : List Value, j < xs.length → ys.length = sz ∧ (∀ k, k < sz → ys[k]? = W.cell? ⟨b, off + j * sz + k, none⟩) ∧ ∀ u ∈ ys, u.oneCell' = true := fun j => by
  by_cases hj : j < xs.length
  ·have hf := hfull _ _ (hc j hj)
   have hall : ∀ k, ∃ v : Value, k < sz → W.cell? ⟨b, off + j * sz + k, none⟩ = some v ∧ v.oneCell' = true := fun k => by
    by_cases hk : k < sz
    ·obtain ⟨v, hv⟩ := hf k hk
     exact ⟨v, fun _ => hv⟩
    ·exact ⟨.bool false, fun h => absurd h hk⟩
   obtain ⟨f, hf2⟩ := Classical.axiomOfChoice hall
   refine ⟨(List.range sz).map f, fun _ => ⟨by simp, fun k hk => ?_, fun u hu => ?_⟩⟩
   ·rw [(hf2 k hk).1, List.getElem?_map, List.getElem?_range hk]; rfl
   ·obtain ⟨k, hk, rfl⟩ := List.mem_map.1 hu
    exact (hf2 k (List.mem_range.1 hk)).2
  ·exact ⟨[], fun h => absurd h hj⟩
 obtain ⟨f, hf⟩ := Classical.axiomOfChoice each
 have hs : ∀ ys ∈ (List.range xs.length).map f, ys.length = sz := fun ys hy => by
  obtain ⟨j, hj, rfl⟩ := List.mem_map.1 hy
  exact (hf j (List.mem_range.1 hj)).1
 refine ⟨(List.range xs.length).map f, by simp, hs, fun j ys x hy hx => ?_, (fun h => by cases h), rfl, fun u hu => ?_, fun a ha j u hu => ?_⟩
 ·have hj : j < xs.length := (List.getElem?_eq_some_iff.1 hx).1
  rw [List.getElem?_map, List.getElem?_range hj] at hy
  cases hy
  rw [List.getElem?_eq_getElem hj] at hx
  cases hx
  exact hR _ _ _ (fun k hk => ((hf j hj).2.1 k hk).symm) (hc j hj)
 ·obtain ⟨ys, hy, hu⟩ := List.mem_flatten.1 hu
  obtain ⟨j, hj, rfl⟩ := List.mem_map.1 hy
  exact (hf j (List.mem_range.1 hj)).2.2 u hu
 ·cases ha
  have hlt : j < ((List.range xs.length).map f).flatten.length := (List.getElem?_eq_some_iff.1 hu).1
  rw [flat_length _ hs, List.length_map, List.length_range] at hlt
  have hq : j / sz < xs.length := Nat.div_lt_of_lt_mul (by rw [Nat.mul_comm]; exact hlt)
  have hr : j % sz < sz := Nat.mod_lt _ hsz
  have he : j = j / sz * sz + j % sz := by rw [Nat.mul_comm]; exact (Nat.div_add_mod j sz).symm
  have hy : ((List.range xs.length).map f)[j / sz]? = some (f (j / sz)) := by rw [List.getElem?_map, List.getElem?_range hq]; rfl
  have hfl := flat_at _ (j / sz) (j % sz) _ hs hy hr
  rw [← he, hu, (hf _ hq).2.1 _ hr] at hfl
  rw [Addr.add_lit, hfl]
  congr 2
  omega

theorem heap_setK {W : World} {b k : Nat} {cur : Array Value} {t : TypeId} {fr : Nat × Nat} (h : W.heap[b]? = some (.cells cur t fr)) (x : Value) : (W.setCell ⟨b, k, none⟩ x).heap[b]? = some (.cells (cur.setIfInBounds k x) t fr) := by
 simp only [World.setCell, Array.getElem?_modify, if_true, h, Option.map_some]
 rfl
theorem grown_setK (W : World) (b k : Nat) (x : Value) : W.grownBy (W.setCell ⟨b, k, none⟩ x) (some b) := grown_set W b k x
theorem heap_set3 {W : World} {b : Nat} {c0 c1 c2 : Value} {t : TypeId} (h : W.heap[b]? = some (.cells #[c0, c1, c2] t (0, 0))) (x y z : Value) : (((W.setCell ⟨b, 0, none⟩ x).setCell ⟨b, 1, none⟩ y).setCell ⟨b, 2, none⟩ z).heap[b]? = some (.cells #[x, y, z] t (0, 0)) :=
 heap_setK (heap_setK (heap_setK h x) y) z
theorem grown_set3 (W : World) (b : Nat) (x y z : Value) : W.grownBy (((W.setCell ⟨b, 0, none⟩ x).setCell ⟨b, 1, none⟩ y).setCell ⟨b, 2, none⟩ z) (some b) :=
 grown_trans (grown_trans (grown_set W b 0 x) (grown_set _ b 1 y)) (grown_set _ b 2 z)
theorem below_set3 {B b : Nat} {w W : World} (h : Below B w W) (hb : B ≤ b) (x y z : Value) : Below B w (((W.setCell ⟨b, 0, none⟩ x).setCell ⟨b, 1, none⟩ y).setCell ⟨b, 2, none⟩ z) :=
 below_set (below_set (below_set h hb 0 x) hb 1 y) hb 2 z
theorem results_cell_3 {P : Program} {fn : Func} {p : Tmp} {ty : TypeId} (h : fn.results = #[.cell p ty]) (tmps : Array Value) (w : World) (g : Nat) {v1 v2 v3 : Value} {t : TypeId} (hp : tmps.getD p undef = .pointer (some ⟨g, 0, none⟩)) (hb : w.heap[g]? = some (.cells #[v1, v2, v3] t (0, 0)))
  {fs : Array Field} (hu : P.underlying ty = some (.struct fs)) (hi : (P.info? ty).map (·.size) = some 3) : (results fn tmps).run P w = .ok (.agg #[v1, v2, v3]) w :=
 results_cell_row h tmps w g t #[v1, v2, v3] (0, 0) _ hp hb hu rfl (by simpa using hi)
theorem results_3_tmp {P : Program} {fn : Func} {p u : Tmp} {ty : TypeId} (h : fn.results = #[.cell p ty, .tmp u]) (tmps : Array Value) (w : World) (g : Nat) {v1 v2 v3 : Value} {t : TypeId} {fr : Nat × Nat} (hp : tmps.getD p undef = .pointer (some ⟨g, 0, none⟩)) (hb : w.heap[g]? = some (.cells #[v1, v2, v3] t fr))
  {fs : Array Field} (hu : P.underlying ty = some (.struct fs)) (hi : (P.info? ty).map (·.size) = some 3) (x : Value) (hx : tmps.getD u undef = x) : (results fn tmps).run P w = .ok (.tuple #[.agg #[v1, v2, v3], x]) w := by
 have hp' : tmps[p]?.getD undef = .pointer (some ⟨g, 0, none⟩) := by simpa using hp
 rw [results_cell_tmp h, hp, hx]
 simp [asAddr, run_loadVar_row w g t ty #[v1, v2, v3] fr _ hb hu rfl (by simpa using hi)]
theorem infoSec3 : (Tryz.prog.info? 67).map (·.size) = some 3 := by kernel_rfl
theorem infoJoin : (Tryz.prog.info? 85).map (fun i => (i.zero, i.size, i.bytes)) = some (some (.agg #[.int .i64 0, .int .i64 0]), 2, 16) := by kernel_rfl
theorem infoSec : (Tryz.prog.info? 67).map (fun i => (i.zero, i.size, i.bytes)) = some (some (.agg #[.int .i64 0, .int .i64 0, .slice none 0 0]), 3, 40) := by kernel_rfl
theorem joinR_full {W : World} {B : Nat} (c : Nat → Option Value) (x : Jn) (h : JoinR W B c x) : ∀ k, k < 2 → ∃ v, c k = some v ∧ v.oneCell' = true := fun k hk => by
 match k, hk with
 | 0, _ => exact ⟨_, h.1, rfl⟩
 | 1, _ => exact ⟨_, h.2, rfl⟩
/-- Joins of the call's own. -/
abbrev JoinsOwn (W : World) (lo : Nat) (v : Value) (l : List Jn) : Prop := ListOwn 85 2 JoinR W lo v l
theorem JoinsOwn.sec {W : World} {lo : Nat} {u : Value} {id pt : Int} {l : List Jn} (h : JoinsOwn W lo u l) : SecV W W.heap.size (.agg #[.int .i64 id, .int .i64 pt, u]) (id, pt, l) :=
 ⟨u, rfl, h.in_ joinR_cells⟩
theorem ListOwn.slice {α : Type} {T : TypeId} {sz : Nat} {R : El α} {W : World} {lo : Nat} {v : Value} {xs : List α} (h : ListOwn T sz R W lo v xs) : ∃ A c, v = .slice A xs.length c := by
 obtain ⟨yss, ho, _⟩ := h
 exact own_sliceN ho

set_option maxHeartbeats 4000000 in
theorem rtwin7_any (v : Value) (s : Sec) (w : World) (h : SecV w w.heap.size v s) (hl : s.2.2.length ≤ 1000) :
  Calls Tryz.prog 38 #[v] w fun e w' => ∃ u, e = .returned (.agg #[.int .i64 s.1, .int .i64 s.2.1, u]) ∧ JoinsOwn w' w.heap.size u s.2.2 ∧ Below w.heap.size w w' := by
 obtain ⟨u, rfl, hu⟩ := h
 have HU := Lib.hid hu
 obtain ⟨A, c, rfl, -, -⟩ := hu.slice
 obtain ⟨id, pt, l⟩ := s
 dsimp only at HU hl ⊢
 obtain ⟨i0, hi, hz0, hz1, hz2⟩ := info_parts infoJoin
 have I0 := Lib.hid hi
 have I1 := Lib.hid hz0
 have I2 := Lib.hid hz1
 have I3 := Lib.hid hz2
 clear hi hz0 hz1 hz2 hu
 obtain ⟨n, hn⟩ : ∃ n, n = l.length := ⟨_, rfl⟩
 have HN := Lib.hid hn
 have HL : Hid (n ≤ 1000) := Lib.hid (by omega)
 have hq := two_boxes w (.cells #[.int .i64 id, .int .i64 pt, .slice A n c] 67) (.cells #[.int .i64 0, .int .i64 0, .slice none 0 0] 67)
 have HA : Hid (JoinsIn w w.heap.size (.slice A n c) l) := Lib.hid (by rw [hn]; exact HU.out)
 rw [← hn]
 clear hn HU hl
 go_enter Tryz.func38, Tryz.ntmps38
 go_upto_region 2 with fail
 have hqs : ((w.alloc (.cells #[.int .i64 id, .int .i64 pt, .slice A n c] 67)).alloc (.cells #[.int .i64 0, .int .i64 0, .slice none 0 0] 67)).heap.size = w.heap.size + 2 := by simp
 generalize (w.alloc (.cells #[.int .i64 id, .int .i64 pt, .slice A n c] 67)).alloc (.cells #[.int .i64 0, .int .i64 0, .slice none 0 0] 67) = q at hq hqs ⊢
 obtain ⟨q0, q1, qb⟩ := hq
 have X0 := Lib.hid q0
 have X1 := Lib.hid q1
 have QB := Lib.hid qb
 have QS := Lib.hid hqs
 obtain ⟨yss, hy1, hy2, hy3, hy4, hy5, hy6, hy7⟩ := ((HA.out.below joinR QB.out).more joinR QB.out.size).cells (by omega) joinR_full joinR_cells
 have Y1 := Lib.hid hy1
 have Y2 := Lib.hid hy2
 have Y3 := Lib.hid hy3
 have Y4 := Lib.hid hy4
 have Y6 := Lib.hid hy6
 have Y7 := Lib.hid hy7
 have YL : Hid (yss.flatten.length = n * 2) := Lib.hid (by rw [flat_length _ hy2, hy1, HN.out])
 obtain ⟨k0, k1, k2⟩ := cell3_of X0.out
 clear q0 q1 qb hqs hy1 hy2 hy3 hy4 hy5 hy6 hy7
 go_upto_region 3 with ((with_reducible show wpList _ _ _ (⟨some 7, _, _, _, _, _⟩ :: _) _ _); refine wpList_append_list rfl (.tmp 4) (.tmp 6) _ rfl Tryz.underlying65 I0.out I1.out rfl I2.out (by decide) I3.out (by decide) rfl (World.ownsRow_nil q q.heap.size _ _) rfl YL.out Y4.out Y7.out Y6.out (by have := HL.out; omega) (Nat.le_refl _) ?_; intro v4 w4 hown4 hgrow4; rw [Nat.zero_add, List.nil_append] at hown4; obtain ⟨A4, c4, rfl⟩ := own_sliceN hown4; have O4 := Lib.hid hown4; have B4 : Hid (Below q.heap.size q w4) := Lib.hid ((Below.refl _ q).grown hgrow4 (Nat.le_refl _) (fun k hk => by cases hk)); clear hown4 hgrow4; have X04 := Lib.hid ((B4.out.block _ (heap_lt X0.out)).trans X0.out); have X14 := Lib.hid ((B4.out.block _ (heap_lt X1.out)).trans X1.out); obtain ⟨m0, m1, m2⟩ := cell3_of X04.out; have f2 := frozen2_of X04.out 2)
 have hx5 := heap_setK (k := 2) X04.out (.slice A4 n c4)
 have hg5 := grown_setK w4 w.heap.size 2 (.slice A4 n c4)
 have hb5 := below_set (QB.out.trans (B4.out.mono QB.out.size)) (Nat.le_refl w.heap.size) 2 (.slice A4 n c4)
 have ho5 := O4.out.kept hg5 (by
  cases hv : (Value.slice A4 n c4).ownBlock with
  | none => exact .inl rfl
  | some k => refine .inr (fun e => ?_); injection e with e; have := own_ge O4.out _ hv; have := QS.out; omega)
 have hx15 := (hg5.block (w.heap.size + 1) (heap_lt X14.out) (fun e => by injection e with e; omega)).trans X14.out
 generalize w4.setCell ⟨w.heap.size, 2, none⟩ (.slice A4 n c4) = w5 at hx5 hg5 hb5 ho5 hx15 ⊢
 have hx5' : w5.heap[w.heap.size]? = some (.cells #[.int .i64 id, .int .i64 pt, .slice A4 n c4] 67 (0, 0)) := hx5
 have X15 := Lib.hid hx15
 have O5 := Lib.hid ho5
 have B5 := Lib.hid hb5
 clear k0 k1 k2 m0 m1 m2 f2 hg5 hb5 ho5 hx5
 obtain ⟨k0, k1, k2⟩ := cell3_of hx5'
 obtain ⟨r0, r1, r2⟩ := cell3_of X15.out
 have f0 := frozen2_of X15.out 0
 have f1 := frozen2_of X15.out 1
 have f2 := frozen2_of X15.out 2
 clear hx5' hx15
 go_wp2_with fail
 refine bodyPost_ret (v := .agg #[.int .i64 id, .int .i64 pt, .slice A4 n c4]) ?_ rfl ⟨_, rfl, ?_, below_set3 B5.out (Nat.le_succ _) _ _ _⟩
 ·exact results_cell_3 rfl _ _ (w.heap.size + 1) rfl (heap_set3 X15.out _ _ _) Tryz.underlying67 infoSec3
 ·have ho6 := O5.out.kept (grown_set3 w5 (w.heap.size + 1) (.int .i64 id) (.int .i64 pt) (.slice A4 n c4)) (by
   cases hv : (Value.slice A4 n c4).ownBlock with
   | none => exact .inl rfl
   | some k => refine .inr (fun e => ?_); injection e with e; have := own_ge O5.out _ hv; have := QS.out; omega)
  exact ⟨yss, by rw [← HN.out]; exact owns_mono ho6 (by have := QS.out; omega), Y1.out, by rw [← HN.out]; have := HL.out; unfold maxLen; omega, Y2.out, fun j ys x h1 h2 => Y3.out j ys x h1 h2⟩

def thrE (s : Sec) (a b : Int) : Int := if shapedB s then (if lieS s.2.1 a b < 0 then 2 else 0) else 8
def thrL (s : Sec) (a b : Int) : Int := if thrE s a b = 0 then lieS s.2.1 a b else 0
/-- The first end to which a way leads, whose lie is that one. -/
def outT (s : Sec) (a lie : Int) : Option Nat := (List.range s.2.2.length).find? fun t => decide (lieS s.2.1 a (t : Int) = lie)
def outE (s : Sec) (a lie : Int) : Int := if shapedB s then (if lie < 0 then 2 else match outT s a lie with | none => 2 | some _ => 0) else 8
def outV (s : Sec) (a lie : Int) : Int := if outE s a lie = 0 then (match outT s a lie with | none => 0 | some t => (t : Int)) else 0
theorem outT_none {s : Sec} {a lie : Int} (h : ∀ t, t < s.2.2.length → lieS s.2.1 a (t : Int) ≠ lie) : outT s a lie = none := by
 rw [outT, List.find?_eq_none]
 intro t ht
 simpa using h t (List.mem_range.1 ht)
theorem outT_some {s : Sec} {a lie : Int} {t : Nat} (ht : t < s.2.2.length) (he : lieS s.2.1 a (t : Int) = lie) (h : ∀ j, j < t → lieS s.2.1 a (j : Int) ≠ lie) : outT s a lie = some t := by
 rw [outT]
 have hr : List.range s.2.2.length = List.range t ++ t :: (List.range' (t + 1) (s.2.2.length - t - 1)) := by
  rw [List.range_eq_range', List.range_eq_range', show s.2.2.length = t + (1 + (s.2.2.length - t - 1)) from by omega, ← List.range'_append_1, Nat.zero_add, Nat.add_comm 1, List.range'_succ]
  congr 3
  omega
 rw [hr, List.find?_append, List.find?_eq_none.2 (fun x hx => by simpa using h x (List.mem_range.1 hx)), Option.none_or, List.find?_cons_of_pos (by simpa using he)]

set_option maxHeartbeats 4000000 in
theorem rsamesec_any (v y : Value) (s : Sec) (w : World) (h : SecV w w.heap.size v s) (h' : SecV w w.heap.size y s) :
  Calls Tryz.prog 76 #[v, y] w fun e w' => e = .returned (.bool true) ∧ Below w.heap.size w w' := by
 obtain ⟨u, rfl, hu⟩ := h
 obtain ⟨u', rfl, hu'⟩ := h'
 have HU := Lib.hid hu
 have HU' := Lib.hid hu'
 obtain ⟨A, c, rfl, h1, h2⟩ := hu.slice
 obtain ⟨A', c', rfl, -, -⟩ := hu'.slice
 obtain ⟨id, pt, l⟩ := s
 dsimp only at h1 HU HU' ⊢
 obtain ⟨n, hn⟩ : ∃ n, n = l.length := ⟨_, rfl⟩
 have hnm : n ≤ 9223372036854775807 := by unfold maxLen at h2; omega
 have HN := Lib.hid hn
 rw [← hn] at HU HU' ⊢
 clear hu hu' hn h1 h2
 have hq := two_boxes w (.cells #[.int .i64 id, .int .i64 pt, .slice A n c] 67) (.cells #[.int .i64 id, .int .i64 pt, .slice A' n c'] 67)
 go_enter Tryz.func76, Tryz.ntmps76
 go_upto_region 1 with fail
 generalize (w.alloc (.cells #[.int .i64 id, .int .i64 pt, .slice A n c] 67)).alloc (.cells #[.int .i64 id, .int .i64 pt, .slice A' n c'] 67) = q at hq ⊢
 obtain ⟨q0, q1, qb⟩ := hq
 obtain ⟨k0, k1, k2⟩ := cell3_of q0
 obtain ⟨m0, m1, m2⟩ := cell3_of q1
 have X0' := Lib.hid q0
 have X1' := Lib.hid q1
 have QB := Lib.hid qb
 clear q0 q1 qb
 go_wp2_with fail
 clear k0 k1 k2 m0 m1 m2
 go_loopw [5] (fun s5 wr => ∃ i : Nat, i ≤ n ∧ s5 = .int .i64 i ∧ wr.heap[w.heap.size]? = some (.cells #[.int .i64 id, .int .i64 pt, .slice A n c] 67 (0, 0)) ∧ wr.heap[w.heap.size + 1]? = some (.cells #[.int .i64 id, .int .i64 pt, .slice A' n c'] 67 (0, 0)) ∧ Below w.heap.size w wr) (fun s5 _ => n - (intOf s5).toNat)
 case atStart => exact ⟨0, by omega, by go_num, X0'.out, X1'.out, QB.out⟩
 case round =>
  obtain ⟨i, hi, rfl, hx0, hx1, hb⟩ := hrel
  have X0 := Lib.hid hx0
  have X1 := Lib.hid hx1
  have BW := Lib.hid hb
  obtain ⟨k0, k1, k2⟩ := cell3_of hx0
  clear hx0 hx1 hb
  by_cases hlt : i < n
  ·have hlt' : (i : Int) < n := by omega
   have hir : i < l.length := by rw [← HN.out]; exact hlt
   obtain ⟨ba, oa, rfl, hba, hca0, hca1⟩ := ((HU.out.below joinR BW.out).more joinR BW.out.size).at hir
   obtain ⟨bb, ob, rfl, hbb, hcb0, hcb1⟩ := ((HU'.out.below joinR BW.out).more joinR BW.out.size).at hir
   obtain ⟨a, b, hab⟩ : ∃ a b, l[i] = (a, b) := ⟨_, _, rfl⟩
   rw [hab] at hca0 hca1 hcb0 hcb1
   dsimp only at hca0 hca1 hcb0 hcb1
   have LA := Lib.hid hba
   have LB := Lib.hid hbb
   have CA0 : Hid (wr.cell? ⟨ba, oa + i * 2, none⟩ = some (.int .i64 a)) := Lib.hid hca0
   have CA1 : Hid (wr.cell? ⟨ba, oa + i * 2 + 1, none⟩ = some (.int .i64 b)) := Lib.hid hca1
   have CB0 : Hid (wr.cell? ⟨bb, ob + i * 2, none⟩ = some (.int .i64 a)) := Lib.hid hcb0
   have CB1 : Hid (wr.cell? ⟨bb, ob + i * 2 + 1, none⟩ = some (.int .i64 b)) := Lib.hid hcb1
   have BD : Hid (Below w.heap.size w wr.drew) := Lib.hid BW.out.drew
   have X0D : Hid (wr.drew.heap[w.heap.size]? = some (.cells #[.int .i64 id, .int .i64 pt, .slice (some ⟨ba, oa, none⟩) n c] 67 (0, 0))) := Lib.hid X0.out
   have X1D : Hid (wr.drew.heap[w.heap.size + 1]? = some (.cells #[.int .i64 id, .int .i64 pt, .slice (some ⟨bb, ob, none⟩) n c'] 67 (0, 0))) := Lib.hid X1.out
   clear hba hbb hca0 hca1 hcb0 hcb1 hab
   go_wp2_with fail
   refine wp_region_held_drew (S := fun v => Below wr.heap.size wr v) (by kernel_rfl) ((Below.refl wr.heap.size wr).drew) (fun hHeld => ?_)
   refine tk 0 hHeld ?_;refine tkc 1 hHeld (fun w' hSw => cell3_of ((hSw.block _ (heap_lt X0.out)).trans X0.out)) ?_;refine tk 2 hHeld ?_;refine tk 3 hHeld ?_
   refine wpAnyH_take (i := 4) (v := ?_) rfl (by kernel_rfl) (by kernel_rfl) (by kernel_rfl) (fun _ _ _ h => h) (Or.inl ⟨by rfl, ?_⟩) hHeld ?_
   rotate_left
   ·intro w' hSw; have ca := (hSw.cell (p := ⟨ba, oa + i * 2, none⟩) LA.out).trans CA0.out; have cb := (hSw.cell (p := ⟨ba, oa + i * 2 + 1, none⟩) LA.out).trans CA1.out; go_simp; try with_reducible rfl
   simp only [zn, Act.put]
   refine tk 5 hHeld ?_;refine tkc 6 hHeld (fun w' hSw => cell3_of ((hSw.block _ (heap_lt X1.out)).trans X1.out)) ?_;refine tk 7 hHeld ?_;refine tk 8 hHeld ?_
   refine wpAnyH_take (i := 9) (v := ?_) rfl (by kernel_rfl) (by kernel_rfl) (by kernel_rfl) (fun _ _ _ h => h) (Or.inl ⟨by rfl, ?_⟩) hHeld ?_
   rotate_left
   ·intro w' hSw; have ca := (hSw.cell (p := ⟨bb, ob + i * 2, none⟩) LB.out).trans CB0.out; have cb := (hSw.cell (p := ⟨bb, ob + i * 2 + 1, none⟩) LB.out).trans CB1.out; go_simp; try with_reducible rfl
   simp only [zn, Act.put]
   refine tk 10 hHeld ?_
   refine wpAnyH_done (by kernel_rfl) ?_ _
   go_wp2_with fail
   go_roundw
   case measure => simp [intOf]; omega
   case rel => exact ⟨i + 1, by omega, by go_num, X0D.out, X1D.out, BD.out⟩
  ·obtain rfl : i = n := by omega
   have hlt' : ¬ (i : Int) < i := by omega
   go_wp2_with fail
   go_ret
   exact ⟨rfl, BW.out⟩

set_option maxHeartbeats 4000000 in
theorem rsameall_any (v y : Value) (l : List Sec) (w : World) (h : SectsIn w w.heap.size v l) (h' : SectsIn w w.heap.size y l) :
  Calls Tryz.prog 45 #[v, y] w fun e w' => e = .returned (.bool true) ∧ Below w.heap.size w w' := by
 have HU := Lib.hid h
 have HU' := Lib.hid h'
 obtain ⟨A, c, rfl, h1, h2⟩ := h.slice
 obtain ⟨A', c', rfl, -, -⟩ := h'.slice
 obtain ⟨n, hn⟩ : ∃ n, n = l.length := ⟨_, rfl⟩
 have hnm : n ≤ 9223372036854775807 := by unfold maxLen at h2; omega
 have HN := Lib.hid hn
 rw [← hn] at HU HU' ⊢
 clear h h' hn h1 h2
 go_enter Tryz.func45, Tryz.ntmps45
 go_wp2_with fail
 go_loopw [5] (fun s5 wr => ∃ i : Nat, i ≤ n ∧ s5 = .int .i64 i ∧ Below w.heap.size w wr) (fun s5 _ => n - (intOf s5).toNat)
 case atStart => exact ⟨0, by omega, by go_num, Below.refl _ _⟩
 case round =>
  obtain ⟨i, hi, rfl, hb⟩ := hrel
  have BW := Lib.hid hb
  clear hb
  by_cases hlt : i < n
  ·have hlt' : (i : Int) < n := by omega
   have hir : i < l.length := by rw [← HN.out]; exact hlt
   obtain ⟨ba, oa, rfl, hba, hca0, hca1, ua, hca2, hua⟩ := ((HU.out.below secR_ BW.out).more secR_ BW.out.size).at hir
   obtain ⟨bb, ob, rfl, hbb, hcb0, hcb1, ub, hcb2, hub⟩ := ((HU'.out.below secR_ BW.out).more secR_ BW.out.size).at hir
   obtain ⟨s, hs⟩ : ∃ s, s = l[i] := ⟨_, rfl⟩
   rw [← hs] at hca0 hca1 hua hcb0 hcb1 hub
   obtain ⟨Aa, ca, rfl, -, -⟩ := hua.slice
   obtain ⟨Ab, cb, rfl, -, -⟩ := hub.slice
   have LA := Lib.hid hba
   have LB := Lib.hid hbb
   have CA0 : Hid (wr.cell? ⟨ba, oa + i * 3, none⟩ = some (.int .i64 s.1)) := Lib.hid hca0
   have CA1 : Hid (wr.cell? ⟨ba, oa + i * 3 + 1, none⟩ = some (.int .i64 s.2.1)) := Lib.hid hca1
   have CA2 : Hid (wr.cell? ⟨ba, oa + i * 3 + 2, none⟩ = some (.slice Aa s.2.2.length ca)) := Lib.hid hca2
   have CB0 : Hid (wr.cell? ⟨bb, ob + i * 3, none⟩ = some (.int .i64 s.1)) := Lib.hid hcb0
   have CB1 : Hid (wr.cell? ⟨bb, ob + i * 3 + 1, none⟩ = some (.int .i64 s.2.1)) := Lib.hid hcb1
   have CB2 : Hid (wr.cell? ⟨bb, ob + i * 3 + 2, none⟩ = some (.slice Ab s.2.2.length cb)) := Lib.hid hcb2
   have SVA : Hid (SecV wr wr.heap.size (.agg #[.int .i64 s.1, .int .i64 s.2.1, .slice Aa s.2.2.length ca]) s) := Lib.hid ⟨_, rfl, hua⟩
   have SVB : Hid (SecV wr wr.heap.size (.agg #[.int .i64 s.1, .int .i64 s.2.1, .slice Ab s.2.2.length cb]) s) := Lib.hid ⟨_, rfl, hub⟩
   clear hba hbb hca0 hca1 hca2 hcb0 hcb1 hcb2 hua hub hs
   go_wp2_with fail
   refine wp_region_held_drew (S := fun v => Below wr.heap.size wr v) (by kernel_rfl) ((Below.refl wr.heap.size wr).drew) (fun hHeld => ?_)
   refine tk 0 hHeld ?_;refine tk 1 hHeld ?_;refine tk 2 hHeld ?_
   refine wpAnyH_take (i := 3) (v := ?_) rfl (by kernel_rfl) (by kernel_rfl) (by kernel_rfl) (fun _ _ _ h => h) (Or.inl ⟨by rfl, ?_⟩) hHeld ?_
   rotate_left
   ·intro w' hSw; have ca := (hSw.cell (p := ⟨ba, oa + i * 3, none⟩) LA.out).trans CA0.out; have cb := (hSw.cell (p := ⟨ba, oa + i * 3 + 1, none⟩) LA.out).trans CA1.out; have cc := (hSw.cell (p := ⟨ba, oa + i * 3 + 2, none⟩) LA.out).trans CA2.out; go_simp; try with_reducible rfl
   simp only [zn, Act.put]
   refine tk 4 hHeld ?_;refine tk 5 hHeld ?_;refine tk 6 hHeld ?_
   refine wpAnyH_take (i := 7) (v := ?_) rfl (by kernel_rfl) (by kernel_rfl) (by kernel_rfl) (fun _ _ _ h => h) (Or.inl ⟨by rfl, ?_⟩) hHeld ?_
   rotate_left
   ·intro w' hSw; have ca := (hSw.cell (p := ⟨bb, ob + i * 3, none⟩) LB.out).trans CB0.out; have cb := (hSw.cell (p := ⟨bb, ob + i * 3 + 1, none⟩) LB.out).trans CB1.out; have cc := (hSw.cell (p := ⟨bb, ob + i * 3 + 2, none⟩) LB.out).trans CB2.out; go_simp; try with_reducible rfl
   simp only [zn, Act.put]
   refine tkr 8 (fun K hK => ?_)
   go_simp
   refine (rsamesec_any _ _ s wr.drew (SVA.out.below (Below.refl _ wr).drew) (SVB.out.below (Below.refl _ wr).drew)).mono ?_
   rintro e w2 ⟨rfl, b2⟩
   have B2 := Lib.hid ((Below.refl wr.heap.size wr).drew.trans b2)
   clear b2
   try go_wp2_with fail
   refine hK.out _ _ ?_ fun hHeld => ?_;exact B2.out;clear hK K;try simp only [zn, Act.put]
   refine tk 9 hHeld ?_
   refine wpAnyH_done (by kernel_rfl) ?_ _
   have BN := Lib.hid (BW.out.trans (B2.out.mono BW.out.size))
   go_wp2_with fail
   go_roundw
   case measure => simp [intOf]; omega
   case rel => exact ⟨i + 1, by omega, by go_num, BN.out⟩
  ·obtain rfl : i = n := by omega
   have hlt' : ¬ (i : Int) < i := by omega
   go_wp2_with fail
   go_ret
   exact ⟨rfl, BW.out⟩

noncomputable def findE7 (l : List Sec) (id : Int) : Int := if mayT l then (if atS l id < 0 then 6 else 0) else 8
noncomputable def findS7 (l : List Sec) (id : Int) : Sec := if findE7 l id = 0 then l.getD (atS l id).toNat (0, 0, []) else (0, 0, [])
noncomputable def nextE7 (l : List Sec) (id k : Int) : Int := if findE7 l id = 0 then (if k < 0 ∨ ((findS7 l id).2.2.length : Int) ≤ k then 2 else 0) else findE7 l id
noncomputable def nextJ7 (l : List Sec) (id k : Int) : Jn := if nextE7 l id k = 0 then (findS7 l id).2.2.getD k.toNat (0, 0) else (0, 0)
theorem shaped_few {s : Sec} (h : shapedB s = true) : s.2.2.length ≤ 3 := by
 rw [shapedB] at h
 split at h
 ·have := of_decide_eq_true h; omega
 ·simp at h; omega

end Go.Proofs.YtneeocnjfnneoaaGreat
