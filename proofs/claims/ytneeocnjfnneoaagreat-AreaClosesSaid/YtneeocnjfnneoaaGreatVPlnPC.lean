/-
 The program's package plan: how many ends a section has, who stands at an end; numbers found in a list.
 Conditions: none.
-/
import Derived.Test.YtneeocnjfnneoaaGreatVPlnPB
set_option linter.unusedVariables false
set_option linter.unusedSimpArgs false
set_option maxRecDepth 100000
namespace Go.Proofs.YtneeocnjfnneoaaGreat
open Go.RowKit

set_option maxHeartbeats 4000000 in
theorem ends_any (v : Value) (l : List Sec) (id : Int) (w : World) (h : SectsIn w w.heap.size v l) :
  Calls Tryz.prog 82 #[v, .int .i64 id] w fun e w' => e = .returned (.int .i64 (endsN l id)) ∧ Below w.heap.size w w' := by
 obtain ⟨A, c, n, rfl, hml, HN, HA⟩ := open_list h
 go_enter Tryz.func82, Tryz.ntmps82
 go_wp2_with fail
 go_loopw [9] (fun s9 wr => ∃ i : Nat, i ≤ n ∧ s9 = .int .i64 i ∧ (∀ j (hj : j < i) (hl : j < l.length), l[j].1 ≠ id) ∧ Below w.heap.size w wr) (fun s9 _ => n - (intOf s9).toNat)
 case atStart => exact ⟨0, by omega, by go_num, fun j hj => absurd hj (by omega), Below.refl _ _⟩
 case round =>
  obtain ⟨i, hi, rfl, hall, hb⟩ := hrel
  have HALL := Lib.hid hall
  have BW := Lib.hid hb
  clear hall hb
  by_cases hlt : i < n
  ·have hlt' : (i : Int) < n := by omega
   have hir : i < l.length := by rw [← HN.out]; exact hlt
   obtain ⟨bk, off, rfl, hbk, hc0, hc1, u, hc2, hu⟩ := ((HA.out.below secR_ BW.out).more secR_ BW.out.size).at hir
   obtain ⟨B3, d3, rfl, hu1, hu2⟩ := hu.slice
   obtain ⟨a, pt, es, hx⟩ : ∃ a pt es, l[i] = (a, pt, es) := ⟨_, _, _, rfl⟩
   have HX := Lib.hid hx
   rw [hx] at hc0 hc1 hc2 hu hu1
   dsimp only at hc0 hc1 hc2 hu hu1
   obtain ⟨m3, e3⟩ : ∃ m, m = es.length := ⟨_, rfl⟩
   rw [← e3] at hc2 hu hu1
   have HM := Lib.hid e3
   have HU := Lib.hid hu
   have hm3 : m3 ≤ 9223372036854775807 := by unfold maxLen at hu2; omega
   have hg0 : wr.cell? ⟨bk, off + i * 3, none⟩ = some (.int .i64 a) := hc0
   have hg1 : wr.cell? ⟨bk, off + i * 3 + 1, none⟩ = some (.int .i64 pt) := hc1
   have hg2 : wr.cell? ⟨bk, off + i * 3 + 2, none⟩ = some (.slice B3 m3 d3) := hc2
   clear hc0 hc1 hc2 hx hbk hu e3 hu1 hu2
   obtain ⟨q, hq⟩ : ∃ x, x = wr.alloc (.cells #[.int .i64 a, .int .i64 pt, .slice B3 m3 d3] 67) := ⟨_, rfl⟩
   have x1 := heap_alloc_self wr (.cells #[.int .i64 a, .int .i64 pt, .slice B3 m3 d3] 67)
   have b1 := below_new wr (.cells #[.int .i64 a, .int .i64 pt, .slice B3 m3 d3] 67)
   rw [← hq] at x1 b1
   go_upto_region 4 with fail
   rw [← hq]
   have X1 := Lib.hid x1
   have B1 := Lib.hid (BW.out.trans (b1.mono BW.out.size))
   generalize wr.heap.size = p1 at X1 ⊢
   clear x1 b1 hq hg0 hg1 hg2
   obtain ⟨k0, k1, k2⟩ := cell3_of X1.out
   have KX : Hid (l[i].1 = a) := Lib.hid (by rw [HX.out])
   by_cases he : a = id
   ·have hd : (a == id) = true := by simpa using he
    have HR : Hid (endsN l id = (m3 : Int)) := Lib.hid (by rw [endsN_some hir (atS_some hir (KX.out.trans he) fun j hj => HALL.out j hj (by omega)), HX.out, HM.out])
    clear he
    go_wp2_with fail
    go_ret
    exact ⟨by rw [HR.out]; rfl, B1.out⟩
   ·have hd : (a == id) = false := by simpa using he
    have NX : Hid (∀ j (hj : j < i + 1) (hl : j < l.length), l[j].1 ≠ id) := Lib.hid (fun j hj hl => by
     rcases Nat.lt_or_ge j i with h | h
     ·exact HALL.out j h hl
     ·obtain rfl : j = i := by omega
      rw [KX.out]; exact he)
    clear he
    go_wp2_with fail
    go_roundw
    case measure => simp [intOf]; omega
    case rel => exact ⟨i + 1, by omega, by go_num, NX.out, B1.out⟩
  ·obtain rfl : i = n := by omega
   have hlt' : ¬ (i : Int) < i := by omega
   have HR : Hid (endsN l id = 0) := Lib.hid (endsN_none (atS_none fun j hj => HALL.out j (by rw [HN.out]; exact hj) hj))
   go_wp2_with fail
   go_ret
   exact ⟨by rw [HR.out]; rfl, BW.out⟩
set_option maxHeartbeats 4000000 in
theorem stands_any (v : Value) (l : List Sg) (sec en : Int) (w : World) (h : SigsIn w w.heap.size v l) :
  Calls Tryz.prog 83 #[v, .int .i64 sec, .int .i64 en] w fun e w' => e = .returned (.int .i64 (standsS l sec en)) ∧ Below w.heap.size w w' := by
 obtain ⟨A, c, n, rfl, hml, HN, HA⟩ := open_list h
 go_enter Tryz.func83, Tryz.ntmps83
 go_wp2_with fail
 go_loopw [11] (fun s11 wr => ∃ i : Nat, i ≤ n ∧ s11 = .int .i64 i ∧ (∀ j (hj : j < i) (hl : j < l.length), ¬ (l[j].2.1 = sec ∧ l[j].2.2 = en)) ∧ Below w.heap.size w wr) (fun s11 _ => n - (intOf s11).toNat)
 case atStart => exact ⟨0, by omega, by go_num, fun j hj => absurd hj (by omega), Below.refl _ _⟩
 case round =>
  obtain ⟨i, hi, rfl, hall, hb⟩ := hrel
  have HALL := Lib.hid hall
  have BW := Lib.hid hb
  clear hall hb
  by_cases hlt : i < n
  ·have hlt' : (i : Int) < n := by omega
   have hir : i < l.length := by rw [← HN.out]; exact hlt
   obtain ⟨bk, off, rfl, hbk, hc0, hc1, hc2⟩ := ((HA.out.below sigR BW.out).more sigR BW.out.size).at hir
   obtain ⟨a, b, c_, hx⟩ : ∃ a b c, l[i] = (a, b, c) := ⟨_, _, _, rfl⟩
   have HX := Lib.hid hx
   rw [hx] at hc0 hc1 hc2
   have hg0 : wr.cell? ⟨bk, off + i * 3, none⟩ = some (.int .i64 a) := hc0
   have hg1 : wr.cell? ⟨bk, off + i * 3 + 1, none⟩ = some (.int .i64 b) := hc1
   have hg2 : wr.cell? ⟨bk, off + i * 3 + 2, none⟩ = some (.int .i64 c_) := hc2
   clear hc0 hc1 hc2 hx hbk
   obtain ⟨q, hq⟩ : ∃ x, x = wr.alloc (.cells #[.int .i64 a, .int .i64 b, .int .i64 c_] 69) := ⟨_, rfl⟩
   have x1 := heap_alloc_self wr (.cells #[.int .i64 a, .int .i64 b, .int .i64 c_] 69)
   have b1 := below_new wr (.cells #[.int .i64 a, .int .i64 b, .int .i64 c_] 69)
   rw [← hq] at x1 b1
   go_upto_region 4 with fail
   rw [← hq]
   have X1 := Lib.hid x1
   have B1 := Lib.hid (BW.out.trans (b1.mono BW.out.size))
   generalize wr.heap.size = p1 at X1 ⊢
   clear x1 b1 hq hg0 hg1 hg2
   obtain ⟨k0, k1, k2⟩ := cell3_of X1.out
   have NX : Hid (¬ (b = sec ∧ c_ = en) → ∀ j (hj : j < i + 1) (hl : j < l.length), ¬ (l[j].2.1 = sec ∧ l[j].2.2 = en)) := Lib.hid (fun h0 j hj hl => by
    rcases Nat.lt_or_ge j i with h | h
    ·exact HALL.out j h hl
    ·obtain rfl : j = i := by omega
     rw [HX.out]; exact h0)
   by_cases h1 : b = sec
   ·have d1 : (b == sec) = true := by simpa using h1
    by_cases h2 : c_ = en
    ·have d2 : (c_ == en) = true := by simpa using h2
     have HR : Hid (standsS l sec en = a) := Lib.hid (by rw [stands_some hir (by rw [HX.out]; exact ⟨h1, h2⟩) (fun j hj => HALL.out j hj (by omega)), HX.out])
     clear h1 h2 NX
     go_wp2_with fail
     go_ret
     exact ⟨by rw [HR.out]; rfl, B1.out⟩
    ·have d2 : (c_ == en) = false := by simpa using h2
     have NN := Lib.hid (NX.out (fun h => h2 h.2))
     clear h1 h2 NX
     go_wp2_with fail
     go_roundw
     case measure => simp [intOf]; omega
     case rel => exact ⟨i + 1, by omega, by go_num, NN.out, B1.out⟩
   ·have d1 : (b == sec) = false := by simpa using h1
    have NN := Lib.hid (NX.out (fun h => h1 h.1))
    clear h1 NX
    go_wp2_with fail
    go_roundw
    case measure => simp [intOf]; omega
    case rel => exact ⟨i + 1, by omega, by go_num, NN.out, B1.out⟩
  ·obtain rfl : i = n := by omega
   have hlt' : ¬ (i : Int) < i := by omega
   have HR : Hid (standsS l sec en = 0) := Lib.hid (stands_none fun j hj => HALL.out j (by rw [HN.out]; exact hj) hj)
   go_wp2_with fail
   go_ret
   exact ⟨by rw [HR.out]; rfl, BW.out⟩
set_option maxHeartbeats 4000000 in
theorem index_any (v : Value) (l : List Int) (x : Int) (w : World) (h : IntsIn w w.heap.size v l) :
  Calls Tryz.prog 64 #[v, .int .i64 x] w fun e w' => e = .returned (.int .i64 (at1 (fun z => z) l x)) ∧ w = w' := by
 obtain ⟨A, c, n, rfl, hml, HN, HA⟩ := open_list h
 go_enter Tryz.func64, Tryz.ntmps64
 go_wp2_with fail
 go_loopw [8] (fun s8 wr => ∃ i : Nat, i ≤ n ∧ s8 = .int .i64 i ∧ (∀ j (hj : j < i) (hl : j < l.length), l[j] ≠ x) ∧ wr = w) (fun s8 _ => n - (intOf s8).toNat)
 case atStart => exact ⟨0, by omega, by go_num, fun j hj => absurd hj (by omega), rfl⟩
 case round =>
  obtain ⟨i, hi, rfl, hall, rfl⟩ := hrel
  have HALL := Lib.hid hall
  clear hall
  by_cases hlt : i < n
  ·have hlt' : (i : Int) < n := by omega
   have hir : i < l.length := by rw [← HN.out]; exact hlt
   obtain ⟨bk, off, rfl, hbk, hc0⟩ := HA.out.at hir
   obtain ⟨z, hz⟩ : ∃ z, z = l[i] := ⟨_, rfl⟩
   have hcell : wr.cell? ⟨bk, off + i, none⟩ = some (.int .i64 z) := by rw [hz]; simpa [IntR] using hc0
   have HZ := Lib.hid hz
   clear hc0 hz
   by_cases he : x = z
   ·have hd : (x == z) = true := by simpa using he
    have HR : Hid (at1 (fun z => z) l x = (i : Int)) := Lib.hid (at1_some hir (HZ.out.symm.trans he.symm) fun j hj => HALL.out j hj (by omega))
    clear he
    go_wp2_with fail
    go_ret
    exact ⟨by rw [HR.out]; rfl, rfl⟩
   ·have hd : (x == z) = false := by simpa using he
    have NX : Hid (∀ j (hj : j < i + 1) (hl : j < l.length), l[j] ≠ x) := Lib.hid (fun j hj hl => by
     rcases Nat.lt_or_ge j i with h | h
     ·exact HALL.out j h hl
     ·obtain rfl : j = i := by omega
      exact fun h2 => he (h2.symm.trans HZ.out.symm))
    clear he
    go_wp2_with fail
    go_roundw
    case measure => simp [intOf]; omega
    case rel => exact ⟨i + 1, by omega, by go_num, NX.out, trivial⟩
  ·obtain rfl : i = n := by omega
   have hlt' : ¬ (i : Int) < i := by omega
   have HR : Hid (at1 (fun z => z) l x = -1) := Lib.hid (at1_none fun j hj => HALL.out j (by rw [HN.out]; exact hj) hj)
   go_wp2_with fail
   go_ret
   exact ⟨by rw [HR.out]; rfl, rfl⟩
def inB (l : List Int) (x : Int) : Bool := decide (0 ≤ at1 (fun z => z) l x)
theorem inB_true {l : List Int} {x : Int} : inB l x = true ↔ ∃ j, ∃ hj : j < l.length, l[j] = x := by
 rw [inB, decide_eq_true_iff]
 rcases at1_cases (fun z : Int => z) l x with ⟨h1, h2⟩ | ⟨i, hi, h1, h2, h3⟩
 ·exact ⟨fun h => by omega, fun ⟨j, hj, e⟩ => absurd e (h2 j hj)⟩
 ·exact ⟨fun h => ⟨i, hi, h2⟩, fun _ => by omega⟩
theorem contains_any (v : Value) (l : List Int) (x : Int) (w : World) (h : IntsIn w w.heap.size v l) :
  Calls Tryz.prog 36 #[v, .int .i64 x] w fun e w' => e = .returned (.bool (inB l x)) ∧ w = w' := by
 have H := Lib.hid h
 obtain ⟨A, c, rfl, -, -⟩ := h.slice
 clear h
 have HI : Hid (inB l x = decide (0 ≤ at1 (fun z => z) l x)) := Lib.hid rfl
 go_enter Tryz.func36, Tryz.ntmps36
 go_wp2_with ((with_reducible show Calls _ _ _ _ _); refine (index_any _ l x _ H.out).mono ?_; rintro e w' ⟨rfl, rfl⟩; generalize at1 (fun z => z) l x = y at HI ⊢)
 go_ret
 exact ⟨by rw [HI.out]; rfl, rfl⟩
end Go.Proofs.YtneeocnjfnneoaaGreat
