/-
 The program's package conflict: what two lists have in common, as the generic function tells by a closure.
 Conditions: none.
-/
import Derived.Test.YtebffdfimmbbdaaGreatQGCnfM
import Derived.Test.YtebffdfimmbbdaaGreatQGWayM
import Derived.Test.YtebffdfimmbbdaaGreatQGPlnRefB
import Derived.Test.YtebffdfimmbbdaaGreatQGTrkRef
set_option linter.unusedVariables false
set_option linter.unusedSimpArgs false
set_option maxRecDepth 100000
namespace Go.Proofs.YtebffdfimmbbdaaGreat
open Go.RowKit

def sameJ (x y : Int) : Bool := decide (x = y)
def unlikeJ (k m : Ak) : Bool := decide (k.1 = m.1 ∧ k.2.1 ≠ m.2.1)
def meetL {α : Type} (f : α → α → Bool) (x : α) (l : List α) : Bool := l.any (f x)
def commonL {α : Type} (f : α → α → Bool) (a b : List α) : Bool := a.any fun x => meetL f x b
theorem any_yes {α : Type} {f : α → Bool} {l : List α} {j : Nat} (hj : j < l.length) (h : f l[j] = true) : l.any f = true := List.any_eq_true.2 ⟨_, List.getElem_mem hj, h⟩
theorem any_no {α : Type} {f : α → Bool} {l : List α} (h : ∀ j (h : j < l.length), f l[j] = false) : l.any f = false := by
 rw [List.any_eq_false]
 intro x hx
 obtain ⟨j, hj, rfl⟩ := List.getElem_of_mem hx
 simpa using h j hj
theorem meet_iff {x : Int} {l : List Int} : meetL sameJ x l = true ↔ x ∈ l := by
 rw [meetL, List.any_eq_true]
 constructor
 ·rintro ⟨y, hy, h⟩
  rw [sameJ, decide_eq_true_eq] at h
  rw [h]; exact hy
 ·exact fun h => ⟨x, h, decide_eq_true rfl⟩
theorem conf_common (x y : Wy) : confW x y = (commonL sameJ (x.path ++ x.over) (y.path ++ y.over) || commonL unlikeJ x.asks y.asks) := by
 rw [Bool.eq_iff_iff, confW_iff, Bool.or_eq_true, commonL, commonL, List.any_eq_true, List.any_eq_true, ConfW]
 constructor
 ·rintro (⟨s, h1, h2⟩ | ⟨k, hk, m, hm, h1, h2⟩)
  ·exact .inl ⟨s, h1, meet_iff.2 h2⟩
  ·exact .inr ⟨k, hk, List.any_eq_true.2 ⟨m, hm, decide_eq_true ⟨h1, h2⟩⟩⟩
 ·rintro (⟨s, h1, h2⟩ | ⟨k, hk, h⟩)
  ·exact .inl ⟨s, h1, meet_iff.1 h2⟩
  ·obtain ⟨m, hm, h⟩ := List.any_eq_true.1 h
   obtain ⟨h1, h2⟩ := of_decide_eq_true h
   exact .inr ⟨k, hk, m, hm, h1, h2⟩
theorem samej_any (x y : Int) (w : World) :
  Calls Tryz.prog 27 #[.int .i64 x, .int .i64 y] w fun e w' => e = .returned (.bool (sameJ x y)) ∧ Below w.heap.size w w' := by
 have B0 := Lib.hid (Below.refl w.heap.size w)
 go_enter Tryz.func27, Tryz.ntmps27
 by_cases he : x = y
 ·have HD : Hid (sameJ x y = true) := Lib.hid (decide_eq_true he)
  have hb : (x == y) = true := by simpa using he
  clear he
  go_wp2_with fail
  go_ret
  exact ⟨by rw [HD.out]; rfl, B0.out⟩
 ·have HD : Hid (sameJ x y = false) := Lib.hid (decide_eq_false he)
  have hb : (x == y) = false := by simpa using he
  clear he
  go_wp2_with fail
  go_ret
  exact ⟨by rw [HD.out]; rfl, B0.out⟩
theorem unlikej_any (k m : Ak) (w : World) :
  Calls Tryz.prog 28 #[.agg #[.int .i64 k.1, .int .i64 k.2.1, .int .i64 k.2.2], .agg #[.int .i64 m.1, .int .i64 m.2.1, .int .i64 m.2.2]] w fun e w' => e = .returned (.bool (unlikeJ k m)) ∧ Below w.heap.size w w' := by
 obtain ⟨a0, a1, a2⟩ := k
 obtain ⟨b0, b1, b2⟩ := m
 obtain ⟨hx, hy, hqb⟩ := two_boxes w (.cells #[.int .i64 a0, .int .i64 a1, .int .i64 a2] 84) (.cells #[.int .i64 b0, .int .i64 b1, .int .i64 b2] 84)
 go_enter Tryz.func28, Tryz.ntmps28
 go_upto_region 1 with fail
 generalize (w.alloc (.cells #[.int .i64 a0, .int .i64 a1, .int .i64 a2] 84)).alloc (.cells #[.int .i64 b0, .int .i64 b1, .int .i64 b2] 84) = q at hx hy hqb ⊢
 have QB := Lib.hid hqb
 obtain ⟨k0, k1, k2⟩ := cell3_of hx
 obtain ⟨m0, m1, m2⟩ := cell3_of hy
 clear hx hy hqb
 by_cases h1 : a0 = b0
 rotate_left
 ·have HD : Hid (unlikeJ (a0, a1, a2) (b0, b1, b2) = false) := Lib.hid (decide_eq_false fun h => h1 h.1)
  have hb : (a0 == b0) = false := by simpa using h1
  clear h1
  go_wp2_with fail
  go_ret
  exact ⟨by rw [HD.out]; rfl, QB.out⟩
 by_cases h2 : a1 = b1
 ·have HD : Hid (unlikeJ (a0, a1, a2) (b0, b1, b2) = false) := Lib.hid (decide_eq_false fun h => h.2 h2)
  have hb : (a0 == b0) = true := by simpa using h1
  have hc : (a1 != b1) = false := by simpa using h2
  clear h1 h2
  go_wp2_with fail
  go_ret
  exact ⟨by rw [HD.out]; rfl, QB.out⟩
 ·have HD : Hid (unlikeJ (a0, a1, a2) (b0, b1, b2) = true) := Lib.hid (decide_eq_true ⟨h1, h2⟩)
  have hb : (a0 == b0) = true := by simpa using h1
  have hc : (a1 != b1) = true := by simpa using h2
  clear h1 h2
  go_wp2_with fail
  go_ret
  exact ⟨by rw [HD.out]; rfl, QB.out⟩
theorem infoAskC : (Tryz.prog.info? 84).map (·.size) = some 3 := by kernel_rfl
theorem cloi_any (x y : Int) (pm px : Nat) (w : World) (hm : w.heap[pm]? = some (.cells #[.func (.func 27) #[] #[]] 82 (0, 0))) (hx : w.heap[px]? = some (.cells #[.int .i64 x] 3 (0, 0))) :
  Calls Tryz.prog 41 #[.int .i64 y, .pointer (some ⟨pm, 0, none⟩), .pointer (some ⟨px, 0, none⟩)] w fun e w' => e = .returned (.bool (sameJ x y)) ∧ Below w.heap.size w w' := by
 have B0 := Lib.hid (Below.refl w.heap.size w)
 have f0 : w.cell? ⟨pm, 0, none⟩ = some (.func (.func 27) #[] #[]) := cell_of_row _ _ _ _ _ _ hm
 have r0 : w.cell? ⟨px, 0, none⟩ = some (.int .i64 x) := cell_of_row _ _ _ _ _ _ hx
 clear hm hx
 go_enter Tryz.func41, Tryz.ntmps41
 go_wp2_with fail
 refine (samej_any x y w).mono ?_
 rintro e w1 ⟨rfl, b1⟩
 have B1 := Lib.hid (B0.out.trans (b1.mono B0.out.size))
 clear b1
 go_wp2_with fail
 go_ret
 exact ⟨rfl, B1.out⟩
set_option maxHeartbeats 4000000 in
theorem idxi_any (v : Value) (l : List Int) (x : Int) (pm px : Nat) (w : World) (h : IntsIn w w.heap.size v l) (hm : w.heap[pm]? = some (.cells #[.func (.func 27) #[] #[]] 82 (0, 0))) (hx : w.heap[px]? = some (.cells #[.int .i64 x] 3 (0, 0))) :
  Calls Tryz.prog 62 #[v, .func (.func 41) #[] #[.pointer (some ⟨pm, 0, none⟩), .pointer (some ⟨px, 0, none⟩)]] w fun e w' => (∃ r : Int, e = .returned (.int .i64 r) ∧ decide (0 ≤ r) = meetL sameJ x l) ∧ Below w.heap.size w w' := by
 have H := Lib.hid h
 have XM0 := Lib.hid hm
 have XX0 := Lib.hid hx
 obtain ⟨A, c, rfl, hcl, hcm⟩ := h.slice
 have hml : l.length ≤ 9223372036854775807 := by unfold maxLen at hcm; omega
 obtain ⟨n, hn⟩ : ∃ n, n = l.length := ⟨_, rfl⟩
 have HN := Lib.hid hn
 have HA := Lib.hid (show IntsIn w w.heap.size (.slice A n c) l by rw [hn]; exact H.out)
 rw [← hn] at hml ⊢
 clear hn H hcl hcm h hm hx
 go_enter Tryz.func62, Tryz.ntmps62
 go_wp2_with fail
 go_loopw [8] (fun s8 wr => ∃ i : Nat, i ≤ n ∧ s8 = .int .i64 i ∧ (∀ j (hj : j < i) (hl : j < l.length), sameJ x l[j] = false) ∧ Below w.heap.size w wr) (fun s8 _ => n - (intOf s8).toNat)
 case atStart => exact ⟨0, by omega, by go_num, fun j hj => absurd hj (by omega), Below.refl _ _⟩
 case round =>
  obtain ⟨i, hi, rfl, hall, hb⟩ := hrel
  have HALL := Lib.hid hall
  have BW := Lib.hid hb
  clear hall hb
  by_cases hlt : i < n
  ·have hlt' : (i : Int) < n := by omega
   have hir : i < l.length := by rw [← HN.out]; exact hlt
   obtain ⟨b, off, rfl, hb, hc0⟩ := ((HA.out.below intR BW.out).more intR BW.out.size).at hir
   obtain ⟨y, hs⟩ : ∃ y, l[i] = y := ⟨_, rfl⟩
   rw [hs] at hc0
   have HS := Lib.hid hs
   have hg0 : wr.cell? ⟨b, off + i, none⟩ = some (.int .i64 y) := by simpa [IntR] using hc0
   clear hc0 hs hb
   have XM := Lib.hid ((BW.out.block _ (heap_lt XM0.out)).trans XM0.out)
   have XX := Lib.hid ((BW.out.block _ (heap_lt XX0.out)).trans XX0.out)
   by_cases he : sameJ x y = true
   ·have hd := he
    have HR : Hid (decide (0 ≤ (i : Int)) = meetL sameJ x l) := Lib.hid (by rw [meetL, any_yes hir (by rw [HS.out]; exact he)]; exact decide_eq_true (by omega))
    clear he
    go_wp2_with fail
    refine (cloi_any x y pm px wr XM.out XX.out).mono ?_
    rintro e w1 ⟨rfl, b1⟩
    have B1 := Lib.hid (BW.out.trans (b1.mono BW.out.size))
    clear b1
    go_wp2_with fail
    go_ret
    exact ⟨⟨_, rfl, HR.out⟩, B1.out⟩
   ·have hd : sameJ x y = false := by simpa using he
    have NX : Hid (∀ j (hj : j < i + 1) (hl : j < l.length), sameJ x l[j] = false) := Lib.hid (fun j hj hl => by
     rcases Nat.lt_or_ge j i with h | h
     ·exact HALL.out j h hl
     ·obtain rfl : j = i := by omega
      rw [HS.out]; exact hd)
    clear he
    go_wp2_with fail
    refine (cloi_any x y pm px wr XM.out XX.out).mono ?_
    rintro e w1 ⟨rfl, b1⟩
    have B1 := Lib.hid (BW.out.trans (b1.mono BW.out.size))
    clear b1
    go_wp2_with fail
    go_roundw
    case measure => simp [intOf]; omega
    case rel => exact ⟨i + 1, by omega, by go_num, NX.out, B1.out⟩
  ·obtain rfl : i = n := by omega
   have hlt' : ¬ (i : Int) < i := by omega
   have HR : Hid (decide (0 ≤ (-1 : Int)) = meetL sameJ x l) := Lib.hid (by rw [meetL, any_no fun j hj => HALL.out j (by rw [HN.out]; exact hj) hj]; rfl)
   go_wp2_with fail
   go_ret
   exact ⟨⟨_, rfl, HR.out⟩, BW.out⟩
theorem coni_any (v : Value) (l : List Int) (x : Int) (pm px : Nat) (w : World) (h : IntsIn w w.heap.size v l) (hm : w.heap[pm]? = some (.cells #[.func (.func 27) #[] #[]] 82 (0, 0))) (hx : w.heap[px]? = some (.cells #[.int .i64 x] 3 (0, 0))) :
  Calls Tryz.prog 40 #[v, .func (.func 41) #[] #[.pointer (some ⟨pm, 0, none⟩), .pointer (some ⟨px, 0, none⟩)]] w fun e w' => e = .returned (.bool (meetL sameJ x l)) ∧ Below w.heap.size w w' := by
 have H := Lib.hid h
 have XM := Lib.hid hm
 have XX := Lib.hid hx
 obtain ⟨A, c, rfl, -, -⟩ := h.slice
 obtain ⟨n, hn⟩ : ∃ n, n = l.length := ⟨_, rfl⟩
 rw [← hn] at H ⊢
 clear h hm hx hn
 generalize hg : meetL sameJ x l = g
 have HG := Lib.hid hg
 clear hg
 go_enter Tryz.func40, Tryz.ntmps40
 go_wp2_with fail
 refine (idxi_any _ l x pm px w H.out XM.out XX.out).mono ?_
 rintro e w1 ⟨⟨r, rfl, hr⟩, b1⟩
 have B1 := Lib.hid b1
 have hr' : decide (0 ≤ r) = g := hr.trans HG.out
 clear b1 hr
 go_wp2_with fail
 go_ret
 exact ⟨rfl, B1.out⟩
set_option maxHeartbeats 4000000 in
theorem comi_any (v v' : Value) (l l' : List Int) (w : World) (h : IntsIn w w.heap.size v l) (h' : IntsIn w w.heap.size v' l') :
  Calls Tryz.prog 29 #[v, v', .func (.func 27) #[] #[]] w fun e w' => e = .returned (.bool (commonL sameJ l l')) ∧ Below w.heap.size w w' := by
 have H := Lib.hid h
 have H' := Lib.hid h'
 obtain ⟨A, c, rfl, hcl, hcm⟩ := h.slice
 obtain ⟨A', c', rfl, -, -⟩ := h'.slice
 have hml : l.length ≤ 9223372036854775807 := by unfold maxLen at hcm; omega
 obtain ⟨n, hn⟩ : ∃ n, n = l.length := ⟨_, rfl⟩
 obtain ⟨n', hn'⟩ : ∃ n, n = l'.length := ⟨_, rfl⟩
 have HN := Lib.hid hn
 have hq0 := heap_alloc_self w (.cells #[.func (.func 27) #[] #[]] 82)
 have hqb := below_new w (.cells #[.func (.func 27) #[] #[]] 82)
 have HA0 := (show IntsIn w w.heap.size (.slice A n c) l by rw [hn]; exact H.out)
 have HA' := (show IntsIn w w.heap.size (.slice A' n' c') l' by rw [hn']; exact H'.out)
 rw [← hn] at hml ⊢
 rw [← hn']
 have HAq := Lib.hid ((HA0.below intR hqb).more intR hqb.size)
 have HBq := Lib.hid ((HA'.below intR hqb).more intR hqb.size)
 clear hn hn' H H' hcl hcm h h' HA0 HA'
 go_enter Tryz.func29, Tryz.ntmps29
 go_upto_region 1 with fail
 generalize w.alloc (.cells #[.func (.func 27) #[] #[]] 82) = q at hq0 hqb HAq HBq ⊢
 obtain ⟨pm, hpm⟩ : ∃ n, n = w.heap.size := ⟨_, rfl⟩
 rw [← hpm] at hq0 ⊢
 have XM := Lib.hid hq0
 have BQ := Lib.hid hqb
 clear hq0 hqb hpm
 go_wp2_with fail
 go_loopw [11] (fun s8 wr => ∃ i : Nat, i ≤ n ∧ s8 = .int .i64 i ∧ (∀ j (hj : j < i) (hl : j < l.length), meetL sameJ l[j] l' = false) ∧ Below q.heap.size q wr) (fun s8 _ => n - (intOf s8).toNat)
 case atStart => exact ⟨0, by omega, by go_num, fun j hj => absurd hj (by omega), Below.refl _ _⟩
 case round =>
  obtain ⟨i, hi, rfl, hall, hb⟩ := hrel
  have HALL := Lib.hid hall
  have BW := Lib.hid hb
  clear hall hb
  by_cases hlt : i < n
  ·have hlt' : (i : Int) < n := by omega
   have hir : i < l.length := by rw [← HN.out]; exact hlt
   obtain ⟨b, off, rfl, hb, hc0⟩ := ((HAq.out.below intR BW.out).more intR BW.out.size).at hir
   obtain ⟨y, hs⟩ : ∃ y, l[i] = y := ⟨_, rfl⟩
   rw [hs] at hc0
   have HS := Lib.hid hs
   have hg0 : wr.cell? ⟨b, off + i, none⟩ = some (.int .i64 y) := by simpa [IntR] using hc0
   clear hc0 hs hb
   have hx5 := heap_alloc_self wr (.cells #[.int .i64 y] 3)
   have hb5 := below_new wr (.cells #[.int .i64 y] 3)
   go_upto_region 4 with fail
   generalize wr.alloc (.cells #[.int .i64 y] 3) = u at hx5 hb5 ⊢
   have XM5 := Lib.hid ((hb5.block _ (Nat.lt_of_lt_of_le (heap_lt XM.out) BW.out.size)).trans ((BW.out.block _ (heap_lt XM.out)).trans XM.out))
   have X5 := Lib.hid hx5
   have B5 := Lib.hid (BW.out.trans (hb5.mono BW.out.size))
   have HB5 := Lib.hid ((HBq.out.below intR B5.out).more intR B5.out.size)
   clear hx5 hb5
   by_cases he : meetL sameJ y l' = true
   ·have HR : Hid (commonL sameJ l l' = true) := Lib.hid (any_yes hir (by rw [HS.out]; exact he))
    go_wp2_with fail
    refine (coni_any _ l' y pm _ u HB5.out XM5.out X5.out).mono ?_
    rintro e w1 ⟨rfl, b1⟩
    rw [he]
    have B1 := Lib.hid (BQ.out.trans ((B5.out.trans (b1.mono B5.out.size)).mono BQ.out.size))
    clear b1 he
    go_wp2_with fail
    go_ret
    exact ⟨by rw [HR.out]; rfl, B1.out⟩
   ·have hd : meetL sameJ y l' = false := by simpa using he
    have NX : Hid (∀ j (hj : j < i + 1) (hl : j < l.length), meetL sameJ l[j] l' = false) := Lib.hid (fun j hj hl => by
     rcases Nat.lt_or_ge j i with h | h
     ·exact HALL.out j h hl
     ·obtain rfl : j = i := by omega
      rw [HS.out]; exact hd)
    clear he
    go_wp2_with fail
    refine (coni_any _ l' y pm _ u HB5.out XM5.out X5.out).mono ?_
    rintro e w1 ⟨rfl, b1⟩
    rw [hd]
    have B1 := Lib.hid (B5.out.trans (b1.mono B5.out.size))
    clear b1 hd
    go_wp2_with fail
    go_roundw
    case measure => simp [intOf]; omega
    case rel => exact ⟨i + 1, by omega, by go_num, NX.out, B1.out⟩
  ·obtain rfl : i = n := by omega
   have hlt' : ¬ (i : Int) < i := by omega
   have HR : Hid (commonL sameJ l l' = false) := Lib.hid (any_no fun j hj => HALL.out j (by rw [HN.out]; exact hj) hj)
   have BL := Lib.hid (BQ.out.trans (BW.out.mono BQ.out.size))
   go_wp2_with fail
   go_ret
   exact ⟨by rw [HR.out]; rfl, BL.out⟩
theorem cloa_any (x y : Ak) (pm px : Nat) (w : World) (hm : w.heap[pm]? = some (.cells #[.func (.func 28) #[] #[]] 85 (0, 0))) (hx : w.heap[px]? = some (.cells #[.int .i64 x.1, .int .i64 x.2.1, .int .i64 x.2.2] 84 (0, 0))) :
  Calls Tryz.prog 44 #[.agg #[.int .i64 y.1, .int .i64 y.2.1, .int .i64 y.2.2], .pointer (some ⟨pm, 0, none⟩), .pointer (some ⟨px, 0, none⟩)] w fun e w' => e = .returned (.bool (unlikeJ x y)) ∧ Below w.heap.size w w' := by
 have hq0 := heap_alloc_self w (.cells #[.int .i64 y.1, .int .i64 y.2.1, .int .i64 y.2.2] 84)
 have hqb := below_new w (.cells #[.int .i64 y.1, .int .i64 y.2.1, .int .i64 y.2.2] 84)
 have hm2 := (hqb.block _ (heap_lt hm)).trans hm
 have hx2 := (hqb.block _ (heap_lt hx)).trans hx
 go_enter Tryz.func44, Tryz.ntmps44
 go_upto_region 1 with fail
 generalize w.alloc (.cells #[.int .i64 y.1, .int .i64 y.2.1, .int .i64 y.2.2] 84) = q at hq0 hqb hm2 hx2 ⊢
 have B0 := Lib.hid hqb
 have f0 : q.cell? ⟨pm, 0, none⟩ = some (.func (.func 28) #[] #[]) := cell_of_row _ _ _ _ _ _ hm2
 obtain ⟨r0, r1, r2⟩ := cell3_of hx2
 obtain ⟨k0, k1, k2⟩ := cell3_of hq0
 clear hq0 hqb hm hx hm2 hx2
 go_wp2_with fail
 refine (unlikej_any x y q).mono ?_
 rintro e w1 ⟨rfl, b1⟩
 have B1 := Lib.hid (B0.out.trans (b1.mono B0.out.size))
 clear b1
 go_wp2_with fail
 go_ret
 exact ⟨rfl, B1.out⟩
set_option maxHeartbeats 4000000 in
theorem idxa_any (v : Value) (l : List Ak) (x : Ak) (pm px : Nat) (w : World) (h : AsksIn w w.heap.size v l) (hm : w.heap[pm]? = some (.cells #[.func (.func 28) #[] #[]] 85 (0, 0))) (hx : w.heap[px]? = some (.cells #[.int .i64 x.1, .int .i64 x.2.1, .int .i64 x.2.2] 84 (0, 0))) :
  Calls Tryz.prog 63 #[v, .func (.func 44) #[] #[.pointer (some ⟨pm, 0, none⟩), .pointer (some ⟨px, 0, none⟩)]] w fun e w' => (∃ r : Int, e = .returned (.int .i64 r) ∧ decide (0 ≤ r) = meetL unlikeJ x l) ∧ Below w.heap.size w w' := by
 have H := Lib.hid h
 have XM0 := Lib.hid hm
 have XX0 := Lib.hid hx
 obtain ⟨A, c, rfl, hcl, hcm⟩ := h.slice
 have hml : l.length ≤ 9223372036854775807 := by unfold maxLen at hcm; omega
 obtain ⟨n, hn⟩ : ∃ n, n = l.length := ⟨_, rfl⟩
 have HN := Lib.hid hn
 have HA := Lib.hid (show AsksIn w w.heap.size (.slice A n c) l by rw [hn]; exact H.out)
 rw [← hn] at hml ⊢
 clear hn H hcl hcm h hm hx
 go_enter Tryz.func63, Tryz.ntmps63
 go_wp2_with fail
 go_loopw [8] (fun s8 wr => ∃ i : Nat, i ≤ n ∧ s8 = .int .i64 i ∧ (∀ j (hj : j < i) (hl : j < l.length), unlikeJ x l[j] = false) ∧ Below w.heap.size w wr) (fun s8 _ => n - (intOf s8).toNat)
 case atStart => exact ⟨0, by omega, by go_num, fun j hj => absurd hj (by omega), Below.refl _ _⟩
 case round =>
  obtain ⟨i, hi, rfl, hall, hb⟩ := hrel
  have HALL := Lib.hid hall
  have BW := Lib.hid hb
  clear hall hb
  by_cases hlt : i < n
  ·have hlt' : (i : Int) < n := by omega
   have hir : i < l.length := by rw [← HN.out]; exact hlt
   obtain ⟨b, off, rfl, hb, hc0, hc1, hc2⟩ := ((HA.out.below sigR BW.out).more sigR BW.out.size).at hir
   obtain ⟨y, hs⟩ : ∃ y, l[i] = y := ⟨_, rfl⟩
   rw [hs] at hc0 hc1 hc2
   have HS := Lib.hid hs
   have hg0 : wr.cell? ⟨b, off + i * 3, none⟩ = some (.int .i64 y.1) := hc0
   have hg1 : wr.cell? ⟨b, off + i * 3 + 1, none⟩ = some (.int .i64 y.2.1) := hc1
   have hg2 : wr.cell? ⟨b, off + i * 3 + 2, none⟩ = some (.int .i64 y.2.2) := hc2
   clear hc0 hc1 hc2 hs hb
   have XM := Lib.hid ((BW.out.block _ (heap_lt XM0.out)).trans XM0.out)
   have XX := Lib.hid ((BW.out.block _ (heap_lt XX0.out)).trans XX0.out)
   by_cases he : unlikeJ x y = true
   ·have hd := he
    have HR : Hid (decide (0 ≤ (i : Int)) = meetL unlikeJ x l) := Lib.hid (by rw [meetL, any_yes hir (by rw [HS.out]; exact he)]; exact decide_eq_true (by omega))
    clear he
    go_wp2_with fail
    refine (cloa_any x y pm px wr XM.out XX.out).mono ?_
    rintro e w1 ⟨rfl, b1⟩
    have B1 := Lib.hid (BW.out.trans (b1.mono BW.out.size))
    clear b1
    go_wp2_with fail
    go_ret
    exact ⟨⟨_, rfl, HR.out⟩, B1.out⟩
   ·have hd : unlikeJ x y = false := by simpa using he
    have NX : Hid (∀ j (hj : j < i + 1) (hl : j < l.length), unlikeJ x l[j] = false) := Lib.hid (fun j hj hl => by
     rcases Nat.lt_or_ge j i with h | h
     ·exact HALL.out j h hl
     ·obtain rfl : j = i := by omega
      rw [HS.out]; exact hd)
    clear he
    go_wp2_with fail
    refine (cloa_any x y pm px wr XM.out XX.out).mono ?_
    rintro e w1 ⟨rfl, b1⟩
    have B1 := Lib.hid (BW.out.trans (b1.mono BW.out.size))
    clear b1
    go_wp2_with fail
    go_roundw
    case measure => simp [intOf]; omega
    case rel => exact ⟨i + 1, by omega, by go_num, NX.out, B1.out⟩
  ·obtain rfl : i = n := by omega
   have hlt' : ¬ (i : Int) < i := by omega
   have HR : Hid (decide (0 ≤ (-1 : Int)) = meetL unlikeJ x l) := Lib.hid (by rw [meetL, any_no fun j hj => HALL.out j (by rw [HN.out]; exact hj) hj]; rfl)
   go_wp2_with fail
   go_ret
   exact ⟨⟨_, rfl, HR.out⟩, BW.out⟩
theorem cona_any (v : Value) (l : List Ak) (x : Ak) (pm px : Nat) (w : World) (h : AsksIn w w.heap.size v l) (hm : w.heap[pm]? = some (.cells #[.func (.func 28) #[] #[]] 85 (0, 0))) (hx : w.heap[px]? = some (.cells #[.int .i64 x.1, .int .i64 x.2.1, .int .i64 x.2.2] 84 (0, 0))) :
  Calls Tryz.prog 43 #[v, .func (.func 44) #[] #[.pointer (some ⟨pm, 0, none⟩), .pointer (some ⟨px, 0, none⟩)]] w fun e w' => e = .returned (.bool (meetL unlikeJ x l)) ∧ Below w.heap.size w w' := by
 have H := Lib.hid h
 have XM := Lib.hid hm
 have XX := Lib.hid hx
 obtain ⟨A, c, rfl, -, -⟩ := h.slice
 obtain ⟨n, hn⟩ : ∃ n, n = l.length := ⟨_, rfl⟩
 rw [← hn] at H ⊢
 clear h hm hx hn
 generalize hg : meetL unlikeJ x l = g
 have HG := Lib.hid hg
 clear hg
 go_enter Tryz.func43, Tryz.ntmps43
 go_wp2_with fail
 refine (idxa_any _ l x pm px w H.out XM.out XX.out).mono ?_
 rintro e w1 ⟨⟨r, rfl, hr⟩, b1⟩
 have B1 := Lib.hid b1
 have hr' : decide (0 ≤ r) = g := hr.trans HG.out
 clear b1 hr
 go_wp2_with fail
 go_ret
 exact ⟨rfl, B1.out⟩
set_option maxHeartbeats 4000000 in
theorem coma_any (v v' : Value) (l l' : List Ak) (w : World) (h : AsksIn w w.heap.size v l) (h' : AsksIn w w.heap.size v' l') :
  Calls Tryz.prog 31 #[v, v', .func (.func 28) #[] #[]] w fun e w' => e = .returned (.bool (commonL unlikeJ l l')) ∧ Below w.heap.size w w' := by
 have H := Lib.hid h
 have H' := Lib.hid h'
 obtain ⟨A, c, rfl, hcl, hcm⟩ := h.slice
 obtain ⟨A', c', rfl, -, -⟩ := h'.slice
 have hml : l.length ≤ 9223372036854775807 := by unfold maxLen at hcm; omega
 obtain ⟨n, hn⟩ : ∃ n, n = l.length := ⟨_, rfl⟩
 obtain ⟨n', hn'⟩ : ∃ n, n = l'.length := ⟨_, rfl⟩
 have HN := Lib.hid hn
 have hq0 := heap_alloc_self w (.cells #[.func (.func 28) #[] #[]] 85)
 have hqb := below_new w (.cells #[.func (.func 28) #[] #[]] 85)
 have HA0 := (show AsksIn w w.heap.size (.slice A n c) l by rw [hn]; exact H.out)
 have HA' := (show AsksIn w w.heap.size (.slice A' n' c') l' by rw [hn']; exact H'.out)
 rw [← hn] at hml ⊢
 rw [← hn']
 have HAq := Lib.hid ((HA0.below sigR hqb).more sigR hqb.size)
 have HBq := Lib.hid ((HA'.below sigR hqb).more sigR hqb.size)
 clear hn hn' H H' hcl hcm h h' HA0 HA'
 go_enter Tryz.func31, Tryz.ntmps31
 go_upto_region 1 with fail
 generalize w.alloc (.cells #[.func (.func 28) #[] #[]] 85) = q at hq0 hqb HAq HBq ⊢
 obtain ⟨pm, hpm⟩ : ∃ n, n = w.heap.size := ⟨_, rfl⟩
 rw [← hpm] at hq0 ⊢
 have XM := Lib.hid hq0
 have BQ := Lib.hid hqb
 clear hq0 hqb hpm
 go_wp2_with fail
 go_loopw [11] (fun s8 wr => ∃ i : Nat, i ≤ n ∧ s8 = .int .i64 i ∧ (∀ j (hj : j < i) (hl : j < l.length), meetL unlikeJ l[j] l' = false) ∧ Below q.heap.size q wr) (fun s8 _ => n - (intOf s8).toNat)
 case atStart => exact ⟨0, by omega, by go_num, fun j hj => absurd hj (by omega), Below.refl _ _⟩
 case round =>
  obtain ⟨i, hi, rfl, hall, hb⟩ := hrel
  have HALL := Lib.hid hall
  have BW := Lib.hid hb
  clear hall hb
  by_cases hlt : i < n
  ·have hlt' : (i : Int) < n := by omega
   have hir : i < l.length := by rw [← HN.out]; exact hlt
   obtain ⟨b, off, rfl, hb, hc0, hc1, hc2⟩ := ((HAq.out.below sigR BW.out).more sigR BW.out.size).at hir
   obtain ⟨y, hs⟩ : ∃ y, l[i] = y := ⟨_, rfl⟩
   rw [hs] at hc0 hc1 hc2
   have HS := Lib.hid hs
   have hg0 : wr.cell? ⟨b, off + i * 3, none⟩ = some (.int .i64 y.1) := hc0
   have hg1 : wr.cell? ⟨b, off + i * 3 + 1, none⟩ = some (.int .i64 y.2.1) := hc1
   have hg2 : wr.cell? ⟨b, off + i * 3 + 2, none⟩ = some (.int .i64 y.2.2) := hc2
   clear hc0 hc1 hc2 hs hb
   have XX0 := heap_alloc_self wr (.cells #[.int .i64 0, .int .i64 0, .int .i64 0] 84)
   have hb5 := below_setRow (below_new wr (.cells #[.int .i64 0, .int .i64 0, .int .i64 0] 84)) (Nat.le_refl _) #[.int .i64 y.1, .int .i64 y.2.1, .int .i64 y.2.2]
   have hx5 := setRow_heap (wr.alloc (.cells #[.int .i64 0, .int .i64 0, .int .i64 0] 84)) wr.heap.size _ #[.int .i64 y.1, .int .i64 y.2.1, .int .i64 y.2.2] 84 _ XX0
   go_upto_region 4 with ((with_reducible show wpList _ _ _ (⟨none, _, _, _, _, _⟩ :: _) _ _); refine wpList_store_rowS rfl _ (.tmp 8) (.tmp 14) rfl wr.heap.size rfl (c' := #[.int .i64 y.1, .int .i64 y.2.1, .int .i64 y.2.2]) rfl XX0 infoAskC rfl (by simp [Value.oneCell']) ?_)
   generalize (wr.alloc (.cells #[.int .i64 0, .int .i64 0, .int .i64 0] 84)).setRow wr.heap.size #[.int .i64 y.1, .int .i64 y.2.1, .int .i64 y.2.2] = u at hx5 hb5 ⊢
   clear XX0
   have XM5 := Lib.hid ((hb5.block _ (Nat.lt_of_lt_of_le (heap_lt XM.out) BW.out.size)).trans ((BW.out.block _ (heap_lt XM.out)).trans XM.out))
   have X5 := Lib.hid hx5
   have B5 := Lib.hid (BW.out.trans (hb5.mono BW.out.size))
   have HB5 := Lib.hid ((HBq.out.below sigR B5.out).more sigR B5.out.size)
   clear hx5 hb5
   by_cases he : meetL unlikeJ y l' = true
   ·have HR : Hid (commonL unlikeJ l l' = true) := Lib.hid (any_yes hir (by rw [HS.out]; exact he))
    go_wp2_with fail
    refine (cona_any _ l' y pm _ u HB5.out XM5.out X5.out).mono ?_
    rintro e w1 ⟨rfl, b1⟩
    rw [he]
    have B1 := Lib.hid (BQ.out.trans ((B5.out.trans (b1.mono B5.out.size)).mono BQ.out.size))
    clear b1 he
    go_wp2_with fail
    go_ret
    exact ⟨by rw [HR.out]; rfl, B1.out⟩
   ·have hd : meetL unlikeJ y l' = false := by simpa using he
    have NX : Hid (∀ j (hj : j < i + 1) (hl : j < l.length), meetL unlikeJ l[j] l' = false) := Lib.hid (fun j hj hl => by
     rcases Nat.lt_or_ge j i with h | h
     ·exact HALL.out j h hl
     ·obtain rfl : j = i := by omega
      rw [HS.out]; exact hd)
    clear he
    go_wp2_with fail
    refine (cona_any _ l' y pm _ u HB5.out XM5.out X5.out).mono ?_
    rintro e w1 ⟨rfl, b1⟩
    rw [hd]
    have B1 := Lib.hid (B5.out.trans (b1.mono B5.out.size))
    clear b1 hd
    go_wp2_with fail
    go_roundw
    case measure => simp [intOf]; omega
    case rel => exact ⟨i + 1, by omega, by go_num, NX.out, B1.out⟩
  ·obtain rfl : i = n := by omega
   have hlt' : ¬ (i : Int) < i := by omega
   have HR : Hid (commonL unlikeJ l l' = false) := Lib.hid (any_no fun j hj => HALL.out j (by rw [HN.out]; exact hj) hj)
   have BL := Lib.hid (BQ.out.trans (BW.out.mono BQ.out.size))
   go_wp2_with fail
   go_ret
   exact ⟨by rw [HR.out]; rfl, BL.out⟩
end Go.Proofs.YtebffdfimmbbdaaGreat
