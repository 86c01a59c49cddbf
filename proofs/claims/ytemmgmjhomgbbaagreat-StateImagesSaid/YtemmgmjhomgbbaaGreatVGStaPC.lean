/-
 The program's package state: two lists held against each other by a function.
 Conditions: none.
-/
import Derived.Test.YtemmgmjhomgbbaaGreatVGStaPA
import Derived.Test.YtemmgmjhomgbbaaGreatVGStaO
import Derived.Test.YtemmgmjhomgbbaaGreatVPlnP4
import Derived.Test.YtemmgmjhomgbbaaGreatVGPlnRefA
set_option linter.unusedVariables false
set_option linter.unusedSimpArgs false
set_option maxRecDepth 100000
namespace Go.Proofs.YtemmgmjhomgbbaaGreat
open Go.RowKit

set_option maxHeartbeats 8000000 in
theorem eqf_ts (v y : Value) (l : List Trk) (m : List Sec) (w : World) (h : TrksIn w w.heap.size v l) (h' : SectsIn w w.heap.size y m) :
  Calls Tryz.prog 69 #[v, y, .func (.func 70) #[] #[]] w fun e w' => e = .returned (.bool (eqW relT l m)) ∧ Below w.heap.size w w' := by
 have H := Lib.hid h
 have H' := Lib.hid h'
 obtain ⟨A, c, rfl, hcl, hcm⟩ := h.slice
 obtain ⟨A', c', rfl, hcl', hcm'⟩ := h'.slice
 have hml : l.length ≤ 9223372036854775807 := by unfold maxLen at hcm; omega
 obtain ⟨n, hn⟩ : ∃ n, n = l.length := ⟨_, rfl⟩
 obtain ⟨n', hn'⟩ : ∃ n', n' = m.length := ⟨_, rfl⟩
 have HN := Lib.hid hn
 have HN' := Lib.hid hn'
 have HA := Lib.hid (show TrksIn w w.heap.size (.slice A n c) l by rw [hn]; exact H.out)
 have HA' := Lib.hid (show SectsIn w w.heap.size (.slice A' n' c') m by rw [hn']; exact H'.out)
 have hml' : n' ≤ 9223372036854775807 := by unfold maxLen at hcm'; omega
 rw [← hn] at hml ⊢
 rw [← hn']
 clear hn hn' H H' hcl hcm hcl' hcm' h h'
 go_enter Tryz.func69, Tryz.ntmps69
 by_cases hnn : n = n'
 ·subst hnn
  go_wp2_with fail
  go_loopw [17] (fun s17 wr => ∃ i : Nat, i ≤ n ∧ s17 = .int .i64 i ∧ (∀ j (hj : j < i) (hl : j < l.length) (hm : j < m.length), relT l[j] m[j] = true) ∧ Below w.heap.size w wr) (fun s17 _ => n - (intOf s17).toNat)
  case atStart => exact ⟨0, by omega, by go_num, fun j hj => absurd hj (by omega), Below.refl _ _⟩
  case round =>
   obtain ⟨i, hi, rfl, hall, hbw⟩ := hrel
   have HALL := Lib.hid hall
   have BW := Lib.hid hbw
   clear hall hbw
   by_cases hlt : i < n
   ·have hlt' : (i : Int) < n := by omega
    have hir : i < l.length := by rw [← HN.out]; exact hlt
    have him : i < m.length := by rw [← HN'.out]; exact hlt
    obtain ⟨bk, off, rfl, hbk, hc0, hc1, -, -⟩ := ((HA.out.below trkR BW.out).more trkR BW.out.size).at hir
    obtain ⟨a, b, hx⟩ : ∃ a b, l[i] = (a, b) := ⟨_, _, rfl⟩
    have HX := Lib.hid hx
    rw [hx] at hc0 hc1
    dsimp only at hc0 hc1
    have hg0 : wr.cell? ⟨bk, off + i * 2, none⟩ = some (.int .i64 a) := hc0
    have hg1 : wr.cell? ⟨bk, off + i * 2 + 1, none⟩ = some (.int .u8 b) := hc1
    clear hc0 hc1 hx hbk
    obtain ⟨bkx, offx, rfl, hbk, hc0, hc1, ux, hc2, hu⟩ := ((HA'.out.below secR_ BW.out).more secR_ BW.out.size).at him
    obtain ⟨B3x, d3x, rfl, hu1, hu2⟩ := hu.slice
    obtain ⟨ax, ptx, esx, hx⟩ : ∃ a pt es, m[i] = (a, pt, es) := ⟨_, _, _, rfl⟩
    have HXx := Lib.hid hx
    rw [hx] at hc0 hc1 hc2
    dsimp only at hc0 hc1 hc2
    obtain ⟨m3x, e3⟩ : ∃ m, m = esx.length := ⟨_, rfl⟩
    rw [← e3] at hc2
    have hh0 : wr.cell? ⟨bkx, offx + i * 3, none⟩ = some (.int .i64 ax) := hc0
    have hh1 : wr.cell? ⟨bkx, offx + i * 3 + 1, none⟩ = some (.int .i64 ptx) := hc1
    have hh2 : wr.cell? ⟨bkx, offx + i * 3 + 2, none⟩ = some (.slice B3x m3x d3x) := hc2
    clear hc0 hc1 hc2 hx hbk hu hu1 hu2 e3
    obtain ⟨q, hq⟩ : ∃ x, x = wr.alloc (.cells #[.int .i64 a, .int .u8 b] 51) := ⟨_, rfl⟩
    have x1 := heap_alloc_self wr (.cells #[.int .i64 a, .int .u8 b] 51)
    have b1 := below_new wr (.cells #[.int .i64 a, .int .u8 b] 51)
    rw [← hq] at x1 b1
    have ii0 := (b1.cell (p := ⟨bkx, offx + i * 3, none⟩) (cell_lt hh0)).trans hh0
    have ii1 := (b1.cell (p := ⟨bkx, offx + i * 3 + 1, none⟩) (cell_lt hh1)).trans hh1
    have ii2 := (b1.cell (p := ⟨bkx, offx + i * 3 + 2, none⟩) (cell_lt hh2)).trans hh2
    obtain ⟨q2, hq2⟩ : ∃ x, x = q.alloc (.cells #[.int .i64 ax, .int .i64 ptx, .slice B3x m3x d3x] 60) := ⟨_, rfl⟩
    have x2 := heap_alloc_self q (.cells #[.int .i64 ax, .int .i64 ptx, .slice B3x m3x d3x] 60)
    have b2 := below_new q (.cells #[.int .i64 ax, .int .i64 ptx, .slice B3x m3x d3x] 60)
    rw [← hq2] at x2 b2
    have b12 := b1.trans (b2.mono b1.size)
    have X1 := Lib.hid ((b2.block _ (heap_lt x1)).trans x1)
    have X2 := Lib.hid x2
    have BA := Lib.hid b12
    have HQ1 := Lib.hid hq
    have HQ2 := Lib.hid hq2
    clear x1 x2 b1 b2 b12 hq hq2 hh0 hh1 hh2
    go_upto_region 6 with fail
    rw [← HQ1.out]
    go_upto_region 7 with fail
    rw [← HQ2.out]
    have b12 := BA.out
    generalize wr.heap.size = p1 at X1 ⊢
    generalize q.heap.size = p2 at X2 ⊢
    clear HQ1 HQ2 hg0 hg1 ii0 ii1 ii2
    obtain ⟨k0, k1⟩ := cell2_of X1.out
    obtain ⟨j0, j1, j2⟩ := cell3_of X2.out
    go_wp2_with fail
    refine (fits1_any a b ax ptx B3x m3x d3x esx q2).mono ?_
    rintro e w3 ⟨rfl, b3⟩
    have B3_ := Lib.hid (BW.out.trans ((b12.trans (b3.mono b12.size)).mono BW.out.size))
    clear b12 b3 k0 k1 j0 j1 j2
    cases he : relT (a, b) (ax, ptx, esx) with
    | true =>
     have NX : Hid (∀ j (hj : j < i + 1) (hl : j < l.length) (hm : j < m.length), relT l[j] m[j] = true) := Lib.hid (fun j hj h1 h2 => by
      rcases Nat.lt_or_ge j i with h | h
      ·exact HALL.out j h h1 h2
      ·obtain rfl : j = i := by omega
       rw [HX.out, HXx.out]; exact he)
     clear he
     go_wp2_with fail
     go_roundw
     case measure => simp [intOf]; omega
     case rel => exact ⟨i + 1, by omega, by go_num, NX.out, B3_.out⟩
    | false =>
     have HF : Hid (eqW relT l m = false) := Lib.hid (eqW_no (i := i) (h1 := hir) (h2 := him) (by rw [HX.out, HXx.out]; exact he))
     clear he
     go_wp2_with fail
     go_ret
     exact ⟨by rw [HF.out]; rfl, B3_.out⟩
   ·obtain rfl : i = n := by omega
    have hlt' : ¬ (i : Int) < i := by omega
    have HF : Hid (eqW relT l m = true) := Lib.hid (eqW_yes (by rw [← HN.out, ← HN'.out]) fun j h1 h2 => HALL.out j (by rw [HN.out]; exact h1) h1 h2)
    go_wp2_with fail
    go_ret
    exact ⟨by rw [HF.out]; rfl, BW.out⟩
 ·have hnn' : ((n : Int) != n') = true := by simpa using (show ¬ (n : Int) = n' by omega)
  have HF : Hid (eqW relT l m = false) := Lib.hid (eqW_len fun h => hnn (by rw [HN.out, HN'.out, h]))
  clear hnn
  go_wp2_with fail
  go_ret
  exact ⟨by rw [HF.out]; rfl, Below.refl _ _⟩
set_option maxHeartbeats 8000000 in
theorem eqf_sp (v y : Value) (l : List Swi) (m : List Jn) (w : World) (h : SwisIn w w.heap.size v l) (h' : JoinsIn w w.heap.size y m) :
  Calls Tryz.prog 71 #[v, y, .func (.func 72) #[] #[]] w fun e w' => e = .returned (.bool (eqW relS l m)) ∧ Below w.heap.size w w' := by
 have H := Lib.hid h
 have H' := Lib.hid h'
 obtain ⟨A, c, rfl, hcl, hcm⟩ := h.slice
 obtain ⟨A', c', rfl, hcl', hcm'⟩ := h'.slice
 have hml : l.length ≤ 9223372036854775807 := by unfold maxLen at hcm; omega
 obtain ⟨n, hn⟩ : ∃ n, n = l.length := ⟨_, rfl⟩
 obtain ⟨n', hn'⟩ : ∃ n', n' = m.length := ⟨_, rfl⟩
 have HN := Lib.hid hn
 have HN' := Lib.hid hn'
 have HA := Lib.hid (show SwisIn w w.heap.size (.slice A n c) l by rw [hn]; exact H.out)
 have HA' := Lib.hid (show JoinsIn w w.heap.size (.slice A' n' c') m by rw [hn']; exact H'.out)
 have hml' : n' ≤ 9223372036854775807 := by unfold maxLen at hcm'; omega
 rw [← hn] at hml ⊢
 rw [← hn']
 clear hn hn' H H' hcl hcm hcl' hcm' h h'
 go_enter Tryz.func71, Tryz.ntmps71
 by_cases hnn : n = n'
 ·subst hnn
  go_wp2_with fail
  go_loopw [17] (fun s17 wr => ∃ i : Nat, i ≤ n ∧ s17 = .int .i64 i ∧ (∀ j (hj : j < i) (hl : j < l.length) (hm : j < m.length), relS l[j] m[j] = true) ∧ Below w.heap.size w wr) (fun s17 _ => n - (intOf s17).toNat)
  case atStart => exact ⟨0, by omega, by go_num, fun j hj => absurd hj (by omega), Below.refl _ _⟩
  case round =>
   obtain ⟨i, hi, rfl, hall, hbw⟩ := hrel
   have HALL := Lib.hid hall
   have BW := Lib.hid hbw
   clear hall hbw
   by_cases hlt : i < n
   ·have hlt' : (i : Int) < n := by omega
    have hir : i < l.length := by rw [← HN.out]; exact hlt
    have him : i < m.length := by rw [← HN'.out]; exact hlt
    obtain ⟨bk, off, rfl, hbk, hc0, hc1, hc2⟩ := ((HA.out.below sigR BW.out).more sigR BW.out.size).at hir
    obtain ⟨a, b, c, hx⟩ : ∃ a b c, l[i] = (a, b, c) := ⟨_, _, _, rfl⟩
    have HX := Lib.hid hx
    rw [hx] at hc0 hc1 hc2
    dsimp only at hc0 hc1 hc2
    have hg0 : wr.cell? ⟨bk, off + i * 3, none⟩ = some (.int .i64 a) := hc0
    have hg1 : wr.cell? ⟨bk, off + i * 3 + 1, none⟩ = some (.int .i64 b) := hc1
    have hg2 : wr.cell? ⟨bk, off + i * 3 + 2, none⟩ = some (.int .i64 c) := hc2
    clear hc0 hc1 hc2 hx hbk
    obtain ⟨bkx, offx, rfl, hbk, hc0, hc1⟩ := ((HA'.out.below joinR BW.out).more joinR BW.out.size).at him
    obtain ⟨ax, bx, hx⟩ : ∃ ax bx, m[i] = (ax, bx) := ⟨_, _, rfl⟩
    have HXx := Lib.hid hx
    rw [hx] at hc0 hc1
    dsimp only at hc0 hc1
    have hh0 : wr.cell? ⟨bkx, offx + i * 2, none⟩ = some (.int .i64 ax) := hc0
    have hh1 : wr.cell? ⟨bkx, offx + i * 2 + 1, none⟩ = some (.int .i64 bx) := hc1
    clear hc0 hc1 hx hbk
    obtain ⟨q, hq⟩ : ∃ x, x = wr.alloc (.cells #[.int .i64 a, .int .i64 b, .int .i64 c] 55) := ⟨_, rfl⟩
    have x1 := heap_alloc_self wr (.cells #[.int .i64 a, .int .i64 b, .int .i64 c] 55)
    have b1 := below_new wr (.cells #[.int .i64 a, .int .i64 b, .int .i64 c] 55)
    rw [← hq] at x1 b1
    have ii0 := (b1.cell (p := ⟨bkx, offx + i * 2, none⟩) (cell_lt hh0)).trans hh0
    have ii1 := (b1.cell (p := ⟨bkx, offx + i * 2 + 1, none⟩) (cell_lt hh1)).trans hh1
    obtain ⟨q2, hq2⟩ : ∃ x, x = q.alloc (.cells #[.int .i64 ax, .int .i64 bx] 67) := ⟨_, rfl⟩
    have x2 := heap_alloc_self q (.cells #[.int .i64 ax, .int .i64 bx] 67)
    have b2 := below_new q (.cells #[.int .i64 ax, .int .i64 bx] 67)
    rw [← hq2] at x2 b2
    have b12 := b1.trans (b2.mono b1.size)
    have X1 := Lib.hid ((b2.block _ (heap_lt x1)).trans x1)
    have X2 := Lib.hid x2
    have BA := Lib.hid b12
    have HQ1 := Lib.hid hq
    have HQ2 := Lib.hid hq2
    clear x1 x2 b1 b2 b12 hq hq2 hh0 hh1
    go_upto_region 6 with fail
    rw [← HQ1.out]
    go_upto_region 7 with fail
    rw [← HQ2.out]
    have b12 := BA.out
    generalize wr.heap.size = p1 at X1 ⊢
    generalize q.heap.size = p2 at X2 ⊢
    clear HQ1 HQ2 hg0 hg1 hg2 ii0 ii1
    obtain ⟨k0, k1, k2⟩ := cell3_of X1.out
    obtain ⟨j0, j1⟩ := cell2_of X2.out
    go_wp2_with fail
    refine (fits2_any a b c ax bx q2).mono ?_
    rintro e w3 ⟨rfl, b3⟩
    have B3_ := Lib.hid (BW.out.trans ((b12.trans (b3.mono b12.size)).mono BW.out.size))
    clear b12 b3 k0 k1 k2 j0 j1
    cases he : relS (a, b, c) (ax, bx) with
    | true =>
     have NX : Hid (∀ j (hj : j < i + 1) (hl : j < l.length) (hm : j < m.length), relS l[j] m[j] = true) := Lib.hid (fun j hj h1 h2 => by
      rcases Nat.lt_or_ge j i with h | h
      ·exact HALL.out j h h1 h2
      ·obtain rfl : j = i := by omega
       rw [HX.out, HXx.out]; exact he)
     clear he
     go_wp2_with fail
     go_roundw
     case measure => simp [intOf]; omega
     case rel => exact ⟨i + 1, by omega, by go_num, NX.out, B3_.out⟩
    | false =>
     have HF : Hid (eqW relS l m = false) := Lib.hid (eqW_no (i := i) (h1 := hir) (h2 := him) (by rw [HX.out, HXx.out]; exact he))
     clear he
     go_wp2_with fail
     go_ret
     exact ⟨by rw [HF.out]; rfl, B3_.out⟩
   ·obtain rfl : i = n := by omega
    have hlt' : ¬ (i : Int) < i := by omega
    have HF : Hid (eqW relS l m = true) := Lib.hid (eqW_yes (by rw [← HN.out, ← HN'.out]) fun j h1 h2 => HALL.out j (by rw [HN.out]; exact h1) h1 h2)
    go_wp2_with fail
    go_ret
    exact ⟨by rw [HF.out]; rfl, BW.out⟩
 ·have hnn' : ((n : Int) != n') = true := by simpa using (show ¬ (n : Int) = n' by omega)
  have HF : Hid (eqW relS l m = false) := Lib.hid (eqW_len fun h => hnn (by rw [HN.out, HN'.out, h]))
  clear hnn
  go_wp2_with fail
  go_ret
  exact ⟨by rw [HF.out]; rfl, Below.refl _ _⟩
set_option maxHeartbeats 8000000 in
theorem eqf_lr (v y : Value) (l : List Lck) (m : List Rt) (w : World) (h : LcksIn w w.heap.size v l) (h' : RoutesIn w w.heap.size y m) :
  Calls Tryz.prog 74 #[v, y, .func (.func 75) #[] #[]] w fun e w' => e = .returned (.bool (eqW relL l m)) ∧ Below w.heap.size w w' := by
 have H := Lib.hid h
 have H' := Lib.hid h'
 obtain ⟨A, c, rfl, hcl, hcm⟩ := h.slice
 obtain ⟨A', c', rfl, hcl', hcm'⟩ := h'.slice
 have hml : l.length ≤ 9223372036854775807 := by unfold maxLen at hcm; omega
 obtain ⟨n, hn⟩ : ∃ n, n = l.length := ⟨_, rfl⟩
 obtain ⟨n', hn'⟩ : ∃ n', n' = m.length := ⟨_, rfl⟩
 have HN := Lib.hid hn
 have HN' := Lib.hid hn'
 have HA := Lib.hid (show LcksIn w w.heap.size (.slice A n c) l by rw [hn]; exact H.out)
 have HA' := Lib.hid (show RoutesIn w w.heap.size (.slice A' n' c') m by rw [hn']; exact H'.out)
 have hml' : n' ≤ 9223372036854775807 := by unfold maxLen at hcm'; omega
 rw [← hn] at hml ⊢
 rw [← hn']
 clear hn hn' H H' hcl hcm hcl' hcm' h h'
 go_enter Tryz.func74, Tryz.ntmps74
 by_cases hnn : n = n'
 ·subst hnn
  go_wp2_with fail
  go_loopw [17] (fun s17 wr => ∃ i : Nat, i ≤ n ∧ s17 = .int .i64 i ∧ (∀ j (hj : j < i) (hl : j < l.length) (hm : j < m.length), relL l[j] m[j] = true) ∧ Below w.heap.size w wr) (fun s17 _ => n - (intOf s17).toNat)
  case atStart => exact ⟨0, by omega, by go_num, fun j hj => absurd hj (by omega), Below.refl _ _⟩
  case round =>
   obtain ⟨i, hi, rfl, hall, hbw⟩ := hrel
   have HALL := Lib.hid hall
   have BW := Lib.hid hbw
   clear hall hbw
   by_cases hlt : i < n
   ·have hlt' : (i : Int) < n := by omega
    have hir : i < l.length := by rw [← HN.out]; exact hlt
    have him : i < m.length := by rw [← HN'.out]; exact hlt
    obtain ⟨bk, off, rfl, hbk, hc0, hc1, hc2, hc3, -, -⟩ := ((HA.out.below lckR BW.out).more lckR BW.out.size).at hir
    obtain ⟨a, b, c, d, hx⟩ : ∃ a b c d, l[i] = (a, b, c, d) := ⟨_, _, _, _, rfl⟩
    have HX := Lib.hid hx
    rw [hx] at hc0 hc1 hc2 hc3
    dsimp only at hc0 hc1 hc2 hc3
    have hg0 : wr.cell? ⟨bk, off + i * 4, none⟩ = some (.int .i64 a) := hc0
    have hg1 : wr.cell? ⟨bk, off + i * 4 + 1, none⟩ = some (.int .u8 b) := hc1
    have hg2 : wr.cell? ⟨bk, off + i * 4 + 2, none⟩ = some (.int .i64 c) := hc2
    have hg3 : wr.cell? ⟨bk, off + i * 4 + 3, none⟩ = some (.int .i64 d) := hc3
    clear hc0 hc1 hc2 hc3 hx hbk
    obtain ⟨bkx, offx, rfl, hbk, hc0, hc1, hc2, hc6, u3x, u4x, u5x, hc3, hc4, hc5, hr⟩ := ((HA'.out.below routeR BW.out).more routeR BW.out.size).at him
    obtain ⟨B3x, d3x, rfl, hk3, hm3⟩ := hr.path.slice
    obtain ⟨B4x, d4x, rfl, -, -⟩ := hr.over.slice
    obtain ⟨B5x, d5x, rfl, -, -⟩ := hr.flanks.slice
    obtain ⟨ax, enx, exx, lpx, lox, lfx, tmx, hx⟩ : ∃ ax enx exx lpx lox lfx tmx, m[i] = (⟨ax, enx, exx, lpx, lox, lfx, tmx⟩ : Rt) := ⟨_, _, _, _, _, _, _, rfl⟩
    have HXx := Lib.hid hx
    rw [hx] at hc0 hc1 hc2 hc3 hc4 hc5 hc6 hr hk3
    dsimp only at hc0 hc1 hc2 hc3 hc4 hc5 hc6 hr hk3
    obtain ⟨m3x, e3⟩ : ∃ m, m = lpx.length := ⟨_, rfl⟩
    obtain ⟨m4x, e4⟩ : ∃ m, m = lox.length := ⟨_, rfl⟩
    obtain ⟨m5x, e5⟩ : ∃ m, m = lfx.length := ⟨_, rfl⟩
    rw [← e3] at hc3 hk3
    rw [← e4] at hc4
    rw [← e5] at hc5
    have HMx : Hid (m3x = lpx.length ∧ m3x ≤ 9223372036854775807) := Lib.hid ⟨e3, by unfold maxLen at hm3; omega⟩
    have hh0 : wr.cell? ⟨bkx, offx + i * 7, none⟩ = some (.int .i64 ax) := hc0
    have hh1 : wr.cell? ⟨bkx, offx + i * 7 + 1, none⟩ = some (.int .i64 enx) := hc1
    have hh2 : wr.cell? ⟨bkx, offx + i * 7 + 2, none⟩ = some (.int .i64 exx) := hc2
    have hh3 : wr.cell? ⟨bkx, offx + i * 7 + 3, none⟩ = some (.slice B3x m3x d3x) := hc3
    have hh4 : wr.cell? ⟨bkx, offx + i * 7 + 4, none⟩ = some (.slice B4x m4x d4x) := hc4
    have hh5 : wr.cell? ⟨bkx, offx + i * 7 + 5, none⟩ = some (.slice B5x m5x d5x) := hc5
    have hh6 : wr.cell? ⟨bkx, offx + i * 7 + 6, none⟩ = some (.int .i64 tmx) := hc6
    clear hc0 hc1 hc2 hc3 hc4 hc5 hc6 hx hbk hr hk3 hm3 e3 e4 e5
    obtain ⟨q, hq⟩ : ∃ x, x = wr.alloc (.cells #[.int .i64 a, .int .u8 b, .int .i64 c, .int .i64 d] 53) := ⟨_, rfl⟩
    have x1 := heap_alloc_self wr (.cells #[.int .i64 a, .int .u8 b, .int .i64 c, .int .i64 d] 53)
    have b1 := below_new wr (.cells #[.int .i64 a, .int .u8 b, .int .i64 c, .int .i64 d] 53)
    rw [← hq] at x1 b1
    have ii0 := (b1.cell (p := ⟨bkx, offx + i * 7, none⟩) (cell_lt hh0)).trans hh0
    have ii1 := (b1.cell (p := ⟨bkx, offx + i * 7 + 1, none⟩) (cell_lt hh1)).trans hh1
    have ii2 := (b1.cell (p := ⟨bkx, offx + i * 7 + 2, none⟩) (cell_lt hh2)).trans hh2
    have ii3 := (b1.cell (p := ⟨bkx, offx + i * 7 + 3, none⟩) (cell_lt hh3)).trans hh3
    have ii4 := (b1.cell (p := ⟨bkx, offx + i * 7 + 4, none⟩) (cell_lt hh4)).trans hh4
    have ii5 := (b1.cell (p := ⟨bkx, offx + i * 7 + 5, none⟩) (cell_lt hh5)).trans hh5
    have ii6 := (b1.cell (p := ⟨bkx, offx + i * 7 + 6, none⟩) (cell_lt hh6)).trans hh6
    obtain ⟨q2, hq2⟩ : ∃ x, x = q.alloc (.cells #[.int .i64 ax, .int .i64 enx, .int .i64 exx, .slice B3x m3x d3x, .slice B4x m4x d4x, .slice B5x m5x d5x, .int .i64 tmx] 64) := ⟨_, rfl⟩
    have x2 := heap_alloc_self q (.cells #[.int .i64 ax, .int .i64 enx, .int .i64 exx, .slice B3x m3x d3x, .slice B4x m4x d4x, .slice B5x m5x d5x, .int .i64 tmx] 64)
    have b2 := below_new q (.cells #[.int .i64 ax, .int .i64 enx, .int .i64 exx, .slice B3x m3x d3x, .slice B4x m4x d4x, .slice B5x m5x d5x, .int .i64 tmx] 64)
    rw [← hq2] at x2 b2
    have b12 := b1.trans (b2.mono b1.size)
    have X1 := Lib.hid ((b2.block _ (heap_lt x1)).trans x1)
    have X2 := Lib.hid x2
    have BA := Lib.hid b12
    have HQ1 := Lib.hid hq
    have HQ2 := Lib.hid hq2
    clear x1 x2 b1 b2 b12 hq hq2 hh0 hh1 hh2 hh3 hh4 hh5 hh6
    go_upto_region 6 with fail
    rw [← HQ1.out]
    go_upto_region 7 with fail
    rw [← HQ2.out]
    have b12 := BA.out
    generalize wr.heap.size = p1 at X1 ⊢
    generalize q.heap.size = p2 at X2 ⊢
    clear HQ1 HQ2 hg0 hg1 hg2 hg3 ii0 ii1 ii2 ii3 ii4 ii5 ii6
    obtain ⟨k0, k1, k2, k3⟩ := cell4_of X1.out
    obtain ⟨j0, j1, j2, j3, j4, j5, j6⟩ := cell7_of X2.out
    go_wp2_with fail
    refine (fits3_any a b c d ax enx exx B3x B4x B5x m3x m4x m5x d3x d4x d5x lpx lox lfx tmx HMx.out q2).mono ?_
    rintro e w3 ⟨rfl, b3⟩
    have B3_ := Lib.hid (BW.out.trans ((b12.trans (b3.mono b12.size)).mono BW.out.size))
    clear b12 b3 k0 k1 k2 k3 j0 j1 j2 j3 j4 j5 j6
    cases he : relL (a, b, c, d) (⟨ax, enx, exx, lpx, lox, lfx, tmx⟩ : Rt) with
    | true =>
     have NX : Hid (∀ j (hj : j < i + 1) (hl : j < l.length) (hm : j < m.length), relL l[j] m[j] = true) := Lib.hid (fun j hj h1 h2 => by
      rcases Nat.lt_or_ge j i with h | h
      ·exact HALL.out j h h1 h2
      ·obtain rfl : j = i := by omega
       rw [HX.out, HXx.out]; exact he)
     clear he
     go_wp2_with fail
     go_roundw
     case measure => simp [intOf]; omega
     case rel => exact ⟨i + 1, by omega, by go_num, NX.out, B3_.out⟩
    | false =>
     have HF : Hid (eqW relL l m = false) := Lib.hid (eqW_no (i := i) (h1 := hir) (h2 := him) (by rw [HX.out, HXx.out]; exact he))
     clear he
     go_wp2_with fail
     go_ret
     exact ⟨by rw [HF.out]; rfl, B3_.out⟩
   ·obtain rfl : i = n := by omega
    have hlt' : ¬ (i : Int) < i := by omega
    have HF : Hid (eqW relL l m = true) := Lib.hid (eqW_yes (by rw [← HN.out, ← HN'.out]) fun j h1 h2 => HALL.out j (by rw [HN.out]; exact h1) h1 h2)
    go_wp2_with fail
    go_ret
    exact ⟨by rw [HF.out]; rfl, BW.out⟩
 ·have hnn' : ((n : Int) != n') = true := by simpa using (show ¬ (n : Int) = n' by omega)
  have HF : Hid (eqW relL l m = false) := Lib.hid (eqW_len fun h => hnn (by rw [HN.out, HN'.out, h]))
  clear hnn
  go_wp2_with fail
  go_ret
  exact ⟨by rw [HF.out]; rfl, Below.refl _ _⟩
set_option maxHeartbeats 8000000 in
theorem eqf_ks (v y : Value) (l : List Swi) (m : List Swi) (w : World) (h : SwisIn w w.heap.size v l) (h' : SwisIn w w.heap.size y m) :
  Calls Tryz.prog 40 #[v, y, .func (.func 41) #[] #[]] w fun e w' => e = .returned (.bool (eqW relKS l m)) ∧ Below w.heap.size w w' := by
 have H := Lib.hid h
 have H' := Lib.hid h'
 obtain ⟨A, c, rfl, hcl, hcm⟩ := h.slice
 obtain ⟨A', c', rfl, hcl', hcm'⟩ := h'.slice
 have hml : l.length ≤ 9223372036854775807 := by unfold maxLen at hcm; omega
 obtain ⟨n, hn⟩ : ∃ n, n = l.length := ⟨_, rfl⟩
 obtain ⟨n', hn'⟩ : ∃ n', n' = m.length := ⟨_, rfl⟩
 have HN := Lib.hid hn
 have HN' := Lib.hid hn'
 have HA := Lib.hid (show SwisIn w w.heap.size (.slice A n c) l by rw [hn]; exact H.out)
 have HA' := Lib.hid (show SwisIn w w.heap.size (.slice A' n' c') m by rw [hn']; exact H'.out)
 have hml' : n' ≤ 9223372036854775807 := by unfold maxLen at hcm'; omega
 rw [← hn] at hml ⊢
 rw [← hn']
 clear hn hn' H H' hcl hcm hcl' hcm' h h'
 go_enter Tryz.func40, Tryz.ntmps40
 by_cases hnn : n = n'
 ·subst hnn
  go_wp2_with fail
  go_loopw [17] (fun s17 wr => ∃ i : Nat, i ≤ n ∧ s17 = .int .i64 i ∧ (∀ j (hj : j < i) (hl : j < l.length) (hm : j < m.length), relKS l[j] m[j] = true) ∧ Below w.heap.size w wr) (fun s17 _ => n - (intOf s17).toNat)
  case atStart => exact ⟨0, by omega, by go_num, fun j hj => absurd hj (by omega), Below.refl _ _⟩
  case round =>
   obtain ⟨i, hi, rfl, hall, hbw⟩ := hrel
   have HALL := Lib.hid hall
   have BW := Lib.hid hbw
   clear hall hbw
   by_cases hlt : i < n
   ·have hlt' : (i : Int) < n := by omega
    have hir : i < l.length := by rw [← HN.out]; exact hlt
    have him : i < m.length := by rw [← HN'.out]; exact hlt
    obtain ⟨bk, off, rfl, hbk, hc0, hc1, hc2⟩ := ((HA.out.below sigR BW.out).more sigR BW.out.size).at hir
    obtain ⟨a, b, c, hx⟩ : ∃ a b c, l[i] = (a, b, c) := ⟨_, _, _, rfl⟩
    have HX := Lib.hid hx
    rw [hx] at hc0 hc1 hc2
    dsimp only at hc0 hc1 hc2
    have hg0 : wr.cell? ⟨bk, off + i * 3, none⟩ = some (.int .i64 a) := hc0
    have hg1 : wr.cell? ⟨bk, off + i * 3 + 1, none⟩ = some (.int .i64 b) := hc1
    have hg2 : wr.cell? ⟨bk, off + i * 3 + 2, none⟩ = some (.int .i64 c) := hc2
    clear hc0 hc1 hc2 hx hbk
    obtain ⟨bkx, offx, rfl, hbk, hc0, hc1, hc2⟩ := ((HA'.out.below sigR BW.out).more sigR BW.out.size).at him
    obtain ⟨ax, bx, cx, hx⟩ : ∃ ax bx cx, m[i] = (ax, bx, cx) := ⟨_, _, _, rfl⟩
    have HXx := Lib.hid hx
    rw [hx] at hc0 hc1 hc2
    dsimp only at hc0 hc1 hc2
    have hh0 : wr.cell? ⟨bkx, offx + i * 3, none⟩ = some (.int .i64 ax) := hc0
    have hh1 : wr.cell? ⟨bkx, offx + i * 3 + 1, none⟩ = some (.int .i64 bx) := hc1
    have hh2 : wr.cell? ⟨bkx, offx + i * 3 + 2, none⟩ = some (.int .i64 cx) := hc2
    clear hc0 hc1 hc2 hx hbk
    obtain ⟨q, hq⟩ : ∃ x, x = wr.alloc (.cells #[.int .i64 a, .int .i64 b, .int .i64 c] 55) := ⟨_, rfl⟩
    have x1 := heap_alloc_self wr (.cells #[.int .i64 a, .int .i64 b, .int .i64 c] 55)
    have b1 := below_new wr (.cells #[.int .i64 a, .int .i64 b, .int .i64 c] 55)
    rw [← hq] at x1 b1
    have ii0 := (b1.cell (p := ⟨bkx, offx + i * 3, none⟩) (cell_lt hh0)).trans hh0
    have ii1 := (b1.cell (p := ⟨bkx, offx + i * 3 + 1, none⟩) (cell_lt hh1)).trans hh1
    have ii2 := (b1.cell (p := ⟨bkx, offx + i * 3 + 2, none⟩) (cell_lt hh2)).trans hh2
    obtain ⟨q2, hq2⟩ : ∃ x, x = q.alloc (.cells #[.int .i64 ax, .int .i64 bx, .int .i64 cx] 55) := ⟨_, rfl⟩
    have x2 := heap_alloc_self q (.cells #[.int .i64 ax, .int .i64 bx, .int .i64 cx] 55)
    have b2 := below_new q (.cells #[.int .i64 ax, .int .i64 bx, .int .i64 cx] 55)
    rw [← hq2] at x2 b2
    have b12 := b1.trans (b2.mono b1.size)
    have X1 := Lib.hid ((b2.block _ (heap_lt x1)).trans x1)
    have X2 := Lib.hid x2
    have BA := Lib.hid b12
    have HQ1 := Lib.hid hq
    have HQ2 := Lib.hid hq2
    clear x1 x2 b1 b2 b12 hq hq2 hh0 hh1 hh2
    go_upto_region 6 with fail
    rw [← HQ1.out]
    go_upto_region 7 with fail
    rw [← HQ2.out]
    have b12 := BA.out
    generalize wr.heap.size = p1 at X1 ⊢
    generalize q.heap.size = p2 at X2 ⊢
    clear HQ1 HQ2 hg0 hg1 hg2 ii0 ii1 ii2
    obtain ⟨k0, k1, k2⟩ := cell3_of X1.out
    obtain ⟨j0, j1, j2⟩ := cell3_of X2.out
    go_wp2_with fail
    refine (kept1_any a b c ax bx cx q2).mono ?_
    rintro e w3 ⟨rfl, b3⟩
    have B3_ := Lib.hid (BW.out.trans ((b12.trans (b3.mono b12.size)).mono BW.out.size))
    clear b12 b3 k0 k1 k2 j0 j1 j2
    cases he : relKS (a, b, c) (ax, bx, cx) with
    | true =>
     have NX : Hid (∀ j (hj : j < i + 1) (hl : j < l.length) (hm : j < m.length), relKS l[j] m[j] = true) := Lib.hid (fun j hj h1 h2 => by
      rcases Nat.lt_or_ge j i with h | h
      ·exact HALL.out j h h1 h2
      ·obtain rfl : j = i := by omega
       rw [HX.out, HXx.out]; exact he)
     clear he
     go_wp2_with fail
     go_roundw
     case measure => simp [intOf]; omega
     case rel => exact ⟨i + 1, by omega, by go_num, NX.out, B3_.out⟩
    | false =>
     have HF : Hid (eqW relKS l m = false) := Lib.hid (eqW_no (i := i) (h1 := hir) (h2 := him) (by rw [HX.out, HXx.out]; exact he))
     clear he
     go_wp2_with fail
     go_ret
     exact ⟨by rw [HF.out]; rfl, B3_.out⟩
   ·obtain rfl : i = n := by omega
    have hlt' : ¬ (i : Int) < i := by omega
    have HF : Hid (eqW relKS l m = true) := Lib.hid (eqW_yes (by rw [← HN.out, ← HN'.out]) fun j h1 h2 => HALL.out j (by rw [HN.out]; exact h1) h1 h2)
    go_wp2_with fail
    go_ret
    exact ⟨by rw [HF.out]; rfl, BW.out⟩
 ·have hnn' : ((n : Int) != n') = true := by simpa using (show ¬ (n : Int) = n' by omega)
  have HF : Hid (eqW relKS l m = false) := Lib.hid (eqW_len fun h => hnn (by rw [HN.out, HN'.out, h]))
  clear hnn
  go_wp2_with fail
  go_ret
  exact ⟨by rw [HF.out]; rfl, Below.refl _ _⟩
set_option maxHeartbeats 8000000 in
theorem eqf_kl (v y : Value) (l : List Lck) (m : List Lck) (w : World) (h : LcksIn w w.heap.size v l) (h' : LcksIn w w.heap.size y m) :
  Calls Tryz.prog 42 #[v, y, .func (.func 43) #[] #[]] w fun e w' => e = .returned (.bool (eqW relKL l m)) ∧ Below w.heap.size w w' := by
 have H := Lib.hid h
 have H' := Lib.hid h'
 obtain ⟨A, c, rfl, hcl, hcm⟩ := h.slice
 obtain ⟨A', c', rfl, hcl', hcm'⟩ := h'.slice
 have hml : l.length ≤ 9223372036854775807 := by unfold maxLen at hcm; omega
 obtain ⟨n, hn⟩ : ∃ n, n = l.length := ⟨_, rfl⟩
 obtain ⟨n', hn'⟩ : ∃ n', n' = m.length := ⟨_, rfl⟩
 have HN := Lib.hid hn
 have HN' := Lib.hid hn'
 have HA := Lib.hid (show LcksIn w w.heap.size (.slice A n c) l by rw [hn]; exact H.out)
 have HA' := Lib.hid (show LcksIn w w.heap.size (.slice A' n' c') m by rw [hn']; exact H'.out)
 have hml' : n' ≤ 9223372036854775807 := by unfold maxLen at hcm'; omega
 rw [← hn] at hml ⊢
 rw [← hn']
 clear hn hn' H H' hcl hcm hcl' hcm' h h'
 go_enter Tryz.func42, Tryz.ntmps42
 by_cases hnn : n = n'
 ·subst hnn
  go_wp2_with fail
  go_loopw [17] (fun s17 wr => ∃ i : Nat, i ≤ n ∧ s17 = .int .i64 i ∧ (∀ j (hj : j < i) (hl : j < l.length) (hm : j < m.length), relKL l[j] m[j] = true) ∧ Below w.heap.size w wr) (fun s17 _ => n - (intOf s17).toNat)
  case atStart => exact ⟨0, by omega, by go_num, fun j hj => absurd hj (by omega), Below.refl _ _⟩
  case round =>
   obtain ⟨i, hi, rfl, hall, hbw⟩ := hrel
   have HALL := Lib.hid hall
   have BW := Lib.hid hbw
   clear hall hbw
   by_cases hlt : i < n
   ·have hlt' : (i : Int) < n := by omega
    have hir : i < l.length := by rw [← HN.out]; exact hlt
    have him : i < m.length := by rw [← HN'.out]; exact hlt
    obtain ⟨bk, off, rfl, hbk, hc0, hc1, hc2, hc3, -, -⟩ := ((HA.out.below lckR BW.out).more lckR BW.out.size).at hir
    obtain ⟨a, b, c, d, hx⟩ : ∃ a b c d, l[i] = (a, b, c, d) := ⟨_, _, _, _, rfl⟩
    have HX := Lib.hid hx
    rw [hx] at hc0 hc1 hc2 hc3
    dsimp only at hc0 hc1 hc2 hc3
    have hg0 : wr.cell? ⟨bk, off + i * 4, none⟩ = some (.int .i64 a) := hc0
    have hg1 : wr.cell? ⟨bk, off + i * 4 + 1, none⟩ = some (.int .u8 b) := hc1
    have hg2 : wr.cell? ⟨bk, off + i * 4 + 2, none⟩ = some (.int .i64 c) := hc2
    have hg3 : wr.cell? ⟨bk, off + i * 4 + 3, none⟩ = some (.int .i64 d) := hc3
    clear hc0 hc1 hc2 hc3 hx hbk
    obtain ⟨bkx, offx, rfl, hbk, hc0, hc1, hc2, hc3, -, -⟩ := ((HA'.out.below lckR BW.out).more lckR BW.out.size).at him
    obtain ⟨ax, bx, cx, dx, hx⟩ : ∃ ax bx cx dx, m[i] = (ax, bx, cx, dx) := ⟨_, _, _, _, rfl⟩
    have HXx := Lib.hid hx
    rw [hx] at hc0 hc1 hc2 hc3
    dsimp only at hc0 hc1 hc2 hc3
    have hh0 : wr.cell? ⟨bkx, offx + i * 4, none⟩ = some (.int .i64 ax) := hc0
    have hh1 : wr.cell? ⟨bkx, offx + i * 4 + 1, none⟩ = some (.int .u8 bx) := hc1
    have hh2 : wr.cell? ⟨bkx, offx + i * 4 + 2, none⟩ = some (.int .i64 cx) := hc2
    have hh3 : wr.cell? ⟨bkx, offx + i * 4 + 3, none⟩ = some (.int .i64 dx) := hc3
    clear hc0 hc1 hc2 hc3 hx hbk
    obtain ⟨q, hq⟩ : ∃ x, x = wr.alloc (.cells #[.int .i64 a, .int .u8 b, .int .i64 c, .int .i64 d] 53) := ⟨_, rfl⟩
    have x1 := heap_alloc_self wr (.cells #[.int .i64 a, .int .u8 b, .int .i64 c, .int .i64 d] 53)
    have b1 := below_new wr (.cells #[.int .i64 a, .int .u8 b, .int .i64 c, .int .i64 d] 53)
    rw [← hq] at x1 b1
    have ii0 := (b1.cell (p := ⟨bkx, offx + i * 4, none⟩) (cell_lt hh0)).trans hh0
    have ii1 := (b1.cell (p := ⟨bkx, offx + i * 4 + 1, none⟩) (cell_lt hh1)).trans hh1
    have ii2 := (b1.cell (p := ⟨bkx, offx + i * 4 + 2, none⟩) (cell_lt hh2)).trans hh2
    have ii3 := (b1.cell (p := ⟨bkx, offx + i * 4 + 3, none⟩) (cell_lt hh3)).trans hh3
    obtain ⟨q2, hq2⟩ : ∃ x, x = q.alloc (.cells #[.int .i64 ax, .int .u8 bx, .int .i64 cx, .int .i64 dx] 53) := ⟨_, rfl⟩
    have x2 := heap_alloc_self q (.cells #[.int .i64 ax, .int .u8 bx, .int .i64 cx, .int .i64 dx] 53)
    have b2 := below_new q (.cells #[.int .i64 ax, .int .u8 bx, .int .i64 cx, .int .i64 dx] 53)
    rw [← hq2] at x2 b2
    have b12 := b1.trans (b2.mono b1.size)
    have X1 := Lib.hid ((b2.block _ (heap_lt x1)).trans x1)
    have X2 := Lib.hid x2
    have BA := Lib.hid b12
    have HQ1 := Lib.hid hq
    have HQ2 := Lib.hid hq2
    clear x1 x2 b1 b2 b12 hq hq2 hh0 hh1 hh2 hh3
    go_upto_region 6 with fail
    rw [← HQ1.out]
    go_upto_region 7 with fail
    rw [← HQ2.out]
    have b12 := BA.out
    generalize wr.heap.size = p1 at X1 ⊢
    generalize q.heap.size = p2 at X2 ⊢
    clear HQ1 HQ2 hg0 hg1 hg2 hg3 ii0 ii1 ii2 ii3
    obtain ⟨k0, k1, k2, k3⟩ := cell4_of X1.out
    obtain ⟨j0, j1, j2, j3⟩ := cell4_of X2.out
    go_wp2_with fail
    refine (kept2_any a b c d ax bx cx dx q2).mono ?_
    rintro e w3 ⟨rfl, b3⟩
    have B3_ := Lib.hid (BW.out.trans ((b12.trans (b3.mono b12.size)).mono BW.out.size))
    clear b12 b3 k0 k1 k2 k3 j0 j1 j2 j3
    cases he : relKL (a, b, c, d) (ax, bx, cx, dx) with
    | true =>
     have NX : Hid (∀ j (hj : j < i + 1) (hl : j < l.length) (hm : j < m.length), relKL l[j] m[j] = true) := Lib.hid (fun j hj h1 h2 => by
      rcases Nat.lt_or_ge j i with h | h
      ·exact HALL.out j h h1 h2
      ·obtain rfl : j = i := by omega
       rw [HX.out, HXx.out]; exact he)
     clear he
     go_wp2_with fail
     go_roundw
     case measure => simp [intOf]; omega
     case rel => exact ⟨i + 1, by omega, by go_num, NX.out, B3_.out⟩
    | false =>
     have HF : Hid (eqW relKL l m = false) := Lib.hid (eqW_no (i := i) (h1 := hir) (h2 := him) (by rw [HX.out, HXx.out]; exact he))
     clear he
     go_wp2_with fail
     go_ret
     exact ⟨by rw [HF.out]; rfl, B3_.out⟩
   ·obtain rfl : i = n := by omega
    have hlt' : ¬ (i : Int) < i := by omega
    have HF : Hid (eqW relKL l m = true) := Lib.hid (eqW_yes (by rw [← HN.out, ← HN'.out]) fun j h1 h2 => HALL.out j (by rw [HN.out]; exact h1) h1 h2)
    go_wp2_with fail
    go_ret
    exact ⟨by rw [HF.out]; rfl, BW.out⟩
 ·have hnn' : ((n : Int) != n') = true := by simpa using (show ¬ (n : Int) = n' by omega)
  have HF : Hid (eqW relKL l m = false) := Lib.hid (eqW_len fun h => hnn (by rw [HN.out, HN'.out, h]))
  clear hnn
  go_wp2_with fail
  go_ret
  exact ⟨by rw [HF.out]; rfl, Below.refl _ _⟩

theorem lieB_iff {z : Int} : lieB z = true ↔ 0 ≤ z ∧ z ≤ 2 := by
 rw [lieB, Bool.or_eq_true, Bool.or_eq_true, decide_eq_true_eq, decide_eq_true_eq, decide_eq_true_eq]
 omega
/-- A state's parts, as the program holds them against a plan's. -/
theorem parts_eqW {p : Pl} {s : St15} (hs : ∀ x ∈ s.tr, True) : PartsM p s ↔ (eqW relT s.tr p.secs = true ∧ eqW relS s.sw p.pts = true ∧ eqW relL s.lk p.routes = true) := by
 rw [eqW_iff, eqW_iff, eqW_iff]
 constructor
 ·intro h
  refine ⟨⟨h.nt, fun i h1 h2 => ?_⟩, ⟨h.ns, fun i h1 h2 => ?_⟩, ⟨h.nl, fun i h1 h2 => ?_⟩⟩
  ·obtain ⟨e1, e2⟩ := h.tr i h1
   rw [relT, Bool.and_eq_true]; exact ⟨decide_eq_true e1, decide_eq_true e2⟩
  ·obtain ⟨e1, ⟨e2, e3⟩, e4, e5⟩ := h.sw i h1
   rw [relS, Bool.and_eq_true, Bool.and_eq_true]; exact ⟨⟨decide_eq_true e1, lieB_iff.2 ⟨e2, e3⟩⟩, lieB_iff.2 ⟨e4, e5⟩⟩
  ·obtain ⟨e1, e2⟩ := h.lk i h1
   rw [relL, Bool.and_eq_true]; exact ⟨decide_eq_true e1, decide_eq_true e2⟩
 ·rintro ⟨⟨h1, g1⟩, ⟨h2, g2⟩, ⟨h3, g3⟩⟩
  refine ⟨h1, h2, h3, fun i h => ?_, fun i h => ?_, fun i h => ?_⟩
  ·have := g1 i h (by omega)
   rw [relT, Bool.and_eq_true] at this
   exact ⟨of_decide_eq_true this.1, of_decide_eq_true this.2⟩
  ·have := g2 i h (by omega)
   rw [relS, Bool.and_eq_true, Bool.and_eq_true] at this
   exact ⟨of_decide_eq_true this.1.1, lieB_iff.1 this.1.2, lieB_iff.1 this.2⟩
  ·have := g3 i h (by omega)
   rw [relL, Bool.and_eq_true] at this
   exact ⟨of_decide_eq_true this.1, of_decide_eq_true this.2⟩
noncomputable def partsB (p : Pl) (s : St15) : Bool := @decide (PartsM p s) (Classical.propDecidable _)
theorem partsB_yes {p : Pl} {s : St15} (h : PartsM p s) : partsB p s = true := by rw [partsB]; exact @decide_eq_true _ (Classical.propDecidable _) h
theorem partsB_no {p : Pl} {s : St15} (h : ¬ PartsM p s) : partsB p s = false := by rw [partsB]; exact @decide_eq_false _ (Classical.propDecidable _) h
set_option maxHeartbeats 8000000 in
theorem fits_any (v y : Value) (p : Pl) (s : St15) (w : World) (h : PlanV w w.heap.size v p) (h' : StateV w w.heap.size y s) :
  Calls Tryz.prog 49 #[v, y] w fun e w' => e = .returned (.bool (partsB p s)) ∧ Below w.heap.size w w' := by
 obtain ⟨p2, p3, p4, p5, rfl, h⟩ := h
 obtain ⟨A2, a2, rfl, -, -⟩ := h.secs.slice
 obtain ⟨b2, hb2⟩ : ∃ n, n = p.secs.length := ⟨_, rfl⟩
 have P2 : Hid (SectsIn w w.heap.size (.slice A2 b2 a2) p.secs) := Lib.hid (by rw [hb2]; exact h.secs)
 rw [← hb2]
 clear hb2
 obtain ⟨A3, a3, rfl, -, -⟩ := h.pts.slice
 obtain ⟨b3, hb3⟩ : ∃ n, n = p.pts.length := ⟨_, rfl⟩
 have P3 : Hid (JoinsIn w w.heap.size (.slice A3 b3 a3) p.pts) := Lib.hid (by rw [hb3]; exact h.pts)
 rw [← hb3]
 clear hb3
 obtain ⟨A4, a4, rfl, -, -⟩ := h.sigs.slice
 obtain ⟨b4, hb4⟩ : ∃ n, n = p.sigs.length := ⟨_, rfl⟩
 have P4 : Hid (SigsIn w w.heap.size (.slice A4 b4 a4) p.sigs) := Lib.hid (by rw [hb4]; exact h.sigs)
 rw [← hb4]
 clear hb4
 obtain ⟨A5, a5, rfl, -, -⟩ := h.routes.slice
 obtain ⟨b5, hb5⟩ : ∃ n, n = p.routes.length := ⟨_, rfl⟩
 have P5 : Hid (RoutesIn w w.heap.size (.slice A5 b5 a5) p.routes) := Lib.hid (by rw [hb5]; exact h.routes)
 rw [← hb5]
 clear hb5
 clear h
 obtain ⟨_, _, _, rfl, h'⟩ := h'
 obtain ⟨S0, Sc0, rfl, -, -⟩ := h'.tr.slice
 obtain ⟨Sn0, hS0⟩ : ∃ n, n = s.tr.length := ⟨_, rfl⟩
 have HS0 : Hid (TrksIn w w.heap.size (.slice S0 Sn0 Sc0) s.tr) := Lib.hid (by rw [hS0]; exact h'.tr)
 rw [← hS0]
 clear hS0
 obtain ⟨S1, Sc1, rfl, -, -⟩ := h'.sw.slice
 obtain ⟨Sn1, hS1⟩ : ∃ n, n = s.sw.length := ⟨_, rfl⟩
 have HS1 : Hid (SwisIn w w.heap.size (.slice S1 Sn1 Sc1) s.sw) := Lib.hid (by rw [hS1]; exact h'.sw)
 rw [← hS1]
 clear hS1
 obtain ⟨S2, Sc2, rfl, -, -⟩ := h'.lk.slice
 obtain ⟨Sn2, hS2⟩ : ∃ n, n = s.lk.length := ⟨_, rfl⟩
 have HS2 : Hid (LcksIn w w.heap.size (.slice S2 Sn2 Sc2) s.lk) := Lib.hid (by rw [hS2]; exact h'.lk)
 rw [← hS2]
 clear hS2
 clear h'
 have NO := Lib.hid (show eqW relT s.tr p.secs = false ∨ eqW relS s.sw p.pts = false ∨ eqW relL s.lk p.routes = false → partsB p s = false from fun h => partsB_no fun g => by obtain ⟨g1, g2, g3⟩ := (parts_eqW (fun _ _ => trivial)).1 g; rw [g1, g2, g3] at h; simp at h)
 have YES := Lib.hid (show eqW relT s.tr p.secs = true → eqW relS s.sw p.pts = true → eqW relL s.lk p.routes = true → partsB p s = true from fun h1 h2 h3 => partsB_yes ((parts_eqW (fun _ _ => trivial)).2 ⟨h1, h2, h3⟩))
 have hq := two_boxes w (.cells #[.int .i64 p.ver, .int .i64 p.par, .slice A2 b2 a2, .slice A3 b3 a3, .slice A4 b4 a4, .slice A5 b5 a5] 27) (.cells #[.slice S0 Sn0 Sc0, .slice S1 Sn1 Sc1, .slice S2 Sn2 Sc2] 32)
 go_enter Tryz.func49, Tryz.ntmps49
 go_upto_region 1 with fail
 generalize (w.alloc (.cells #[.int .i64 p.ver, .int .i64 p.par, .slice A2 b2 a2, .slice A3 b3 a3, .slice A4 b4 a4, .slice A5 b5 a5] 27)).alloc (.cells #[.slice S0 Sn0 Sc0, .slice S1 Sn1 Sc1, .slice S2 Sn2 Sc2] 32) = q at hq ⊢
 obtain ⟨q0, q1, qb⟩ := hq
 have X := Lib.hid q0
 have Y := Lib.hid q1
 have BQ := Lib.hid qb
 clear q0 q1 qb
 obtain ⟨k0, k1, k2, k3, k4, k5⟩ := cell6_of X.out
 obtain ⟨m0, m1, m2⟩ := cell3_of Y.out
 go_wp2_with fail
 refine (eqf_ts _ _ s.tr p.secs q ((HS0.out.below trkR BQ.out).more trkR BQ.out.size) ((P2.out.below secR_ BQ.out).more secR_ BQ.out.size)).mono ?_
 rintro e w1 ⟨rfl, b1⟩
 have X' := Lib.hid ((b1.block _ (heap_lt X.out)).trans X.out)
 have Y' := Lib.hid ((b1.block _ (heap_lt Y.out)).trans Y.out)
 have BQ' := Lib.hid (BQ.out.trans (b1.mono BQ.out.size))
 clear b1 k0 k1 k2 k3 k4 k5 m0 m1 m2 X Y BQ
 have X := X'
 have Y := Y'
 have BQ := BQ'
 clear X' Y' BQ'
 cases e0 : eqW relT s.tr p.secs with
 | false =>
  have HF := Lib.hid (NO.out (by left; exact e0))
  clear NO YES e0
  go_wp2_with fail
  go_ret
  exact ⟨by rw [HF.out]; rfl, BQ.out⟩
 | true =>
 have E0 := Lib.hid e0
 clear e0
 obtain ⟨k0, k1, k2, k3, k4, k5⟩ := cell6_of X.out
 obtain ⟨m0, m1, m2⟩ := cell3_of Y.out
 go_wp2_with fail
 refine (eqf_sp _ _ s.sw p.pts w1 ((HS1.out.below sigR BQ.out).more sigR BQ.out.size) ((P3.out.below joinR BQ.out).more joinR BQ.out.size)).mono ?_
 rintro e w2 ⟨rfl, b1⟩
 have X' := Lib.hid ((b1.block _ (heap_lt X.out)).trans X.out)
 have Y' := Lib.hid ((b1.block _ (heap_lt Y.out)).trans Y.out)
 have BQ' := Lib.hid (BQ.out.trans (b1.mono BQ.out.size))
 clear b1 k0 k1 k2 k3 k4 k5 m0 m1 m2 X Y BQ
 have X := X'
 have Y := Y'
 have BQ := BQ'
 clear X' Y' BQ'
 cases e1 : eqW relS s.sw p.pts with
 | false =>
  have HF := Lib.hid (NO.out (by right; left; exact e1))
  clear NO YES e1
  go_wp2_with fail
  go_ret
  exact ⟨by rw [HF.out]; rfl, BQ.out⟩
 | true =>
 have E1 := Lib.hid e1
 clear e1
 obtain ⟨k0, k1, k2, k3, k4, k5⟩ := cell6_of X.out
 obtain ⟨m0, m1, m2⟩ := cell3_of Y.out
 go_wp2_with fail
 refine (eqf_lr _ _ s.lk p.routes w2 ((HS2.out.below lckR BQ.out).more lckR BQ.out.size) ((P5.out.below routeR BQ.out).more routeR BQ.out.size)).mono ?_
 rintro e w3 ⟨rfl, b1⟩
 have X' := Lib.hid ((b1.block _ (heap_lt X.out)).trans X.out)
 have Y' := Lib.hid ((b1.block _ (heap_lt Y.out)).trans Y.out)
 have BQ' := Lib.hid (BQ.out.trans (b1.mono BQ.out.size))
 clear b1 k0 k1 k2 k3 k4 k5 m0 m1 m2 X Y BQ
 have X := X'
 have Y := Y'
 have BQ := BQ'
 clear X' Y' BQ'
 cases e2 : eqW relL s.lk p.routes with
 | false =>
  have HF := Lib.hid (NO.out (by right; right; exact e2))
  clear NO YES e2
  go_wp2_with fail
  go_ret
  exact ⟨by rw [HF.out]; rfl, BQ.out⟩
 | true =>
 have E2 := Lib.hid e2
 clear e2
 have HF := Lib.hid (YES.out E0.out E1.out E2.out)
 clear NO YES
 go_wp2_with fail
 go_ret
 exact ⟨by rw [HF.out]; rfl, BQ.out⟩
theorem st_eq15 {a b : St15} : a = b ↔ a.tr = b.tr ∧ a.sw = b.sw ∧ a.lk = b.lk := by cases a; cases b; simp
set_option maxHeartbeats 8000000 in
theorem same15_any (v y : Value) (a b : St15) (w : World) (h : StateV w w.heap.size v a) (h' : StateV w w.heap.size y b) :
  Calls Tryz.prog 20 #[v, y] w fun e w' => e = .returned (.bool (eqB a b)) ∧ Below w.heap.size w w' := by
 obtain ⟨_, _, _, rfl, h⟩ := h
 obtain ⟨R0, Rc0, rfl, -, -⟩ := h.tr.slice
 obtain ⟨Rn0, hR0⟩ : ∃ n, n = a.tr.length := ⟨_, rfl⟩
 have HR0 : Hid (TrksIn w w.heap.size (.slice R0 Rn0 Rc0) a.tr) := Lib.hid (by rw [hR0]; exact h.tr)
 rw [← hR0]
 clear hR0
 obtain ⟨R1, Rc1, rfl, -, -⟩ := h.sw.slice
 obtain ⟨Rn1, hR1⟩ : ∃ n, n = a.sw.length := ⟨_, rfl⟩
 have HR1 : Hid (SwisIn w w.heap.size (.slice R1 Rn1 Rc1) a.sw) := Lib.hid (by rw [hR1]; exact h.sw)
 rw [← hR1]
 clear hR1
 obtain ⟨R2, Rc2, rfl, -, -⟩ := h.lk.slice
 obtain ⟨Rn2, hR2⟩ : ∃ n, n = a.lk.length := ⟨_, rfl⟩
 have HR2 : Hid (LcksIn w w.heap.size (.slice R2 Rn2 Rc2) a.lk) := Lib.hid (by rw [hR2]; exact h.lk)
 rw [← hR2]
 clear hR2
 clear h
 obtain ⟨_, _, _, rfl, h'⟩ := h'
 obtain ⟨S0, Sc0, rfl, -, -⟩ := h'.tr.slice
 obtain ⟨Sn0, hS0⟩ : ∃ n, n = b.tr.length := ⟨_, rfl⟩
 have HS0 : Hid (TrksIn w w.heap.size (.slice S0 Sn0 Sc0) b.tr) := Lib.hid (by rw [hS0]; exact h'.tr)
 rw [← hS0]
 clear hS0
 obtain ⟨S1, Sc1, rfl, -, -⟩ := h'.sw.slice
 obtain ⟨Sn1, hS1⟩ : ∃ n, n = b.sw.length := ⟨_, rfl⟩
 have HS1 : Hid (SwisIn w w.heap.size (.slice S1 Sn1 Sc1) b.sw) := Lib.hid (by rw [hS1]; exact h'.sw)
 rw [← hS1]
 clear hS1
 obtain ⟨S2, Sc2, rfl, -, -⟩ := h'.lk.slice
 obtain ⟨Sn2, hS2⟩ : ∃ n, n = b.lk.length := ⟨_, rfl⟩
 have HS2 : Hid (LcksIn w w.heap.size (.slice S2 Sn2 Sc2) b.lk) := Lib.hid (by rw [hS2]; exact h'.lk)
 rw [← hS2]
 clear hS2
 clear h'
 have NO := Lib.hid (show eqB a.tr b.tr = false ∨ eqB a.sw b.sw = false ∨ eqB a.lk b.lk = false → eqB a b = false from fun h => eqB_false fun g => by subst g; simp [eqB_true] at h)
 have YES := Lib.hid (show eqB a.tr b.tr = true → eqB a.sw b.sw = true → eqB a.lk b.lk = true → eqB a b = true from fun h1 h2 h3 => eqB_true (st_eq15.2 ⟨eqB_iff.1 h1, eqB_iff.1 h2, eqB_iff.1 h3⟩))
 have hq := two_boxes w (.cells #[.slice R0 Rn0 Rc0, .slice R1 Rn1 Rc1, .slice R2 Rn2 Rc2] 32) (.cells #[.slice S0 Sn0 Sc0, .slice S1 Sn1 Sc1, .slice S2 Sn2 Sc2] 32)
 go_enter Tryz.func20, Tryz.ntmps20
 go_upto_region 1 with fail
 generalize (w.alloc (.cells #[.slice R0 Rn0 Rc0, .slice R1 Rn1 Rc1, .slice R2 Rn2 Rc2] 32)).alloc (.cells #[.slice S0 Sn0 Sc0, .slice S1 Sn1 Sc1, .slice S2 Sn2 Sc2] 32) = q at hq ⊢
 obtain ⟨q0, q1, qb⟩ := hq
 have X := Lib.hid q0
 have Y := Lib.hid q1
 have BQ := Lib.hid qb
 clear q0 q1 qb
 obtain ⟨k0, k1, k2⟩ := cell3_of X.out
 obtain ⟨m0, m1, m2⟩ := cell3_of Y.out
 go_wp2_with fail
 refine (equal_trk _ _ a.tr b.tr q ((HR0.out.below trkR BQ.out).more trkR BQ.out.size) ((HS0.out.below trkR BQ.out).more trkR BQ.out.size)).mono ?_
 rintro e w1 ⟨rfl, b1⟩
 have X' := Lib.hid ((b1.block _ (heap_lt X.out)).trans X.out)
 have Y' := Lib.hid ((b1.block _ (heap_lt Y.out)).trans Y.out)
 have BQ' := Lib.hid (BQ.out.trans (b1.mono BQ.out.size))
 clear b1 k0 k1 k2 m0 m1 m2 X Y BQ
 have X := X'
 have Y := Y'
 have BQ := BQ'
 clear X' Y' BQ'
 cases e0 : eqB a.tr b.tr with
 | false =>
  have HF := Lib.hid (NO.out (by left; exact e0))
  clear NO YES e0
  go_wp2_with fail
  go_ret
  exact ⟨by rw [HF.out]; rfl, BQ.out⟩
 | true =>
 have E0 := Lib.hid e0
 clear e0
 obtain ⟨k0, k1, k2⟩ := cell3_of X.out
 obtain ⟨m0, m1, m2⟩ := cell3_of Y.out
 go_wp2_with fail
 refine (equal_swi _ _ a.sw b.sw w1 ((HR1.out.below sigR BQ.out).more sigR BQ.out.size) ((HS1.out.below sigR BQ.out).more sigR BQ.out.size)).mono ?_
 rintro e w2 ⟨rfl, b1⟩
 have X' := Lib.hid ((b1.block _ (heap_lt X.out)).trans X.out)
 have Y' := Lib.hid ((b1.block _ (heap_lt Y.out)).trans Y.out)
 have BQ' := Lib.hid (BQ.out.trans (b1.mono BQ.out.size))
 clear b1 k0 k1 k2 m0 m1 m2 X Y BQ
 have X := X'
 have Y := Y'
 have BQ := BQ'
 clear X' Y' BQ'
 cases e1 : eqB a.sw b.sw with
 | false =>
  have HF := Lib.hid (NO.out (by right; left; exact e1))
  clear NO YES e1
  go_wp2_with fail
  go_ret
  exact ⟨by rw [HF.out]; rfl, BQ.out⟩
 | true =>
 have E1 := Lib.hid e1
 clear e1
 obtain ⟨k0, k1, k2⟩ := cell3_of X.out
 obtain ⟨m0, m1, m2⟩ := cell3_of Y.out
 go_wp2_with fail
 refine (equal_lck _ _ a.lk b.lk w2 ((HR2.out.below lckR BQ.out).more lckR BQ.out.size) ((HS2.out.below lckR BQ.out).more lckR BQ.out.size)).mono ?_
 rintro e w3 ⟨rfl, b1⟩
 have X' := Lib.hid ((b1.block _ (heap_lt X.out)).trans X.out)
 have Y' := Lib.hid ((b1.block _ (heap_lt Y.out)).trans Y.out)
 have BQ' := Lib.hid (BQ.out.trans (b1.mono BQ.out.size))
 clear b1 k0 k1 k2 m0 m1 m2 X Y BQ
 have X := X'
 have Y := Y'
 have BQ := BQ'
 clear X' Y' BQ'
 cases e2 : eqB a.lk b.lk with
 | false =>
  have HF := Lib.hid (NO.out (by right; right; exact e2))
  clear NO YES e2
  go_wp2_with fail
  go_ret
  exact ⟨by rw [HF.out]; rfl, BQ.out⟩
 | true =>
 have E2 := Lib.hid e2
 clear e2
 have HF := Lib.hid (YES.out E0.out E1.out E2.out)
 clear NO YES
 go_wp2_with fail
 go_ret
 exact ⟨by rw [HF.out]; rfl, BQ.out⟩
theorem map_eqW {α β γ : Type} [DecidableEq γ] {f : α → γ} {g : β → γ} {rel : α → β → Bool} (hr : ∀ x y, rel x y = true ↔ f x = g y) (l : List α) (m : List β) : eqW rel l m = true ↔ l.map f = m.map g := by
 rw [eqW_iff]
 constructor
 ·rintro ⟨h1, h2⟩
  refine List.ext_getElem (by simp [h1]) fun i h3 h4 => ?_
  rw [List.getElem_map, List.getElem_map]
  exact (hr _ _).1 (h2 i (by simpa using h3) (by simpa using h4))
 ·intro h
  have hl : l.length = m.length := by simpa using congrArg List.length h
  refine ⟨hl, fun i h1 h2 => (hr _ _).2 ?_⟩
  have : (l.map f)[i]'(by simpa using h1) = (m.map g)[i]'(by simpa using h2) := by simp only [h]
  simpa using this
theorem kept_eqW (a b : St15) : keptS a = keptS b ↔ eqW relKS a.sw b.sw = true ∧ eqW relKL a.lk b.lk = true := by
 rw [map_eqW (f := fun x : Swi => (x.1, x.2.2)) (g := fun x : Swi => (x.1, x.2.2)) (fun x y => by simp [relKS]), map_eqW (f := fun x : Lck => (x.1, x.2.1, x.2.2.1)) (g := fun x : Lck => (x.1, x.2.1, x.2.2.1)) (fun x y => by simp [relKL, and_assoc])]
 unfold keptS
 exact Prod.ext_iff
set_option maxHeartbeats 8000000 in
theorem kept15_any (v y : Value) (a b : St15) (w : World) (h : StateV w w.heap.size v a) (h' : StateV w w.heap.size y b) :
  Calls Tryz.prog 21 #[v, y] w fun e w' => e = .returned (.bool (eqB (keptS a) (keptS b))) ∧ Below w.heap.size w w' := by
 obtain ⟨_, _, _, rfl, h⟩ := h
 obtain ⟨R0, Rc0, rfl, -, -⟩ := h.tr.slice
 obtain ⟨Rn0, hR0⟩ : ∃ n, n = a.tr.length := ⟨_, rfl⟩
 have HR0 : Hid (TrksIn w w.heap.size (.slice R0 Rn0 Rc0) a.tr) := Lib.hid (by rw [hR0]; exact h.tr)
 rw [← hR0]
 clear hR0
 obtain ⟨R1, Rc1, rfl, -, -⟩ := h.sw.slice
 obtain ⟨Rn1, hR1⟩ : ∃ n, n = a.sw.length := ⟨_, rfl⟩
 have HR1 : Hid (SwisIn w w.heap.size (.slice R1 Rn1 Rc1) a.sw) := Lib.hid (by rw [hR1]; exact h.sw)
 rw [← hR1]
 clear hR1
 obtain ⟨R2, Rc2, rfl, -, -⟩ := h.lk.slice
 obtain ⟨Rn2, hR2⟩ : ∃ n, n = a.lk.length := ⟨_, rfl⟩
 have HR2 : Hid (LcksIn w w.heap.size (.slice R2 Rn2 Rc2) a.lk) := Lib.hid (by rw [hR2]; exact h.lk)
 rw [← hR2]
 clear hR2
 clear h
 obtain ⟨_, _, _, rfl, h'⟩ := h'
 obtain ⟨S0, Sc0, rfl, -, -⟩ := h'.tr.slice
 obtain ⟨Sn0, hS0⟩ : ∃ n, n = b.tr.length := ⟨_, rfl⟩
 have HS0 : Hid (TrksIn w w.heap.size (.slice S0 Sn0 Sc0) b.tr) := Lib.hid (by rw [hS0]; exact h'.tr)
 rw [← hS0]
 clear hS0
 obtain ⟨S1, Sc1, rfl, -, -⟩ := h'.sw.slice
 obtain ⟨Sn1, hS1⟩ : ∃ n, n = b.sw.length := ⟨_, rfl⟩
 have HS1 : Hid (SwisIn w w.heap.size (.slice S1 Sn1 Sc1) b.sw) := Lib.hid (by rw [hS1]; exact h'.sw)
 rw [← hS1]
 clear hS1
 obtain ⟨S2, Sc2, rfl, -, -⟩ := h'.lk.slice
 obtain ⟨Sn2, hS2⟩ : ∃ n, n = b.lk.length := ⟨_, rfl⟩
 have HS2 : Hid (LcksIn w w.heap.size (.slice S2 Sn2 Sc2) b.lk) := Lib.hid (by rw [hS2]; exact h'.lk)
 rw [← hS2]
 clear hS2
 clear h'
 have NO := Lib.hid (show eqW relKS a.sw b.sw = false ∨ eqW relKL a.lk b.lk = false → eqB (keptS a) (keptS b) = false from fun h => eqB_false fun g => by obtain ⟨g1, g2⟩ := (kept_eqW a b).1 g; rw [g1, g2] at h; simp at h)
 have YES := Lib.hid (show eqW relKS a.sw b.sw = true → eqW relKL a.lk b.lk = true → eqB (keptS a) (keptS b) = true from fun h1 h2 => eqB_true ((kept_eqW a b).2 ⟨h1, h2⟩))
 have hq := two_boxes w (.cells #[.slice R0 Rn0 Rc0, .slice R1 Rn1 Rc1, .slice R2 Rn2 Rc2] 32) (.cells #[.slice S0 Sn0 Sc0, .slice S1 Sn1 Sc1, .slice S2 Sn2 Sc2] 32)
 go_enter Tryz.func21, Tryz.ntmps21
 go_upto_region 1 with fail
 generalize (w.alloc (.cells #[.slice R0 Rn0 Rc0, .slice R1 Rn1 Rc1, .slice R2 Rn2 Rc2] 32)).alloc (.cells #[.slice S0 Sn0 Sc0, .slice S1 Sn1 Sc1, .slice S2 Sn2 Sc2] 32) = q at hq ⊢
 obtain ⟨q0, q1, qb⟩ := hq
 have X := Lib.hid q0
 have Y := Lib.hid q1
 have BQ := Lib.hid qb
 clear q0 q1 qb
 obtain ⟨k0, k1, k2⟩ := cell3_of X.out
 obtain ⟨m0, m1, m2⟩ := cell3_of Y.out
 go_wp2_with fail
 refine (eqf_ks _ _ a.sw b.sw q ((HR1.out.below sigR BQ.out).more sigR BQ.out.size) ((HS1.out.below sigR BQ.out).more sigR BQ.out.size)).mono ?_
 rintro e w1 ⟨rfl, b1⟩
 have X' := Lib.hid ((b1.block _ (heap_lt X.out)).trans X.out)
 have Y' := Lib.hid ((b1.block _ (heap_lt Y.out)).trans Y.out)
 have BQ' := Lib.hid (BQ.out.trans (b1.mono BQ.out.size))
 clear b1 k0 k1 k2 m0 m1 m2 X Y BQ
 have X := X'
 have Y := Y'
 have BQ := BQ'
 clear X' Y' BQ'
 cases e0 : eqW relKS a.sw b.sw with
 | false =>
  have HF := Lib.hid (NO.out (by left; exact e0))
  clear NO YES e0
  go_wp2_with fail
  go_ret
  exact ⟨by rw [HF.out]; rfl, BQ.out⟩
 | true =>
 have E0 := Lib.hid e0
 clear e0
 obtain ⟨k0, k1, k2⟩ := cell3_of X.out
 obtain ⟨m0, m1, m2⟩ := cell3_of Y.out
 go_wp2_with fail
 refine (eqf_kl _ _ a.lk b.lk w1 ((HR2.out.below lckR BQ.out).more lckR BQ.out.size) ((HS2.out.below lckR BQ.out).more lckR BQ.out.size)).mono ?_
 rintro e w2 ⟨rfl, b1⟩
 have X' := Lib.hid ((b1.block _ (heap_lt X.out)).trans X.out)
 have Y' := Lib.hid ((b1.block _ (heap_lt Y.out)).trans Y.out)
 have BQ' := Lib.hid (BQ.out.trans (b1.mono BQ.out.size))
 clear b1 k0 k1 k2 m0 m1 m2 X Y BQ
 have X := X'
 have Y := Y'
 have BQ := BQ'
 clear X' Y' BQ'
 cases e1 : eqW relKL a.lk b.lk with
 | false =>
  have HF := Lib.hid (NO.out (by right; exact e1))
  clear NO YES e1
  go_wp2_with fail
  go_ret
  exact ⟨by rw [HF.out]; rfl, BQ.out⟩
 | true =>
 have E1 := Lib.hid e1
 clear e1
 have HF := Lib.hid (YES.out E0.out E1.out)
 clear NO YES
 go_wp2_with fail
 go_ret
 exact ⟨by rw [HF.out]; rfl, BQ.out⟩
end Go.Proofs.YtemmgmjhomgbbaaGreat
