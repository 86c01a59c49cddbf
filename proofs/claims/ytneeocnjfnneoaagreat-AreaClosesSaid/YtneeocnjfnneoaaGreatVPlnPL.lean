/-
 The program's package plan: lists, sections, routes and plans compared.
 Conditions: none.
-/
import Derived.Test.YtneeocnjfnneoaaGreatVPlnPD
import Derived.Test.YtneeocnjfnneoaaGreatVGPlnRefD
set_option linter.unusedVariables false
set_option linter.unusedSimpArgs false
set_option maxRecDepth 100000
namespace Go.Proofs.YtneeocnjfnneoaaGreat
open Go.RowKit

set_option maxHeartbeats 4000000 in
theorem equal_int (v y : Value) (l m : List Int) (w : World) (h : IntsIn w w.heap.size v l) (h' : IntsIn w w.heap.size y m) :
  Calls Tryz.prog 35 #[v, y] w fun e w' => e = .returned (.bool (eqB l m)) ∧ Below w.heap.size w w' := by
 have H := Lib.hid h
 have H' := Lib.hid h'
 obtain ⟨A, c, rfl, hcl, hcm⟩ := h.slice
 obtain ⟨A', c', rfl, hcl', hcm'⟩ := h'.slice
 have hml : l.length ≤ 9223372036854775807 := by unfold maxLen at hcm; omega
 obtain ⟨n, hn⟩ : ∃ n, n = l.length := ⟨_, rfl⟩
 obtain ⟨n', hn'⟩ : ∃ n', n' = m.length := ⟨_, rfl⟩
 have HN := Lib.hid hn
 have HN' := Lib.hid hn'
 have HA := Lib.hid (show IntsIn w w.heap.size (.slice A n c) l by rw [hn]; exact H.out)
 have HA' := Lib.hid (show IntsIn w w.heap.size (.slice A' n' c') m by rw [hn']; exact H'.out)
 have hml' : n' ≤ 9223372036854775807 := by unfold maxLen at hcm'; omega
 rw [← hn] at hml ⊢
 rw [← hn']
 clear hn hn' H H' hcl hcm hcl' hcm' h h'
 go_enter Tryz.func35, Tryz.ntmps35
 by_cases hnn : n = n'
 ·subst hnn
  go_wp2_with fail
  go_loopw [13] (fun s13 wr => ∃ i : Nat, i ≤ n ∧ s13 = .int .i64 i ∧ (∀ j (hj : j < i) (hl : j < l.length) (hm : j < m.length), l[j] = m[j]) ∧ Below w.heap.size w wr) (fun s13 _ => n - (intOf s13).toNat)
  case atStart => exact ⟨0, by omega, by go_num, fun j hj => absurd hj (by omega), Below.refl _ _⟩
  case round =>
   obtain ⟨i, hi, rfl, hall, hbw⟩ := hrel
   have HALL := Lib.hid hall
   have BW := Lib.hid hbw
   clear hall hbw
   by_cases hlt : i < n
   ·have hlt' : (i : Int) < n := by omega
    have hir : i < l.length := by rw [← HN.out]; exact hlt
    have him : i < m.length := by rw [← HN'.out]; exact hlt
    obtain ⟨b, off, rfl, hb, hc0⟩ := ((HA.out.below intR BW.out).more intR BW.out.size).at hir
    obtain ⟨b', off', rfl, hb', hc0'⟩ := ((HA'.out.below intR BW.out).more intR BW.out.size).at him
    obtain ⟨x, hx⟩ : ∃ z, z = l[i] := ⟨_, rfl⟩
    obtain ⟨y, hy⟩ : ∃ z, z = m[i] := ⟨_, rfl⟩
    have hg0 : wr.cell? ⟨b, off + i, none⟩ = some (.int .i64 x) := by rw [hx]; simpa [IntR] using hc0
    have hh0 : wr.cell? ⟨b', off' + i, none⟩ = some (.int .i64 y) := by rw [hy]; simpa [IntR] using hc0'
    have HX := Lib.hid hx
    have HY := Lib.hid hy
    clear hc0 hc0' hx hy hb hb'
    have BD : Hid (∀ nq, Below w.heap.size w (wr.drewN nq)) := Lib.hid (fun nq => ⟨BW.out.os, BW.out.tape, BW.out.output, BW.out.size, BW.out.block⟩)
    go_upto_region 6 with fail
    by_cases he : x = y
    ·have hcmp : (x != y) = false := by simpa using he
     have NX : Hid (∀ j (hj : j < i + 1) (hl : j < l.length) (hm : j < m.length), l[j] = m[j]) := Lib.hid (fun j hj h1 h2 => by
      rcases Nat.lt_or_ge j i with h | h
      ·exact HALL.out j h h1 h2
      ·obtain rfl : j = i := by omega
       rw [← HX.out, ← HY.out]; exact he)
     clear he
     go_quiet (fail)
     have hdb := BD.out nq
     generalize wr.drewN nq = q7 at hdb ⊢
     have B7 := Lib.hid hdb
     clear hdb BD hcmp hg0 hh0
     go_wp2_with fail
     go_roundw
     case measure => simp [intOf]; omega
     case rel => exact ⟨i + 1, by omega, by go_num, NX.out, B7.out⟩
    ·have hcmp : (x != y) = true := by simpa using he
     have HF : Hid (eqB l m = false) := Lib.hid (eqB_false fun h => he (by rw [HX.out, HY.out]; exact getElem_congr' h))
     clear he
     go_quiet (fail)
     have hdb := BD.out nq
     generalize wr.drewN nq = q7 at hdb ⊢
     have B7 := Lib.hid hdb
     clear hdb BD hcmp hg0 hh0
     go_wp2_with fail
     go_ret
     exact ⟨by rw [HF.out]; rfl, B7.out⟩
   ·obtain rfl : i = n := by omega
    have hlt' : ¬ (i : Int) < i := by omega
    have HF : Hid (eqB l m = true) := Lib.hid (eqB_true (list_ext (by rw [← HN.out, ← HN'.out]) fun j h1 h2 => HALL.out j (by rw [HN.out]; exact h1) h1 h2))
    go_wp2_with fail
    go_ret
    exact ⟨by rw [HF.out]; rfl, BW.out⟩
 ·have hnn' : ((n : Int) != n') = true := by simpa using (show ¬ (n : Int) = n' by omega)
  have HF : Hid (eqB l m = false) := Lib.hid (eqB_false fun h => hnn (by rw [HN.out, HN'.out, h]))
  clear hnn
  go_wp2_with fail
  go_ret
  exact ⟨by rw [HF.out]; rfl, Below.refl _ _⟩
set_option maxHeartbeats 4000000 in
theorem equal_jn (v y : Value) (l m : List Jn) (w : World) (h : JoinsIn w w.heap.size v l) (h' : JoinsIn w w.heap.size y m) :
  Calls Tryz.prog 166 #[v, y] w fun e w' => e = .returned (.bool (eqB l m)) ∧ Below w.heap.size w w' := by
 have H := Lib.hid h
 have H' := Lib.hid h'
 obtain ⟨A, c, rfl, hcl, hcm⟩ := h.slice
 obtain ⟨A', c', rfl, hcl', hcm'⟩ := h'.slice
 have hml : l.length ≤ 9223372036854775807 := by unfold maxLen at hcm; omega
 obtain ⟨n, hn⟩ : ∃ n, n = l.length := ⟨_, rfl⟩
 obtain ⟨n', hn'⟩ : ∃ n', n' = m.length := ⟨_, rfl⟩
 have HN := Lib.hid hn
 have HN' := Lib.hid hn'
 have HA := Lib.hid (show JoinsIn w w.heap.size (.slice A n c) l by rw [hn]; exact H.out)
 have HA' := Lib.hid (show JoinsIn w w.heap.size (.slice A' n' c') m by rw [hn']; exact H'.out)
 have hml' : n' ≤ 9223372036854775807 := by unfold maxLen at hcm'; omega
 rw [← hn] at hml ⊢
 rw [← hn']
 clear hn hn' H H' hcl hcm hcl' hcm' h h'
 go_enter Tryz.func166, Tryz.ntmps166
 by_cases hnn : n = n'
 ·subst hnn
  go_wp2_with fail
  go_loopw [13] (fun s13 wr => ∃ i : Nat, i ≤ n ∧ s13 = .int .i64 i ∧ (∀ j (hj : j < i) (hl : j < l.length) (hm : j < m.length), l[j] = m[j]) ∧ Below w.heap.size w wr) (fun s13 _ => n - (intOf s13).toNat)
  case atStart => exact ⟨0, by omega, by go_num, fun j hj => absurd hj (by omega), Below.refl _ _⟩
  case round =>
   obtain ⟨i, hi, rfl, hall, hbw⟩ := hrel
   have HALL := Lib.hid hall
   have BW := Lib.hid hbw
   clear hall hbw
   by_cases hlt : i < n
   ·have hlt' : (i : Int) < n := by omega
    have hir : i < l.length := by rw [← HN.out]; exact hlt
    have him : i < m.length := by rw [← HN'.out]; exact hlt
    obtain ⟨b, off, rfl, hb, hc0, hc1⟩ := ((HA.out.below joinR BW.out).more joinR BW.out.size).at hir
    obtain ⟨b', off', rfl, hb', hd0, hd1⟩ := ((HA'.out.below joinR BW.out).more joinR BW.out.size).at him
    obtain ⟨x, hx⟩ : ∃ z, z = l[i] := ⟨_, rfl⟩
    obtain ⟨y, hy⟩ : ∃ z, z = m[i] := ⟨_, rfl⟩
    rw [← hx] at hc0 hc1
    rw [← hy] at hd0 hd1
    have hg0 : wr.cell? ⟨b, off + i * 2, none⟩ = some (.int .i64 x.1) := hc0
    have hh0 : wr.cell? ⟨b', off' + i * 2, none⟩ = some (.int .i64 y.1) := hd0
    have hg1 : wr.cell? ⟨b, off + i * 2 + 1, none⟩ = some (.int .i64 x.2) := hc1
    have hh1 : wr.cell? ⟨b', off' + i * 2 + 1, none⟩ = some (.int .i64 y.2) := hd1
    have HX := Lib.hid hx
    have HY := Lib.hid hy
    clear hc0 hc1 hd0 hd1 hx hy hb hb'
    have BD : Hid (∀ nq, Below w.heap.size w (wr.drewN nq)) := Lib.hid (fun nq => ⟨BW.out.os, BW.out.tape, BW.out.output, BW.out.size, BW.out.block⟩)
    go_upto_region 6 with fail
    by_cases he : x = y
    ·have hcmp : ∀ w' : World, (Op.equalIn 10000 85 (.agg #[.int .i64 x.1, .int .i64 x.2]) (.agg #[.int .i64 y.1, .int .i64 y.2])).run Tryz.prog w' = .ok true w' := eqJoin_eq he
     have NX : Hid (∀ j (hj : j < i + 1) (hl : j < l.length) (hm : j < m.length), l[j] = m[j]) := Lib.hid (fun j hj h1 h2 => by
      rcases Nat.lt_or_ge j i with h | h
      ·exact HALL.out j h h1 h2
      ·obtain rfl : j = i := by omega
       rw [← HX.out, ← HY.out]; exact he)
     clear he
     go_quiet (fail)
     have hdb := BD.out nq
     generalize wr.drewN nq = q7 at hdb ⊢
     have B7 := Lib.hid hdb
     clear hdb BD hcmp hg0 hh0 hg1 hh1
     go_wp2_with fail
     go_roundw
     case measure => simp [intOf]; omega
     case rel => exact ⟨i + 1, by omega, by go_num, NX.out, B7.out⟩
    ·have hcmp : ∀ w' : World, (Op.equalIn 10000 85 (.agg #[.int .i64 x.1, .int .i64 x.2]) (.agg #[.int .i64 y.1, .int .i64 y.2])).run Tryz.prog w' = .ok false w' := eqJoin_ne he
     have HF : Hid (eqB l m = false) := Lib.hid (eqB_false fun h => he (by rw [HX.out, HY.out]; exact getElem_congr' h))
     clear he
     go_quiet (fail)
     have hdb := BD.out nq
     generalize wr.drewN nq = q7 at hdb ⊢
     have B7 := Lib.hid hdb
     clear hdb BD hcmp hg0 hh0 hg1 hh1
     go_wp2_with fail
     go_ret
     exact ⟨by rw [HF.out]; rfl, B7.out⟩
   ·obtain rfl : i = n := by omega
    have hlt' : ¬ (i : Int) < i := by omega
    have HF : Hid (eqB l m = true) := Lib.hid (eqB_true (list_ext (by rw [← HN.out, ← HN'.out]) fun j h1 h2 => HALL.out j (by rw [HN.out]; exact h1) h1 h2))
    go_wp2_with fail
    go_ret
    exact ⟨by rw [HF.out]; rfl, BW.out⟩
 ·have hnn' : ((n : Int) != n') = true := by simpa using (show ¬ (n : Int) = n' by omega)
  have HF : Hid (eqB l m = false) := Lib.hid (eqB_false fun h => hnn (by rw [HN.out, HN'.out, h]))
  clear hnn
  go_wp2_with fail
  go_ret
  exact ⟨by rw [HF.out]; rfl, Below.refl _ _⟩
set_option maxHeartbeats 4000000 in
theorem equal_fl (v y : Value) (l m : List Jn) (w : World) (h : JoinsIn w w.heap.size v l) (h' : JoinsIn w w.heap.size y m) :
  Calls Tryz.prog 167 #[v, y] w fun e w' => e = .returned (.bool (eqB l m)) ∧ Below w.heap.size w w' := by
 have H := Lib.hid h
 have H' := Lib.hid h'
 obtain ⟨A, c, rfl, hcl, hcm⟩ := h.slice
 obtain ⟨A', c', rfl, hcl', hcm'⟩ := h'.slice
 have hml : l.length ≤ 9223372036854775807 := by unfold maxLen at hcm; omega
 obtain ⟨n, hn⟩ : ∃ n, n = l.length := ⟨_, rfl⟩
 obtain ⟨n', hn'⟩ : ∃ n', n' = m.length := ⟨_, rfl⟩
 have HN := Lib.hid hn
 have HN' := Lib.hid hn'
 have HA := Lib.hid (show JoinsIn w w.heap.size (.slice A n c) l by rw [hn]; exact H.out)
 have HA' := Lib.hid (show JoinsIn w w.heap.size (.slice A' n' c') m by rw [hn']; exact H'.out)
 have hml' : n' ≤ 9223372036854775807 := by unfold maxLen at hcm'; omega
 rw [← hn] at hml ⊢
 rw [← hn']
 clear hn hn' H H' hcl hcm hcl' hcm' h h'
 go_enter Tryz.func167, Tryz.ntmps167
 by_cases hnn : n = n'
 ·subst hnn
  go_wp2_with fail
  go_loopw [13] (fun s13 wr => ∃ i : Nat, i ≤ n ∧ s13 = .int .i64 i ∧ (∀ j (hj : j < i) (hl : j < l.length) (hm : j < m.length), l[j] = m[j]) ∧ Below w.heap.size w wr) (fun s13 _ => n - (intOf s13).toNat)
  case atStart => exact ⟨0, by omega, by go_num, fun j hj => absurd hj (by omega), Below.refl _ _⟩
  case round =>
   obtain ⟨i, hi, rfl, hall, hbw⟩ := hrel
   have HALL := Lib.hid hall
   have BW := Lib.hid hbw
   clear hall hbw
   by_cases hlt : i < n
   ·have hlt' : (i : Int) < n := by omega
    have hir : i < l.length := by rw [← HN.out]; exact hlt
    have him : i < m.length := by rw [← HN'.out]; exact hlt
    obtain ⟨b, off, rfl, hb, hc0, hc1⟩ := ((HA.out.below joinR BW.out).more joinR BW.out.size).at hir
    obtain ⟨b', off', rfl, hb', hd0, hd1⟩ := ((HA'.out.below joinR BW.out).more joinR BW.out.size).at him
    obtain ⟨x, hx⟩ : ∃ z, z = l[i] := ⟨_, rfl⟩
    obtain ⟨y, hy⟩ : ∃ z, z = m[i] := ⟨_, rfl⟩
    rw [← hx] at hc0 hc1
    rw [← hy] at hd0 hd1
    have hg0 : wr.cell? ⟨b, off + i * 2, none⟩ = some (.int .i64 x.1) := hc0
    have hh0 : wr.cell? ⟨b', off' + i * 2, none⟩ = some (.int .i64 y.1) := hd0
    have hg1 : wr.cell? ⟨b, off + i * 2 + 1, none⟩ = some (.int .i64 x.2) := hc1
    have hh1 : wr.cell? ⟨b', off' + i * 2 + 1, none⟩ = some (.int .i64 y.2) := hd1
    have HX := Lib.hid hx
    have HY := Lib.hid hy
    clear hc0 hc1 hd0 hd1 hx hy hb hb'
    have BD : Hid (∀ nq, Below w.heap.size w (wr.drewN nq)) := Lib.hid (fun nq => ⟨BW.out.os, BW.out.tape, BW.out.output, BW.out.size, BW.out.block⟩)
    go_upto_region 6 with fail
    by_cases he : x = y
    ·have hcmp : ∀ w' : World, (Op.equalIn 10000 64 (.agg #[.int .i64 x.1, .int .i64 x.2]) (.agg #[.int .i64 y.1, .int .i64 y.2])).run Tryz.prog w' = .ok true w' := eqFlank_eq he
     have NX : Hid (∀ j (hj : j < i + 1) (hl : j < l.length) (hm : j < m.length), l[j] = m[j]) := Lib.hid (fun j hj h1 h2 => by
      rcases Nat.lt_or_ge j i with h | h
      ·exact HALL.out j h h1 h2
      ·obtain rfl : j = i := by omega
       rw [← HX.out, ← HY.out]; exact he)
     clear he
     go_quiet (fail)
     have hdb := BD.out nq
     generalize wr.drewN nq = q7 at hdb ⊢
     have B7 := Lib.hid hdb
     clear hdb BD hcmp hg0 hh0 hg1 hh1
     go_wp2_with fail
     go_roundw
     case measure => simp [intOf]; omega
     case rel => exact ⟨i + 1, by omega, by go_num, NX.out, B7.out⟩
    ·have hcmp : ∀ w' : World, (Op.equalIn 10000 64 (.agg #[.int .i64 x.1, .int .i64 x.2]) (.agg #[.int .i64 y.1, .int .i64 y.2])).run Tryz.prog w' = .ok false w' := eqFlank_ne he
     have HF : Hid (eqB l m = false) := Lib.hid (eqB_false fun h => he (by rw [HX.out, HY.out]; exact getElem_congr' h))
     clear he
     go_quiet (fail)
     have hdb := BD.out nq
     generalize wr.drewN nq = q7 at hdb ⊢
     have B7 := Lib.hid hdb
     clear hdb BD hcmp hg0 hh0 hg1 hh1
     go_wp2_with fail
     go_ret
     exact ⟨by rw [HF.out]; rfl, B7.out⟩
   ·obtain rfl : i = n := by omega
    have hlt' : ¬ (i : Int) < i := by omega
    have HF : Hid (eqB l m = true) := Lib.hid (eqB_true (list_ext (by rw [← HN.out, ← HN'.out]) fun j h1 h2 => HALL.out j (by rw [HN.out]; exact h1) h1 h2))
    go_wp2_with fail
    go_ret
    exact ⟨by rw [HF.out]; rfl, BW.out⟩
 ·have hnn' : ((n : Int) != n') = true := by simpa using (show ¬ (n : Int) = n' by omega)
  have HF : Hid (eqB l m = false) := Lib.hid (eqB_false fun h => hnn (by rw [HN.out, HN'.out, h]))
  clear hnn
  go_wp2_with fail
  go_ret
  exact ⟨by rw [HF.out]; rfl, Below.refl _ _⟩
set_option maxHeartbeats 4000000 in
theorem equal_pt (v y : Value) (l m : List Jn) (w : World) (h : JoinsIn w w.heap.size v l) (h' : JoinsIn w w.heap.size y m) :
  Calls Tryz.prog 154 #[v, y] w fun e w' => e = .returned (.bool (eqB l m)) ∧ Below w.heap.size w w' := by
 have H := Lib.hid h
 have H' := Lib.hid h'
 obtain ⟨A, c, rfl, hcl, hcm⟩ := h.slice
 obtain ⟨A', c', rfl, hcl', hcm'⟩ := h'.slice
 have hml : l.length ≤ 9223372036854775807 := by unfold maxLen at hcm; omega
 obtain ⟨n, hn⟩ : ∃ n, n = l.length := ⟨_, rfl⟩
 obtain ⟨n', hn'⟩ : ∃ n', n' = m.length := ⟨_, rfl⟩
 have HN := Lib.hid hn
 have HN' := Lib.hid hn'
 have HA := Lib.hid (show JoinsIn w w.heap.size (.slice A n c) l by rw [hn]; exact H.out)
 have HA' := Lib.hid (show JoinsIn w w.heap.size (.slice A' n' c') m by rw [hn']; exact H'.out)
 have hml' : n' ≤ 9223372036854775807 := by unfold maxLen at hcm'; omega
 rw [← hn] at hml ⊢
 rw [← hn']
 clear hn hn' H H' hcl hcm hcl' hcm' h h'
 go_enter Tryz.func154, Tryz.ntmps154
 by_cases hnn : n = n'
 ·subst hnn
  go_wp2_with fail
  go_loopw [13] (fun s13 wr => ∃ i : Nat, i ≤ n ∧ s13 = .int .i64 i ∧ (∀ j (hj : j < i) (hl : j < l.length) (hm : j < m.length), l[j] = m[j]) ∧ Below w.heap.size w wr) (fun s13 _ => n - (intOf s13).toNat)
  case atStart => exact ⟨0, by omega, by go_num, fun j hj => absurd hj (by omega), Below.refl _ _⟩
  case round =>
   obtain ⟨i, hi, rfl, hall, hbw⟩ := hrel
   have HALL := Lib.hid hall
   have BW := Lib.hid hbw
   clear hall hbw
   by_cases hlt : i < n
   ·have hlt' : (i : Int) < n := by omega
    have hir : i < l.length := by rw [← HN.out]; exact hlt
    have him : i < m.length := by rw [← HN'.out]; exact hlt
    obtain ⟨b, off, rfl, hb, hc0, hc1⟩ := ((HA.out.below joinR BW.out).more joinR BW.out.size).at hir
    obtain ⟨b', off', rfl, hb', hd0, hd1⟩ := ((HA'.out.below joinR BW.out).more joinR BW.out.size).at him
    obtain ⟨x, hx⟩ : ∃ z, z = l[i] := ⟨_, rfl⟩
    obtain ⟨y, hy⟩ : ∃ z, z = m[i] := ⟨_, rfl⟩
    rw [← hx] at hc0 hc1
    rw [← hy] at hd0 hd1
    have hg0 : wr.cell? ⟨b, off + i * 2, none⟩ = some (.int .i64 x.1) := hc0
    have hh0 : wr.cell? ⟨b', off' + i * 2, none⟩ = some (.int .i64 y.1) := hd0
    have hg1 : wr.cell? ⟨b, off + i * 2 + 1, none⟩ = some (.int .i64 x.2) := hc1
    have hh1 : wr.cell? ⟨b', off' + i * 2 + 1, none⟩ = some (.int .i64 y.2) := hd1
    have HX := Lib.hid hx
    have HY := Lib.hid hy
    clear hc0 hc1 hd0 hd1 hx hy hb hb'
    have BD : Hid (∀ nq, Below w.heap.size w (wr.drewN nq)) := Lib.hid (fun nq => ⟨BW.out.os, BW.out.tape, BW.out.output, BW.out.size, BW.out.block⟩)
    go_upto_region 6 with fail
    by_cases he : x = y
    ·have hcmp : ∀ w' : World, (Op.equalIn 10000 60 (.agg #[.int .i64 x.1, .int .i64 x.2]) (.agg #[.int .i64 y.1, .int .i64 y.2])).run Tryz.prog w' = .ok true w' := eqPoint_eq he
     have NX : Hid (∀ j (hj : j < i + 1) (hl : j < l.length) (hm : j < m.length), l[j] = m[j]) := Lib.hid (fun j hj h1 h2 => by
      rcases Nat.lt_or_ge j i with h | h
      ·exact HALL.out j h h1 h2
      ·obtain rfl : j = i := by omega
       rw [← HX.out, ← HY.out]; exact he)
     clear he
     go_quiet (fail)
     have hdb := BD.out nq
     generalize wr.drewN nq = q7 at hdb ⊢
     have B7 := Lib.hid hdb
     clear hdb BD hcmp hg0 hh0 hg1 hh1
     go_wp2_with fail
     go_roundw
     case measure => simp [intOf]; omega
     case rel => exact ⟨i + 1, by omega, by go_num, NX.out, B7.out⟩
    ·have hcmp : ∀ w' : World, (Op.equalIn 10000 60 (.agg #[.int .i64 x.1, .int .i64 x.2]) (.agg #[.int .i64 y.1, .int .i64 y.2])).run Tryz.prog w' = .ok false w' := eqPoint_ne he
     have HF : Hid (eqB l m = false) := Lib.hid (eqB_false fun h => he (by rw [HX.out, HY.out]; exact getElem_congr' h))
     clear he
     go_quiet (fail)
     have hdb := BD.out nq
     generalize wr.drewN nq = q7 at hdb ⊢
     have B7 := Lib.hid hdb
     clear hdb BD hcmp hg0 hh0 hg1 hh1
     go_wp2_with fail
     go_ret
     exact ⟨by rw [HF.out]; rfl, B7.out⟩
   ·obtain rfl : i = n := by omega
    have hlt' : ¬ (i : Int) < i := by omega
    have HF : Hid (eqB l m = true) := Lib.hid (eqB_true (list_ext (by rw [← HN.out, ← HN'.out]) fun j h1 h2 => HALL.out j (by rw [HN.out]; exact h1) h1 h2))
    go_wp2_with fail
    go_ret
    exact ⟨by rw [HF.out]; rfl, BW.out⟩
 ·have hnn' : ((n : Int) != n') = true := by simpa using (show ¬ (n : Int) = n' by omega)
  have HF : Hid (eqB l m = false) := Lib.hid (eqB_false fun h => hnn (by rw [HN.out, HN'.out, h]))
  clear hnn
  go_wp2_with fail
  go_ret
  exact ⟨by rw [HF.out]; rfl, Below.refl _ _⟩
set_option maxHeartbeats 4000000 in
theorem equal_sg (v y : Value) (l m : List Sg) (w : World) (h : SigsIn w w.heap.size v l) (h' : SigsIn w w.heap.size y m) :
  Calls Tryz.prog 155 #[v, y] w fun e w' => e = .returned (.bool (eqB l m)) ∧ Below w.heap.size w w' := by
 have H := Lib.hid h
 have H' := Lib.hid h'
 obtain ⟨A, c, rfl, hcl, hcm⟩ := h.slice
 obtain ⟨A', c', rfl, hcl', hcm'⟩ := h'.slice
 have hml : l.length ≤ 9223372036854775807 := by unfold maxLen at hcm; omega
 obtain ⟨n, hn⟩ : ∃ n, n = l.length := ⟨_, rfl⟩
 obtain ⟨n', hn'⟩ : ∃ n', n' = m.length := ⟨_, rfl⟩
 have HN := Lib.hid hn
 have HN' := Lib.hid hn'
 have HA := Lib.hid (show SigsIn w w.heap.size (.slice A n c) l by rw [hn]; exact H.out)
 have HA' := Lib.hid (show SigsIn w w.heap.size (.slice A' n' c') m by rw [hn']; exact H'.out)
 have hml' : n' ≤ 9223372036854775807 := by unfold maxLen at hcm'; omega
 rw [← hn] at hml ⊢
 rw [← hn']
 clear hn hn' H H' hcl hcm hcl' hcm' h h'
 go_enter Tryz.func155, Tryz.ntmps155
 by_cases hnn : n = n'
 ·subst hnn
  go_wp2_with fail
  go_loopw [13] (fun s13 wr => ∃ i : Nat, i ≤ n ∧ s13 = .int .i64 i ∧ (∀ j (hj : j < i) (hl : j < l.length) (hm : j < m.length), l[j] = m[j]) ∧ Below w.heap.size w wr) (fun s13 _ => n - (intOf s13).toNat)
  case atStart => exact ⟨0, by omega, by go_num, fun j hj => absurd hj (by omega), Below.refl _ _⟩
  case round =>
   obtain ⟨i, hi, rfl, hall, hbw⟩ := hrel
   have HALL := Lib.hid hall
   have BW := Lib.hid hbw
   clear hall hbw
   by_cases hlt : i < n
   ·have hlt' : (i : Int) < n := by omega
    have hir : i < l.length := by rw [← HN.out]; exact hlt
    have him : i < m.length := by rw [← HN'.out]; exact hlt
    obtain ⟨b, off, rfl, hb, hc0, hc1, hc2⟩ := ((HA.out.below sigR BW.out).more sigR BW.out.size).at hir
    obtain ⟨b', off', rfl, hb', hd0, hd1, hd2⟩ := ((HA'.out.below sigR BW.out).more sigR BW.out.size).at him
    obtain ⟨x, hx⟩ : ∃ z, z = l[i] := ⟨_, rfl⟩
    obtain ⟨y, hy⟩ : ∃ z, z = m[i] := ⟨_, rfl⟩
    rw [← hx] at hc0 hc1 hc2
    rw [← hy] at hd0 hd1 hd2
    have hg0 : wr.cell? ⟨b, off + i * 3, none⟩ = some (.int .i64 x.1) := hc0
    have hh0 : wr.cell? ⟨b', off' + i * 3, none⟩ = some (.int .i64 y.1) := hd0
    have hg1 : wr.cell? ⟨b, off + i * 3 + 1, none⟩ = some (.int .i64 x.2.1) := hc1
    have hh1 : wr.cell? ⟨b', off' + i * 3 + 1, none⟩ = some (.int .i64 y.2.1) := hd1
    have hg2 : wr.cell? ⟨b, off + i * 3 + 2, none⟩ = some (.int .i64 x.2.2) := hc2
    have hh2 : wr.cell? ⟨b', off' + i * 3 + 2, none⟩ = some (.int .i64 y.2.2) := hd2
    have HX := Lib.hid hx
    have HY := Lib.hid hy
    clear hc0 hc1 hc2 hd0 hd1 hd2 hx hy hb hb'
    have BD : Hid (∀ nq, Below w.heap.size w (wr.drewN nq)) := Lib.hid (fun nq => ⟨BW.out.os, BW.out.tape, BW.out.output, BW.out.size, BW.out.block⟩)
    go_upto_region 6 with fail
    by_cases he : x = y
    ·have hcmp : ∀ w' : World, (Op.equalIn 10000 69 (.agg #[.int .i64 x.1, .int .i64 x.2.1, .int .i64 x.2.2]) (.agg #[.int .i64 y.1, .int .i64 y.2.1, .int .i64 y.2.2])).run Tryz.prog w' = .ok true w' := eqSig_eq he
     have NX : Hid (∀ j (hj : j < i + 1) (hl : j < l.length) (hm : j < m.length), l[j] = m[j]) := Lib.hid (fun j hj h1 h2 => by
      rcases Nat.lt_or_ge j i with h | h
      ·exact HALL.out j h h1 h2
      ·obtain rfl : j = i := by omega
       rw [← HX.out, ← HY.out]; exact he)
     clear he
     go_quiet (fail)
     have hdb := BD.out nq
     generalize wr.drewN nq = q7 at hdb ⊢
     have B7 := Lib.hid hdb
     clear hdb BD hcmp hg0 hh0 hg1 hh1 hg2 hh2
     go_wp2_with fail
     go_roundw
     case measure => simp [intOf]; omega
     case rel => exact ⟨i + 1, by omega, by go_num, NX.out, B7.out⟩
    ·have hcmp : ∀ w' : World, (Op.equalIn 10000 69 (.agg #[.int .i64 x.1, .int .i64 x.2.1, .int .i64 x.2.2]) (.agg #[.int .i64 y.1, .int .i64 y.2.1, .int .i64 y.2.2])).run Tryz.prog w' = .ok false w' := eqSig_ne he
     have HF : Hid (eqB l m = false) := Lib.hid (eqB_false fun h => he (by rw [HX.out, HY.out]; exact getElem_congr' h))
     clear he
     go_quiet (fail)
     have hdb := BD.out nq
     generalize wr.drewN nq = q7 at hdb ⊢
     have B7 := Lib.hid hdb
     clear hdb BD hcmp hg0 hh0 hg1 hh1 hg2 hh2
     go_wp2_with fail
     go_ret
     exact ⟨by rw [HF.out]; rfl, B7.out⟩
   ·obtain rfl : i = n := by omega
    have hlt' : ¬ (i : Int) < i := by omega
    have HF : Hid (eqB l m = true) := Lib.hid (eqB_true (list_ext (by rw [← HN.out, ← HN'.out]) fun j h1 h2 => HALL.out j (by rw [HN.out]; exact h1) h1 h2))
    go_wp2_with fail
    go_ret
    exact ⟨by rw [HF.out]; rfl, BW.out⟩
 ·have hnn' : ((n : Int) != n') = true := by simpa using (show ¬ (n : Int) = n' by omega)
  have HF : Hid (eqB l m = false) := Lib.hid (eqB_false fun h => hnn (by rw [HN.out, HN'.out, h]))
  clear hnn
  go_wp2_with fail
  go_ret
  exact ⟨by rw [HF.out]; rfl, Below.refl _ _⟩
set_option maxHeartbeats 4000000 in
theorem samesec_any (v y : Value) (s t : Sec) (w : World) (h : SecV w w.heap.size v s) (h' : SecV w w.heap.size y t) :
  Calls Tryz.prog 153 #[v, y] w fun e w' => e = .returned (.bool (eqB s t)) ∧ Below w.heap.size w w' := by
 obtain ⟨u, rfl, hu⟩ := h
 obtain ⟨u', rfl, hu'⟩ := h'
 obtain ⟨id, pt, es⟩ := s
 obtain ⟨id', pt', fs⟩ := t
 dsimp only at hu hu' ⊢
 have HU := Lib.hid hu
 have HU' := Lib.hid hu'
 obtain ⟨A, c, rfl, -, -⟩ := hu.slice
 obtain ⟨A', c', rfl, -, -⟩ := hu'.slice
 generalize es.length = n at HU ⊢
 generalize fs.length = n' at HU' ⊢
 clear hu hu'
 have hq := two_boxes w (.cells #[.int .i64 id, .int .i64 pt, .slice A n c] 67) (.cells #[.int .i64 id', .int .i64 pt', .slice A' n' c'] 67)
 go_enter Tryz.func153, Tryz.ntmps153
 go_upto_region 1 with fail
 generalize (w.alloc (.cells #[.int .i64 id, .int .i64 pt, .slice A n c] 67)).alloc (.cells #[.int .i64 id', .int .i64 pt', .slice A' n' c'] 67) = q at hq ⊢
 obtain ⟨q0, q1, qb⟩ := hq
 obtain ⟨k0, k1, k2⟩ := cell3_of q0
 obtain ⟨r0, r1, r2⟩ := cell3_of q1
 have BQ := Lib.hid qb
 clear q0 q1 qb
 by_cases h1 : id = id'
 ·have d1 : (id == id') = true := by simpa using h1
  by_cases h2 : pt = pt'
  ·have d2 : (pt == pt') = true := by simpa using h2
   have HE : Hid (eqB (id, pt, es) (id', pt', fs) = eqB es fs) := Lib.hid (by
    subst h1
    subst h2
    rw [Bool.eq_iff_iff, eqB_iff, eqB_iff]
    exact ⟨fun h => by injection h with _ h; injection h, fun h => by rw [h]⟩)
   clear h1 h2
   go_wp2_with ((with_reducible show Calls _ _ _ _ _); refine (equal_jn _ _ es fs q ((HU.out.below joinR BQ.out).more joinR BQ.out.size) ((HU'.out.below joinR BQ.out).more joinR BQ.out.size)).mono ?_; rintro e w2 ⟨rfl, b2⟩; have B2 := Lib.hid (BQ.out.trans (b2.mono BQ.out.size)); clear b2; generalize eqB es fs = g at HE ⊢)
   go_ret
   exact ⟨by rw [HE.out]; first | rfl | simp, B2.out⟩
  ·have d2 : (pt == pt') = false := by simpa using h2
   have HF : Hid (eqB (id, pt, es) (id', pt', fs) = false) := Lib.hid (eqB_false (fun h => by injection h with _ h; injection h with h _; exact h2 h))
   clear h1 h2
   go_wp2_with fail
   go_ret
   exact ⟨by rw [HF.out]; rfl, BQ.out⟩
 ·have d1 : (id == id') = false := by simpa using h1
  have HF : Hid (eqB (id, pt, es) (id', pt', fs) = false) := Lib.hid (eqB_false (fun h => by injection h with h _; exact h1 h))
  clear h1
  go_wp2_with fail
  go_ret
  exact ⟨by rw [HF.out]; rfl, BQ.out⟩
set_option maxHeartbeats 8000000 in
theorem sameroute_any (v y : Value) (r s : Rt) (w : World) (h : RouteV w w.heap.size v r) (h' : RouteV w w.heap.size y s) :
  Calls Tryz.prog 157 #[v, y] w fun e w' => e = .returned (.bool (eqB r s)) ∧ Below w.heap.size w w' := by
 obtain ⟨z3, z4, z5, rfl, hrt⟩ := h
 have HRT0 := Lib.hid hrt
 obtain ⟨C3, e3, rfl, hdl3, hdm3⟩ := hrt.path.slice
 obtain ⟨C4, e4, rfl, hdl4, hdm4⟩ := hrt.over.slice
 obtain ⟨C5, e5, rfl, hdl5, hdm5⟩ := hrt.flanks.slice
 unfold maxLen at hdm3 hdm4 hdm5
 obtain ⟨l3, hl3⟩ : ∃ n, n = r.path.length := ⟨_, rfl⟩
 obtain ⟨l4, hl4⟩ : ∃ n, n = r.over.length := ⟨_, rfl⟩
 obtain ⟨l5, hl5⟩ : ∃ n, n = r.flanks.length := ⟨_, rfl⟩
 have hk3 : l3 ≤ 9223372036854775807 := by omega
 have hk4 : l4 ≤ 9223372036854775807 := by omega
 have hk5 : l5 ≤ 9223372036854775807 := by omega
 have HRT : Hid (RtIn w w.heap.size (.slice C3 l3 e3) (.slice C4 l4 e4) (.slice C5 l5 e5) r) := Lib.hid (by rw [hl3, hl4, hl5]; exact HRT0.out)
 have HL : Hid (l3 = r.path.length ∧ l4 = r.over.length ∧ l5 = r.flanks.length) := Lib.hid ⟨hl3, hl4, hl5⟩
 rw [← hl3, ← hl4, ← hl5]
 clear hl3 hl4 hl5 HRT0 hrt hdl3 hdm3 hdl4 hdm4 hdl5 hdm5
 obtain ⟨x3, x4, x5, rfl, hst⟩ := h'
 have HST0 := Lib.hid hst
 obtain ⟨D3, g3, rfl, hdl3, hdm3⟩ := hst.path.slice
 obtain ⟨D4, g4, rfl, hdl4, hdm4⟩ := hst.over.slice
 obtain ⟨D5, g5, rfl, hdl5, hdm5⟩ := hst.flanks.slice
 unfold maxLen at hdm3 hdm4 hdm5
 obtain ⟨k3, hs3⟩ : ∃ n, n = s.path.length := ⟨_, rfl⟩
 obtain ⟨k4, hs4⟩ : ∃ n, n = s.over.length := ⟨_, rfl⟩
 obtain ⟨k5, hs5⟩ : ∃ n, n = s.flanks.length := ⟨_, rfl⟩
 have hj3 : k3 ≤ 9223372036854775807 := by omega
 have hj4 : k4 ≤ 9223372036854775807 := by omega
 have hj5 : k5 ≤ 9223372036854775807 := by omega
 have HST : Hid (RtIn w w.heap.size (.slice D3 k3 g3) (.slice D4 k4 g4) (.slice D5 k5 g5) s) := Lib.hid (by rw [hs3, hs4, hs5]; exact HST0.out)
 have HLs : Hid (k3 = s.path.length ∧ k4 = s.over.length ∧ k5 = s.flanks.length) := Lib.hid ⟨hs3, hs4, hs5⟩
 rw [← hs3, ← hs4, ← hs5]
 clear hs3 hs4 hs5 HST0 hst hdl3 hdm3 hdl4 hdm4 hdl5 hdm5
 have hq := two_boxes w (.cells #[.int .i64 r.id, .int .i64 r.entry, .int .i64 r.exit, .slice C3 l3 e3, .slice C4 l4 e4, .slice C5 l5 e5, .int .i64 r.timer] 54) (.cells #[.int .i64 s.id, .int .i64 s.entry, .int .i64 s.exit, .slice D3 k3 g3, .slice D4 k4 g4, .slice D5 k5 g5, .int .i64 s.timer] 54)
 go_enter Tryz.func157, Tryz.ntmps157
 go_upto_region 1 with fail
 generalize (w.alloc (.cells #[.int .i64 r.id, .int .i64 r.entry, .int .i64 r.exit, .slice C3 l3 e3, .slice C4 l4 e4, .slice C5 l5 e5, .int .i64 r.timer] 54)).alloc (.cells #[.int .i64 s.id, .int .i64 s.entry, .int .i64 s.exit, .slice D3 k3 g3, .slice D4 k4 g4, .slice D5 k5 g5, .int .i64 s.timer] 54) = q at hq ⊢
 obtain ⟨q0, q1, qb⟩ := hq
 have XA := Lib.hid q0
 have XB := Lib.hid q1
 have BQ := Lib.hid qb
 clear q0 q1 qb
 have HR := Lib.hid ((HRT.out.below BQ.out).more BQ.out.size)
 have HS := Lib.hid ((HST.out.below BQ.out).more BQ.out.size)
 clear HRT HST
 obtain ⟨m0, m1, m2, m3, m4, m5, m6⟩ := cell7_of XA.out
 obtain ⟨j0, j1, j2, j3, j4, j5, j6⟩ := cell7_of XB.out
 by_cases h0 : r.id = s.id
 rotate_left
 ·have d : (r.id == s.id) = false := by simpa using h0
  have HF : Hid (eqB r s = false) := Lib.hid (eqB_false (fun h => h0 (rt_eq.1 h).1))
  clear h0
  go_wp2_with fail
  go_ret
  exact ⟨by rw [HF.out]; rfl, BQ.out⟩
 have dh0 : (r.id == s.id) = true := by simpa using h0
 by_cases h1 : r.entry = s.entry
 rotate_left
 ·have d : (r.entry == s.entry) = false := by simpa using h1
  have HF : Hid (eqB r s = false) := Lib.hid (eqB_false (fun h => h1 (rt_eq.1 h).2.1))
  clear h1
  go_wp2_with fail
  go_ret
  exact ⟨by rw [HF.out]; rfl, BQ.out⟩
 have dh1 : (r.entry == s.entry) = true := by simpa using h1
 by_cases h2 : r.exit = s.exit
 rotate_left
 ·have d : (r.exit == s.exit) = false := by simpa using h2
  have HF : Hid (eqB r s = false) := Lib.hid (eqB_false (fun h => h2 (rt_eq.1 h).2.2.1))
  clear h2
  go_wp2_with fail
  go_ret
  exact ⟨by rw [HF.out]; rfl, BQ.out⟩
 have dh2 : (r.exit == s.exit) = true := by simpa using h2
 by_cases h3 : r.timer = s.timer
 rotate_left
 ·have d : (r.timer == s.timer) = false := by simpa using h3
  have HF : Hid (eqB r s = false) := Lib.hid (eqB_false (fun h => h3 (rt_eq.1 h).2.2.2.1))
  clear h3
  go_wp2_with fail
  go_ret
  exact ⟨by rw [HF.out]; rfl, BQ.out⟩
 have dh3 : (r.timer == s.timer) = true := by simpa using h3
 have E4 : Hid (r.id = s.id ∧ r.entry = s.entry ∧ r.exit = s.exit ∧ r.timer = s.timer) := Lib.hid ⟨h0, h1, h2, h3⟩
 clear h0 h1 h2 h3
 go_wp2_with fail
 refine (equal_int _ _ r.path s.path _ HR.out.path HS.out.path).mono ?_
 rintro e w1 ⟨rfl, b1⟩
 clear m0 m1 m2 m3 m4 m5 m6 j0 j1 j2 j3 j4 j5 j6
 replace BQ := Lib.hid (BQ.out.trans (b1.mono BQ.out.size))
 replace XA := Lib.hid ((b1.block _ (heap_lt XA.out)).trans XA.out)
 replace XB := Lib.hid ((b1.block _ (heap_lt XB.out)).trans XB.out)
 replace HR := Lib.hid ((HR.out.below b1).more b1.size)
 replace HS := Lib.hid ((HS.out.below b1).more b1.size)
 clear b1
 cases hc : eqB r.path s.path with
 | false =>
  have HF : Hid (eqB r s = false) := Lib.hid (eqB_false (fun h => by rw [eqB_true (rt_eq.1 h).2.2.2.2.1] at hc; cases hc))
  clear hc
  obtain ⟨m0, m1, m2, m3, m4, m5, m6⟩ := cell7_of XA.out
  obtain ⟨j0, j1, j2, j3, j4, j5, j6⟩ := cell7_of XB.out
  go_wp2_with fail
  go_ret
  exact ⟨by rw [HF.out]; rfl, BQ.out⟩
 | true =>
 have E5 := Lib.hid (eqB_iff.1 hc)
 clear hc
 obtain ⟨m0, m1, m2, m3, m4, m5, m6⟩ := cell7_of XA.out
 obtain ⟨j0, j1, j2, j3, j4, j5, j6⟩ := cell7_of XB.out
 go_wp2_with fail
 refine (equal_int _ _ r.over s.over _ HR.out.over HS.out.over).mono ?_
 rintro e w2 ⟨rfl, b1⟩
 clear m0 m1 m2 m3 m4 m5 m6 j0 j1 j2 j3 j4 j5 j6
 replace BQ := Lib.hid (BQ.out.trans (b1.mono BQ.out.size))
 replace XA := Lib.hid ((b1.block _ (heap_lt XA.out)).trans XA.out)
 replace XB := Lib.hid ((b1.block _ (heap_lt XB.out)).trans XB.out)
 replace HR := Lib.hid ((HR.out.below b1).more b1.size)
 replace HS := Lib.hid ((HS.out.below b1).more b1.size)
 clear b1
 cases hc : eqB r.over s.over with
 | false =>
  have HF : Hid (eqB r s = false) := Lib.hid (eqB_false (fun h => by rw [eqB_true (rt_eq.1 h).2.2.2.2.2.1] at hc; cases hc))
  clear hc
  obtain ⟨m0, m1, m2, m3, m4, m5, m6⟩ := cell7_of XA.out
  obtain ⟨j0, j1, j2, j3, j4, j5, j6⟩ := cell7_of XB.out
  go_wp2_with fail
  go_ret
  exact ⟨by rw [HF.out]; rfl, BQ.out⟩
 | true =>
 have E6 := Lib.hid (eqB_iff.1 hc)
 clear hc
 obtain ⟨m0, m1, m2, m3, m4, m5, m6⟩ := cell7_of XA.out
 obtain ⟨j0, j1, j2, j3, j4, j5, j6⟩ := cell7_of XB.out
 go_wp2_with fail
 refine (equal_fl _ _ r.flanks s.flanks _ HR.out.flanks HS.out.flanks).mono ?_
 rintro e w3 ⟨rfl, b1⟩
 clear m0 m1 m2 m3 m4 m5 m6 j0 j1 j2 j3 j4 j5 j6
 replace BQ := Lib.hid (BQ.out.trans (b1.mono BQ.out.size))
 replace XA := Lib.hid ((b1.block _ (heap_lt XA.out)).trans XA.out)
 replace XB := Lib.hid ((b1.block _ (heap_lt XB.out)).trans XB.out)
 replace HR := Lib.hid ((HR.out.below b1).more b1.size)
 replace HS := Lib.hid ((HS.out.below b1).more b1.size)
 clear b1
 cases hc : eqB r.flanks s.flanks with
 | false =>
  have HF : Hid (eqB r s = false) := Lib.hid (eqB_false (fun h => by rw [eqB_true (rt_eq.1 h).2.2.2.2.2.2] at hc; cases hc))
  clear hc
  obtain ⟨m0, m1, m2, m3, m4, m5, m6⟩ := cell7_of XA.out
  obtain ⟨j0, j1, j2, j3, j4, j5, j6⟩ := cell7_of XB.out
  go_wp2_with fail
  go_ret
  exact ⟨by rw [HF.out]; rfl, BQ.out⟩
 | true =>
 have E7 := Lib.hid (eqB_iff.1 hc)
 clear hc
 obtain ⟨m0, m1, m2, m3, m4, m5, m6⟩ := cell7_of XA.out
 obtain ⟨j0, j1, j2, j3, j4, j5, j6⟩ := cell7_of XB.out
 have HF : Hid (eqB r s = true) := Lib.hid (eqB_true (rt_eq.2 ⟨E4.out.1, E4.out.2.1, E4.out.2.2.1, E4.out.2.2.2, E5.out, E6.out, E7.out⟩))
 go_wp2_with fail
 go_ret
 exact ⟨by rw [HF.out]; rfl, BQ.out⟩
set_option maxHeartbeats 8000000 in
theorem eqfunc_sec (v y : Value) (l m : List Sec) (w : World) (h : SectsIn w w.heap.size v l) (h' : SectsIn w w.heap.size y m) :
  Calls Tryz.prog 152 #[v, y, .func (.func 153) #[] #[]] w fun e w' => e = .returned (.bool (eqB l m)) ∧ Below w.heap.size w w' := by
 have H := Lib.hid h
 have H' := Lib.hid h'
 obtain ⟨A, c, rfl, hcl, hcm⟩ := h.slice
 obtain ⟨A', c', rfl, hcl', hcm'⟩ := h'.slice
 have hml : l.length ≤ 9223372036854775807 := by unfold maxLen at hcm; omega
 obtain ⟨n, hn⟩ : ∃ n, n = l.length := ⟨_, rfl⟩
 obtain ⟨n', hn'⟩ : ∃ n', n' = m.length := ⟨_, rfl⟩
 have HN := Lib.hid hn
 have HN' := Lib.hid hn'
 have HA := Lib.hid (show SectsIn w w.heap.size (.slice A n c) l by rw [hn]; exact H.out)
 have HA' := Lib.hid (show SectsIn w w.heap.size (.slice A' n' c') m by rw [hn']; exact H'.out)
 have hml' : n' ≤ 9223372036854775807 := by unfold maxLen at hcm'; omega
 rw [← hn] at hml ⊢
 rw [← hn']
 clear hn hn' H H' hcl hcm hcl' hcm' h h'
 go_enter Tryz.func152, Tryz.ntmps152
 by_cases hnn : n = n'
 ·subst hnn
  go_wp2_with fail
  go_loopw [17] (fun s17 wr => ∃ i : Nat, i ≤ n ∧ s17 = .int .i64 i ∧ (∀ j (hj : j < i) (hl : j < l.length) (hm : j < m.length), l[j] = m[j]) ∧ Below w.heap.size w wr) (fun s17 _ => n - (intOf s17).toNat)
  case atStart => exact ⟨0, by omega, by go_num, fun j hj => absurd hj (by omega), Below.refl _ _⟩
  case round =>
   obtain ⟨i, hi, rfl, hall, hbw⟩ := hrel
   have HALL := Lib.hid hall
   have BW := Lib.hid hbw
   clear hall hbw
   by_cases hlt : i < n
   ·have hlt' : (i : Int) < n := by omega
    have hir : i < l.length := by rw [← HN.out]; exact hlt
    have him : i < m.length := by rw [← HN'.out]; exact hlt
    obtain ⟨bk, off, rfl, hbk, hc0, hc1, u, hc2, hu⟩ := ((HA.out.below secR_ BW.out).more secR_ BW.out.size).at hir
    obtain ⟨B3, d3, rfl, hu1, hu2⟩ := hu.slice
    obtain ⟨a, pt, es, hx⟩ : ∃ a pt es, l[i] = (a, pt, es) := ⟨_, _, _, rfl⟩
    have HX := Lib.hid hx
    rw [hx] at hc0 hc1 hc2 hu hu1
    dsimp only at hc0 hc1 hc2 hu hu1
    obtain ⟨m3, e3⟩ : ∃ m, m = es.length := ⟨_, rfl⟩
    rw [← e3] at hc2 hu hu1
    have HM := Lib.hid e3
    have HU := Lib.hid hu
    have hm3 : m3 ≤ 9223372036854775807 := by unfold maxLen at hu2; omega
    have hg0 : wr.cell? ⟨bk, off + i * 3, none⟩ = some (.int .i64 a) := hc0
    have hg1 : wr.cell? ⟨bk, off + i * 3 + 1, none⟩ = some (.int .i64 pt) := hc1
    have hg2 : wr.cell? ⟨bk, off + i * 3 + 2, none⟩ = some (.slice B3 m3 d3) := hc2
    clear hc0 hc1 hc2 hx hbk hu e3 hu1 hu2
    obtain ⟨bkx, offx, rfl, hbk, hc0, hc1, ux, hc2, hu⟩ := ((HA'.out.below secR_ BW.out).more secR_ BW.out.size).at him
    obtain ⟨B3x, d3x, rfl, hu1, hu2⟩ := hu.slice
    obtain ⟨ax, ptx, esx, hx⟩ : ∃ ax ptx esx, m[i] = (ax, ptx, esx) := ⟨_, _, _, rfl⟩
    have HXx := Lib.hid hx
    rw [hx] at hc0 hc1 hc2 hu hu1
    dsimp only at hc0 hc1 hc2 hu hu1
    obtain ⟨m3x, e3⟩ : ∃ m, m = esx.length := ⟨_, rfl⟩
    rw [← e3] at hc2 hu hu1
    have HMx := Lib.hid e3
    have HUx := Lib.hid hu
    have hm3x : m3x ≤ 9223372036854775807 := by unfold maxLen at hu2; omega
    have hh0 : wr.cell? ⟨bkx, offx + i * 3, none⟩ = some (.int .i64 ax) := hc0
    have hh1 : wr.cell? ⟨bkx, offx + i * 3 + 1, none⟩ = some (.int .i64 ptx) := hc1
    have hh2 : wr.cell? ⟨bkx, offx + i * 3 + 2, none⟩ = some (.slice B3x m3x d3x) := hc2
    clear hc0 hc1 hc2 hx hbk hu e3 hu1 hu2
    obtain ⟨q, hq⟩ : ∃ x, x = wr.alloc (.cells #[.int .i64 a, .int .i64 pt, .slice B3 m3 d3] 67) := ⟨_, rfl⟩
    have x1 := heap_alloc_self wr (.cells #[.int .i64 a, .int .i64 pt, .slice B3 m3 d3] 67)
    have b1 := below_new wr (.cells #[.int .i64 a, .int .i64 pt, .slice B3 m3 d3] 67)
    rw [← hq] at x1 b1
    have ii0 := (b1.cell (p := ⟨bkx, offx + i * 3, none⟩) (cell_lt hh0)).trans hh0
    have ii1 := (b1.cell (p := ⟨bkx, offx + i * 3 + 1, none⟩) (cell_lt hh1)).trans hh1
    have ii2 := (b1.cell (p := ⟨bkx, offx + i * 3 + 2, none⟩) (cell_lt hh2)).trans hh2
    obtain ⟨q2, hq2⟩ : ∃ x, x = q.alloc (.cells #[.int .i64 ax, .int .i64 ptx, .slice B3x m3x d3x] 67) := ⟨_, rfl⟩
    have x2 := heap_alloc_self q (.cells #[.int .i64 ax, .int .i64 ptx, .slice B3x m3x d3x] 67)
    have b2 := below_new q (.cells #[.int .i64 ax, .int .i64 ptx, .slice B3x m3x d3x] 67)
    rw [← hq2] at x2 b2
    have b12 := b1.trans (b2.mono b1.size)
    have X1 := Lib.hid ((b2.block _ (heap_lt x1)).trans x1)
    have X2 := Lib.hid x2
    have BA := Lib.hid b12
    have HQ1 := Lib.hid hq
    have HQ2 := Lib.hid hq2
    clear x1 x2 b1 b2 b12 hq hq2 hh0 hh1 hh2
    go_upto_region 6 with fail
    rw [← HQ1.out]
    go_upto_region 7 with fail
    rw [← HQ2.out]
    have b12 := BA.out
    generalize wr.heap.size = p1 at X1 ⊢
    generalize q.heap.size = p2 at X2 ⊢
    clear HQ1 HQ2 hg0 hg1 hg2 ii0 ii1 ii2
    obtain ⟨k0, k1, k2⟩ := cell3_of X1.out
    obtain ⟨j0, j1, j2⟩ := cell3_of X2.out
    go_wp2_with fail
    refine (samesec_any _ _ (a, pt, es) (ax, ptx, esx) q2 ⟨_, rfl, (HU.out.below joinR b12).more joinR b12.size⟩ ⟨_, rfl, (HUx.out.below joinR b12).more joinR b12.size⟩).mono ?_
    rintro e w3 ⟨rfl, b3⟩
    have B3_ := Lib.hid (BW.out.trans ((b12.trans (b3.mono b12.size)).mono BW.out.size))
    clear b12 b3 k0 j0 k1 j1 k2 j2
    cases he : eqB (a, pt, es) (ax, ptx, esx) with
    | true =>
     have he2 := eqB_iff.1 he
     have NX : Hid (∀ j (hj : j < i + 1) (hl : j < l.length) (hm : j < m.length), l[j] = m[j]) := Lib.hid (fun j hj h1 h2 => by
      rcases Nat.lt_or_ge j i with h | h
      ·exact HALL.out j h h1 h2
      ·obtain rfl : j = i := by omega
       rw [HX.out, HXx.out]; exact he2)
     clear he he2
     go_wp2_with fail
     go_roundw
     case measure => simp [intOf]; omega
     case rel => exact ⟨i + 1, by omega, by go_num, NX.out, B3_.out⟩
    | false =>
     have HF : Hid (eqB l m = false) := Lib.hid (eqB_false fun h => by
      have h2 : l[i] = m[i] := getElem_congr' h
      rw [HX.out, HXx.out] at h2
      rw [eqB_true h2] at he
      cases he)
     clear he
     go_wp2_with fail
     go_ret
     exact ⟨by rw [HF.out]; rfl, B3_.out⟩
   ·obtain rfl : i = n := by omega
    have hlt' : ¬ (i : Int) < i := by omega
    have HF : Hid (eqB l m = true) := Lib.hid (eqB_true (list_ext (by rw [← HN.out, ← HN'.out]) fun j h1 h2 => HALL.out j (by rw [HN.out]; exact h1) h1 h2))
    go_wp2_with fail
    go_ret
    exact ⟨by rw [HF.out]; rfl, BW.out⟩
 ·have hnn' : ((n : Int) != n') = true := by simpa using (show ¬ (n : Int) = n' by omega)
  have HF : Hid (eqB l m = false) := Lib.hid (eqB_false fun h => hnn (by rw [HN.out, HN'.out, h]))
  clear hnn
  go_wp2_with fail
  go_ret
  exact ⟨by rw [HF.out]; rfl, Below.refl _ _⟩
set_option maxHeartbeats 8000000 in
theorem eqfunc_rt (v y : Value) (l m : List Rt) (w : World) (h : RoutesIn w w.heap.size v l) (h' : RoutesIn w w.heap.size y m) :
  Calls Tryz.prog 156 #[v, y, .func (.func 157) #[] #[]] w fun e w' => e = .returned (.bool (eqB l m)) ∧ Below w.heap.size w w' := by
 have H := Lib.hid h
 have H' := Lib.hid h'
 obtain ⟨A, c, rfl, hcl, hcm⟩ := h.slice
 obtain ⟨A', c', rfl, hcl', hcm'⟩ := h'.slice
 have hml : l.length ≤ 9223372036854775807 := by unfold maxLen at hcm; omega
 obtain ⟨n, hn⟩ : ∃ n, n = l.length := ⟨_, rfl⟩
 obtain ⟨n', hn'⟩ : ∃ n', n' = m.length := ⟨_, rfl⟩
 have HN := Lib.hid hn
 have HN' := Lib.hid hn'
 have HA := Lib.hid (show RoutesIn w w.heap.size (.slice A n c) l by rw [hn]; exact H.out)
 have HA' := Lib.hid (show RoutesIn w w.heap.size (.slice A' n' c') m by rw [hn']; exact H'.out)
 have hml' : n' ≤ 9223372036854775807 := by unfold maxLen at hcm'; omega
 rw [← hn] at hml ⊢
 rw [← hn']
 clear hn hn' H H' hcl hcm hcl' hcm' h h'
 go_enter Tryz.func156, Tryz.ntmps156
 by_cases hnn : n = n'
 ·subst hnn
  go_wp2_with fail
  go_loopw [17] (fun s17 wr => ∃ i : Nat, i ≤ n ∧ s17 = .int .i64 i ∧ (∀ j (hj : j < i) (hl : j < l.length) (hm : j < m.length), l[j] = m[j]) ∧ Below w.heap.size w wr) (fun s17 _ => n - (intOf s17).toNat)
  case atStart => exact ⟨0, by omega, by go_num, fun j hj => absurd hj (by omega), Below.refl _ _⟩
  case round =>
   obtain ⟨i, hi, rfl, hall, hbw⟩ := hrel
   have HALL := Lib.hid hall
   have BW := Lib.hid hbw
   clear hall hbw
   by_cases hlt : i < n
   ·have hlt' : (i : Int) < n := by omega
    have hir : i < l.length := by rw [← HN.out]; exact hlt
    have him : i < m.length := by rw [← HN'.out]; exact hlt
    obtain ⟨bk, off, rfl, hbk, hc0, hc1, hc2, hc6, u3, u4, u5, hc3, hc4, hc5, hr⟩ := ((HA.out.below routeR BW.out).more routeR BW.out.size).at hir
    obtain ⟨B3, d3, rfl, -, -⟩ := hr.path.slice
    obtain ⟨B4, d4, rfl, -, -⟩ := hr.over.slice
    obtain ⟨B5, d5, rfl, -, -⟩ := hr.flanks.slice
    obtain ⟨a, en, ex, lp, lo, lf, tm, hx⟩ : ∃ a en ex lp lo lf tm, l[i] = (⟨a, en, ex, lp, lo, lf, tm⟩ : Rt) := ⟨_, _, _, _, _, _, _, rfl⟩
    have HX := Lib.hid hx
    rw [hx] at hc0 hc1 hc2 hc3 hc4 hc5 hc6 hr
    dsimp only at hc0 hc1 hc2 hc3 hc4 hc5 hc6 hr
    obtain ⟨m3, e3⟩ : ∃ m, m = lp.length := ⟨_, rfl⟩
    obtain ⟨m4, e4⟩ : ∃ m, m = lo.length := ⟨_, rfl⟩
    obtain ⟨m5, e5⟩ : ∃ m, m = lf.length := ⟨_, rfl⟩
    rw [← e3] at hc3 hr
    rw [← e4] at hc4 hr
    rw [← e5] at hc5 hr
    have HR := Lib.hid hr
    have HM : Hid (m3 = lp.length ∧ m4 = lo.length ∧ m5 = lf.length) := Lib.hid ⟨e3, e4, e5⟩
    have hg0 : wr.cell? ⟨bk, off + i * 7, none⟩ = some (.int .i64 a) := hc0
    have hg1 : wr.cell? ⟨bk, off + i * 7 + 1, none⟩ = some (.int .i64 en) := hc1
    have hg2 : wr.cell? ⟨bk, off + i * 7 + 2, none⟩ = some (.int .i64 ex) := hc2
    have hg3 : wr.cell? ⟨bk, off + i * 7 + 3, none⟩ = some (.slice B3 m3 d3) := hc3
    have hg4 : wr.cell? ⟨bk, off + i * 7 + 4, none⟩ = some (.slice B4 m4 d4) := hc4
    have hg5 : wr.cell? ⟨bk, off + i * 7 + 5, none⟩ = some (.slice B5 m5 d5) := hc5
    have hg6 : wr.cell? ⟨bk, off + i * 7 + 6, none⟩ = some (.int .i64 tm) := hc6
    clear hc0 hc1 hc2 hc3 hc4 hc5 hc6 hx hbk hr e3 e4 e5
    obtain ⟨bkx, offx, rfl, hbk, hc0, hc1, hc2, hc6, u3x, u4x, u5x, hc3, hc4, hc5, hr⟩ := ((HA'.out.below routeR BW.out).more routeR BW.out.size).at him
    obtain ⟨B3x, d3x, rfl, -, -⟩ := hr.path.slice
    obtain ⟨B4x, d4x, rfl, -, -⟩ := hr.over.slice
    obtain ⟨B5x, d5x, rfl, -, -⟩ := hr.flanks.slice
    obtain ⟨ax, enx, exx, lpx, lox, lfx, tmx, hx⟩ : ∃ ax enx exx lpx lox lfx tmx, m[i] = (⟨ax, enx, exx, lpx, lox, lfx, tmx⟩ : Rt) := ⟨_, _, _, _, _, _, _, rfl⟩
    have HXx := Lib.hid hx
    rw [hx] at hc0 hc1 hc2 hc3 hc4 hc5 hc6 hr
    dsimp only at hc0 hc1 hc2 hc3 hc4 hc5 hc6 hr
    obtain ⟨m3x, e3⟩ : ∃ m, m = lpx.length := ⟨_, rfl⟩
    obtain ⟨m4x, e4⟩ : ∃ m, m = lox.length := ⟨_, rfl⟩
    obtain ⟨m5x, e5⟩ : ∃ m, m = lfx.length := ⟨_, rfl⟩
    rw [← e3] at hc3 hr
    rw [← e4] at hc4 hr
    rw [← e5] at hc5 hr
    have HRx := Lib.hid hr
    have HMx : Hid (m3x = lpx.length ∧ m4x = lox.length ∧ m5x = lfx.length) := Lib.hid ⟨e3, e4, e5⟩
    have hh0 : wr.cell? ⟨bkx, offx + i * 7, none⟩ = some (.int .i64 ax) := hc0
    have hh1 : wr.cell? ⟨bkx, offx + i * 7 + 1, none⟩ = some (.int .i64 enx) := hc1
    have hh2 : wr.cell? ⟨bkx, offx + i * 7 + 2, none⟩ = some (.int .i64 exx) := hc2
    have hh3 : wr.cell? ⟨bkx, offx + i * 7 + 3, none⟩ = some (.slice B3x m3x d3x) := hc3
    have hh4 : wr.cell? ⟨bkx, offx + i * 7 + 4, none⟩ = some (.slice B4x m4x d4x) := hc4
    have hh5 : wr.cell? ⟨bkx, offx + i * 7 + 5, none⟩ = some (.slice B5x m5x d5x) := hc5
    have hh6 : wr.cell? ⟨bkx, offx + i * 7 + 6, none⟩ = some (.int .i64 tmx) := hc6
    clear hc0 hc1 hc2 hc3 hc4 hc5 hc6 hx hbk hr e3 e4 e5
    obtain ⟨q, hq⟩ : ∃ x, x = wr.alloc (.cells #[.int .i64 a, .int .i64 en, .int .i64 ex, .slice B3 m3 d3, .slice B4 m4 d4, .slice B5 m5 d5, .int .i64 tm] 54) := ⟨_, rfl⟩
    have x1 := heap_alloc_self wr (.cells #[.int .i64 a, .int .i64 en, .int .i64 ex, .slice B3 m3 d3, .slice B4 m4 d4, .slice B5 m5 d5, .int .i64 tm] 54)
    have b1 := below_new wr (.cells #[.int .i64 a, .int .i64 en, .int .i64 ex, .slice B3 m3 d3, .slice B4 m4 d4, .slice B5 m5 d5, .int .i64 tm] 54)
    rw [← hq] at x1 b1
    have ii0 := (b1.cell (p := ⟨bkx, offx + i * 7, none⟩) (cell_lt hh0)).trans hh0
    have ii1 := (b1.cell (p := ⟨bkx, offx + i * 7 + 1, none⟩) (cell_lt hh1)).trans hh1
    have ii2 := (b1.cell (p := ⟨bkx, offx + i * 7 + 2, none⟩) (cell_lt hh2)).trans hh2
    have ii3 := (b1.cell (p := ⟨bkx, offx + i * 7 + 3, none⟩) (cell_lt hh3)).trans hh3
    have ii4 := (b1.cell (p := ⟨bkx, offx + i * 7 + 4, none⟩) (cell_lt hh4)).trans hh4
    have ii5 := (b1.cell (p := ⟨bkx, offx + i * 7 + 5, none⟩) (cell_lt hh5)).trans hh5
    have ii6 := (b1.cell (p := ⟨bkx, offx + i * 7 + 6, none⟩) (cell_lt hh6)).trans hh6
    obtain ⟨q2, hq2⟩ : ∃ x, x = q.alloc (.cells #[.int .i64 ax, .int .i64 enx, .int .i64 exx, .slice B3x m3x d3x, .slice B4x m4x d4x, .slice B5x m5x d5x, .int .i64 tmx] 54) := ⟨_, rfl⟩
    have x2 := heap_alloc_self q (.cells #[.int .i64 ax, .int .i64 enx, .int .i64 exx, .slice B3x m3x d3x, .slice B4x m4x d4x, .slice B5x m5x d5x, .int .i64 tmx] 54)
    have b2 := below_new q (.cells #[.int .i64 ax, .int .i64 enx, .int .i64 exx, .slice B3x m3x d3x, .slice B4x m4x d4x, .slice B5x m5x d5x, .int .i64 tmx] 54)
    rw [← hq2] at x2 b2
    have b12 := b1.trans (b2.mono b1.size)
    have X1 := Lib.hid ((b2.block _ (heap_lt x1)).trans x1)
    have X2 := Lib.hid x2
    have BA := Lib.hid b12
    have HQ1 := Lib.hid hq
    have HQ2 := Lib.hid hq2
    clear x1 x2 b1 b2 b12 hq hq2 hh0 hh1 hh2 hh3 hh4 hh5 hh6
    go_upto_region 6 with fail
    rw [← HQ1.out]
    go_upto_region 7 with fail
    rw [← HQ2.out]
    have b12 := BA.out
    generalize wr.heap.size = p1 at X1 ⊢
    generalize q.heap.size = p2 at X2 ⊢
    clear HQ1 HQ2 hg0 hg1 hg2 hg3 hg4 hg5 hg6 ii0 ii1 ii2 ii3 ii4 ii5 ii6
    obtain ⟨k0, k1, k2, k3, k4, k5, k6⟩ := cell7_of X1.out
    obtain ⟨j0, j1, j2, j3, j4, j5, j6⟩ := cell7_of X2.out
    go_wp2_with fail
    refine (sameroute_any _ _ ⟨a, en, ex, lp, lo, lf, tm⟩ ⟨ax, enx, exx, lpx, lox, lfx, tmx⟩ q2 ⟨_, _, _, rfl, (HR.out.below b12).more b12.size⟩ ⟨_, _, _, rfl, (HRx.out.below b12).more b12.size⟩).mono ?_
    rintro e w3 ⟨rfl, b3⟩
    have B3_ := Lib.hid (BW.out.trans ((b12.trans (b3.mono b12.size)).mono BW.out.size))
    clear b12 b3 k0 j0 k1 j1 k2 j2 k3 j3 k4 j4 k5 j5 k6 j6
    cases he : eqB (⟨a, en, ex, lp, lo, lf, tm⟩ : Rt) ⟨ax, enx, exx, lpx, lox, lfx, tmx⟩ with
    | true =>
     have he2 := eqB_iff.1 he
     have NX : Hid (∀ j (hj : j < i + 1) (hl : j < l.length) (hm : j < m.length), l[j] = m[j]) := Lib.hid (fun j hj h1 h2 => by
      rcases Nat.lt_or_ge j i with h | h
      ·exact HALL.out j h h1 h2
      ·obtain rfl : j = i := by omega
       rw [HX.out, HXx.out]; exact he2)
     clear he he2
     go_wp2_with fail
     go_roundw
     case measure => simp [intOf]; omega
     case rel => exact ⟨i + 1, by omega, by go_num, NX.out, B3_.out⟩
    | false =>
     have HF : Hid (eqB l m = false) := Lib.hid (eqB_false fun h => by
      have h2 : l[i] = m[i] := getElem_congr' h
      rw [HX.out, HXx.out] at h2
      rw [eqB_true h2] at he
      cases he)
     clear he
     go_wp2_with fail
     go_ret
     exact ⟨by rw [HF.out]; rfl, B3_.out⟩
   ·obtain rfl : i = n := by omega
    have hlt' : ¬ (i : Int) < i := by omega
    have HF : Hid (eqB l m = true) := Lib.hid (eqB_true (list_ext (by rw [← HN.out, ← HN'.out]) fun j h1 h2 => HALL.out j (by rw [HN.out]; exact h1) h1 h2))
    go_wp2_with fail
    go_ret
    exact ⟨by rw [HF.out]; rfl, BW.out⟩
 ·have hnn' : ((n : Int) != n') = true := by simpa using (show ¬ (n : Int) = n' by omega)
  have HF : Hid (eqB l m = false) := Lib.hid (eqB_false fun h => hnn (by rw [HN.out, HN'.out, h]))
  clear hnn
  go_wp2_with fail
  go_ret
  exact ⟨by rw [HF.out]; rfl, Below.refl _ _⟩
set_option maxHeartbeats 8000000 in
theorem same_prog (v y : Value) (p o : Pl) (w : World) (h : PlanV w w.heap.size v p) (h' : PlanV w w.heap.size y o) :
  Calls Tryz.prog 130 #[v, y] w fun e w' => e = .returned (.bool (eqB p o)) ∧ Below w.heap.size w w' := by
 obtain ⟨A2, c2, A3, c3, A4, c4, A5, c5, n2, n3, n4, n5, rfl, hm2, hm3, hm4, hm5, HCP, HIN, HN⟩ := open_plan h
 obtain ⟨x2, x3, x4, x5, rfl, hon⟩ := h'
 have HON0 := Lib.hid hon
 obtain ⟨D2, g2, rfl, hcl2, hcm2⟩ := hon.secs.slice
 obtain ⟨D3, g3, rfl, hcl3, hcm3⟩ := hon.pts.slice
 obtain ⟨D4, g4, rfl, hcl4, hcm4⟩ := hon.sigs.slice
 obtain ⟨D5, g5, rfl, hcl5, hcm5⟩ := hon.routes.slice
 unfold maxLen at hcm2 hcm3 hcm4 hcm5
 obtain ⟨k2, hk2⟩ : ∃ n, n = o.secs.length := ⟨_, rfl⟩
 obtain ⟨k3, hk3⟩ : ∃ n, n = o.pts.length := ⟨_, rfl⟩
 obtain ⟨k4, hk4⟩ : ∃ n, n = o.sigs.length := ⟨_, rfl⟩
 obtain ⟨k5, hk5⟩ : ∃ n, n = o.routes.length := ⟨_, rfl⟩
 have hj2 : k2 ≤ 9223372036854775807 := by omega
 have hj3 : k3 ≤ 9223372036854775807 := by omega
 have hj4 : k4 ≤ 9223372036854775807 := by omega
 have hj5 : k5 ≤ 9223372036854775807 := by omega
 have HCPo : Hid (k2 ≤ g2 ∧ k3 ≤ g3 ∧ k4 ≤ g4 ∧ k5 ≤ g5) := Lib.hid (by omega)
 have HON : Hid (PlIn w w.heap.size (.slice D2 k2 g2) (.slice D3 k3 g3) (.slice D4 k4 g4) (.slice D5 k5 g5) o) := Lib.hid (by rw [hk2, hk3, hk4, hk5]; exact HON0.out)
 have HNo : Hid (k2 = o.secs.length ∧ k3 = o.pts.length ∧ k4 = o.sigs.length ∧ k5 = o.routes.length) := Lib.hid ⟨hk2, hk3, hk4, hk5⟩
 rw [← hk2, ← hk3, ← hk4, ← hk5]
 clear hk2 hk3 hk4 hk5 HON0 hon hcl2 hcm2 hcl3 hcm3 hcl4 hcm4 hcl5 hcm5
 have hq := two_boxes w (.cells #[.int .i64 p.ver, .int .i64 p.par, .slice A2 n2 c2, .slice A3 n3 c3, .slice A4 n4 c4, .slice A5 n5 c5] 33) (.cells #[.int .i64 o.ver, .int .i64 o.par, .slice D2 k2 g2, .slice D3 k3 g3, .slice D4 k4 g4, .slice D5 k5 g5] 33)
 go_enter Tryz.func130, Tryz.ntmps130
 go_upto_region 1 with fail
 generalize (w.alloc (.cells #[.int .i64 p.ver, .int .i64 p.par, .slice A2 n2 c2, .slice A3 n3 c3, .slice A4 n4 c4, .slice A5 n5 c5] 33)).alloc (.cells #[.int .i64 o.ver, .int .i64 o.par, .slice D2 k2 g2, .slice D3 k3 g3, .slice D4 k4 g4, .slice D5 k5 g5] 33) = q at hq ⊢
 obtain ⟨q0, q1, qb⟩ := hq
 have XA := Lib.hid q0
 have XB := Lib.hid q1
 have BQ := Lib.hid qb
 clear q0 q1 qb
 have HR := Lib.hid ((HIN.out.below BQ.out).more BQ.out.size)
 have HS := Lib.hid ((HON.out.below BQ.out).more BQ.out.size)
 clear HIN HON
 obtain ⟨m0, m1, m2, m3, m4, m5⟩ := cell6_of XA.out
 obtain ⟨j0, j1, j2, j3, j4, j5⟩ := cell6_of XB.out
 by_cases h0 : p.ver = o.ver
 rotate_left
 ·have d : (p.ver == o.ver) = false := by simpa using h0
  have HF : Hid (eqB p o = false) := Lib.hid (eqB_false (fun h => h0 (pl_eq.1 h).1))
  clear h0
  go_wp2_with fail
  go_ret
  exact ⟨by rw [HF.out]; rfl, BQ.out⟩
 have dh0 : (p.ver == o.ver) = true := by simpa using h0
 by_cases h1 : p.par = o.par
 rotate_left
 ·have d : (p.par == o.par) = false := by simpa using h1
  have HF : Hid (eqB p o = false) := Lib.hid (eqB_false (fun h => h1 (pl_eq.1 h).2.1))
  clear h1
  go_wp2_with fail
  go_ret
  exact ⟨by rw [HF.out]; rfl, BQ.out⟩
 have dh1 : (p.par == o.par) = true := by simpa using h1
 have E4 : Hid (p.ver = o.ver ∧ p.par = o.par) := Lib.hid ⟨h0, h1⟩
 clear h0 h1
 go_wp2_with fail
 refine (eqfunc_sec _ _ p.secs o.secs _ HR.out.secs HS.out.secs).mono ?_
 rintro e w1 ⟨rfl, b1⟩
 clear m0 m1 m2 m3 m4 m5 j0 j1 j2 j3 j4 j5
 replace BQ := Lib.hid (BQ.out.trans (b1.mono BQ.out.size))
 replace XA := Lib.hid ((b1.block _ (heap_lt XA.out)).trans XA.out)
 replace XB := Lib.hid ((b1.block _ (heap_lt XB.out)).trans XB.out)
 replace HR := Lib.hid ((HR.out.below b1).more b1.size)
 replace HS := Lib.hid ((HS.out.below b1).more b1.size)
 clear b1
 cases hc : eqB p.secs o.secs with
 | false =>
  have HF : Hid (eqB p o = false) := Lib.hid (eqB_false (fun h => by rw [eqB_true (pl_eq.1 h).2.2.1] at hc; cases hc))
  clear hc
  obtain ⟨m0, m1, m2, m3, m4, m5⟩ := cell6_of XA.out
  obtain ⟨j0, j1, j2, j3, j4, j5⟩ := cell6_of XB.out
  go_wp2_with fail
  go_ret
  exact ⟨by rw [HF.out]; rfl, BQ.out⟩
 | true =>
 have E5 := Lib.hid (eqB_iff.1 hc)
 clear hc
 obtain ⟨m0, m1, m2, m3, m4, m5⟩ := cell6_of XA.out
 obtain ⟨j0, j1, j2, j3, j4, j5⟩ := cell6_of XB.out
 go_wp2_with fail
 refine (equal_pt _ _ p.pts o.pts _ HR.out.pts HS.out.pts).mono ?_
 rintro e w2 ⟨rfl, b1⟩
 clear m0 m1 m2 m3 m4 m5 j0 j1 j2 j3 j4 j5
 replace BQ := Lib.hid (BQ.out.trans (b1.mono BQ.out.size))
 replace XA := Lib.hid ((b1.block _ (heap_lt XA.out)).trans XA.out)
 replace XB := Lib.hid ((b1.block _ (heap_lt XB.out)).trans XB.out)
 replace HR := Lib.hid ((HR.out.below b1).more b1.size)
 replace HS := Lib.hid ((HS.out.below b1).more b1.size)
 clear b1
 cases hc : eqB p.pts o.pts with
 | false =>
  have HF : Hid (eqB p o = false) := Lib.hid (eqB_false (fun h => by rw [eqB_true (pl_eq.1 h).2.2.2.1] at hc; cases hc))
  clear hc
  obtain ⟨m0, m1, m2, m3, m4, m5⟩ := cell6_of XA.out
  obtain ⟨j0, j1, j2, j3, j4, j5⟩ := cell6_of XB.out
  go_wp2_with fail
  go_ret
  exact ⟨by rw [HF.out]; rfl, BQ.out⟩
 | true =>
 have E6 := Lib.hid (eqB_iff.1 hc)
 clear hc
 obtain ⟨m0, m1, m2, m3, m4, m5⟩ := cell6_of XA.out
 obtain ⟨j0, j1, j2, j3, j4, j5⟩ := cell6_of XB.out
 go_wp2_with fail
 refine (equal_sg _ _ p.sigs o.sigs _ HR.out.sigs HS.out.sigs).mono ?_
 rintro e w3 ⟨rfl, b1⟩
 clear m0 m1 m2 m3 m4 m5 j0 j1 j2 j3 j4 j5
 replace BQ := Lib.hid (BQ.out.trans (b1.mono BQ.out.size))
 replace XA := Lib.hid ((b1.block _ (heap_lt XA.out)).trans XA.out)
 replace XB := Lib.hid ((b1.block _ (heap_lt XB.out)).trans XB.out)
 replace HR := Lib.hid ((HR.out.below b1).more b1.size)
 replace HS := Lib.hid ((HS.out.below b1).more b1.size)
 clear b1
 cases hc : eqB p.sigs o.sigs with
 | false =>
  have HF : Hid (eqB p o = false) := Lib.hid (eqB_false (fun h => by rw [eqB_true (pl_eq.1 h).2.2.2.2.1] at hc; cases hc))
  clear hc
  obtain ⟨m0, m1, m2, m3, m4, m5⟩ := cell6_of XA.out
  obtain ⟨j0, j1, j2, j3, j4, j5⟩ := cell6_of XB.out
  go_wp2_with fail
  go_ret
  exact ⟨by rw [HF.out]; rfl, BQ.out⟩
 | true =>
 have E7 := Lib.hid (eqB_iff.1 hc)
 clear hc
 obtain ⟨m0, m1, m2, m3, m4, m5⟩ := cell6_of XA.out
 obtain ⟨j0, j1, j2, j3, j4, j5⟩ := cell6_of XB.out
 go_wp2_with fail
 refine (eqfunc_rt _ _ p.routes o.routes _ HR.out.routes HS.out.routes).mono ?_
 rintro e w4 ⟨rfl, b1⟩
 clear m0 m1 m2 m3 m4 m5 j0 j1 j2 j3 j4 j5
 replace BQ := Lib.hid (BQ.out.trans (b1.mono BQ.out.size))
 replace XA := Lib.hid ((b1.block _ (heap_lt XA.out)).trans XA.out)
 replace XB := Lib.hid ((b1.block _ (heap_lt XB.out)).trans XB.out)
 replace HR := Lib.hid ((HR.out.below b1).more b1.size)
 replace HS := Lib.hid ((HS.out.below b1).more b1.size)
 clear b1
 cases hc : eqB p.routes o.routes with
 | false =>
  have HF : Hid (eqB p o = false) := Lib.hid (eqB_false (fun h => by rw [eqB_true (pl_eq.1 h).2.2.2.2.2] at hc; cases hc))
  clear hc
  obtain ⟨m0, m1, m2, m3, m4, m5⟩ := cell6_of XA.out
  obtain ⟨j0, j1, j2, j3, j4, j5⟩ := cell6_of XB.out
  go_wp2_with fail
  go_ret
  exact ⟨by rw [HF.out]; rfl, BQ.out⟩
 | true =>
 have E8 := Lib.hid (eqB_iff.1 hc)
 clear hc
 obtain ⟨m0, m1, m2, m3, m4, m5⟩ := cell6_of XA.out
 obtain ⟨j0, j1, j2, j3, j4, j5⟩ := cell6_of XB.out
 have HF : Hid (eqB p o = true) := Lib.hid (eqB_true (pl_eq.2 ⟨E4.out.1, E4.out.2, E5.out, E6.out, E7.out, E8.out⟩))
 go_wp2_with fail
 go_ret
 exact ⟨by rw [HF.out]; rfl, BQ.out⟩
end Go.Proofs.YtneeocnjfnneoaaGreat
