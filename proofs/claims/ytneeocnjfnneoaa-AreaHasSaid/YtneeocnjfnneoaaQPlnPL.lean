/-
 The program's package plan: lists, sections, routes and plans compared.
 Conditions: none.
-/
import Derived.Test.YtneeocnjfnneoaaQPlnPC
import Derived.Lib.AppendZeros
import Derived.Test.YtneeocnjfnneoaaQGPlnRefD
set_option linter.unusedVariables false
set_option linter.unusedSimpArgs false
set_option maxRecDepth 100000
namespace Go.Proofs.Ytneeocnjfnneoaa
open Go.RowKit

set_option maxHeartbeats 4000000 in
theorem equal_int (v y : Value) (l m : List Int) (w : World) (h : IntsIn w w.heap.size v l) (h' : IntsIn w w.heap.size y m) :
  Calls Try.prog 11 #[v, y] w fun e w' => e = .returned (.bool (eqB l m)) ∧ Below w.heap.size w w' := by
 have H := Lib.hid h
 have H' := Lib.hid h'
 obtain ⟨A, c, rfl, hcl, hcm⟩ := h.slice
 obtain ⟨A', c', rfl, hcl', hcm'⟩ := h'.slice
 have hml : l.length ≤ 9223372036854775807 := by unfold maxLen at hcm; omega
 obtain ⟨n, hn⟩ : ∃ n, n = l.length := ⟨_, rfl⟩
 obtain ⟨n', hn'⟩ : ∃ n', n' = m.length := ⟨_, rfl⟩
 have HN := Lib.hid hn
 have HN' := Lib.hid hn'
 have HA := Lib.hid (show IntsIn w w.heap.size (.slice A n c) l by rw [hn]; exact H.out)
 have HA' := Lib.hid (show IntsIn w w.heap.size (.slice A' n' c') m by rw [hn']; exact H'.out)
 have hml' : n' ≤ 9223372036854775807 := by unfold maxLen at hcm'; omega
 rw [← hn] at hml ⊢
 rw [← hn']
 clear hn hn' H H' hcl hcm hcl' hcm' h h'
 go_enter Try.func11, Try.ntmps11
 by_cases hnn : n = n'
 ·subst hnn
  go_wp2_with fail
  go_loopw [13] (fun s13 wr => ∃ i : Nat, i ≤ n ∧ s13 = .int .i64 i ∧ (∀ j (hj : j < i) (hl : j < l.length) (hm : j < m.length), l[j] = m[j]) ∧ Below w.heap.size w wr) (fun s13 _ => n - (intOf s13).toNat)
  case atStart => exact ⟨0, by omega, by go_num, fun j hj => absurd hj (by omega), Below.refl _ _⟩
  case round =>
   obtain ⟨i, hi, rfl, hall, hbw⟩ := hrel
   have HALL := Lib.hid hall
   have BW := Lib.hid hbw
   clear hall hbw
   by_cases hlt : i < n
   ·have hlt' : (i : Int) < n := by omega
    have hir : i < l.length := by rw [← HN.out]; exact hlt
    have him : i < m.length := by rw [← HN'.out]; exact hlt
    obtain ⟨b, off, rfl, hb, hc0⟩ := ((HA.out.below intR BW.out).more intR BW.out.size).at hir
    obtain ⟨b', off', rfl, hb', hc0'⟩ := ((HA'.out.below intR BW.out).more intR BW.out.size).at him
    obtain ⟨x, hx⟩ : ∃ z, z = l[i] := ⟨_, rfl⟩
    obtain ⟨y, hy⟩ : ∃ z, z = m[i] := ⟨_, rfl⟩
    have hg0 : wr.cell? ⟨b, off + i, none⟩ = some (.int .i64 x) := by rw [hx]; simpa [IntR] using hc0
    have hh0 : wr.cell? ⟨b', off' + i, none⟩ = some (.int .i64 y) := by rw [hy]; simpa [IntR] using hc0'
    have HX := Lib.hid hx
    have HY := Lib.hid hy
    clear hc0 hc0' hx hy hb hb'
    have BD : Hid (∀ nq, Below w.heap.size w (wr.drewN nq)) := Lib.hid (fun nq => ⟨BW.out.os, BW.out.tape, BW.out.output, BW.out.size, BW.out.block⟩)
    go_upto_region 6 with fail
    by_cases he : x = y
    ·have hcmp : (x != y) = false := by simpa using he
     have NX : Hid (∀ j (hj : j < i + 1) (hl : j < l.length) (hm : j < m.length), l[j] = m[j]) := Lib.hid (fun j hj h1 h2 => by
      rcases Nat.lt_or_ge j i with h | h
      ·exact HALL.out j h h1 h2
      ·obtain rfl : j = i := by omega
       rw [← HX.out, ← HY.out]; exact he)
     clear he
     go_quiet (fail)
     have hdb := BD.out nq
     generalize wr.drewN nq = q7 at hdb ⊢
     have B7 := Lib.hid hdb
     clear hdb BD hcmp hg0 hh0
     go_wp2_with fail
     go_roundw
     case measure => simp [intOf]; omega
     case rel => exact ⟨i + 1, by omega, by go_num, NX.out, B7.out⟩
    ·have hcmp : (x != y) = true := by simpa using he
     have HF : Hid (eqB l m = false) := Lib.hid (eqB_false fun h => he (by rw [HX.out, HY.out]; exact getElem_congr' h))
     clear he
     go_quiet (fail)
     have hdb := BD.out nq
     generalize wr.drewN nq = q7 at hdb ⊢
     have B7 := Lib.hid hdb
     clear hdb BD hcmp hg0 hh0
     go_wp2_with fail
     go_ret
     exact ⟨by rw [HF.out]; rfl, B7.out⟩
   ·obtain rfl : i = n := by omega
    have hlt' : ¬ (i : Int) < i := by omega
    have HF : Hid (eqB l m = true) := Lib.hid (eqB_true (list_ext (by rw [← HN.out, ← HN'.out]) fun j h1 h2 => HALL.out j (by rw [HN.out]; exact h1) h1 h2))
    go_wp2_with fail
    go_ret
    exact ⟨by rw [HF.out]; rfl, BW.out⟩
 ·have hnn' : ((n : Int) != n') = true := by simpa using (show ¬ (n : Int) = n' by omega)
  have HF : Hid (eqB l m = false) := Lib.hid (eqB_false fun h => hnn (by rw [HN.out, HN'.out, h]))
  clear hnn
  go_wp2_with fail
  go_ret
  exact ⟨by rw [HF.out]; rfl, Below.refl _ _⟩
end Go.Proofs.Ytneeocnjfnneoaa
