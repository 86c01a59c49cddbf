/-
 The document's own functions of package plan: PointAt, SignalAt, RouteAt, At, Ints, Great.
 Conditions: none.
-/
import Derived.Test.YtneeocnjfnneoaaQGBase
import Derived.Test.YtneeocnjfnneoaaQGTrkRef
import Derived.BigQuiet
set_option linter.unusedVariables false
set_option linter.unusedSimpArgs false
set_option maxRecDepth 100000
namespace Go.Proofs.Ytneeocnjfnneoaa
open Go.RowKit

/-- The place of the first one of that number; -1: there is none. -/
def at1 {α : Type} (k : α → Int) (l : List α) (id : Int) : Int := match l.findIdx? (fun s => decide (k s = id)) with
 | some i => (i : Int)
 | none => -1
theorem at1_none {α : Type} {k : α → Int} {l : List α} {id : Int} (h : ∀ j (h : j < l.length), k l[j] ≠ id) : at1 k l id = -1 := by
 have : l.findIdx? (fun s => decide (k s = id)) = none := by
  rw [List.findIdx?_eq_none_iff]
  intro x hx
  obtain ⟨j, hj, rfl⟩ := List.getElem_of_mem hx
  exact decide_eq_false (h j hj)
 rw [at1, this]
theorem at1_some {α : Type} {k : α → Int} {l : List α} {id : Int} {i : Nat} (hi : i < l.length) (he : k l[i] = id) (h : ∀ j (h : j < i), k (l[j]'(by omega)) ≠ id) : at1 k l id = (i : Int) := by
 have : l.findIdx? (fun s => decide (k s = id)) = some i := by
  rw [List.findIdx?_eq_some_iff_getElem]
  exact ⟨hi, decide_eq_true he, fun j hj => by simpa using h j hj⟩
 rw [at1, this]
theorem at1_cases {α : Type} (k : α → Int) (l : List α) (id : Int) : (at1 k l id = -1 ∧ ∀ j (h : j < l.length), k l[j] ≠ id) ∨ ∃ (i : Nat) (h : i < l.length), at1 k l id = (i : Int) ∧ k l[i] = id ∧ ∀ j (hj : j < i), k (l[j]'(by omega)) ≠ id := by
 rw [at1]
 cases h : l.findIdx? (fun s => decide (k s = id)) with
 | none =>
  refine .inl ⟨rfl, fun j hj => ?_⟩
  have := List.findIdx?_eq_none_iff.1 h _ (List.getElem_mem hj)
  exact of_decide_eq_false this
 | some i =>
  obtain ⟨hi, he, h2⟩ := List.findIdx?_eq_some_iff_getElem.1 h
  exact .inr ⟨i, hi, rfl, of_decide_eq_true he, fun j hj => by simpa using h2 j hj⟩

/-- Two lists of numbers. -/
theorem rints_any (v y : Value) (l m : List Int) (w : World) (h : IntsIn w w.heap.size v l) (h' : IntsIn w w.heap.size y m) :
  Calls Try.prog 12 #[v, y] w fun e w' => e = .returned (.bool (decide (l = m))) ∧ Below w.heap.size w w' := by
 have H := Lib.hid h
 have H' := Lib.hid h'
 obtain ⟨A, c, rfl, hcl, hcm⟩ := h.slice
 obtain ⟨A', c', rfl, hcl', hcm'⟩ := h'.slice
 have hml : l.length ≤ 9223372036854775807 := by unfold maxLen at hcm; omega
 obtain ⟨n, hn⟩ : ∃ n, n = l.length := ⟨_, rfl⟩
 obtain ⟨n', hn'⟩ : ∃ n', n' = m.length := ⟨_, rfl⟩
 have HN := Lib.hid hn
 have HN' := Lib.hid hn'
 have HA := Lib.hid (show IntsIn w w.heap.size (.slice A n c) l by rw [hn]; exact H.out)
 have HA' := Lib.hid (show IntsIn w w.heap.size (.slice A' n' c') m by rw [hn']; exact H'.out)
 have HD : Hid (∀ g : Bool, (g = true ↔ l = m) → g = decide (l = m)) := Lib.hid (fun g h => by rw [Bool.eq_iff_iff, decide_eq_true_iff]; exact h)
 generalize hg : decide (l = m) = g at HD ⊢
 rw [← hn] at hml ⊢
 rw [← hn']
 clear hn hn' H H' hcl hcm hcl' hcm' h h' hg
 go_enter Try.func12, Try.ntmps12
 by_cases hnn : n = n'
 ·subst hnn
  go_wp2_with fail
  go_loopw [5] (fun s5 wr => ∃ i : Nat, i ≤ n ∧ s5 = .int .i64 i ∧ (∀ j (hj : j < i) (hl : j < l.length) (hm : j < m.length), l[j] = m[j]) ∧ Below w.heap.size w wr) (fun s5 _ => n - (intOf s5).toNat)
  case atStart => exact ⟨0, by omega, by go_num, fun j hj => absurd hj (by omega), Below.refl _ _⟩
  case round =>
   obtain ⟨i, hi, rfl, hall, hbw⟩ := hrel
   have HALL := Lib.hid hall
   have BW := Lib.hid hbw
   clear hall hbw
   by_cases hlt : i < n
   ·have hlt' : (i : Int) < n := by omega
    have hir : i < l.length := by rw [← HN.out]; exact hlt
    have him : i < m.length := by rw [← HN'.out]; exact hlt
    obtain ⟨b, off, rfl, hb, hc0⟩ := ((HA.out.below intR BW.out).more intR BW.out.size).at hir
    obtain ⟨b', off', rfl, hb', hc0'⟩ := ((HA'.out.below intR BW.out).more intR BW.out.size).at him
    obtain ⟨z, hz⟩ : ∃ z, z = l[i] := ⟨_, rfl⟩
    obtain ⟨z', hz'⟩ : ∃ z', z' = m[i] := ⟨_, rfl⟩
    have hcell : wr.cell? ⟨b, off + i, none⟩ = some (.int .i64 z) := by rw [hz]; simpa [IntR] using hc0
    have hcell' : wr.cell? ⟨b', off' + i, none⟩ = some (.int .i64 z') := by rw [hz']; simpa [IntR] using hc0'
    have HZ := Lib.hid hz
    have HZ' := Lib.hid hz'
    have BD : Hid (∀ nq, Below w.heap.size w (wr.drewN nq)) := Lib.hid (fun nq => ⟨BW.out.os, BW.out.tape, BW.out.output, BW.out.size, BW.out.block⟩)
    clear hc0 hc0' hz hz' hb hb'
    by_cases he : z = z'
    ·have hne : (z != z') = false := by simpa using he
     have HS : Hid (∀ j (hj : j < i + 1) (hl : j < l.length) (hm : j < m.length), l[j] = m[j]) := Lib.hid (fun j hj hl hm => by
      rcases Nat.lt_or_ge j i with h | h
      ·exact HALL.out j h hl hm
      ·obtain rfl : j = i := by omega
       rw [← HZ.out, ← HZ'.out]; exact he)
     clear he
     go_upto_region 6 with fail
     go_quiet (fail)
     have hdb := BD.out nq
     generalize wr.drewN nq = q5 at hdb ⊢
     have B5 := Lib.hid hdb
     clear hdb BD hcell hcell'
     go_wp2_with fail
     go_roundw
     case measure => simp [intOf]; omega
     case rel => exact ⟨i + 1, by omega, by go_num, HS.out, B5.out⟩
    ·have hne : (z != z') = true := by simpa using he
     have HF : Hid (false = g) := Lib.hid (HD.out false ⟨(fun h => Bool.noConfusion h), fun h => by subst h; exact absurd (HZ.out.trans HZ'.out.symm) he⟩)
     clear he
     go_upto_region 6 with fail
     go_quiet (fail)
     have hdb := BD.out nq
     generalize wr.drewN nq = q5 at hdb ⊢
     have B5 := Lib.hid hdb
     clear hdb BD hcell hcell'
     go_wp2_with fail
     go_ret
     exact ⟨by rw [← HF.out]; rfl, B5.out⟩
   ·obtain rfl : i = n := by omega
    have hlt' : ¬ (i : Int) < i := by omega
    have HF : Hid (true = g) := Lib.hid (HD.out true ⟨fun _ => List.ext_getElem (by rw [← HN.out, ← HN'.out]) fun j h1 h2 => HALL.out j (by rw [HN.out]; exact h1) h1 h2, fun _ => rfl⟩)
    go_wp2_with fail
    go_ret
    exact ⟨by rw [← HF.out]; rfl, BW.out⟩
 ·have hnn' : ((n : Int) != n') = true := by simpa using (show ¬ (n : Int) = n' by omega)
  have HF : Hid (false = g) := Lib.hid (HD.out false ⟨(fun h => Bool.noConfusion h), fun h => by subst h; exact absurd (HN.out.trans HN'.out.symm) hnn⟩)
  go_wp2_with fail
  go_ret
  exact ⟨by rw [← HF.out]; rfl, Below.refl _ _⟩

/-- The signal that stands at an end; 0: none. -/
def standsS (l : List Sg) (sec en : Int) : Int := match l.find? (fun s => decide (s.2.1 = sec ∧ s.2.2 = en)) with
 | some s => s.1
 | none => 0
/-- Plans that are not great. -/
structure FewP (p : Pl) : Prop where
 secs : Few p.secs
 pts : p.pts.length ≤ 40
 sigs : p.sigs.length ≤ 40
 routes : p.routes.length ≤ 40
 each : ∀ j (h : j < p.routes.length), p.routes[j].path.length ≤ 20 ∧ p.routes[j].over.length ≤ 20 ∧ p.routes[j].flanks.length ≤ 20
abbrev hasPt : Sec → Bool := fun s => decide (s.2.1 ≠ 0)
/-- A plan's points may be. -/
structure PtsMay (p : Pl) : Prop where
 n : p.pts.length ≤ 6
 many : p.secs.countP hasPt = p.pts.length
 each : ∀ i (h : i < p.pts.length), 1 ≤ p.pts[i].1 ∧ p.pts[i].1 ≤ 99 ∧ (∀ j (hj : j + 1 = i), (p.pts[j]'(by omega)).1 < p.pts[i].1) ∧ ∃ k, ∃ hk : k < p.secs.length, atS p.secs p.pts[i].2 = (k : Int) ∧ p.secs[k].2.1 = p.pts[i].1
/-- A plan's signals may be. -/
structure SigsMay (p : Pl) : Prop where
 n : p.sigs.length ≤ 10
 each : ∀ i (h : i < p.sigs.length), 1 ≤ p.sigs[i].1 ∧ p.sigs[i].1 ≤ 99 ∧ (∃ k, ∃ hk : k < p.secs.length, atS p.secs p.sigs[i].2.1 = (k : Int) ∧ 0 ≤ p.sigs[i].2.2 ∧ p.sigs[i].2.2 < p.secs[k].2.2.length) ∧ ∀ m (hm : m < i), (p.sigs[m]'(by omega)).1 < p.sigs[i].1 ∧ ¬ ((p.sigs[m]'(by omega)).2.1 = p.sigs[i].2.1 ∧ (p.sigs[m]'(by omega)).2.2 = p.sigs[i].2.2)
end Go.Proofs.Ytneeocnjfnneoaa
