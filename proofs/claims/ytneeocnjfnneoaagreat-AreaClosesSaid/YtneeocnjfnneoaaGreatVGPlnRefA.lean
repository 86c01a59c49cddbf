/-
 The document's own functions of package plan: PointAt, SignalAt, RouteAt, At, Ints, Great.
 Conditions: none.
-/
import Derived.Test.YtneeocnjfnneoaaGreatVGBase
import Derived.Test.YtneeocnjfnneoaaGreatVGTrkRef
import Derived.BigQuiet
set_option linter.unusedVariables false
set_option linter.unusedSimpArgs false
set_option maxRecDepth 100000
namespace Go.Proofs.YtneeocnjfnneoaaGreat
open Go.RowKit

/-- The place of the first one of that number; -1: there is none. -/
def at1 {α : Type} (k : α → Int) (l : List α) (id : Int) : Int := match l.findIdx? (fun s => decide (k s = id)) with
 | some i => (i : Int)
 | none => -1
theorem at1_none {α : Type} {k : α → Int} {l : List α} {id : Int} (h : ∀ j (h : j < l.length), k l[j] ≠ id) : at1 k l id = -1 := by
 have : l.findIdx? (fun s => decide (k s = id)) = none := by
  rw [List.findIdx?_eq_none_iff]
  intro x hx
  obtain ⟨j, hj, rfl⟩ := List.getElem_of_mem hx
  exact decide_eq_false (h j hj)
 rw [at1, this]
theorem at1_some {α : Type} {k : α → Int} {l : List α} {id : Int} {i : Nat} (hi : i < l.length) (he : k l[i] = id) (h : ∀ j (h : j < i), k (l[j]'(by omega)) ≠ id) : at1 k l id = (i : Int) := by
 have : l.findIdx? (fun s => decide (k s = id)) = some i := by
  rw [List.findIdx?_eq_some_iff_getElem]
  exact ⟨hi, decide_eq_true he, fun j hj => by simpa using h j hj⟩
 rw [at1, this]
theorem at1_cases {α : Type} (k : α → Int) (l : List α) (id : Int) : (at1 k l id = -1 ∧ ∀ j (h : j < l.length), k l[j] ≠ id) ∨ ∃ (i : Nat) (h : i < l.length), at1 k l id = (i : Int) ∧ k l[i] = id ∧ ∀ j (hj : j < i), k (l[j]'(by omega)) ≠ id := by
 rw [at1]
 cases h : l.findIdx? (fun s => decide (k s = id)) with
 | none =>
  refine .inl ⟨rfl, fun j hj => ?_⟩
  have := List.findIdx?_eq_none_iff.1 h _ (List.getElem_mem hj)
  exact of_decide_eq_false this
 | some i =>
  obtain ⟨hi, he, h2⟩ := List.findIdx?_eq_some_iff_getElem.1 h
  exact .inr ⟨i, hi, rfl, of_decide_eq_true he, fun j hj => by simpa using h2 j hj⟩

/-- Two lists of numbers. -/
theorem rints_any (v y : Value) (l m : List Int) (w : World) (h : IntsIn w w.heap.size v l) (h' : IntsIn w w.heap.size y m) :
  Calls Tryz.prog 44 #[v, y] w fun e w' => e = .returned (.bool (decide (l = m))) ∧ Below w.heap.size w w' := by
 have H := Lib.hid h
 have H' := Lib.hid h'
 obtain ⟨A, c, rfl, hcl, hcm⟩ := h.slice
 obtain ⟨A', c', rfl, hcl', hcm'⟩ := h'.slice
 have hml : l.length ≤ 9223372036854775807 := by unfold maxLen at hcm; omega
 obtain ⟨n, hn⟩ : ∃ n, n = l.length := ⟨_, rfl⟩
 obtain ⟨n', hn'⟩ : ∃ n', n' = m.length := ⟨_, rfl⟩
 have HN := Lib.hid hn
 have HN' := Lib.hid hn'
 have HA := Lib.hid (show IntsIn w w.heap.size (.slice A n c) l by rw [hn]; exact H.out)
 have HA' := Lib.hid (show IntsIn w w.heap.size (.slice A' n' c') m by rw [hn']; exact H'.out)
 have HD : Hid (∀ g : Bool, (g = true ↔ l = m) → g = decide (l = m)) := Lib.hid (fun g h => by rw [Bool.eq_iff_iff, decide_eq_true_iff]; exact h)
 generalize hg : decide (l = m) = g at HD ⊢
 rw [← hn] at hml ⊢
 rw [← hn']
 clear hn hn' H H' hcl hcm hcl' hcm' h h' hg
 go_enter Tryz.func44, Tryz.ntmps44
 by_cases hnn : n = n'
 ·subst hnn
  go_wp2_with fail
  go_loopw [5] (fun s5 wr => ∃ i : Nat, i ≤ n ∧ s5 = .int .i64 i ∧ (∀ j (hj : j < i) (hl : j < l.length) (hm : j < m.length), l[j] = m[j]) ∧ Below w.heap.size w wr) (fun s5 _ => n - (intOf s5).toNat)
  case atStart => exact ⟨0, by omega, by go_num, fun j hj => absurd hj (by omega), Below.refl _ _⟩
  case round =>
   obtain ⟨i, hi, rfl, hall, hbw⟩ := hrel
   have HALL := Lib.hid hall
   have BW := Lib.hid hbw
   clear hall hbw
   by_cases hlt : i < n
   ·have hlt' : (i : Int) < n := by omega
    have hir : i < l.length := by rw [← HN.out]; exact hlt
    have him : i < m.length := by rw [← HN'.out]; exact hlt
    obtain ⟨b, off, rfl, hb, hc0⟩ := ((HA.out.below intR BW.out).more intR BW.out.size).at hir
    obtain ⟨b', off', rfl, hb', hc0'⟩ := ((HA'.out.below intR BW.out).more intR BW.out.size).at him
    obtain ⟨z, hz⟩ : ∃ z, z = l[i] := ⟨_, rfl⟩
    obtain ⟨z', hz'⟩ : ∃ z', z' = m[i] := ⟨_, rfl⟩
    have hcell : wr.cell? ⟨b, off + i, none⟩ = some (.int .i64 z) := by rw [hz]; simpa [IntR] using hc0
    have hcell' : wr.cell? ⟨b', off' + i, none⟩ = some (.int .i64 z') := by rw [hz']; simpa [IntR] using hc0'
    have HZ := Lib.hid hz
    have HZ' := Lib.hid hz'
    have BD : Hid (∀ nq, Below w.heap.size w (wr.drewN nq)) := Lib.hid (fun nq => ⟨BW.out.os, BW.out.tape, BW.out.output, BW.out.size, BW.out.block⟩)
    clear hc0 hc0' hz hz' hb hb'
    by_cases he : z = z'
    ·have hne : (z != z') = false := by simpa using he
     have HS : Hid (∀ j (hj : j < i + 1) (hl : j < l.length) (hm : j < m.length), l[j] = m[j]) := Lib.hid (fun j hj hl hm => by
      rcases Nat.lt_or_ge j i with h | h
      ·exact HALL.out j h hl hm
      ·obtain rfl : j = i := by omega
       rw [← HZ.out, ← HZ'.out]; exact he)
     clear he
     go_upto_region 6 with fail
     go_quiet (fail)
     have hdb := BD.out nq
     generalize wr.drewN nq = q5 at hdb ⊢
     have B5 := Lib.hid hdb
     clear hdb BD hcell hcell'
     go_wp2_with fail
     go_roundw
     case measure => simp [intOf]; omega
     case rel => exact ⟨i + 1, by omega, by go_num, HS.out, B5.out⟩
    ·have hne : (z != z') = true := by simpa using he
     have HF : Hid (false = g) := Lib.hid (HD.out false ⟨(fun h => Bool.noConfusion h), fun h => by subst h; exact absurd (HZ.out.trans HZ'.out.symm) he⟩)
     clear he
     go_upto_region 6 with fail
     go_quiet (fail)
     have hdb := BD.out nq
     generalize wr.drewN nq = q5 at hdb ⊢
     have B5 := Lib.hid hdb
     clear hdb BD hcell hcell'
     go_wp2_with fail
     go_ret
     exact ⟨by rw [← HF.out]; rfl, B5.out⟩
   ·obtain rfl : i = n := by omega
    have hlt' : ¬ (i : Int) < i := by omega
    have HF : Hid (true = g) := Lib.hid (HD.out true ⟨fun _ => List.ext_getElem (by rw [← HN.out, ← HN'.out]) fun j h1 h2 => HALL.out j (by rw [HN.out]; exact h1) h1 h2, fun _ => rfl⟩)
    go_wp2_with fail
    go_ret
    exact ⟨by rw [← HF.out]; rfl, BW.out⟩
 ·have hnn' : ((n : Int) != n') = true := by simpa using (show ¬ (n : Int) = n' by omega)
  have HF : Hid (false = g) := Lib.hid (HD.out false ⟨(fun h => Bool.noConfusion h), fun h => by subst h; exact absurd (HN.out.trans HN'.out.symm) hnn⟩)
  go_wp2_with fail
  go_ret
  exact ⟨by rw [← HF.out]; rfl, Below.refl _ _⟩

theorem cell6_of {w : World} {b : Nat} {v0 v1 v2 v3 v4 v5 : Value} {t : TypeId} {fr : Nat × Nat} (h : w.heap[b]? = some (.cells #[v0, v1, v2, v3, v4, v5] t fr)) : w.cell? ⟨b, 0, none⟩ = some v0 ∧ w.cell? ⟨b, 1, none⟩ = some v1 ∧ w.cell? ⟨b, 2, none⟩ = some v2 ∧ w.cell? ⟨b, 3, none⟩ = some v3 ∧ w.cell? ⟨b, 4, none⟩ = some v4 ∧ w.cell? ⟨b, 5, none⟩ = some v5 :=
 ⟨cell_of_row _ _ _ _ _ _ h, cell_of_row _ _ _ _ _ _ h, cell_of_row _ _ _ _ _ _ h, cell_of_row _ _ _ _ _ _ h, cell_of_row _ _ _ _ _ _ h, cell_of_row _ _ _ _ _ _ h⟩
theorem cell7_of {w : World} {b : Nat} {v0 v1 v2 v3 v4 v5 v6 : Value} {t : TypeId} {fr : Nat × Nat} (h : w.heap[b]? = some (.cells #[v0, v1, v2, v3, v4, v5, v6] t fr)) : w.cell? ⟨b, 0, none⟩ = some v0 ∧ w.cell? ⟨b, 1, none⟩ = some v1 ∧ w.cell? ⟨b, 2, none⟩ = some v2 ∧ w.cell? ⟨b, 3, none⟩ = some v3 ∧ w.cell? ⟨b, 4, none⟩ = some v4 ∧ w.cell? ⟨b, 5, none⟩ = some v5 ∧ w.cell? ⟨b, 6, none⟩ = some v6 :=
 ⟨cell_of_row _ _ _ _ _ _ h, cell_of_row _ _ _ _ _ _ h, cell_of_row _ _ _ _ _ _ h, cell_of_row _ _ _ _ _ _ h, cell_of_row _ _ _ _ _ _ h, cell_of_row _ _ _ _ _ _ h, cell_of_row _ _ _ _ _ _ h⟩

/-- The signal that stands at an end; 0: none. -/
def standsS (l : List Sg) (sec en : Int) : Int := match l.find? (fun s => decide (s.2.1 = sec ∧ s.2.2 = en)) with
 | some s => s.1
 | none => 0
theorem stands_none {l : List Sg} {sec en : Int} (h : ∀ j (h : j < l.length), ¬ (l[j].2.1 = sec ∧ l[j].2.2 = en)) : standsS l sec en = 0 := by
 have : l.find? (fun s => decide (s.2.1 = sec ∧ s.2.2 = en)) = none := by
  rw [List.find?_eq_none]
  intro x hx
  obtain ⟨j, hj, rfl⟩ := List.getElem_of_mem hx
  simpa using h j hj
 rw [standsS, this]
theorem stands_some {l : List Sg} {sec en : Int} {i : Nat} (hi : i < l.length) (he : l[i].2.1 = sec ∧ l[i].2.2 = en) (h : ∀ j (h : j < i), ¬ ((l[j]'(by omega)).2.1 = sec ∧ (l[j]'(by omega)).2.2 = en)) : standsS l sec en = l[i].1 := by
 have : l.find? (fun s => decide (s.2.1 = sec ∧ s.2.2 = en)) = some l[i] := by
  rw [List.find?_eq_some_iff_getElem]
  exact ⟨decide_eq_true he, i, hi, rfl, fun j hj => by simp only [Bool.not_eq_true', decide_eq_false_iff_not]; exact h j hj⟩
 rw [standsS, this]
/-- Plans that are not great. -/
structure FewP (p : Pl) : Prop where
 secs : Few p.secs
 pts : p.pts.length ≤ 40
 sigs : p.sigs.length ≤ 40
 routes : p.routes.length ≤ 40
 each : ∀ j (h : j < p.routes.length), p.routes[j].path.length ≤ 20 ∧ p.routes[j].over.length ≤ 20 ∧ p.routes[j].flanks.length ≤ 20
set_option maxHeartbeats 8000000 in
theorem rgreat8_any (v : Value) (p : Pl) (w : World) (h : PlanV w w.heap.size v p) :
  Calls Tryz.prog 15 #[v] w fun e w' => (∃ g : Bool, e = .returned (.bool g) ∧ (g = false → FewP p)) ∧ Below w.heap.size w w' := by
 obtain ⟨y2, y3, y4, y5, rfl, hin⟩ := h
 have HIN := Lib.hid hin
 obtain ⟨A2, c2, rfl, hcl2, hcm2⟩ := hin.secs.slice
 obtain ⟨A3, c3, rfl, hcl3, hcm3⟩ := hin.pts.slice
 obtain ⟨A4, c4, rfl, hcl4, hcm4⟩ := hin.sigs.slice
 obtain ⟨A5, c5, rfl, hcl5, hcm5⟩ := hin.routes.slice
 unfold maxLen at hcm2 hcm3 hcm4 hcm5
 obtain ⟨n2, hn2⟩ : ∃ n, n = p.secs.length := ⟨_, rfl⟩
 obtain ⟨n3, hn3⟩ : ∃ n, n = p.pts.length := ⟨_, rfl⟩
 obtain ⟨n4, hn4⟩ : ∃ n, n = p.sigs.length := ⟨_, rfl⟩
 obtain ⟨n5, hn5⟩ : ∃ n, n = p.routes.length := ⟨_, rfl⟩
 have hm3 : n3 ≤ 9223372036854775807 := by omega
 have hm4 : n4 ≤ 9223372036854775807 := by omega
 have hm5 : n5 ≤ 9223372036854775807 := by omega
 have HS : Hid (SectsIn w w.heap.size (.slice A2 n2 c2) p.secs) := Lib.hid (by rw [hn2]; exact hin.secs)
 have HA : Hid (RoutesIn w w.heap.size (.slice A5 n5 c5) p.routes) := Lib.hid (by rw [hn5]; exact hin.routes)
 have HN : Hid (n3 = p.pts.length ∧ n4 = p.sigs.length ∧ n5 = p.routes.length) := Lib.hid ⟨hn3, hn4, hn5⟩
 rw [← hn2, ← hn3, ← hn4, ← hn5]
 have hq0 := heap_alloc_self w (.cells #[.int .i64 p.ver, .int .i64 p.par, .slice A2 n2 c2, .slice A3 n3 c3, .slice A4 n4 c4, .slice A5 n5 c5] 33)
 have hqb := below_new w (.cells #[.int .i64 p.ver, .int .i64 p.par, .slice A2 n2 c2, .slice A3 n3 c3, .slice A4 n4 c4, .slice A5 n5 c5] 33)
 clear hn2 hn3 hn4 hn5 HIN hcl2 hcm2 hcl3 hcm3 hcl4 hcm4 hcl5 hcm5 hin
 go_enter Tryz.func15, Tryz.ntmps15
 go_upto_region 1 with fail
 generalize w.alloc (.cells #[.int .i64 p.ver, .int .i64 p.par, .slice A2 n2 c2, .slice A3 n3 c3, .slice A4 n4 c4, .slice A5 n5 c5] 33) = q at hq0 hqb ⊢
 have QB := Lib.hid hqb
 have HSQ := Lib.hid ((HS.out.below secR_ hqb).more secR_ hqb.size)
 have HQ := Lib.hid ((HA.out.below routeR hqb).more routeR hqb.size)
 obtain ⟨k0, k1, k2, k3, k4, k5⟩ := cell6_of hq0
 clear hq0 hqb k0 k1
 go_wp2_with fail
 go_loopw [3] (fun s3 wr => ∃ i : Nat, i ≤ n5 ∧ i ≤ 40 ∧ s3 = .int .i64 i ∧ (∀ j (hj : j < i) (hl : j < p.routes.length), p.routes[j].path.length ≤ 20 ∧ p.routes[j].over.length ≤ 20 ∧ p.routes[j].flanks.length ≤ 20) ∧ wr = q) (fun s3 _ => n5 - (intOf s3).toNat)
 case atStart => exact ⟨0, by omega, by omega, by go_num, fun j hj => absurd hj (by omega), rfl⟩
 case round =>
  obtain ⟨i, hi, hi40, rfl, hall, rfl⟩ := hrel
  have HALL := Lib.hid hall
  clear hall
  by_cases hlt : i < n5 ∧ i < 40
  ·have hlt' : decide ((i : Int) < n5) = true := decide_eq_true (by omega)
   have hlt4 : decide ((i : Int) < 40) = true := decide_eq_true (by omega)
   have hin5 : (i : Int) < n5 := by omega
   have hir : i < p.routes.length := by rw [← HN.out.2.2]; exact hlt.1
   obtain ⟨b, off, rfl, hb, hc0, hc1, hc2, hc6, u3, u4, u5, hc3, hc4, hc5, hr⟩ := HQ.out.at hir
   obtain ⟨B3, d3, rfl, hl3, hm3'⟩ := hr.path.slice
   obtain ⟨B4, d4, rfl, hl4, hm4'⟩ := hr.over.slice
   obtain ⟨B5, d5, rfl, hl5, hm5'⟩ := hr.flanks.slice
   unfold maxLen at hm3' hm4' hm5'
   obtain ⟨m3, e3⟩ : ∃ m, m = p.routes[i].path.length := ⟨_, rfl⟩
   obtain ⟨m4, e4⟩ : ∃ m, m = p.routes[i].over.length := ⟨_, rfl⟩
   obtain ⟨m5, e5⟩ : ∃ m, m = p.routes[i].flanks.length := ⟨_, rfl⟩
   rw [← e3] at hc3 hl3
   rw [← e4] at hc4 hl4
   rw [← e5] at hc5 hl5
   have b3 : m3 ≤ 9223372036854775807 := by omega
   have b4 : m4 ≤ 9223372036854775807 := by omega
   have b5 : m5 ≤ 9223372036854775807 := by omega
   have E : Hid (m3 = p.routes[i].path.length ∧ m4 = p.routes[i].over.length ∧ m5 = p.routes[i].flanks.length) := Lib.hid ⟨e3, e4, e5⟩
   have hg3 : wr.cell? ⟨b, off + i * 7 + 3, none⟩ = some (.slice B3 m3 d3) := hc3
   have hg4 : wr.cell? ⟨b, off + i * 7 + 4, none⟩ = some (.slice B4 m4 d4) := hc4
   have hg5 : wr.cell? ⟨b, off + i * 7 + 5, none⟩ = some (.slice B5 m5 d5) := hc5
   clear hc0 hc1 hc2 hc3 hc4 hc5 hc6 hr e3 e4 e5 hl3 hl4 hl5 hm3' hm4' hm5' hb
   by_cases h3 : 20 < m3
   ·have d3' : decide ((20 : Int) < m3) = true := decide_eq_true (by omega)
    clear h3
    go_wp2_with fail
    go_ret
    exact ⟨⟨true, rfl, fun h => Bool.noConfusion h⟩, QB.out⟩
   have d3' : decide ((20 : Int) < m3) = false := decide_eq_false (by omega)
   by_cases h4 : 20 < m4
   ·have d4' : decide ((20 : Int) < m4) = true := decide_eq_true (by omega)
    clear h3 h4
    go_wp2_with fail
    go_ret
    exact ⟨⟨true, rfl, fun h => Bool.noConfusion h⟩, QB.out⟩
   have d4' : decide ((20 : Int) < m4) = false := decide_eq_false (by omega)
   by_cases h5 : 20 < m5
   ·have d5' : decide ((20 : Int) < m5) = true := decide_eq_true (by omega)
    clear h3 h4 h5
    go_wp2_with fail
    go_ret
    exact ⟨⟨true, rfl, fun h => Bool.noConfusion h⟩, QB.out⟩
   have d5' : decide ((20 : Int) < m5) = false := decide_eq_false (by omega)
   have NX : Hid (∀ j (hj : j < i + 1) (hl : j < p.routes.length), p.routes[j].path.length ≤ 20 ∧ p.routes[j].over.length ≤ 20 ∧ p.routes[j].flanks.length ≤ 20) := Lib.hid (fun j hj hl => by
    rcases Nat.lt_or_ge j i with h | h
    ·exact HALL.out j h hl
    ·obtain rfl : j = i := by omega
     rw [← E.out.1, ← E.out.2.1, ← E.out.2.2]; omega)
   clear h3 h4 h5
   go_wp2_with fail
   go_roundw
   case measure => simp [intOf]; omega
   case rel => exact ⟨i + 1, by omega, by omega, by go_num, NX.out, trivial⟩
  ·have HSM : Hid (∀ g : Bool, g = false → i = n5 → Few p.secs → n3 ≤ 40 → n4 ≤ 40 → n5 ≤ 40 → FewP p) := Lib.hid (fun g _ hi5 hs h3 h4 h5 => ⟨hs, by rw [← HN.out.1]; exact h3, by rw [← HN.out.2.1]; exact h4, by rw [← HN.out.2.2]; exact h5, fun j hj => HALL.out j (by rw [hi5, HN.out.2.2]; exact hj) hj⟩)
   have I5 : Hid (n5 ≤ 40 → i = n5) := Lib.hid (fun h => by omega)
   by_cases h5n : i < n5
   ·obtain rfl : i = 40 := by omega
    have hd1 : decide ((40 : Int) < n5) = true := decide_eq_true (by omega)
    clear hlt h5n
    go_wp2_with fail
    refine (rgreat_any _ p.secs _ HSQ.out).mono ?_
    rintro e w1 ⟨⟨g, rfl, hg⟩, rfl⟩
    cases g with
    | true =>
     go_wp2_with fail
     go_ret
     exact ⟨⟨true, rfl, fun h => Bool.noConfusion h⟩, QB.out⟩
    | false =>
     have HF := Lib.hid (hg rfl)
     clear hg
     by_cases h3 : 40 < n3
     ·have d3' : decide ((40 : Int) < n3) = true := decide_eq_true (by omega)
      go_wp2_with fail
      go_ret
      exact ⟨⟨true, rfl, fun h => Bool.noConfusion h⟩, QB.out⟩
     have d3' : decide ((40 : Int) < n3) = false := decide_eq_false (by omega)
     by_cases h4 : 40 < n4
     ·have d4' : decide ((40 : Int) < n4) = true := decide_eq_true (by omega)
      go_wp2_with fail
      go_ret
      exact ⟨⟨true, rfl, fun h => Bool.noConfusion h⟩, QB.out⟩
     have d4' : decide ((40 : Int) < n4) = false := decide_eq_false (by omega)
     by_cases h5 : 40 < n5
     ·have d5' : decide ((40 : Int) < n5) = true := decide_eq_true (by omega)
      go_wp2_with fail
      go_ret
      exact ⟨⟨true, rfl, fun h => Bool.noConfusion h⟩, QB.out⟩
     have := of_decide_eq_true hd1
     omega
   ·obtain rfl : i = n5 := by omega
    have hd1 : ¬ (i : Int) < i := by omega
    clear hlt h5n
    go_wp2_with fail
    refine (rgreat_any _ p.secs _ HSQ.out).mono ?_
    rintro e w1 ⟨⟨g, rfl, hg⟩, rfl⟩
    cases g with
    | true =>
     go_wp2_with fail
     go_ret
     exact ⟨⟨true, rfl, fun h => Bool.noConfusion h⟩, QB.out⟩
    | false =>
     have HF := Lib.hid (hg rfl)
     clear hg
     by_cases h3 : 40 < n3
     ·have d3' : decide ((40 : Int) < n3) = true := decide_eq_true (by omega)
      go_wp2_with fail
      go_ret
      exact ⟨⟨true, rfl, fun h => Bool.noConfusion h⟩, QB.out⟩
     have d3' : decide ((40 : Int) < n3) = false := decide_eq_false (by omega)
     by_cases h4 : 40 < n4
     ·have d4' : decide ((40 : Int) < n4) = true := decide_eq_true (by omega)
      go_wp2_with fail
      go_ret
      exact ⟨⟨true, rfl, fun h => Bool.noConfusion h⟩, QB.out⟩
     have d4' : decide ((40 : Int) < n4) = false := decide_eq_false (by omega)
     by_cases h5 : 40 < i
     ·exact absurd h5 (by omega)
     have d5' : decide ((40 : Int) < i) = false := decide_eq_false (by omega)
     have HFIN : Hid (FewP p) := Lib.hid (HSM.out false rfl (I5.out (by omega)) HF.out (by omega) (by omega) (by omega))
     go_wp2_with fail
     go_ret
     exact ⟨⟨false, rfl, fun _ => HFIN.out⟩, QB.out⟩
abbrev hasPt : Sec → Bool := fun s => decide (s.2.1 ≠ 0)
/-- A plan's points may be. -/
structure PtsMay (p : Pl) : Prop where
 n : p.pts.length ≤ 6
 many : p.secs.countP hasPt = p.pts.length
 each : ∀ i (h : i < p.pts.length), 1 ≤ p.pts[i].1 ∧ p.pts[i].1 ≤ 99 ∧ (∀ j (hj : j + 1 = i), (p.pts[j]'(by omega)).1 < p.pts[i].1) ∧ ∃ k, ∃ hk : k < p.secs.length, atS p.secs p.pts[i].2 = (k : Int) ∧ p.secs[k].2.1 = p.pts[i].1
theorem count_take {α : Type} (f : α → Bool) {l : List α} {i : Nat} (hi : i < l.length) : (l.take (i + 1)).countP f = (l.take i).countP f + if f l[i] then 1 else 0 := by
 rw [List.take_add_one, List.getElem?_eq_getElem hi, List.countP_append]
 simp [List.countP_cons]
theorem count_le {α : Type} (f : α → Bool) (l : List α) (i : Nat) : (l.take i).countP f ≤ i := Nat.le_trans List.countP_le_length (by rw [List.length_take]; omega)

/-- A plan's signals may be. -/
structure SigsMay (p : Pl) : Prop where
 n : p.sigs.length ≤ 10
 each : ∀ i (h : i < p.sigs.length), 1 ≤ p.sigs[i].1 ∧ p.sigs[i].1 ≤ 99 ∧ (∃ k, ∃ hk : k < p.secs.length, atS p.secs p.sigs[i].2.1 = (k : Int) ∧ 0 ≤ p.sigs[i].2.2 ∧ p.sigs[i].2.2 < p.secs[k].2.2.length) ∧ ∀ m (hm : m < i), (p.sigs[m]'(by omega)).1 < p.sigs[i].1 ∧ ¬ ((p.sigs[m]'(by omega)).2.1 = p.sigs[i].2.1 ∧ (p.sigs[m]'(by omega)).2.2 = p.sigs[i].2.2)
end Go.Proofs.YtneeocnjfnneoaaGreat
