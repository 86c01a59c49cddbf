/-
 The document's own functions Same, SameAll of package track and SameRoute, Same of package plan, for any two.
 Conditions: none.
-/
import Derived.Test.YtneeocnjfnneoaaGreatVGPlnRefA
import Derived.BigQuiet
import Derived.Deep.RegionHeld3
import Derived.Test.YtneeocnjfnneoaaGreatVGPlnRefB
import Derived.Test.YtneeocnjfnneoaaGreatVGTrkRef
import Derived.Test.YtneeocnjfnneoaaGreatVGPlnRefC
set_option linter.unusedVariables false
set_option linter.unusedSimpArgs false
set_option maxRecDepth 100000
namespace Go.Proofs.YtneeocnjfnneoaaGreat
open Go.RowKit

noncomputable def eqB {α : Type} (a b : α) : Bool := @decide (a = b) (Classical.propDecidable _)
theorem eqB_true {α : Type} {a b : α} (h : a = b) : eqB a b = true := by rw [eqB]; exact @decide_eq_true _ (Classical.propDecidable _) h
theorem eqB_false {α : Type} {a b : α} (h : ¬ a = b) : eqB a b = false := by rw [eqB]; exact @decide_eq_false _ (Classical.propDecidable _) h
theorem eqB_iff {α : Type} {a b : α} : eqB a b = true ↔ a = b := by rw [eqB]; exact @decide_eq_true_iff _ (Classical.propDecidable _)
theorem eqB_dec {α : Type} [DecidableEq α] (a b : α) : decide (a = b) = eqB a b := by
 by_cases h : a = b
 ·rw [eqB_true h]; exact decide_eq_true h
 ·rw [eqB_false h]; exact decide_eq_false h
theorem list_ext {α : Type} {l m : List α} (hn : l.length = m.length) (h : ∀ j (h1 : j < l.length) (h2 : j < m.length), l[j] = m[j]) : l = m := List.ext_getElem hn h
theorem rt_eq {r s : Rt} : r = s ↔ r.id = s.id ∧ r.entry = s.entry ∧ r.exit = s.exit ∧ r.timer = s.timer ∧ r.path = s.path ∧ r.over = s.over ∧ r.flanks = s.flanks := by
 constructor
 ·rintro rfl; exact ⟨rfl, rfl, rfl, rfl, rfl, rfl, rfl⟩
 ·obtain ⟨a1, a2, a3, a4, a5, a6, a7⟩ := r
  obtain ⟨b1, b2, b3, b4, b5, b6, b7⟩ := s
  dsimp only
  rintro ⟨rfl, rfl, rfl, rfl, rfl, rfl, rfl⟩
  rfl
theorem pl_eq {p q : Pl} : p = q ↔ p.ver = q.ver ∧ p.par = q.par ∧ p.secs = q.secs ∧ p.pts = q.pts ∧ p.sigs = q.sigs ∧ p.routes = q.routes := by
 cases p; cases q; simp

theorem eqJoin (a b c d : Int) (w : World) : (Op.equalIn 10000 85 (.agg #[.int .i64 a, .int .i64 b]) (.agg #[.int .i64 c, .int .i64 d])).run Tryz.prog w = .ok ((a == c) && (b == d)) w := by
 have hagg : (isAgg 3).run Tryz.prog w = .ok false w := by
  unfold isAgg
  rw [Sem.run_bind, run_underlying Tryz.underlying3 w]
  simp
 rw [run_equalIn_agg w 9999 85 _ _ (by rw [Program.fieldsOf, Tryz.underlying85]) (by kernel_rfl)]
 simp only [Program.fieldsOf, Tryz.underlying85, Op.eqFields]
 have hi : ∀ x y : Int, (Op.equalIn 9999 3 (.int .i64 x) (.int .i64 y)).run Tryz.prog w = .ok (x == y) w := fun x y => run_equalIn_int w 9998 3 .i64 .i64 x y Tryz.underlying3
 by_cases h1 : a = c <;> by_cases h2 : b = d <;> simp [part, Sem.run_bind, Sem.run_ite, hagg, hi, h1, h2]
theorem eqJoin_ne {x y : Jn} (h : ¬ x = y) (w : World) : (Op.equalIn 10000 85 (.agg #[.int .i64 x.1, .int .i64 x.2]) (.agg #[.int .i64 y.1, .int .i64 y.2])).run Tryz.prog w = .ok false w := by
 rw [eqJoin]
 congr 1
 by_cases h1 : x.1 = y.1
 ·have h2 : ¬ x.2 = y.2 := fun h2 => h (Prod.ext h1 h2)
  simp [h2]
 ·simp [h1]
theorem eqJoin_eq {x y : Jn} (h : x = y) (w : World) : (Op.equalIn 10000 85 (.agg #[.int .i64 x.1, .int .i64 x.2]) (.agg #[.int .i64 y.1, .int .i64 y.2])).run Tryz.prog w = .ok true w := by
 rw [eqJoin, h]; simp

theorem eqFlank (a b c d : Int) (w : World) : (Op.equalIn 10000 64 (.agg #[.int .i64 a, .int .i64 b]) (.agg #[.int .i64 c, .int .i64 d])).run Tryz.prog w = .ok ((a == c) && (b == d)) w := by
 have hagg : (isAgg 3).run Tryz.prog w = .ok false w := by
  unfold isAgg
  rw [Sem.run_bind, run_underlying Tryz.underlying3 w]
  simp
 rw [run_equalIn_agg w 9999 64 _ _ (by rw [Program.fieldsOf, Tryz.underlying64]) (by kernel_rfl)]
 simp only [Program.fieldsOf, Tryz.underlying64, Op.eqFields]
 have hi : ∀ x y : Int, (Op.equalIn 9999 3 (.int .i64 x) (.int .i64 y)).run Tryz.prog w = .ok (x == y) w := fun x y => run_equalIn_int w 9998 3 .i64 .i64 x y Tryz.underlying3
 by_cases h1 : a = c <;> by_cases h2 : b = d <;> simp [part, Sem.run_bind, Sem.run_ite, hagg, hi, h1, h2]
theorem eqFlank_ne {x y : Jn} (h : ¬ x = y) (w : World) : (Op.equalIn 10000 64 (.agg #[.int .i64 x.1, .int .i64 x.2]) (.agg #[.int .i64 y.1, .int .i64 y.2])).run Tryz.prog w = .ok false w := by
 rw [eqFlank]
 congr 1
 by_cases h1 : x.1 = y.1
 ·have h2 : ¬ x.2 = y.2 := fun h2 => h (Prod.ext h1 h2)
  simp [h2]
 ·simp [h1]
theorem eqFlank_eq {x y : Jn} (h : x = y) (w : World) : (Op.equalIn 10000 64 (.agg #[.int .i64 x.1, .int .i64 x.2]) (.agg #[.int .i64 y.1, .int .i64 y.2])).run Tryz.prog w = .ok true w := by
 rw [eqFlank, h]; simp

theorem eqPoint (a b c d : Int) (w : World) : (Op.equalIn 10000 60 (.agg #[.int .i64 a, .int .i64 b]) (.agg #[.int .i64 c, .int .i64 d])).run Tryz.prog w = .ok ((a == c) && (b == d)) w := by
 have hagg : (isAgg 3).run Tryz.prog w = .ok false w := by
  unfold isAgg
  rw [Sem.run_bind, run_underlying Tryz.underlying3 w]
  simp
 rw [run_equalIn_agg w 9999 60 _ _ (by rw [Program.fieldsOf, Tryz.underlying60]) (by kernel_rfl)]
 simp only [Program.fieldsOf, Tryz.underlying60, Op.eqFields]
 have hi : ∀ x y : Int, (Op.equalIn 9999 3 (.int .i64 x) (.int .i64 y)).run Tryz.prog w = .ok (x == y) w := fun x y => run_equalIn_int w 9998 3 .i64 .i64 x y Tryz.underlying3
 by_cases h1 : a = c <;> by_cases h2 : b = d <;> simp [part, Sem.run_bind, Sem.run_ite, hagg, hi, h1, h2]
theorem eqPoint_ne {x y : Jn} (h : ¬ x = y) (w : World) : (Op.equalIn 10000 60 (.agg #[.int .i64 x.1, .int .i64 x.2]) (.agg #[.int .i64 y.1, .int .i64 y.2])).run Tryz.prog w = .ok false w := by
 rw [eqPoint]
 congr 1
 by_cases h1 : x.1 = y.1
 ·have h2 : ¬ x.2 = y.2 := fun h2 => h (Prod.ext h1 h2)
  simp [h2]
 ·simp [h1]
theorem eqPoint_eq {x y : Jn} (h : x = y) (w : World) : (Op.equalIn 10000 60 (.agg #[.int .i64 x.1, .int .i64 x.2]) (.agg #[.int .i64 y.1, .int .i64 y.2])).run Tryz.prog w = .ok true w := by
 rw [eqPoint, h]; simp

theorem eqSig (a b c d e f : Int) (w : World) : (Op.equalIn 10000 69 (.agg #[.int .i64 a, .int .i64 b, .int .i64 c]) (.agg #[.int .i64 d, .int .i64 e, .int .i64 f])).run Tryz.prog w = .ok ((a == d) && ((b == e) && (c == f))) w := by
 have hagg : (isAgg 3).run Tryz.prog w = .ok false w := by
  unfold isAgg
  rw [Sem.run_bind, run_underlying Tryz.underlying3 w]
  simp
 rw [run_equalIn_agg w 9999 69 _ _ (by rw [Program.fieldsOf, Tryz.underlying69]) (by kernel_rfl)]
 simp only [Program.fieldsOf, Tryz.underlying69, Op.eqFields]
 have hi : ∀ x y : Int, (Op.equalIn 9999 3 (.int .i64 x) (.int .i64 y)).run Tryz.prog w = .ok (x == y) w := fun x y => run_equalIn_int w 9998 3 .i64 .i64 x y Tryz.underlying3
 by_cases h1 : a = d <;> by_cases h2 : b = e <;> by_cases h3 : c = f <;> simp [part, Sem.run_bind, Sem.run_ite, hagg, hi, h1, h2, h3]
theorem eqSig_ne {x y : Sg} (h : ¬ x = y) (w : World) : (Op.equalIn 10000 69 (.agg #[.int .i64 x.1, .int .i64 x.2.1, .int .i64 x.2.2]) (.agg #[.int .i64 y.1, .int .i64 y.2.1, .int .i64 y.2.2])).run Tryz.prog w = .ok false w := by
 rw [eqSig]
 congr 1
 by_cases h1 : x.1 = y.1
 ·by_cases h2 : x.2.1 = y.2.1
  ·have h3 : ¬ x.2.2 = y.2.2 := fun h3 => h (Prod.ext h1 (Prod.ext h2 h3))
   simp [h3]
  ·simp [h2]
 ·simp [h1]
theorem eqSig_eq {x y : Sg} (h : x = y) (w : World) : (Op.equalIn 10000 69 (.agg #[.int .i64 x.1, .int .i64 x.2.1, .int .i64 x.2.2]) (.agg #[.int .i64 y.1, .int .i64 y.2.1, .int .i64 y.2.2])).run Tryz.prog w = .ok true w := by
 rw [eqSig, h]; simp

theorem getElem_congr' {α : Type} {l m : List α} {i : Nat} {h1 : i < l.length} {h2 : i < m.length} (h : l = m) : l[i] = m[i] := by subst h; rfl
structure C3 (w : World) (b : Nat) (v0 v1 v2 : Value) : Prop where
 c0 : w.cell? ⟨b, 0, none⟩ = some v0
theorem cell7_ {w : World} {b : Nat} {v0 v1 v2 v3 v4 v5 v6 : Value} {t : TypeId} {fr : Nat × Nat} : (w.heap[b]? = some (.cells #[v0, v1, v2, v3, v4, v5, v6] t fr) → w.cell? ⟨b, 0, none⟩ = some v0 ∧ w.cell? ⟨b, 1, none⟩ = some v1 ∧ w.cell? ⟨b, 2, none⟩ = some v2 ∧ w.cell? ⟨b, 3, none⟩ = some v3 ∧ w.cell? ⟨b, 4, none⟩ = some v4 ∧ w.cell? ⟨b, 5, none⟩ = some v5 ∧ w.cell? ⟨b, 6, none⟩ = some v6) ∧ True := ⟨cell7_of, trivial⟩

set_option maxHeartbeats 8000000 in
theorem rsameroute_any (v y : Value) (r s : Rt) (w : World) (h : RouteV w w.heap.size v r) (h' : RouteV w w.heap.size y s) :
  Calls Tryz.prog 26 #[v, y] w fun e w' => e = .returned (.bool (eqB r s)) ∧ Below w.heap.size w w' := by
 obtain ⟨y3, y4, y5, rfl, h1⟩ := h
 obtain ⟨z3, z4, z5, rfl, h2⟩ := h'
 obtain ⟨A3, ac3, rfl, hcl3, hcm3⟩ := h1.path.slice
 obtain ⟨B3, bc3, rfl, hdl3, hdm3⟩ := h2.path.slice
 obtain ⟨A4, ac4, rfl, hcl4, hcm4⟩ := h1.over.slice
 obtain ⟨B4, bc4, rfl, hdl4, hdm4⟩ := h2.over.slice
 obtain ⟨A5, ac5, rfl, hcl5, hcm5⟩ := h1.flanks.slice
 obtain ⟨B5, bc5, rfl, hdl5, hdm5⟩ := h2.flanks.slice
 obtain ⟨an3, ha3⟩ : ∃ n, n = r.path.length := ⟨_, rfl⟩
 obtain ⟨bn3, hb3⟩ : ∃ n, n = s.path.length := ⟨_, rfl⟩
 obtain ⟨an4, ha4⟩ : ∃ n, n = r.over.length := ⟨_, rfl⟩
 obtain ⟨bn4, hb4⟩ : ∃ n, n = s.over.length := ⟨_, rfl⟩
 obtain ⟨an5, ha5⟩ : ∃ n, n = r.flanks.length := ⟨_, rfl⟩
 obtain ⟨bn5, hb5⟩ : ∃ n, n = s.flanks.length := ⟨_, rfl⟩
 have HA3 : Hid (IntsIn w w.heap.size (.slice A3 an3 ac3) r.path) := Lib.hid (by rw [ha3]; exact h1.path)
 have HB3 : Hid (IntsIn w w.heap.size (.slice B3 bn3 bc3) s.path) := Lib.hid (by rw [hb3]; exact h2.path)
 have HA4 : Hid (IntsIn w w.heap.size (.slice A4 an4 ac4) r.over) := Lib.hid (by rw [ha4]; exact h1.over)
 have HB4 : Hid (IntsIn w w.heap.size (.slice B4 bn4 bc4) s.over) := Lib.hid (by rw [hb4]; exact h2.over)
 have HA5 : Hid (JoinsIn w w.heap.size (.slice A5 an5 ac5) r.flanks) := Lib.hid (by rw [ha5]; exact h1.flanks)
 have HB5 : Hid (JoinsIn w w.heap.size (.slice B5 bn5 bc5) s.flanks) := Lib.hid (by rw [hb5]; exact h2.flanks)
 unfold maxLen at hcm5 hdm5
 have hm5 : an5 ≤ 9223372036854775807 := by omega
 have hm5' : bn5 ≤ 9223372036854775807 := by omega
 have HN0 : Hid (an5 = r.flanks.length ∧ bn5 = s.flanks.length) := Lib.hid ⟨ha5, hb5⟩
 rw [← ha3, ← ha4, ← ha5, ← hb3, ← hb4, ← hb5]
 clear ha3 ha4 ha5 hb3 hb4 hb5 h1 h2 hcl3 hcm3 hcl4 hcm4 hcl5 hcm5 hdl3 hdm3 hdl4 hdm4 hdl5 hdm5
 have hq := two_boxes w (.cells #[.int .i64 r.id, .int .i64 r.entry, .int .i64 r.exit, .slice A3 an3 ac3, .slice A4 an4 ac4, .slice A5 an5 ac5, .int .i64 r.timer] 54) (.cells #[.int .i64 s.id, .int .i64 s.entry, .int .i64 s.exit, .slice B3 bn3 bc3, .slice B4 bn4 bc4, .slice B5 bn5 bc5, .int .i64 s.timer] 54)
 go_enter Tryz.func26, Tryz.ntmps26
 go_upto_region 1 with fail
 generalize (w.alloc (.cells #[.int .i64 r.id, .int .i64 r.entry, .int .i64 r.exit, .slice A3 an3 ac3, .slice A4 an4 ac4, .slice A5 an5 ac5, .int .i64 r.timer] 54)).alloc (.cells #[.int .i64 s.id, .int .i64 s.entry, .int .i64 s.exit, .slice B3 bn3 bc3, .slice B4 bn4 bc4, .slice B5 bn5 bc5, .int .i64 s.timer] 54) = q at hq ⊢
 obtain ⟨q0, q1, qb⟩ := hq
 have XA := Lib.hid q0
 have XB := Lib.hid q1
 have BZ := Lib.hid qb
 obtain ⟨k0, k1, k2, k3, k4, k5, k6⟩ := cell7_of q0
 obtain ⟨r0, r1, r2, r3, r4, r5, r6⟩ := cell7_of q1
 clear q0 q1 qb
 by_cases h_id : r.id = s.id
 case neg =>
  have d_id : (r.id != s.id) = true := by simpa using h_id
  have HF : Hid (eqB r s = false) := Lib.hid (eqB_false (fun h => h_id (by rw [h])))
  clear h_id
  go_wp2_with fail
  go_ret
  exact ⟨by rw [HF.out]; rfl, BZ.out⟩
 have d_id : (r.id != s.id) = false := by simpa using h_id
 by_cases h_entry : r.entry = s.entry
 case neg =>
  have d_entry : (r.entry != s.entry) = true := by simpa using h_entry
  have HF : Hid (eqB r s = false) := Lib.hid (eqB_false (fun h => h_entry (by rw [h])))
  clear h_id h_entry
  go_wp2_with fail
  go_ret
  exact ⟨by rw [HF.out]; rfl, BZ.out⟩
 have d_entry : (r.entry != s.entry) = false := by simpa using h_entry
 by_cases h_exit : r.exit = s.exit
 case neg =>
  have d_exit : (r.exit != s.exit) = true := by simpa using h_exit
  have HF : Hid (eqB r s = false) := Lib.hid (eqB_false (fun h => h_exit (by rw [h])))
  clear h_id h_entry h_exit
  go_wp2_with fail
  go_ret
  exact ⟨by rw [HF.out]; rfl, BZ.out⟩
 have d_exit : (r.exit != s.exit) = false := by simpa using h_exit
 by_cases h_timer : r.timer = s.timer
 case neg =>
  have d_timer : (r.timer != s.timer) = true := by simpa using h_timer
  have HF : Hid (eqB r s = false) := Lib.hid (eqB_false (fun h => h_timer (by rw [h])))
  clear h_id h_entry h_exit h_timer
  go_wp2_with fail
  go_ret
  exact ⟨by rw [HF.out]; rfl, BZ.out⟩
 have d_timer : (r.timer != s.timer) = false := by simpa using h_timer
 have FOUR : Hid (r.id = s.id ∧ r.entry = s.entry ∧ r.exit = s.exit ∧ r.timer = s.timer) := Lib.hid ⟨h_id, h_entry, h_exit, h_timer⟩
 clear h_id h_entry h_exit h_timer
 go_wp2_with fail
 refine (rints_any _ _ r.path s.path q ((HA3.out.below intR BZ.out).more intR BZ.out.size) ((HB3.out.below intR BZ.out).more intR BZ.out.size)).mono ?_
 rintro e w1 ⟨rfl, b1⟩
 rw [eqB_dec]
 replace XA := Lib.hid ((b1.block _ (heap_lt XA.out)).trans XA.out)
 replace XB := Lib.hid ((b1.block _ (heap_lt XB.out)).trans XB.out)
 replace BZ := Lib.hid (BZ.out.trans (b1.mono BZ.out.size))
 clear b1 k0 k1 k2 k3 k4 k5 k6 r0 r1 r2 r3 r4 r5 r6
 obtain ⟨k0, k1, k2, k3, k4, k5, k6⟩ := cell7_of XA.out
 obtain ⟨r0, r1, r2, r3, r4, r5, r6⟩ := cell7_of XB.out
 cases hp : eqB r.path s.path with
 | false =>
  have HF : Hid (eqB r s = false) := Lib.hid (eqB_false (fun h => by rw [eqB_true (by rw [h])] at hp; cases hp))
  clear hp
  go_wp2_with fail
  go_ret
  exact ⟨by rw [HF.out]; rfl, BZ.out⟩
 | true =>
 have HP := Lib.hid (eqB_iff.1 hp)
 clear hp
 go_wp2_with fail
 refine (rints_any _ _ r.over s.over w1 ((HA4.out.below intR BZ.out).more intR BZ.out.size) ((HB4.out.below intR BZ.out).more intR BZ.out.size)).mono ?_
 rintro e w2 ⟨rfl, b2⟩
 rw [eqB_dec]
 replace XA := Lib.hid ((b2.block _ (heap_lt XA.out)).trans XA.out)
 replace XB := Lib.hid ((b2.block _ (heap_lt XB.out)).trans XB.out)
 replace BZ := Lib.hid (BZ.out.trans (b2.mono BZ.out.size))
 clear b2 k0 k1 k2 k3 k4 k5 k6 r0 r1 r2 r3 r4 r5 r6
 obtain ⟨k0, k1, k2, k3, k4, k5, k6⟩ := cell7_of XA.out
 obtain ⟨r0, r1, r2, r3, r4, r5, r6⟩ := cell7_of XB.out
 cases hp : eqB r.over s.over with
 | false =>
  have HF : Hid (eqB r s = false) := Lib.hid (eqB_false (fun h => by rw [eqB_true (by rw [h])] at hp; cases hp))
  clear hp
  go_wp2_with fail
  go_ret
  exact ⟨by rw [HF.out]; rfl, BZ.out⟩
 | true =>
 have HO := Lib.hid (eqB_iff.1 hp)
 clear hp
 by_cases hn5 : an5 = bn5
 case neg =>
  have d5 : ((an5 : Int) != bn5) = true := by rw [bne_iff_ne]; omega
  have HF : Hid (eqB r s = false) := Lib.hid (eqB_false (fun h => hn5 (by have := HN0.out; rw [h] at this; omega)))
  clear hn5
  go_wp2_with fail
  go_ret
  exact ⟨by rw [HF.out]; rfl, BZ.out⟩
 subst hn5
 have HN : Hid (an5 = r.flanks.length ∧ an5 = s.flanks.length) := HN0
 have NEQ : Hid (¬ r.flanks = s.flanks → eqB r s = false) := Lib.hid (fun h => eqB_false (fun h2 => h (by rw [h2])))
 go_wp2_with fail
 go_loopw [5] (fun sL wr => ∃ i : Nat, i ≤ an5 ∧ sL = .int .i64 i ∧ (∀ j (hj : j < i) (h1 : j < r.flanks.length) (h2 : j < s.flanks.length), r.flanks[j] = s.flanks[j]) ∧ wr.heap[w.heap.size]? = some (.cells #[.int .i64 r.id, .int .i64 r.entry, .int .i64 r.exit, .slice A3 an3 ac3, .slice A4 an4 ac4, .slice A5 an5 ac5, .int .i64 r.timer] 54 (0, 0)) ∧ wr.heap[w.heap.size + 1]? = some (.cells #[.int .i64 s.id, .int .i64 s.entry, .int .i64 s.exit, .slice B3 bn3 bc3, .slice B4 bn4 bc4, .slice B5 an5 bc5, .int .i64 s.timer] 54 (0, 0)) ∧ Below w.heap.size w wr) (fun sL _ => an5 - (intOf sL).toNat)
 case atStart => exact ⟨0, by omega, by go_num, fun j hj => absurd hj (by omega), XA.out, XB.out, BZ.out⟩
 case round =>
  obtain ⟨i, hi, rfl, hall, hxa, hxb, hbw⟩ := hrel
  have HALL := Lib.hid hall
  clear XA XB BZ
  have XA := Lib.hid hxa
  have XB := Lib.hid hxb
  have BZ := Lib.hid hbw
  clear hall hxa hxb hbw
  obtain ⟨k0, k1, k2, k3, k4, k5, k6⟩ := cell7_.1 XA.out
  obtain ⟨r0, r1, r2, r3, r4, r5, r6⟩ := cell7_.1 XB.out
  by_cases hlt : i < an5
  ·have hlt2 : (i : Int) < an5 := by omega
   have hir : i < r.flanks.length := by have := HN.out; omega
   have him : i < s.flanks.length := by have := HN.out; omega
   obtain ⟨b, off, e1, hb, hc0, hc1⟩ := ((HA5.out.below joinR BZ.out).more joinR BZ.out.size).at hir
   obtain ⟨b', off', e2, hb', hd0, hd1⟩ := ((HB5.out.below joinR BZ.out).more joinR BZ.out.size).at him
   subst e1
   subst e2
   obtain ⟨x, hx⟩ : ∃ x, x = r.flanks[i] := ⟨_, rfl⟩
   obtain ⟨y, hy⟩ : ∃ y, y = s.flanks[i] := ⟨_, rfl⟩
   rw [← hx] at hc0 hc1
   rw [← hy] at hd0 hd1
   have hg0 : wr.cell? ⟨b, off + i * 2, none⟩ = some (.int .i64 x.1) := hc0
   have hh0 : wr.cell? ⟨b', off' + i * 2, none⟩ = some (.int .i64 y.1) := hd0
   have hg1 : wr.cell? ⟨b, off + i * 2 + 1, none⟩ = some (.int .i64 x.2) := hc1
   have hh1 : wr.cell? ⟨b', off' + i * 2 + 1, none⟩ = some (.int .i64 y.2) := hd1
   have HX := Lib.hid hx
   have HY := Lib.hid hy
   have BD : Hid (∀ nq, Below w.heap.size w (wr.drewN nq)) := Lib.hid (fun nq => ⟨BZ.out.os, BZ.out.tape, BZ.out.output, BZ.out.size, BZ.out.block⟩)
   have XD : Hid (∀ nq, (wr.drewN nq).heap[w.heap.size]? = wr.heap[w.heap.size]? ∧ (wr.drewN nq).heap[w.heap.size + 1]? = wr.heap[w.heap.size + 1]?) := Lib.hid (fun nq => ⟨rfl, rfl⟩)
   clear hc0 hc1 hd0 hd1 hx hy hb hb'
   go_upto_region 6 with fail
   by_cases he : x = y
   ·have hcmp : ∀ w' : World, (Op.equalIn 10000 64 (.agg #[.int .i64 x.1, .int .i64 x.2]) (.agg #[.int .i64 y.1, .int .i64 y.2])).run Tryz.prog w' = .ok true w' := eqFlank_eq he
    have NX : Hid (∀ j (hj : j < i + 1) (h1 : j < r.flanks.length) (h2 : j < s.flanks.length), r.flanks[j] = s.flanks[j]) := Lib.hid (fun j hj h1 h2 => by
     rcases Nat.lt_or_ge j i with h | h
     ·exact HALL.out j h h1 h2
     ·obtain rfl : j = i := by omega
      rw [← HX.out, ← HY.out]; exact he)
    clear he
    go_quiet (fail)
    have hdb := BD.out nq
    have hdx := XD.out nq
    rw [XA.out, XB.out] at hdx
    generalize wr.drewN nq = q7 at hdb hdx ⊢
    have B7 := Lib.hid hdb
    have X7 := Lib.hid hdx
    clear hdb hdx BD XD hcmp
    go_wp2_with fail
    go_roundw
    case measure => simp [intOf]; omega
    case rel => exact ⟨i + 1, by omega, by go_num, NX.out, X7.out.1, X7.out.2, B7.out⟩
   ·have hcmp : ∀ w' : World, (Op.equalIn 10000 64 (.agg #[.int .i64 x.1, .int .i64 x.2]) (.agg #[.int .i64 y.1, .int .i64 y.2])).run Tryz.prog w' = .ok false w' := eqFlank_ne he
    have HF : Hid (eqB r s = false) := Lib.hid (NEQ.out (fun h => he (by rw [HX.out, HY.out]; exact getElem_congr' h)))
    clear he
    go_quiet (fail)
    have hdb := BD.out nq
    generalize wr.drewN nq = q7 at hdb ⊢
    have B7 := Lib.hid hdb
    clear hdb BD XD hcmp
    go_wp2_with fail
    go_ret
    exact ⟨by rw [HF.out]; rfl, B7.out⟩
  ·obtain rfl : i = an5 := by omega
   have hlt2 : ¬ (i : Int) < i := by omega
   have ALLQ : Hid (r.flanks = s.flanks) := Lib.hid (list_ext (by have := HN.out; omega) fun j h1 h2 => HALL.out j (by have := HN.out; omega) h1 h2)
   clear HALL NEQ
   have HF : Hid (eqB r s = true) := Lib.hid (eqB_true (rt_eq.2 ⟨FOUR.out.1, FOUR.out.2.1, FOUR.out.2.2.1, FOUR.out.2.2.2, HP.out, HO.out, ALLQ.out⟩))
   go_wp2_with fail
   go_ret
   exact ⟨by rw [HF.out]; rfl, BZ.out⟩


theorem infoSigI : (Tryz.prog.info? 69).map (fun i => (i.zero, i.size, i.bytes)) = some (some (.agg #[.int .i64 0, .int .i64 0, .int .i64 0]), 3, 24) := by kernel_rfl
theorem infoPlan6 : (Tryz.prog.info? 33).map (·.size) = some 6 := by kernel_rfl

/-- What the program's package plan answers: to be proved over the program's own text; the walks of the statements take it. -/
structure PlanSaid : Prop where
 check : ∀ (v : Value) (p : Pl) (w : World), PlanV w w.heap.size v p →
  Calls Tryz.prog 21 #[v] w fun e w' => e = .returned (.int .i64 (chk8 p)) ∧ Below w.heap.size w w'
 point : ∀ (v : Value) (p : Pl) (id : Int) (w : World), PlanV w w.heap.size v p →
  Calls Tryz.prog 27 #[v, .int .i64 id] w fun e w' => e = .returned (.tuple #[.agg #[.int .i64 (elV p kPt p.pts id (0, 0)).1, .int .i64 (elV p kPt p.pts id (0, 0)).2], .int .i64 (elE p kPt p.pts id)]) ∧ Below w.heap.size w w'
 route : ∀ (v : Value) (p : Pl) (id : Int) (w : World), PlanV w w.heap.size v p →
  Calls Tryz.prog 25 #[v, .int .i64 id] w fun e w' => ∃ u3 u4 u5, e = .returned (.tuple #[.agg #[.int .i64 (elV p kRt p.routes id zRt).id, .int .i64 (elV p kRt p.routes id zRt).entry, .int .i64 (elV p kRt p.routes id zRt).exit, u3, u4, u5, .int .i64 (elV p kRt p.routes id zRt).timer], .int .i64 (elE p kRt p.routes id)]) ∧ RtOwn w' w.heap.size u3 u4 u5 (elV p kRt p.routes id zRt) ∧ Below w.heap.size w w'
 same : ∀ (v y : Value) (p q : Pl) (w : World), PlanV w w.heap.size v p → PlanV w w.heap.size y q →
  Calls Tryz.prog 130 #[v, y] w fun e w' => e = .returned (.bool (eqB p q)) ∧ Below w.heap.size w w'

def pS1 : Sec := (1, 0, [(2, 0), (0, 0)])
def pS2 : Sec := (2, 5, [(1, 0), (3, 0), (3, 1)])
def pS3 : Sec := (3, 0, [(2, 1), (2, 2)])
def pSecs : List Sec := [pS1, pS2, pS3]
def pR : Rt := ⟨8, 4, 0, [2, 3], [], [], 3⟩
def planOne : Pl := ⟨2, 1, pSecs, [(5, 2)], [(4, 1, 0)], [pR]⟩
theorem list_row {α : Type} {sz : Nat} {R : El α} {W : World} {b : Nat} {cs : Array Value} {t : TypeId} {l : List α} (h : W.heap[b]? = some (.cells cs t (0, 0))) (hl : l.length ≤ 100) (hc : ∀ j (hj : j < l.length), R W W.heap.size (fun k => W.cell? ⟨b, 0 + j * sz + k, none⟩) l[j]) :
  ListIn sz R W W.heap.size (.slice (some ⟨b, 0, none⟩) l.length l.length) l :=
 ⟨_, _, rfl, Nat.le_refl _, by unfold maxLen; omega, (fun e => by cases e), fun _ => ⟨b, 0, rfl, heap_lt h, hc⟩⟩
theorem row_cj {W : World} (b : Nat) (c : Array Value) (t : TypeId) (j : Nat) (v : Value) (h : W.heap[b]? = some (.cells c t (0, 0))) (hv : c[j]? = some v) : W.cell? ⟨b, j, none⟩ = some v := by rw [cell_of_row _ _ _ _ _ _ h]; exact hv
/-- The chapter's plan lies in the blocks from s on; its route's path is the slice at A, its timer t. -/
structure OneAt (W : World) (s : Nat) (A : Option Addr) (t : Int) : Prop where
 r1 : W.heap[s]? = some (.cells #[.int .i64 2, .int .i64 0, .int .i64 0, .int .i64 0] 85 (0, 0))
 r2 : W.heap[s + 1]? = some (.cells #[.int .i64 1, .int .i64 0, .int .i64 3, .int .i64 0, .int .i64 3, .int .i64 1] 85 (0, 0))
 r3 : W.heap[s + 2]? = some (.cells #[.int .i64 2, .int .i64 1, .int .i64 2, .int .i64 2] 85 (0, 0))
 r4 : W.heap[s + 3]? = some (.cells #[.int .i64 1, .int .i64 0, .slice (some ⟨s, 0, none⟩) 2 2, .int .i64 2, .int .i64 5, .slice (some ⟨s + 1, 0, none⟩) 3 3, .int .i64 3, .int .i64 0, .slice (some ⟨s + 2, 0, none⟩) 2 2] 67 (0, 0))
 r5 : W.heap[s + 4]? = some (.cells #[.int .i64 5, .int .i64 2] 60 (0, 0))
 r6 : W.heap[s + 5]? = some (.cells #[.int .i64 4, .int .i64 1, .int .i64 0] 69 (0, 0))
 r8 : W.heap[s + 7]? = some (.cells #[.int .i64 8, .int .i64 4, .int .i64 0, .slice A 2 2, .slice none 0 0, .slice none 0 0, .int .i64 t] 54 (0, 0))
abbrev oneV (par : Int) (s : Nat) : Value := .agg #[.int .i64 2, .int .i64 par, .slice (some ⟨s + 3, 0, none⟩) 3 3, .slice (some ⟨s + 4, 0, none⟩) 1 1, .slice (some ⟨s + 5, 0, none⟩) 1 1, .slice (some ⟨s + 7, 0, none⟩) 1 1]
theorem ints2_of {W : World} {g : Nat} {x y : Int} (h : W.heap[g]? = some (.cells #[.int .i64 x, .int .i64 y] 3 (0, 0))) : IntsIn W W.heap.size (.slice (some ⟨g, 0, none⟩) 2 2) [x, y] := list_row (l := [x, y]) h (by simp) (fun j hj => by
  match j, hj with
  | 0, _ => exact row_cj _ _ _ 0 _ h rfl
  | 1, _ => exact row_cj _ _ _ 1 _ h rfl)
theorem OneAt.plan {W : World} {s : Nat} {A : Option Addr} {t : Int} {l : List Int} (h : OneAt W s A t) (hl : IntsIn W W.heap.size (.slice A 2 2) l) (par : Int) :
  PlanV W W.heap.size (oneV par s) ⟨2, par, pSecs, [(5, 2)], [(4, 1, 0)], [⟨8, 4, 0, l, [], [], t⟩]⟩ := by
 have J1 : JoinsIn W W.heap.size (.slice (some ⟨s, 0, none⟩) 2 2) pS1.2.2 := list_row (l := [(2, 0), (0, 0)]) h.r1 (by decide) (fun j hj => by
  match j, hj with
  | 0, _ => exact ⟨row_cj _ _ _ 0 _ h.r1 rfl, row_cj _ _ _ 1 _ h.r1 rfl⟩
  | 1, _ => exact ⟨row_cj _ _ _ 2 _ h.r1 rfl, row_cj _ _ _ 3 _ h.r1 rfl⟩)
 have J2 : JoinsIn W W.heap.size (.slice (some ⟨s + 1, 0, none⟩) 3 3) pS2.2.2 := list_row (l := [(1, 0), (3, 0), (3, 1)]) h.r2 (by decide) (fun j hj => by
  match j, hj with
  | 0, _ => exact ⟨row_cj _ _ _ 0 _ h.r2 rfl, row_cj _ _ _ 1 _ h.r2 rfl⟩
  | 1, _ => exact ⟨row_cj _ _ _ 2 _ h.r2 rfl, row_cj _ _ _ 3 _ h.r2 rfl⟩
  | 2, _ => exact ⟨row_cj _ _ _ 4 _ h.r2 rfl, row_cj _ _ _ 5 _ h.r2 rfl⟩)
 have J3 : JoinsIn W W.heap.size (.slice (some ⟨s + 2, 0, none⟩) 2 2) pS3.2.2 := list_row (l := [(2, 1), (2, 2)]) h.r3 (by decide) (fun j hj => by
  match j, hj with
  | 0, _ => exact ⟨row_cj _ _ _ 0 _ h.r3 rfl, row_cj _ _ _ 1 _ h.r3 rfl⟩
  | 1, _ => exact ⟨row_cj _ _ _ 2 _ h.r3 rfl, row_cj _ _ _ 3 _ h.r3 rfl⟩)
 have SS : SectsIn W W.heap.size (.slice (some ⟨s + 3, 0, none⟩) 3 3) pSecs := list_row (l := pSecs) h.r4 (by decide) (fun j hj => by
  match j, hj with
  | 0, _ => exact ⟨row_cj _ _ _ 0 _ h.r4 rfl, row_cj _ _ _ 1 _ h.r4 rfl, _, row_cj _ _ _ 2 _ h.r4 rfl, J1⟩
  | 1, _ => exact ⟨row_cj _ _ _ 3 _ h.r4 rfl, row_cj _ _ _ 4 _ h.r4 rfl, _, row_cj _ _ _ 5 _ h.r4 rfl, J2⟩
  | 2, _ => exact ⟨row_cj _ _ _ 6 _ h.r4 rfl, row_cj _ _ _ 7 _ h.r4 rfl, _, row_cj _ _ _ 8 _ h.r4 rfl, J3⟩)
 have PP : JoinsIn W W.heap.size (.slice (some ⟨s + 4, 0, none⟩) 1 1) [(5, 2)] := list_row (l := [(5, 2)]) h.r5 (by decide) (fun j hj => by
  match j, hj with
  | 0, _ => exact ⟨row_cj _ _ _ 0 _ h.r5 rfl, row_cj _ _ _ 1 _ h.r5 rfl⟩)
 have GG : SigsIn W W.heap.size (.slice (some ⟨s + 5, 0, none⟩) 1 1) [(4, 1, 0)] := list_row (l := [(4, 1, 0)]) h.r6 (by decide) (fun j hj => by
  match j, hj with
  | 0, _ => exact ⟨row_cj _ _ _ 0 _ h.r6 rfl, row_cj _ _ _ 1 _ h.r6 rfl, row_cj _ _ _ 2 _ h.r6 rfl⟩)
 have RR : RoutesIn W W.heap.size (.slice (some ⟨s + 7, 0, none⟩) 1 1) [⟨8, 4, 0, l, [], [], t⟩] := list_row (l := [(⟨8, 4, 0, l, [], [], t⟩ : Rt)]) h.r8 (by simp) (fun j hj => by
  match j, hj with
  | 0, _ => exact ⟨row_cj _ _ _ 0 _ h.r8 rfl, row_cj _ _ _ 1 _ h.r8 rfl, row_cj _ _ _ 2 _ h.r8 rfl, row_cj _ _ _ 6 _ h.r8 rfl, _, _, _, row_cj _ _ _ 3 _ h.r8 rfl, row_cj _ _ _ 4 _ h.r8 rfl, row_cj _ _ _ 5 _ h.r8 rfl, ⟨hl, ListIn.nil_, ListIn.nil_⟩⟩)
 exact ⟨_, _, _, _, rfl, ⟨SS, PP, GG, RR⟩⟩
end Go.Proofs.YtneeocnjfnneoaaGreat
