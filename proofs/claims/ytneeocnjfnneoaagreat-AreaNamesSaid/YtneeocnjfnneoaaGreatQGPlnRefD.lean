/-
 The document's own functions Same, SameAll of package track and SameRoute, Same of package plan, for any two.
 Conditions: none.
-/
import Derived.Test.YtneeocnjfnneoaaGreatQGPlnRefA
import Derived.BigQuiet
import Derived.Deep.RegionHeld3
import Derived.Test.YtneeocnjfnneoaaGreatQGTrkRef
import Derived.Test.YtneeocnjfnneoaaGreatQGPlnRefB
import Derived.Test.YtneeocnjfnneoaaGreatQGPlnRefC
set_option linter.unusedVariables false
set_option linter.unusedSimpArgs false
set_option maxRecDepth 100000
namespace Go.Proofs.YtneeocnjfnneoaaGreat
open Go.RowKit

noncomputable def eqB {α : Type} (a b : α) : Bool := @decide (a = b) (Classical.propDecidable _)
theorem eqB_true {α : Type} {a b : α} (h : a = b) : eqB a b = true := by rw [eqB]; exact @decide_eq_true _ (Classical.propDecidable _) h
theorem eqB_false {α : Type} {a b : α} (h : ¬ a = b) : eqB a b = false := by rw [eqB]; exact @decide_eq_false _ (Classical.propDecidable _) h
theorem eqB_iff {α : Type} {a b : α} : eqB a b = true ↔ a = b := by rw [eqB]; exact @decide_eq_true_iff _ (Classical.propDecidable _)
theorem eqB_dec {α : Type} [DecidableEq α] (a b : α) : decide (a = b) = eqB a b := by
 by_cases h : a = b
 ·rw [eqB_true h]; exact decide_eq_true h
 ·rw [eqB_false h]; exact decide_eq_false h
theorem list_ext {α : Type} {l m : List α} (hn : l.length = m.length) (h : ∀ j (h1 : j < l.length) (h2 : j < m.length), l[j] = m[j]) : l = m := List.ext_getElem hn h
theorem rt_eq {r s : Rt} : r = s ↔ r.id = s.id ∧ r.entry = s.entry ∧ r.exit = s.exit ∧ r.timer = s.timer ∧ r.path = s.path ∧ r.over = s.over ∧ r.flanks = s.flanks := by
 constructor
 ·rintro rfl; exact ⟨rfl, rfl, rfl, rfl, rfl, rfl, rfl⟩
 ·obtain ⟨a1, a2, a3, a4, a5, a6, a7⟩ := r
  obtain ⟨b1, b2, b3, b4, b5, b6, b7⟩ := s
  dsimp only
  rintro ⟨rfl, rfl, rfl, rfl, rfl, rfl, rfl⟩
  rfl
theorem pl_eq {p q : Pl} : p = q ↔ p.ver = q.ver ∧ p.par = q.par ∧ p.secs = q.secs ∧ p.pts = q.pts ∧ p.sigs = q.sigs ∧ p.routes = q.routes := by
 cases p; cases q; simp

theorem eqJoin (a b c d : Int) (w : World) : (Op.equalIn 10000 85 (.agg #[.int .i64 a, .int .i64 b]) (.agg #[.int .i64 c, .int .i64 d])).run Tryz.prog w = .ok ((a == c) && (b == d)) w := by
 have hagg : (isAgg 3).run Tryz.prog w = .ok false w := by
  unfold isAgg
  rw [Sem.run_bind, run_underlying Tryz.underlying3 w]
  simp
 rw [run_equalIn_agg w 9999 85 _ _ (by rw [Program.fieldsOf, Tryz.underlying85]) (by kernel_rfl)]
 simp only [Program.fieldsOf, Tryz.underlying85, Op.eqFields]
 have hi : ∀ x y : Int, (Op.equalIn 9999 3 (.int .i64 x) (.int .i64 y)).run Tryz.prog w = .ok (x == y) w := fun x y => run_equalIn_int w 9998 3 .i64 .i64 x y Tryz.underlying3
 by_cases h1 : a = c <;> by_cases h2 : b = d <;> simp [part, Sem.run_bind, Sem.run_ite, hagg, hi, h1, h2]
theorem eqJoin_ne {x y : Jn} (h : ¬ x = y) (w : World) : (Op.equalIn 10000 85 (.agg #[.int .i64 x.1, .int .i64 x.2]) (.agg #[.int .i64 y.1, .int .i64 y.2])).run Tryz.prog w = .ok false w := by
 rw [eqJoin]
 congr 1
 by_cases h1 : x.1 = y.1
 ·have h2 : ¬ x.2 = y.2 := fun h2 => h (Prod.ext h1 h2)
  simp [h2]
 ·simp [h1]
theorem eqJoin_eq {x y : Jn} (h : x = y) (w : World) : (Op.equalIn 10000 85 (.agg #[.int .i64 x.1, .int .i64 x.2]) (.agg #[.int .i64 y.1, .int .i64 y.2])).run Tryz.prog w = .ok true w := by
 rw [eqJoin, h]; simp

theorem eqFlank (a b c d : Int) (w : World) : (Op.equalIn 10000 64 (.agg #[.int .i64 a, .int .i64 b]) (.agg #[.int .i64 c, .int .i64 d])).run Tryz.prog w = .ok ((a == c) && (b == d)) w := by
 have hagg : (isAgg 3).run Tryz.prog w = .ok false w := by
  unfold isAgg
  rw [Sem.run_bind, run_underlying Tryz.underlying3 w]
  simp
 rw [run_equalIn_agg w 9999 64 _ _ (by rw [Program.fieldsOf, Tryz.underlying64]) (by kernel_rfl)]
 simp only [Program.fieldsOf, Tryz.underlying64, Op.eqFields]
 have hi : ∀ x y : Int, (Op.equalIn 9999 3 (.int .i64 x) (.int .i64 y)).run Tryz.prog w = .ok (x == y) w := fun x y => run_equalIn_int w 9998 3 .i64 .i64 x y Tryz.underlying3
 by_cases h1 : a = c <;> by_cases h2 : b = d <;> simp [part, Sem.run_bind, Sem.run_ite, hagg, hi, h1, h2]
theorem eqFlank_ne {x y : Jn} (h : ¬ x = y) (w : World) : (Op.equalIn 10000 64 (.agg #[.int .i64 x.1, .int .i64 x.2]) (.agg #[.int .i64 y.1, .int .i64 y.2])).run Tryz.prog w = .ok false w := by
 rw [eqFlank]
 congr 1
 by_cases h1 : x.1 = y.1
 ·have h2 : ¬ x.2 = y.2 := fun h2 => h (Prod.ext h1 h2)
  simp [h2]
 ·simp [h1]
theorem eqFlank_eq {x y : Jn} (h : x = y) (w : World) : (Op.equalIn 10000 64 (.agg #[.int .i64 x.1, .int .i64 x.2]) (.agg #[.int .i64 y.1, .int .i64 y.2])).run Tryz.prog w = .ok true w := by
 rw [eqFlank, h]; simp

theorem eqPoint (a b c d : Int) (w : World) : (Op.equalIn 10000 60 (.agg #[.int .i64 a, .int .i64 b]) (.agg #[.int .i64 c, .int .i64 d])).run Tryz.prog w = .ok ((a == c) && (b == d)) w := by
 have hagg : (isAgg 3).run Tryz.prog w = .ok false w := by
  unfold isAgg
  rw [Sem.run_bind, run_underlying Tryz.underlying3 w]
  simp
 rw [run_equalIn_agg w 9999 60 _ _ (by rw [Program.fieldsOf, Tryz.underlying60]) (by kernel_rfl)]
 simp only [Program.fieldsOf, Tryz.underlying60, Op.eqFields]
 have hi : ∀ x y : Int, (Op.equalIn 9999 3 (.int .i64 x) (.int .i64 y)).run Tryz.prog w = .ok (x == y) w := fun x y => run_equalIn_int w 9998 3 .i64 .i64 x y Tryz.underlying3
 by_cases h1 : a = c <;> by_cases h2 : b = d <;> simp [part, Sem.run_bind, Sem.run_ite, hagg, hi, h1, h2]
theorem eqPoint_ne {x y : Jn} (h : ¬ x = y) (w : World) : (Op.equalIn 10000 60 (.agg #[.int .i64 x.1, .int .i64 x.2]) (.agg #[.int .i64 y.1, .int .i64 y.2])).run Tryz.prog w = .ok false w := by
 rw [eqPoint]
 congr 1
 by_cases h1 : x.1 = y.1
 ·have h2 : ¬ x.2 = y.2 := fun h2 => h (Prod.ext h1 h2)
  simp [h2]
 ·simp [h1]
theorem eqPoint_eq {x y : Jn} (h : x = y) (w : World) : (Op.equalIn 10000 60 (.agg #[.int .i64 x.1, .int .i64 x.2]) (.agg #[.int .i64 y.1, .int .i64 y.2])).run Tryz.prog w = .ok true w := by
 rw [eqPoint, h]; simp

theorem eqSig (a b c d e f : Int) (w : World) : (Op.equalIn 10000 69 (.agg #[.int .i64 a, .int .i64 b, .int .i64 c]) (.agg #[.int .i64 d, .int .i64 e, .int .i64 f])).run Tryz.prog w = .ok ((a == d) && ((b == e) && (c == f))) w := by
 have hagg : (isAgg 3).run Tryz.prog w = .ok false w := by
  unfold isAgg
  rw [Sem.run_bind, run_underlying Tryz.underlying3 w]
  simp
 rw [run_equalIn_agg w 9999 69 _ _ (by rw [Program.fieldsOf, Tryz.underlying69]) (by kernel_rfl)]
 simp only [Program.fieldsOf, Tryz.underlying69, Op.eqFields]
 have hi : ∀ x y : Int, (Op.equalIn 9999 3 (.int .i64 x) (.int .i64 y)).run Tryz.prog w = .ok (x == y) w := fun x y => run_equalIn_int w 9998 3 .i64 .i64 x y Tryz.underlying3
 by_cases h1 : a = d <;> by_cases h2 : b = e <;> by_cases h3 : c = f <;> simp [part, Sem.run_bind, Sem.run_ite, hagg, hi, h1, h2, h3]
theorem eqSig_ne {x y : Sg} (h : ¬ x = y) (w : World) : (Op.equalIn 10000 69 (.agg #[.int .i64 x.1, .int .i64 x.2.1, .int .i64 x.2.2]) (.agg #[.int .i64 y.1, .int .i64 y.2.1, .int .i64 y.2.2])).run Tryz.prog w = .ok false w := by
 rw [eqSig]
 congr 1
 by_cases h1 : x.1 = y.1
 ·by_cases h2 : x.2.1 = y.2.1
  ·have h3 : ¬ x.2.2 = y.2.2 := fun h3 => h (Prod.ext h1 (Prod.ext h2 h3))
   simp [h3]
  ·simp [h2]
 ·simp [h1]
theorem eqSig_eq {x y : Sg} (h : x = y) (w : World) : (Op.equalIn 10000 69 (.agg #[.int .i64 x.1, .int .i64 x.2.1, .int .i64 x.2.2]) (.agg #[.int .i64 y.1, .int .i64 y.2.1, .int .i64 y.2.2])).run Tryz.prog w = .ok true w := by
 rw [eqSig, h]; simp

theorem getElem_congr' {α : Type} {l m : List α} {i : Nat} {h1 : i < l.length} {h2 : i < m.length} (h : l = m) : l[i] = m[i] := by subst h; rfl
structure C3 (w : World) (b : Nat) (v0 v1 v2 : Value) : Prop where
 c0 : w.cell? ⟨b, 0, none⟩ = some v0
theorem cell3_ {w : World} {b : Nat} {v1 v2 v3 : Value} {t : TypeId} {fr : Nat × Nat} : (w.heap[b]? = some (.cells #[v1, v2, v3] t fr) → w.cell? ⟨b, 0, none⟩ = some v1 ∧ w.cell? ⟨b, 1, none⟩ = some v2 ∧ w.cell? ⟨b, 2, none⟩ = some v3) ∧ True := ⟨cell3_of, trivial⟩
theorem cell6_ {w : World} {b : Nat} {v0 v1 v2 v3 v4 v5 : Value} {t : TypeId} {fr : Nat × Nat} : (w.heap[b]? = some (.cells #[v0, v1, v2, v3, v4, v5] t fr) → w.cell? ⟨b, 0, none⟩ = some v0 ∧ w.cell? ⟨b, 1, none⟩ = some v1 ∧ w.cell? ⟨b, 2, none⟩ = some v2 ∧ w.cell? ⟨b, 3, none⟩ = some v3 ∧ w.cell? ⟨b, 4, none⟩ = some v4 ∧ w.cell? ⟨b, 5, none⟩ = some v5) ∧ True := ⟨cell6_of, trivial⟩
theorem cell7_ {w : World} {b : Nat} {v0 v1 v2 v3 v4 v5 v6 : Value} {t : TypeId} {fr : Nat × Nat} : (w.heap[b]? = some (.cells #[v0, v1, v2, v3, v4, v5, v6] t fr) → w.cell? ⟨b, 0, none⟩ = some v0 ∧ w.cell? ⟨b, 1, none⟩ = some v1 ∧ w.cell? ⟨b, 2, none⟩ = some v2 ∧ w.cell? ⟨b, 3, none⟩ = some v3 ∧ w.cell? ⟨b, 4, none⟩ = some v4 ∧ w.cell? ⟨b, 5, none⟩ = some v5 ∧ w.cell? ⟨b, 6, none⟩ = some v6) ∧ True := ⟨cell7_of, trivial⟩

set_option maxHeartbeats 4000000 in
theorem rsame7_any (v y : Value) (s t : Sec) (w : World) (h : SecV w w.heap.size v s) (h' : SecV w w.heap.size y t) :
  Calls Tryz.prog 76 #[v, y] w fun e w' => e = .returned (.bool (eqB s t)) ∧ Below w.heap.size w w' := by
 obtain ⟨u, rfl, hu⟩ := h
 obtain ⟨u', rfl, hu'⟩ := h'
 obtain ⟨A, c, rfl, hcl, hcm⟩ := hu.slice
 obtain ⟨A', c', rfl, hcl', hcm'⟩ := hu'.slice
 obtain ⟨id, pt, es⟩ := s
 obtain ⟨id', pt', fs⟩ := t
 dsimp only at hu hu' hcl hcm hcl' hcm' ⊢
 unfold maxLen at hcm hcm'
 obtain ⟨n, hn⟩ : ∃ n, n = es.length := ⟨_, rfl⟩
 obtain ⟨n', hn'⟩ : ∃ n', n' = fs.length := ⟨_, rfl⟩
 have hml : n ≤ 9223372036854775807 := by omega
 have hml' : n' ≤ 9223372036854775807 := by omega
 have HA : Hid (JoinsIn w w.heap.size (.slice A n c) es) := Lib.hid (by rw [hn]; exact hu)
 have HB : Hid (JoinsIn w w.heap.size (.slice A' n' c') fs) := Lib.hid (by rw [hn']; exact hu')
 have HN0 : Hid (n = es.length ∧ n' = fs.length) := Lib.hid ⟨hn, hn'⟩
 rw [← hn, ← hn']
 clear hn hn' hu hu' hcl hcm hcl' hcm'
 have hq := two_boxes w (.cells #[.int .i64 id, .int .i64 pt, .slice A n c] 67) (.cells #[.int .i64 id', .int .i64 pt', .slice A' n' c'] 67)
 go_enter Tryz.func76, Tryz.ntmps76
 go_upto_region 1 with fail
 generalize (w.alloc (.cells #[.int .i64 id, .int .i64 pt, .slice A n c] 67)).alloc (.cells #[.int .i64 id', .int .i64 pt', .slice A' n' c'] 67) = q at hq ⊢
 obtain ⟨q0, q1, qb⟩ := hq
 have XA := Lib.hid q0
 have XB := Lib.hid q1
 have BZ := Lib.hid qb
 obtain ⟨k0, k1, k2⟩ := cell3_of q0
 obtain ⟨r0, r1, r2⟩ := cell3_of q1
 clear q0 q1 qb
 by_cases h1 : id = id'
 ·by_cases h2 : pt = pt'
  ·by_cases h3 : n = n'
   ·subst h1
    subst h2
    subst h3
    have HN : Hid (n = es.length ∧ n = fs.length) := HN0
    have NEQ : Hid (¬ es = fs → eqB (id, pt, es) (id, pt, fs) = false) := Lib.hid (fun h => eqB_false (fun h2 => by injection h2 with _ h2; injection h2 with _ h2; exact h h2))
    go_wp2_with fail
    go_loopw [5] (fun sL wr => ∃ i : Nat, i ≤ n ∧ sL = .int .i64 i ∧ (∀ j (hj : j < i) (h1 : j < es.length) (h2 : j < fs.length), es[j] = fs[j]) ∧ wr.heap[w.heap.size]? = some (.cells #[.int .i64 id, .int .i64 pt, .slice A n c] 67 (0, 0)) ∧ wr.heap[w.heap.size + 1]? = some (.cells #[.int .i64 id, .int .i64 pt, .slice A' n c'] 67 (0, 0)) ∧ Below w.heap.size w wr) (fun sL _ => n - (intOf sL).toNat)
    case atStart => exact ⟨0, by omega, by go_num, fun j hj => absurd hj (by omega), XA.out, XB.out, BZ.out⟩
    case round =>
     obtain ⟨i, hi, rfl, hall, hxa, hxb, hbw⟩ := hrel
     have HALL := Lib.hid hall
     clear XA XB BZ
     have XA := Lib.hid hxa
     have XB := Lib.hid hxb
     have BZ := Lib.hid hbw
     clear hall hxa hxb hbw
     obtain ⟨k0, k1, k2⟩ := cell3_.1 XA.out
     obtain ⟨r0, r1, r2⟩ := cell3_.1 XB.out
     by_cases hlt : i < n
     ·have hlt2 : (i : Int) < n := by omega
      have hir : i < es.length := by have := HN.out; omega
      have him : i < fs.length := by have := HN.out; omega
      obtain ⟨b, off, e1, hb, hc0, hc1⟩ := ((HA.out.below joinR BZ.out).more joinR BZ.out.size).at hir
      obtain ⟨b', off', e2, hb', hd0, hd1⟩ := ((HB.out.below joinR BZ.out).more joinR BZ.out.size).at him
      subst e1
      subst e2
      obtain ⟨x, hx⟩ : ∃ x, x = es[i] := ⟨_, rfl⟩
      obtain ⟨y, hy⟩ : ∃ y, y = fs[i] := ⟨_, rfl⟩
      rw [← hx] at hc0 hc1
      rw [← hy] at hd0 hd1
      have hg0 : wr.cell? ⟨b, off + i * 2, none⟩ = some (.int .i64 x.1) := hc0
      have hh0 : wr.cell? ⟨b', off' + i * 2, none⟩ = some (.int .i64 y.1) := hd0
      have hg1 : wr.cell? ⟨b, off + i * 2 + 1, none⟩ = some (.int .i64 x.2) := hc1
      have hh1 : wr.cell? ⟨b', off' + i * 2 + 1, none⟩ = some (.int .i64 y.2) := hd1
      have HX := Lib.hid hx
      have HY := Lib.hid hy
      have BD : Hid (∀ nq, Below w.heap.size w (wr.drewN nq)) := Lib.hid (fun nq => ⟨BZ.out.os, BZ.out.tape, BZ.out.output, BZ.out.size, BZ.out.block⟩)
      have XD : Hid (∀ nq, (wr.drewN nq).heap[w.heap.size]? = wr.heap[w.heap.size]? ∧ (wr.drewN nq).heap[w.heap.size + 1]? = wr.heap[w.heap.size + 1]?) := Lib.hid (fun nq => ⟨rfl, rfl⟩)
      clear hc0 hc1 hd0 hd1 hx hy hb hb'
      go_upto_region 6 with fail
      by_cases he : x = y
      ·have hcmp : ∀ w' : World, (Op.equalIn 10000 85 (.agg #[.int .i64 x.1, .int .i64 x.2]) (.agg #[.int .i64 y.1, .int .i64 y.2])).run Tryz.prog w' = .ok true w' := eqJoin_eq he
       have NX : Hid (∀ j (hj : j < i + 1) (h1 : j < es.length) (h2 : j < fs.length), es[j] = fs[j]) := Lib.hid (fun j hj h1 h2 => by
        rcases Nat.lt_or_ge j i with h | h
        ·exact HALL.out j h h1 h2
        ·obtain rfl : j = i := by omega
         rw [← HX.out, ← HY.out]; exact he)
       clear he
       go_quiet (fail)
       have hdb := BD.out nq
       have hdx := XD.out nq
       rw [XA.out, XB.out] at hdx
       generalize wr.drewN nq = q7 at hdb hdx ⊢
       have B7 := Lib.hid hdb
       have X7 := Lib.hid hdx
       clear hdb hdx BD XD hcmp
       go_wp2_with fail
       go_roundw
       case measure => simp [intOf]; omega
       case rel => exact ⟨i + 1, by omega, by go_num, NX.out, X7.out.1, X7.out.2, B7.out⟩
      ·have hcmp : ∀ w' : World, (Op.equalIn 10000 85 (.agg #[.int .i64 x.1, .int .i64 x.2]) (.agg #[.int .i64 y.1, .int .i64 y.2])).run Tryz.prog w' = .ok false w' := eqJoin_ne he
       have HF : Hid (eqB (id, pt, es) (id, pt, fs) = false) := Lib.hid (NEQ.out (fun h => he (by rw [HX.out, HY.out]; exact getElem_congr' h)))
       clear he
       go_quiet (fail)
       have hdb := BD.out nq
       generalize wr.drewN nq = q7 at hdb ⊢
       have B7 := Lib.hid hdb
       clear hdb BD XD hcmp
       go_wp2_with fail
       go_ret
       exact ⟨by rw [HF.out]; rfl, B7.out⟩
     ·obtain rfl : i = n := by omega
      have hlt2 : ¬ (i : Int) < i := by omega
      have ALLQ : Hid (es = fs) := Lib.hid (list_ext (by have := HN.out; omega) fun j h1 h2 => HALL.out j (by have := HN.out; omega) h1 h2)
      clear HALL NEQ
      have HF : Hid (eqB (id, pt, es) (id, pt, fs) = true) := Lib.hid (eqB_true (by rw [ALLQ.out]))
      go_wp2_with fail
      go_ret
      exact ⟨by rw [HF.out]; rfl, BZ.out⟩
   ·have d1 : (id != id') = false := by simpa using h1
    have d2 : (pt != pt') = false := by simpa using h2
    have d3 : ((n : Int) != n') = true := by rw [bne_iff_ne]; omega
    have HF : Hid (eqB (id, pt, es) (id', pt', fs) = false) := Lib.hid (eqB_false (fun h => by injection h with _ h; injection h with _ h; have := HN0.out; subst h; omega))
    clear h1 h2 h3
    go_wp2_with fail
    go_ret
    exact ⟨by rw [HF.out]; rfl, BZ.out⟩
  ·have d1 : (id != id') = false := by simpa using h1
   have d2 : (pt != pt') = true := by simpa using h2
   have HF : Hid (eqB (id, pt, es) (id', pt', fs) = false) := Lib.hid (eqB_false (fun h => by injection h with _ h; injection h with h _; exact h2 h))
   clear h1 h2
   go_wp2_with fail
   go_ret
   exact ⟨by rw [HF.out]; rfl, BZ.out⟩
 ·have d1 : (id != id') = true := by simpa using h1
  have HF : Hid (eqB (id, pt, es) (id', pt', fs) = false) := Lib.hid (eqB_false (fun h => by injection h with h _; exact h1 h))
  clear h1
  go_wp2_with fail
  go_ret
  exact ⟨by rw [HF.out]; rfl, BZ.out⟩

set_option maxHeartbeats 4000000 in
theorem rsameall7_any (v y : Value) (l m : List Sec) (w : World) (h : SectsIn w w.heap.size v l) (h' : SectsIn w w.heap.size y m) :
  Calls Tryz.prog 45 #[v, y] w fun e w' => e = .returned (.bool (eqB l m)) ∧ Below w.heap.size w w' := by
 have H := Lib.hid h
 have H' := Lib.hid h'
 obtain ⟨A, c, rfl, hcl, hcm⟩ := h.slice
 obtain ⟨A', c', rfl, hcl', hcm'⟩ := h'.slice
 unfold maxLen at hcm
 have hml : l.length ≤ 9223372036854775807 := by omega
 obtain ⟨n, hn⟩ : ∃ n, n = l.length := ⟨_, rfl⟩
 obtain ⟨n', hn'⟩ : ∃ n', n' = m.length := ⟨_, rfl⟩
 have HN0 : Hid (n = l.length ∧ n' = m.length) := Lib.hid ⟨hn, hn'⟩
 have HA := Lib.hid (show SectsIn w w.heap.size (.slice A n c) l by rw [hn]; exact H.out)
 have HB := Lib.hid (show SectsIn w w.heap.size (.slice A' n' c') m by rw [hn']; exact H'.out)
 rw [← hn] at hml ⊢
 rw [← hn']
 clear hn hn' H H' hcl hcm hcl' hcm' h h'
 go_enter Tryz.func45, Tryz.ntmps45
 by_cases hnn : n = n'
 ·subst hnn
  have HN : Hid (n = l.length ∧ n = m.length) := HN0
  have NEQ : Hid (¬ l = m → eqB l m = false) := Lib.hid (fun h => eqB_false h)
  go_wp2_with fail
  go_loopw [5] (fun s5 wr => ∃ i : Nat, i ≤ n ∧ s5 = .int .i64 i ∧ (∀ j (hj : j < i) (h1 : j < l.length) (h2 : j < m.length), l[j] = m[j]) ∧ Below w.heap.size w wr) (fun s5 _ => n - (intOf s5).toNat)
  case atStart => exact ⟨0, by omega, by go_num, fun j hj => absurd hj (by omega), Below.refl _ _⟩
  case round =>
   obtain ⟨i, hi, rfl, hall, hbw⟩ := hrel
   have HALL := Lib.hid hall
   have BW := Lib.hid hbw
   clear hall hbw
   by_cases hlt : i < n
   ·have hlt2 : (i : Int) < n := by omega
    have hir : i < l.length := by have := HN.out; omega
    have him : i < m.length := by have := HN.out; omega
    obtain ⟨b, off, e1, hb, hc0, hc1, u, hc2, hu⟩ := ((HA.out.below secR_ BW.out).more secR_ BW.out.size).at hir
    obtain ⟨b', off', e2, hb', hd0, hd1, u', hd2, hu'⟩ := ((HB.out.below secR_ BW.out).more secR_ BW.out.size).at him
    subst e1
    subst e2
    obtain ⟨x, hx⟩ : ∃ x, x = l[i] := ⟨_, rfl⟩
    obtain ⟨y, hy⟩ : ∃ y, y = m[i] := ⟨_, rfl⟩
    rw [← hx] at hc0 hc1 hu
    rw [← hy] at hd0 hd1 hu'
    obtain ⟨id, pt, es⟩ := x
    obtain ⟨id', pt', fs⟩ := y
    obtain ⟨Au, cu, rfl, -, -⟩ := hu.slice
    obtain ⟨Av, cv, rfl, -, -⟩ := hu'.slice
    dsimp only at hc0 hc1 hc2 hd0 hd1 hd2 hu hu'
    have LG0 : Hid (wr.cell? ⟨b, off + i * 3, none⟩ = some (.int .i64 id)) := Lib.hid hc0
    have LG1 : Hid (wr.cell? ⟨b, off + i * 3 + 1, none⟩ = some (.int .i64 pt)) := Lib.hid hc1
    have LG2 : Hid (wr.cell? ⟨b, off + i * 3 + 2, none⟩ = some (.slice Au es.length cu)) := Lib.hid hc2
    have LH0 : Hid (wr.cell? ⟨b', off' + i * 3, none⟩ = some (.int .i64 id')) := Lib.hid hd0
    have LH1 : Hid (wr.cell? ⟨b', off' + i * 3 + 1, none⟩ = some (.int .i64 pt')) := Lib.hid hd1
    have LH2 : Hid (wr.cell? ⟨b', off' + i * 3 + 2, none⟩ = some (.slice Av fs.length cv)) := Lib.hid hd2
    have SV1 : Hid (SecV wr wr.heap.size (.agg #[.int .i64 id, .int .i64 pt, .slice Au es.length cu]) (id, pt, es)) := Lib.hid ⟨_, rfl, hu⟩
    have SV2 : Hid (SecV wr wr.heap.size (.agg #[.int .i64 id', .int .i64 pt', .slice Av fs.length cv]) (id', pt', fs)) := Lib.hid ⟨_, rfl, hu'⟩
    have LB := Lib.hid hb
    have LB' := Lib.hid hb'
    have HX := Lib.hid hx
    have HY := Lib.hid hy
    clear hc0 hc1 hc2 hd0 hd1 hd2 hu hu' hx hy hb hb'
    go_upto_region 6 with fail
    cases hq5 : eqB (id, pt, es) (id', pt', fs) with
    | true =>
     have NX : Hid (∀ j (hj : j < i + 1) (h1 : j < l.length) (h2 : j < m.length), l[j] = m[j]) := Lib.hid (fun j hj h1 h2 => by
      rcases Nat.lt_or_ge j i with h | h
      ·exact HALL.out j h h1 h2
      ·obtain rfl : j = i := by omega
       rw [← HX.out, ← HY.out]; exact eqB_iff.1 hq5)
     refine wp_region_held_drew (S := fun v => Below wr.heap.size wr v) (by kernel_rfl) (Below.refl wr.heap.size wr).drew (fun hHeld => ?_)
     refine tk 0 hHeld ?_;refine tk 1 hHeld ?_;refine tk 2 hHeld ?_
     refine wpAnyH_take (i := 3) (v := ?_) rfl (by kernel_rfl) (by kernel_rfl) (by kernel_rfl) (fun _ _ _ h => h) (Or.inl ⟨by rfl, ?_⟩) hHeld ?_
     rotate_left
     ·intro w' hSw; have cs0 := (hSw.cell (p := ⟨b, off + i * 3, none⟩) LB.out).trans LG0.out; have cs1 := (hSw.cell (p := ⟨b, off + i * 3 + 1, none⟩) LB.out).trans LG1.out; have cs2 := (hSw.cell (p := ⟨b, off + i * 3 + 2, none⟩) LB.out).trans LG2.out; go_simp; try with_reducible rfl
     simp only [zn, Act.put]
     refine tk 4 hHeld ?_;refine tk 5 hHeld ?_;refine tk 6 hHeld ?_
     refine wpAnyH_take (i := 7) (v := ?_) rfl (by kernel_rfl) (by kernel_rfl) (by kernel_rfl) (fun _ _ _ h => h) (Or.inl ⟨by rfl, ?_⟩) hHeld ?_
     rotate_left
     ·intro w' hSw; have ct0 := (hSw.cell (p := ⟨b', off' + i * 3, none⟩) LB'.out).trans LH0.out; have ct1 := (hSw.cell (p := ⟨b', off' + i * 3 + 1, none⟩) LB'.out).trans LH1.out; have ct2 := (hSw.cell (p := ⟨b', off' + i * 3 + 2, none⟩) LB'.out).trans LH2.out; go_simp; try with_reducible rfl
     simp only [zn, Act.put]
     refine tkr 8 (fun K hK => ?_)
     go_simp
     refine (rsame7_any _ _ (id, pt, es) (id', pt', fs) wr.drew (SV1.out.below (Below.refl wr.heap.size wr).drew) (SV2.out.below (Below.refl wr.heap.size wr).drew)).mono ?_
     rintro e w5 ⟨rfl, b5⟩
     rw [hq5]
     have B5 : Hid (Below wr.heap.size wr w5) := Lib.hid ((Below.refl wr.heap.size wr).drew.trans b5)
     clear b5
     try go_wp2_with fail
     refine hK.out _ _ ?_ fun hHeld => ?_;exact B5.out;clear hK K;try simp only [zn, Act.put]
     refine tk 9 hHeld ?_
     refine wpAnyH_done (by kernel_rfl) ?_ _
     have BY : Hid (Below w.heap.size w w5) := Lib.hid (BW.out.trans (B5.out.mono BW.out.size))
     go_wp2_with fail
     go_roundw
     case measure => simp [intOf]; omega
     case rel => exact ⟨i + 1, by omega, by go_num, NX.out, BY.out⟩
    | false =>
     have HF : Hid (eqB l m = false) := Lib.hid (NEQ.out (fun h => by
      have h2 := getElem_congr' (h1 := hir) (h2 := him) h
      rw [← HX.out, ← HY.out] at h2
      rw [eqB_true h2] at hq5
      cases hq5))
     refine wp_region_held_drew (S := fun v => Below wr.heap.size wr v) (by kernel_rfl) (Below.refl wr.heap.size wr).drew (fun hHeld => ?_)
     refine tk 0 hHeld ?_;refine tk 1 hHeld ?_;refine tk 2 hHeld ?_
     refine wpAnyH_take (i := 3) (v := ?_) rfl (by kernel_rfl) (by kernel_rfl) (by kernel_rfl) (fun _ _ _ h => h) (Or.inl ⟨by rfl, ?_⟩) hHeld ?_
     rotate_left
     ·intro w' hSw; have cs0 := (hSw.cell (p := ⟨b, off + i * 3, none⟩) LB.out).trans LG0.out; have cs1 := (hSw.cell (p := ⟨b, off + i * 3 + 1, none⟩) LB.out).trans LG1.out; have cs2 := (hSw.cell (p := ⟨b, off + i * 3 + 2, none⟩) LB.out).trans LG2.out; go_simp; try with_reducible rfl
     simp only [zn, Act.put]
     refine tk 4 hHeld ?_;refine tk 5 hHeld ?_;refine tk 6 hHeld ?_
     refine wpAnyH_take (i := 7) (v := ?_) rfl (by kernel_rfl) (by kernel_rfl) (by kernel_rfl) (fun _ _ _ h => h) (Or.inl ⟨by rfl, ?_⟩) hHeld ?_
     rotate_left
     ·intro w' hSw; have ct0 := (hSw.cell (p := ⟨b', off' + i * 3, none⟩) LB'.out).trans LH0.out; have ct1 := (hSw.cell (p := ⟨b', off' + i * 3 + 1, none⟩) LB'.out).trans LH1.out; have ct2 := (hSw.cell (p := ⟨b', off' + i * 3 + 2, none⟩) LB'.out).trans LH2.out; go_simp; try with_reducible rfl
     simp only [zn, Act.put]
     refine tkr 8 (fun K hK => ?_)
     go_simp
     refine (rsame7_any _ _ (id, pt, es) (id', pt', fs) wr.drew (SV1.out.below (Below.refl wr.heap.size wr).drew) (SV2.out.below (Below.refl wr.heap.size wr).drew)).mono ?_
     rintro e w5 ⟨rfl, b5⟩
     rw [hq5]
     have B5 : Hid (Below wr.heap.size wr w5) := Lib.hid ((Below.refl wr.heap.size wr).drew.trans b5)
     clear b5
     try go_wp2_with fail
     refine hK.out _ _ ?_ fun hHeld => ?_;exact B5.out;clear hK K;try simp only [zn, Act.put]
     refine tk 9 hHeld ?_
     refine wpAnyH_done (by kernel_rfl) ?_ _
     have BY : Hid (Below w.heap.size w w5) := Lib.hid (BW.out.trans (B5.out.mono BW.out.size))
     go_wp2_with fail
     go_ret
     exact ⟨by rw [HF.out]; rfl, BY.out⟩
   ·obtain rfl : i = n := by omega
    have hlt2 : ¬ (i : Int) < i := by omega
    have HF : Hid (eqB l m = true) := Lib.hid (eqB_true (list_ext (by have := HN.out; omega) fun j h1 h2 => HALL.out j (by have := HN.out; omega) h1 h2))
    go_wp2_with fail
    go_ret
    exact ⟨by rw [HF.out]; rfl, BW.out⟩
 ·have hnn' : ((n : Int) != n') = true := by rw [bne_iff_ne]; omega
  have HF : Hid (eqB l m = false) := Lib.hid (eqB_false (fun h => by subst h; have := HN0.out; omega))
  have BZ : Hid (Below w.heap.size w w) := Lib.hid (Below.refl _ _)
  clear hnn
  go_wp2_with fail
  go_ret
  exact ⟨by rw [HF.out]; rfl, BZ.out⟩

set_option maxHeartbeats 8000000 in
theorem rsameroute_any (v y : Value) (r s : Rt) (w : World) (h : RouteV w w.heap.size v r) (h' : RouteV w w.heap.size y s) :
  Calls Tryz.prog 26 #[v, y] w fun e w' => e = .returned (.bool (eqB r s)) ∧ Below w.heap.size w w' := by
 obtain ⟨y3, y4, y5, rfl, h1⟩ := h
 obtain ⟨z3, z4, z5, rfl, h2⟩ := h'
 obtain ⟨A3, ac3, rfl, hcl3, hcm3⟩ := h1.path.slice
 obtain ⟨B3, bc3, rfl, hdl3, hdm3⟩ := h2.path.slice
 obtain ⟨A4, ac4, rfl, hcl4, hcm4⟩ := h1.over.slice
 obtain ⟨B4, bc4, rfl, hdl4, hdm4⟩ := h2.over.slice
 obtain ⟨A5, ac5, rfl, hcl5, hcm5⟩ := h1.flanks.slice
 obtain ⟨B5, bc5, rfl, hdl5, hdm5⟩ := h2.flanks.slice
 obtain ⟨an3, ha3⟩ : ∃ n, n = r.path.length := ⟨_, rfl⟩
 obtain ⟨bn3, hb3⟩ : ∃ n, n = s.path.length := ⟨_, rfl⟩
 obtain ⟨an4, ha4⟩ : ∃ n, n = r.over.length := ⟨_, rfl⟩
 obtain ⟨bn4, hb4⟩ : ∃ n, n = s.over.length := ⟨_, rfl⟩
 obtain ⟨an5, ha5⟩ : ∃ n, n = r.flanks.length := ⟨_, rfl⟩
 obtain ⟨bn5, hb5⟩ : ∃ n, n = s.flanks.length := ⟨_, rfl⟩
 have HA3 : Hid (IntsIn w w.heap.size (.slice A3 an3 ac3) r.path) := Lib.hid (by rw [ha3]; exact h1.path)
 have HB3 : Hid (IntsIn w w.heap.size (.slice B3 bn3 bc3) s.path) := Lib.hid (by rw [hb3]; exact h2.path)
 have HA4 : Hid (IntsIn w w.heap.size (.slice A4 an4 ac4) r.over) := Lib.hid (by rw [ha4]; exact h1.over)
 have HB4 : Hid (IntsIn w w.heap.size (.slice B4 bn4 bc4) s.over) := Lib.hid (by rw [hb4]; exact h2.over)
 have HA5 : Hid (JoinsIn w w.heap.size (.slice A5 an5 ac5) r.flanks) := Lib.hid (by rw [ha5]; exact h1.flanks)
 have HB5 : Hid (JoinsIn w w.heap.size (.slice B5 bn5 bc5) s.flanks) := Lib.hid (by rw [hb5]; exact h2.flanks)
 unfold maxLen at hcm5 hdm5
 have hm5 : an5 ≤ 9223372036854775807 := by omega
 have hm5' : bn5 ≤ 9223372036854775807 := by omega
 have HN0 : Hid (an5 = r.flanks.length ∧ bn5 = s.flanks.length) := Lib.hid ⟨ha5, hb5⟩
 rw [← ha3, ← ha4, ← ha5, ← hb3, ← hb4, ← hb5]
 clear ha3 ha4 ha5 hb3 hb4 hb5 h1 h2 hcl3 hcm3 hcl4 hcm4 hcl5 hcm5 hdl3 hdm3 hdl4 hdm4 hdl5 hdm5
 have hq := two_boxes w (.cells #[.int .i64 r.id, .int .i64 r.entry, .int .i64 r.exit, .slice A3 an3 ac3, .slice A4 an4 ac4, .slice A5 an5 ac5, .int .i64 r.timer] 54) (.cells #[.int .i64 s.id, .int .i64 s.entry, .int .i64 s.exit, .slice B3 bn3 bc3, .slice B4 bn4 bc4, .slice B5 bn5 bc5, .int .i64 s.timer] 54)
 go_enter Tryz.func26, Tryz.ntmps26
 go_upto_region 1 with fail
 generalize (w.alloc (.cells #[.int .i64 r.id, .int .i64 r.entry, .int .i64 r.exit, .slice A3 an3 ac3, .slice A4 an4 ac4, .slice A5 an5 ac5, .int .i64 r.timer] 54)).alloc (.cells #[.int .i64 s.id, .int .i64 s.entry, .int .i64 s.exit, .slice B3 bn3 bc3, .slice B4 bn4 bc4, .slice B5 bn5 bc5, .int .i64 s.timer] 54) = q at hq ⊢
 obtain ⟨q0, q1, qb⟩ := hq
 have XA := Lib.hid q0
 have XB := Lib.hid q1
 have BZ := Lib.hid qb
 obtain ⟨k0, k1, k2, k3, k4, k5, k6⟩ := cell7_of q0
 obtain ⟨r0, r1, r2, r3, r4, r5, r6⟩ := cell7_of q1
 clear q0 q1 qb
 by_cases h_id : r.id = s.id
 case neg =>
  have d_id : (r.id != s.id) = true := by simpa using h_id
  have HF : Hid (eqB r s = false) := Lib.hid (eqB_false (fun h => h_id (by rw [h])))
  clear h_id
  go_wp2_with fail
  go_ret
  exact ⟨by rw [HF.out]; rfl, BZ.out⟩
 have d_id : (r.id != s.id) = false := by simpa using h_id
 by_cases h_entry : r.entry = s.entry
 case neg =>
  have d_entry : (r.entry != s.entry) = true := by simpa using h_entry
  have HF : Hid (eqB r s = false) := Lib.hid (eqB_false (fun h => h_entry (by rw [h])))
  clear h_id h_entry
  go_wp2_with fail
  go_ret
  exact ⟨by rw [HF.out]; rfl, BZ.out⟩
 have d_entry : (r.entry != s.entry) = false := by simpa using h_entry
 by_cases h_exit : r.exit = s.exit
 case neg =>
  have d_exit : (r.exit != s.exit) = true := by simpa using h_exit
  have HF : Hid (eqB r s = false) := Lib.hid (eqB_false (fun h => h_exit (by rw [h])))
  clear h_id h_entry h_exit
  go_wp2_with fail
  go_ret
  exact ⟨by rw [HF.out]; rfl, BZ.out⟩
 have d_exit : (r.exit != s.exit) = false := by simpa using h_exit
 by_cases h_timer : r.timer = s.timer
 case neg =>
  have d_timer : (r.timer != s.timer) = true := by simpa using h_timer
  have HF : Hid (eqB r s = false) := Lib.hid (eqB_false (fun h => h_timer (by rw [h])))
  clear h_id h_entry h_exit h_timer
  go_wp2_with fail
  go_ret
  exact ⟨by rw [HF.out]; rfl, BZ.out⟩
 have d_timer : (r.timer != s.timer) = false := by simpa using h_timer
 have FOUR : Hid (r.id = s.id ∧ r.entry = s.entry ∧ r.exit = s.exit ∧ r.timer = s.timer) := Lib.hid ⟨h_id, h_entry, h_exit, h_timer⟩
 clear h_id h_entry h_exit h_timer
 go_wp2_with fail
 refine (rints_any _ _ r.path s.path q ((HA3.out.below intR BZ.out).more intR BZ.out.size) ((HB3.out.below intR BZ.out).more intR BZ.out.size)).mono ?_
 rintro e w1 ⟨rfl, b1⟩
 rw [eqB_dec]
 replace XA := Lib.hid ((b1.block _ (heap_lt XA.out)).trans XA.out)
 replace XB := Lib.hid ((b1.block _ (heap_lt XB.out)).trans XB.out)
 replace BZ := Lib.hid (BZ.out.trans (b1.mono BZ.out.size))
 clear b1 k0 k1 k2 k3 k4 k5 k6 r0 r1 r2 r3 r4 r5 r6
 obtain ⟨k0, k1, k2, k3, k4, k5, k6⟩ := cell7_of XA.out
 obtain ⟨r0, r1, r2, r3, r4, r5, r6⟩ := cell7_of XB.out
 cases hp : eqB r.path s.path with
 | false =>
  have HF : Hid (eqB r s = false) := Lib.hid (eqB_false (fun h => by rw [eqB_true (by rw [h])] at hp; cases hp))
  clear hp
  go_wp2_with fail
  go_ret
  exact ⟨by rw [HF.out]; rfl, BZ.out⟩
 | true =>
 have HP := Lib.hid (eqB_iff.1 hp)
 clear hp
 go_wp2_with fail
 refine (rints_any _ _ r.over s.over w1 ((HA4.out.below intR BZ.out).more intR BZ.out.size) ((HB4.out.below intR BZ.out).more intR BZ.out.size)).mono ?_
 rintro e w2 ⟨rfl, b2⟩
 rw [eqB_dec]
 replace XA := Lib.hid ((b2.block _ (heap_lt XA.out)).trans XA.out)
 replace XB := Lib.hid ((b2.block _ (heap_lt XB.out)).trans XB.out)
 replace BZ := Lib.hid (BZ.out.trans (b2.mono BZ.out.size))
 clear b2 k0 k1 k2 k3 k4 k5 k6 r0 r1 r2 r3 r4 r5 r6
 obtain ⟨k0, k1, k2, k3, k4, k5, k6⟩ := cell7_of XA.out
 obtain ⟨r0, r1, r2, r3, r4, r5, r6⟩ := cell7_of XB.out
 cases hp : eqB r.over s.over with
 | false =>
  have HF : Hid (eqB r s = false) := Lib.hid (eqB_false (fun h => by rw [eqB_true (by rw [h])] at hp; cases hp))
  clear hp
  go_wp2_with fail
  go_ret
  exact ⟨by rw [HF.out]; rfl, BZ.out⟩
 | true =>
 have HO := Lib.hid (eqB_iff.1 hp)
 clear hp
 by_cases hn5 : an5 = bn5
 case neg =>
  have d5 : ((an5 : Int) != bn5) = true := by rw [bne_iff_ne]; omega
  have HF : Hid (eqB r s = false) := Lib.hid (eqB_false (fun h => hn5 (by have := HN0.out; rw [h] at this; omega)))
  clear hn5
  go_wp2_with fail
  go_ret
  exact ⟨by rw [HF.out]; rfl, BZ.out⟩
 subst hn5
 have HN : Hid (an5 = r.flanks.length ∧ an5 = s.flanks.length) := HN0
 have NEQ : Hid (¬ r.flanks = s.flanks → eqB r s = false) := Lib.hid (fun h => eqB_false (fun h2 => h (by rw [h2])))
 go_wp2_with fail
 go_loopw [5] (fun sL wr => ∃ i : Nat, i ≤ an5 ∧ sL = .int .i64 i ∧ (∀ j (hj : j < i) (h1 : j < r.flanks.length) (h2 : j < s.flanks.length), r.flanks[j] = s.flanks[j]) ∧ wr.heap[w.heap.size]? = some (.cells #[.int .i64 r.id, .int .i64 r.entry, .int .i64 r.exit, .slice A3 an3 ac3, .slice A4 an4 ac4, .slice A5 an5 ac5, .int .i64 r.timer] 54 (0, 0)) ∧ wr.heap[w.heap.size + 1]? = some (.cells #[.int .i64 s.id, .int .i64 s.entry, .int .i64 s.exit, .slice B3 bn3 bc3, .slice B4 bn4 bc4, .slice B5 an5 bc5, .int .i64 s.timer] 54 (0, 0)) ∧ Below w.heap.size w wr) (fun sL _ => an5 - (intOf sL).toNat)
 case atStart => exact ⟨0, by omega, by go_num, fun j hj => absurd hj (by omega), XA.out, XB.out, BZ.out⟩
 case round =>
  obtain ⟨i, hi, rfl, hall, hxa, hxb, hbw⟩ := hrel
  have HALL := Lib.hid hall
  clear XA XB BZ
  have XA := Lib.hid hxa
  have XB := Lib.hid hxb
  have BZ := Lib.hid hbw
  clear hall hxa hxb hbw
  obtain ⟨k0, k1, k2, k3, k4, k5, k6⟩ := cell7_.1 XA.out
  obtain ⟨r0, r1, r2, r3, r4, r5, r6⟩ := cell7_.1 XB.out
  by_cases hlt : i < an5
  ·have hlt2 : (i : Int) < an5 := by omega
   have hir : i < r.flanks.length := by have := HN.out; omega
   have him : i < s.flanks.length := by have := HN.out; omega
   obtain ⟨b, off, e1, hb, hc0, hc1⟩ := ((HA5.out.below joinR BZ.out).more joinR BZ.out.size).at hir
   obtain ⟨b', off', e2, hb', hd0, hd1⟩ := ((HB5.out.below joinR BZ.out).more joinR BZ.out.size).at him
   subst e1
   subst e2
   obtain ⟨x, hx⟩ : ∃ x, x = r.flanks[i] := ⟨_, rfl⟩
   obtain ⟨y, hy⟩ : ∃ y, y = s.flanks[i] := ⟨_, rfl⟩
   rw [← hx] at hc0 hc1
   rw [← hy] at hd0 hd1
   have hg0 : wr.cell? ⟨b, off + i * 2, none⟩ = some (.int .i64 x.1) := hc0
   have hh0 : wr.cell? ⟨b', off' + i * 2, none⟩ = some (.int .i64 y.1) := hd0
   have hg1 : wr.cell? ⟨b, off + i * 2 + 1, none⟩ = some (.int .i64 x.2) := hc1
   have hh1 : wr.cell? ⟨b', off' + i * 2 + 1, none⟩ = some (.int .i64 y.2) := hd1
   have HX := Lib.hid hx
   have HY := Lib.hid hy
   have BD : Hid (∀ nq, Below w.heap.size w (wr.drewN nq)) := Lib.hid (fun nq => ⟨BZ.out.os, BZ.out.tape, BZ.out.output, BZ.out.size, BZ.out.block⟩)
   have XD : Hid (∀ nq, (wr.drewN nq).heap[w.heap.size]? = wr.heap[w.heap.size]? ∧ (wr.drewN nq).heap[w.heap.size + 1]? = wr.heap[w.heap.size + 1]?) := Lib.hid (fun nq => ⟨rfl, rfl⟩)
   clear hc0 hc1 hd0 hd1 hx hy hb hb'
   go_upto_region 6 with fail
   by_cases he : x = y
   ·have hcmp : ∀ w' : World, (Op.equalIn 10000 64 (.agg #[.int .i64 x.1, .int .i64 x.2]) (.agg #[.int .i64 y.1, .int .i64 y.2])).run Tryz.prog w' = .ok true w' := eqFlank_eq he
    have NX : Hid (∀ j (hj : j < i + 1) (h1 : j < r.flanks.length) (h2 : j < s.flanks.length), r.flanks[j] = s.flanks[j]) := Lib.hid (fun j hj h1 h2 => by
     rcases Nat.lt_or_ge j i with h | h
     ·exact HALL.out j h h1 h2
     ·obtain rfl : j = i := by omega
      rw [← HX.out, ← HY.out]; exact he)
    clear he
    go_quiet (fail)
    have hdb := BD.out nq
    have hdx := XD.out nq
    rw [XA.out, XB.out] at hdx
    generalize wr.drewN nq = q7 at hdb hdx ⊢
    have B7 := Lib.hid hdb
    have X7 := Lib.hid hdx
    clear hdb hdx BD XD hcmp
    go_wp2_with fail
    go_roundw
    case measure => simp [intOf]; omega
    case rel => exact ⟨i + 1, by omega, by go_num, NX.out, X7.out.1, X7.out.2, B7.out⟩
   ·have hcmp : ∀ w' : World, (Op.equalIn 10000 64 (.agg #[.int .i64 x.1, .int .i64 x.2]) (.agg #[.int .i64 y.1, .int .i64 y.2])).run Tryz.prog w' = .ok false w' := eqFlank_ne he
    have HF : Hid (eqB r s = false) := Lib.hid (NEQ.out (fun h => he (by rw [HX.out, HY.out]; exact getElem_congr' h)))
    clear he
    go_quiet (fail)
    have hdb := BD.out nq
    generalize wr.drewN nq = q7 at hdb ⊢
    have B7 := Lib.hid hdb
    clear hdb BD XD hcmp
    go_wp2_with fail
    go_ret
    exact ⟨by rw [HF.out]; rfl, B7.out⟩
  ·obtain rfl : i = an5 := by omega
   have hlt2 : ¬ (i : Int) < i := by omega
   have ALLQ : Hid (r.flanks = s.flanks) := Lib.hid (list_ext (by have := HN.out; omega) fun j h1 h2 => HALL.out j (by have := HN.out; omega) h1 h2)
   clear HALL NEQ
   have HF : Hid (eqB r s = true) := Lib.hid (eqB_true (rt_eq.2 ⟨FOUR.out.1, FOUR.out.2.1, FOUR.out.2.2.1, FOUR.out.2.2.2, HP.out, HO.out, ALLQ.out⟩))
   go_wp2_with fail
   go_ret
   exact ⟨by rw [HF.out]; rfl, BZ.out⟩


set_option maxHeartbeats 16000000 in
theorem rsame8_any (v y : Value) (p q : Pl) (w : World) (h : PlanV w w.heap.size v p) (h' : PlanV w w.heap.size y q) :
  Calls Tryz.prog 20 #[v, y] w fun e w' => e = .returned (.bool (eqB p q)) ∧ Below w.heap.size w w' := by
 obtain ⟨y2, y3, y4, y5, rfl, h1⟩ := h
 obtain ⟨z2, z3, z4, z5, rfl, h2⟩ := h'
 obtain ⟨A2, ac2, rfl, hcl2, hcm2⟩ := h1.secs.slice
 obtain ⟨B2, bc2, rfl, hdl2, hdm2⟩ := h2.secs.slice
 obtain ⟨A3, ac3, rfl, hcl3, hcm3⟩ := h1.pts.slice
 obtain ⟨B3, bc3, rfl, hdl3, hdm3⟩ := h2.pts.slice
 obtain ⟨A4, ac4, rfl, hcl4, hcm4⟩ := h1.sigs.slice
 obtain ⟨B4, bc4, rfl, hdl4, hdm4⟩ := h2.sigs.slice
 obtain ⟨A5, ac5, rfl, hcl5, hcm5⟩ := h1.routes.slice
 obtain ⟨B5, bc5, rfl, hdl5, hdm5⟩ := h2.routes.slice
 obtain ⟨an2, ha2⟩ : ∃ n, n = p.secs.length := ⟨_, rfl⟩
 obtain ⟨bn2, hb2⟩ : ∃ n, n = q.secs.length := ⟨_, rfl⟩
 obtain ⟨an3, ha3⟩ : ∃ n, n = p.pts.length := ⟨_, rfl⟩
 obtain ⟨bn3, hb3⟩ : ∃ n, n = q.pts.length := ⟨_, rfl⟩
 obtain ⟨an4, ha4⟩ : ∃ n, n = p.sigs.length := ⟨_, rfl⟩
 obtain ⟨bn4, hb4⟩ : ∃ n, n = q.sigs.length := ⟨_, rfl⟩
 obtain ⟨an5, ha5⟩ : ∃ n, n = p.routes.length := ⟨_, rfl⟩
 obtain ⟨bn5, hb5⟩ : ∃ n, n = q.routes.length := ⟨_, rfl⟩
 have HA2 : Hid (SectsIn w w.heap.size (.slice A2 an2 ac2) p.secs) := Lib.hid (by rw [ha2]; exact h1.secs)
 have HB2 : Hid (SectsIn w w.heap.size (.slice B2 bn2 bc2) q.secs) := Lib.hid (by rw [hb2]; exact h2.secs)
 have HA3 : Hid (JoinsIn w w.heap.size (.slice A3 an3 ac3) p.pts) := Lib.hid (by rw [ha3]; exact h1.pts)
 have HB3 : Hid (JoinsIn w w.heap.size (.slice B3 bn3 bc3) q.pts) := Lib.hid (by rw [hb3]; exact h2.pts)
 have HA4 : Hid (SigsIn w w.heap.size (.slice A4 an4 ac4) p.sigs) := Lib.hid (by rw [ha4]; exact h1.sigs)
 have HB4 : Hid (SigsIn w w.heap.size (.slice B4 bn4 bc4) q.sigs) := Lib.hid (by rw [hb4]; exact h2.sigs)
 have HA5 : Hid (RoutesIn w w.heap.size (.slice A5 an5 ac5) p.routes) := Lib.hid (by rw [ha5]; exact h1.routes)
 have HB5 : Hid (RoutesIn w w.heap.size (.slice B5 bn5 bc5) q.routes) := Lib.hid (by rw [hb5]; exact h2.routes)
 unfold maxLen at hcm3 hdm3 hcm4 hdm4 hcm5 hdm5
 have hm3 : an3 ≤ 9223372036854775807 := by omega
 have hm3' : bn3 ≤ 9223372036854775807 := by omega
 have hm4 : an4 ≤ 9223372036854775807 := by omega
 have hm4' : bn4 ≤ 9223372036854775807 := by omega
 have hm5 : an5 ≤ 9223372036854775807 := by omega
 have hm5' : bn5 ≤ 9223372036854775807 := by omega
 have HN3 : Hid (an3 = p.pts.length ∧ bn3 = q.pts.length) := Lib.hid ⟨ha3, hb3⟩
 have HN4 : Hid (an4 = p.sigs.length ∧ bn4 = q.sigs.length) := Lib.hid ⟨ha4, hb4⟩
 have HN5 : Hid (an5 = p.routes.length ∧ bn5 = q.routes.length) := Lib.hid ⟨ha5, hb5⟩
 rw [← ha2, ← ha3, ← ha4, ← ha5, ← hb2, ← hb3, ← hb4, ← hb5]
 clear ha2 ha3 ha4 ha5 hb2 hb3 hb4 hb5 h1 h2 hcl2 hcm2 hcl3 hcm3 hcl4 hcm4 hcl5 hcm5 hdl2 hdm2 hdl3 hdm3 hdl4 hdm4 hdl5 hdm5
 have hq := two_boxes w (.cells #[.int .i64 p.ver, .int .i64 p.par, .slice A2 an2 ac2, .slice A3 an3 ac3, .slice A4 an4 ac4, .slice A5 an5 ac5] 33) (.cells #[.int .i64 q.ver, .int .i64 q.par, .slice B2 bn2 bc2, .slice B3 bn3 bc3, .slice B4 bn4 bc4, .slice B5 bn5 bc5] 33)
 go_enter Tryz.func20, Tryz.ntmps20
 go_upto_region 1 with fail
 generalize (w.alloc (.cells #[.int .i64 p.ver, .int .i64 p.par, .slice A2 an2 ac2, .slice A3 an3 ac3, .slice A4 an4 ac4, .slice A5 an5 ac5] 33)).alloc (.cells #[.int .i64 q.ver, .int .i64 q.par, .slice B2 bn2 bc2, .slice B3 bn3 bc3, .slice B4 bn4 bc4, .slice B5 bn5 bc5] 33) = q0 at hq ⊢
 obtain ⟨x0, x1, qb⟩ := hq
 have XA := Lib.hid x0
 have XB := Lib.hid x1
 have BZ := Lib.hid qb
 obtain ⟨k0, k1, k2, k3, k4, k5⟩ := cell6_of x0
 obtain ⟨r0, r1, r2, r3, r4, r5⟩ := cell6_of x1
 clear x0 x1 qb
 by_cases h_ver : p.ver = q.ver
 case neg =>
  have d_ver : (p.ver != q.ver) = true := by simpa using h_ver
  have HF : Hid (eqB p q = false) := Lib.hid (eqB_false (fun h => h_ver (by rw [h])))
  clear h_ver
  go_wp2_with fail
  go_ret
  exact ⟨by rw [HF.out]; rfl, BZ.out⟩
 have d_ver : (p.ver != q.ver) = false := by simpa using h_ver
 by_cases h_par : p.par = q.par
 case neg =>
  have d_par : (p.par != q.par) = true := by simpa using h_par
  have HF : Hid (eqB p q = false) := Lib.hid (eqB_false (fun h => h_par (by rw [h])))
  clear h_ver h_par
  go_wp2_with fail
  go_ret
  exact ⟨by rw [HF.out]; rfl, BZ.out⟩
 have d_par : (p.par != q.par) = false := by simpa using h_par
 have TWO : Hid (p.ver = q.ver ∧ p.par = q.par) := Lib.hid ⟨h_ver, h_par⟩
 clear h_ver h_par
 go_wp2_with fail
 refine (rsameall7_any _ _ p.secs q.secs q0 ((HA2.out.below secR_ BZ.out).more secR_ BZ.out.size) ((HB2.out.below secR_ BZ.out).more secR_ BZ.out.size)).mono ?_
 rintro e w1 ⟨rfl, b1⟩
 replace XA := Lib.hid ((b1.block _ (heap_lt XA.out)).trans XA.out)
 replace XB := Lib.hid ((b1.block _ (heap_lt XB.out)).trans XB.out)
 replace BZ := Lib.hid (BZ.out.trans (b1.mono BZ.out.size))
 clear b1 k0 k1 k2 k3 k4 k5 r0 r1 r2 r3 r4 r5
 obtain ⟨k0, k1, k2, k3, k4, k5⟩ := cell6_of XA.out
 obtain ⟨r0, r1, r2, r3, r4, r5⟩ := cell6_of XB.out
 cases hp : eqB p.secs q.secs with
 | false =>
  have HF : Hid (eqB p q = false) := Lib.hid (eqB_false (fun h => by rw [eqB_true (by rw [h])] at hp; cases hp))
  clear hp
  go_wp2_with fail
  go_ret
  exact ⟨by rw [HF.out]; rfl, BZ.out⟩
 | true =>
 have HSEC := Lib.hid (eqB_iff.1 hp)
 clear hp
 by_cases hn3 : an3 = bn3
 case neg =>
  have d3 : ((an3 : Int) != bn3) = true := by rw [bne_iff_ne]; omega
  have HF : Hid (eqB p q = false) := Lib.hid (eqB_false (fun h => hn3 (by have := HN3.out; rw [h] at this; omega)))
  clear hn3
  go_wp2_with fail
  go_ret
  exact ⟨by rw [HF.out]; rfl, BZ.out⟩
 subst hn3
 by_cases hn4 : an4 = bn4
 case neg =>
  have d4 : ((an4 : Int) != bn4) = true := by rw [bne_iff_ne]; omega
  have HF : Hid (eqB p q = false) := Lib.hid (eqB_false (fun h => hn4 (by have := HN4.out; rw [h] at this; omega)))
  clear hn4
  go_wp2_with fail
  go_ret
  exact ⟨by rw [HF.out]; rfl, BZ.out⟩
 subst hn4
 by_cases hn5 : an5 = bn5
 case neg =>
  have d5 : ((an5 : Int) != bn5) = true := by rw [bne_iff_ne]; omega
  have HF : Hid (eqB p q = false) := Lib.hid (eqB_false (fun h => hn5 (by have := HN5.out; rw [h] at this; omega)))
  clear hn5
  go_wp2_with fail
  go_ret
  exact ⟨by rw [HF.out]; rfl, BZ.out⟩
 subst hn5
 have HN : Hid (an3 = p.pts.length ∧ an3 = q.pts.length) := HN3
 have NEQ : Hid (¬ p.pts = q.pts → eqB p q = false) := Lib.hid (fun h => eqB_false (fun h2 => h (by rw [h2])))
 go_wp2_with fail
 go_loopw [5] (fun sL wr => ∃ i : Nat, i ≤ an3 ∧ sL = .int .i64 i ∧ (∀ j (hj : j < i) (h1 : j < p.pts.length) (h2 : j < q.pts.length), p.pts[j] = q.pts[j]) ∧ wr.heap[w.heap.size]? = some (.cells #[.int .i64 p.ver, .int .i64 p.par, .slice A2 an2 ac2, .slice A3 an3 ac3, .slice A4 an4 ac4, .slice A5 an5 ac5] 33 (0, 0)) ∧ wr.heap[w.heap.size + 1]? = some (.cells #[.int .i64 q.ver, .int .i64 q.par, .slice B2 bn2 bc2, .slice B3 an3 bc3, .slice B4 an4 bc4, .slice B5 an5 bc5] 33 (0, 0)) ∧ Below w.heap.size w wr) (fun sL _ => an3 - (intOf sL).toNat)
 case atStart => exact ⟨0, by omega, by go_num, fun j hj => absurd hj (by omega), XA.out, XB.out, BZ.out⟩
 case round =>
  obtain ⟨i, hi, rfl, hall, hxa, hxb, hbw⟩ := hrel
  have HALL := Lib.hid hall
  clear XA XB BZ
  have XA := Lib.hid hxa
  have XB := Lib.hid hxb
  have BZ := Lib.hid hbw
  clear hall hxa hxb hbw
  obtain ⟨k0, k1, k2, k3, k4, k5⟩ := cell6_.1 XA.out
  obtain ⟨r0, r1, r2, r3, r4, r5⟩ := cell6_.1 XB.out
  by_cases hlt : i < an3
  ·have hlt2 : (i : Int) < an3 := by omega
   have hir : i < p.pts.length := by have := HN.out; omega
   have him : i < q.pts.length := by have := HN.out; omega
   obtain ⟨b, off, e1, hb, hc0, hc1⟩ := ((HA3.out.below joinR BZ.out).more joinR BZ.out.size).at hir
   obtain ⟨b', off', e2, hb', hd0, hd1⟩ := ((HB3.out.below joinR BZ.out).more joinR BZ.out.size).at him
   subst e1
   subst e2
   obtain ⟨x, hx⟩ : ∃ x, x = p.pts[i] := ⟨_, rfl⟩
   obtain ⟨y, hy⟩ : ∃ y, y = q.pts[i] := ⟨_, rfl⟩
   rw [← hx] at hc0 hc1
   rw [← hy] at hd0 hd1
   have hg0 : wr.cell? ⟨b, off + i * 2, none⟩ = some (.int .i64 x.1) := hc0
   have hh0 : wr.cell? ⟨b', off' + i * 2, none⟩ = some (.int .i64 y.1) := hd0
   have hg1 : wr.cell? ⟨b, off + i * 2 + 1, none⟩ = some (.int .i64 x.2) := hc1
   have hh1 : wr.cell? ⟨b', off' + i * 2 + 1, none⟩ = some (.int .i64 y.2) := hd1
   have HX := Lib.hid hx
   have HY := Lib.hid hy
   have BD : Hid (∀ nq, Below w.heap.size w (wr.drewN nq)) := Lib.hid (fun nq => ⟨BZ.out.os, BZ.out.tape, BZ.out.output, BZ.out.size, BZ.out.block⟩)
   have XD : Hid (∀ nq, (wr.drewN nq).heap[w.heap.size]? = wr.heap[w.heap.size]? ∧ (wr.drewN nq).heap[w.heap.size + 1]? = wr.heap[w.heap.size + 1]?) := Lib.hid (fun nq => ⟨rfl, rfl⟩)
   clear hc0 hc1 hd0 hd1 hx hy hb hb'
   go_upto_region 6 with fail
   by_cases he : x = y
   ·have hcmp : ∀ w' : World, (Op.equalIn 10000 60 (.agg #[.int .i64 x.1, .int .i64 x.2]) (.agg #[.int .i64 y.1, .int .i64 y.2])).run Tryz.prog w' = .ok true w' := eqPoint_eq he
    have NX : Hid (∀ j (hj : j < i + 1) (h1 : j < p.pts.length) (h2 : j < q.pts.length), p.pts[j] = q.pts[j]) := Lib.hid (fun j hj h1 h2 => by
     rcases Nat.lt_or_ge j i with h | h
     ·exact HALL.out j h h1 h2
     ·obtain rfl : j = i := by omega
      rw [← HX.out, ← HY.out]; exact he)
    clear he
    go_quiet (fail)
    have hdb := BD.out nq
    have hdx := XD.out nq
    rw [XA.out, XB.out] at hdx
    generalize wr.drewN nq = q7 at hdb hdx ⊢
    have B7 := Lib.hid hdb
    have X7 := Lib.hid hdx
    clear hdb hdx BD XD hcmp
    go_wp2_with fail
    go_roundw
    case measure => simp [intOf]; omega
    case rel => exact ⟨i + 1, by omega, by go_num, NX.out, X7.out.1, X7.out.2, B7.out⟩
   ·have hcmp : ∀ w' : World, (Op.equalIn 10000 60 (.agg #[.int .i64 x.1, .int .i64 x.2]) (.agg #[.int .i64 y.1, .int .i64 y.2])).run Tryz.prog w' = .ok false w' := eqPoint_ne he
    have HF : Hid (eqB p q = false) := Lib.hid (NEQ.out (fun h => he (by rw [HX.out, HY.out]; exact getElem_congr' h)))
    clear he
    go_quiet (fail)
    have hdb := BD.out nq
    generalize wr.drewN nq = q7 at hdb ⊢
    have B7 := Lib.hid hdb
    clear hdb BD XD hcmp
    go_wp2_with fail
    go_ret
    exact ⟨by rw [HF.out]; rfl, B7.out⟩
  ·obtain rfl : an3 = i := by omega
   have hlt2 : ¬ (an3 : Int) < an3 := by omega
   have ALLQ : Hid (p.pts = q.pts) := Lib.hid (list_ext (by have := HN.out; omega) fun j h1 h2 => HALL.out j (by have := HN.out; omega) h1 h2)
   clear HALL NEQ
   have HPTS := ALLQ
   clear ALLQ HN
   have HN : Hid (an4 = p.sigs.length ∧ an4 = q.sigs.length) := HN4
   have NEQ : Hid (¬ p.sigs = q.sigs → eqB p q = false) := Lib.hid (fun h => eqB_false (fun h2 => h (by rw [h2])))
   go_wp2_with fail
   go_loopw [6] (fun sL wr => ∃ i : Nat, i ≤ an4 ∧ sL = .int .i64 i ∧ (∀ j (hj : j < i) (h1 : j < p.sigs.length) (h2 : j < q.sigs.length), p.sigs[j] = q.sigs[j]) ∧ wr.heap[w.heap.size]? = some (.cells #[.int .i64 p.ver, .int .i64 p.par, .slice A2 an2 ac2, .slice A3 an3 ac3, .slice A4 an4 ac4, .slice A5 an5 ac5] 33 (0, 0)) ∧ wr.heap[w.heap.size + 1]? = some (.cells #[.int .i64 q.ver, .int .i64 q.par, .slice B2 bn2 bc2, .slice B3 an3 bc3, .slice B4 an4 bc4, .slice B5 an5 bc5] 33 (0, 0)) ∧ Below w.heap.size w wr) (fun sL _ => an4 - (intOf sL).toNat)
   case atStart => exact ⟨0, by omega, by go_num, fun j hj => absurd hj (by omega), XA.out, XB.out, BZ.out⟩
   case round =>
    obtain ⟨i, hi, rfl, hall, hxa, hxb, hbw⟩ := hrel
    have HALL := Lib.hid hall
    clear XA XB BZ
    have XA := Lib.hid hxa
    have XB := Lib.hid hxb
    have BZ := Lib.hid hbw
    clear hall hxa hxb hbw
    obtain ⟨k0, k1, k2, k3, k4, k5⟩ := cell6_.1 XA.out
    obtain ⟨r0, r1, r2, r3, r4, r5⟩ := cell6_.1 XB.out
    by_cases hlt : i < an4
    ·have hlt2 : (i : Int) < an4 := by omega
     have hir : i < p.sigs.length := by have := HN.out; omega
     have him : i < q.sigs.length := by have := HN.out; omega
     obtain ⟨b, off, e1, hb, hc0, hc1, hc2⟩ := ((HA4.out.below sigR BZ.out).more sigR BZ.out.size).at hir
     obtain ⟨b', off', e2, hb', hd0, hd1, hd2⟩ := ((HB4.out.below sigR BZ.out).more sigR BZ.out.size).at him
     subst e1
     subst e2
     obtain ⟨x, hx⟩ : ∃ x, x = p.sigs[i] := ⟨_, rfl⟩
     obtain ⟨y, hy⟩ : ∃ y, y = q.sigs[i] := ⟨_, rfl⟩
     rw [← hx] at hc0 hc1 hc2
     rw [← hy] at hd0 hd1 hd2
     have hg0 : wr.cell? ⟨b, off + i * 3, none⟩ = some (.int .i64 x.1) := hc0
     have hh0 : wr.cell? ⟨b', off' + i * 3, none⟩ = some (.int .i64 y.1) := hd0
     have hg1 : wr.cell? ⟨b, off + i * 3 + 1, none⟩ = some (.int .i64 x.2.1) := hc1
     have hh1 : wr.cell? ⟨b', off' + i * 3 + 1, none⟩ = some (.int .i64 y.2.1) := hd1
     have hg2 : wr.cell? ⟨b, off + i * 3 + 2, none⟩ = some (.int .i64 x.2.2) := hc2
     have hh2 : wr.cell? ⟨b', off' + i * 3 + 2, none⟩ = some (.int .i64 y.2.2) := hd2
     have HX := Lib.hid hx
     have HY := Lib.hid hy
     have BD : Hid (∀ nq, Below w.heap.size w (wr.drewN nq)) := Lib.hid (fun nq => ⟨BZ.out.os, BZ.out.tape, BZ.out.output, BZ.out.size, BZ.out.block⟩)
     have XD : Hid (∀ nq, (wr.drewN nq).heap[w.heap.size]? = wr.heap[w.heap.size]? ∧ (wr.drewN nq).heap[w.heap.size + 1]? = wr.heap[w.heap.size + 1]?) := Lib.hid (fun nq => ⟨rfl, rfl⟩)
     clear hc0 hc1 hc2 hd0 hd1 hd2 hx hy hb hb'
     go_upto_region 11 with fail
     by_cases he : x = y
     ·have hcmp : ∀ w' : World, (Op.equalIn 10000 69 (.agg #[.int .i64 x.1, .int .i64 x.2.1, .int .i64 x.2.2]) (.agg #[.int .i64 y.1, .int .i64 y.2.1, .int .i64 y.2.2])).run Tryz.prog w' = .ok true w' := eqSig_eq he
      have NX : Hid (∀ j (hj : j < i + 1) (h1 : j < p.sigs.length) (h2 : j < q.sigs.length), p.sigs[j] = q.sigs[j]) := Lib.hid (fun j hj h1 h2 => by
       rcases Nat.lt_or_ge j i with h | h
       ·exact HALL.out j h h1 h2
       ·obtain rfl : j = i := by omega
        rw [← HX.out, ← HY.out]; exact he)
      clear he
      go_quiet (fail)
      have hdb := BD.out nq
      have hdx := XD.out nq
      rw [XA.out, XB.out] at hdx
      generalize wr.drewN nq = q7 at hdb hdx ⊢
      have B7 := Lib.hid hdb
      have X7 := Lib.hid hdx
      clear hdb hdx BD XD hcmp
      go_wp2_with fail
      go_roundw
      case measure => simp [intOf]; omega
      case rel => exact ⟨i + 1, by omega, by go_num, NX.out, X7.out.1, X7.out.2, B7.out⟩
     ·have hcmp : ∀ w' : World, (Op.equalIn 10000 69 (.agg #[.int .i64 x.1, .int .i64 x.2.1, .int .i64 x.2.2]) (.agg #[.int .i64 y.1, .int .i64 y.2.1, .int .i64 y.2.2])).run Tryz.prog w' = .ok false w' := eqSig_ne he
      have HF : Hid (eqB p q = false) := Lib.hid (NEQ.out (fun h => he (by rw [HX.out, HY.out]; exact getElem_congr' h)))
      clear he
      go_quiet (fail)
      have hdb := BD.out nq
      generalize wr.drewN nq = q7 at hdb ⊢
      have B7 := Lib.hid hdb
      clear hdb BD XD hcmp
      go_wp2_with fail
      go_ret
      exact ⟨by rw [HF.out]; rfl, B7.out⟩
    ·obtain rfl : an4 = i := by omega
     have hlt2 : ¬ (an4 : Int) < an4 := by omega
     have ALLQ : Hid (p.sigs = q.sigs) := Lib.hid (list_ext (by have := HN.out; omega) fun j h1 h2 => HALL.out j (by have := HN.out; omega) h1 h2)
     clear HALL NEQ
     have HSIG := ALLQ
     clear ALLQ
     go_wp2_with fail
     go_loopw [7] (fun sL wr => ∃ i : Nat, i ≤ an5 ∧ sL = .int .i64 i ∧ (∀ j (hj : j < i) (h1 : j < p.routes.length) (h2 : j < q.routes.length), p.routes[j] = q.routes[j]) ∧ wr.heap[w.heap.size]? = some (.cells #[.int .i64 p.ver, .int .i64 p.par, .slice A2 an2 ac2, .slice A3 an3 ac3, .slice A4 an4 ac4, .slice A5 an5 ac5] 33 (0, 0)) ∧ wr.heap[w.heap.size + 1]? = some (.cells #[.int .i64 q.ver, .int .i64 q.par, .slice B2 bn2 bc2, .slice B3 an3 bc3, .slice B4 an4 bc4, .slice B5 an5 bc5] 33 (0, 0)) ∧ Below w.heap.size w wr) (fun sL _ => an5 - (intOf sL).toNat)
     case atStart => exact ⟨0, by omega, by go_num, fun j hj => absurd hj (by omega), XA.out, XB.out, BZ.out⟩
     case round =>
      obtain ⟨i, hi, rfl, hall, hxa, hxb, hbw⟩ := hrel
      have HALL := Lib.hid hall
      clear XA XB BZ
      have XA := Lib.hid hxa
      have XB := Lib.hid hxb
      have BZ := Lib.hid hbw
      clear hall hxa hxb hbw
      obtain ⟨k0, k1, k2, k3, k4, k5⟩ := cell6_of XA.out
      obtain ⟨r0, r1, r2, r3, r4, r5⟩ := cell6_of XB.out
      by_cases hlt : i < an5
      ·have hlt2 : (i : Int) < an5 := by omega
       have hir : i < p.routes.length := by have := HN5.out; omega
       have him : i < q.routes.length := by have := HN5.out; omega
       obtain ⟨b, off, e1, hb, hc0, hc1, hc2, hc6, u3, u4, u5, hc3, hc4, hc5, hr⟩ := ((HA5.out.below routeR BZ.out).more routeR BZ.out.size).at hir
       obtain ⟨b', off', e2, hb', hd0, hd1, hd2, hd6, v3, v4, v5, hd3, hd4, hd5, hs⟩ := ((HB5.out.below routeR BZ.out).more routeR BZ.out.size).at him
       subst e1
       subst e2
       obtain ⟨R, hR⟩ : ∃ R, R = p.routes[i] := ⟨_, rfl⟩
       obtain ⟨S, hS⟩ : ∃ S, S = q.routes[i] := ⟨_, rfl⟩
       rw [← hR] at hc0 hc1 hc2 hc6 hr
       rw [← hS] at hd0 hd1 hd2 hd6 hs
       obtain ⟨D3, dd3, rfl, -, -⟩ := hr.path.slice
       obtain ⟨D4, dd4, rfl, -, -⟩ := hr.over.slice
       obtain ⟨D5, dd5, rfl, -, -⟩ := hr.flanks.slice
       obtain ⟨E3, ee3, rfl, -, -⟩ := hs.path.slice
       obtain ⟨E4, ee4, rfl, -, -⟩ := hs.over.slice
       obtain ⟨E5, ee5, rfl, -, -⟩ := hs.flanks.slice
       have LG0 : Hid (wr.cell? ⟨b, off + i * 7, none⟩ = some (.int .i64 R.id)) := Lib.hid hc0
       have LG1 : Hid (wr.cell? ⟨b, off + i * 7 + 1, none⟩ = some (.int .i64 R.entry)) := Lib.hid hc1
       have LG2 : Hid (wr.cell? ⟨b, off + i * 7 + 2, none⟩ = some (.int .i64 R.exit)) := Lib.hid hc2
       have LG3 : Hid (wr.cell? ⟨b, off + i * 7 + 3, none⟩ = some (.slice D3 R.path.length dd3)) := Lib.hid hc3
       have LG4 : Hid (wr.cell? ⟨b, off + i * 7 + 4, none⟩ = some (.slice D4 R.over.length dd4)) := Lib.hid hc4
       have LG5 : Hid (wr.cell? ⟨b, off + i * 7 + 5, none⟩ = some (.slice D5 R.flanks.length dd5)) := Lib.hid hc5
       have LG6 : Hid (wr.cell? ⟨b, off + i * 7 + 6, none⟩ = some (.int .i64 R.timer)) := Lib.hid hc6
       have LH0 : Hid (wr.cell? ⟨b', off' + i * 7, none⟩ = some (.int .i64 S.id)) := Lib.hid hd0
       have LH1 : Hid (wr.cell? ⟨b', off' + i * 7 + 1, none⟩ = some (.int .i64 S.entry)) := Lib.hid hd1
       have LH2 : Hid (wr.cell? ⟨b', off' + i * 7 + 2, none⟩ = some (.int .i64 S.exit)) := Lib.hid hd2
       have LH3 : Hid (wr.cell? ⟨b', off' + i * 7 + 3, none⟩ = some (.slice E3 S.path.length ee3)) := Lib.hid hd3
       have LH4 : Hid (wr.cell? ⟨b', off' + i * 7 + 4, none⟩ = some (.slice E4 S.over.length ee4)) := Lib.hid hd4
       have LH5 : Hid (wr.cell? ⟨b', off' + i * 7 + 5, none⟩ = some (.slice E5 S.flanks.length ee5)) := Lib.hid hd5
       have LH6 : Hid (wr.cell? ⟨b', off' + i * 7 + 6, none⟩ = some (.int .i64 S.timer)) := Lib.hid hd6
       have SV1 : Hid (RouteV wr wr.heap.size (.agg #[.int .i64 R.id, .int .i64 R.entry, .int .i64 R.exit, .slice D3 R.path.length dd3, .slice D4 R.over.length dd4, .slice D5 R.flanks.length dd5, .int .i64 R.timer]) R) := Lib.hid ⟨_, _, _, rfl, hr⟩
       have SV2 : Hid (RouteV wr wr.heap.size (.agg #[.int .i64 S.id, .int .i64 S.entry, .int .i64 S.exit, .slice E3 S.path.length ee3, .slice E4 S.over.length ee4, .slice E5 S.flanks.length ee5, .int .i64 S.timer]) S) := Lib.hid ⟨_, _, _, rfl, hs⟩
       have LGB := Lib.hid hb
       have LHB := Lib.hid hb'
       have HX := Lib.hid hR
       have HY := Lib.hid hS
       clear hc0 hc1 hc2 hc3 hc4 hc5 hc6 hd0 hd1 hd2 hd3 hd4 hd5 hd6 hr hs hR hS hb hb'
       go_upto_region 16 with fail
       clear k0 k1 k2 k3 k4 k5 r0 r1 r2 r3 r4 r5
       cases hq5 : eqB R S with
       | true =>
        have NX : Hid (∀ j (hj : j < i + 1) (h1 : j < p.routes.length) (h2 : j < q.routes.length), p.routes[j] = q.routes[j]) := Lib.hid (fun j hj h1 h2 => by
         rcases Nat.lt_or_ge j i with h | h
         ·exact HALL.out j h h1 h2
         ·obtain rfl : j = i := by omega
          rw [← HX.out, ← HY.out]; exact eqB_iff.1 hq5)
        refine wp_region_held_drew (S := fun v => Below wr.heap.size wr v) (by kernel_rfl) (Below.refl wr.heap.size wr).drew (fun hHeld => ?_)
        refine tk 0 hHeld ?_;refine tkc 1 hHeld (fun w' hSw => cell6_of ((hSw.block _ (heap_lt XA.out)).trans XA.out)) ?_;refine tk 2 hHeld ?_;refine tk 3 hHeld ?_
        refine wpAnyH_take (i := 4) (v := ?_) rfl (by kernel_rfl) (by kernel_rfl) (by kernel_rfl) (fun _ _ _ h => h) (Or.inl ⟨by rfl, ?_⟩) hHeld ?_
        rotate_left
        ·intro w' hSw; have cs0 := (hSw.cell (p := ⟨b, off + i * 7, none⟩) LGB.out).trans LG0.out; have cs1 := (hSw.cell (p := ⟨b, off + i * 7 + 1, none⟩) LGB.out).trans LG1.out; have cs2 := (hSw.cell (p := ⟨b, off + i * 7 + 2, none⟩) LGB.out).trans LG2.out; have cs3 := (hSw.cell (p := ⟨b, off + i * 7 + 3, none⟩) LGB.out).trans LG3.out; have cs4 := (hSw.cell (p := ⟨b, off + i * 7 + 4, none⟩) LGB.out).trans LG4.out; have cs5 := (hSw.cell (p := ⟨b, off + i * 7 + 5, none⟩) LGB.out).trans LG5.out; have cs6 := (hSw.cell (p := ⟨b, off + i * 7 + 6, none⟩) LGB.out).trans LG6.out; go_simp; try with_reducible rfl
        simp only [zn, Act.put]
        refine tk 5 hHeld ?_;refine tkc 6 hHeld (fun w' hSw => cell6_of ((hSw.block _ (heap_lt XB.out)).trans XB.out)) ?_;refine tk 7 hHeld ?_;refine tk 8 hHeld ?_
        refine wpAnyH_take (i := 9) (v := ?_) rfl (by kernel_rfl) (by kernel_rfl) (by kernel_rfl) (fun _ _ _ h => h) (Or.inl ⟨by rfl, ?_⟩) hHeld ?_
        rotate_left
        ·intro w' hSw; have ct0 := (hSw.cell (p := ⟨b', off' + i * 7, none⟩) LHB.out).trans LH0.out; have ct1 := (hSw.cell (p := ⟨b', off' + i * 7 + 1, none⟩) LHB.out).trans LH1.out; have ct2 := (hSw.cell (p := ⟨b', off' + i * 7 + 2, none⟩) LHB.out).trans LH2.out; have ct3 := (hSw.cell (p := ⟨b', off' + i * 7 + 3, none⟩) LHB.out).trans LH3.out; have ct4 := (hSw.cell (p := ⟨b', off' + i * 7 + 4, none⟩) LHB.out).trans LH4.out; have ct5 := (hSw.cell (p := ⟨b', off' + i * 7 + 5, none⟩) LHB.out).trans LH5.out; have ct6 := (hSw.cell (p := ⟨b', off' + i * 7 + 6, none⟩) LHB.out).trans LH6.out; go_simp; try with_reducible rfl
        simp only [zn, Act.put]
        refine tkr 10 (fun K hK => ?_)
        go_simp
        refine (rsameroute_any _ _ R S wr.drew (SV1.out.below (Below.refl wr.heap.size wr).drew) (SV2.out.below (Below.refl wr.heap.size wr).drew)).mono ?_
        rintro e w5 ⟨rfl, b5⟩
        rw [hq5]
        have B5 : Hid (Below wr.heap.size wr w5) := Lib.hid ((Below.refl wr.heap.size wr).drew.trans b5)
        clear b5
        try go_wp2_with fail
        refine hK.out _ _ ?_ fun hHeld => ?_;exact B5.out;clear hK K;try simp only [zn, Act.put]
        refine tk 11 hHeld ?_
        refine wpAnyH_done (by kernel_rfl) ?_ _
        have BY : Hid (Below w.heap.size w w5) := Lib.hid (BZ.out.trans (B5.out.mono BZ.out.size))
        have Y1 := Lib.hid ((B5.out.block _ (heap_lt XA.out)).trans XA.out)
        have Y2 := Lib.hid ((B5.out.block _ (heap_lt XB.out)).trans XB.out)
        go_wp2_with fail
        go_roundw
        case measure => simp [intOf]; omega
        case rel => exact ⟨i + 1, by omega, by go_num, NX.out, Y1.out, Y2.out, BY.out⟩
       | false =>
        have HF : Hid (eqB p q = false) := Lib.hid (eqB_false (fun h => by
         have h2 := getElem_congr' (h1 := hir) (h2 := him) (show p.routes = q.routes by rw [h])
         rw [← HX.out, ← HY.out] at h2
         rw [eqB_true h2] at hq5
         cases hq5))
        refine wp_region_held_drew (S := fun v => Below wr.heap.size wr v) (by kernel_rfl) (Below.refl wr.heap.size wr).drew (fun hHeld => ?_)
        refine tk 0 hHeld ?_;refine tkc 1 hHeld (fun w' hSw => cell6_of ((hSw.block _ (heap_lt XA.out)).trans XA.out)) ?_;refine tk 2 hHeld ?_;refine tk 3 hHeld ?_
        refine wpAnyH_take (i := 4) (v := ?_) rfl (by kernel_rfl) (by kernel_rfl) (by kernel_rfl) (fun _ _ _ h => h) (Or.inl ⟨by rfl, ?_⟩) hHeld ?_
        rotate_left
        ·intro w' hSw; have cs0 := (hSw.cell (p := ⟨b, off + i * 7, none⟩) LGB.out).trans LG0.out; have cs1 := (hSw.cell (p := ⟨b, off + i * 7 + 1, none⟩) LGB.out).trans LG1.out; have cs2 := (hSw.cell (p := ⟨b, off + i * 7 + 2, none⟩) LGB.out).trans LG2.out; have cs3 := (hSw.cell (p := ⟨b, off + i * 7 + 3, none⟩) LGB.out).trans LG3.out; have cs4 := (hSw.cell (p := ⟨b, off + i * 7 + 4, none⟩) LGB.out).trans LG4.out; have cs5 := (hSw.cell (p := ⟨b, off + i * 7 + 5, none⟩) LGB.out).trans LG5.out; have cs6 := (hSw.cell (p := ⟨b, off + i * 7 + 6, none⟩) LGB.out).trans LG6.out; go_simp; try with_reducible rfl
        simp only [zn, Act.put]
        refine tk 5 hHeld ?_;refine tkc 6 hHeld (fun w' hSw => cell6_of ((hSw.block _ (heap_lt XB.out)).trans XB.out)) ?_;refine tk 7 hHeld ?_;refine tk 8 hHeld ?_
        refine wpAnyH_take (i := 9) (v := ?_) rfl (by kernel_rfl) (by kernel_rfl) (by kernel_rfl) (fun _ _ _ h => h) (Or.inl ⟨by rfl, ?_⟩) hHeld ?_
        rotate_left
        ·intro w' hSw; have ct0 := (hSw.cell (p := ⟨b', off' + i * 7, none⟩) LHB.out).trans LH0.out; have ct1 := (hSw.cell (p := ⟨b', off' + i * 7 + 1, none⟩) LHB.out).trans LH1.out; have ct2 := (hSw.cell (p := ⟨b', off' + i * 7 + 2, none⟩) LHB.out).trans LH2.out; have ct3 := (hSw.cell (p := ⟨b', off' + i * 7 + 3, none⟩) LHB.out).trans LH3.out; have ct4 := (hSw.cell (p := ⟨b', off' + i * 7 + 4, none⟩) LHB.out).trans LH4.out; have ct5 := (hSw.cell (p := ⟨b', off' + i * 7 + 5, none⟩) LHB.out).trans LH5.out; have ct6 := (hSw.cell (p := ⟨b', off' + i * 7 + 6, none⟩) LHB.out).trans LH6.out; go_simp; try with_reducible rfl
        simp only [zn, Act.put]
        refine tkr 10 (fun K hK => ?_)
        go_simp
        refine (rsameroute_any _ _ R S wr.drew (SV1.out.below (Below.refl wr.heap.size wr).drew) (SV2.out.below (Below.refl wr.heap.size wr).drew)).mono ?_
        rintro e w5 ⟨rfl, b5⟩
        rw [hq5]
        have B5 : Hid (Below wr.heap.size wr w5) := Lib.hid ((Below.refl wr.heap.size wr).drew.trans b5)
        clear b5
        try go_wp2_with fail
        refine hK.out _ _ ?_ fun hHeld => ?_;exact B5.out;clear hK K;try simp only [zn, Act.put]
        refine tk 11 hHeld ?_
        refine wpAnyH_done (by kernel_rfl) ?_ _
        have BY : Hid (Below w.heap.size w w5) := Lib.hid (BZ.out.trans (B5.out.mono BZ.out.size))
        go_wp2_with fail
        go_ret
        exact ⟨by rw [HF.out]; rfl, BY.out⟩
      ·obtain rfl : an5 = i := by omega
       have hlt2 : ¬ (an5 : Int) < an5 := by omega
       have HF : Hid (eqB p q = true) := Lib.hid (eqB_true (pl_eq.2 ⟨TWO.out.1, TWO.out.2, HSEC.out, HPTS.out, HSIG.out, list_ext (by have := HN5.out; omega) fun j h1 h2 => HALL.out j (by have := HN5.out; omega) h1 h2⟩))
       go_wp2_with fail
       go_ret
       exact ⟨by rw [HF.out]; rfl, BZ.out⟩

theorem run_append_listB {P : Program} {w : World} {base t ty e size bytes : Nat} {i : TypeInfo} {z : Value} (ht : P.underlying t = some (.slice e)) (hi : P.info? e = some i) (hz : i.zero = some z) (hzs : z.cells.size = size) (hsize : i.size = size) (hsz : 0 < size) (hby : i.bytes = bytes) (hb8 : bytes ≤ 1000)
  {v : Value} {n m c : Nat} {A : Option Addr} {ys news : List Value} (hown : w.ownsRow base e size v n ys) (hl : news.length = m * size) (hA : A = none → m = 0 ∧ c = 0)
  (hc : ∀ a, A = some a → ∀ j u, news[j]? = some u → w.cell? (a.add j) = some u) (h1 : ∀ u ∈ news, u.oneCell' = true) (h63 : n + m ≤ 100000) (hbase : base ≤ w.heap.size) :
  ∃ v' w', (Builtin.append_ #[t, t] ty #[v, .slice A m c]).run P w = .ok v' w' ∧ w'.ownsRow base e size v' (n + m) (ys ++ news) ∧ w.grownBy w' v.ownBlock := by
 cases A with
 | none =>
  obtain ⟨rfl, rfl⟩ := hA rfl
  obtain rfl : news = [] := List.eq_nil_of_length_eq_zero (by omega)
  exact ⟨v, w, run_append_owned_none (P := P) (w := w) base t ty e i size ht hi v n ys hown, by simpa using hown, World.grownBy.refl w _⟩
 | some a =>
  obtain ⟨v', w', hr, ho, hg, _⟩ := run_append_own (P := P) w base t ty e i z size bytes ht hi hz hsize hby hzs hsz v n ys hown a m c news hl (hc a rfl) h1 (by unfold maxLen; omega) (by have := Nat.mul_le_mul h63 hb8; omega) hbase
  exact ⟨v', w', hr, ho, hg⟩
theorem wp_append_listB {P : Program} {w : World} {o : Oper} {a : Act} {K : Act → World → Prop} {Q : Exit → Act → World → Prop} (s x : Operand) (t : TypeId)
  (ho : o.op = .call { callee := .builtin .append, args := #[s, x], argTypes := #[t, t] })
  {base e size bytes : Nat} {i : TypeInfo} {z : Value} (ht : P.underlying t = some (.slice e)) (hi : P.info? e = some i) (hz : i.zero = some z) (hzs : z.cells.size = size) (hsize : i.size = size) (hsz : 0 < size) (hby : i.bytes = bytes) (hb8 : bytes ≤ 1000)
  {v : Value} {n m c : Nat} {A : Option Addr} {ys news : List Value} (hs : a.eval s = v) (hown : w.ownsRow base e size v n ys) (hu : a.eval x = .slice A m c) (hl : news.length = m * size) (hA : A = none → m = 0 ∧ c = 0)
  (hc : ∀ a, A = some a → ∀ j u, news[j]? = some u → w.cell? (a.add j) = some u) (h1 : ∀ u ∈ news, u.oneCell' = true) (h63 : n + m ≤ 100000) (hbase : base ≤ w.heap.size)
  (h : ∀ v' w', w'.ownsRow base e size v' (n + m) (ys ++ news) → w.grownBy w' v.ownBlock → K (a.put o.dst v') w') : o.wp P a w K Q := by
 obtain ⟨v', w', hrun, h2, h3⟩ := run_append_listB (ty := o.type) ht hi hz hzs hsize hsz hby hb8 hown hl hA hc h1 h63 hbase
 unfold Oper.wp execOp
 simp only [ho, resolve, invoke, builtin, Sem.run_bind, Sem.run_pure, Result.andThen_ok, List.map_toArray, List.map_cons, List.map_nil, hs, hu, hrun]
 exact h v' w' h2 h3


theorem infoRouteI : (Tryz.prog.info? 54).map (fun i => (i.zero, i.size, i.bytes)) = some (some (.agg #[.int .i64 0, .int .i64 0, .int .i64 0, .slice none 0 0, .slice none 0 0, .slice none 0 0, .int .i64 0]), 7, 104) := by kernel_rfl
theorem infoPointI : (Tryz.prog.info? 60).map (fun i => (i.zero, i.size, i.bytes)) = some (some (.agg #[.int .i64 0, .int .i64 0]), 2, 16) := by kernel_rfl
theorem infoSigI : (Tryz.prog.info? 69).map (fun i => (i.zero, i.size, i.bytes)) = some (some (.agg #[.int .i64 0, .int .i64 0, .int .i64 0]), 3, 24) := by kernel_rfl
theorem infoPlan6 : (Tryz.prog.info? 33).map (·.size) = some 6 := by kernel_rfl
theorem sigR_full {W : World} {B : Nat} (c : Nat → Option Value) (x : Sg) (h : SigR W B c x) : ∀ k, k < 3 → ∃ v, c k = some v ∧ v.oneCell' = true := fun k hk => by
 match k, hk with
 | 0, _ => exact ⟨_, h.1, rfl⟩
 | 1, _ => exact ⟨_, h.2.1, rfl⟩
 | 2, _ => exact ⟨_, h.2.2, rfl⟩
/-- A block of a plan, or of routes: none of a section, a join, a point, a signal. -/
def FarB (W : World) (r : Option Nat) : Prop := ∀ g, r = some g → ∃ cur fr Te, W.heap[g]? = some (.cells cur Te fr) ∧ Te ≠ 67 ∧ Te ≠ 85 ∧ Te ≠ 60 ∧ Te ≠ 69 ∧ Te ≠ 3 ∧ Te ≠ 64
theorem far_ne {α : Type} {T : TypeId} {sz : Nat} {R : El α} {W : World} {lo : Nat} {v : Value} {l : List α} {r : Option Nat} (h : ListOwn T sz R W lo v l) (hr : FarB W r) (hT : ∀ Te, Te ≠ 67 ∧ Te ≠ 85 ∧ Te ≠ 60 ∧ Te ≠ 69 ∧ Te ≠ 3 ∧ Te ≠ 64 → Te ≠ T) : ∀ k, v.ownBlock = some k → r ≠ some k := fun k hk e => by
 obtain ⟨cur, fr, Te, h1, h2⟩ := hr k e
 obtain ⟨cur', h3, _⟩ := own_block h hk
 rw [h1] at h3
 cases h3
 exact hT _ h2 rfl
theorem own_far {α : Type} {T : TypeId} {sz : Nat} {R : El α} {W W' : World} {lo : Nat} {v : Value} {l : List α} {r : Option Nat} (hf : FlatR R) (h : ListOwn T sz R W lo v l) (hg : W.grownBy W' r) (hr : FarB W r) (hT : ∀ Te, Te ≠ 67 ∧ Te ≠ 85 ∧ Te ≠ 60 ∧ Te ≠ 69 ∧ Te ≠ 3 ∧ Te ≠ 64 → Te ≠ T) : ListOwn T sz R W' lo v l := own_grown hf h hg (far_ne h hr hT)
theorem secO_far {lo : Nat} {W W' : World} {c : Nat → Option Value} {y : Sec} {r : Option Nat} (h : SecO lo W W.heap.size c y) (hg : W.grownBy W' r) (hr : FarB W r) : SecO lo W' W'.heap.size c y := by
 obtain ⟨h0, h1, u, h2, h3, h4⟩ := h
 exact ⟨h0, h1, u, h2, own_far joinF h3 hg hr (fun Te h => h.2.1), fun k hk => Nat.lt_of_lt_of_le (h4 k hk) hg.size⟩
theorem sects_far {lo : Nat} {W W' : World} {v : Value} {l : List Sec} {r : Option Nat} (h : SectsOwn W lo v l) (hg : W.grownBy W' r) (hr : FarB W r) : SectsOwn W' lo v l := by
 have hne := far_ne h hr (fun Te h => h.1)
 obtain ⟨yss, ho, hl, hm, hs, ht⟩ := h
 refine ⟨yss, ho.kept hg ?_, hl, hm, hs, fun j ys x h1 h2 => secO_far (ht j ys x h1 h2) hg hr⟩
 cases hv : v.ownBlock with
 | none => exact .inl rfl
 | some k => exact .inr (fun e => hne k hv e.symm)
/-- A block of a plan. -/
theorem routes_far {lo : Nat} {W W' : World} {v : Value} {l : List Rt} {g : Nat} (h : RoutesOwn W lo v l) (hg : W.grownBy W' (some g)) (hr : FarB W (some g)) (hp : ∃ cur fr, W.heap[g]? = some (.cells cur 33 fr)) : RoutesOwn W' lo v l := by
 have hne : ∀ k, v.ownBlock = some k → k ≠ g := fun k hk e => by
  subst e
  obtain ⟨cur, fr, h1⟩ := hp
  obtain ⟨cur', h2, _⟩ := own_block h hk
  rw [h1] at h2
  cases h2
 obtain ⟨yss, ho, hl, hm, hs, ht⟩ := h
 refine ⟨yss, ho.kept hg ?_, hl, hm, hs, fun j ys x h1 h2 => ?_⟩
 ·cases hv : v.ownBlock with
  | none => exact .inl rfl
  | some k => exact .inr (fun e => by injection e with e; exact hne k hv e)
 ·obtain ⟨h0, h1, h2, h6, u3, u4, u5, h3, h4, h5, h, b3, b4, b5⟩ := ht j ys x h1 h2
  exact ⟨h0, h1, h2, h6, u3, u4, u5, h3, h4, h5, ⟨own_far intF h.path hg hr (fun Te h => h.2.2.2.2.1), own_far intF h.over hg hr (fun Te h => h.2.2.2.2.1), own_far joinF h.flanks hg hr (fun Te h => h.2.2.2.2.2)⟩, fun k hk => Nat.lt_of_lt_of_le (b3 k hk) hg.size, fun k hk => Nat.lt_of_lt_of_le (b4 k hk) hg.size, fun k hk => Nat.lt_of_lt_of_le (b5 k hk) hg.size⟩
theorem far_plan {W : World} {g : Nat} {cur : Array Value} {fr : Nat × Nat} (h : W.heap[g]? = some (.cells cur 33 fr)) : FarB W (some g) := fun k hk => by cases hk; exact ⟨cur, fr, _, h, by decide, by decide, by decide, by decide, by decide, by decide⟩
theorem far_routes {W : World} {lo n : Nat} {v : Value} {ys : List Value} (h : W.ownsRow lo 54 7 v n ys) : FarB W v.ownBlock := fun k hk => by
 obtain ⟨cur, h1, _⟩ := owns_block h hk
 exact ⟨cur, _, _, h1, by decide, by decide, by decide, by decide, by decide, by decide⟩
theorem SectsOwn.mono' {W : World} {lo lo' : Nat} {v : Value} {l : List Sec} (h : SectsOwn W lo v l) (hl : lo' ≤ lo) : SectsOwn W lo' v l := by
 obtain ⟨yss, ho, h1, hm, hs, ht⟩ := h
 refine ⟨yss, owns_mono ho hl, h1, hm, hs, fun j ys x a b => ?_⟩
 obtain ⟨h0, h1, u, h2, h3, h4⟩ := ht j ys x a b
 exact ⟨h0, h1, u, h2, h3.mono hl, h4⟩
theorem RoutesOwn.mono' {W : World} {lo lo' : Nat} {v : Value} {l : List Rt} (h : RoutesOwn W lo v l) (hl : lo' ≤ lo) : RoutesOwn W lo' v l := by
 obtain ⟨yss, ho, h1, hm, hs, ht⟩ := h
 refine ⟨yss, owns_mono ho hl, h1, hm, hs, fun j ys x a b => ?_⟩
 obtain ⟨h0, h1, h2, h6, u3, u4, u5, h3, h4, h5, h, b3⟩ := ht j ys x a b
 exact ⟨h0, h1, h2, h6, u3, u4, u5, h3, h4, h5, h.mono hl, b3⟩
theorem snoc_take {α : Type} {l : List α} {i : Nat} (h : i < l.length) : l.take i ++ [l[i]] = l.take (i + 1) := by
 rw [List.take_add_one, List.getElem?_eq_getElem h]; rfl

set_option maxHeartbeats 16000000 in
theorem rtwin8_any (v : Value) (p : Pl) (w : World) (h : PlanV w w.heap.size v p) (hf : FewP p) :
  Calls Tryz.prog 16 #[v] w fun e w' => ∃ u2 u3 u4 u5, e = .returned (.agg #[.int .i64 p.ver, .int .i64 p.par, u2, u3, u4, u5]) ∧ PlOwn w' w.heap.size u2 u3 u4 u5 p ∧ Below w.heap.size w w' := by
 obtain ⟨y2, y3, y4, y5, rfl, hin⟩ := h
 have HIN0 := Lib.hid hin
 have HF := Lib.hid hf
 obtain ⟨A2, c2, rfl, -, -⟩ := hin.secs.slice
 obtain ⟨A3, c3, rfl, -, -⟩ := hin.pts.slice
 obtain ⟨A4, c4, rfl, -, -⟩ := hin.sigs.slice
 obtain ⟨A5, c5, rfl, -, -⟩ := hin.routes.slice
 obtain ⟨n2, hn2⟩ : ∃ n, n = p.secs.length := ⟨_, rfl⟩
 obtain ⟨n3, hn3⟩ : ∃ n, n = p.pts.length := ⟨_, rfl⟩
 obtain ⟨n4, hn4⟩ : ∃ n, n = p.sigs.length := ⟨_, rfl⟩
 obtain ⟨n5, hn5⟩ : ∃ n, n = p.routes.length := ⟨_, rfl⟩
 have HIN : Hid (PlIn w w.heap.size (.slice A2 n2 c2) (.slice A3 n3 c3) (.slice A4 n4 c4) (.slice A5 n5 c5) p) := Lib.hid (by rw [hn2, hn3, hn4, hn5]; exact HIN0.out)
 have HN : Hid (n2 = p.secs.length ∧ n3 = p.pts.length ∧ n4 = p.sigs.length ∧ n5 = p.routes.length) := Lib.hid ⟨hn2, hn3, hn4, hn5⟩
 have hle : n2 ≤ 40 ∧ n3 ≤ 40 ∧ n4 ≤ 40 ∧ n5 ≤ 40 := ⟨by rw [hn2]; exact hf.secs.1, by rw [hn3]; exact hf.pts, by rw [hn4]; exact hf.sigs, by rw [hn5]; exact hf.routes⟩
 have HLE := Lib.hid hle
 have hb2 : n2 ≤ 9223372036854775807 := by omega
 have hb5 : n5 ≤ 9223372036854775807 := by omega
 rw [← hn2, ← hn3, ← hn4, ← hn5]
 clear hn2 hn3 hn4 hn5 HIN0 hin hf hle
 obtain ⟨Ix, hi, hz0, hz1, hz2⟩ := info_parts infoSec
 have I0 := Lib.hid hi
 have I1 := Lib.hid hz0
 have I2 := Lib.hid hz1
 have I3 := Lib.hid hz2
 clear hi hz0 hz1 hz2
 obtain ⟨Jx, hi, hz0, hz1, hz2⟩ := info_parts infoPointI
 have J0 := Lib.hid hi
 have J1 := Lib.hid hz0
 have J2 := Lib.hid hz1
 have J3 := Lib.hid hz2
 clear hi hz0 hz1 hz2
 obtain ⟨Kx, hi, hz0, hz1, hz2⟩ := info_parts infoSigI
 have K0 := Lib.hid hi
 have K1 := Lib.hid hz0
 have K2 := Lib.hid hz1
 have K3 := Lib.hid hz2
 clear hi hz0 hz1 hz2
 obtain ⟨Lx, hi, hz0, hz1, hz2⟩ := info_parts infoRouteI
 have L0 := Lib.hid hi
 have L1 := Lib.hid hz0
 have L2 := Lib.hid hz1
 have L3 := Lib.hid hz2
 clear hi hz0 hz1 hz2
 have hq := boxes3 w (.cells #[.int .i64 p.ver, .int .i64 p.par, .slice A2 n2 c2, .slice A3 n3 c3, .slice A4 n4 c4, .slice A5 n5 c5] 33) (.cells #[.int .i64 0, .int .i64 0, .slice none 0 0, .slice none 0 0, .slice none 0 0, .slice none 0 0] 33) (.cells #[.int .i64 p.ver, .int .i64 p.par, .slice none 0 0, .slice none 0 0, .slice none 0 0, .slice none 0 0] 33)
 have hk1 := cell6_of (heap_alloc_self w (.cells #[.int .i64 p.ver, .int .i64 p.par, .slice A2 n2 c2, .slice A3 n3 c3, .slice A4 n4 c4, .slice A5 n5 c5] 33))
 obtain ⟨q, hq', q0, q1, q2, qs, qb⟩ := hq
 go_enter Tryz.func16, Tryz.ntmps16
 go_upto_region 2 with fail
 rw [← hq']
 have X1 := Lib.hid q0
 have X2 := Lib.hid q1
 have X3 := Lib.hid q2
 have QS := Lib.hid qs
 have QB := Lib.hid qb
 clear hk1 hq' q0 q1 q2 qs qb
 go_wp2_with fail

 go_loopw [4] (fun s4 wr => ∃ (i : Nat) (v : Value), i ≤ n2 ∧ s4 = .int .i64 i ∧ wr.heap[w.heap.size + 2]? = some (.cells #[.int .i64 p.ver, .int .i64 p.par, v, .slice none 0 0, .slice none 0 0, .slice none 0 0] 33 (0, 0)) ∧ SectsOwn wr (w.heap.size + 3) v (p.secs.take i) ∧ Below (w.heap.size + 2) q wr ∧ w.heap.size + 3 ≤ wr.heap.size) (fun s4 _ => n2 - (intOf s4).toNat)
 case atStart => exact ⟨0, .slice none 0 0, by omega, by go_num, X3.out, ListOwn.nil_, Below.refl _ _, by rw [QS.out]; exact Nat.le_refl _⟩
 case round =>
  obtain ⟨i, v, hi, rfl, hxo, hso, hbw, hle⟩ := hrel
  obtain ⟨A, c, rfl⟩ := hso.slice
  have htl : (p.secs.take i).length = i := by rw [List.length_take]; have := HN.out; omega
  rw [htl] at hxo hso
  have HTL := Lib.hid htl
  have XO := Lib.hid hxo
  have SO := Lib.hid hso
  have BW := Lib.hid hbw
  have LE := Lib.hid hle
  have XA := Lib.hid ((hbw.block w.heap.size (by omega)).trans X1.out)
  have BWW := Lib.hid (QB.out.trans (hbw.mono (show w.heap.size ≤ w.heap.size + 2 by omega)))
  clear hxo hso hbw hle htl
  obtain ⟨k0, k1, k2, k3, k4, k5⟩ := cell6_of XA.out
  by_cases hlt : i < n2
  ·have hlt2 : (i : Int) < n2 := by omega
   have hir : i < p.secs.length := by have := HN.out; omega
   obtain ⟨b, off, rfl, hb, hc0, hc1, u, hc2, hu⟩ := (HIN.out.secs.below secR_ BWW.out).at hir
   obtain ⟨x, hx⟩ : ∃ x, x = p.secs[i] := ⟨_, rfl⟩
   have ESL : Hid (x.2.2.length ≤ 20) := Lib.hid (by rw [hx]; exact HF.out.secs.2 _ (List.getElem_mem hir))
   rw [← hx] at hc0 hc1 hu
   obtain ⟨id, pt, es⟩ := x
   obtain ⟨Ae, ce, rfl, -, -⟩ := hu.slice
   dsimp only at hc0 hc1 hc2 hu ESL
   have LG0 : Hid (wr.cell? ⟨b, off + i * 3, none⟩ = some (.int .i64 id)) := Lib.hid hc0
   have LG1 : Hid (wr.cell? ⟨b, off + i * 3 + 1, none⟩ = some (.int .i64 pt)) := Lib.hid hc1
   have LG2 : Hid (wr.cell? ⟨b, off + i * 3 + 2, none⟩ = some (.slice Ae es.length ce)) := Lib.hid hc2
   have SV : Hid (SecV wr wr.heap.size (.agg #[.int .i64 id, .int .i64 pt, .slice Ae es.length ce]) (id, pt, es)) := Lib.hid ⟨_, rfl, hu.more joinR (by have := LE.out; omega)⟩
   have LK : Hid (wr.cell? ⟨w.heap.size + 2, 2, none⟩ = some (.slice A i c)) := Lib.hid (cell6_of XO.out).2.2.1
   have LB := Lib.hid hb
   have HX := Lib.hid hx
   obtain ⟨yss, hown, hyl, hm, hys, hyr⟩ := SO.out
   rw [HTL.out] at hown hyl
   have O := Lib.hid hown
   have HYL := Lib.hid hyl
   have HYS := Lib.hid hys
   have HYR := Lib.hid hyr
   clear hc0 hc1 hc2 hu hx hb hown hyl hm hys hyr
   go_upto_region 5 with fail
   clear k0 k1 k2 k3 k4 k5
   refine wp_region_end (S := fun v' => Below (w.heap.size + 3) wr v') 11 (by kernel_rfl) (Below.refl _ wr).drew (fun hHeld => ?_)
   refine tke [1, 9, 11] 0 hHeld ?_
   refine wpAnyE_take [9, 11] (i := 1) (v := ?_) rfl (by kernel_rfl) (by kernel_rfl) (by kernel_rfl) (fun _ _ _ h => h) (by kernel_rfl) (by kernel_rfl) (by kernel_rfl) (Or.inl ⟨by rfl, ?_⟩) hHeld ?_
   rotate_left
   ·intro w' hSw; have c3 := (hSw.cell (p := ⟨w.heap.size + 2, 2, none⟩) (by show w.heap.size + 2 < w.heap.size + 3; omega)).trans LK.out; go_simp; try with_reducible rfl
   simp only [zn, Act.put]
   refine tke [3, 5, 6, 7, 8, 9, 11] 2 hHeld ?_;refine tkd [5, 6, 7, 8, 9, 11] 3 hHeld (fun w' hSw => cell6_of ((hSw.block _ (show w.heap.size < w.heap.size + 3 by omega)).trans XA.out)) ?_;refine tke [5, 6, 7, 8, 9, 11] 4 hHeld ?_;refine tke [6, 7, 8, 9, 11] 5 hHeld ?_
   refine wpAnyE_take [7, 8, 9, 11] (i := 6) (v := ?_) rfl (by kernel_rfl) (by kernel_rfl) (by kernel_rfl) (fun _ _ _ h => h) (by kernel_rfl) (by kernel_rfl) (by kernel_rfl) (Or.inl ⟨by rfl, ?_⟩) hHeld ?_
   rotate_left
   ·intro w' hSw; have ce0 := (hSw.cell (p := ⟨b, off + i * 3, none⟩) (by have := LB.out; show b < w.heap.size + 3; omega)).trans LG0.out; have ce1 := (hSw.cell (p := ⟨b, off + i * 3 + 1, none⟩) (by have := LB.out; show b < w.heap.size + 3; omega)).trans LG1.out; have ce2 := (hSw.cell (p := ⟨b, off + i * 3 + 2, none⟩) (by have := LB.out; show b < w.heap.size + 3; omega)).trans LG2.out; go_simp; try with_reducible rfl
   simp only [zn, Act.put]
   refine wpAnyE_one (i := 7) (by kernel_rfl) rfl (by kernel_rfl) (fun K hK => ?_)
   go_simp
   refine (rtwin7_any _ (id, pt, es) wr.drew (SV.out.below (Below.refl wr.heap.size wr).drew) (by have := ESL.out; show es.length ≤ 1000; omega)).mono ?_
   rintro e w1 ⟨u, rfl, hu, b1⟩
   obtain ⟨Au, cu, rfl⟩ := hu.slice
   dsimp only at hu
   have HU := Lib.hid hu
   have B1 : Hid (Below wr.heap.size wr w1) := Lib.hid ((Below.refl wr.heap.size wr).drew.trans b1)
   clear hu b1
   try go_wp2_with fail
   refine hK.out _ _ ?_ fun hHeld => ?_;exact B1.out.mono LE.out;clear hK K;try simp only [zn, Act.put]
   refine wpAnyE_one (i := 8) (by kernel_rfl) rfl (by kernel_rfl) (fun K hK => ?_)
   go_simp
   refine hK.out _ _ ?_ fun hHeld => ?_;exact (B1.out.alloc B1.out.size _).mono LE.out;clear hK K;try simp only [zn, Act.put]
   refine wpAnyE_one (i := 9) (by kernel_rfl) rfl (by kernel_rfl) (fun K hK => ?_)
   rw [if_pos (by rfl)]
   refine wp_append_list (.tmp 19) (.tmp 26) _ rfl Tryz.underlying28 I0.out I1.out rfl I2.out (by decide) I3.out (by decide) rfl ((owns_below O.out B1.out).alloc _) rfl (m := 1) (news := [.int .i64 id, .int .i64 pt, .slice Au es.length cu]) rfl (fun h => by cases h) (fun a ha j u hj => by cases ha; rw [Addr.add_lit, Nat.zero_add, World.cell?_alloc_new]; simpa using hj) (by simp [Value.oneCell']) (by have := HLE.out; omega) (by have := LE.out; have := B1.out.size; simp; omega) ?_
   intro v5 w5 hown5 hgrow5
   have S5 : Hid (SectsOwn w5 (w.heap.size + 3) v5 (p.secs.take (i + 1))) := Lib.hid (by
    rw [← snoc_take hir, ← HX.out]
    exact sects_snoc (s := (id, pt, es)) HTL.out O.out HYL.out HYS.out (by have := HLE.out; unfold maxLen; omega) HYR.out LE.out B1.out HU.out hown5 hgrow5)
   have B5 : Hid (Below (w.heap.size + 3) wr w5) := Lib.hid (((B1.out.alloc B1.out.size _).mono LE.out).grown hgrow5 (by have := LE.out; have := B1.out.size; simp; omega) (own_ge O.out))
   have N5 : Hid (wr.heap.size ≤ w5.heap.size) := Lib.hid (by have h1 := hgrow5.size; have h2 := B1.out.size; rw [heap_alloc_size] at h1; omega)
   obtain ⟨A6, c6, rfl⟩ := own_sliceN hown5
   clear hown5 hgrow5
   refine hK.out _ _ ?_ fun hHeld => ?_;exact B5.out;clear hK K;try simp only [zn, Act.put]
   refine tke [11] 10 hHeld ?_
   have X5 := Lib.hid ((B5.out.block (w.heap.size + 2) (by omega)).trans XO.out)
   obtain ⟨m0, m1, m2, m3, m4, m5⟩ := cell6_of X5.out
   have f2 := frozen2_of X5.out 2
   refine wpAnyE_last (by kernel_rfl) rfl (by kernel_rfl) (fun K hK => ?_)
   rw [if_pos (by rfl)]
   go_simp
   refine hK.out _ _ ?_
   clear hK K
   have hg := grown_setK w5 (w.heap.size + 2) 2 (.slice A6 (i + 1) c6)
   have tO : (w5.setCell ⟨w.heap.size + 2, 2, none⟩ (.slice A6 (i + 1) c6)).heap[w.heap.size + 2]? = some (.cells #[.int .i64 p.ver, .int .i64 p.par, .slice A6 (i + 1) c6, .slice none 0 0, .slice none 0 0, .slice none 0 0] 33 (0, 0)) := heap_setK (k := 2) X5.out _
   have tS := sects_far S5.out hg (far_plan X5.out)
   have tB : Below (w.heap.size + 2) wr (w5.setCell ⟨w.heap.size + 2, 2, none⟩ (.slice A6 (i + 1) c6)) := below_set (B5.out.mono (by omega)) (Nat.le_refl _) 2 _
   have tN : w.heap.size + 3 ≤ (w5.setCell ⟨w.heap.size + 2, 2, none⟩ (.slice A6 (i + 1) c6)).heap.size := by have := hg.size; have := N5.out; have := LE.out; omega
   generalize w5.setCell ⟨w.heap.size + 2, 2, none⟩ (.slice A6 (i + 1) c6) = w6 at tO tS tB tN ⊢
   have TO := Lib.hid tO
   have TS := Lib.hid tS
   have TB := Lib.hid tB
   have TN := Lib.hid tN
   clear hg tO tS tB tN m0 m1 m2 m3 m4 m5 f2
   go_wp2_with fail
   go_roundw
   case measure => simp [intOf]; omega
   case rel => exact ⟨i + 1, _, by omega, by go_num, TO.out, TS.out, BW.out.trans TB.out, TN.out⟩
  ·obtain rfl : n2 = i := by omega
   have hlt2 : ¬ (n2 : Int) < n2 := by omega
   have htk : p.secs.take n2 = p.secs := List.take_of_length_le (by have := HN.out; omega)
   have SS : Hid (SectsOwn wr (w.heap.size + 3) (.slice A n2 c) p.secs) := Lib.hid (by rw [← htk]; exact SO.out)
   have XB2 := Lib.hid ((BW.out.block (w.heap.size + 1) (by omega)).trans X2.out)
   clear htk SO
   go_upto_region 6 with fail

   obtain ⟨m0, m1, m2, m3, m4, m5⟩ := cell6_of XO.out
   obtain ⟨yss, hy1, hy2, hy3, hy4, hy5, hy6, hy7⟩ := ((HIN.out.pts.below joinR BWW.out).more joinR BWW.out.size).cells (by omega) joinR_full joinR_cells
   have Y1 := Lib.hid hy1
   have Y2 := Lib.hid hy2
   have Y3 := Lib.hid hy3
   have Y4 := Lib.hid hy4
   have Y6 := Lib.hid hy6
   have Y7 := Lib.hid hy7
   have YL : Hid (yss.flatten.length = n3 * 2) := Lib.hid (by rw [flat_length _ hy2, hy1, HN.out.2.1])
   clear hy1 hy2 hy3 hy4 hy5 hy6 hy7
   go_upto_region 7 with ((with_reducible show wpList _ _ _ (⟨some 33, _, _, _, _, _⟩ :: _) _ _); refine wpList_append_list rfl (.tmp 30) (.tmp 32) _ rfl Tryz.underlying29 J0.out J1.out rfl J2.out (by decide) J3.out (by decide) rfl (World.ownsRow_nil wr wr.heap.size _ _) rfl YL.out Y4.out Y7.out Y6.out (by have := HLE.out; omega) (Nat.le_refl _) ?_; intro v3 w3 hown3 hgrow3; rw [Nat.zero_add, List.nil_append] at hown3; obtain ⟨B3, d3, rfl⟩ := own_sliceN hown3; have O3 := Lib.hid (own_one (R := JoinR) (sz := 2) joinF hown3 HN.out.2.1 Y1.out Y2.out Y3.out (by have := HLE.out; unfold maxLen; omega)); have G3 : Hid (Below wr.heap.size wr w3) := Lib.hid ((Below.refl _ wr).grown hgrow3 (Nat.le_refl _) (fun k hk => by cases hk)); clear hown3 hgrow3; have Z3 := Lib.hid ((G3.out.block _ (heap_lt XO.out)).trans XO.out); have z3 := frozen2_of Z3.out 3; obtain ⟨e0, e1, e2, e3, e4, e5⟩ := cell6_of Z3.out)
   clear m0 m1 m2 m3 m4 m5 e0 e1 e2 e3 e4 e5 z3 Y1 Y2 Y3 Y4 Y6 Y7 YL k0 k1 k2 k3 k4 k5
   have hg3 := grown_setK w3 (w.heap.size + 2) 3 (.slice B3 n3 d3)
   have t3 : (w3.setCell ⟨w.heap.size + 2, 3, none⟩ (.slice B3 n3 d3)).heap[w.heap.size + 2]? = some (.cells #[.int .i64 p.ver, .int .i64 p.par, .slice A n2 c, .slice B3 n3 d3, .slice none 0 0, .slice none 0 0] 33 (0, 0)) := heap_setK (k := 3) Z3.out _
   have t1 := (heap_setFar w3 (w.heap.size + 2) 3 w.heap.size (.slice B3 n3 d3) (by omega)).trans ((G3.out.block _ (heap_lt XA.out)).trans XA.out)
   have t2 := (heap_setFar w3 (w.heap.size + 2) 3 (w.heap.size + 1) (.slice B3 n3 d3) (by omega)).trans ((G3.out.block _ (heap_lt XB2.out)).trans XB2.out)
   have tb := below_set (BWW.out.trans (G3.out.mono BWW.out.size)) (show w.heap.size ≤ w.heap.size + 2 by omega) 3 (.slice B3 n3 d3)
   have ts : w.heap.size + 3 ≤ (w3.setCell ⟨w.heap.size + 2, 3, none⟩ (.slice B3 n3 d3)).heap.size := by have := G3.out.size; have := hg3.size; have := LE.out; omega
   have tO3 := own_far (R := JoinR) joinF (O3.out.mono LE.out) hg3 (far_plan Z3.out) (fun Te h => h.2.2.1)
   have tS2 := sects_far (SS.out.below (secO_ _) G3.out) hg3 (far_plan Z3.out)
   clear BWW LE XA XB2 XO Z3 SS G3 hg3 O3
   generalize w3.setCell ⟨w.heap.size + 2, 3, none⟩ (.slice B3 n3 d3) = wp at t1 t2 t3 tb ts tS2 tO3 ⊢
   have XA := Lib.hid t1
   have XB2 := Lib.hid t2
   have XO := Lib.hid t3
   have BWW := Lib.hid tb
   have LE := Lib.hid ts
   have SS := Lib.hid tS2
   have O3 := Lib.hid tO3
   clear t1 t2 t3 tb ts tS2 tO3
   obtain ⟨k0, k1, k2, k3, k4, k5⟩ := cell6_of XA.out

   obtain ⟨m0, m1, m2, m3, m4, m5⟩ := cell6_of XO.out
   obtain ⟨yss, hy1, hy2, hy3, hy4, hy5, hy6, hy7⟩ := ((HIN.out.sigs.below sigR BWW.out).more sigR BWW.out.size).cells (by omega) sigR_full sigR_cells
   have Y1 := Lib.hid hy1
   have Y2 := Lib.hid hy2
   have Y3 := Lib.hid hy3
   have Y4 := Lib.hid hy4
   have Y6 := Lib.hid hy6
   have Y7 := Lib.hid hy7
   have YL : Hid (yss.flatten.length = n4 * 3) := Lib.hid (by rw [flat_length _ hy2, hy1, HN.out.2.2.1])
   clear hy1 hy2 hy3 hy4 hy5 hy6 hy7
   go_upto_region 8 with ((with_reducible show wpList _ _ _ (⟨some 39, _, _, _, _, _⟩ :: _) _ _); refine wpList_append_list rfl (.tmp 36) (.tmp 38) _ rfl Tryz.underlying30 K0.out K1.out rfl K2.out (by decide) K3.out (by decide) rfl (World.ownsRow_nil wp wp.heap.size _ _) rfl YL.out Y4.out Y7.out Y6.out (by have := HLE.out; omega) (Nat.le_refl _) ?_; intro v4 w4 hown4 hgrow4; rw [Nat.zero_add, List.nil_append] at hown4; obtain ⟨B4, d4, rfl⟩ := own_sliceN hown4; have O4 := Lib.hid (own_one (R := SigR) (sz := 3) sigF hown4 HN.out.2.2.1 Y1.out Y2.out Y3.out (by have := HLE.out; unfold maxLen; omega)); have G4 : Hid (Below wp.heap.size wp w4) := Lib.hid ((Below.refl _ wp).grown hgrow4 (Nat.le_refl _) (fun k hk => by cases hk)); clear hown4 hgrow4; have Z3 := Lib.hid ((G4.out.block _ (heap_lt XO.out)).trans XO.out); have z4 := frozen2_of Z3.out 4; obtain ⟨e0, e1, e2, e3, e4, e5⟩ := cell6_of Z3.out)
   clear m0 m1 m2 m3 m4 m5 e0 e1 e2 e3 e4 e5 z4 Y1 Y2 Y3 Y4 Y6 Y7 YL k0 k1 k2 k3 k4 k5
   have hg4 := grown_setK w4 (w.heap.size + 2) 4 (.slice B4 n4 d4)
   have t3 : (w4.setCell ⟨w.heap.size + 2, 4, none⟩ (.slice B4 n4 d4)).heap[w.heap.size + 2]? = some (.cells #[.int .i64 p.ver, .int .i64 p.par, .slice A n2 c, .slice B3 n3 d3, .slice B4 n4 d4, .slice none 0 0] 33 (0, 0)) := heap_setK (k := 4) Z3.out _
   have t1 := (heap_setFar w4 (w.heap.size + 2) 4 w.heap.size (.slice B4 n4 d4) (by omega)).trans ((G4.out.block _ (heap_lt XA.out)).trans XA.out)
   have t2 := (heap_setFar w4 (w.heap.size + 2) 4 (w.heap.size + 1) (.slice B4 n4 d4) (by omega)).trans ((G4.out.block _ (heap_lt XB2.out)).trans XB2.out)
   have tb := below_set (BWW.out.trans (G4.out.mono BWW.out.size)) (show w.heap.size ≤ w.heap.size + 2 by omega) 4 (.slice B4 n4 d4)
   have ts : w.heap.size + 3 ≤ (w4.setCell ⟨w.heap.size + 2, 4, none⟩ (.slice B4 n4 d4)).heap.size := by have := G4.out.size; have := hg4.size; have := LE.out; omega
   have tO4 := own_far (R := SigR) sigF (O4.out.mono LE.out) hg4 (far_plan Z3.out) (fun Te h => h.2.2.2.1)
   have tS2 := sects_far (SS.out.below (secO_ _) G4.out) hg4 (far_plan Z3.out)
   have tO3 := own_far (R := JoinR) joinF (O3.out.below joinR G4.out) hg4 (far_plan Z3.out) (fun Te h => h.2.2.1)
   clear BWW LE XA XB2 XO Z3 SS G4 hg4 O4 O3
   generalize w4.setCell ⟨w.heap.size + 2, 4, none⟩ (.slice B4 n4 d4) = wq at t1 t2 t3 tb ts tS2 tO4 tO3 ⊢
   have XA := Lib.hid t1
   have XB2 := Lib.hid t2
   have XO := Lib.hid t3
   have BWW := Lib.hid tb
   have LE := Lib.hid ts
   have SS := Lib.hid tS2
   have O4 := Lib.hid tO4
   have O3 := Lib.hid tO3
   clear t1 t2 t3 tb ts tS2 tO4 tO3
   obtain ⟨k0, k1, k2, k3, k4, k5⟩ := cell6_of XA.out

   clear k0 k1 k2 k3 k4 k5
   go_wp2_with fail
   go_loopw [5] (fun s5 wr => ∃ (i : Nat) (v : Value), i ≤ n5 ∧ s5 = .int .i64 i ∧ wr.heap[w.heap.size + 2]? = some (.cells #[.int .i64 p.ver, .int .i64 p.par, .slice A n2 c, .slice B3 n3 d3, .slice B4 n4 d4, v] 33 (0, 0)) ∧ RoutesOwn wr (w.heap.size + 3) v (p.routes.take i) ∧ SectsOwn wr (w.heap.size + 3) (.slice A n2 c) p.secs ∧ PointsOwn wr (w.heap.size + 3) (.slice B3 n3 d3) p.pts ∧ SigsOwn wr (w.heap.size + 3) (.slice B4 n4 d4) p.sigs ∧ Below (w.heap.size + 2) wq wr ∧ w.heap.size + 3 ≤ wr.heap.size) (fun s5 _ => n5 - (intOf s5).toNat)
   case atStart => exact ⟨0, .slice none 0 0, by omega, by go_num, XO.out, ListOwn.nil_, SS.out, O3.out, O4.out, Below.refl _ _, LE.out⟩
   case round =>
    obtain ⟨i, v, hi, rfl, hxo, hro, hss, hpp, hgg, hbv, hle⟩ := hrel
    obtain ⟨A0, c0, rfl⟩ := hro.slice
    have htl : (p.routes.take i).length = i := by rw [List.length_take]; have := HN.out; omega
    rw [htl] at hxo hro
    have XA0 := XA
    have XB0 := XB2
    have BW0 := BWW
    clear XO SS O3 O4 LE BWW XA XB2
    have HTL := Lib.hid htl
    have XO := Lib.hid hxo
    have RO := Lib.hid hro
    have SS := Lib.hid hss
    have O3 := Lib.hid hpp
    have O4 := Lib.hid hgg
    have BV := Lib.hid hbv
    have LE := Lib.hid hle
    have XA := Lib.hid ((hbv.block w.heap.size (by omega)).trans XA0.out)
    have BWW := Lib.hid (BW0.out.trans (hbv.mono (show w.heap.size ≤ w.heap.size + 2 by omega)))
    clear hxo hro hss hpp hgg hbv hle htl
    obtain ⟨k0, k1, k2, k3, k4, k5⟩ := cell6_of XA.out
    by_cases hlt : i < n5
    ·have hlt2 : (i : Int) < n5 := by omega
     have hir : i < p.routes.length := by have := HN.out; omega
     obtain ⟨b, off, rfl, hb, hc0, hc1, hc2, hc6, u3, u4, u5, hc3, hc4, hc5, hr⟩ := (HIN.out.routes.below routeR BWW.out).at hir
     obtain ⟨R, hR⟩ : ∃ R, R = p.routes[i] := ⟨_, rfl⟩
     have ESL : Hid (R.path.length ≤ 20 ∧ R.over.length ≤ 20 ∧ R.flanks.length ≤ 20) := Lib.hid (by rw [hR]; exact HF.out.each i hir)
     rw [← hR] at hc0 hc1 hc2 hc6 hr
     obtain ⟨D3, dd3, rfl, -, -⟩ := hr.path.slice
     obtain ⟨D4, dd4, rfl, -, -⟩ := hr.over.slice
     obtain ⟨D5, dd5, rfl, -, -⟩ := hr.flanks.slice
     have LG0 : Hid (wr.cell? ⟨b, off + i * 7, none⟩ = some (.int .i64 R.id)) := Lib.hid hc0
     have LG1 : Hid (wr.cell? ⟨b, off + i * 7 + 1, none⟩ = some (.int .i64 R.entry)) := Lib.hid hc1
     have LG2 : Hid (wr.cell? ⟨b, off + i * 7 + 2, none⟩ = some (.int .i64 R.exit)) := Lib.hid hc2
     have LG3 : Hid (wr.cell? ⟨b, off + i * 7 + 3, none⟩ = some (.slice D3 R.path.length dd3)) := Lib.hid hc3
     have LG4 : Hid (wr.cell? ⟨b, off + i * 7 + 4, none⟩ = some (.slice D4 R.over.length dd4)) := Lib.hid hc4
     have LG5 : Hid (wr.cell? ⟨b, off + i * 7 + 5, none⟩ = some (.slice D5 R.flanks.length dd5)) := Lib.hid hc5
     have LG6 : Hid (wr.cell? ⟨b, off + i * 7 + 6, none⟩ = some (.int .i64 R.timer)) := Lib.hid hc6
     have SV : Hid (RouteV wr wr.heap.size (.agg #[.int .i64 R.id, .int .i64 R.entry, .int .i64 R.exit, .slice D3 R.path.length dd3, .slice D4 R.over.length dd4, .slice D5 R.flanks.length dd5, .int .i64 R.timer]) R) := Lib.hid ⟨_, _, _, rfl, hr.more (by have := LE.out; omega)⟩
     have LK : Hid (wr.cell? ⟨w.heap.size + 2, 5, none⟩ = some (.slice A0 i c0)) := Lib.hid (cell6_of XO.out).2.2.2.2.2
     have LB := Lib.hid hb
     have HX := Lib.hid hR
     obtain ⟨yss, hown, hyl, hm, hys, hyr⟩ := RO.out
     rw [HTL.out] at hown hyl
     have O := Lib.hid hown
     have HYL := Lib.hid hyl
     have HYS := Lib.hid hys
     have HYR := Lib.hid hyr
     clear hc0 hc1 hc2 hc3 hc4 hc5 hc6 hr hR hb hown hyl hm hys hyr
     go_upto_region 11 with fail
     clear k0 k1 k2 k3 k4 k5
     refine wp_region_end (S := fun v' => Below (w.heap.size + 3) wr v') 11 (by kernel_rfl) (Below.refl _ wr).drew (fun hHeld => ?_)
     refine tke [1, 9, 11] 0 hHeld ?_
     refine wpAnyE_take [9, 11] (i := 1) (v := ?_) rfl (by kernel_rfl) (by kernel_rfl) (by kernel_rfl) (fun _ _ _ h => h) (by kernel_rfl) (by kernel_rfl) (by kernel_rfl) (Or.inl ⟨by rfl, ?_⟩) hHeld ?_
     rotate_left
     ·intro w' hSw; have c3 := (hSw.cell (p := ⟨w.heap.size + 2, 5, none⟩) (by show w.heap.size + 2 < w.heap.size + 3; omega)).trans LK.out; go_simp; try with_reducible rfl
     simp only [zn, Act.put]
     refine tke [3, 5, 6, 7, 8, 9, 11] 2 hHeld ?_;refine tkd [5, 6, 7, 8, 9, 11] 3 hHeld (fun w' hSw => cell6_of ((hSw.block _ (show w.heap.size < w.heap.size + 3 by omega)).trans XA.out)) ?_;refine tke [5, 6, 7, 8, 9, 11] 4 hHeld ?_;refine tke [6, 7, 8, 9, 11] 5 hHeld ?_
     refine wpAnyE_take [7, 8, 9, 11] (i := 6) (v := ?_) rfl (by kernel_rfl) (by kernel_rfl) (by kernel_rfl) (fun _ _ _ h => h) (by kernel_rfl) (by kernel_rfl) (by kernel_rfl) (Or.inl ⟨by rfl, ?_⟩) hHeld ?_
     rotate_left
     ·intro w' hSw; have ce0 := (hSw.cell (p := ⟨b, off + i * 7, none⟩) (by have := LB.out; show b < w.heap.size + 3; omega)).trans LG0.out; have ce1 := (hSw.cell (p := ⟨b, off + i * 7 + 1, none⟩) (by have := LB.out; show b < w.heap.size + 3; omega)).trans LG1.out; have ce2 := (hSw.cell (p := ⟨b, off + i * 7 + 2, none⟩) (by have := LB.out; show b < w.heap.size + 3; omega)).trans LG2.out; have ce3 := (hSw.cell (p := ⟨b, off + i * 7 + 3, none⟩) (by have := LB.out; show b < w.heap.size + 3; omega)).trans LG3.out; have ce4 := (hSw.cell (p := ⟨b, off + i * 7 + 4, none⟩) (by have := LB.out; show b < w.heap.size + 3; omega)).trans LG4.out; have ce5 := (hSw.cell (p := ⟨b, off + i * 7 + 5, none⟩) (by have := LB.out; show b < w.heap.size + 3; omega)).trans LG5.out; have ce6 := (hSw.cell (p := ⟨b, off + i * 7 + 6, none⟩) (by have := LB.out; show b < w.heap.size + 3; omega)).trans LG6.out; go_simp; try with_reducible rfl
     simp only [zn, Act.put]
     refine wpAnyE_one (i := 7) (by kernel_rfl) rfl (by kernel_rfl) (fun K hK => ?_)
     go_simp
     refine (rtwinroute_any _ R wr.drew (SV.out.below (Below.refl wr.heap.size wr).drew) (by have := ESL.out; omega) (by have := ESL.out; omega) (by have := ESL.out; omega)).mono ?_
     rintro e w1 ⟨u3, u4, u5, rfl, hu, b1⟩
     obtain ⟨F3, g3, rfl⟩ := hu.path.slice
     obtain ⟨F4, g4, rfl⟩ := hu.over.slice
     obtain ⟨F5, g5, rfl⟩ := hu.flanks.slice
     have HU := Lib.hid hu
     have B1 : Hid (Below wr.heap.size wr w1) := Lib.hid ((Below.refl wr.heap.size wr).drew.trans b1)
     clear hu b1
     try go_wp2_with fail
     refine hK.out _ _ ?_ fun hHeld => ?_;exact B1.out.mono LE.out;clear hK K;try simp only [zn, Act.put]
     refine wpAnyE_one (i := 8) (by kernel_rfl) rfl (by kernel_rfl) (fun K hK => ?_)
     go_simp
     refine hK.out _ _ ?_ fun hHeld => ?_;exact (B1.out.alloc B1.out.size _).mono LE.out;clear hK K;try simp only [zn, Act.put]
     refine wpAnyE_one (i := 9) (by kernel_rfl) rfl (by kernel_rfl) (fun K hK => ?_)
     rw [if_pos (by rfl)]
     refine wp_append_listB (.tmp 49) (.tmp 56) _ rfl Tryz.underlying31 L0.out L1.out rfl L2.out (by decide) L3.out (by decide) rfl ((owns_below O.out B1.out).alloc _) rfl (m := 1) (news := [.int .i64 R.id, .int .i64 R.entry, .int .i64 R.exit, .slice F3 R.path.length g3, .slice F4 R.over.length g4, .slice F5 R.flanks.length g5, .int .i64 R.timer]) rfl (fun h => by cases h) (fun a ha j u hj => by cases ha; rw [Addr.add_lit, Nat.zero_add, World.cell?_alloc_new]; simpa using hj) (by simp [Value.oneCell']) (by have := HLE.out; omega) (by have := LE.out; have := B1.out.size; simp; omega) ?_
     intro v5 w5 hown5 hgrow5
     have RS5 : Hid (RoutesOwn w5 (w.heap.size + 3) v5 (p.routes.take (i + 1))) := Lib.hid (by
      rw [← snoc_take hir, ← HX.out]
      exact routes_snoc HTL.out O.out HYL.out HYS.out (by have := HLE.out; unfold maxLen; omega) HYR.out LE.out B1.out HU.out hown5 hgrow5)
     have BA : Hid (Below wr.heap.size wr (w1.alloc (.cells #[.int .i64 R.id, .int .i64 R.entry, .int .i64 R.exit, .slice F3 R.path.length g3, .slice F4 R.over.length g4, .slice F5 R.flanks.length g5, .int .i64 R.timer] 54))) := Lib.hid (B1.out.alloc B1.out.size _)
     have FAR := far_routes ((owns_below O.out B1.out).alloc (.cells #[.int .i64 R.id, .int .i64 R.entry, .int .i64 R.exit, .slice F3 R.path.length g3, .slice F4 R.over.length g4, .slice F5 R.flanks.length g5, .int .i64 R.timer] 54))
     have S5 := Lib.hid (sects_far (SS.out.below (secO_ _) BA.out) hgrow5 FAR)
     have P5 := Lib.hid (own_far (R := JoinR) joinF (O3.out.below joinR BA.out) hgrow5 FAR (fun Te h => h.2.2.1))
     have G5 := Lib.hid (own_far (R := SigR) sigF (O4.out.below sigR BA.out) hgrow5 FAR (fun Te h => h.2.2.2.1))
     have B5 : Hid (Below (w.heap.size + 3) wr w5) := Lib.hid ((BA.out.mono LE.out).grown hgrow5 (by have := LE.out; have := BA.out.size; omega) (own_ge O.out))
     have N5 : Hid (wr.heap.size ≤ w5.heap.size) := Lib.hid (by have := hgrow5.size; have := BA.out.size; omega)
     obtain ⟨A6, c6, rfl⟩ := own_sliceN hown5
     clear hown5 hgrow5 FAR
     refine hK.out _ _ ?_ fun hHeld => ?_;exact B5.out;clear hK K;try simp only [zn, Act.put]
     refine tke [11] 10 hHeld ?_
     have X5 := Lib.hid ((B5.out.block (w.heap.size + 2) (by omega)).trans XO.out)
     obtain ⟨m0, m1, m2, m3, m4, m5⟩ := cell6_of X5.out
     have f5 := frozen2_of X5.out 5
     refine wpAnyE_last (by kernel_rfl) rfl (by kernel_rfl) (fun K hK => ?_)
     rw [if_pos (by rfl)]
     go_simp
     refine hK.out _ _ ?_
     clear hK K
     have hg := grown_setK w5 (w.heap.size + 2) 5 (.slice A6 (i + 1) c6)
     have tO : (w5.setCell ⟨w.heap.size + 2, 5, none⟩ (.slice A6 (i + 1) c6)).heap[w.heap.size + 2]? = some (.cells #[.int .i64 p.ver, .int .i64 p.par, .slice A n2 c, .slice B3 n3 d3, .slice B4 n4 d4, .slice A6 (i + 1) c6] 33 (0, 0)) := heap_setK (k := 5) X5.out _
     have tS := sects_far S5.out hg (far_plan X5.out)
     have tP := own_far (R := JoinR) joinF P5.out hg (far_plan X5.out) (fun Te h => h.2.2.1)
     have tG := own_far (R := SigR) sigF G5.out hg (far_plan X5.out) (fun Te h => h.2.2.2.1)
     have tR := routes_far RS5.out hg (far_plan X5.out) ⟨_, _, X5.out⟩
     have tB : Below (w.heap.size + 2) wr (w5.setCell ⟨w.heap.size + 2, 5, none⟩ (.slice A6 (i + 1) c6)) := below_set (B5.out.mono (by omega)) (Nat.le_refl _) 5 _
     have tN : w.heap.size + 3 ≤ (w5.setCell ⟨w.heap.size + 2, 5, none⟩ (.slice A6 (i + 1) c6)).heap.size := by have := hg.size; have := N5.out; have := LE.out; omega
     generalize w5.setCell ⟨w.heap.size + 2, 5, none⟩ (.slice A6 (i + 1) c6) = w6 at tO tS tP tG tR tB tN ⊢
     have TO := Lib.hid tO
     have TS := Lib.hid tS
     have TP := Lib.hid tP
     have TG := Lib.hid tG
     have TR := Lib.hid tR
     have TB := Lib.hid tB
     have TN := Lib.hid tN
     clear hg tO tS tP tG tR tB tN m0 m1 m2 m3 m4 m5 f5
     go_wp2_with fail
     go_roundw
     case measure => simp [intOf]; omega
     case rel => exact ⟨i + 1, _, by omega, by go_num, TO.out, TR.out, TS.out, TP.out, TG.out, BV.out.trans TB.out, TN.out⟩
    ·obtain rfl : n5 = i := by omega
     have hlt2 : ¬ (n5 : Int) < n5 := by omega
     have htk : p.routes.take n5 = p.routes := List.take_of_length_le (by have := HN.out; omega)
     have RR : Hid (RoutesOwn wr (w.heap.size + 3) (.slice A0 n5 c0) p.routes) := Lib.hid (by rw [← htk]; exact RO.out)
     have XZ := Lib.hid ((BV.out.block (w.heap.size + 1) (by omega)).trans XB0.out)
     clear htk RO
     obtain ⟨m0, m1, m2, m3, m4, m5⟩ := cell6_of XO.out
     go_wp2_with ((with_reducible show wpList _ _ _ (⟨none, _, _, _, _, _⟩ :: _) _ _); refine wpList_store_rowS rfl _ (.tmp 2) (.tmp 59) rfl (w.heap.size + 1) rfl (c' := #[.int .i64 p.ver, .int .i64 p.par, .slice A n2 c, .slice B3 n3 d3, .slice B4 n4 d4, .slice A0 n5 c0]) rfl XZ.out infoPlan6 rfl (by simp [Value.oneCell']) ?_)
     refine bodyPost_ret (results_cell_row rfl _ _ (w.heap.size + 1) 33 #[.int .i64 p.ver, .int .i64 p.par, .slice A n2 c, .slice B3 n3 d3, .slice B4 n4 d4, .slice A0 n5 c0] (0, 0) _ rfl (setRow_heap _ _ _ _ _ _ XZ.out) Tryz.underlying33 rfl infoPlan6) rfl ⟨_, _, _, _, rfl, ?_, below_setRow BWW.out (Nat.le_succ _) _⟩
     have hg := grownBy_setRow wr (w.heap.size + 1) #[.int .i64 p.ver, .int .i64 p.par, .slice A n2 c, .slice B3 n3 d3, .slice B4 n4 d4, .slice A0 n5 c0]
     have hfp := far_plan XZ.out
     exact ⟨(sects_far SS.out hg hfp).mono' (by omega), (own_far (R := JoinR) joinF O3.out hg hfp (fun Te h => h.2.2.1)).mono (by omega), (own_far (R := SigR) sigF O4.out hg hfp (fun Te h => h.2.2.2.1)).mono (by omega), RoutesOwn.mono' (routes_far RR.out hg hfp ⟨_, _, XZ.out⟩) (by omega)⟩

/-- What the program's package plan answers: to be proved over the program's own text; the walks of the statements take it. -/
structure PlanSaid : Prop where
 check : ∀ (v : Value) (p : Pl) (w : World), PlanV w w.heap.size v p →
  Calls Tryz.prog 21 #[v] w fun e w' => e = .returned (.int .i64 (chk8 p)) ∧ Below w.heap.size w w'
 point : ∀ (v : Value) (p : Pl) (id : Int) (w : World), PlanV w w.heap.size v p →
  Calls Tryz.prog 27 #[v, .int .i64 id] w fun e w' => e = .returned (.tuple #[.agg #[.int .i64 (elV p kPt p.pts id (0, 0)).1, .int .i64 (elV p kPt p.pts id (0, 0)).2], .int .i64 (elE p kPt p.pts id)]) ∧ Below w.heap.size w w'
 route : ∀ (v : Value) (p : Pl) (id : Int) (w : World), PlanV w w.heap.size v p →
  Calls Tryz.prog 25 #[v, .int .i64 id] w fun e w' => ∃ u3 u4 u5, e = .returned (.tuple #[.agg #[.int .i64 (elV p kRt p.routes id zRt).id, .int .i64 (elV p kRt p.routes id zRt).entry, .int .i64 (elV p kRt p.routes id zRt).exit, u3, u4, u5, .int .i64 (elV p kRt p.routes id zRt).timer], .int .i64 (elE p kRt p.routes id)]) ∧ RtOwn w' w.heap.size u3 u4 u5 (elV p kRt p.routes id zRt) ∧ Below w.heap.size w w'
 same : ∀ (v y : Value) (p q : Pl) (w : World), PlanV w w.heap.size v p → PlanV w w.heap.size y q →
  Calls Tryz.prog 130 #[v, y] w fun e w' => e = .returned (.bool (eqB p q)) ∧ Below w.heap.size w w'

def pS1 : Sec := (1, 0, [(2, 0), (0, 0)])
def pS2 : Sec := (2, 5, [(1, 0), (3, 0), (3, 1)])
def pS3 : Sec := (3, 0, [(2, 1), (2, 2)])
def pSecs : List Sec := [pS1, pS2, pS3]
def pR : Rt := ⟨8, 4, 0, [2, 3], [], [], 3⟩
def planOne : Pl := ⟨2, 1, pSecs, [(5, 2)], [(4, 1, 0)], [pR]⟩
theorem may_pSecs : TMay pSecs := by
 refine ⟨by decide, fun i h => ?_, fun i j hj hi => ?_, fun i k hi hk => ?_⟩
 ·match i, h with
  | 0, _ => exact (show (1 : Int) ≤ pS1.1 ∧ pS1.1 ≤ 99 ∧ shapedB pS1 = true from ⟨by decide, by decide, by decide⟩)
  | 1, _ => exact (show (1 : Int) ≤ pS2.1 ∧ pS2.1 ≤ 99 ∧ shapedB pS2 = true from ⟨by decide, by decide, by decide⟩)
  | 2, _ => exact (show (1 : Int) ≤ pS3.1 ∧ pS3.1 ≤ 99 ∧ shapedB pS3 = true from ⟨by decide, by decide, by decide⟩)
 ·match i, j, hj, hi with
  | 1, 0, _, _ => exact (show pS1.1 < pS2.1 ∧ ¬ (pS2.2.1 ≠ 0 ∧ pS1.2.1 = pS2.2.1) from ⟨by decide, by decide⟩)
  | 2, 0, _, _ => exact (show pS1.1 < pS3.1 ∧ ¬ (pS3.2.1 ≠ 0 ∧ pS1.2.1 = pS3.2.1) from ⟨by decide, by decide⟩)
  | 2, 1, _, _ => exact (show pS2.1 < pS3.1 ∧ ¬ (pS3.2.1 ≠ 0 ∧ pS2.2.1 = pS3.2.1) from ⟨by decide, by decide⟩)
 ·match i, k, hi, hk with
  | 0, 0, _, _ => exact (show joinedB pSecs pS1 0 = true by decide)
  | 0, 1, _, _ => exact (show joinedB pSecs pS1 1 = true by decide)
  | 1, 0, _, _ => exact (show joinedB pSecs pS2 0 = true by decide)
  | 1, 1, _, _ => exact (show joinedB pSecs pS2 1 = true by decide)
  | 1, 2, _, _ => exact (show joinedB pSecs pS2 2 = true by decide)
  | 2, 0, _, _ => exact (show joinedB pSecs pS3 0 = true by decide)
  | 2, 1, _, _ => exact (show joinedB pSecs pS3 1 = true by decide)
theorem pts_one : PtsMay planOne := by
 refine ⟨by decide, by decide, fun i h => ?_⟩
 match i, h with
 | 0, _ => exact ⟨(show (1 : Int) ≤ 5 by decide), (show (5 : Int) ≤ 99 by decide), fun j hj => by omega, 1, (show 1 < 3 by decide), (show atS pSecs 2 = 1 by decide), (show (5 : Int) = 5 from rfl)⟩
theorem sigs_one : SigsMay planOne := by
 refine ⟨by decide, fun i h => ?_⟩
 match i, h with
 | 0, _ => exact ⟨(show (1 : Int) ≤ 4 by decide), (show (4 : Int) ≤ 99 by decide), ⟨0, (show 0 < 3 by decide), (show atS pSecs 1 = 0 by decide), (show (0 : Int) ≤ 0 by decide), (show (0 : Int) < ((2 : Nat) : Int) by decide)⟩, fun m hm => by omega⟩
theorem route_one : RouteMay planOne pR := by
 refine ⟨⟨0, (show 0 < 1 by decide), by decide, fun i h => ?_⟩, fun h => absurd rfl h, fun _ => rfl, by decide, by decide, by decide, by decide, fun i h => ?_, fun i h => absurd (show i < 0 from h) (by omega)⟩
 ·match i, h with
  | 0, _ => exact (show (2 : Int) ≠ 1 by decide)
  | 1, _ => exact (show (3 : Int) ≠ 1 by decide)
 ·match i, h with
  | 0, _ => exact ⟨(show 0 ≤ atS pSecs 2 by decide), fun m hm => by omega⟩
  | 1, _ => exact ⟨(show 0 ≤ atS pSecs 3 by decide), fun m hm => by
    match m, hm with
    | 0, _ => exact (show (2 : Int) ≠ 3 by decide)⟩
theorem may_one : PlanMay planOne := by
 refine ⟨by decide, by decide, by decide, may_pSecs, pts_one, sigs_one, fun i h => ?_⟩
 match i, h with
 | 0, _ => exact ⟨(show (1 : Int) ≤ 8 ∧ (8 : Int) ≤ 99 by decide), fun j hj => by omega, route_one⟩
theorem planMay_one : planMay planOne = true := planMay_true may_one
theorem chk_one : chk8 planOne = 0 := by rw [chk8, planMay_one]; rfl
theorem point_one : elE planOne kPt planOne.pts 5 = 0 ∧ elV planOne kPt planOne.pts 5 (0, 0) = (5, 2) := elE_some planMay_one (i := 0) (by decide) (by decide)
theorem signal_one : elE planOne kSg planOne.sigs 4 = 0 ∧ elV planOne kSg planOne.sigs 4 (0, 0, 0) = (4, 1, 0) := elE_some planMay_one (i := 0) (by decide) (by decide)
theorem route_nine : elE planOne kRt planOne.routes 9 = 6 ∧ elV planOne kRt planOne.routes 9 zRt = zRt := elE_none planMay_one (by decide)
theorem next_p (id k : Int) (E : Int) (h : (if atS pSecs id < 0 then (6 : Int) else if k < 0 ∨ ((pSecs.getD (atS pSecs id).toNat (0, 0, [])).2.2.length : Int) ≤ k then 2 else 0) = E) : nextE7 pSecs id k = E := by
 have hm := mayT_true may_pSecs
 rw [nextE7, findS7, findE7, hm, if_pos rfl]
 by_cases h0 : atS pSecs id < 0
 ·rw [if_pos h0] at h ⊢
  rw [if_neg (by decide)]; exact h
 ·rw [if_neg h0] at h ⊢
  rw [if_pos rfl, if_pos rfl]; exact h
theorem stands_one : stE planOne 1 0 = 0 ∧ stN planOne 1 0 = 4 := by
 have e : stE planOne 1 0 = 0 := by rw [stE, planMay_one, if_pos rfl]; exact next_p 1 0 0 (by decide)
 exact ⟨e, by rw [stN, e, if_pos rfl]; decide⟩
theorem stands_two : stE planOne 2 0 = 0 ∧ stN planOne 2 0 = 0 := by
 have e : stE planOne 2 0 = 0 := by rw [stE, planMay_one, if_pos rfl]; exact next_p 2 0 0 (by decide)
 exact ⟨e, by rw [stN, e, if_pos rfl]; decide⟩
theorem stands_nine : stE planOne 9 0 = 6 := by rw [stE, planMay_one, if_pos rfl]; exact next_p 9 0 6 (by decide)
theorem stands_arg : stE planOne 1 2 = 2 := by rw [stE, planMay_one, if_pos rfl]; exact next_p 1 2 2 (by decide)

theorem list_row {α : Type} {sz : Nat} {R : El α} {W : World} {b : Nat} {cs : Array Value} {t : TypeId} {l : List α} (h : W.heap[b]? = some (.cells cs t (0, 0))) (hl : l.length ≤ 100) (hc : ∀ j (hj : j < l.length), R W W.heap.size (fun k => W.cell? ⟨b, 0 + j * sz + k, none⟩) l[j]) :
  ListIn sz R W W.heap.size (.slice (some ⟨b, 0, none⟩) l.length l.length) l :=
 ⟨_, _, rfl, Nat.le_refl _, by unfold maxLen; omega, (fun e => by cases e), fun _ => ⟨b, 0, rfl, heap_lt h, hc⟩⟩
theorem row_cj {W : World} (b : Nat) (c : Array Value) (t : TypeId) (j : Nat) (v : Value) (h : W.heap[b]? = some (.cells c t (0, 0))) (hv : c[j]? = some v) : W.cell? ⟨b, j, none⟩ = some v := by rw [cell_of_row _ _ _ _ _ _ h]; exact hv
/-- The chapter's plan lies in the blocks from s on; its route's path is the slice at A, its timer t. -/
structure OneAt (W : World) (s : Nat) (A : Option Addr) (t : Int) : Prop where
 r1 : W.heap[s]? = some (.cells #[.int .i64 2, .int .i64 0, .int .i64 0, .int .i64 0] 85 (0, 0))
 r2 : W.heap[s + 1]? = some (.cells #[.int .i64 1, .int .i64 0, .int .i64 3, .int .i64 0, .int .i64 3, .int .i64 1] 85 (0, 0))
 r3 : W.heap[s + 2]? = some (.cells #[.int .i64 2, .int .i64 1, .int .i64 2, .int .i64 2] 85 (0, 0))
 r4 : W.heap[s + 3]? = some (.cells #[.int .i64 1, .int .i64 0, .slice (some ⟨s, 0, none⟩) 2 2, .int .i64 2, .int .i64 5, .slice (some ⟨s + 1, 0, none⟩) 3 3, .int .i64 3, .int .i64 0, .slice (some ⟨s + 2, 0, none⟩) 2 2] 67 (0, 0))
 r5 : W.heap[s + 4]? = some (.cells #[.int .i64 5, .int .i64 2] 60 (0, 0))
 r6 : W.heap[s + 5]? = some (.cells #[.int .i64 4, .int .i64 1, .int .i64 0] 69 (0, 0))
 r8 : W.heap[s + 7]? = some (.cells #[.int .i64 8, .int .i64 4, .int .i64 0, .slice A 2 2, .slice none 0 0, .slice none 0 0, .int .i64 t] 54 (0, 0))
abbrev oneV (par : Int) (s : Nat) : Value := .agg #[.int .i64 2, .int .i64 par, .slice (some ⟨s + 3, 0, none⟩) 3 3, .slice (some ⟨s + 4, 0, none⟩) 1 1, .slice (some ⟨s + 5, 0, none⟩) 1 1, .slice (some ⟨s + 7, 0, none⟩) 1 1]
theorem ints2_of {W : World} {g : Nat} {x y : Int} (h : W.heap[g]? = some (.cells #[.int .i64 x, .int .i64 y] 3 (0, 0))) : IntsIn W W.heap.size (.slice (some ⟨g, 0, none⟩) 2 2) [x, y] := list_row (l := [x, y]) h (by simp) (fun j hj => by
  match j, hj with
  | 0, _ => exact row_cj _ _ _ 0 _ h rfl
  | 1, _ => exact row_cj _ _ _ 1 _ h rfl)
theorem OneAt.plan {W : World} {s : Nat} {A : Option Addr} {t : Int} {l : List Int} (h : OneAt W s A t) (hl : IntsIn W W.heap.size (.slice A 2 2) l) (par : Int) :
  PlanV W W.heap.size (oneV par s) ⟨2, par, pSecs, [(5, 2)], [(4, 1, 0)], [⟨8, 4, 0, l, [], [], t⟩]⟩ := by
 have J1 : JoinsIn W W.heap.size (.slice (some ⟨s, 0, none⟩) 2 2) pS1.2.2 := list_row (l := [(2, 0), (0, 0)]) h.r1 (by decide) (fun j hj => by
  match j, hj with
  | 0, _ => exact ⟨row_cj _ _ _ 0 _ h.r1 rfl, row_cj _ _ _ 1 _ h.r1 rfl⟩
  | 1, _ => exact ⟨row_cj _ _ _ 2 _ h.r1 rfl, row_cj _ _ _ 3 _ h.r1 rfl⟩)
 have J2 : JoinsIn W W.heap.size (.slice (some ⟨s + 1, 0, none⟩) 3 3) pS2.2.2 := list_row (l := [(1, 0), (3, 0), (3, 1)]) h.r2 (by decide) (fun j hj => by
  match j, hj with
  | 0, _ => exact ⟨row_cj _ _ _ 0 _ h.r2 rfl, row_cj _ _ _ 1 _ h.r2 rfl⟩
  | 1, _ => exact ⟨row_cj _ _ _ 2 _ h.r2 rfl, row_cj _ _ _ 3 _ h.r2 rfl⟩
  | 2, _ => exact ⟨row_cj _ _ _ 4 _ h.r2 rfl, row_cj _ _ _ 5 _ h.r2 rfl⟩)
 have J3 : JoinsIn W W.heap.size (.slice (some ⟨s + 2, 0, none⟩) 2 2) pS3.2.2 := list_row (l := [(2, 1), (2, 2)]) h.r3 (by decide) (fun j hj => by
  match j, hj with
  | 0, _ => exact ⟨row_cj _ _ _ 0 _ h.r3 rfl, row_cj _ _ _ 1 _ h.r3 rfl⟩
  | 1, _ => exact ⟨row_cj _ _ _ 2 _ h.r3 rfl, row_cj _ _ _ 3 _ h.r3 rfl⟩)
 have SS : SectsIn W W.heap.size (.slice (some ⟨s + 3, 0, none⟩) 3 3) pSecs := list_row (l := pSecs) h.r4 (by decide) (fun j hj => by
  match j, hj with
  | 0, _ => exact ⟨row_cj _ _ _ 0 _ h.r4 rfl, row_cj _ _ _ 1 _ h.r4 rfl, _, row_cj _ _ _ 2 _ h.r4 rfl, J1⟩
  | 1, _ => exact ⟨row_cj _ _ _ 3 _ h.r4 rfl, row_cj _ _ _ 4 _ h.r4 rfl, _, row_cj _ _ _ 5 _ h.r4 rfl, J2⟩
  | 2, _ => exact ⟨row_cj _ _ _ 6 _ h.r4 rfl, row_cj _ _ _ 7 _ h.r4 rfl, _, row_cj _ _ _ 8 _ h.r4 rfl, J3⟩)
 have PP : JoinsIn W W.heap.size (.slice (some ⟨s + 4, 0, none⟩) 1 1) [(5, 2)] := list_row (l := [(5, 2)]) h.r5 (by decide) (fun j hj => by
  match j, hj with
  | 0, _ => exact ⟨row_cj _ _ _ 0 _ h.r5 rfl, row_cj _ _ _ 1 _ h.r5 rfl⟩)
 have GG : SigsIn W W.heap.size (.slice (some ⟨s + 5, 0, none⟩) 1 1) [(4, 1, 0)] := list_row (l := [(4, 1, 0)]) h.r6 (by decide) (fun j hj => by
  match j, hj with
  | 0, _ => exact ⟨row_cj _ _ _ 0 _ h.r6 rfl, row_cj _ _ _ 1 _ h.r6 rfl, row_cj _ _ _ 2 _ h.r6 rfl⟩)
 have RR : RoutesIn W W.heap.size (.slice (some ⟨s + 7, 0, none⟩) 1 1) [⟨8, 4, 0, l, [], [], t⟩] := list_row (l := [(⟨8, 4, 0, l, [], [], t⟩ : Rt)]) h.r8 (by simp) (fun j hj => by
  match j, hj with
  | 0, _ => exact ⟨row_cj _ _ _ 0 _ h.r8 rfl, row_cj _ _ _ 1 _ h.r8 rfl, row_cj _ _ _ 2 _ h.r8 rfl, row_cj _ _ _ 6 _ h.r8 rfl, _, _, _, row_cj _ _ _ 3 _ h.r8 rfl, row_cj _ _ _ 4 _ h.r8 rfl, row_cj _ _ _ 5 _ h.r8 rfl, ⟨hl, ListIn.nil_, ListIn.nil_⟩⟩)
 exact ⟨_, _, _, _, rfl, ⟨SS, PP, GG, RR⟩⟩
end Go.Proofs.YtneeocnjfnneoaaGreat
