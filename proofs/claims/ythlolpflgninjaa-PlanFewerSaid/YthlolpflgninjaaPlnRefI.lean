/-
  The document's own functions Same, SameAll of package track and SameRoute, Same of package plan, for any two.
  Conditions: none.
-/
import Derived.Test.YthlolpflgninjaaPlnRefA
import Derived.Test.YthlolpflgninjaaPlnRefB
import Derived.BigQuiet
import Derived.Deep.RegionHeld3
set_option linter.unusedVariables false
set_option linter.unusedSimpArgs false
set_option maxRecDepth 100000
namespace Go.Proofs.Ythlolpflgninjaa
open Go.RowKit

noncomputable def eqB {α : Type} (a b : α) : Bool := @decide (a = b) (Classical.propDecidable _)
theorem eqB_true {α : Type} {a b : α} (h : a = b) : eqB a b = true := by rw [eqB]; exact @decide_eq_true _ (Classical.propDecidable _) h
theorem eqB_false {α : Type} {a b : α} (h : ¬ a = b) : eqB a b = false := by rw [eqB]; exact @decide_eq_false _ (Classical.propDecidable _) h
theorem eqB_iff {α : Type} {a b : α} : eqB a b = true ↔ a = b := by rw [eqB]; exact @decide_eq_true_iff _ (Classical.propDecidable _)
theorem eqB_dec {α : Type} [DecidableEq α] (a b : α) : decide (a = b) = eqB a b := by
  by_cases h : a = b
  · rw [eqB_true h]; exact decide_eq_true h
  · rw [eqB_false h]; exact decide_eq_false h
theorem list_ext {α : Type} {l m : List α} (hn : l.length = m.length) (h : ∀ j (h1 : j < l.length) (h2 : j < m.length), l[j] = m[j]) : l = m := List.ext_getElem hn h
theorem rt_eq {r s : Rt} : r = s ↔ r.id = s.id ∧ r.entry = s.entry ∧ r.exit = s.exit ∧ r.timer = s.timer ∧ r.path = s.path ∧ r.over = s.over ∧ r.flanks = s.flanks := by
  constructor
  · rintro rfl; exact ⟨rfl, rfl, rfl, rfl, rfl, rfl, rfl⟩
  · obtain ⟨a1, a2, a3, a4, a5, a6, a7⟩ := r
    obtain ⟨b1, b2, b3, b4, b5, b6, b7⟩ := s
    dsimp only
    rintro ⟨rfl, rfl, rfl, rfl, rfl, rfl, rfl⟩
    rfl
theorem pl_eq {p q : Pl} : p = q ↔ p.ver = q.ver ∧ p.par = q.par ∧ p.secs = q.secs ∧ p.pts = q.pts ∧ p.sigs = q.sigs ∧ p.routes = q.routes := by
  cases p; cases q; simp

theorem eqJoin (a b c d : Int) (w : World) : (Op.equalIn 10000 66 (.agg #[.int .i64 a, .int .i64 b]) (.agg #[.int .i64 c, .int .i64 d])).run Try.prog w = .ok ((a == c) && (b == d)) w := by
  have hagg : (isAgg 3).run Try.prog w = .ok false w := by
    unfold isAgg
    rw [Sem.run_bind, run_underlying Try.underlying3 w]
    simp
  rw [run_equalIn_agg w 9999 66 _ _ (by rw [Program.fieldsOf, Try.underlying66]) (by kernel_rfl)]
  simp only [Program.fieldsOf, Try.underlying66, Op.eqFields]
  have hi : ∀ x y : Int, (Op.equalIn 9999 3 (.int .i64 x) (.int .i64 y)).run Try.prog w = .ok (x == y) w := fun x y => run_equalIn_int w 9998 3 .i64 .i64 x y Try.underlying3
  by_cases h1 : a = c <;> by_cases h2 : b = d <;> simp [part, Sem.run_bind, Sem.run_ite, hagg, hi, h1, h2]
theorem eqJoin_ne {x y : Jn} (h : ¬ x = y) (w : World) : (Op.equalIn 10000 66 (.agg #[.int .i64 x.1, .int .i64 x.2]) (.agg #[.int .i64 y.1, .int .i64 y.2])).run Try.prog w = .ok false w := by
  rw [eqJoin]
  congr 1
  by_cases h1 : x.1 = y.1
  · have h2 : ¬ x.2 = y.2 := fun h2 => h (Prod.ext h1 h2)
    simp [h2]
  · simp [h1]
theorem eqJoin_eq {x y : Jn} (h : x = y) (w : World) : (Op.equalIn 10000 66 (.agg #[.int .i64 x.1, .int .i64 x.2]) (.agg #[.int .i64 y.1, .int .i64 y.2])).run Try.prog w = .ok true w := by
  rw [eqJoin, h]; simp

theorem eqFlank (a b c d : Int) (w : World) : (Op.equalIn 10000 86 (.agg #[.int .i64 a, .int .i64 b]) (.agg #[.int .i64 c, .int .i64 d])).run Try.prog w = .ok ((a == c) && (b == d)) w := by
  have hagg : (isAgg 3).run Try.prog w = .ok false w := by
    unfold isAgg
    rw [Sem.run_bind, run_underlying Try.underlying3 w]
    simp
  rw [run_equalIn_agg w 9999 86 _ _ (by rw [Program.fieldsOf, Try.underlying86]) (by kernel_rfl)]
  simp only [Program.fieldsOf, Try.underlying86, Op.eqFields]
  have hi : ∀ x y : Int, (Op.equalIn 9999 3 (.int .i64 x) (.int .i64 y)).run Try.prog w = .ok (x == y) w := fun x y => run_equalIn_int w 9998 3 .i64 .i64 x y Try.underlying3
  by_cases h1 : a = c <;> by_cases h2 : b = d <;> simp [part, Sem.run_bind, Sem.run_ite, hagg, hi, h1, h2]
theorem eqFlank_ne {x y : Jn} (h : ¬ x = y) (w : World) : (Op.equalIn 10000 86 (.agg #[.int .i64 x.1, .int .i64 x.2]) (.agg #[.int .i64 y.1, .int .i64 y.2])).run Try.prog w = .ok false w := by
  rw [eqFlank]
  congr 1
  by_cases h1 : x.1 = y.1
  · have h2 : ¬ x.2 = y.2 := fun h2 => h (Prod.ext h1 h2)
    simp [h2]
  · simp [h1]
theorem eqFlank_eq {x y : Jn} (h : x = y) (w : World) : (Op.equalIn 10000 86 (.agg #[.int .i64 x.1, .int .i64 x.2]) (.agg #[.int .i64 y.1, .int .i64 y.2])).run Try.prog w = .ok true w := by
  rw [eqFlank, h]; simp

theorem eqPoint (a b c d : Int) (w : World) : (Op.equalIn 10000 43 (.agg #[.int .i64 a, .int .i64 b]) (.agg #[.int .i64 c, .int .i64 d])).run Try.prog w = .ok ((a == c) && (b == d)) w := by
  have hagg : (isAgg 3).run Try.prog w = .ok false w := by
    unfold isAgg
    rw [Sem.run_bind, run_underlying Try.underlying3 w]
    simp
  rw [run_equalIn_agg w 9999 43 _ _ (by rw [Program.fieldsOf, Try.underlying43]) (by kernel_rfl)]
  simp only [Program.fieldsOf, Try.underlying43, Op.eqFields]
  have hi : ∀ x y : Int, (Op.equalIn 9999 3 (.int .i64 x) (.int .i64 y)).run Try.prog w = .ok (x == y) w := fun x y => run_equalIn_int w 9998 3 .i64 .i64 x y Try.underlying3
  by_cases h1 : a = c <;> by_cases h2 : b = d <;> simp [part, Sem.run_bind, Sem.run_ite, hagg, hi, h1, h2]
theorem eqPoint_ne {x y : Jn} (h : ¬ x = y) (w : World) : (Op.equalIn 10000 43 (.agg #[.int .i64 x.1, .int .i64 x.2]) (.agg #[.int .i64 y.1, .int .i64 y.2])).run Try.prog w = .ok false w := by
  rw [eqPoint]
  congr 1
  by_cases h1 : x.1 = y.1
  · have h2 : ¬ x.2 = y.2 := fun h2 => h (Prod.ext h1 h2)
    simp [h2]
  · simp [h1]
theorem eqPoint_eq {x y : Jn} (h : x = y) (w : World) : (Op.equalIn 10000 43 (.agg #[.int .i64 x.1, .int .i64 x.2]) (.agg #[.int .i64 y.1, .int .i64 y.2])).run Try.prog w = .ok true w := by
  rw [eqPoint, h]; simp

theorem eqSig (a b c d e f : Int) (w : World) : (Op.equalIn 10000 49 (.agg #[.int .i64 a, .int .i64 b, .int .i64 c]) (.agg #[.int .i64 d, .int .i64 e, .int .i64 f])).run Try.prog w = .ok ((a == d) && ((b == e) && (c == f))) w := by
  have hagg : (isAgg 3).run Try.prog w = .ok false w := by
    unfold isAgg
    rw [Sem.run_bind, run_underlying Try.underlying3 w]
    simp
  rw [run_equalIn_agg w 9999 49 _ _ (by rw [Program.fieldsOf, Try.underlying49]) (by kernel_rfl)]
  simp only [Program.fieldsOf, Try.underlying49, Op.eqFields]
  have hi : ∀ x y : Int, (Op.equalIn 9999 3 (.int .i64 x) (.int .i64 y)).run Try.prog w = .ok (x == y) w := fun x y => run_equalIn_int w 9998 3 .i64 .i64 x y Try.underlying3
  by_cases h1 : a = d <;> by_cases h2 : b = e <;> by_cases h3 : c = f <;> simp [part, Sem.run_bind, Sem.run_ite, hagg, hi, h1, h2, h3]
theorem eqSig_ne {x y : Sg} (h : ¬ x = y) (w : World) : (Op.equalIn 10000 49 (.agg #[.int .i64 x.1, .int .i64 x.2.1, .int .i64 x.2.2]) (.agg #[.int .i64 y.1, .int .i64 y.2.1, .int .i64 y.2.2])).run Try.prog w = .ok false w := by
  rw [eqSig]
  congr 1
  by_cases h1 : x.1 = y.1
  · by_cases h2 : x.2.1 = y.2.1
    · have h3 : ¬ x.2.2 = y.2.2 := fun h3 => h (Prod.ext h1 (Prod.ext h2 h3))
      simp [h3]
    · simp [h2]
  · simp [h1]
theorem eqSig_eq {x y : Sg} (h : x = y) (w : World) : (Op.equalIn 10000 49 (.agg #[.int .i64 x.1, .int .i64 x.2.1, .int .i64 x.2.2]) (.agg #[.int .i64 y.1, .int .i64 y.2.1, .int .i64 y.2.2])).run Try.prog w = .ok true w := by
  rw [eqSig, h]; simp

theorem getElem_congr' {α : Type} {l m : List α} {i : Nat} {h1 : i < l.length} {h2 : i < m.length} (h : l = m) : l[i] = m[i] := by subst h; rfl
structure C3 (w : World) (b : Nat) (v0 v1 v2 : Value) : Prop where
  c0 : w.cell? ⟨b, 0, none⟩ = some v0
theorem cell3_ {w : World} {b : Nat} {v1 v2 v3 : Value} {t : TypeId} {fr : Nat × Nat} : (w.heap[b]? = some (.cells #[v1, v2, v3] t fr) → w.cell? ⟨b, 0, none⟩ = some v1 ∧ w.cell? ⟨b, 1, none⟩ = some v2 ∧ w.cell? ⟨b, 2, none⟩ = some v3) ∧ True := ⟨cell3_of, trivial⟩
theorem cell6_ {w : World} {b : Nat} {v0 v1 v2 v3 v4 v5 : Value} {t : TypeId} {fr : Nat × Nat} : (w.heap[b]? = some (.cells #[v0, v1, v2, v3, v4, v5] t fr) → w.cell? ⟨b, 0, none⟩ = some v0 ∧ w.cell? ⟨b, 1, none⟩ = some v1 ∧ w.cell? ⟨b, 2, none⟩ = some v2 ∧ w.cell? ⟨b, 3, none⟩ = some v3 ∧ w.cell? ⟨b, 4, none⟩ = some v4 ∧ w.cell? ⟨b, 5, none⟩ = some v5) ∧ True := ⟨cell6_of, trivial⟩
theorem cell7_ {w : World} {b : Nat} {v0 v1 v2 v3 v4 v5 v6 : Value} {t : TypeId} {fr : Nat × Nat} : (w.heap[b]? = some (.cells #[v0, v1, v2, v3, v4, v5, v6] t fr) → w.cell? ⟨b, 0, none⟩ = some v0 ∧ w.cell? ⟨b, 1, none⟩ = some v1 ∧ w.cell? ⟨b, 2, none⟩ = some v2 ∧ w.cell? ⟨b, 3, none⟩ = some v3 ∧ w.cell? ⟨b, 4, none⟩ = some v4 ∧ w.cell? ⟨b, 5, none⟩ = some v5 ∧ w.cell? ⟨b, 6, none⟩ = some v6) ∧ True := ⟨cell7_of, trivial⟩

set_option maxHeartbeats 4000000 in
theorem rsame7_any (v y : Value) (s t : Sec) (w : World) (h : SecV w w.heap.size v s) (h' : SecV w w.heap.size y t) :
    Calls Try.prog 79 #[v, y] w fun e w' => e = .returned (.bool (eqB s t)) ∧ Below w.heap.size w w' := by
  obtain ⟨u, rfl, hu⟩ := h
  obtain ⟨u', rfl, hu'⟩ := h'
  obtain ⟨A, c, rfl, hcl, hcm⟩ := hu.slice
  obtain ⟨A', c', rfl, hcl', hcm'⟩ := hu'.slice
  obtain ⟨id, pt, es⟩ := s
  obtain ⟨id', pt', fs⟩ := t
  dsimp only at hu hu' hcl hcm hcl' hcm' ⊢
  unfold maxLen at hcm hcm'
  obtain ⟨n, hn⟩ : ∃ n, n = es.length := ⟨_, rfl⟩
  obtain ⟨n', hn'⟩ : ∃ n', n' = fs.length := ⟨_, rfl⟩
  have hml : n ≤ 9223372036854775807 := by omega
  have hml' : n' ≤ 9223372036854775807 := by omega
  have HA : Hid (JoinsIn w w.heap.size (.slice A n c) es) := Lib.hid (by rw [hn]; exact hu)
  have HB : Hid (JoinsIn w w.heap.size (.slice A' n' c') fs) := Lib.hid (by rw [hn']; exact hu')
  have HN0 : Hid (n = es.length ∧ n' = fs.length) := Lib.hid ⟨hn, hn'⟩
  rw [← hn, ← hn']
  clear hn hn' hu hu' hcl hcm hcl' hcm'
  have hq := two_boxes w (.cells #[.int .i64 id, .int .i64 pt, .slice A n c] 64) (.cells #[.int .i64 id', .int .i64 pt', .slice A' n' c'] 64)
  go_enter Try.func79, Try.ntmps79
  go_upto_region 1 with fail
  generalize (w.alloc (.cells #[.int .i64 id, .int .i64 pt, .slice A n c] 64)).alloc (.cells #[.int .i64 id', .int .i64 pt', .slice A' n' c'] 64) = q at hq ⊢
  obtain ⟨q0, q1, qb⟩ := hq
  have XA := Lib.hid q0
  have XB := Lib.hid q1
  have BZ := Lib.hid qb
  obtain ⟨k0, k1, k2⟩ := cell3_of q0
  obtain ⟨r0, r1, r2⟩ := cell3_of q1
  clear q0 q1 qb
  by_cases h1 : id = id'
  · by_cases h2 : pt = pt'
    · by_cases h3 : n = n'
      · subst h1
        subst h2
        subst h3
        have HN : Hid (n = es.length ∧ n = fs.length) := HN0
        have NEQ : Hid (¬ es = fs → eqB (id, pt, es) (id, pt, fs) = false) := Lib.hid (fun h => eqB_false (fun h2 => by injection h2 with _ h2; injection h2 with _ h2; exact h h2))
        go_wp2_with fail
        go_loopw [5] (fun sL wr => ∃ i : Nat, i ≤ n ∧ sL = .int .i64 i ∧ (∀ j (hj : j < i) (h1 : j < es.length) (h2 : j < fs.length), es[j] = fs[j]) ∧ wr.heap[w.heap.size]? = some (.cells #[.int .i64 id, .int .i64 pt, .slice A n c] 64 (0, 0)) ∧ wr.heap[w.heap.size + 1]? = some (.cells #[.int .i64 id, .int .i64 pt, .slice A' n c'] 64 (0, 0)) ∧ Below w.heap.size w wr) (fun sL _ => n - (intOf sL).toNat)
        case atStart => exact ⟨0, by omega, by go_num, fun j hj => absurd hj (by omega), XA.out, XB.out, BZ.out⟩
        case round =>
          obtain ⟨i, hi, rfl, hall, hxa, hxb, hbw⟩ := hrel
          have HALL := Lib.hid hall
          clear XA XB BZ
          have XA := Lib.hid hxa
          have XB := Lib.hid hxb
          have BZ := Lib.hid hbw
          clear hall hxa hxb hbw
          obtain ⟨k0, k1, k2⟩ := cell3_.1 XA.out
          obtain ⟨r0, r1, r2⟩ := cell3_.1 XB.out
          by_cases hlt : i < n
          · have hlt2 : (i : Int) < n := by omega
            have hir : i < es.length := by have := HN.out; omega
            have him : i < fs.length := by have := HN.out; omega
            obtain ⟨b, off, e1, hb, hc0, hc1⟩ := ((HA.out.below joinR BZ.out).more joinR BZ.out.size).at hir
            obtain ⟨b', off', e2, hb', hd0, hd1⟩ := ((HB.out.below joinR BZ.out).more joinR BZ.out.size).at him
            subst e1
            subst e2
            obtain ⟨x, hx⟩ : ∃ x, x = es[i] := ⟨_, rfl⟩
            obtain ⟨y, hy⟩ : ∃ y, y = fs[i] := ⟨_, rfl⟩
            rw [← hx] at hc0 hc1
            rw [← hy] at hd0 hd1
            have hg0 : wr.cell? ⟨b, off + i * 2, none⟩ = some (.int .i64 x.1) := hc0
            have hh0 : wr.cell? ⟨b', off' + i * 2, none⟩ = some (.int .i64 y.1) := hd0
            have hg1 : wr.cell? ⟨b, off + i * 2 + 1, none⟩ = some (.int .i64 x.2) := hc1
            have hh1 : wr.cell? ⟨b', off' + i * 2 + 1, none⟩ = some (.int .i64 y.2) := hd1
            have HX := Lib.hid hx
            have HY := Lib.hid hy
            have BD : Hid (∀ nq, Below w.heap.size w (wr.drewN nq)) := Lib.hid (fun nq => ⟨BZ.out.os, BZ.out.tape, BZ.out.output, BZ.out.size, BZ.out.block⟩)
            have XD : Hid (∀ nq, (wr.drewN nq).heap[w.heap.size]? = wr.heap[w.heap.size]? ∧ (wr.drewN nq).heap[w.heap.size + 1]? = wr.heap[w.heap.size + 1]?) := Lib.hid (fun nq => ⟨rfl, rfl⟩)
            clear hc0 hc1 hd0 hd1 hx hy hb hb'
            go_upto_region 6 with fail
            by_cases he : x = y
            · have hcmp : ∀ w' : World, (Op.equalIn 10000 66 (.agg #[.int .i64 x.1, .int .i64 x.2]) (.agg #[.int .i64 y.1, .int .i64 y.2])).run Try.prog w' = .ok true w' := eqJoin_eq he
              have NX : Hid (∀ j (hj : j < i + 1) (h1 : j < es.length) (h2 : j < fs.length), es[j] = fs[j]) := Lib.hid (fun j hj h1 h2 => by
                rcases Nat.lt_or_ge j i with h | h
                · exact HALL.out j h h1 h2
                · obtain rfl : j = i := by omega
                  rw [← HX.out, ← HY.out]; exact he)
              clear he
              go_quiet (fail)
              have hdb := BD.out nq
              have hdx := XD.out nq
              rw [XA.out, XB.out] at hdx
              generalize wr.drewN nq = q7 at hdb hdx ⊢
              have B7 := Lib.hid hdb
              have X7 := Lib.hid hdx
              clear hdb hdx BD XD hcmp
              go_wp2_with fail
              go_roundw
              case measure => simp [intOf]; omega
              case rel => exact ⟨i + 1, by omega, by go_num, NX.out, X7.out.1, X7.out.2, B7.out⟩
            · have hcmp : ∀ w' : World, (Op.equalIn 10000 66 (.agg #[.int .i64 x.1, .int .i64 x.2]) (.agg #[.int .i64 y.1, .int .i64 y.2])).run Try.prog w' = .ok false w' := eqJoin_ne he
              have HF : Hid (eqB (id, pt, es) (id, pt, fs) = false) := Lib.hid (NEQ.out (fun h => he (by rw [HX.out, HY.out]; exact getElem_congr' h)))
              clear he
              go_quiet (fail)
              have hdb := BD.out nq
              generalize wr.drewN nq = q7 at hdb ⊢
              have B7 := Lib.hid hdb
              clear hdb BD XD hcmp
              go_wp2_with fail
              go_ret
              exact ⟨by rw [HF.out]; rfl, B7.out⟩
          · obtain rfl : i = n := by omega
            have hlt2 : ¬ (i : Int) < i := by omega
            have ALLQ : Hid (es = fs) := Lib.hid (list_ext (by have := HN.out; omega) fun j h1 h2 => HALL.out j (by have := HN.out; omega) h1 h2)
            clear HALL NEQ
            have HF : Hid (eqB (id, pt, es) (id, pt, fs) = true) := Lib.hid (eqB_true (by rw [ALLQ.out]))
            go_wp2_with fail
            go_ret
            exact ⟨by rw [HF.out]; rfl, BZ.out⟩
      · have d1 : (id != id') = false := by simpa using h1
        have d2 : (pt != pt') = false := by simpa using h2
        have d3 : ((n : Int) != n') = true := by rw [bne_iff_ne]; omega
        have HF : Hid (eqB (id, pt, es) (id', pt', fs) = false) := Lib.hid (eqB_false (fun h => by injection h with _ h; injection h with _ h; have := HN0.out; subst h; omega))
        clear h1 h2 h3
        go_wp2_with fail
        go_ret
        exact ⟨by rw [HF.out]; rfl, BZ.out⟩
    · have d1 : (id != id') = false := by simpa using h1
      have d2 : (pt != pt') = true := by simpa using h2
      have HF : Hid (eqB (id, pt, es) (id', pt', fs) = false) := Lib.hid (eqB_false (fun h => by injection h with _ h; injection h with h _; exact h2 h))
      clear h1 h2
      go_wp2_with fail
      go_ret
      exact ⟨by rw [HF.out]; rfl, BZ.out⟩
  · have d1 : (id != id') = true := by simpa using h1
    have HF : Hid (eqB (id, pt, es) (id', pt', fs) = false) := Lib.hid (eqB_false (fun h => by injection h with h _; exact h1 h))
    clear h1
    go_wp2_with fail
    go_ret
    exact ⟨by rw [HF.out]; rfl, BZ.out⟩


set_option maxHeartbeats 4000000 in
theorem rsameall7_any (v y : Value) (l m : List Sec) (w : World) (h : SectsIn w w.heap.size v l) (h' : SectsIn w w.heap.size y m) :
    Calls Try.prog 47 #[v, y] w fun e w' => e = .returned (.bool (eqB l m)) ∧ Below w.heap.size w w' := by
  have H := Lib.hid h
  have H' := Lib.hid h'
  obtain ⟨A, c, rfl, hcl, hcm⟩ := h.slice
  obtain ⟨A', c', rfl, hcl', hcm'⟩ := h'.slice
  unfold maxLen at hcm
  have hml : l.length ≤ 9223372036854775807 := by omega
  obtain ⟨n, hn⟩ : ∃ n, n = l.length := ⟨_, rfl⟩
  obtain ⟨n', hn'⟩ : ∃ n', n' = m.length := ⟨_, rfl⟩
  have HN0 : Hid (n = l.length ∧ n' = m.length) := Lib.hid ⟨hn, hn'⟩
  have HA := Lib.hid (show SectsIn w w.heap.size (.slice A n c) l by rw [hn]; exact H.out)
  have HB := Lib.hid (show SectsIn w w.heap.size (.slice A' n' c') m by rw [hn']; exact H'.out)
  rw [← hn] at hml ⊢
  rw [← hn']
  clear hn hn' H H' hcl hcm hcl' hcm' h h'
  go_enter Try.func47, Try.ntmps47
  by_cases hnn : n = n'
  · subst hnn
    have HN : Hid (n = l.length ∧ n = m.length) := HN0
    have NEQ : Hid (¬ l = m → eqB l m = false) := Lib.hid (fun h => eqB_false h)
    go_wp2_with fail
    go_loopw [5] (fun s5 wr => ∃ i : Nat, i ≤ n ∧ s5 = .int .i64 i ∧ (∀ j (hj : j < i) (h1 : j < l.length) (h2 : j < m.length), l[j] = m[j]) ∧ Below w.heap.size w wr) (fun s5 _ => n - (intOf s5).toNat)
    case atStart => exact ⟨0, by omega, by go_num, fun j hj => absurd hj (by omega), Below.refl _ _⟩
    case round =>
      obtain ⟨i, hi, rfl, hall, hbw⟩ := hrel
      have HALL := Lib.hid hall
      have BW := Lib.hid hbw
      clear hall hbw
      by_cases hlt : i < n
      · have hlt2 : (i : Int) < n := by omega
        have hir : i < l.length := by have := HN.out; omega
        have him : i < m.length := by have := HN.out; omega
        obtain ⟨b, off, e1, hb, hc0, hc1, u, hc2, hu⟩ := ((HA.out.below secR_ BW.out).more secR_ BW.out.size).at hir
        obtain ⟨b', off', e2, hb', hd0, hd1, u', hd2, hu'⟩ := ((HB.out.below secR_ BW.out).more secR_ BW.out.size).at him
        subst e1
        subst e2
        obtain ⟨x, hx⟩ : ∃ x, x = l[i] := ⟨_, rfl⟩
        obtain ⟨y, hy⟩ : ∃ y, y = m[i] := ⟨_, rfl⟩
        rw [← hx] at hc0 hc1 hu
        rw [← hy] at hd0 hd1 hu'
        obtain ⟨id, pt, es⟩ := x
        obtain ⟨id', pt', fs⟩ := y
        obtain ⟨Au, cu, rfl, -, -⟩ := hu.slice
        obtain ⟨Av, cv, rfl, -, -⟩ := hu'.slice
        dsimp only at hc0 hc1 hc2 hd0 hd1 hd2 hu hu'
        have LG0 : Hid (wr.cell? ⟨b, off + i * 3, none⟩ = some (.int .i64 id)) := Lib.hid hc0
        have LG1 : Hid (wr.cell? ⟨b, off + i * 3 + 1, none⟩ = some (.int .i64 pt)) := Lib.hid hc1
        have LG2 : Hid (wr.cell? ⟨b, off + i * 3 + 2, none⟩ = some (.slice Au es.length cu)) := Lib.hid hc2
        have LH0 : Hid (wr.cell? ⟨b', off' + i * 3, none⟩ = some (.int .i64 id')) := Lib.hid hd0
        have LH1 : Hid (wr.cell? ⟨b', off' + i * 3 + 1, none⟩ = some (.int .i64 pt')) := Lib.hid hd1
        have LH2 : Hid (wr.cell? ⟨b', off' + i * 3 + 2, none⟩ = some (.slice Av fs.length cv)) := Lib.hid hd2
        have SV1 : Hid (SecV wr wr.heap.size (.agg #[.int .i64 id, .int .i64 pt, .slice Au es.length cu]) (id, pt, es)) := Lib.hid ⟨_, rfl, hu⟩
        have SV2 : Hid (SecV wr wr.heap.size (.agg #[.int .i64 id', .int .i64 pt', .slice Av fs.length cv]) (id', pt', fs)) := Lib.hid ⟨_, rfl, hu'⟩
        have LB := Lib.hid hb
        have LB' := Lib.hid hb'
        have HX := Lib.hid hx
        have HY := Lib.hid hy
        clear hc0 hc1 hc2 hd0 hd1 hd2 hu hu' hx hy hb hb'
        go_upto_region 6 with fail
        cases hq5 : eqB (id, pt, es) (id', pt', fs) with
        | true =>
          have NX : Hid (∀ j (hj : j < i + 1) (h1 : j < l.length) (h2 : j < m.length), l[j] = m[j]) := Lib.hid (fun j hj h1 h2 => by
            rcases Nat.lt_or_ge j i with h | h
            · exact HALL.out j h h1 h2
            · obtain rfl : j = i := by omega
              rw [← HX.out, ← HY.out]; exact eqB_iff.1 hq5)
          refine wp_region_held_drew (S := fun v => Below wr.heap.size wr v) (by kernel_rfl) (Below.refl wr.heap.size wr).drew (fun hHeld => ?_)
          refine wpAnyH_take (i := 0) (v := ?_) rfl (by kernel_rfl) (by kernel_rfl) (by kernel_rfl) (fun _ _ _ h => h) (Or.inl ⟨by rfl, ?_⟩) hHeld ?_
          rotate_left
          · intro w' hSw; go_simp; try with_reducible rfl
          simp only [List.getElem_toArray, List.getElem_cons_succ, List.getElem_cons_zero, Act.put, List.setIfInBounds_toArray, List.set_cons_zero, List.set_cons_succ]
          refine wpAnyH_take (i := 1) (v := ?_) rfl (by kernel_rfl) (by kernel_rfl) (by kernel_rfl) (fun _ _ _ h => h) (Or.inl ⟨by rfl, ?_⟩) hHeld ?_
          rotate_left
          · intro w' hSw; go_simp; try with_reducible rfl
          simp only [List.getElem_toArray, List.getElem_cons_succ, List.getElem_cons_zero, Act.put, List.setIfInBounds_toArray, List.set_cons_zero, List.set_cons_succ]
          refine wpAnyH_take (i := 2) (v := ?_) rfl (by kernel_rfl) (by kernel_rfl) (by kernel_rfl) (fun _ _ _ h => h) (Or.inl ⟨by rfl, ?_⟩) hHeld ?_
          rotate_left
          · intro w' hSw; go_simp; try with_reducible rfl
          simp only [List.getElem_toArray, List.getElem_cons_succ, List.getElem_cons_zero, Act.put, List.setIfInBounds_toArray, List.set_cons_zero, List.set_cons_succ]
          refine wpAnyH_take (i := 3) (v := ?_) rfl (by kernel_rfl) (by kernel_rfl) (by kernel_rfl) (fun _ _ _ h => h) (Or.inl ⟨by rfl, ?_⟩) hHeld ?_
          rotate_left
          · intro w' hSw; have cs0 := (hSw.cell (p := ⟨b, off + i * 3, none⟩) LB.out).trans LG0.out; have cs1 := (hSw.cell (p := ⟨b, off + i * 3 + 1, none⟩) LB.out).trans LG1.out; have cs2 := (hSw.cell (p := ⟨b, off + i * 3 + 2, none⟩) LB.out).trans LG2.out; go_simp; try with_reducible rfl
          simp only [List.getElem_toArray, List.getElem_cons_succ, List.getElem_cons_zero, Act.put, List.setIfInBounds_toArray, List.set_cons_zero, List.set_cons_succ]
          refine wpAnyH_take (i := 4) (v := ?_) rfl (by kernel_rfl) (by kernel_rfl) (by kernel_rfl) (fun _ _ _ h => h) (Or.inl ⟨by rfl, ?_⟩) hHeld ?_
          rotate_left
          · intro w' hSw; go_simp; try with_reducible rfl
          simp only [List.getElem_toArray, List.getElem_cons_succ, List.getElem_cons_zero, Act.put, List.setIfInBounds_toArray, List.set_cons_zero, List.set_cons_succ]
          refine wpAnyH_take (i := 5) (v := ?_) rfl (by kernel_rfl) (by kernel_rfl) (by kernel_rfl) (fun _ _ _ h => h) (Or.inl ⟨by rfl, ?_⟩) hHeld ?_
          rotate_left
          · intro w' hSw; go_simp; try with_reducible rfl
          simp only [List.getElem_toArray, List.getElem_cons_succ, List.getElem_cons_zero, Act.put, List.setIfInBounds_toArray, List.set_cons_zero, List.set_cons_succ]
          refine wpAnyH_take (i := 6) (v := ?_) rfl (by kernel_rfl) (by kernel_rfl) (by kernel_rfl) (fun _ _ _ h => h) (Or.inl ⟨by rfl, ?_⟩) hHeld ?_
          rotate_left
          · intro w' hSw; go_simp; try with_reducible rfl
          simp only [List.getElem_toArray, List.getElem_cons_succ, List.getElem_cons_zero, Act.put, List.setIfInBounds_toArray, List.set_cons_zero, List.set_cons_succ]
          refine wpAnyH_take (i := 7) (v := ?_) rfl (by kernel_rfl) (by kernel_rfl) (by kernel_rfl) (fun _ _ _ h => h) (Or.inl ⟨by rfl, ?_⟩) hHeld ?_
          rotate_left
          · intro w' hSw; have ct0 := (hSw.cell (p := ⟨b', off' + i * 3, none⟩) LB'.out).trans LH0.out; have ct1 := (hSw.cell (p := ⟨b', off' + i * 3 + 1, none⟩) LB'.out).trans LH1.out; have ct2 := (hSw.cell (p := ⟨b', off' + i * 3 + 2, none⟩) LB'.out).trans LH2.out; go_simp; try with_reducible rfl
          simp only [List.getElem_toArray, List.getElem_cons_succ, List.getElem_cons_zero, Act.put, List.setIfInBounds_toArray, List.set_cons_zero, List.set_cons_succ]
          refine wpAnyH_ready (rs := [8]) (by kernel_rfl) (by simp) ?_
          refine AllReadyH.cons rfl (fun K hK => ?_) AllReadyH.nil
          go_simp
          refine (rsame7_any _ _ (id, pt, es) (id', pt', fs) wr.drew (SV1.out.below (Below.refl wr.heap.size wr).drew) (SV2.out.below (Below.refl wr.heap.size wr).drew)).mono ?_
          rintro e w5 ⟨rfl, b5⟩
          rw [hq5]
          have B5 : Hid (Below wr.heap.size wr w5) := Lib.hid ((Below.refl wr.heap.size wr).drew.trans b5)
          clear b5
          try go_wp2_with fail
          refine hK.out _ _ ?_ (fun hHeld => ?_)
          · exact B5.out
          clear hK K
          try simp only [List.getElem_toArray, List.getElem_cons_succ, List.getElem_cons_zero, Act.put, List.setIfInBounds_toArray, List.set_cons_zero, List.set_cons_succ]
          refine wpAnyH_take (i := 9) (v := ?_) rfl (by kernel_rfl) (by kernel_rfl) (by kernel_rfl) (fun _ _ _ h => h) (Or.inl ⟨by rfl, ?_⟩) hHeld ?_
          rotate_left
          · intro w' hSw; go_simp; try with_reducible rfl
          simp only [List.getElem_toArray, List.getElem_cons_succ, List.getElem_cons_zero, Act.put, List.setIfInBounds_toArray, List.set_cons_zero, List.set_cons_succ]
          refine wpAnyH_done (by kernel_rfl) ?_ _
          have BY : Hid (Below w.heap.size w w5) := Lib.hid (BW.out.trans (B5.out.mono BW.out.size))
          go_wp2_with fail
          go_roundw
          case measure => simp [intOf]; omega
          case rel => exact ⟨i + 1, by omega, by go_num, NX.out, BY.out⟩
        | false =>
          have HF : Hid (eqB l m = false) := Lib.hid (NEQ.out (fun h => by
            have h2 := getElem_congr' (h1 := hir) (h2 := him) h
            rw [← HX.out, ← HY.out] at h2
            rw [eqB_true h2] at hq5
            cases hq5))
          refine wp_region_held_drew (S := fun v => Below wr.heap.size wr v) (by kernel_rfl) (Below.refl wr.heap.size wr).drew (fun hHeld => ?_)
          refine wpAnyH_take (i := 0) (v := ?_) rfl (by kernel_rfl) (by kernel_rfl) (by kernel_rfl) (fun _ _ _ h => h) (Or.inl ⟨by rfl, ?_⟩) hHeld ?_
          rotate_left
          · intro w' hSw; go_simp; try with_reducible rfl
          simp only [List.getElem_toArray, List.getElem_cons_succ, List.getElem_cons_zero, Act.put, List.setIfInBounds_toArray, List.set_cons_zero, List.set_cons_succ]
          refine wpAnyH_take (i := 1) (v := ?_) rfl (by kernel_rfl) (by kernel_rfl) (by kernel_rfl) (fun _ _ _ h => h) (Or.inl ⟨by rfl, ?_⟩) hHeld ?_
          rotate_left
          · intro w' hSw; go_simp; try with_reducible rfl
          simp only [List.getElem_toArray, List.getElem_cons_succ, List.getElem_cons_zero, Act.put, List.setIfInBounds_toArray, List.set_cons_zero, List.set_cons_succ]
          refine wpAnyH_take (i := 2) (v := ?_) rfl (by kernel_rfl) (by kernel_rfl) (by kernel_rfl) (fun _ _ _ h => h) (Or.inl ⟨by rfl, ?_⟩) hHeld ?_
          rotate_left
          · intro w' hSw; go_simp; try with_reducible rfl
          simp only [List.getElem_toArray, List.getElem_cons_succ, List.getElem_cons_zero, Act.put, List.setIfInBounds_toArray, List.set_cons_zero, List.set_cons_succ]
          refine wpAnyH_take (i := 3) (v := ?_) rfl (by kernel_rfl) (by kernel_rfl) (by kernel_rfl) (fun _ _ _ h => h) (Or.inl ⟨by rfl, ?_⟩) hHeld ?_
          rotate_left
          · intro w' hSw; have cs0 := (hSw.cell (p := ⟨b, off + i * 3, none⟩) LB.out).trans LG0.out; have cs1 := (hSw.cell (p := ⟨b, off + i * 3 + 1, none⟩) LB.out).trans LG1.out; have cs2 := (hSw.cell (p := ⟨b, off + i * 3 + 2, none⟩) LB.out).trans LG2.out; go_simp; try with_reducible rfl
          simp only [List.getElem_toArray, List.getElem_cons_succ, List.getElem_cons_zero, Act.put, List.setIfInBounds_toArray, List.set_cons_zero, List.set_cons_succ]
          refine wpAnyH_take (i := 4) (v := ?_) rfl (by kernel_rfl) (by kernel_rfl) (by kernel_rfl) (fun _ _ _ h => h) (Or.inl ⟨by rfl, ?_⟩) hHeld ?_
          rotate_left
          · intro w' hSw; go_simp; try with_reducible rfl
          simp only [List.getElem_toArray, List.getElem_cons_succ, List.getElem_cons_zero, Act.put, List.setIfInBounds_toArray, List.set_cons_zero, List.set_cons_succ]
          refine wpAnyH_take (i := 5) (v := ?_) rfl (by kernel_rfl) (by kernel_rfl) (by kernel_rfl) (fun _ _ _ h => h) (Or.inl ⟨by rfl, ?_⟩) hHeld ?_
          rotate_left
          · intro w' hSw; go_simp; try with_reducible rfl
          simp only [List.getElem_toArray, List.getElem_cons_succ, List.getElem_cons_zero, Act.put, List.setIfInBounds_toArray, List.set_cons_zero, List.set_cons_succ]
          refine wpAnyH_take (i := 6) (v := ?_) rfl (by kernel_rfl) (by kernel_rfl) (by kernel_rfl) (fun _ _ _ h => h) (Or.inl ⟨by rfl, ?_⟩) hHeld ?_
          rotate_left
          · intro w' hSw; go_simp; try with_reducible rfl
          simp only [List.getElem_toArray, List.getElem_cons_succ, List.getElem_cons_zero, Act.put, List.setIfInBounds_toArray, List.set_cons_zero, List.set_cons_succ]
          refine wpAnyH_take (i := 7) (v := ?_) rfl (by kernel_rfl) (by kernel_rfl) (by kernel_rfl) (fun _ _ _ h => h) (Or.inl ⟨by rfl, ?_⟩) hHeld ?_
          rotate_left
          · intro w' hSw; have ct0 := (hSw.cell (p := ⟨b', off' + i * 3, none⟩) LB'.out).trans LH0.out; have ct1 := (hSw.cell (p := ⟨b', off' + i * 3 + 1, none⟩) LB'.out).trans LH1.out; have ct2 := (hSw.cell (p := ⟨b', off' + i * 3 + 2, none⟩) LB'.out).trans LH2.out; go_simp; try with_reducible rfl
          simp only [List.getElem_toArray, List.getElem_cons_succ, List.getElem_cons_zero, Act.put, List.setIfInBounds_toArray, List.set_cons_zero, List.set_cons_succ]
          refine wpAnyH_ready (rs := [8]) (by kernel_rfl) (by simp) ?_
          refine AllReadyH.cons rfl (fun K hK => ?_) AllReadyH.nil
          go_simp
          refine (rsame7_any _ _ (id, pt, es) (id', pt', fs) wr.drew (SV1.out.below (Below.refl wr.heap.size wr).drew) (SV2.out.below (Below.refl wr.heap.size wr).drew)).mono ?_
          rintro e w5 ⟨rfl, b5⟩
          rw [hq5]
          have B5 : Hid (Below wr.heap.size wr w5) := Lib.hid ((Below.refl wr.heap.size wr).drew.trans b5)
          clear b5
          try go_wp2_with fail
          refine hK.out _ _ ?_ (fun hHeld => ?_)
          · exact B5.out
          clear hK K
          try simp only [List.getElem_toArray, List.getElem_cons_succ, List.getElem_cons_zero, Act.put, List.setIfInBounds_toArray, List.set_cons_zero, List.set_cons_succ]
          refine wpAnyH_take (i := 9) (v := ?_) rfl (by kernel_rfl) (by kernel_rfl) (by kernel_rfl) (fun _ _ _ h => h) (Or.inl ⟨by rfl, ?_⟩) hHeld ?_
          rotate_left
          · intro w' hSw; go_simp; try with_reducible rfl
          simp only [List.getElem_toArray, List.getElem_cons_succ, List.getElem_cons_zero, Act.put, List.setIfInBounds_toArray, List.set_cons_zero, List.set_cons_succ]
          refine wpAnyH_done (by kernel_rfl) ?_ _
          have BY : Hid (Below w.heap.size w w5) := Lib.hid (BW.out.trans (B5.out.mono BW.out.size))
          go_wp2_with fail
          go_ret
          exact ⟨by rw [HF.out]; rfl, BY.out⟩
      · obtain rfl : i = n := by omega
        have hlt2 : ¬ (i : Int) < i := by omega
        have HF : Hid (eqB l m = true) := Lib.hid (eqB_true (list_ext (by have := HN.out; omega) fun j h1 h2 => HALL.out j (by have := HN.out; omega) h1 h2))
        go_wp2_with fail
        go_ret
        exact ⟨by rw [HF.out]; rfl, BW.out⟩
  · have hnn' : ((n : Int) != n') = true := by rw [bne_iff_ne]; omega
    have HF : Hid (eqB l m = false) := Lib.hid (eqB_false (fun h => by subst h; have := HN0.out; omega))
    have BZ : Hid (Below w.heap.size w w) := Lib.hid (Below.refl _ _)
    clear hnn
    go_wp2_with fail
    go_ret
    exact ⟨by rw [HF.out]; rfl, BZ.out⟩


set_option maxHeartbeats 8000000 in
theorem rsameroute_any (v y : Value) (r s : Rt) (w : World) (h : RouteV w w.heap.size v r) (h' : RouteV w w.heap.size y s) :
    Calls Try.prog 22 #[v, y] w fun e w' => e = .returned (.bool (eqB r s)) ∧ Below w.heap.size w w' := by
  obtain ⟨y3, y4, y5, rfl, h1⟩ := h
  obtain ⟨z3, z4, z5, rfl, h2⟩ := h'
  obtain ⟨A3, ac3, rfl, hcl3, hcm3⟩ := h1.path.slice
  obtain ⟨B3, bc3, rfl, hdl3, hdm3⟩ := h2.path.slice
  obtain ⟨A4, ac4, rfl, hcl4, hcm4⟩ := h1.over.slice
  obtain ⟨B4, bc4, rfl, hdl4, hdm4⟩ := h2.over.slice
  obtain ⟨A5, ac5, rfl, hcl5, hcm5⟩ := h1.flanks.slice
  obtain ⟨B5, bc5, rfl, hdl5, hdm5⟩ := h2.flanks.slice
  obtain ⟨an3, ha3⟩ : ∃ n, n = r.path.length := ⟨_, rfl⟩
  obtain ⟨bn3, hb3⟩ : ∃ n, n = s.path.length := ⟨_, rfl⟩
  obtain ⟨an4, ha4⟩ : ∃ n, n = r.over.length := ⟨_, rfl⟩
  obtain ⟨bn4, hb4⟩ : ∃ n, n = s.over.length := ⟨_, rfl⟩
  obtain ⟨an5, ha5⟩ : ∃ n, n = r.flanks.length := ⟨_, rfl⟩
  obtain ⟨bn5, hb5⟩ : ∃ n, n = s.flanks.length := ⟨_, rfl⟩
  have HA3 : Hid (IntsIn w w.heap.size (.slice A3 an3 ac3) r.path) := Lib.hid (by rw [ha3]; exact h1.path)
  have HB3 : Hid (IntsIn w w.heap.size (.slice B3 bn3 bc3) s.path) := Lib.hid (by rw [hb3]; exact h2.path)
  have HA4 : Hid (IntsIn w w.heap.size (.slice A4 an4 ac4) r.over) := Lib.hid (by rw [ha4]; exact h1.over)
  have HB4 : Hid (IntsIn w w.heap.size (.slice B4 bn4 bc4) s.over) := Lib.hid (by rw [hb4]; exact h2.over)
  have HA5 : Hid (JoinsIn w w.heap.size (.slice A5 an5 ac5) r.flanks) := Lib.hid (by rw [ha5]; exact h1.flanks)
  have HB5 : Hid (JoinsIn w w.heap.size (.slice B5 bn5 bc5) s.flanks) := Lib.hid (by rw [hb5]; exact h2.flanks)
  unfold maxLen at hcm5 hdm5
  have hm5 : an5 ≤ 9223372036854775807 := by omega
  have hm5' : bn5 ≤ 9223372036854775807 := by omega
  have HN0 : Hid (an5 = r.flanks.length ∧ bn5 = s.flanks.length) := Lib.hid ⟨ha5, hb5⟩
  rw [← ha3, ← ha4, ← ha5, ← hb3, ← hb4, ← hb5]
  clear ha3 ha4 ha5 hb3 hb4 hb5 h1 h2 hcl3 hcm3 hcl4 hcm4 hcl5 hcm5 hdl3 hdm3 hdl4 hdm4 hdl5 hdm5
  have hq := two_boxes w (.cells #[.int .i64 r.id, .int .i64 r.entry, .int .i64 r.exit, .slice A3 an3 ac3, .slice A4 an4 ac4, .slice A5 an5 ac5, .int .i64 r.timer] 35) (.cells #[.int .i64 s.id, .int .i64 s.entry, .int .i64 s.exit, .slice B3 bn3 bc3, .slice B4 bn4 bc4, .slice B5 bn5 bc5, .int .i64 s.timer] 35)
  go_enter Try.func22, Try.ntmps22
  go_upto_region 1 with fail
  generalize (w.alloc (.cells #[.int .i64 r.id, .int .i64 r.entry, .int .i64 r.exit, .slice A3 an3 ac3, .slice A4 an4 ac4, .slice A5 an5 ac5, .int .i64 r.timer] 35)).alloc (.cells #[.int .i64 s.id, .int .i64 s.entry, .int .i64 s.exit, .slice B3 bn3 bc3, .slice B4 bn4 bc4, .slice B5 bn5 bc5, .int .i64 s.timer] 35) = q at hq ⊢
  obtain ⟨q0, q1, qb⟩ := hq
  have XA := Lib.hid q0
  have XB := Lib.hid q1
  have BZ := Lib.hid qb
  obtain ⟨k0, k1, k2, k3, k4, k5, k6⟩ := cell7_of q0
  obtain ⟨r0, r1, r2, r3, r4, r5, r6⟩ := cell7_of q1
  clear q0 q1 qb
  by_cases h_id : r.id = s.id
  case neg =>
    have d_id : (r.id != s.id) = true := by simpa using h_id
    have HF : Hid (eqB r s = false) := Lib.hid (eqB_false (fun h => h_id (by rw [h])))
    clear h_id
    go_wp2_with fail
    go_ret
    exact ⟨by rw [HF.out]; rfl, BZ.out⟩
  have d_id : (r.id != s.id) = false := by simpa using h_id
  by_cases h_entry : r.entry = s.entry
  case neg =>
    have d_entry : (r.entry != s.entry) = true := by simpa using h_entry
    have HF : Hid (eqB r s = false) := Lib.hid (eqB_false (fun h => h_entry (by rw [h])))
    clear h_id h_entry
    go_wp2_with fail
    go_ret
    exact ⟨by rw [HF.out]; rfl, BZ.out⟩
  have d_entry : (r.entry != s.entry) = false := by simpa using h_entry
  by_cases h_exit : r.exit = s.exit
  case neg =>
    have d_exit : (r.exit != s.exit) = true := by simpa using h_exit
    have HF : Hid (eqB r s = false) := Lib.hid (eqB_false (fun h => h_exit (by rw [h])))
    clear h_id h_entry h_exit
    go_wp2_with fail
    go_ret
    exact ⟨by rw [HF.out]; rfl, BZ.out⟩
  have d_exit : (r.exit != s.exit) = false := by simpa using h_exit
  by_cases h_timer : r.timer = s.timer
  case neg =>
    have d_timer : (r.timer != s.timer) = true := by simpa using h_timer
    have HF : Hid (eqB r s = false) := Lib.hid (eqB_false (fun h => h_timer (by rw [h])))
    clear h_id h_entry h_exit h_timer
    go_wp2_with fail
    go_ret
    exact ⟨by rw [HF.out]; rfl, BZ.out⟩
  have d_timer : (r.timer != s.timer) = false := by simpa using h_timer
  have FOUR : Hid (r.id = s.id ∧ r.entry = s.entry ∧ r.exit = s.exit ∧ r.timer = s.timer) := Lib.hid ⟨h_id, h_entry, h_exit, h_timer⟩
  clear h_id h_entry h_exit h_timer
  go_wp2_with fail
  refine (rints_any _ _ r.path s.path q ((HA3.out.below intR BZ.out).more intR BZ.out.size) ((HB3.out.below intR BZ.out).more intR BZ.out.size)).mono ?_
  rintro e w1 ⟨rfl, b1⟩
  rw [eqB_dec]
  have tXA := (b1.block _ (heap_lt XA.out)).trans XA.out
  have tXB := (b1.block _ (heap_lt XB.out)).trans XB.out
  have tBZ := BZ.out.trans (b1.mono BZ.out.size)
  clear XA XB BZ b1 k0 k1 k2 k3 k4 k5 k6 r0 r1 r2 r3 r4 r5 r6
  have XA := Lib.hid tXA
  have XB := Lib.hid tXB
  have BZ := Lib.hid tBZ
  clear tXA tXB tBZ
  obtain ⟨k0, k1, k2, k3, k4, k5, k6⟩ := cell7_of XA.out
  obtain ⟨r0, r1, r2, r3, r4, r5, r6⟩ := cell7_of XB.out
  cases hp : eqB r.path s.path with
  | false =>
    have HF : Hid (eqB r s = false) := Lib.hid (eqB_false (fun h => by rw [eqB_true (by rw [h])] at hp; cases hp))
    clear hp
    go_wp2_with fail
    go_ret
    exact ⟨by rw [HF.out]; rfl, BZ.out⟩
  | true =>
  have HP := Lib.hid (eqB_iff.1 hp)
  clear hp
  go_wp2_with fail
  refine (rints_any _ _ r.over s.over w1 ((HA4.out.below intR BZ.out).more intR BZ.out.size) ((HB4.out.below intR BZ.out).more intR BZ.out.size)).mono ?_
  rintro e w2 ⟨rfl, b2⟩
  rw [eqB_dec]
  have tXA := (b2.block _ (heap_lt XA.out)).trans XA.out
  have tXB := (b2.block _ (heap_lt XB.out)).trans XB.out
  have tBZ := BZ.out.trans (b2.mono BZ.out.size)
  clear XA XB BZ b2 k0 k1 k2 k3 k4 k5 k6 r0 r1 r2 r3 r4 r5 r6
  have XA := Lib.hid tXA
  have XB := Lib.hid tXB
  have BZ := Lib.hid tBZ
  clear tXA tXB tBZ
  obtain ⟨k0, k1, k2, k3, k4, k5, k6⟩ := cell7_of XA.out
  obtain ⟨r0, r1, r2, r3, r4, r5, r6⟩ := cell7_of XB.out
  cases hp : eqB r.over s.over with
  | false =>
    have HF : Hid (eqB r s = false) := Lib.hid (eqB_false (fun h => by rw [eqB_true (by rw [h])] at hp; cases hp))
    clear hp
    go_wp2_with fail
    go_ret
    exact ⟨by rw [HF.out]; rfl, BZ.out⟩
  | true =>
  have HO := Lib.hid (eqB_iff.1 hp)
  clear hp
  by_cases hn5 : an5 = bn5
  case neg =>
    have d5 : ((an5 : Int) != bn5) = true := by rw [bne_iff_ne]; omega
    have HF : Hid (eqB r s = false) := Lib.hid (eqB_false (fun h => hn5 (by have := HN0.out; rw [h] at this; omega)))
    clear hn5
    go_wp2_with fail
    go_ret
    exact ⟨by rw [HF.out]; rfl, BZ.out⟩
  subst hn5
  have HN : Hid (an5 = r.flanks.length ∧ an5 = s.flanks.length) := HN0
  have NEQ : Hid (¬ r.flanks = s.flanks → eqB r s = false) := Lib.hid (fun h => eqB_false (fun h2 => h (by rw [h2])))
  go_wp2_with fail
  go_loopw [5] (fun sL wr => ∃ i : Nat, i ≤ an5 ∧ sL = .int .i64 i ∧ (∀ j (hj : j < i) (h1 : j < r.flanks.length) (h2 : j < s.flanks.length), r.flanks[j] = s.flanks[j]) ∧ wr.heap[w.heap.size]? = some (.cells #[.int .i64 r.id, .int .i64 r.entry, .int .i64 r.exit, .slice A3 an3 ac3, .slice A4 an4 ac4, .slice A5 an5 ac5, .int .i64 r.timer] 35 (0, 0)) ∧ wr.heap[w.heap.size + 1]? = some (.cells #[.int .i64 s.id, .int .i64 s.entry, .int .i64 s.exit, .slice B3 bn3 bc3, .slice B4 bn4 bc4, .slice B5 an5 bc5, .int .i64 s.timer] 35 (0, 0)) ∧ Below w.heap.size w wr) (fun sL _ => an5 - (intOf sL).toNat)
  case atStart => exact ⟨0, by omega, by go_num, fun j hj => absurd hj (by omega), XA.out, XB.out, BZ.out⟩
  case round =>
    obtain ⟨i, hi, rfl, hall, hxa, hxb, hbw⟩ := hrel
    have HALL := Lib.hid hall
    clear XA XB BZ
    have XA := Lib.hid hxa
    have XB := Lib.hid hxb
    have BZ := Lib.hid hbw
    clear hall hxa hxb hbw
    obtain ⟨k0, k1, k2, k3, k4, k5, k6⟩ := cell7_.1 XA.out
    obtain ⟨r0, r1, r2, r3, r4, r5, r6⟩ := cell7_.1 XB.out
    by_cases hlt : i < an5
    · have hlt2 : (i : Int) < an5 := by omega
      have hir : i < r.flanks.length := by have := HN.out; omega
      have him : i < s.flanks.length := by have := HN.out; omega
      obtain ⟨b, off, e1, hb, hc0, hc1⟩ := ((HA5.out.below joinR BZ.out).more joinR BZ.out.size).at hir
      obtain ⟨b', off', e2, hb', hd0, hd1⟩ := ((HB5.out.below joinR BZ.out).more joinR BZ.out.size).at him
      subst e1
      subst e2
      obtain ⟨x, hx⟩ : ∃ x, x = r.flanks[i] := ⟨_, rfl⟩
      obtain ⟨y, hy⟩ : ∃ y, y = s.flanks[i] := ⟨_, rfl⟩
      rw [← hx] at hc0 hc1
      rw [← hy] at hd0 hd1
      have hg0 : wr.cell? ⟨b, off + i * 2, none⟩ = some (.int .i64 x.1) := hc0
      have hh0 : wr.cell? ⟨b', off' + i * 2, none⟩ = some (.int .i64 y.1) := hd0
      have hg1 : wr.cell? ⟨b, off + i * 2 + 1, none⟩ = some (.int .i64 x.2) := hc1
      have hh1 : wr.cell? ⟨b', off' + i * 2 + 1, none⟩ = some (.int .i64 y.2) := hd1
      have HX := Lib.hid hx
      have HY := Lib.hid hy
      have BD : Hid (∀ nq, Below w.heap.size w (wr.drewN nq)) := Lib.hid (fun nq => ⟨BZ.out.os, BZ.out.tape, BZ.out.output, BZ.out.size, BZ.out.block⟩)
      have XD : Hid (∀ nq, (wr.drewN nq).heap[w.heap.size]? = wr.heap[w.heap.size]? ∧ (wr.drewN nq).heap[w.heap.size + 1]? = wr.heap[w.heap.size + 1]?) := Lib.hid (fun nq => ⟨rfl, rfl⟩)
      clear hc0 hc1 hd0 hd1 hx hy hb hb'
      go_upto_region 6 with fail
      by_cases he : x = y
      · have hcmp : ∀ w' : World, (Op.equalIn 10000 86 (.agg #[.int .i64 x.1, .int .i64 x.2]) (.agg #[.int .i64 y.1, .int .i64 y.2])).run Try.prog w' = .ok true w' := eqFlank_eq he
        have NX : Hid (∀ j (hj : j < i + 1) (h1 : j < r.flanks.length) (h2 : j < s.flanks.length), r.flanks[j] = s.flanks[j]) := Lib.hid (fun j hj h1 h2 => by
          rcases Nat.lt_or_ge j i with h | h
          · exact HALL.out j h h1 h2
          · obtain rfl : j = i := by omega
            rw [← HX.out, ← HY.out]; exact he)
        clear he
        go_quiet (fail)
        have hdb := BD.out nq
        have hdx := XD.out nq
        rw [XA.out, XB.out] at hdx
        generalize wr.drewN nq = q7 at hdb hdx ⊢
        have B7 := Lib.hid hdb
        have X7 := Lib.hid hdx
        clear hdb hdx BD XD hcmp
        go_wp2_with fail
        go_roundw
        case measure => simp [intOf]; omega
        case rel => exact ⟨i + 1, by omega, by go_num, NX.out, X7.out.1, X7.out.2, B7.out⟩
      · have hcmp : ∀ w' : World, (Op.equalIn 10000 86 (.agg #[.int .i64 x.1, .int .i64 x.2]) (.agg #[.int .i64 y.1, .int .i64 y.2])).run Try.prog w' = .ok false w' := eqFlank_ne he
        have HF : Hid (eqB r s = false) := Lib.hid (NEQ.out (fun h => he (by rw [HX.out, HY.out]; exact getElem_congr' h)))
        clear he
        go_quiet (fail)
        have hdb := BD.out nq
        generalize wr.drewN nq = q7 at hdb ⊢
        have B7 := Lib.hid hdb
        clear hdb BD XD hcmp
        go_wp2_with fail
        go_ret
        exact ⟨by rw [HF.out]; rfl, B7.out⟩
    · obtain rfl : i = an5 := by omega
      have hlt2 : ¬ (i : Int) < i := by omega
      have ALLQ : Hid (r.flanks = s.flanks) := Lib.hid (list_ext (by have := HN.out; omega) fun j h1 h2 => HALL.out j (by have := HN.out; omega) h1 h2)
      clear HALL NEQ
      have HF : Hid (eqB r s = true) := Lib.hid (eqB_true (rt_eq.2 ⟨FOUR.out.1, FOUR.out.2.1, FOUR.out.2.2.1, FOUR.out.2.2.2, HP.out, HO.out, ALLQ.out⟩))
      go_wp2_with fail
      go_ret
      exact ⟨by rw [HF.out]; rfl, BZ.out⟩

end Go.Proofs.Ythlolpflgninjaa
