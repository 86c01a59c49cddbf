/-
 append(own, list...) of elements of at most a thousand bytes.
 Conditions: none.
-/
import Derived.Test.YteloiajocjahmaaGreatDoorSGTrkRef
import Derived.Test.YteloiajocjahmaaGreatDoorSGPlnRefB
import Derived.Test.YteloiajocjahmaaGreatDoorSGPlnRefA
import Derived.BigQuiet
import Derived.Deep.RegionHeld3
import Derived.Test.YteloiajocjahmaaGreatDoorSGPlnRefC
set_option linter.unusedVariables false
set_option linter.unusedSimpArgs false
set_option maxRecDepth 100000
namespace Go.Proofs.YteloiajocjahmaaGreatDoor
open Go.RowKit

theorem run_append_listB {P : Program} {w : World} {base t ty e size bytes : Nat} {i : TypeInfo} {z : Value} (ht : P.underlying t = some (.slice e)) (hi : P.info? e = some i) (hz : i.zero = some z) (hzs : z.cells.size = size) (hsize : i.size = size) (hsz : 0 < size) (hby : i.bytes = bytes) (hb8 : bytes ≤ 1000)
  {v : Value} {n m c : Nat} {A : Option Addr} {ys news : List Value} (hown : w.ownsRow base e size v n ys) (hl : news.length = m * size) (hA : A = none → m = 0 ∧ c = 0)
  (hc : ∀ a, A = some a → ∀ j u, news[j]? = some u → w.cell? (a.add j) = some u) (h1 : ∀ u ∈ news, u.oneCell' = true) (h63 : n + m ≤ 100000) (hbase : base ≤ w.heap.size) :
  ∃ v' w', (Builtin.append_ #[t, t] ty #[v, .slice A m c]).run P w = .ok v' w' ∧ w'.ownsRow base e size v' (n + m) (ys ++ news) ∧ w.grownBy w' v.ownBlock := by
 cases A with
 | none =>
  obtain ⟨rfl, rfl⟩ := hA rfl
  obtain rfl : news = [] := List.eq_nil_of_length_eq_zero (by omega)
  exact ⟨v, w, run_append_owned_none (P := P) (w := w) base t ty e i size ht hi v n ys hown, by simpa using hown, World.grownBy.refl w _⟩
 | some a =>
  obtain ⟨v', w', hr, ho, hg, _⟩ := run_append_own (P := P) w base t ty e i z size bytes ht hi hz hsize hby hzs hsz v n ys hown a m c news hl (hc a rfl) h1 (by unfold maxLen; omega) (by have := Nat.mul_le_mul h63 hb8; omega) hbase
  exact ⟨v', w', hr, ho, hg⟩

theorem infoRouteI : (Tryz.prog.info? 44).map (fun i => (i.zero, i.size, i.bytes)) = some (some (.agg #[.int .i64 0, .int .i64 0, .int .i64 0, .slice none 0 0, .slice none 0 0, .slice none 0 0, .int .i64 0]), 7, 104) := by kernel_rfl
theorem infoPointI : (Tryz.prog.info? 57).map (fun i => (i.zero, i.size, i.bytes)) = some (some (.agg #[.int .i64 0, .int .i64 0]), 2, 16) := by kernel_rfl
theorem infoSigI : (Tryz.prog.info? 59).map (fun i => (i.zero, i.size, i.bytes)) = some (some (.agg #[.int .i64 0, .int .i64 0, .int .i64 0]), 3, 24) := by kernel_rfl
theorem sigR_full {W : World} {B : Nat} (c : Nat → Option Value) (x : Sg) (h : SigR W B c x) : ∀ k, k < 3 → ∃ v, c k = some v ∧ v.oneCell' = true := fun k hk => by
 match k, hk with
 | 0, _ => exact ⟨_, h.1, rfl⟩
 | 1, _ => exact ⟨_, h.2.1, rfl⟩
 | 2, _ => exact ⟨_, h.2.2, rfl⟩
theorem SectsOwn.mono' {W : World} {lo lo' : Nat} {v : Value} {l : List Sec} (h : SectsOwn W lo v l) (hl : lo' ≤ lo) : SectsOwn W lo' v l := by
 obtain ⟨yss, ho, h1, hm, hs, ht⟩ := h
 refine ⟨yss, owns_mono ho hl, h1, hm, hs, fun j ys x a b => ?_⟩
 obtain ⟨h0, h1, u, h2, h3, h4⟩ := ht j ys x a b
 exact ⟨h0, h1, u, h2, h3.mono hl, h4⟩
theorem RoutesOwn.mono' {W : World} {lo lo' : Nat} {v : Value} {l : List Rt} (h : RoutesOwn W lo v l) (hl : lo' ≤ lo) : RoutesOwn W lo' v l := by
 obtain ⟨yss, ho, h1, hm, hs, ht⟩ := h
 refine ⟨yss, owns_mono ho hl, h1, hm, hs, fun j ys x a b => ?_⟩
 obtain ⟨h0, h1, h2, h6, u3, u4, u5, h3, h4, h5, h, b3⟩ := ht j ys x a b
 exact ⟨h0, h1, h2, h6, u3, u4, u5, h3, h4, h5, h.mono hl, b3⟩

noncomputable def eqB {α : Type} (a b : α) : Bool := @decide (a = b) (Classical.propDecidable _)
theorem eqB_true {α : Type} {a b : α} (h : a = b) : eqB a b = true := by rw [eqB]; exact @decide_eq_true _ (Classical.propDecidable _) h
theorem eqB_false {α : Type} {a b : α} (h : ¬ a = b) : eqB a b = false := by rw [eqB]; exact @decide_eq_false _ (Classical.propDecidable _) h
theorem eqB_iff {α : Type} {a b : α} : eqB a b = true ↔ a = b := by rw [eqB]; exact @decide_eq_true_iff _ (Classical.propDecidable _)
theorem eqB_dec {α : Type} [DecidableEq α] (a b : α) : decide (a = b) = eqB a b := by
 by_cases h : a = b
 ·rw [eqB_true h]; exact decide_eq_true h
 ·rw [eqB_false h]; exact decide_eq_false h
theorem list_ext {α : Type} {l m : List α} (hn : l.length = m.length) (h : ∀ j (h1 : j < l.length) (h2 : j < m.length), l[j] = m[j]) : l = m := List.ext_getElem hn h
theorem rt_eq {r s : Rt} : r = s ↔ r.id = s.id ∧ r.entry = s.entry ∧ r.exit = s.exit ∧ r.timer = s.timer ∧ r.path = s.path ∧ r.over = s.over ∧ r.flanks = s.flanks := by
 constructor
 ·rintro rfl; exact ⟨rfl, rfl, rfl, rfl, rfl, rfl, rfl⟩
 ·obtain ⟨a1, a2, a3, a4, a5, a6, a7⟩ := r
  obtain ⟨b1, b2, b3, b4, b5, b6, b7⟩ := s
  dsimp only
  rintro ⟨rfl, rfl, rfl, rfl, rfl, rfl, rfl⟩
  rfl
theorem pl_eq {p q : Pl} : p = q ↔ p.ver = q.ver ∧ p.par = q.par ∧ p.secs = q.secs ∧ p.pts = q.pts ∧ p.sigs = q.sigs ∧ p.routes = q.routes := by
 cases p; cases q; simp

theorem eqJoin (a b c d : Int) (w : World) : (Op.equalIn 10000 92 (.agg #[.int .i64 a, .int .i64 b]) (.agg #[.int .i64 c, .int .i64 d])).run Tryz.prog w = .ok ((a == c) && (b == d)) w := by
 have hagg : (isAgg 3).run Tryz.prog w = .ok false w := by
  unfold isAgg
  rw [Sem.run_bind, run_underlying Tryz.underlying3 w]
  simp
 rw [run_equalIn_agg w 9999 92 _ _ (by rw [Program.fieldsOf, Tryz.underlying92]) (by kernel_rfl)]
 simp only [Program.fieldsOf, Tryz.underlying92, Op.eqFields]
 have hi : ∀ x y : Int, (Op.equalIn 9999 3 (.int .i64 x) (.int .i64 y)).run Tryz.prog w = .ok (x == y) w := fun x y => run_equalIn_int w 9998 3 .i64 .i64 x y Tryz.underlying3
 by_cases h1 : a = c <;> by_cases h2 : b = d <;> simp [part, Sem.run_bind, Sem.run_ite, hagg, hi, h1, h2]
theorem eqJoin_ne {x y : Jn} (h : ¬ x = y) (w : World) : (Op.equalIn 10000 92 (.agg #[.int .i64 x.1, .int .i64 x.2]) (.agg #[.int .i64 y.1, .int .i64 y.2])).run Tryz.prog w = .ok false w := by
 rw [eqJoin]
 congr 1
 by_cases h1 : x.1 = y.1
 ·have h2 : ¬ x.2 = y.2 := fun h2 => h (Prod.ext h1 h2)
  simp [h2]
 ·simp [h1]
theorem eqJoin_eq {x y : Jn} (h : x = y) (w : World) : (Op.equalIn 10000 92 (.agg #[.int .i64 x.1, .int .i64 x.2]) (.agg #[.int .i64 y.1, .int .i64 y.2])).run Tryz.prog w = .ok true w := by
 rw [eqJoin, h]; simp

theorem eqFlank (a b c d : Int) (w : World) : (Op.equalIn 10000 98 (.agg #[.int .i64 a, .int .i64 b]) (.agg #[.int .i64 c, .int .i64 d])).run Tryz.prog w = .ok ((a == c) && (b == d)) w := by
 have hagg : (isAgg 3).run Tryz.prog w = .ok false w := by
  unfold isAgg
  rw [Sem.run_bind, run_underlying Tryz.underlying3 w]
  simp
 rw [run_equalIn_agg w 9999 98 _ _ (by rw [Program.fieldsOf, Tryz.underlying98]) (by kernel_rfl)]
 simp only [Program.fieldsOf, Tryz.underlying98, Op.eqFields]
 have hi : ∀ x y : Int, (Op.equalIn 9999 3 (.int .i64 x) (.int .i64 y)).run Tryz.prog w = .ok (x == y) w := fun x y => run_equalIn_int w 9998 3 .i64 .i64 x y Tryz.underlying3
 by_cases h1 : a = c <;> by_cases h2 : b = d <;> simp [part, Sem.run_bind, Sem.run_ite, hagg, hi, h1, h2]
theorem eqFlank_ne {x y : Jn} (h : ¬ x = y) (w : World) : (Op.equalIn 10000 98 (.agg #[.int .i64 x.1, .int .i64 x.2]) (.agg #[.int .i64 y.1, .int .i64 y.2])).run Tryz.prog w = .ok false w := by
 rw [eqFlank]
 congr 1
 by_cases h1 : x.1 = y.1
 ·have h2 : ¬ x.2 = y.2 := fun h2 => h (Prod.ext h1 h2)
  simp [h2]
 ·simp [h1]
theorem eqFlank_eq {x y : Jn} (h : x = y) (w : World) : (Op.equalIn 10000 98 (.agg #[.int .i64 x.1, .int .i64 x.2]) (.agg #[.int .i64 y.1, .int .i64 y.2])).run Tryz.prog w = .ok true w := by
 rw [eqFlank, h]; simp

theorem eqPoint (a b c d : Int) (w : World) : (Op.equalIn 10000 57 (.agg #[.int .i64 a, .int .i64 b]) (.agg #[.int .i64 c, .int .i64 d])).run Tryz.prog w = .ok ((a == c) && (b == d)) w := by
 have hagg : (isAgg 3).run Tryz.prog w = .ok false w := by
  unfold isAgg
  rw [Sem.run_bind, run_underlying Tryz.underlying3 w]
  simp
 rw [run_equalIn_agg w 9999 57 _ _ (by rw [Program.fieldsOf, Tryz.underlying57]) (by kernel_rfl)]
 simp only [Program.fieldsOf, Tryz.underlying57, Op.eqFields]
 have hi : ∀ x y : Int, (Op.equalIn 9999 3 (.int .i64 x) (.int .i64 y)).run Tryz.prog w = .ok (x == y) w := fun x y => run_equalIn_int w 9998 3 .i64 .i64 x y Tryz.underlying3
 by_cases h1 : a = c <;> by_cases h2 : b = d <;> simp [part, Sem.run_bind, Sem.run_ite, hagg, hi, h1, h2]
theorem eqPoint_ne {x y : Jn} (h : ¬ x = y) (w : World) : (Op.equalIn 10000 57 (.agg #[.int .i64 x.1, .int .i64 x.2]) (.agg #[.int .i64 y.1, .int .i64 y.2])).run Tryz.prog w = .ok false w := by
 rw [eqPoint]
 congr 1
 by_cases h1 : x.1 = y.1
 ·have h2 : ¬ x.2 = y.2 := fun h2 => h (Prod.ext h1 h2)
  simp [h2]
 ·simp [h1]
theorem eqPoint_eq {x y : Jn} (h : x = y) (w : World) : (Op.equalIn 10000 57 (.agg #[.int .i64 x.1, .int .i64 x.2]) (.agg #[.int .i64 y.1, .int .i64 y.2])).run Tryz.prog w = .ok true w := by
 rw [eqPoint, h]; simp

theorem eqSig (a b c d e f : Int) (w : World) : (Op.equalIn 10000 59 (.agg #[.int .i64 a, .int .i64 b, .int .i64 c]) (.agg #[.int .i64 d, .int .i64 e, .int .i64 f])).run Tryz.prog w = .ok ((a == d) && ((b == e) && (c == f))) w := by
 have hagg : (isAgg 3).run Tryz.prog w = .ok false w := by
  unfold isAgg
  rw [Sem.run_bind, run_underlying Tryz.underlying3 w]
  simp
 rw [run_equalIn_agg w 9999 59 _ _ (by rw [Program.fieldsOf, Tryz.underlying59]) (by kernel_rfl)]
 simp only [Program.fieldsOf, Tryz.underlying59, Op.eqFields]
 have hi : ∀ x y : Int, (Op.equalIn 9999 3 (.int .i64 x) (.int .i64 y)).run Tryz.prog w = .ok (x == y) w := fun x y => run_equalIn_int w 9998 3 .i64 .i64 x y Tryz.underlying3
 by_cases h1 : a = d <;> by_cases h2 : b = e <;> by_cases h3 : c = f <;> simp [part, Sem.run_bind, Sem.run_ite, hagg, hi, h1, h2, h3]
theorem eqSig_ne {x y : Sg} (h : ¬ x = y) (w : World) : (Op.equalIn 10000 59 (.agg #[.int .i64 x.1, .int .i64 x.2.1, .int .i64 x.2.2]) (.agg #[.int .i64 y.1, .int .i64 y.2.1, .int .i64 y.2.2])).run Tryz.prog w = .ok false w := by
 rw [eqSig]
 congr 1
 by_cases h1 : x.1 = y.1
 ·by_cases h2 : x.2.1 = y.2.1
  ·have h3 : ¬ x.2.2 = y.2.2 := fun h3 => h (Prod.ext h1 (Prod.ext h2 h3))
   simp [h3]
  ·simp [h2]
 ·simp [h1]
theorem eqSig_eq {x y : Sg} (h : x = y) (w : World) : (Op.equalIn 10000 59 (.agg #[.int .i64 x.1, .int .i64 x.2.1, .int .i64 x.2.2]) (.agg #[.int .i64 y.1, .int .i64 y.2.1, .int .i64 y.2.2])).run Tryz.prog w = .ok true w := by
 rw [eqSig, h]; simp

theorem getElem_congr' {α : Type} {l m : List α} {i : Nat} {h1 : i < l.length} {h2 : i < m.length} (h : l = m) : l[i] = m[i] := by subst h; rfl
structure C3 (w : World) (b : Nat) (v0 v1 v2 : Value) : Prop where
 c0 : w.cell? ⟨b, 0, none⟩ = some v0
theorem cell3_ {w : World} {b : Nat} {v1 v2 v3 : Value} {t : TypeId} {fr : Nat × Nat} : (w.heap[b]? = some (.cells #[v1, v2, v3] t fr) → w.cell? ⟨b, 0, none⟩ = some v1 ∧ w.cell? ⟨b, 1, none⟩ = some v2 ∧ w.cell? ⟨b, 2, none⟩ = some v3) ∧ True := ⟨cell3_of, trivial⟩
theorem cell6_ {w : World} {b : Nat} {v0 v1 v2 v3 v4 v5 : Value} {t : TypeId} {fr : Nat × Nat} : (w.heap[b]? = some (.cells #[v0, v1, v2, v3, v4, v5] t fr) → w.cell? ⟨b, 0, none⟩ = some v0 ∧ w.cell? ⟨b, 1, none⟩ = some v1 ∧ w.cell? ⟨b, 2, none⟩ = some v2 ∧ w.cell? ⟨b, 3, none⟩ = some v3 ∧ w.cell? ⟨b, 4, none⟩ = some v4 ∧ w.cell? ⟨b, 5, none⟩ = some v5) ∧ True := ⟨cell6_of, trivial⟩
theorem cell7_ {w : World} {b : Nat} {v0 v1 v2 v3 v4 v5 v6 : Value} {t : TypeId} {fr : Nat × Nat} : (w.heap[b]? = some (.cells #[v0, v1, v2, v3, v4, v5, v6] t fr) → w.cell? ⟨b, 0, none⟩ = some v0 ∧ w.cell? ⟨b, 1, none⟩ = some v1 ∧ w.cell? ⟨b, 2, none⟩ = some v2 ∧ w.cell? ⟨b, 3, none⟩ = some v3 ∧ w.cell? ⟨b, 4, none⟩ = some v4 ∧ w.cell? ⟨b, 5, none⟩ = some v5 ∧ w.cell? ⟨b, 6, none⟩ = some v6) ∧ True := ⟨cell7_of, trivial⟩

set_option maxHeartbeats 4000000 in
theorem rsame7_any (v y : Value) (s t : Sec) (w : World) (h : SecV w w.heap.size v s) (h' : SecV w w.heap.size y t) :
  Calls Tryz.prog 46 #[v, y] w fun e w' => e = .returned (.bool (eqB s t)) ∧ Below w.heap.size w w' := by
 obtain ⟨u, rfl, hu⟩ := h
 obtain ⟨u', rfl, hu'⟩ := h'
 obtain ⟨A, c, rfl, hcl, hcm⟩ := hu.slice
 obtain ⟨A', c', rfl, hcl', hcm'⟩ := hu'.slice
 obtain ⟨id, pt, es⟩ := s
 obtain ⟨id', pt', fs⟩ := t
 dsimp only at hu hu' hcl hcm hcl' hcm' ⊢
 unfold maxLen at hcm hcm'
 obtain ⟨n, hn⟩ : ∃ n, n = es.length := ⟨_, rfl⟩
 obtain ⟨n', hn'⟩ : ∃ n', n' = fs.length := ⟨_, rfl⟩
 have hml : n ≤ 9223372036854775807 := by omega
 have hml' : n' ≤ 9223372036854775807 := by omega
 have HA : Hid (JoinsIn w w.heap.size (.slice A n c) es) := Lib.hid (by rw [hn]; exact hu)
 have HB : Hid (JoinsIn w w.heap.size (.slice A' n' c') fs) := Lib.hid (by rw [hn']; exact hu')
 have HN0 : Hid (n = es.length ∧ n' = fs.length) := Lib.hid ⟨hn, hn'⟩
 rw [← hn, ← hn']
 clear hn hn' hu hu' hcl hcm hcl' hcm'
 have hq := two_boxes w (.cells #[.int .i64 id, .int .i64 pt, .slice A n c] 63) (.cells #[.int .i64 id', .int .i64 pt', .slice A' n' c'] 63)
 go_enter Tryz.func46, Tryz.ntmps46
 go_upto_region 1 with fail
 generalize (w.alloc (.cells #[.int .i64 id, .int .i64 pt, .slice A n c] 63)).alloc (.cells #[.int .i64 id', .int .i64 pt', .slice A' n' c'] 63) = q at hq ⊢
 obtain ⟨q0, q1, qb⟩ := hq
 have XA := Lib.hid q0
 have XB := Lib.hid q1
 have BZ := Lib.hid qb
 obtain ⟨k0, k1, k2⟩ := cell3_of q0
 obtain ⟨r0, r1, r2⟩ := cell3_of q1
 clear q0 q1 qb
 by_cases h1 : id = id'
 ·by_cases h2 : pt = pt'
  ·by_cases h3 : n = n'
   ·subst h1
    subst h2
    subst h3
    have HN : Hid (n = es.length ∧ n = fs.length) := HN0
    have NEQ : Hid (¬ es = fs → eqB (id, pt, es) (id, pt, fs) = false) := Lib.hid (fun h => eqB_false (fun h2 => by injection h2 with _ h2; injection h2 with _ h2; exact h h2))
    go_wp2_with fail
    go_loopw [5] (fun sL wr => ∃ i : Nat, i ≤ n ∧ sL = .int .i64 i ∧ (∀ j (hj : j < i) (h1 : j < es.length) (h2 : j < fs.length), es[j] = fs[j]) ∧ wr.heap[w.heap.size]? = some (.cells #[.int .i64 id, .int .i64 pt, .slice A n c] 63 (0, 0)) ∧ wr.heap[w.heap.size + 1]? = some (.cells #[.int .i64 id, .int .i64 pt, .slice A' n c'] 63 (0, 0)) ∧ Below w.heap.size w wr) (fun sL _ => n - (intOf sL).toNat)
    case atStart => exact ⟨0, by omega, by go_num, fun j hj => absurd hj (by omega), XA.out, XB.out, BZ.out⟩
    case round =>
     obtain ⟨i, hi, rfl, hall, hxa, hxb, hbw⟩ := hrel
     have HALL := Lib.hid hall
     clear XA XB BZ
     have XA := Lib.hid hxa
     have XB := Lib.hid hxb
     have BZ := Lib.hid hbw
     clear hall hxa hxb hbw
     obtain ⟨k0, k1, k2⟩ := cell3_.1 XA.out
     obtain ⟨r0, r1, r2⟩ := cell3_.1 XB.out
     by_cases hlt : i < n
     ·have hlt2 : (i : Int) < n := by omega
      have hir : i < es.length := by have := HN.out; omega
      have him : i < fs.length := by have := HN.out; omega
      obtain ⟨b, off, e1, hb, hc0, hc1⟩ := ((HA.out.below joinR BZ.out).more joinR BZ.out.size).at hir
      obtain ⟨b', off', e2, hb', hd0, hd1⟩ := ((HB.out.below joinR BZ.out).more joinR BZ.out.size).at him
      subst e1
      subst e2
      obtain ⟨x, hx⟩ : ∃ x, x = es[i] := ⟨_, rfl⟩
      obtain ⟨y, hy⟩ : ∃ y, y = fs[i] := ⟨_, rfl⟩
      rw [← hx] at hc0 hc1
      rw [← hy] at hd0 hd1
      have hg0 : wr.cell? ⟨b, off + i * 2, none⟩ = some (.int .i64 x.1) := hc0
      have hh0 : wr.cell? ⟨b', off' + i * 2, none⟩ = some (.int .i64 y.1) := hd0
      have hg1 : wr.cell? ⟨b, off + i * 2 + 1, none⟩ = some (.int .i64 x.2) := hc1
      have hh1 : wr.cell? ⟨b', off' + i * 2 + 1, none⟩ = some (.int .i64 y.2) := hd1
      have HX := Lib.hid hx
      have HY := Lib.hid hy
      have BD : Hid (∀ nq, Below w.heap.size w (wr.drewN nq)) := Lib.hid (fun nq => ⟨BZ.out.os, BZ.out.tape, BZ.out.output, BZ.out.size, BZ.out.block⟩)
      have XD : Hid (∀ nq, (wr.drewN nq).heap[w.heap.size]? = wr.heap[w.heap.size]? ∧ (wr.drewN nq).heap[w.heap.size + 1]? = wr.heap[w.heap.size + 1]?) := Lib.hid (fun nq => ⟨rfl, rfl⟩)
      clear hc0 hc1 hd0 hd1 hx hy hb hb'
      go_upto_region 6 with fail
      by_cases he : x = y
      ·have hcmp : ∀ w' : World, (Op.equalIn 10000 92 (.agg #[.int .i64 x.1, .int .i64 x.2]) (.agg #[.int .i64 y.1, .int .i64 y.2])).run Tryz.prog w' = .ok true w' := eqJoin_eq he
       have NX : Hid (∀ j (hj : j < i + 1) (h1 : j < es.length) (h2 : j < fs.length), es[j] = fs[j]) := Lib.hid (fun j hj h1 h2 => by
        rcases Nat.lt_or_ge j i with h | h
        ·exact HALL.out j h h1 h2
        ·obtain rfl : j = i := by omega
         rw [← HX.out, ← HY.out]; exact he)
       clear he
       go_quiet (fail)
       have hdb := BD.out nq
       have hdx := XD.out nq
       rw [XA.out, XB.out] at hdx
       generalize wr.drewN nq = q7 at hdb hdx ⊢
       have B7 := Lib.hid hdb
       have X7 := Lib.hid hdx
       clear hdb hdx BD XD hcmp
       go_wp2_with fail
       go_roundw
       case measure => simp [intOf]; omega
       case rel => exact ⟨i + 1, by omega, by go_num, NX.out, X7.out.1, X7.out.2, B7.out⟩
      ·have hcmp : ∀ w' : World, (Op.equalIn 10000 92 (.agg #[.int .i64 x.1, .int .i64 x.2]) (.agg #[.int .i64 y.1, .int .i64 y.2])).run Tryz.prog w' = .ok false w' := eqJoin_ne he
       have HF : Hid (eqB (id, pt, es) (id, pt, fs) = false) := Lib.hid (NEQ.out (fun h => he (by rw [HX.out, HY.out]; exact getElem_congr' h)))
       clear he
       go_quiet (fail)
       have hdb := BD.out nq
       generalize wr.drewN nq = q7 at hdb ⊢
       have B7 := Lib.hid hdb
       clear hdb BD XD hcmp
       go_wp2_with fail
       go_ret
       exact ⟨by rw [HF.out]; rfl, B7.out⟩
     ·obtain rfl : i = n := by omega
      have hlt2 : ¬ (i : Int) < i := by omega
      have ALLQ : Hid (es = fs) := Lib.hid (list_ext (by have := HN.out; omega) fun j h1 h2 => HALL.out j (by have := HN.out; omega) h1 h2)
      clear HALL NEQ
      have HF : Hid (eqB (id, pt, es) (id, pt, fs) = true) := Lib.hid (eqB_true (by rw [ALLQ.out]))
      go_wp2_with fail
      go_ret
      exact ⟨by rw [HF.out]; rfl, BZ.out⟩
   ·have d1 : (id != id') = false := by simpa using h1
    have d2 : (pt != pt') = false := by simpa using h2
    have d3 : ((n : Int) != n') = true := by rw [bne_iff_ne]; omega
    have HF : Hid (eqB (id, pt, es) (id', pt', fs) = false) := Lib.hid (eqB_false (fun h => by injection h with _ h; injection h with _ h; have := HN0.out; subst h; omega))
    clear h1 h2 h3
    go_wp2_with fail
    go_ret
    exact ⟨by rw [HF.out]; rfl, BZ.out⟩
  ·have d1 : (id != id') = false := by simpa using h1
   have d2 : (pt != pt') = true := by simpa using h2
   have HF : Hid (eqB (id, pt, es) (id', pt', fs) = false) := Lib.hid (eqB_false (fun h => by injection h with _ h; injection h with h _; exact h2 h))
   clear h1 h2
   go_wp2_with fail
   go_ret
   exact ⟨by rw [HF.out]; rfl, BZ.out⟩
 ·have d1 : (id != id') = true := by simpa using h1
  have HF : Hid (eqB (id, pt, es) (id', pt', fs) = false) := Lib.hid (eqB_false (fun h => by injection h with h _; exact h1 h))
  clear h1
  go_wp2_with fail
  go_ret
  exact ⟨by rw [HF.out]; rfl, BZ.out⟩

set_option maxHeartbeats 4000000 in
theorem rsameall7_any (v y : Value) (l m : List Sec) (w : World) (h : SectsIn w w.heap.size v l) (h' : SectsIn w w.heap.size y m) :
  Calls Tryz.prog 19 #[v, y] w fun e w' => e = .returned (.bool (eqB l m)) ∧ Below w.heap.size w w' := by
 have H := Lib.hid h
 have H' := Lib.hid h'
 obtain ⟨A, c, rfl, hcl, hcm⟩ := h.slice
 obtain ⟨A', c', rfl, hcl', hcm'⟩ := h'.slice
 unfold maxLen at hcm
 have hml : l.length ≤ 9223372036854775807 := by omega
 obtain ⟨n, hn⟩ : ∃ n, n = l.length := ⟨_, rfl⟩
 obtain ⟨n', hn'⟩ : ∃ n', n' = m.length := ⟨_, rfl⟩
 have HN0 : Hid (n = l.length ∧ n' = m.length) := Lib.hid ⟨hn, hn'⟩
 have HA := Lib.hid (show SectsIn w w.heap.size (.slice A n c) l by rw [hn]; exact H.out)
 have HB := Lib.hid (show SectsIn w w.heap.size (.slice A' n' c') m by rw [hn']; exact H'.out)
 rw [← hn] at hml ⊢
 rw [← hn']
 clear hn hn' H H' hcl hcm hcl' hcm' h h'
 go_enter Tryz.func19, Tryz.ntmps19
 by_cases hnn : n = n'
 ·subst hnn
  have HN : Hid (n = l.length ∧ n = m.length) := HN0
  have NEQ : Hid (¬ l = m → eqB l m = false) := Lib.hid (fun h => eqB_false h)
  go_wp2_with fail
  go_loopw [5] (fun s5 wr => ∃ i : Nat, i ≤ n ∧ s5 = .int .i64 i ∧ (∀ j (hj : j < i) (h1 : j < l.length) (h2 : j < m.length), l[j] = m[j]) ∧ Below w.heap.size w wr) (fun s5 _ => n - (intOf s5).toNat)
  case atStart => exact ⟨0, by omega, by go_num, fun j hj => absurd hj (by omega), Below.refl _ _⟩
  case round =>
   obtain ⟨i, hi, rfl, hall, hbw⟩ := hrel
   have HALL := Lib.hid hall
   have BW := Lib.hid hbw
   clear hall hbw
   by_cases hlt : i < n
   ·have hlt2 : (i : Int) < n := by omega
    have hir : i < l.length := by have := HN.out; omega
    have him : i < m.length := by have := HN.out; omega
    obtain ⟨b, off, e1, hb, hc0, hc1, u, hc2, hu⟩ := ((HA.out.below secR_ BW.out).more secR_ BW.out.size).at hir
    obtain ⟨b', off', e2, hb', hd0, hd1, u', hd2, hu'⟩ := ((HB.out.below secR_ BW.out).more secR_ BW.out.size).at him
    subst e1
    subst e2
    obtain ⟨x, hx⟩ : ∃ x, x = l[i] := ⟨_, rfl⟩
    obtain ⟨y, hy⟩ : ∃ y, y = m[i] := ⟨_, rfl⟩
    rw [← hx] at hc0 hc1 hu
    rw [← hy] at hd0 hd1 hu'
    obtain ⟨id, pt, es⟩ := x
    obtain ⟨id', pt', fs⟩ := y
    obtain ⟨Au, cu, rfl, -, -⟩ := hu.slice
    obtain ⟨Av, cv, rfl, -, -⟩ := hu'.slice
    dsimp only at hc0 hc1 hc2 hd0 hd1 hd2 hu hu'
    have LG0 : Hid (wr.cell? ⟨b, off + i * 3, none⟩ = some (.int .i64 id)) := Lib.hid hc0
    have LG1 : Hid (wr.cell? ⟨b, off + i * 3 + 1, none⟩ = some (.int .i64 pt)) := Lib.hid hc1
    have LG2 : Hid (wr.cell? ⟨b, off + i * 3 + 2, none⟩ = some (.slice Au es.length cu)) := Lib.hid hc2
    have LH0 : Hid (wr.cell? ⟨b', off' + i * 3, none⟩ = some (.int .i64 id')) := Lib.hid hd0
    have LH1 : Hid (wr.cell? ⟨b', off' + i * 3 + 1, none⟩ = some (.int .i64 pt')) := Lib.hid hd1
    have LH2 : Hid (wr.cell? ⟨b', off' + i * 3 + 2, none⟩ = some (.slice Av fs.length cv)) := Lib.hid hd2
    have SV1 : Hid (SecV wr wr.heap.size (.agg #[.int .i64 id, .int .i64 pt, .slice Au es.length cu]) (id, pt, es)) := Lib.hid ⟨_, rfl, hu⟩
    have SV2 : Hid (SecV wr wr.heap.size (.agg #[.int .i64 id', .int .i64 pt', .slice Av fs.length cv]) (id', pt', fs)) := Lib.hid ⟨_, rfl, hu'⟩
    have LB := Lib.hid hb
    have LB' := Lib.hid hb'
    have HX := Lib.hid hx
    have HY := Lib.hid hy
    clear hc0 hc1 hc2 hd0 hd1 hd2 hu hu' hx hy hb hb'
    go_upto_region 6 with fail
    cases hq5 : eqB (id, pt, es) (id', pt', fs) with
    | true =>
     have NX : Hid (∀ j (hj : j < i + 1) (h1 : j < l.length) (h2 : j < m.length), l[j] = m[j]) := Lib.hid (fun j hj h1 h2 => by
      rcases Nat.lt_or_ge j i with h | h
      ·exact HALL.out j h h1 h2
      ·obtain rfl : j = i := by omega
       rw [← HX.out, ← HY.out]; exact eqB_iff.1 hq5)
     refine wp_region_held_drew (S := fun v => Below wr.heap.size wr v) (by kernel_rfl) (Below.refl wr.heap.size wr).drew (fun hHeld => ?_)
     refine tk 0 hHeld ?_;refine tk 1 hHeld ?_;refine tk 2 hHeld ?_
     refine wpAnyH_take (i := 3) (v := ?_) rfl (by kernel_rfl) (by kernel_rfl) (by kernel_rfl) (fun _ _ _ h => h) (Or.inl ⟨by rfl, ?_⟩) hHeld ?_
     rotate_left
     ·intro w' hSw; have cs0 := (hSw.cell (p := ⟨b, off + i * 3, none⟩) LB.out).trans LG0.out; have cs1 := (hSw.cell (p := ⟨b, off + i * 3 + 1, none⟩) LB.out).trans LG1.out; have cs2 := (hSw.cell (p := ⟨b, off + i * 3 + 2, none⟩) LB.out).trans LG2.out; go_simp; try with_reducible rfl
     simp only [zn, Act.put]
     refine tk 4 hHeld ?_;refine tk 5 hHeld ?_;refine tk 6 hHeld ?_
     refine wpAnyH_take (i := 7) (v := ?_) rfl (by kernel_rfl) (by kernel_rfl) (by kernel_rfl) (fun _ _ _ h => h) (Or.inl ⟨by rfl, ?_⟩) hHeld ?_
     rotate_left
     ·intro w' hSw; have ct0 := (hSw.cell (p := ⟨b', off' + i * 3, none⟩) LB'.out).trans LH0.out; have ct1 := (hSw.cell (p := ⟨b', off' + i * 3 + 1, none⟩) LB'.out).trans LH1.out; have ct2 := (hSw.cell (p := ⟨b', off' + i * 3 + 2, none⟩) LB'.out).trans LH2.out; go_simp; try with_reducible rfl
     simp only [zn, Act.put]
     refine tkr 8 (fun K hK => ?_)
     go_simp
     refine (rsame7_any _ _ (id, pt, es) (id', pt', fs) wr.drew (SV1.out.below (Below.refl wr.heap.size wr).drew) (SV2.out.below (Below.refl wr.heap.size wr).drew)).mono ?_
     rintro e w5 ⟨rfl, b5⟩
     rw [hq5]
     have B5 : Hid (Below wr.heap.size wr w5) := Lib.hid ((Below.refl wr.heap.size wr).drew.trans b5)
     clear b5
     try go_wp2_with fail
     refine hK.out _ _ ?_ fun hHeld => ?_;exact B5.out;clear hK K;try simp only [zn, Act.put]
     refine tk 9 hHeld ?_
     refine wpAnyH_done (by kernel_rfl) ?_ _
     have BY : Hid (Below w.heap.size w w5) := Lib.hid (BW.out.trans (B5.out.mono BW.out.size))
     go_wp2_with fail
     go_roundw
     case measure => simp [intOf]; omega
     case rel => exact ⟨i + 1, by omega, by go_num, NX.out, BY.out⟩
    | false =>
     have HF : Hid (eqB l m = false) := Lib.hid (NEQ.out (fun h => by
      have h2 := getElem_congr' (h1 := hir) (h2 := him) h
      rw [← HX.out, ← HY.out] at h2
      rw [eqB_true h2] at hq5
      cases hq5))
     refine wp_region_held_drew (S := fun v => Below wr.heap.size wr v) (by kernel_rfl) (Below.refl wr.heap.size wr).drew (fun hHeld => ?_)
     refine tk 0 hHeld ?_;refine tk 1 hHeld ?_;refine tk 2 hHeld ?_
     refine wpAnyH_take (i := 3) (v := ?_) rfl (by kernel_rfl) (by kernel_rfl) (by kernel_rfl) (fun _ _ _ h => h) (Or.inl ⟨by rfl, ?_⟩) hHeld ?_
     rotate_left
     ·intro w' hSw; have cs0 := (hSw.cell (p := ⟨b, off + i * 3, none⟩) LB.out).trans LG0.out; have cs1 := (hSw.cell (p := ⟨b, off + i * 3 + 1, none⟩) LB.out).trans LG1.out; have cs2 := (hSw.cell (p := ⟨b, off + i * 3 + 2, none⟩) LB.out).trans LG2.out; go_simp; try with_reducible rfl
     simp only [zn, Act.put]
     refine tk 4 hHeld ?_;refine tk 5 hHeld ?_;refine tk 6 hHeld ?_
     refine wpAnyH_take (i := 7) (v := ?_) rfl (by kernel_rfl) (by kernel_rfl) (by kernel_rfl) (fun _ _ _ h => h) (Or.inl ⟨by rfl, ?_⟩) hHeld ?_
     rotate_left
     ·intro w' hSw; have ct0 := (hSw.cell (p := ⟨b', off' + i * 3, none⟩) LB'.out).trans LH0.out; have ct1 := (hSw.cell (p := ⟨b', off' + i * 3 + 1, none⟩) LB'.out).trans LH1.out; have ct2 := (hSw.cell (p := ⟨b', off' + i * 3 + 2, none⟩) LB'.out).trans LH2.out; go_simp; try with_reducible rfl
     simp only [zn, Act.put]
     refine tkr 8 (fun K hK => ?_)
     go_simp
     refine (rsame7_any _ _ (id, pt, es) (id', pt', fs) wr.drew (SV1.out.below (Below.refl wr.heap.size wr).drew) (SV2.out.below (Below.refl wr.heap.size wr).drew)).mono ?_
     rintro e w5 ⟨rfl, b5⟩
     rw [hq5]
     have B5 : Hid (Below wr.heap.size wr w5) := Lib.hid ((Below.refl wr.heap.size wr).drew.trans b5)
     clear b5
     try go_wp2_with fail
     refine hK.out _ _ ?_ fun hHeld => ?_;exact B5.out;clear hK K;try simp only [zn, Act.put]
     refine tk 9 hHeld ?_
     refine wpAnyH_done (by kernel_rfl) ?_ _
     have BY : Hid (Below w.heap.size w w5) := Lib.hid (BW.out.trans (B5.out.mono BW.out.size))
     go_wp2_with fail
     go_ret
     exact ⟨by rw [HF.out]; rfl, BY.out⟩
   ·obtain rfl : i = n := by omega
    have hlt2 : ¬ (i : Int) < i := by omega
    have HF : Hid (eqB l m = true) := Lib.hid (eqB_true (list_ext (by have := HN.out; omega) fun j h1 h2 => HALL.out j (by have := HN.out; omega) h1 h2))
    go_wp2_with fail
    go_ret
    exact ⟨by rw [HF.out]; rfl, BW.out⟩
 ·have hnn' : ((n : Int) != n') = true := by rw [bne_iff_ne]; omega
  have HF : Hid (eqB l m = false) := Lib.hid (eqB_false (fun h => by subst h; have := HN0.out; omega))
  have BZ : Hid (Below w.heap.size w w) := Lib.hid (Below.refl _ _)
  clear hnn
  go_wp2_with fail
  go_ret
  exact ⟨by rw [HF.out]; rfl, BZ.out⟩

set_option maxHeartbeats 8000000 in
theorem rsameroute_any (v y : Value) (r s : Rt) (w : World) (h : RouteV w w.heap.size v r) (h' : RouteV w w.heap.size y s) :
  Calls Tryz.prog 20 #[v, y] w fun e w' => e = .returned (.bool (eqB r s)) ∧ Below w.heap.size w w' := by
 obtain ⟨y3, y4, y5, rfl, h1⟩ := h
 obtain ⟨z3, z4, z5, rfl, h2⟩ := h'
 obtain ⟨A3, ac3, rfl, hcl3, hcm3⟩ := h1.path.slice
 obtain ⟨B3, bc3, rfl, hdl3, hdm3⟩ := h2.path.slice
 obtain ⟨A4, ac4, rfl, hcl4, hcm4⟩ := h1.over.slice
 obtain ⟨B4, bc4, rfl, hdl4, hdm4⟩ := h2.over.slice
 obtain ⟨A5, ac5, rfl, hcl5, hcm5⟩ := h1.flanks.slice
 obtain ⟨B5, bc5, rfl, hdl5, hdm5⟩ := h2.flanks.slice
 obtain ⟨an3, ha3⟩ : ∃ n, n = r.path.length := ⟨_, rfl⟩
 obtain ⟨bn3, hb3⟩ : ∃ n, n = s.path.length := ⟨_, rfl⟩
 obtain ⟨an4, ha4⟩ : ∃ n, n = r.over.length := ⟨_, rfl⟩
 obtain ⟨bn4, hb4⟩ : ∃ n, n = s.over.length := ⟨_, rfl⟩
 obtain ⟨an5, ha5⟩ : ∃ n, n = r.flanks.length := ⟨_, rfl⟩
 obtain ⟨bn5, hb5⟩ : ∃ n, n = s.flanks.length := ⟨_, rfl⟩
 have HA3 : Hid (IntsIn w w.heap.size (.slice A3 an3 ac3) r.path) := Lib.hid (by rw [ha3]; exact h1.path)
 have HB3 : Hid (IntsIn w w.heap.size (.slice B3 bn3 bc3) s.path) := Lib.hid (by rw [hb3]; exact h2.path)
 have HA4 : Hid (IntsIn w w.heap.size (.slice A4 an4 ac4) r.over) := Lib.hid (by rw [ha4]; exact h1.over)
 have HB4 : Hid (IntsIn w w.heap.size (.slice B4 bn4 bc4) s.over) := Lib.hid (by rw [hb4]; exact h2.over)
 have HA5 : Hid (JoinsIn w w.heap.size (.slice A5 an5 ac5) r.flanks) := Lib.hid (by rw [ha5]; exact h1.flanks)
 have HB5 : Hid (JoinsIn w w.heap.size (.slice B5 bn5 bc5) s.flanks) := Lib.hid (by rw [hb5]; exact h2.flanks)
 unfold maxLen at hcm5 hdm5
 have hm5 : an5 ≤ 9223372036854775807 := by omega
 have hm5' : bn5 ≤ 9223372036854775807 := by omega
 have HN0 : Hid (an5 = r.flanks.length ∧ bn5 = s.flanks.length) := Lib.hid ⟨ha5, hb5⟩
 rw [← ha3, ← ha4, ← ha5, ← hb3, ← hb4, ← hb5]
 clear ha3 ha4 ha5 hb3 hb4 hb5 h1 h2 hcl3 hcm3 hcl4 hcm4 hcl5 hcm5 hdl3 hdm3 hdl4 hdm4 hdl5 hdm5
 have hq := two_boxes w (.cells #[.int .i64 r.id, .int .i64 r.entry, .int .i64 r.exit, .slice A3 an3 ac3, .slice A4 an4 ac4, .slice A5 an5 ac5, .int .i64 r.timer] 44) (.cells #[.int .i64 s.id, .int .i64 s.entry, .int .i64 s.exit, .slice B3 bn3 bc3, .slice B4 bn4 bc4, .slice B5 bn5 bc5, .int .i64 s.timer] 44)
 go_enter Tryz.func20, Tryz.ntmps20
 go_upto_region 1 with fail
 generalize (w.alloc (.cells #[.int .i64 r.id, .int .i64 r.entry, .int .i64 r.exit, .slice A3 an3 ac3, .slice A4 an4 ac4, .slice A5 an5 ac5, .int .i64 r.timer] 44)).alloc (.cells #[.int .i64 s.id, .int .i64 s.entry, .int .i64 s.exit, .slice B3 bn3 bc3, .slice B4 bn4 bc4, .slice B5 bn5 bc5, .int .i64 s.timer] 44) = q at hq ⊢
 obtain ⟨q0, q1, qb⟩ := hq
 have XA := Lib.hid q0
 have XB := Lib.hid q1
 have BZ := Lib.hid qb
 obtain ⟨k0, k1, k2, k3, k4, k5, k6⟩ := cell7_of q0
 obtain ⟨r0, r1, r2, r3, r4, r5, r6⟩ := cell7_of q1
 clear q0 q1 qb
 by_cases h_id : r.id = s.id
 case neg =>
  have d_id : (r.id != s.id) = true := by simpa using h_id
  have HF : Hid (eqB r s = false) := Lib.hid (eqB_false (fun h => h_id (by rw [h])))
  clear h_id
  go_wp2_with fail
  go_ret
  exact ⟨by rw [HF.out]; rfl, BZ.out⟩
 have d_id : (r.id != s.id) = false := by simpa using h_id
 by_cases h_entry : r.entry = s.entry
 case neg =>
  have d_entry : (r.entry != s.entry) = true := by simpa using h_entry
  have HF : Hid (eqB r s = false) := Lib.hid (eqB_false (fun h => h_entry (by rw [h])))
  clear h_id h_entry
  go_wp2_with fail
  go_ret
  exact ⟨by rw [HF.out]; rfl, BZ.out⟩
 have d_entry : (r.entry != s.entry) = false := by simpa using h_entry
 by_cases h_exit : r.exit = s.exit
 case neg =>
  have d_exit : (r.exit != s.exit) = true := by simpa using h_exit
  have HF : Hid (eqB r s = false) := Lib.hid (eqB_false (fun h => h_exit (by rw [h])))
  clear h_id h_entry h_exit
  go_wp2_with fail
  go_ret
  exact ⟨by rw [HF.out]; rfl, BZ.out⟩
 have d_exit : (r.exit != s.exit) = false := by simpa using h_exit
 by_cases h_timer : r.timer = s.timer
 case neg =>
  have d_timer : (r.timer != s.timer) = true := by simpa using h_timer
  have HF : Hid (eqB r s = false) := Lib.hid (eqB_false (fun h => h_timer (by rw [h])))
  clear h_id h_entry h_exit h_timer
  go_wp2_with fail
  go_ret
  exact ⟨by rw [HF.out]; rfl, BZ.out⟩
 have d_timer : (r.timer != s.timer) = false := by simpa using h_timer
 have FOUR : Hid (r.id = s.id ∧ r.entry = s.entry ∧ r.exit = s.exit ∧ r.timer = s.timer) := Lib.hid ⟨h_id, h_entry, h_exit, h_timer⟩
 clear h_id h_entry h_exit h_timer
 go_wp2_with fail
 refine (rints_any _ _ r.path s.path q ((HA3.out.below intR BZ.out).more intR BZ.out.size) ((HB3.out.below intR BZ.out).more intR BZ.out.size)).mono ?_
 rintro e w1 ⟨rfl, b1⟩
 rw [eqB_dec]
 replace XA := Lib.hid ((b1.block _ (heap_lt XA.out)).trans XA.out)
 replace XB := Lib.hid ((b1.block _ (heap_lt XB.out)).trans XB.out)
 replace BZ := Lib.hid (BZ.out.trans (b1.mono BZ.out.size))
 clear b1 k0 k1 k2 k3 k4 k5 k6 r0 r1 r2 r3 r4 r5 r6
 obtain ⟨k0, k1, k2, k3, k4, k5, k6⟩ := cell7_of XA.out
 obtain ⟨r0, r1, r2, r3, r4, r5, r6⟩ := cell7_of XB.out
 cases hp : eqB r.path s.path with
 | false =>
  have HF : Hid (eqB r s = false) := Lib.hid (eqB_false (fun h => by rw [eqB_true (by rw [h])] at hp; cases hp))
  clear hp
  go_wp2_with fail
  go_ret
  exact ⟨by rw [HF.out]; rfl, BZ.out⟩
 | true =>
 have HP := Lib.hid (eqB_iff.1 hp)
 clear hp
 go_wp2_with fail
 refine (rints_any _ _ r.over s.over w1 ((HA4.out.below intR BZ.out).more intR BZ.out.size) ((HB4.out.below intR BZ.out).more intR BZ.out.size)).mono ?_
 rintro e w2 ⟨rfl, b2⟩
 rw [eqB_dec]
 replace XA := Lib.hid ((b2.block _ (heap_lt XA.out)).trans XA.out)
 replace XB := Lib.hid ((b2.block _ (heap_lt XB.out)).trans XB.out)
 replace BZ := Lib.hid (BZ.out.trans (b2.mono BZ.out.size))
 clear b2 k0 k1 k2 k3 k4 k5 k6 r0 r1 r2 r3 r4 r5 r6
 obtain ⟨k0, k1, k2, k3, k4, k5, k6⟩ := cell7_of XA.out
 obtain ⟨r0, r1, r2, r3, r4, r5, r6⟩ := cell7_of XB.out
 cases hp : eqB r.over s.over with
 | false =>
  have HF : Hid (eqB r s = false) := Lib.hid (eqB_false (fun h => by rw [eqB_true (by rw [h])] at hp; cases hp))
  clear hp
  go_wp2_with fail
  go_ret
  exact ⟨by rw [HF.out]; rfl, BZ.out⟩
 | true =>
 have HO := Lib.hid (eqB_iff.1 hp)
 clear hp
 by_cases hn5 : an5 = bn5
 case neg =>
  have d5 : ((an5 : Int) != bn5) = true := by rw [bne_iff_ne]; omega
  have HF : Hid (eqB r s = false) := Lib.hid (eqB_false (fun h => hn5 (by have := HN0.out; rw [h] at this; omega)))
  clear hn5
  go_wp2_with fail
  go_ret
  exact ⟨by rw [HF.out]; rfl, BZ.out⟩
 subst hn5
 have HN : Hid (an5 = r.flanks.length ∧ an5 = s.flanks.length) := HN0
 have NEQ : Hid (¬ r.flanks = s.flanks → eqB r s = false) := Lib.hid (fun h => eqB_false (fun h2 => h (by rw [h2])))
 go_wp2_with fail
 go_loopw [5] (fun sL wr => ∃ i : Nat, i ≤ an5 ∧ sL = .int .i64 i ∧ (∀ j (hj : j < i) (h1 : j < r.flanks.length) (h2 : j < s.flanks.length), r.flanks[j] = s.flanks[j]) ∧ wr.heap[w.heap.size]? = some (.cells #[.int .i64 r.id, .int .i64 r.entry, .int .i64 r.exit, .slice A3 an3 ac3, .slice A4 an4 ac4, .slice A5 an5 ac5, .int .i64 r.timer] 44 (0, 0)) ∧ wr.heap[w.heap.size + 1]? = some (.cells #[.int .i64 s.id, .int .i64 s.entry, .int .i64 s.exit, .slice B3 bn3 bc3, .slice B4 bn4 bc4, .slice B5 an5 bc5, .int .i64 s.timer] 44 (0, 0)) ∧ Below w.heap.size w wr) (fun sL _ => an5 - (intOf sL).toNat)
 case atStart => exact ⟨0, by omega, by go_num, fun j hj => absurd hj (by omega), XA.out, XB.out, BZ.out⟩
 case round =>
  obtain ⟨i, hi, rfl, hall, hxa, hxb, hbw⟩ := hrel
  have HALL := Lib.hid hall
  clear XA XB BZ
  have XA := Lib.hid hxa
  have XB := Lib.hid hxb
  have BZ := Lib.hid hbw
  clear hall hxa hxb hbw
  obtain ⟨k0, k1, k2, k3, k4, k5, k6⟩ := cell7_.1 XA.out
  obtain ⟨r0, r1, r2, r3, r4, r5, r6⟩ := cell7_.1 XB.out
  by_cases hlt : i < an5
  ·have hlt2 : (i : Int) < an5 := by omega
   have hir : i < r.flanks.length := by have := HN.out; omega
   have him : i < s.flanks.length := by have := HN.out; omega
   obtain ⟨b, off, e1, hb, hc0, hc1⟩ := ((HA5.out.below joinR BZ.out).more joinR BZ.out.size).at hir
   obtain ⟨b', off', e2, hb', hd0, hd1⟩ := ((HB5.out.below joinR BZ.out).more joinR BZ.out.size).at him
   subst e1
   subst e2
   obtain ⟨x, hx⟩ : ∃ x, x = r.flanks[i] := ⟨_, rfl⟩
   obtain ⟨y, hy⟩ : ∃ y, y = s.flanks[i] := ⟨_, rfl⟩
   rw [← hx] at hc0 hc1
   rw [← hy] at hd0 hd1
   have hg0 : wr.cell? ⟨b, off + i * 2, none⟩ = some (.int .i64 x.1) := hc0
   have hh0 : wr.cell? ⟨b', off' + i * 2, none⟩ = some (.int .i64 y.1) := hd0
   have hg1 : wr.cell? ⟨b, off + i * 2 + 1, none⟩ = some (.int .i64 x.2) := hc1
   have hh1 : wr.cell? ⟨b', off' + i * 2 + 1, none⟩ = some (.int .i64 y.2) := hd1
   have HX := Lib.hid hx
   have HY := Lib.hid hy
   have BD : Hid (∀ nq, Below w.heap.size w (wr.drewN nq)) := Lib.hid (fun nq => ⟨BZ.out.os, BZ.out.tape, BZ.out.output, BZ.out.size, BZ.out.block⟩)
   have XD : Hid (∀ nq, (wr.drewN nq).heap[w.heap.size]? = wr.heap[w.heap.size]? ∧ (wr.drewN nq).heap[w.heap.size + 1]? = wr.heap[w.heap.size + 1]?) := Lib.hid (fun nq => ⟨rfl, rfl⟩)
   clear hc0 hc1 hd0 hd1 hx hy hb hb'
   go_upto_region 6 with fail
   by_cases he : x = y
   ·have hcmp : ∀ w' : World, (Op.equalIn 10000 98 (.agg #[.int .i64 x.1, .int .i64 x.2]) (.agg #[.int .i64 y.1, .int .i64 y.2])).run Tryz.prog w' = .ok true w' := eqFlank_eq he
    have NX : Hid (∀ j (hj : j < i + 1) (h1 : j < r.flanks.length) (h2 : j < s.flanks.length), r.flanks[j] = s.flanks[j]) := Lib.hid (fun j hj h1 h2 => by
     rcases Nat.lt_or_ge j i with h | h
     ·exact HALL.out j h h1 h2
     ·obtain rfl : j = i := by omega
      rw [← HX.out, ← HY.out]; exact he)
    clear he
    go_quiet (fail)
    have hdb := BD.out nq
    have hdx := XD.out nq
    rw [XA.out, XB.out] at hdx
    generalize wr.drewN nq = q7 at hdb hdx ⊢
    have B7 := Lib.hid hdb
    have X7 := Lib.hid hdx
    clear hdb hdx BD XD hcmp
    go_wp2_with fail
    go_roundw
    case measure => simp [intOf]; omega
    case rel => exact ⟨i + 1, by omega, by go_num, NX.out, X7.out.1, X7.out.2, B7.out⟩
   ·have hcmp : ∀ w' : World, (Op.equalIn 10000 98 (.agg #[.int .i64 x.1, .int .i64 x.2]) (.agg #[.int .i64 y.1, .int .i64 y.2])).run Tryz.prog w' = .ok false w' := eqFlank_ne he
    have HF : Hid (eqB r s = false) := Lib.hid (NEQ.out (fun h => he (by rw [HX.out, HY.out]; exact getElem_congr' h)))
    clear he
    go_quiet (fail)
    have hdb := BD.out nq
    generalize wr.drewN nq = q7 at hdb ⊢
    have B7 := Lib.hid hdb
    clear hdb BD XD hcmp
    go_wp2_with fail
    go_ret
    exact ⟨by rw [HF.out]; rfl, B7.out⟩
  ·obtain rfl : i = an5 := by omega
   have hlt2 : ¬ (i : Int) < i := by omega
   have ALLQ : Hid (r.flanks = s.flanks) := Lib.hid (list_ext (by have := HN.out; omega) fun j h1 h2 => HALL.out j (by have := HN.out; omega) h1 h2)
   clear HALL NEQ
   have HF : Hid (eqB r s = true) := Lib.hid (eqB_true (rt_eq.2 ⟨FOUR.out.1, FOUR.out.2.1, FOUR.out.2.2.1, FOUR.out.2.2.2, HP.out, HO.out, ALLQ.out⟩))
   go_wp2_with fail
   go_ret
   exact ⟨by rw [HF.out]; rfl, BZ.out⟩


set_option maxHeartbeats 16000000 in
theorem rsame8_any (v y : Value) (p q : Pl) (w : World) (h : PlanV w w.heap.size v p) (h' : PlanV w w.heap.size y q) :
  Calls Tryz.prog 9 #[v, y] w fun e w' => e = .returned (.bool (eqB p q)) ∧ Below w.heap.size w w' := by
 obtain ⟨y2, y3, y4, y5, rfl, h1⟩ := h
 obtain ⟨z2, z3, z4, z5, rfl, h2⟩ := h'
 obtain ⟨A2, ac2, rfl, hcl2, hcm2⟩ := h1.secs.slice
 obtain ⟨B2, bc2, rfl, hdl2, hdm2⟩ := h2.secs.slice
 obtain ⟨A3, ac3, rfl, hcl3, hcm3⟩ := h1.pts.slice
 obtain ⟨B3, bc3, rfl, hdl3, hdm3⟩ := h2.pts.slice
 obtain ⟨A4, ac4, rfl, hcl4, hcm4⟩ := h1.sigs.slice
 obtain ⟨B4, bc4, rfl, hdl4, hdm4⟩ := h2.sigs.slice
 obtain ⟨A5, ac5, rfl, hcl5, hcm5⟩ := h1.routes.slice
 obtain ⟨B5, bc5, rfl, hdl5, hdm5⟩ := h2.routes.slice
 obtain ⟨an2, ha2⟩ : ∃ n, n = p.secs.length := ⟨_, rfl⟩
 obtain ⟨bn2, hb2⟩ : ∃ n, n = q.secs.length := ⟨_, rfl⟩
 obtain ⟨an3, ha3⟩ : ∃ n, n = p.pts.length := ⟨_, rfl⟩
 obtain ⟨bn3, hb3⟩ : ∃ n, n = q.pts.length := ⟨_, rfl⟩
 obtain ⟨an4, ha4⟩ : ∃ n, n = p.sigs.length := ⟨_, rfl⟩
 obtain ⟨bn4, hb4⟩ : ∃ n, n = q.sigs.length := ⟨_, rfl⟩
 obtain ⟨an5, ha5⟩ : ∃ n, n = p.routes.length := ⟨_, rfl⟩
 obtain ⟨bn5, hb5⟩ : ∃ n, n = q.routes.length := ⟨_, rfl⟩
 have HA2 : Hid (SectsIn w w.heap.size (.slice A2 an2 ac2) p.secs) := Lib.hid (by rw [ha2]; exact h1.secs)
 have HB2 : Hid (SectsIn w w.heap.size (.slice B2 bn2 bc2) q.secs) := Lib.hid (by rw [hb2]; exact h2.secs)
 have HA3 : Hid (JoinsIn w w.heap.size (.slice A3 an3 ac3) p.pts) := Lib.hid (by rw [ha3]; exact h1.pts)
 have HB3 : Hid (JoinsIn w w.heap.size (.slice B3 bn3 bc3) q.pts) := Lib.hid (by rw [hb3]; exact h2.pts)
 have HA4 : Hid (SigsIn w w.heap.size (.slice A4 an4 ac4) p.sigs) := Lib.hid (by rw [ha4]; exact h1.sigs)
 have HB4 : Hid (SigsIn w w.heap.size (.slice B4 bn4 bc4) q.sigs) := Lib.hid (by rw [hb4]; exact h2.sigs)
 have HA5 : Hid (RoutesIn w w.heap.size (.slice A5 an5 ac5) p.routes) := Lib.hid (by rw [ha5]; exact h1.routes)
 have HB5 : Hid (RoutesIn w w.heap.size (.slice B5 bn5 bc5) q.routes) := Lib.hid (by rw [hb5]; exact h2.routes)
 unfold maxLen at hcm3 hdm3 hcm4 hdm4 hcm5 hdm5
 have hm3 : an3 ≤ 9223372036854775807 := by omega
 have hm3' : bn3 ≤ 9223372036854775807 := by omega
 have hm4 : an4 ≤ 9223372036854775807 := by omega
 have hm4' : bn4 ≤ 9223372036854775807 := by omega
 have hm5 : an5 ≤ 9223372036854775807 := by omega
 have hm5' : bn5 ≤ 9223372036854775807 := by omega
 have HN3 : Hid (an3 = p.pts.length ∧ bn3 = q.pts.length) := Lib.hid ⟨ha3, hb3⟩
 have HN4 : Hid (an4 = p.sigs.length ∧ bn4 = q.sigs.length) := Lib.hid ⟨ha4, hb4⟩
 have HN5 : Hid (an5 = p.routes.length ∧ bn5 = q.routes.length) := Lib.hid ⟨ha5, hb5⟩
 rw [← ha2, ← ha3, ← ha4, ← ha5, ← hb2, ← hb3, ← hb4, ← hb5]
 clear ha2 ha3 ha4 ha5 hb2 hb3 hb4 hb5 h1 h2 hcl2 hcm2 hcl3 hcm3 hcl4 hcm4 hcl5 hcm5 hdl2 hdm2 hdl3 hdm3 hdl4 hdm4 hdl5 hdm5
 have hq := two_boxes w (.cells #[.int .i64 p.ver, .int .i64 p.par, .slice A2 an2 ac2, .slice A3 an3 ac3, .slice A4 an4 ac4, .slice A5 an5 ac5] 28) (.cells #[.int .i64 q.ver, .int .i64 q.par, .slice B2 bn2 bc2, .slice B3 bn3 bc3, .slice B4 bn4 bc4, .slice B5 bn5 bc5] 28)
 go_enter Tryz.func9, Tryz.ntmps9
 go_upto_region 1 with fail
 generalize (w.alloc (.cells #[.int .i64 p.ver, .int .i64 p.par, .slice A2 an2 ac2, .slice A3 an3 ac3, .slice A4 an4 ac4, .slice A5 an5 ac5] 28)).alloc (.cells #[.int .i64 q.ver, .int .i64 q.par, .slice B2 bn2 bc2, .slice B3 bn3 bc3, .slice B4 bn4 bc4, .slice B5 bn5 bc5] 28) = q0 at hq ⊢
 obtain ⟨x0, x1, qb⟩ := hq
 have XA := Lib.hid x0
 have XB := Lib.hid x1
 have BZ := Lib.hid qb
 obtain ⟨k0, k1, k2, k3, k4, k5⟩ := cell6_of x0
 obtain ⟨r0, r1, r2, r3, r4, r5⟩ := cell6_of x1
 clear x0 x1 qb
 by_cases h_ver : p.ver = q.ver
 case neg =>
  have d_ver : (p.ver != q.ver) = true := by simpa using h_ver
  have HF : Hid (eqB p q = false) := Lib.hid (eqB_false (fun h => h_ver (by rw [h])))
  clear h_ver
  go_wp2_with fail
  go_ret
  exact ⟨by rw [HF.out]; rfl, BZ.out⟩
 have d_ver : (p.ver != q.ver) = false := by simpa using h_ver
 by_cases h_par : p.par = q.par
 case neg =>
  have d_par : (p.par != q.par) = true := by simpa using h_par
  have HF : Hid (eqB p q = false) := Lib.hid (eqB_false (fun h => h_par (by rw [h])))
  clear h_ver h_par
  go_wp2_with fail
  go_ret
  exact ⟨by rw [HF.out]; rfl, BZ.out⟩
 have d_par : (p.par != q.par) = false := by simpa using h_par
 have TWO : Hid (p.ver = q.ver ∧ p.par = q.par) := Lib.hid ⟨h_ver, h_par⟩
 clear h_ver h_par
 go_wp2_with fail
 refine (rsameall7_any _ _ p.secs q.secs q0 ((HA2.out.below secR_ BZ.out).more secR_ BZ.out.size) ((HB2.out.below secR_ BZ.out).more secR_ BZ.out.size)).mono ?_
 rintro e w1 ⟨rfl, b1⟩
 replace XA := Lib.hid ((b1.block _ (heap_lt XA.out)).trans XA.out)
 replace XB := Lib.hid ((b1.block _ (heap_lt XB.out)).trans XB.out)
 replace BZ := Lib.hid (BZ.out.trans (b1.mono BZ.out.size))
 clear b1 k0 k1 k2 k3 k4 k5 r0 r1 r2 r3 r4 r5
 obtain ⟨k0, k1, k2, k3, k4, k5⟩ := cell6_of XA.out
 obtain ⟨r0, r1, r2, r3, r4, r5⟩ := cell6_of XB.out
 cases hp : eqB p.secs q.secs with
 | false =>
  have HF : Hid (eqB p q = false) := Lib.hid (eqB_false (fun h => by rw [eqB_true (by rw [h])] at hp; cases hp))
  clear hp
  go_wp2_with fail
  go_ret
  exact ⟨by rw [HF.out]; rfl, BZ.out⟩
 | true =>
 have HSEC := Lib.hid (eqB_iff.1 hp)
 clear hp
 by_cases hn3 : an3 = bn3
 case neg =>
  have d3 : ((an3 : Int) != bn3) = true := by rw [bne_iff_ne]; omega
  have HF : Hid (eqB p q = false) := Lib.hid (eqB_false (fun h => hn3 (by have := HN3.out; rw [h] at this; omega)))
  clear hn3
  go_wp2_with fail
  go_ret
  exact ⟨by rw [HF.out]; rfl, BZ.out⟩
 subst hn3
 by_cases hn4 : an4 = bn4
 case neg =>
  have d4 : ((an4 : Int) != bn4) = true := by rw [bne_iff_ne]; omega
  have HF : Hid (eqB p q = false) := Lib.hid (eqB_false (fun h => hn4 (by have := HN4.out; rw [h] at this; omega)))
  clear hn4
  go_wp2_with fail
  go_ret
  exact ⟨by rw [HF.out]; rfl, BZ.out⟩
 subst hn4
 by_cases hn5 : an5 = bn5
 case neg =>
  have d5 : ((an5 : Int) != bn5) = true := by rw [bne_iff_ne]; omega
  have HF : Hid (eqB p q = false) := Lib.hid (eqB_false (fun h => hn5 (by have := HN5.out; rw [h] at this; omega)))
  clear hn5
  go_wp2_with fail
  go_ret
  exact ⟨by rw [HF.out]; rfl, BZ.out⟩
 subst hn5
 have HN : Hid (an3 = p.pts.length ∧ an3 = q.pts.length) := HN3
 have NEQ : Hid (¬ p.pts = q.pts → eqB p q = false) := Lib.hid (fun h => eqB_false (fun h2 => h (by rw [h2])))
 go_wp2_with fail
 go_loopw [5] (fun sL wr => ∃ i : Nat, i ≤ an3 ∧ sL = .int .i64 i ∧ (∀ j (hj : j < i) (h1 : j < p.pts.length) (h2 : j < q.pts.length), p.pts[j] = q.pts[j]) ∧ wr.heap[w.heap.size]? = some (.cells #[.int .i64 p.ver, .int .i64 p.par, .slice A2 an2 ac2, .slice A3 an3 ac3, .slice A4 an4 ac4, .slice A5 an5 ac5] 28 (0, 0)) ∧ wr.heap[w.heap.size + 1]? = some (.cells #[.int .i64 q.ver, .int .i64 q.par, .slice B2 bn2 bc2, .slice B3 an3 bc3, .slice B4 an4 bc4, .slice B5 an5 bc5] 28 (0, 0)) ∧ Below w.heap.size w wr) (fun sL _ => an3 - (intOf sL).toNat)
 case atStart => exact ⟨0, by omega, by go_num, fun j hj => absurd hj (by omega), XA.out, XB.out, BZ.out⟩
 case round =>
  obtain ⟨i, hi, rfl, hall, hxa, hxb, hbw⟩ := hrel
  have HALL := Lib.hid hall
  clear XA XB BZ
  have XA := Lib.hid hxa
  have XB := Lib.hid hxb
  have BZ := Lib.hid hbw
  clear hall hxa hxb hbw
  obtain ⟨k0, k1, k2, k3, k4, k5⟩ := cell6_.1 XA.out
  obtain ⟨r0, r1, r2, r3, r4, r5⟩ := cell6_.1 XB.out
  by_cases hlt : i < an3
  ·have hlt2 : (i : Int) < an3 := by omega
   have hir : i < p.pts.length := by have := HN.out; omega
   have him : i < q.pts.length := by have := HN.out; omega
   obtain ⟨b, off, e1, hb, hc0, hc1⟩ := ((HA3.out.below joinR BZ.out).more joinR BZ.out.size).at hir
   obtain ⟨b', off', e2, hb', hd0, hd1⟩ := ((HB3.out.below joinR BZ.out).more joinR BZ.out.size).at him
   subst e1
   subst e2
   obtain ⟨x, hx⟩ : ∃ x, x = p.pts[i] := ⟨_, rfl⟩
   obtain ⟨y, hy⟩ : ∃ y, y = q.pts[i] := ⟨_, rfl⟩
   rw [← hx] at hc0 hc1
   rw [← hy] at hd0 hd1
   have hg0 : wr.cell? ⟨b, off + i * 2, none⟩ = some (.int .i64 x.1) := hc0
   have hh0 : wr.cell? ⟨b', off' + i * 2, none⟩ = some (.int .i64 y.1) := hd0
   have hg1 : wr.cell? ⟨b, off + i * 2 + 1, none⟩ = some (.int .i64 x.2) := hc1
   have hh1 : wr.cell? ⟨b', off' + i * 2 + 1, none⟩ = some (.int .i64 y.2) := hd1
   have HX := Lib.hid hx
   have HY := Lib.hid hy
   have BD : Hid (∀ nq, Below w.heap.size w (wr.drewN nq)) := Lib.hid (fun nq => ⟨BZ.out.os, BZ.out.tape, BZ.out.output, BZ.out.size, BZ.out.block⟩)
   have XD : Hid (∀ nq, (wr.drewN nq).heap[w.heap.size]? = wr.heap[w.heap.size]? ∧ (wr.drewN nq).heap[w.heap.size + 1]? = wr.heap[w.heap.size + 1]?) := Lib.hid (fun nq => ⟨rfl, rfl⟩)
   clear hc0 hc1 hd0 hd1 hx hy hb hb'
   go_upto_region 6 with fail
   by_cases he : x = y
   ·have hcmp : ∀ w' : World, (Op.equalIn 10000 57 (.agg #[.int .i64 x.1, .int .i64 x.2]) (.agg #[.int .i64 y.1, .int .i64 y.2])).run Tryz.prog w' = .ok true w' := eqPoint_eq he
    have NX : Hid (∀ j (hj : j < i + 1) (h1 : j < p.pts.length) (h2 : j < q.pts.length), p.pts[j] = q.pts[j]) := Lib.hid (fun j hj h1 h2 => by
     rcases Nat.lt_or_ge j i with h | h
     ·exact HALL.out j h h1 h2
     ·obtain rfl : j = i := by omega
      rw [← HX.out, ← HY.out]; exact he)
    clear he
    go_quiet (fail)
    have hdb := BD.out nq
    have hdx := XD.out nq
    rw [XA.out, XB.out] at hdx
    generalize wr.drewN nq = q7 at hdb hdx ⊢
    have B7 := Lib.hid hdb
    have X7 := Lib.hid hdx
    clear hdb hdx BD XD hcmp
    go_wp2_with fail
    go_roundw
    case measure => simp [intOf]; omega
    case rel => exact ⟨i + 1, by omega, by go_num, NX.out, X7.out.1, X7.out.2, B7.out⟩
   ·have hcmp : ∀ w' : World, (Op.equalIn 10000 57 (.agg #[.int .i64 x.1, .int .i64 x.2]) (.agg #[.int .i64 y.1, .int .i64 y.2])).run Tryz.prog w' = .ok false w' := eqPoint_ne he
    have HF : Hid (eqB p q = false) := Lib.hid (NEQ.out (fun h => he (by rw [HX.out, HY.out]; exact getElem_congr' h)))
    clear he
    go_quiet (fail)
    have hdb := BD.out nq
    generalize wr.drewN nq = q7 at hdb ⊢
    have B7 := Lib.hid hdb
    clear hdb BD XD hcmp
    go_wp2_with fail
    go_ret
    exact ⟨by rw [HF.out]; rfl, B7.out⟩
  ·obtain rfl : an3 = i := by omega
   have hlt2 : ¬ (an3 : Int) < an3 := by omega
   have ALLQ : Hid (p.pts = q.pts) := Lib.hid (list_ext (by have := HN.out; omega) fun j h1 h2 => HALL.out j (by have := HN.out; omega) h1 h2)
   clear HALL NEQ
   have HPTS := ALLQ
   clear ALLQ HN
   have HN : Hid (an4 = p.sigs.length ∧ an4 = q.sigs.length) := HN4
   have NEQ : Hid (¬ p.sigs = q.sigs → eqB p q = false) := Lib.hid (fun h => eqB_false (fun h2 => h (by rw [h2])))
   go_wp2_with fail
   go_loopw [6] (fun sL wr => ∃ i : Nat, i ≤ an4 ∧ sL = .int .i64 i ∧ (∀ j (hj : j < i) (h1 : j < p.sigs.length) (h2 : j < q.sigs.length), p.sigs[j] = q.sigs[j]) ∧ wr.heap[w.heap.size]? = some (.cells #[.int .i64 p.ver, .int .i64 p.par, .slice A2 an2 ac2, .slice A3 an3 ac3, .slice A4 an4 ac4, .slice A5 an5 ac5] 28 (0, 0)) ∧ wr.heap[w.heap.size + 1]? = some (.cells #[.int .i64 q.ver, .int .i64 q.par, .slice B2 bn2 bc2, .slice B3 an3 bc3, .slice B4 an4 bc4, .slice B5 an5 bc5] 28 (0, 0)) ∧ Below w.heap.size w wr) (fun sL _ => an4 - (intOf sL).toNat)
   case atStart => exact ⟨0, by omega, by go_num, fun j hj => absurd hj (by omega), XA.out, XB.out, BZ.out⟩
   case round =>
    obtain ⟨i, hi, rfl, hall, hxa, hxb, hbw⟩ := hrel
    have HALL := Lib.hid hall
    clear XA XB BZ
    have XA := Lib.hid hxa
    have XB := Lib.hid hxb
    have BZ := Lib.hid hbw
    clear hall hxa hxb hbw
    obtain ⟨k0, k1, k2, k3, k4, k5⟩ := cell6_.1 XA.out
    obtain ⟨r0, r1, r2, r3, r4, r5⟩ := cell6_.1 XB.out
    by_cases hlt : i < an4
    ·have hlt2 : (i : Int) < an4 := by omega
     have hir : i < p.sigs.length := by have := HN.out; omega
     have him : i < q.sigs.length := by have := HN.out; omega
     obtain ⟨b, off, e1, hb, hc0, hc1, hc2⟩ := ((HA4.out.below sigR BZ.out).more sigR BZ.out.size).at hir
     obtain ⟨b', off', e2, hb', hd0, hd1, hd2⟩ := ((HB4.out.below sigR BZ.out).more sigR BZ.out.size).at him
     subst e1
     subst e2
     obtain ⟨x, hx⟩ : ∃ x, x = p.sigs[i] := ⟨_, rfl⟩
     obtain ⟨y, hy⟩ : ∃ y, y = q.sigs[i] := ⟨_, rfl⟩
     rw [← hx] at hc0 hc1 hc2
     rw [← hy] at hd0 hd1 hd2
     have hg0 : wr.cell? ⟨b, off + i * 3, none⟩ = some (.int .i64 x.1) := hc0
     have hh0 : wr.cell? ⟨b', off' + i * 3, none⟩ = some (.int .i64 y.1) := hd0
     have hg1 : wr.cell? ⟨b, off + i * 3 + 1, none⟩ = some (.int .i64 x.2.1) := hc1
     have hh1 : wr.cell? ⟨b', off' + i * 3 + 1, none⟩ = some (.int .i64 y.2.1) := hd1
     have hg2 : wr.cell? ⟨b, off + i * 3 + 2, none⟩ = some (.int .i64 x.2.2) := hc2
     have hh2 : wr.cell? ⟨b', off' + i * 3 + 2, none⟩ = some (.int .i64 y.2.2) := hd2
     have HX := Lib.hid hx
     have HY := Lib.hid hy
     have BD : Hid (∀ nq, Below w.heap.size w (wr.drewN nq)) := Lib.hid (fun nq => ⟨BZ.out.os, BZ.out.tape, BZ.out.output, BZ.out.size, BZ.out.block⟩)
     have XD : Hid (∀ nq, (wr.drewN nq).heap[w.heap.size]? = wr.heap[w.heap.size]? ∧ (wr.drewN nq).heap[w.heap.size + 1]? = wr.heap[w.heap.size + 1]?) := Lib.hid (fun nq => ⟨rfl, rfl⟩)
     clear hc0 hc1 hc2 hd0 hd1 hd2 hx hy hb hb'
     go_upto_region 11 with fail
     by_cases he : x = y
     ·have hcmp : ∀ w' : World, (Op.equalIn 10000 59 (.agg #[.int .i64 x.1, .int .i64 x.2.1, .int .i64 x.2.2]) (.agg #[.int .i64 y.1, .int .i64 y.2.1, .int .i64 y.2.2])).run Tryz.prog w' = .ok true w' := eqSig_eq he
      have NX : Hid (∀ j (hj : j < i + 1) (h1 : j < p.sigs.length) (h2 : j < q.sigs.length), p.sigs[j] = q.sigs[j]) := Lib.hid (fun j hj h1 h2 => by
       rcases Nat.lt_or_ge j i with h | h
       ·exact HALL.out j h h1 h2
       ·obtain rfl : j = i := by omega
        rw [← HX.out, ← HY.out]; exact he)
      clear he
      go_quiet (fail)
      have hdb := BD.out nq
      have hdx := XD.out nq
      rw [XA.out, XB.out] at hdx
      generalize wr.drewN nq = q7 at hdb hdx ⊢
      have B7 := Lib.hid hdb
      have X7 := Lib.hid hdx
      clear hdb hdx BD XD hcmp
      go_wp2_with fail
      go_roundw
      case measure => simp [intOf]; omega
      case rel => exact ⟨i + 1, by omega, by go_num, NX.out, X7.out.1, X7.out.2, B7.out⟩
     ·have hcmp : ∀ w' : World, (Op.equalIn 10000 59 (.agg #[.int .i64 x.1, .int .i64 x.2.1, .int .i64 x.2.2]) (.agg #[.int .i64 y.1, .int .i64 y.2.1, .int .i64 y.2.2])).run Tryz.prog w' = .ok false w' := eqSig_ne he
      have HF : Hid (eqB p q = false) := Lib.hid (NEQ.out (fun h => he (by rw [HX.out, HY.out]; exact getElem_congr' h)))
      clear he
      go_quiet (fail)
      have hdb := BD.out nq
      generalize wr.drewN nq = q7 at hdb ⊢
      have B7 := Lib.hid hdb
      clear hdb BD XD hcmp
      go_wp2_with fail
      go_ret
      exact ⟨by rw [HF.out]; rfl, B7.out⟩
    ·obtain rfl : an4 = i := by omega
     have hlt2 : ¬ (an4 : Int) < an4 := by omega
     have ALLQ : Hid (p.sigs = q.sigs) := Lib.hid (list_ext (by have := HN.out; omega) fun j h1 h2 => HALL.out j (by have := HN.out; omega) h1 h2)
     clear HALL NEQ
     have HSIG := ALLQ
     clear ALLQ
     go_wp2_with fail
     go_loopw [7] (fun sL wr => ∃ i : Nat, i ≤ an5 ∧ sL = .int .i64 i ∧ (∀ j (hj : j < i) (h1 : j < p.routes.length) (h2 : j < q.routes.length), p.routes[j] = q.routes[j]) ∧ wr.heap[w.heap.size]? = some (.cells #[.int .i64 p.ver, .int .i64 p.par, .slice A2 an2 ac2, .slice A3 an3 ac3, .slice A4 an4 ac4, .slice A5 an5 ac5] 28 (0, 0)) ∧ wr.heap[w.heap.size + 1]? = some (.cells #[.int .i64 q.ver, .int .i64 q.par, .slice B2 bn2 bc2, .slice B3 an3 bc3, .slice B4 an4 bc4, .slice B5 an5 bc5] 28 (0, 0)) ∧ Below w.heap.size w wr) (fun sL _ => an5 - (intOf sL).toNat)
     case atStart => exact ⟨0, by omega, by go_num, fun j hj => absurd hj (by omega), XA.out, XB.out, BZ.out⟩
     case round =>
      obtain ⟨i, hi, rfl, hall, hxa, hxb, hbw⟩ := hrel
      have HALL := Lib.hid hall
      clear XA XB BZ
      have XA := Lib.hid hxa
      have XB := Lib.hid hxb
      have BZ := Lib.hid hbw
      clear hall hxa hxb hbw
      obtain ⟨k0, k1, k2, k3, k4, k5⟩ := cell6_of XA.out
      obtain ⟨r0, r1, r2, r3, r4, r5⟩ := cell6_of XB.out
      by_cases hlt : i < an5
      ·have hlt2 : (i : Int) < an5 := by omega
       have hir : i < p.routes.length := by have := HN5.out; omega
       have him : i < q.routes.length := by have := HN5.out; omega
       obtain ⟨b, off, e1, hb, hc0, hc1, hc2, hc6, u3, u4, u5, hc3, hc4, hc5, hr⟩ := ((HA5.out.below routeR BZ.out).more routeR BZ.out.size).at hir
       obtain ⟨b', off', e2, hb', hd0, hd1, hd2, hd6, v3, v4, v5, hd3, hd4, hd5, hs⟩ := ((HB5.out.below routeR BZ.out).more routeR BZ.out.size).at him
       subst e1
       subst e2
       obtain ⟨R, hR⟩ : ∃ R, R = p.routes[i] := ⟨_, rfl⟩
       obtain ⟨S, hS⟩ : ∃ S, S = q.routes[i] := ⟨_, rfl⟩
       rw [← hR] at hc0 hc1 hc2 hc6 hr
       rw [← hS] at hd0 hd1 hd2 hd6 hs
       obtain ⟨D3, dd3, rfl, -, -⟩ := hr.path.slice
       obtain ⟨D4, dd4, rfl, -, -⟩ := hr.over.slice
       obtain ⟨D5, dd5, rfl, -, -⟩ := hr.flanks.slice
       obtain ⟨E3, ee3, rfl, -, -⟩ := hs.path.slice
       obtain ⟨E4, ee4, rfl, -, -⟩ := hs.over.slice
       obtain ⟨E5, ee5, rfl, -, -⟩ := hs.flanks.slice
       have LG0 : Hid (wr.cell? ⟨b, off + i * 7, none⟩ = some (.int .i64 R.id)) := Lib.hid hc0
       have LG1 : Hid (wr.cell? ⟨b, off + i * 7 + 1, none⟩ = some (.int .i64 R.entry)) := Lib.hid hc1
       have LG2 : Hid (wr.cell? ⟨b, off + i * 7 + 2, none⟩ = some (.int .i64 R.exit)) := Lib.hid hc2
       have LG3 : Hid (wr.cell? ⟨b, off + i * 7 + 3, none⟩ = some (.slice D3 R.path.length dd3)) := Lib.hid hc3
       have LG4 : Hid (wr.cell? ⟨b, off + i * 7 + 4, none⟩ = some (.slice D4 R.over.length dd4)) := Lib.hid hc4
       have LG5 : Hid (wr.cell? ⟨b, off + i * 7 + 5, none⟩ = some (.slice D5 R.flanks.length dd5)) := Lib.hid hc5
       have LG6 : Hid (wr.cell? ⟨b, off + i * 7 + 6, none⟩ = some (.int .i64 R.timer)) := Lib.hid hc6
       have LH0 : Hid (wr.cell? ⟨b', off' + i * 7, none⟩ = some (.int .i64 S.id)) := Lib.hid hd0
       have LH1 : Hid (wr.cell? ⟨b', off' + i * 7 + 1, none⟩ = some (.int .i64 S.entry)) := Lib.hid hd1
       have LH2 : Hid (wr.cell? ⟨b', off' + i * 7 + 2, none⟩ = some (.int .i64 S.exit)) := Lib.hid hd2
       have LH3 : Hid (wr.cell? ⟨b', off' + i * 7 + 3, none⟩ = some (.slice E3 S.path.length ee3)) := Lib.hid hd3
       have LH4 : Hid (wr.cell? ⟨b', off' + i * 7 + 4, none⟩ = some (.slice E4 S.over.length ee4)) := Lib.hid hd4
       have LH5 : Hid (wr.cell? ⟨b', off' + i * 7 + 5, none⟩ = some (.slice E5 S.flanks.length ee5)) := Lib.hid hd5
       have LH6 : Hid (wr.cell? ⟨b', off' + i * 7 + 6, none⟩ = some (.int .i64 S.timer)) := Lib.hid hd6
       have SV1 : Hid (RouteV wr wr.heap.size (.agg #[.int .i64 R.id, .int .i64 R.entry, .int .i64 R.exit, .slice D3 R.path.length dd3, .slice D4 R.over.length dd4, .slice D5 R.flanks.length dd5, .int .i64 R.timer]) R) := Lib.hid ⟨_, _, _, rfl, hr⟩
       have SV2 : Hid (RouteV wr wr.heap.size (.agg #[.int .i64 S.id, .int .i64 S.entry, .int .i64 S.exit, .slice E3 S.path.length ee3, .slice E4 S.over.length ee4, .slice E5 S.flanks.length ee5, .int .i64 S.timer]) S) := Lib.hid ⟨_, _, _, rfl, hs⟩
       have LGB := Lib.hid hb
       have LHB := Lib.hid hb'
       have HX := Lib.hid hR
       have HY := Lib.hid hS
       clear hc0 hc1 hc2 hc3 hc4 hc5 hc6 hd0 hd1 hd2 hd3 hd4 hd5 hd6 hr hs hR hS hb hb'
       go_upto_region 16 with fail
       clear k0 k1 k2 k3 k4 k5 r0 r1 r2 r3 r4 r5
       cases hq5 : eqB R S with
       | true =>
        have NX : Hid (∀ j (hj : j < i + 1) (h1 : j < p.routes.length) (h2 : j < q.routes.length), p.routes[j] = q.routes[j]) := Lib.hid (fun j hj h1 h2 => by
         rcases Nat.lt_or_ge j i with h | h
         ·exact HALL.out j h h1 h2
         ·obtain rfl : j = i := by omega
          rw [← HX.out, ← HY.out]; exact eqB_iff.1 hq5)
        refine wp_region_held_drew (S := fun v => Below wr.heap.size wr v) (by kernel_rfl) (Below.refl wr.heap.size wr).drew (fun hHeld => ?_)
        refine tk 0 hHeld ?_;refine tkc 1 hHeld (fun w' hSw => cell6_of ((hSw.block _ (heap_lt XA.out)).trans XA.out)) ?_;refine tk 2 hHeld ?_;refine tk 3 hHeld ?_
        refine wpAnyH_take (i := 4) (v := ?_) rfl (by kernel_rfl) (by kernel_rfl) (by kernel_rfl) (fun _ _ _ h => h) (Or.inl ⟨by rfl, ?_⟩) hHeld ?_
        rotate_left
        ·intro w' hSw; have cs0 := (hSw.cell (p := ⟨b, off + i * 7, none⟩) LGB.out).trans LG0.out; have cs1 := (hSw.cell (p := ⟨b, off + i * 7 + 1, none⟩) LGB.out).trans LG1.out; have cs2 := (hSw.cell (p := ⟨b, off + i * 7 + 2, none⟩) LGB.out).trans LG2.out; have cs3 := (hSw.cell (p := ⟨b, off + i * 7 + 3, none⟩) LGB.out).trans LG3.out; have cs4 := (hSw.cell (p := ⟨b, off + i * 7 + 4, none⟩) LGB.out).trans LG4.out; have cs5 := (hSw.cell (p := ⟨b, off + i * 7 + 5, none⟩) LGB.out).trans LG5.out; have cs6 := (hSw.cell (p := ⟨b, off + i * 7 + 6, none⟩) LGB.out).trans LG6.out; go_simp; try with_reducible rfl
        simp only [zn, Act.put]
        refine tk 5 hHeld ?_;refine tkc 6 hHeld (fun w' hSw => cell6_of ((hSw.block _ (heap_lt XB.out)).trans XB.out)) ?_;refine tk 7 hHeld ?_;refine tk 8 hHeld ?_
        refine wpAnyH_take (i := 9) (v := ?_) rfl (by kernel_rfl) (by kernel_rfl) (by kernel_rfl) (fun _ _ _ h => h) (Or.inl ⟨by rfl, ?_⟩) hHeld ?_
        rotate_left
        ·intro w' hSw; have ct0 := (hSw.cell (p := ⟨b', off' + i * 7, none⟩) LHB.out).trans LH0.out; have ct1 := (hSw.cell (p := ⟨b', off' + i * 7 + 1, none⟩) LHB.out).trans LH1.out; have ct2 := (hSw.cell (p := ⟨b', off' + i * 7 + 2, none⟩) LHB.out).trans LH2.out; have ct3 := (hSw.cell (p := ⟨b', off' + i * 7 + 3, none⟩) LHB.out).trans LH3.out; have ct4 := (hSw.cell (p := ⟨b', off' + i * 7 + 4, none⟩) LHB.out).trans LH4.out; have ct5 := (hSw.cell (p := ⟨b', off' + i * 7 + 5, none⟩) LHB.out).trans LH5.out; have ct6 := (hSw.cell (p := ⟨b', off' + i * 7 + 6, none⟩) LHB.out).trans LH6.out; go_simp; try with_reducible rfl
        simp only [zn, Act.put]
        refine tkr 10 (fun K hK => ?_)
        go_simp
        refine (rsameroute_any _ _ R S wr.drew (SV1.out.below (Below.refl wr.heap.size wr).drew) (SV2.out.below (Below.refl wr.heap.size wr).drew)).mono ?_
        rintro e w5 ⟨rfl, b5⟩
        rw [hq5]
        have B5 : Hid (Below wr.heap.size wr w5) := Lib.hid ((Below.refl wr.heap.size wr).drew.trans b5)
        clear b5
        try go_wp2_with fail
        refine hK.out _ _ ?_ fun hHeld => ?_;exact B5.out;clear hK K;try simp only [zn, Act.put]
        refine tk 11 hHeld ?_
        refine wpAnyH_done (by kernel_rfl) ?_ _
        have BY : Hid (Below w.heap.size w w5) := Lib.hid (BZ.out.trans (B5.out.mono BZ.out.size))
        have Y1 := Lib.hid ((B5.out.block _ (heap_lt XA.out)).trans XA.out)
        have Y2 := Lib.hid ((B5.out.block _ (heap_lt XB.out)).trans XB.out)
        go_wp2_with fail
        go_roundw
        case measure => simp [intOf]; omega
        case rel => exact ⟨i + 1, by omega, by go_num, NX.out, Y1.out, Y2.out, BY.out⟩
       | false =>
        have HF : Hid (eqB p q = false) := Lib.hid (eqB_false (fun h => by
         have h2 := getElem_congr' (h1 := hir) (h2 := him) (show p.routes = q.routes by rw [h])
         rw [← HX.out, ← HY.out] at h2
         rw [eqB_true h2] at hq5
         cases hq5))
        refine wp_region_held_drew (S := fun v => Below wr.heap.size wr v) (by kernel_rfl) (Below.refl wr.heap.size wr).drew (fun hHeld => ?_)
        refine tk 0 hHeld ?_;refine tkc 1 hHeld (fun w' hSw => cell6_of ((hSw.block _ (heap_lt XA.out)).trans XA.out)) ?_;refine tk 2 hHeld ?_;refine tk 3 hHeld ?_
        refine wpAnyH_take (i := 4) (v := ?_) rfl (by kernel_rfl) (by kernel_rfl) (by kernel_rfl) (fun _ _ _ h => h) (Or.inl ⟨by rfl, ?_⟩) hHeld ?_
        rotate_left
        ·intro w' hSw; have cs0 := (hSw.cell (p := ⟨b, off + i * 7, none⟩) LGB.out).trans LG0.out; have cs1 := (hSw.cell (p := ⟨b, off + i * 7 + 1, none⟩) LGB.out).trans LG1.out; have cs2 := (hSw.cell (p := ⟨b, off + i * 7 + 2, none⟩) LGB.out).trans LG2.out; have cs3 := (hSw.cell (p := ⟨b, off + i * 7 + 3, none⟩) LGB.out).trans LG3.out; have cs4 := (hSw.cell (p := ⟨b, off + i * 7 + 4, none⟩) LGB.out).trans LG4.out; have cs5 := (hSw.cell (p := ⟨b, off + i * 7 + 5, none⟩) LGB.out).trans LG5.out; have cs6 := (hSw.cell (p := ⟨b, off + i * 7 + 6, none⟩) LGB.out).trans LG6.out; go_simp; try with_reducible rfl
        simp only [zn, Act.put]
        refine tk 5 hHeld ?_;refine tkc 6 hHeld (fun w' hSw => cell6_of ((hSw.block _ (heap_lt XB.out)).trans XB.out)) ?_;refine tk 7 hHeld ?_;refine tk 8 hHeld ?_
        refine wpAnyH_take (i := 9) (v := ?_) rfl (by kernel_rfl) (by kernel_rfl) (by kernel_rfl) (fun _ _ _ h => h) (Or.inl ⟨by rfl, ?_⟩) hHeld ?_
        rotate_left
        ·intro w' hSw; have ct0 := (hSw.cell (p := ⟨b', off' + i * 7, none⟩) LHB.out).trans LH0.out; have ct1 := (hSw.cell (p := ⟨b', off' + i * 7 + 1, none⟩) LHB.out).trans LH1.out; have ct2 := (hSw.cell (p := ⟨b', off' + i * 7 + 2, none⟩) LHB.out).trans LH2.out; have ct3 := (hSw.cell (p := ⟨b', off' + i * 7 + 3, none⟩) LHB.out).trans LH3.out; have ct4 := (hSw.cell (p := ⟨b', off' + i * 7 + 4, none⟩) LHB.out).trans LH4.out; have ct5 := (hSw.cell (p := ⟨b', off' + i * 7 + 5, none⟩) LHB.out).trans LH5.out; have ct6 := (hSw.cell (p := ⟨b', off' + i * 7 + 6, none⟩) LHB.out).trans LH6.out; go_simp; try with_reducible rfl
        simp only [zn, Act.put]
        refine tkr 10 (fun K hK => ?_)
        go_simp
        refine (rsameroute_any _ _ R S wr.drew (SV1.out.below (Below.refl wr.heap.size wr).drew) (SV2.out.below (Below.refl wr.heap.size wr).drew)).mono ?_
        rintro e w5 ⟨rfl, b5⟩
        rw [hq5]
        have B5 : Hid (Below wr.heap.size wr w5) := Lib.hid ((Below.refl wr.heap.size wr).drew.trans b5)
        clear b5
        try go_wp2_with fail
        refine hK.out _ _ ?_ fun hHeld => ?_;exact B5.out;clear hK K;try simp only [zn, Act.put]
        refine tk 11 hHeld ?_
        refine wpAnyH_done (by kernel_rfl) ?_ _
        have BY : Hid (Below w.heap.size w w5) := Lib.hid (BZ.out.trans (B5.out.mono BZ.out.size))
        go_wp2_with fail
        go_ret
        exact ⟨by rw [HF.out]; rfl, BY.out⟩
      ·obtain rfl : an5 = i := by omega
       have hlt2 : ¬ (an5 : Int) < an5 := by omega
       have HF : Hid (eqB p q = true) := Lib.hid (eqB_true (pl_eq.2 ⟨TWO.out.1, TWO.out.2, HSEC.out, HPTS.out, HSIG.out, list_ext (by have := HN5.out; omega) fun j h1 h2 => HALL.out j (by have := HN5.out; omega) h1 h2⟩))
       go_wp2_with fail
       go_ret
       exact ⟨by rw [HF.out]; rfl, BZ.out⟩

/-- What the program's package plan answers: to be proved over the program's own text; the walks of the statements take it. -/
structure PlanSaid : Prop where
 check : ∀ (v : Value) (p : Pl) (w : World), PlanV w w.heap.size v p →
  Calls Tryz.prog 21 #[v] w fun e w' => e = .returned (.int .i64 (chk8 p)) ∧ Below w.heap.size w w'
end Go.Proofs.YteloiajocjahmaaGreatDoor
