/-
 Elements are told in order, each once, and are counted: the walk, given the program's answers.
 Conditions: none.
-/
import Derived.Test.YtdldphkofkbmaaaQGDifOne
import Derived.Test.YtdldphkofkbmaaaQGDifRef
import Derived.Test.YtdldphkofkbmaaaQGPlnRefD
set_option linter.unusedVariables false
set_option linter.unusedSimpArgs false
set_option maxRecDepth 100000
namespace Go.Proofs.Ytdldphkofkbmaaa
open Go.RowKit

theorem chk8_zeroB {p : Pl} : chk8 p = 0 ↔ PlanMay p := by
 rw [chk8]
 by_cases h : PlanMay p
 ·rw [planMay_true h]; exact ⟨fun _ => h, fun _ => rfl⟩
 ·rw [planMay_false h]; exact ⟨fun e => (by cases e), fun e => absurd e h⟩
def cO (l : List Df) (z : Int) (i : Nat) : Nat := (l.take i).countP fun x => decide (x.2.2 ≠ z)
def sA (l : List Df) (i : Nat) : Bool := (l.take i).all fun x => decide (x.2.2 = 0)
theorem cO_succ {l : List Df} {z : Int} {i : Nat} (h : i < l.length) : cO l z (i + 1) = cO l z i + if l[i].2.2 = z then 0 else 1 := by
 unfold cO
 rw [← snoc_take h, List.countP_append]
 by_cases e : l[i].2.2 = z <;> simp [e]
theorem cO_le (l : List Df) (z : Int) (i : Nat) : cO l z i ≤ i := by
 unfold cO
 exact Nat.le_trans List.countP_le_length (by rw [List.length_take]; omega)
theorem sA_succ {l : List Df} {i : Nat} (h : i < l.length) : sA l (i + 1) = (sA l i && decide (l[i].2.2 = 0)) := by
 unfold sA
 rw [← snoc_take h, List.all_append]
 simp
theorem cO_all (l : List Df) (z : Int) : cO l z l.length = l.countP fun x => decide (x.2.2 ≠ z) := by rw [cO, List.take_length]
theorem sA_all {a b : Pl} (ha : PlanMay a) (hb : PlanMay b) : sA (diffL a b) (diffL a b).length = eqB a ⟨a.ver, a.par, b.secs, b.pts, b.sigs, b.routes⟩ := by
 rw [Bool.eq_iff_iff, eqB_iff, sA, List.take_length, List.all_eq_true]
 have e := all_same ha hb
 constructor
 ·intro h
  obtain ⟨h1, h2, h3, h4⟩ := e.1 fun x hx => of_decide_eq_true (h x hx)
  obtain ⟨a1, a2, a3, a4, a5, a6⟩ := a
  simp only at h1 h2 h3 h4 ⊢
  rw [h1, h2, h3, h4]
 ·intro h x hx
  refine decide_eq_true (e.2 ?_ x hx)
  obtain ⟨a1, a2, a3, a4, a5, a6⟩ := a
  simp only [Pl.mk.injEq] at h ⊢
  exact h.2.2
set_option maxHeartbeats 8000000 in
theorem rmany13_any (v : Value) (p : Pl) (w : World) (h : PlanV w w.heap.size v p) (hf : FewP p) :
  Calls Try.prog 14 #[v] w fun e w' => e = .returned (.int .i64 (manyP p : Int)) ∧ Below w.heap.size w w' := by
 obtain ⟨y2, y3, y4, y5, rfl, hin⟩ := h
 obtain ⟨A2, c2, rfl, -, -⟩ := hin.secs.slice
 obtain ⟨A3, c3, rfl, -, -⟩ := hin.pts.slice
 obtain ⟨A4, c4, rfl, -, -⟩ := hin.sigs.slice
 obtain ⟨A5, c5, rfl, -, -⟩ := hin.routes.slice
 have l2 := hf.secs.1
 have l3 := hf.pts
 have l4 := hf.sigs
 have l5 := hf.routes
 have HM : Hid (manyP p = p.secs.length + p.pts.length + p.sigs.length + p.routes.length) := Lib.hid rfl
 clear hin hf
 generalize p.secs.length = n2 at l2 HM ⊢
 generalize p.pts.length = n3 at l3 HM ⊢
 generalize p.sigs.length = n4 at l4 HM ⊢
 generalize p.routes.length = n5 at l5 HM ⊢
 have hq0 := heap_alloc_self w (.cells #[.int .i64 p.ver, .int .i64 p.par, .slice A2 n2 c2, .slice A3 n3 c3, .slice A4 n4 c4, .slice A5 n5 c5] 30)
 have hqb := below_new w (.cells #[.int .i64 p.ver, .int .i64 p.par, .slice A2 n2 c2, .slice A3 n3 c3, .slice A4 n4 c4, .slice A5 n5 c5] 30)
 go_enter Try.func14, Try.ntmps14
 go_upto_region 1 with fail
 generalize w.alloc (.cells #[.int .i64 p.ver, .int .i64 p.par, .slice A2 n2 c2, .slice A3 n3 c3, .slice A4 n4 c4, .slice A5 n5 c5] 30) = q at hq0 hqb ⊢
 obtain ⟨k0, k1, k2, k3, k4, k5⟩ := cell6_of hq0
 have BQ := Lib.hid hqb
 clear hq0 hqb
 go_wp2_with fail
 go_ret
 exact ⟨by rw [HM.out]; push_cast; rfl, BQ.out⟩
set_option maxHeartbeats 32000000 in
theorem walk_diff_counts (hc : DifSaid) (hp : PlanSaid) (v y : Value) (a b : Pl) (w : World) (h : PlanV w w.heap.size v a) (h' : PlanV w w.heap.size y b) :
  Calls Try.prog 5 #[v, y] w fun e w' => e = .returned (.bool true) ∧ Below w.heap.size w w' := by
 obtain ⟨u2, u3, u4, u5, rfl, hin⟩ := h
 obtain ⟨z2, z3, z4, z5, rfl, hin'⟩ := h'
 obtain ⟨h0, h1, hqb⟩ := two_boxes w (.cells #[.int .i64 a.ver, .int .i64 a.par, u2, u3, u4, u5] 30) (.cells #[.int .i64 b.ver, .int .i64 b.par, z2, z3, z4, z5] 30)
 go_enter Try.func5, Try.ntmps5
 go_upto_region 1 with fail
 generalize (w.alloc (.cells #[.int .i64 a.ver, .int .i64 a.par, u2, u3, u4, u5] 30)).alloc (.cells #[.int .i64 b.ver, .int .i64 b.par, z2, z3, z4, z5] 30) = q at h0 h1 hqb ⊢
 have X0 := Lib.hid h0
 have X1 := Lib.hid h1
 have BQ := Lib.hid hqb
 have VA : Hid (PlanV q q.heap.size (.agg #[.int .i64 a.ver, .int .i64 a.par, u2, u3, u4, u5]) a) := Lib.hid ⟨_, _, _, _, rfl, (hin.below hqb).more hqb.size⟩
 have VB : Hid (PlanV q q.heap.size (.agg #[.int .i64 b.ver, .int .i64 b.par, z2, z3, z4, z5]) b) := Lib.hid ⟨_, _, _, _, rfl, (hin'.below hqb).more hqb.size⟩
 clear h0 h1 hqb hin hin'
 go_wp2_with fail
 refine (alive13 hc _).mono ?_
 rintro e wa ⟨rfl, bN⟩
 replace X0 := Lib.hid ((bN.block _ (heap_lt X0.out)).trans X0.out)
 replace X1 := Lib.hid ((bN.block _ (heap_lt X1.out)).trans X1.out)
 replace BQ := Lib.hid (BQ.out.trans (bN.mono BQ.out.size))
 replace VA := Lib.hid ((VA.out.below bN).more bN.size)
 replace VB := Lib.hid ((VB.out.below bN).more bN.size)
 clear bN
 obtain ⟨k0, k1, k2, k3, k4, k5⟩ := cell6_of X0.out
 go_wp2_with fail
 refine (rgreat8_any _ a wa VA.out).mono ?_
 rintro e w1 ⟨⟨g, rfl, hg⟩, bN⟩
 clear k0 k1 k2 k3 k4 k5
 replace X0 := Lib.hid ((bN.block _ (heap_lt X0.out)).trans X0.out)
 replace X1 := Lib.hid ((bN.block _ (heap_lt X1.out)).trans X1.out)
 replace BQ := Lib.hid (BQ.out.trans (bN.mono BQ.out.size))
 replace VA := Lib.hid ((VA.out.below bN).more bN.size)
 replace VB := Lib.hid ((VB.out.below bN).more bN.size)
 clear bN
 cases g with
 | true =>
  go_wp2_with fail
  go_ret
  exact ⟨rfl, BQ.out⟩
 | false =>
 have FA := Lib.hid (hg rfl)
 clear hg
 obtain ⟨k0, k1, k2, k3, k4, k5⟩ := cell6_of X1.out
 go_wp2_with fail
 refine (rgreat8_any _ b w1 VB.out).mono ?_
 rintro e w2 ⟨⟨g, rfl, hg⟩, bN⟩
 clear k0 k1 k2 k3 k4 k5
 replace X0 := Lib.hid ((bN.block _ (heap_lt X0.out)).trans X0.out)
 replace X1 := Lib.hid ((bN.block _ (heap_lt X1.out)).trans X1.out)
 replace BQ := Lib.hid (BQ.out.trans (bN.mono BQ.out.size))
 replace VA := Lib.hid ((VA.out.below bN).more bN.size)
 replace VB := Lib.hid ((VB.out.below bN).more bN.size)
 clear bN
 cases g with
 | true =>
  go_wp2_with fail
  go_ret
  exact ⟨rfl, BQ.out⟩
 | false =>
 have FB := Lib.hid (hg rfl)
 clear hg
 obtain ⟨k0, k1, k2, k3, k4, k5⟩ := cell6_of X0.out
 obtain ⟨m0, m1, m2, m3, m4, m5⟩ := cell6_of X1.out
 go_wp2_with fail
 refine (hc.of _ _ a b w2 VA.out VB.out).mono ?_
 rintro e w3 ⟨u, rfl, hu, bN⟩
 clear k0 k1 k2 k3 k4 k5 m0 m1 m2 m3 m4 m5
 replace X0 := Lib.hid ((bN.block _ (heap_lt X0.out)).trans X0.out)
 replace X1 := Lib.hid ((bN.block _ (heap_lt X1.out)).trans X1.out)
 replace BQ := Lib.hid (BQ.out.trans (bN.mono BQ.out.size))
 replace VA := Lib.hid ((VA.out.below bN).more bN.size)
 replace VB := Lib.hid ((VB.out.below bN).more bN.size)
 clear bN
 rcases dif_cases a b with ⟨hma, hmb, hE, hV⟩ | ⟨hno, hE, hV⟩
 rotate_left
 ·rw [hV] at hu
  rw [hE]
  obtain ⟨DA, Dc, rfl⟩ := hu.slice
  have HNO : Hid (chk8 a = 0 → ¬ chk8 b = 0) := Lib.hid fun h1 h2 => hno ⟨chk8_zeroB.1 h1, chk8_zeroB.1 h2⟩
  clear hu hno hE hV
  obtain ⟨k0, k1, k2, k3, k4, k5⟩ := cell6_of X0.out
  go_wp2_with fail
  refine (hp.check _ a _ VA.out).mono ?_
  rintro e w4 ⟨rfl, bN⟩
  clear k0 k1 k2 k3 k4 k5
  replace X0 := Lib.hid ((bN.block _ (heap_lt X0.out)).trans X0.out)
  replace X1 := Lib.hid ((bN.block _ (heap_lt X1.out)).trans X1.out)
  replace BQ := Lib.hid (BQ.out.trans (bN.mono BQ.out.size))
  replace VA := Lib.hid ((VA.out.below bN).more bN.size)
  replace VB := Lib.hid ((VB.out.below bN).more bN.size)
  clear bN
  by_cases h1 : chk8 a = 0
  ·have h2 := HNO.out h1
   rw [h1]
   obtain ⟨k0, k1, k2, k3, k4, k5⟩ := cell6_of X1.out
   go_wp2_with fail
   refine (hp.check _ b _ VB.out).mono ?_
   rintro e w5 ⟨rfl, bN⟩
   have BF := Lib.hid (BQ.out.trans (bN.mono BQ.out.size))
   clear bN
   clear k0 k1 k2 k3 k4 k5
   have n2 : (chk8 b != 0) = true := by simpa using h2
   go_wp2_with fail
   go_ret
   exact ⟨rfl, BF.out⟩
  ·have n1 : (chk8 a != 0) = true := by simpa using h1
   go_wp2_with fail
   go_ret
   exact ⟨rfl, BQ.out⟩
 have HMEM : Hid (∀ x ∈ difV a b, 0 ≤ x.1 ∧ x.1 < 256 ∧ oneE13 a b x.1 x.2.1 = 0 ∧ oneV13 a b x.1 x.2.1 = x.2.2 ∧ (x.2.2 = 0 ∨ x.2.2 = 1 ∨ x.2.2 = 2 ∨ x.2.2 = 3)) := Lib.hid fun x hx => by
  obtain ⟨-, -, h1, h2, -, -, -, h3, h4⟩ := difV_mem hx
  obtain ⟨h5, h6⟩ := one_of hx
  exact ⟨by omega, by omega, h5, h6, by omega⟩
 rw [hV] at hu HMEM
 rw [hE]
 have SORT : Hid ((diffL a b).Pairwise DfLt) := Lib.hid (diffN_sorted a b 4)
 have FIN : Hid (cO (diffL a b) 2 (diffL a b).length = manyP a ∧ cO (diffL a b) 3 (diffL a b).length = manyP b ∧ sA (diffL a b) (diffL a b).length = eqB a ⟨a.ver, a.par, b.secs, b.pts, b.sigs, b.routes⟩) := Lib.hid ⟨(cO_all _ _).trans (old_many hma), (cO_all _ _).trans (now_many hmb), sA_all hma hmb⟩
 have LEN : Hid ((diffL a b).length ≤ 396) := Lib.hid (diffL_len a b)
 generalize diffL a b = l at hu HMEM SORT FIN LEN
 clear hV hE hma hmb
 have LD := Lib.hid (hu.in_ diffR_cells)
 obtain ⟨nl, hnl⟩ : ∃ n, n = l.length := ⟨_, rfl⟩
 have HNL := Lib.hid hnl
 obtain ⟨DA, Dc, rfl⟩ := hu.slice
 rw [← HNL.out] at LD FIN LEN ⊢
 clear hu hnl
 have hn9 : nl ≤ 396 := LEN.out
 go_wp2_with fail
 go_loopw [8, 9, 10, 11, 12, 13] (fun s8 s9 s10 s11 s12 s13 wr => ∃ i : Nat, i ≤ nl ∧ s11 = .int .i64 i ∧ s8 = .int .i64 (cO l 2 i : Nat) ∧ s9 = .int .i64 (cO l 3 i : Nat) ∧ s10 = .bool (sA l i) ∧ Below w3.heap.size w3 wr) (fun _ _ _ s11 _ _ _ => nl - (intOf s11).toNat)
 case atStart => exact ⟨0, by omega, by go_num, rfl, rfl, rfl, Below.refl _ _⟩
 case round =>
  obtain ⟨i, hi, rfl, rfl, rfl, rfl, hb⟩ := hrel
  have BW := Lib.hid hb
  clear hb
  have hO := cO_le l 2 i
  have hN := cO_le l 3 i
  by_cases hlt : i < nl
  ·have hlt' : (i : Int) < nl := by omega
   have hil : i < l.length := by have := HNL.out; omega
   obtain ⟨j0, j1, j2, hx⟩ : ∃ a b c, l[i] = (a, b, c) := ⟨_, _, _, rfl⟩
   obtain ⟨bk, ok, e1, -, c0, c1, c4⟩ := (LD.out.below diffR BW.out).at hil
   have hm := HMEM.out _ (List.getElem_mem hil)
   have HST : Hid (cO l 2 (i + 1) = cO l 2 i + (if j2 = 2 then 0 else 1) ∧ cO l 3 (i + 1) = cO l 3 i + (if j2 = 3 then 0 else 1) ∧ sA l (i + 1) = (sA l i && decide (j2 = 0))) := Lib.hid (by have e2 := cO_succ (z := 2) hil; have e3 := cO_succ (z := 3) hil; have e4 := sA_succ hil; rw [hx] at e2 e3 e4; exact ⟨e2, e3, e4⟩)
   have HPREV : Hid (i = 0 ∨ ∃ (k : Nat) (p0 p1 : Int), i = k + 1 ∧ wr.cell? ⟨bk, ok + k * 3, none⟩ = some (.int .u8 p0) ∧ wr.cell? ⟨bk, ok + k * 3 + 1, none⟩ = some (.int .i64 p1) ∧ (p0 < j0 ∨ (p0 = j0 ∧ p1 < j1))) := Lib.hid (by
    rcases Nat.eq_zero_or_pos i with h0 | h0
    ·exact .inl h0
    ·obtain ⟨k, rfl⟩ : ∃ k, i = k + 1 := ⟨i - 1, by omega⟩
     obtain ⟨b2, o2, e2, -, f0, f1, -⟩ := (LD.out.below diffR BW.out).at (show k < l.length by omega)
     rw [e1] at e2
     cases e2
     have hs := List.pairwise_iff_getElem.1 SORT.out k (k + 1) (by omega) hil (by omega)
     rw [hx] at hs
     exact .inr ⟨k, _, _, rfl, f0, f1, hs⟩)
   cases e1
   rw [hx] at c0 c1 c4 hm
   have g0 : wr.cell? ⟨bk, ok + i * 3, none⟩ = some (.int .u8 j0) := c0
   have g1 : wr.cell? ⟨bk, ok + i * 3 + 1, none⟩ = some (.int .i64 j1) := c1
   have g2 : wr.cell? ⟨bk, ok + i * 3 + 2, none⟩ = some (.int .u8 j2) := c4
   have KD : Hid (0 ≤ j0 ∧ j0 < 256) := Lib.hid ⟨hm.1, hm.2.1⟩
   have HON : Hid (oneV13 a b j0 j1 = j2 ∧ oneE13 a b j0 j1 = 0) := Lib.hid ⟨hm.2.2.2.1, hm.2.2.1⟩
   have HJ2 : Hid (j2 = 0 ∨ j2 = 1 ∨ j2 = 2 ∨ j2 = 3) := Lib.hid hm.2.2.2.2
   have BD : Hid (∀ nq, Below wr.heap.size wr (wr.drewN nq)) := Lib.hid (fun nq => drewN13 wr nq)
   clear hx c0 c1 c4 hm
   go_upto_region 13 with fail
   go_cut [97] from 54 to 97 (fun s97 wx => s97 = .bool false ∧ Below wr.heap.size wr wx)
   case first =>
    rcases HPREV.out with rfl | ⟨k, p0, p1, rfl, f0, f1, hlt2⟩
    ·go_quiet (fail)
     have hdb := BD.out nq
     generalize wr.drewN nq = wq at hdb ⊢
     go_wp2_with fail
     go_meet
     exact ⟨rfl, hdb⟩
    ·have hkk : ((k : Int) + 1) - 1 = k := by omega
     have hk1 : (k : Int) < nl := by omega
     rcases hlt2 with h1 | ⟨rfl, h1⟩
     ·have d1 : ¬ (p0 > j0) := by omega
      have d2 : (p0 == j0) = false := by simp; omega
      go_quiet (fail)
      have hdb := BD.out nq
      generalize wr.drewN nq = wq at hdb ⊢
      go_wp2_with fail
      go_meet
      exact ⟨rfl, hdb⟩
     ·have d1 : ¬ (p0 > p0) := by omega
      have d2 : ¬ (p1 ≥ j1) := by omega
      go_quiet (fail)
      have hdb := BD.out nq
      generalize wr.drewN nq = wq at hdb ⊢
      go_wp2_with fail
      go_meet
      exact ⟨rfl, hdb⟩
   case rest =>
    obtain ⟨rfl, hdb⟩ := hcut
    obtain ⟨wq, hwq⟩ : ∃ u, u = wc := ⟨_, rfl⟩
    subst hwq
    have H0 : Hid (wq.cell? ⟨bk, ok + i * 3, none⟩ = some (.int .u8 j0)) := Lib.hid ((hdb.cell (cell_lt g0)).trans g0)
    have H1 : Hid (wq.cell? ⟨bk, ok + i * 3 + 1, none⟩ = some (.int .i64 j1)) := Lib.hid ((hdb.cell (cell_lt g1)).trans g1)
    have H2 : Hid (wq.cell? ⟨bk, ok + i * 3 + 2, none⟩ = some (.int .u8 j2)) := Lib.hid ((hdb.cell (cell_lt g2)).trans g2)
    have BWq : Hid (Below w3.heap.size w3 wq) := Lib.hid (BW.out.trans (hdb.mono BW.out.size))
    have X0q := Lib.hid ((BWq.out.block _ (heap_lt X0.out)).trans X0.out)
    have X1q := Lib.hid ((BWq.out.block _ (heap_lt X1.out)).trans X1.out)
    have VAq := Lib.hid ((VA.out.below BWq.out).more BWq.out.size)
    have VBq := Lib.hid ((VB.out.below BWq.out).more BWq.out.size)
    clear hdb BD HPREV g0 g1 g2
    have g0 := H0.out
    have g1 := H1.out
    have g2 := H2.out
    rcases HJ2.out with rfl | rfl | rfl | rfl
    ·cases hS : sA l i
     ·rw [hS] at HST
      go_upto_region 20 with fail
      refine wp_region_held_drew (S := fun v => Below wq.heap.size wq v) (by kernel_rfl) (Below.refl wq.heap.size wq).drew (fun hHeld => ?_)
      refine tkc 0 hHeld (fun w' hSw => cell6_of ((hSw.block _ (heap_lt X0q.out)).trans X0q.out)) ?_;refine tkc 1 hHeld (fun w' hSw => cell6_of ((hSw.block _ (heap_lt X1q.out)).trans X1q.out)) ?_;refine tk 2 hHeld ?_;refine tk 3 hHeld ?_;refine tk 4 hHeld ?_;refine tk 5 hHeld ?_;refine tkc 6 hHeld (fun w' hSw => (hSw.cell (cell_lt H0.out)).trans H0.out) ?_;refine tk 7 hHeld ?_;refine tk 8 hHeld ?_;refine tk 9 hHeld ?_;refine tk 10 hHeld ?_;refine tkc 11 hHeld (fun w' hSw => (hSw.cell (cell_lt H1.out)).trans H1.out) ?_
      refine tkr 12 (fun K hK => ?_)
      go_simp
      refine (hc.one _ _ a b j0 j1 wq.drew ((VAq.out.below (Below.refl wq.heap.size wq).drew).more (Below.refl wq.heap.size wq).drew.size) ((VBq.out.below (Below.refl wq.heap.size wq).drew).more (Below.refl wq.heap.size wq).drew.size) KD.out.1 KD.out.2).mono ?_
      rintro e w5 ⟨rfl, b2⟩
      rw [HON.out.1, HON.out.2]
      have B2 : Below wq.heap.size wq w5 := Below.trans (Below.refl wq.heap.size wq).drew b2
      refine hK.out _ _ ?_ fun hHeld => ?_;exact B2;clear hK K;try simp only [zn, Act.put]
      refine tk 13 hHeld ?_;refine tk 14 hHeld ?_;refine tk 15 hHeld ?_;refine tk 16 hHeld ?_;refine tk 17 hHeld ?_
      refine wpAnyH_done (by kernel_rfl) ?_ _
      have BL := Lib.hid (BWq.out.trans (B2.mono BWq.out.size))
      have g2' := (B2.cell (cell_lt H2.out)).trans H2.out
      clear B2 b2 g0 g1 g2
      go_wp2_with fail
      go_roundw
      case measure => simp [intOf]; omega
      case rel => exact ⟨i + 1, by omega, by go_num, by rw [HST.out.1]; simp, by rw [HST.out.2.1]; simp, by rw [HST.out.2.2]; simp, BL.out⟩
     ·rw [hS] at HST
      go_upto_region 20 with fail
      refine wp_region_held_drew (S := fun v => Below wq.heap.size wq v) (by kernel_rfl) (Below.refl wq.heap.size wq).drew (fun hHeld => ?_)
      refine tkc 0 hHeld (fun w' hSw => cell6_of ((hSw.block _ (heap_lt X0q.out)).trans X0q.out)) ?_;refine tkc 1 hHeld (fun w' hSw => cell6_of ((hSw.block _ (heap_lt X1q.out)).trans X1q.out)) ?_;refine tk 2 hHeld ?_;refine tk 3 hHeld ?_;refine tk 4 hHeld ?_;refine tk 5 hHeld ?_;refine tkc 6 hHeld (fun w' hSw => (hSw.cell (cell_lt H0.out)).trans H0.out) ?_;refine tk 7 hHeld ?_;refine tk 8 hHeld ?_;refine tk 9 hHeld ?_;refine tk 10 hHeld ?_;refine tkc 11 hHeld (fun w' hSw => (hSw.cell (cell_lt H1.out)).trans H1.out) ?_
      refine tkr 12 (fun K hK => ?_)
      go_simp
      refine (hc.one _ _ a b j0 j1 wq.drew ((VAq.out.below (Below.refl wq.heap.size wq).drew).more (Below.refl wq.heap.size wq).drew.size) ((VBq.out.below (Below.refl wq.heap.size wq).drew).more (Below.refl wq.heap.size wq).drew.size) KD.out.1 KD.out.2).mono ?_
      rintro e w5 ⟨rfl, b2⟩
      rw [HON.out.1, HON.out.2]
      have B2 : Below wq.heap.size wq w5 := Below.trans (Below.refl wq.heap.size wq).drew b2
      refine hK.out _ _ ?_ fun hHeld => ?_;exact B2;clear hK K;try simp only [zn, Act.put]
      refine tk 13 hHeld ?_;refine tk 14 hHeld ?_;refine tk 15 hHeld ?_;refine tk 16 hHeld ?_;refine tk 17 hHeld ?_
      refine wpAnyH_done (by kernel_rfl) ?_ _
      have BL := Lib.hid (BWq.out.trans (B2.mono BWq.out.size))
      have g2' := (B2.cell (cell_lt H2.out)).trans H2.out
      clear B2 b2 g0 g1 g2
      go_wp2_with fail
      go_roundw
      case measure => simp [intOf]; omega
      case rel => exact ⟨i + 1, by omega, by go_num, by rw [HST.out.1]; simp, by rw [HST.out.2.1]; simp, by rw [HST.out.2.2]; simp, BL.out⟩
    ·cases hS : sA l i
     ·rw [hS] at HST
      go_upto_region 20 with fail
      refine wp_region_held_drew (S := fun v => Below wq.heap.size wq v) (by kernel_rfl) (Below.refl wq.heap.size wq).drew (fun hHeld => ?_)
      refine tkc 0 hHeld (fun w' hSw => cell6_of ((hSw.block _ (heap_lt X0q.out)).trans X0q.out)) ?_;refine tkc 1 hHeld (fun w' hSw => cell6_of ((hSw.block _ (heap_lt X1q.out)).trans X1q.out)) ?_;refine tk 2 hHeld ?_;refine tk 3 hHeld ?_;refine tk 4 hHeld ?_;refine tk 5 hHeld ?_;refine tkc 6 hHeld (fun w' hSw => (hSw.cell (cell_lt H0.out)).trans H0.out) ?_;refine tk 7 hHeld ?_;refine tk 8 hHeld ?_;refine tk 9 hHeld ?_;refine tk 10 hHeld ?_;refine tkc 11 hHeld (fun w' hSw => (hSw.cell (cell_lt H1.out)).trans H1.out) ?_
      refine tkr 12 (fun K hK => ?_)
      go_simp
      refine (hc.one _ _ a b j0 j1 wq.drew ((VAq.out.below (Below.refl wq.heap.size wq).drew).more (Below.refl wq.heap.size wq).drew.size) ((VBq.out.below (Below.refl wq.heap.size wq).drew).more (Below.refl wq.heap.size wq).drew.size) KD.out.1 KD.out.2).mono ?_
      rintro e w5 ⟨rfl, b2⟩
      rw [HON.out.1, HON.out.2]
      have B2 : Below wq.heap.size wq w5 := Below.trans (Below.refl wq.heap.size wq).drew b2
      refine hK.out _ _ ?_ fun hHeld => ?_;exact B2;clear hK K;try simp only [zn, Act.put]
      refine tk 13 hHeld ?_;refine tk 14 hHeld ?_;refine tk 15 hHeld ?_;refine tk 16 hHeld ?_;refine tk 17 hHeld ?_
      refine wpAnyH_done (by kernel_rfl) ?_ _
      have BL := Lib.hid (BWq.out.trans (B2.mono BWq.out.size))
      have g2' := (B2.cell (cell_lt H2.out)).trans H2.out
      clear B2 b2 g0 g1 g2
      go_wp2_with fail
      go_roundw
      case measure => simp [intOf]; omega
      case rel => exact ⟨i + 1, by omega, by go_num, by rw [HST.out.1]; simp, by rw [HST.out.2.1]; simp, by rw [HST.out.2.2]; simp, BL.out⟩
     ·rw [hS] at HST
      go_upto_region 20 with fail
      refine wp_region_held_drew (S := fun v => Below wq.heap.size wq v) (by kernel_rfl) (Below.refl wq.heap.size wq).drew (fun hHeld => ?_)
      refine tkc 0 hHeld (fun w' hSw => cell6_of ((hSw.block _ (heap_lt X0q.out)).trans X0q.out)) ?_;refine tkc 1 hHeld (fun w' hSw => cell6_of ((hSw.block _ (heap_lt X1q.out)).trans X1q.out)) ?_;refine tk 2 hHeld ?_;refine tk 3 hHeld ?_;refine tk 4 hHeld ?_;refine tk 5 hHeld ?_;refine tkc 6 hHeld (fun w' hSw => (hSw.cell (cell_lt H0.out)).trans H0.out) ?_;refine tk 7 hHeld ?_;refine tk 8 hHeld ?_;refine tk 9 hHeld ?_;refine tk 10 hHeld ?_;refine tkc 11 hHeld (fun w' hSw => (hSw.cell (cell_lt H1.out)).trans H1.out) ?_
      refine tkr 12 (fun K hK => ?_)
      go_simp
      refine (hc.one _ _ a b j0 j1 wq.drew ((VAq.out.below (Below.refl wq.heap.size wq).drew).more (Below.refl wq.heap.size wq).drew.size) ((VBq.out.below (Below.refl wq.heap.size wq).drew).more (Below.refl wq.heap.size wq).drew.size) KD.out.1 KD.out.2).mono ?_
      rintro e w5 ⟨rfl, b2⟩
      rw [HON.out.1, HON.out.2]
      have B2 : Below wq.heap.size wq w5 := Below.trans (Below.refl wq.heap.size wq).drew b2
      refine hK.out _ _ ?_ fun hHeld => ?_;exact B2;clear hK K;try simp only [zn, Act.put]
      refine tk 13 hHeld ?_;refine tk 14 hHeld ?_;refine tk 15 hHeld ?_;refine tk 16 hHeld ?_;refine tk 17 hHeld ?_
      refine wpAnyH_done (by kernel_rfl) ?_ _
      have BL := Lib.hid (BWq.out.trans (B2.mono BWq.out.size))
      have g2' := (B2.cell (cell_lt H2.out)).trans H2.out
      clear B2 b2 g0 g1 g2
      go_wp2_with fail
      go_roundw
      case measure => simp [intOf]; omega
      case rel => exact ⟨i + 1, by omega, by go_num, by rw [HST.out.1]; simp, by rw [HST.out.2.1]; simp, by rw [HST.out.2.2]; simp, BL.out⟩
    ·cases hS : sA l i
     ·rw [hS] at HST
      go_upto_region 20 with fail
      refine wp_region_held_drew (S := fun v => Below wq.heap.size wq v) (by kernel_rfl) (Below.refl wq.heap.size wq).drew (fun hHeld => ?_)
      refine tkc 0 hHeld (fun w' hSw => cell6_of ((hSw.block _ (heap_lt X0q.out)).trans X0q.out)) ?_;refine tkc 1 hHeld (fun w' hSw => cell6_of ((hSw.block _ (heap_lt X1q.out)).trans X1q.out)) ?_;refine tk 2 hHeld ?_;refine tk 3 hHeld ?_;refine tk 4 hHeld ?_;refine tk 5 hHeld ?_;refine tkc 6 hHeld (fun w' hSw => (hSw.cell (cell_lt H0.out)).trans H0.out) ?_;refine tk 7 hHeld ?_;refine tk 8 hHeld ?_;refine tk 9 hHeld ?_;refine tk 10 hHeld ?_;refine tkc 11 hHeld (fun w' hSw => (hSw.cell (cell_lt H1.out)).trans H1.out) ?_
      refine tkr 12 (fun K hK => ?_)
      go_simp
      refine (hc.one _ _ a b j0 j1 wq.drew ((VAq.out.below (Below.refl wq.heap.size wq).drew).more (Below.refl wq.heap.size wq).drew.size) ((VBq.out.below (Below.refl wq.heap.size wq).drew).more (Below.refl wq.heap.size wq).drew.size) KD.out.1 KD.out.2).mono ?_
      rintro e w5 ⟨rfl, b2⟩
      rw [HON.out.1, HON.out.2]
      have B2 : Below wq.heap.size wq w5 := Below.trans (Below.refl wq.heap.size wq).drew b2
      refine hK.out _ _ ?_ fun hHeld => ?_;exact B2;clear hK K;try simp only [zn, Act.put]
      refine tk 13 hHeld ?_;refine tk 14 hHeld ?_;refine tk 15 hHeld ?_;refine tk 16 hHeld ?_;refine tk 17 hHeld ?_
      refine wpAnyH_done (by kernel_rfl) ?_ _
      have BL := Lib.hid (BWq.out.trans (B2.mono BWq.out.size))
      have g2' := (B2.cell (cell_lt H2.out)).trans H2.out
      clear B2 b2 g0 g1 g2
      go_wp2_with fail
      go_roundw
      case measure => simp [intOf]; omega
      case rel => exact ⟨i + 1, by omega, by go_num, by rw [HST.out.1]; simp, by rw [HST.out.2.1]; simp, by rw [HST.out.2.2]; simp, BL.out⟩
     ·rw [hS] at HST
      go_upto_region 20 with fail
      refine wp_region_held_drew (S := fun v => Below wq.heap.size wq v) (by kernel_rfl) (Below.refl wq.heap.size wq).drew (fun hHeld => ?_)
      refine tkc 0 hHeld (fun w' hSw => cell6_of ((hSw.block _ (heap_lt X0q.out)).trans X0q.out)) ?_;refine tkc 1 hHeld (fun w' hSw => cell6_of ((hSw.block _ (heap_lt X1q.out)).trans X1q.out)) ?_;refine tk 2 hHeld ?_;refine tk 3 hHeld ?_;refine tk 4 hHeld ?_;refine tk 5 hHeld ?_;refine tkc 6 hHeld (fun w' hSw => (hSw.cell (cell_lt H0.out)).trans H0.out) ?_;refine tk 7 hHeld ?_;refine tk 8 hHeld ?_;refine tk 9 hHeld ?_;refine tk 10 hHeld ?_;refine tkc 11 hHeld (fun w' hSw => (hSw.cell (cell_lt H1.out)).trans H1.out) ?_
      refine tkr 12 (fun K hK => ?_)
      go_simp
      refine (hc.one _ _ a b j0 j1 wq.drew ((VAq.out.below (Below.refl wq.heap.size wq).drew).more (Below.refl wq.heap.size wq).drew.size) ((VBq.out.below (Below.refl wq.heap.size wq).drew).more (Below.refl wq.heap.size wq).drew.size) KD.out.1 KD.out.2).mono ?_
      rintro e w5 ⟨rfl, b2⟩
      rw [HON.out.1, HON.out.2]
      have B2 : Below wq.heap.size wq w5 := Below.trans (Below.refl wq.heap.size wq).drew b2
      refine hK.out _ _ ?_ fun hHeld => ?_;exact B2;clear hK K;try simp only [zn, Act.put]
      refine tk 13 hHeld ?_;refine tk 14 hHeld ?_;refine tk 15 hHeld ?_;refine tk 16 hHeld ?_;refine tk 17 hHeld ?_
      refine wpAnyH_done (by kernel_rfl) ?_ _
      have BL := Lib.hid (BWq.out.trans (B2.mono BWq.out.size))
      have g2' := (B2.cell (cell_lt H2.out)).trans H2.out
      clear B2 b2 g0 g1 g2
      go_wp2_with fail
      go_roundw
      case measure => simp [intOf]; omega
      case rel => exact ⟨i + 1, by omega, by go_num, by rw [HST.out.1]; simp, by rw [HST.out.2.1]; simp, by rw [HST.out.2.2]; simp, BL.out⟩
    ·cases hS : sA l i
     ·rw [hS] at HST
      go_upto_region 20 with fail
      refine wp_region_held_drew (S := fun v => Below wq.heap.size wq v) (by kernel_rfl) (Below.refl wq.heap.size wq).drew (fun hHeld => ?_)
      refine tkc 0 hHeld (fun w' hSw => cell6_of ((hSw.block _ (heap_lt X0q.out)).trans X0q.out)) ?_;refine tkc 1 hHeld (fun w' hSw => cell6_of ((hSw.block _ (heap_lt X1q.out)).trans X1q.out)) ?_;refine tk 2 hHeld ?_;refine tk 3 hHeld ?_;refine tk 4 hHeld ?_;refine tk 5 hHeld ?_;refine tkc 6 hHeld (fun w' hSw => (hSw.cell (cell_lt H0.out)).trans H0.out) ?_;refine tk 7 hHeld ?_;refine tk 8 hHeld ?_;refine tk 9 hHeld ?_;refine tk 10 hHeld ?_;refine tkc 11 hHeld (fun w' hSw => (hSw.cell (cell_lt H1.out)).trans H1.out) ?_
      refine tkr 12 (fun K hK => ?_)
      go_simp
      refine (hc.one _ _ a b j0 j1 wq.drew ((VAq.out.below (Below.refl wq.heap.size wq).drew).more (Below.refl wq.heap.size wq).drew.size) ((VBq.out.below (Below.refl wq.heap.size wq).drew).more (Below.refl wq.heap.size wq).drew.size) KD.out.1 KD.out.2).mono ?_
      rintro e w5 ⟨rfl, b2⟩
      rw [HON.out.1, HON.out.2]
      have B2 : Below wq.heap.size wq w5 := Below.trans (Below.refl wq.heap.size wq).drew b2
      refine hK.out _ _ ?_ fun hHeld => ?_;exact B2;clear hK K;try simp only [zn, Act.put]
      refine tk 13 hHeld ?_;refine tk 14 hHeld ?_;refine tk 15 hHeld ?_;refine tk 16 hHeld ?_;refine tk 17 hHeld ?_
      refine wpAnyH_done (by kernel_rfl) ?_ _
      have BL := Lib.hid (BWq.out.trans (B2.mono BWq.out.size))
      have g2' := (B2.cell (cell_lt H2.out)).trans H2.out
      clear B2 b2 g0 g1 g2
      go_wp2_with fail
      go_roundw
      case measure => simp [intOf]; omega
      case rel => exact ⟨i + 1, by omega, by go_num, by rw [HST.out.1]; simp, by rw [HST.out.2.1]; simp, by rw [HST.out.2.2]; simp, BL.out⟩
     ·rw [hS] at HST
      go_upto_region 20 with fail
      refine wp_region_held_drew (S := fun v => Below wq.heap.size wq v) (by kernel_rfl) (Below.refl wq.heap.size wq).drew (fun hHeld => ?_)
      refine tkc 0 hHeld (fun w' hSw => cell6_of ((hSw.block _ (heap_lt X0q.out)).trans X0q.out)) ?_;refine tkc 1 hHeld (fun w' hSw => cell6_of ((hSw.block _ (heap_lt X1q.out)).trans X1q.out)) ?_;refine tk 2 hHeld ?_;refine tk 3 hHeld ?_;refine tk 4 hHeld ?_;refine tk 5 hHeld ?_;refine tkc 6 hHeld (fun w' hSw => (hSw.cell (cell_lt H0.out)).trans H0.out) ?_;refine tk 7 hHeld ?_;refine tk 8 hHeld ?_;refine tk 9 hHeld ?_;refine tk 10 hHeld ?_;refine tkc 11 hHeld (fun w' hSw => (hSw.cell (cell_lt H1.out)).trans H1.out) ?_
      refine tkr 12 (fun K hK => ?_)
      go_simp
      refine (hc.one _ _ a b j0 j1 wq.drew ((VAq.out.below (Below.refl wq.heap.size wq).drew).more (Below.refl wq.heap.size wq).drew.size) ((VBq.out.below (Below.refl wq.heap.size wq).drew).more (Below.refl wq.heap.size wq).drew.size) KD.out.1 KD.out.2).mono ?_
      rintro e w5 ⟨rfl, b2⟩
      rw [HON.out.1, HON.out.2]
      have B2 : Below wq.heap.size wq w5 := Below.trans (Below.refl wq.heap.size wq).drew b2
      refine hK.out _ _ ?_ fun hHeld => ?_;exact B2;clear hK K;try simp only [zn, Act.put]
      refine tk 13 hHeld ?_;refine tk 14 hHeld ?_;refine tk 15 hHeld ?_;refine tk 16 hHeld ?_;refine tk 17 hHeld ?_
      refine wpAnyH_done (by kernel_rfl) ?_ _
      have BL := Lib.hid (BWq.out.trans (B2.mono BWq.out.size))
      have g2' := (B2.cell (cell_lt H2.out)).trans H2.out
      clear B2 b2 g0 g1 g2
      go_wp2_with fail
      go_roundw
      case measure => simp [intOf]; omega
      case rel => exact ⟨i + 1, by omega, by go_num, by rw [HST.out.1]; simp, by rw [HST.out.2.1]; simp, by rw [HST.out.2.2]; simp, BL.out⟩
  ·obtain rfl : i = nl := by omega
   have hlt' : ¬ (i : Int) < i := by omega
   have bN := BW.out
   clear BW hn9 LD HMEM SORT
   replace X0 := Lib.hid ((bN.block _ (heap_lt X0.out)).trans X0.out)
   replace X1 := Lib.hid ((bN.block _ (heap_lt X1.out)).trans X1.out)
   replace BQ := Lib.hid (BQ.out.trans (bN.mono BQ.out.size))
   replace VA := Lib.hid ((VA.out.below bN).more bN.size)
   replace VB := Lib.hid ((VB.out.below bN).more bN.size)
   clear bN
   rw [FIN.out.1, FIN.out.2.1, FIN.out.2.2]
   clear hO hN
   obtain ⟨k0, k1, k2, k3, k4, k5⟩ := cell6_of X0.out
   go_wp2_with fail
   refine (rmany13_any _ a _ VA.out FA.out).mono ?_
   rintro e w5 ⟨rfl, bN⟩
   clear k0 k1 k2 k3 k4 k5
   replace X0 := Lib.hid ((bN.block _ (heap_lt X0.out)).trans X0.out)
   replace X1 := Lib.hid ((bN.block _ (heap_lt X1.out)).trans X1.out)
   replace BQ := Lib.hid (BQ.out.trans (bN.mono BQ.out.size))
   replace VA := Lib.hid ((VA.out.below bN).more bN.size)
   replace VB := Lib.hid ((VB.out.below bN).more bN.size)
   clear bN
   have d1 : ((manyP a : Int) != (manyP a : Int)) = false := by simp
   obtain ⟨k0, k1, k2, k3, k4, k5⟩ := cell6_of X1.out
   go_wp2_with fail
   refine (rmany13_any _ b _ VB.out FB.out).mono ?_
   rintro e w6 ⟨rfl, bN⟩
   clear k0 k1 k2 k3 k4 k5
   replace X0 := Lib.hid ((bN.block _ (heap_lt X0.out)).trans X0.out)
   replace X1 := Lib.hid ((bN.block _ (heap_lt X1.out)).trans X1.out)
   replace BQ := Lib.hid (BQ.out.trans (bN.mono BQ.out.size))
   replace VA := Lib.hid ((VA.out.below bN).more bN.size)
   replace VB := Lib.hid ((VB.out.below bN).more bN.size)
   clear bN
   have d2 : ((manyP b : Int) != (manyP b : Int)) = false := by simp
   obtain ⟨k0, k1, k2, k3, k4, k5⟩ := cell6_of X1.out
   go_wp2_with fail
   refine (rtwin8_any _ b _ VB.out FB.out).mono ?_
   rintro e wT ⟨v2, v3, v4, v5, rfl, ho, bN⟩
   obtain ⟨O2, f2, rfl⟩ := ho.secs.slice
   obtain ⟨O3, f3, rfl⟩ := ho.pts.slice
   obtain ⟨O4, f4, rfl⟩ := ho.sigs.slice
   obtain ⟨O5, f5, rfl⟩ := ho.routes.slice
   have VO : Hid (PlanV wT wT.heap.size (.agg #[.int .i64 a.ver, .int .i64 a.par, .slice O2 b.secs.length f2, .slice O3 b.pts.length f3, .slice O4 b.sigs.length f4, .slice O5 b.routes.length f5]) ⟨a.ver, a.par, b.secs, b.pts, b.sigs, b.routes⟩) := Lib.hid ⟨_, _, _, _, rfl, ⟨ho.in_.secs, ho.in_.pts, ho.in_.sigs, ho.in_.routes⟩⟩
   clear ho d1 d2
   clear k0 k1 k2 k3 k4 k5
   replace X0 := Lib.hid ((bN.block _ (heap_lt X0.out)).trans X0.out)
   replace X1 := Lib.hid ((bN.block _ (heap_lt X1.out)).trans X1.out)
   replace BQ := Lib.hid (BQ.out.trans (bN.mono BQ.out.size))
   replace VA := Lib.hid ((VA.out.below bN).more bN.size)
   replace VB := Lib.hid ((VB.out.below bN).more bN.size)
   clear bN
   have XX0 := heap_alloc_self wT (.cells #[.int .i64 0, .int .i64 0, .slice none 0 0, .slice none 0 0, .slice none 0 0, .slice none 0 0] 30)
   have hb1 := below_setRow (below_new wT (.cells #[.int .i64 0, .int .i64 0, .slice none 0 0, .slice none 0 0, .slice none 0 0, .slice none 0 0] 30)) (Nat.le_refl _) #[.int .i64 b.ver, .int .i64 b.par, .slice O2 b.secs.length f2, .slice O3 b.pts.length f3, .slice O4 b.sigs.length f4, .slice O5 b.routes.length f5]
   have hx1 := setRow_heap (wT.alloc (.cells #[.int .i64 0, .int .i64 0, .slice none 0 0, .slice none 0 0, .slice none 0 0, .slice none 0 0] 30)) wT.heap.size _ #[.int .i64 b.ver, .int .i64 b.par, .slice O2 b.secs.length f2, .slice O3 b.pts.length f3, .slice O4 b.sigs.length f4, .slice O5 b.routes.length f5] 30 _ XX0
   go_upto_region 26 with ((with_reducible show wpList _ _ _ (⟨none, _, _, _, _, _⟩ :: _) _ _); refine wpList_store_rowS rfl _ (.tmp 14) (.tmp 161) rfl wT.heap.size rfl (c' := #[.int .i64 b.ver, .int .i64 b.par, .slice O2 b.secs.length f2, .slice O3 b.pts.length f3, .slice O4 b.sigs.length f4, .slice O5 b.routes.length f5]) rfl XX0 infoPlan6 rfl (by simp [Value.oneCell']) ?_)
   generalize (wT.alloc (.cells #[.int .i64 0, .int .i64 0, .slice none 0 0, .slice none 0 0, .slice none 0 0, .slice none 0 0] 30)).setRow wT.heap.size #[.int .i64 b.ver, .int .i64 b.par, .slice O2 b.secs.length f2, .slice O3 b.pts.length f3, .slice O4 b.sigs.length f4, .slice O5 b.routes.length f5] = q1 at hb1 hx1 ⊢
   obtain ⟨p3, hp1⟩ : ∃ n, n = wT.heap.size := ⟨_, rfl⟩
   rw [← hp1] at hx1 ⊢
   have HP := Lib.hid hp1
   have B1 := Lib.hid hb1
   have Y1 := Lib.hid hx1
   clear hx1 XX0 hp1 hb1
   obtain ⟨k0, k1, k2, k3, k4, k5⟩ := cell6_of ((B1.out.block _ (heap_lt X0.out)).trans X0.out)
   obtain ⟨m0, m1, m2, m3, m4, m5⟩ := cell6_of Y1.out
   have fz := frozen2_of Y1.out 0
   go_upto_region 27 with fail
   have hb2 := below_set B1.out (show wT.heap.size ≤ p3 by have := HP.out; omega) 0 (.int .i64 a.ver)
   have hx2 := heap_setK Y1.out (k := 0) (.int .i64 a.ver)
   generalize q1.setCell ⟨p3, 0, none⟩ (.int .i64 a.ver) = q2 at hb2 hx2 ⊢
   have B2 := Lib.hid hb2
   have Y2 : Hid (q2.heap[p3]? = some (.cells #[.int .i64 a.ver, .int .i64 b.par, .slice O2 b.secs.length f2, .slice O3 b.pts.length f3, .slice O4 b.sigs.length f4, .slice O5 b.routes.length f5] 30 (0, 0))) := Lib.hid hx2
   clear hb2 hx2 B1 Y1 fz
   clear k0 k1 k2 k3 k4 k5 m0 m1 m2 m3 m4 m5
   obtain ⟨k0, k1, k2, k3, k4, k5⟩ := cell6_of ((B2.out.block _ (heap_lt X0.out)).trans X0.out)
   obtain ⟨m0, m1, m2, m3, m4, m5⟩ := cell6_of Y2.out
   have fz := frozen2_of Y2.out 1
   go_upto_region 28 with fail
   have hb2 := below_set B2.out (show wT.heap.size ≤ p3 by have := HP.out; omega) 1 (.int .i64 a.par)
   have hx2 := heap_setK Y2.out (k := 1) (.int .i64 a.par)
   generalize q2.setCell ⟨p3, 1, none⟩ (.int .i64 a.par) = q3 at hb2 hx2 ⊢
   have B3 := Lib.hid hb2
   have Y3 : Hid (q3.heap[p3]? = some (.cells #[.int .i64 a.ver, .int .i64 a.par, .slice O2 b.secs.length f2, .slice O3 b.pts.length f3, .slice O4 b.sigs.length f4, .slice O5 b.routes.length f5] 30 (0, 0))) := Lib.hid hx2
   clear hb2 hx2 B2 Y2 fz
   clear k0 k1 k2 k3 k4 k5 m0 m1 m2 m3 m4 m5
   obtain ⟨k0, k1, k2, k3, k4, k5⟩ := cell6_of ((B3.out.block _ (heap_lt X0.out)).trans X0.out)
   obtain ⟨m0, m1, m2, m3, m4, m5⟩ := cell6_of Y3.out
   go_wp2_with fail
   refine (rsame8_any _ _ a ⟨a.ver, a.par, b.secs, b.pts, b.sigs, b.routes⟩ q3 ((VA.out.below B3.out).more B3.out.size) ((VO.out.below B3.out).more B3.out.size)).mono ?_
   rintro e w9 ⟨rfl, bN⟩
   have BF := Lib.hid (BQ.out.trans ((B3.out.trans (bN.mono B3.out.size)).mono BQ.out.size))
   generalize eqB a ⟨a.ver, a.par, b.secs, b.pts, b.sigs, b.routes⟩ = S
   have d3 : (S == S) = true := by simp
   clear bN
   clear k0 k1 k2 k3 k4 k5 m0 m1 m2 m3 m4 m5
   go_wp2_with fail
   go_ret
   exact ⟨by try simp, BF.out⟩
end Go.Proofs.Ytdldphkofkbmaaa
