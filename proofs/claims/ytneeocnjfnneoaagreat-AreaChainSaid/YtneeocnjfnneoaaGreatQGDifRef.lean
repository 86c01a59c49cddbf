/-
 The document's own package diff: place, same.
 Conditions: none.
-/
import Derived.Test.YtneeocnjfnneoaaGreatQGDifM
import Derived.Test.YtneeocnjfnneoaaGreatQGPlnRefD
import Derived.Test.YtneeocnjfnneoaaGreatQGPlnRefB
set_option linter.unusedVariables false
set_option linter.unusedSimpArgs false
set_option maxRecDepth 100000
namespace Go.Proofs.YtneeocnjfnneoaaGreat
open Go.RowKit

theorem rplace13_any (v : Value) (p : Pl) (kind id : Int) (w : World) (h : PlanV w w.heap.size v p) :
  Calls Tryz.prog 123 #[v, .int .u8 kind, .int .i64 id] w fun e w' => e = .returned (.int .i64 (placeD p kind id)) ∧ Below w.heap.size w w' := by
 obtain ⟨u2, u3, u4, u5, rfl, hin⟩ := h
 have hq0 := heap_alloc_self w (.cells #[.int .i64 p.ver, .int .i64 p.par, u2, u3, u4, u5] 33)
 have hqb := below_new w (.cells #[.int .i64 p.ver, .int .i64 p.par, u2, u3, u4, u5] 33)
 go_enter Tryz.func123, Tryz.ntmps123
 go_upto_region 1 with fail
 generalize w.alloc (.cells #[.int .i64 p.ver, .int .i64 p.par, u2, u3, u4, u5] 33) = q at hq0 hqb ⊢
 have BQ := Lib.hid hqb
 have HQ := Lib.hid ((hin.below hqb).more hqb.size)
 obtain ⟨k0, k1, k2, k3, k4, k5⟩ := cell6_of hq0
 clear hq0 hqb hin
 by_cases h1 : kind = 1
 ·have d1 : (kind == 1) = true := by simpa using h1
  have HP : Hid (placeD p kind id = atS p.secs id) := Lib.hid (by unfold placeD; rw [if_pos h1])
  clear h1
  go_wp2_with fail
  refine (rat_any _ p.secs id q HQ.out.secs).mono ?_
  rintro e w' ⟨rfl, hw⟩
  rw [hw]
  clear hw w'
  go_wp2_with fail
  go_ret
  exact ⟨by rw [HP.out]; try rfl, BQ.out⟩
 have d1 : (kind == 1) = false := by simpa using h1
 by_cases h2 : kind = 2
 ·have d2 : (kind == 2) = true := by simpa using h2
  have HP : Hid (placeD p kind id = at1 (fun x : Jn => x.1) p.pts id) := Lib.hid (by unfold placeD; rw [if_neg h1, if_pos h2])
  clear h1 h2
  go_wp2_with fail
  refine (rpointat_any _ p.pts id q HQ.out.pts).mono ?_
  rintro e w' ⟨rfl, hw⟩
  rw [hw]
  clear hw w'
  go_wp2_with fail
  go_ret
  exact ⟨by rw [HP.out]; try rfl, BQ.out⟩
 have d2 : (kind == 2) = false := by simpa using h2
 by_cases h3 : kind = 3
 ·have d3 : (kind == 3) = true := by simpa using h3
  have HP : Hid (placeD p kind id = at1 (fun x : Sg => x.1) p.sigs id) := Lib.hid (by unfold placeD; rw [if_neg h1, if_neg h2, if_pos h3])
  clear h1 h2 h3
  go_wp2_with fail
  refine (rsignalat_any _ p.sigs id q HQ.out.sigs).mono ?_
  rintro e w' ⟨rfl, hw⟩
  rw [hw]
  clear hw w'
  go_wp2_with fail
  go_ret
  exact ⟨by rw [HP.out]; try rfl, BQ.out⟩
 have d3 : (kind == 3) = false := by simpa using h3
 have HP : Hid (placeD p kind id = at1 (fun x : Rt => x.id) p.routes id) := Lib.hid (by unfold placeD; rw [if_neg h1, if_neg h2, if_neg h3])
 clear h1 h2 h3
 go_wp2_with fail
 refine (rrouteat_any _ p.routes id q HQ.out.routes).mono ?_
 rintro e w' ⟨rfl, hw⟩
 rw [hw]
 clear hw w'
 go_wp2_with fail
 go_ret
 exact ⟨by rw [HP.out]; try rfl, BQ.out⟩
theorem eqB_sec (s t : Sec) : eqB (Any13.sec s) (.sec t) = eqB s t := by rw [Bool.eq_iff_iff, eqB_iff, eqB_iff]; simp
theorem eqB_route (s t : Rt) : eqB (Any13.route s) (.route t) = eqB s t := by rw [Bool.eq_iff_iff, eqB_iff, eqB_iff]; simp
theorem eqB_pt (a b c d : Int) : eqB (Any13.pt (a, b)) (.pt (c, d)) = ((a == c) && (b == d)) := by rw [Bool.eq_iff_iff, eqB_iff]; simp
theorem eqB_sig (a b c d e f : Int) : eqB (Any13.sig (a, b, c)) (.sig (d, e, f)) = ((a == d) && ((b == e) && (c == f))) := by rw [Bool.eq_iff_iff, eqB_iff]; simp
theorem pt_eq13 (a b c d : Int) (w : World) : (Op.equalIn 10000 60 (.agg #[.int .i64 a, .int .i64 b]) (.agg #[.int .i64 c, .int .i64 d])).run Tryz.prog w = .ok ((a == c) && (b == d)) w := by
 have hagg : (isAgg 3).run Tryz.prog w = .ok false w := by
  unfold isAgg
  rw [Sem.run_bind, run_underlying Tryz.underlying3 w]
  simp
 rw [run_equalIn_agg w 9999 60 _ _ (by rw [Program.fieldsOf, Tryz.underlying60]) (by kernel_rfl)]
 simp only [Program.fieldsOf, Tryz.underlying60, Op.eqFields]
 have hi : ∀ x y : Int, (Op.equalIn 9999 3 (.int .i64 x) (.int .i64 y)).run Tryz.prog w = .ok (x == y) w := fun x y => run_equalIn_int w 9998 3 .i64 .i64 x y Tryz.underlying3
 by_cases h1 : a = c <;> by_cases h2 : b = d <;> simp [part, Sem.run_bind, Sem.run_ite, hagg, hi, h1, h2]
theorem sig_eq13 (a b c d e f : Int) (w : World) : (Op.equalIn 10000 69 (.agg #[.int .i64 a, .int .i64 b, .int .i64 c]) (.agg #[.int .i64 d, .int .i64 e, .int .i64 f])).run Tryz.prog w = .ok ((a == d) && ((b == e) && (c == f))) w := by
 have hagg : (isAgg 3).run Tryz.prog w = .ok false w := by
  unfold isAgg
  rw [Sem.run_bind, run_underlying Tryz.underlying3 w]
  simp
 rw [run_equalIn_agg w 9999 69 _ _ (by rw [Program.fieldsOf, Tryz.underlying69]) (by kernel_rfl)]
 simp only [Program.fieldsOf, Tryz.underlying69, Op.eqFields]
 have hi : ∀ x y : Int, (Op.equalIn 9999 3 (.int .i64 x) (.int .i64 y)).run Tryz.prog w = .ok (x == y) w := fun x y => run_equalIn_int w 9998 3 .i64 .i64 x y Tryz.underlying3
 by_cases h1 : a = d <;> by_cases h2 : b = e <;> by_cases h3 : c = f <;> simp [part, Sem.run_bind, Sem.run_ite, hagg, hi, h1, h2, h3]
set_option maxHeartbeats 8000000 in
theorem rsame13_sec (v y : Value) (a b : Pl) (i k : Nat) (w : World) (h : PlanV w w.heap.size v a) (h' : PlanV w w.heap.size y b) (hi : i < a.secs.length) (hk : k < b.secs.length) :
  Calls Tryz.prog 124 #[v, y, .int .u8 1, .int .i64 (i : Int), .int .i64 (k : Int)] w fun e w' => e = .returned (.bool (eqB a.secs[i] b.secs[k])) ∧ Below w.heap.size w w' := by
 obtain ⟨u2, u3, u4, u5, rfl, hin⟩ := h
 obtain ⟨z2, z3, z4, z5, rfl, hin'⟩ := h'
 obtain ⟨AA, ac, rfl, -, -⟩ := hin.secs.slice
 obtain ⟨BA, bc, rfl, -, -⟩ := hin'.secs.slice
 obtain ⟨an, han⟩ : ∃ n, n = a.secs.length := ⟨_, rfl⟩
 obtain ⟨bn, hbn⟩ : ∃ n, n = b.secs.length := ⟨_, rfl⟩
 rw [← han] at hin
 rw [← hbn] at hin'
 have hil : (i : Int) < an := by omega
 have hkl : (k : Int) < bn := by omega
 rw [← han, ← hbn]
 clear han hbn
 obtain ⟨h0, h1, hqb⟩ := two_boxes w (.cells #[.int .i64 a.ver, .int .i64 a.par, .slice AA an ac, u3, u4, u5] 33) (.cells #[.int .i64 b.ver, .int .i64 b.par, .slice BA bn bc, z3, z4, z5] 33)
 go_enter Tryz.func124, Tryz.ntmps124
 go_upto_region 3 with fail
 generalize (w.alloc (.cells #[.int .i64 a.ver, .int .i64 a.par, .slice AA an ac, u3, u4, u5] 33)).alloc (.cells #[.int .i64 b.ver, .int .i64 b.par, .slice BA bn bc, z3, z4, z5] 33) = q at h0 h1 hqb ⊢
 have X0 := Lib.hid h0
 have X1 := Lib.hid h1
 have BQ := Lib.hid hqb
 have HAQ := Lib.hid ((hin.below hqb).more hqb.size)
 have HBQ := Lib.hid ((hin'.below hqb).more hqb.size)
 clear h0 h1 hqb hin hin'
 obtain ⟨Ab, Ao, Ae, Alt, helA⟩ := (HAQ.out.secs).at hi
 cases Ae
 obtain ⟨hc0, hc1, u, hc2, hu⟩ := helA
 obtain ⟨Ax0, Ax1, Axs, hx⟩ : ∃ t1 t2 t3, a.secs[i] = (t1, t2, t3) := ⟨_, _, _, rfl⟩
 rw [hx] at hc0 hc1 hu
 dsimp only at hu
 obtain ⟨AU, Auc, rfl, -, -⟩ := hu.slice
 obtain ⟨Aun, hun⟩ : ∃ n, n = Axs.length := ⟨_, rfl⟩
 have VA : Hid (SecV q q.heap.size (.agg #[.int .i64 Ax0, .int .i64 Ax1, .slice AU Aun Auc]) (Ax0, Ax1, Axs)) := Lib.hid ⟨_, rfl, by rw [hun]; exact hu⟩
 rw [← hun] at hc2
 have hgA0 : q.cell? ⟨Ab, Ao + i * 3, none⟩ = some (.int .i64 Ax0) := hc0
 have hgA1 : q.cell? ⟨Ab, Ao + i * 3 + 1, none⟩ = some (.int .i64 Ax1) := hc1
 have hgA2 : q.cell? ⟨Ab, Ao + i * 3 + 2, none⟩ = some (.slice AU Aun Auc) := hc2
 have HXA := Lib.hid hx
 clear hx hc0 hc1 hc2 hu hun Alt
 obtain ⟨Bb, Bo, Be, Blt, helB⟩ := (HBQ.out.secs).at hk
 cases Be
 obtain ⟨hc0, hc1, u, hc2, hu⟩ := helB
 obtain ⟨Bx0, Bx1, Bxs, hx⟩ : ∃ t1 t2 t3, b.secs[k] = (t1, t2, t3) := ⟨_, _, _, rfl⟩
 rw [hx] at hc0 hc1 hu
 dsimp only at hu
 obtain ⟨BU, Buc, rfl, -, -⟩ := hu.slice
 obtain ⟨Bun, hun⟩ : ∃ n, n = Bxs.length := ⟨_, rfl⟩
 have VB : Hid (SecV q q.heap.size (.agg #[.int .i64 Bx0, .int .i64 Bx1, .slice BU Bun Buc]) (Bx0, Bx1, Bxs)) := Lib.hid ⟨_, rfl, by rw [hun]; exact hu⟩
 rw [← hun] at hc2
 have hgB0 : q.cell? ⟨Bb, Bo + k * 3, none⟩ = some (.int .i64 Bx0) := hc0
 have hgB1 : q.cell? ⟨Bb, Bo + k * 3 + 1, none⟩ = some (.int .i64 Bx1) := hc1
 have hgB2 : q.cell? ⟨Bb, Bo + k * 3 + 2, none⟩ = some (.slice BU Bun Buc) := hc2
 have HXB := Lib.hid hx
 clear hx hc0 hc1 hc2 hu hun Blt
 refine wp_region_held_drew (S := fun v => Below q.heap.size q v) (by kernel_rfl) (Below.refl q.heap.size q).drew (fun hHeld => ?_)
 refine tk 0 hHeld ?_;refine tkc 1 hHeld (fun w' hSw => cell6_of ((hSw.block _ (heap_lt X0.out)).trans X0.out)) ?_;refine tk 2 hHeld ?_;refine tk 3 hHeld ?_
 refine wpAnyH_take (i := 4) (v := ?_) rfl (by kernel_rfl) (by kernel_rfl) (by kernel_rfl) (fun _ _ _ h => h) (Or.inl ⟨by rfl, ?_⟩) hHeld ?_
 rotate_left
 ·intro w' hSw; have e0 := (hSw.cell (cell_lt hgA0)).trans hgA0; have e1 := (hSw.cell (cell_lt hgA1)).trans hgA1; have e2 := (hSw.cell (cell_lt hgA2)).trans hgA2; go_simp; try with_reducible rfl
 simp only [zn, Act.put]
 refine tk 5 hHeld ?_;refine tkc 6 hHeld (fun w' hSw => cell6_of ((hSw.block _ (heap_lt X1.out)).trans X1.out)) ?_;refine tk 7 hHeld ?_;refine tk 8 hHeld ?_
 refine wpAnyH_take (i := 9) (v := ?_) rfl (by kernel_rfl) (by kernel_rfl) (by kernel_rfl) (fun _ _ _ h => h) (Or.inl ⟨by rfl, ?_⟩) hHeld ?_
 rotate_left
 ·intro w' hSw; have e0 := (hSw.cell (cell_lt hgB0)).trans hgB0; have e1 := (hSw.cell (cell_lt hgB1)).trans hgB1; have e2 := (hSw.cell (cell_lt hgB2)).trans hgB2; go_simp; try with_reducible rfl
 simp only [zn, Act.put]
 refine tkr 10 (fun K hK => ?_)
 go_simp
 refine (rsame7_any _ _ _ _ q.drew ((VA.out.below (Below.refl q.heap.size q).drew).more (Below.refl q.heap.size q).drew.size) ((VB.out.below (Below.refl q.heap.size q).drew).more (Below.refl q.heap.size q).drew.size)).mono ?_
 rintro e w2 ⟨rfl, b2⟩
 have B2 : Below q.heap.size q w2 := Below.trans (Below.refl q.heap.size q).drew b2
 refine hK.out _ _ ?_ fun hHeld => ?_;exact B2;clear hK K;try simp only [zn, Act.put]
 refine tk 11 hHeld ?_
 refine wpAnyH_done (by kernel_rfl) ?_ _
 have BL := Lib.hid (BQ.out.trans (B2.mono BQ.out.size))
 clear B2 b2
 go_wp2_with fail
 go_ret
 exact ⟨by rw [HXA.out, HXB.out]; try rfl, BL.out⟩
set_option maxHeartbeats 8000000 in
theorem rsame13_pt (v y : Value) (a b : Pl) (i k : Nat) (w : World) (h : PlanV w w.heap.size v a) (h' : PlanV w w.heap.size y b) (hi : i < a.pts.length) (hk : k < b.pts.length) :
  Calls Tryz.prog 124 #[v, y, .int .u8 2, .int .i64 (i : Int), .int .i64 (k : Int)] w fun e w' => e = .returned (.bool (eqB (Any13.pt a.pts[i]) (.pt b.pts[k]))) ∧ Below w.heap.size w w' := by
 obtain ⟨u2, u3, u4, u5, rfl, hin⟩ := h
 obtain ⟨z2, z3, z4, z5, rfl, hin'⟩ := h'
 obtain ⟨AA, ac, rfl, -, -⟩ := hin.pts.slice
 obtain ⟨BA, bc, rfl, -, -⟩ := hin'.pts.slice
 obtain ⟨an, han⟩ : ∃ n, n = a.pts.length := ⟨_, rfl⟩
 obtain ⟨bn, hbn⟩ : ∃ n, n = b.pts.length := ⟨_, rfl⟩
 rw [← han] at hin
 rw [← hbn] at hin'
 have hil : (i : Int) < an := by omega
 have hkl : (k : Int) < bn := by omega
 rw [← han, ← hbn]
 clear han hbn
 obtain ⟨h0, h1, hqb⟩ := two_boxes w (.cells #[.int .i64 a.ver, .int .i64 a.par, u2, .slice AA an ac, u4, u5] 33) (.cells #[.int .i64 b.ver, .int .i64 b.par, z2, .slice BA bn bc, z4, z5] 33)
 go_enter Tryz.func124, Tryz.ntmps124
 go_upto_region 5 with fail
 generalize (w.alloc (.cells #[.int .i64 a.ver, .int .i64 a.par, u2, .slice AA an ac, u4, u5] 33)).alloc (.cells #[.int .i64 b.ver, .int .i64 b.par, z2, .slice BA bn bc, z4, z5] 33) = q at h0 h1 hqb ⊢
 have X0 := Lib.hid h0
 have X1 := Lib.hid h1
 have BQ := Lib.hid hqb
 have HAQ := Lib.hid ((hin.below hqb).more hqb.size)
 have HBQ := Lib.hid ((hin'.below hqb).more hqb.size)
 clear h0 h1 hqb hin hin'
 obtain ⟨Ab, Ao, Ae, Alt, helA⟩ := (HAQ.out.pts).at hi
 cases Ae
 obtain ⟨hc0, hc1⟩ := helA
 obtain ⟨Ax0, Ax1, hx⟩ : ∃ t1 t2, a.pts[i] = (t1, t2) := ⟨_, _, rfl⟩
 rw [hx] at hc0 hc1
 have hgA0 : q.cell? ⟨Ab, Ao + i * 2, none⟩ = some (.int .i64 Ax0) := hc0
 have hgA1 : q.cell? ⟨Ab, Ao + i * 2 + 1, none⟩ = some (.int .i64 Ax1) := hc1
 have HXA := Lib.hid hx
 clear hx hc0 hc1 Alt
 obtain ⟨Bb, Bo, Be, Blt, helB⟩ := (HBQ.out.pts).at hk
 cases Be
 obtain ⟨hc0, hc1⟩ := helB
 obtain ⟨Bx0, Bx1, hx⟩ : ∃ t1 t2, b.pts[k] = (t1, t2) := ⟨_, _, rfl⟩
 rw [hx] at hc0 hc1
 have hgB0 : q.cell? ⟨Bb, Bo + k * 2, none⟩ = some (.int .i64 Bx0) := hc0
 have hgB1 : q.cell? ⟨Bb, Bo + k * 2 + 1, none⟩ = some (.int .i64 Bx1) := hc1
 have HXB := Lib.hid hx
 clear hx hc0 hc1 Blt
 by_cases g0 : Ax0 = Bx0
 rotate_left
 ·refine wp_region_held_drew (S := fun v => Below q.heap.size q v) (by kernel_rfl) (Below.refl q.heap.size q).drew (fun hHeld => ?_)
  refine tk 0 hHeld ?_;refine tkc 1 hHeld (fun w' hSw => cell6_of ((hSw.block _ (heap_lt X0.out)).trans X0.out)) ?_;refine tk 2 hHeld ?_;refine tk 3 hHeld ?_
  refine wpAnyH_take (i := 4) (v := ?_) rfl (by kernel_rfl) (by kernel_rfl) (by kernel_rfl) (fun _ _ _ h => h) (Or.inl ⟨by rfl, ?_⟩) hHeld ?_
  rotate_left
  ·intro w' hSw; have e0 := (hSw.cell (cell_lt hgA0)).trans hgA0; have e1 := (hSw.cell (cell_lt hgA1)).trans hgA1; go_simp; try with_reducible rfl
  simp only [zn, Act.put]
  refine tk 5 hHeld ?_;refine tkc 6 hHeld (fun w' hSw => cell6_of ((hSw.block _ (heap_lt X1.out)).trans X1.out)) ?_;refine tk 7 hHeld ?_;refine tk 8 hHeld ?_
  refine wpAnyH_take (i := 9) (v := ?_) rfl (by kernel_rfl) (by kernel_rfl) (by kernel_rfl) (fun _ _ _ h => h) (Or.inl ⟨by rfl, ?_⟩) hHeld ?_
  rotate_left
  ·intro w' hSw; have e0 := (hSw.cell (cell_lt hgB0)).trans hgB0; have e1 := (hSw.cell (cell_lt hgB1)).trans hgB1; go_simp; try with_reducible rfl
  simp only [zn, Act.put]
  refine tk 10 hHeld ?_;refine tk 11 hHeld ?_
  refine wpAnyH_done (by kernel_rfl) ?_ _
  have BL := Lib.hid (BQ.out.trans ((Below.refl q.heap.size q).drew.mono BQ.out.size))
  go_wp2_with fail
  go_ret
  exact ⟨by rw [HXA.out, HXB.out, eqB_pt]; simp [g0], BL.out⟩
 subst g0
 by_cases g1 : Ax1 = Bx1
 rotate_left
 ·refine wp_region_held_drew (S := fun v => Below q.heap.size q v) (by kernel_rfl) (Below.refl q.heap.size q).drew (fun hHeld => ?_)
  refine tk 0 hHeld ?_;refine tkc 1 hHeld (fun w' hSw => cell6_of ((hSw.block _ (heap_lt X0.out)).trans X0.out)) ?_;refine tk 2 hHeld ?_;refine tk 3 hHeld ?_
  refine wpAnyH_take (i := 4) (v := ?_) rfl (by kernel_rfl) (by kernel_rfl) (by kernel_rfl) (fun _ _ _ h => h) (Or.inl ⟨by rfl, ?_⟩) hHeld ?_
  rotate_left
  ·intro w' hSw; have e0 := (hSw.cell (cell_lt hgA0)).trans hgA0; have e1 := (hSw.cell (cell_lt hgA1)).trans hgA1; go_simp; try with_reducible rfl
  simp only [zn, Act.put]
  refine tk 5 hHeld ?_;refine tkc 6 hHeld (fun w' hSw => cell6_of ((hSw.block _ (heap_lt X1.out)).trans X1.out)) ?_;refine tk 7 hHeld ?_;refine tk 8 hHeld ?_
  refine wpAnyH_take (i := 9) (v := ?_) rfl (by kernel_rfl) (by kernel_rfl) (by kernel_rfl) (fun _ _ _ h => h) (Or.inl ⟨by rfl, ?_⟩) hHeld ?_
  rotate_left
  ·intro w' hSw; have e0 := (hSw.cell (cell_lt hgB0)).trans hgB0; have e1 := (hSw.cell (cell_lt hgB1)).trans hgB1; go_simp; try with_reducible rfl
  simp only [zn, Act.put]
  refine tk 10 hHeld ?_;refine tk 11 hHeld ?_
  refine wpAnyH_done (by kernel_rfl) ?_ _
  have BL := Lib.hid (BQ.out.trans ((Below.refl q.heap.size q).drew.mono BQ.out.size))
  go_wp2_with fail
  go_ret
  exact ⟨by rw [HXA.out, HXB.out, eqB_pt]; simp [g1], BL.out⟩
 subst g1
 refine wp_region_held_drew (S := fun v => Below q.heap.size q v) (by kernel_rfl) (Below.refl q.heap.size q).drew (fun hHeld => ?_)
 refine tk 0 hHeld ?_;refine tkc 1 hHeld (fun w' hSw => cell6_of ((hSw.block _ (heap_lt X0.out)).trans X0.out)) ?_;refine tk 2 hHeld ?_;refine tk 3 hHeld ?_
 refine wpAnyH_take (i := 4) (v := ?_) rfl (by kernel_rfl) (by kernel_rfl) (by kernel_rfl) (fun _ _ _ h => h) (Or.inl ⟨by rfl, ?_⟩) hHeld ?_
 rotate_left
 ·intro w' hSw; have e0 := (hSw.cell (cell_lt hgA0)).trans hgA0; have e1 := (hSw.cell (cell_lt hgA1)).trans hgA1; go_simp; try with_reducible rfl
 simp only [zn, Act.put]
 refine tk 5 hHeld ?_;refine tkc 6 hHeld (fun w' hSw => cell6_of ((hSw.block _ (heap_lt X1.out)).trans X1.out)) ?_;refine tk 7 hHeld ?_;refine tk 8 hHeld ?_
 refine wpAnyH_take (i := 9) (v := ?_) rfl (by kernel_rfl) (by kernel_rfl) (by kernel_rfl) (fun _ _ _ h => h) (Or.inl ⟨by rfl, ?_⟩) hHeld ?_
 rotate_left
 ·intro w' hSw; have e0 := (hSw.cell (cell_lt hgB0)).trans hgB0; have e1 := (hSw.cell (cell_lt hgB1)).trans hgB1; go_simp; try with_reducible rfl
 simp only [zn, Act.put]
 refine tk 10 hHeld ?_;refine tk 11 hHeld ?_
 refine wpAnyH_done (by kernel_rfl) ?_ _
 have BL := Lib.hid (BQ.out.trans ((Below.refl q.heap.size q).drew.mono BQ.out.size))
 go_wp2_with fail
 go_ret
 exact ⟨by rw [HXA.out, HXB.out, eqB_pt]; simp, BL.out⟩
set_option maxHeartbeats 8000000 in
theorem rsame13_sig (v y : Value) (a b : Pl) (i k : Nat) (w : World) (h : PlanV w w.heap.size v a) (h' : PlanV w w.heap.size y b) (hi : i < a.sigs.length) (hk : k < b.sigs.length) :
  Calls Tryz.prog 124 #[v, y, .int .u8 3, .int .i64 (i : Int), .int .i64 (k : Int)] w fun e w' => e = .returned (.bool (eqB (Any13.sig a.sigs[i]) (.sig b.sigs[k]))) ∧ Below w.heap.size w w' := by
 obtain ⟨u2, u3, u4, u5, rfl, hin⟩ := h
 obtain ⟨z2, z3, z4, z5, rfl, hin'⟩ := h'
 obtain ⟨AA, ac, rfl, -, -⟩ := hin.sigs.slice
 obtain ⟨BA, bc, rfl, -, -⟩ := hin'.sigs.slice
 obtain ⟨an, han⟩ : ∃ n, n = a.sigs.length := ⟨_, rfl⟩
 obtain ⟨bn, hbn⟩ : ∃ n, n = b.sigs.length := ⟨_, rfl⟩
 rw [← han] at hin
 rw [← hbn] at hin'
 have hil : (i : Int) < an := by omega
 have hkl : (k : Int) < bn := by omega
 rw [← han, ← hbn]
 clear han hbn
 obtain ⟨h0, h1, hqb⟩ := two_boxes w (.cells #[.int .i64 a.ver, .int .i64 a.par, u2, u3, .slice AA an ac, u5] 33) (.cells #[.int .i64 b.ver, .int .i64 b.par, z2, z3, .slice BA bn bc, z5] 33)
 go_enter Tryz.func124, Tryz.ntmps124
 go_upto_region 7 with fail
 generalize (w.alloc (.cells #[.int .i64 a.ver, .int .i64 a.par, u2, u3, .slice AA an ac, u5] 33)).alloc (.cells #[.int .i64 b.ver, .int .i64 b.par, z2, z3, .slice BA bn bc, z5] 33) = q at h0 h1 hqb ⊢
 have X0 := Lib.hid h0
 have X1 := Lib.hid h1
 have BQ := Lib.hid hqb
 have HAQ := Lib.hid ((hin.below hqb).more hqb.size)
 have HBQ := Lib.hid ((hin'.below hqb).more hqb.size)
 clear h0 h1 hqb hin hin'
 obtain ⟨Ab, Ao, Ae, Alt, helA⟩ := (HAQ.out.sigs).at hi
 cases Ae
 obtain ⟨hc0, hc1, hc2⟩ := helA
 obtain ⟨Ax0, Ax1, Ax2, hx⟩ : ∃ t1 t2 t3, a.sigs[i] = (t1, t2, t3) := ⟨_, _, _, rfl⟩
 rw [hx] at hc0 hc1 hc2
 have hgA0 : q.cell? ⟨Ab, Ao + i * 3, none⟩ = some (.int .i64 Ax0) := hc0
 have hgA1 : q.cell? ⟨Ab, Ao + i * 3 + 1, none⟩ = some (.int .i64 Ax1) := hc1
 have hgA2 : q.cell? ⟨Ab, Ao + i * 3 + 2, none⟩ = some (.int .i64 Ax2) := hc2
 have HXA := Lib.hid hx
 clear hx hc0 hc1 hc2 Alt
 obtain ⟨Bb, Bo, Be, Blt, helB⟩ := (HBQ.out.sigs).at hk
 cases Be
 obtain ⟨hc0, hc1, hc2⟩ := helB
 obtain ⟨Bx0, Bx1, Bx2, hx⟩ : ∃ t1 t2 t3, b.sigs[k] = (t1, t2, t3) := ⟨_, _, _, rfl⟩
 rw [hx] at hc0 hc1 hc2
 have hgB0 : q.cell? ⟨Bb, Bo + k * 3, none⟩ = some (.int .i64 Bx0) := hc0
 have hgB1 : q.cell? ⟨Bb, Bo + k * 3 + 1, none⟩ = some (.int .i64 Bx1) := hc1
 have hgB2 : q.cell? ⟨Bb, Bo + k * 3 + 2, none⟩ = some (.int .i64 Bx2) := hc2
 have HXB := Lib.hid hx
 clear hx hc0 hc1 hc2 Blt
 by_cases g0 : Ax0 = Bx0
 rotate_left
 ·refine wp_region_held_drew (S := fun v => Below q.heap.size q v) (by kernel_rfl) (Below.refl q.heap.size q).drew (fun hHeld => ?_)
  refine tk 0 hHeld ?_;refine tkc 1 hHeld (fun w' hSw => cell6_of ((hSw.block _ (heap_lt X0.out)).trans X0.out)) ?_;refine tk 2 hHeld ?_;refine tk 3 hHeld ?_
  refine wpAnyH_take (i := 4) (v := ?_) rfl (by kernel_rfl) (by kernel_rfl) (by kernel_rfl) (fun _ _ _ h => h) (Or.inl ⟨by rfl, ?_⟩) hHeld ?_
  rotate_left
  ·intro w' hSw; have e0 := (hSw.cell (cell_lt hgA0)).trans hgA0; have e1 := (hSw.cell (cell_lt hgA1)).trans hgA1; have e2 := (hSw.cell (cell_lt hgA2)).trans hgA2; go_simp; try with_reducible rfl
  simp only [zn, Act.put]
  refine tk 5 hHeld ?_;refine tkc 6 hHeld (fun w' hSw => cell6_of ((hSw.block _ (heap_lt X1.out)).trans X1.out)) ?_;refine tk 7 hHeld ?_;refine tk 8 hHeld ?_
  refine wpAnyH_take (i := 9) (v := ?_) rfl (by kernel_rfl) (by kernel_rfl) (by kernel_rfl) (fun _ _ _ h => h) (Or.inl ⟨by rfl, ?_⟩) hHeld ?_
  rotate_left
  ·intro w' hSw; have e0 := (hSw.cell (cell_lt hgB0)).trans hgB0; have e1 := (hSw.cell (cell_lt hgB1)).trans hgB1; have e2 := (hSw.cell (cell_lt hgB2)).trans hgB2; go_simp; try with_reducible rfl
  simp only [zn, Act.put]
  refine tk 10 hHeld ?_;refine tk 11 hHeld ?_
  refine wpAnyH_done (by kernel_rfl) ?_ _
  have BL := Lib.hid (BQ.out.trans ((Below.refl q.heap.size q).drew.mono BQ.out.size))
  go_wp2_with fail
  go_ret
  exact ⟨by rw [HXA.out, HXB.out, eqB_sig]; simp [g0], BL.out⟩
 subst g0
 by_cases g1 : Ax1 = Bx1
 rotate_left
 ·refine wp_region_held_drew (S := fun v => Below q.heap.size q v) (by kernel_rfl) (Below.refl q.heap.size q).drew (fun hHeld => ?_)
  refine tk 0 hHeld ?_;refine tkc 1 hHeld (fun w' hSw => cell6_of ((hSw.block _ (heap_lt X0.out)).trans X0.out)) ?_;refine tk 2 hHeld ?_;refine tk 3 hHeld ?_
  refine wpAnyH_take (i := 4) (v := ?_) rfl (by kernel_rfl) (by kernel_rfl) (by kernel_rfl) (fun _ _ _ h => h) (Or.inl ⟨by rfl, ?_⟩) hHeld ?_
  rotate_left
  ·intro w' hSw; have e0 := (hSw.cell (cell_lt hgA0)).trans hgA0; have e1 := (hSw.cell (cell_lt hgA1)).trans hgA1; have e2 := (hSw.cell (cell_lt hgA2)).trans hgA2; go_simp; try with_reducible rfl
  simp only [zn, Act.put]
  refine tk 5 hHeld ?_;refine tkc 6 hHeld (fun w' hSw => cell6_of ((hSw.block _ (heap_lt X1.out)).trans X1.out)) ?_;refine tk 7 hHeld ?_;refine tk 8 hHeld ?_
  refine wpAnyH_take (i := 9) (v := ?_) rfl (by kernel_rfl) (by kernel_rfl) (by kernel_rfl) (fun _ _ _ h => h) (Or.inl ⟨by rfl, ?_⟩) hHeld ?_
  rotate_left
  ·intro w' hSw; have e0 := (hSw.cell (cell_lt hgB0)).trans hgB0; have e1 := (hSw.cell (cell_lt hgB1)).trans hgB1; have e2 := (hSw.cell (cell_lt hgB2)).trans hgB2; go_simp; try with_reducible rfl
  simp only [zn, Act.put]
  refine tk 10 hHeld ?_;refine tk 11 hHeld ?_
  refine wpAnyH_done (by kernel_rfl) ?_ _
  have BL := Lib.hid (BQ.out.trans ((Below.refl q.heap.size q).drew.mono BQ.out.size))
  go_wp2_with fail
  go_ret
  exact ⟨by rw [HXA.out, HXB.out, eqB_sig]; simp [g1], BL.out⟩
 subst g1
 by_cases g2 : Ax2 = Bx2
 rotate_left
 ·refine wp_region_held_drew (S := fun v => Below q.heap.size q v) (by kernel_rfl) (Below.refl q.heap.size q).drew (fun hHeld => ?_)
  refine tk 0 hHeld ?_;refine tkc 1 hHeld (fun w' hSw => cell6_of ((hSw.block _ (heap_lt X0.out)).trans X0.out)) ?_;refine tk 2 hHeld ?_;refine tk 3 hHeld ?_
  refine wpAnyH_take (i := 4) (v := ?_) rfl (by kernel_rfl) (by kernel_rfl) (by kernel_rfl) (fun _ _ _ h => h) (Or.inl ⟨by rfl, ?_⟩) hHeld ?_
  rotate_left
  ·intro w' hSw; have e0 := (hSw.cell (cell_lt hgA0)).trans hgA0; have e1 := (hSw.cell (cell_lt hgA1)).trans hgA1; have e2 := (hSw.cell (cell_lt hgA2)).trans hgA2; go_simp; try with_reducible rfl
  simp only [zn, Act.put]
  refine tk 5 hHeld ?_;refine tkc 6 hHeld (fun w' hSw => cell6_of ((hSw.block _ (heap_lt X1.out)).trans X1.out)) ?_;refine tk 7 hHeld ?_;refine tk 8 hHeld ?_
  refine wpAnyH_take (i := 9) (v := ?_) rfl (by kernel_rfl) (by kernel_rfl) (by kernel_rfl) (fun _ _ _ h => h) (Or.inl ⟨by rfl, ?_⟩) hHeld ?_
  rotate_left
  ·intro w' hSw; have e0 := (hSw.cell (cell_lt hgB0)).trans hgB0; have e1 := (hSw.cell (cell_lt hgB1)).trans hgB1; have e2 := (hSw.cell (cell_lt hgB2)).trans hgB2; go_simp; try with_reducible rfl
  simp only [zn, Act.put]
  refine tk 10 hHeld ?_;refine tk 11 hHeld ?_
  refine wpAnyH_done (by kernel_rfl) ?_ _
  have BL := Lib.hid (BQ.out.trans ((Below.refl q.heap.size q).drew.mono BQ.out.size))
  go_wp2_with fail
  go_ret
  exact ⟨by rw [HXA.out, HXB.out, eqB_sig]; simp [g2], BL.out⟩
 subst g2
 refine wp_region_held_drew (S := fun v => Below q.heap.size q v) (by kernel_rfl) (Below.refl q.heap.size q).drew (fun hHeld => ?_)
 refine tk 0 hHeld ?_;refine tkc 1 hHeld (fun w' hSw => cell6_of ((hSw.block _ (heap_lt X0.out)).trans X0.out)) ?_;refine tk 2 hHeld ?_;refine tk 3 hHeld ?_
 refine wpAnyH_take (i := 4) (v := ?_) rfl (by kernel_rfl) (by kernel_rfl) (by kernel_rfl) (fun _ _ _ h => h) (Or.inl ⟨by rfl, ?_⟩) hHeld ?_
 rotate_left
 ·intro w' hSw; have e0 := (hSw.cell (cell_lt hgA0)).trans hgA0; have e1 := (hSw.cell (cell_lt hgA1)).trans hgA1; have e2 := (hSw.cell (cell_lt hgA2)).trans hgA2; go_simp; try with_reducible rfl
 simp only [zn, Act.put]
 refine tk 5 hHeld ?_;refine tkc 6 hHeld (fun w' hSw => cell6_of ((hSw.block _ (heap_lt X1.out)).trans X1.out)) ?_;refine tk 7 hHeld ?_;refine tk 8 hHeld ?_
 refine wpAnyH_take (i := 9) (v := ?_) rfl (by kernel_rfl) (by kernel_rfl) (by kernel_rfl) (fun _ _ _ h => h) (Or.inl ⟨by rfl, ?_⟩) hHeld ?_
 rotate_left
 ·intro w' hSw; have e0 := (hSw.cell (cell_lt hgB0)).trans hgB0; have e1 := (hSw.cell (cell_lt hgB1)).trans hgB1; have e2 := (hSw.cell (cell_lt hgB2)).trans hgB2; go_simp; try with_reducible rfl
 simp only [zn, Act.put]
 refine tk 10 hHeld ?_;refine tk 11 hHeld ?_
 refine wpAnyH_done (by kernel_rfl) ?_ _
 have BL := Lib.hid (BQ.out.trans ((Below.refl q.heap.size q).drew.mono BQ.out.size))
 go_wp2_with fail
 go_ret
 exact ⟨by rw [HXA.out, HXB.out, eqB_sig]; simp, BL.out⟩
set_option maxHeartbeats 8000000 in
theorem rsame13_route (v y : Value) (a b : Pl) (kind : Int) (g1 : kind ≠ 1) (g2 : kind ≠ 2) (g3 : kind ≠ 3) (i k : Nat) (w : World) (h : PlanV w w.heap.size v a) (h' : PlanV w w.heap.size y b) (hi : i < a.routes.length) (hk : k < b.routes.length) :
  Calls Tryz.prog 124 #[v, y, .int .u8 kind, .int .i64 (i : Int), .int .i64 (k : Int)] w fun e w' => e = .returned (.bool (eqB a.routes[i] b.routes[k])) ∧ Below w.heap.size w w' := by
 obtain ⟨u2, u3, u4, u5, rfl, hin⟩ := h
 obtain ⟨z2, z3, z4, z5, rfl, hin'⟩ := h'
 obtain ⟨AA, ac, rfl, -, -⟩ := hin.routes.slice
 obtain ⟨BA, bc, rfl, -, -⟩ := hin'.routes.slice
 obtain ⟨an, han⟩ : ∃ n, n = a.routes.length := ⟨_, rfl⟩
 obtain ⟨bn, hbn⟩ : ∃ n, n = b.routes.length := ⟨_, rfl⟩
 rw [← han] at hin
 rw [← hbn] at hin'
 have hil : (i : Int) < an := by omega
 have hkl : (k : Int) < bn := by omega
 rw [← han, ← hbn]
 clear han hbn
 have d1 : (kind == 1) = false := by simpa using g1
 have d2 : (kind == 2) = false := by simpa using g2
 have d3 : (kind == 3) = false := by simpa using g3
 clear g1 g2 g3
 obtain ⟨h0, h1, hqb⟩ := two_boxes w (.cells #[.int .i64 a.ver, .int .i64 a.par, u2, u3, u4, .slice AA an ac] 33) (.cells #[.int .i64 b.ver, .int .i64 b.par, z2, z3, z4, .slice BA bn bc] 33)
 go_enter Tryz.func124, Tryz.ntmps124
 go_upto_region 8 with fail
 generalize (w.alloc (.cells #[.int .i64 a.ver, .int .i64 a.par, u2, u3, u4, .slice AA an ac] 33)).alloc (.cells #[.int .i64 b.ver, .int .i64 b.par, z2, z3, z4, .slice BA bn bc] 33) = q at h0 h1 hqb ⊢
 have X0 := Lib.hid h0
 have X1 := Lib.hid h1
 have BQ := Lib.hid hqb
 have HAQ := Lib.hid ((hin.below hqb).more hqb.size)
 have HBQ := Lib.hid ((hin'.below hqb).more hqb.size)
 clear h0 h1 hqb hin hin'
 obtain ⟨Ab, Ao, Ae, Alt, helA⟩ := (HAQ.out.routes).at hi
 cases Ae
 obtain ⟨hc0, hc1, hc2, hc6, u3, u4, u5, hc3, hc4, hc5, hu⟩ := helA
 obtain ⟨Ax, hx⟩ : ∃ r, a.routes[i] = r := ⟨_, rfl⟩
 rw [hx] at hc0 hc1 hc2 hc6 hu
 obtain ⟨AU3, Ac3, rfl, -, -⟩ := hu.path.slice
 obtain ⟨AU4, Ac4, rfl, -, -⟩ := hu.over.slice
 obtain ⟨AU5, Ac5, rfl, -, -⟩ := hu.flanks.slice
 obtain ⟨An3, hn3⟩ : ∃ n, n = Ax.path.length := ⟨_, rfl⟩
 obtain ⟨An4, hn4⟩ : ∃ n, n = Ax.over.length := ⟨_, rfl⟩
 obtain ⟨An5, hn5⟩ : ∃ n, n = Ax.flanks.length := ⟨_, rfl⟩
 have VA : Hid (RouteV q q.heap.size (.agg #[.int .i64 Ax.id, .int .i64 Ax.entry, .int .i64 Ax.exit, .slice AU3 An3 Ac3, .slice AU4 An4 Ac4, .slice AU5 An5 Ac5, .int .i64 Ax.timer]) Ax) := Lib.hid ⟨_, _, _, rfl, by rw [hn3, hn4, hn5]; exact hu⟩
 rw [← hn3] at hc3
 rw [← hn4] at hc4
 rw [← hn5] at hc5
 clear hn3 hn4 hn5
 have hgA0 : q.cell? ⟨Ab, Ao + i * 7, none⟩ = some (.int .i64 Ax.id) := hc0
 have hgA1 : q.cell? ⟨Ab, Ao + i * 7 + 1, none⟩ = some (.int .i64 Ax.entry) := hc1
 have hgA2 : q.cell? ⟨Ab, Ao + i * 7 + 2, none⟩ = some (.int .i64 Ax.exit) := hc2
 have hgA3 : q.cell? ⟨Ab, Ao + i * 7 + 3, none⟩ = some (.slice AU3 An3 Ac3) := hc3
 have hgA4 : q.cell? ⟨Ab, Ao + i * 7 + 4, none⟩ = some (.slice AU4 An4 Ac4) := hc4
 have hgA5 : q.cell? ⟨Ab, Ao + i * 7 + 5, none⟩ = some (.slice AU5 An5 Ac5) := hc5
 have hgA6 : q.cell? ⟨Ab, Ao + i * 7 + 6, none⟩ = some (.int .i64 Ax.timer) := hc6
 have HXA := Lib.hid hx
 clear hx hc0 hc1 hc2 hc3 hc4 hc5 hc6 hu Alt
 obtain ⟨Bb, Bo, Be, Blt, helB⟩ := (HBQ.out.routes).at hk
 cases Be
 obtain ⟨hc0, hc1, hc2, hc6, u3, u4, u5, hc3, hc4, hc5, hu⟩ := helB
 obtain ⟨Bx, hx⟩ : ∃ r, b.routes[k] = r := ⟨_, rfl⟩
 rw [hx] at hc0 hc1 hc2 hc6 hu
 obtain ⟨BU3, Bc3, rfl, -, -⟩ := hu.path.slice
 obtain ⟨BU4, Bc4, rfl, -, -⟩ := hu.over.slice
 obtain ⟨BU5, Bc5, rfl, -, -⟩ := hu.flanks.slice
 obtain ⟨Bn3, hn3⟩ : ∃ n, n = Bx.path.length := ⟨_, rfl⟩
 obtain ⟨Bn4, hn4⟩ : ∃ n, n = Bx.over.length := ⟨_, rfl⟩
 obtain ⟨Bn5, hn5⟩ : ∃ n, n = Bx.flanks.length := ⟨_, rfl⟩
 have VB : Hid (RouteV q q.heap.size (.agg #[.int .i64 Bx.id, .int .i64 Bx.entry, .int .i64 Bx.exit, .slice BU3 Bn3 Bc3, .slice BU4 Bn4 Bc4, .slice BU5 Bn5 Bc5, .int .i64 Bx.timer]) Bx) := Lib.hid ⟨_, _, _, rfl, by rw [hn3, hn4, hn5]; exact hu⟩
 rw [← hn3] at hc3
 rw [← hn4] at hc4
 rw [← hn5] at hc5
 clear hn3 hn4 hn5
 have hgB0 : q.cell? ⟨Bb, Bo + k * 7, none⟩ = some (.int .i64 Bx.id) := hc0
 have hgB1 : q.cell? ⟨Bb, Bo + k * 7 + 1, none⟩ = some (.int .i64 Bx.entry) := hc1
 have hgB2 : q.cell? ⟨Bb, Bo + k * 7 + 2, none⟩ = some (.int .i64 Bx.exit) := hc2
 have hgB3 : q.cell? ⟨Bb, Bo + k * 7 + 3, none⟩ = some (.slice BU3 Bn3 Bc3) := hc3
 have hgB4 : q.cell? ⟨Bb, Bo + k * 7 + 4, none⟩ = some (.slice BU4 Bn4 Bc4) := hc4
 have hgB5 : q.cell? ⟨Bb, Bo + k * 7 + 5, none⟩ = some (.slice BU5 Bn5 Bc5) := hc5
 have hgB6 : q.cell? ⟨Bb, Bo + k * 7 + 6, none⟩ = some (.int .i64 Bx.timer) := hc6
 have HXB := Lib.hid hx
 clear hx hc0 hc1 hc2 hc3 hc4 hc5 hc6 hu Blt
 refine wp_region_held_drew (S := fun v => Below q.heap.size q v) (by kernel_rfl) (Below.refl q.heap.size q).drew (fun hHeld => ?_)
 refine tk 0 hHeld ?_;refine tkc 1 hHeld (fun w' hSw => cell6_of ((hSw.block _ (heap_lt X0.out)).trans X0.out)) ?_;refine tk 2 hHeld ?_;refine tk 3 hHeld ?_
 refine wpAnyH_take (i := 4) (v := ?_) rfl (by kernel_rfl) (by kernel_rfl) (by kernel_rfl) (fun _ _ _ h => h) (Or.inl ⟨by rfl, ?_⟩) hHeld ?_
 rotate_left
 ·intro w' hSw; have e0 := (hSw.cell (cell_lt hgA0)).trans hgA0; have e1 := (hSw.cell (cell_lt hgA1)).trans hgA1; have e2 := (hSw.cell (cell_lt hgA2)).trans hgA2; have e3 := (hSw.cell (cell_lt hgA3)).trans hgA3; have e4 := (hSw.cell (cell_lt hgA4)).trans hgA4; have e5 := (hSw.cell (cell_lt hgA5)).trans hgA5; have e6 := (hSw.cell (cell_lt hgA6)).trans hgA6; go_simp; try with_reducible rfl
 simp only [zn, Act.put]
 refine tk 5 hHeld ?_;refine tkc 6 hHeld (fun w' hSw => cell6_of ((hSw.block _ (heap_lt X1.out)).trans X1.out)) ?_;refine tk 7 hHeld ?_;refine tk 8 hHeld ?_
 refine wpAnyH_take (i := 9) (v := ?_) rfl (by kernel_rfl) (by kernel_rfl) (by kernel_rfl) (fun _ _ _ h => h) (Or.inl ⟨by rfl, ?_⟩) hHeld ?_
 rotate_left
 ·intro w' hSw; have e0 := (hSw.cell (cell_lt hgB0)).trans hgB0; have e1 := (hSw.cell (cell_lt hgB1)).trans hgB1; have e2 := (hSw.cell (cell_lt hgB2)).trans hgB2; have e3 := (hSw.cell (cell_lt hgB3)).trans hgB3; have e4 := (hSw.cell (cell_lt hgB4)).trans hgB4; have e5 := (hSw.cell (cell_lt hgB5)).trans hgB5; have e6 := (hSw.cell (cell_lt hgB6)).trans hgB6; go_simp; try with_reducible rfl
 simp only [zn, Act.put]
 refine tkr 10 (fun K hK => ?_)
 go_simp
 refine (rsameroute_any _ _ _ _ q.drew ((VA.out.below (Below.refl q.heap.size q).drew).more (Below.refl q.heap.size q).drew.size) ((VB.out.below (Below.refl q.heap.size q).drew).more (Below.refl q.heap.size q).drew.size)).mono ?_
 rintro e w2 ⟨rfl, b2⟩
 have B2 : Below q.heap.size q w2 := Below.trans (Below.refl q.heap.size q).drew b2
 refine hK.out _ _ ?_ fun hHeld => ?_;exact B2;clear hK K;try simp only [zn, Act.put]
 refine tk 11 hHeld ?_
 refine wpAnyH_done (by kernel_rfl) ?_ _
 have BL := Lib.hid (BQ.out.trans (B2.mono BQ.out.size))
 clear B2 b2
 go_wp2_with fail
 go_ret
 exact ⟨by rw [HXA.out, HXB.out]; try rfl, BL.out⟩
theorem rsame13_any (v y : Value) (a b : Pl) (kind id : Int) (w : World) (h : PlanV w w.heap.size v a) (h' : PlanV w w.heap.size y b) (ha : ¬ placeD a kind id < 0) (hb : ¬ placeD b kind id < 0) :
  Calls Tryz.prog 124 #[v, y, .int .u8 kind, .int .i64 (placeD a kind id), .int .i64 (placeD b kind id)] w fun e w' => e = .returned (.bool (eqB (elD a kind id) (elD b kind id))) ∧ Below w.heap.size w w' := by
 by_cases c1 : kind = 1
 ·subst c1
  have ea : placeD a 1 id = at1 (fun s : Sec => s.1) a.secs id := by unfold placeD; rw [if_pos rfl]; rfl
  have eb : placeD b 1 id = at1 (fun s : Sec => s.1) b.secs id := by unfold placeD; rw [if_pos rfl]; rfl
  rcases at1_cases (fun s : Sec => s.1) a.secs id with ⟨h1, -⟩ | ⟨i, hi, h1, -, -⟩
  ·rw [ea, h1] at ha; exact absurd (by decide) ha
  rcases at1_cases (fun s : Sec => s.1) b.secs id with ⟨h2, -⟩ | ⟨k, hk, h2, -, -⟩
  ·rw [eb, h2] at hb; exact absurd (by decide) hb
  have hp : eqB (elD a 1 id) (elD b 1 id) = eqB a.secs[i] b.secs[k] := by
   unfold elD
   rw [if_neg ha, if_neg hb, if_pos rfl, if_pos rfl, ea, eb, h1, h2, Int.toNat_natCast, Int.toNat_natCast, List.getD, List.getD, List.getElem?_eq_getElem hi, List.getElem?_eq_getElem hk, Option.getD_some, Option.getD_some, eqB_sec]
  rw [hp, ea, eb, h1, h2]
  exact rsame13_sec v y a b i k w h h' hi hk
 by_cases c2 : kind = 2
 ·subst c2
  have ea : placeD a 2 id = at1 (fun s : Jn => s.1) a.pts id := by unfold placeD; rw [if_neg (by decide), if_pos rfl]
  have eb : placeD b 2 id = at1 (fun s : Jn => s.1) b.pts id := by unfold placeD; rw [if_neg (by decide), if_pos rfl]
  rcases at1_cases (fun s : Jn => s.1) a.pts id with ⟨h1, -⟩ | ⟨i, hi, h1, -, -⟩
  ·rw [ea, h1] at ha; exact absurd (by decide) ha
  rcases at1_cases (fun s : Jn => s.1) b.pts id with ⟨h2, -⟩ | ⟨k, hk, h2, -, -⟩
  ·rw [eb, h2] at hb; exact absurd (by decide) hb
  have hp : eqB (elD a 2 id) (elD b 2 id) = eqB (Any13.pt a.pts[i]) (.pt b.pts[k]) := by
   unfold elD
   rw [if_neg ha, if_neg hb]
   simp only [show ¬ (2 : Int) = 1 by decide, if_false, if_true]
   rw [ea, eb, h1, h2, Int.toNat_natCast, Int.toNat_natCast, List.getD, List.getD, List.getElem?_eq_getElem hi, List.getElem?_eq_getElem hk, Option.getD_some, Option.getD_some]
  rw [hp, ea, eb, h1, h2]
  exact rsame13_pt v y a b i k w h h' hi hk
 by_cases c3 : kind = 3
 ·subst c3
  have ea : placeD a 3 id = at1 (fun s : Sg => s.1) a.sigs id := by unfold placeD; rw [if_neg (by decide), if_neg (by decide), if_pos rfl]
  have eb : placeD b 3 id = at1 (fun s : Sg => s.1) b.sigs id := by unfold placeD; rw [if_neg (by decide), if_neg (by decide), if_pos rfl]
  rcases at1_cases (fun s : Sg => s.1) a.sigs id with ⟨h1, -⟩ | ⟨i, hi, h1, -, -⟩
  ·rw [ea, h1] at ha; exact absurd (by decide) ha
  rcases at1_cases (fun s : Sg => s.1) b.sigs id with ⟨h2, -⟩ | ⟨k, hk, h2, -, -⟩
  ·rw [eb, h2] at hb; exact absurd (by decide) hb
  have hp : eqB (elD a 3 id) (elD b 3 id) = eqB (Any13.sig a.sigs[i]) (.sig b.sigs[k]) := by
   unfold elD
   rw [if_neg ha, if_neg hb]
   simp only [show ¬ (3 : Int) = 1 by decide, show ¬ (3 : Int) = 2 by decide, if_false, if_true]
   rw [ea, eb, h1, h2, Int.toNat_natCast, Int.toNat_natCast, List.getD, List.getD, List.getElem?_eq_getElem hi, List.getElem?_eq_getElem hk, Option.getD_some, Option.getD_some]
  rw [hp, ea, eb, h1, h2]
  exact rsame13_sig v y a b i k w h h' hi hk
 have ea : placeD a kind id = at1 (fun s : Rt => s.id) a.routes id := by unfold placeD; rw [if_neg c1, if_neg c2, if_neg c3]
 have eb : placeD b kind id = at1 (fun s : Rt => s.id) b.routes id := by unfold placeD; rw [if_neg c1, if_neg c2, if_neg c3]
 rcases at1_cases (fun s : Rt => s.id) a.routes id with ⟨h1, -⟩ | ⟨i, hi, h1, -, -⟩
 ·rw [ea, h1] at ha; exact absurd (by decide) ha
 rcases at1_cases (fun s : Rt => s.id) b.routes id with ⟨h2, -⟩ | ⟨k, hk, h2, -, -⟩
 ·rw [eb, h2] at hb; exact absurd (by decide) hb
 have hp : eqB (elD a kind id) (elD b kind id) = eqB a.routes[i] b.routes[k] := by
  unfold elD
  rw [if_neg ha, if_neg hb, if_neg c1, if_neg c1, if_neg c2, if_neg c2, if_neg c3, if_neg c3, ea, eb, h1, h2, Int.toNat_natCast, Int.toNat_natCast, List.getD, List.getD, List.getElem?_eq_getElem hi, List.getElem?_eq_getElem hk, Option.getD_some, Option.getD_some, eqB_route]
 rw [hp, ea, eb, h1, h2]
 exact rsame13_route v y a b kind c1 c2 c3 i k w h h' hi hk

/-- What Is answers. -/
noncomputable def isV (a b : Pl) (kind id : Int) : Int := if isD a b kind id = 4 then 0 else isD a b kind id
noncomputable def isT (a b : Pl) (kind id : Int) : Bool := decide (isD a b kind id ≠ 4)
set_option maxHeartbeats 8000000 in
theorem ris13_any (v y : Value) (a b : Pl) (kind id : Int) (w : World) (h : PlanV w w.heap.size v a) (h' : PlanV w w.heap.size y b) :
  Calls Tryz.prog 102 #[v, y, .int .u8 kind, .int .i64 id] w fun e w' => e = .returned (.tuple #[.int .u8 (isV a b kind id), .bool (isT a b kind id)]) ∧ Below w.heap.size w w' := by
 obtain ⟨u2, u3, u4, u5, rfl, hin⟩ := h
 obtain ⟨z2, z3, z4, z5, rfl, hin'⟩ := h'
 obtain ⟨h0, h1, hqb⟩ := two_boxes w (.cells #[.int .i64 a.ver, .int .i64 a.par, u2, u3, u4, u5] 33) (.cells #[.int .i64 b.ver, .int .i64 b.par, z2, z3, z4, z5] 33)
 go_enter Tryz.func102, Tryz.ntmps102
 go_upto_region 1 with fail
 generalize (w.alloc (.cells #[.int .i64 a.ver, .int .i64 a.par, u2, u3, u4, u5] 33)).alloc (.cells #[.int .i64 b.ver, .int .i64 b.par, z2, z3, z4, z5] 33) = q at h0 h1 hqb ⊢
 have X0 := Lib.hid h0
 have X1 := Lib.hid h1
 have BQ := Lib.hid hqb
 have VA : Hid (PlanV q q.heap.size (.agg #[.int .i64 a.ver, .int .i64 a.par, u2, u3, u4, u5]) a) := Lib.hid ⟨_, _, _, _, rfl, (hin.below hqb).more hqb.size⟩
 have VB : Hid (PlanV q q.heap.size (.agg #[.int .i64 b.ver, .int .i64 b.par, z2, z3, z4, z5]) b) := Lib.hid ⟨_, _, _, _, rfl, (hin'.below hqb).more hqb.size⟩
 clear h0 h1 hqb hin hin'
 obtain ⟨k0, k1, k2, k3, k4, k5⟩ := cell6_of X0.out
 go_wp2_with fail
 refine (rplace13_any _ a kind id q VA.out).mono ?_
 rintro e w1 ⟨rfl, bN⟩
 clear k0 k1 k2 k3 k4 k5
 replace X0 := Lib.hid ((bN.block _ (heap_lt X0.out)).trans X0.out)
 replace X1 := Lib.hid ((bN.block _ (heap_lt X1.out)).trans X1.out)
 replace BQ := Lib.hid (BQ.out.trans (bN.mono BQ.out.size))
 replace VA := Lib.hid ((VA.out.below bN).more bN.size)
 replace VB := Lib.hid ((VB.out.below bN).more bN.size)
 clear bN
 obtain ⟨k0, k1, k2, k3, k4, k5⟩ := cell6_of X1.out
 go_wp2_with fail
 refine (rplace13_any _ b kind id w1 VB.out).mono ?_
 rintro e w2 ⟨rfl, bN⟩
 clear k0 k1 k2 k3 k4 k5
 replace X0 := Lib.hid ((bN.block _ (heap_lt X0.out)).trans X0.out)
 replace X1 := Lib.hid ((bN.block _ (heap_lt X1.out)).trans X1.out)
 replace BQ := Lib.hid (BQ.out.trans (bN.mono BQ.out.size))
 replace VA := Lib.hid ((VA.out.below bN).more bN.size)
 replace VB := Lib.hid ((VB.out.below bN).more bN.size)
 clear bN
 have HS : Hid (∀ (ha : ¬ placeD a kind id < 0) (hb : ¬ placeD b kind id < 0), Calls Tryz.prog 124 #[.agg #[.int .i64 a.ver, .int .i64 a.par, u2, u3, u4, u5], .agg #[.int .i64 b.ver, .int .i64 b.par, z2, z3, z4, z5], .int .u8 kind, .int .i64 (placeD a kind id), .int .i64 (placeD b kind id)] w2 fun e w' => e = .returned (.bool (eqB (elD a kind id) (elD b kind id))) ∧ Below w2.heap.size w2 w') := Lib.hid fun ha hb => rsame13_any _ _ a b kind id w2 VA.out VB.out ha hb
 have HD : Hid (isD a b kind id = if placeD a kind id < 0 then (if placeD b kind id < 0 then 4 else 2) else if placeD b kind id < 0 then 3 else if eqB (elD a kind id) (elD b kind id) then 0 else 1) := Lib.hid rfl
 generalize placeD a kind id = pa at HS HD ⊢
 generalize placeD b kind id = pb at HS HD ⊢
 generalize eqB (elD a kind id) (elD b kind id) = ev at HS HD ⊢
 by_cases ha : pa < 0
 ·have d0 : decide (pa < 0) = true := decide_eq_true ha
  by_cases hb : pb < 0
  ·have d1 : decide (pb < 0) = true := decide_eq_true hb
   have HE : Hid (isV a b kind id = 0 ∧ isT a b kind id = false) := Lib.hid (by
    have e : isD a b kind id = 4 := by rw [HD.out, if_pos ha, if_pos hb]
    exact ⟨by rw [isV, e]; rfl, by rw [isT, e]; rfl⟩)
   go_wp2_with fail
   refine bodyPost_ret (results_tmp2 rfl _ _ _) rfl ?_
   exact ⟨by rw [HE.out.1, HE.out.2]; try rfl, BQ.out⟩
  ·have d1 : decide (pb < 0) = false := decide_eq_false hb
   have HE : Hid (isV a b kind id = 2 ∧ isT a b kind id = true) := Lib.hid (by
    have e : isD a b kind id = 2 := by rw [HD.out, if_pos ha, if_neg hb]
    exact ⟨by rw [isV, e]; rfl, by rw [isT, e]; rfl⟩)
   go_wp2_with fail
   refine bodyPost_ret (results_tmp2 rfl _ _ _) rfl ?_
   exact ⟨by rw [HE.out.1, HE.out.2]; try rfl, BQ.out⟩
 have d0 : decide (pa < 0) = false := decide_eq_false ha
 by_cases hb : pb < 0
 ·have d1 : decide (pb < 0) = true := decide_eq_true hb
  have HE : Hid (isV a b kind id = 3 ∧ isT a b kind id = true) := Lib.hid (by
   have e : isD a b kind id = 3 := by rw [HD.out, if_neg ha, if_pos hb]
   exact ⟨by rw [isV, e]; rfl, by rw [isT, e]; rfl⟩)
  go_wp2_with fail
  refine bodyPost_ret (results_tmp2 rfl _ _ _) rfl ?_
  exact ⟨by rw [HE.out.1, HE.out.2]; try rfl, BQ.out⟩
 have d1 : decide (pb < 0) = false := decide_eq_false hb
 obtain ⟨k0, k1, k2, k3, k4, k5⟩ := cell6_of X0.out
 obtain ⟨l0, l1, l2, l3, l4, l5⟩ := cell6_of X1.out
 have HC := Lib.hid (HS.out ha hb)
 have GA := Lib.hid ha
 have GB := Lib.hid hb
 go_wp2_with fail
 refine HC.out.mono ?_
 rintro e w3 ⟨rfl, bN⟩
 have BL := Lib.hid (BQ.out.trans (bN.mono BQ.out.size))
 clear bN HC HS
 cases ev with
 | true =>
  have HE : Hid (isV a b kind id = 0 ∧ isT a b kind id = true) := Lib.hid (by
   have e : isD a b kind id = 0 := by rw [HD.out, if_neg (show ¬ pa < 0 by have := GA.out; omega), if_neg (show ¬ pb < 0 by have := GB.out; omega)]; rfl
   exact ⟨by rw [isV, e]; rfl, by rw [isT, e]; rfl⟩)
  go_wp2_with fail
  refine bodyPost_ret (results_tmp2 rfl _ _ _) rfl ?_
  exact ⟨by rw [HE.out.1, HE.out.2]; try rfl, BL.out⟩
 | false =>
  have HE : Hid (isV a b kind id = 1 ∧ isT a b kind id = true) := Lib.hid (by
   have e : isD a b kind id = 1 := by rw [HD.out, if_neg (show ¬ pa < 0 by have := GA.out; omega), if_neg (show ¬ pb < 0 by have := GB.out; omega)]; rfl
   exact ⟨by rw [isV, e]; rfl, by rw [isT, e]; rfl⟩)
  go_wp2_with fail
  refine bodyPost_ret (results_tmp2 rfl _ _ _) rfl ?_
  exact ⟨by rw [HE.out.1, HE.out.2]; try rfl, BL.out⟩
end Go.Proofs.YtneeocnjfnneoaaGreat
