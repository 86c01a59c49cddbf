/-
 What became of all elements and of one is the document's: the walk, given the program's answers.
 Conditions: none.
-/
import Derived.Test.YtdldphkofkbmaaaGreatVGDifOne
import Derived.Test.YtdldphkofkbmaaaGreatVGDifRef
set_option linter.unusedVariables false
set_option linter.unusedSimpArgs false
set_option maxRecDepth 100000
namespace Go.Proofs.YtdldphkofkbmaaaGreat
open Go.RowKit

set_option maxHeartbeats 16000000 in
theorem walk_diff_tells (hc : DifSaid) (v y : Value) (a b : Pl) (kind id : Int) (w : World) (h : PlanV w w.heap.size v a) (h' : PlanV w w.heap.size y b) (hk0 : 0 ≤ kind) (hk1 : kind < 256) :
  Calls Tryz.prog 3 #[v, y, .int .u8 kind, .int .i64 id] w fun e w' => e = .returned (.bool true) ∧ Below w.heap.size w w' := by
 have KK := Lib.hid (And.intro hk0 hk1)
 clear hk0 hk1
 obtain ⟨u2, u3, u4, u5, rfl, hin⟩ := h
 obtain ⟨z2, z3, z4, z5, rfl, hin'⟩ := h'
 obtain ⟨h0, h1, hqb⟩ := two_boxes w (.cells #[.int .i64 a.ver, .int .i64 a.par, u2, u3, u4, u5] 27) (.cells #[.int .i64 b.ver, .int .i64 b.par, z2, z3, z4, z5] 27)
 go_enter Tryz.func3, Tryz.ntmps3
 go_upto_region 1 with fail
 generalize (w.alloc (.cells #[.int .i64 a.ver, .int .i64 a.par, u2, u3, u4, u5] 27)).alloc (.cells #[.int .i64 b.ver, .int .i64 b.par, z2, z3, z4, z5] 27) = q at h0 h1 hqb ⊢
 have X0 := Lib.hid h0
 have X1 := Lib.hid h1
 have BQ := Lib.hid hqb
 have VA : Hid (PlanV q q.heap.size (.agg #[.int .i64 a.ver, .int .i64 a.par, u2, u3, u4, u5]) a) := Lib.hid ⟨_, _, _, _, rfl, (hin.below hqb).more hqb.size⟩
 have VB : Hid (PlanV q q.heap.size (.agg #[.int .i64 b.ver, .int .i64 b.par, z2, z3, z4, z5]) b) := Lib.hid ⟨_, _, _, _, rfl, (hin'.below hqb).more hqb.size⟩
 clear h0 h1 hqb hin hin'
 obtain ⟨k0, k1, k2, k3, k4, k5⟩ := cell6_of X0.out
 go_wp2_with fail
 refine (rgreat8_any _ a q VA.out).mono ?_
 rintro e w1 ⟨⟨g, rfl, hg⟩, bN⟩
 clear k0 k1 k2 k3 k4 k5
 replace X0 := Lib.hid ((bN.block _ (heap_lt X0.out)).trans X0.out)
 replace X1 := Lib.hid ((bN.block _ (heap_lt X1.out)).trans X1.out)
 replace BQ := Lib.hid (BQ.out.trans (bN.mono BQ.out.size))
 replace VA := Lib.hid ((VA.out.below bN).more bN.size)
 replace VB := Lib.hid ((VB.out.below bN).more bN.size)
 clear bN
 cases g with
 | true =>
  go_wp2_with fail
  go_ret
  exact ⟨rfl, BQ.out⟩
 | false =>
 have FA := Lib.hid (hg rfl)
 clear hg
 obtain ⟨k0, k1, k2, k3, k4, k5⟩ := cell6_of X1.out
 go_wp2_with fail
 refine (rgreat8_any _ b w1 VB.out).mono ?_
 rintro e w2 ⟨⟨g, rfl, hg⟩, bN⟩
 clear k0 k1 k2 k3 k4 k5
 replace X0 := Lib.hid ((bN.block _ (heap_lt X0.out)).trans X0.out)
 replace X1 := Lib.hid ((bN.block _ (heap_lt X1.out)).trans X1.out)
 replace BQ := Lib.hid (BQ.out.trans (bN.mono BQ.out.size))
 replace VA := Lib.hid ((VA.out.below bN).more bN.size)
 replace VB := Lib.hid ((VB.out.below bN).more bN.size)
 clear bN
 cases g with
 | true =>
  go_wp2_with fail
  go_ret
  exact ⟨rfl, BQ.out⟩
 | false =>
 have FB := Lib.hid (hg rfl)
 clear hg
 obtain ⟨k0, k1, k2, k3, k4, k5⟩ := cell6_of X0.out
 go_wp2_with fail
 refine (rtwin8_any _ a w2 VA.out FA.out).mono ?_
 rintro e wT ⟨v2, v3, v4, v5, rfl, ho, bN⟩
 obtain ⟨O2, f2, rfl⟩ := ho.secs.slice
 obtain ⟨O3, f3, rfl⟩ := ho.pts.slice
 obtain ⟨O4, f4, rfl⟩ := ho.sigs.slice
 obtain ⟨O5, f5, rfl⟩ := ho.routes.slice
 have VO : Hid (PlanV wT wT.heap.size (.agg #[.int .i64 a.ver, .int .i64 a.par, .slice O2 a.secs.length f2, .slice O3 a.pts.length f3, .slice O4 a.sigs.length f4, .slice O5 a.routes.length f5]) a) := Lib.hid ⟨_, _, _, _, rfl, ho.in_⟩
 clear ho
 clear k0 k1 k2 k3 k4 k5
 replace X0 := Lib.hid ((bN.block _ (heap_lt X0.out)).trans X0.out)
 replace X1 := Lib.hid ((bN.block _ (heap_lt X1.out)).trans X1.out)
 replace BQ := Lib.hid (BQ.out.trans (bN.mono BQ.out.size))
 replace VA := Lib.hid ((VA.out.below bN).more bN.size)
 replace VB := Lib.hid ((VB.out.below bN).more bN.size)
 clear bN
 have XX0 := heap_alloc_self wT (.cells #[.int .i64 0, .int .i64 0, .slice none 0 0, .slice none 0 0, .slice none 0 0, .slice none 0 0] 27)
 have hb1 := below_setRow (below_new wT (.cells #[.int .i64 0, .int .i64 0, .slice none 0 0, .slice none 0 0, .slice none 0 0, .slice none 0 0] 27)) (Nat.le_refl _) #[.int .i64 a.ver, .int .i64 a.par, .slice O2 a.secs.length f2, .slice O3 a.pts.length f3, .slice O4 a.sigs.length f4, .slice O5 a.routes.length f5]
 have hx1 := setRow_heap (wT.alloc (.cells #[.int .i64 0, .int .i64 0, .slice none 0 0, .slice none 0 0, .slice none 0 0, .slice none 0 0] 27)) wT.heap.size _ #[.int .i64 a.ver, .int .i64 a.par, .slice O2 a.secs.length f2, .slice O3 a.pts.length f3, .slice O4 a.sigs.length f4, .slice O5 a.routes.length f5] 27 _ XX0
 go_upto_region 4 with ((with_reducible show wpList _ _ _ (⟨none, _, _, _, _, _⟩ :: _) _ _); refine wpList_store_rowS rfl _ (.tmp 9) (.tmp 26) rfl wT.heap.size rfl (c' := #[.int .i64 a.ver, .int .i64 a.par, .slice O2 a.secs.length f2, .slice O3 a.pts.length f3, .slice O4 a.sigs.length f4, .slice O5 a.routes.length f5]) rfl XX0 infoPlan6 rfl (by simp [Value.oneCell']) ?_)
 generalize (wT.alloc (.cells #[.int .i64 0, .int .i64 0, .slice none 0 0, .slice none 0 0, .slice none 0 0, .slice none 0 0] 27)).setRow wT.heap.size #[.int .i64 a.ver, .int .i64 a.par, .slice O2 a.secs.length f2, .slice O3 a.pts.length f3, .slice O4 a.sigs.length f4, .slice O5 a.routes.length f5] = q1 at hb1 hx1 ⊢
 obtain ⟨p3, hp1⟩ : ∃ n, n = wT.heap.size := ⟨_, rfl⟩
 rw [← hp1] at hx1 ⊢
 have XO := Lib.hid hx1
 clear hx1 XX0 hp1
 replace X0 := Lib.hid ((hb1.block _ (heap_lt X0.out)).trans X0.out)
 replace X1 := Lib.hid ((hb1.block _ (heap_lt X1.out)).trans X1.out)
 replace BQ := Lib.hid (BQ.out.trans (hb1.mono BQ.out.size))
 replace VA := Lib.hid ((VA.out.below hb1).more hb1.size)
 replace VB := Lib.hid ((VB.out.below hb1).more hb1.size)
 replace VO := Lib.hid ((VO.out.below hb1).more hb1.size)
 clear hb1
 obtain ⟨E, hE⟩ : ∃ x, x = difE a b := ⟨_, rfl⟩
 obtain ⟨l, hl⟩ : ∃ x, x = difV a b := ⟨_, rfl⟩
 obtain ⟨OV, hOV⟩ : ∃ x, x = oneV13 a b kind id := ⟨_, rfl⟩
 obtain ⟨OE, hOE⟩ : ∃ x, x = oneE13 a b kind id := ⟨_, rfl⟩
 have HV := Lib.hid (And.intro hE (And.intro hl (And.intro hOV hOE)))
 clear hE hl hOV hOE
 obtain ⟨k0, k1, k2, k3, k4, k5⟩ := cell6_of XO.out
 obtain ⟨m0, m1, m2, m3, m4, m5⟩ := cell6_of X1.out
 go_wp2_with fail
 refine (hc.of _ _ a b q1 VO.out VB.out).mono ?_
 rintro e w3 ⟨u, rfl, hu, bN⟩
 rw [← HV.out.2.1] at hu
 rw [← HV.out.1]
 have LD := Lib.hid (hu.in_ diffR_cells)
 obtain ⟨nl, hnl⟩ : ∃ n, n = l.length := ⟨_, rfl⟩
 have HNL := Lib.hid hnl
 obtain ⟨DA, Dc, rfl⟩ := hu.slice
 rw [← HNL.out] at LD ⊢
 clear hu hnl k0 k1 k2 k3 k4 k5 m0 m1 m2 m3 m4 m5
 replace X0 := Lib.hid ((bN.block _ (heap_lt X0.out)).trans X0.out)
 replace X1 := Lib.hid ((bN.block _ (heap_lt X1.out)).trans X1.out)
 replace XO := Lib.hid ((bN.block _ (heap_lt XO.out)).trans XO.out)
 replace BQ := Lib.hid (BQ.out.trans (bN.mono BQ.out.size))
 replace VA := Lib.hid ((VA.out.below bN).more bN.size)
 replace VB := Lib.hid ((VB.out.below bN).more bN.size)
 replace VO := Lib.hid ((VO.out.below bN).more bN.size)
 clear bN
 obtain ⟨k0, k1, k2, k3, k4, k5⟩ := cell6_of X0.out
 obtain ⟨m0, m1, m2, m3, m4, m5⟩ := cell6_of X1.out
 go_wp2_with fail
 refine (rof13_any _ _ a b w3 VA.out VB.out).mono ?_
 rintro e w4 ⟨u, rfl, hu, bN⟩
 rw [← HV.out.2.1] at hu
 rw [← HV.out.1]
 have LF := Lib.hid (hu.in_ diffR_cells)
 obtain ⟨FA_, Fc, rfl⟩ := hu.slice
 rw [← HNL.out] at LF ⊢
 clear hu k0 k1 k2 k3 k4 k5 m0 m1 m2 m3 m4 m5
 replace X0 := Lib.hid ((bN.block _ (heap_lt X0.out)).trans X0.out)
 replace X1 := Lib.hid ((bN.block _ (heap_lt X1.out)).trans X1.out)
 replace XO := Lib.hid ((bN.block _ (heap_lt XO.out)).trans XO.out)
 replace BQ := Lib.hid (BQ.out.trans (bN.mono BQ.out.size))
 replace VA := Lib.hid ((VA.out.below bN).more bN.size)
 replace VB := Lib.hid ((VB.out.below bN).more bN.size)
 replace VO := Lib.hid ((VO.out.below bN).more bN.size)
 replace LD := Lib.hid ((LD.out.below diffR bN).more diffR bN.size)
 clear bN
 obtain ⟨k0, k1, k2, k3, k4, k5⟩ := cell6_of XO.out
 obtain ⟨m0, m1, m2, m3, m4, m5⟩ := cell6_of X1.out
 go_wp2_with fail
 refine (hc.one _ _ a b kind id w4 VO.out VB.out KK.out.1 KK.out.2).mono ?_
 rintro e w5 ⟨rfl, bN⟩
 rw [← HV.out.2.2.1, ← HV.out.2.2.2]
 clear k0 k1 k2 k3 k4 k5 m0 m1 m2 m3 m4 m5
 replace X0 := Lib.hid ((bN.block _ (heap_lt X0.out)).trans X0.out)
 replace X1 := Lib.hid ((bN.block _ (heap_lt X1.out)).trans X1.out)
 replace XO := Lib.hid ((bN.block _ (heap_lt XO.out)).trans XO.out)
 replace BQ := Lib.hid (BQ.out.trans (bN.mono BQ.out.size))
 replace VA := Lib.hid ((VA.out.below bN).more bN.size)
 replace VB := Lib.hid ((VB.out.below bN).more bN.size)
 replace VO := Lib.hid ((VO.out.below bN).more bN.size)
 replace LD := Lib.hid ((LD.out.below diffR bN).more diffR bN.size)
 replace LF := Lib.hid ((LF.out.below diffR bN).more diffR bN.size)
 clear bN
 obtain ⟨k0, k1, k2, k3, k4, k5⟩ := cell6_of X0.out
 obtain ⟨m0, m1, m2, m3, m4, m5⟩ := cell6_of X1.out
 go_wp2_with fail
 refine (rone13_any _ _ a b kind id w5 VA.out VB.out).mono ?_
 rintro e w6 ⟨rfl, bN⟩
 rw [← HV.out.2.2.1, ← HV.out.2.2.2]
 clear k0 k1 k2 k3 k4 k5 m0 m1 m2 m3 m4 m5
 replace X0 := Lib.hid ((bN.block _ (heap_lt X0.out)).trans X0.out)
 replace X1 := Lib.hid ((bN.block _ (heap_lt X1.out)).trans X1.out)
 replace XO := Lib.hid ((bN.block _ (heap_lt XO.out)).trans XO.out)
 replace BQ := Lib.hid (BQ.out.trans (bN.mono BQ.out.size))
 replace VA := Lib.hid ((VA.out.below bN).more bN.size)
 replace VB := Lib.hid ((VB.out.below bN).more bN.size)
 replace VO := Lib.hid ((VO.out.below bN).more bN.size)
 replace LD := Lib.hid ((LD.out.below diffR bN).more diffR bN.size)
 replace LF := Lib.hid ((LF.out.below diffR bN).more diffR bN.size)
 clear bN
 have hn9 : nl ≤ 9223372036854775807 := by
  obtain ⟨_, _, e, h1, h2⟩ := LD.out.slice
  unfold maxLen at h2
  have := HNL.out
  omega
 have d1 : (E != E) = false := by simp
 have d2 : (OV != OV) = false := by simp
 have d3 : (OE != OE) = false := by simp
 have d4 : ((nl : Int) != (nl : Int)) = false := by simp
 go_wp2_with fail
 clear d1 d2 d3 d4
 go_loopw [18] (fun s18 wr => ∃ i : Nat, i ≤ nl ∧ s18 = .int .i64 i ∧ Below w6.heap.size w6 wr) (fun s18 _ => nl - (intOf s18).toNat)
 case atStart => exact ⟨0, by omega, by go_num, Below.refl _ _⟩
 case round =>
  obtain ⟨i, hi, rfl, hb⟩ := hrel
  have BW := Lib.hid hb
  clear hb
  by_cases hlt : i < nl
  ·have hlt' : (i : Int) < nl := by omega
   have hil : i < l.length := by have := HNL.out; omega
   obtain ⟨j0, j1, j2, hx⟩ : ∃ a b c, l[i] = (a, b, c) := ⟨_, _, _, rfl⟩
   obtain ⟨b1, o1, e1, -, c0, c1, c4⟩ := (LD.out.below diffR BW.out).at hil
   cases e1
   obtain ⟨b2, o2, e2, -, c2, c3, c5⟩ := (LF.out.below diffR BW.out).at hil
   cases e2
   rw [hx] at c0 c1 c2 c3 c4 c5
   have g0 : wr.cell? ⟨b1, o1 + i * 3, none⟩ = some (.int .u8 j0) := c0
   have g1 : wr.cell? ⟨b1, o1 + i * 3 + 1, none⟩ = some (.int .i64 j1) := c1
   have g4 : wr.cell? ⟨b1, o1 + i * 3 + 2, none⟩ = some (.int .u8 j2) := c4
   have g2 : wr.cell? ⟨b2, o2 + i * 3, none⟩ = some (.int .u8 j0) := c2
   have g3 : wr.cell? ⟨b2, o2 + i * 3 + 1, none⟩ = some (.int .i64 j1) := c3
   have g5 : wr.cell? ⟨b2, o2 + i * 3 + 2, none⟩ = some (.int .u8 j2) := c5
   have hcmp : ∀ w' : World, (Op.equalIn 10000 41 (.agg #[.int .u8 j0, .int .i64 j1, .int .u8 j2]) (.agg #[.int .u8 j0, .int .i64 j1, .int .u8 j2])).run Tryz.prog w' = .ok true w' := diff_self13 j0 j1 j2
   have BD : Hid (∀ nq, Below wr.heap.size wr (wr.drewN nq)) := Lib.hid (fun nq => drewN13 wr nq)
   clear hx c0 c1 c2 c3 c4 c5
   go_upto_region 13 with fail
   go_quiet (fail)
   have hdb := BD.out nq
   generalize wr.drewN nq = v3 at hdb ⊢
   have B3 := Lib.hid (BW.out.trans (hdb.mono BW.out.size))
   clear hdb BD g0 g1 g2 g3 g4 g5 hcmp
   go_wp2_with fail
   go_roundw
   case measure => simp [intOf]; omega
   case rel => exact ⟨i + 1, by omega, by go_num, B3.out⟩
  ·obtain rfl : i = nl := by omega
   have hlt' : ¬ (i : Int) < i := by omega
   have tX0 := (BW.out.block _ (heap_lt X0.out)).trans X0.out
   have tXO := (BW.out.block _ (heap_lt XO.out)).trans XO.out
   have tVA := Lib.hid ((VA.out.below BW.out).more BW.out.size)
   have tVO := Lib.hid ((VO.out.below BW.out).more BW.out.size)
   obtain ⟨k0, k1, k2, k3, k4, k5⟩ := cell6_of tXO
   obtain ⟨m0, m1, m2, m3, m4, m5⟩ := cell6_of tX0
   clear tX0 tXO
   go_wp2_with fail
   refine (rsame8_any _ _ a a wr tVO.out tVA.out).mono ?_
   rintro e w7 ⟨rfl, bN⟩
   rw [eqB_true rfl]
   have BF := Lib.hid (BQ.out.trans ((BW.out.trans (bN.mono BW.out.size)).mono BQ.out.size))
   clear bN
   go_wp2_with fail
   go_ret
   exact ⟨rfl, BF.out⟩
end Go.Proofs.YtdldphkofkbmaaaGreat
