/-
 The area of a change, and what a route uses, are the document's: the walk, given the program's answers.
 Conditions: none.
-/
import Derived.Test.YtneeocnjfnneoaaGreatQAreRefI
import Derived.Test.YtneeocnjfnneoaaGreatQGPlnRefD
set_option linter.unusedVariables false
set_option linter.unusedSimpArgs false
set_option maxRecDepth 100000
namespace Go.Proofs.YtneeocnjfnneoaaGreat
open Go.RowKit

set_option maxHeartbeats 16000000 in
theorem walk_area_tells (hc : AreaSaid) (v y : Value) (a b : Pl) (id : Int) (w : World) (h : PlanV w w.heap.size v a) (h' : PlanV w w.heap.size y b) :
  Calls Tryz.prog 4 #[v, y, .int .i64 id] w fun e w' => e = .returned (.bool true) ∧ Below w.heap.size w w' := by
 obtain ⟨u2, u3, u4, u5, rfl, hin⟩ := h
 obtain ⟨z2, z3, z4, z5, rfl, hin'⟩ := h'
 obtain ⟨h0, h1, hqb⟩ := two_boxes w (.cells #[.int .i64 a.ver, .int .i64 a.par, u2, u3, u4, u5] 33) (.cells #[.int .i64 b.ver, .int .i64 b.par, z2, z3, z4, z5] 33)
 go_enter Tryz.func4, Tryz.ntmps4
 go_upto_region 1 with fail
 generalize (w.alloc (.cells #[.int .i64 a.ver, .int .i64 a.par, u2, u3, u4, u5] 33)).alloc (.cells #[.int .i64 b.ver, .int .i64 b.par, z2, z3, z4, z5] 33) = q at h0 h1 hqb ⊢
 have X0 := Lib.hid h0
 have X1 := Lib.hid h1
 have BQ := Lib.hid hqb
 have VA : Hid (PlanV q q.heap.size (.agg #[.int .i64 a.ver, .int .i64 a.par, u2, u3, u4, u5]) a) := Lib.hid ⟨_, _, _, _, rfl, (hin.below hqb).more hqb.size⟩
 have VB : Hid (PlanV q q.heap.size (.agg #[.int .i64 b.ver, .int .i64 b.par, z2, z3, z4, z5]) b) := Lib.hid ⟨_, _, _, _, rfl, (hin'.below hqb).more hqb.size⟩
 clear h0 h1 hqb hin hin'
 obtain ⟨k0, k1, k2, k3, k4, k5⟩ := cell6_of X0.out
 go_wp2_with fail
 refine (rgreat8_any _ a q VA.out).mono ?_
 rintro e w1 ⟨⟨g, rfl, hg⟩, bN⟩
 clear k0 k1 k2 k3 k4 k5
 replace X0 := Lib.hid ((bN.block _ (heap_lt X0.out)).trans X0.out)
 replace X1 := Lib.hid ((bN.block _ (heap_lt X1.out)).trans X1.out)
 replace BQ := Lib.hid (BQ.out.trans (bN.mono BQ.out.size))
 replace VA := Lib.hid ((VA.out.below bN).more bN.size)
 replace VB := Lib.hid ((VB.out.below bN).more bN.size)
 clear bN
 cases g with
 | true =>
  go_wp2_with fail
  go_ret
  exact ⟨rfl, BQ.out⟩
 | false =>
 have FA := Lib.hid (hg rfl)
 clear hg
 obtain ⟨k0, k1, k2, k3, k4, k5⟩ := cell6_of X1.out
 go_wp2_with fail
 refine (rgreat8_any _ b w1 VB.out).mono ?_
 rintro e w2 ⟨⟨g, rfl, hg⟩, bN⟩
 clear k0 k1 k2 k3 k4 k5
 replace X0 := Lib.hid ((bN.block _ (heap_lt X0.out)).trans X0.out)
 replace X1 := Lib.hid ((bN.block _ (heap_lt X1.out)).trans X1.out)
 replace BQ := Lib.hid (BQ.out.trans (bN.mono BQ.out.size))
 replace VA := Lib.hid ((VA.out.below bN).more bN.size)
 replace VB := Lib.hid ((VB.out.below bN).more bN.size)
 clear bN
 cases g with
 | true =>
  go_wp2_with fail
  go_ret
  exact ⟨rfl, BQ.out⟩
 | false =>
 have FB := Lib.hid (hg rfl)
 clear hg
 obtain ⟨k0, k1, k2, k3, k4, k5⟩ := cell6_of X0.out
 go_wp2_with fail
 refine (rtwin8_any _ a w2 VA.out FA.out).mono ?_
 rintro e wT ⟨v2, v3, v4, v5, rfl, ho, bN⟩
 obtain ⟨O2, f2, rfl⟩ := ho.secs.slice
 obtain ⟨O3, f3, rfl⟩ := ho.pts.slice
 obtain ⟨O4, f4, rfl⟩ := ho.sigs.slice
 obtain ⟨O5, f5, rfl⟩ := ho.routes.slice
 have VO : Hid (PlanV wT wT.heap.size (.agg #[.int .i64 a.ver, .int .i64 a.par, .slice O2 a.secs.length f2, .slice O3 a.pts.length f3, .slice O4 a.sigs.length f4, .slice O5 a.routes.length f5]) a) := Lib.hid ⟨_, _, _, _, rfl, ho.in_⟩
 clear ho
 clear k0 k1 k2 k3 k4 k5
 replace X0 := Lib.hid ((bN.block _ (heap_lt X0.out)).trans X0.out)
 replace X1 := Lib.hid ((bN.block _ (heap_lt X1.out)).trans X1.out)
 replace BQ := Lib.hid (BQ.out.trans (bN.mono BQ.out.size))
 replace VA := Lib.hid ((VA.out.below bN).more bN.size)
 replace VB := Lib.hid ((VB.out.below bN).more bN.size)
 clear bN
 have XX0 := heap_alloc_self wT (.cells #[.int .i64 0, .int .i64 0, .slice none 0 0, .slice none 0 0, .slice none 0 0, .slice none 0 0] 33)
 have hb1 := below_setRow (below_new wT (.cells #[.int .i64 0, .int .i64 0, .slice none 0 0, .slice none 0 0, .slice none 0 0, .slice none 0 0] 33)) (Nat.le_refl _) #[.int .i64 a.ver, .int .i64 a.par, .slice O2 a.secs.length f2, .slice O3 a.pts.length f3, .slice O4 a.sigs.length f4, .slice O5 a.routes.length f5]
 have hx1 := setRow_heap (wT.alloc (.cells #[.int .i64 0, .int .i64 0, .slice none 0 0, .slice none 0 0, .slice none 0 0, .slice none 0 0] 33)) wT.heap.size _ #[.int .i64 a.ver, .int .i64 a.par, .slice O2 a.secs.length f2, .slice O3 a.pts.length f3, .slice O4 a.sigs.length f4, .slice O5 a.routes.length f5] 33 _ XX0
 go_upto_region 4 with ((with_reducible show wpList _ _ _ (⟨none, _, _, _, _, _⟩ :: _) _ _); refine wpList_store_rowS rfl _ (.tmp 7) (.tmp 23) rfl wT.heap.size rfl (c' := #[.int .i64 a.ver, .int .i64 a.par, .slice O2 a.secs.length f2, .slice O3 a.pts.length f3, .slice O4 a.sigs.length f4, .slice O5 a.routes.length f5]) rfl XX0 infoPlan6 rfl (by simp [Value.oneCell']) ?_)
 generalize (wT.alloc (.cells #[.int .i64 0, .int .i64 0, .slice none 0 0, .slice none 0 0, .slice none 0 0, .slice none 0 0] 33)).setRow wT.heap.size #[.int .i64 a.ver, .int .i64 a.par, .slice O2 a.secs.length f2, .slice O3 a.pts.length f3, .slice O4 a.sigs.length f4, .slice O5 a.routes.length f5] = q1 at hb1 hx1 ⊢
 obtain ⟨p3, hp1⟩ : ∃ n, n = wT.heap.size := ⟨_, rfl⟩
 rw [← hp1] at hx1 ⊢
 have XO := Lib.hid hx1
 clear hx1 XX0 hp1
 replace X0 := Lib.hid ((hb1.block _ (heap_lt X0.out)).trans X0.out)
 replace X1 := Lib.hid ((hb1.block _ (heap_lt X1.out)).trans X1.out)
 replace BQ := Lib.hid (BQ.out.trans (hb1.mono BQ.out.size))
 replace VA := Lib.hid ((VA.out.below hb1).more hb1.size)
 replace VB := Lib.hid ((VB.out.below hb1).more hb1.size)
 replace VO := Lib.hid ((VO.out.below hb1).more hb1.size)
 clear hb1
 obtain ⟨E, hE⟩ : ∃ x, x = arE a b := ⟨_, rfl⟩
 obtain ⟨l, hl⟩ : ∃ x, x = arV a b := ⟨_, rfl⟩
 obtain ⟨OV, hOV⟩ : ∃ x, x = usV a id := ⟨_, rfl⟩
 obtain ⟨OE, hOE⟩ : ∃ x, x = usE a id := ⟨_, rfl⟩
 have HV := Lib.hid (And.intro hE (And.intro hl (And.intro hOV hOE)))
 clear hE hl hOV hOE
 obtain ⟨k0, k1, k2, k3, k4, k5⟩ := cell6_of XO.out
 obtain ⟨m0, m1, m2, m3, m4, m5⟩ := cell6_of X1.out
 go_wp2_with fail
 refine (hc.of _ _ a b q1 VO.out VB.out).mono ?_
 rintro e x3 ⟨u0, u1, u2, u3, rfl, hu, bN⟩
 rw [← HV.out.2.1] at hu
 rw [← HV.out.1]
 obtain ⟨U80, n80, c80, rfl⟩ := ints_sl hu.secs
 obtain ⟨U81, n81, c81, rfl⟩ := ints_sl hu.pts
 obtain ⟨U82, n82, c82, rfl⟩ := ints_sl hu.sigs
 obtain ⟨U83, n83, c83, rfl⟩ := ints_sl hu.routes
 clear k0 k1 k2 k3 k4 k5 m0 m1 m2 m3 m4 m5
 replace X0 := Lib.hid ((bN.block _ (heap_lt X0.out)).trans X0.out)
 replace X1 := Lib.hid ((bN.block _ (heap_lt X1.out)).trans X1.out)
 replace XO := Lib.hid ((bN.block _ (heap_lt XO.out)).trans XO.out)
 replace BQ := Lib.hid (BQ.out.trans (bN.mono BQ.out.size))
 replace VA := Lib.hid ((VA.out.below bN).more bN.size)
 replace VB := Lib.hid ((VB.out.below bN).more bN.size)
 replace VO := Lib.hid ((VO.out.below bN).more bN.size)
 clear bN
 have A8 := Lib.hid hu
 clear hu
 go_upto_region 5 with ((with_reducible show wpList _ _ _ (⟨none, _, _, _, _, _⟩ :: _) _ _); refine wpList_store_rowS rfl _ (.tmp 8) (.tmp 28) rfl x3.heap.size rfl (c' := #[.slice U80 n80 c80, .slice U81 n81 c81, .slice U82 n82 c82, .slice U83 n83 c83]) rfl (heap_alloc_self x3 (.cells #[.slice none 0 0, .slice none 0 0, .slice none 0 0, .slice none 0 0] 24)) infoArea4 rfl (by simp [Value.oneCell']) ?_)
 rw [World.setRow_alloc_new]
 have hx1 := heap_alloc_self x3 (.cells #[.slice U80 n80 c80, .slice U81 n81 c81, .slice U82 n82 c82, .slice U83 n83 c83] 24)
 have hb1 := below_new x3 (.cells #[.slice U80 n80 c80, .slice U81 n81 c81, .slice U82 n82 c82, .slice U83 n83 c83] 24)
 generalize x3.alloc (.cells #[.slice U80 n80 c80, .slice U81 n81 c81, .slice U82 n82 c82, .slice U83 n83 c83] 24) = w3 at hb1 hx1 ⊢
 obtain ⟨p8, hp1⟩ : ∃ n, n = x3.heap.size := ⟨_, rfl⟩
 rw [← hp1] at hx1 ⊢
 have X8 := Lib.hid hx1
 clear hx1 hp1
 replace X0 := Lib.hid ((hb1.block _ (heap_lt X0.out)).trans X0.out)
 replace X1 := Lib.hid ((hb1.block _ (heap_lt X1.out)).trans X1.out)
 replace XO := Lib.hid ((hb1.block _ (heap_lt XO.out)).trans XO.out)
 replace BQ := Lib.hid (BQ.out.trans (hb1.mono BQ.out.size))
 replace VA := Lib.hid ((VA.out.below hb1).more hb1.size)
 replace VB := Lib.hid ((VB.out.below hb1).more hb1.size)
 replace VO := Lib.hid ((VO.out.below hb1).more hb1.size)
 replace A8 := Lib.hid ((A8.out.below hb1).more hb1.size)
 clear hb1
 obtain ⟨k0, k1, k2, k3, k4, k5⟩ := cell6_of X0.out
 obtain ⟨m0, m1, m2, m3, m4, m5⟩ := cell6_of X1.out
 go_wp2_with fail
 refine (raskedA_any _ _ a b w3 VA.out VB.out).mono ?_
 rintro e x4 ⟨u0, u1, u2, u3, rfl, hu, bN⟩
 rw [← HV.out.2.1] at hu
 rw [← HV.out.1]
 obtain ⟨U100, n100, c100, rfl⟩ := ints_sl hu.secs
 obtain ⟨U101, n101, c101, rfl⟩ := ints_sl hu.pts
 obtain ⟨U102, n102, c102, rfl⟩ := ints_sl hu.sigs
 obtain ⟨U103, n103, c103, rfl⟩ := ints_sl hu.routes
 clear k0 k1 k2 k3 k4 k5 m0 m1 m2 m3 m4 m5
 replace X0 := Lib.hid ((bN.block _ (heap_lt X0.out)).trans X0.out)
 replace X1 := Lib.hid ((bN.block _ (heap_lt X1.out)).trans X1.out)
 replace XO := Lib.hid ((bN.block _ (heap_lt XO.out)).trans XO.out)
 replace X8 := Lib.hid ((bN.block _ (heap_lt X8.out)).trans X8.out)
 replace BQ := Lib.hid (BQ.out.trans (bN.mono BQ.out.size))
 replace VA := Lib.hid ((VA.out.below bN).more bN.size)
 replace VB := Lib.hid ((VB.out.below bN).more bN.size)
 replace VO := Lib.hid ((VO.out.below bN).more bN.size)
 replace A8 := Lib.hid ((A8.out.below bN).more bN.size)
 clear bN
 have A10 := Lib.hid hu
 clear hu
 go_upto_region 6 with ((with_reducible show wpList _ _ _ (⟨none, _, _, _, _, _⟩ :: _) _ _); refine wpList_store_rowS rfl _ (.tmp 10) (.tmp 34) rfl x4.heap.size rfl (c' := #[.slice U100 n100 c100, .slice U101 n101 c101, .slice U102 n102 c102, .slice U103 n103 c103]) rfl (heap_alloc_self x4 (.cells #[.slice none 0 0, .slice none 0 0, .slice none 0 0, .slice none 0 0] 24)) infoArea4 rfl (by simp [Value.oneCell']) ?_)
 rw [World.setRow_alloc_new]
 have hx1 := heap_alloc_self x4 (.cells #[.slice U100 n100 c100, .slice U101 n101 c101, .slice U102 n102 c102, .slice U103 n103 c103] 24)
 have hb1 := below_new x4 (.cells #[.slice U100 n100 c100, .slice U101 n101 c101, .slice U102 n102 c102, .slice U103 n103 c103] 24)
 generalize x4.alloc (.cells #[.slice U100 n100 c100, .slice U101 n101 c101, .slice U102 n102 c102, .slice U103 n103 c103] 24) = w4 at hb1 hx1 ⊢
 obtain ⟨p10, hp1⟩ : ∃ n, n = x4.heap.size := ⟨_, rfl⟩
 rw [← hp1] at hx1 ⊢
 have X10 := Lib.hid hx1
 clear hx1 hp1
 replace X0 := Lib.hid ((hb1.block _ (heap_lt X0.out)).trans X0.out)
 replace X1 := Lib.hid ((hb1.block _ (heap_lt X1.out)).trans X1.out)
 replace XO := Lib.hid ((hb1.block _ (heap_lt XO.out)).trans XO.out)
 replace X8 := Lib.hid ((hb1.block _ (heap_lt X8.out)).trans X8.out)
 replace BQ := Lib.hid (BQ.out.trans (hb1.mono BQ.out.size))
 replace VA := Lib.hid ((VA.out.below hb1).more hb1.size)
 replace VB := Lib.hid ((VB.out.below hb1).more hb1.size)
 replace VO := Lib.hid ((VO.out.below hb1).more hb1.size)
 replace A8 := Lib.hid ((A8.out.below hb1).more hb1.size)
 replace A10 := Lib.hid ((A10.out.below hb1).more hb1.size)
 clear hb1
 obtain ⟨k0, k1, k2, k3, k4, k5⟩ := cell6_of XO.out
 go_wp2_with fail
 refine (hc.uses _ a id w4 VO.out).mono ?_
 rintro e x5 ⟨u0, u1, u2, u3, rfl, hu, bN⟩
 rw [← HV.out.2.2.1] at hu
 rw [← HV.out.2.2.2]
 obtain ⟨U120, n120, c120, rfl⟩ := ints_sl hu.secs
 obtain ⟨U121, n121, c121, rfl⟩ := ints_sl hu.pts
 obtain ⟨U122, n122, c122, rfl⟩ := ints_sl hu.sigs
 obtain ⟨U123, n123, c123, rfl⟩ := ints_sl hu.routes
 clear k0 k1 k2 k3 k4 k5
 replace X0 := Lib.hid ((bN.block _ (heap_lt X0.out)).trans X0.out)
 replace X1 := Lib.hid ((bN.block _ (heap_lt X1.out)).trans X1.out)
 replace XO := Lib.hid ((bN.block _ (heap_lt XO.out)).trans XO.out)
 replace X8 := Lib.hid ((bN.block _ (heap_lt X8.out)).trans X8.out)
 replace X10 := Lib.hid ((bN.block _ (heap_lt X10.out)).trans X10.out)
 replace BQ := Lib.hid (BQ.out.trans (bN.mono BQ.out.size))
 replace VA := Lib.hid ((VA.out.below bN).more bN.size)
 replace VB := Lib.hid ((VB.out.below bN).more bN.size)
 replace VO := Lib.hid ((VO.out.below bN).more bN.size)
 replace A8 := Lib.hid ((A8.out.below bN).more bN.size)
 replace A10 := Lib.hid ((A10.out.below bN).more bN.size)
 clear bN
 have A12 := Lib.hid hu
 clear hu
 go_upto_region 7 with ((with_reducible show wpList _ _ _ (⟨none, _, _, _, _, _⟩ :: _) _ _); refine wpList_store_rowS rfl _ (.tmp 12) (.tmp 40) rfl x5.heap.size rfl (c' := #[.slice U120 n120 c120, .slice U121 n121 c121, .slice U122 n122 c122, .slice U123 n123 c123]) rfl (heap_alloc_self x5 (.cells #[.slice none 0 0, .slice none 0 0, .slice none 0 0, .slice none 0 0] 24)) infoArea4 rfl (by simp [Value.oneCell']) ?_)
 rw [World.setRow_alloc_new]
 have hx1 := heap_alloc_self x5 (.cells #[.slice U120 n120 c120, .slice U121 n121 c121, .slice U122 n122 c122, .slice U123 n123 c123] 24)
 have hb1 := below_new x5 (.cells #[.slice U120 n120 c120, .slice U121 n121 c121, .slice U122 n122 c122, .slice U123 n123 c123] 24)
 generalize x5.alloc (.cells #[.slice U120 n120 c120, .slice U121 n121 c121, .slice U122 n122 c122, .slice U123 n123 c123] 24) = w5 at hb1 hx1 ⊢
 obtain ⟨p12, hp1⟩ : ∃ n, n = x5.heap.size := ⟨_, rfl⟩
 rw [← hp1] at hx1 ⊢
 have X12 := Lib.hid hx1
 clear hx1 hp1
 replace X0 := Lib.hid ((hb1.block _ (heap_lt X0.out)).trans X0.out)
 replace X1 := Lib.hid ((hb1.block _ (heap_lt X1.out)).trans X1.out)
 replace XO := Lib.hid ((hb1.block _ (heap_lt XO.out)).trans XO.out)
 replace X8 := Lib.hid ((hb1.block _ (heap_lt X8.out)).trans X8.out)
 replace X10 := Lib.hid ((hb1.block _ (heap_lt X10.out)).trans X10.out)
 replace BQ := Lib.hid (BQ.out.trans (hb1.mono BQ.out.size))
 replace VA := Lib.hid ((VA.out.below hb1).more hb1.size)
 replace VB := Lib.hid ((VB.out.below hb1).more hb1.size)
 replace VO := Lib.hid ((VO.out.below hb1).more hb1.size)
 replace A8 := Lib.hid ((A8.out.below hb1).more hb1.size)
 replace A10 := Lib.hid ((A10.out.below hb1).more hb1.size)
 replace A12 := Lib.hid ((A12.out.below hb1).more hb1.size)
 clear hb1
 obtain ⟨k0, k1, k2, k3, k4, k5⟩ := cell6_of X0.out
 go_wp2_with fail
 refine (ruses14_any _ a id w5 VA.out).mono ?_
 rintro e x6 ⟨u0, u1, u2, u3, rfl, hu, bN⟩
 rw [← HV.out.2.2.1] at hu
 rw [← HV.out.2.2.2]
 obtain ⟨U140, n140, c140, rfl⟩ := ints_sl hu.secs
 obtain ⟨U141, n141, c141, rfl⟩ := ints_sl hu.pts
 obtain ⟨U142, n142, c142, rfl⟩ := ints_sl hu.sigs
 obtain ⟨U143, n143, c143, rfl⟩ := ints_sl hu.routes
 clear k0 k1 k2 k3 k4 k5
 replace X0 := Lib.hid ((bN.block _ (heap_lt X0.out)).trans X0.out)
 replace X1 := Lib.hid ((bN.block _ (heap_lt X1.out)).trans X1.out)
 replace XO := Lib.hid ((bN.block _ (heap_lt XO.out)).trans XO.out)
 replace X8 := Lib.hid ((bN.block _ (heap_lt X8.out)).trans X8.out)
 replace X10 := Lib.hid ((bN.block _ (heap_lt X10.out)).trans X10.out)
 replace X12 := Lib.hid ((bN.block _ (heap_lt X12.out)).trans X12.out)
 replace BQ := Lib.hid (BQ.out.trans (bN.mono BQ.out.size))
 replace VA := Lib.hid ((VA.out.below bN).more bN.size)
 replace VB := Lib.hid ((VB.out.below bN).more bN.size)
 replace VO := Lib.hid ((VO.out.below bN).more bN.size)
 replace A8 := Lib.hid ((A8.out.below bN).more bN.size)
 replace A10 := Lib.hid ((A10.out.below bN).more bN.size)
 replace A12 := Lib.hid ((A12.out.below bN).more bN.size)
 clear bN
 have A14 := Lib.hid hu
 clear hu
 go_upto_region 8 with ((with_reducible show wpList _ _ _ (⟨none, _, _, _, _, _⟩ :: _) _ _); refine wpList_store_rowS rfl _ (.tmp 14) (.tmp 46) rfl x6.heap.size rfl (c' := #[.slice U140 n140 c140, .slice U141 n141 c141, .slice U142 n142 c142, .slice U143 n143 c143]) rfl (heap_alloc_self x6 (.cells #[.slice none 0 0, .slice none 0 0, .slice none 0 0, .slice none 0 0] 24)) infoArea4 rfl (by simp [Value.oneCell']) ?_)
 rw [World.setRow_alloc_new]
 have hx1 := heap_alloc_self x6 (.cells #[.slice U140 n140 c140, .slice U141 n141 c141, .slice U142 n142 c142, .slice U143 n143 c143] 24)
 have hb1 := below_new x6 (.cells #[.slice U140 n140 c140, .slice U141 n141 c141, .slice U142 n142 c142, .slice U143 n143 c143] 24)
 generalize x6.alloc (.cells #[.slice U140 n140 c140, .slice U141 n141 c141, .slice U142 n142 c142, .slice U143 n143 c143] 24) = w6 at hb1 hx1 ⊢
 obtain ⟨p14, hp1⟩ : ∃ n, n = x6.heap.size := ⟨_, rfl⟩
 rw [← hp1] at hx1 ⊢
 have X14 := Lib.hid hx1
 clear hx1 hp1
 replace X0 := Lib.hid ((hb1.block _ (heap_lt X0.out)).trans X0.out)
 replace X1 := Lib.hid ((hb1.block _ (heap_lt X1.out)).trans X1.out)
 replace XO := Lib.hid ((hb1.block _ (heap_lt XO.out)).trans XO.out)
 replace X8 := Lib.hid ((hb1.block _ (heap_lt X8.out)).trans X8.out)
 replace X10 := Lib.hid ((hb1.block _ (heap_lt X10.out)).trans X10.out)
 replace X12 := Lib.hid ((hb1.block _ (heap_lt X12.out)).trans X12.out)
 replace BQ := Lib.hid (BQ.out.trans (hb1.mono BQ.out.size))
 replace VA := Lib.hid ((VA.out.below hb1).more hb1.size)
 replace VB := Lib.hid ((VB.out.below hb1).more hb1.size)
 replace VO := Lib.hid ((VO.out.below hb1).more hb1.size)
 replace A8 := Lib.hid ((A8.out.below hb1).more hb1.size)
 replace A10 := Lib.hid ((A10.out.below hb1).more hb1.size)
 replace A12 := Lib.hid ((A12.out.below hb1).more hb1.size)
 replace A14 := Lib.hid ((A14.out.below hb1).more hb1.size)
 clear hb1
 obtain ⟨k0, k1, k2, k3⟩ := cell4A X8.out
 obtain ⟨m0, m1, m2, m3⟩ := cell4A X10.out
 go_wp2_with fail
 refine (rsame14_any _ _ l l w6 ⟨_, _, _, _, rfl, A8.out⟩ ⟨_, _, _, _, rfl, A10.out⟩).mono ?_
 rintro e w7 ⟨rfl, bN⟩
 rw [eqB_true rfl]
 clear k0 k1 k2 k3 m0 m1 m2 m3
 replace X0 := Lib.hid ((bN.block _ (heap_lt X0.out)).trans X0.out)
 replace X1 := Lib.hid ((bN.block _ (heap_lt X1.out)).trans X1.out)
 replace XO := Lib.hid ((bN.block _ (heap_lt XO.out)).trans XO.out)
 replace X8 := Lib.hid ((bN.block _ (heap_lt X8.out)).trans X8.out)
 replace X10 := Lib.hid ((bN.block _ (heap_lt X10.out)).trans X10.out)
 replace X12 := Lib.hid ((bN.block _ (heap_lt X12.out)).trans X12.out)
 replace X14 := Lib.hid ((bN.block _ (heap_lt X14.out)).trans X14.out)
 replace BQ := Lib.hid (BQ.out.trans (bN.mono BQ.out.size))
 replace VA := Lib.hid ((VA.out.below bN).more bN.size)
 replace VB := Lib.hid ((VB.out.below bN).more bN.size)
 replace VO := Lib.hid ((VO.out.below bN).more bN.size)
 replace A8 := Lib.hid ((A8.out.below bN).more bN.size)
 replace A10 := Lib.hid ((A10.out.below bN).more bN.size)
 replace A12 := Lib.hid ((A12.out.below bN).more bN.size)
 replace A14 := Lib.hid ((A14.out.below bN).more bN.size)
 clear bN
 obtain ⟨k0, k1, k2, k3⟩ := cell4A X12.out
 obtain ⟨m0, m1, m2, m3⟩ := cell4A X14.out
 have d1 : (E == E) = true := by simp
 have d2 : (OE == OE) = true := by simp
 go_wp2_with fail
 refine (rsame14_any _ _ OV OV w7 ⟨_, _, _, _, rfl, A12.out⟩ ⟨_, _, _, _, rfl, A14.out⟩).mono ?_
 rintro e w8 ⟨rfl, bN⟩
 rw [eqB_true rfl]
 clear k0 k1 k2 k3 m0 m1 m2 m3
 replace X0 := Lib.hid ((bN.block _ (heap_lt X0.out)).trans X0.out)
 replace X1 := Lib.hid ((bN.block _ (heap_lt X1.out)).trans X1.out)
 replace XO := Lib.hid ((bN.block _ (heap_lt XO.out)).trans XO.out)
 replace X8 := Lib.hid ((bN.block _ (heap_lt X8.out)).trans X8.out)
 replace X10 := Lib.hid ((bN.block _ (heap_lt X10.out)).trans X10.out)
 replace X12 := Lib.hid ((bN.block _ (heap_lt X12.out)).trans X12.out)
 replace X14 := Lib.hid ((bN.block _ (heap_lt X14.out)).trans X14.out)
 replace BQ := Lib.hid (BQ.out.trans (bN.mono BQ.out.size))
 replace VA := Lib.hid ((VA.out.below bN).more bN.size)
 replace VB := Lib.hid ((VB.out.below bN).more bN.size)
 replace VO := Lib.hid ((VO.out.below bN).more bN.size)
 replace A8 := Lib.hid ((A8.out.below bN).more bN.size)
 replace A10 := Lib.hid ((A10.out.below bN).more bN.size)
 replace A12 := Lib.hid ((A12.out.below bN).more bN.size)
 replace A14 := Lib.hid ((A14.out.below bN).more bN.size)
 clear bN
 obtain ⟨k0, k1, k2, k3, k4, k5⟩ := cell6_of XO.out
 obtain ⟨m0, m1, m2, m3, m4, m5⟩ := cell6_of X0.out
 go_wp2_with fail
 refine (rsame8_any _ _ a a w8 VO.out VA.out).mono ?_
 rintro e w9 ⟨rfl, bN⟩
 rw [eqB_true rfl]
 have BF := Lib.hid (BQ.out.trans (bN.mono BQ.out.size))
 clear bN
 go_wp2_with fail
 go_ret
 exact ⟨rfl, BF.out⟩
end Go.Proofs.YtneeocnjfnneoaaGreat
