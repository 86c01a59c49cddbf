/-
 The area of a change is the same the other way round, and nothing from a plan to one that is it but for its version: the walk, given the program's answers.
 Conditions: none.
-/
import Derived.Test.YtneeocnjfnneoaaGreatQGAreOne
import Derived.Test.YtneeocnjfnneoaaGreatQGAreM
import Derived.Test.YtneeocnjfnneoaaGreatQGPlnRefD
set_option linter.unusedVariables false
set_option linter.unusedSimpArgs false
set_option maxRecDepth 100000
namespace Go.Proofs.YtneeocnjfnneoaaGreat
open Go.RowKit

set_option maxHeartbeats 16000000 in
theorem walk_area_back (hc : AreaSaid) (hp : PlanSaid) (v y : Value) (a b : Pl) (version : Int) (w : World) (h : PlanV w w.heap.size v a) (h' : PlanV w w.heap.size y b) :
  Calls Tryz.prog 5 #[v, y, .int .i64 version] w fun e w' => e = .returned (.bool true) ∧ Below w.heap.size w w' := by
 obtain ⟨c, hcc⟩ : ∃ c : Pl, c = ⟨version, a.par, a.secs, a.pts, a.sigs, a.routes⟩ := ⟨_, rfl⟩
 have HC := Lib.hid hcc
 clear hcc
 obtain ⟨u2, u3, u4, u5, rfl, hin⟩ := h
 obtain ⟨z2, z3, z4, z5, rfl, hin'⟩ := h'
 obtain ⟨h0, h1, hqb⟩ := two_boxes w (.cells #[.int .i64 a.ver, .int .i64 a.par, u2, u3, u4, u5] 33) (.cells #[.int .i64 b.ver, .int .i64 b.par, z2, z3, z4, z5] 33)
 go_enter Tryz.func5, Tryz.ntmps5
 go_upto_region 1 with fail
 generalize (w.alloc (.cells #[.int .i64 a.ver, .int .i64 a.par, u2, u3, u4, u5] 33)).alloc (.cells #[.int .i64 b.ver, .int .i64 b.par, z2, z3, z4, z5] 33) = q at h0 h1 hqb ⊢
 have X0 := Lib.hid h0
 have X1 := Lib.hid h1
 have BQ := Lib.hid hqb
 have VA : Hid (PlanV q q.heap.size (.agg #[.int .i64 a.ver, .int .i64 a.par, u2, u3, u4, u5]) a) := Lib.hid ⟨_, _, _, _, rfl, (hin.below hqb).more hqb.size⟩
 have VB : Hid (PlanV q q.heap.size (.agg #[.int .i64 b.ver, .int .i64 b.par, z2, z3, z4, z5]) b) := Lib.hid ⟨_, _, _, _, rfl, (hin'.below hqb).more hqb.size⟩
 clear h0 h1 hqb hin hin'
 go_wp2_with fail
 refine (alive14 hc _).mono ?_
 rintro e wa ⟨rfl, bN⟩
 replace X0 := Lib.hid ((bN.block _ (heap_lt X0.out)).trans X0.out)
 replace X1 := Lib.hid ((bN.block _ (heap_lt X1.out)).trans X1.out)
 replace BQ := Lib.hid (BQ.out.trans (bN.mono BQ.out.size))
 replace VA := Lib.hid ((VA.out.below bN).more bN.size)
 replace VB := Lib.hid ((VB.out.below bN).more bN.size)
 clear bN
 obtain ⟨k0, k1, k2, k3, k4, k5⟩ := cell6_of X0.out
 go_wp2_with fail
 refine (rgreat8_any _ a wa VA.out).mono ?_
 rintro e w1 ⟨⟨g, rfl, hg⟩, bN⟩
 clear k0 k1 k2 k3 k4 k5
 replace X0 := Lib.hid ((bN.block _ (heap_lt X0.out)).trans X0.out)
 replace X1 := Lib.hid ((bN.block _ (heap_lt X1.out)).trans X1.out)
 replace BQ := Lib.hid (BQ.out.trans (bN.mono BQ.out.size))
 replace VA := Lib.hid ((VA.out.below bN).more bN.size)
 replace VB := Lib.hid ((VB.out.below bN).more bN.size)
 clear bN
 cases g with
 | true =>
  go_wp2_with fail
  go_ret
  exact ⟨rfl, BQ.out⟩
 | false =>
 have FA := Lib.hid (hg rfl)
 clear hg
 obtain ⟨k0, k1, k2, k3, k4, k5⟩ := cell6_of X1.out
 go_wp2_with fail
 refine (rgreat8_any _ b w1 VB.out).mono ?_
 rintro e w2 ⟨⟨g, rfl, hg⟩, bN⟩
 clear k0 k1 k2 k3 k4 k5
 replace X0 := Lib.hid ((bN.block _ (heap_lt X0.out)).trans X0.out)
 replace X1 := Lib.hid ((bN.block _ (heap_lt X1.out)).trans X1.out)
 replace BQ := Lib.hid (BQ.out.trans (bN.mono BQ.out.size))
 replace VA := Lib.hid ((VA.out.below bN).more bN.size)
 replace VB := Lib.hid ((VB.out.below bN).more bN.size)
 clear bN
 cases g with
 | true =>
  go_wp2_with fail
  go_ret
  exact ⟨rfl, BQ.out⟩
 | false =>
 have FB := Lib.hid (hg rfl)
 clear hg
 obtain ⟨E, hE⟩ : ∃ x, x = arE a b := ⟨_, rfl⟩
 obtain ⟨l, hl⟩ : ∃ x, x = arV a b := ⟨_, rfl⟩
 obtain ⟨E2, hE2⟩ : ∃ x, x = arE a c := ⟨_, rfl⟩
 have HE : Hid (E = arE a b ∧ l = arV a b) := Lib.hid ⟨hE, hl⟩
 have HE2 := Lib.hid hE2
 have HN : Hid (arV a c = noAr) := Lib.hid (arV_ver (by rw [HC.out]) (by rw [HC.out]) (by rw [HC.out]) (by rw [HC.out]))
 clear hE hl hE2
 obtain ⟨k0, k1, k2, k3, k4, k5⟩ := cell6_of X0.out
 obtain ⟨m0, m1, m2, m3, m4, m5⟩ := cell6_of X1.out
 go_wp2_with fail
 refine (hc.of _ _ a b w2 VA.out VB.out).mono ?_
 rintro e x3 ⟨u0, u1, u2, u3, rfl, hu, bN⟩
 rw [← HE.out.2] at hu
 rw [← HE.out.1]
 obtain ⟨U80, n80, c80, rfl⟩ := ints_sl hu.secs
 obtain ⟨U81, n81, c81, rfl⟩ := ints_sl hu.pts
 obtain ⟨U82, n82, c82, rfl⟩ := ints_sl hu.sigs
 obtain ⟨U83, n83, c83, rfl⟩ := ints_sl hu.routes
 clear k0 k1 k2 k3 k4 k5 m0 m1 m2 m3 m4 m5
 replace X0 := Lib.hid ((bN.block _ (heap_lt X0.out)).trans X0.out)
 replace X1 := Lib.hid ((bN.block _ (heap_lt X1.out)).trans X1.out)
 replace BQ := Lib.hid (BQ.out.trans (bN.mono BQ.out.size))
 replace VA := Lib.hid ((VA.out.below bN).more bN.size)
 replace VB := Lib.hid ((VB.out.below bN).more bN.size)
 clear bN
 have A8 := Lib.hid hu
 clear hu
 go_upto_region 5 with ((with_reducible show wpList _ _ _ (⟨none, _, _, _, _, _⟩ :: _) _ _); refine wpList_store_rowS rfl _ (.tmp 8) (.tmp 31) rfl x3.heap.size rfl (c' := #[.slice U80 n80 c80, .slice U81 n81 c81, .slice U82 n82 c82, .slice U83 n83 c83]) rfl (heap_alloc_self x3 (.cells #[.slice none 0 0, .slice none 0 0, .slice none 0 0, .slice none 0 0] 24)) infoArea4 rfl (by simp [Value.oneCell']) ?_)
 rw [World.setRow_alloc_new]
 have hx1 := heap_alloc_self x3 (.cells #[.slice U80 n80 c80, .slice U81 n81 c81, .slice U82 n82 c82, .slice U83 n83 c83] 24)
 have hb1 := below_new x3 (.cells #[.slice U80 n80 c80, .slice U81 n81 c81, .slice U82 n82 c82, .slice U83 n83 c83] 24)
 generalize x3.alloc (.cells #[.slice U80 n80 c80, .slice U81 n81 c81, .slice U82 n82 c82, .slice U83 n83 c83] 24) = w3 at hb1 hx1 ⊢
 obtain ⟨p8, hp1⟩ : ∃ n, n = x3.heap.size := ⟨_, rfl⟩
 rw [← hp1] at hx1 ⊢
 have X8 := Lib.hid hx1
 clear hx1 hp1
 replace X0 := Lib.hid ((hb1.block _ (heap_lt X0.out)).trans X0.out)
 replace X1 := Lib.hid ((hb1.block _ (heap_lt X1.out)).trans X1.out)
 replace BQ := Lib.hid (BQ.out.trans (hb1.mono BQ.out.size))
 replace VA := Lib.hid ((VA.out.below hb1).more hb1.size)
 replace VB := Lib.hid ((VB.out.below hb1).more hb1.size)
 replace A8 := Lib.hid ((A8.out.below hb1).more hb1.size)
 clear hb1
 obtain ⟨k0, k1, k2, k3, k4, k5⟩ := cell6_of X0.out
 obtain ⟨m0, m1, m2, m3, m4, m5⟩ := cell6_of X1.out
 go_wp2_with fail
 refine (hc.of _ _ b a w3 VB.out VA.out).mono ?_
 rintro e x4 ⟨u0, u1, u2, u3, rfl, hu, bN⟩
 rw [arV_comm a b, ← HE.out.2] at hu
 rw [arE_comm a b, ← HE.out.1]
 obtain ⟨U100, n100, c100, rfl⟩ := ints_sl hu.secs
 obtain ⟨U101, n101, c101, rfl⟩ := ints_sl hu.pts
 obtain ⟨U102, n102, c102, rfl⟩ := ints_sl hu.sigs
 obtain ⟨U103, n103, c103, rfl⟩ := ints_sl hu.routes
 clear k0 k1 k2 k3 k4 k5 m0 m1 m2 m3 m4 m5
 replace X0 := Lib.hid ((bN.block _ (heap_lt X0.out)).trans X0.out)
 replace X1 := Lib.hid ((bN.block _ (heap_lt X1.out)).trans X1.out)
 replace X8 := Lib.hid ((bN.block _ (heap_lt X8.out)).trans X8.out)
 replace BQ := Lib.hid (BQ.out.trans (bN.mono BQ.out.size))
 replace VA := Lib.hid ((VA.out.below bN).more bN.size)
 replace VB := Lib.hid ((VB.out.below bN).more bN.size)
 replace A8 := Lib.hid ((A8.out.below bN).more bN.size)
 clear bN
 have A10 := Lib.hid hu
 clear hu
 go_upto_region 6 with ((with_reducible show wpList _ _ _ (⟨none, _, _, _, _, _⟩ :: _) _ _); refine wpList_store_rowS rfl _ (.tmp 10) (.tmp 37) rfl x4.heap.size rfl (c' := #[.slice U100 n100 c100, .slice U101 n101 c101, .slice U102 n102 c102, .slice U103 n103 c103]) rfl (heap_alloc_self x4 (.cells #[.slice none 0 0, .slice none 0 0, .slice none 0 0, .slice none 0 0] 24)) infoArea4 rfl (by simp [Value.oneCell']) ?_)
 rw [World.setRow_alloc_new]
 have hx1 := heap_alloc_self x4 (.cells #[.slice U100 n100 c100, .slice U101 n101 c101, .slice U102 n102 c102, .slice U103 n103 c103] 24)
 have hb1 := below_new x4 (.cells #[.slice U100 n100 c100, .slice U101 n101 c101, .slice U102 n102 c102, .slice U103 n103 c103] 24)
 generalize x4.alloc (.cells #[.slice U100 n100 c100, .slice U101 n101 c101, .slice U102 n102 c102, .slice U103 n103 c103] 24) = w4 at hb1 hx1 ⊢
 obtain ⟨p10, hp1⟩ : ∃ n, n = x4.heap.size := ⟨_, rfl⟩
 rw [← hp1] at hx1 ⊢
 have X10 := Lib.hid hx1
 clear hx1 hp1
 replace X0 := Lib.hid ((hb1.block _ (heap_lt X0.out)).trans X0.out)
 replace X1 := Lib.hid ((hb1.block _ (heap_lt X1.out)).trans X1.out)
 replace X8 := Lib.hid ((hb1.block _ (heap_lt X8.out)).trans X8.out)
 replace BQ := Lib.hid (BQ.out.trans (hb1.mono BQ.out.size))
 replace VA := Lib.hid ((VA.out.below hb1).more hb1.size)
 replace VB := Lib.hid ((VB.out.below hb1).more hb1.size)
 replace A8 := Lib.hid ((A8.out.below hb1).more hb1.size)
 replace A10 := Lib.hid ((A10.out.below hb1).more hb1.size)
 clear hb1
 obtain ⟨k0, k1, k2, k3, k4, k5⟩ := cell6_of X0.out
 go_wp2_with fail
 refine (rtwin8_any _ a w4 VA.out FA.out).mono ?_
 rintro e wT ⟨v2, v3, v4, v5, rfl, ho, bN⟩
 obtain ⟨O2, f2, rfl⟩ := ho.secs.slice
 obtain ⟨O3, f3, rfl⟩ := ho.pts.slice
 obtain ⟨O4, f4, rfl⟩ := ho.sigs.slice
 obtain ⟨O5, f5, rfl⟩ := ho.routes.slice
 have HO := Lib.hid ho.in_
 clear ho
 clear k0 k1 k2 k3 k4 k5
 replace X0 := Lib.hid ((bN.block _ (heap_lt X0.out)).trans X0.out)
 replace X1 := Lib.hid ((bN.block _ (heap_lt X1.out)).trans X1.out)
 replace X8 := Lib.hid ((bN.block _ (heap_lt X8.out)).trans X8.out)
 replace X10 := Lib.hid ((bN.block _ (heap_lt X10.out)).trans X10.out)
 replace BQ := Lib.hid (BQ.out.trans (bN.mono BQ.out.size))
 replace VA := Lib.hid ((VA.out.below bN).more bN.size)
 replace VB := Lib.hid ((VB.out.below bN).more bN.size)
 replace A8 := Lib.hid ((A8.out.below bN).more bN.size)
 replace A10 := Lib.hid ((A10.out.below bN).more bN.size)
 clear bN
 go_upto_region 7 with ((with_reducible show wpList _ _ _ (⟨none, _, _, _, _, _⟩ :: _) _ _); refine wpList_store_rowS rfl _ (.tmp 12) (.tmp 40) rfl wT.heap.size rfl (c' := #[.int .i64 a.ver, .int .i64 a.par, .slice O2 a.secs.length f2, .slice O3 a.pts.length f3, .slice O4 a.sigs.length f4, .slice O5 a.routes.length f5]) rfl (heap_alloc_self wT (.cells #[.int .i64 0, .int .i64 0, .slice none 0 0, .slice none 0 0, .slice none 0 0, .slice none 0 0] 33)) infoPlan6 rfl (by simp [Value.oneCell']) ?_)
 rw [World.setRow_alloc_new]
 have hx0 := heap_alloc_self wT (.cells #[.int .i64 a.ver, .int .i64 a.par, .slice O2 a.secs.length f2, .slice O3 a.pts.length f3, .slice O4 a.sigs.length f4, .slice O5 a.routes.length f5] 33)
 have hb0 := below_new wT (.cells #[.int .i64 a.ver, .int .i64 a.par, .slice O2 a.secs.length f2, .slice O3 a.pts.length f3, .slice O4 a.sigs.length f4, .slice O5 a.routes.length f5] 33)
 obtain ⟨k0, k1, k2, k3, k4, k5⟩ := cell6_of hx0
 have fz := frozen2_of hx0 0
 go_upto_region 8 with fail
 have hx1 := heap_alloc_self wT (.cells #[.int .i64 version, .int .i64 a.par, .slice O2 a.secs.length f2, .slice O3 a.pts.length f3, .slice O4 a.sigs.length f4, .slice O5 a.routes.length f5] 33)
 have hb1 := below_new wT (.cells #[.int .i64 version, .int .i64 a.par, .slice O2 a.secs.length f2, .slice O3 a.pts.length f3, .slice O4 a.sigs.length f4, .slice O5 a.routes.length f5] 33)
 generalize wT.alloc (.cells #[.int .i64 version, .int .i64 a.par, .slice O2 a.secs.length f2, .slice O3 a.pts.length f3, .slice O4 a.sigs.length f4, .slice O5 a.routes.length f5] 33) = qC at hb1 hx1 ⊢
 have VC : Hid (PlanV qC qC.heap.size (.agg #[.int .i64 version, .int .i64 a.par, .slice O2 a.secs.length f2, .slice O3 a.pts.length f3, .slice O4 a.sigs.length f4, .slice O5 a.routes.length f5]) c) := Lib.hid (by rw [HC.out]; have hq := (HO.out.below hb1).more hb1.size; exact ⟨_, _, _, _, rfl, ⟨hq.secs, hq.pts, hq.sigs, hq.routes⟩⟩)
 obtain ⟨p12, hp1⟩ : ∃ n, n = wT.heap.size := ⟨_, rfl⟩
 rw [← hp1] at hx1 ⊢
 have XC : Hid (qC.heap[p12]? = some (.cells #[.int .i64 version, .int .i64 a.par, .slice O2 a.secs.length f2, .slice O3 a.pts.length f3, .slice O4 a.sigs.length f4, .slice O5 a.routes.length f5] 33 (0, 0))) := Lib.hid hx1
 clear hx1 hx0 hb0 hp1 fz k0 k1 k2 k3 k4 k5 HO
 replace X0 := Lib.hid ((hb1.block _ (heap_lt X0.out)).trans X0.out)
 replace X1 := Lib.hid ((hb1.block _ (heap_lt X1.out)).trans X1.out)
 replace X8 := Lib.hid ((hb1.block _ (heap_lt X8.out)).trans X8.out)
 replace X10 := Lib.hid ((hb1.block _ (heap_lt X10.out)).trans X10.out)
 replace BQ := Lib.hid (BQ.out.trans (hb1.mono BQ.out.size))
 replace VA := Lib.hid ((VA.out.below hb1).more hb1.size)
 replace VB := Lib.hid ((VB.out.below hb1).more hb1.size)
 replace A8 := Lib.hid ((A8.out.below hb1).more hb1.size)
 replace A10 := Lib.hid ((A10.out.below hb1).more hb1.size)
 clear hb1
 obtain ⟨k0, k1, k2, k3, k4, k5⟩ := cell6_of X0.out
 obtain ⟨m0, m1, m2, m3, m4, m5⟩ := cell6_of XC.out
 go_wp2_with fail
 refine (hc.of _ _ a c qC VA.out VC.out).mono ?_
 rintro e x5 ⟨u0, u1, u2, u3, rfl, hu, bN⟩
 rw [HN.out] at hu
 rw [← HE2.out]
 obtain ⟨U130, n130, c130, rfl⟩ := ints_sl hu.secs
 obtain ⟨U131, n131, c131, rfl⟩ := ints_sl hu.pts
 obtain ⟨U132, n132, c132, rfl⟩ := ints_sl hu.sigs
 obtain ⟨U133, n133, c133, rfl⟩ := ints_sl hu.routes
 clear k0 k1 k2 k3 k4 k5 m0 m1 m2 m3 m4 m5
 replace X0 := Lib.hid ((bN.block _ (heap_lt X0.out)).trans X0.out)
 replace X1 := Lib.hid ((bN.block _ (heap_lt X1.out)).trans X1.out)
 replace X8 := Lib.hid ((bN.block _ (heap_lt X8.out)).trans X8.out)
 replace X10 := Lib.hid ((bN.block _ (heap_lt X10.out)).trans X10.out)
 replace XC := Lib.hid ((bN.block _ (heap_lt XC.out)).trans XC.out)
 replace BQ := Lib.hid (BQ.out.trans (bN.mono BQ.out.size))
 replace VA := Lib.hid ((VA.out.below bN).more bN.size)
 replace VB := Lib.hid ((VB.out.below bN).more bN.size)
 replace A8 := Lib.hid ((A8.out.below bN).more bN.size)
 replace A10 := Lib.hid ((A10.out.below bN).more bN.size)
 replace VC := Lib.hid ((VC.out.below bN).more bN.size)
 clear bN
 have A13 := Lib.hid hu
 clear hu
 go_upto_region 9 with ((with_reducible show wpList _ _ _ (⟨none, _, _, _, _, _⟩ :: _) _ _); refine wpList_store_rowS rfl _ (.tmp 13) (.tmp 47) rfl x5.heap.size rfl (c' := #[.slice U130 n130 c130, .slice U131 n131 c131, .slice U132 n132 c132, .slice U133 n133 c133]) rfl (heap_alloc_self x5 (.cells #[.slice none 0 0, .slice none 0 0, .slice none 0 0, .slice none 0 0] 24)) infoArea4 rfl (by simp [Value.oneCell']) ?_)
 rw [World.setRow_alloc_new]
 have hx1 := heap_alloc_self x5 (.cells #[.slice U130 n130 c130, .slice U131 n131 c131, .slice U132 n132 c132, .slice U133 n133 c133] 24)
 have hb1 := below_new x5 (.cells #[.slice U130 n130 c130, .slice U131 n131 c131, .slice U132 n132 c132, .slice U133 n133 c133] 24)
 generalize x5.alloc (.cells #[.slice U130 n130 c130, .slice U131 n131 c131, .slice U132 n132 c132, .slice U133 n133 c133] 24) = w5 at hb1 hx1 ⊢
 obtain ⟨p13, hp1⟩ : ∃ n, n = x5.heap.size := ⟨_, rfl⟩
 rw [← hp1] at hx1 ⊢
 have X13 := Lib.hid hx1
 clear hx1 hp1
 replace X0 := Lib.hid ((hb1.block _ (heap_lt X0.out)).trans X0.out)
 replace X1 := Lib.hid ((hb1.block _ (heap_lt X1.out)).trans X1.out)
 replace X8 := Lib.hid ((hb1.block _ (heap_lt X8.out)).trans X8.out)
 replace X10 := Lib.hid ((hb1.block _ (heap_lt X10.out)).trans X10.out)
 replace XC := Lib.hid ((hb1.block _ (heap_lt XC.out)).trans XC.out)
 replace BQ := Lib.hid (BQ.out.trans (hb1.mono BQ.out.size))
 replace VA := Lib.hid ((VA.out.below hb1).more hb1.size)
 replace VB := Lib.hid ((VB.out.below hb1).more hb1.size)
 replace A8 := Lib.hid ((A8.out.below hb1).more hb1.size)
 replace A10 := Lib.hid ((A10.out.below hb1).more hb1.size)
 replace VC := Lib.hid ((VC.out.below hb1).more hb1.size)
 replace A13 := Lib.hid ((A13.out.below hb1).more hb1.size)
 clear hb1
 obtain ⟨k0, k1, k2, k3⟩ := cell4A X8.out
 obtain ⟨m0, m1, m2, m3⟩ := cell4A X10.out
 have d1 : (E == E) = true := by simp
 go_wp2_with fail
 refine (rsame14_any _ _ l l w5 ⟨_, _, _, _, rfl, A8.out⟩ ⟨_, _, _, _, rfl, A10.out⟩).mono ?_
 rintro e w6 ⟨rfl, bN⟩
 rw [eqB_true rfl]
 clear k0 k1 k2 k3 m0 m1 m2 m3
 replace X0 := Lib.hid ((bN.block _ (heap_lt X0.out)).trans X0.out)
 replace X1 := Lib.hid ((bN.block _ (heap_lt X1.out)).trans X1.out)
 replace X8 := Lib.hid ((bN.block _ (heap_lt X8.out)).trans X8.out)
 replace X10 := Lib.hid ((bN.block _ (heap_lt X10.out)).trans X10.out)
 replace XC := Lib.hid ((bN.block _ (heap_lt XC.out)).trans XC.out)
 replace X13 := Lib.hid ((bN.block _ (heap_lt X13.out)).trans X13.out)
 replace BQ := Lib.hid (BQ.out.trans (bN.mono BQ.out.size))
 replace VA := Lib.hid ((VA.out.below bN).more bN.size)
 replace VB := Lib.hid ((VB.out.below bN).more bN.size)
 replace A8 := Lib.hid ((A8.out.below bN).more bN.size)
 replace A10 := Lib.hid ((A10.out.below bN).more bN.size)
 replace VC := Lib.hid ((VC.out.below bN).more bN.size)
 replace A13 := Lib.hid ((A13.out.below bN).more bN.size)
 clear bN
 obtain ⟨k0, k1, k2, k3⟩ := cell4A X13.out
 go_wp2_with fail
 refine (rsame14_any _ _ noAr noAr w6 ⟨_, _, _, _, rfl, A13.out⟩ ⟨_, _, _, _, rfl, noAr_in _ _⟩).mono ?_
 rintro e w7 ⟨rfl, bN⟩
 rw [eqB_true rfl]
 clear k0 k1 k2 k3
 replace X0 := Lib.hid ((bN.block _ (heap_lt X0.out)).trans X0.out)
 replace X1 := Lib.hid ((bN.block _ (heap_lt X1.out)).trans X1.out)
 replace X8 := Lib.hid ((bN.block _ (heap_lt X8.out)).trans X8.out)
 replace X10 := Lib.hid ((bN.block _ (heap_lt X10.out)).trans X10.out)
 replace XC := Lib.hid ((bN.block _ (heap_lt XC.out)).trans XC.out)
 replace X13 := Lib.hid ((bN.block _ (heap_lt X13.out)).trans X13.out)
 replace BQ := Lib.hid (BQ.out.trans (bN.mono BQ.out.size))
 replace VA := Lib.hid ((VA.out.below bN).more bN.size)
 replace VB := Lib.hid ((VB.out.below bN).more bN.size)
 replace A8 := Lib.hid ((A8.out.below bN).more bN.size)
 replace A10 := Lib.hid ((A10.out.below bN).more bN.size)
 replace VC := Lib.hid ((VC.out.below bN).more bN.size)
 replace A13 := Lib.hid ((A13.out.below bN).more bN.size)
 clear bN
 by_cases hm : PlanMay a ∧ PlanMay c
 ·have d2 : (E2 == 0) = true := by rw [HE2.out, (ar_ok hm.1 hm.2).1]; rfl
  clear hm
  go_wp2_with fail
  go_ret
  exact ⟨rfl, BQ.out⟩
 have d2 : (E2 == 0) = false := by rw [HE2.out, (ar_bad hm).1]; rfl
 obtain ⟨k0, k1, k2, k3, k4, k5⟩ := cell6_of X0.out
 obtain ⟨Ca, hCa⟩ : ∃ x, x = chk8 a := ⟨_, rfl⟩
 obtain ⟨Cc, hCc⟩ : ∃ x, x = chk8 c := ⟨_, rfl⟩
 have HK := Lib.hid (And.intro hCa hCc)
 clear hCa hCc
 go_wp2_with fail
 refine (hp.check _ a w7 VA.out).mono ?_
 rintro e w8 ⟨rfl, bN⟩
 rw [← HK.out.1]
 clear k0 k1 k2 k3 k4 k5
 replace X0 := Lib.hid ((bN.block _ (heap_lt X0.out)).trans X0.out)
 replace X1 := Lib.hid ((bN.block _ (heap_lt X1.out)).trans X1.out)
 replace X8 := Lib.hid ((bN.block _ (heap_lt X8.out)).trans X8.out)
 replace X10 := Lib.hid ((bN.block _ (heap_lt X10.out)).trans X10.out)
 replace XC := Lib.hid ((bN.block _ (heap_lt XC.out)).trans XC.out)
 replace X13 := Lib.hid ((bN.block _ (heap_lt X13.out)).trans X13.out)
 replace BQ := Lib.hid (BQ.out.trans (bN.mono BQ.out.size))
 replace VA := Lib.hid ((VA.out.below bN).more bN.size)
 replace VB := Lib.hid ((VB.out.below bN).more bN.size)
 replace A8 := Lib.hid ((A8.out.below bN).more bN.size)
 replace A10 := Lib.hid ((A10.out.below bN).more bN.size)
 replace VC := Lib.hid ((VC.out.below bN).more bN.size)
 replace A13 := Lib.hid ((A13.out.below bN).more bN.size)
 clear bN
 by_cases ha : PlanMay a
 rotate_left
 ·have d3 : (Ca != 0) = true := by rw [HK.out.1, chk8, planMay_false ha]; rfl
  clear ha hm
  go_wp2_with fail
  go_ret
  exact ⟨rfl, BQ.out⟩
 have d3 : (Ca != 0) = false := by rw [HK.out.1, chk8, planMay_true ha]; rfl
 have d4 : (Cc != 0) = true := by rw [HK.out.2, chk8, planMay_false fun h => hm ⟨ha, h⟩]; rfl
 clear ha hm
 obtain ⟨k0, k1, k2, k3, k4, k5⟩ := cell6_of XC.out
 go_wp2_with fail
 refine (hp.check _ c w8 VC.out).mono ?_
 rintro e w9 ⟨rfl, bN⟩
 rw [← HK.out.2]
 clear k0 k1 k2 k3 k4 k5
 replace X0 := Lib.hid ((bN.block _ (heap_lt X0.out)).trans X0.out)
 replace X1 := Lib.hid ((bN.block _ (heap_lt X1.out)).trans X1.out)
 replace X8 := Lib.hid ((bN.block _ (heap_lt X8.out)).trans X8.out)
 replace X10 := Lib.hid ((bN.block _ (heap_lt X10.out)).trans X10.out)
 replace XC := Lib.hid ((bN.block _ (heap_lt XC.out)).trans XC.out)
 replace X13 := Lib.hid ((bN.block _ (heap_lt X13.out)).trans X13.out)
 replace BQ := Lib.hid (BQ.out.trans (bN.mono BQ.out.size))
 replace VA := Lib.hid ((VA.out.below bN).more bN.size)
 replace VB := Lib.hid ((VB.out.below bN).more bN.size)
 replace A8 := Lib.hid ((A8.out.below bN).more bN.size)
 replace A10 := Lib.hid ((A10.out.below bN).more bN.size)
 replace VC := Lib.hid ((VC.out.below bN).more bN.size)
 replace A13 := Lib.hid ((A13.out.below bN).more bN.size)
 clear bN
 go_wp2_with fail
 go_ret
 exact ⟨rfl, BQ.out⟩
end Go.Proofs.YtneeocnjfnneoaaGreat
