/-
 The area of a change lies within those of the changes on the way: the walk, given the program's answers.
 Conditions: none.
-/
import Derived.Test.YtneeocnjfnneoaaGreatQGAreOne
import Derived.Test.YtneeocnjfnneoaaGreatQGAreM
set_option linter.unusedVariables false
set_option linter.unusedSimpArgs false
set_option maxRecDepth 100000
namespace Go.Proofs.YtneeocnjfnneoaaGreat
open Go.RowKit

theorem wrap_u8A (k : Nat) (h : k ≤ 255) : IntKind.u8.wrap (k : Int) = k := by
 simp [IntKind.wrap, IntKind.bits, IntKind.signed]; omega
theorem ar_chain {a b c : Pl} (ha : PlanMay a) (hb : PlanMay b) (hc : PlanMay c) : (arE a b = 0 ∧ arE b c = 0 ∧ arE a c = 0) ∧ ∀ kind id, hasA (arV a c) kind id = true → hasA (arV a b) kind id = true ∨ hasA (arV b c) kind id = true := by
 rw [(ar_ok ha hb).2, (ar_ok hb hc).2, (ar_ok ha hc).2]
 exact ⟨⟨(ar_ok ha hb).1, (ar_ok hb hc).1, (ar_ok ha hc).1⟩, fun kind id h => has_chain ha hb hc h⟩
set_option maxHeartbeats 16000000 in
theorem walk_area_chain (hc : AreaSaid) (v y x : Value) (a b c : Pl) (w : World) (h : PlanV w w.heap.size v a) (h' : PlanV w w.heap.size y b) (h'' : PlanV w w.heap.size x c) :
  Calls Tryz.prog 8 #[v, y, x] w fun e w' => e = .returned (.bool true) ∧ Below w.heap.size w w' := by
 obtain ⟨u2, u3, u4, u5, rfl, hin⟩ := h
 obtain ⟨z2, z3, z4, z5, rfl, hin'⟩ := h'
 obtain ⟨t2, t3, t4, t5, rfl, hin''⟩ := h''
 obtain ⟨q, hq, h0, h1, h2, -, hqb⟩ := boxes3 w (.cells #[.int .i64 a.ver, .int .i64 a.par, u2, u3, u4, u5] 33) (.cells #[.int .i64 b.ver, .int .i64 b.par, z2, z3, z4, z5] 33) (.cells #[.int .i64 c.ver, .int .i64 c.par, t2, t3, t4, t5] 33)
 go_enter Tryz.func8, Tryz.ntmps8
 go_upto_region 1 with fail
 rw [← hq]
 clear hq
 have X0 := Lib.hid h0
 have X1 := Lib.hid h1
 have X2 := Lib.hid h2
 have BQ := Lib.hid hqb
 have VA : Hid (PlanV q q.heap.size (.agg #[.int .i64 a.ver, .int .i64 a.par, u2, u3, u4, u5]) a) := Lib.hid ⟨_, _, _, _, rfl, (hin.below hqb).more hqb.size⟩
 have VB : Hid (PlanV q q.heap.size (.agg #[.int .i64 b.ver, .int .i64 b.par, z2, z3, z4, z5]) b) := Lib.hid ⟨_, _, _, _, rfl, (hin'.below hqb).more hqb.size⟩
 have VC : Hid (PlanV q q.heap.size (.agg #[.int .i64 c.ver, .int .i64 c.par, t2, t3, t4, t5]) c) := Lib.hid ⟨_, _, _, _, rfl, (hin''.below hqb).more hqb.size⟩
 clear h0 h1 h2 hqb hin hin' hin''
 go_wp2_with fail
 refine (alive14 hc _).mono ?_
 rintro e wa ⟨rfl, bN⟩
 replace X0 := Lib.hid ((bN.block _ (heap_lt X0.out)).trans X0.out)
 replace X1 := Lib.hid ((bN.block _ (heap_lt X1.out)).trans X1.out)
 replace X2 := Lib.hid ((bN.block _ (heap_lt X2.out)).trans X2.out)
 replace BQ := Lib.hid (BQ.out.trans (bN.mono BQ.out.size))
 replace VA := Lib.hid ((VA.out.below bN).more bN.size)
 replace VB := Lib.hid ((VB.out.below bN).more bN.size)
 replace VC := Lib.hid ((VC.out.below bN).more bN.size)
 clear bN
 obtain ⟨k0, k1, k2, k3, k4, k5⟩ := cell6_of X0.out
 go_wp2_with fail
 refine (rgreat8_any _ a wa VA.out).mono ?_
 rintro e w1 ⟨⟨g, rfl, hg⟩, bN⟩
 clear k0 k1 k2 k3 k4 k5
 replace X0 := Lib.hid ((bN.block _ (heap_lt X0.out)).trans X0.out)
 replace X1 := Lib.hid ((bN.block _ (heap_lt X1.out)).trans X1.out)
 replace X2 := Lib.hid ((bN.block _ (heap_lt X2.out)).trans X2.out)
 replace BQ := Lib.hid (BQ.out.trans (bN.mono BQ.out.size))
 replace VA := Lib.hid ((VA.out.below bN).more bN.size)
 replace VB := Lib.hid ((VB.out.below bN).more bN.size)
 replace VC := Lib.hid ((VC.out.below bN).more bN.size)
 clear bN
 clear hg
 cases g with
 | true =>
  go_wp2_with fail
  go_ret
  exact ⟨rfl, BQ.out⟩
 | false =>
 obtain ⟨k0, k1, k2, k3, k4, k5⟩ := cell6_of X1.out
 go_wp2_with fail
 refine (rgreat8_any _ b w1 VB.out).mono ?_
 rintro e w2 ⟨⟨g, rfl, hg⟩, bN⟩
 clear k0 k1 k2 k3 k4 k5
 replace X0 := Lib.hid ((bN.block _ (heap_lt X0.out)).trans X0.out)
 replace X1 := Lib.hid ((bN.block _ (heap_lt X1.out)).trans X1.out)
 replace X2 := Lib.hid ((bN.block _ (heap_lt X2.out)).trans X2.out)
 replace BQ := Lib.hid (BQ.out.trans (bN.mono BQ.out.size))
 replace VA := Lib.hid ((VA.out.below bN).more bN.size)
 replace VB := Lib.hid ((VB.out.below bN).more bN.size)
 replace VC := Lib.hid ((VC.out.below bN).more bN.size)
 clear bN
 clear hg
 cases g with
 | true =>
  go_wp2_with fail
  go_ret
  exact ⟨rfl, BQ.out⟩
 | false =>
 obtain ⟨k0, k1, k2, k3, k4, k5⟩ := cell6_of X2.out
 go_wp2_with fail
 refine (rgreat8_any _ c w2 VC.out).mono ?_
 rintro e w3 ⟨⟨g, rfl, hg⟩, bN⟩
 clear k0 k1 k2 k3 k4 k5
 replace X0 := Lib.hid ((bN.block _ (heap_lt X0.out)).trans X0.out)
 replace X1 := Lib.hid ((bN.block _ (heap_lt X1.out)).trans X1.out)
 replace X2 := Lib.hid ((bN.block _ (heap_lt X2.out)).trans X2.out)
 replace BQ := Lib.hid (BQ.out.trans (bN.mono BQ.out.size))
 replace VA := Lib.hid ((VA.out.below bN).more bN.size)
 replace VB := Lib.hid ((VB.out.below bN).more bN.size)
 replace VC := Lib.hid ((VC.out.below bN).more bN.size)
 clear bN
 clear hg
 cases g with
 | true =>
  go_wp2_with fail
  go_ret
  exact ⟨rfl, BQ.out⟩
 | false =>
 obtain ⟨E, hE⟩ : ∃ x, x = arE a b := ⟨_, rfl⟩
 obtain ⟨lx, hlx⟩ : ∃ x, x = arV a b := ⟨_, rfl⟩
 have HE : Hid (E = arE a b ∧ lx = arV a b) := Lib.hid ⟨hE, hlx⟩
 clear hE hlx
 obtain ⟨G, hG⟩ : ∃ x, x = arE b c := ⟨_, rfl⟩
 obtain ⟨ly, hly⟩ : ∃ x, x = arV b c := ⟨_, rfl⟩
 have HG : Hid (G = arE b c ∧ ly = arV b c) := Lib.hid ⟨hG, hly⟩
 clear hG hly
 obtain ⟨H, hH⟩ : ∃ x, x = arE a c := ⟨_, rfl⟩
 obtain ⟨lz, hlz⟩ : ∃ x, x = arV a c := ⟨_, rfl⟩
 have HH : Hid (H = arE a c ∧ lz = arV a c) := Lib.hid ⟨hH, hlz⟩
 clear hH hlz
 obtain ⟨k0, k1, k2, k3, k4, k5⟩ := cell6_of X0.out
 obtain ⟨m0, m1, m2, m3, m4, m5⟩ := cell6_of X1.out
 go_wp2_with fail
 refine (hc.of _ _ a b w3 VA.out VB.out).mono ?_
 rintro e x4 ⟨u0, u1, u2, u3, rfl, hu, bN⟩
 rw [← HE.out.2] at hu
 rw [← HE.out.1]
 obtain ⟨U80, n80, c80, rfl⟩ := ints_sl hu.secs
 obtain ⟨U81, n81, c81, rfl⟩ := ints_sl hu.pts
 obtain ⟨U82, n82, c82, rfl⟩ := ints_sl hu.sigs
 obtain ⟨U83, n83, c83, rfl⟩ := ints_sl hu.routes
 clear k0 k1 k2 k3 k4 k5 m0 m1 m2 m3 m4 m5
 replace X0 := Lib.hid ((bN.block _ (heap_lt X0.out)).trans X0.out)
 replace X1 := Lib.hid ((bN.block _ (heap_lt X1.out)).trans X1.out)
 replace X2 := Lib.hid ((bN.block _ (heap_lt X2.out)).trans X2.out)
 replace BQ := Lib.hid (BQ.out.trans (bN.mono BQ.out.size))
 replace VA := Lib.hid ((VA.out.below bN).more bN.size)
 replace VB := Lib.hid ((VB.out.below bN).more bN.size)
 replace VC := Lib.hid ((VC.out.below bN).more bN.size)
 clear bN
 have A8 := Lib.hid hu
 clear hu
 go_upto_region 5 with ((with_reducible show wpList _ _ _ (⟨none, _, _, _, _, _⟩ :: _) _ _); refine wpList_store_rowS rfl _ (.tmp 8) (.tmp 36) rfl x4.heap.size rfl (c' := #[.slice U80 n80 c80, .slice U81 n81 c81, .slice U82 n82 c82, .slice U83 n83 c83]) rfl (heap_alloc_self x4 (.cells #[.slice none 0 0, .slice none 0 0, .slice none 0 0, .slice none 0 0] 24)) infoArea4 rfl (by simp [Value.oneCell']) ?_)
 rw [World.setRow_alloc_new]
 have hx1 := heap_alloc_self x4 (.cells #[.slice U80 n80 c80, .slice U81 n81 c81, .slice U82 n82 c82, .slice U83 n83 c83] 24)
 have hb1 := below_new x4 (.cells #[.slice U80 n80 c80, .slice U81 n81 c81, .slice U82 n82 c82, .slice U83 n83 c83] 24)
 generalize x4.alloc (.cells #[.slice U80 n80 c80, .slice U81 n81 c81, .slice U82 n82 c82, .slice U83 n83 c83] 24) = w4 at hb1 hx1 ⊢
 obtain ⟨p8, hp1⟩ : ∃ n, n = x4.heap.size := ⟨_, rfl⟩
 rw [← hp1] at hx1 ⊢
 have X8 := Lib.hid hx1
 clear hx1 hp1
 replace X0 := Lib.hid ((hb1.block _ (heap_lt X0.out)).trans X0.out)
 replace X1 := Lib.hid ((hb1.block _ (heap_lt X1.out)).trans X1.out)
 replace X2 := Lib.hid ((hb1.block _ (heap_lt X2.out)).trans X2.out)
 replace BQ := Lib.hid (BQ.out.trans (hb1.mono BQ.out.size))
 replace VA := Lib.hid ((VA.out.below hb1).more hb1.size)
 replace VB := Lib.hid ((VB.out.below hb1).more hb1.size)
 replace VC := Lib.hid ((VC.out.below hb1).more hb1.size)
 replace A8 := Lib.hid ((A8.out.below hb1).more hb1.size)
 clear hb1
 obtain ⟨k0, k1, k2, k3, k4, k5⟩ := cell6_of X1.out
 obtain ⟨m0, m1, m2, m3, m4, m5⟩ := cell6_of X2.out
 go_wp2_with fail
 refine (hc.of _ _ b c w4 VB.out VC.out).mono ?_
 rintro e x5 ⟨u0, u1, u2, u3, rfl, hu, bN⟩
 rw [← HG.out.2] at hu
 rw [← HG.out.1]
 obtain ⟨U100, n100, c100, rfl⟩ := ints_sl hu.secs
 obtain ⟨U101, n101, c101, rfl⟩ := ints_sl hu.pts
 obtain ⟨U102, n102, c102, rfl⟩ := ints_sl hu.sigs
 obtain ⟨U103, n103, c103, rfl⟩ := ints_sl hu.routes
 clear k0 k1 k2 k3 k4 k5 m0 m1 m2 m3 m4 m5
 replace X0 := Lib.hid ((bN.block _ (heap_lt X0.out)).trans X0.out)
 replace X1 := Lib.hid ((bN.block _ (heap_lt X1.out)).trans X1.out)
 replace X2 := Lib.hid ((bN.block _ (heap_lt X2.out)).trans X2.out)
 replace X8 := Lib.hid ((bN.block _ (heap_lt X8.out)).trans X8.out)
 replace BQ := Lib.hid (BQ.out.trans (bN.mono BQ.out.size))
 replace VA := Lib.hid ((VA.out.below bN).more bN.size)
 replace VB := Lib.hid ((VB.out.below bN).more bN.size)
 replace VC := Lib.hid ((VC.out.below bN).more bN.size)
 replace A8 := Lib.hid ((A8.out.below bN).more bN.size)
 clear bN
 have A10 := Lib.hid hu
 clear hu
 go_upto_region 6 with ((with_reducible show wpList _ _ _ (⟨none, _, _, _, _, _⟩ :: _) _ _); refine wpList_store_rowS rfl _ (.tmp 10) (.tmp 42) rfl x5.heap.size rfl (c' := #[.slice U100 n100 c100, .slice U101 n101 c101, .slice U102 n102 c102, .slice U103 n103 c103]) rfl (heap_alloc_self x5 (.cells #[.slice none 0 0, .slice none 0 0, .slice none 0 0, .slice none 0 0] 24)) infoArea4 rfl (by simp [Value.oneCell']) ?_)
 rw [World.setRow_alloc_new]
 have hx1 := heap_alloc_self x5 (.cells #[.slice U100 n100 c100, .slice U101 n101 c101, .slice U102 n102 c102, .slice U103 n103 c103] 24)
 have hb1 := below_new x5 (.cells #[.slice U100 n100 c100, .slice U101 n101 c101, .slice U102 n102 c102, .slice U103 n103 c103] 24)
 generalize x5.alloc (.cells #[.slice U100 n100 c100, .slice U101 n101 c101, .slice U102 n102 c102, .slice U103 n103 c103] 24) = w5 at hb1 hx1 ⊢
 obtain ⟨p10, hp1⟩ : ∃ n, n = x5.heap.size := ⟨_, rfl⟩
 rw [← hp1] at hx1 ⊢
 have X10 := Lib.hid hx1
 clear hx1 hp1
 replace X0 := Lib.hid ((hb1.block _ (heap_lt X0.out)).trans X0.out)
 replace X1 := Lib.hid ((hb1.block _ (heap_lt X1.out)).trans X1.out)
 replace X2 := Lib.hid ((hb1.block _ (heap_lt X2.out)).trans X2.out)
 replace X8 := Lib.hid ((hb1.block _ (heap_lt X8.out)).trans X8.out)
 replace BQ := Lib.hid (BQ.out.trans (hb1.mono BQ.out.size))
 replace VA := Lib.hid ((VA.out.below hb1).more hb1.size)
 replace VB := Lib.hid ((VB.out.below hb1).more hb1.size)
 replace VC := Lib.hid ((VC.out.below hb1).more hb1.size)
 replace A8 := Lib.hid ((A8.out.below hb1).more hb1.size)
 replace A10 := Lib.hid ((A10.out.below hb1).more hb1.size)
 clear hb1
 obtain ⟨k0, k1, k2, k3, k4, k5⟩ := cell6_of X0.out
 obtain ⟨m0, m1, m2, m3, m4, m5⟩ := cell6_of X2.out
 go_wp2_with fail
 refine (hc.of _ _ a c w5 VA.out VC.out).mono ?_
 rintro e x6 ⟨u0, u1, u2, u3, rfl, hu, bN⟩
 rw [← HH.out.2] at hu
 rw [← HH.out.1]
 obtain ⟨U120, n120, c120, rfl⟩ := ints_sl hu.secs
 obtain ⟨U121, n121, c121, rfl⟩ := ints_sl hu.pts
 obtain ⟨U122, n122, c122, rfl⟩ := ints_sl hu.sigs
 obtain ⟨U123, n123, c123, rfl⟩ := ints_sl hu.routes
 clear k0 k1 k2 k3 k4 k5 m0 m1 m2 m3 m4 m5
 replace X0 := Lib.hid ((bN.block _ (heap_lt X0.out)).trans X0.out)
 replace X1 := Lib.hid ((bN.block _ (heap_lt X1.out)).trans X1.out)
 replace X2 := Lib.hid ((bN.block _ (heap_lt X2.out)).trans X2.out)
 replace X8 := Lib.hid ((bN.block _ (heap_lt X8.out)).trans X8.out)
 replace X10 := Lib.hid ((bN.block _ (heap_lt X10.out)).trans X10.out)
 replace BQ := Lib.hid (BQ.out.trans (bN.mono BQ.out.size))
 replace VA := Lib.hid ((VA.out.below bN).more bN.size)
 replace VB := Lib.hid ((VB.out.below bN).more bN.size)
 replace VC := Lib.hid ((VC.out.below bN).more bN.size)
 replace A8 := Lib.hid ((A8.out.below bN).more bN.size)
 replace A10 := Lib.hid ((A10.out.below bN).more bN.size)
 clear bN
 have A12 := Lib.hid hu
 clear hu
 go_upto_region 7 with ((with_reducible show wpList _ _ _ (⟨none, _, _, _, _, _⟩ :: _) _ _); refine wpList_store_rowS rfl _ (.tmp 12) (.tmp 48) rfl x6.heap.size rfl (c' := #[.slice U120 n120 c120, .slice U121 n121 c121, .slice U122 n122 c122, .slice U123 n123 c123]) rfl (heap_alloc_self x6 (.cells #[.slice none 0 0, .slice none 0 0, .slice none 0 0, .slice none 0 0] 24)) infoArea4 rfl (by simp [Value.oneCell']) ?_)
 rw [World.setRow_alloc_new]
 have hx1 := heap_alloc_self x6 (.cells #[.slice U120 n120 c120, .slice U121 n121 c121, .slice U122 n122 c122, .slice U123 n123 c123] 24)
 have hb1 := below_new x6 (.cells #[.slice U120 n120 c120, .slice U121 n121 c121, .slice U122 n122 c122, .slice U123 n123 c123] 24)
 generalize x6.alloc (.cells #[.slice U120 n120 c120, .slice U121 n121 c121, .slice U122 n122 c122, .slice U123 n123 c123] 24) = w6 at hb1 hx1 ⊢
 obtain ⟨p12, hp1⟩ : ∃ n, n = x6.heap.size := ⟨_, rfl⟩
 rw [← hp1] at hx1 ⊢
 have X12 := Lib.hid hx1
 clear hx1 hp1
 replace X0 := Lib.hid ((hb1.block _ (heap_lt X0.out)).trans X0.out)
 replace X1 := Lib.hid ((hb1.block _ (heap_lt X1.out)).trans X1.out)
 replace X2 := Lib.hid ((hb1.block _ (heap_lt X2.out)).trans X2.out)
 replace X8 := Lib.hid ((hb1.block _ (heap_lt X8.out)).trans X8.out)
 replace X10 := Lib.hid ((hb1.block _ (heap_lt X10.out)).trans X10.out)
 replace BQ := Lib.hid (BQ.out.trans (hb1.mono BQ.out.size))
 replace VA := Lib.hid ((VA.out.below hb1).more hb1.size)
 replace VB := Lib.hid ((VB.out.below hb1).more hb1.size)
 replace VC := Lib.hid ((VC.out.below hb1).more hb1.size)
 replace A8 := Lib.hid ((A8.out.below hb1).more hb1.size)
 replace A10 := Lib.hid ((A10.out.below hb1).more hb1.size)
 replace A12 := Lib.hid ((A12.out.below hb1).more hb1.size)
 clear hb1
 by_cases hab : PlanMay a ∧ PlanMay b
 rotate_left
 ·have d1 : (E != 0) = true := by rw [HE.out.1, (ar_bad hab).1]; rfl
  clear hab
  go_wp2_with fail
  go_ret
  exact ⟨rfl, BQ.out⟩
 by_cases hbc : PlanMay c
 rotate_left
 ·have d1 : (E != 0) = false := by rw [HE.out.1, (ar_ok hab.1 hab.2).1]; rfl
  have d2 : (G != 0) = true := by rw [HG.out.1, (ar_bad fun h => hbc h.2).1]; rfl
  clear hab hbc
  go_wp2_with fail
  go_ret
  exact ⟨rfl, BQ.out⟩
 have hch := ar_chain hab.1 hab.2 hbc
 have d1 : (E != 0) = false := by rw [HE.out.1, hch.1.1]; rfl
 have d2 : (G != 0) = false := by rw [HG.out.1, hch.1.2.1]; rfl
 have d3 : (H != 0) = false := by rw [HH.out.1, hch.1.2.2]; rfl
 have CHN : Hid (∀ kind id, hasA lz kind id = true → hasA lx kind id = true ∨ hasA ly kind id = true) := Lib.hid (by rw [HE.out.2, HG.out.2, HH.out.2]; exact hch.2)
 clear hab hbc hch
 go_wp2_with fail
 clear d1 d2 d3
 go_loopw [14, 15] (fun s14 s15 wr => ∃ k : Nat, s14 = .int .u8 ((k : Int) + 1) ∧ k ≤ 4 ∧ Below w6.heap.size w6 wr) (fun s14 _ _ => 5 - (intOf s14).toNat)
 case atStart => exact ⟨0, by go_num, by omega, Below.refl _ _⟩
 case round =>
  obtain ⟨k, rfl, hk, hb⟩ := hrel
  have BW := Lib.hid hb
  clear hb
  by_cases hlt : k < 4
  ·have d0 : (k : Int) + 1 ≤ 4 := by omega
   have d1 : decide ((k : Int) + 1 ≤ 4) = true := decide_eq_true d0
   have hw1 : IntKind.u8.wrap ((k : Int) + 1 + 1) = (k : Int) + 1 + 1 := by
    have := wrap_u8A (k + 2) (by omega)
    push_cast at this
    rw [show (k : Int) + 1 + 1 = (k : Int) + 2 by omega]
    exact this
   obtain ⟨wm, hwm⟩ : ∃ z, z = wr := ⟨_, rfl⟩
   subst hwm
   go_wp2_with fail
   go_loopw [15] (fun s15 wr => ∃ j : Nat, s15 = .int .i64 ((j : Int) + 1) ∧ j ≤ 99 ∧ Below w6.heap.size w6 wr) (fun s15 _ => 100 - (intOf s15).toNat)
   case atStart => exact ⟨0, by go_num, by omega, BW.out⟩
   case round =>
    obtain ⟨wx, hwx⟩ : ∃ z, z = wr := ⟨_, rfl⟩
    subst hwx
    obtain ⟨j, rfl, hj, hb⟩ := hrel
    have BW2 := Lib.hid hb
    clear hb
    by_cases hlj : j < 99
    ·have e0 : (j : Int) + 1 < 100 := by omega
     have e1 : decide ((j : Int) + 1 < 100) = true := decide_eq_true e0
     have hw2 : IntKind.i64.wrap ((j : Int) + 1 + 1) = (j : Int) + 1 + 1 := wrap_id (by omega) (by omega)
     have Y8 := Lib.hid ((BW2.out.block _ (heap_lt X8.out)).trans X8.out)
     have Y10 := Lib.hid ((BW2.out.block _ (heap_lt X10.out)).trans X10.out)
     have Y12 := Lib.hid ((BW2.out.block _ (heap_lt X12.out)).trans X12.out)
     have B8 := Lib.hid ((A8.out.below BW2.out).more BW2.out.size)
     have B10 := Lib.hid ((A10.out.below BW2.out).more BW2.out.size)
     have B12 := Lib.hid ((A12.out.below BW2.out).more BW2.out.size)
     cases hz : hasA lz ((k : Int) + 1) ((j : Int) + 1) with
     | false =>
      obtain ⟨k0, k1, k2, k3⟩ := cell4A Y12.out
      go_wp2_with fail
      refine (hc.has _ lz ((k : Int) + 1) ((j : Int) + 1) wx ⟨_, _, _, _, rfl, B12.out⟩ (by omega) (by omega)).mono ?_
      rintro e v1 ⟨rfl, bN⟩
      rw [hz]
      clear k0 k1 k2 k3
      have tY8 := (bN.block _ (heap_lt Y8.out)).trans Y8.out
      have tY10 := (bN.block _ (heap_lt Y10.out)).trans Y10.out
      have tY12 := (bN.block _ (heap_lt Y12.out)).trans Y12.out
      have tB8 := (B8.out.below bN).more bN.size
      have tB10 := (B10.out.below bN).more bN.size
      have tB12 := (B12.out.below bN).more bN.size
      have tBW := BW2.out.trans (bN.mono BW2.out.size)
      clear Y8 Y10 Y12 B8 B10 B12 BW2 bN
      have Y8 := Lib.hid tY8
      have Y10 := Lib.hid tY10
      have Y12 := Lib.hid tY12
      have B8 := Lib.hid tB8
      have B10 := Lib.hid tB10
      have B12 := Lib.hid tB12
      have BW2 := Lib.hid tBW
      clear tBW tY8 tY10 tY12 tB8 tB10 tB12
      go_wp2_with fail
      go_roundw
      case measure => simp [intOf]; omega
      case rel => exact ⟨j + 1, by push_cast; rfl, by omega, BW2.out⟩
     | true =>
      obtain ⟨k0, k1, k2, k3⟩ := cell4A Y12.out
      go_wp2_with fail
      refine (hc.has _ lz ((k : Int) + 1) ((j : Int) + 1) wx ⟨_, _, _, _, rfl, B12.out⟩ (by omega) (by omega)).mono ?_
      rintro e v1 ⟨rfl, bN⟩
      rw [hz]
      clear k0 k1 k2 k3
      have tY8 := (bN.block _ (heap_lt Y8.out)).trans Y8.out
      have tY10 := (bN.block _ (heap_lt Y10.out)).trans Y10.out
      have tY12 := (bN.block _ (heap_lt Y12.out)).trans Y12.out
      have tB8 := (B8.out.below bN).more bN.size
      have tB10 := (B10.out.below bN).more bN.size
      have tB12 := (B12.out.below bN).more bN.size
      have tBW := BW2.out.trans (bN.mono BW2.out.size)
      clear Y8 Y10 Y12 B8 B10 B12 BW2 bN
      have Y8 := Lib.hid tY8
      have Y10 := Lib.hid tY10
      have Y12 := Lib.hid tY12
      have B8 := Lib.hid tB8
      have B10 := Lib.hid tB10
      have B12 := Lib.hid tB12
      have BW2 := Lib.hid tBW
      clear tBW tY8 tY10 tY12 tB8 tB10 tB12
      cases hx : hasA lx ((k : Int) + 1) ((j : Int) + 1) with
      | true =>
       obtain ⟨k0, k1, k2, k3⟩ := cell4A Y8.out
       go_wp2_with fail
       refine (hc.has _ lx ((k : Int) + 1) ((j : Int) + 1) v1 ⟨_, _, _, _, rfl, B8.out⟩ (by omega) (by omega)).mono ?_
       rintro e v2 ⟨rfl, bN⟩
       rw [hx]
       clear k0 k1 k2 k3
       have tY8 := (bN.block _ (heap_lt Y8.out)).trans Y8.out
       have tY10 := (bN.block _ (heap_lt Y10.out)).trans Y10.out
       have tY12 := (bN.block _ (heap_lt Y12.out)).trans Y12.out
       have tB8 := (B8.out.below bN).more bN.size
       have tB10 := (B10.out.below bN).more bN.size
       have tB12 := (B12.out.below bN).more bN.size
       have tBW := BW2.out.trans (bN.mono BW2.out.size)
       clear Y8 Y10 Y12 B8 B10 B12 BW2 bN
       have Y8 := Lib.hid tY8
       have Y10 := Lib.hid tY10
       have Y12 := Lib.hid tY12
       have B8 := Lib.hid tB8
       have B10 := Lib.hid tB10
       have B12 := Lib.hid tB12
       have BW2 := Lib.hid tBW
       clear tBW tY8 tY10 tY12 tB8 tB10 tB12
       go_wp2_with fail
       go_roundw
       case measure => simp [intOf]; omega
       case rel => exact ⟨j + 1, by push_cast; rfl, by omega, BW2.out⟩
      | false =>
       have hy : hasA ly ((k : Int) + 1) ((j : Int) + 1) = true := (CHN.out _ _ hz).resolve_left (by rw [hx]; exact Bool.false_ne_true)
       obtain ⟨k0, k1, k2, k3⟩ := cell4A Y8.out
       go_wp2_with fail
       refine (hc.has _ lx ((k : Int) + 1) ((j : Int) + 1) v1 ⟨_, _, _, _, rfl, B8.out⟩ (by omega) (by omega)).mono ?_
       rintro e v2 ⟨rfl, bN⟩
       rw [hx]
       clear k0 k1 k2 k3
       have tY8 := (bN.block _ (heap_lt Y8.out)).trans Y8.out
       have tY10 := (bN.block _ (heap_lt Y10.out)).trans Y10.out
       have tY12 := (bN.block _ (heap_lt Y12.out)).trans Y12.out
       have tB8 := (B8.out.below bN).more bN.size
       have tB10 := (B10.out.below bN).more bN.size
       have tB12 := (B12.out.below bN).more bN.size
       have tBW := BW2.out.trans (bN.mono BW2.out.size)
       clear Y8 Y10 Y12 B8 B10 B12 BW2 bN
       have Y8 := Lib.hid tY8
       have Y10 := Lib.hid tY10
       have Y12 := Lib.hid tY12
       have B8 := Lib.hid tB8
       have B10 := Lib.hid tB10
       have B12 := Lib.hid tB12
       have BW2 := Lib.hid tBW
       clear tBW tY8 tY10 tY12 tB8 tB10 tB12
       obtain ⟨k0, k1, k2, k3⟩ := cell4A Y10.out
       go_wp2_with fail
       refine (hc.has _ ly ((k : Int) + 1) ((j : Int) + 1) v2 ⟨_, _, _, _, rfl, B10.out⟩ (by omega) (by omega)).mono ?_
       rintro e v3 ⟨rfl, bN⟩
       rw [hy]
       clear k0 k1 k2 k3
       have tY8 := (bN.block _ (heap_lt Y8.out)).trans Y8.out
       have tY10 := (bN.block _ (heap_lt Y10.out)).trans Y10.out
       have tY12 := (bN.block _ (heap_lt Y12.out)).trans Y12.out
       have tB8 := (B8.out.below bN).more bN.size
       have tB10 := (B10.out.below bN).more bN.size
       have tB12 := (B12.out.below bN).more bN.size
       have tBW := BW2.out.trans (bN.mono BW2.out.size)
       clear Y8 Y10 Y12 B8 B10 B12 BW2 bN
       have Y8 := Lib.hid tY8
       have Y10 := Lib.hid tY10
       have Y12 := Lib.hid tY12
       have B8 := Lib.hid tB8
       have B10 := Lib.hid tB10
       have B12 := Lib.hid tB12
       have BW2 := Lib.hid tBW
       clear tBW tY8 tY10 tY12 tB8 tB10 tB12
       go_wp2_with fail
       go_roundw
       case measure => simp [intOf]; omega
       case rel => exact ⟨j + 1, by push_cast; rfl, by omega, BW2.out⟩
    ·obtain rfl : j = 99 := by omega
     go_wp2_with fail
     go_roundw
     case measure => simp [intOf]; omega
     case rel => exact ⟨k + 1, by push_cast; rfl, by omega, BW2.out⟩
  ·obtain rfl : k = 4 := by omega
   have BF := Lib.hid (BQ.out.trans (BW.out.mono BQ.out.size))
   go_wp2_with fail
   go_ret
   exact ⟨rfl, BF.out⟩
end Go.Proofs.YtneeocnjfnneoaaGreat
