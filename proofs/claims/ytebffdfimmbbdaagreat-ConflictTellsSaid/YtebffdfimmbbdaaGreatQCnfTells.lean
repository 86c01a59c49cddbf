/-
 ConflictTells: the walk, given the program's contracts.
 Conditions: none.
-/
import Derived.Test.YtebffdfimmbbdaaGreatQGCnfRef
import Derived.Test.YtebffdfimmbbdaaGreatQGPlnRefD
set_option linter.unusedVariables false
set_option linter.unusedSimpArgs false
set_option maxRecDepth 100000
namespace Go.Proofs.YtebffdfimmbbdaaGreat
open Go.RowKit

set_option maxHeartbeats 16000000 in
theorem walk_cnf_tells (hc : CnfSaid) (v : Value) (p : Pl) (a b : Int) (w : World) (h : PlanV w w.heap.size v p) :
  Calls Tryz.prog 3 #[v, .int .i64 a, .int .i64 b] w fun e w' => e = .returned (.bool true) ∧ Below w.heap.size w w' := by
 obtain ⟨y2, y3, y4, y5, rfl, hin⟩ := h
 have HIN0 := Lib.hid hin
 obtain ⟨A2, c2, rfl, -, -⟩ := hin.secs.slice
 obtain ⟨A3, c3, rfl, -, -⟩ := hin.pts.slice
 obtain ⟨A4, c4, rfl, -, -⟩ := hin.sigs.slice
 obtain ⟨A5, c5, rfl, hcl5, hcm5⟩ := hin.routes.slice
 obtain ⟨n2, hn2⟩ : ∃ n, n = p.secs.length := ⟨_, rfl⟩
 obtain ⟨n3, hn3⟩ : ∃ n, n = p.pts.length := ⟨_, rfl⟩
 obtain ⟨n4, hn4⟩ : ∃ n, n = p.sigs.length := ⟨_, rfl⟩
 obtain ⟨n5, hn5⟩ : ∃ n, n = p.routes.length := ⟨_, rfl⟩
 have HM5 : Hid (n5 ≤ 9223372036854775807) := Lib.hid (by rw [hn5]; unfold maxLen at hcm5; omega)
 have HN5 := Lib.hid hn5
 have HP0 : Hid (PlanV w w.heap.size (.agg #[.int .i64 p.ver, .int .i64 p.par, .slice A2 n2 c2, .slice A3 n3 c3, .slice A4 n4 c4, .slice A5 n5 c5]) p) := Lib.hid ⟨_, _, _, _, rfl, by rw [hn2, hn3, hn4, hn5]; exact HIN0.out⟩
 rw [← hn2, ← hn3, ← hn4, ← hn5]
 clear hn2 hn3 hn4 hn5 HIN0 hin hcl5 hcm5
 have hq0 := heap_alloc_self w (.cells #[.int .i64 p.ver, .int .i64 p.par, .slice A2 n2 c2, .slice A3 n3 c3, .slice A4 n4 c4, .slice A5 n5 c5] 27)
 have hqb := below_new w (.cells #[.int .i64 p.ver, .int .i64 p.par, .slice A2 n2 c2, .slice A3 n3 c3, .slice A4 n4 c4, .slice A5 n5 c5] 27)
 go_enter Tryz.func3, Tryz.ntmps3
 go_upto_region 1 with fail
 generalize w.alloc (.cells #[.int .i64 p.ver, .int .i64 p.par, .slice A2 n2 c2, .slice A3 n3 c3, .slice A4 n4 c4, .slice A5 n5 c5] 27) = q at hq0 hqb ⊢
 have BZ := Lib.hid hqb
 have XP := Lib.hid hq0
 have HP := Lib.hid ((HP0.out.below hqb).more hqb.size)
 clear hq0 hqb HP0
 obtain ⟨k0, k1, k2, k3, k4, k5⟩ := cell6_of XP.out
 go_wp2_with fail
 refine (rgreat8_any _ p q HP.out).mono ?_
 rintro e w1 ⟨⟨g, rfl, hg⟩, bG⟩
 clear k0 k1 k2 k3 k4 k5
 replace BZ := Lib.hid (BZ.out.trans (bG.mono BZ.out.size))
 replace XP := Lib.hid ((bG.block _ (heap_lt XP.out)).trans XP.out)
 replace HP := Lib.hid ((HP.out.below bG).more bG.size)
 clear bG
 cases g with
 | true =>
  go_wp2_with fail
  go_ret
  exact ⟨rfl, BZ.out⟩
 | false =>
 have FEW := Lib.hid (hg rfl)
 clear hg
 obtain ⟨k0, k1, k2, k3, k4, k5⟩ := cell6_of XP.out
 go_wp2_with fail
 refine (rtwin8_any _ p w1 HP.out FEW.out).mono ?_
 rintro e wT ⟨u2, u3, u4, u5, rfl, ho, bT⟩
 obtain ⟨O2, f2, rfl⟩ := ho.secs.slice
 obtain ⟨O3, f3, rfl⟩ := ho.pts.slice
 obtain ⟨O4, f4, rfl⟩ := ho.sigs.slice
 obtain ⟨O5, f5, rfl⟩ := ho.routes.slice
 have HO : Hid (PlanV wT wT.heap.size (.agg #[.int .i64 p.ver, .int .i64 p.par, .slice O2 p.secs.length f2, .slice O3 p.pts.length f3, .slice O4 p.sigs.length f4, .slice O5 p.routes.length f5]) p) := Lib.hid ⟨_, _, _, _, rfl, ho.in_⟩
 clear ho k0 k1 k2 k3 k4 k5
 replace BZ := Lib.hid (BZ.out.trans (bT.mono BZ.out.size))
 replace XP := Lib.hid ((bT.block _ (heap_lt XP.out)).trans XP.out)
 replace HP := Lib.hid ((HP.out.below bT).more bT.size)
 clear bT
 have XX0 := heap_alloc_self wT (.cells #[.int .i64 0, .int .i64 0, .slice none 0 0, .slice none 0 0, .slice none 0 0, .slice none 0 0] 27)
 have hb1 := below_setRow (below_new wT (.cells #[.int .i64 0, .int .i64 0, .slice none 0 0, .slice none 0 0, .slice none 0 0, .slice none 0 0] 27)) (Nat.le_refl _) #[.int .i64 p.ver, .int .i64 p.par, .slice O2 p.secs.length f2, .slice O3 p.pts.length f3, .slice O4 p.sigs.length f4, .slice O5 p.routes.length f5]
 have hx1 := setRow_heap (wT.alloc (.cells #[.int .i64 0, .int .i64 0, .slice none 0 0, .slice none 0 0, .slice none 0 0, .slice none 0 0] 27)) wT.heap.size _ #[.int .i64 p.ver, .int .i64 p.par, .slice O2 p.secs.length f2, .slice O3 p.pts.length f3, .slice O4 p.sigs.length f4, .slice O5 p.routes.length f5] 27 _ XX0
 go_upto_region 4 with ((with_reducible show wpList _ _ _ (⟨none, _, _, _, _, _⟩ :: _) _ _); refine wpList_store_rowS rfl _ (.tmp 7) (.tmp 20) rfl wT.heap.size rfl (c' := #[.int .i64 p.ver, .int .i64 p.par, .slice O2 p.secs.length f2, .slice O3 p.pts.length f3, .slice O4 p.sigs.length f4, .slice O5 p.routes.length f5]) rfl XX0 infoPlan6 rfl (by simp [Value.oneCell']) ?_)
 generalize (wT.alloc (.cells #[.int .i64 0, .int .i64 0, .slice none 0 0, .slice none 0 0, .slice none 0 0, .slice none 0 0] 27)).setRow wT.heap.size #[.int .i64 p.ver, .int .i64 p.par, .slice O2 p.secs.length f2, .slice O3 p.pts.length f3, .slice O4 p.sigs.length f4, .slice O5 p.routes.length f5] = q1 at hb1 hx1 ⊢
 obtain ⟨p3, hp1⟩ : ∃ n, n = wT.heap.size := ⟨_, rfl⟩
 rw [← hp1] at hx1 ⊢
 have XO := Lib.hid hx1
 clear hx1 XX0 hp1
 replace BZ := Lib.hid (BZ.out.trans (hb1.mono BZ.out.size))
 replace XP := Lib.hid ((hb1.block _ (heap_lt XP.out)).trans XP.out)
 replace HP := Lib.hid ((HP.out.below hb1).more hb1.size)
 replace HO := Lib.hid ((HO.out.below hb1).more hb1.size)
 clear hb1
 obtain ⟨TB, hTB⟩ : ∃ x, x = twoB p a b := ⟨_, rfl⟩
 obtain ⟨TE, hTE⟩ : ∃ x, x = twoE p a b := ⟨_, rfl⟩
 obtain ⟨S, hS⟩ : ∃ x, x = sndE p := ⟨_, rfl⟩
 obtain ⟨l, hl⟩ : ∃ x, x = tabL p := ⟨_, rfl⟩
 have HV := Lib.hid (And.intro hTB (And.intro hTE (And.intro hS hl)))
 clear hTB hTE hS hl
 obtain ⟨k0, k1, k2, k3, k4, k5⟩ := cell6_of XO.out
 go_wp2_with fail
 refine (hc.two _ p a b q1 HO.out).mono ?_
 rintro e w3 ⟨rfl, bN⟩
 clear k0 k1 k2 k3 k4 k5
 rw [← HV.out.1, ← HV.out.2.1]
 replace BZ := Lib.hid (BZ.out.trans (bN.mono BZ.out.size))
 replace XP := Lib.hid ((bN.block _ (heap_lt XP.out)).trans XP.out)
 replace XO := Lib.hid ((bN.block _ (heap_lt XO.out)).trans XO.out)
 replace HP := Lib.hid ((HP.out.below bN).more bN.size)
 replace HO := Lib.hid ((HO.out.below bN).more bN.size)
 clear bN
 obtain ⟨k0, k1, k2, k3, k4, k5⟩ := cell6_of XP.out
 go_wp2_with fail
 refine (rtwo_any _ p a b w3 HP.out).mono ?_
 rintro e w4 ⟨rfl, bN⟩
 clear k0 k1 k2 k3 k4 k5
 rw [← HV.out.1, ← HV.out.2.1]
 replace BZ := Lib.hid (BZ.out.trans (bN.mono BZ.out.size))
 replace XP := Lib.hid ((bN.block _ (heap_lt XP.out)).trans XP.out)
 replace XO := Lib.hid ((bN.block _ (heap_lt XO.out)).trans XO.out)
 replace HP := Lib.hid ((HP.out.below bN).more bN.size)
 replace HO := Lib.hid ((HO.out.below bN).more bN.size)
 clear bN
 obtain ⟨k0, k1, k2, k3, k4, k5⟩ := cell6_of XO.out
 go_wp2_with fail
 refine (hc.table _ p w4 HO.out).mono ?_
 rintro e w5 ⟨u, rfl, hu, bN⟩
 rw [← HV.out.2.2.2] at hu
 rw [← HV.out.2.2.1]
 have LD := Lib.hid (hu.in_ joinR_cells)
 obtain ⟨nl, hnl⟩ : ∃ n, n = l.length := ⟨_, rfl⟩
 have HNL := Lib.hid hnl
 obtain ⟨DA, Dc, rfl⟩ := hu.slice
 rw [← HNL.out] at LD ⊢
 clear hu hnl
 clear k0 k1 k2 k3 k4 k5
 replace BZ := Lib.hid (BZ.out.trans (bN.mono BZ.out.size))
 replace XP := Lib.hid ((bN.block _ (heap_lt XP.out)).trans XP.out)
 replace XO := Lib.hid ((bN.block _ (heap_lt XO.out)).trans XO.out)
 replace HP := Lib.hid ((HP.out.below bN).more bN.size)
 replace HO := Lib.hid ((HO.out.below bN).more bN.size)
 clear bN
 obtain ⟨k0, k1, k2, k3, k4, k5⟩ := cell6_of XP.out
 go_wp2_with fail
 refine (rtable_any _ p w5 HP.out).mono ?_
 rintro e w6 ⟨u, rfl, hu, bN⟩
 rw [← HV.out.2.2.2] at hu
 rw [← HV.out.2.2.1]
 have LF := Lib.hid (hu.in_ joinR_cells)
 obtain ⟨FA, Fc, rfl⟩ := hu.slice
 rw [← HNL.out] at LF ⊢
 clear hu
 clear k0 k1 k2 k3 k4 k5
 replace BZ := Lib.hid (BZ.out.trans (bN.mono BZ.out.size))
 replace XP := Lib.hid ((bN.block _ (heap_lt XP.out)).trans XP.out)
 replace XO := Lib.hid ((bN.block _ (heap_lt XO.out)).trans XO.out)
 replace HP := Lib.hid ((HP.out.below bN).more bN.size)
 replace HO := Lib.hid ((HO.out.below bN).more bN.size)
 replace LD := Lib.hid ((LD.out.below joinR bN).more joinR bN.size)
 clear bN
 have d1 : (TB != TB) = false := by simp
 have d2 : (TE != TE) = false := by simp
 have d3 : (S != S) = false := by simp
 have d4 : ((nl : Int) != (nl : Int)) = false := by simp
 obtain ⟨k0, k1, k2, k3, k4, k5⟩ := cell6_of XO.out
 obtain ⟨m0, m1, m2, m3, m4, m5⟩ := cell6_of XP.out
 go_wp2_with fail
 refine (rsame8_any _ _ p p w6 HO.out HP.out).mono ?_
 rintro e w7 ⟨rfl, bN⟩
 rw [eqB_true rfl]
 clear k0 k1 k2 k3 k4 k5 m0 m1 m2 m3 m4 m5
 replace BZ := Lib.hid (BZ.out.trans (bN.mono BZ.out.size))
 replace XP := Lib.hid ((bN.block _ (heap_lt XP.out)).trans XP.out)
 replace XO := Lib.hid ((bN.block _ (heap_lt XO.out)).trans XO.out)
 replace HP := Lib.hid ((HP.out.below bN).more bN.size)
 replace HO := Lib.hid ((HO.out.below bN).more bN.size)
 replace LD := Lib.hid ((LD.out.below joinR bN).more joinR bN.size)
 replace LF := Lib.hid ((LF.out.below joinR bN).more joinR bN.size)
 clear bN
 have hn9 : nl ≤ 9223372036854775807 := by
  obtain ⟨_, _, e, h1, h2⟩ := LD.out.slice
  unfold maxLen at h2
  have := HNL.out
  omega
 go_wp2_with fail
 clear d1 d2 d3 d4
 go_loopw [16] (fun s16 wr => ∃ i : Nat, i ≤ nl ∧ s16 = .int .i64 i ∧ Below w7.heap.size w7 wr) (fun s16 _ => nl - (intOf s16).toNat)
 case atStart => exact ⟨0, by omega, by go_num, Below.refl _ _⟩
 case round =>
  obtain ⟨i, hi, rfl, hb⟩ := hrel
  have BW := Lib.hid hb
  clear hb
  by_cases hlt : i < nl
  ·have hlt' : (i : Int) < nl := by omega
   have hil : i < l.length := by have := HNL.out; omega
   obtain ⟨j0, j1, hx⟩ : ∃ a b, l[i] = (a, b) := ⟨_, _, rfl⟩
   obtain ⟨b1, o1, e1, -, c0, c1⟩ := (LD.out.below joinR BW.out).at hil
   cases e1
   obtain ⟨b2, o2, e2, -, c2, c3⟩ := (LF.out.below joinR BW.out).at hil
   cases e2
   rw [hx] at c0 c1 c2 c3
   have g0 : wr.cell? ⟨b1, o1 + i * 2, none⟩ = some (.int .i64 j0) := c0
   have g1 : wr.cell? ⟨b1, o1 + i * 2 + 1, none⟩ = some (.int .i64 j1) := c1
   have g2 : wr.cell? ⟨b2, o2 + i * 2, none⟩ = some (.int .i64 j0) := c2
   have g3 : wr.cell? ⟨b2, o2 + i * 2 + 1, none⟩ = some (.int .i64 j1) := c3
   have hcmp : ∀ w' : World, (Op.equalIn 10000 41 (.agg #[.int .i64 j0, .int .i64 j1]) (.agg #[.int .i64 j0, .int .i64 j1])).run Tryz.prog w' = .ok true w' := pair_self j0 j1
   have BD : Hid (∀ nq, Below wr.heap.size wr (wr.drewN nq)) := Lib.hid (fun nq => drewN_below wr nq)
   clear hx c0 c1 c2 c3
   go_upto_region 13 with fail
   go_quiet (fail)
   have hdb := BD.out nq
   generalize wr.drewN nq = v3 at hdb ⊢
   have B3 := Lib.hid (BW.out.trans (hdb.mono BW.out.size))
   clear hdb BD g0 g1 g2 g3 hcmp
   go_wp2_with fail
   go_roundw
   case measure => simp [intOf]; omega
   case rel => exact ⟨i + 1, by omega, by go_num, B3.out⟩
  ·obtain rfl : i = nl := by omega
   have hlt' : ¬ (i : Int) < i := by omega
   go_wp2_with fail
   go_ret
   exact ⟨rfl, BZ.out.trans (BW.out.mono BZ.out.size)⟩
end Go.Proofs.YtebffdfimmbbdaaGreat
