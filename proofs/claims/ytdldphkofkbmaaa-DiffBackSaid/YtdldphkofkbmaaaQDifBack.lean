/-
 The other way round: the walk, given the program's answers.
 Conditions: none.
-/
import Derived.Test.YtdldphkofkbmaaaQGDifOne
import Derived.Test.YtdldphkofkbmaaaQGDifRef
set_option linter.unusedVariables false
set_option linter.unusedSimpArgs false
set_option maxRecDepth 100000
namespace Go.Proofs.Ytdldphkofkbmaaa
open Go.RowKit

set_option maxHeartbeats 16000000 in
theorem walk_diff_back (hc : DifSaid) (v y : Value) (a b : Pl) (w : World) (h : PlanV w w.heap.size v a) (h' : PlanV w w.heap.size y b) :
  Calls Try.prog 4 #[v, y] w fun e w' => e = .returned (.bool true) ∧ Below w.heap.size w w' := by
 obtain ⟨u2, u3, u4, u5, rfl, hin⟩ := h
 obtain ⟨z2, z3, z4, z5, rfl, hin'⟩ := h'
 obtain ⟨h0, h1, hqb⟩ := two_boxes w (.cells #[.int .i64 a.ver, .int .i64 a.par, u2, u3, u4, u5] 30) (.cells #[.int .i64 b.ver, .int .i64 b.par, z2, z3, z4, z5] 30)
 go_enter Try.func4, Try.ntmps4
 go_upto_region 1 with fail
 generalize (w.alloc (.cells #[.int .i64 a.ver, .int .i64 a.par, u2, u3, u4, u5] 30)).alloc (.cells #[.int .i64 b.ver, .int .i64 b.par, z2, z3, z4, z5] 30) = q at h0 h1 hqb ⊢
 have X0 := Lib.hid h0
 have X1 := Lib.hid h1
 have BQ := Lib.hid hqb
 have VA : Hid (PlanV q q.heap.size (.agg #[.int .i64 a.ver, .int .i64 a.par, u2, u3, u4, u5]) a) := Lib.hid ⟨_, _, _, _, rfl, (hin.below hqb).more hqb.size⟩
 have VB : Hid (PlanV q q.heap.size (.agg #[.int .i64 b.ver, .int .i64 b.par, z2, z3, z4, z5]) b) := Lib.hid ⟨_, _, _, _, rfl, (hin'.below hqb).more hqb.size⟩
 clear h0 h1 hqb hin hin'
 go_wp2_with fail
 refine (alive13 hc _).mono ?_
 rintro e wa ⟨rfl, bN⟩
 replace X0 := Lib.hid ((bN.block _ (heap_lt X0.out)).trans X0.out)
 replace X1 := Lib.hid ((bN.block _ (heap_lt X1.out)).trans X1.out)
 replace BQ := Lib.hid (BQ.out.trans (bN.mono BQ.out.size))
 replace VA := Lib.hid ((VA.out.below bN).more bN.size)
 replace VB := Lib.hid ((VB.out.below bN).more bN.size)
 clear bN
 obtain ⟨k0, k1, k2, k3, k4, k5⟩ := cell6_of X0.out
 go_wp2_with fail
 refine (rgreat8_any _ a wa VA.out).mono ?_
 rintro e w1 ⟨⟨g, rfl, hg⟩, bN⟩
 clear k0 k1 k2 k3 k4 k5
 replace X0 := Lib.hid ((bN.block _ (heap_lt X0.out)).trans X0.out)
 replace X1 := Lib.hid ((bN.block _ (heap_lt X1.out)).trans X1.out)
 replace BQ := Lib.hid (BQ.out.trans (bN.mono BQ.out.size))
 replace VA := Lib.hid ((VA.out.below bN).more bN.size)
 replace VB := Lib.hid ((VB.out.below bN).more bN.size)
 clear bN
 cases g with
 | true =>
  go_wp2_with fail
  go_ret
  exact ⟨rfl, BQ.out⟩
 | false =>
 have FA := Lib.hid (hg rfl)
 clear hg
 obtain ⟨k0, k1, k2, k3, k4, k5⟩ := cell6_of X1.out
 go_wp2_with fail
 refine (rgreat8_any _ b w1 VB.out).mono ?_
 rintro e w2 ⟨⟨g, rfl, hg⟩, bN⟩
 clear k0 k1 k2 k3 k4 k5
 replace X0 := Lib.hid ((bN.block _ (heap_lt X0.out)).trans X0.out)
 replace X1 := Lib.hid ((bN.block _ (heap_lt X1.out)).trans X1.out)
 replace BQ := Lib.hid (BQ.out.trans (bN.mono BQ.out.size))
 replace VA := Lib.hid ((VA.out.below bN).more bN.size)
 replace VB := Lib.hid ((VB.out.below bN).more bN.size)
 clear bN
 cases g with
 | true =>
  go_wp2_with fail
  go_ret
  exact ⟨rfl, BQ.out⟩
 | false =>
 have FB := Lib.hid (hg rfl)
 clear hg
 obtain ⟨k0, k1, k2, k3, k4, k5⟩ := cell6_of X0.out
 go_wp2_with fail
 refine (hc.of _ _ a a w2 VA.out VA.out).mono ?_
 rintro e w3 ⟨u, rfl, hu, bN⟩
 have SELF : Hid (∀ x ∈ difV a a, x.2.2 = 0) := Lib.hid (difV_self a)
 obtain ⟨ls, hls⟩ : ∃ x, x = difV a a := ⟨_, rfl⟩
 obtain ⟨E0, hE0⟩ : ∃ x, x = difE a a := ⟨_, rfl⟩
 rw [← hls] at SELF hu
 rw [← hE0]
 clear hls hE0
 have LS := Lib.hid (hu.in_ diffR_cells)
 obtain ⟨ns, hns⟩ : ∃ n, n = ls.length := ⟨_, rfl⟩
 have HNS := Lib.hid hns
 obtain ⟨SA, Sc, rfl⟩ := hu.slice
 rw [← HNS.out] at LS ⊢
 clear hu hns
 clear k0 k1 k2 k3 k4 k5
 replace X0 := Lib.hid ((bN.block _ (heap_lt X0.out)).trans X0.out)
 replace X1 := Lib.hid ((bN.block _ (heap_lt X1.out)).trans X1.out)
 replace BQ := Lib.hid (BQ.out.trans (bN.mono BQ.out.size))
 replace VA := Lib.hid ((VA.out.below bN).more bN.size)
 replace VB := Lib.hid ((VB.out.below bN).more bN.size)
 clear bN
 have hn9 : ns ≤ 9223372036854775807 := by
  obtain ⟨_, _, e, h1, h2⟩ := LS.out.slice
  unfold maxLen at h2
  have := HNS.out
  omega
 go_wp2_with fail
 go_loopw [8] (fun s8 wr => ∃ i : Nat, i ≤ ns ∧ s8 = .int .i64 i ∧ Below w3.heap.size w3 wr) (fun s8 _ => ns - (intOf s8).toNat)
 case atStart => exact ⟨0, by omega, by go_num, Below.refl _ _⟩
 case round =>
  obtain ⟨i, hi, rfl, hb⟩ := hrel
  have BW := Lib.hid hb
  clear hb
  by_cases hlt : i < ns
  ·have hlt' : (i : Int) < ns := by omega
   have hil : i < ls.length := by have := HNS.out; omega
   obtain ⟨b1, o1, e1, -, c0, c1, c4⟩ := (LS.out.below diffR BW.out).at hil
   cases e1
   have hz := SELF.out _ (List.getElem_mem hil)
   rw [hz] at c4
   have g4 : wr.cell? ⟨b1, o1 + i * 3 + 2, none⟩ = some (.int .u8 0) := c4
   clear c0 c1 c4 hz
   go_wp2_with fail
   go_roundw
   case measure => simp [intOf]; omega
   case rel => exact ⟨i + 1, by omega, by go_num, BW.out⟩
  ·obtain rfl : i = ns := by omega
   have hlt' : ¬ (i : Int) < i := by omega
   have bN := BW.out
   clear hn9 BW LS SELF
   replace X0 := Lib.hid ((bN.block _ (heap_lt X0.out)).trans X0.out)
   replace X1 := Lib.hid ((bN.block _ (heap_lt X1.out)).trans X1.out)
   replace BQ := Lib.hid (BQ.out.trans (bN.mono BQ.out.size))
   replace VA := Lib.hid ((VA.out.below bN).more bN.size)
   replace VB := Lib.hid ((VB.out.below bN).more bN.size)
   clear bN
   obtain ⟨k0, k1, k2, k3, k4, k5⟩ := cell6_of X0.out
   obtain ⟨m0, m1, m2, m3, m4, m5⟩ := cell6_of X1.out
   go_wp2_with fail
   clear hlt hlt'
   refine (hc.of _ _ a b wr VA.out VB.out).mono ?_
   rintro e w4 ⟨u, rfl, hu, bN⟩
   obtain ⟨l, hl⟩ : ∃ x, x = difV a b := ⟨_, rfl⟩
   obtain ⟨E, hE⟩ : ∃ x, x = difE a b := ⟨_, rfl⟩
   have HV := Lib.hid (And.intro hl hE)
   rw [← HV.out.1] at hu
   rw [← HV.out.2]
   clear hl hE
   have LD := Lib.hid (hu.in_ diffR_cells)
   obtain ⟨nl, hnl⟩ : ∃ n, n = l.length := ⟨_, rfl⟩
   have HNL := Lib.hid hnl
   obtain ⟨DA, Dc, rfl⟩ := hu.slice
   rw [← HNL.out] at LD ⊢
   clear hu hnl
   clear k0 k1 k2 k3 k4 k5 m0 m1 m2 m3 m4 m5
   replace X0 := Lib.hid ((bN.block _ (heap_lt X0.out)).trans X0.out)
   replace X1 := Lib.hid ((bN.block _ (heap_lt X1.out)).trans X1.out)
   replace BQ := Lib.hid (BQ.out.trans (bN.mono BQ.out.size))
   replace VA := Lib.hid ((VA.out.below bN).more bN.size)
   replace VB := Lib.hid ((VB.out.below bN).more bN.size)
   clear bN
   obtain ⟨k0, k1, k2, k3, k4, k5⟩ := cell6_of X0.out
   obtain ⟨m0, m1, m2, m3, m4, m5⟩ := cell6_of X1.out
   go_wp2_with fail
   refine (hc.of _ _ b a w4 VB.out VA.out).mono ?_
   rintro e w5 ⟨u, rfl, hu, bN⟩
   rw [difV_flip a b, ← HV.out.1] at hu
   rw [difE_comm a b, ← HV.out.2]
   have LF := Lib.hid (hu.in_ diffR_cells)
   obtain ⟨FA_, Fc, rfl⟩ := hu.slice
   rw [List.length_map, ← HNL.out] at LF ⊢
   clear hu
   clear k0 k1 k2 k3 k4 k5 m0 m1 m2 m3 m4 m5
   replace X0 := Lib.hid ((bN.block _ (heap_lt X0.out)).trans X0.out)
   replace X1 := Lib.hid ((bN.block _ (heap_lt X1.out)).trans X1.out)
   replace BQ := Lib.hid (BQ.out.trans (bN.mono BQ.out.size))
   replace VA := Lib.hid ((VA.out.below bN).more bN.size)
   replace VB := Lib.hid ((VB.out.below bN).more bN.size)
   replace LD := Lib.hid ((LD.out.below diffR bN).more diffR bN.size)
   clear bN
   have hn9 : nl ≤ 9223372036854775807 := by
    obtain ⟨_, _, e, h1, h2⟩ := LD.out.slice
    unfold maxLen at h2
    have := HNL.out
    omega
   have d1 : (E != E) = false := by simp
   have d4 : ((nl : Int) != (nl : Int)) = false := by simp
   go_wp2_with fail
   clear d1 d4
   go_loopw [13, 14] (fun s13 s14 wr => ∃ i : Nat, i ≤ nl ∧ s13 = .int .i64 i ∧ Below w5.heap.size w5 wr) (fun s13 _ _ => nl - (intOf s13).toNat)
   case atStart => exact ⟨0, by omega, by go_num, Below.refl _ _⟩
   case round =>
    obtain ⟨j, hj, rfl, hb⟩ := hrel
    have BW := Lib.hid hb
    clear hb
    by_cases hlt : j < nl
    ·have hlt' : (j : Int) < nl := by omega
     have hil : j < l.length := by have := HNL.out; omega
     have hil2 : j < (l.map fun x : Df => (x.1, x.2.1, flipD x.2.2)).length := by rw [List.length_map]; exact hil
     obtain ⟨j0, j1, j2, hx⟩ : ∃ a b c, l[j] = (a, b, c) := ⟨_, _, _, rfl⟩
     obtain ⟨b1, o1, e1, -, c0, c1, c4⟩ := (LD.out.below diffR BW.out).at hil
     cases e1
     obtain ⟨b2, o2, e2, -, c2, c3, c5⟩ := (LF.out.below diffR BW.out).at hil2
     cases e2
     rw [List.getElem_map, hx] at c2 c3 c5
     rw [hx] at c0 c1 c4
     have hm := difV_mem (show (j0, j1, j2) ∈ difV a b from by rw [← HV.out.1, ← hx]; exact List.getElem_mem hil)
     have g0 : wr.cell? ⟨b1, o1 + j * 3, none⟩ = some (.int .u8 j0) := c0
     have g1 : wr.cell? ⟨b1, o1 + j * 3 + 1, none⟩ = some (.int .i64 j1) := c1
     have g4 : wr.cell? ⟨b1, o1 + j * 3 + 2, none⟩ = some (.int .u8 j2) := c4
     have g2 : wr.cell? ⟨b2, o2 + j * 3, none⟩ = some (.int .u8 j0) := c2
     have g3 : wr.cell? ⟨b2, o2 + j * 3 + 1, none⟩ = some (.int .i64 j1) := c3
     have g5 : wr.cell? ⟨b2, o2 + j * 3 + 2, none⟩ = some (.int .u8 (flipD j2)) := c5
     have hj2 : j2 = 0 ∨ j2 = 1 ∨ j2 = 2 ∨ j2 = 3 := by have := hm.2.2.2.2.2.2.2; simp only at this; omega
     have hcmp : ∀ w' : World, (Op.equalIn 10000 38 (.agg #[.int .u8 j0, .int .i64 j1, .int .u8 (flipD j2)]) (.agg #[.int .u8 j0, .int .i64 j1, .int .u8 (flipD j2)])).run Try.prog w' = .ok true w' := diff_self13 j0 j1 _
     have BD : Hid (∀ nq, Below wr.heap.size wr (wr.drewN nq)) := Lib.hid (fun nq => drewN13 wr nq)
     clear hx c0 c1 c2 c3 c4 c5 hm
     rcases hj2 with rfl | rfl | rfl | rfl
     ·rw [show flipD 0 = 0 from rfl] at g5 hcmp
      go_upto_region 20 with fail
      go_quiet (fail)
      have hdb := BD.out nq
      generalize wr.drewN nq = v3 at hdb ⊢
      have B3 := Lib.hid (BW.out.trans (hdb.mono BW.out.size))
      clear hdb BD g0 g1 g2 g3 g4 g5 hcmp
      go_wp2_with fail
      go_roundw
      case measure => simp [intOf]; omega
      case rel => exact ⟨j + 1, by omega, by go_num, B3.out⟩
     ·rw [show flipD 1 = 1 from rfl] at g5 hcmp
      go_upto_region 20 with fail
      go_quiet (fail)
      have hdb := BD.out nq
      generalize wr.drewN nq = v3 at hdb ⊢
      have B3 := Lib.hid (BW.out.trans (hdb.mono BW.out.size))
      clear hdb BD g0 g1 g2 g3 g4 g5 hcmp
      go_wp2_with fail
      go_roundw
      case measure => simp [intOf]; omega
      case rel => exact ⟨j + 1, by omega, by go_num, B3.out⟩
     ·rw [show flipD 2 = 3 from rfl] at g5 hcmp
      go_upto_region 20 with fail
      go_quiet (fail)
      have hdb := BD.out nq
      generalize wr.drewN nq = v3 at hdb ⊢
      have B3 := Lib.hid (BW.out.trans (hdb.mono BW.out.size))
      clear hdb BD g0 g1 g2 g3 g4 g5 hcmp
      go_wp2_with fail
      go_roundw
      case measure => simp [intOf]; omega
      case rel => exact ⟨j + 1, by omega, by go_num, B3.out⟩
     ·rw [show flipD 3 = 2 from rfl] at g5 hcmp
      go_upto_region 20 with fail
      go_quiet (fail)
      have hdb := BD.out nq
      generalize wr.drewN nq = v3 at hdb ⊢
      have B3 := Lib.hid (BW.out.trans (hdb.mono BW.out.size))
      clear hdb BD g0 g1 g2 g3 g4 g5 hcmp
      go_wp2_with fail
      go_roundw
      case measure => simp [intOf]; omega
      case rel => exact ⟨j + 1, by omega, by go_num, B3.out⟩
    ·obtain rfl : j = nl := by omega
     have hlt' : ¬ (j : Int) < j := by omega
     go_wp2_with fail
     go_ret
     exact ⟨rfl, BQ.out.trans (BW.out.mono BQ.out.size)⟩
end Go.Proofs.Ytdldphkofkbmaaa
