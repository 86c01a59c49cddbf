/-
 The document's own package area: Asked, Great.
 Conditions: none.
-/
import Derived.Test.YtneeocnjfnneoaaGreatQAreRefH
set_option linter.unusedVariables false
set_option linter.unusedSimpArgs false
set_option maxRecDepth 100000
namespace Go.Proofs.YtneeocnjfnneoaaGreat
open Go.RowKit

theorem ints_sl {W : World} {B : Nat} {v : Value} {l : List Int} (h : IntsIn W B v l) : ∃ A n c, v = .slice A n c := by
 obtain ⟨A, c, e, -, -⟩ := h.slice
 exact ⟨A, _, c, e⟩
theorem ar_bad {a b : Pl} (h : ¬ (PlanMay a ∧ PlanMay b)) : arE a b = 8 ∧ arV a b = noAr := by
 rcases ar_cases a b with ⟨h1, h2, -, -⟩ | ⟨-, h3, h4⟩
 ·exact absurd ⟨h1, h2⟩ h
 ·exact ⟨h3, h4⟩
theorem ar_ok {a b : Pl} (h1 : PlanMay a) (h2 : PlanMay b) : arE a b = 0 ∧ arV a b = arOf (areaB a b) := by
 rcases ar_cases a b with ⟨-, -, h3, h4⟩ | ⟨h, -, -⟩
 ·exact ⟨h3, h4⟩
 ·exact absurd ⟨h1, h2⟩ h
set_option maxHeartbeats 8000000 in
theorem raskedA_any (v y : Value) (a b : Pl) (w : World) (h : PlanV w w.heap.size v a) (h' : PlanV w w.heap.size y b) :
  Calls Tryz.prog 17 #[v, y] w fun e w' => ∃ u0 u1 u2 u3, e = .returned (.tuple #[.agg #[u0, u1, u2, u3], .int .i64 (arE a b)]) ∧ ArIn w' w'.heap.size u0 u1 u2 u3 (arV a b) ∧ Below w.heap.size w w' := by
 obtain ⟨u2, u3, u4, u5, rfl, hin⟩ := h
 obtain ⟨z2, z3, z4, z5, rfl, hin'⟩ := h'
 obtain ⟨q, hq, h0, h1, h2, hsz, hqb⟩ := boxes3 w (.cells #[.int .i64 a.ver, .int .i64 a.par, u2, u3, u4, u5] 33) (.cells #[.int .i64 b.ver, .int .i64 b.par, z2, z3, z4, z5] 33) (.cells #[.slice none 0 0, .slice none 0 0, .slice none 0 0, .slice none 0 0] 24)
 go_enter Tryz.func17, Tryz.ntmps17
 go_upto_region 1 with fail
 rw [← hq]
 have X0 := Lib.hid h0
 have X1 := Lib.hid h1
 have X4 := Lib.hid h2
 have BQ := Lib.hid hqb
 have VA : Hid (PlanV q q.heap.size (.agg #[.int .i64 a.ver, .int .i64 a.par, u2, u3, u4, u5]) a) := Lib.hid ⟨_, _, _, _, rfl, (hin.below hqb).more hqb.size⟩
 have VB : Hid (PlanV q q.heap.size (.agg #[.int .i64 b.ver, .int .i64 b.par, z2, z3, z4, z5]) b) := Lib.hid ⟨_, _, _, _, rfl, (hin'.below hqb).more hqb.size⟩
 clear h0 h1 h2 hq hqb hin hin' hsz
 obtain ⟨k0, k1, k2, k3, k4, k5⟩ := cell6_of X0.out
 have HM := rmay8_any (.agg #[.int .i64 a.ver, .int .i64 a.par, u2, u3, u4, u5]) a q VA.out
 by_cases ha : PlanMay a
 rotate_left
 ·rw [planMay_false ha] at HM
  have HV := Lib.hid (ar_bad (b := b) fun h => ha h.1)
  clear ha
  go_upto_region 2 with (go_at_call 40; refine HM.mono ?_; rintro e v1 ⟨rfl, b_⟩; have BL := Lib.hid b_; clear b_ HM k0 k1 k2 k3 k4 k5)
  have hrow := (BL.out.block _ (heap_lt X4.out)).trans X4.out
  have hg := grownBy_setRow v1 (w.heap.size + 1 + 1) #[.slice none 0 0, .slice none 0 0, .slice none 0 0, .slice none 0 0]
  have BE : Hid (Below w.heap.size w (v1.setRow (w.heap.size + 1 + 1) #[.slice none 0 0, .slice none 0 0, .slice none 0 0, .slice none 0 0])) := Lib.hid ((BQ.out.trans (BL.out.mono BQ.out.size)).trans (gb_low14 hg (by omega) (Nat.le_trans BQ.out.size BL.out.size)))
  have XE := setRow_heap v1 _ _ #[.slice none 0 0, .slice none 0 0, .slice none 0 0, .slice none 0 0] _ _ hrow
  go_wp2_with ((with_reducible show wpList _ _ _ (⟨none, _, _, _, _, _⟩ :: _) _ _); refine wpList_store_rowS rfl _ (.tmp 4) (.tmp 14) rfl (w.heap.size + 1 + 1) rfl (c' := #[.slice none 0 0, .slice none 0 0, .slice none 0 0, .slice none 0 0]) rfl hrow infoArea4 rfl (by simp [Value.oneCell']) ?_)
  refine bodyPost_ret (results_rowS_tmp (c := #[.slice none 0 0, .slice none 0 0, .slice none 0 0, .slice none 0 0]) rfl _ _ (w.heap.size + 1 + 1) rfl XE Tryz.underlying24 infoArea4 (.int .i64 8) rfl) rfl ⟨_, _, _, _, by rw [HV.out.1], ?_, BE.out⟩
  rw [HV.out.2]
  exact (ownNo _ 0).in_
 rw [planMay_true ha] at HM
 go_wp2_with fail
 refine HM.mono ?_
 rintro e v1 ⟨rfl, b_⟩
 have BL1 := Lib.hid b_
 clear b_ HM k0 k1 k2 k3 k4 k5
 obtain ⟨l0, l1, l2, l3, l4, l5⟩ := cell6_of ((BL1.out.block _ (heap_lt X1.out)).trans X1.out)
 have HM := rmay8_any (.agg #[.int .i64 b.ver, .int .i64 b.par, z2, z3, z4, z5]) b v1 ((VB.out.below BL1.out).more BL1.out.size)
 by_cases hb : PlanMay b
 rotate_left
 ·rw [planMay_false hb] at HM
  have HV := Lib.hid (ar_bad (a := a) fun h => hb h.2)
  clear ha hb
  go_upto_region 2 with (go_at_call 40; refine HM.mono ?_; rintro e v2 ⟨rfl, b_⟩; have BL := Lib.hid (BL1.out.trans (b_.mono BL1.out.size)); clear b_ HM l0 l1 l2 l3 l4 l5 BL1)
  have hrow := (BL.out.block _ (heap_lt X4.out)).trans X4.out
  have hg := grownBy_setRow v2 (w.heap.size + 1 + 1) #[.slice none 0 0, .slice none 0 0, .slice none 0 0, .slice none 0 0]
  have BE : Hid (Below w.heap.size w (v2.setRow (w.heap.size + 1 + 1) #[.slice none 0 0, .slice none 0 0, .slice none 0 0, .slice none 0 0])) := Lib.hid ((BQ.out.trans (BL.out.mono BQ.out.size)).trans (gb_low14 hg (by omega) (Nat.le_trans BQ.out.size BL.out.size)))
  have XE := setRow_heap v2 _ _ #[.slice none 0 0, .slice none 0 0, .slice none 0 0, .slice none 0 0] _ _ hrow
  go_wp2_with ((with_reducible show wpList _ _ _ (⟨none, _, _, _, _, _⟩ :: _) _ _); refine wpList_store_rowS rfl _ (.tmp 4) (.tmp 14) rfl (w.heap.size + 1 + 1) rfl (c' := #[.slice none 0 0, .slice none 0 0, .slice none 0 0, .slice none 0 0]) rfl hrow infoArea4 rfl (by simp [Value.oneCell']) ?_)
  refine bodyPost_ret (results_rowS_tmp (c := #[.slice none 0 0, .slice none 0 0, .slice none 0 0, .slice none 0 0]) rfl _ _ (w.heap.size + 1 + 1) rfl XE Tryz.underlying24 infoArea4 (.int .i64 8) rfl) rfl ⟨_, _, _, _, by rw [HV.out.1], ?_, BE.out⟩
  rw [HV.out.2]
  exact (ownNo _ 0).in_
 rw [planMay_true hb] at HM
 have HV := Lib.hid (ar_ok ha hb)
 have HA := Lib.hid ha
 have HB := Lib.hid hb
 clear ha hb
 go_upto_region 3 with (go_at_call 40; refine HM.mono ?_; rintro e v2 ⟨rfl, b_⟩; have BL := Lib.hid (BL1.out.trans (b_.mono BL1.out.size)); clear b_ HM l0 l1 l2 l3 l4 l5 BL1)
 obtain ⟨k0, k1, k2, k3, k4, k5⟩ := cell6_of ((BL.out.block _ (heap_lt X0.out)).trans X0.out)
 obtain ⟨l0, l1, l2, l3, l4, l5⟩ := cell6_of ((BL.out.block _ (heap_lt X1.out)).trans X1.out)
 have HO := rof14_any (.agg #[.int .i64 a.ver, .int .i64 a.par, u2, u3, u4, u5]) (.agg #[.int .i64 b.ver, .int .i64 b.par, z2, z3, z4, z5]) a b v2 ((VA.out.below BL.out).more BL.out.size) ((VB.out.below BL.out).more BL.out.size) HA.out HB.out
 go_wp2_with (first | (go_at_call 41; refine HO.mono ?_; rintro e v3 ⟨g0, g1, g2, g3, rfl, ho, b_⟩; have OW := Lib.hid ho; have BL3 := Lib.hid (BL.out.trans (b_.mono BL.out.size)); have X43 := Lib.hid ((BL3.out.block _ (heap_lt X4.out)).trans X4.out); clear HO ho b_ k0 k1 k2 k3 k4 k5 l0 l1 l2 l3 l4 l5; obtain ⟨G0, n0, d0, rfl⟩ := own_sl OW.out.secs; obtain ⟨G1, n1, d1, rfl⟩ := own_sl OW.out.pts; obtain ⟨G2, n2, d2, rfl⟩ := own_sl OW.out.sigs; obtain ⟨G3, n3, d3, rfl⟩ := own_sl OW.out.routes) | ((with_reducible show wpList _ _ _ (⟨none, _, _, _, _, _⟩ :: _) _ _); refine wpList_store_rowS rfl _ (.tmp 4) (.tmp 17) rfl (w.heap.size + 1 + 1) rfl (c' := #[.slice G0 n0 d0, .slice G1 n1 d1, .slice G2 n2 d2, .slice G3 n3 d3]) rfl X43.out infoArea4 rfl (by simp [Value.oneCell']) ?_))
 have hg := grownBy_setRow v3 (w.heap.size + 1 + 1) #[.slice G0 n0 d0, .slice G1 n1 d1, .slice G2 n2 d2, .slice G3 n3 d3]
 refine bodyPost_ret (results_rowS_tmp (c := #[.slice G0 n0 d0, .slice G1 n1 d1, .slice G2 n2 d2, .slice G3 n3 d3]) rfl _ _ (w.heap.size + 1 + 1) rfl (setRow_heap v3 _ _ #[.slice G0 n0 d0, .slice G1 n1 d1, .slice G2 n2 d2, .slice G3 n3 d3] _ _ X43.out) Tryz.underlying24 infoArea4 (.int .i64 0) rfl) rfl ⟨_, _, _, _, by rw [HV.out.1], ?_, (BQ.out.trans (BL3.out.mono BQ.out.size)).trans (gb_low14 hg (by omega) (Nat.le_trans BQ.out.size BL3.out.size))⟩
 rw [HV.out.2]
 exact (OW.out.off hg ⟨_, X43.out⟩).in_
def greatA (x : Ar) : Bool := decide (200 < x.secs.length) || (decide (200 < x.pts.length) || (decide (200 < x.sigs.length) || decide (200 < x.routes.length)))
end Go.Proofs.YtneeocnjfnneoaaGreat
