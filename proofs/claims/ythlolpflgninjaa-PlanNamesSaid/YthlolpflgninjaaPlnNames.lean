/-
  PlanNames: the walk, given the program's contracts.
  Conditions: none.
-/
import Derived.Test.YthlolpflgninjaaPlnAlive8
import Derived.Test.YthlolpflgninjaaPlnBad
set_option linter.unusedVariables false
set_option linter.unusedSimpArgs false
set_option maxRecDepth 100000
namespace Go.Proofs.Ythlolpflgninjaa
open Go.RowKit

theorem OneAt.below {W W' : World} {s : Nat} {A : Option Addr} {t : Int} (h : OneAt W s A t) (b : Below W.heap.size W W') : OneAt W' s A t :=
  ⟨(b.block _ (heap_lt h.r1)).trans h.r1, (b.block _ (heap_lt h.r2)).trans h.r2, (b.block _ (heap_lt h.r3)).trans h.r3, (b.block _ (heap_lt h.r4)).trans h.r4, (b.block _ (heap_lt h.r5)).trans h.r5, (b.block _ (heap_lt h.r6)).trans h.r6, (b.block _ (heap_lt h.r8)).trans h.r8⟩
theorem OneAt.path {W : World} {s : Nat} {A : Option Addr} {t : Int} (h : OneAt W s A t) (B : Option Addr) : OneAt (W.setCell ⟨s + 7, 3, none⟩ (.slice B 2 2)) s B t :=
  ⟨(heap_setFar W _ _ _ _ (by omega)).trans h.r1, (heap_setFar W _ _ _ _ (by omega)).trans h.r2, (heap_setFar W _ _ _ _ (by omega)).trans h.r3, (heap_setFar W _ _ _ _ (by omega)).trans h.r4, (heap_setFar W _ _ _ _ (by omega)).trans h.r5, (heap_setFar W _ _ _ _ (by omega)).trans h.r6, heap_setK h.r8 _⟩
theorem OneAt.timer {W : World} {s : Nat} {A : Option Addr} {t : Int} (h : OneAt W s A t) (u : Int) : OneAt (W.setCell ⟨s + 7, 6, none⟩ (.int .i64 u)) s A u :=
  ⟨(heap_setFar W _ _ _ _ (by omega)).trans h.r1, (heap_setFar W _ _ _ _ (by omega)).trans h.r2, (heap_setFar W _ _ _ _ (by omega)).trans h.r3, (heap_setFar W _ _ _ _ (by omega)).trans h.r4, (heap_setFar W _ _ _ _ (by omega)).trans h.r5, (heap_setFar W _ _ _ _ (by omega)).trans h.r6, heap_setK h.r8 _⟩
set_option maxHeartbeats 16000000 in
theorem walk_plan_names (hp : PlanSaid) (w : World) :
    Calls Try.prog 3 #[] w fun e w' => e = .returned (.bool true) ∧ Below w.heap.size w w' := by
  go_enter Try.func3, Try.ntmps3
  go_wp2_with fail
  refine (one_any _).mono ?_
  rintro e w1 ⟨v1, rfl, hv1, b1⟩
  go_wp2_with fail
  refine (hp.stands v1 planOne 2 0 w1 hv1).mono ?_
  rintro e w2 ⟨rfl, b2⟩
  rw [stands_two.1, stands_two.2]
  have c1 := b1.trans (b2.mono b1.size)
  have B2 : Hid (Below w.heap.size w w2) := Lib.hid (c1)
  clear c1 b1 b2 hv1
  go_wp2_with fail
  refine (one_any _).mono ?_
  rintro e w3 ⟨v3, rfl, hv3, b3⟩
  go_wp2_with fail
  refine (hp.route v3 planOne 9 w3 hv3).mono ?_
  rintro e w4 ⟨u3, u4, u5, rfl, hro, b4⟩
  obtain ⟨R, hR⟩ : ∃ R, R = elV planOne kRt planOne.routes 9 zRt := ⟨_, rfl⟩
  rw [← hR] at hro
  rw [← hR, route_nine.1]
  obtain ⟨D3, dg3, rfl⟩ := hro.path.slice
  obtain ⟨D4, dg4, rfl⟩ := hro.over.slice
  obtain ⟨D5, dg5, rfl⟩ := hro.flanks.slice
  have c3 := b3.trans (b4.mono b3.size)
  have B4 : Hid (Below w.heap.size w w4) := Lib.hid (B2.out.trans (c3.mono B2.out.size))
  clear c3 b3 b4 hv3 B2 hro hR
  have hb := below_new w4 (.cells #[.int .i64 R.id, .int .i64 R.entry, .int .i64 R.exit, .slice D3 R.path.length dg3, .slice D4 R.over.length dg4, .slice D5 R.flanks.length dg5, .int .i64 R.timer] 35)
  obtain ⟨q1, hq⟩ : ∃ q, q = w4.alloc (.cells #[.int .i64 R.id, .int .i64 R.entry, .int .i64 R.exit, .slice D3 R.path.length dg3, .slice D4 R.over.length dg4, .slice D5 R.flanks.length dg5, .int .i64 R.timer] 35) := ⟨_, rfl⟩
  rw [← hq] at hb
  go_upto_region 3 with fail
  rw [← hq]
  have BQ : Hid (Below w.heap.size w q1) := Lib.hid (B4.out.trans (hb.mono B4.out.size))
  generalize w4.heap.size = p3
  clear hb hq B4
  go_wp2_with fail
  refine (one_any _).mono ?_
  rintro e w5 ⟨v5, rfl, hv5, b5⟩
  go_wp2_with fail
  refine (hp.stands v5 planOne 9 0 w5 hv5).mono ?_
  rintro e w6 ⟨rfl, b6⟩
  rw [stands_nine]
  have c5 := b5.trans (b6.mono b5.size)
  have B6 : Hid (Below w.heap.size w w6) := Lib.hid (BQ.out.trans (c5.mono BQ.out.size))
  clear c5 b5 b6 hv5 BQ
  generalize stN planOne 9 0 = N9
  go_wp2_with fail
  refine (one_any _).mono ?_
  rintro e w7 ⟨v7, rfl, hv7, b7⟩
  go_wp2_with fail
  refine (hp.stands v7 planOne 1 2 w7 hv7).mono ?_
  rintro e w8 ⟨rfl, b8⟩
  rw [stands_arg]
  have c7 := b7.trans (b8.mono b7.size)
  have B8 : Hid (Below w.heap.size w w8) := Lib.hid (B6.out.trans (c7.mono B6.out.size))
  clear c7 b7 b8 hv7 B6
  generalize stN planOne 1 2 = N12
  go_wp2_with fail
  refine (one_at _).mono ?_
  rintro e w9 ⟨s5, rfl, hs, hi, hlt, b9⟩
  have HS := Lib.hid hs
  have HI := Lib.hid hi
  have LT := Lib.hid hlt
  have BN := Lib.hid b9
  clear hs hi hlt b9
  have hx := heap_alloc_self w9 (.cells #[.int .i64 2, .int .i64 1, .slice (some ⟨s5 + 3, 0, none⟩) 3 3, .slice (some ⟨s5 + 4, 0, none⟩) 1 1, .slice (some ⟨s5 + 5, 0, none⟩) 1 1, .slice (some ⟨s5 + 7, 0, none⟩) 1 1] 30)
  have hb := below_new w9 (.cells #[.int .i64 2, .int .i64 1, .slice (some ⟨s5 + 3, 0, none⟩) 3 3, .slice (some ⟨s5 + 4, 0, none⟩) 1 1, .slice (some ⟨s5 + 5, 0, none⟩) 1 1, .slice (some ⟨s5 + 7, 0, none⟩) 1 1] 30)
  obtain ⟨q2, hq⟩ : ∃ q, q = w9.alloc (.cells #[.int .i64 2, .int .i64 1, .slice (some ⟨s5 + 3, 0, none⟩) 3 3, .slice (some ⟨s5 + 4, 0, none⟩) 1 1, .slice (some ⟨s5 + 5, 0, none⟩) 1 1, .slice (some ⟨s5 + 7, 0, none⟩) 1 1] 30) := ⟨_, rfl⟩
  rw [← hq] at hx hb
  go_upto_region 6 with fail
  rw [← hq]
  have XA := Lib.hid hx
  have HB := Lib.hid hb
  have GE : Hid (w9.heap.size ≤ w9.heap.size) := Lib.hid (Nat.le_refl _)
  clear hx hb hq
  have HA : Hid (PlanV q2 w9.heap.size (oneV 2 s5) planA) := Lib.hid (((HS.out.plan (ints2_of HI.out) 2)).below HB.out)
  have BA : Hid (Below w.heap.size w q2) := Lib.hid ((B8.out.trans (BN.out.mono B8.out.size)).trans (HB.out.mono (by have := B8.out.size; have := BN.out.size; omega)))
  have LA : Hid (w.heap.size ≤ w9.heap.size) := Lib.hid (by have := B8.out.size; have := BN.out.size; omega)
  obtain ⟨p9, hp9⟩ : ∃ x, x = w9.heap.size := ⟨_, rfl⟩
  rw [← hp9] at XA HA LA ⊢
  clear HS HI LT BN HB GE hp9 B8
  obtain ⟨k0, k1, k2, k3, k4, k5⟩ := cell6_of XA.out
  have hf := frozen2_of XA.out 1
  go_upto_region 7 with fail
  have tXA : (q2.setCell ⟨p9, 1, none⟩ (.int .i64 2)).heap[p9]? = some (.cells #[.int .i64 2, .int .i64 2, .slice (some ⟨s5 + 3, 0, none⟩) 3 3, .slice (some ⟨s5 + 4, 0, none⟩) 1 1, .slice (some ⟨s5 + 5, 0, none⟩) 1 1, .slice (some ⟨s5 + 7, 0, none⟩) 1 1] 30 (0, 0)) := heap_setK XA.out _
  have tHA : PlanV (q2.setCell ⟨p9, 1, none⟩ (.int .i64 2)) p9 (oneV 2 s5) planA := HA.out.below (below_set (Below.refl _ _) (Nat.le_refl _) 1 _)
  have tBA : Below w.heap.size w (q2.setCell ⟨p9, 1, none⟩ (.int .i64 2)) := below_set BA.out LA.out 1 _
  have SZ : Hid (p9 < q2.heap.size) := Lib.hid (heap_lt XA.out)
  have SZ2 : Hid ((q2.setCell ⟨p9, 1, none⟩ (.int .i64 2)).heap.size = q2.heap.size) := Lib.hid (by simp [World.setCell])
  clear k0 k1 k2 k3 k4 k5 hf XA HA BA
  generalize q2.setCell ⟨p9, 1, none⟩ (.int .i64 2) = q3 at tXA tHA tBA SZ2 ⊢
  have XA := Lib.hid tXA
  have HA := Lib.hid (tHA.more (show p9 ≤ q3.heap.size by have := SZ.out; have := SZ2.out; omega))
  have BA := Lib.hid tBA
  clear tXA tHA tBA SZ SZ2 LA
  go_wp2_with fail
  refine (one_at _).mono ?_
  rintro e w10 ⟨s7, rfl, hs, hi, hlt, b10⟩
  have HS := Lib.hid hs
  have HI := Lib.hid hi
  have LT := Lib.hid hlt
  have BN := Lib.hid b10
  clear hs hi hlt b10
  have hx := heap_alloc_self w10 (.cells #[.int .i64 2, .int .i64 1, .slice (some ⟨s7 + 3, 0, none⟩) 3 3, .slice (some ⟨s7 + 4, 0, none⟩) 1 1, .slice (some ⟨s7 + 5, 0, none⟩) 1 1, .slice (some ⟨s7 + 7, 0, none⟩) 1 1] 30)
  have hb := below_new w10 (.cells #[.int .i64 2, .int .i64 1, .slice (some ⟨s7 + 3, 0, none⟩) 3 3, .slice (some ⟨s7 + 4, 0, none⟩) 1 1, .slice (some ⟨s7 + 5, 0, none⟩) 1 1, .slice (some ⟨s7 + 7, 0, none⟩) 1 1] 30)
  obtain ⟨q4, hq⟩ : ∃ q, q = w10.alloc (.cells #[.int .i64 2, .int .i64 1, .slice (some ⟨s7 + 3, 0, none⟩) 3 3, .slice (some ⟨s7 + 4, 0, none⟩) 1 1, .slice (some ⟨s7 + 5, 0, none⟩) 1 1, .slice (some ⟨s7 + 7, 0, none⟩) 1 1] 30) := ⟨_, rfl⟩
  rw [← hq] at hx hb
  go_upto_region 8 with fail
  rw [← hq]
  have XB := Lib.hid hx
  have HB := Lib.hid hb
  have GE : Hid (w10.heap.size ≤ w10.heap.size) := Lib.hid (Nat.le_refl _)
  clear hx hb hq
  obtain ⟨p10, hp10⟩ : ∃ x, x = w10.heap.size := ⟨_, rfl⟩
  have GL : Hid (s7 + 7 < p10) := Lib.hid (by rw [hp10]; exact heap_lt HS.out.r8)
  have HS4 : Hid (OneAt q4 s7 (some ⟨s7 + 6, 0, none⟩) 3) := Lib.hid (HS.out.below HB.out)
  have B34 : Hid (Below q3.heap.size q3 q4) := Lib.hid (BN.out.trans (HB.out.mono BN.out.size))
  rw [← hp10] at XB ⊢
  clear HS HI BN HB GE hp10
  obtain ⟨k0, k1, k2, k3, k4, k5⟩ := cell6_of XB.out
  obtain ⟨q5, hq5⟩ : ∃ x, x = q4.alloc (.cells #[.int .i64 1, .int .i64 2] 3) := ⟨_, rfl⟩
  have tI : q5.heap[q4.heap.size]? = some (.cells #[.int .i64 1, .int .i64 2] 3 (0, 0)) := by rw [hq5]; exact heap_alloc_self q4 _
  have tB : Below q4.heap.size q4 q5 := by rw [hq5]; exact below_new q4 _
  have HS5 : Hid (OneAt q5 s7 (some ⟨s7 + 6, 0, none⟩) 3) := Lib.hid (HS4.out.below tB)
  have XB5 := Lib.hid ((tB.block _ (heap_lt XB.out)).trans XB.out)
  obtain ⟨g0, g1, g2, g3, g4, g5⟩ := cell6_of XB5.out
  obtain ⟨r0, r1, r2, r3, r4, r5, r6⟩ := cell7_of HS5.out.r8
  have hf := frozen2_of HS5.out.r8 3
  have HI5 := Lib.hid tI
  have B35 : Hid (Below q3.heap.size q3 q5) := Lib.hid (B34.out.trans (tB.mono B34.out.size))
  clear tI tB
  rw [hq5] at g0 g1 g2 g3 g4 g5 r0 r1 r2 r3 r4 r5 r6 hf
  go_upto_region 9 with fail
  rw [← hq5]
  have tOA : OneAt (q5.setCell ⟨s7 + 7, 3, none⟩ (.slice (some ⟨q4.heap.size, 0, none⟩) 2 2)) s7 (some ⟨q4.heap.size, 0, none⟩) 3 := HS5.out.path _
  have NE1 : q4.heap.size ≠ s7 + 7 := by have := heap_lt HS4.out.r8; omega
  have tI : (q5.setCell ⟨s7 + 7, 3, none⟩ (.slice (some ⟨q4.heap.size, 0, none⟩) 2 2)).heap[q4.heap.size]? = some (.cells #[.int .i64 1, .int .i64 2] 3 (0, 0)) := (heap_setFar q5 _ _ _ _ NE1).trans HI5.out
  have tXB : (q5.setCell ⟨s7 + 7, 3, none⟩ (.slice (some ⟨q4.heap.size, 0, none⟩) 2 2)).heap[p10]? = some (.cells #[.int .i64 2, .int .i64 1, .slice (some ⟨s7 + 3, 0, none⟩) 3 3, .slice (some ⟨s7 + 4, 0, none⟩) 1 1, .slice (some ⟨s7 + 5, 0, none⟩) 1 1, .slice (some ⟨s7 + 7, 0, none⟩) 1 1] 30 (0, 0)) := (heap_setFar q5 _ _ _ _ (by have := GL.out; omega)).trans XB5.out
  have b3 : Below q3.heap.size q3 (q5.setCell ⟨s7 + 7, 3, none⟩ (.slice (some ⟨q4.heap.size, 0, none⟩) 2 2)) := below_set B35.out (by have := LT.out; omega) 3 _
  clear k0 k1 k2 k3 k4 k5 g0 g1 g2 g3 g4 g5 r0 r1 r2 r3 r4 r5 r6 hf HS5 HS4 XB5 HI5 B35 B34 LT GL NE1 XB hq5
  generalize q5.setCell ⟨s7 + 7, 3, none⟩ (.slice (some ⟨q4.heap.size, 0, none⟩) 2 2) = q6 at tOA tI tXB b3 ⊢
  generalize q4.heap.size = g4 at tOA tI ⊢
  have HB : Hid (PlanV q6 q6.heap.size (oneV 1 s7) planB) := Lib.hid (tOA.plan (ints2_of tI) 1)
  have XB := Lib.hid tXB
  have tXA := (b3.block _ (heap_lt XA.out)).trans XA.out
  have tHA := (HA.out.below b3).more b3.size
  have tBA := BA.out.trans (b3.mono BA.out.size)
  clear XA HA BA tOA tI tXB b3
  have XA := Lib.hid tXA
  have HA := Lib.hid tHA
  have BA := Lib.hid tBA
  clear tXA tHA tBA
  go_wp2_with fail
  refine (one_at _).mono ?_
  rintro e w11 ⟨s9, rfl, hs, hi, hlt, b11⟩
  have HS := Lib.hid hs
  have HI := Lib.hid hi
  have LT := Lib.hid hlt
  have BN := Lib.hid b11
  clear hs hi hlt b11
  have hx := heap_alloc_self w11 (.cells #[.int .i64 2, .int .i64 1, .slice (some ⟨s9 + 3, 0, none⟩) 3 3, .slice (some ⟨s9 + 4, 0, none⟩) 1 1, .slice (some ⟨s9 + 5, 0, none⟩) 1 1, .slice (some ⟨s9 + 7, 0, none⟩) 1 1] 30)
  have hb := below_new w11 (.cells #[.int .i64 2, .int .i64 1, .slice (some ⟨s9 + 3, 0, none⟩) 3 3, .slice (some ⟨s9 + 4, 0, none⟩) 1 1, .slice (some ⟨s9 + 5, 0, none⟩) 1 1, .slice (some ⟨s9 + 7, 0, none⟩) 1 1] 30)
  obtain ⟨q7, hq⟩ : ∃ q, q = w11.alloc (.cells #[.int .i64 2, .int .i64 1, .slice (some ⟨s9 + 3, 0, none⟩) 3 3, .slice (some ⟨s9 + 4, 0, none⟩) 1 1, .slice (some ⟨s9 + 5, 0, none⟩) 1 1, .slice (some ⟨s9 + 7, 0, none⟩) 1 1] 30) := ⟨_, rfl⟩
  rw [← hq] at hx hb
  go_upto_region 10 with fail
  rw [← hq]
  have XC := Lib.hid hx
  have HBC := Lib.hid hb
  have GE : Hid (w11.heap.size ≤ w11.heap.size) := Lib.hid (Nat.le_refl _)
  clear hx hb hq
  obtain ⟨p11, hp11⟩ : ∃ x, x = w11.heap.size := ⟨_, rfl⟩
  have GL : Hid (s9 + 7 < p11) := Lib.hid (by rw [hp11]; exact heap_lt HS.out.r8)
  have HS7 : Hid (OneAt q7 s9 (some ⟨s9 + 6, 0, none⟩) 3) := Lib.hid (HS.out.below HBC.out)
  have HI7 := Lib.hid ((HBC.out.block _ (heap_lt HI.out)).trans HI.out)
  have B67 : Hid (Below q6.heap.size q6 q7) := Lib.hid (BN.out.trans (HBC.out.mono BN.out.size))
  rw [← hp11] at XC ⊢
  clear HS HI BN HBC GE hp11
  obtain ⟨k0, k1, k2, k3, k4, k5⟩ := cell6_of XC.out
  obtain ⟨r0, r1, r2, r3, r4, r5, r6⟩ := cell7_of HS7.out.r8
  have hf := frozen2_of HS7.out.r8 6
  go_upto_region 11 with fail
  have tOA : OneAt (q7.setCell ⟨s9 + 7, 6, none⟩ (.int .i64 10)) s9 (some ⟨s9 + 6, 0, none⟩) 10 := HS7.out.timer _
  have tI : (q7.setCell ⟨s9 + 7, 6, none⟩ (.int .i64 10)).heap[s9 + 6]? = some (.cells #[.int .i64 2, .int .i64 3] 3 (0, 0)) := (heap_setFar q7 _ _ _ _ (by omega)).trans HI7.out
  have tXC : (q7.setCell ⟨s9 + 7, 6, none⟩ (.int .i64 10)).heap[p11]? = some (.cells #[.int .i64 2, .int .i64 1, .slice (some ⟨s9 + 3, 0, none⟩) 3 3, .slice (some ⟨s9 + 4, 0, none⟩) 1 1, .slice (some ⟨s9 + 5, 0, none⟩) 1 1, .slice (some ⟨s9 + 7, 0, none⟩) 1 1] 30 (0, 0)) := (heap_setFar q7 _ _ _ _ (by have := GL.out; omega)).trans XC.out
  have b6 : Below q6.heap.size q6 (q7.setCell ⟨s9 + 7, 6, none⟩ (.int .i64 10)) := below_set B67.out (by have := LT.out; omega) 6 _
  clear k0 k1 k2 k3 k4 k5 r0 r1 r2 r3 r4 r5 r6 hf HS7 HI7 B67 LT GL XC
  generalize q7.setCell ⟨s9 + 7, 6, none⟩ (.int .i64 10) = q8 at tOA tI tXC b6 ⊢
  have HC : Hid (PlanV q8 q8.heap.size (oneV 1 s9) planC) := Lib.hid (tOA.plan (ints2_of tI) 1)
  have XC := Lib.hid tXC
  have tXA := (b6.block _ (heap_lt XA.out)).trans XA.out
  have tXB := (b6.block _ (heap_lt XB.out)).trans XB.out
  have tHA := (HA.out.below b6).more b6.size
  have tHB := (HB.out.below b6).more b6.size
  have tBA := BA.out.trans (b6.mono BA.out.size)
  clear XA XB HA HB BA tOA tI tXC b6
  have XA := Lib.hid tXA
  have XB := Lib.hid tXB
  have HA := Lib.hid tHA
  have HB := Lib.hid tHB
  have BA := Lib.hid tBA
  clear tXA tXB tHA tHB tBA
  go_wp2_with fail
  refine (alive8 hp _).mono ?_
  rintro e wA ⟨rfl, bA⟩
  have SA : Hid (Below q8.heap.size q8 wA) := Lib.hid bA
  clear bA
  obtain ⟨k0, k1, k2, k3, k4, k5⟩ := cell6_of ((SA.out.block _ (heap_lt XA.out)).trans XA.out)
  go_wp2_with fail
  refine (hp.check _ planA _ ((HA.out.below SA.out).more SA.out.size)).mono ?_
  rintro e wSB ⟨rfl, bSB⟩
  rw [chk_A]
  have SB : Hid (Below q8.heap.size q8 wSB) := Lib.hid (SA.out.trans (bSB.mono SA.out.size))
  clear bSB k0 k1 k2 k3 k4 k5
  obtain ⟨k0, k1, k2, k3, k4, k5⟩ := cell6_of ((SB.out.block _ (heap_lt XB.out)).trans XB.out)
  go_wp2_with fail
  refine (hp.check _ planB _ ((HB.out.below SB.out).more SB.out.size)).mono ?_
  rintro e wSC ⟨rfl, bSC⟩
  rw [chk_B]
  have SC : Hid (Below q8.heap.size q8 wSC) := Lib.hid (SB.out.trans (bSC.mono SB.out.size))
  clear bSC k0 k1 k2 k3 k4 k5
  obtain ⟨k0, k1, k2, k3, k4, k5⟩ := cell6_of ((SC.out.block _ (heap_lt XC.out)).trans XC.out)
  go_wp2_with fail
  refine (hp.check _ planC _ ((HC.out.below SC.out).more SC.out.size)).mono ?_
  rintro e wSE ⟨rfl, bSE⟩
  rw [chk_C]
  have SE : Hid (Below q8.heap.size q8 wSE) := Lib.hid (SC.out.trans (bSE.mono SC.out.size))
  clear bSE k0 k1 k2 k3 k4 k5
  have BL : Hid (Below w.heap.size w wSE) := Lib.hid (BA.out.trans (SE.out.mono BA.out.size))
  go_wp2_with fail
  go_ret
  exact ⟨rfl, BL.out⟩
end Go.Proofs.Ythlolpflgninjaa
