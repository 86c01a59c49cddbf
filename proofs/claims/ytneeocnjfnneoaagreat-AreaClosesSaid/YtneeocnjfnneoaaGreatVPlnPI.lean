/-
 The program's package plan: Twin, found, Point, Signal.
 Conditions: none.
-/
import Derived.Test.YtneeocnjfnneoaaGreatVPlnPH
import Derived.Test.YtneeocnjfnneoaaGreatVPlnPG
set_option linter.unusedVariables false
set_option linter.unusedSimpArgs false
set_option maxRecDepth 100000
namespace Go.Proofs.YtneeocnjfnneoaaGreat
open Go.RowKit

set_option maxHeartbeats 8000000 in
theorem found_pt (v y : Value) (p : Pl) (l : List Jn) (id : Int) (w : World) (h : PlanV w w.heap.size v p) (h' : JoinsIn w w.heap.size y l) :
  Calls Tryz.prog 59 #[v, y, .int .i64 id] w fun e w' => e = .returned (.tuple #[.agg #[.int .i64 (elV p kPt l id (0, 0)).1, .int .i64 (elV p kPt l id (0, 0)).2], .int .i64 (elE p kPt l id)]) ∧ Below w.heap.size w w' := by
 obtain ⟨A2, c2, A3, c3, A4, c4, A5, c5, n2, n3, n4, n5, rfl, hm2, hm3, hm4, hm5, HCP, HIN, HN⟩ := open_plan h
 have H := Lib.hid h'
 obtain ⟨A, c, rfl, -, -⟩ := h'.slice
 obtain ⟨n, hn⟩ : ∃ n, n = l.length := ⟨_, rfl⟩
 have HL := Lib.hid (show JoinsIn w w.heap.size (.slice A n c) l by rw [hn]; exact H.out)
 rw [← hn]
 clear hn H h'
 have hq := boxes3 w (.cells #[.int .i64 p.ver, .int .i64 p.par, .slice A2 n2 c2, .slice A3 n3 c3, .slice A4 n4 c4, .slice A5 n5 c5] 33) (.cells #[.int .i64 0, .int .i64 0] 60) (.cells #[.int .i64 0, .int .i64 0] 60)
 have hk1 := cell6_of (heap_alloc_self w (.cells #[.int .i64 p.ver, .int .i64 p.par, .slice A2 n2 c2, .slice A3 n3 c3, .slice A4 n4 c4, .slice A5 n5 c5] 33))
 obtain ⟨q, hq', q0, q1, q2, qs, qb⟩ := hq
 go_enter Tryz.func59, Tryz.ntmps59
 go_upto_region 2 with fail
 rw [← hq']
 have XP := Lib.hid q0
 have X6 := Lib.hid q1
 have X8 := Lib.hid q2
 have BQ := Lib.hid qb
 clear hk1 hq' q0 q1 q2 qs qb
 have HI := Lib.hid ((HIN.out.below BQ.out).more BQ.out.size)
 obtain ⟨k0, k1, k2, k3, k4, k5⟩ := cell6_of XP.out
 go_wp2_with fail
 refine (check_prog _ p q ⟨_, _, _, _, rfl, HI.out⟩).mono ?_
 rintro e w1 ⟨rfl, b1⟩
 clear k0 k1 k2 k3 k4 k5 HI
 replace BQ := Lib.hid (BQ.out.trans (b1.mono BQ.out.size))
 replace X6 := Lib.hid ((b1.block _ (heap_lt X6.out)).trans X6.out)
 replace X8 := Lib.hid ((b1.block _ (heap_lt X8.out)).trans X8.out)
 clear b1
 have CB : Hid (planMay p = false → chk8 p = 8) := Lib.hid (fun h => by rw [chk8, h]; rfl)
 have CG : Hid (planMay p = true → chk8 p = 0) := Lib.hid (fun h => by rw [chk8, h]; rfl)
 generalize chk8 p = ck at CB CG ⊢
 cases hm : planMay p with
 | false =>
  obtain rfl := CB.out hm
  have HE := Lib.hid (elE_bad (k := kPt) (l := l) (id := id) (z := (0, 0)) hm)
  clear hm
  obtain ⟨j0, j1⟩ := cell2_of X8.out
  go_wp2_with ((with_reducible show wpList _ _ _ (⟨none, _, _, _, _, _⟩ :: _) _ _); refine wpList_store_rowS rfl _ (.tmp 6) (.tmp 16) rfl (w.heap.size + 1) rfl (c' := #[.int .i64 0, .int .i64 0]) rfl X6.out infoPoint2 rfl (by simp [Value.oneCell']) ?_)
  exact bodyPost_ret (results_rowS_tmp (c := #[.int .i64 0, .int .i64 0]) rfl _ _ (w.heap.size + 1) rfl (setRow_heap _ _ _ _ _ _ X6.out) Tryz.underlying60 infoPoint2 (.int .i64 8) rfl) rfl ⟨by rw [HE.out.1, HE.out.2], below_setRow BQ.out (Nat.le_succ _) _⟩
 | true =>
  obtain rfl := CG.out hm
  have HM := Lib.hid hm
  have FA := Lib.hid (find_at1 kPt l id (0, 0))
  clear hm
  go_wp2_with fail
  refine (find_pt _ l id _ ((HL.out.below joinR BQ.out).more joinR BQ.out.size)).mono ?_
  rintro e w2 ⟨rfl, b1⟩
  generalize findV kPt l id (0, 0) = fv at FA ⊢
  generalize findB kPt l id = fb at FA ⊢
  obtain ⟨f0, f1⟩ := fv
  dsimp only
  replace BQ := Lib.hid (BQ.out.trans (b1.mono BQ.out.size))
  replace X6 := Lib.hid ((b1.block _ (heap_lt X6.out)).trans X6.out)
  replace X8 := Lib.hid ((b1.block _ (heap_lt X8.out)).trans X8.out)
  clear b1
  obtain ⟨q3, hq⟩ : ∃ x, x = w2.alloc (.cells #[.int .i64 f0, .int .i64 f1] 60) := ⟨_, rfl⟩
  have x1 := heap_alloc_self w2 (.cells #[.int .i64 f0, .int .i64 f1] 60)
  have b1 := below_new w2 (.cells #[.int .i64 f0, .int .i64 f1] 60)
  rw [← hq] at x1 b1
  go_upto_region 6 with fail
  rw [← hq]
  have X10 := Lib.hid x1
  generalize w2.heap.size = p10 at X10 ⊢
  clear x1 hq
  replace BQ := Lib.hid (BQ.out.trans (b1.mono BQ.out.size))
  replace X6 := Lib.hid ((b1.block _ (heap_lt X6.out)).trans X6.out)
  replace X8 := Lib.hid ((b1.block _ (heap_lt X8.out)).trans X8.out)
  clear b1
  rcases FA.out with ⟨rfl, -, ha⟩ | ⟨i, hi, rfl, hv, ha, -⟩
  ·have HE := Lib.hid (elE_none (k := kPt) (l := l) (id := id) (z := (0, 0)) HM.out ha)
   obtain ⟨j0, j1⟩ := cell2_of X8.out
   go_wp2_with ((with_reducible show wpList _ _ _ (⟨none, _, _, _, _, _⟩ :: _) _ _); refine wpList_store_rowS rfl _ (.tmp 6) (.tmp 26) rfl (w.heap.size + 1) rfl (c' := #[.int .i64 0, .int .i64 0]) rfl X6.out infoPoint2 rfl (by simp [Value.oneCell']) ?_)
   exact bodyPost_ret (results_rowS_tmp (c := #[.int .i64 0, .int .i64 0]) rfl _ _ (w.heap.size + 1) rfl (setRow_heap _ _ _ _ _ _ X6.out) Tryz.underlying60 infoPoint2 (.int .i64 6) rfl) rfl ⟨by rw [HE.out.1, HE.out.2], below_setRow BQ.out (Nat.le_succ _) _⟩
  ·have HE0 := Lib.hid (elE_some (k := kPt) (z := (0, 0)) HM.out hi ha)
   have HE : Hid ((elE p kPt l id) = 0 ∧ (elV p kPt l id (0, 0)) = (f0, f1)) := Lib.hid ⟨HE0.out.1, HE0.out.2.trans hv.symm⟩
   clear hv ha
   obtain ⟨j0, j1⟩ := cell2_of X10.out
   go_wp2_with ((with_reducible show wpList _ _ _ (⟨none, _, _, _, _, _⟩ :: _) _ _); refine wpList_store_rowS rfl _ (.tmp 6) (.tmp 27) rfl (w.heap.size + 1) rfl (c' := #[.int .i64 f0, .int .i64 f1]) rfl X6.out infoPoint2 rfl (by simp [Value.oneCell']) ?_)
   exact bodyPost_ret (results_rowS_tmp (c := #[.int .i64 f0, .int .i64 f1]) rfl _ _ (w.heap.size + 1) rfl (setRow_heap _ _ _ _ _ _ X6.out) Tryz.underlying60 infoPoint2 (.int .i64 0) rfl) rfl ⟨by rw [HE.out.1, HE.out.2], below_setRow BQ.out (Nat.le_succ _) _⟩
set_option maxHeartbeats 4000000 in
theorem point_prog (v : Value) (p : Pl) (id : Int) (w : World) (h : PlanV w w.heap.size v p) :
  Calls Tryz.prog 27 #[v, .int .i64 id] w fun e w' => e = .returned (.tuple #[.agg #[.int .i64 (elV p kPt p.pts id (0, 0)).1, .int .i64 (elV p kPt p.pts id (0, 0)).2], .int .i64 (elE p kPt p.pts id)]) ∧ Below w.heap.size w w' := by
 obtain ⟨A2, c2, A3, c3, A4, c4, A5, c5, n2, n3, n4, n5, rfl, hm2, hm3, hm4, hm5, HCP, HIN, HN⟩ := open_plan h
 have hq := two_boxes w (.cells #[.int .i64 p.ver, .int .i64 p.par, .slice A2 n2 c2, .slice A3 n3 c3, .slice A4 n4 c4, .slice A5 n5 c5] 33) (.cells #[.int .i64 0, .int .i64 0] 60)
 go_enter Tryz.func27, Tryz.ntmps27
 go_upto_region 1 with fail
 generalize (w.alloc (.cells #[.int .i64 p.ver, .int .i64 p.par, .slice A2 n2 c2, .slice A3 n3 c3, .slice A4 n4 c4, .slice A5 n5 c5] 33)).alloc (.cells #[.int .i64 0, .int .i64 0] 60) = q at hq ⊢
 obtain ⟨q0, q1, qb⟩ := hq
 have XP := Lib.hid q0
 have X4 := Lib.hid q1
 have BQ := Lib.hid qb
 clear q0 q1 qb
 have HI := Lib.hid ((HIN.out.below BQ.out).more BQ.out.size)
 obtain ⟨k0, k1, k2, k3, k4, k5⟩ := cell6_of XP.out
 go_wp2_with fail
 refine (found_pt _ _ p p.pts id q ⟨_, _, _, _, rfl, HI.out⟩ HI.out.pts).mono ?_
 rintro e w1 ⟨rfl, b1⟩
 clear k0 k1 k2 k3 k4 k5 HI XP
 replace BQ := Lib.hid (BQ.out.trans (b1.mono BQ.out.size))
 replace X4 := Lib.hid ((b1.block _ (heap_lt X4.out)).trans X4.out)
 clear b1
 generalize hee : (elE p kPt p.pts id) = ee
 generalize hev : (elV p kPt p.pts id (0, 0)) = ev
 obtain ⟨f0, f1⟩ := ev
 have HV := Lib.hid (And.intro hee hev)
 clear hee hev
 dsimp only
 go_wp2_with ((with_reducible show wpList _ _ _ (⟨none, _, _, _, _, _⟩ :: _) _ _); refine wpList_store_rowS rfl _ (.tmp 4) (.tmp 11) rfl (w.heap.size + 1) rfl (c' := #[.int .i64 f0, .int .i64 f1]) rfl X4.out infoPoint2 rfl (by simp [Value.oneCell']) ?_)
 exact bodyPost_ret (results_rowS_tmp (c := #[.int .i64 f0, .int .i64 f1]) rfl _ _ (w.heap.size + 1) rfl (setRow_heap _ _ _ _ _ _ X4.out) Tryz.underlying60 infoPoint2 (.int .i64 ee) rfl) rfl ⟨by rw [HV.out.1, HV.out.2], below_setRow BQ.out (Nat.le_succ _) _⟩

end Go.Proofs.YtneeocnjfnneoaaGreat
