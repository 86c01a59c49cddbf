/-
 The program's package area: what a route uses.
 Conditions: none.
-/
import Derived.Test.YtneeocnjfnneoaaGreatVGAreG
set_option linter.unusedVariables false
set_option linter.unusedSimpArgs false
set_option maxRecDepth 100000
namespace Go.Proofs.YtneeocnjfnneoaaGreat
open Go.RowKit

set_option maxHeartbeats 16000000 in
theorem used14_any (v y : Value) (p : Pl) (r : Rt) (w : World) (h : PlanV w w.heap.size v p) (h' : RouteV w w.heap.size y r) (hp : PlanMay p) (hr : r ∈ p.routes) :
  Calls Tryz.prog 30 #[v, y] w fun e w' => ∃ m, e = .returned (.map (some m)) ∧ Gath w' m (fun k => useB p r k.1 k.2 = true) ∧ w.heap.size ≤ m ∧ Below w.heap.size w w' := by
 have HP := Lib.hid hp
 have HALL := Lib.hid (ptK_all hp hr)
 have RM : Hid (RouteMay p r) := Lib.hid (by
  obtain ⟨j, hj, e⟩ := List.getElem_of_mem hr
  have hm := (hp.each j hj).2.2
  rwa [e] at hm)
 clear hp hr
 obtain ⟨u2, u3, u4, u5, rfl, hin⟩ := h
 obtain ⟨z3, z4, z5, rfl, hin'⟩ := h'
 obtain ⟨AP, cP, rfl, hP8, hP9⟩ := hin.pts.slice
 obtain ⟨B0, d0, rfl, -, -⟩ := hin'.path.slice
 obtain ⟨B1, d1, rfl, -, -⟩ := hin'.over.slice
 obtain ⟨AF, cF, rfl, -, -⟩ := hin'.flanks.slice
 obtain ⟨nP, hnP⟩ : ∃ n, n = p.pts.length := ⟨_, rfl⟩
 obtain ⟨nF, hnF⟩ : ∃ n, n = r.flanks.length := ⟨_, rfl⟩
 obtain ⟨m0, hm0⟩ : ∃ n, n = r.path.length := ⟨_, rfl⟩
 obtain ⟨m1, hm1⟩ : ∃ n, n = r.over.length := ⟨_, rfl⟩
 have NP : Hid (nP = p.pts.length ∧ nP ≤ 9223372036854775807) := Lib.hid ⟨hnP, by unfold maxLen at hP9; omega⟩
 have NF : Hid (nF = r.flanks.length ∧ nF ≤ 3) := Lib.hid ⟨hnF, by rw [hnF]; exact RM.out.flank⟩
 rw [← hnP] at hin ⊢
 rw [← hnF, ← hm0, ← hm1] at hin' ⊢
 have IP := Lib.hid hin
 have IR := Lib.hid hin'
 clear hnP hnF hm0 hm1 hP8 hP9 hin hin' RM
 obtain ⟨h0, h1, hqb⟩ := two_boxes w (.cells #[.int .i64 p.ver, .int .i64 p.par, u2, .slice AP nP cP, u4, u5] 33) (.cells #[.int .i64 r.id, .int .i64 r.entry, .int .i64 r.exit, .slice B0 m0 d0, .slice B1 m1 d1, .slice AF nF cF, .int .i64 r.timer] 54)
 go_enter Tryz.func30, Tryz.ntmps30
 go_upto_region 1 with fail
 have hsz : ((w.alloc (.cells #[.int .i64 p.ver, .int .i64 p.par, u2, .slice AP nP cP, u4, u5] 33)).alloc (.cells #[.int .i64 r.id, .int .i64 r.entry, .int .i64 r.exit, .slice B0 m0 d0, .slice B1 m1 d1, .slice AF nF cF, .int .i64 r.timer] 54)).heap.size = w.heap.size + 1 + 1 := by unfold World.alloc; simp
 generalize (w.alloc (.cells #[.int .i64 p.ver, .int .i64 p.par, u2, .slice AP nP cP, u4, u5] 33)).alloc (.cells #[.int .i64 r.id, .int .i64 r.entry, .int .i64 r.exit, .slice B0 m0 d0, .slice B1 m1 d1, .slice AF nF cF, .int .i64 r.timer] 54) = q at h0 h1 hqb hsz ⊢
 have HSZ := Lib.hid hsz
 clear hsz
 have hmm := @run_makeMap Tryz.prog
 go_upto_region 2 with fail
 have b0 := below_new q (.map #[] 0)
 have U0 : Hid (UseAt w (q.alloc (.map #[] 0)) q.heap.size (#[.int .i64 p.ver, .int .i64 p.par, u2, .slice AP nP cP, u4, u5]) (#[.int .i64 r.id, .int .i64 r.entry, .int .i64 r.exit, .slice B0 m0 d0, .slice B1 m1 d1, .slice AF nF cF, .int .i64 r.timer]) 33 54 (fun _ => False)) := Lib.hid ⟨Gath.new q, hqb.trans (b0.mono hqb.size), (b0.block _ (heap_lt h0)).trans h0, (b0.block _ (heap_lt h1)).trans h1, by have := HSZ.out; omega⟩
 have LM : Hid (w.heap.size ≤ q.heap.size) := Lib.hid hqb.size
 generalize q.alloc (.map #[] 0) = q0 at U0 ⊢
 generalize q.heap.size = mb at U0 LM ⊢
 clear h0 h1 hqb HSZ b0 hmm q
 obtain ⟨c0, c1, c2, c3, c4, c5, c6⟩ := cell7_of U0.out.x1
 go_upto_region 3 with (go_at_call 60; refine (add14_any mb _ 4 [r.id] _ (q0.alloc (.cells #[.int .i64 r.id] 3)) (U0.out.below (below_new q0 (.cells #[.int .i64 r.id] 3))).g (one_arg14 q0 r.id)).mono ?_; rintro e w1 ⟨rfl, hg_, gr_⟩; have U1 := Lib.hid ((U0.out.below (below_new q0 (.cells #[.int .i64 r.id] 3))).turn hg_ gr_); clear hg_ gr_ U0)
 clear c0 c1 c2 c3 c4 c5 c6
 obtain ⟨c0, c1, c2, c3, c4, c5, c6⟩ := cell7_of U1.out.x1
 go_upto_region 4 with (go_at_call 60; refine (add14_any mb _ 1 r.path _ w1 U1.out.g ((IR.out.path.below intR U1.out.b).more intR U1.out.b.size)).mono ?_; rintro e w2 ⟨rfl, hg_, gr_⟩; have U2 := Lib.hid (U1.out.turn hg_ gr_); clear hg_ gr_ U1)
 clear c0 c1 c2 c3 c4 c5 c6
 obtain ⟨c0, c1, c2, c3, c4, c5, c6⟩ := cell7_of U2.out.x1
 go_upto_region 5 with (go_at_call 60; refine (add14_any mb _ 1 r.over _ w2 U2.out.g ((IR.out.over.below intR U2.out.b).more intR U2.out.b.size)).mono ?_; rintro e w3 ⟨rfl, hg_, gr_⟩; have U3 := Lib.hid (U2.out.turn hg_ gr_); clear hg_ gr_ U2)
 clear c0 c1 c2 c3 c4 c5 c6
 obtain ⟨c0, c1, c2, c3, c4, c5, c6⟩ := cell7_of U3.out.x1
 go_upto_region 6 with (go_at_call 60; refine (add14_any mb _ 3 [r.entry, r.exit] _ (w3.alloc (.cells #[.int .i64 r.entry, .int .i64 r.exit] 3)) (U3.out.below (below_new w3 (.cells #[.int .i64 r.entry, .int .i64 r.exit] 3))).g (two_arg14 w3 r.entry r.exit)).mono ?_; rintro e w4 ⟨rfl, hg_, gr_⟩; have U4 := Lib.hid ((U3.out.below (below_new w3 (.cells #[.int .i64 r.entry, .int .i64 r.exit] 3))).turn hg_ gr_); clear hg_ gr_ U3)
 clear c0 c1 c2 c3 c4 c5 c6
 have V0 : Hid (UseAt w w4 mb (#[.int .i64 p.ver, .int .i64 p.par, u2, .slice AP nP cP, u4, u5]) (#[.int .i64 r.id, .int .i64 r.entry, .int .i64 r.exit, .slice B0 m0 d0, .slice B1 m1 d1, .slice AF nF cF, .int .i64 r.timer]) 33 54 (flK r 0)) := Lib.hid (U4.out.iff fun k => (flK_zero r k).symm)
 clear U4
 obtain ⟨c0, c1, c2, c3, c4, c5, c6⟩ := cell7_of V0.out.x1
 go_upto_region 7 with fail
 clear c0 c1 c2 c3 c4 c5 c6
 have hF3 : nF ≤ 3 := NF.out.2
 go_loopw [34] (fun s34 wr => ∃ i : Nat, s34 = .int .i64 i ∧ i ≤ nF ∧ UseAt w wr mb (#[.int .i64 p.ver, .int .i64 p.par, u2, .slice AP nP cP, u4, u5]) (#[.int .i64 r.id, .int .i64 r.entry, .int .i64 r.exit, .slice B0 m0 d0, .slice B1 m1 d1, .slice AF nF cF, .int .i64 r.timer]) 33 54 (flK r i)) (fun s34 _ => nF - (intOf s34).toNat)
 case atStart => exact ⟨0, by go_num, by omega, V0.out⟩
 case round =>
  clear V0
  obtain ⟨i, rfl, hi, hu⟩ := hrel
  have U := Lib.hid hu
  clear hu
  by_cases hlt : i < nF
  ·have hlt' : (i : Int) < nF := by omega
   have hir : i < r.flanks.length := by have := NF.out; omega
   obtain ⟨bf, of_, rfl, hbf, hf⟩ := IR.out.flanks.at hir
   obtain ⟨x, hx⟩ : ∃ x, x = r.flanks[i].1 := ⟨_, rfl⟩
   obtain ⟨x2, hx2⟩ : ∃ x, x = r.flanks[i].2 := ⟨_, rfl⟩
   have g0 : wr.cell? ⟨bf, of_ + i * 2, none⟩ = some (.int .i64 x) := (U.out.b.cell (p := ⟨bf, of_ + i * 2, none⟩) hbf).trans (by rw [hx]; simpa [JoinR] using hf.1)
   have g1 : wr.cell? ⟨bf, of_ + i * 2 + 1, none⟩ = some (.int .i64 x2) := (U.out.b.cell (p := ⟨bf, of_ + i * 2 + 1, none⟩) hbf).trans (by rw [hx2]; simpa [JoinR] using hf.2)
   have STEP : Hid (∀ W, UseAt w W mb (#[.int .i64 p.ver, .int .i64 p.par, u2, .slice AP nP cP, u4, u5]) (#[.int .i64 r.id, .int .i64 r.entry, .int .i64 r.exit, .slice B0 m0 d0, .slice B1 m1 d1, .slice (some ⟨bf, of_, none⟩) nF cF, .int .i64 r.timer]) 33 54 (fun k => flK r i k ∨ (k.1 = 2 ∧ k.2 ∈ [x] ∧ k.2 ≠ 0)) → UseAt w W mb (#[.int .i64 p.ver, .int .i64 p.par, u2, .slice AP nP cP, u4, u5]) (#[.int .i64 r.id, .int .i64 r.entry, .int .i64 r.exit, .slice B0 m0 d0, .slice B1 m1 d1, .slice (some ⟨bf, of_, none⟩) nF cF, .int .i64 r.timer]) 33 54 (flK r (i + 1))) := Lib.hid (fun W h => h.iff fun k => by rw [hx]; exact (flK_succ r hir k).symm)
   clear hx hx2 hf hbf
   go_upto_region 9 with ((with_reducible show wpList _ _ _ (⟨none, .store _ _ _, _, _, _, _⟩ :: _) _ _); refine wpList_store_rowS rfl _ (.tmp 7) (.tmp 37) rfl wr.heap.size rfl (c' := #[.int .i64 x, .int .i64 x2]) rfl (heap_alloc_self wr (.cells #[.int .i64 0, .int .i64 0] 64)) infoFl14 rfl (by simp [Value.oneCell']) ?_)
   rw [World.setRow_alloc_new]
   have hx1 := heap_alloc_self wr (.cells #[.int .i64 x, .int .i64 x2] 64)
   have UB := Lib.hid (U.out.below (below_new wr (.cells #[.int .i64 x, .int .i64 x2] 64)))
   generalize wr.alloc (.cells #[.int .i64 x, .int .i64 x2] 64) = w5 at hx1 UB ⊢
   generalize wr.heap.size = p7 at hx1 ⊢
   obtain ⟨e0, e1⟩ := cell2_of hx1
   clear hx1 g0 g1 U
   go_wp2_with (go_at_call 60; refine (add14_any mb _ 2 [x] _ (w5.alloc (.cells #[.int .i64 x] 3)) (UB.out.below (below_new w5 (.cells #[.int .i64 x] 3))).g (one_arg14 w5 x)).mono ?_; rintro e w6 ⟨rfl, hg_, gr_⟩; have UC := Lib.hid ((UB.out.below (below_new w5 (.cells #[.int .i64 x] 3))).turn hg_ gr_); clear hg_ gr_ UB)
   clear e0 e1
   have UD := Lib.hid (STEP.out _ UC.out)
   clear UC STEP
   go_roundw
   case measure => simp [intOf]; omega
   case rel => exact ⟨i + 1, by go_num, by omega, UD.out⟩
  ·obtain rfl : nF = i := by omega
   have hlt' : ¬ (nF : Int) < nF := by omega
   have V0 : Hid (UseAt w wr mb (#[.int .i64 p.ver, .int .i64 p.par, u2, .slice AP nP cP, u4, u5]) (#[.int .i64 r.id, .int .i64 r.entry, .int .i64 r.exit, .slice B0 m0 d0, .slice B1 m1 d1, .slice AF nF cF, .int .i64 r.timer]) 33 54 (ptK p r 0)) := Lib.hid (U.out.iff fun k => by rw [ptK_zero, NF.out.1])
   clear U
   go_upto_region 11 with fail
   clear hlt hlt'
   obtain ⟨k0, k1, k2, k3, k4, k5⟩ := cell6_of V0.out.x0
   go_upto_region 12 with fail
   clear k0 k1 k2 k3 k4 k5
   have hP9 : nP ≤ 9223372036854775807 := NP.out.2
   go_loopw [47] (fun s47 wr => ∃ i : Nat, s47 = .int .i64 i ∧ i ≤ nP ∧ UseAt w wr mb (#[.int .i64 p.ver, .int .i64 p.par, u2, .slice AP nP cP, u4, u5]) (#[.int .i64 r.id, .int .i64 r.entry, .int .i64 r.exit, .slice B0 m0 d0, .slice B1 m1 d1, .slice AF nF cF, .int .i64 r.timer]) 33 54 (ptK p r i)) (fun s47 _ => nP - (intOf s47).toNat)
   case atStart => exact ⟨0, by go_num, by omega, V0.out⟩
   case round =>
    clear V0
    obtain ⟨i, rfl, hi, hu⟩ := hrel
    have U := Lib.hid hu
    clear hu
    by_cases hlt : i < nP
    ·have hlt' : (i : Int) < nP := by omega
     have hir : i < p.pts.length := by have := NP.out; omega
     obtain ⟨bf, of_, rfl, hbf, hf⟩ := IP.out.pts.at hir
     obtain ⟨x, hx⟩ : ∃ x, x = p.pts[i].1 := ⟨_, rfl⟩
     obtain ⟨x2, hx2⟩ : ∃ x, x = p.pts[i].2 := ⟨_, rfl⟩
     have g0 : wr.cell? ⟨bf, of_ + i * 2, none⟩ = some (.int .i64 x) := (U.out.b.cell (p := ⟨bf, of_ + i * 2, none⟩) hbf).trans (by rw [hx]; simpa [JoinR] using hf.1)
     have g1 : wr.cell? ⟨bf, of_ + i * 2 + 1, none⟩ = some (.int .i64 x2) := (U.out.b.cell (p := ⟨bf, of_ + i * 2 + 1, none⟩) hbf).trans (by rw [hx2]; simpa [JoinR] using hf.2)
     have HIT : Hid ((ptK p r i (1, x2) ∨ ptK p r i (2, x)) ↔ hitK r p.pts[i]) := Lib.hid (by rw [hx, hx2]; exact ptK_hit HP.out r hir)
     have YES : Hid (hitK r p.pts[i] → ∀ W, UseAt w W mb (#[.int .i64 p.ver, .int .i64 p.par, u2, .slice (some ⟨bf, of_, none⟩) nP cP, u4, u5]) (#[.int .i64 r.id, .int .i64 r.entry, .int .i64 r.exit, .slice B0 m0 d0, .slice B1 m1 d1, .slice AF nF cF, .int .i64 r.timer]) 33 54 (fun k => (ptK p r i k ∨ (k.1 = 1 ∧ k.2 ∈ [x2] ∧ k.2 ≠ 0)) ∨ (k.1 = 2 ∧ k.2 ∈ [x] ∧ k.2 ≠ 0)) → UseAt w W mb (#[.int .i64 p.ver, .int .i64 p.par, u2, .slice (some ⟨bf, of_, none⟩) nP cP, u4, u5]) (#[.int .i64 r.id, .int .i64 r.entry, .int .i64 r.exit, .slice B0 m0 d0, .slice B1 m1 d1, .slice AF nF cF, .int .i64 r.timer]) 33 54 (ptK p r (i + 1))) := Lib.hid (fun hh W h => h.iff fun k => by rw [hx, hx2]; exact (ptK_yes HP.out r hir hh k).symm)
     have NO : Hid (¬ hitK r p.pts[i] → ∀ W, UseAt w W mb (#[.int .i64 p.ver, .int .i64 p.par, u2, .slice (some ⟨bf, of_, none⟩) nP cP, u4, u5]) (#[.int .i64 r.id, .int .i64 r.entry, .int .i64 r.exit, .slice B0 m0 d0, .slice B1 m1 d1, .slice AF nF cF, .int .i64 r.timer]) 33 54 (ptK p r i) → UseAt w W mb (#[.int .i64 p.ver, .int .i64 p.par, u2, .slice (some ⟨bf, of_, none⟩) nP cP, u4, u5]) (#[.int .i64 r.id, .int .i64 r.entry, .int .i64 r.exit, .slice B0 m0 d0, .slice B1 m1 d1, .slice AF nF cF, .int .i64 r.timer]) 33 54 (ptK p r (i + 1))) := Lib.hid (fun hh W h => h.iff fun k => (ptK_no r hir hh k).symm)
     obtain ⟨HT, hHT⟩ : ∃ q_ : Prop, q_ = hitK r p.pts[i] := ⟨_, rfl⟩
     rw [← hHT] at HIT YES NO
     clear hx hx2 hf hbf hHT hir
     go_upto_region 14 with ((with_reducible show wpList _ _ _ (⟨none, .store _ _ _, _, _, _, _⟩ :: _) _ _); refine wpList_store_rowS rfl _ (.tmp 9) (.tmp 50) rfl wr.heap.size rfl (c' := #[.int .i64 x, .int .i64 x2]) rfl (heap_alloc_self wr (.cells #[.int .i64 0, .int .i64 0] 60)) infoPt14 rfl (by simp [Value.oneCell']) ?_)
     rw [World.setRow_alloc_new]
     have hx1 := heap_alloc_self wr (.cells #[.int .i64 x, .int .i64 x2] 60)
     have UB := Lib.hid (U.out.below (below_new wr (.cells #[.int .i64 x, .int .i64 x2] 60)))
     generalize wr.alloc (.cells #[.int .i64 x, .int .i64 x2] 60) = w5 at hx1 UB ⊢
     obtain ⟨p9, hp9⟩ : ∃ n, n = wr.heap.size := ⟨_, rfl⟩
     rw [← hp9] at hx1 ⊢
     have NM : Hid (p9 ≠ mb) := Lib.hid (by rw [hp9]; have := U.out.g.lt; omega)
     have X9 := Lib.hid hx1
     clear hx1 g0 g1 hp9
     obtain ⟨b1, hb1⟩ : ∃ q_, q_ = gB (ptK p r i) (1, x2) := ⟨_, rfl⟩
     obtain ⟨b2, hb2⟩ : ∃ q_, q_ = gB (ptK p r i) (2, x) := ⟨_, rfl⟩
     have HB1 := Lib.hid hb1
     have HB2 := Lib.hid hb2
     clear hb1 hb2 U
     obtain ⟨e0, e1⟩ := cell2_of X9.out
     cases b1 with
     | true =>
      have HH : Hid HT := Lib.hid (HIT.out.1 (.inl (gB_iff.1 HB1.out.symm)))
      clear HIT
      go_upto_region 15 with (go_at_call 62; refine (has14_any mb _ 1 x2 w5 UB.out.g).mono ?_; rintro e w6 ⟨rfl, b_⟩; rw [← HB1.out]; have UC := Lib.hid (UB.out.below b_); have X8 := Lib.hid ((b_.block _ (heap_lt X9.out)).trans X9.out); clear b_ e0 e1; obtain ⟨e0, e1⟩ := cell2_of X8.out)
      go_upto_region 16 with (go_at_call 60; refine (add14_any mb _ 1 [x2] _ (w6.alloc (.cells #[.int .i64 x2] 3)) (UC.out.below (below_new w6 (.cells #[.int .i64 x2] 3))).g (one_arg14 w6 x2)).mono ?_; rintro e v1 ⟨rfl, hg_, gr_⟩; have UX := Lib.hid ((UC.out.below (below_new w6 (.cells #[.int .i64 x2] 3))).turn hg_ gr_); have XX := Lib.hid ((gr_.block _ (heap_lt (((below_new w6 (.cells #[.int .i64 x2] 3)).block _ (heap_lt X8.out)).trans X8.out)) (fun e => NM.out (by injection e))).trans (((below_new w6 (.cells #[.int .i64 x2] 3)).block _ (heap_lt X8.out)).trans X8.out)); clear hg_ gr_ UC e0 e1)
      obtain ⟨e0, e1⟩ := cell2_of XX.out
      go_wp2_with (go_at_call 60; refine (add14_any mb _ 2 [x] _ (v1.alloc (.cells #[.int .i64 x] 3)) (UX.out.below (below_new v1 (.cells #[.int .i64 x] 3))).g (one_arg14 v1 x)).mono ?_; rintro e v2 ⟨rfl, hg_, gr_⟩; have UY := Lib.hid ((UX.out.below (below_new v1 (.cells #[.int .i64 x] 3))).turn hg_ gr_); clear hg_ gr_ UX)
      clear e0 e1
      have UZ := Lib.hid (YES.out HH.out _ UY.out)
      clear UY YES NO
      go_roundw
      case measure => simp [intOf]; omega
      case rel => exact ⟨i + 1, by go_num, by omega, UZ.out⟩
     | false =>
      cases b2 with
      | true =>
       have HH : Hid HT := Lib.hid (HIT.out.1 (.inr (gB_iff.1 HB2.out.symm)))
       clear HIT
       go_wp2_with fail
       refine (has14_any mb _ 1 x2 w5 UB.out.g).mono ?_
       rintro e w6 ⟨rfl, b_⟩
       rw [← HB1.out]
       have UC := Lib.hid (UB.out.below b_)
       have X8 := Lib.hid ((b_.block _ (heap_lt X9.out)).trans X9.out)
       clear b_ e0 e1
       obtain ⟨e0, e1⟩ := cell2_of X8.out
       go_wp2_with fail
       refine (has14_any mb _ 2 x w6 UC.out.g).mono ?_
       rintro e w7 ⟨rfl, b_⟩
       rw [← HB2.out]
       have UD := Lib.hid (UC.out.below b_)
       have X7 := Lib.hid ((b_.block _ (heap_lt X8.out)).trans X8.out)
       clear b_ e0 e1
       obtain ⟨e0, e1⟩ := cell2_of X7.out
       go_upto_region 15 with fail
       go_upto_region 16 with (go_at_call 60; refine (add14_any mb _ 1 [x2] _ (w7.alloc (.cells #[.int .i64 x2] 3)) (UD.out.below (below_new w7 (.cells #[.int .i64 x2] 3))).g (one_arg14 w7 x2)).mono ?_; rintro e v1 ⟨rfl, hg_, gr_⟩; have UX := Lib.hid ((UD.out.below (below_new w7 (.cells #[.int .i64 x2] 3))).turn hg_ gr_); have XX := Lib.hid ((gr_.block _ (heap_lt (((below_new w7 (.cells #[.int .i64 x2] 3)).block _ (heap_lt X7.out)).trans X7.out)) (fun e => NM.out (by injection e))).trans (((below_new w7 (.cells #[.int .i64 x2] 3)).block _ (heap_lt X7.out)).trans X7.out)); clear hg_ gr_ UD e0 e1)
       obtain ⟨e0, e1⟩ := cell2_of XX.out
       go_wp2_with (go_at_call 60; refine (add14_any mb _ 2 [x] _ (v1.alloc (.cells #[.int .i64 x] 3)) (UX.out.below (below_new v1 (.cells #[.int .i64 x] 3))).g (one_arg14 v1 x)).mono ?_; rintro e v2 ⟨rfl, hg_, gr_⟩; have UY := Lib.hid ((UX.out.below (below_new v1 (.cells #[.int .i64 x] 3))).turn hg_ gr_); clear hg_ gr_ UX)
       clear e0 e1
       have UZ := Lib.hid (YES.out HH.out _ UY.out)
       clear UY YES NO
       go_roundw
       case measure => simp [intOf]; omega
       case rel => exact ⟨i + 1, by go_num, by omega, UZ.out⟩
      | false =>
       have HH : Hid (¬ HT) := Lib.hid (fun h => (HIT.out.2 h).elim (gB_no.1 HB1.out.symm) (gB_no.1 HB2.out.symm))
       clear HIT
       go_wp2_with fail
       refine (has14_any mb _ 1 x2 w5 UB.out.g).mono ?_
       rintro e w6 ⟨rfl, b_⟩
       rw [← HB1.out]
       have UC := Lib.hid (UB.out.below b_)
       have X8 := Lib.hid ((b_.block _ (heap_lt X9.out)).trans X9.out)
       clear b_ e0 e1
       obtain ⟨e0, e1⟩ := cell2_of X8.out
       go_wp2_with fail
       refine (has14_any mb _ 2 x w6 UC.out.g).mono ?_
       rintro e w7 ⟨rfl, b_⟩
       rw [← HB2.out]
       have UD := Lib.hid (UC.out.below b_)
       have X7 := Lib.hid ((b_.block _ (heap_lt X8.out)).trans X8.out)
       clear b_ e0 e1
       obtain ⟨e0, e1⟩ := cell2_of X7.out
       go_wp2_with fail
       have UZ := Lib.hid (NO.out HH.out _ UD.out)
       clear e0 e1
       go_roundw
       case measure => simp [intOf]; omega
       case rel => exact ⟨i + 1, by go_num, by omega, UZ.out⟩
    ·obtain rfl : i = nP := by omega
     have hlt' : ¬ (i : Int) < i := by omega
     have HF : Hid (Gath wr mb (fun k => useB p r k.1 k.2 = true)) := Lib.hid (U.out.g.iff fun k => by rw [← HALL.out, NP.out.1])
     go_wp2_with fail
     go_ret
     exact ⟨_, rfl, HF.out, LM.out, U.out.b⟩
end Go.Proofs.YtneeocnjfnneoaaGreat
