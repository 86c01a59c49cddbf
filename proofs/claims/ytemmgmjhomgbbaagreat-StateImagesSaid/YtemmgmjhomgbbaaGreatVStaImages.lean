/-
 An image may be, keeps what is kept, is its own image: the walk, given the program's answers.
 Conditions: none.
-/
import Derived.Test.YtemmgmjhomgbbaaGreatVGStaOne
import Derived.Test.YtemmgmjhomgbbaaGreatVGStaRef
import Derived.BigQuiet
set_option linter.unusedVariables false
set_option linter.unusedSimpArgs false
set_option maxRecDepth 100000
namespace Go.Proofs.YtemmgmjhomgbbaaGreat
open Go.RowKit

theorem staE_zero {p : Pl} {s : St15} (h : staE p s = 0) : StMay p s := by
 unfold staE at h
 by_cases h1 : soundP p = true
 ·rw [if_pos h1] at h
  by_cases h2 : stMay p s = true
  ·exact stMay_iff.1 h2
  ·rw [if_neg h2] at h; exact absurd h (by decide)
 ·rw [if_neg h1] at h; exact absurd h (by decide)
theorem staE_of {p : Pl} {s : St15} (h : StMay p s) : staE p s = 0 := by rw [staE, if_pos (soundP_true h.sound), if_pos (stMay_iff.2 h)]
theorem imageV_of {p : Pl} {s : St15} (h : StMay p s) : imageV p s = imageS p s := by rw [imageV, if_pos (staE_of h)]
theorem imageV_no {p : Pl} {s : St15} (h : staE p s ≠ 0) : imageV p s = noS := by rw [imageV, if_neg h]
theorem who_image {p : Pl} {s : St15} (h : StMay p s) (sec : Int) : whoV p (imageS p s) sec = whoV p s sec ∧ whoE p (imageS p s) sec = whoE p s sec := by
 have e : whoE p (imageS p s) sec = whoE p s sec := by rw [whoE, whoE, staE_of h, staE_of (image_may h)]
 exact ⟨by rw [whoV, whoV, e, image_who], e⟩
theorem lie_image {p : Pl} {s : St15} (h : StMay p s) (pt : Int) : lieV p (imageS p s) pt = lieV p s pt ∧ lieE p (imageS p s) pt = lieE p s pt := by
 have e : lieE p (imageS p s) pt = lieE p s pt := by rw [lieE, lieE, staE_of h, staE_of (image_may h)]
 exact ⟨by rw [lieV, lieV, e, image_lie], e⟩
set_option maxHeartbeats 16000000 in
theorem walk_state_images (hc : StaSaid) (v y : Value) (p : Pl) (s : St15) (sec pt : Int) (w : World) (h : PlanV w w.heap.size v p) (h' : StateV w w.heap.size y s) :
  Calls Tryz.prog 4 #[v, y, .int .i64 sec, .int .i64 pt] w fun e w' => e = .returned (.bool true) ∧ Below w.heap.size w w' := by
 obtain ⟨y2, y3, y4, y5, rfl, hin⟩ := h
 obtain ⟨u0, u1, u2, rfl, hsn⟩ := h'
 obtain ⟨A2, c2, rfl, -, -⟩ := hin.secs.slice
 obtain ⟨n2, hn2⟩ : ∃ z_, z_ = p.secs.length := ⟨_, rfl⟩
 obtain ⟨A3, c3, rfl, -, -⟩ := hin.pts.slice
 obtain ⟨n3, hn3⟩ : ∃ z_, z_ = p.pts.length := ⟨_, rfl⟩
 obtain ⟨A4, c4, rfl, -, -⟩ := hin.sigs.slice
 obtain ⟨n4, hn4⟩ : ∃ z_, z_ = p.sigs.length := ⟨_, rfl⟩
 obtain ⟨AR, cR, rfl, -, -⟩ := hin.routes.slice
 obtain ⟨nR, hnR⟩ : ∃ z_, z_ = p.routes.length := ⟨_, rfl⟩
 rw [← hn2] at hin
 rw [← hn2]
 rw [← hn3] at hin
 rw [← hn3]
 rw [← hn4] at hin
 rw [← hn4]
 rw [← hnR] at hin
 rw [← hnR]
 obtain ⟨S0, t0, rfl⟩ := st_sl hsn.tr
 obtain ⟨s0, hs0⟩ : ∃ z_, z_ = s.tr.length := ⟨_, rfl⟩
 obtain ⟨S1, t1, rfl⟩ := st_sl hsn.sw
 obtain ⟨s1, hs1⟩ : ∃ z_, z_ = s.sw.length := ⟨_, rfl⟩
 obtain ⟨S2, t2, rfl⟩ := st_sl hsn.lk
 obtain ⟨s2, hs2⟩ : ∃ z_, z_ = s.lk.length := ⟨_, rfl⟩
 rw [← hs0] at hsn
 rw [← hs0]
 rw [← hs1] at hsn
 rw [← hs1]
 rw [← hs2] at hsn
 rw [← hs2]
 have HNS : Hid (s0 = s.tr.length ∧ s1 = s.sw.length ∧ s2 = s.lk.length) := Lib.hid ⟨hs0, hs1, hs2⟩
 clear hn2 hn3 hn4 hnR hs0 hs1 hs2
 obtain ⟨h0, h1, hqb⟩ := two_boxes w (.cells #[.int .i64 p.ver, .int .i64 p.par, .slice A2 n2 c2, .slice A3 n3 c3, .slice A4 n4 c4, .slice AR nR cR] 27) (.cells #[.slice S0 s0 t0, .slice S1 s1 t1, .slice S2 s2 t2] 32)
 go_enter Tryz.func4, Tryz.ntmps4
 go_upto_region 1 with fail
 generalize (w.alloc (.cells #[.int .i64 p.ver, .int .i64 p.par, .slice A2 n2 c2, .slice A3 n3 c3, .slice A4 n4 c4, .slice AR nR cR] 27)).alloc (.cells #[.slice S0 s0 t0, .slice S1 s1 t1, .slice S2 s2 t2] 32) = q at h0 h1 hqb ⊢
 have X0 := Lib.hid h0
 have X1 := Lib.hid h1
 have BQ := Lib.hid hqb
 have VP : Hid (PlanV q q.heap.size (.agg #[.int .i64 p.ver, .int .i64 p.par, .slice A2 n2 c2, .slice A3 n3 c3, .slice A4 n4 c4, .slice AR nR cR]) p) := Lib.hid ⟨_, _, _, _, rfl, (hin.below hqb).more hqb.size⟩
 have VS : Hid (StateV q q.heap.size (.agg #[.slice S0 s0 t0, .slice S1 s1 t1, .slice S2 s2 t2]) s) := Lib.hid ⟨_, _, _, rfl, (hsn.below hqb).more hqb.size⟩
 clear h0 h1 hqb hin hsn
 go_wp2_with fail
 refine (alive15 hc _).mono ?_
 rintro e wa ⟨rfl, bN⟩
 replace X0 := Lib.hid ((bN.block _ (heap_lt X0.out)).trans X0.out)
 replace X1 := Lib.hid ((bN.block _ (heap_lt X1.out)).trans X1.out)
 replace BQ := Lib.hid (BQ.out.trans (bN.mono BQ.out.size))
 replace VP := Lib.hid ((VP.out.below bN).more bN.size)
 replace VS := Lib.hid ((VS.out.below bN).more bN.size)
 clear bN
 obtain ⟨k0, k1, k2, k3, k4, k5⟩ := cell6_of X0.out
 go_wp2_with fail
 refine (rgreatP_any _ p wa VP.out).mono ?_
 rintro e w1 ⟨⟨g, rfl⟩, bN⟩
 clear k0 k1 k2 k3 k4 k5
 replace X0 := Lib.hid ((bN.block _ (heap_lt X0.out)).trans X0.out)
 replace X1 := Lib.hid ((bN.block _ (heap_lt X1.out)).trans X1.out)
 replace BQ := Lib.hid (BQ.out.trans (bN.mono BQ.out.size))
 replace VP := Lib.hid ((VP.out.below bN).more bN.size)
 replace VS := Lib.hid ((VS.out.below bN).more bN.size)
 clear bN
 cases g with
 | true =>
  go_wp2_with fail
  go_ret
  exact ⟨rfl, BQ.out⟩
 | false =>
 obtain ⟨l0, l1, l2⟩ := cell3_of X1.out
 go_wp2_with fail
 refine (rgreatS_any _ s w1 VS.out).mono ?_
 rintro e w2 ⟨⟨g, rfl, hfew⟩, bN⟩
 clear l0 l1 l2
 replace X0 := Lib.hid ((bN.block _ (heap_lt X0.out)).trans X0.out)
 replace X1 := Lib.hid ((bN.block _ (heap_lt X1.out)).trans X1.out)
 replace BQ := Lib.hid (BQ.out.trans (bN.mono BQ.out.size))
 replace VP := Lib.hid ((VP.out.below bN).more bN.size)
 replace VS := Lib.hid ((VS.out.below bN).more bN.size)
 clear bN
 cases g with
 | true =>
  go_wp2_with fail
  go_ret
  exact ⟨rfl, BQ.out⟩
 | false =>
 have FEW := Lib.hid (hfew rfl)
 clear hfew
 obtain ⟨E, hE⟩ : ∃ x, x = staE p s := ⟨_, rfl⟩
 obtain ⟨x, hx⟩ : ∃ x, x = imageV p s := ⟨_, rfl⟩
 have HE : Hid (E = staE p s ∧ x = imageV p s) := Lib.hid ⟨hE, hx⟩
 clear hE hx
 obtain ⟨k0, k1, k2, k3, k4, k5⟩ := cell6_of X0.out
 obtain ⟨l0, l1, l2⟩ := cell3_of X1.out
 go_wp2_with fail
 refine (hc.image _ _ p s w2 VP.out VS.out).mono ?_
 rintro e wB ⟨u0, u1, u2, rfl, ho, bN⟩
 rw [← HE.out.1]
 rw [← HE.out.2] at ho
 have hi := ho.in_
 obtain ⟨T0, Tc0, rfl⟩ := st_sl hi.tr
 obtain ⟨T1, Tc1, rfl⟩ := st_sl hi.sw
 obtain ⟨T2, Tc2, rfl⟩ := st_sl hi.lk
 obtain ⟨a0, ha0⟩ : ∃ z_, z_ = x.tr.length := ⟨_, rfl⟩
 rw [← ha0] at hi
 rw [← ha0]
 obtain ⟨a1, ha1⟩ : ∃ z_, z_ = x.sw.length := ⟨_, rfl⟩
 rw [← ha1] at hi
 rw [← ha1]
 obtain ⟨a2, ha2⟩ : ∃ z_, z_ = x.lk.length := ⟨_, rfl⟩
 rw [← ha2] at hi
 rw [← ha2]
 have N10 : Hid (a0 = x.tr.length ∧ a1 = x.sw.length ∧ a2 = x.lk.length) := Lib.hid ⟨ha0, ha1, ha2⟩
 clear ho ha0 ha1 ha2 k0 k1 k2 k3 k4 k5 l0 l1 l2
 replace X0 := Lib.hid ((bN.block _ (heap_lt X0.out)).trans X0.out)
 replace X1 := Lib.hid ((bN.block _ (heap_lt X1.out)).trans X1.out)
 replace BQ := Lib.hid (BQ.out.trans (bN.mono BQ.out.size))
 replace VP := Lib.hid ((VP.out.below bN).more bN.size)
 replace VS := Lib.hid ((VS.out.below bN).more bN.size)
 clear bN
 go_upto_region 5 with ((with_reducible show wpList _ _ _ (⟨none, .store _ _ _, _, _, _, _⟩ :: _) _ _); refine wpList_store_rowS rfl _ (.tmp 10) (.tmp 41) rfl wB.heap.size rfl (c' := #[.slice T0 a0 Tc0, .slice T1 a1 Tc1, .slice T2 a2 Tc2]) rfl (heap_alloc_self wB (.cells #[.slice none 0 0, .slice none 0 0, .slice none 0 0] 32)) infoSt15 rfl (by simp [Value.oneCell']) ?_)
 rw [World.setRow_alloc_new]
 have hx1 := heap_alloc_self wB (.cells #[.slice T0 a0 Tc0, .slice T1 a1 Tc1, .slice T2 a2 Tc2] 32)
 have hb1 := below_new wB (.cells #[.slice T0 a0 Tc0, .slice T1 a1 Tc1, .slice T2 a2 Tc2] 32)
 have hi2 := (hi.below hb1).more hb1.size
 generalize wB.alloc (.cells #[.slice T0 a0 Tc0, .slice T1 a1 Tc1, .slice T2 a2 Tc2] 32) = w3 at hb1 hx1 hi2 ⊢
 obtain ⟨p10, hp1⟩ : ∃ n, n = wB.heap.size := ⟨_, rfl⟩
 rw [← hp1] at hx1 ⊢
 have X10 := Lib.hid hx1
 have A10 := Lib.hid hi2
 clear hx1 hp1 hi hi2
 replace X0 := Lib.hid ((hb1.block _ (heap_lt X0.out)).trans X0.out)
 replace X1 := Lib.hid ((hb1.block _ (heap_lt X1.out)).trans X1.out)
 replace BQ := Lib.hid (BQ.out.trans (hb1.mono BQ.out.size))
 replace VP := Lib.hid ((VP.out.below hb1).more hb1.size)
 replace VS := Lib.hid ((VS.out.below hb1).more hb1.size)
 clear hb1
 by_cases h0 : E = 0
 rotate_left
 ·have d0 : (E != 0) = true := by simpa using h0
  have d1 : (E == E) = true := by simp
  have e0 : a0 = 0 := by rw [N10.out.1, HE.out.2, imageV_no (by rw [← HE.out.1]; exact h0)]; rfl
  subst e0
  clear h0
  obtain ⟨k0, k1, k2, k3, k4, k5⟩ := cell6_of X0.out
  obtain ⟨l0, l1, l2⟩ := cell3_of X1.out
  obtain ⟨m0, m1, m2⟩ := cell3_of X10.out
  go_wp2_with fail
  refine (hc.check _ _ p s w3 VP.out VS.out).mono ?_
  rintro e w4 ⟨rfl, bN⟩
  rw [← HE.out.1]
  clear k0 k1 k2 k3 k4 k5 l0 l1 l2 m0 m1 m2
  replace X0 := Lib.hid ((bN.block _ (heap_lt X0.out)).trans X0.out)
  replace X1 := Lib.hid ((bN.block _ (heap_lt X1.out)).trans X1.out)
  replace X10 := Lib.hid ((bN.block _ (heap_lt X10.out)).trans X10.out)
  replace BQ := Lib.hid (BQ.out.trans (bN.mono BQ.out.size))
  clear bN
  obtain ⟨m0, m1, m2⟩ := cell3_of X10.out
  go_wp2_with fail
  go_ret
  exact ⟨by simp, BQ.out⟩
 have HM := Lib.hid (staE_zero (p := p) (s := s) (by rw [← HE.out.1]; exact h0))
 have HX : Hid (x = imageS p s) := Lib.hid (by rw [HE.out.2, imageV_of HM.out])
 have d0 : (E != 0) = false := by simpa using h0
 clear h0
 have IMX : Hid (StMay p x) := Lib.hid (by rw [HX.out]; exact image_may HM.out)
 obtain ⟨E2, hE2⟩ : ∃ z, z = staE p x := ⟨_, rfl⟩
 obtain ⟨y, hy⟩ : ∃ z, z = imageV p x := ⟨_, rfl⟩
 have HE2 : Hid (E2 = staE p x ∧ y = imageV p x) := Lib.hid ⟨hE2, hy⟩
 clear hE2 hy
 go_upto_region 7 with fail
 obtain ⟨k0, k1, k2, k3, k4, k5⟩ := cell6_of X0.out
 obtain ⟨l0, l1, l2⟩ := cell3_of X10.out
 go_wp2_with fail
 refine (hc.image _ _ p x w3 VP.out ⟨_, _, _, rfl, A10.out⟩).mono ?_
 rintro e wB ⟨u0, u1, u2, rfl, ho, bN⟩
 rw [← HE2.out.1]
 rw [← HE2.out.2] at ho
 have hi := ho.in_
 obtain ⟨U0, Uc0, rfl⟩ := st_sl hi.tr
 obtain ⟨U1, Uc1, rfl⟩ := st_sl hi.sw
 obtain ⟨U2, Uc2, rfl⟩ := st_sl hi.lk
 obtain ⟨o0, ho0⟩ : ∃ z_, z_ = y.tr.length := ⟨_, rfl⟩
 rw [← ho0] at hi
 rw [← ho0]
 obtain ⟨o1, ho1⟩ : ∃ z_, z_ = y.sw.length := ⟨_, rfl⟩
 rw [← ho1] at hi
 rw [← ho1]
 obtain ⟨o2, ho2⟩ : ∃ z_, z_ = y.lk.length := ⟨_, rfl⟩
 rw [← ho2] at hi
 rw [← ho2]
 have N12 : Hid (o0 = y.tr.length ∧ o1 = y.sw.length ∧ o2 = y.lk.length) := Lib.hid ⟨ho0, ho1, ho2⟩
 clear ho ho0 ho1 ho2 k0 k1 k2 k3 k4 k5 l0 l1 l2
 replace X0 := Lib.hid ((bN.block _ (heap_lt X0.out)).trans X0.out)
 replace X1 := Lib.hid ((bN.block _ (heap_lt X1.out)).trans X1.out)
 replace X10 := Lib.hid ((bN.block _ (heap_lt X10.out)).trans X10.out)
 replace BQ := Lib.hid (BQ.out.trans (bN.mono BQ.out.size))
 replace VP := Lib.hid ((VP.out.below bN).more bN.size)
 replace VS := Lib.hid ((VS.out.below bN).more bN.size)
 replace A10 := Lib.hid ((A10.out.below bN).more bN.size)
 clear bN
 go_upto_region 8 with ((with_reducible show wpList _ _ _ (⟨none, .store _ _ _, _, _, _, _⟩ :: _) _ _); refine wpList_store_rowS rfl _ (.tmp 12) (.tmp 63) rfl wB.heap.size rfl (c' := #[.slice U0 o0 Uc0, .slice U1 o1 Uc1, .slice U2 o2 Uc2]) rfl (heap_alloc_self wB (.cells #[.slice none 0 0, .slice none 0 0, .slice none 0 0] 32)) infoSt15 rfl (by simp [Value.oneCell']) ?_)
 rw [World.setRow_alloc_new]
 have hx1 := heap_alloc_self wB (.cells #[.slice U0 o0 Uc0, .slice U1 o1 Uc1, .slice U2 o2 Uc2] 32)
 have hb1 := below_new wB (.cells #[.slice U0 o0 Uc0, .slice U1 o1 Uc1, .slice U2 o2 Uc2] 32)
 have hi2 := (hi.below hb1).more hb1.size
 generalize wB.alloc (.cells #[.slice U0 o0 Uc0, .slice U1 o1 Uc1, .slice U2 o2 Uc2] 32) = w4 at hb1 hx1 hi2 ⊢
 obtain ⟨p12, hp1⟩ : ∃ n, n = wB.heap.size := ⟨_, rfl⟩
 rw [← hp1] at hx1 ⊢
 have X12 := Lib.hid hx1
 have A12 := Lib.hid hi2
 clear hx1 hp1 hi hi2
 replace X0 := Lib.hid ((hb1.block _ (heap_lt X0.out)).trans X0.out)
 replace X1 := Lib.hid ((hb1.block _ (heap_lt X1.out)).trans X1.out)
 replace X10 := Lib.hid ((hb1.block _ (heap_lt X10.out)).trans X10.out)
 replace BQ := Lib.hid (BQ.out.trans (hb1.mono BQ.out.size))
 replace VP := Lib.hid ((VP.out.below hb1).more hb1.size)
 replace VS := Lib.hid ((VS.out.below hb1).more hb1.size)
 replace A10 := Lib.hid ((A10.out.below hb1).more hb1.size)
 clear hb1
 have hz : E2 = 0 := by rw [HE2.out.1, staE_of IMX.out]
 subst hz
 have HY : Hid (y = x) := Lib.hid (by rw [HE2.out.2, imageV_of IMX.out, HX.out, image_image])
 obtain ⟨m0, m1, m2⟩ := cell3_of X10.out
 obtain ⟨r0, r1, r2⟩ := cell3_of X12.out
 go_wp2_with fail
 refine (hc.same _ _ x y w4 ⟨_, _, _, rfl, A10.out⟩ ⟨_, _, _, rfl, A12.out⟩).mono ?_
 rintro e w5 ⟨rfl, bN⟩
 rw [eqB_iff.2 HY.out.symm]
 clear m0 m1 m2 r0 r1 r2 X12 A12
 replace X0 := Lib.hid ((bN.block _ (heap_lt X0.out)).trans X0.out)
 replace X1 := Lib.hid ((bN.block _ (heap_lt X1.out)).trans X1.out)
 replace X10 := Lib.hid ((bN.block _ (heap_lt X10.out)).trans X10.out)
 replace BQ := Lib.hid (BQ.out.trans (bN.mono BQ.out.size))
 replace VP := Lib.hid ((VP.out.below bN).more bN.size)
 replace VS := Lib.hid ((VS.out.below bN).more bN.size)
 replace A10 := Lib.hid ((A10.out.below bN).more bN.size)
 clear bN
 obtain ⟨m0, m1, m2⟩ := cell3_of X10.out
 obtain ⟨l0, l1, l2⟩ := cell3_of X1.out
 go_wp2_with fail
 refine (hc.kept _ _ x s w5 ⟨_, _, _, rfl, A10.out⟩ VS.out).mono ?_
 rintro e w6 ⟨rfl, bN⟩
 rw [eqB_iff.2 (show keptS x = keptS s by rw [HX.out, image_kept])]
 clear m0 m1 m2 l0 l1 l2
 replace X0 := Lib.hid ((bN.block _ (heap_lt X0.out)).trans X0.out)
 replace X1 := Lib.hid ((bN.block _ (heap_lt X1.out)).trans X1.out)
 replace X10 := Lib.hid ((bN.block _ (heap_lt X10.out)).trans X10.out)
 replace BQ := Lib.hid (BQ.out.trans (bN.mono BQ.out.size))
 replace VP := Lib.hid ((VP.out.below bN).more bN.size)
 replace VS := Lib.hid ((VS.out.below bN).more bN.size)
 replace A10 := Lib.hid ((A10.out.below bN).more bN.size)
 clear bN
 obtain ⟨k0, k1, k2, k3, k4, k5⟩ := cell6_of X0.out
 obtain ⟨m0, m1, m2⟩ := cell3_of X10.out
 go_wp2_with fail
 refine (hc.check _ _ p x w6 VP.out ⟨_, _, _, rfl, A10.out⟩).mono ?_
 rintro e w7 ⟨rfl, bN⟩
 rw [staE_of IMX.out]
 clear k0 k1 k2 k3 k4 k5 m0 m1 m2
 replace X0 := Lib.hid ((bN.block _ (heap_lt X0.out)).trans X0.out)
 replace X1 := Lib.hid ((bN.block _ (heap_lt X1.out)).trans X1.out)
 replace X10 := Lib.hid ((bN.block _ (heap_lt X10.out)).trans X10.out)
 replace BQ := Lib.hid (BQ.out.trans (bN.mono BQ.out.size))
 replace VP := Lib.hid ((VP.out.below bN).more bN.size)
 replace VS := Lib.hid ((VS.out.below bN).more bN.size)
 replace A10 := Lib.hid ((A10.out.below bN).more bN.size)
 clear bN
 go_upto_region 11 with fail
 have HTR : Hid (∀ (i : Nat) (h : i < x.tr.length), x.tr[i].2 = 2) := Lib.hid (by rw [HX.out]; intro i h; simp [imageS])
 have HSW : Hid (∀ (i : Nat) (h : i < x.sw.length), x.sw[i].2.1 = 0) := Lib.hid (by rw [HX.out]; intro i h; simp [imageS])
 have HLK : Hid (x.lk.length = s.lk.length ∧ ∀ (i : Nat) (h : i < x.lk.length) (h' : i < s.lk.length), s.lk[i].2.2.2 ≤ x.lk[i].2.2.2 ∧ (0 < x.lk[i].2.2.2 ↔ 0 < s.lk[i].2.2.2)) := Lib.hid (by
  rw [HX.out]
  refine ⟨(image_len p s).1, fun i h h' => ?_⟩
  have := image_left HM.out h'
  rwa [lkN_at h, lkN_at h'] at this)
 have hl0 : a0 ≤ 9223372036854775807 := by obtain ⟨A, c, e, h1, h2⟩ := A10.out.tr.slice; have := N10.out.1; unfold maxLen at h2; omega
 have hl1 : a1 ≤ 9223372036854775807 := by obtain ⟨A, c, e, h1, h2⟩ := A10.out.sw.slice; have := N10.out.2.1; unfold maxLen at h2; omega
 have hl2 : a2 ≤ 9223372036854775807 := by obtain ⟨A, c, e, h1, h2⟩ := A10.out.lk.slice; have := N10.out.2.2; unfold maxLen at h2; omega
 go_loopw [14] (fun s14 wr => ∃ i : Nat, s14 = .int .i64 i ∧ i ≤ a0 ∧ wr = w7) (fun s14 _ => a0 - (intOf s14).toNat)
 case atStart => exact ⟨0, by go_num, by omega, rfl⟩
 case round =>
  obtain ⟨i, rfl, hi, rfl⟩ := hrel
  obtain ⟨m0, m1, m2⟩ := cell3_of X10.out
  by_cases hlt : i < a0
  ·have hlt' : (i : Int) < a0 := by omega
   have hir : i < x.tr.length := by have := N10.out; omega
   obtain ⟨b, o, rfl, hb, hc0, hc1, -⟩ := A10.out.tr.at hir
   have g1 : wr.cell? ⟨b, o + i * 2 + 1, none⟩ = some (.int .u8 2) := by have e := HTR.out i hir; simpa [e] using hc1
   clear hc0 hc1 hb
   go_wp2_with fail
   go_roundw
   case measure => simp [intOf]; omega
   case rel => exact ⟨i + 1, by go_num, by first | trivial | exact ⟨by omega, rfl⟩⟩
  ·obtain rfl : a0 = i := by omega
   have hlt' : ¬ (a0 : Int) < a0 := by omega
   go_upto_region 16 with fail
   clear hlt hlt' m0 m1 m2
   obtain ⟨wr1, hwr1⟩ : ∃ z, z = wr := ⟨_, rfl⟩
   subst hwr1
   go_loopw [15] (fun s15 wr => ∃ i : Nat, s15 = .int .i64 i ∧ i ≤ a1 ∧ wr = wr1) (fun s15 _ => a1 - (intOf s15).toNat)
   case atStart => exact ⟨0, by go_num, by omega, rfl⟩
   case round =>
    obtain ⟨i, rfl, hi, rfl⟩ := hrel
    obtain ⟨m0, m1, m2⟩ := cell3_of X10.out
    by_cases hlt : i < a1
    ·have hlt' : (i : Int) < a1 := by omega
     have hir : i < x.sw.length := by have := N10.out; omega
     obtain ⟨b, o, rfl, hb, hc0, hc1, hc2⟩ := A10.out.sw.at hir
     have g1 : wr.cell? ⟨b, o + i * 3 + 1, none⟩ = some (.int .i64 0) := by have e := HSW.out i hir; simpa [e] using hc1
     clear hc0 hc1 hc2 hb
     go_wp2_with fail
     go_roundw
     case measure => simp [intOf]; omega
     case rel => exact ⟨i + 1, by go_num, by first | trivial | exact ⟨by omega, rfl⟩⟩
    ·obtain rfl : a1 = i := by omega
     have hlt' : ¬ (a1 : Int) < a1 := by omega
     go_upto_region 21 with fail
     clear hlt hlt' m0 m1 m2
     obtain ⟨wr0, hwr0⟩ : ∃ z, z = wr := ⟨_, rfl⟩
     subst hwr0
     go_loopw [16] (fun s16 wr => ∃ i : Nat, s16 = .int .i64 i ∧ i ≤ a2 ∧ Below wr0.heap.size wr0 wr) (fun s16 _ => a2 - (intOf s16).toNat)
     case atStart => exact ⟨0, by go_num, by omega, Below.refl _ _⟩
     case round =>
      obtain ⟨i, rfl, hi, hb⟩ := hrel
      have BZ := Lib.hid hb
      clear hb
      obtain ⟨m0, m1, m2⟩ := cell3_of ((BZ.out.block _ (heap_lt X10.out)).trans X10.out)
      obtain ⟨l0, l1, l2⟩ := cell3_of ((BZ.out.block _ (heap_lt X1.out)).trans X1.out)
      by_cases hlt : i < a2
      ·have hlt' : (i : Int) < a2 := by omega
       have hir : i < x.lk.length := by have := N10.out; omega
       have his : i < s.lk.length := by have := HLK.out.1; omega
       have hls : (i : Int) < s2 := by have := HNS.out; omega
       obtain ⟨b, o, rfl, hb, -, -, -, hc3, -⟩ := A10.out.lk.at hir
       obtain ⟨v0, v1, v2, ev, hsn⟩ := VS.out
       cases ev
       obtain ⟨b', o', rfl, hb', -, -, -, hc3', -⟩ := hsn.lk.at his
       obtain ⟨zx, hzx⟩ : ∃ z, z = x.lk[i].2.2.2 := ⟨_, rfl⟩
       obtain ⟨zs, hzs⟩ : ∃ z, z = s.lk[i].2.2.2 := ⟨_, rfl⟩
       have HZ := HLK.out.2 i hir his
       rw [← hzx] at hc3 HZ
       rw [← hzs] at hc3' HZ
       have g1 : wr.cell? ⟨b, o + i * 4 + 3, none⟩ = some (.int .i64 zx) := (BZ.out.cell (p := ⟨b, o + i * 4 + 3, none⟩) hb).trans (by simpa using hc3)
       have g2 : wr.cell? ⟨b', o' + i * 4 + 3, none⟩ = some (.int .i64 zs) := (BZ.out.cell (p := ⟨b', o' + i * 4 + 3, none⟩) hb').trans (by simpa using hc3')
       have BD : Hid (∀ nq, Below wr.heap.size wr (wr.drewN nq)) := Lib.hid (fun nq => ⟨rfl, rfl, rfl, Nat.le_refl _, fun _ _ => rfl⟩)
       have dA : decide (zx < zs) = false := decide_eq_false (by omega)
       clear hc3 hc3' hb hb' hzx hzs hsn
       go_upto_region 23 with fail
       by_cases hz : zs > 0
       ·have dx : decide (zx > 0) = true := decide_eq_true (by omega)
        have dz : decide (zs > 0) = true := decide_eq_true hz
        clear HZ hz
        go_quiet (fail)
        have hdb := BD.out nq
        generalize wr.drewN nq = wy at hdb ⊢
        have BY := Lib.hid (BZ.out.trans (hdb.mono BZ.out.size))
        clear hdb BD g1 g2 m0 m1 m2 l0 l1 l2
        go_wp2_with fail
        go_roundw
        case measure => simp [intOf]; omega
        case rel => exact ⟨i + 1, by go_num, by omega, BY.out⟩
       ·have dx : decide (zx > 0) = false := decide_eq_false (by omega)
        have dz : decide (zs > 0) = false := decide_eq_false hz
        clear HZ hz
        go_quiet (fail)
        have hdb := BD.out nq
        generalize wr.drewN nq = wy at hdb ⊢
        have BY := Lib.hid (BZ.out.trans (hdb.mono BZ.out.size))
        clear hdb BD g1 g2 m0 m1 m2 l0 l1 l2
        go_wp2_with fail
        go_roundw
        case measure => simp [intOf]; omega
        case rel => exact ⟨i + 1, by go_num, by omega, BY.out⟩
      ·obtain rfl : a2 = i := by omega
       have hlt' : ¬ (a2 : Int) < a2 := by omega
       go_upto_region 25 with fail
       clear hlt hlt' m0 m1 m2 l0 l1 l2
       replace X0 := Lib.hid ((BZ.out.block _ (heap_lt X0.out)).trans X0.out)
       replace X1 := Lib.hid ((BZ.out.block _ (heap_lt X1.out)).trans X1.out)
       replace X10 := Lib.hid ((BZ.out.block _ (heap_lt X10.out)).trans X10.out)
       replace BQ := Lib.hid (BQ.out.trans (BZ.out.mono BQ.out.size))
       replace VP := Lib.hid ((VP.out.below BZ.out).more BZ.out.size)
       replace VS := Lib.hid ((VS.out.below BZ.out).more BZ.out.size)
       replace A10 := Lib.hid ((A10.out.below BZ.out).more BZ.out.size)
       clear BZ
       obtain ⟨q1, hq1⟩ : ∃ z, z = whoV p s sec := ⟨_, rfl⟩
       obtain ⟨q2, hq2⟩ : ∃ z, z = whoE p s sec := ⟨_, rfl⟩
       obtain ⟨q3, hq3⟩ : ∃ z, z = lieV p s pt := ⟨_, rfl⟩
       obtain ⟨q4, hq4⟩ : ∃ z, z = lieE p s pt := ⟨_, rfl⟩
       have HQ : Hid ((q1 = whoV p s sec ∧ q2 = whoE p s sec) ∧ q3 = lieV p s pt ∧ q4 = lieE p s pt) := Lib.hid ⟨⟨hq1, hq2⟩, hq3, hq4⟩
       have HQX : Hid ((q1 = whoV p x sec ∧ q2 = whoE p x sec) ∧ q3 = lieV p x pt ∧ q4 = lieE p x pt) := Lib.hid (by
        rw [HX.out, (who_image HM.out sec).1, (who_image HM.out sec).2, (lie_image HM.out pt).1, (lie_image HM.out pt).2]
        exact ⟨⟨hq1, hq2⟩, hq3, hq4⟩)
       clear hq1 hq2 hq3 hq4
       obtain ⟨k0, k1, k2, k3, k4, k5⟩ := cell6_of X0.out
       obtain ⟨l0, l1, l2⟩ := cell3_of X1.out
       go_wp2_with fail
       refine (hc.holder _ _ p s sec wr VP.out VS.out).mono ?_
       rintro e wA ⟨rfl, bN⟩
       rw [← HQ.out.1.1, ← HQ.out.1.2]
       clear k0 k1 k2 k3 k4 k5 l0 l1 l2
       replace X0 := Lib.hid ((bN.block _ (heap_lt X0.out)).trans X0.out)
       replace X1 := Lib.hid ((bN.block _ (heap_lt X1.out)).trans X1.out)
       replace X10 := Lib.hid ((bN.block _ (heap_lt X10.out)).trans X10.out)
       replace BQ := Lib.hid (BQ.out.trans (bN.mono BQ.out.size))
       replace VP := Lib.hid ((VP.out.below bN).more bN.size)
       replace VS := Lib.hid ((VS.out.below bN).more bN.size)
       replace A10 := Lib.hid ((A10.out.below bN).more bN.size)
       clear bN
       obtain ⟨k0, k1, k2, k3, k4, k5⟩ := cell6_of X0.out
       obtain ⟨l0, l1, l2⟩ := cell3_of X10.out
       go_wp2_with fail
       refine (hc.holder _ _ p x sec wA VP.out ⟨_, _, _, rfl, A10.out⟩).mono ?_
       rintro e wB ⟨rfl, bN⟩
       rw [← HQX.out.1.1, ← HQX.out.1.2]
       clear k0 k1 k2 k3 k4 k5 l0 l1 l2
       replace X0 := Lib.hid ((bN.block _ (heap_lt X0.out)).trans X0.out)
       replace X1 := Lib.hid ((bN.block _ (heap_lt X1.out)).trans X1.out)
       replace X10 := Lib.hid ((bN.block _ (heap_lt X10.out)).trans X10.out)
       replace BQ := Lib.hid (BQ.out.trans (bN.mono BQ.out.size))
       replace VP := Lib.hid ((VP.out.below bN).more bN.size)
       replace VS := Lib.hid ((VS.out.below bN).more bN.size)
       replace A10 := Lib.hid ((A10.out.below bN).more bN.size)
       clear bN
       obtain ⟨k0, k1, k2, k3, k4, k5⟩ := cell6_of X0.out
       obtain ⟨l0, l1, l2⟩ := cell3_of X1.out
       go_wp2_with fail
       refine (hc.asked _ _ p s pt wB VP.out VS.out).mono ?_
       rintro e wC ⟨rfl, bN⟩
       rw [← HQ.out.2.1, ← HQ.out.2.2]
       clear k0 k1 k2 k3 k4 k5 l0 l1 l2
       replace X0 := Lib.hid ((bN.block _ (heap_lt X0.out)).trans X0.out)
       replace X1 := Lib.hid ((bN.block _ (heap_lt X1.out)).trans X1.out)
       replace X10 := Lib.hid ((bN.block _ (heap_lt X10.out)).trans X10.out)
       replace BQ := Lib.hid (BQ.out.trans (bN.mono BQ.out.size))
       replace VP := Lib.hid ((VP.out.below bN).more bN.size)
       replace VS := Lib.hid ((VS.out.below bN).more bN.size)
       replace A10 := Lib.hid ((A10.out.below bN).more bN.size)
       clear bN
       obtain ⟨k0, k1, k2, k3, k4, k5⟩ := cell6_of X0.out
       obtain ⟨l0, l1, l2⟩ := cell3_of X10.out
       go_wp2_with fail
       refine (hc.asked _ _ p x pt wC VP.out ⟨_, _, _, rfl, A10.out⟩).mono ?_
       rintro e wD ⟨rfl, bN⟩
       rw [← HQX.out.2.1, ← HQX.out.2.2]
       clear k0 k1 k2 k3 k4 k5 l0 l1 l2
       replace X0 := Lib.hid ((bN.block _ (heap_lt X0.out)).trans X0.out)
       replace X1 := Lib.hid ((bN.block _ (heap_lt X1.out)).trans X1.out)
       replace X10 := Lib.hid ((bN.block _ (heap_lt X10.out)).trans X10.out)
       replace BQ := Lib.hid (BQ.out.trans (bN.mono BQ.out.size))
       replace VP := Lib.hid ((VP.out.below bN).more bN.size)
       replace VS := Lib.hid ((VS.out.below bN).more bN.size)
       replace A10 := Lib.hid ((A10.out.below bN).more bN.size)
       clear bN
       go_wp2_with fail
       go_ret
       exact ⟨by simp, BQ.out⟩
end Go.Proofs.YtemmgmjhomgbbaaGreat
