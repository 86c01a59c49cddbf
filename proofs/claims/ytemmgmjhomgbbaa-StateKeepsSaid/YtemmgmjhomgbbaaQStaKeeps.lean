/-
 What goes both ways, what is kept: the walk, given the program's answers.
 Conditions: none.
-/
import Derived.Test.YtemmgmjhomgbbaaQGStaOne
import Derived.Test.YtemmgmjhomgbbaaQGStaRef
import Derived.Test.YtemmgmjhomgbbaaQGStaO
import Derived.Test.YtemmgmjhomgbbaaQGStaMem
import Derived.Test.YtemmgmjhomgbbaaQGTrkRef
import Derived.BigQuiet
set_option linter.unusedVariables false
set_option linter.unusedSimpArgs false
set_option maxRecDepth 100000
namespace Go.Proofs.Ytemmgmjhomgbbaa
open Go.RowKit

theorem infoTrkI15 : (Try.prog.info? 46).map (fun i => (i.zero, i.size, i.bytes)) = some (some (.agg #[.int .i64 0, .int .u8 0]), 2, 16) := by kernel_rfl
theorem staE_may15 {p : Pl} {s : St15} (h : staE p s = 0) : StMay p s := by
 unfold staE at h
 by_cases h1 : soundP p = true
 ·rw [if_pos h1] at h
  by_cases h2 : stMay p s = true
  ·exact stMay_iff.1 h2
  ·rw [if_neg h2] at h; exact absurd h (by decide)
 ·rw [if_neg h1] at h; exact absurd h (by decide)
theorem staE_zero15 {p : Pl} {s : St15} (h : StMay p s) : staE p s = 0 := by rw [staE, if_pos (soundP_true h.sound), if_pos (stMay_iff.2 h)]
theorem three_boxes15 (w : World) (o1 o2 o3 : Obj) : (((w.alloc o1).alloc o2).alloc o3).heap[w.heap.size]? = some o1 ∧ (((w.alloc o1).alloc o2).alloc o3).heap[w.heap.size + 1]? = some o2 ∧ (((w.alloc o1).alloc o2).alloc o3).heap[w.heap.size + 2]? = some o3 ∧ Below w.heap.size w (((w.alloc o1).alloc o2).alloc o3) := by
 obtain ⟨h1, h2, hb⟩ := two_boxes w o1 o2
 have h3 := heap_alloc_self ((w.alloc o1).alloc o2) o3
 have hb3 := below_new ((w.alloc o1).alloc o2) o3
 have hs : ((w.alloc o1).alloc o2).heap.size = w.heap.size + 2 := by rw [heap_alloc_size, heap_alloc_size]
 rw [hs] at h3
 exact ⟨(hb3.block _ (heap_lt h1)).trans h1, (hb3.block _ (heap_lt h2)).trans h2, h3, hb.trans (hb3.mono hb.size)⟩
theorem eqB_self15 {α : Type} (a : α) : eqB a a = true := eqB_iff.2 rfl
set_option maxHeartbeats 16000000 in
theorem walk_state_keeps (hc : StaSaid) (v y y' : Value) (p : Pl) (s r : St15) (at_ : Int) (w : World) (h : PlanV w w.heap.size v p) (h' : StateV w w.heap.size y s) (h'' : StateV w w.heap.size y' r) :
  Calls Try.prog 6 #[v, y, y', .int .i64 at_] w fun e w' => e = .returned (.bool true) ∧ Below w.heap.size w w' := by
 obtain ⟨y2, y3, y4, y5, rfl, hin⟩ := h
 obtain ⟨u0, u1, u2, rfl, hsn⟩ := h'
 obtain ⟨z0, z1, z2, rfl, hrn⟩ := h''
 obtain ⟨A2, c2, rfl, -, -⟩ := hin.secs.slice
 obtain ⟨n2, hn2⟩ : ∃ z_, z_ = p.secs.length := ⟨_, rfl⟩
 obtain ⟨A3, c3, rfl, -, -⟩ := hin.pts.slice
 obtain ⟨n3, hn3⟩ : ∃ z_, z_ = p.pts.length := ⟨_, rfl⟩
 obtain ⟨A4, c4, rfl, -, -⟩ := hin.sigs.slice
 obtain ⟨n4, hn4⟩ : ∃ z_, z_ = p.sigs.length := ⟨_, rfl⟩
 obtain ⟨AR, cR, rfl, -, -⟩ := hin.routes.slice
 obtain ⟨nR, hnR⟩ : ∃ z_, z_ = p.routes.length := ⟨_, rfl⟩
 rw [← hn2] at hin
 rw [← hn2]
 rw [← hn3] at hin
 rw [← hn3]
 rw [← hn4] at hin
 rw [← hn4]
 rw [← hnR] at hin
 rw [← hnR]
 obtain ⟨S0, t0, rfl⟩ := st_sl hsn.tr
 obtain ⟨s0, hs0⟩ : ∃ z_, z_ = s.tr.length := ⟨_, rfl⟩
 obtain ⟨S1, t1, rfl⟩ := st_sl hsn.sw
 obtain ⟨s1, hs1⟩ : ∃ z_, z_ = s.sw.length := ⟨_, rfl⟩
 obtain ⟨S2, t2, rfl⟩ := st_sl hsn.lk
 obtain ⟨s2, hs2⟩ : ∃ z_, z_ = s.lk.length := ⟨_, rfl⟩
 rw [← hs0] at hsn
 rw [← hs0]
 rw [← hs1] at hsn
 rw [← hs1]
 rw [← hs2] at hsn
 rw [← hs2]
 obtain ⟨R0, q0_, rfl⟩ := st_sl hrn.tr
 obtain ⟨r0, hr0⟩ : ∃ z_, z_ = r.tr.length := ⟨_, rfl⟩
 obtain ⟨R1, q1_, rfl⟩ := st_sl hrn.sw
 obtain ⟨r1, hr1⟩ : ∃ z_, z_ = r.sw.length := ⟨_, rfl⟩
 obtain ⟨R2, q2_, rfl⟩ := st_sl hrn.lk
 obtain ⟨r2, hr2⟩ : ∃ z_, z_ = r.lk.length := ⟨_, rfl⟩
 rw [← hr0] at hrn
 rw [← hr0]
 rw [← hr1] at hrn
 rw [← hr1]
 rw [← hr2] at hrn
 rw [← hr2]
 have HNS : Hid (s0 = s.tr.length ∧ s1 = s.sw.length ∧ s2 = s.lk.length) := Lib.hid ⟨hs0, hs1, hs2⟩
 clear hn2 hn3 hn4 hnR hs0 hs1 hs2 hr0 hr1 hr2
 obtain ⟨h0, h1, h2, hqb⟩ := three_boxes15 w (.cells #[.int .i64 p.ver, .int .i64 p.par, .slice A2 n2 c2, .slice A3 n3 c3, .slice A4 n4 c4, .slice AR nR cR] 35) (.cells #[.slice S0 s0 t0, .slice S1 s1 t1, .slice S2 s2 t2] 26) (.cells #[.slice R0 r0 q0_, .slice R1 r1 q1_, .slice R2 r2 q2_] 26)
 go_enter Try.func6, Try.ntmps6
 go_upto_region 1 with fail
 generalize ((w.alloc (.cells #[.int .i64 p.ver, .int .i64 p.par, .slice A2 n2 c2, .slice A3 n3 c3, .slice A4 n4 c4, .slice AR nR cR] 35)).alloc (.cells #[.slice S0 s0 t0, .slice S1 s1 t1, .slice S2 s2 t2] 26)).alloc (.cells #[.slice R0 r0 q0_, .slice R1 r1 q1_, .slice R2 r2 q2_] 26) = q at h0 h1 h2 hqb ⊢
 have X0 := Lib.hid h0
 have X1 := Lib.hid h1
 have X2 := Lib.hid h2
 have BQ := Lib.hid hqb
 have VP : Hid (PlanV q q.heap.size (.agg #[.int .i64 p.ver, .int .i64 p.par, .slice A2 n2 c2, .slice A3 n3 c3, .slice A4 n4 c4, .slice AR nR cR]) p) := Lib.hid ⟨_, _, _, _, rfl, (hin.below hqb).more hqb.size⟩
 have Vs : Hid (StateV q q.heap.size (.agg #[.slice S0 s0 t0, .slice S1 s1 t1, .slice S2 s2 t2]) s) := Lib.hid ⟨_, _, _, rfl, (hsn.below hqb).more hqb.size⟩
 have Vr : Hid (StateV q q.heap.size (.agg #[.slice R0 r0 q0_, .slice R1 r1 q1_, .slice R2 r2 q2_]) r) := Lib.hid ⟨_, _, _, rfl, (hrn.below hqb).more hqb.size⟩
 clear h0 h1 h2 hqb hin hsn hrn
 go_wp2_with fail
 refine (alive15 hc _).mono ?_
 rintro e wa ⟨rfl, bN⟩
 replace X0 := Lib.hid ((bN.block _ (heap_lt X0.out)).trans X0.out)
 replace X1 := Lib.hid ((bN.block _ (heap_lt X1.out)).trans X1.out)
 replace X2 := Lib.hid ((bN.block _ (heap_lt X2.out)).trans X2.out)
 replace BQ := Lib.hid (BQ.out.trans (bN.mono BQ.out.size))
 replace VP := Lib.hid ((VP.out.below bN).more bN.size)
 replace Vs := Lib.hid ((Vs.out.below bN).more bN.size)
 replace Vr := Lib.hid ((Vr.out.below bN).more bN.size)
 clear bN
 obtain ⟨k0, k1, k2, k3, k4, k5⟩ := cell6_of X0.out
 go_wp2_with fail
 refine (rgreatP_any _ p wa VP.out).mono ?_
 rintro e w1 ⟨⟨g, rfl⟩, bN⟩
 clear k0 k1 k2 k3 k4 k5
 replace X0 := Lib.hid ((bN.block _ (heap_lt X0.out)).trans X0.out)
 replace X1 := Lib.hid ((bN.block _ (heap_lt X1.out)).trans X1.out)
 replace X2 := Lib.hid ((bN.block _ (heap_lt X2.out)).trans X2.out)
 replace BQ := Lib.hid (BQ.out.trans (bN.mono BQ.out.size))
 replace VP := Lib.hid ((VP.out.below bN).more bN.size)
 replace Vs := Lib.hid ((Vs.out.below bN).more bN.size)
 replace Vr := Lib.hid ((Vr.out.below bN).more bN.size)
 clear bN
 cases g with
 | true =>
  go_wp2_with fail
  go_ret
  exact ⟨rfl, BQ.out⟩
 | false =>
 obtain ⟨l0, l1, l2⟩ := cell3_of X1.out
 go_wp2_with fail
 refine (rgreatS_any _ s w1 Vs.out).mono ?_
 rintro e w2 ⟨⟨g, rfl, hfew⟩, bN⟩
 clear l0 l1 l2
 replace X0 := Lib.hid ((bN.block _ (heap_lt X0.out)).trans X0.out)
 replace X1 := Lib.hid ((bN.block _ (heap_lt X1.out)).trans X1.out)
 replace X2 := Lib.hid ((bN.block _ (heap_lt X2.out)).trans X2.out)
 replace BQ := Lib.hid (BQ.out.trans (bN.mono BQ.out.size))
 replace VP := Lib.hid ((VP.out.below bN).more bN.size)
 replace Vs := Lib.hid ((Vs.out.below bN).more bN.size)
 replace Vr := Lib.hid ((Vr.out.below bN).more bN.size)
 clear bN
 cases g with
 | true =>
  go_wp2_with fail
  go_ret
  exact ⟨rfl, BQ.out⟩
 | false =>
 have FEW := Lib.hid (hfew rfl)
 clear hfew
 obtain ⟨l0, l1, l2⟩ := cell3_of X2.out
 go_wp2_with fail
 refine (rgreatS_any _ r w2 Vr.out).mono ?_
 rintro e w3 ⟨⟨g, rfl, hfew⟩, bN⟩
 clear l0 l1 l2
 replace X0 := Lib.hid ((bN.block _ (heap_lt X0.out)).trans X0.out)
 replace X1 := Lib.hid ((bN.block _ (heap_lt X1.out)).trans X1.out)
 replace X2 := Lib.hid ((bN.block _ (heap_lt X2.out)).trans X2.out)
 replace BQ := Lib.hid (BQ.out.trans (bN.mono BQ.out.size))
 replace VP := Lib.hid ((VP.out.below bN).more bN.size)
 replace Vs := Lib.hid ((Vs.out.below bN).more bN.size)
 replace Vr := Lib.hid ((Vr.out.below bN).more bN.size)
 clear bN
 cases g with
 | true =>
  go_wp2_with fail
  go_ret
  exact ⟨rfl, BQ.out⟩
 | false =>
 have FEWR := Lib.hid (hfew rfl)
 clear hfew
 go_upto_region 4 with fail
 obtain ⟨w4, hw4⟩ : ∃ z, z = w3 := ⟨_, rfl⟩
 subst hw4
 obtain ⟨E, hE⟩ : ∃ z, z = staE p s := ⟨_, rfl⟩
 have HEE := Lib.hid hE
 by_cases hsr : s = r
 ·have HEV : Hid (eqB s r = true ∧ eqB r s = true ∧ True) := Lib.hid ⟨eqB_iff.2 hsr, eqB_iff.2 hsr.symm, trivial⟩
  have HKV : Hid (eqB (keptS s) (keptS r) = true ∧ eqB (keptS r) (keptS s) = true) := Lib.hid ⟨eqB_iff.2 (by rw [hsr]), eqB_iff.2 (by rw [hsr])⟩
  have HCK : Hid (staE p s = E ∧ staE p r = E) := Lib.hid ⟨hE.symm, by rw [hE, hsr]⟩
  clear hsr
  refine wp_region_held_drew (S := fun v => Below w4.heap.size w4 v) (by kernel_rfl) (Below.refl w4.heap.size w4).drew (fun hHeld => ?_)
  refine tkc 0 hHeld (fun w' hSw => cell3_of ((hSw.block _ (heap_lt X1.out)).trans X1.out)) ?_;refine tkc 1 hHeld (fun w' hSw => cell3_of ((hSw.block _ (heap_lt X2.out)).trans X2.out)) ?_;refine tkc 3 hHeld (fun w' hSw => cell3_of ((hSw.block _ (heap_lt X2.out)).trans X2.out)) ?_;refine tkc 4 hHeld (fun w' hSw => cell3_of ((hSw.block _ (heap_lt X1.out)).trans X1.out)) ?_
  have tb := (Below.refl w4.heap.size w4).drew
  generalize w4.drew = qz at tb hHeld ⊢
  have HB := Lib.hid tb
  clear tb
  refine tkr 2 (fun K hK => ?_)
  go_simp
  refine (hc.same _ _ s r _ ((Vs.out.below HB.out).more HB.out.size) ((Vr.out.below HB.out).more HB.out.size)).mono ?_
  rintro e qz ⟨rfl, b⟩
  rw [HEV.out.1]
  have tB := HB.out.trans (b.mono HB.out.size)
  clear HB b
  have HB := Lib.hid tB
  clear tB
  try go_wp2_with fail
  refine hK.out _ _ ?_ fun hHeld => ?_;exact HB.out;clear hK K;try simp only [zn, Act.put]
  refine tkr 5 (fun K hK => ?_)
  go_simp
  refine (hc.same _ _ r s _ ((Vr.out.below HB.out).more HB.out.size) ((Vs.out.below HB.out).more HB.out.size)).mono ?_
  rintro e qz ⟨rfl, b⟩
  rw [HEV.out.2.1]
  have tB := HB.out.trans (b.mono HB.out.size)
  clear HB b
  have HB := Lib.hid tB
  clear tB
  try go_wp2_with fail
  refine hK.out _ _ ?_ fun hHeld => ?_;exact HB.out;clear hK K;try simp only [zn, Act.put]
  refine tk 6 hHeld ?_;refine tk 7 hHeld ?_;refine tkc 8 hHeld (fun w' hSw => cell3_of ((hSw.block _ (heap_lt X1.out)).trans X1.out)) ?_;refine tkc 9 hHeld (fun w' hSw => cell3_of ((hSw.block _ (heap_lt X2.out)).trans X2.out)) ?_;refine tkc 11 hHeld (fun w' hSw => cell3_of ((hSw.block _ (heap_lt X2.out)).trans X2.out)) ?_;refine tkc 12 hHeld (fun w' hSw => cell3_of ((hSw.block _ (heap_lt X1.out)).trans X1.out)) ?_
  refine tkr 10 (fun K hK => ?_)
  rw [if_pos (by rfl)]
  go_simp
  refine (hc.kept _ _ s r _ ((Vs.out.below HB.out).more HB.out.size) ((Vr.out.below HB.out).more HB.out.size)).mono ?_
  rintro e qz ⟨rfl, b⟩
  rw [HKV.out.1]
  have tB := HB.out.trans (b.mono HB.out.size)
  clear HB b
  have HB := Lib.hid tB
  clear tB
  try go_wp2_with fail
  refine hK.out _ _ ?_ fun hHeld => ?_;exact HB.out;clear hK K;try simp only [zn, Act.put]
  refine tkr 13 (fun K hK => ?_)
  rw [if_pos (by rfl)]
  go_simp
  refine (hc.kept _ _ r s _ ((Vr.out.below HB.out).more HB.out.size) ((Vs.out.below HB.out).more HB.out.size)).mono ?_
  rintro e qz ⟨rfl, b⟩
  rw [HKV.out.2]
  have tB := HB.out.trans (b.mono HB.out.size)
  clear HB b
  have HB := Lib.hid tB
  clear tB
  try go_wp2_with fail
  refine hK.out _ _ ?_ fun hHeld => ?_;exact HB.out;clear hK K;try simp only [zn, Act.put]
  refine tk 14 hHeld ?_;refine tk 15 hHeld ?_;refine tk 16 hHeld ?_;refine tkc 17 hHeld (fun w' hSw => cell3_of ((hSw.block _ (heap_lt X1.out)).trans X1.out)) ?_;refine tkc 18 hHeld (fun w' hSw => cell3_of ((hSw.block _ (heap_lt X2.out)).trans X2.out)) ?_
  refine tkr 19 (fun K hK => ?_)
  rw [if_pos (by rfl)]
  go_simp
  refine (hc.same _ _ s r _ ((Vs.out.below HB.out).more HB.out.size) ((Vr.out.below HB.out).more HB.out.size)).mono ?_
  rintro e qz ⟨rfl, b⟩
  rw [HEV.out.1]
  have tB := HB.out.trans (b.mono HB.out.size)
  clear HB b
  have HB := Lib.hid tB
  clear tB
  try go_wp2_with fail
  refine hK.out _ _ ?_ fun hHeld => ?_;exact HB.out;clear hK K;try simp only [zn, Act.put]
  refine tk 20 hHeld ?_;refine tkc 21 hHeld (fun w' hSw => cell3_of ((hSw.block _ (heap_lt X1.out)).trans X1.out)) ?_;refine tkc 22 hHeld (fun w' hSw => cell3_of ((hSw.block _ (heap_lt X2.out)).trans X2.out)) ?_
  refine tkr 23 (fun K hK => ?_)
  rw [if_pos (by rfl)]
  go_simp
  refine (hc.kept _ _ s r _ ((Vs.out.below HB.out).more HB.out.size) ((Vr.out.below HB.out).more HB.out.size)).mono ?_
  rintro e qz ⟨rfl, b⟩
  rw [HKV.out.1]
  have tB := HB.out.trans (b.mono HB.out.size)
  clear HB b
  have HB := Lib.hid tB
  clear tB
  try go_wp2_with fail
  refine hK.out _ _ ?_ fun hHeld => ?_;exact HB.out;clear hK K;try simp only [zn, Act.put]
  refine tk 24 hHeld ?_;refine tk 25 hHeld ?_;refine tk 26 hHeld ?_;refine tk 27 hHeld ?_;refine tkc 28 hHeld (fun w' hSw => cell3_of ((hSw.block _ (heap_lt X1.out)).trans X1.out)) ?_;refine tkc 29 hHeld (fun w' hSw => cell3_of ((hSw.block _ (heap_lt X1.out)).trans X1.out)) ?_
  refine tkr 30 (fun K hK => ?_)
  rw [if_pos (by rfl)]
  go_simp
  refine (hc.twin _ s _ ((Vs.out.below HB.out).more HB.out.size) FEW.out).mono ?_
  rintro e qz ⟨u0, u1, u2, rfl, ho, b⟩
  have OT := Lib.hid ho.in_
  have tB := HB.out.trans (b.mono HB.out.size)
  clear HB b ho
  have HB := Lib.hid tB
  clear tB
  try go_wp2_with fail
  refine hK.out _ _ ?_ fun hHeld => ?_;exact HB.out;clear hK K;try simp only [zn, Act.put]
  refine tkr 31 (fun K hK => ?_)
  rw [if_pos (by rfl)]
  go_simp
  refine (hc.same _ _ s s _ ((Vs.out.below HB.out).more HB.out.size) ⟨_, _, _, rfl, OT.out⟩).mono ?_
  rintro e qz ⟨rfl, b⟩
  rw [eqB_self15]
  have tB := HB.out.trans (b.mono HB.out.size)
  clear HB b
  have HB := Lib.hid tB
  clear tB
  try go_wp2_with fail
  refine hK.out _ _ ?_ fun hHeld => ?_;exact HB.out;clear hK K;try simp only [zn, Act.put]
  refine tk 32 hHeld ?_;refine tk 33 hHeld ?_;refine tk 34 hHeld ?_;refine tkc 35 hHeld (fun w' hSw => cell3_of ((hSw.block _ (heap_lt X1.out)).trans X1.out)) ?_;refine tkc 36 hHeld (fun w' hSw => cell3_of ((hSw.block _ (heap_lt X2.out)).trans X2.out)) ?_
  refine tkr 37 (fun K hK => ?_)
  rw [if_pos (by rfl)]
  go_simp
  refine (hc.same _ _ s r _ ((Vs.out.below HB.out).more HB.out.size) ((Vr.out.below HB.out).more HB.out.size)).mono ?_
  rintro e qz ⟨rfl, b⟩
  rw [HEV.out.1]
  have tB := HB.out.trans (b.mono HB.out.size)
  clear HB b
  have HB := Lib.hid tB
  clear tB
  try go_wp2_with fail
  refine hK.out _ _ ?_ fun hHeld => ?_;exact HB.out;clear hK K;try simp only [zn, Act.put]
  refine tk 38 hHeld ?_;refine tkc 39 hHeld (fun w' hSw => cell6_of ((hSw.block _ (heap_lt X0.out)).trans X0.out)) ?_;refine tkc 40 hHeld (fun w' hSw => cell3_of ((hSw.block _ (heap_lt X1.out)).trans X1.out)) ?_;refine tkc 42 hHeld (fun w' hSw => cell6_of ((hSw.block _ (heap_lt X0.out)).trans X0.out)) ?_;refine tkc 43 hHeld (fun w' hSw => cell3_of ((hSw.block _ (heap_lt X2.out)).trans X2.out)) ?_
  refine tkr 41 (fun K hK => ?_)
  rw [if_pos (by rfl)]
  go_simp
  refine (hc.check _ _ p s _ ((VP.out.below HB.out).more HB.out.size) ((Vs.out.below HB.out).more HB.out.size)).mono ?_
  rintro e qz ⟨rfl, b⟩
  rw [HCK.out.1]
  have tB := HB.out.trans (b.mono HB.out.size)
  clear HB b
  have HB := Lib.hid tB
  clear tB
  try go_wp2_with fail
  refine hK.out _ _ ?_ fun hHeld => ?_;exact HB.out;clear hK K;try simp only [zn, Act.put]
  refine tkr 44 (fun K hK => ?_)
  rw [if_pos (by rfl)]
  go_simp
  refine (hc.check _ _ p r _ ((VP.out.below HB.out).more HB.out.size) ((Vr.out.below HB.out).more HB.out.size)).mono ?_
  rintro e qz ⟨rfl, b⟩
  rw [HCK.out.2]
  have tB := HB.out.trans (b.mono HB.out.size)
  clear HB b
  have HB := Lib.hid tB
  clear tB
  try go_wp2_with fail
  refine hK.out _ _ ?_ fun hHeld => ?_;exact HB.out;clear hK K;try simp only [zn, Act.put]
  refine tk 45 hHeld ?_;refine tk 46 hHeld ?_;refine tk 47 hHeld ?_
  refine wpAnyH_done (by kernel_rfl) ?_ _
  have bN := HB.out
  clear HB hHeld HEV HKV
  replace X0 := Lib.hid ((bN.block _ (heap_lt X0.out)).trans X0.out)
  replace X1 := Lib.hid ((bN.block _ (heap_lt X1.out)).trans X1.out)
  replace X2 := Lib.hid ((bN.block _ (heap_lt X2.out)).trans X2.out)
  replace BQ := Lib.hid (BQ.out.trans (bN.mono BQ.out.size))
  replace VP := Lib.hid ((VP.out.below bN).more bN.size)
  replace Vs := Lib.hid ((Vs.out.below bN).more bN.size)
  replace Vr := Lib.hid ((Vr.out.below bN).more bN.size)
  clear bN
  obtain ⟨l0, l1, l2⟩ := cell3_of X1.out
  obtain ⟨w5, hw5⟩ : ∃ z, z = qz := ⟨_, rfl⟩
  subst hw5
  go_wp2_with fail
  refine (hc.twin _ s _ Vs.out FEW.out).mono ?_
  rintro e wB ⟨u0, u1, u2, rfl, ho, b⟩
  clear l0 l1 l2
  obtain ⟨T0, tc0, rfl⟩ := st_sl ho.in_.tr
  obtain ⟨T1, tc1, rfl⟩ := st_sl ho.in_.sw
  obtain ⟨T2, tc2, rfl⟩ := st_sl ho.in_.lk
  rw [← HNS.out.1, ← HNS.out.2.1, ← HNS.out.2.2] at ho
  rw [← HNS.out.1, ← HNS.out.2.1, ← HNS.out.2.2]
  go_upto_region 7 with ((with_reducible show wpList _ _ _ (⟨none, .store _ _ _, _, _, _, _⟩ :: _) _ _); refine wpList_store_rowS rfl _ (.tmp 10) (.tmp 76) rfl wB.heap.size rfl (c' := #[.slice T0 s0 tc0, .slice T1 s1 tc1, .slice T2 s2 tc2]) rfl (heap_alloc_self wB (.cells #[.slice none 0 0, .slice none 0 0, .slice none 0 0] 26)) infoSt15 rfl (by simp [Value.oneCell']) ?_)
  rw [World.setRow_alloc_new]
  have hx1 := heap_alloc_self wB (.cells #[.slice T0 s0 tc0, .slice T1 s1 tc1, .slice T2 s2 tc2] 26)
  have hb1 := below_new wB (.cells #[.slice T0 s0 tc0, .slice T1 s1 tc1, .slice T2 s2 tc2] 26)
  generalize wB.alloc (.cells #[.slice T0 s0 tc0, .slice T1 s1 tc1, .slice T2 s2 tc2] 26) = w6 at hb1 hx1 ⊢
  have HO := Lib.hid (ho.below hb1)
  have BZ := Lib.hid (b.trans (hb1.mono b.size))
  obtain ⟨p10, hp1⟩ : ∃ n, n = wB.heap.size := ⟨_, rfl⟩
  have HP10 : Hid (w5.heap.size ≤ p10) := Lib.hid (by rw [hp1]; exact b.size)
  rw [← hp1] at hx1 ⊢
  have X10 := Lib.hid hx1
  clear hx1 hp1 hb1 ho b
  obtain ⟨m0, m1, m2⟩ := cell3_of X10.out
  by_cases hn : at_ ≥ 0
  rotate_left
  ·have d0 : decide (at_ ≥ 0) = false := decide_eq_false hn
   go_upto_region 11 with fail
   obtain ⟨wz, hwz⟩ : ∃ z, z = w6 := ⟨_, rfl⟩
   subst hwz
   clear m0 m1 m2
   obtain ⟨i0_, hii, hz0, hz1, hz2⟩ := info_parts infoTrkI15
   have I0 := Lib.hid hii
   have I1 := Lib.hid hz0
   have I2 := Lib.hid hz1
   have I3 := Lib.hid hz2
   have HUL : Hid (s.tr.length = s0) := Lib.hid (by exact HNS.out.1.symm)
   obtain ⟨yss, hown, hyl, hm_, hys, hyr⟩ := HO.out.tr
   have O : Hid (wz.ownsRow w5.heap.size 46 2 (.slice T0 s0 tc0) s0 yss.flatten) := Lib.hid (by have h := hown; rw [HUL.out] at h; exact h)
   have YL := Lib.hid hyl
   have YS := Lib.hid hys
   have YR := Lib.hid hyr
   clear hii hz0 hz1 hz2 hown hyl hm_ hys hyr
   obtain ⟨m0, m1, m2⟩ := cell3_of X10.out
   go_upto_region 12 with ((with_reducible show wpList _ _ _ (⟨some 125, _, _, _, _, _⟩ :: _) _ _); refine wpList_append_list rfl (.tmp 122) (.tmp 124) _ rfl Try.underlying22 I0.out I1.out rfl I2.out (by decide) I3.out (by decide) rfl (O.out.alloc _) rfl (m := 1) (news := [.int .i64 1, .int .u8 0]) rfl (fun h => by cases h) (fun a ha j u hj => by cases ha; rw [Addr.add_lit, Nat.zero_add, World.cell?_alloc_new]; simpa using hj) (by simp [Value.oneCell']) (by have := FEW.out.1; have := HNS.out.1; omega) (by have := BZ.out.size; simp; omega) ?_; intro v4 w9 hown4 hgrow4; have hX9 := box_more15 X10.out _ O.out (by decide) hgrow4; have S4 := ListOwn.snoc (w1 := wz) (x := ((1 : Int), (0 : Int))) (ys := [.int .i64 1, .int .u8 0]) trkR (fun _ h _ _ => h) (show wz.ownsRow w5.heap.size 46 2 (.slice T0 s0 tc0) s.tr.length yss.flatten by rw [HUL.out]; exact O.out) YL.out YS.out rfl (by have := FEW.out.1; have := HNS.out.1; have := HUL.out; unfold maxLen; omega) YR.out (Below.refl _ _) ⟨rfl, rfl, by decide, by decide⟩ (by rw [HUL.out]; exact hown4) hgrow4; obtain ⟨A8, c8, e8⟩ := S4.slice; obtain ⟨L, hL⟩ : ∃ z, z = (s.tr ++ [((1 : Int), (0 : Int))]).length := ⟨_, rfl⟩; rw [← hL] at e8; subst e8; clear hL; obtain ⟨n0_, n1_, n2_⟩ := cell3_of hX9; have fz := frozen2_of hX9 0)
   have hSW := own_off15 (R := SigR) sigF (own_more15 (R := SigR) sigR sigF HO.out.sw _ O.out (by decide) hgrow4) (grown_setK w9 p10 0 (.slice A8 L c8)) (by decide) ⟨_, hX9⟩
   have hLK := own_off15 (R := LckR) lckF (own_more15 (R := LckR) lckR lckF HO.out.lk _ O.out (by decide) hgrow4) (grown_setK w9 p10 0 (.slice A8 L c8)) (by decide) ⟨_, hX9⟩
   have hTR := own_off15 (R := TrkR) trkF S4 (grown_setK w9 p10 0 (.slice A8 L c8)) (by decide) ⟨_, hX9⟩
   have hBY := below_set ((BZ.out.alloc BZ.out.size _).grown hgrow4 (by have := BZ.out.size; simp; omega) (own_ge O.out)) HP10.out 0 (.slice A8 L c8)
   have hXY := heap_setK (k := 0) hX9 (.slice A8 L c8)
   generalize w9.setCell ⟨p10, 0, none⟩ (.slice A8 L c8) = wy at hSW hLK hTR hBY hXY ⊢
   have hOY : StIn wy wy.heap.size (.slice A8 L c8) (.slice T1 s1 tc1) (.slice T2 s2 tc2) ⟨s.tr ++ [((1 : Int), (0 : Int))], s.sw, s.lk⟩ := ⟨hTR.in_ trkR_cells, by rw [← (And.intro (show s.sw = s.sw from rfl) (show s.lk = s.lk from rfl)).1]; exact hSW.in_ sigR_cells, by rw [← (And.intro (show s.sw = s.sw from rfl) (show s.lk = s.lk from rfl)).2]; exact hLK.in_ lckR_cells⟩
   clear fz n0_ n1_ n2_ m0 m1 m2 BZ X10 HO O YL YS YR S4 hX9 hown4 hgrow4 hSW hLK hTR
   have BZ := Lib.hid hBY
   have HY := Lib.hid hOY
   have X10 : Hid (wy.heap[p10]? = some (.cells #[.slice A8 L c8, .slice T1 s1 tc1, .slice T2 s2 tc2] 26 (0, 0))) := Lib.hid hXY
   clear hBY hOY hXY
   obtain ⟨k0, k1, k2, k3, k4, k5⟩ := cell6_of ((BZ.out.block _ (heap_lt X0.out)).trans X0.out)
   obtain ⟨l0, l1, l2⟩ := cell3_of ((BZ.out.block _ (heap_lt X1.out)).trans X1.out)
   go_wp2_with fail
   refine (hc.check _ _ p s wy ((VP.out.below BZ.out).more BZ.out.size) ((Vs.out.below BZ.out).more BZ.out.size)).mono ?_
   rintro e wv ⟨rfl, b⟩
   rw [← HEE.out]
   clear k0 k1 k2 k3 k4 k5 l0 l1 l2
   have tB := BZ.out.trans (b.mono BZ.out.size)
   have tX := (b.block _ (heap_lt X10.out)).trans X10.out
   have tO := (HY.out.below b).more b.size
   clear BZ X10 HY b
   have BZ := Lib.hid tB
   have X10 := Lib.hid tX
   have HY := Lib.hid tO
   clear tB tX tO
   by_cases hE1 : E = 0
   rotate_left
   ·have dE1 : (E != 0) = true := by simpa using hE1
    have BF := Lib.hid (BQ.out.trans (BZ.out.mono BQ.out.size))
    go_wp2_with fail
    go_ret
    exact ⟨rfl, BF.out⟩
   have dE1 : (E != 0) = false := by simpa using hE1
   have HB8 : Hid (staE p ⟨s.tr ++ [((1 : Int), (0 : Int))], s.sw, s.lk⟩ = 8) := Lib.hid (by
    have hm : StMay p s := staE_may15 (by rw [← HEE.out]; exact hE1)
    rw [staE, if_pos (soundP_true hm.sound), stMay_no.2 (more_bad hm (fun e => by have h1 := HUL.out; have h2 := HNS.out.1; rw [List.length_append, h1] at e; simp only [List.length_cons, List.length_nil] at e; omega))]
    rfl)
   obtain ⟨k0, k1, k2, k3, k4, k5⟩ := cell6_of ((BZ.out.block _ (heap_lt X0.out)).trans X0.out)
   obtain ⟨m0, m1, m2⟩ := cell3_of X10.out
   go_wp2_with fail
   refine (hc.check _ _ p _ wv ((VP.out.below BZ.out).more BZ.out.size) ⟨_, _, _, rfl, HY.out⟩).mono ?_
   rintro e wu ⟨rfl, b⟩
   rw [HB8.out]
   have BF := Lib.hid (BQ.out.trans ((BZ.out.trans (b.mono BZ.out.size)).mono BQ.out.size))
   clear k0 k1 k2 k3 k4 k5 m0 m1 m2 b
   go_wp2_with fail
   go_ret
   exact ⟨rfl, BF.out⟩
  have d0 : decide (at_ ≥ 0) = true := decide_eq_true hn
  by_cases hg : at_ < (s0 : Int)
  rotate_left
  ·have d1 : decide (at_ < (s0 : Int)) = false := decide_eq_false hg
   go_upto_region 11 with fail
   obtain ⟨wz, hwz⟩ : ∃ z, z = w6 := ⟨_, rfl⟩
   subst hwz
   clear m0 m1 m2
   obtain ⟨i0_, hii, hz0, hz1, hz2⟩ := info_parts infoTrkI15
   have I0 := Lib.hid hii
   have I1 := Lib.hid hz0
   have I2 := Lib.hid hz1
   have I3 := Lib.hid hz2
   have HUL : Hid (s.tr.length = s0) := Lib.hid (by exact HNS.out.1.symm)
   obtain ⟨yss, hown, hyl, hm_, hys, hyr⟩ := HO.out.tr
   have O : Hid (wz.ownsRow w5.heap.size 46 2 (.slice T0 s0 tc0) s0 yss.flatten) := Lib.hid (by have h := hown; rw [HUL.out] at h; exact h)
   have YL := Lib.hid hyl
   have YS := Lib.hid hys
   have YR := Lib.hid hyr
   clear hii hz0 hz1 hz2 hown hyl hm_ hys hyr
   obtain ⟨m0, m1, m2⟩ := cell3_of X10.out
   go_upto_region 12 with ((with_reducible show wpList _ _ _ (⟨some 125, _, _, _, _, _⟩ :: _) _ _); refine wpList_append_list rfl (.tmp 122) (.tmp 124) _ rfl Try.underlying22 I0.out I1.out rfl I2.out (by decide) I3.out (by decide) rfl (O.out.alloc _) rfl (m := 1) (news := [.int .i64 1, .int .u8 0]) rfl (fun h => by cases h) (fun a ha j u hj => by cases ha; rw [Addr.add_lit, Nat.zero_add, World.cell?_alloc_new]; simpa using hj) (by simp [Value.oneCell']) (by have := FEW.out.1; have := HNS.out.1; omega) (by have := BZ.out.size; simp; omega) ?_; intro v4 w9 hown4 hgrow4; have hX9 := box_more15 X10.out _ O.out (by decide) hgrow4; have S4 := ListOwn.snoc (w1 := wz) (x := ((1 : Int), (0 : Int))) (ys := [.int .i64 1, .int .u8 0]) trkR (fun _ h _ _ => h) (show wz.ownsRow w5.heap.size 46 2 (.slice T0 s0 tc0) s.tr.length yss.flatten by rw [HUL.out]; exact O.out) YL.out YS.out rfl (by have := FEW.out.1; have := HNS.out.1; have := HUL.out; unfold maxLen; omega) YR.out (Below.refl _ _) ⟨rfl, rfl, by decide, by decide⟩ (by rw [HUL.out]; exact hown4) hgrow4; obtain ⟨A8, c8, e8⟩ := S4.slice; obtain ⟨L, hL⟩ : ∃ z, z = (s.tr ++ [((1 : Int), (0 : Int))]).length := ⟨_, rfl⟩; rw [← hL] at e8; subst e8; clear hL; obtain ⟨n0_, n1_, n2_⟩ := cell3_of hX9; have fz := frozen2_of hX9 0)
   have hSW := own_off15 (R := SigR) sigF (own_more15 (R := SigR) sigR sigF HO.out.sw _ O.out (by decide) hgrow4) (grown_setK w9 p10 0 (.slice A8 L c8)) (by decide) ⟨_, hX9⟩
   have hLK := own_off15 (R := LckR) lckF (own_more15 (R := LckR) lckR lckF HO.out.lk _ O.out (by decide) hgrow4) (grown_setK w9 p10 0 (.slice A8 L c8)) (by decide) ⟨_, hX9⟩
   have hTR := own_off15 (R := TrkR) trkF S4 (grown_setK w9 p10 0 (.slice A8 L c8)) (by decide) ⟨_, hX9⟩
   have hBY := below_set ((BZ.out.alloc BZ.out.size _).grown hgrow4 (by have := BZ.out.size; simp; omega) (own_ge O.out)) HP10.out 0 (.slice A8 L c8)
   have hXY := heap_setK (k := 0) hX9 (.slice A8 L c8)
   generalize w9.setCell ⟨p10, 0, none⟩ (.slice A8 L c8) = wy at hSW hLK hTR hBY hXY ⊢
   have hOY : StIn wy wy.heap.size (.slice A8 L c8) (.slice T1 s1 tc1) (.slice T2 s2 tc2) ⟨s.tr ++ [((1 : Int), (0 : Int))], s.sw, s.lk⟩ := ⟨hTR.in_ trkR_cells, by rw [← (And.intro (show s.sw = s.sw from rfl) (show s.lk = s.lk from rfl)).1]; exact hSW.in_ sigR_cells, by rw [← (And.intro (show s.sw = s.sw from rfl) (show s.lk = s.lk from rfl)).2]; exact hLK.in_ lckR_cells⟩
   clear fz n0_ n1_ n2_ m0 m1 m2 BZ X10 HO O YL YS YR S4 hX9 hown4 hgrow4 hSW hLK hTR
   have BZ := Lib.hid hBY
   have HY := Lib.hid hOY
   have X10 : Hid (wy.heap[p10]? = some (.cells #[.slice A8 L c8, .slice T1 s1 tc1, .slice T2 s2 tc2] 26 (0, 0))) := Lib.hid hXY
   clear hBY hOY hXY
   obtain ⟨k0, k1, k2, k3, k4, k5⟩ := cell6_of ((BZ.out.block _ (heap_lt X0.out)).trans X0.out)
   obtain ⟨l0, l1, l2⟩ := cell3_of ((BZ.out.block _ (heap_lt X1.out)).trans X1.out)
   go_wp2_with fail
   refine (hc.check _ _ p s wy ((VP.out.below BZ.out).more BZ.out.size) ((Vs.out.below BZ.out).more BZ.out.size)).mono ?_
   rintro e wv ⟨rfl, b⟩
   rw [← HEE.out]
   clear k0 k1 k2 k3 k4 k5 l0 l1 l2
   have tB := BZ.out.trans (b.mono BZ.out.size)
   have tX := (b.block _ (heap_lt X10.out)).trans X10.out
   have tO := (HY.out.below b).more b.size
   clear BZ X10 HY b
   have BZ := Lib.hid tB
   have X10 := Lib.hid tX
   have HY := Lib.hid tO
   clear tB tX tO
   by_cases hE1 : E = 0
   rotate_left
   ·have dE1 : (E != 0) = true := by simpa using hE1
    have BF := Lib.hid (BQ.out.trans (BZ.out.mono BQ.out.size))
    go_wp2_with fail
    go_ret
    exact ⟨rfl, BF.out⟩
   have dE1 : (E != 0) = false := by simpa using hE1
   have HB8 : Hid (staE p ⟨s.tr ++ [((1 : Int), (0 : Int))], s.sw, s.lk⟩ = 8) := Lib.hid (by
    have hm : StMay p s := staE_may15 (by rw [← HEE.out]; exact hE1)
    rw [staE, if_pos (soundP_true hm.sound), stMay_no.2 (more_bad hm (fun e => by have h1 := HUL.out; have h2 := HNS.out.1; rw [List.length_append, h1] at e; simp only [List.length_cons, List.length_nil] at e; omega))]
    rfl)
   obtain ⟨k0, k1, k2, k3, k4, k5⟩ := cell6_of ((BZ.out.block _ (heap_lt X0.out)).trans X0.out)
   obtain ⟨m0, m1, m2⟩ := cell3_of X10.out
   go_wp2_with fail
   refine (hc.check _ _ p _ wv ((VP.out.below BZ.out).more BZ.out.size) ⟨_, _, _, rfl, HY.out⟩).mono ?_
   rintro e wu ⟨rfl, b⟩
   rw [HB8.out]
   have BF := Lib.hid (BQ.out.trans ((BZ.out.trans (b.mono BZ.out.size)).mono BQ.out.size))
   clear k0 k1 k2 k3 k4 k5 m0 m1 m2 b
   go_wp2_with fail
   go_ret
   exact ⟨rfl, BF.out⟩
  have d1 : decide (at_ < (s0 : Int)) = true := decide_eq_true hg
  obtain ⟨i, rfl⟩ : ∃ i : Nat, at_ = (i : Int) := ⟨at_.toNat, by omega⟩
  have his : i < s.tr.length := by have := HNS.out; omega
  have hlt' : (i : Int) < s0 := by omega
  obtain ⟨x2, hx2⟩ : ∃ z, z = s.tr[i].2 := ⟨_, rfl⟩
  obtain ⟨bt, ot, et, hbt, hc0, hc1, hr1, hr2⟩ := HO.out.in_.tr.at his
  obtain ⟨g, cg, eg, hlog, ⟨cur, hcur⟩, -⟩ := st_setTr HO.out his (z := (x2 % 3 + 1) % 3) (by omega)
  rw [et] at eg
  injection eg with e1 e2 e3
  injection e1 with e1
  injection e1 with e1 e4
  subst e1
  subst e4
  subst et
  rw [← hx2] at hc1 hr1 hr2
  have g1 : w6.cell? ⟨bt, i * 2 + 1, none⟩ = some (.int .u8 x2) := by simpa using hc1
  have HX2 : Hid (0 ≤ x2 ∧ x2 < 256) := Lib.hid ⟨hr1, hr2⟩
  have fz := frozen2_of hcur (i * 2 + 1)
  clear hc0 hc1 hbt e2 e3 hr1 hr2
  have HCUR := Lib.hid hcur
  obtain ⟨zz, hzz⟩ : ∃ z, z = (x2.tmod 3 + 1) % 256 % 3 := ⟨_, rfl⟩
  have HZZ : Hid (0 ≤ zz ∧ zz ≤ 2 ∧ zz ≠ x2) := Lib.hid (by
   have hm : x2.tmod 3 = x2 % 3 := Int.tmod_eq_emod_of_nonneg HX2.out.1
   rw [hm] at hzz
   have := HX2.out
   omega)
  have HUN : Hid (({s with tr := s.tr.set i (s.tr[i].1, zz)} : St15) ≠ s) := Lib.hid (fun e => by
   have e1 : s.tr.set i (s.tr[i].1, zz) = s.tr := congrArg St15.tr e
   have e2 : (s.tr.set i (s.tr[i].1, zz))[i]? = s.tr[i]? := by rw [e1]
   rw [List.getElem?_set_self his, List.getElem?_eq_getElem his, Option.some.injEq] at e2
   have e3 : zz = s.tr[i].2 := congrArg Prod.snd e2
   rw [← hx2] at e3
   exact HZZ.out.2.2 e3)
  obtain ⟨gz, cz, ez, hloz, -, hset⟩ := st_setTr HO.out his (z := zz) (by have := HZZ.out; omega)
  injection ez with ez1 ez2 ez3
  injection ez1 with ez1
  injection ez1 with ez1 ez4
  subst ez1
  have HSET := Lib.hid hset
  have HLO := Lib.hid hloz
  have HIS := Lib.hid his
  clear hx2 hset hloz ez2 ez3 ez4 hn hg
  go_upto_region 8 with fail
  go_region
  rw [← hzz]
  have hd := (Below.refl (w6.setCell ⟨bt, i * 2 + 1, none⟩ (.int .u8 zz)).heap.size (w6.setCell ⟨bt, i * 2 + 1, none⟩ (.int .u8 zz))).drew
  have hB7 := (below_set BZ.out HLO.out (i * 2 + 1) (.int .u8 zz)).trans (hd.mono (below_set BZ.out HLO.out (i * 2 + 1) (.int .u8 zz)).size)
  have hX7 := (hd.block _ (heap_lt ((heap_setFar w6 bt (i * 2 + 1) p10 (.int .u8 zz) (fun e => by
   have h1 := X10.out
   rw [e, HCUR.out] at h1
   injection h1 with h1
   injection h1 with _ h2 _
   exact absurd h2 (by decide))).trans X10.out))).trans ((heap_setFar w6 bt (i * 2 + 1) p10 (.int .u8 zz) (fun e => by
   have h1 := X10.out
   rw [e, HCUR.out] at h1
   injection h1 with h1
   injection h1 with _ h2 _
   exact absurd h2 (by decide))).trans X10.out)
  have hO7 := HSET.out.below hd
  generalize (w6.setCell ⟨bt, i * 2 + 1, none⟩ (.int .u8 zz)).drew = w7 at hd hB7 hX7 hO7 ⊢
  clear BZ X10 HO HSET HCUR hd g1 fz hcur hzz m0 m1 m2
  have BZ := Lib.hid hB7
  have X10 := Lib.hid hX7
  have HO := Lib.hid hO7
  clear hB7 hX7 hO7
  obtain ⟨u, hu⟩ : ∃ z, z = ({s with tr := s.tr.set i (s.tr[i].1, zz)} : St15) := ⟨_, rfl⟩
  have HU := Lib.hid hu
  have HO2 : Hid (StOwn w7 w5.heap.size (.slice (some ⟨bt, 0, none⟩) s0 tc0) (.slice T1 s1 tc1) (.slice T2 s2 tc2) u) := Lib.hid (by rw [hu]; exact HO.out)
  have HUN2 : Hid (u ≠ s) := Lib.hid (by rw [hu]; exact HUN.out)
  clear HO HUN
  have HO := HO2
  have HUN := HUN2
  clear HO2 HUN2
  clear hu
  obtain ⟨wz, hwz⟩ : ∃ z, z = w7 := ⟨_, rfl⟩
  subst hwz
  obtain ⟨l0, l1, l2⟩ := cell3_of ((BZ.out.block _ (heap_lt X1.out)).trans X1.out)
  obtain ⟨m0, m1, m2⟩ := cell3_of X10.out
  go_wp2_with fail
  refine (hc.kept _ _ s u wz ((Vs.out.below BZ.out).more BZ.out.size) ⟨_, _, _, rfl, HO.out.in_⟩).mono ?_
  rintro e wz ⟨rfl, b⟩
  rw [show eqB (keptS s) (keptS u) = true from by rw [HU.out]; exact eqB_self15 _]
  clear l0 l1 l2
  clear m0 m1 m2
  have tB := BZ.out.trans (b.mono BZ.out.size)
  have tX := (b.block _ (heap_lt X10.out)).trans X10.out
  have tO := HO.out.below b
  clear BZ X10 HO b
  have BZ := Lib.hid tB
  have X10 := Lib.hid tX
  have HO := Lib.hid tO
  clear tB tX tO
  obtain ⟨l0, l1, l2⟩ := cell3_of ((BZ.out.block _ (heap_lt X1.out)).trans X1.out)
  obtain ⟨m0, m1, m2⟩ := cell3_of X10.out
  go_wp2_with fail
  refine (hc.same _ _ s u wz ((Vs.out.below BZ.out).more BZ.out.size) ⟨_, _, _, rfl, HO.out.in_⟩).mono ?_
  rintro e wz ⟨rfl, b⟩
  rw [show eqB s u = false from by rw [← Bool.not_eq_true, eqB_iff]; exact fun e => HUN.out e.symm]
  clear l0 l1 l2
  clear m0 m1 m2
  have tB := BZ.out.trans (b.mono BZ.out.size)
  have tX := (b.block _ (heap_lt X10.out)).trans X10.out
  have tO := HO.out.below b
  clear BZ X10 HO b
  have BZ := Lib.hid tB
  have X10 := Lib.hid tX
  have HO := Lib.hid tO
  clear tB tX tO
  obtain ⟨k0, k1, k2, k3, k4, k5⟩ := cell6_of ((BZ.out.block _ (heap_lt X0.out)).trans X0.out)
  obtain ⟨l0, l1, l2⟩ := cell3_of ((BZ.out.block _ (heap_lt X1.out)).trans X1.out)
  go_wp2_with fail
  refine (hc.check _ _ p s wz ((VP.out.below BZ.out).more BZ.out.size) ((Vs.out.below BZ.out).more BZ.out.size)).mono ?_
  rintro e wz ⟨rfl, b⟩
  rw [← HEE.out]
  clear k0 k1 k2 k3 k4 k5
  clear l0 l1 l2
  have tB := BZ.out.trans (b.mono BZ.out.size)
  have tX := (b.block _ (heap_lt X10.out)).trans X10.out
  have tO := HO.out.below b
  clear BZ X10 HO b
  have BZ := Lib.hid tB
  have X10 := Lib.hid tX
  have HO := Lib.hid tO
  clear tB tX tO
  by_cases hE0 : E = 0
  ·have dE : (E == 0) = true := by simpa using hE0
   have HM := Lib.hid (staE_may15 (by rw [← HEE.out]; exact hE0) : StMay p s)
   obtain ⟨k0, k1, k2, k3, k4, k5⟩ := cell6_of ((BZ.out.block _ (heap_lt X0.out)).trans X0.out)
   obtain ⟨m0, m1, m2⟩ := cell3_of X10.out
   go_wp2_with fail
   refine (hc.check _ _ p u wz ((VP.out.below BZ.out).more BZ.out.size) ⟨_, _, _, rfl, HO.out.in_⟩).mono ?_
   rintro e wz ⟨rfl, b⟩
   rw [show staE p u = 0 from by rw [HU.out]; exact staE_zero15 (tracks_may HM.out HIS.out HZZ.out.2.1)]
   clear k0 k1 k2 k3 k4 k5
   clear m0 m1 m2
   have tB := BZ.out.trans (b.mono BZ.out.size)
   have tX := (b.block _ (heap_lt X10.out)).trans X10.out
   have tO := HO.out.below b
   clear BZ X10 HO b
   have BZ := Lib.hid tB
   have X10 := Lib.hid tX
   have HO := Lib.hid tO
   clear tB tX tO
   go_upto_region 11 with fail
   obtain ⟨i0_, hii, hz0, hz1, hz2⟩ := info_parts infoTrkI15
   have I0 := Lib.hid hii
   have I1 := Lib.hid hz0
   have I2 := Lib.hid hz1
   have I3 := Lib.hid hz2
   have HUL : Hid (u.tr.length = s0) := Lib.hid (by rw [HU.out]; simp only [List.length_set]; exact HNS.out.1.symm)
   obtain ⟨yss, hown, hyl, hm_, hys, hyr⟩ := HO.out.tr
   have O : Hid (wz.ownsRow w5.heap.size 46 2 (.slice (some ⟨bt, 0, none⟩) s0 tc0) s0 yss.flatten) := Lib.hid (by have h := hown; rw [HUL.out] at h; exact h)
   have YL := Lib.hid hyl
   have YS := Lib.hid hys
   have YR := Lib.hid hyr
   clear hii hz0 hz1 hz2 hown hyl hm_ hys hyr
   obtain ⟨m0, m1, m2⟩ := cell3_of X10.out
   go_upto_region 12 with ((with_reducible show wpList _ _ _ (⟨some 125, _, _, _, _, _⟩ :: _) _ _); refine wpList_append_list rfl (.tmp 122) (.tmp 124) _ rfl Try.underlying22 I0.out I1.out rfl I2.out (by decide) I3.out (by decide) rfl (O.out.alloc _) rfl (m := 1) (news := [.int .i64 1, .int .u8 0]) rfl (fun h => by cases h) (fun a ha j u hj => by cases ha; rw [Addr.add_lit, Nat.zero_add, World.cell?_alloc_new]; simpa using hj) (by simp [Value.oneCell']) (by have := FEW.out.1; have := HNS.out.1; omega) (by have := BZ.out.size; simp; omega) ?_; intro v4 w9 hown4 hgrow4; have hX9 := box_more15 X10.out _ O.out (by decide) hgrow4; have S4 := ListOwn.snoc (w1 := wz) (x := ((1 : Int), (0 : Int))) (ys := [.int .i64 1, .int .u8 0]) trkR (fun _ h _ _ => h) (show wz.ownsRow w5.heap.size 46 2 (.slice (some ⟨bt, 0, none⟩) s0 tc0) u.tr.length yss.flatten by rw [HUL.out]; exact O.out) YL.out YS.out rfl (by have := FEW.out.1; have := HNS.out.1; have := HUL.out; unfold maxLen; omega) YR.out (Below.refl _ _) ⟨rfl, rfl, by decide, by decide⟩ (by rw [HUL.out]; exact hown4) hgrow4; obtain ⟨A8, c8, e8⟩ := S4.slice; obtain ⟨L, hL⟩ : ∃ z, z = (u.tr ++ [((1 : Int), (0 : Int))]).length := ⟨_, rfl⟩; rw [← hL] at e8; subst e8; clear hL; obtain ⟨n0_, n1_, n2_⟩ := cell3_of hX9; have fz := frozen2_of hX9 0)
   have hSW := own_off15 (R := SigR) sigF (own_more15 (R := SigR) sigR sigF HO.out.sw _ O.out (by decide) hgrow4) (grown_setK w9 p10 0 (.slice A8 L c8)) (by decide) ⟨_, hX9⟩
   have hLK := own_off15 (R := LckR) lckF (own_more15 (R := LckR) lckR lckF HO.out.lk _ O.out (by decide) hgrow4) (grown_setK w9 p10 0 (.slice A8 L c8)) (by decide) ⟨_, hX9⟩
   have hTR := own_off15 (R := TrkR) trkF S4 (grown_setK w9 p10 0 (.slice A8 L c8)) (by decide) ⟨_, hX9⟩
   have hBY := below_set ((BZ.out.alloc BZ.out.size _).grown hgrow4 (by have := BZ.out.size; simp; omega) (own_ge O.out)) HP10.out 0 (.slice A8 L c8)
   have hXY := heap_setK (k := 0) hX9 (.slice A8 L c8)
   generalize w9.setCell ⟨p10, 0, none⟩ (.slice A8 L c8) = wy at hSW hLK hTR hBY hXY ⊢
   have hOY : StIn wy wy.heap.size (.slice A8 L c8) (.slice T1 s1 tc1) (.slice T2 s2 tc2) ⟨u.tr ++ [((1 : Int), (0 : Int))], s.sw, s.lk⟩ := ⟨hTR.in_ trkR_cells, by rw [← (And.intro (show u.sw = s.sw by rw [HU.out]) (show u.lk = s.lk by rw [HU.out])).1]; exact hSW.in_ sigR_cells, by rw [← (And.intro (show u.sw = s.sw by rw [HU.out]) (show u.lk = s.lk by rw [HU.out])).2]; exact hLK.in_ lckR_cells⟩
   clear fz n0_ n1_ n2_ m0 m1 m2 BZ X10 HO O YL YS YR S4 hX9 hown4 hgrow4 hSW hLK hTR
   have BZ := Lib.hid hBY
   have HY := Lib.hid hOY
   have X10 : Hid (wy.heap[p10]? = some (.cells #[.slice A8 L c8, .slice T1 s1 tc1, .slice T2 s2 tc2] 26 (0, 0))) := Lib.hid hXY
   clear hBY hOY hXY
   obtain ⟨k0, k1, k2, k3, k4, k5⟩ := cell6_of ((BZ.out.block _ (heap_lt X0.out)).trans X0.out)
   obtain ⟨l0, l1, l2⟩ := cell3_of ((BZ.out.block _ (heap_lt X1.out)).trans X1.out)
   go_wp2_with fail
   refine (hc.check _ _ p s wy ((VP.out.below BZ.out).more BZ.out.size) ((Vs.out.below BZ.out).more BZ.out.size)).mono ?_
   rintro e wv ⟨rfl, b⟩
   rw [← HEE.out]
   clear k0 k1 k2 k3 k4 k5 l0 l1 l2
   have tB := BZ.out.trans (b.mono BZ.out.size)
   have tX := (b.block _ (heap_lt X10.out)).trans X10.out
   have tO := (HY.out.below b).more b.size
   clear BZ X10 HY b
   have BZ := Lib.hid tB
   have X10 := Lib.hid tX
   have HY := Lib.hid tO
   clear tB tX tO
   have hE1 : E = 0 := hE0
   have dE1 : (E != 0) = false := by simpa using hE1
   have HB8 : Hid (staE p ⟨u.tr ++ [((1 : Int), (0 : Int))], s.sw, s.lk⟩ = 8) := Lib.hid (by
    have hm : StMay p s := staE_may15 (by rw [← HEE.out]; exact hE1)
    rw [staE, if_pos (soundP_true hm.sound), stMay_no.2 (more_bad hm (fun e => by have h1 := HUL.out; have h2 := HNS.out.1; rw [List.length_append, h1] at e; simp only [List.length_cons, List.length_nil] at e; omega))]
    rfl)
   obtain ⟨k0, k1, k2, k3, k4, k5⟩ := cell6_of ((BZ.out.block _ (heap_lt X0.out)).trans X0.out)
   obtain ⟨m0, m1, m2⟩ := cell3_of X10.out
   go_wp2_with fail
   refine (hc.check _ _ p _ wv ((VP.out.below BZ.out).more BZ.out.size) ⟨_, _, _, rfl, HY.out⟩).mono ?_
   rintro e wu ⟨rfl, b⟩
   rw [HB8.out]
   have BF := Lib.hid (BQ.out.trans ((BZ.out.trans (b.mono BZ.out.size)).mono BQ.out.size))
   clear k0 k1 k2 k3 k4 k5 m0 m1 m2 b
   go_wp2_with fail
   go_ret
   exact ⟨rfl, BF.out⟩
  ·have dE : (E == 0) = false := by simpa using hE0
   go_upto_region 11 with fail
   obtain ⟨i0_, hii, hz0, hz1, hz2⟩ := info_parts infoTrkI15
   have I0 := Lib.hid hii
   have I1 := Lib.hid hz0
   have I2 := Lib.hid hz1
   have I3 := Lib.hid hz2
   have HUL : Hid (u.tr.length = s0) := Lib.hid (by rw [HU.out]; simp only [List.length_set]; exact HNS.out.1.symm)
   obtain ⟨yss, hown, hyl, hm_, hys, hyr⟩ := HO.out.tr
   have O : Hid (wz.ownsRow w5.heap.size 46 2 (.slice (some ⟨bt, 0, none⟩) s0 tc0) s0 yss.flatten) := Lib.hid (by have h := hown; rw [HUL.out] at h; exact h)
   have YL := Lib.hid hyl
   have YS := Lib.hid hys
   have YR := Lib.hid hyr
   clear hii hz0 hz1 hz2 hown hyl hm_ hys hyr
   obtain ⟨m0, m1, m2⟩ := cell3_of X10.out
   go_upto_region 12 with ((with_reducible show wpList _ _ _ (⟨some 125, _, _, _, _, _⟩ :: _) _ _); refine wpList_append_list rfl (.tmp 122) (.tmp 124) _ rfl Try.underlying22 I0.out I1.out rfl I2.out (by decide) I3.out (by decide) rfl (O.out.alloc _) rfl (m := 1) (news := [.int .i64 1, .int .u8 0]) rfl (fun h => by cases h) (fun a ha j u hj => by cases ha; rw [Addr.add_lit, Nat.zero_add, World.cell?_alloc_new]; simpa using hj) (by simp [Value.oneCell']) (by have := FEW.out.1; have := HNS.out.1; omega) (by have := BZ.out.size; simp; omega) ?_; intro v4 w9 hown4 hgrow4; have hX9 := box_more15 X10.out _ O.out (by decide) hgrow4; have S4 := ListOwn.snoc (w1 := wz) (x := ((1 : Int), (0 : Int))) (ys := [.int .i64 1, .int .u8 0]) trkR (fun _ h _ _ => h) (show wz.ownsRow w5.heap.size 46 2 (.slice (some ⟨bt, 0, none⟩) s0 tc0) u.tr.length yss.flatten by rw [HUL.out]; exact O.out) YL.out YS.out rfl (by have := FEW.out.1; have := HNS.out.1; have := HUL.out; unfold maxLen; omega) YR.out (Below.refl _ _) ⟨rfl, rfl, by decide, by decide⟩ (by rw [HUL.out]; exact hown4) hgrow4; obtain ⟨A8, c8, e8⟩ := S4.slice; obtain ⟨L, hL⟩ : ∃ z, z = (u.tr ++ [((1 : Int), (0 : Int))]).length := ⟨_, rfl⟩; rw [← hL] at e8; subst e8; clear hL; obtain ⟨n0_, n1_, n2_⟩ := cell3_of hX9; have fz := frozen2_of hX9 0)
   have hSW := own_off15 (R := SigR) sigF (own_more15 (R := SigR) sigR sigF HO.out.sw _ O.out (by decide) hgrow4) (grown_setK w9 p10 0 (.slice A8 L c8)) (by decide) ⟨_, hX9⟩
   have hLK := own_off15 (R := LckR) lckF (own_more15 (R := LckR) lckR lckF HO.out.lk _ O.out (by decide) hgrow4) (grown_setK w9 p10 0 (.slice A8 L c8)) (by decide) ⟨_, hX9⟩
   have hTR := own_off15 (R := TrkR) trkF S4 (grown_setK w9 p10 0 (.slice A8 L c8)) (by decide) ⟨_, hX9⟩
   have hBY := below_set ((BZ.out.alloc BZ.out.size _).grown hgrow4 (by have := BZ.out.size; simp; omega) (own_ge O.out)) HP10.out 0 (.slice A8 L c8)
   have hXY := heap_setK (k := 0) hX9 (.slice A8 L c8)
   generalize w9.setCell ⟨p10, 0, none⟩ (.slice A8 L c8) = wy at hSW hLK hTR hBY hXY ⊢
   have hOY : StIn wy wy.heap.size (.slice A8 L c8) (.slice T1 s1 tc1) (.slice T2 s2 tc2) ⟨u.tr ++ [((1 : Int), (0 : Int))], s.sw, s.lk⟩ := ⟨hTR.in_ trkR_cells, by rw [← (And.intro (show u.sw = s.sw by rw [HU.out]) (show u.lk = s.lk by rw [HU.out])).1]; exact hSW.in_ sigR_cells, by rw [← (And.intro (show u.sw = s.sw by rw [HU.out]) (show u.lk = s.lk by rw [HU.out])).2]; exact hLK.in_ lckR_cells⟩
   clear fz n0_ n1_ n2_ m0 m1 m2 BZ X10 HO O YL YS YR S4 hX9 hown4 hgrow4 hSW hLK hTR
   have BZ := Lib.hid hBY
   have HY := Lib.hid hOY
   have X10 : Hid (wy.heap[p10]? = some (.cells #[.slice A8 L c8, .slice T1 s1 tc1, .slice T2 s2 tc2] 26 (0, 0))) := Lib.hid hXY
   clear hBY hOY hXY
   obtain ⟨k0, k1, k2, k3, k4, k5⟩ := cell6_of ((BZ.out.block _ (heap_lt X0.out)).trans X0.out)
   obtain ⟨l0, l1, l2⟩ := cell3_of ((BZ.out.block _ (heap_lt X1.out)).trans X1.out)
   go_wp2_with fail
   refine (hc.check _ _ p s wy ((VP.out.below BZ.out).more BZ.out.size) ((Vs.out.below BZ.out).more BZ.out.size)).mono ?_
   rintro e wv ⟨rfl, b⟩
   rw [← HEE.out]
   clear k0 k1 k2 k3 k4 k5 l0 l1 l2
   have tB := BZ.out.trans (b.mono BZ.out.size)
   have tX := (b.block _ (heap_lt X10.out)).trans X10.out
   have tO := (HY.out.below b).more b.size
   clear BZ X10 HY b
   have BZ := Lib.hid tB
   have X10 := Lib.hid tX
   have HY := Lib.hid tO
   clear tB tX tO
   have dE1 : (E != 0) = true := by simpa using hE0
   have BF := Lib.hid (BQ.out.trans (BZ.out.mono BQ.out.size))
   go_wp2_with fail
   go_ret
   exact ⟨rfl, BF.out⟩
 by_cases hk : keptS s = keptS r
 ·have HEV : Hid (eqB s r = false ∧ eqB r s = false ∧ True) := Lib.hid ⟨by rw [← Bool.not_eq_true, eqB_iff]; exact hsr, by rw [← Bool.not_eq_true, eqB_iff]; exact fun e => hsr e.symm, trivial⟩
  have HKV : Hid (eqB (keptS s) (keptS r) = true ∧ eqB (keptS r) (keptS s) = true) := Lib.hid ⟨eqB_iff.2 hk, eqB_iff.2 hk.symm⟩
  clear hsr hk
  refine wp_region_held_drew (S := fun v => Below w4.heap.size w4 v) (by kernel_rfl) (Below.refl w4.heap.size w4).drew (fun hHeld => ?_)
  refine tkc 0 hHeld (fun w' hSw => cell3_of ((hSw.block _ (heap_lt X1.out)).trans X1.out)) ?_;refine tkc 1 hHeld (fun w' hSw => cell3_of ((hSw.block _ (heap_lt X2.out)).trans X2.out)) ?_;refine tkc 3 hHeld (fun w' hSw => cell3_of ((hSw.block _ (heap_lt X2.out)).trans X2.out)) ?_;refine tkc 4 hHeld (fun w' hSw => cell3_of ((hSw.block _ (heap_lt X1.out)).trans X1.out)) ?_
  have tb := (Below.refl w4.heap.size w4).drew
  generalize w4.drew = qz at tb hHeld ⊢
  have HB := Lib.hid tb
  clear tb
  refine tkr 2 (fun K hK => ?_)
  go_simp
  refine (hc.same _ _ s r _ ((Vs.out.below HB.out).more HB.out.size) ((Vr.out.below HB.out).more HB.out.size)).mono ?_
  rintro e qz ⟨rfl, b⟩
  rw [HEV.out.1]
  have tB := HB.out.trans (b.mono HB.out.size)
  clear HB b
  have HB := Lib.hid tB
  clear tB
  try go_wp2_with fail
  refine hK.out _ _ ?_ fun hHeld => ?_;exact HB.out;clear hK K;try simp only [zn, Act.put]
  refine tkr 5 (fun K hK => ?_)
  go_simp
  refine (hc.same _ _ r s _ ((Vr.out.below HB.out).more HB.out.size) ((Vs.out.below HB.out).more HB.out.size)).mono ?_
  rintro e qz ⟨rfl, b⟩
  rw [HEV.out.2.1]
  have tB := HB.out.trans (b.mono HB.out.size)
  clear HB b
  have HB := Lib.hid tB
  clear tB
  try go_wp2_with fail
  refine hK.out _ _ ?_ fun hHeld => ?_;exact HB.out;clear hK K;try simp only [zn, Act.put]
  refine tk 6 hHeld ?_;refine tk 7 hHeld ?_;refine tkc 8 hHeld (fun w' hSw => cell3_of ((hSw.block _ (heap_lt X1.out)).trans X1.out)) ?_;refine tkc 9 hHeld (fun w' hSw => cell3_of ((hSw.block _ (heap_lt X2.out)).trans X2.out)) ?_;refine tkc 11 hHeld (fun w' hSw => cell3_of ((hSw.block _ (heap_lt X2.out)).trans X2.out)) ?_;refine tkc 12 hHeld (fun w' hSw => cell3_of ((hSw.block _ (heap_lt X1.out)).trans X1.out)) ?_
  refine tkr 10 (fun K hK => ?_)
  rw [if_pos (by rfl)]
  go_simp
  refine (hc.kept _ _ s r _ ((Vs.out.below HB.out).more HB.out.size) ((Vr.out.below HB.out).more HB.out.size)).mono ?_
  rintro e qz ⟨rfl, b⟩
  rw [HKV.out.1]
  have tB := HB.out.trans (b.mono HB.out.size)
  clear HB b
  have HB := Lib.hid tB
  clear tB
  try go_wp2_with fail
  refine hK.out _ _ ?_ fun hHeld => ?_;exact HB.out;clear hK K;try simp only [zn, Act.put]
  refine tkr 13 (fun K hK => ?_)
  rw [if_pos (by rfl)]
  go_simp
  refine (hc.kept _ _ r s _ ((Vr.out.below HB.out).more HB.out.size) ((Vs.out.below HB.out).more HB.out.size)).mono ?_
  rintro e qz ⟨rfl, b⟩
  rw [HKV.out.2]
  have tB := HB.out.trans (b.mono HB.out.size)
  clear HB b
  have HB := Lib.hid tB
  clear tB
  try go_wp2_with fail
  refine hK.out _ _ ?_ fun hHeld => ?_;exact HB.out;clear hK K;try simp only [zn, Act.put]
  refine tk 14 hHeld ?_;refine tk 15 hHeld ?_;refine tk 16 hHeld ?_;refine tkc 17 hHeld (fun w' hSw => cell3_of ((hSw.block _ (heap_lt X1.out)).trans X1.out)) ?_;refine tkc 18 hHeld (fun w' hSw => cell3_of ((hSw.block _ (heap_lt X2.out)).trans X2.out)) ?_
  refine tkr 19 (fun K hK => ?_)
  rw [if_pos (by rfl)]
  go_simp
  refine (hc.same _ _ s r _ ((Vs.out.below HB.out).more HB.out.size) ((Vr.out.below HB.out).more HB.out.size)).mono ?_
  rintro e qz ⟨rfl, b⟩
  rw [HEV.out.1]
  have tB := HB.out.trans (b.mono HB.out.size)
  clear HB b
  have HB := Lib.hid tB
  clear tB
  try go_wp2_with fail
  refine hK.out _ _ ?_ fun hHeld => ?_;exact HB.out;clear hK K;try simp only [zn, Act.put]
  refine tk 20 hHeld ?_;refine tks 21 hHeld ?_;refine tks 22 hHeld ?_;refine tks 23 hHeld ?_;refine tks 24 hHeld ?_;refine tk 25 hHeld ?_;refine tk 26 hHeld ?_;refine tk 27 hHeld ?_;refine tkc 28 hHeld (fun w' hSw => cell3_of ((hSw.block _ (heap_lt X1.out)).trans X1.out)) ?_;refine tkc 29 hHeld (fun w' hSw => cell3_of ((hSw.block _ (heap_lt X1.out)).trans X1.out)) ?_
  refine tkr 30 (fun K hK => ?_)
  rw [if_pos (by rfl)]
  go_simp
  refine (hc.twin _ s _ ((Vs.out.below HB.out).more HB.out.size) FEW.out).mono ?_
  rintro e qz ⟨u0, u1, u2, rfl, ho, b⟩
  have OT := Lib.hid ho.in_
  have tB := HB.out.trans (b.mono HB.out.size)
  clear HB b ho
  have HB := Lib.hid tB
  clear tB
  try go_wp2_with fail
  refine hK.out _ _ ?_ fun hHeld => ?_;exact HB.out;clear hK K;try simp only [zn, Act.put]
  refine tkr 31 (fun K hK => ?_)
  rw [if_pos (by rfl)]
  go_simp
  refine (hc.same _ _ s s _ ((Vs.out.below HB.out).more HB.out.size) ⟨_, _, _, rfl, OT.out⟩).mono ?_
  rintro e qz ⟨rfl, b⟩
  rw [eqB_self15]
  have tB := HB.out.trans (b.mono HB.out.size)
  clear HB b
  have HB := Lib.hid tB
  clear tB
  try go_wp2_with fail
  refine hK.out _ _ ?_ fun hHeld => ?_;exact HB.out;clear hK K;try simp only [zn, Act.put]
  refine tk 32 hHeld ?_;refine tk 33 hHeld ?_;refine tk 34 hHeld ?_;refine tkc 35 hHeld (fun w' hSw => cell3_of ((hSw.block _ (heap_lt X1.out)).trans X1.out)) ?_;refine tkc 36 hHeld (fun w' hSw => cell3_of ((hSw.block _ (heap_lt X2.out)).trans X2.out)) ?_
  refine tkr 37 (fun K hK => ?_)
  rw [if_pos (by rfl)]
  go_simp
  refine (hc.same _ _ s r _ ((Vs.out.below HB.out).more HB.out.size) ((Vr.out.below HB.out).more HB.out.size)).mono ?_
  rintro e qz ⟨rfl, b⟩
  rw [HEV.out.1]
  have tB := HB.out.trans (b.mono HB.out.size)
  clear HB b
  have HB := Lib.hid tB
  clear tB
  try go_wp2_with fail
  refine hK.out _ _ ?_ fun hHeld => ?_;exact HB.out;clear hK K;try simp only [zn, Act.put]
  refine tk 38 hHeld ?_;refine tks 39 hHeld ?_;refine tks 40 hHeld ?_;refine tks 41 hHeld ?_;refine tks 42 hHeld ?_;refine tks 43 hHeld ?_;refine tks 44 hHeld ?_;refine tks 45 hHeld ?_;refine tk 46 hHeld ?_;refine tk 47 hHeld ?_
  refine wpAnyH_done (by kernel_rfl) ?_ _
  have bN := HB.out
  clear HB hHeld HEV HKV
  replace X0 := Lib.hid ((bN.block _ (heap_lt X0.out)).trans X0.out)
  replace X1 := Lib.hid ((bN.block _ (heap_lt X1.out)).trans X1.out)
  replace X2 := Lib.hid ((bN.block _ (heap_lt X2.out)).trans X2.out)
  replace BQ := Lib.hid (BQ.out.trans (bN.mono BQ.out.size))
  replace VP := Lib.hid ((VP.out.below bN).more bN.size)
  replace Vs := Lib.hid ((Vs.out.below bN).more bN.size)
  replace Vr := Lib.hid ((Vr.out.below bN).more bN.size)
  clear bN
  obtain ⟨l0, l1, l2⟩ := cell3_of X1.out
  obtain ⟨w5, hw5⟩ : ∃ z, z = qz := ⟨_, rfl⟩
  subst hw5
  go_wp2_with fail
  refine (hc.twin _ s _ Vs.out FEW.out).mono ?_
  rintro e wB ⟨u0, u1, u2, rfl, ho, b⟩
  clear l0 l1 l2
  obtain ⟨T0, tc0, rfl⟩ := st_sl ho.in_.tr
  obtain ⟨T1, tc1, rfl⟩ := st_sl ho.in_.sw
  obtain ⟨T2, tc2, rfl⟩ := st_sl ho.in_.lk
  rw [← HNS.out.1, ← HNS.out.2.1, ← HNS.out.2.2] at ho
  rw [← HNS.out.1, ← HNS.out.2.1, ← HNS.out.2.2]
  go_upto_region 7 with ((with_reducible show wpList _ _ _ (⟨none, .store _ _ _, _, _, _, _⟩ :: _) _ _); refine wpList_store_rowS rfl _ (.tmp 10) (.tmp 76) rfl wB.heap.size rfl (c' := #[.slice T0 s0 tc0, .slice T1 s1 tc1, .slice T2 s2 tc2]) rfl (heap_alloc_self wB (.cells #[.slice none 0 0, .slice none 0 0, .slice none 0 0] 26)) infoSt15 rfl (by simp [Value.oneCell']) ?_)
  rw [World.setRow_alloc_new]
  have hx1 := heap_alloc_self wB (.cells #[.slice T0 s0 tc0, .slice T1 s1 tc1, .slice T2 s2 tc2] 26)
  have hb1 := below_new wB (.cells #[.slice T0 s0 tc0, .slice T1 s1 tc1, .slice T2 s2 tc2] 26)
  generalize wB.alloc (.cells #[.slice T0 s0 tc0, .slice T1 s1 tc1, .slice T2 s2 tc2] 26) = w6 at hb1 hx1 ⊢
  have HO := Lib.hid (ho.below hb1)
  have BZ := Lib.hid (b.trans (hb1.mono b.size))
  obtain ⟨p10, hp1⟩ : ∃ n, n = wB.heap.size := ⟨_, rfl⟩
  have HP10 : Hid (w5.heap.size ≤ p10) := Lib.hid (by rw [hp1]; exact b.size)
  rw [← hp1] at hx1 ⊢
  have X10 := Lib.hid hx1
  clear hx1 hp1 hb1 ho b
  obtain ⟨m0, m1, m2⟩ := cell3_of X10.out
  by_cases hn : at_ ≥ 0
  rotate_left
  ·have d0 : decide (at_ ≥ 0) = false := decide_eq_false hn
   go_upto_region 11 with fail
   obtain ⟨wz, hwz⟩ : ∃ z, z = w6 := ⟨_, rfl⟩
   subst hwz
   clear m0 m1 m2
   obtain ⟨i0_, hii, hz0, hz1, hz2⟩ := info_parts infoTrkI15
   have I0 := Lib.hid hii
   have I1 := Lib.hid hz0
   have I2 := Lib.hid hz1
   have I3 := Lib.hid hz2
   have HUL : Hid (s.tr.length = s0) := Lib.hid (by exact HNS.out.1.symm)
   obtain ⟨yss, hown, hyl, hm_, hys, hyr⟩ := HO.out.tr
   have O : Hid (wz.ownsRow w5.heap.size 46 2 (.slice T0 s0 tc0) s0 yss.flatten) := Lib.hid (by have h := hown; rw [HUL.out] at h; exact h)
   have YL := Lib.hid hyl
   have YS := Lib.hid hys
   have YR := Lib.hid hyr
   clear hii hz0 hz1 hz2 hown hyl hm_ hys hyr
   obtain ⟨m0, m1, m2⟩ := cell3_of X10.out
   go_upto_region 12 with ((with_reducible show wpList _ _ _ (⟨some 125, _, _, _, _, _⟩ :: _) _ _); refine wpList_append_list rfl (.tmp 122) (.tmp 124) _ rfl Try.underlying22 I0.out I1.out rfl I2.out (by decide) I3.out (by decide) rfl (O.out.alloc _) rfl (m := 1) (news := [.int .i64 1, .int .u8 0]) rfl (fun h => by cases h) (fun a ha j u hj => by cases ha; rw [Addr.add_lit, Nat.zero_add, World.cell?_alloc_new]; simpa using hj) (by simp [Value.oneCell']) (by have := FEW.out.1; have := HNS.out.1; omega) (by have := BZ.out.size; simp; omega) ?_; intro v4 w9 hown4 hgrow4; have hX9 := box_more15 X10.out _ O.out (by decide) hgrow4; have S4 := ListOwn.snoc (w1 := wz) (x := ((1 : Int), (0 : Int))) (ys := [.int .i64 1, .int .u8 0]) trkR (fun _ h _ _ => h) (show wz.ownsRow w5.heap.size 46 2 (.slice T0 s0 tc0) s.tr.length yss.flatten by rw [HUL.out]; exact O.out) YL.out YS.out rfl (by have := FEW.out.1; have := HNS.out.1; have := HUL.out; unfold maxLen; omega) YR.out (Below.refl _ _) ⟨rfl, rfl, by decide, by decide⟩ (by rw [HUL.out]; exact hown4) hgrow4; obtain ⟨A8, c8, e8⟩ := S4.slice; obtain ⟨L, hL⟩ : ∃ z, z = (s.tr ++ [((1 : Int), (0 : Int))]).length := ⟨_, rfl⟩; rw [← hL] at e8; subst e8; clear hL; obtain ⟨n0_, n1_, n2_⟩ := cell3_of hX9; have fz := frozen2_of hX9 0)
   have hSW := own_off15 (R := SigR) sigF (own_more15 (R := SigR) sigR sigF HO.out.sw _ O.out (by decide) hgrow4) (grown_setK w9 p10 0 (.slice A8 L c8)) (by decide) ⟨_, hX9⟩
   have hLK := own_off15 (R := LckR) lckF (own_more15 (R := LckR) lckR lckF HO.out.lk _ O.out (by decide) hgrow4) (grown_setK w9 p10 0 (.slice A8 L c8)) (by decide) ⟨_, hX9⟩
   have hTR := own_off15 (R := TrkR) trkF S4 (grown_setK w9 p10 0 (.slice A8 L c8)) (by decide) ⟨_, hX9⟩
   have hBY := below_set ((BZ.out.alloc BZ.out.size _).grown hgrow4 (by have := BZ.out.size; simp; omega) (own_ge O.out)) HP10.out 0 (.slice A8 L c8)
   have hXY := heap_setK (k := 0) hX9 (.slice A8 L c8)
   generalize w9.setCell ⟨p10, 0, none⟩ (.slice A8 L c8) = wy at hSW hLK hTR hBY hXY ⊢
   have hOY : StIn wy wy.heap.size (.slice A8 L c8) (.slice T1 s1 tc1) (.slice T2 s2 tc2) ⟨s.tr ++ [((1 : Int), (0 : Int))], s.sw, s.lk⟩ := ⟨hTR.in_ trkR_cells, by rw [← (And.intro (show s.sw = s.sw from rfl) (show s.lk = s.lk from rfl)).1]; exact hSW.in_ sigR_cells, by rw [← (And.intro (show s.sw = s.sw from rfl) (show s.lk = s.lk from rfl)).2]; exact hLK.in_ lckR_cells⟩
   clear fz n0_ n1_ n2_ m0 m1 m2 BZ X10 HO O YL YS YR S4 hX9 hown4 hgrow4 hSW hLK hTR
   have BZ := Lib.hid hBY
   have HY := Lib.hid hOY
   have X10 : Hid (wy.heap[p10]? = some (.cells #[.slice A8 L c8, .slice T1 s1 tc1, .slice T2 s2 tc2] 26 (0, 0))) := Lib.hid hXY
   clear hBY hOY hXY
   obtain ⟨k0, k1, k2, k3, k4, k5⟩ := cell6_of ((BZ.out.block _ (heap_lt X0.out)).trans X0.out)
   obtain ⟨l0, l1, l2⟩ := cell3_of ((BZ.out.block _ (heap_lt X1.out)).trans X1.out)
   go_wp2_with fail
   refine (hc.check _ _ p s wy ((VP.out.below BZ.out).more BZ.out.size) ((Vs.out.below BZ.out).more BZ.out.size)).mono ?_
   rintro e wv ⟨rfl, b⟩
   rw [← HEE.out]
   clear k0 k1 k2 k3 k4 k5 l0 l1 l2
   have tB := BZ.out.trans (b.mono BZ.out.size)
   have tX := (b.block _ (heap_lt X10.out)).trans X10.out
   have tO := (HY.out.below b).more b.size
   clear BZ X10 HY b
   have BZ := Lib.hid tB
   have X10 := Lib.hid tX
   have HY := Lib.hid tO
   clear tB tX tO
   by_cases hE1 : E = 0
   rotate_left
   ·have dE1 : (E != 0) = true := by simpa using hE1
    have BF := Lib.hid (BQ.out.trans (BZ.out.mono BQ.out.size))
    go_wp2_with fail
    go_ret
    exact ⟨rfl, BF.out⟩
   have dE1 : (E != 0) = false := by simpa using hE1
   have HB8 : Hid (staE p ⟨s.tr ++ [((1 : Int), (0 : Int))], s.sw, s.lk⟩ = 8) := Lib.hid (by
    have hm : StMay p s := staE_may15 (by rw [← HEE.out]; exact hE1)
    rw [staE, if_pos (soundP_true hm.sound), stMay_no.2 (more_bad hm (fun e => by have h1 := HUL.out; have h2 := HNS.out.1; rw [List.length_append, h1] at e; simp only [List.length_cons, List.length_nil] at e; omega))]
    rfl)
   obtain ⟨k0, k1, k2, k3, k4, k5⟩ := cell6_of ((BZ.out.block _ (heap_lt X0.out)).trans X0.out)
   obtain ⟨m0, m1, m2⟩ := cell3_of X10.out
   go_wp2_with fail
   refine (hc.check _ _ p _ wv ((VP.out.below BZ.out).more BZ.out.size) ⟨_, _, _, rfl, HY.out⟩).mono ?_
   rintro e wu ⟨rfl, b⟩
   rw [HB8.out]
   have BF := Lib.hid (BQ.out.trans ((BZ.out.trans (b.mono BZ.out.size)).mono BQ.out.size))
   clear k0 k1 k2 k3 k4 k5 m0 m1 m2 b
   go_wp2_with fail
   go_ret
   exact ⟨rfl, BF.out⟩
  have d0 : decide (at_ ≥ 0) = true := decide_eq_true hn
  by_cases hg : at_ < (s0 : Int)
  rotate_left
  ·have d1 : decide (at_ < (s0 : Int)) = false := decide_eq_false hg
   go_upto_region 11 with fail
   obtain ⟨wz, hwz⟩ : ∃ z, z = w6 := ⟨_, rfl⟩
   subst hwz
   clear m0 m1 m2
   obtain ⟨i0_, hii, hz0, hz1, hz2⟩ := info_parts infoTrkI15
   have I0 := Lib.hid hii
   have I1 := Lib.hid hz0
   have I2 := Lib.hid hz1
   have I3 := Lib.hid hz2
   have HUL : Hid (s.tr.length = s0) := Lib.hid (by exact HNS.out.1.symm)
   obtain ⟨yss, hown, hyl, hm_, hys, hyr⟩ := HO.out.tr
   have O : Hid (wz.ownsRow w5.heap.size 46 2 (.slice T0 s0 tc0) s0 yss.flatten) := Lib.hid (by have h := hown; rw [HUL.out] at h; exact h)
   have YL := Lib.hid hyl
   have YS := Lib.hid hys
   have YR := Lib.hid hyr
   clear hii hz0 hz1 hz2 hown hyl hm_ hys hyr
   obtain ⟨m0, m1, m2⟩ := cell3_of X10.out
   go_upto_region 12 with ((with_reducible show wpList _ _ _ (⟨some 125, _, _, _, _, _⟩ :: _) _ _); refine wpList_append_list rfl (.tmp 122) (.tmp 124) _ rfl Try.underlying22 I0.out I1.out rfl I2.out (by decide) I3.out (by decide) rfl (O.out.alloc _) rfl (m := 1) (news := [.int .i64 1, .int .u8 0]) rfl (fun h => by cases h) (fun a ha j u hj => by cases ha; rw [Addr.add_lit, Nat.zero_add, World.cell?_alloc_new]; simpa using hj) (by simp [Value.oneCell']) (by have := FEW.out.1; have := HNS.out.1; omega) (by have := BZ.out.size; simp; omega) ?_; intro v4 w9 hown4 hgrow4; have hX9 := box_more15 X10.out _ O.out (by decide) hgrow4; have S4 := ListOwn.snoc (w1 := wz) (x := ((1 : Int), (0 : Int))) (ys := [.int .i64 1, .int .u8 0]) trkR (fun _ h _ _ => h) (show wz.ownsRow w5.heap.size 46 2 (.slice T0 s0 tc0) s.tr.length yss.flatten by rw [HUL.out]; exact O.out) YL.out YS.out rfl (by have := FEW.out.1; have := HNS.out.1; have := HUL.out; unfold maxLen; omega) YR.out (Below.refl _ _) ⟨rfl, rfl, by decide, by decide⟩ (by rw [HUL.out]; exact hown4) hgrow4; obtain ⟨A8, c8, e8⟩ := S4.slice; obtain ⟨L, hL⟩ : ∃ z, z = (s.tr ++ [((1 : Int), (0 : Int))]).length := ⟨_, rfl⟩; rw [← hL] at e8; subst e8; clear hL; obtain ⟨n0_, n1_, n2_⟩ := cell3_of hX9; have fz := frozen2_of hX9 0)
   have hSW := own_off15 (R := SigR) sigF (own_more15 (R := SigR) sigR sigF HO.out.sw _ O.out (by decide) hgrow4) (grown_setK w9 p10 0 (.slice A8 L c8)) (by decide) ⟨_, hX9⟩
   have hLK := own_off15 (R := LckR) lckF (own_more15 (R := LckR) lckR lckF HO.out.lk _ O.out (by decide) hgrow4) (grown_setK w9 p10 0 (.slice A8 L c8)) (by decide) ⟨_, hX9⟩
   have hTR := own_off15 (R := TrkR) trkF S4 (grown_setK w9 p10 0 (.slice A8 L c8)) (by decide) ⟨_, hX9⟩
   have hBY := below_set ((BZ.out.alloc BZ.out.size _).grown hgrow4 (by have := BZ.out.size; simp; omega) (own_ge O.out)) HP10.out 0 (.slice A8 L c8)
   have hXY := heap_setK (k := 0) hX9 (.slice A8 L c8)
   generalize w9.setCell ⟨p10, 0, none⟩ (.slice A8 L c8) = wy at hSW hLK hTR hBY hXY ⊢
   have hOY : StIn wy wy.heap.size (.slice A8 L c8) (.slice T1 s1 tc1) (.slice T2 s2 tc2) ⟨s.tr ++ [((1 : Int), (0 : Int))], s.sw, s.lk⟩ := ⟨hTR.in_ trkR_cells, by rw [← (And.intro (show s.sw = s.sw from rfl) (show s.lk = s.lk from rfl)).1]; exact hSW.in_ sigR_cells, by rw [← (And.intro (show s.sw = s.sw from rfl) (show s.lk = s.lk from rfl)).2]; exact hLK.in_ lckR_cells⟩
   clear fz n0_ n1_ n2_ m0 m1 m2 BZ X10 HO O YL YS YR S4 hX9 hown4 hgrow4 hSW hLK hTR
   have BZ := Lib.hid hBY
   have HY := Lib.hid hOY
   have X10 : Hid (wy.heap[p10]? = some (.cells #[.slice A8 L c8, .slice T1 s1 tc1, .slice T2 s2 tc2] 26 (0, 0))) := Lib.hid hXY
   clear hBY hOY hXY
   obtain ⟨k0, k1, k2, k3, k4, k5⟩ := cell6_of ((BZ.out.block _ (heap_lt X0.out)).trans X0.out)
   obtain ⟨l0, l1, l2⟩ := cell3_of ((BZ.out.block _ (heap_lt X1.out)).trans X1.out)
   go_wp2_with fail
   refine (hc.check _ _ p s wy ((VP.out.below BZ.out).more BZ.out.size) ((Vs.out.below BZ.out).more BZ.out.size)).mono ?_
   rintro e wv ⟨rfl, b⟩
   rw [← HEE.out]
   clear k0 k1 k2 k3 k4 k5 l0 l1 l2
   have tB := BZ.out.trans (b.mono BZ.out.size)
   have tX := (b.block _ (heap_lt X10.out)).trans X10.out
   have tO := (HY.out.below b).more b.size
   clear BZ X10 HY b
   have BZ := Lib.hid tB
   have X10 := Lib.hid tX
   have HY := Lib.hid tO
   clear tB tX tO
   by_cases hE1 : E = 0
   rotate_left
   ·have dE1 : (E != 0) = true := by simpa using hE1
    have BF := Lib.hid (BQ.out.trans (BZ.out.mono BQ.out.size))
    go_wp2_with fail
    go_ret
    exact ⟨rfl, BF.out⟩
   have dE1 : (E != 0) = false := by simpa using hE1
   have HB8 : Hid (staE p ⟨s.tr ++ [((1 : Int), (0 : Int))], s.sw, s.lk⟩ = 8) := Lib.hid (by
    have hm : StMay p s := staE_may15 (by rw [← HEE.out]; exact hE1)
    rw [staE, if_pos (soundP_true hm.sound), stMay_no.2 (more_bad hm (fun e => by have h1 := HUL.out; have h2 := HNS.out.1; rw [List.length_append, h1] at e; simp only [List.length_cons, List.length_nil] at e; omega))]
    rfl)
   obtain ⟨k0, k1, k2, k3, k4, k5⟩ := cell6_of ((BZ.out.block _ (heap_lt X0.out)).trans X0.out)
   obtain ⟨m0, m1, m2⟩ := cell3_of X10.out
   go_wp2_with fail
   refine (hc.check _ _ p _ wv ((VP.out.below BZ.out).more BZ.out.size) ⟨_, _, _, rfl, HY.out⟩).mono ?_
   rintro e wu ⟨rfl, b⟩
   rw [HB8.out]
   have BF := Lib.hid (BQ.out.trans ((BZ.out.trans (b.mono BZ.out.size)).mono BQ.out.size))
   clear k0 k1 k2 k3 k4 k5 m0 m1 m2 b
   go_wp2_with fail
   go_ret
   exact ⟨rfl, BF.out⟩
  have d1 : decide (at_ < (s0 : Int)) = true := decide_eq_true hg
  obtain ⟨i, rfl⟩ : ∃ i : Nat, at_ = (i : Int) := ⟨at_.toNat, by omega⟩
  have his : i < s.tr.length := by have := HNS.out; omega
  have hlt' : (i : Int) < s0 := by omega
  obtain ⟨x2, hx2⟩ : ∃ z, z = s.tr[i].2 := ⟨_, rfl⟩
  obtain ⟨bt, ot, et, hbt, hc0, hc1, hr1, hr2⟩ := HO.out.in_.tr.at his
  obtain ⟨g, cg, eg, hlog, ⟨cur, hcur⟩, -⟩ := st_setTr HO.out his (z := (x2 % 3 + 1) % 3) (by omega)
  rw [et] at eg
  injection eg with e1 e2 e3
  injection e1 with e1
  injection e1 with e1 e4
  subst e1
  subst e4
  subst et
  rw [← hx2] at hc1 hr1 hr2
  have g1 : w6.cell? ⟨bt, i * 2 + 1, none⟩ = some (.int .u8 x2) := by simpa using hc1
  have HX2 : Hid (0 ≤ x2 ∧ x2 < 256) := Lib.hid ⟨hr1, hr2⟩
  have fz := frozen2_of hcur (i * 2 + 1)
  clear hc0 hc1 hbt e2 e3 hr1 hr2
  have HCUR := Lib.hid hcur
  obtain ⟨zz, hzz⟩ : ∃ z, z = (x2.tmod 3 + 1) % 256 % 3 := ⟨_, rfl⟩
  have HZZ : Hid (0 ≤ zz ∧ zz ≤ 2 ∧ zz ≠ x2) := Lib.hid (by
   have hm : x2.tmod 3 = x2 % 3 := Int.tmod_eq_emod_of_nonneg HX2.out.1
   rw [hm] at hzz
   have := HX2.out
   omega)
  have HUN : Hid (({s with tr := s.tr.set i (s.tr[i].1, zz)} : St15) ≠ s) := Lib.hid (fun e => by
   have e1 : s.tr.set i (s.tr[i].1, zz) = s.tr := congrArg St15.tr e
   have e2 : (s.tr.set i (s.tr[i].1, zz))[i]? = s.tr[i]? := by rw [e1]
   rw [List.getElem?_set_self his, List.getElem?_eq_getElem his, Option.some.injEq] at e2
   have e3 : zz = s.tr[i].2 := congrArg Prod.snd e2
   rw [← hx2] at e3
   exact HZZ.out.2.2 e3)
  obtain ⟨gz, cz, ez, hloz, -, hset⟩ := st_setTr HO.out his (z := zz) (by have := HZZ.out; omega)
  injection ez with ez1 ez2 ez3
  injection ez1 with ez1
  injection ez1 with ez1 ez4
  subst ez1
  have HSET := Lib.hid hset
  have HLO := Lib.hid hloz
  have HIS := Lib.hid his
  clear hx2 hset hloz ez2 ez3 ez4 hn hg
  go_upto_region 8 with fail
  go_region
  rw [← hzz]
  have hd := (Below.refl (w6.setCell ⟨bt, i * 2 + 1, none⟩ (.int .u8 zz)).heap.size (w6.setCell ⟨bt, i * 2 + 1, none⟩ (.int .u8 zz))).drew
  have hB7 := (below_set BZ.out HLO.out (i * 2 + 1) (.int .u8 zz)).trans (hd.mono (below_set BZ.out HLO.out (i * 2 + 1) (.int .u8 zz)).size)
  have hX7 := (hd.block _ (heap_lt ((heap_setFar w6 bt (i * 2 + 1) p10 (.int .u8 zz) (fun e => by
   have h1 := X10.out
   rw [e, HCUR.out] at h1
   injection h1 with h1
   injection h1 with _ h2 _
   exact absurd h2 (by decide))).trans X10.out))).trans ((heap_setFar w6 bt (i * 2 + 1) p10 (.int .u8 zz) (fun e => by
   have h1 := X10.out
   rw [e, HCUR.out] at h1
   injection h1 with h1
   injection h1 with _ h2 _
   exact absurd h2 (by decide))).trans X10.out)
  have hO7 := HSET.out.below hd
  generalize (w6.setCell ⟨bt, i * 2 + 1, none⟩ (.int .u8 zz)).drew = w7 at hd hB7 hX7 hO7 ⊢
  clear BZ X10 HO HSET HCUR hd g1 fz hcur hzz m0 m1 m2
  have BZ := Lib.hid hB7
  have X10 := Lib.hid hX7
  have HO := Lib.hid hO7
  clear hB7 hX7 hO7
  obtain ⟨u, hu⟩ : ∃ z, z = ({s with tr := s.tr.set i (s.tr[i].1, zz)} : St15) := ⟨_, rfl⟩
  have HU := Lib.hid hu
  have HO2 : Hid (StOwn w7 w5.heap.size (.slice (some ⟨bt, 0, none⟩) s0 tc0) (.slice T1 s1 tc1) (.slice T2 s2 tc2) u) := Lib.hid (by rw [hu]; exact HO.out)
  have HUN2 : Hid (u ≠ s) := Lib.hid (by rw [hu]; exact HUN.out)
  clear HO HUN
  have HO := HO2
  have HUN := HUN2
  clear HO2 HUN2
  clear hu
  obtain ⟨wz, hwz⟩ : ∃ z, z = w7 := ⟨_, rfl⟩
  subst hwz
  obtain ⟨l0, l1, l2⟩ := cell3_of ((BZ.out.block _ (heap_lt X1.out)).trans X1.out)
  obtain ⟨m0, m1, m2⟩ := cell3_of X10.out
  go_wp2_with fail
  refine (hc.kept _ _ s u wz ((Vs.out.below BZ.out).more BZ.out.size) ⟨_, _, _, rfl, HO.out.in_⟩).mono ?_
  rintro e wz ⟨rfl, b⟩
  rw [show eqB (keptS s) (keptS u) = true from by rw [HU.out]; exact eqB_self15 _]
  clear l0 l1 l2
  clear m0 m1 m2
  have tB := BZ.out.trans (b.mono BZ.out.size)
  have tX := (b.block _ (heap_lt X10.out)).trans X10.out
  have tO := HO.out.below b
  clear BZ X10 HO b
  have BZ := Lib.hid tB
  have X10 := Lib.hid tX
  have HO := Lib.hid tO
  clear tB tX tO
  obtain ⟨l0, l1, l2⟩ := cell3_of ((BZ.out.block _ (heap_lt X1.out)).trans X1.out)
  obtain ⟨m0, m1, m2⟩ := cell3_of X10.out
  go_wp2_with fail
  refine (hc.same _ _ s u wz ((Vs.out.below BZ.out).more BZ.out.size) ⟨_, _, _, rfl, HO.out.in_⟩).mono ?_
  rintro e wz ⟨rfl, b⟩
  rw [show eqB s u = false from by rw [← Bool.not_eq_true, eqB_iff]; exact fun e => HUN.out e.symm]
  clear l0 l1 l2
  clear m0 m1 m2
  have tB := BZ.out.trans (b.mono BZ.out.size)
  have tX := (b.block _ (heap_lt X10.out)).trans X10.out
  have tO := HO.out.below b
  clear BZ X10 HO b
  have BZ := Lib.hid tB
  have X10 := Lib.hid tX
  have HO := Lib.hid tO
  clear tB tX tO
  obtain ⟨k0, k1, k2, k3, k4, k5⟩ := cell6_of ((BZ.out.block _ (heap_lt X0.out)).trans X0.out)
  obtain ⟨l0, l1, l2⟩ := cell3_of ((BZ.out.block _ (heap_lt X1.out)).trans X1.out)
  go_wp2_with fail
  refine (hc.check _ _ p s wz ((VP.out.below BZ.out).more BZ.out.size) ((Vs.out.below BZ.out).more BZ.out.size)).mono ?_
  rintro e wz ⟨rfl, b⟩
  rw [← HEE.out]
  clear k0 k1 k2 k3 k4 k5
  clear l0 l1 l2
  have tB := BZ.out.trans (b.mono BZ.out.size)
  have tX := (b.block _ (heap_lt X10.out)).trans X10.out
  have tO := HO.out.below b
  clear BZ X10 HO b
  have BZ := Lib.hid tB
  have X10 := Lib.hid tX
  have HO := Lib.hid tO
  clear tB tX tO
  by_cases hE0 : E = 0
  ·have dE : (E == 0) = true := by simpa using hE0
   have HM := Lib.hid (staE_may15 (by rw [← HEE.out]; exact hE0) : StMay p s)
   obtain ⟨k0, k1, k2, k3, k4, k5⟩ := cell6_of ((BZ.out.block _ (heap_lt X0.out)).trans X0.out)
   obtain ⟨m0, m1, m2⟩ := cell3_of X10.out
   go_wp2_with fail
   refine (hc.check _ _ p u wz ((VP.out.below BZ.out).more BZ.out.size) ⟨_, _, _, rfl, HO.out.in_⟩).mono ?_
   rintro e wz ⟨rfl, b⟩
   rw [show staE p u = 0 from by rw [HU.out]; exact staE_zero15 (tracks_may HM.out HIS.out HZZ.out.2.1)]
   clear k0 k1 k2 k3 k4 k5
   clear m0 m1 m2
   have tB := BZ.out.trans (b.mono BZ.out.size)
   have tX := (b.block _ (heap_lt X10.out)).trans X10.out
   have tO := HO.out.below b
   clear BZ X10 HO b
   have BZ := Lib.hid tB
   have X10 := Lib.hid tX
   have HO := Lib.hid tO
   clear tB tX tO
   go_upto_region 11 with fail
   obtain ⟨i0_, hii, hz0, hz1, hz2⟩ := info_parts infoTrkI15
   have I0 := Lib.hid hii
   have I1 := Lib.hid hz0
   have I2 := Lib.hid hz1
   have I3 := Lib.hid hz2
   have HUL : Hid (u.tr.length = s0) := Lib.hid (by rw [HU.out]; simp only [List.length_set]; exact HNS.out.1.symm)
   obtain ⟨yss, hown, hyl, hm_, hys, hyr⟩ := HO.out.tr
   have O : Hid (wz.ownsRow w5.heap.size 46 2 (.slice (some ⟨bt, 0, none⟩) s0 tc0) s0 yss.flatten) := Lib.hid (by have h := hown; rw [HUL.out] at h; exact h)
   have YL := Lib.hid hyl
   have YS := Lib.hid hys
   have YR := Lib.hid hyr
   clear hii hz0 hz1 hz2 hown hyl hm_ hys hyr
   obtain ⟨m0, m1, m2⟩ := cell3_of X10.out
   go_upto_region 12 with ((with_reducible show wpList _ _ _ (⟨some 125, _, _, _, _, _⟩ :: _) _ _); refine wpList_append_list rfl (.tmp 122) (.tmp 124) _ rfl Try.underlying22 I0.out I1.out rfl I2.out (by decide) I3.out (by decide) rfl (O.out.alloc _) rfl (m := 1) (news := [.int .i64 1, .int .u8 0]) rfl (fun h => by cases h) (fun a ha j u hj => by cases ha; rw [Addr.add_lit, Nat.zero_add, World.cell?_alloc_new]; simpa using hj) (by simp [Value.oneCell']) (by have := FEW.out.1; have := HNS.out.1; omega) (by have := BZ.out.size; simp; omega) ?_; intro v4 w9 hown4 hgrow4; have hX9 := box_more15 X10.out _ O.out (by decide) hgrow4; have S4 := ListOwn.snoc (w1 := wz) (x := ((1 : Int), (0 : Int))) (ys := [.int .i64 1, .int .u8 0]) trkR (fun _ h _ _ => h) (show wz.ownsRow w5.heap.size 46 2 (.slice (some ⟨bt, 0, none⟩) s0 tc0) u.tr.length yss.flatten by rw [HUL.out]; exact O.out) YL.out YS.out rfl (by have := FEW.out.1; have := HNS.out.1; have := HUL.out; unfold maxLen; omega) YR.out (Below.refl _ _) ⟨rfl, rfl, by decide, by decide⟩ (by rw [HUL.out]; exact hown4) hgrow4; obtain ⟨A8, c8, e8⟩ := S4.slice; obtain ⟨L, hL⟩ : ∃ z, z = (u.tr ++ [((1 : Int), (0 : Int))]).length := ⟨_, rfl⟩; rw [← hL] at e8; subst e8; clear hL; obtain ⟨n0_, n1_, n2_⟩ := cell3_of hX9; have fz := frozen2_of hX9 0)
   have hSW := own_off15 (R := SigR) sigF (own_more15 (R := SigR) sigR sigF HO.out.sw _ O.out (by decide) hgrow4) (grown_setK w9 p10 0 (.slice A8 L c8)) (by decide) ⟨_, hX9⟩
   have hLK := own_off15 (R := LckR) lckF (own_more15 (R := LckR) lckR lckF HO.out.lk _ O.out (by decide) hgrow4) (grown_setK w9 p10 0 (.slice A8 L c8)) (by decide) ⟨_, hX9⟩
   have hTR := own_off15 (R := TrkR) trkF S4 (grown_setK w9 p10 0 (.slice A8 L c8)) (by decide) ⟨_, hX9⟩
   have hBY := below_set ((BZ.out.alloc BZ.out.size _).grown hgrow4 (by have := BZ.out.size; simp; omega) (own_ge O.out)) HP10.out 0 (.slice A8 L c8)
   have hXY := heap_setK (k := 0) hX9 (.slice A8 L c8)
   generalize w9.setCell ⟨p10, 0, none⟩ (.slice A8 L c8) = wy at hSW hLK hTR hBY hXY ⊢
   have hOY : StIn wy wy.heap.size (.slice A8 L c8) (.slice T1 s1 tc1) (.slice T2 s2 tc2) ⟨u.tr ++ [((1 : Int), (0 : Int))], s.sw, s.lk⟩ := ⟨hTR.in_ trkR_cells, by rw [← (And.intro (show u.sw = s.sw by rw [HU.out]) (show u.lk = s.lk by rw [HU.out])).1]; exact hSW.in_ sigR_cells, by rw [← (And.intro (show u.sw = s.sw by rw [HU.out]) (show u.lk = s.lk by rw [HU.out])).2]; exact hLK.in_ lckR_cells⟩
   clear fz n0_ n1_ n2_ m0 m1 m2 BZ X10 HO O YL YS YR S4 hX9 hown4 hgrow4 hSW hLK hTR
   have BZ := Lib.hid hBY
   have HY := Lib.hid hOY
   have X10 : Hid (wy.heap[p10]? = some (.cells #[.slice A8 L c8, .slice T1 s1 tc1, .slice T2 s2 tc2] 26 (0, 0))) := Lib.hid hXY
   clear hBY hOY hXY
   obtain ⟨k0, k1, k2, k3, k4, k5⟩ := cell6_of ((BZ.out.block _ (heap_lt X0.out)).trans X0.out)
   obtain ⟨l0, l1, l2⟩ := cell3_of ((BZ.out.block _ (heap_lt X1.out)).trans X1.out)
   go_wp2_with fail
   refine (hc.check _ _ p s wy ((VP.out.below BZ.out).more BZ.out.size) ((Vs.out.below BZ.out).more BZ.out.size)).mono ?_
   rintro e wv ⟨rfl, b⟩
   rw [← HEE.out]
   clear k0 k1 k2 k3 k4 k5 l0 l1 l2
   have tB := BZ.out.trans (b.mono BZ.out.size)
   have tX := (b.block _ (heap_lt X10.out)).trans X10.out
   have tO := (HY.out.below b).more b.size
   clear BZ X10 HY b
   have BZ := Lib.hid tB
   have X10 := Lib.hid tX
   have HY := Lib.hid tO
   clear tB tX tO
   have hE1 : E = 0 := hE0
   have dE1 : (E != 0) = false := by simpa using hE1
   have HB8 : Hid (staE p ⟨u.tr ++ [((1 : Int), (0 : Int))], s.sw, s.lk⟩ = 8) := Lib.hid (by
    have hm : StMay p s := staE_may15 (by rw [← HEE.out]; exact hE1)
    rw [staE, if_pos (soundP_true hm.sound), stMay_no.2 (more_bad hm (fun e => by have h1 := HUL.out; have h2 := HNS.out.1; rw [List.length_append, h1] at e; simp only [List.length_cons, List.length_nil] at e; omega))]
    rfl)
   obtain ⟨k0, k1, k2, k3, k4, k5⟩ := cell6_of ((BZ.out.block _ (heap_lt X0.out)).trans X0.out)
   obtain ⟨m0, m1, m2⟩ := cell3_of X10.out
   go_wp2_with fail
   refine (hc.check _ _ p _ wv ((VP.out.below BZ.out).more BZ.out.size) ⟨_, _, _, rfl, HY.out⟩).mono ?_
   rintro e wu ⟨rfl, b⟩
   rw [HB8.out]
   have BF := Lib.hid (BQ.out.trans ((BZ.out.trans (b.mono BZ.out.size)).mono BQ.out.size))
   clear k0 k1 k2 k3 k4 k5 m0 m1 m2 b
   go_wp2_with fail
   go_ret
   exact ⟨rfl, BF.out⟩
  ·have dE : (E == 0) = false := by simpa using hE0
   go_upto_region 11 with fail
   obtain ⟨i0_, hii, hz0, hz1, hz2⟩ := info_parts infoTrkI15
   have I0 := Lib.hid hii
   have I1 := Lib.hid hz0
   have I2 := Lib.hid hz1
   have I3 := Lib.hid hz2
   have HUL : Hid (u.tr.length = s0) := Lib.hid (by rw [HU.out]; simp only [List.length_set]; exact HNS.out.1.symm)
   obtain ⟨yss, hown, hyl, hm_, hys, hyr⟩ := HO.out.tr
   have O : Hid (wz.ownsRow w5.heap.size 46 2 (.slice (some ⟨bt, 0, none⟩) s0 tc0) s0 yss.flatten) := Lib.hid (by have h := hown; rw [HUL.out] at h; exact h)
   have YL := Lib.hid hyl
   have YS := Lib.hid hys
   have YR := Lib.hid hyr
   clear hii hz0 hz1 hz2 hown hyl hm_ hys hyr
   obtain ⟨m0, m1, m2⟩ := cell3_of X10.out
   go_upto_region 12 with ((with_reducible show wpList _ _ _ (⟨some 125, _, _, _, _, _⟩ :: _) _ _); refine wpList_append_list rfl (.tmp 122) (.tmp 124) _ rfl Try.underlying22 I0.out I1.out rfl I2.out (by decide) I3.out (by decide) rfl (O.out.alloc _) rfl (m := 1) (news := [.int .i64 1, .int .u8 0]) rfl (fun h => by cases h) (fun a ha j u hj => by cases ha; rw [Addr.add_lit, Nat.zero_add, World.cell?_alloc_new]; simpa using hj) (by simp [Value.oneCell']) (by have := FEW.out.1; have := HNS.out.1; omega) (by have := BZ.out.size; simp; omega) ?_; intro v4 w9 hown4 hgrow4; have hX9 := box_more15 X10.out _ O.out (by decide) hgrow4; have S4 := ListOwn.snoc (w1 := wz) (x := ((1 : Int), (0 : Int))) (ys := [.int .i64 1, .int .u8 0]) trkR (fun _ h _ _ => h) (show wz.ownsRow w5.heap.size 46 2 (.slice (some ⟨bt, 0, none⟩) s0 tc0) u.tr.length yss.flatten by rw [HUL.out]; exact O.out) YL.out YS.out rfl (by have := FEW.out.1; have := HNS.out.1; have := HUL.out; unfold maxLen; omega) YR.out (Below.refl _ _) ⟨rfl, rfl, by decide, by decide⟩ (by rw [HUL.out]; exact hown4) hgrow4; obtain ⟨A8, c8, e8⟩ := S4.slice; obtain ⟨L, hL⟩ : ∃ z, z = (u.tr ++ [((1 : Int), (0 : Int))]).length := ⟨_, rfl⟩; rw [← hL] at e8; subst e8; clear hL; obtain ⟨n0_, n1_, n2_⟩ := cell3_of hX9; have fz := frozen2_of hX9 0)
   have hSW := own_off15 (R := SigR) sigF (own_more15 (R := SigR) sigR sigF HO.out.sw _ O.out (by decide) hgrow4) (grown_setK w9 p10 0 (.slice A8 L c8)) (by decide) ⟨_, hX9⟩
   have hLK := own_off15 (R := LckR) lckF (own_more15 (R := LckR) lckR lckF HO.out.lk _ O.out (by decide) hgrow4) (grown_setK w9 p10 0 (.slice A8 L c8)) (by decide) ⟨_, hX9⟩
   have hTR := own_off15 (R := TrkR) trkF S4 (grown_setK w9 p10 0 (.slice A8 L c8)) (by decide) ⟨_, hX9⟩
   have hBY := below_set ((BZ.out.alloc BZ.out.size _).grown hgrow4 (by have := BZ.out.size; simp; omega) (own_ge O.out)) HP10.out 0 (.slice A8 L c8)
   have hXY := heap_setK (k := 0) hX9 (.slice A8 L c8)
   generalize w9.setCell ⟨p10, 0, none⟩ (.slice A8 L c8) = wy at hSW hLK hTR hBY hXY ⊢
   have hOY : StIn wy wy.heap.size (.slice A8 L c8) (.slice T1 s1 tc1) (.slice T2 s2 tc2) ⟨u.tr ++ [((1 : Int), (0 : Int))], s.sw, s.lk⟩ := ⟨hTR.in_ trkR_cells, by rw [← (And.intro (show u.sw = s.sw by rw [HU.out]) (show u.lk = s.lk by rw [HU.out])).1]; exact hSW.in_ sigR_cells, by rw [← (And.intro (show u.sw = s.sw by rw [HU.out]) (show u.lk = s.lk by rw [HU.out])).2]; exact hLK.in_ lckR_cells⟩
   clear fz n0_ n1_ n2_ m0 m1 m2 BZ X10 HO O YL YS YR S4 hX9 hown4 hgrow4 hSW hLK hTR
   have BZ := Lib.hid hBY
   have HY := Lib.hid hOY
   have X10 : Hid (wy.heap[p10]? = some (.cells #[.slice A8 L c8, .slice T1 s1 tc1, .slice T2 s2 tc2] 26 (0, 0))) := Lib.hid hXY
   clear hBY hOY hXY
   obtain ⟨k0, k1, k2, k3, k4, k5⟩ := cell6_of ((BZ.out.block _ (heap_lt X0.out)).trans X0.out)
   obtain ⟨l0, l1, l2⟩ := cell3_of ((BZ.out.block _ (heap_lt X1.out)).trans X1.out)
   go_wp2_with fail
   refine (hc.check _ _ p s wy ((VP.out.below BZ.out).more BZ.out.size) ((Vs.out.below BZ.out).more BZ.out.size)).mono ?_
   rintro e wv ⟨rfl, b⟩
   rw [← HEE.out]
   clear k0 k1 k2 k3 k4 k5 l0 l1 l2
   have tB := BZ.out.trans (b.mono BZ.out.size)
   have tX := (b.block _ (heap_lt X10.out)).trans X10.out
   have tO := (HY.out.below b).more b.size
   clear BZ X10 HY b
   have BZ := Lib.hid tB
   have X10 := Lib.hid tX
   have HY := Lib.hid tO
   clear tB tX tO
   have dE1 : (E != 0) = true := by simpa using hE0
   have BF := Lib.hid (BQ.out.trans (BZ.out.mono BQ.out.size))
   go_wp2_with fail
   go_ret
   exact ⟨rfl, BF.out⟩
 ·have HEV : Hid (eqB s r = false ∧ eqB r s = false ∧ True) := Lib.hid ⟨by rw [← Bool.not_eq_true, eqB_iff]; exact hsr, by rw [← Bool.not_eq_true, eqB_iff]; exact fun e => hsr e.symm, trivial⟩
  have HKV : Hid (eqB (keptS s) (keptS r) = false ∧ eqB (keptS r) (keptS s) = false) := Lib.hid ⟨by rw [← Bool.not_eq_true, eqB_iff]; exact hk, by rw [← Bool.not_eq_true, eqB_iff]; exact fun e => hk e.symm⟩
  clear hsr hk
  refine wp_region_held_drew (S := fun v => Below w4.heap.size w4 v) (by kernel_rfl) (Below.refl w4.heap.size w4).drew (fun hHeld => ?_)
  refine tkc 0 hHeld (fun w' hSw => cell3_of ((hSw.block _ (heap_lt X1.out)).trans X1.out)) ?_;refine tkc 1 hHeld (fun w' hSw => cell3_of ((hSw.block _ (heap_lt X2.out)).trans X2.out)) ?_;refine tkc 3 hHeld (fun w' hSw => cell3_of ((hSw.block _ (heap_lt X2.out)).trans X2.out)) ?_;refine tkc 4 hHeld (fun w' hSw => cell3_of ((hSw.block _ (heap_lt X1.out)).trans X1.out)) ?_
  have tb := (Below.refl w4.heap.size w4).drew
  generalize w4.drew = qz at tb hHeld ⊢
  have HB := Lib.hid tb
  clear tb
  refine tkr 2 (fun K hK => ?_)
  go_simp
  refine (hc.same _ _ s r _ ((Vs.out.below HB.out).more HB.out.size) ((Vr.out.below HB.out).more HB.out.size)).mono ?_
  rintro e qz ⟨rfl, b⟩
  rw [HEV.out.1]
  have tB := HB.out.trans (b.mono HB.out.size)
  clear HB b
  have HB := Lib.hid tB
  clear tB
  try go_wp2_with fail
  refine hK.out _ _ ?_ fun hHeld => ?_;exact HB.out;clear hK K;try simp only [zn, Act.put]
  refine tkr 5 (fun K hK => ?_)
  go_simp
  refine (hc.same _ _ r s _ ((Vr.out.below HB.out).more HB.out.size) ((Vs.out.below HB.out).more HB.out.size)).mono ?_
  rintro e qz ⟨rfl, b⟩
  rw [HEV.out.2.1]
  have tB := HB.out.trans (b.mono HB.out.size)
  clear HB b
  have HB := Lib.hid tB
  clear tB
  try go_wp2_with fail
  refine hK.out _ _ ?_ fun hHeld => ?_;exact HB.out;clear hK K;try simp only [zn, Act.put]
  refine tk 6 hHeld ?_;refine tk 7 hHeld ?_;refine tkc 8 hHeld (fun w' hSw => cell3_of ((hSw.block _ (heap_lt X1.out)).trans X1.out)) ?_;refine tkc 9 hHeld (fun w' hSw => cell3_of ((hSw.block _ (heap_lt X2.out)).trans X2.out)) ?_;refine tkc 11 hHeld (fun w' hSw => cell3_of ((hSw.block _ (heap_lt X2.out)).trans X2.out)) ?_;refine tkc 12 hHeld (fun w' hSw => cell3_of ((hSw.block _ (heap_lt X1.out)).trans X1.out)) ?_
  refine tkr 10 (fun K hK => ?_)
  rw [if_pos (by rfl)]
  go_simp
  refine (hc.kept _ _ s r _ ((Vs.out.below HB.out).more HB.out.size) ((Vr.out.below HB.out).more HB.out.size)).mono ?_
  rintro e qz ⟨rfl, b⟩
  rw [HKV.out.1]
  have tB := HB.out.trans (b.mono HB.out.size)
  clear HB b
  have HB := Lib.hid tB
  clear tB
  try go_wp2_with fail
  refine hK.out _ _ ?_ fun hHeld => ?_;exact HB.out;clear hK K;try simp only [zn, Act.put]
  refine tkr 13 (fun K hK => ?_)
  rw [if_pos (by rfl)]
  go_simp
  refine (hc.kept _ _ r s _ ((Vr.out.below HB.out).more HB.out.size) ((Vs.out.below HB.out).more HB.out.size)).mono ?_
  rintro e qz ⟨rfl, b⟩
  rw [HKV.out.2]
  have tB := HB.out.trans (b.mono HB.out.size)
  clear HB b
  have HB := Lib.hid tB
  clear tB
  try go_wp2_with fail
  refine hK.out _ _ ?_ fun hHeld => ?_;exact HB.out;clear hK K;try simp only [zn, Act.put]
  refine tk 14 hHeld ?_;refine tk 15 hHeld ?_;refine tk 16 hHeld ?_;refine tkc 17 hHeld (fun w' hSw => cell3_of ((hSw.block _ (heap_lt X1.out)).trans X1.out)) ?_;refine tkc 18 hHeld (fun w' hSw => cell3_of ((hSw.block _ (heap_lt X2.out)).trans X2.out)) ?_
  refine tkr 19 (fun K hK => ?_)
  rw [if_pos (by rfl)]
  go_simp
  refine (hc.same _ _ s r _ ((Vs.out.below HB.out).more HB.out.size) ((Vr.out.below HB.out).more HB.out.size)).mono ?_
  rintro e qz ⟨rfl, b⟩
  rw [HEV.out.1]
  have tB := HB.out.trans (b.mono HB.out.size)
  clear HB b
  have HB := Lib.hid tB
  clear tB
  try go_wp2_with fail
  refine hK.out _ _ ?_ fun hHeld => ?_;exact HB.out;clear hK K;try simp only [zn, Act.put]
  refine tk 20 hHeld ?_;refine tks 21 hHeld ?_;refine tks 22 hHeld ?_;refine tks 23 hHeld ?_;refine tks 24 hHeld ?_;refine tk 25 hHeld ?_;refine tk 26 hHeld ?_;refine tk 27 hHeld ?_;refine tkc 28 hHeld (fun w' hSw => cell3_of ((hSw.block _ (heap_lt X1.out)).trans X1.out)) ?_;refine tkc 29 hHeld (fun w' hSw => cell3_of ((hSw.block _ (heap_lt X1.out)).trans X1.out)) ?_
  refine tkr 30 (fun K hK => ?_)
  rw [if_pos (by rfl)]
  go_simp
  refine (hc.twin _ s _ ((Vs.out.below HB.out).more HB.out.size) FEW.out).mono ?_
  rintro e qz ⟨u0, u1, u2, rfl, ho, b⟩
  have OT := Lib.hid ho.in_
  have tB := HB.out.trans (b.mono HB.out.size)
  clear HB b ho
  have HB := Lib.hid tB
  clear tB
  try go_wp2_with fail
  refine hK.out _ _ ?_ fun hHeld => ?_;exact HB.out;clear hK K;try simp only [zn, Act.put]
  refine tkr 31 (fun K hK => ?_)
  rw [if_pos (by rfl)]
  go_simp
  refine (hc.same _ _ s s _ ((Vs.out.below HB.out).more HB.out.size) ⟨_, _, _, rfl, OT.out⟩).mono ?_
  rintro e qz ⟨rfl, b⟩
  rw [eqB_self15]
  have tB := HB.out.trans (b.mono HB.out.size)
  clear HB b
  have HB := Lib.hid tB
  clear tB
  try go_wp2_with fail
  refine hK.out _ _ ?_ fun hHeld => ?_;exact HB.out;clear hK K;try simp only [zn, Act.put]
  refine tk 32 hHeld ?_;refine tk 33 hHeld ?_;refine tk 34 hHeld ?_;refine tkc 35 hHeld (fun w' hSw => cell3_of ((hSw.block _ (heap_lt X1.out)).trans X1.out)) ?_;refine tkc 36 hHeld (fun w' hSw => cell3_of ((hSw.block _ (heap_lt X2.out)).trans X2.out)) ?_
  refine tkr 37 (fun K hK => ?_)
  rw [if_pos (by rfl)]
  go_simp
  refine (hc.same _ _ s r _ ((Vs.out.below HB.out).more HB.out.size) ((Vr.out.below HB.out).more HB.out.size)).mono ?_
  rintro e qz ⟨rfl, b⟩
  rw [HEV.out.1]
  have tB := HB.out.trans (b.mono HB.out.size)
  clear HB b
  have HB := Lib.hid tB
  clear tB
  try go_wp2_with fail
  refine hK.out _ _ ?_ fun hHeld => ?_;exact HB.out;clear hK K;try simp only [zn, Act.put]
  refine tk 38 hHeld ?_;refine tks 39 hHeld ?_;refine tks 40 hHeld ?_;refine tks 41 hHeld ?_;refine tks 42 hHeld ?_;refine tks 43 hHeld ?_;refine tks 44 hHeld ?_;refine tks 45 hHeld ?_;refine tk 46 hHeld ?_;refine tk 47 hHeld ?_
  refine wpAnyH_done (by kernel_rfl) ?_ _
  have bN := HB.out
  clear HB hHeld HEV HKV
  replace X0 := Lib.hid ((bN.block _ (heap_lt X0.out)).trans X0.out)
  replace X1 := Lib.hid ((bN.block _ (heap_lt X1.out)).trans X1.out)
  replace X2 := Lib.hid ((bN.block _ (heap_lt X2.out)).trans X2.out)
  replace BQ := Lib.hid (BQ.out.trans (bN.mono BQ.out.size))
  replace VP := Lib.hid ((VP.out.below bN).more bN.size)
  replace Vs := Lib.hid ((Vs.out.below bN).more bN.size)
  replace Vr := Lib.hid ((Vr.out.below bN).more bN.size)
  clear bN
  obtain ⟨l0, l1, l2⟩ := cell3_of X1.out
  obtain ⟨w5, hw5⟩ : ∃ z, z = qz := ⟨_, rfl⟩
  subst hw5
  go_wp2_with fail
  refine (hc.twin _ s _ Vs.out FEW.out).mono ?_
  rintro e wB ⟨u0, u1, u2, rfl, ho, b⟩
  clear l0 l1 l2
  obtain ⟨T0, tc0, rfl⟩ := st_sl ho.in_.tr
  obtain ⟨T1, tc1, rfl⟩ := st_sl ho.in_.sw
  obtain ⟨T2, tc2, rfl⟩ := st_sl ho.in_.lk
  rw [← HNS.out.1, ← HNS.out.2.1, ← HNS.out.2.2] at ho
  rw [← HNS.out.1, ← HNS.out.2.1, ← HNS.out.2.2]
  go_upto_region 7 with ((with_reducible show wpList _ _ _ (⟨none, .store _ _ _, _, _, _, _⟩ :: _) _ _); refine wpList_store_rowS rfl _ (.tmp 10) (.tmp 76) rfl wB.heap.size rfl (c' := #[.slice T0 s0 tc0, .slice T1 s1 tc1, .slice T2 s2 tc2]) rfl (heap_alloc_self wB (.cells #[.slice none 0 0, .slice none 0 0, .slice none 0 0] 26)) infoSt15 rfl (by simp [Value.oneCell']) ?_)
  rw [World.setRow_alloc_new]
  have hx1 := heap_alloc_self wB (.cells #[.slice T0 s0 tc0, .slice T1 s1 tc1, .slice T2 s2 tc2] 26)
  have hb1 := below_new wB (.cells #[.slice T0 s0 tc0, .slice T1 s1 tc1, .slice T2 s2 tc2] 26)
  generalize wB.alloc (.cells #[.slice T0 s0 tc0, .slice T1 s1 tc1, .slice T2 s2 tc2] 26) = w6 at hb1 hx1 ⊢
  have HO := Lib.hid (ho.below hb1)
  have BZ := Lib.hid (b.trans (hb1.mono b.size))
  obtain ⟨p10, hp1⟩ : ∃ n, n = wB.heap.size := ⟨_, rfl⟩
  have HP10 : Hid (w5.heap.size ≤ p10) := Lib.hid (by rw [hp1]; exact b.size)
  rw [← hp1] at hx1 ⊢
  have X10 := Lib.hid hx1
  clear hx1 hp1 hb1 ho b
  obtain ⟨m0, m1, m2⟩ := cell3_of X10.out
  by_cases hn : at_ ≥ 0
  rotate_left
  ·have d0 : decide (at_ ≥ 0) = false := decide_eq_false hn
   go_upto_region 11 with fail
   obtain ⟨wz, hwz⟩ : ∃ z, z = w6 := ⟨_, rfl⟩
   subst hwz
   clear m0 m1 m2
   obtain ⟨i0_, hii, hz0, hz1, hz2⟩ := info_parts infoTrkI15
   have I0 := Lib.hid hii
   have I1 := Lib.hid hz0
   have I2 := Lib.hid hz1
   have I3 := Lib.hid hz2
   have HUL : Hid (s.tr.length = s0) := Lib.hid (by exact HNS.out.1.symm)
   obtain ⟨yss, hown, hyl, hm_, hys, hyr⟩ := HO.out.tr
   have O : Hid (wz.ownsRow w5.heap.size 46 2 (.slice T0 s0 tc0) s0 yss.flatten) := Lib.hid (by have h := hown; rw [HUL.out] at h; exact h)
   have YL := Lib.hid hyl
   have YS := Lib.hid hys
   have YR := Lib.hid hyr
   clear hii hz0 hz1 hz2 hown hyl hm_ hys hyr
   obtain ⟨m0, m1, m2⟩ := cell3_of X10.out
   go_upto_region 12 with ((with_reducible show wpList _ _ _ (⟨some 125, _, _, _, _, _⟩ :: _) _ _); refine wpList_append_list rfl (.tmp 122) (.tmp 124) _ rfl Try.underlying22 I0.out I1.out rfl I2.out (by decide) I3.out (by decide) rfl (O.out.alloc _) rfl (m := 1) (news := [.int .i64 1, .int .u8 0]) rfl (fun h => by cases h) (fun a ha j u hj => by cases ha; rw [Addr.add_lit, Nat.zero_add, World.cell?_alloc_new]; simpa using hj) (by simp [Value.oneCell']) (by have := FEW.out.1; have := HNS.out.1; omega) (by have := BZ.out.size; simp; omega) ?_; intro v4 w9 hown4 hgrow4; have hX9 := box_more15 X10.out _ O.out (by decide) hgrow4; have S4 := ListOwn.snoc (w1 := wz) (x := ((1 : Int), (0 : Int))) (ys := [.int .i64 1, .int .u8 0]) trkR (fun _ h _ _ => h) (show wz.ownsRow w5.heap.size 46 2 (.slice T0 s0 tc0) s.tr.length yss.flatten by rw [HUL.out]; exact O.out) YL.out YS.out rfl (by have := FEW.out.1; have := HNS.out.1; have := HUL.out; unfold maxLen; omega) YR.out (Below.refl _ _) ⟨rfl, rfl, by decide, by decide⟩ (by rw [HUL.out]; exact hown4) hgrow4; obtain ⟨A8, c8, e8⟩ := S4.slice; obtain ⟨L, hL⟩ : ∃ z, z = (s.tr ++ [((1 : Int), (0 : Int))]).length := ⟨_, rfl⟩; rw [← hL] at e8; subst e8; clear hL; obtain ⟨n0_, n1_, n2_⟩ := cell3_of hX9; have fz := frozen2_of hX9 0)
   have hSW := own_off15 (R := SigR) sigF (own_more15 (R := SigR) sigR sigF HO.out.sw _ O.out (by decide) hgrow4) (grown_setK w9 p10 0 (.slice A8 L c8)) (by decide) ⟨_, hX9⟩
   have hLK := own_off15 (R := LckR) lckF (own_more15 (R := LckR) lckR lckF HO.out.lk _ O.out (by decide) hgrow4) (grown_setK w9 p10 0 (.slice A8 L c8)) (by decide) ⟨_, hX9⟩
   have hTR := own_off15 (R := TrkR) trkF S4 (grown_setK w9 p10 0 (.slice A8 L c8)) (by decide) ⟨_, hX9⟩
   have hBY := below_set ((BZ.out.alloc BZ.out.size _).grown hgrow4 (by have := BZ.out.size; simp; omega) (own_ge O.out)) HP10.out 0 (.slice A8 L c8)
   have hXY := heap_setK (k := 0) hX9 (.slice A8 L c8)
   generalize w9.setCell ⟨p10, 0, none⟩ (.slice A8 L c8) = wy at hSW hLK hTR hBY hXY ⊢
   have hOY : StIn wy wy.heap.size (.slice A8 L c8) (.slice T1 s1 tc1) (.slice T2 s2 tc2) ⟨s.tr ++ [((1 : Int), (0 : Int))], s.sw, s.lk⟩ := ⟨hTR.in_ trkR_cells, by rw [← (And.intro (show s.sw = s.sw from rfl) (show s.lk = s.lk from rfl)).1]; exact hSW.in_ sigR_cells, by rw [← (And.intro (show s.sw = s.sw from rfl) (show s.lk = s.lk from rfl)).2]; exact hLK.in_ lckR_cells⟩
   clear fz n0_ n1_ n2_ m0 m1 m2 BZ X10 HO O YL YS YR S4 hX9 hown4 hgrow4 hSW hLK hTR
   have BZ := Lib.hid hBY
   have HY := Lib.hid hOY
   have X10 : Hid (wy.heap[p10]? = some (.cells #[.slice A8 L c8, .slice T1 s1 tc1, .slice T2 s2 tc2] 26 (0, 0))) := Lib.hid hXY
   clear hBY hOY hXY
   obtain ⟨k0, k1, k2, k3, k4, k5⟩ := cell6_of ((BZ.out.block _ (heap_lt X0.out)).trans X0.out)
   obtain ⟨l0, l1, l2⟩ := cell3_of ((BZ.out.block _ (heap_lt X1.out)).trans X1.out)
   go_wp2_with fail
   refine (hc.check _ _ p s wy ((VP.out.below BZ.out).more BZ.out.size) ((Vs.out.below BZ.out).more BZ.out.size)).mono ?_
   rintro e wv ⟨rfl, b⟩
   rw [← HEE.out]
   clear k0 k1 k2 k3 k4 k5 l0 l1 l2
   have tB := BZ.out.trans (b.mono BZ.out.size)
   have tX := (b.block _ (heap_lt X10.out)).trans X10.out
   have tO := (HY.out.below b).more b.size
   clear BZ X10 HY b
   have BZ := Lib.hid tB
   have X10 := Lib.hid tX
   have HY := Lib.hid tO
   clear tB tX tO
   by_cases hE1 : E = 0
   rotate_left
   ·have dE1 : (E != 0) = true := by simpa using hE1
    have BF := Lib.hid (BQ.out.trans (BZ.out.mono BQ.out.size))
    go_wp2_with fail
    go_ret
    exact ⟨rfl, BF.out⟩
   have dE1 : (E != 0) = false := by simpa using hE1
   have HB8 : Hid (staE p ⟨s.tr ++ [((1 : Int), (0 : Int))], s.sw, s.lk⟩ = 8) := Lib.hid (by
    have hm : StMay p s := staE_may15 (by rw [← HEE.out]; exact hE1)
    rw [staE, if_pos (soundP_true hm.sound), stMay_no.2 (more_bad hm (fun e => by have h1 := HUL.out; have h2 := HNS.out.1; rw [List.length_append, h1] at e; simp only [List.length_cons, List.length_nil] at e; omega))]
    rfl)
   obtain ⟨k0, k1, k2, k3, k4, k5⟩ := cell6_of ((BZ.out.block _ (heap_lt X0.out)).trans X0.out)
   obtain ⟨m0, m1, m2⟩ := cell3_of X10.out
   go_wp2_with fail
   refine (hc.check _ _ p _ wv ((VP.out.below BZ.out).more BZ.out.size) ⟨_, _, _, rfl, HY.out⟩).mono ?_
   rintro e wu ⟨rfl, b⟩
   rw [HB8.out]
   have BF := Lib.hid (BQ.out.trans ((BZ.out.trans (b.mono BZ.out.size)).mono BQ.out.size))
   clear k0 k1 k2 k3 k4 k5 m0 m1 m2 b
   go_wp2_with fail
   go_ret
   exact ⟨rfl, BF.out⟩
  have d0 : decide (at_ ≥ 0) = true := decide_eq_true hn
  by_cases hg : at_ < (s0 : Int)
  rotate_left
  ·have d1 : decide (at_ < (s0 : Int)) = false := decide_eq_false hg
   go_upto_region 11 with fail
   obtain ⟨wz, hwz⟩ : ∃ z, z = w6 := ⟨_, rfl⟩
   subst hwz
   clear m0 m1 m2
   obtain ⟨i0_, hii, hz0, hz1, hz2⟩ := info_parts infoTrkI15
   have I0 := Lib.hid hii
   have I1 := Lib.hid hz0
   have I2 := Lib.hid hz1
   have I3 := Lib.hid hz2
   have HUL : Hid (s.tr.length = s0) := Lib.hid (by exact HNS.out.1.symm)
   obtain ⟨yss, hown, hyl, hm_, hys, hyr⟩ := HO.out.tr
   have O : Hid (wz.ownsRow w5.heap.size 46 2 (.slice T0 s0 tc0) s0 yss.flatten) := Lib.hid (by have h := hown; rw [HUL.out] at h; exact h)
   have YL := Lib.hid hyl
   have YS := Lib.hid hys
   have YR := Lib.hid hyr
   clear hii hz0 hz1 hz2 hown hyl hm_ hys hyr
   obtain ⟨m0, m1, m2⟩ := cell3_of X10.out
   go_upto_region 12 with ((with_reducible show wpList _ _ _ (⟨some 125, _, _, _, _, _⟩ :: _) _ _); refine wpList_append_list rfl (.tmp 122) (.tmp 124) _ rfl Try.underlying22 I0.out I1.out rfl I2.out (by decide) I3.out (by decide) rfl (O.out.alloc _) rfl (m := 1) (news := [.int .i64 1, .int .u8 0]) rfl (fun h => by cases h) (fun a ha j u hj => by cases ha; rw [Addr.add_lit, Nat.zero_add, World.cell?_alloc_new]; simpa using hj) (by simp [Value.oneCell']) (by have := FEW.out.1; have := HNS.out.1; omega) (by have := BZ.out.size; simp; omega) ?_; intro v4 w9 hown4 hgrow4; have hX9 := box_more15 X10.out _ O.out (by decide) hgrow4; have S4 := ListOwn.snoc (w1 := wz) (x := ((1 : Int), (0 : Int))) (ys := [.int .i64 1, .int .u8 0]) trkR (fun _ h _ _ => h) (show wz.ownsRow w5.heap.size 46 2 (.slice T0 s0 tc0) s.tr.length yss.flatten by rw [HUL.out]; exact O.out) YL.out YS.out rfl (by have := FEW.out.1; have := HNS.out.1; have := HUL.out; unfold maxLen; omega) YR.out (Below.refl _ _) ⟨rfl, rfl, by decide, by decide⟩ (by rw [HUL.out]; exact hown4) hgrow4; obtain ⟨A8, c8, e8⟩ := S4.slice; obtain ⟨L, hL⟩ : ∃ z, z = (s.tr ++ [((1 : Int), (0 : Int))]).length := ⟨_, rfl⟩; rw [← hL] at e8; subst e8; clear hL; obtain ⟨n0_, n1_, n2_⟩ := cell3_of hX9; have fz := frozen2_of hX9 0)
   have hSW := own_off15 (R := SigR) sigF (own_more15 (R := SigR) sigR sigF HO.out.sw _ O.out (by decide) hgrow4) (grown_setK w9 p10 0 (.slice A8 L c8)) (by decide) ⟨_, hX9⟩
   have hLK := own_off15 (R := LckR) lckF (own_more15 (R := LckR) lckR lckF HO.out.lk _ O.out (by decide) hgrow4) (grown_setK w9 p10 0 (.slice A8 L c8)) (by decide) ⟨_, hX9⟩
   have hTR := own_off15 (R := TrkR) trkF S4 (grown_setK w9 p10 0 (.slice A8 L c8)) (by decide) ⟨_, hX9⟩
   have hBY := below_set ((BZ.out.alloc BZ.out.size _).grown hgrow4 (by have := BZ.out.size; simp; omega) (own_ge O.out)) HP10.out 0 (.slice A8 L c8)
   have hXY := heap_setK (k := 0) hX9 (.slice A8 L c8)
   generalize w9.setCell ⟨p10, 0, none⟩ (.slice A8 L c8) = wy at hSW hLK hTR hBY hXY ⊢
   have hOY : StIn wy wy.heap.size (.slice A8 L c8) (.slice T1 s1 tc1) (.slice T2 s2 tc2) ⟨s.tr ++ [((1 : Int), (0 : Int))], s.sw, s.lk⟩ := ⟨hTR.in_ trkR_cells, by rw [← (And.intro (show s.sw = s.sw from rfl) (show s.lk = s.lk from rfl)).1]; exact hSW.in_ sigR_cells, by rw [← (And.intro (show s.sw = s.sw from rfl) (show s.lk = s.lk from rfl)).2]; exact hLK.in_ lckR_cells⟩
   clear fz n0_ n1_ n2_ m0 m1 m2 BZ X10 HO O YL YS YR S4 hX9 hown4 hgrow4 hSW hLK hTR
   have BZ := Lib.hid hBY
   have HY := Lib.hid hOY
   have X10 : Hid (wy.heap[p10]? = some (.cells #[.slice A8 L c8, .slice T1 s1 tc1, .slice T2 s2 tc2] 26 (0, 0))) := Lib.hid hXY
   clear hBY hOY hXY
   obtain ⟨k0, k1, k2, k3, k4, k5⟩ := cell6_of ((BZ.out.block _ (heap_lt X0.out)).trans X0.out)
   obtain ⟨l0, l1, l2⟩ := cell3_of ((BZ.out.block _ (heap_lt X1.out)).trans X1.out)
   go_wp2_with fail
   refine (hc.check _ _ p s wy ((VP.out.below BZ.out).more BZ.out.size) ((Vs.out.below BZ.out).more BZ.out.size)).mono ?_
   rintro e wv ⟨rfl, b⟩
   rw [← HEE.out]
   clear k0 k1 k2 k3 k4 k5 l0 l1 l2
   have tB := BZ.out.trans (b.mono BZ.out.size)
   have tX := (b.block _ (heap_lt X10.out)).trans X10.out
   have tO := (HY.out.below b).more b.size
   clear BZ X10 HY b
   have BZ := Lib.hid tB
   have X10 := Lib.hid tX
   have HY := Lib.hid tO
   clear tB tX tO
   by_cases hE1 : E = 0
   rotate_left
   ·have dE1 : (E != 0) = true := by simpa using hE1
    have BF := Lib.hid (BQ.out.trans (BZ.out.mono BQ.out.size))
    go_wp2_with fail
    go_ret
    exact ⟨rfl, BF.out⟩
   have dE1 : (E != 0) = false := by simpa using hE1
   have HB8 : Hid (staE p ⟨s.tr ++ [((1 : Int), (0 : Int))], s.sw, s.lk⟩ = 8) := Lib.hid (by
    have hm : StMay p s := staE_may15 (by rw [← HEE.out]; exact hE1)
    rw [staE, if_pos (soundP_true hm.sound), stMay_no.2 (more_bad hm (fun e => by have h1 := HUL.out; have h2 := HNS.out.1; rw [List.length_append, h1] at e; simp only [List.length_cons, List.length_nil] at e; omega))]
    rfl)
   obtain ⟨k0, k1, k2, k3, k4, k5⟩ := cell6_of ((BZ.out.block _ (heap_lt X0.out)).trans X0.out)
   obtain ⟨m0, m1, m2⟩ := cell3_of X10.out
   go_wp2_with fail
   refine (hc.check _ _ p _ wv ((VP.out.below BZ.out).more BZ.out.size) ⟨_, _, _, rfl, HY.out⟩).mono ?_
   rintro e wu ⟨rfl, b⟩
   rw [HB8.out]
   have BF := Lib.hid (BQ.out.trans ((BZ.out.trans (b.mono BZ.out.size)).mono BQ.out.size))
   clear k0 k1 k2 k3 k4 k5 m0 m1 m2 b
   go_wp2_with fail
   go_ret
   exact ⟨rfl, BF.out⟩
  have d1 : decide (at_ < (s0 : Int)) = true := decide_eq_true hg
  obtain ⟨i, rfl⟩ : ∃ i : Nat, at_ = (i : Int) := ⟨at_.toNat, by omega⟩
  have his : i < s.tr.length := by have := HNS.out; omega
  have hlt' : (i : Int) < s0 := by omega
  obtain ⟨x2, hx2⟩ : ∃ z, z = s.tr[i].2 := ⟨_, rfl⟩
  obtain ⟨bt, ot, et, hbt, hc0, hc1, hr1, hr2⟩ := HO.out.in_.tr.at his
  obtain ⟨g, cg, eg, hlog, ⟨cur, hcur⟩, -⟩ := st_setTr HO.out his (z := (x2 % 3 + 1) % 3) (by omega)
  rw [et] at eg
  injection eg with e1 e2 e3
  injection e1 with e1
  injection e1 with e1 e4
  subst e1
  subst e4
  subst et
  rw [← hx2] at hc1 hr1 hr2
  have g1 : w6.cell? ⟨bt, i * 2 + 1, none⟩ = some (.int .u8 x2) := by simpa using hc1
  have HX2 : Hid (0 ≤ x2 ∧ x2 < 256) := Lib.hid ⟨hr1, hr2⟩
  have fz := frozen2_of hcur (i * 2 + 1)
  clear hc0 hc1 hbt e2 e3 hr1 hr2
  have HCUR := Lib.hid hcur
  obtain ⟨zz, hzz⟩ : ∃ z, z = (x2.tmod 3 + 1) % 256 % 3 := ⟨_, rfl⟩
  have HZZ : Hid (0 ≤ zz ∧ zz ≤ 2 ∧ zz ≠ x2) := Lib.hid (by
   have hm : x2.tmod 3 = x2 % 3 := Int.tmod_eq_emod_of_nonneg HX2.out.1
   rw [hm] at hzz
   have := HX2.out
   omega)
  have HUN : Hid (({s with tr := s.tr.set i (s.tr[i].1, zz)} : St15) ≠ s) := Lib.hid (fun e => by
   have e1 : s.tr.set i (s.tr[i].1, zz) = s.tr := congrArg St15.tr e
   have e2 : (s.tr.set i (s.tr[i].1, zz))[i]? = s.tr[i]? := by rw [e1]
   rw [List.getElem?_set_self his, List.getElem?_eq_getElem his, Option.some.injEq] at e2
   have e3 : zz = s.tr[i].2 := congrArg Prod.snd e2
   rw [← hx2] at e3
   exact HZZ.out.2.2 e3)
  obtain ⟨gz, cz, ez, hloz, -, hset⟩ := st_setTr HO.out his (z := zz) (by have := HZZ.out; omega)
  injection ez with ez1 ez2 ez3
  injection ez1 with ez1
  injection ez1 with ez1 ez4
  subst ez1
  have HSET := Lib.hid hset
  have HLO := Lib.hid hloz
  have HIS := Lib.hid his
  clear hx2 hset hloz ez2 ez3 ez4 hn hg
  go_upto_region 8 with fail
  go_region
  rw [← hzz]
  have hd := (Below.refl (w6.setCell ⟨bt, i * 2 + 1, none⟩ (.int .u8 zz)).heap.size (w6.setCell ⟨bt, i * 2 + 1, none⟩ (.int .u8 zz))).drew
  have hB7 := (below_set BZ.out HLO.out (i * 2 + 1) (.int .u8 zz)).trans (hd.mono (below_set BZ.out HLO.out (i * 2 + 1) (.int .u8 zz)).size)
  have hX7 := (hd.block _ (heap_lt ((heap_setFar w6 bt (i * 2 + 1) p10 (.int .u8 zz) (fun e => by
   have h1 := X10.out
   rw [e, HCUR.out] at h1
   injection h1 with h1
   injection h1 with _ h2 _
   exact absurd h2 (by decide))).trans X10.out))).trans ((heap_setFar w6 bt (i * 2 + 1) p10 (.int .u8 zz) (fun e => by
   have h1 := X10.out
   rw [e, HCUR.out] at h1
   injection h1 with h1
   injection h1 with _ h2 _
   exact absurd h2 (by decide))).trans X10.out)
  have hO7 := HSET.out.below hd
  generalize (w6.setCell ⟨bt, i * 2 + 1, none⟩ (.int .u8 zz)).drew = w7 at hd hB7 hX7 hO7 ⊢
  clear BZ X10 HO HSET HCUR hd g1 fz hcur hzz m0 m1 m2
  have BZ := Lib.hid hB7
  have X10 := Lib.hid hX7
  have HO := Lib.hid hO7
  clear hB7 hX7 hO7
  obtain ⟨u, hu⟩ : ∃ z, z = ({s with tr := s.tr.set i (s.tr[i].1, zz)} : St15) := ⟨_, rfl⟩
  have HU := Lib.hid hu
  have HO2 : Hid (StOwn w7 w5.heap.size (.slice (some ⟨bt, 0, none⟩) s0 tc0) (.slice T1 s1 tc1) (.slice T2 s2 tc2) u) := Lib.hid (by rw [hu]; exact HO.out)
  have HUN2 : Hid (u ≠ s) := Lib.hid (by rw [hu]; exact HUN.out)
  clear HO HUN
  have HO := HO2
  have HUN := HUN2
  clear HO2 HUN2
  clear hu
  obtain ⟨wz, hwz⟩ : ∃ z, z = w7 := ⟨_, rfl⟩
  subst hwz
  obtain ⟨l0, l1, l2⟩ := cell3_of ((BZ.out.block _ (heap_lt X1.out)).trans X1.out)
  obtain ⟨m0, m1, m2⟩ := cell3_of X10.out
  go_wp2_with fail
  refine (hc.kept _ _ s u wz ((Vs.out.below BZ.out).more BZ.out.size) ⟨_, _, _, rfl, HO.out.in_⟩).mono ?_
  rintro e wz ⟨rfl, b⟩
  rw [show eqB (keptS s) (keptS u) = true from by rw [HU.out]; exact eqB_self15 _]
  clear l0 l1 l2
  clear m0 m1 m2
  have tB := BZ.out.trans (b.mono BZ.out.size)
  have tX := (b.block _ (heap_lt X10.out)).trans X10.out
  have tO := HO.out.below b
  clear BZ X10 HO b
  have BZ := Lib.hid tB
  have X10 := Lib.hid tX
  have HO := Lib.hid tO
  clear tB tX tO
  obtain ⟨l0, l1, l2⟩ := cell3_of ((BZ.out.block _ (heap_lt X1.out)).trans X1.out)
  obtain ⟨m0, m1, m2⟩ := cell3_of X10.out
  go_wp2_with fail
  refine (hc.same _ _ s u wz ((Vs.out.below BZ.out).more BZ.out.size) ⟨_, _, _, rfl, HO.out.in_⟩).mono ?_
  rintro e wz ⟨rfl, b⟩
  rw [show eqB s u = false from by rw [← Bool.not_eq_true, eqB_iff]; exact fun e => HUN.out e.symm]
  clear l0 l1 l2
  clear m0 m1 m2
  have tB := BZ.out.trans (b.mono BZ.out.size)
  have tX := (b.block _ (heap_lt X10.out)).trans X10.out
  have tO := HO.out.below b
  clear BZ X10 HO b
  have BZ := Lib.hid tB
  have X10 := Lib.hid tX
  have HO := Lib.hid tO
  clear tB tX tO
  obtain ⟨k0, k1, k2, k3, k4, k5⟩ := cell6_of ((BZ.out.block _ (heap_lt X0.out)).trans X0.out)
  obtain ⟨l0, l1, l2⟩ := cell3_of ((BZ.out.block _ (heap_lt X1.out)).trans X1.out)
  go_wp2_with fail
  refine (hc.check _ _ p s wz ((VP.out.below BZ.out).more BZ.out.size) ((Vs.out.below BZ.out).more BZ.out.size)).mono ?_
  rintro e wz ⟨rfl, b⟩
  rw [← HEE.out]
  clear k0 k1 k2 k3 k4 k5
  clear l0 l1 l2
  have tB := BZ.out.trans (b.mono BZ.out.size)
  have tX := (b.block _ (heap_lt X10.out)).trans X10.out
  have tO := HO.out.below b
  clear BZ X10 HO b
  have BZ := Lib.hid tB
  have X10 := Lib.hid tX
  have HO := Lib.hid tO
  clear tB tX tO
  by_cases hE0 : E = 0
  ·have dE : (E == 0) = true := by simpa using hE0
   have HM := Lib.hid (staE_may15 (by rw [← HEE.out]; exact hE0) : StMay p s)
   obtain ⟨k0, k1, k2, k3, k4, k5⟩ := cell6_of ((BZ.out.block _ (heap_lt X0.out)).trans X0.out)
   obtain ⟨m0, m1, m2⟩ := cell3_of X10.out
   go_wp2_with fail
   refine (hc.check _ _ p u wz ((VP.out.below BZ.out).more BZ.out.size) ⟨_, _, _, rfl, HO.out.in_⟩).mono ?_
   rintro e wz ⟨rfl, b⟩
   rw [show staE p u = 0 from by rw [HU.out]; exact staE_zero15 (tracks_may HM.out HIS.out HZZ.out.2.1)]
   clear k0 k1 k2 k3 k4 k5
   clear m0 m1 m2
   have tB := BZ.out.trans (b.mono BZ.out.size)
   have tX := (b.block _ (heap_lt X10.out)).trans X10.out
   have tO := HO.out.below b
   clear BZ X10 HO b
   have BZ := Lib.hid tB
   have X10 := Lib.hid tX
   have HO := Lib.hid tO
   clear tB tX tO
   go_upto_region 11 with fail
   obtain ⟨i0_, hii, hz0, hz1, hz2⟩ := info_parts infoTrkI15
   have I0 := Lib.hid hii
   have I1 := Lib.hid hz0
   have I2 := Lib.hid hz1
   have I3 := Lib.hid hz2
   have HUL : Hid (u.tr.length = s0) := Lib.hid (by rw [HU.out]; simp only [List.length_set]; exact HNS.out.1.symm)
   obtain ⟨yss, hown, hyl, hm_, hys, hyr⟩ := HO.out.tr
   have O : Hid (wz.ownsRow w5.heap.size 46 2 (.slice (some ⟨bt, 0, none⟩) s0 tc0) s0 yss.flatten) := Lib.hid (by have h := hown; rw [HUL.out] at h; exact h)
   have YL := Lib.hid hyl
   have YS := Lib.hid hys
   have YR := Lib.hid hyr
   clear hii hz0 hz1 hz2 hown hyl hm_ hys hyr
   obtain ⟨m0, m1, m2⟩ := cell3_of X10.out
   go_upto_region 12 with ((with_reducible show wpList _ _ _ (⟨some 125, _, _, _, _, _⟩ :: _) _ _); refine wpList_append_list rfl (.tmp 122) (.tmp 124) _ rfl Try.underlying22 I0.out I1.out rfl I2.out (by decide) I3.out (by decide) rfl (O.out.alloc _) rfl (m := 1) (news := [.int .i64 1, .int .u8 0]) rfl (fun h => by cases h) (fun a ha j u hj => by cases ha; rw [Addr.add_lit, Nat.zero_add, World.cell?_alloc_new]; simpa using hj) (by simp [Value.oneCell']) (by have := FEW.out.1; have := HNS.out.1; omega) (by have := BZ.out.size; simp; omega) ?_; intro v4 w9 hown4 hgrow4; have hX9 := box_more15 X10.out _ O.out (by decide) hgrow4; have S4 := ListOwn.snoc (w1 := wz) (x := ((1 : Int), (0 : Int))) (ys := [.int .i64 1, .int .u8 0]) trkR (fun _ h _ _ => h) (show wz.ownsRow w5.heap.size 46 2 (.slice (some ⟨bt, 0, none⟩) s0 tc0) u.tr.length yss.flatten by rw [HUL.out]; exact O.out) YL.out YS.out rfl (by have := FEW.out.1; have := HNS.out.1; have := HUL.out; unfold maxLen; omega) YR.out (Below.refl _ _) ⟨rfl, rfl, by decide, by decide⟩ (by rw [HUL.out]; exact hown4) hgrow4; obtain ⟨A8, c8, e8⟩ := S4.slice; obtain ⟨L, hL⟩ : ∃ z, z = (u.tr ++ [((1 : Int), (0 : Int))]).length := ⟨_, rfl⟩; rw [← hL] at e8; subst e8; clear hL; obtain ⟨n0_, n1_, n2_⟩ := cell3_of hX9; have fz := frozen2_of hX9 0)
   have hSW := own_off15 (R := SigR) sigF (own_more15 (R := SigR) sigR sigF HO.out.sw _ O.out (by decide) hgrow4) (grown_setK w9 p10 0 (.slice A8 L c8)) (by decide) ⟨_, hX9⟩
   have hLK := own_off15 (R := LckR) lckF (own_more15 (R := LckR) lckR lckF HO.out.lk _ O.out (by decide) hgrow4) (grown_setK w9 p10 0 (.slice A8 L c8)) (by decide) ⟨_, hX9⟩
   have hTR := own_off15 (R := TrkR) trkF S4 (grown_setK w9 p10 0 (.slice A8 L c8)) (by decide) ⟨_, hX9⟩
   have hBY := below_set ((BZ.out.alloc BZ.out.size _).grown hgrow4 (by have := BZ.out.size; simp; omega) (own_ge O.out)) HP10.out 0 (.slice A8 L c8)
   have hXY := heap_setK (k := 0) hX9 (.slice A8 L c8)
   generalize w9.setCell ⟨p10, 0, none⟩ (.slice A8 L c8) = wy at hSW hLK hTR hBY hXY ⊢
   have hOY : StIn wy wy.heap.size (.slice A8 L c8) (.slice T1 s1 tc1) (.slice T2 s2 tc2) ⟨u.tr ++ [((1 : Int), (0 : Int))], s.sw, s.lk⟩ := ⟨hTR.in_ trkR_cells, by rw [← (And.intro (show u.sw = s.sw by rw [HU.out]) (show u.lk = s.lk by rw [HU.out])).1]; exact hSW.in_ sigR_cells, by rw [← (And.intro (show u.sw = s.sw by rw [HU.out]) (show u.lk = s.lk by rw [HU.out])).2]; exact hLK.in_ lckR_cells⟩
   clear fz n0_ n1_ n2_ m0 m1 m2 BZ X10 HO O YL YS YR S4 hX9 hown4 hgrow4 hSW hLK hTR
   have BZ := Lib.hid hBY
   have HY := Lib.hid hOY
   have X10 : Hid (wy.heap[p10]? = some (.cells #[.slice A8 L c8, .slice T1 s1 tc1, .slice T2 s2 tc2] 26 (0, 0))) := Lib.hid hXY
   clear hBY hOY hXY
   obtain ⟨k0, k1, k2, k3, k4, k5⟩ := cell6_of ((BZ.out.block _ (heap_lt X0.out)).trans X0.out)
   obtain ⟨l0, l1, l2⟩ := cell3_of ((BZ.out.block _ (heap_lt X1.out)).trans X1.out)
   go_wp2_with fail
   refine (hc.check _ _ p s wy ((VP.out.below BZ.out).more BZ.out.size) ((Vs.out.below BZ.out).more BZ.out.size)).mono ?_
   rintro e wv ⟨rfl, b⟩
   rw [← HEE.out]
   clear k0 k1 k2 k3 k4 k5 l0 l1 l2
   have tB := BZ.out.trans (b.mono BZ.out.size)
   have tX := (b.block _ (heap_lt X10.out)).trans X10.out
   have tO := (HY.out.below b).more b.size
   clear BZ X10 HY b
   have BZ := Lib.hid tB
   have X10 := Lib.hid tX
   have HY := Lib.hid tO
   clear tB tX tO
   have hE1 : E = 0 := hE0
   have dE1 : (E != 0) = false := by simpa using hE1
   have HB8 : Hid (staE p ⟨u.tr ++ [((1 : Int), (0 : Int))], s.sw, s.lk⟩ = 8) := Lib.hid (by
    have hm : StMay p s := staE_may15 (by rw [← HEE.out]; exact hE1)
    rw [staE, if_pos (soundP_true hm.sound), stMay_no.2 (more_bad hm (fun e => by have h1 := HUL.out; have h2 := HNS.out.1; rw [List.length_append, h1] at e; simp only [List.length_cons, List.length_nil] at e; omega))]
    rfl)
   obtain ⟨k0, k1, k2, k3, k4, k5⟩ := cell6_of ((BZ.out.block _ (heap_lt X0.out)).trans X0.out)
   obtain ⟨m0, m1, m2⟩ := cell3_of X10.out
   go_wp2_with fail
   refine (hc.check _ _ p _ wv ((VP.out.below BZ.out).more BZ.out.size) ⟨_, _, _, rfl, HY.out⟩).mono ?_
   rintro e wu ⟨rfl, b⟩
   rw [HB8.out]
   have BF := Lib.hid (BQ.out.trans ((BZ.out.trans (b.mono BZ.out.size)).mono BQ.out.size))
   clear k0 k1 k2 k3 k4 k5 m0 m1 m2 b
   go_wp2_with fail
   go_ret
   exact ⟨rfl, BF.out⟩
  ·have dE : (E == 0) = false := by simpa using hE0
   go_upto_region 11 with fail
   obtain ⟨i0_, hii, hz0, hz1, hz2⟩ := info_parts infoTrkI15
   have I0 := Lib.hid hii
   have I1 := Lib.hid hz0
   have I2 := Lib.hid hz1
   have I3 := Lib.hid hz2
   have HUL : Hid (u.tr.length = s0) := Lib.hid (by rw [HU.out]; simp only [List.length_set]; exact HNS.out.1.symm)
   obtain ⟨yss, hown, hyl, hm_, hys, hyr⟩ := HO.out.tr
   have O : Hid (wz.ownsRow w5.heap.size 46 2 (.slice (some ⟨bt, 0, none⟩) s0 tc0) s0 yss.flatten) := Lib.hid (by have h := hown; rw [HUL.out] at h; exact h)
   have YL := Lib.hid hyl
   have YS := Lib.hid hys
   have YR := Lib.hid hyr
   clear hii hz0 hz1 hz2 hown hyl hm_ hys hyr
   obtain ⟨m0, m1, m2⟩ := cell3_of X10.out
   go_upto_region 12 with ((with_reducible show wpList _ _ _ (⟨some 125, _, _, _, _, _⟩ :: _) _ _); refine wpList_append_list rfl (.tmp 122) (.tmp 124) _ rfl Try.underlying22 I0.out I1.out rfl I2.out (by decide) I3.out (by decide) rfl (O.out.alloc _) rfl (m := 1) (news := [.int .i64 1, .int .u8 0]) rfl (fun h => by cases h) (fun a ha j u hj => by cases ha; rw [Addr.add_lit, Nat.zero_add, World.cell?_alloc_new]; simpa using hj) (by simp [Value.oneCell']) (by have := FEW.out.1; have := HNS.out.1; omega) (by have := BZ.out.size; simp; omega) ?_; intro v4 w9 hown4 hgrow4; have hX9 := box_more15 X10.out _ O.out (by decide) hgrow4; have S4 := ListOwn.snoc (w1 := wz) (x := ((1 : Int), (0 : Int))) (ys := [.int .i64 1, .int .u8 0]) trkR (fun _ h _ _ => h) (show wz.ownsRow w5.heap.size 46 2 (.slice (some ⟨bt, 0, none⟩) s0 tc0) u.tr.length yss.flatten by rw [HUL.out]; exact O.out) YL.out YS.out rfl (by have := FEW.out.1; have := HNS.out.1; have := HUL.out; unfold maxLen; omega) YR.out (Below.refl _ _) ⟨rfl, rfl, by decide, by decide⟩ (by rw [HUL.out]; exact hown4) hgrow4; obtain ⟨A8, c8, e8⟩ := S4.slice; obtain ⟨L, hL⟩ : ∃ z, z = (u.tr ++ [((1 : Int), (0 : Int))]).length := ⟨_, rfl⟩; rw [← hL] at e8; subst e8; clear hL; obtain ⟨n0_, n1_, n2_⟩ := cell3_of hX9; have fz := frozen2_of hX9 0)
   have hSW := own_off15 (R := SigR) sigF (own_more15 (R := SigR) sigR sigF HO.out.sw _ O.out (by decide) hgrow4) (grown_setK w9 p10 0 (.slice A8 L c8)) (by decide) ⟨_, hX9⟩
   have hLK := own_off15 (R := LckR) lckF (own_more15 (R := LckR) lckR lckF HO.out.lk _ O.out (by decide) hgrow4) (grown_setK w9 p10 0 (.slice A8 L c8)) (by decide) ⟨_, hX9⟩
   have hTR := own_off15 (R := TrkR) trkF S4 (grown_setK w9 p10 0 (.slice A8 L c8)) (by decide) ⟨_, hX9⟩
   have hBY := below_set ((BZ.out.alloc BZ.out.size _).grown hgrow4 (by have := BZ.out.size; simp; omega) (own_ge O.out)) HP10.out 0 (.slice A8 L c8)
   have hXY := heap_setK (k := 0) hX9 (.slice A8 L c8)
   generalize w9.setCell ⟨p10, 0, none⟩ (.slice A8 L c8) = wy at hSW hLK hTR hBY hXY ⊢
   have hOY : StIn wy wy.heap.size (.slice A8 L c8) (.slice T1 s1 tc1) (.slice T2 s2 tc2) ⟨u.tr ++ [((1 : Int), (0 : Int))], s.sw, s.lk⟩ := ⟨hTR.in_ trkR_cells, by rw [← (And.intro (show u.sw = s.sw by rw [HU.out]) (show u.lk = s.lk by rw [HU.out])).1]; exact hSW.in_ sigR_cells, by rw [← (And.intro (show u.sw = s.sw by rw [HU.out]) (show u.lk = s.lk by rw [HU.out])).2]; exact hLK.in_ lckR_cells⟩
   clear fz n0_ n1_ n2_ m0 m1 m2 BZ X10 HO O YL YS YR S4 hX9 hown4 hgrow4 hSW hLK hTR
   have BZ := Lib.hid hBY
   have HY := Lib.hid hOY
   have X10 : Hid (wy.heap[p10]? = some (.cells #[.slice A8 L c8, .slice T1 s1 tc1, .slice T2 s2 tc2] 26 (0, 0))) := Lib.hid hXY
   clear hBY hOY hXY
   obtain ⟨k0, k1, k2, k3, k4, k5⟩ := cell6_of ((BZ.out.block _ (heap_lt X0.out)).trans X0.out)
   obtain ⟨l0, l1, l2⟩ := cell3_of ((BZ.out.block _ (heap_lt X1.out)).trans X1.out)
   go_wp2_with fail
   refine (hc.check _ _ p s wy ((VP.out.below BZ.out).more BZ.out.size) ((Vs.out.below BZ.out).more BZ.out.size)).mono ?_
   rintro e wv ⟨rfl, b⟩
   rw [← HEE.out]
   clear k0 k1 k2 k3 k4 k5 l0 l1 l2
   have tB := BZ.out.trans (b.mono BZ.out.size)
   have tX := (b.block _ (heap_lt X10.out)).trans X10.out
   have tO := (HY.out.below b).more b.size
   clear BZ X10 HY b
   have BZ := Lib.hid tB
   have X10 := Lib.hid tX
   have HY := Lib.hid tO
   clear tB tX tO
   have dE1 : (E != 0) = true := by simpa using hE0
   have BF := Lib.hid (BQ.out.trans (BZ.out.mono BQ.out.size))
   go_wp2_with fail
   go_ret
   exact ⟨rfl, BF.out⟩
end Go.Proofs.Ytemmgmjhomgbbaa
