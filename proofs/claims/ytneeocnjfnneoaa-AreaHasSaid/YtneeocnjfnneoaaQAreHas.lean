/-
 Whether an element is in an area, whether two areas are the same: the walk, given the program's answers.
 Conditions: none.
-/
import Derived.Test.YtneeocnjfnneoaaQAreRefI
set_option linter.unusedVariables false
set_option linter.unusedSimpArgs false
set_option maxRecDepth 100000
namespace Go.Proofs.Ytneeocnjfnneoaa
open Go.RowKit

set_option maxHeartbeats 16000000 in
theorem walk_area_has (hc : AreaSaid) (v y : Value) (x z : Ar) (kind id : Int) (w : World) (h : AreaV w w.heap.size v x) (h' : AreaV w w.heap.size y z) (hk0 : 0 ≤ kind) (hk1 : kind < 256) :
  Calls Try.prog 3 #[v, y, .int .u8 kind, .int .i64 id] w fun e w' => e = .returned (.bool true) ∧ Below w.heap.size w w' := by
 have KK := Lib.hid (And.intro hk0 hk1)
 clear hk0 hk1
 obtain ⟨u0, u1, u2, u3, rfl, hin⟩ := h
 obtain ⟨z0, z1, z2, z3, rfl, hin'⟩ := h'
 obtain ⟨h0, h1, hqb⟩ := two_boxes w (.cells #[u0, u1, u2, u3] 24) (.cells #[z0, z1, z2, z3] 24)
 go_enter Try.func3, Try.ntmps3
 go_upto_region 1 with fail
 generalize (w.alloc (.cells #[u0, u1, u2, u3] 24)).alloc (.cells #[z0, z1, z2, z3] 24) = q at h0 h1 hqb ⊢
 have X0 := Lib.hid h0
 have X1 := Lib.hid h1
 have BQ := Lib.hid hqb
 have IA := Lib.hid ((hin.below hqb).more hqb.size)
 have IB := Lib.hid ((hin'.below hqb).more hqb.size)
 clear h0 h1 hqb hin hin'
 obtain ⟨k0, k1, k2, k3⟩ := cell4A X0.out
 go_wp2_with fail
 refine (rgreat14_any _ x q ⟨_, _, _, _, rfl, IA.out⟩).mono ?_
 rintro e w1 ⟨rfl, bN⟩
 clear k0 k1 k2 k3
 replace X0 := Lib.hid ((bN.block _ (heap_lt X0.out)).trans X0.out)
 replace X1 := Lib.hid ((bN.block _ (heap_lt X1.out)).trans X1.out)
 replace BQ := Lib.hid (BQ.out.trans (bN.mono BQ.out.size))
 replace IA := Lib.hid ((IA.out.below bN).more bN.size)
 replace IB := Lib.hid ((IB.out.below bN).more bN.size)
 clear bN
 cases greatA x with
 | true =>
  go_wp2_with fail
  go_ret
  exact ⟨rfl, BQ.out⟩
 | false =>
 obtain ⟨k0, k1, k2, k3⟩ := cell4A X1.out
 go_wp2_with fail
 refine (rgreat14_any _ z w1 ⟨_, _, _, _, rfl, IB.out⟩).mono ?_
 rintro e w2 ⟨rfl, bN⟩
 clear k0 k1 k2 k3
 replace X0 := Lib.hid ((bN.block _ (heap_lt X0.out)).trans X0.out)
 replace X1 := Lib.hid ((bN.block _ (heap_lt X1.out)).trans X1.out)
 replace BQ := Lib.hid (BQ.out.trans (bN.mono BQ.out.size))
 replace IA := Lib.hid ((IA.out.below bN).more bN.size)
 replace IB := Lib.hid ((IB.out.below bN).more bN.size)
 clear bN
 cases greatA z with
 | true =>
  go_wp2_with fail
  go_ret
  exact ⟨rfl, BQ.out⟩
 | false =>
 go_upto_region 3 with fail
 refine wp_region_held_drew (S := fun v => Below w2.heap.size w2 v) (by kernel_rfl) (Below.refl w2.heap.size w2).drew (fun hHeld => ?_)
 refine tkc 0 hHeld (fun w' hSw => cell4A ((hSw.block _ (heap_lt X0.out)).trans X0.out)) ?_;refine tk 1 hHeld ?_;refine tk 2 hHeld ?_;refine tkc 4 hHeld (fun w' hSw => cell4A ((hSw.block _ (heap_lt X0.out)).trans X0.out)) ?_;refine tk 5 hHeld ?_;refine tk 6 hHeld ?_
 have tb := (Below.refl w2.heap.size w2).drew
 generalize w2.drew = q0 at tb hHeld ⊢
 have HB := Lib.hid tb
 clear tb
 refine tkr 3 (fun K hK => ?_)
 go_simp
 refine (hc.has _ x kind id q0 ⟨_, _, _, _, rfl, (IA.out.below HB.out).more HB.out.size⟩ KK.out.1 KK.out.2).mono ?_
 rintro e q1 ⟨rfl, b⟩
 have HB' := Lib.hid (HB.out.trans (b.mono HB.out.size))
 clear b HB
 have HB := HB'
 clear HB'
 try go_wp2_with fail
 refine hK.out _ _ ?_ fun hHeld => ?_;exact HB.out;clear hK K;try simp only [zn, Act.put]
 refine tkr 7 (fun K hK => ?_)
 go_simp
 refine (rhas14_any _ x kind id q1 ⟨_, _, _, _, rfl, (IA.out.below HB.out).more HB.out.size⟩).mono ?_
 rintro e q2 ⟨rfl, b⟩
 have HB' := Lib.hid (HB.out.trans (b.mono HB.out.size))
 clear b HB
 have HB := HB'
 clear HB'
 try go_wp2_with fail
 refine hK.out _ _ ?_ fun hHeld => ?_;exact HB.out;clear hK K;try simp only [zn, Act.put]
 generalize hasA x kind id = h0 at hHeld ⊢
 refine tk 8 hHeld ?_;refine tk 9 hHeld ?_;refine tkc 10 hHeld (fun w' hSw => cell4A ((hSw.block _ (heap_lt X0.out)).trans X0.out)) ?_;refine tkc 11 hHeld (fun w' hSw => cell4A ((hSw.block _ (heap_lt X1.out)).trans X1.out)) ?_;refine tkc 13 hHeld (fun w' hSw => cell4A ((hSw.block _ (heap_lt X0.out)).trans X0.out)) ?_;refine tkc 14 hHeld (fun w' hSw => cell4A ((hSw.block _ (heap_lt X1.out)).trans X1.out)) ?_
 refine tkr 12 (fun K hK => ?_)
 go_simp
 refine (hc.same _ _ x z q2 ⟨_, _, _, _, rfl, (IA.out.below HB.out).more HB.out.size⟩ ⟨_, _, _, _, rfl, (IB.out.below HB.out).more HB.out.size⟩).mono ?_
 rintro e q3 ⟨rfl, b⟩
 have HB' := Lib.hid (HB.out.trans (b.mono HB.out.size))
 clear b HB
 have HB := HB'
 clear HB'
 try go_wp2_with fail
 refine hK.out _ _ ?_ fun hHeld => ?_;exact HB.out;clear hK K;try simp only [zn, Act.put]
 refine tkr 15 (fun K hK => ?_)
 go_simp
 refine (rsame14_any _ _ x z q3 ⟨_, _, _, _, rfl, (IA.out.below HB.out).more HB.out.size⟩ ⟨_, _, _, _, rfl, (IB.out.below HB.out).more HB.out.size⟩).mono ?_
 rintro e q4 ⟨rfl, b⟩
 have HB' := Lib.hid (HB.out.trans (b.mono HB.out.size))
 clear b HB
 have HB := HB'
 clear HB'
 try go_wp2_with fail
 refine hK.out _ _ ?_ fun hHeld => ?_;exact HB.out;clear hK K;try simp only [zn, Act.put]
 generalize eqB x z = h1 at hHeld ⊢
 refine tk 16 hHeld ?_;refine tk 17 hHeld ?_;refine tk 18 hHeld ?_;refine tkc 19 hHeld (fun w' hSw => cell4A ((hSw.block _ (heap_lt X0.out)).trans X0.out)) ?_;refine tkc 20 hHeld (fun w' hSw => cell4A ((hSw.block _ (heap_lt X0.out)).trans X0.out)) ?_
 refine tkr 21 (fun K hK => ?_)
 go_simp
 refine (hc.same _ _ x x q4 ⟨_, _, _, _, rfl, (IA.out.below HB.out).more HB.out.size⟩ ⟨_, _, _, _, rfl, (IA.out.below HB.out).more HB.out.size⟩).mono ?_
 rintro e q5 ⟨rfl, b⟩
 rw [eqB_true rfl]
 have HB' := Lib.hid (HB.out.trans (b.mono HB.out.size))
 clear b HB
 have HB := HB'
 clear HB'
 try go_wp2_with fail
 refine hK.out _ _ ?_ fun hHeld => ?_;exact HB.out;clear hK K;try simp only [zn, Act.put]
 refine tk 22 hHeld ?_;refine tk 23 hHeld ?_
 refine wpAnyH_done (by kernel_rfl) ?_ _
 have BL := Lib.hid (BQ.out.trans (HB.out.mono BQ.out.size))
 go_wp2_with fail
 go_ret
 exact ⟨by simp, BL.out⟩
end Go.Proofs.Ytneeocnjfnneoaa
