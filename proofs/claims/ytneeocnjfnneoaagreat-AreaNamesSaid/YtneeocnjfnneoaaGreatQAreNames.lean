/-
 The chapter's examples of areas: the walk, given the program's answers.
 Conditions: none.
-/
import Derived.Test.YtneeocnjfnneoaaGreatQGAreOne
set_option linter.unusedVariables false
set_option linter.unusedSimpArgs false
set_option maxRecDepth 100000
namespace Go.Proofs.YtneeocnjfnneoaaGreat
open Go.RowKit

def zeroP : Pl := ⟨0, 0, [], [], [], []⟩
theorem not_may0 : ¬ PlanMay zeroP := fun h => by have := h.ver; simp [zeroP] at this
theorem usV_nine : usV planOne 9 = noAr := by rw [usV, if_neg (by rw [usE_nine]; decide)]
set_option maxHeartbeats 8000000 in
theorem walk_area_names (hc : AreaSaid) (w : World) : Calls Tryz.prog 3 #[] w fun e w' => e = .returned (.bool true) ∧ Below w.heap.size w w' := by
 go_enter Tryz.func3, Tryz.ntmps3
 have B0 := Lib.hid (Below.refl w.heap.size w)
 go_wp2_with fail
 refine (one14_any _).mono ?_
 rintro e w1 ⟨v0, rfl, hv_, b1⟩
 have Pv0 := Lib.hid hv_
 clear hv_
 replace B0 := Lib.hid (B0.out.trans (b1.mono B0.out.size))
 clear b1
 go_wp2_with fail
 refine (one14_any _).mono ?_
 rintro e w2 ⟨v1, rfl, hv_, b1⟩
 have Pv1 := Lib.hid hv_
 clear hv_
 replace Pv0 := Lib.hid ((Pv0.out.below b1).more b1.size)
 replace B0 := Lib.hid (B0.out.trans (b1.mono B0.out.size))
 clear b1
 go_wp2_with fail
 refine (hc.of v0 v1 planOne planOne w2 Pv0.out Pv1.out).mono ?_
 rintro e w3 ⟨u0, u1, u2, u3, rfl, hu, b1⟩
 rw [(arV_self may_one13).2] at hu
 rw [(arV_self may_one13).1]
 obtain ⟨U0, nU0, cU0, rfl⟩ := ints_sl hu.secs
 obtain ⟨U1, nU1, cU1, rfl⟩ := ints_sl hu.pts
 obtain ⟨U2, nU2, cU2, rfl⟩ := ints_sl hu.sigs
 obtain ⟨U3, nU3, cU3, rfl⟩ := ints_sl hu.routes
 have AU := Lib.hid hu
 clear hu
 clear Pv0 Pv1
 replace B0 := Lib.hid (B0.out.trans (b1.mono B0.out.size))
 clear b1
 go_upto_region 2 with ((with_reducible show wpList _ _ _ (⟨none, _, _, _, _, _⟩ :: _) _ _); refine wpList_store_rowS rfl _ (.tmp 1) (.tmp 13) rfl w3.heap.size rfl (c' := #[.slice U0 nU0 cU0, .slice U1 nU1 cU1, .slice U2 nU2 cU2, .slice U3 nU3 cU3]) rfl (heap_alloc_self w3 (.cells #[.slice none 0 0, .slice none 0 0, .slice none 0 0, .slice none 0 0] 24)) infoArea4 rfl (by simp [Value.oneCell']) ?_)
 rw [World.setRow_alloc_new]
 have hx1 := heap_alloc_self w3 (.cells #[.slice U0 nU0 cU0, .slice U1 nU1 cU1, .slice U2 nU2 cU2, .slice U3 nU3 cU3] 24)
 have hb1 := below_new w3 (.cells #[.slice U0 nU0 cU0, .slice U1 nU1 cU1, .slice U2 nU2 cU2, .slice U3 nU3 cU3] 24)
 generalize w3.alloc (.cells #[.slice U0 nU0 cU0, .slice U1 nU1 cU1, .slice U2 nU2 cU2, .slice U3 nU3 cU3] 24) = w4 at hb1 hx1 ⊢
 obtain ⟨p1, hp1⟩ : ∃ n, n = w3.heap.size := ⟨_, rfl⟩
 rw [← hp1] at hx1 ⊢
 have XU := Lib.hid hx1
 clear hx1 hp1
 replace AU := Lib.hid ((AU.out.below hb1).more hb1.size)
 replace B0 := Lib.hid (B0.out.trans (hb1.mono B0.out.size))
 clear hb1
 go_wp2_with fail
 refine (one14_any _).mono ?_
 rintro e w5 ⟨v2, rfl, hv_, b1⟩
 have Pv2 := Lib.hid hv_
 clear hv_
 replace XU := Lib.hid ((b1.block _ (heap_lt XU.out)).trans XU.out)
 replace AU := Lib.hid ((AU.out.below b1).more b1.size)
 replace B0 := Lib.hid (B0.out.trans (b1.mono B0.out.size))
 clear b1
 go_wp2_with fail
 refine (hc.uses v2 planOne 9 w5 Pv2.out).mono ?_
 rintro e w6 ⟨u0, u1, u2, u3, rfl, hu, b1⟩
 rw [usV_nine] at hu
 rw [usE_nine]
 obtain ⟨N0, nN0, cN0, rfl⟩ := ints_sl hu.secs
 obtain ⟨N1, nN1, cN1, rfl⟩ := ints_sl hu.pts
 obtain ⟨N2, nN2, cN2, rfl⟩ := ints_sl hu.sigs
 obtain ⟨N3, nN3, cN3, rfl⟩ := ints_sl hu.routes
 have AN := Lib.hid hu
 clear hu
 clear Pv2
 replace XU := Lib.hid ((b1.block _ (heap_lt XU.out)).trans XU.out)
 replace AU := Lib.hid ((AU.out.below b1).more b1.size)
 replace B0 := Lib.hid (B0.out.trans (b1.mono B0.out.size))
 clear b1
 go_upto_region 3 with ((with_reducible show wpList _ _ _ (⟨none, _, _, _, _, _⟩ :: _) _ _); refine wpList_store_rowS rfl _ (.tmp 3) (.tmp 18) rfl w6.heap.size rfl (c' := #[.slice N0 nN0 cN0, .slice N1 nN1 cN1, .slice N2 nN2 cN2, .slice N3 nN3 cN3]) rfl (heap_alloc_self w6 (.cells #[.slice none 0 0, .slice none 0 0, .slice none 0 0, .slice none 0 0] 24)) infoArea4 rfl (by simp [Value.oneCell']) ?_)
 rw [World.setRow_alloc_new]
 have hx1 := heap_alloc_self w6 (.cells #[.slice N0 nN0 cN0, .slice N1 nN1 cN1, .slice N2 nN2 cN2, .slice N3 nN3 cN3] 24)
 have hb1 := below_new w6 (.cells #[.slice N0 nN0 cN0, .slice N1 nN1 cN1, .slice N2 nN2 cN2, .slice N3 nN3 cN3] 24)
 generalize w6.alloc (.cells #[.slice N0 nN0 cN0, .slice N1 nN1 cN1, .slice N2 nN2 cN2, .slice N3 nN3 cN3] 24) = w7 at hb1 hx1 ⊢
 obtain ⟨p3, hp1⟩ : ∃ n, n = w6.heap.size := ⟨_, rfl⟩
 rw [← hp1] at hx1 ⊢
 have XN := Lib.hid hx1
 clear hx1 hp1
 replace XU := Lib.hid ((hb1.block _ (heap_lt XU.out)).trans XU.out)
 replace AU := Lib.hid ((AU.out.below hb1).more hb1.size)
 replace AN := Lib.hid ((AN.out.below hb1).more hb1.size)
 replace B0 := Lib.hid (B0.out.trans (hb1.mono B0.out.size))
 clear hb1
 go_wp2_with fail
 refine (one14_any _).mono ?_
 rintro e w8 ⟨v3, rfl, hv_, b1⟩
 have Pv3 := Lib.hid hv_
 clear hv_
 replace XU := Lib.hid ((b1.block _ (heap_lt XU.out)).trans XU.out)
 replace XN := Lib.hid ((b1.block _ (heap_lt XN.out)).trans XN.out)
 replace AU := Lib.hid ((AU.out.below b1).more b1.size)
 replace AN := Lib.hid ((AN.out.below b1).more b1.size)
 replace B0 := Lib.hid (B0.out.trans (b1.mono B0.out.size))
 clear b1
 go_wp2_with fail
 refine (hc.uses v3 planOne 8 w8 Pv3.out).mono ?_
 rintro e w9 ⟨u0, u1, u2, u3, rfl, hu, b1⟩
 rw [usV_one.2] at hu
 rw [usV_one.1]
 obtain ⟨O0, nO0, cO0, rfl⟩ := ints_sl hu.secs
 obtain ⟨O1, nO1, cO1, rfl⟩ := ints_sl hu.pts
 obtain ⟨O2, nO2, cO2, rfl⟩ := ints_sl hu.sigs
 obtain ⟨O3, nO3, cO3, rfl⟩ := ints_sl hu.routes
 have AO := Lib.hid hu
 clear hu
 clear Pv3
 replace XU := Lib.hid ((b1.block _ (heap_lt XU.out)).trans XU.out)
 replace XN := Lib.hid ((b1.block _ (heap_lt XN.out)).trans XN.out)
 replace AU := Lib.hid ((AU.out.below b1).more b1.size)
 replace AN := Lib.hid ((AN.out.below b1).more b1.size)
 replace B0 := Lib.hid (B0.out.trans (b1.mono B0.out.size))
 clear b1
 go_upto_region 4 with ((with_reducible show wpList _ _ _ (⟨none, _, _, _, _, _⟩ :: _) _ _); refine wpList_store_rowS rfl _ (.tmp 5) (.tmp 23) rfl w9.heap.size rfl (c' := #[.slice O0 nO0 cO0, .slice O1 nO1 cO1, .slice O2 nO2 cO2, .slice O3 nO3 cO3]) rfl (heap_alloc_self w9 (.cells #[.slice none 0 0, .slice none 0 0, .slice none 0 0, .slice none 0 0] 24)) infoArea4 rfl (by simp [Value.oneCell']) ?_)
 rw [World.setRow_alloc_new]
 have hx1 := heap_alloc_self w9 (.cells #[.slice O0 nO0 cO0, .slice O1 nO1 cO1, .slice O2 nO2 cO2, .slice O3 nO3 cO3] 24)
 have hb1 := below_new w9 (.cells #[.slice O0 nO0 cO0, .slice O1 nO1 cO1, .slice O2 nO2 cO2, .slice O3 nO3 cO3] 24)
 generalize w9.alloc (.cells #[.slice O0 nO0 cO0, .slice O1 nO1 cO1, .slice O2 nO2 cO2, .slice O3 nO3 cO3] 24) = w10 at hb1 hx1 ⊢
 obtain ⟨p5, hp1⟩ : ∃ n, n = w9.heap.size := ⟨_, rfl⟩
 rw [← hp1] at hx1 ⊢
 have XO := Lib.hid hx1
 clear hx1 hp1
 replace XU := Lib.hid ((hb1.block _ (heap_lt XU.out)).trans XU.out)
 replace XN := Lib.hid ((hb1.block _ (heap_lt XN.out)).trans XN.out)
 replace AU := Lib.hid ((AU.out.below hb1).more hb1.size)
 replace AN := Lib.hid ((AN.out.below hb1).more hb1.size)
 replace AO := Lib.hid ((AO.out.below hb1).more hb1.size)
 replace B0 := Lib.hid (B0.out.trans (hb1.mono B0.out.size))
 clear hb1
 go_wp2_with fail
 refine (one14_any _).mono ?_
 rintro e w11 ⟨v4, rfl, hv_, b1⟩
 have Pv4 := Lib.hid hv_
 clear hv_
 replace XU := Lib.hid ((b1.block _ (heap_lt XU.out)).trans XU.out)
 replace XN := Lib.hid ((b1.block _ (heap_lt XN.out)).trans XN.out)
 replace XO := Lib.hid ((b1.block _ (heap_lt XO.out)).trans XO.out)
 replace AU := Lib.hid ((AU.out.below b1).more b1.size)
 replace AN := Lib.hid ((AN.out.below b1).more b1.size)
 replace AO := Lib.hid ((AO.out.below b1).more b1.size)
 replace B0 := Lib.hid (B0.out.trans (b1.mono B0.out.size))
 clear b1
 go_wp2_with fail
 refine (hc.of v4 _ planOne zeroP w11 Pv4.out ⟨_, _, _, _, rfl, ⟨ListIn.nil_, ListIn.nil_, ListIn.nil_, ListIn.nil_⟩⟩).mono ?_
 rintro e w12 ⟨u0, u1, u2, u3, rfl, hu, b1⟩
 rw [(ar_bad fun h => not_may0 h.2).2] at hu
 rw [(ar_bad fun h => not_may0 h.2).1]
 obtain ⟨Z0, nZ0, cZ0, rfl⟩ := ints_sl hu.secs
 obtain ⟨Z1, nZ1, cZ1, rfl⟩ := ints_sl hu.pts
 obtain ⟨Z2, nZ2, cZ2, rfl⟩ := ints_sl hu.sigs
 obtain ⟨Z3, nZ3, cZ3, rfl⟩ := ints_sl hu.routes
 have AZ := Lib.hid hu
 clear hu
 clear Pv4
 replace XU := Lib.hid ((b1.block _ (heap_lt XU.out)).trans XU.out)
 replace XN := Lib.hid ((b1.block _ (heap_lt XN.out)).trans XN.out)
 replace XO := Lib.hid ((b1.block _ (heap_lt XO.out)).trans XO.out)
 replace AU := Lib.hid ((AU.out.below b1).more b1.size)
 replace AN := Lib.hid ((AN.out.below b1).more b1.size)
 replace AO := Lib.hid ((AO.out.below b1).more b1.size)
 replace B0 := Lib.hid (B0.out.trans (b1.mono B0.out.size))
 clear b1
 go_upto_region 5 with ((with_reducible show wpList _ _ _ (⟨none, _, _, _, _, _⟩ :: _) _ _); refine wpList_store_rowS rfl _ (.tmp 7) (.tmp 29) rfl w12.heap.size rfl (c' := #[.slice Z0 nZ0 cZ0, .slice Z1 nZ1 cZ1, .slice Z2 nZ2 cZ2, .slice Z3 nZ3 cZ3]) rfl (heap_alloc_self w12 (.cells #[.slice none 0 0, .slice none 0 0, .slice none 0 0, .slice none 0 0] 24)) infoArea4 rfl (by simp [Value.oneCell']) ?_)
 rw [World.setRow_alloc_new]
 have hx1 := heap_alloc_self w12 (.cells #[.slice Z0 nZ0 cZ0, .slice Z1 nZ1 cZ1, .slice Z2 nZ2 cZ2, .slice Z3 nZ3 cZ3] 24)
 have hb1 := below_new w12 (.cells #[.slice Z0 nZ0 cZ0, .slice Z1 nZ1 cZ1, .slice Z2 nZ2 cZ2, .slice Z3 nZ3 cZ3] 24)
 generalize w12.alloc (.cells #[.slice Z0 nZ0 cZ0, .slice Z1 nZ1 cZ1, .slice Z2 nZ2 cZ2, .slice Z3 nZ3 cZ3] 24) = w13 at hb1 hx1 ⊢
 obtain ⟨p7, hp1⟩ : ∃ n, n = w12.heap.size := ⟨_, rfl⟩
 rw [← hp1] at hx1 ⊢
 have XZ := Lib.hid hx1
 clear hx1 hp1
 replace XU := Lib.hid ((hb1.block _ (heap_lt XU.out)).trans XU.out)
 replace XN := Lib.hid ((hb1.block _ (heap_lt XN.out)).trans XN.out)
 replace XO := Lib.hid ((hb1.block _ (heap_lt XO.out)).trans XO.out)
 replace AU := Lib.hid ((AU.out.below hb1).more hb1.size)
 replace AN := Lib.hid ((AN.out.below hb1).more hb1.size)
 replace AO := Lib.hid ((AO.out.below hb1).more hb1.size)
 replace AZ := Lib.hid ((AZ.out.below hb1).more hb1.size)
 replace B0 := Lib.hid (B0.out.trans (hb1.mono B0.out.size))
 clear hb1
 go_wp2_with fail
 refine (alive14 hc _).mono ?_
 rintro e w14 ⟨rfl, b1⟩
 replace XU := Lib.hid ((b1.block _ (heap_lt XU.out)).trans XU.out)
 replace XN := Lib.hid ((b1.block _ (heap_lt XN.out)).trans XN.out)
 replace XO := Lib.hid ((b1.block _ (heap_lt XO.out)).trans XO.out)
 replace AU := Lib.hid ((AU.out.below b1).more b1.size)
 replace AN := Lib.hid ((AN.out.below b1).more b1.size)
 replace AO := Lib.hid ((AO.out.below b1).more b1.size)
 replace B0 := Lib.hid (B0.out.trans (b1.mono B0.out.size))
 clear b1
 obtain ⟨k0, k1, k2, k3⟩ := cell4A XU.out
 go_wp2_with fail
 refine (hc.same _ _ noAr noAr w14 ⟨_, _, _, _, rfl, AU.out⟩ ⟨_, _, _, _, rfl, noAr_in _ _⟩).mono ?_
 rintro e w15 ⟨rfl, b1⟩
 rw [eqB_true rfl]
 clear k0 k1 k2 k3
 replace XU := Lib.hid ((b1.block _ (heap_lt XU.out)).trans XU.out)
 replace XN := Lib.hid ((b1.block _ (heap_lt XN.out)).trans XN.out)
 replace XO := Lib.hid ((b1.block _ (heap_lt XO.out)).trans XO.out)
 replace AU := Lib.hid ((AU.out.below b1).more b1.size)
 replace AN := Lib.hid ((AN.out.below b1).more b1.size)
 replace AO := Lib.hid ((AO.out.below b1).more b1.size)
 replace B0 := Lib.hid (B0.out.trans (b1.mono B0.out.size))
 clear b1
 obtain ⟨k0, k1, k2, k3⟩ := cell4A XO.out
 go_wp2_with fail
 refine (hc.has _ ⟨[2, 3], [5], [4], [8]⟩ 1 2 w15 ⟨_, _, _, _, rfl, AO.out⟩ (by decide) (by decide)).mono ?_
 rintro e w16 ⟨rfl, b1⟩
 rw [show hasA ⟨[2, 3], [5], [4], [8]⟩ 1 2 = true by decide]
 clear k0 k1 k2 k3
 replace XU := Lib.hid ((b1.block _ (heap_lt XU.out)).trans XU.out)
 replace XN := Lib.hid ((b1.block _ (heap_lt XN.out)).trans XN.out)
 replace XO := Lib.hid ((b1.block _ (heap_lt XO.out)).trans XO.out)
 replace AU := Lib.hid ((AU.out.below b1).more b1.size)
 replace AN := Lib.hid ((AN.out.below b1).more b1.size)
 replace AO := Lib.hid ((AO.out.below b1).more b1.size)
 replace B0 := Lib.hid (B0.out.trans (b1.mono B0.out.size))
 clear b1
 obtain ⟨k0, k1, k2, k3⟩ := cell4A XO.out
 go_wp2_with fail
 refine (hc.has _ ⟨[2, 3], [5], [4], [8]⟩ 1 1 w16 ⟨_, _, _, _, rfl, AO.out⟩ (by decide) (by decide)).mono ?_
 rintro e w17 ⟨rfl, b1⟩
 rw [show hasA ⟨[2, 3], [5], [4], [8]⟩ 1 1 = false by decide]
 clear k0 k1 k2 k3
 replace XU := Lib.hid ((b1.block _ (heap_lt XU.out)).trans XU.out)
 replace XN := Lib.hid ((b1.block _ (heap_lt XN.out)).trans XN.out)
 replace XO := Lib.hid ((b1.block _ (heap_lt XO.out)).trans XO.out)
 replace AU := Lib.hid ((AU.out.below b1).more b1.size)
 replace AN := Lib.hid ((AN.out.below b1).more b1.size)
 replace AO := Lib.hid ((AO.out.below b1).more b1.size)
 replace B0 := Lib.hid (B0.out.trans (b1.mono B0.out.size))
 clear b1
 obtain ⟨k0, k1, k2, k3⟩ := cell4A XO.out
 go_wp2_with fail
 refine (hc.has _ ⟨[2, 3], [5], [4], [8]⟩ 0 0 w17 ⟨_, _, _, _, rfl, AO.out⟩ (by decide) (by decide)).mono ?_
 rintro e w18 ⟨rfl, b1⟩
 rw [show hasA ⟨[2, 3], [5], [4], [8]⟩ 0 0 = false by decide]
 clear k0 k1 k2 k3
 replace XU := Lib.hid ((b1.block _ (heap_lt XU.out)).trans XU.out)
 replace XN := Lib.hid ((b1.block _ (heap_lt XN.out)).trans XN.out)
 replace XO := Lib.hid ((b1.block _ (heap_lt XO.out)).trans XO.out)
 replace AU := Lib.hid ((AU.out.below b1).more b1.size)
 replace AN := Lib.hid ((AN.out.below b1).more b1.size)
 replace AO := Lib.hid ((AO.out.below b1).more b1.size)
 replace B0 := Lib.hid (B0.out.trans (b1.mono B0.out.size))
 clear b1
 obtain ⟨k0, k1, k2, k3⟩ := cell4A XO.out
 go_wp2_with fail
 refine (hc.has _ ⟨[2, 3], [5], [4], [8]⟩ 5 8 w18 ⟨_, _, _, _, rfl, AO.out⟩ (by decide) (by decide)).mono ?_
 rintro e w19 ⟨rfl, b1⟩
 rw [show hasA ⟨[2, 3], [5], [4], [8]⟩ 5 8 = false by decide]
 clear k0 k1 k2 k3
 replace XU := Lib.hid ((b1.block _ (heap_lt XU.out)).trans XU.out)
 replace XN := Lib.hid ((b1.block _ (heap_lt XN.out)).trans XN.out)
 replace XO := Lib.hid ((b1.block _ (heap_lt XO.out)).trans XO.out)
 replace AU := Lib.hid ((AU.out.below b1).more b1.size)
 replace AN := Lib.hid ((AN.out.below b1).more b1.size)
 replace AO := Lib.hid ((AO.out.below b1).more b1.size)
 replace B0 := Lib.hid (B0.out.trans (b1.mono B0.out.size))
 clear b1
 go_wp2_with fail
 go_ret
 exact ⟨rfl, B0.out⟩
end Go.Proofs.YtneeocnjfnneoaaGreat
