/-
 The package's names: the walk, given the program's answers.
 Conditions: none.
-/
import Derived.Test.YtemmgmjhomgbbaaQGStaOne
set_option linter.unusedVariables false
set_option linter.unusedSimpArgs false
set_option maxRecDepth 100000
namespace Go.Proofs.Ytemmgmjhomgbbaa
open Go.RowKit

set_option maxHeartbeats 16000000 in
theorem walk_state_names (hc : StaSaid) (w : World) : Calls Try.prog 3 #[] w fun e w' => e = .returned (.bool true) ∧ Below w.heap.size w w' := by
 go_enter Try.func3, Try.ntmps3
 go_wp2_with fail
 refine (so_any w).mono ?_
 rintro e w1 ⟨pv, rfl, hpv, b1⟩
 have BQ := Lib.hid b1
 clear b1
 go_wp2_with fail
 refine (hc.at_ _ soP w1 hpv).mono ?_
 rintro e wB ⟨u0, u1, u2, rfl, ho, bN⟩
 rw [restE_so.2] at ho
 rw [restE_so.1]
 have hi := ho.in_
 obtain ⟨S0, Sc0, rfl⟩ := st_sl hi.tr
 obtain ⟨S1, Sc1, rfl⟩ := st_sl hi.sw
 obtain ⟨S2, Sc2, rfl⟩ := st_sl hi.lk
 obtain ⟨n0, hn0⟩ : ∃ z_, z_ = (restS soP).tr.length := ⟨_, rfl⟩
 rw [← hn0] at hi
 rw [← hn0]
 obtain ⟨n1, hn1⟩ : ∃ z_, z_ = (restS soP).sw.length := ⟨_, rfl⟩
 rw [← hn1] at hi
 rw [← hn1]
 obtain ⟨n2, hn2⟩ : ∃ z_, z_ = (restS soP).lk.length := ⟨_, rfl⟩
 rw [← hn2] at hi
 rw [← hn2]
 have N1 := Lib.hid (And.intro hn0 (And.intro hn1 hn2))
 clear ho hn0 hn1 hn2
 replace BQ := Lib.hid (BQ.out.trans (bN.mono BQ.out.size))
 clear bN
 go_upto_region 2 with ((with_reducible show wpList _ _ _ (⟨none, .store _ _ _, _, _, _, _⟩ :: _) _ _); refine wpList_store_rowS rfl _ (.tmp 1) (.tmp 12) rfl wB.heap.size rfl (c' := #[.slice S0 n0 Sc0, .slice S1 n1 Sc1, .slice S2 n2 Sc2]) rfl (heap_alloc_self wB (.cells #[.slice none 0 0, .slice none 0 0, .slice none 0 0] 26)) infoSt15 rfl (by simp [Value.oneCell']) ?_)
 rw [World.setRow_alloc_new]
 have hx1 := heap_alloc_self wB (.cells #[.slice S0 n0 Sc0, .slice S1 n1 Sc1, .slice S2 n2 Sc2] 26)
 have hb1 := below_new wB (.cells #[.slice S0 n0 Sc0, .slice S1 n1 Sc1, .slice S2 n2 Sc2] 26)
 have hi2 := (hi.below hb1).more hb1.size
 generalize wB.alloc (.cells #[.slice S0 n0 Sc0, .slice S1 n1 Sc1, .slice S2 n2 Sc2] 26) = w2 at hb1 hx1 hi2 ⊢
 obtain ⟨p1, hp1⟩ : ∃ n, n = wB.heap.size := ⟨_, rfl⟩
 rw [← hp1] at hx1 ⊢
 have X1 := Lib.hid hx1
 have A1 := Lib.hid hi2
 clear hx1 hp1 hi hi2
 replace BQ := Lib.hid (BQ.out.trans (hb1.mono BQ.out.size))
 clear hb1
 clear hpv
 have e0 : n0 = 2 := N1.out.1
 have e1 : n1 = 0 := N1.out.2.1
 have e2 : n2 = 1 := N1.out.2.2
 subst e0 e1 e2
 clear N1
 have HW98 := Lib.hid who_so98
 obtain ⟨v98, hv98⟩ : ∃ z, z = whoV soP (restS soP) 98 := ⟨_, rfl⟩
 refine wp_region_held_drew (S := fun v => Below w2.heap.size w2 v) (by kernel_rfl) (Below.refl w2.heap.size w2).drew (fun hHeld => ?_)
 refine tkc 1 hHeld (fun w' hSw => cell3_of ((hSw.block _ (heap_lt X1.out)).trans X1.out)) ?_
 have tb := (Below.refl w2.heap.size w2).drew
 generalize w2.drew = q0 at tb hHeld ⊢
 have HB := Lib.hid tb
 clear tb
 refine tkr 0 (fun K hK => ?_)
 go_simp
 refine (so_any q0).mono ?_
 rintro e q1 ⟨pv, rfl, hpv, b⟩
 have HB1 := Lib.hid (HB.out.trans (b.mono HB.out.size))
 have HPV := Lib.hid hpv
 clear b hpv HB
 try go_wp2_with fail
 refine hK.out _ _ ?_ fun hHeld => ?_;exact HB1.out;clear hK K;try simp only [zn, Act.put]
 refine tkr 2 (fun K hK => ?_)
 go_simp
 refine (hc.holder _ _ soP (restS soP) 1 q1 HPV.out ⟨_, _, _, rfl, (A1.out.below HB1.out).more HB1.out.size⟩).mono ?_
 rintro e w3 ⟨rfl, b⟩
 rw [who_so.1, who_so.2]
 have HB2 := Lib.hid (HB1.out.trans (b.mono HB1.out.size))
 clear b HB1 HPV
 try go_wp2_with fail
 refine hK.out _ _ ?_ fun hHeld => ?_;exact HB2.out;clear hK K;try simp only [zn, Act.put]
 refine tk 3 hHeld ?_;refine tk 4 hHeld ?_;refine tk 5 hHeld ?_;refine tk 6 hHeld ?_;refine tk 7 hHeld ?_
 refine wpAnyH_done (by kernel_rfl) ?_ _
 have bN := HB2.out
 clear HB2 hHeld
 replace BQ := Lib.hid (BQ.out.trans (bN.mono BQ.out.size))
 replace X1 := Lib.hid ((bN.block _ (heap_lt X1.out)).trans X1.out)
 replace A1 := Lib.hid ((A1.out.below bN).more bN.size)
 clear bN
 go_upto_region 3 with fail
 refine wp_region_held_drew (S := fun v => Below w3.heap.size w3 v) (by kernel_rfl) (Below.refl w3.heap.size w3).drew (fun hHeld => ?_)
 refine tkc 1 hHeld (fun w' hSw => cell3_of ((hSw.block _ (heap_lt X1.out)).trans X1.out)) ?_
 have tb := (Below.refl w3.heap.size w3).drew
 generalize w3.drew = q0 at tb hHeld ⊢
 have HB := Lib.hid tb
 clear tb
 refine tkr 0 (fun K hK => ?_)
 go_simp
 refine (so_any q0).mono ?_
 rintro e q1 ⟨pv, rfl, hpv, b⟩
 have HB1 := Lib.hid (HB.out.trans (b.mono HB.out.size))
 have HPV := Lib.hid hpv
 clear b hpv HB
 try go_wp2_with fail
 refine hK.out _ _ ?_ fun hHeld => ?_;exact HB1.out;clear hK K;try simp only [zn, Act.put]
 refine tkr 2 (fun K hK => ?_)
 go_simp
 refine (hc.holder _ _ soP (restS soP) 98 q1 HPV.out ⟨_, _, _, rfl, (A1.out.below HB1.out).more HB1.out.size⟩).mono ?_
 rintro e w4 ⟨rfl, b⟩
 rw [who_so98, ← hv98]
 have HB2 := Lib.hid (HB1.out.trans (b.mono HB1.out.size))
 clear b HB1 HPV
 try go_wp2_with fail
 refine hK.out _ _ ?_ fun hHeld => ?_;exact HB2.out;clear hK K;try simp only [zn, Act.put]
 refine tk 3 hHeld ?_;refine tk 4 hHeld ?_;refine tk 5 hHeld ?_;refine tk 6 hHeld ?_;refine tk 7 hHeld ?_
 refine wpAnyH_done (by kernel_rfl) ?_ _
 have bN := HB2.out
 clear HB2 hHeld
 replace BQ := Lib.hid (BQ.out.trans (bN.mono BQ.out.size))
 replace X1 := Lib.hid ((bN.block _ (heap_lt X1.out)).trans X1.out)
 replace A1 := Lib.hid ((A1.out.below bN).more bN.size)
 clear bN
 clear hv98 HW98
 go_wp2_with fail
 refine (hc.at_ _ noPl w4 (noPl_v _ _)).mono ?_
 rintro e wB ⟨u0, u1, u2, rfl, ho, bN⟩
 rw [restE_no.2] at ho
 rw [restE_no.1]
 have hi := ho.in_
 obtain ⟨T0, Tc0, rfl⟩ := st_sl hi.tr
 obtain ⟨T1, Tc1, rfl⟩ := st_sl hi.sw
 obtain ⟨T2, Tc2, rfl⟩ := st_sl hi.lk
 obtain ⟨m0, hm0⟩ : ∃ z_, z_ = (noS).tr.length := ⟨_, rfl⟩
 rw [← hm0] at hi
 rw [← hm0]
 obtain ⟨m1, hm1⟩ : ∃ z_, z_ = (noS).sw.length := ⟨_, rfl⟩
 rw [← hm1] at hi
 rw [← hm1]
 obtain ⟨m2, hm2⟩ : ∃ z_, z_ = (noS).lk.length := ⟨_, rfl⟩
 rw [← hm2] at hi
 rw [← hm2]
 have N7 := Lib.hid (And.intro hm0 (And.intro hm1 hm2))
 clear ho hm0 hm1 hm2
 replace BQ := Lib.hid (BQ.out.trans (bN.mono BQ.out.size))
 replace X1 := Lib.hid ((bN.block _ (heap_lt X1.out)).trans X1.out)
 replace A1 := Lib.hid ((A1.out.below bN).more bN.size)
 clear bN
 go_upto_region 5 with ((with_reducible show wpList _ _ _ (⟨none, .store _ _ _, _, _, _, _⟩ :: _) _ _); refine wpList_store_rowS rfl _ (.tmp 7) (.tmp 29) rfl wB.heap.size rfl (c' := #[.slice T0 m0 Tc0, .slice T1 m1 Tc1, .slice T2 m2 Tc2]) rfl (heap_alloc_self wB (.cells #[.slice none 0 0, .slice none 0 0, .slice none 0 0] 26)) infoSt15 rfl (by simp [Value.oneCell']) ?_)
 rw [World.setRow_alloc_new]
 have hx1 := heap_alloc_self wB (.cells #[.slice T0 m0 Tc0, .slice T1 m1 Tc1, .slice T2 m2 Tc2] 26)
 have hb1 := below_new wB (.cells #[.slice T0 m0 Tc0, .slice T1 m1 Tc1, .slice T2 m2 Tc2] 26)
 have hi2 := (hi.below hb1).more hb1.size
 generalize wB.alloc (.cells #[.slice T0 m0 Tc0, .slice T1 m1 Tc1, .slice T2 m2 Tc2] 26) = w5 at hb1 hx1 hi2 ⊢
 obtain ⟨p7, hp1⟩ : ∃ n, n = wB.heap.size := ⟨_, rfl⟩
 rw [← hp1] at hx1 ⊢
 have X7 := Lib.hid hx1
 have A7 := Lib.hid hi2
 clear hx1 hp1 hi hi2
 replace BQ := Lib.hid (BQ.out.trans (hb1.mono BQ.out.size))
 replace X1 := Lib.hid ((hb1.block _ (heap_lt X1.out)).trans X1.out)
 replace A1 := Lib.hid ((A1.out.below hb1).more hb1.size)
 clear hb1
 go_wp2_with fail
 refine (alive15 hc w5).mono ?_
 rintro e w6 ⟨rfl, bN⟩
 replace BQ := Lib.hid (BQ.out.trans (bN.mono BQ.out.size))
 clear bN
 go_wp2_with fail
 refine (so_any w6).mono ?_
 rintro e w7 ⟨pv2, rfl, hpv2, bN⟩
 replace BQ := Lib.hid (BQ.out.trans (bN.mono BQ.out.size))
 clear bN
 go_wp2_with fail
 refine (hc.check _ _ soP noS w7 hpv2 ⟨_, _, _, rfl, ⟨ListIn.nil_, ListIn.nil_, ListIn.nil_⟩⟩).mono ?_
 rintro e w8 ⟨rfl, bN⟩
 rw [staE_no]
 replace BQ := Lib.hid (BQ.out.trans (bN.mono BQ.out.size))
 clear bN
 go_wp2_with fail
 go_ret
 exact ⟨rfl, BQ.out⟩
end Go.Proofs.Ytemmgmjhomgbbaa
