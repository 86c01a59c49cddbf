/-
 SoundTells: the walk, given the program's contracts.
 Conditions: none.
-/
import Derived.Test.YtccbdpeicemnjaaTGSndRefA
import Derived.Test.YtccbdpeicemnjaaTGSndM
import Derived.Test.YtccbdpeicemnjaaTGPlnRefD
set_option linter.unusedVariables false
set_option linter.unusedSimpArgs false
set_option maxRecDepth 100000
namespace Go.Proofs.Ytccbdpeicemnjaa
open Go.RowKit

set_option maxHeartbeats 16000000 in
theorem walk_sound_tells (hs : SndSaid) (v : Value) (p : Pl) (id : Int) (w : World) (h : PlanV w w.heap.size v p) :
  Calls Try.prog 4 #[v, .int .i64 id] w fun e w' => e = .returned (.bool true) ∧ Below w.heap.size w w' := by
 obtain ⟨y2, y3, y4, y5, rfl, hin⟩ := h
 have HIN0 := Lib.hid hin
 obtain ⟨A2, c2, rfl, -, -⟩ := hin.secs.slice
 obtain ⟨A3, c3, rfl, -, -⟩ := hin.pts.slice
 obtain ⟨A4, c4, rfl, -, -⟩ := hin.sigs.slice
 obtain ⟨A5, c5, rfl, hcl5, hcm5⟩ := hin.routes.slice
 obtain ⟨n2, hn2⟩ : ∃ n, n = p.secs.length := ⟨_, rfl⟩
 obtain ⟨n3, hn3⟩ : ∃ n, n = p.pts.length := ⟨_, rfl⟩
 obtain ⟨n4, hn4⟩ : ∃ n, n = p.sigs.length := ⟨_, rfl⟩
 obtain ⟨n5, hn5⟩ : ∃ n, n = p.routes.length := ⟨_, rfl⟩
 have HM5 : Hid (n5 ≤ 9223372036854775807) := Lib.hid (by rw [hn5]; unfold maxLen at hcm5; omega)
 have HN5 := Lib.hid hn5
 have HP0 : Hid (PlanV w w.heap.size (.agg #[.int .i64 p.ver, .int .i64 p.par, .slice A2 n2 c2, .slice A3 n3 c3, .slice A4 n4 c4, .slice A5 n5 c5]) p) := Lib.hid ⟨_, _, _, _, rfl, by rw [hn2, hn3, hn4, hn5]; exact HIN0.out⟩
 rw [← hn2, ← hn3, ← hn4, ← hn5]
 clear hn2 hn3 hn4 hn5 HIN0 hin hcl5 hcm5
 have hq0 := heap_alloc_self w (.cells #[.int .i64 p.ver, .int .i64 p.par, .slice A2 n2 c2, .slice A3 n3 c3, .slice A4 n4 c4, .slice A5 n5 c5] 27)
 have hqb := below_new w (.cells #[.int .i64 p.ver, .int .i64 p.par, .slice A2 n2 c2, .slice A3 n3 c3, .slice A4 n4 c4, .slice A5 n5 c5] 27)
 go_enter Try.func4, Try.ntmps4
 go_upto_region 1 with fail
 generalize w.alloc (.cells #[.int .i64 p.ver, .int .i64 p.par, .slice A2 n2 c2, .slice A3 n3 c3, .slice A4 n4 c4, .slice A5 n5 c5] 27) = q at hq0 hqb ⊢
 have BZ := Lib.hid hqb
 have XP := Lib.hid hq0
 have HP := Lib.hid ((HP0.out.below hqb).more hqb.size)
 clear hq0 hqb HP0
 obtain ⟨k0, k1, k2, k3, k4, k5⟩ := cell6_of XP.out
 go_wp2_with fail
 refine (rgreat8_any _ p q HP.out).mono ?_
 rintro e w1 ⟨⟨g, rfl, hg⟩, bG⟩
 clear k0 k1 k2 k3 k4 k5
 replace BZ := Lib.hid (BZ.out.trans (bG.mono BZ.out.size))
 replace XP := Lib.hid ((bG.block _ (heap_lt XP.out)).trans XP.out)
 replace HP := Lib.hid ((HP.out.below bG).more bG.size)
 clear bG
 cases g with
 | true =>
  go_wp2_with fail
  go_ret
  exact ⟨rfl, BZ.out⟩
 | false =>
 have FEW := Lib.hid (hg rfl)
 clear hg
 obtain ⟨k0, k1, k2, k3, k4, k5⟩ := cell6_of XP.out
 go_wp2_with fail
 refine (rtwin8_any _ p w1 HP.out FEW.out).mono ?_
 rintro e wT ⟨u2, u3, u4, u5, rfl, ho, bT⟩
 obtain ⟨O2, f2, rfl⟩ := ho.secs.slice
 obtain ⟨O3, f3, rfl⟩ := ho.pts.slice
 obtain ⟨O4, f4, rfl⟩ := ho.sigs.slice
 obtain ⟨O5, f5, rfl⟩ := ho.routes.slice
 have HO : Hid (PlanV wT wT.heap.size (.agg #[.int .i64 p.ver, .int .i64 p.par, .slice O2 p.secs.length f2, .slice O3 p.pts.length f3, .slice O4 p.sigs.length f4, .slice O5 p.routes.length f5]) p) := Lib.hid ⟨_, _, _, _, rfl, ho.in_⟩
 clear ho k0 k1 k2 k3 k4 k5
 replace BZ := Lib.hid (BZ.out.trans (bT.mono BZ.out.size))
 replace XP := Lib.hid ((bT.block _ (heap_lt XP.out)).trans XP.out)
 replace HP := Lib.hid ((HP.out.below bT).more bT.size)
 clear bT
 have XX0 := heap_alloc_self wT (.cells #[.int .i64 0, .int .i64 0, .slice none 0 0, .slice none 0 0, .slice none 0 0, .slice none 0 0] 27)
 have hb1 := below_setRow (below_new wT (.cells #[.int .i64 0, .int .i64 0, .slice none 0 0, .slice none 0 0, .slice none 0 0, .slice none 0 0] 27)) (Nat.le_refl _) #[.int .i64 p.ver, .int .i64 p.par, .slice O2 p.secs.length f2, .slice O3 p.pts.length f3, .slice O4 p.sigs.length f4, .slice O5 p.routes.length f5]
 have hx1 := setRow_heap (wT.alloc (.cells #[.int .i64 0, .int .i64 0, .slice none 0 0, .slice none 0 0, .slice none 0 0, .slice none 0 0] 27)) wT.heap.size _ #[.int .i64 p.ver, .int .i64 p.par, .slice O2 p.secs.length f2, .slice O3 p.pts.length f3, .slice O4 p.sigs.length f4, .slice O5 p.routes.length f5] 27 _ XX0
 go_upto_region 4 with ((with_reducible show wpList _ _ _ (⟨none, _, _, _, _, _⟩ :: _) _ _); refine wpList_store_rowS rfl _ (.tmp 5) (.tmp 9) rfl wT.heap.size rfl (c' := #[.int .i64 p.ver, .int .i64 p.par, .slice O2 p.secs.length f2, .slice O3 p.pts.length f3, .slice O4 p.sigs.length f4, .slice O5 p.routes.length f5]) rfl XX0 infoPlan6 rfl (by simp [Value.oneCell']) ?_)
 generalize (wT.alloc (.cells #[.int .i64 0, .int .i64 0, .slice none 0 0, .slice none 0 0, .slice none 0 0, .slice none 0 0] 27)).setRow wT.heap.size #[.int .i64 p.ver, .int .i64 p.par, .slice O2 p.secs.length f2, .slice O3 p.pts.length f3, .slice O4 p.sigs.length f4, .slice O5 p.routes.length f5] = q1 at hb1 hx1 ⊢
 obtain ⟨p3, hp1⟩ : ∃ n, n = wT.heap.size := ⟨_, rfl⟩
 rw [← hp1] at hx1 ⊢
 have XO := Lib.hid hx1
 clear hx1 XX0 hp1
 replace BZ := Lib.hid (BZ.out.trans (hb1.mono BZ.out.size))
 replace XP := Lib.hid ((hb1.block _ (heap_lt XP.out)).trans XP.out)
 replace HP := Lib.hid ((HP.out.below hb1).more hb1.size)
 replace HO := Lib.hid ((HO.out.below hb1).more hb1.size)
 clear hb1
 obtain ⟨S, hS⟩ : ∃ x, x = sndE p := ⟨_, rfl⟩
 obtain ⟨R, hR⟩ : ∃ x, x = sndR p id := ⟨_, rfl⟩
 have HS := Lib.hid hS
 have HR := Lib.hid hR
 have d1 : (S == S) = true := by simp
 have d2 : (R == R) = true := by simp
 clear hS hR
 refine wp_region_held_drew (S := fun v => Below q1.heap.size q1 v) (by kernel_rfl) (Below.refl q1.heap.size q1).drew (fun hHeld => ?_)
 refine tkc 0 hHeld (fun w' hSw => cell6_of ((hSw.block _ (heap_lt XO.out)).trans XO.out)) ?_;refine tkc 2 hHeld (fun w' hSw => cell6_of ((hSw.block _ (heap_lt XP.out)).trans XP.out)) ?_
 refine tkr 1 (fun K hK => ?_)
 go_simp
 refine (hs.check _ p q1.drew ((HO.out.below ((Below.refl q1.heap.size q1).drew)).more ((Below.refl q1.heap.size q1).drew).size)).mono ?_
 rintro e vA ⟨rfl, b⟩
 rw [← HS.out]
 have SA : Hid (Below q1.heap.size q1 vA) := Lib.hid (((Below.refl q1.heap.size q1).drew).trans (b.mono ((Below.refl q1.heap.size q1).drew).size))
 clear b
 try go_wp2_with fail
 refine hK.out _ _ ?_ fun hHeld => ?_;exact SA.out;clear hK K;try simp only [zn, Act.put]
 refine tkr 3 (fun K hK => ?_)
 go_simp
 refine (rcheck10_any _ p vA ((HP.out.below (SA.out)).more (SA.out).size)).mono ?_
 rintro e vB ⟨rfl, b⟩
 rw [← HS.out]
 have SB : Hid (Below q1.heap.size q1 vB) := Lib.hid ((SA.out).trans (b.mono (SA.out).size))
 clear b
 try go_wp2_with fail
 refine hK.out _ _ ?_ fun hHeld => ?_;exact SB.out;clear hK K;try simp only [zn, Act.put]
 refine tk 4 hHeld ?_;refine tk 5 hHeld ?_;refine tkc 6 hHeld (fun w' hSw => cell6_of ((hSw.block _ (heap_lt XO.out)).trans XO.out)) ?_;refine tk 7 hHeld ?_;refine tkc 9 hHeld (fun w' hSw => cell6_of ((hSw.block _ (heap_lt XP.out)).trans XP.out)) ?_;refine tk 10 hHeld ?_
 refine tkr 8 (fun K hK => ?_)
 go_simp
 refine (hs.route _ p id vB ((HO.out.below (SB.out)).more (SB.out).size)).mono ?_
 rintro e vC ⟨rfl, b⟩
 rw [← HR.out]
 have SC : Hid (Below q1.heap.size q1 vC) := Lib.hid ((SB.out).trans (b.mono (SB.out).size))
 clear b
 try go_wp2_with fail
 refine hK.out _ _ ?_ fun hHeld => ?_;exact SC.out;clear hK K;try simp only [zn, Act.put]
 refine tkr 11 (fun K hK => ?_)
 go_simp
 refine (rroute10_any _ p id vC ((HP.out.below (SC.out)).more (SC.out).size)).mono ?_
 rintro e vD ⟨rfl, b⟩
 rw [← HR.out]
 have SD_ : Hid (Below q1.heap.size q1 vD) := Lib.hid ((SC.out).trans (b.mono (SC.out).size))
 clear b
 try go_wp2_with fail
 refine hK.out _ _ ?_ fun hHeld => ?_;exact SD_.out;clear hK K;try simp only [zn, Act.put]
 refine tk 12 hHeld ?_;refine tk 13 hHeld ?_;refine tk 14 hHeld ?_;refine tkc 15 hHeld (fun w' hSw => cell6_of ((hSw.block _ (heap_lt XO.out)).trans XO.out)) ?_;refine tkc 16 hHeld (fun w' hSw => cell6_of ((hSw.block _ (heap_lt XP.out)).trans XP.out)) ?_
 refine tkr 17 (fun K hK => ?_)
 go_simp
 refine (rsame8_any _ _ p p vD ((HO.out.below (SD_.out)).more (SD_.out).size) ((HP.out.below (SD_.out)).more (SD_.out).size)).mono ?_
 rintro e vE ⟨rfl, b⟩
 rw [eqB_true rfl]
 have SE : Hid (Below q1.heap.size q1 vE) := Lib.hid ((SD_.out).trans (b.mono (SD_.out).size))
 clear b
 try go_wp2_with fail
 refine hK.out _ _ ?_ fun hHeld => ?_;exact SE.out;clear hK K;try simp only [zn, Act.put]
 refine tk 18 hHeld ?_;refine tk 19 hHeld ?_
 refine wpAnyH_done (by kernel_rfl) ?_ _
 have BL := Lib.hid (BZ.out.trans (SE.out.mono BZ.out.size))
 go_wp2_with fail
 go_ret
 exact ⟨rfl, BL.out⟩
end Go.Proofs.Ytccbdpeicemnjaa
