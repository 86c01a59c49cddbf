/-
 PackBack: the walk, given the program's contracts.
 Conditions: none.
-/
import Derived.Test.YteloiajocjahmaaDoorSGPckA
import Derived.Test.YteloiajocjahmaaDoorSGPlnRefD
import Derived.BigQuiet
set_option linter.unusedVariables false
set_option linter.unusedSimpArgs false
set_option maxRecDepth 100000
namespace Go.Proofs.YteloiajocjahmaaDoor
open Go.RowKit

theorem in_nil {α : Type} {sz : Nat} {R : El α} {W : World} {B : Nat} : ListIn sz R W B (.slice none 0 0) ([] : List α) := ⟨none, 0, rfl, by simp, Nat.zero_le _, fun _ => rfl, fun h => absurd h (by simp)⟩
set_option maxHeartbeats 16000000 in
theorem walk_pack_back (hp : PckSaid) (hk : PckKey) (h8 : PlanSaid) (v vb : Value) (p : Pl) (b : List UInt8) (w : World) (hT : Tab w) (h : PlanV w w.heap.size v p) (hxb : Txt w w.heap.size vb b) :
  Calls Tryd.prog 4 #[v, vb] w fun e w' => e = .returned (.bool true) ∧ Below w.heap.size w w' := by
 have HT := Lib.hid hT
 have T0 : Hid (0 < w.heap.size) := Lib.hid (tab_pos hT)
 have XB0 := Lib.hid hxb
 obtain ⟨AB, cB, rfl, -, -, -, -⟩ := hxb
 obtain ⟨nb, hnb⟩ : ∃ n, n = b.length := ⟨_, rfl⟩
 have HNB := Lib.hid hnb
 have XB1 : Hid (Txt w w.heap.size (.slice AB nb cB) b) := Lib.hid (by rw [hnb]; exact XB0.out)
 rw [← hnb]
 clear hT hnb XB0
 obtain ⟨A2, c2, A3, c3, A4, c4, A5, c5, n2, n3, n4, n5, rfl, hm2, hm3, hm4, hm5, HCP, HIN, HN⟩ := open_plan h
 have hq0 := heap_alloc_self w (.cells #[.int .i64 p.ver, .int .i64 p.par, .slice A2 n2 c2, .slice A3 n3 c3, .slice A4 n4 c4, .slice A5 n5 c5] 31)
 have hqb := below_new w (.cells #[.int .i64 p.ver, .int .i64 p.par, .slice A2 n2 c2, .slice A3 n3 c3, .slice A4 n4 c4, .slice A5 n5 c5] 31)
 go_enter Tryd.func4, Tryd.ntmps4
 go_upto_region 1 with fail
 generalize w.alloc (.cells #[.int .i64 p.ver, .int .i64 p.par, .slice A2 n2 c2, .slice A3 n3 c3, .slice A4 n4 c4, .slice A5 n5 c5] 31) = q at hq0 hqb ⊢
 have XP := Lib.hid hq0
 have BQ := Lib.hid hqb
 clear hq0 hqb
 have BZ := BQ
 have V0 : Hid (PlanV q q.heap.size (.agg #[.int .i64 p.ver, .int .i64 p.par, .slice A2 n2 c2, .slice A3 n3 c3, .slice A4 n4 c4, .slice A5 n5 c5]) p) := Lib.hid ⟨_, _, _, _, rfl, (HIN.out.below BQ.out).more BQ.out.size⟩
 have XB := Lib.hid ((XB1.out.below BQ.out).more BQ.out.size)
 clear HIN XB1 BQ
 go_wp2_with fail
 refine (alive12 hp hk q (HT.out.below BZ.out T0.out)).mono ?_
 rintro e w1 ⟨rfl, bN⟩
 have tBZ := BZ.out.trans (bN.mono BZ.out.size)
 have tXP := (bN.block _ (heap_lt XP.out)).trans XP.out
 have tV0 := ((V0.out.below bN).more bN.size)
 have tXB := ((XB.out.below bN).more bN.size)
 clear BZ XP V0 XB
 have BZ := Lib.hid tBZ
 have XP := Lib.hid tXP
 have V0 := Lib.hid tV0
 have XB := Lib.hid tXB
 clear tBZ tXP tV0 tXB bN
 obtain ⟨k0, k1, k2, k3, k4, k5⟩ := cell6_of XP.out
 go_wp2_with fail
 refine (rgreat8_any _ p w1 V0.out).mono ?_
 rintro e w2 ⟨⟨g, rfl, hg⟩, bN⟩
 clear k0 k1 k2 k3 k4 k5
 have tBZ := BZ.out.trans (bN.mono BZ.out.size)
 have tXP := (bN.block _ (heap_lt XP.out)).trans XP.out
 have tV0 := ((V0.out.below bN).more bN.size)
 have tXB := ((XB.out.below bN).more bN.size)
 clear BZ XP V0 XB
 have BZ := Lib.hid tBZ
 have XP := Lib.hid tXP
 have V0 := Lib.hid tV0
 have XB := Lib.hid tXB
 clear tBZ tXP tV0 tXB bN
 cases g with
 | true =>
  go_wp2_with fail
  go_ret
  exact ⟨rfl, BZ.out⟩
 | false =>
 clear hg
 by_cases h5 : 5000 < nb
 ·have d0 : (5000 : Int) < nb := by omega
  have d1 : (nb : Int) > 5000 := d0
  go_wp2_with fail
  go_ret
  exact ⟨rfl, BZ.out⟩
 have d0 : ¬ (5000 : Int) < nb := by omega
 have HBL : Hid (b.length ≤ 5000) := Lib.hid (by rw [← HNB.out]; omega)
 clear h5
 obtain ⟨k0, k1, k2, k3, k4, k5⟩ := cell6_of XP.out
 go_wp2_with fail
 refine (hp.text _ p w2 V0.out).mono ?_
 rintro e w3 ⟨u3, rfl, hu3, bN⟩
 clear d0
 clear k0 k1 k2 k3 k4 k5
 have tBZ := BZ.out.trans (bN.mono BZ.out.size)
 have tXP := (bN.block _ (heap_lt XP.out)).trans XP.out
 have tV0 := ((V0.out.below bN).more bN.size)
 have tXB := ((XB.out.below bN).more bN.size)
 clear BZ XP V0 XB
 have BZ := Lib.hid tBZ
 have XP := Lib.hid tXP
 have V0 := Lib.hid tV0
 have XB := Lib.hid tXB
 clear tBZ tXP tV0 tXB bN
 rcases text_cases p with ⟨hm, he, hv⟩ | ⟨hm, he, hv⟩
 rotate_left
 ·rw [he]
  clear hm he hv hu3
  go_wp2_with fail
  refine (hp.parse _ (b) w3 XB.out (by have := HBL.out; omega)).mono ?_
  rintro e wba ⟨y2, y3, y4, y5, rfl, hpo, bN⟩
  obtain ⟨M2, Mc2, rfl⟩ := hpo.secs.slice
  obtain ⟨M3, Mc3, rfl⟩ := hpo.pts.slice
  obtain ⟨M4, Mc4, rfl⟩ := hpo.sigs.slice
  obtain ⟨M5, Mc5, rfl⟩ := hpo.routes.slice
  obtain ⟨Mn2, hM2⟩ : ∃ n, n = (parseP (b)).secs.length := ⟨_, rfl⟩
  obtain ⟨Mn3, hM3⟩ : ∃ n, n = (parseP (b)).pts.length := ⟨_, rfl⟩
  obtain ⟨Mn4, hM4⟩ : ∃ n, n = (parseP (b)).sigs.length := ⟨_, rfl⟩
  obtain ⟨Mn5, hM5⟩ : ∃ n, n = (parseP (b)).routes.length := ⟨_, rfl⟩
  have Vp10 : Hid (PlanV wba wba.heap.size (.agg #[.int .i64 (parseP (b)).ver, .int .i64 (parseP (b)).par, .slice M2 Mn2 Mc2, .slice M3 Mn3 Mc3, .slice M4 Mn4 Mc4, .slice M5 Mn5 Mc5]) (parseP (b))) := Lib.hid ⟨_, _, _, _, rfl, by rw [hM2, hM3, hM4, hM5]; exact hpo.in_⟩
  rw [← hM2, ← hM3, ← hM4, ← hM5]
  clear hpo hM2 hM3 hM4 hM5
  have tBZ := BZ.out.trans (bN.mono BZ.out.size)
  have tXP := (bN.block _ (heap_lt XP.out)).trans XP.out
  have tV0 := ((V0.out.below bN).more bN.size)
  have tXB := ((XB.out.below bN).more bN.size)
  clear BZ XP V0 XB
  have BZ := Lib.hid tBZ
  have XP := Lib.hid tXP
  have V0 := Lib.hid tV0
  have XB := Lib.hid tXB
  clear tBZ tXP tV0 tXB bN
  have XX0 := heap_alloc_self wba (.cells #[.int .i64 0, .int .i64 0, .slice none 0 0, .slice none 0 0, .slice none 0 0, .slice none 0 0] 31)
  have hb6 := below_setRow (below_new wba (.cells #[.int .i64 0, .int .i64 0, .slice none 0 0, .slice none 0 0, .slice none 0 0, .slice none 0 0] 31)) (Nat.le_refl _) #[.int .i64 (parseP (b)).ver, .int .i64 (parseP (b)).par, .slice M2 Mn2 Mc2, .slice M3 Mn3 Mc3, .slice M4 Mn4 Mc4, .slice M5 Mn5 Mc5]
  have hx6 := setRow_heap (wba.alloc (.cells #[.int .i64 0, .int .i64 0, .slice none 0 0, .slice none 0 0, .slice none 0 0, .slice none 0 0] 31)) wba.heap.size _ #[.int .i64 (parseP (b)).ver, .int .i64 (parseP (b)).par, .slice M2 Mn2 Mc2, .slice M3 Mn3 Mc3, .slice M4 Mn4 Mc4, .slice M5 Mn5 Mc5] 31 _ XX0
  go_upto_region 10 with ((with_reducible show wpList _ _ _ (⟨none, _, _, _, _, _⟩ :: _) _ _); refine wpList_store_rowS rfl _ (.tmp 10) (.tmp 55) rfl wba.heap.size rfl (c' := #[.int .i64 (parseP (b)).ver, .int .i64 (parseP (b)).par, .slice M2 Mn2 Mc2, .slice M3 Mn3 Mc3, .slice M4 Mn4 Mc4, .slice M5 Mn5 Mc5]) rfl XX0 infoPlanA rfl (by simp [Value.oneCell']) ?_)
  generalize (wba.alloc (.cells #[.int .i64 0, .int .i64 0, .slice none 0 0, .slice none 0 0, .slice none 0 0, .slice none 0 0] 31)).setRow wba.heap.size #[.int .i64 (parseP (b)).ver, .int .i64 (parseP (b)).par, .slice M2 Mn2 Mc2, .slice M3 Mn3 Mc3, .slice M4 Mn4 Mc4, .slice M5 Mn5 Mc5] = wb at hb6 hx6 ⊢
  obtain ⟨p10, hp_⟩ : ∃ n, n = wba.heap.size := ⟨_, rfl⟩
  rw [← hp_] at hx6 ⊢
  have Xp10 := Lib.hid hx6
  have tV := Lib.hid ((Vp10.out.below hb6).more hb6.size)
  clear Vp10 XX0 hx6 hp_
  have Vp10 := tV
  clear tV
  have tBZ := BZ.out.trans (hb6.mono BZ.out.size)
  have tXP := (hb6.block _ (heap_lt XP.out)).trans XP.out
  have tV0 := ((V0.out.below hb6).more hb6.size)
  have tXB := ((XB.out.below hb6).more hb6.size)
  clear BZ XP V0 XB
  have BZ := Lib.hid tBZ
  have XP := Lib.hid tXP
  have V0 := Lib.hid tV0
  have XB := Lib.hid tXB
  clear tBZ tXP tV0 tXB hb6
  rcases parse_cases b with ⟨r, hr1, hr2, hr3, hr4⟩ | ⟨-, hr3, hr4⟩
  rotate_left
  ·have HR : Hid (parseE b = 8 ∧ parseP b = zPl) := Lib.hid ⟨hr3, hr4⟩
   have d1 : ((8 : Int) != 0) = true := by decide
   rw [hr3]
   clear hr3 hr4
   obtain ⟨m0, m1, m2, m3, m4, m5⟩ := cell6_of Xp10.out
   go_wp2_with fail
   refine (rsame8_any _ _ (parseP b) zPl wb Vp10.out ⟨_, _, _, _, rfl, ⟨in_nil, in_nil, in_nil, in_nil⟩⟩).mono ?_
   rintro e w9 ⟨rfl, bN⟩
   rw [eqB_true HR.out.2]
   have BL := Lib.hid (BZ.out.trans (bN.mono BZ.out.size))
   clear bN
   go_wp2_with fail
   go_ret
   exact ⟨rfl, BL.out⟩
  have HR : Hid (PlanMay (parseP b) ∧ textL (parseP b) = b ∧ parseE b = 0) := Lib.hid ⟨by rw [hr4]; exact hr1, by rw [hr4]; exact hr2, hr3⟩
  clear hr1 hr2 hr4
  rw [hr3]
  clear hr3
  have HTE : Hid (textE (parseP b) = 0 ∧ textV (parseP b) = b) := Lib.hid (by
   rcases text_cases (parseP b) with ⟨_, h1, h2⟩ | ⟨h1, _⟩
   ·exact ⟨h1, h2.trans HR.out.2.1⟩
   ·exact absurd HR.out.1 h1)
  have HCK : Hid (chk8 (parseP b) = 0) := Lib.hid (by rw [chk8, planMay_true HR.out.1]; rfl)
  have d1 : ((0 : Int) != 0) = false := by decide
  obtain ⟨m0, m1, m2, m3, m4, m5⟩ := cell6_of Xp10.out
  go_wp2_with fail
  refine (hp.text _ (parseP b) wb Vp10.out).mono ?_
  rintro e wc ⟨u7, rfl, hu7, bN⟩
  rw [HTE.out.2] at hu7
  rw [HTE.out.1]
  have XU : Hid (Txt wc wc.heap.size u7 b) := Lib.hid (hu7.txt (by have := HBL.out; unfold maxLen; omega))
  clear hu7
  clear m0 m1 m2 m3 m4 m5
  have tBZ := BZ.out.trans (bN.mono BZ.out.size)
  have tXP := (bN.block _ (heap_lt XP.out)).trans XP.out
  have tV0 := ((V0.out.below bN).more bN.size)
  have tXB := ((XB.out.below bN).more bN.size)
  have tXp10 := (bN.block _ (heap_lt Xp10.out)).trans Xp10.out
  have tVp10 := ((Vp10.out.below bN).more bN.size)
  clear BZ XP V0 XB Xp10 Vp10
  have BZ := Lib.hid tBZ
  have XP := Lib.hid tXP
  have V0 := Lib.hid tV0
  have XB := Lib.hid tXB
  have Xp10 := Lib.hid tXp10
  have Vp10 := Lib.hid tVp10
  clear tBZ tXP tV0 tXB tXp10 tVp10 bN
  obtain ⟨m0, m1, m2, m3, m4, m5⟩ := cell6_of Xp10.out
  have rc1 := run_txt_string XU.out
  have rc2 := run_txt_string XB.out
  go_wp2_with fail
  refine (h8.check _ (parseP b) wc Vp10.out).mono ?_
  rintro e w9 ⟨rfl, bN⟩
  rw [HCK.out]
  have BL := Lib.hid (BZ.out.trans (bN.mono BZ.out.size))
  clear bN
  go_wp2_with fail
  go_ret
  exact ⟨rfl, BL.out⟩
 have HTV : Hid (textV p = textL p) := Lib.hid hv
 rw [hv] at hu3
 rw [he]
 clear he hv
 have HPT : Hid (PlanMay p) := Lib.hid hm
 clear hm
 obtain ⟨A6, c6, rfl, hc6⟩ := hu3.len
 obtain ⟨n6, hn6⟩ : ∃ n, n = (textL p).length := ⟨_, rfl⟩
 have HN6 : Hid (n6 ≤ 610) := Lib.hid (by rw [hn6]; exact (text_len HPT.out).1)
 have XU : Hid (Txt w3 w3.heap.size (.slice A6 n6 c6) (textL p)) := Lib.hid (by have h := hu3.txt (by have := (text_len HPT.out).1; unfold maxLen; omega); rw [hn6]; exact h)
 rw [← hn6]
 clear hu3 hc6 hn6
 go_wp2_with fail
 refine (hp.parse _ (textL p) w3 XU.out (by have := (textV_len p); rw [HTV.out] at this; omega)).mono ?_
 rintro e wda ⟨y2, y3, y4, y5, rfl, hpo, bN⟩
 obtain ⟨N2, Nc2, rfl⟩ := hpo.secs.slice
 obtain ⟨N3, Nc3, rfl⟩ := hpo.pts.slice
 obtain ⟨N4, Nc4, rfl⟩ := hpo.sigs.slice
 obtain ⟨N5, Nc5, rfl⟩ := hpo.routes.slice
 obtain ⟨Nn2, hN2⟩ : ∃ n, n = (parseP (textL p)).secs.length := ⟨_, rfl⟩
 obtain ⟨Nn3, hN3⟩ : ∃ n, n = (parseP (textL p)).pts.length := ⟨_, rfl⟩
 obtain ⟨Nn4, hN4⟩ : ∃ n, n = (parseP (textL p)).sigs.length := ⟨_, rfl⟩
 obtain ⟨Nn5, hN5⟩ : ∃ n, n = (parseP (textL p)).routes.length := ⟨_, rfl⟩
 have Vp8 : Hid (PlanV wda wda.heap.size (.agg #[.int .i64 (parseP (textL p)).ver, .int .i64 (parseP (textL p)).par, .slice N2 Nn2 Nc2, .slice N3 Nn3 Nc3, .slice N4 Nn4 Nc4, .slice N5 Nn5 Nc5]) (parseP (textL p))) := Lib.hid ⟨_, _, _, _, rfl, by rw [hN2, hN3, hN4, hN5]; exact hpo.in_⟩
 rw [← hN2, ← hN3, ← hN4, ← hN5]
 clear hpo hN2 hN3 hN4 hN5
 have tBZ := BZ.out.trans (bN.mono BZ.out.size)
 have tXP := (bN.block _ (heap_lt XP.out)).trans XP.out
 have tV0 := ((V0.out.below bN).more bN.size)
 have tXB := ((XB.out.below bN).more bN.size)
 have tXU := ((XU.out.below bN).more bN.size)
 clear BZ XP V0 XB XU
 have BZ := Lib.hid tBZ
 have XP := Lib.hid tXP
 have V0 := Lib.hid tV0
 have XB := Lib.hid tXB
 have XU := Lib.hid tXU
 clear tBZ tXP tV0 tXB tXU bN
 have XX0 := heap_alloc_self wda (.cells #[.int .i64 0, .int .i64 0, .slice none 0 0, .slice none 0 0, .slice none 0 0, .slice none 0 0] 31)
 have hb6 := below_setRow (below_new wda (.cells #[.int .i64 0, .int .i64 0, .slice none 0 0, .slice none 0 0, .slice none 0 0, .slice none 0 0] 31)) (Nat.le_refl _) #[.int .i64 (parseP (textL p)).ver, .int .i64 (parseP (textL p)).par, .slice N2 Nn2 Nc2, .slice N3 Nn3 Nc3, .slice N4 Nn4 Nc4, .slice N5 Nn5 Nc5]
 have hx6 := setRow_heap (wda.alloc (.cells #[.int .i64 0, .int .i64 0, .slice none 0 0, .slice none 0 0, .slice none 0 0, .slice none 0 0] 31)) wda.heap.size _ #[.int .i64 (parseP (textL p)).ver, .int .i64 (parseP (textL p)).par, .slice N2 Nn2 Nc2, .slice N3 Nn3 Nc3, .slice N4 Nn4 Nc4, .slice N5 Nn5 Nc5] 31 _ XX0
 go_upto_region 7 with ((with_reducible show wpList _ _ _ (⟨none, _, _, _, _, _⟩ :: _) _ _); refine wpList_store_rowS rfl _ (.tmp 8) (.tmp 37) rfl wda.heap.size rfl (c' := #[.int .i64 (parseP (textL p)).ver, .int .i64 (parseP (textL p)).par, .slice N2 Nn2 Nc2, .slice N3 Nn3 Nc3, .slice N4 Nn4 Nc4, .slice N5 Nn5 Nc5]) rfl XX0 infoPlanA rfl (by simp [Value.oneCell']) ?_)
 generalize (wda.alloc (.cells #[.int .i64 0, .int .i64 0, .slice none 0 0, .slice none 0 0, .slice none 0 0, .slice none 0 0] 31)).setRow wda.heap.size #[.int .i64 (parseP (textL p)).ver, .int .i64 (parseP (textL p)).par, .slice N2 Nn2 Nc2, .slice N3 Nn3 Nc3, .slice N4 Nn4 Nc4, .slice N5 Nn5 Nc5] = wd at hb6 hx6 ⊢
 obtain ⟨p8, hp_⟩ : ∃ n, n = wda.heap.size := ⟨_, rfl⟩
 rw [← hp_] at hx6 ⊢
 have Xp8 := Lib.hid hx6
 have tV := Lib.hid ((Vp8.out.below hb6).more hb6.size)
 clear Vp8 XX0 hx6 hp_
 have Vp8 := tV
 clear tV
 have tBZ := BZ.out.trans (hb6.mono BZ.out.size)
 have tXP := (hb6.block _ (heap_lt XP.out)).trans XP.out
 have tV0 := ((V0.out.below hb6).more hb6.size)
 have tXB := ((XB.out.below hb6).more hb6.size)
 have tXU := ((XU.out.below hb6).more hb6.size)
 clear BZ XP V0 XB XU
 have BZ := Lib.hid tBZ
 have XP := Lib.hid tXP
 have V0 := Lib.hid tV0
 have XB := Lib.hid tXB
 have XU := Lib.hid tXU
 clear tBZ tXP tV0 tXB tXU hb6
 have HR : Hid (parseE (textL p) = 0 ∧ parseP (textL p) = p) := Lib.hid (parse_text HPT.out)
 rw [HR.out.1]
 have d1 : ((0 : Int) != 0) = false := by decide
 have d2 : ¬ (1000 : Int) < n6 := by have := HN6.out; omega
 obtain ⟨k0, k1, k2, k3, k4, k5⟩ := cell6_of XP.out
 obtain ⟨m0, m1, m2, m3, m4, m5⟩ := cell6_of Xp8.out
 go_wp2_with fail
 refine (rsame8_any _ _ p (parseP (textL p)) wd V0.out Vp8.out).mono ?_
 rintro e we ⟨rfl, bN⟩
 rw [eqB_true HR.out.2.symm]
 clear k0 k1 k2 k3 k4 k5
 clear m0 m1 m2 m3 m4 m5
 clear Xp8 Vp8
 have tBZ := BZ.out.trans (bN.mono BZ.out.size)
 have tXP := (bN.block _ (heap_lt XP.out)).trans XP.out
 have tV0 := ((V0.out.below bN).more bN.size)
 have tXB := ((XB.out.below bN).more bN.size)
 have tXU := ((XU.out.below bN).more bN.size)
 clear BZ XP V0 XB XU
 have BZ := Lib.hid tBZ
 have XP := Lib.hid tXP
 have V0 := Lib.hid tV0
 have XB := Lib.hid tXB
 have XU := Lib.hid tXU
 clear tBZ tXP tV0 tXB tXU bN
 clear XU
 go_wp2_with fail
 refine (hp.parse _ (b) we XB.out (by have := HBL.out; omega)).mono ?_
 rintro e wba ⟨y2, y3, y4, y5, rfl, hpo, bN⟩
 obtain ⟨M2, Mc2, rfl⟩ := hpo.secs.slice
 obtain ⟨M3, Mc3, rfl⟩ := hpo.pts.slice
 obtain ⟨M4, Mc4, rfl⟩ := hpo.sigs.slice
 obtain ⟨M5, Mc5, rfl⟩ := hpo.routes.slice
 obtain ⟨Mn2, hM2⟩ : ∃ n, n = (parseP (b)).secs.length := ⟨_, rfl⟩
 obtain ⟨Mn3, hM3⟩ : ∃ n, n = (parseP (b)).pts.length := ⟨_, rfl⟩
 obtain ⟨Mn4, hM4⟩ : ∃ n, n = (parseP (b)).sigs.length := ⟨_, rfl⟩
 obtain ⟨Mn5, hM5⟩ : ∃ n, n = (parseP (b)).routes.length := ⟨_, rfl⟩
 have Vp10 : Hid (PlanV wba wba.heap.size (.agg #[.int .i64 (parseP (b)).ver, .int .i64 (parseP (b)).par, .slice M2 Mn2 Mc2, .slice M3 Mn3 Mc3, .slice M4 Mn4 Mc4, .slice M5 Mn5 Mc5]) (parseP (b))) := Lib.hid ⟨_, _, _, _, rfl, by rw [hM2, hM3, hM4, hM5]; exact hpo.in_⟩
 rw [← hM2, ← hM3, ← hM4, ← hM5]
 clear hpo hM2 hM3 hM4 hM5
 have tBZ := BZ.out.trans (bN.mono BZ.out.size)
 have tXP := (bN.block _ (heap_lt XP.out)).trans XP.out
 have tV0 := ((V0.out.below bN).more bN.size)
 have tXB := ((XB.out.below bN).more bN.size)
 clear BZ XP V0 XB
 have BZ := Lib.hid tBZ
 have XP := Lib.hid tXP
 have V0 := Lib.hid tV0
 have XB := Lib.hid tXB
 clear tBZ tXP tV0 tXB bN
 have XX0 := heap_alloc_self wba (.cells #[.int .i64 0, .int .i64 0, .slice none 0 0, .slice none 0 0, .slice none 0 0, .slice none 0 0] 31)
 have hb6 := below_setRow (below_new wba (.cells #[.int .i64 0, .int .i64 0, .slice none 0 0, .slice none 0 0, .slice none 0 0, .slice none 0 0] 31)) (Nat.le_refl _) #[.int .i64 (parseP (b)).ver, .int .i64 (parseP (b)).par, .slice M2 Mn2 Mc2, .slice M3 Mn3 Mc3, .slice M4 Mn4 Mc4, .slice M5 Mn5 Mc5]
 have hx6 := setRow_heap (wba.alloc (.cells #[.int .i64 0, .int .i64 0, .slice none 0 0, .slice none 0 0, .slice none 0 0, .slice none 0 0] 31)) wba.heap.size _ #[.int .i64 (parseP (b)).ver, .int .i64 (parseP (b)).par, .slice M2 Mn2 Mc2, .slice M3 Mn3 Mc3, .slice M4 Mn4 Mc4, .slice M5 Mn5 Mc5] 31 _ XX0
 go_upto_region 10 with ((with_reducible show wpList _ _ _ (⟨none, _, _, _, _, _⟩ :: _) _ _); refine wpList_store_rowS rfl _ (.tmp 10) (.tmp 55) rfl wba.heap.size rfl (c' := #[.int .i64 (parseP (b)).ver, .int .i64 (parseP (b)).par, .slice M2 Mn2 Mc2, .slice M3 Mn3 Mc3, .slice M4 Mn4 Mc4, .slice M5 Mn5 Mc5]) rfl XX0 infoPlanA rfl (by simp [Value.oneCell']) ?_)
 generalize (wba.alloc (.cells #[.int .i64 0, .int .i64 0, .slice none 0 0, .slice none 0 0, .slice none 0 0, .slice none 0 0] 31)).setRow wba.heap.size #[.int .i64 (parseP (b)).ver, .int .i64 (parseP (b)).par, .slice M2 Mn2 Mc2, .slice M3 Mn3 Mc3, .slice M4 Mn4 Mc4, .slice M5 Mn5 Mc5] = wb at hb6 hx6 ⊢
 obtain ⟨p10, hp_⟩ : ∃ n, n = wba.heap.size := ⟨_, rfl⟩
 rw [← hp_] at hx6 ⊢
 have Xp10 := Lib.hid hx6
 have tV := Lib.hid ((Vp10.out.below hb6).more hb6.size)
 clear Vp10 XX0 hx6 hp_
 have Vp10 := tV
 clear tV
 have tBZ := BZ.out.trans (hb6.mono BZ.out.size)
 have tXP := (hb6.block _ (heap_lt XP.out)).trans XP.out
 have tV0 := ((V0.out.below hb6).more hb6.size)
 have tXB := ((XB.out.below hb6).more hb6.size)
 clear BZ XP V0 XB
 have BZ := Lib.hid tBZ
 have XP := Lib.hid tXP
 have V0 := Lib.hid tV0
 have XB := Lib.hid tXB
 clear tBZ tXP tV0 tXB hb6
 rcases parse_cases b with ⟨r, hr1, hr2, hr3, hr4⟩ | ⟨-, hr3, hr4⟩
 rotate_left
 ·have HR : Hid (parseE b = 8 ∧ parseP b = zPl) := Lib.hid ⟨hr3, hr4⟩
  have d1 : ((8 : Int) != 0) = true := by decide
  rw [hr3]
  clear hr3 hr4
  obtain ⟨m0, m1, m2, m3, m4, m5⟩ := cell6_of Xp10.out
  go_wp2_with fail
  refine (rsame8_any _ _ (parseP b) zPl wb Vp10.out ⟨_, _, _, _, rfl, ⟨in_nil, in_nil, in_nil, in_nil⟩⟩).mono ?_
  rintro e w9 ⟨rfl, bN⟩
  rw [eqB_true HR.out.2]
  have BL := Lib.hid (BZ.out.trans (bN.mono BZ.out.size))
  clear bN
  go_wp2_with fail
  go_ret
  exact ⟨rfl, BL.out⟩
 have HR : Hid (PlanMay (parseP b) ∧ textL (parseP b) = b ∧ parseE b = 0) := Lib.hid ⟨by rw [hr4]; exact hr1, by rw [hr4]; exact hr2, hr3⟩
 clear hr1 hr2 hr4
 rw [hr3]
 clear hr3
 have HTE : Hid (textE (parseP b) = 0 ∧ textV (parseP b) = b) := Lib.hid (by
  rcases text_cases (parseP b) with ⟨_, h1, h2⟩ | ⟨h1, _⟩
  ·exact ⟨h1, h2.trans HR.out.2.1⟩
  ·exact absurd HR.out.1 h1)
 have HCK : Hid (chk8 (parseP b) = 0) := Lib.hid (by rw [chk8, planMay_true HR.out.1]; rfl)
 have d1 : ((0 : Int) != 0) = false := by decide
 obtain ⟨m0, m1, m2, m3, m4, m5⟩ := cell6_of Xp10.out
 go_wp2_with fail
 refine (hp.text _ (parseP b) wb Vp10.out).mono ?_
 rintro e wc ⟨u7, rfl, hu7, bN⟩
 rw [HTE.out.2] at hu7
 rw [HTE.out.1]
 have XU : Hid (Txt wc wc.heap.size u7 b) := Lib.hid (hu7.txt (by have := HBL.out; unfold maxLen; omega))
 clear hu7
 clear m0 m1 m2 m3 m4 m5
 have tBZ := BZ.out.trans (bN.mono BZ.out.size)
 have tXP := (bN.block _ (heap_lt XP.out)).trans XP.out
 have tV0 := ((V0.out.below bN).more bN.size)
 have tXB := ((XB.out.below bN).more bN.size)
 have tXp10 := (bN.block _ (heap_lt Xp10.out)).trans Xp10.out
 have tVp10 := ((Vp10.out.below bN).more bN.size)
 clear BZ XP V0 XB Xp10 Vp10
 have BZ := Lib.hid tBZ
 have XP := Lib.hid tXP
 have V0 := Lib.hid tV0
 have XB := Lib.hid tXB
 have Xp10 := Lib.hid tXp10
 have Vp10 := Lib.hid tVp10
 clear tBZ tXP tV0 tXB tXp10 tVp10 bN
 obtain ⟨m0, m1, m2, m3, m4, m5⟩ := cell6_of Xp10.out
 have rc1 := run_txt_string XU.out
 have rc2 := run_txt_string XB.out
 go_wp2_with fail
 refine (h8.check _ (parseP b) wc Vp10.out).mono ?_
 rintro e w9 ⟨rfl, bN⟩
 rw [HCK.out]
 have BL := Lib.hid (BZ.out.trans (bN.mono BZ.out.size))
 clear bN
 go_wp2_with fail
 go_ret
 exact ⟨rfl, BL.out⟩
end Go.Proofs.YteloiajocjahmaaDoor
