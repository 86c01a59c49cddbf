/-
 PackApart: the walk, given the program's contracts.
 Conditions: none.
-/
import Derived.Test.YteloiajocjahmaaDoorSGPckA
import Derived.Test.YteloiajocjahmaaDoorSGPlnRefD
import Derived.BigQuiet
set_option linter.unusedVariables false
set_option linter.unusedSimpArgs false
set_option maxRecDepth 100000
namespace Go.Proofs.YteloiajocjahmaaDoor
open Go.RowKit

theorem txt_empty (w : World) : TxtOwn (w.alloc (.cells #[] 5)) w.heap.size (.slice (some ⟨w.heap.size, 0, none⟩) 0 0) [] :=
 ⟨rfl, .inr ⟨w.heap.size, 0, #[], rfl, Nat.le_refl _, heap_alloc_self _ _, Nat.le_refl _, by decide, rfl, rfl⟩⟩
theorem apart_more {p : Pl} {m : List UInt8} (hp : PlanMay p) : (parseE (textL p ++ m) == 0) = decide (m.length = 0) := by
 by_cases h : m = []
 ·subst h
  rw [List.append_nil, (parse_text hp).1]; rfl
 ·rw [(parse_no fun q hq e => h (text_more hp hq e.symm).2).1]
  have : ¬ m.length = 0 := fun e => h (List.eq_nil_of_length_eq_zero e)
  rw [decide_eq_false this]; rfl
theorem apart_same {p o : Pl} (hp : PlanMay p) (ho : PlanMay o) : (textL p == textL o) = eqB p o := by
 by_cases h : p = o
 ·subst h
  rw [eqB_true rfl]; simp
 ·rw [eqB_false h]
  exact beq_eq_false_iff_ne.2 fun e => h (text_inj hp ho e)
set_option maxHeartbeats 16000000 in
theorem walk_pack_apart (hp : PckSaid) (hk : PckKey) (v vo vb : Value) (p o : Pl) (b : List UInt8) (w : World) (hT : Tab w) (h : PlanV w w.heap.size v p) (h2 : PlanV w w.heap.size vo o) (hxb : Txt w w.heap.size vb b) :
  Calls Tryd.prog 6 #[v, vo, vb] w fun e w' => e = .returned (.bool true) ∧ Below w.heap.size w w' := by
 have HT := Lib.hid hT
 have T0 : Hid (0 < w.heap.size) := Lib.hid (tab_pos hT)
 have XB0 := Lib.hid hxb
 obtain ⟨AB, cB, rfl, -, -, -, -⟩ := hxb
 obtain ⟨nb, hnb⟩ : ∃ n, n = b.length := ⟨_, rfl⟩
 have HNB := Lib.hid hnb
 have XB1 : Hid (Txt w w.heap.size (.slice AB nb cB) b) := Lib.hid (by rw [hnb]; exact XB0.out)
 rw [← hnb]
 clear hT hnb XB0
 obtain ⟨A2, c2, A3, c3, A4, c4, A5, c5, n2, n3, n4, n5, rfl, hm2, hm3, hm4, hm5, HCP, HIN, HN⟩ := open_plan h
 obtain ⟨y2, y3, y4, y5, rfl, hin2⟩ := h2
 obtain ⟨E2, f2, rfl, -, -⟩ := hin2.secs.slice
 obtain ⟨E3, f3, rfl, -, -⟩ := hin2.pts.slice
 obtain ⟨E4, f4, rfl, -, -⟩ := hin2.sigs.slice
 obtain ⟨E5, f5, rfl, -, -⟩ := hin2.routes.slice
 obtain ⟨m2, hm2_⟩ : ∃ n, n = o.secs.length := ⟨_, rfl⟩
 obtain ⟨m3, hm3_⟩ : ∃ n, n = o.pts.length := ⟨_, rfl⟩
 obtain ⟨m4, hm4_⟩ : ∃ n, n = o.sigs.length := ⟨_, rfl⟩
 obtain ⟨m5, hm5_⟩ : ∃ n, n = o.routes.length := ⟨_, rfl⟩
 have HIN2 : Hid (PlIn w w.heap.size (.slice E2 m2 f2) (.slice E3 m3 f3) (.slice E4 m4 f4) (.slice E5 m5 f5) o) := Lib.hid (by rw [hm2_, hm3_, hm4_, hm5_]; exact hin2)
 rw [← hm2_, ← hm3_, ← hm4_, ← hm5_]
 clear hm2_ hm3_ hm4_ hm5_ hin2
 obtain ⟨hx1, hx2, hqb⟩ := two_boxes w (.cells #[.int .i64 p.ver, .int .i64 p.par, .slice A2 n2 c2, .slice A3 n3 c3, .slice A4 n4 c4, .slice A5 n5 c5] 31) (.cells #[.int .i64 o.ver, .int .i64 o.par, .slice E2 m2 f2, .slice E3 m3 f3, .slice E4 m4 f4, .slice E5 m5 f5] 31)
 go_enter Tryd.func6, Tryd.ntmps6
 go_upto_region 1 with fail
 generalize (w.alloc (.cells #[.int .i64 p.ver, .int .i64 p.par, .slice A2 n2 c2, .slice A3 n3 c3, .slice A4 n4 c4, .slice A5 n5 c5] 31)).alloc (.cells #[.int .i64 o.ver, .int .i64 o.par, .slice E2 m2 f2, .slice E3 m3 f3, .slice E4 m4 f4, .slice E5 m5 f5] 31) = q at hx1 hx2 hqb ⊢
 have XP := Lib.hid hx1
 have XO := Lib.hid hx2
 have BZ := Lib.hid hqb
 have V0 : Hid (PlanV q q.heap.size (.agg #[.int .i64 p.ver, .int .i64 p.par, .slice A2 n2 c2, .slice A3 n3 c3, .slice A4 n4 c4, .slice A5 n5 c5]) p) := Lib.hid ⟨_, _, _, _, rfl, (HIN.out.below hqb).more hqb.size⟩
 have V1 : Hid (PlanV q q.heap.size (.agg #[.int .i64 o.ver, .int .i64 o.par, .slice E2 m2 f2, .slice E3 m3 f3, .slice E4 m4 f4, .slice E5 m5 f5]) o) := Lib.hid ⟨_, _, _, _, rfl, (HIN2.out.below hqb).more hqb.size⟩
 have XB := Lib.hid ((XB1.out.below hqb).more hqb.size)
 clear HIN HIN2 XB1 hx1 hx2 hqb
 go_wp2_with fail
 refine (alive12 hp hk q (HT.out.below BZ.out T0.out)).mono ?_
 rintro e w1 ⟨rfl, bN⟩
 have tBZ := BZ.out.trans (bN.mono BZ.out.size)
 have tXP := (bN.block _ (heap_lt XP.out)).trans XP.out
 have tXO := (bN.block _ (heap_lt XO.out)).trans XO.out
 have tV0 := ((V0.out.below bN).more bN.size)
 have tV1 := ((V1.out.below bN).more bN.size)
 have tXB := ((XB.out.below bN).more bN.size)
 clear BZ XP XO V0 V1 XB
 have BZ := Lib.hid tBZ
 have XP := Lib.hid tXP
 have XO := Lib.hid tXO
 have V0 := Lib.hid tV0
 have V1 := Lib.hid tV1
 have XB := Lib.hid tXB
 clear tBZ tXP tXO tV0 tV1 tXB bN
 obtain ⟨k0, k1, k2, k3, k4, k5⟩ := cell6_of XP.out
 go_wp2_with fail
 refine (rgreat8_any _ p w1 V0.out).mono ?_
 rintro e w2 ⟨⟨g, rfl, hg⟩, bN⟩
 clear k0 k1 k2 k3 k4 k5
 have tBZ := BZ.out.trans (bN.mono BZ.out.size)
 have tXP := (bN.block _ (heap_lt XP.out)).trans XP.out
 have tXO := (bN.block _ (heap_lt XO.out)).trans XO.out
 have tV0 := ((V0.out.below bN).more bN.size)
 have tV1 := ((V1.out.below bN).more bN.size)
 have tXB := ((XB.out.below bN).more bN.size)
 clear BZ XP XO V0 V1 XB
 have BZ := Lib.hid tBZ
 have XP := Lib.hid tXP
 have XO := Lib.hid tXO
 have V0 := Lib.hid tV0
 have V1 := Lib.hid tV1
 have XB := Lib.hid tXB
 clear tBZ tXP tXO tV0 tV1 tXB bN
 clear hg
 cases g with
 | true =>
  go_wp2_with fail
  go_ret
  exact ⟨rfl, BZ.out⟩
 | false =>
 obtain ⟨k0, k1, k2, k3, k4, k5⟩ := cell6_of XO.out
 go_wp2_with fail
 refine (rgreat8_any _ o w2 V1.out).mono ?_
 rintro e w3 ⟨⟨g, rfl, hg⟩, bN⟩
 clear k0 k1 k2 k3 k4 k5
 have tBZ := BZ.out.trans (bN.mono BZ.out.size)
 have tXP := (bN.block _ (heap_lt XP.out)).trans XP.out
 have tXO := (bN.block _ (heap_lt XO.out)).trans XO.out
 have tV0 := ((V0.out.below bN).more bN.size)
 have tV1 := ((V1.out.below bN).more bN.size)
 have tXB := ((XB.out.below bN).more bN.size)
 clear BZ XP XO V0 V1 XB
 have BZ := Lib.hid tBZ
 have XP := Lib.hid tXP
 have XO := Lib.hid tXO
 have V0 := Lib.hid tV0
 have V1 := Lib.hid tV1
 have XB := Lib.hid tXB
 clear tBZ tXP tXO tV0 tV1 tXB bN
 clear hg
 cases g with
 | true =>
  go_wp2_with fail
  go_ret
  exact ⟨rfl, BZ.out⟩
 | false =>
 by_cases h5 : 1000 < nb
 ·have d0 : (1000 : Int) < nb := by omega
  have d1 : (nb : Int) > 1000 := d0
  go_wp2_with fail
  go_ret
  exact ⟨rfl, BZ.out⟩
 have d0 : ¬ (1000 : Int) < nb := by omega
 have HBL : Hid (b.length ≤ 1000) := Lib.hid (by rw [← HNB.out]; omega)
 clear h5
 obtain ⟨k0, k1, k2, k3, k4, k5⟩ := cell6_of XP.out
 go_wp2_with fail
 refine (hp.text _ p w3 V0.out).mono ?_
 rintro e w4 ⟨u3, rfl, hu3, bN⟩
 clear d0
 have U3 : Hid (Txt w4 w4.heap.size u3 (textV p)) := Lib.hid (hu3.txt (by have := textV_len p; unfold maxLen; omega))
 clear hu3
 clear k0 k1 k2 k3 k4 k5
 have tBZ := BZ.out.trans (bN.mono BZ.out.size)
 have tXP := (bN.block _ (heap_lt XP.out)).trans XP.out
 have tXO := (bN.block _ (heap_lt XO.out)).trans XO.out
 have tV0 := ((V0.out.below bN).more bN.size)
 have tV1 := ((V1.out.below bN).more bN.size)
 have tXB := ((XB.out.below bN).more bN.size)
 clear BZ XP XO V0 V1 XB
 have BZ := Lib.hid tBZ
 have XP := Lib.hid tXP
 have XO := Lib.hid tXO
 have V0 := Lib.hid tV0
 have V1 := Lib.hid tV1
 have XB := Lib.hid tXB
 clear tBZ tXP tXO tV0 tV1 tXB bN
 obtain ⟨k0, k1, k2, k3, k4, k5⟩ := cell6_of XO.out
 go_wp2_with fail
 refine (hp.text _ o w4 V1.out).mono ?_
 rintro e w5 ⟨u4, rfl, hu4, bN⟩
 have U4 : Hid (Txt w5 w5.heap.size u4 (textV o)) := Lib.hid (hu4.txt (by have := textV_len o; unfold maxLen; omega))
 clear hu4
 clear k0 k1 k2 k3 k4 k5
 have tBZ := BZ.out.trans (bN.mono BZ.out.size)
 have tXP := (bN.block _ (heap_lt XP.out)).trans XP.out
 have tXO := (bN.block _ (heap_lt XO.out)).trans XO.out
 have tV0 := ((V0.out.below bN).more bN.size)
 have tV1 := ((V1.out.below bN).more bN.size)
 have tXB := ((XB.out.below bN).more bN.size)
 have tU3 := ((U3.out.below bN).more bN.size)
 clear BZ XP XO V0 V1 XB U3
 have BZ := Lib.hid tBZ
 have XP := Lib.hid tXP
 have XO := Lib.hid tXO
 have V0 := Lib.hid tV0
 have V1 := Lib.hid tV1
 have XB := Lib.hid tXB
 have U3 := Lib.hid tU3
 clear tBZ tXP tXO tV0 tV1 tXB tU3 bN
 rcases text_cases p with ⟨hm, he, hv⟩ | ⟨hm, he, hv⟩
 rotate_left
 ·rw [he]
  have d1 : ((8 : Int) != 0) = true := by decide
  clear hm he hv
  go_wp2_with fail
  go_ret
  exact ⟨rfl, BZ.out⟩
 rw [he]
 have d1 : ((0 : Int) != 0) = false := by decide
 rcases text_cases o with ⟨hn, he2, hv2⟩ | ⟨hn, he2, hv2⟩
 rotate_left
 ·rw [he2]
  have d2 : ((8 : Int) != 0) = true := by decide
  clear hm he hv hn he2 hv2
  go_wp2_with fail
  go_ret
  exact ⟨rfl, BZ.out⟩
 rw [he2]
 have HPM : Hid (PlanMay p ∧ PlanMay o) := Lib.hid ⟨hm, hn⟩
 have U3' : Hid (Txt w5 w5.heap.size u3 (textL p)) := Lib.hid (by rw [← hv]; exact U3.out)
 have U4' : Hid (Txt w5 w5.heap.size u4 (textL o)) := Lib.hid (by rw [← hv2]; exact U4.out)
 clear hm he hv hn he2 hv2 U3 U4
 have U3 := U3'
 have U4 := U4'
 clear U3' U4'
 have HL3 : Hid ((textL p).length ≤ 610) := Lib.hid (text_len HPM.out.1).1
 have HBE := Lib.hid (below_new w5 (.cells #[] 5))
 have HE0 := Lib.hid (txt_empty w5)
 have XT : Hid (b.length ≤ 1000) := HBL
 go_wp2_with (first | ((with_reducible show wpList _ _ _ (⟨some 50, _, _, _, _, _⟩ :: _) _ _); refine wpList_append_bytes rfl (.tmp 48) (.tmp 49) rfl rfl HE0.out rfl (U3.out.below HBE.out) (by have := HL3.out; simp; omega) (by simp) ?_; intro z1 x1 ho1 hb1 _; have O1 := Lib.hid ho1; have D1 := Lib.hid hb1; clear ho1 hb1) | ((with_reducible show wpList _ _ _ (⟨some 52, _, _, _, _, _⟩ :: _) _ _); refine wpList_append_bytes rfl (.tmp 50) (.tmp 51) rfl rfl O1.out rfl ((XB.out.below HBE.out).below D1.out) (by have := HL3.out; have := XT.out; simp; omega) (by have h1 := D1.out.size; have h2 := HBE.out.size; omega) ?_; intro z2 x2 ho2 hb2 _; have O2 := Lib.hid ho2; have D2 := Lib.hid hb2; clear ho2 hb2))
 have bN : Below w5.heap.size w5 x2 := (HBE.out.trans D1.out).trans D2.out
 have XQ : Hid (Txt x2 x2.heap.size z2 (textL p ++ b)) := Lib.hid (by
  have h := O2.out.txt (by have := HL3.out; have := XT.out; simp; unfold maxLen; omega)
  rw [List.nil_append] at h
  exact h)
 clear O1 O2 D1 D2 HE0 HBE
 have tBZ := BZ.out.trans (bN.mono BZ.out.size)
 have tXP := (bN.block _ (heap_lt XP.out)).trans XP.out
 have tXO := (bN.block _ (heap_lt XO.out)).trans XO.out
 have tV0 := ((V0.out.below bN).more bN.size)
 have tV1 := ((V1.out.below bN).more bN.size)
 have tXB := ((XB.out.below bN).more bN.size)
 have tU3 := ((U3.out.below bN).more bN.size)
 have tU4 := ((U4.out.below bN).more bN.size)
 clear BZ XP XO V0 V1 XB U3 U4
 have BZ := Lib.hid tBZ
 have XP := Lib.hid tXP
 have XO := Lib.hid tXO
 have V0 := Lib.hid tV0
 have V1 := Lib.hid tV1
 have XB := Lib.hid tXB
 have U3 := Lib.hid tU3
 have U4 := Lib.hid tU4
 clear tBZ tXP tXO tV0 tV1 tXB tU3 tU4 bN
 go_wp2_with fail
 refine (hp.parse _ (textL p ++ b) x2 XQ.out (by have := HL3.out; have := XT.out; simp; omega)).mono ?_
 rintro e wda ⟨y2, y3, y4, y5, rfl, hpo, bN⟩
 obtain ⟨N2, Nc2, rfl⟩ := hpo.secs.slice
 obtain ⟨N3, Nc3, rfl⟩ := hpo.pts.slice
 obtain ⟨N4, Nc4, rfl⟩ := hpo.sigs.slice
 obtain ⟨N5, Nc5, rfl⟩ := hpo.routes.slice
 obtain ⟨Nn2, hN2⟩ : ∃ n, n = (parseP (textL p ++ b)).secs.length := ⟨_, rfl⟩
 obtain ⟨Nn3, hN3⟩ : ∃ n, n = (parseP (textL p ++ b)).pts.length := ⟨_, rfl⟩
 obtain ⟨Nn4, hN4⟩ : ∃ n, n = (parseP (textL p ++ b)).sigs.length := ⟨_, rfl⟩
 obtain ⟨Nn5, hN5⟩ : ∃ n, n = (parseP (textL p ++ b)).routes.length := ⟨_, rfl⟩
 have Vp12 : Hid (PlanV wda wda.heap.size (.agg #[.int .i64 (parseP (textL p ++ b)).ver, .int .i64 (parseP (textL p ++ b)).par, .slice N2 Nn2 Nc2, .slice N3 Nn3 Nc3, .slice N4 Nn4 Nc4, .slice N5 Nn5 Nc5]) (parseP (textL p ++ b))) := Lib.hid ⟨_, _, _, _, rfl, by rw [hN2, hN3, hN4, hN5]; exact hpo.in_⟩
 rw [← hN2, ← hN3, ← hN4, ← hN5]
 clear hpo hN2 hN3 hN4 hN5
 have tBZ := BZ.out.trans (bN.mono BZ.out.size)
 have tXP := (bN.block _ (heap_lt XP.out)).trans XP.out
 have tXO := (bN.block _ (heap_lt XO.out)).trans XO.out
 have tV0 := ((V0.out.below bN).more bN.size)
 have tV1 := ((V1.out.below bN).more bN.size)
 have tXB := ((XB.out.below bN).more bN.size)
 have tU3 := ((U3.out.below bN).more bN.size)
 have tU4 := ((U4.out.below bN).more bN.size)
 clear BZ XP XO V0 V1 XB U3 U4
 have BZ := Lib.hid tBZ
 have XP := Lib.hid tXP
 have XO := Lib.hid tXO
 have V0 := Lib.hid tV0
 have V1 := Lib.hid tV1
 have XB := Lib.hid tXB
 have U3 := Lib.hid tU3
 have U4 := Lib.hid tU4
 clear tBZ tXP tXO tV0 tV1 tXB tU3 tU4 bN
 have XX0 := heap_alloc_self wda (.cells #[.int .i64 0, .int .i64 0, .slice none 0 0, .slice none 0 0, .slice none 0 0, .slice none 0 0] 31)
 have hb6 := below_setRow (below_new wda (.cells #[.int .i64 0, .int .i64 0, .slice none 0 0, .slice none 0 0, .slice none 0 0, .slice none 0 0] 31)) (Nat.le_refl _) #[.int .i64 (parseP (textL p ++ b)).ver, .int .i64 (parseP (textL p ++ b)).par, .slice N2 Nn2 Nc2, .slice N3 Nn3 Nc3, .slice N4 Nn4 Nc4, .slice N5 Nn5 Nc5]
 have hx6 := setRow_heap (wda.alloc (.cells #[.int .i64 0, .int .i64 0, .slice none 0 0, .slice none 0 0, .slice none 0 0, .slice none 0 0] 31)) wda.heap.size _ #[.int .i64 (parseP (textL p ++ b)).ver, .int .i64 (parseP (textL p ++ b)).par, .slice N2 Nn2 Nc2, .slice N3 Nn3 Nc3, .slice N4 Nn4 Nc4, .slice N5 Nn5 Nc5] 31 _ XX0
 go_upto_region 9 with ((with_reducible show wpList _ _ _ (⟨none, _, _, _, _, _⟩ :: _) _ _); refine wpList_store_rowS rfl _ (.tmp 12) (.tmp 54) rfl wda.heap.size rfl (c' := #[.int .i64 (parseP (textL p ++ b)).ver, .int .i64 (parseP (textL p ++ b)).par, .slice N2 Nn2 Nc2, .slice N3 Nn3 Nc3, .slice N4 Nn4 Nc4, .slice N5 Nn5 Nc5]) rfl XX0 infoPlanA rfl (by simp [Value.oneCell']) ?_)
 generalize (wda.alloc (.cells #[.int .i64 0, .int .i64 0, .slice none 0 0, .slice none 0 0, .slice none 0 0, .slice none 0 0] 31)).setRow wda.heap.size #[.int .i64 (parseP (textL p ++ b)).ver, .int .i64 (parseP (textL p ++ b)).par, .slice N2 Nn2 Nc2, .slice N3 Nn3 Nc3, .slice N4 Nn4 Nc4, .slice N5 Nn5 Nc5] = wd at hb6 hx6 ⊢
 obtain ⟨p12, hp_⟩ : ∃ n, n = wda.heap.size := ⟨_, rfl⟩
 rw [← hp_] at hx6 ⊢
 have Xp12 := Lib.hid hx6
 have tV := Lib.hid ((Vp12.out.below hb6).more hb6.size)
 clear Vp12 XX0 hx6 hp_
 have Vp12 := tV
 clear tV
 have tBZ := BZ.out.trans (hb6.mono BZ.out.size)
 have tXP := (hb6.block _ (heap_lt XP.out)).trans XP.out
 have tXO := (hb6.block _ (heap_lt XO.out)).trans XO.out
 have tV0 := ((V0.out.below hb6).more hb6.size)
 have tV1 := ((V1.out.below hb6).more hb6.size)
 have tXB := ((XB.out.below hb6).more hb6.size)
 have tU3 := ((U3.out.below hb6).more hb6.size)
 have tU4 := ((U4.out.below hb6).more hb6.size)
 clear BZ XP XO V0 V1 XB U3 U4
 have BZ := Lib.hid tBZ
 have XP := Lib.hid tXP
 have XO := Lib.hid tXO
 have V0 := Lib.hid tV0
 have V1 := Lib.hid tV1
 have XB := Lib.hid tXB
 have U3 := Lib.hid tU3
 have U4 := Lib.hid tU4
 clear tBZ tXP tXO tV0 tV1 tXB tU3 tU4 hb6
 obtain ⟨E, hE⟩ : ∃ x, x = parseE (textL p ++ b) := ⟨_, rfl⟩
 have HEQ : Hid ((E == 0) = decide (b.length = 0)) := Lib.hid (by rw [hE]; exact apart_more HPM.out.1)
 rw [← hE]
 clear hE
 obtain ⟨c, hc⟩ : ∃ c, c = eqB p o := ⟨_, rfl⟩
 have HC := Lib.hid hc
 have hcl : (textL p == textL o) = c := by rw [hc]; exact apart_same HPM.out.1 HPM.out.2
 clear hc
 obtain ⟨d, hd⟩ : ∃ d, d = decide (b.length = 0) := ⟨_, rfl⟩
 have he0 : (E == 0) = d := by rw [hd]; exact HEQ.out
 have hn0 : ((nb : Int) == 0) = d := by
  rw [hd, Bool.eq_iff_iff, beq_iff_eq, decide_eq_true_iff, ← HNB.out]
  omega
 have hn1 : (nb == 0) = d := by
  rw [hd, Bool.eq_iff_iff, beq_iff_eq, decide_eq_true_iff, ← HNB.out]
 have hn2 : decide (nb = 0) = d := by rw [hd, HNB.out]
 clear hd HEQ Xp12 Vp12
 go_upto_region 9 with fail
 refine wp_region_held_drew (S := fun v => Below wd.heap.size wd v) (by kernel_rfl) (Below.refl wd.heap.size wd).drew (fun hHeld => ?_)
 refine tk 0 hHeld ?_;refine tkc 1 hHeld (fun w' hSw => run_txt_string (U3.out.below hSw)) ?_;refine tk 2 hHeld ?_;refine tkc 3 hHeld (fun w' hSw => run_txt_string (U4.out.below hSw)) ?_;refine tk 4 hHeld ?_;refine tkc 5 hHeld (fun w' hSw => cell6_of ((hSw.block _ (heap_lt XP.out)).trans XP.out)) ?_;refine tkc 6 hHeld (fun w' hSw => cell6_of ((hSw.block _ (heap_lt XO.out)).trans XO.out)) ?_
 refine tkr 7 (fun K hK => ?_)
 go_simp
 refine (rsame8_any _ _ p o wd.drew ((V0.out.below (Below.refl wd.heap.size wd).drew).more (Below.refl wd.heap.size wd).drew.size) ((V1.out.below (Below.refl wd.heap.size wd).drew).more (Below.refl wd.heap.size wd).drew.size)).mono ?_
 rintro e x3 ⟨rfl, b7⟩
 rw [← HC.out]
 have BX : Hid (Below wd.heap.size wd x3) := Lib.hid ((Below.refl wd.heap.size wd).drew.trans (b7.mono (Below.refl wd.heap.size wd).drew.size))
 clear b7
 try go_wp2_with fail
 refine hK.out _ _ ?_ fun hHeld => ?_;exact BX.out;clear hK K;try simp only [zn, Act.put]
 refine tk 8 hHeld ?_;refine tk 9 hHeld ?_;refine tk 10 hHeld ?_;refine tk 11 hHeld ?_;refine tk 12 hHeld ?_;refine tk 13 hHeld ?_;refine tk 14 hHeld ?_;refine tk 15 hHeld ?_;refine tk 16 hHeld ?_;refine tk 17 hHeld ?_
 refine wpAnyH_done (by kernel_rfl) ?_ _
 have BL := Lib.hid (BZ.out.trans (BX.out.mono BZ.out.size))
 go_wp2_with fail
 go_ret
 exact ⟨rfl, BL.out⟩
end Go.Proofs.YteloiajocjahmaaDoor
