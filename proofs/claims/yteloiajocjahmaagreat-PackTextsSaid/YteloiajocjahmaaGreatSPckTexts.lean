/-
 PackTexts' walk: plans' texts, beside the document's own.
 Conditions: none.
-/
import Derived.Test.YteloiajocjahmaaGreatSGPckP
import Derived.Test.YteloiajocjahmaaGreatSGTxt
import Derived.Test.YteloiajocjahmaaGreatSPckRefE
import Derived.Test.YteloiajocjahmaaGreatSPckRefF
import Derived.Test.YteloiajocjahmaaGreatSGPlnRefD
set_option linter.unusedVariables false
set_option linter.unusedSimpArgs false
set_option maxRecDepth 100000
namespace Go.Proofs.YteloiajocjahmaaGreat
open Go.RowKit

set_option maxHeartbeats 16000000 in
theorem walk_pack_texts (hp : PckSaid) (v vb : Value) (p : Pl) (b : List UInt8) (w : World) (h : PlanV w w.heap.size v p) (hxb : Txt w w.heap.size vb b) :
  Calls Tryz.prog 3 #[v, vb] w fun e w' => e = .returned (.bool true) ∧ Below w.heap.size w w' := by
 have XB0 := Lib.hid hxb
 obtain ⟨AB, cB, rfl, -, -, -, -⟩ := hxb
 obtain ⟨nb, hnb⟩ : ∃ n, n = b.length := ⟨_, rfl⟩
 have HNB := Lib.hid hnb
 have XB1 : Hid (Txt w w.heap.size (.slice AB nb cB) b) := Lib.hid (by rw [hnb]; exact XB0.out)
 rw [← hnb]
 clear hnb XB0
 obtain ⟨A2, c2, A3, c3, A4, c4, A5, c5, n2, n3, n4, n5, rfl, hm2, hm3, hm4, hm5, HCP, HIN, HN⟩ := open_plan h
 have hq0 := heap_alloc_self w (.cells #[.int .i64 p.ver, .int .i64 p.par, .slice A2 n2 c2, .slice A3 n3 c3, .slice A4 n4 c4, .slice A5 n5 c5] 27)
 have hqb := below_new w (.cells #[.int .i64 p.ver, .int .i64 p.par, .slice A2 n2 c2, .slice A3 n3 c3, .slice A4 n4 c4, .slice A5 n5 c5] 27)
 go_enter Tryz.func3, Tryz.ntmps3
 go_upto_region 1 with fail
 generalize w.alloc (.cells #[.int .i64 p.ver, .int .i64 p.par, .slice A2 n2 c2, .slice A3 n3 c3, .slice A4 n4 c4, .slice A5 n5 c5] 27) = q at hq0 hqb ⊢
 have XP := Lib.hid hq0
 have BQ := Lib.hid hqb
 clear hq0 hqb
 have BZ := BQ
 have V0 : Hid (PlanV q q.heap.size (.agg #[.int .i64 p.ver, .int .i64 p.par, .slice A2 n2 c2, .slice A3 n3 c3, .slice A4 n4 c4, .slice A5 n5 c5]) p) := Lib.hid ⟨_, _, _, _, rfl, (HIN.out.below BQ.out).more BQ.out.size⟩
 have XB := Lib.hid ((XB1.out.below BQ.out).more BQ.out.size)
 clear HIN XB1 BQ
 obtain ⟨k0, k1, k2, k3, k4, k5⟩ := cell6_of XP.out
 go_wp2_with fail
 refine (rgreat8_any _ p q V0.out).mono ?_
 rintro e w2 ⟨⟨g, rfl, hg⟩, bN⟩
 clear k0 k1 k2 k3 k4 k5
 have tBZ := BZ.out.trans (bN.mono BZ.out.size)
 have tXP := (bN.block _ (heap_lt XP.out)).trans XP.out
 have tV0 := ((V0.out.below bN).more bN.size)
 have tXB := ((XB.out.below bN).more bN.size)
 clear BZ XP V0 XB
 have BZ := Lib.hid tBZ
 have XP := Lib.hid tXP
 have V0 := Lib.hid tV0
 have XB := Lib.hid tXB
 clear tBZ tXP tV0 tXB bN
 cases g with
 | true =>
  go_wp2_with fail
  go_ret
  exact ⟨rfl, BZ.out⟩
 | false =>
 have FEW := Lib.hid (hg rfl)
 clear hg
 by_cases h5 : 5000 < nb
 ·have d0 : (5000 : Int) < nb := by omega
  have d1 : (nb : Int) > 5000 := d0
  go_wp2_with fail
  go_ret
  exact ⟨rfl, BZ.out⟩
 have d0 : ¬ (5000 : Int) < nb := by omega
 have d1 : ¬ (nb : Int) > 5000 := d0
 have HBL : Hid (b.length ≤ 5000) := Lib.hid (by rw [← HNB.out]; omega)
 clear h5
 have rc0 := run_txt_string XB.out
 obtain ⟨k0, k1, k2, k3, k4, k5⟩ := cell6_of XP.out
 go_wp2_with fail
 refine (rtwin8_any _ p w2 V0.out FEW.out).mono ?_
 rintro e wta ⟨y2, y3, y4, y5, rfl, hpo, bN⟩
 clear rc0
 clear k0 k1 k2 k3 k4 k5
 obtain ⟨T2, Tc2, rfl⟩ := hpo.secs.slice
 obtain ⟨T3, Tc3, rfl⟩ := hpo.pts.slice
 obtain ⟨T4, Tc4, rfl⟩ := hpo.sigs.slice
 obtain ⟨T5, Tc5, rfl⟩ := hpo.routes.slice
 obtain ⟨Tn2, hT2⟩ : ∃ n, n = (p).secs.length := ⟨_, rfl⟩
 obtain ⟨Tn3, hT3⟩ : ∃ n, n = (p).pts.length := ⟨_, rfl⟩
 obtain ⟨Tn4, hT4⟩ : ∃ n, n = (p).sigs.length := ⟨_, rfl⟩
 obtain ⟨Tn5, hT5⟩ : ∃ n, n = (p).routes.length := ⟨_, rfl⟩
 have Vp6 : Hid (PlanV wta wta.heap.size (.agg #[.int .i64 (p).ver, .int .i64 (p).par, .slice T2 Tn2 Tc2, .slice T3 Tn3 Tc3, .slice T4 Tn4 Tc4, .slice T5 Tn5 Tc5]) (p)) := Lib.hid ⟨_, _, _, _, rfl, by rw [hT2, hT3, hT4, hT5]; exact hpo.in_⟩
 rw [← hT2, ← hT3, ← hT4, ← hT5]
 clear hpo hT2 hT3 hT4 hT5
 have tBZ := BZ.out.trans (bN.mono BZ.out.size)
 have tXP := (bN.block _ (heap_lt XP.out)).trans XP.out
 have tV0 := ((V0.out.below bN).more bN.size)
 have tXB := ((XB.out.below bN).more bN.size)
 clear BZ XP V0 XB
 have BZ := Lib.hid tBZ
 have XP := Lib.hid tXP
 have V0 := Lib.hid tV0
 have XB := Lib.hid tXB
 clear tBZ tXP tV0 tXB bN
 have XX0 := heap_alloc_self wta (.cells #[.int .i64 0, .int .i64 0, .slice none 0 0, .slice none 0 0, .slice none 0 0, .slice none 0 0] 27)
 have hb6 := below_setRow (below_new wta (.cells #[.int .i64 0, .int .i64 0, .slice none 0 0, .slice none 0 0, .slice none 0 0, .slice none 0 0] 27)) (Nat.le_refl _) #[.int .i64 (p).ver, .int .i64 (p).par, .slice T2 Tn2 Tc2, .slice T3 Tn3 Tc3, .slice T4 Tn4 Tc4, .slice T5 Tn5 Tc5]
 have hx6 := setRow_heap (wta.alloc (.cells #[.int .i64 0, .int .i64 0, .slice none 0 0, .slice none 0 0, .slice none 0 0, .slice none 0 0] 27)) wta.heap.size _ #[.int .i64 (p).ver, .int .i64 (p).par, .slice T2 Tn2 Tc2, .slice T3 Tn3 Tc3, .slice T4 Tn4 Tc4, .slice T5 Tn5 Tc5] 27 _ XX0
 go_upto_region 5 with ((with_reducible show wpList _ _ _ (⟨none, _, _, _, _, _⟩ :: _) _ _); refine wpList_store_rowS rfl _ (.tmp 6) (.tmp 25) rfl wta.heap.size rfl (c' := #[.int .i64 (p).ver, .int .i64 (p).par, .slice T2 Tn2 Tc2, .slice T3 Tn3 Tc3, .slice T4 Tn4 Tc4, .slice T5 Tn5 Tc5]) rfl XX0 infoPlanA rfl (by simp [Value.oneCell']) ?_)
 generalize (wta.alloc (.cells #[.int .i64 0, .int .i64 0, .slice none 0 0, .slice none 0 0, .slice none 0 0, .slice none 0 0] 27)).setRow wta.heap.size #[.int .i64 (p).ver, .int .i64 (p).par, .slice T2 Tn2 Tc2, .slice T3 Tn3 Tc3, .slice T4 Tn4 Tc4, .slice T5 Tn5 Tc5] = wt at hb6 hx6 ⊢
 obtain ⟨p6, hp_⟩ : ∃ n, n = wta.heap.size := ⟨_, rfl⟩
 rw [← hp_] at hx6 ⊢
 have Xp6 := Lib.hid hx6
 have tV := Lib.hid ((Vp6.out.below hb6).more hb6.size)
 clear Vp6 XX0 hx6 hp_
 have Vp6 := tV
 clear tV
 have tBZ := BZ.out.trans (hb6.mono BZ.out.size)
 have tXP := (hb6.block _ (heap_lt XP.out)).trans XP.out
 have tV0 := ((V0.out.below hb6).more hb6.size)
 have tXB := ((XB.out.below hb6).more hb6.size)
 clear BZ XP V0 XB
 have BZ := Lib.hid tBZ
 have XP := Lib.hid tXP
 have V0 := Lib.hid tV0
 have XB := Lib.hid tXB
 clear tBZ tXP tV0 tXB hb6
 obtain ⟨k0, k1, k2, k3, k4, k5⟩ := cell6_of XP.out
 go_wp2_with fail
 refine (hp.text _ p wt V0.out).mono ?_
 rintro e w3 ⟨u3, rfl, hu3, bN⟩
 have XU : Hid (Txt w3 w3.heap.size u3 (textV p)) := Lib.hid (hu3.txt (by have := textV_len p; unfold maxLen; omega))
 clear hu3
 clear k0 k1 k2 k3 k4 k5
 have tBZ := BZ.out.trans (bN.mono BZ.out.size)
 have tXP := (bN.block _ (heap_lt XP.out)).trans XP.out
 have tV0 := ((V0.out.below bN).more bN.size)
 have tXB := ((XB.out.below bN).more bN.size)
 have tXp6 := (bN.block _ (heap_lt Xp6.out)).trans Xp6.out
 have tVp6 := ((Vp6.out.below bN).more bN.size)
 clear BZ XP V0 XB Xp6 Vp6
 have BZ := Lib.hid tBZ
 have XP := Lib.hid tXP
 have V0 := Lib.hid tV0
 have XB := Lib.hid tXB
 have Xp6 := Lib.hid tXp6
 have Vp6 := Lib.hid tVp6
 clear tBZ tXP tV0 tXB tXp6 tVp6 bN
 obtain ⟨k0, k1, k2, k3, k4, k5⟩ := cell6_of XP.out
 go_wp2_with fail
 refine (rtext_any _ p w3 V0.out).mono ?_
 rintro e w4 ⟨u4, rfl, hu4, bN⟩
 have XW : Hid (Txt w4 w4.heap.size u4 (textV p)) := Lib.hid (hu4.txt (by have := textV_len p; unfold maxLen; omega))
 clear hu4
 clear k0 k1 k2 k3 k4 k5
 have tBZ := BZ.out.trans (bN.mono BZ.out.size)
 have tXP := (bN.block _ (heap_lt XP.out)).trans XP.out
 have tV0 := ((V0.out.below bN).more bN.size)
 have tXB := ((XB.out.below bN).more bN.size)
 have tXp6 := (bN.block _ (heap_lt Xp6.out)).trans Xp6.out
 have tVp6 := ((Vp6.out.below bN).more bN.size)
 have tXU := ((XU.out.below bN).more bN.size)
 clear BZ XP V0 XB Xp6 Vp6 XU
 have BZ := Lib.hid tBZ
 have XP := Lib.hid tXP
 have V0 := Lib.hid tV0
 have XB := Lib.hid tXB
 have Xp6 := Lib.hid tXp6
 have Vp6 := Lib.hid tVp6
 have XU := Lib.hid tXU
 clear tBZ tXP tV0 tXB tXp6 tVp6 tXU bN
 go_wp2_with fail
 refine (hp.parse _ b w4 XB.out (by have := HBL.out; omega)).mono ?_
 rintro e w5a ⟨y2, y3, y4, y5, rfl, hpo, bN⟩
 obtain ⟨Q2, Qc2, rfl⟩ := hpo.secs.slice
 obtain ⟨Q3, Qc3, rfl⟩ := hpo.pts.slice
 obtain ⟨Q4, Qc4, rfl⟩ := hpo.sigs.slice
 obtain ⟨Q5, Qc5, rfl⟩ := hpo.routes.slice
 obtain ⟨Qn2, hQ2⟩ : ∃ n, n = (parseP b).secs.length := ⟨_, rfl⟩
 obtain ⟨Qn3, hQ3⟩ : ∃ n, n = (parseP b).pts.length := ⟨_, rfl⟩
 obtain ⟨Qn4, hQ4⟩ : ∃ n, n = (parseP b).sigs.length := ⟨_, rfl⟩
 obtain ⟨Qn5, hQ5⟩ : ∃ n, n = (parseP b).routes.length := ⟨_, rfl⟩
 have Vp11 : Hid (PlanV w5a w5a.heap.size (.agg #[.int .i64 (parseP b).ver, .int .i64 (parseP b).par, .slice Q2 Qn2 Qc2, .slice Q3 Qn3 Qc3, .slice Q4 Qn4 Qc4, .slice Q5 Qn5 Qc5]) (parseP b)) := Lib.hid ⟨_, _, _, _, rfl, by rw [hQ2, hQ3, hQ4, hQ5]; exact hpo.in_⟩
 rw [← hQ2, ← hQ3, ← hQ4, ← hQ5]
 clear hpo hQ2 hQ3 hQ4 hQ5
 have tBZ := BZ.out.trans (bN.mono BZ.out.size)
 have tXP := (bN.block _ (heap_lt XP.out)).trans XP.out
 have tV0 := ((V0.out.below bN).more bN.size)
 have tXB := ((XB.out.below bN).more bN.size)
 have tXp6 := (bN.block _ (heap_lt Xp6.out)).trans Xp6.out
 have tVp6 := ((Vp6.out.below bN).more bN.size)
 have tXU := ((XU.out.below bN).more bN.size)
 have tXW := ((XW.out.below bN).more bN.size)
 clear BZ XP V0 XB Xp6 Vp6 XU XW
 have BZ := Lib.hid tBZ
 have XP := Lib.hid tXP
 have V0 := Lib.hid tV0
 have XB := Lib.hid tXB
 have Xp6 := Lib.hid tXp6
 have Vp6 := Lib.hid tVp6
 have XU := Lib.hid tXU
 have XW := Lib.hid tXW
 clear tBZ tXP tV0 tXB tXp6 tVp6 tXU tXW bN
 have XX0 := heap_alloc_self w5a (.cells #[.int .i64 0, .int .i64 0, .slice none 0 0, .slice none 0 0, .slice none 0 0, .slice none 0 0] 27)
 have hb6 := below_setRow (below_new w5a (.cells #[.int .i64 0, .int .i64 0, .slice none 0 0, .slice none 0 0, .slice none 0 0, .slice none 0 0] 27)) (Nat.le_refl _) #[.int .i64 (parseP b).ver, .int .i64 (parseP b).par, .slice Q2 Qn2 Qc2, .slice Q3 Qn3 Qc3, .slice Q4 Qn4 Qc4, .slice Q5 Qn5 Qc5]
 have hx6 := setRow_heap (w5a.alloc (.cells #[.int .i64 0, .int .i64 0, .slice none 0 0, .slice none 0 0, .slice none 0 0, .slice none 0 0] 27)) w5a.heap.size _ #[.int .i64 (parseP b).ver, .int .i64 (parseP b).par, .slice Q2 Qn2 Qc2, .slice Q3 Qn3 Qc3, .slice Q4 Qn4 Qc4, .slice Q5 Qn5 Qc5] 27 _ XX0
 go_upto_region 8 with ((with_reducible show wpList _ _ _ (⟨none, _, _, _, _, _⟩ :: _) _ _); refine wpList_store_rowS rfl _ (.tmp 11) (.tmp 39) rfl w5a.heap.size rfl (c' := #[.int .i64 (parseP b).ver, .int .i64 (parseP b).par, .slice Q2 Qn2 Qc2, .slice Q3 Qn3 Qc3, .slice Q4 Qn4 Qc4, .slice Q5 Qn5 Qc5]) rfl XX0 infoPlanA rfl (by simp [Value.oneCell']) ?_)
 generalize (w5a.alloc (.cells #[.int .i64 0, .int .i64 0, .slice none 0 0, .slice none 0 0, .slice none 0 0, .slice none 0 0] 27)).setRow w5a.heap.size #[.int .i64 (parseP b).ver, .int .i64 (parseP b).par, .slice Q2 Qn2 Qc2, .slice Q3 Qn3 Qc3, .slice Q4 Qn4 Qc4, .slice Q5 Qn5 Qc5] = w5 at hb6 hx6 ⊢
 obtain ⟨p11, hp_⟩ : ∃ n, n = w5a.heap.size := ⟨_, rfl⟩
 rw [← hp_] at hx6 ⊢
 have Xp11 := Lib.hid hx6
 have tV := Lib.hid ((Vp11.out.below hb6).more hb6.size)
 clear Vp11 XX0 hx6 hp_
 have Vp11 := tV
 clear tV
 have tBZ := BZ.out.trans (hb6.mono BZ.out.size)
 have tXP := (hb6.block _ (heap_lt XP.out)).trans XP.out
 have tV0 := ((V0.out.below hb6).more hb6.size)
 have tXB := ((XB.out.below hb6).more hb6.size)
 have tXp6 := (hb6.block _ (heap_lt Xp6.out)).trans Xp6.out
 have tVp6 := ((Vp6.out.below hb6).more hb6.size)
 have tXU := ((XU.out.below hb6).more hb6.size)
 have tXW := ((XW.out.below hb6).more hb6.size)
 clear BZ XP V0 XB Xp6 Vp6 XU XW
 have BZ := Lib.hid tBZ
 have XP := Lib.hid tXP
 have V0 := Lib.hid tV0
 have XB := Lib.hid tXB
 have Xp6 := Lib.hid tXp6
 have Vp6 := Lib.hid tVp6
 have XU := Lib.hid tXU
 have XW := Lib.hid tXW
 clear tBZ tXP tV0 tXB tXp6 tVp6 tXU tXW hb6
 go_wp2_with fail
 refine (rparse_any _ b w5 XB.out (by have := HBL.out; omega)).mono ?_
 rintro e w6a ⟨y2, y3, y4, y5, rfl, hpo, bN⟩
 obtain ⟨R2, Rc2, rfl⟩ := hpo.secs.slice
 obtain ⟨R3, Rc3, rfl⟩ := hpo.pts.slice
 obtain ⟨R4, Rc4, rfl⟩ := hpo.sigs.slice
 obtain ⟨R5, Rc5, rfl⟩ := hpo.routes.slice
 obtain ⟨Rn2, hR2⟩ : ∃ n, n = (parseP b).secs.length := ⟨_, rfl⟩
 obtain ⟨Rn3, hR3⟩ : ∃ n, n = (parseP b).pts.length := ⟨_, rfl⟩
 obtain ⟨Rn4, hR4⟩ : ∃ n, n = (parseP b).sigs.length := ⟨_, rfl⟩
 obtain ⟨Rn5, hR5⟩ : ∃ n, n = (parseP b).routes.length := ⟨_, rfl⟩
 have Vp13 : Hid (PlanV w6a w6a.heap.size (.agg #[.int .i64 (parseP b).ver, .int .i64 (parseP b).par, .slice R2 Rn2 Rc2, .slice R3 Rn3 Rc3, .slice R4 Rn4 Rc4, .slice R5 Rn5 Rc5]) (parseP b)) := Lib.hid ⟨_, _, _, _, rfl, by rw [hR2, hR3, hR4, hR5]; exact hpo.in_⟩
 rw [← hR2, ← hR3, ← hR4, ← hR5]
 clear hpo hR2 hR3 hR4 hR5
 have tBZ := BZ.out.trans (bN.mono BZ.out.size)
 have tXP := (bN.block _ (heap_lt XP.out)).trans XP.out
 have tV0 := ((V0.out.below bN).more bN.size)
 have tXB := ((XB.out.below bN).more bN.size)
 have tXp6 := (bN.block _ (heap_lt Xp6.out)).trans Xp6.out
 have tVp6 := ((Vp6.out.below bN).more bN.size)
 have tXU := ((XU.out.below bN).more bN.size)
 have tXW := ((XW.out.below bN).more bN.size)
 have tXp11 := (bN.block _ (heap_lt Xp11.out)).trans Xp11.out
 have tVp11 := ((Vp11.out.below bN).more bN.size)
 clear BZ XP V0 XB Xp6 Vp6 XU XW Xp11 Vp11
 have BZ := Lib.hid tBZ
 have XP := Lib.hid tXP
 have V0 := Lib.hid tV0
 have XB := Lib.hid tXB
 have Xp6 := Lib.hid tXp6
 have Vp6 := Lib.hid tVp6
 have XU := Lib.hid tXU
 have XW := Lib.hid tXW
 have Xp11 := Lib.hid tXp11
 have Vp11 := Lib.hid tVp11
 clear tBZ tXP tV0 tXB tXp6 tVp6 tXU tXW tXp11 tVp11 bN
 have XX0 := heap_alloc_self w6a (.cells #[.int .i64 0, .int .i64 0, .slice none 0 0, .slice none 0 0, .slice none 0 0, .slice none 0 0] 27)
 have hb6 := below_setRow (below_new w6a (.cells #[.int .i64 0, .int .i64 0, .slice none 0 0, .slice none 0 0, .slice none 0 0, .slice none 0 0] 27)) (Nat.le_refl _) #[.int .i64 (parseP b).ver, .int .i64 (parseP b).par, .slice R2 Rn2 Rc2, .slice R3 Rn3 Rc3, .slice R4 Rn4 Rc4, .slice R5 Rn5 Rc5]
 have hx6 := setRow_heap (w6a.alloc (.cells #[.int .i64 0, .int .i64 0, .slice none 0 0, .slice none 0 0, .slice none 0 0, .slice none 0 0] 27)) w6a.heap.size _ #[.int .i64 (parseP b).ver, .int .i64 (parseP b).par, .slice R2 Rn2 Rc2, .slice R3 Rn3 Rc3, .slice R4 Rn4 Rc4, .slice R5 Rn5 Rc5] 27 _ XX0
 go_upto_region 9 with ((with_reducible show wpList _ _ _ (⟨none, _, _, _, _, _⟩ :: _) _ _); refine wpList_store_rowS rfl _ (.tmp 13) (.tmp 44) rfl w6a.heap.size rfl (c' := #[.int .i64 (parseP b).ver, .int .i64 (parseP b).par, .slice R2 Rn2 Rc2, .slice R3 Rn3 Rc3, .slice R4 Rn4 Rc4, .slice R5 Rn5 Rc5]) rfl XX0 infoPlanA rfl (by simp [Value.oneCell']) ?_)
 generalize (w6a.alloc (.cells #[.int .i64 0, .int .i64 0, .slice none 0 0, .slice none 0 0, .slice none 0 0, .slice none 0 0] 27)).setRow w6a.heap.size #[.int .i64 (parseP b).ver, .int .i64 (parseP b).par, .slice R2 Rn2 Rc2, .slice R3 Rn3 Rc3, .slice R4 Rn4 Rc4, .slice R5 Rn5 Rc5] = w6 at hb6 hx6 ⊢
 obtain ⟨p13, hp_⟩ : ∃ n, n = w6a.heap.size := ⟨_, rfl⟩
 rw [← hp_] at hx6 ⊢
 have Xp13 := Lib.hid hx6
 have tV := Lib.hid ((Vp13.out.below hb6).more hb6.size)
 clear Vp13 XX0 hx6 hp_
 have Vp13 := tV
 clear tV
 have tBZ := BZ.out.trans (hb6.mono BZ.out.size)
 have tXP := (hb6.block _ (heap_lt XP.out)).trans XP.out
 have tV0 := ((V0.out.below hb6).more hb6.size)
 have tXB := ((XB.out.below hb6).more hb6.size)
 have tXp6 := (hb6.block _ (heap_lt Xp6.out)).trans Xp6.out
 have tVp6 := ((Vp6.out.below hb6).more hb6.size)
 have tXU := ((XU.out.below hb6).more hb6.size)
 have tXW := ((XW.out.below hb6).more hb6.size)
 have tXp11 := (hb6.block _ (heap_lt Xp11.out)).trans Xp11.out
 have tVp11 := ((Vp11.out.below hb6).more hb6.size)
 clear BZ XP V0 XB Xp6 Vp6 XU XW Xp11 Vp11
 have BZ := Lib.hid tBZ
 have XP := Lib.hid tXP
 have V0 := Lib.hid tV0
 have XB := Lib.hid tXB
 have Xp6 := Lib.hid tXp6
 have Vp6 := Lib.hid tVp6
 have XU := Lib.hid tXU
 have XW := Lib.hid tXW
 have Xp11 := Lib.hid tXp11
 have Vp11 := Lib.hid tVp11
 clear tBZ tXP tV0 tXB tXp6 tVp6 tXU tXW tXp11 tVp11 hb6
 have rc1 := run_txt_string XU.out
 have rc2 := run_txt_string XW.out
 obtain ⟨m0, m1, m2, m3, m4, m5⟩ := cell6_of Xp11.out
 obtain ⟨l0, l1, l2, l3, l4, l5⟩ := cell6_of Xp13.out
 go_wp2_with fail
 refine (rsame8_any _ _ (parseP b) (parseP b) w6 Vp11.out Vp13.out).mono ?_
 rintro e w7 ⟨rfl, bN⟩
 rw [eqB_true rfl]
 clear rc1 rc2
 clear m0 m1 m2 m3 m4 m5
 clear l0 l1 l2 l3 l4 l5
 have tBZ := BZ.out.trans (bN.mono BZ.out.size)
 have tXP := (bN.block _ (heap_lt XP.out)).trans XP.out
 have tV0 := ((V0.out.below bN).more bN.size)
 have tXB := ((XB.out.below bN).more bN.size)
 have tXp6 := (bN.block _ (heap_lt Xp6.out)).trans Xp6.out
 have tVp6 := ((Vp6.out.below bN).more bN.size)
 have tXU := ((XU.out.below bN).more bN.size)
 have tXW := ((XW.out.below bN).more bN.size)
 have tXp11 := (bN.block _ (heap_lt Xp11.out)).trans Xp11.out
 have tVp11 := ((Vp11.out.below bN).more bN.size)
 have tXp13 := (bN.block _ (heap_lt Xp13.out)).trans Xp13.out
 have tVp13 := ((Vp13.out.below bN).more bN.size)
 clear BZ XP V0 XB Xp6 Vp6 XU XW Xp11 Vp11 Xp13 Vp13
 have BZ := Lib.hid tBZ
 have XP := Lib.hid tXP
 have V0 := Lib.hid tV0
 have XB := Lib.hid tXB
 have Xp6 := Lib.hid tXp6
 have Vp6 := Lib.hid tVp6
 have XU := Lib.hid tXU
 have XW := Lib.hid tXW
 have Xp11 := Lib.hid tXp11
 have Vp11 := Lib.hid tVp11
 have Xp13 := Lib.hid tXp13
 have Vp13 := Lib.hid tVp13
 clear tBZ tXP tV0 tXB tXp6 tVp6 tXU tXW tXp11 tVp11 tXp13 tVp13 bN
 have rc3 := run_txt_string XB.out
 obtain ⟨k0, k1, k2, k3, k4, k5⟩ := cell6_of XP.out
 obtain ⟨m0, m1, m2, m3, m4, m5⟩ := cell6_of Xp6.out
 go_wp2_with fail
 refine (rsame8_any _ _ p p w7 V0.out Vp6.out).mono ?_
 rintro e w8 ⟨rfl, bN⟩
 rw [eqB_true rfl]
 have BL := Lib.hid (BZ.out.trans (bN.mono BZ.out.size))
 clear bN
 go_wp2_with fail
 go_ret
 exact ⟨rfl, BL.out⟩
end Go.Proofs.YteloiajocjahmaaGreat
