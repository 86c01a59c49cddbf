/-
 PackTags' walk: packages, beside the document's own.
 Conditions: none.
-/
import Derived.Test.YteloiajocjahmaaGreatDoorSPckRefG
import Derived.Test.YteloiajocjahmaaGreatDoorSGPlnRefD
import Derived.Test.YteloiajocjahmaaGreatDoorSGHmac
set_option linter.unusedVariables false
set_option linter.unusedSimpArgs false
set_option maxRecDepth 100000
namespace Go.Proofs.YteloiajocjahmaaGreatDoor
open Go.RowKit

theorem writeV_len (key : List UInt8) (p : Pl) : (writeV key p).length ≤ 700 := by
 rcases write_cases key p with ⟨-, h, -, e⟩ | ⟨-, e⟩
 ·rw [e]; have := (packL_len key h).2; omega
 ·rw [e]; simp
set_option maxHeartbeats 16000000 in
theorem walk_pack_tags (hk : PckKey) (vk v vb : Value) (key : List UInt8) (p : Pl) (b : List UInt8) (w : World) (hT : Tab w) (hxk : Txt w w.heap.size vk key) (h : PlanV w w.heap.size v p) (hxb : Txt w w.heap.size vb b) :
  Calls Tryz.prog 3 #[vk, v, vb] w fun e w' => e = .returned (.bool true) ∧ Below w.heap.size w w' := by
 have HT := Lib.hid hT
 have T0 : Hid (0 < w.heap.size) := Lib.hid (tab_pos hT)
 have XB0 := Lib.hid hxb
 have XK0 := Lib.hid hxk
 obtain ⟨AB, cB, rfl, -, -, -, -⟩ := hxb
 obtain ⟨AK, cK, rfl, -, -, -, -⟩ := hxk
 obtain ⟨nb, hnb⟩ : ∃ n, n = b.length := ⟨_, rfl⟩
 obtain ⟨nk, hnk⟩ : ∃ n, n = key.length := ⟨_, rfl⟩
 have HNB := Lib.hid hnb
 have HNK := Lib.hid hnk
 have XB1 : Hid (Txt w w.heap.size (.slice AB nb cB) b) := Lib.hid (by rw [hnb]; exact XB0.out)
 have XK1 : Hid (Txt w w.heap.size (.slice AK nk cK) key) := Lib.hid (by rw [hnk]; exact XK0.out)
 rw [← hnb, ← hnk]
 clear hT hnb hnk XB0 XK0
 obtain ⟨A2, c2, A3, c3, A4, c4, A5, c5, n2, n3, n4, n5, rfl, hm2, hm3, hm4, hm5, HCP, HIN, HN⟩ := open_plan h
 have hq0 := heap_alloc_self w (.cells #[.int .i64 p.ver, .int .i64 p.par, .slice A2 n2 c2, .slice A3 n3 c3, .slice A4 n4 c4, .slice A5 n5 c5] 28)
 have hqb := below_new w (.cells #[.int .i64 p.ver, .int .i64 p.par, .slice A2 n2 c2, .slice A3 n3 c3, .slice A4 n4 c4, .slice A5 n5 c5] 28)
 go_enter Tryz.func3, Tryz.ntmps3
 go_upto_region 1 with fail
 generalize w.alloc (.cells #[.int .i64 p.ver, .int .i64 p.par, .slice A2 n2 c2, .slice A3 n3 c3, .slice A4 n4 c4, .slice A5 n5 c5] 28) = q at hq0 hqb ⊢
 have XP := Lib.hid hq0
 have BQ := Lib.hid hqb
 clear hq0 hqb
 have BZ := BQ
 have V0 : Hid (PlanV q q.heap.size (.agg #[.int .i64 p.ver, .int .i64 p.par, .slice A2 n2 c2, .slice A3 n3 c3, .slice A4 n4 c4, .slice A5 n5 c5]) p) := Lib.hid ⟨_, _, _, _, rfl, (HIN.out.below BQ.out).more BQ.out.size⟩
 have XB := Lib.hid ((XB1.out.below BQ.out).more BQ.out.size)
 have XK := Lib.hid ((XK1.out.below BQ.out).more BQ.out.size)
 clear HIN XB1 XK1 BQ
 obtain ⟨k0, k1, k2, k3, k4, k5⟩ := cell6_of XP.out
 go_wp2_with fail
 refine (rgreat8_any _ p q V0.out).mono ?_
 rintro e w2 ⟨⟨g, rfl, hg⟩, bN⟩
 clear k0 k1 k2 k3 k4 k5
 have tBZ := BZ.out.trans (bN.mono BZ.out.size)
 have tXP := (bN.block _ (heap_lt XP.out)).trans XP.out
 have tV0 := ((V0.out.below bN).more bN.size)
 have tXB := ((XB.out.below bN).more bN.size)
 have tXK := ((XK.out.below bN).more bN.size)
 clear BZ XP V0 XB XK
 have BZ := Lib.hid tBZ
 have XP := Lib.hid tXP
 have V0 := Lib.hid tV0
 have XB := Lib.hid tXB
 have XK := Lib.hid tXK
 clear tBZ tXP tV0 tXB tXK bN
 cases g with
 | true =>
  go_wp2_with fail
  go_ret
  exact ⟨rfl, BZ.out⟩
 | false =>
 clear hg
 by_cases h4 : 5000 < nk
 ·have d0 : (5000 : Int) < nk := by omega
  have d1 : decide ((5000 : Int) < nk) = true := decide_eq_true d0
  go_wp2_with fail
  go_ret
  exact ⟨rfl, BZ.out⟩
 have d0 : ¬ (5000 : Int) < nk := by omega
 have d1 : decide ((5000 : Int) < nk) = false := decide_eq_false d0
 by_cases h5 : 5000 < nb
 ·have d2 : (5000 : Int) < nb := by omega
  have d3 : decide ((5000 : Int) < nb) = true := decide_eq_true d2
  go_wp2_with fail
  go_ret
  exact ⟨rfl, BZ.out⟩
 have d2 : ¬ (5000 : Int) < nb := by omega
 have d3 : decide ((5000 : Int) < nb) = false := decide_eq_false d2
 have HBL : Hid (b.length ≤ 5000) := Lib.hid (by rw [← HNB.out]; omega)
 clear h4 h5
 have rc0 := run_txt_string XB.out
 obtain ⟨k0, k1, k2, k3, k4, k5⟩ := cell6_of XP.out
 go_wp2_with fail
 refine (hk.write _ _ key p w2 (HT.out.below BZ.out T0.out) XK.out V0.out).mono ?_
 rintro e w3 ⟨u3, rfl, hu3, bN⟩
 have XU : Hid (Txt w3 w3.heap.size u3 (writeV key p)) := Lib.hid (hu3.txt (by have := writeV_len key p; unfold maxLen; omega))
 clear hu3 rc0
 clear k0 k1 k2 k3 k4 k5
 have tBZ := BZ.out.trans (bN.mono BZ.out.size)
 have tXP := (bN.block _ (heap_lt XP.out)).trans XP.out
 have tV0 := ((V0.out.below bN).more bN.size)
 have tXB := ((XB.out.below bN).more bN.size)
 have tXK := ((XK.out.below bN).more bN.size)
 clear BZ XP V0 XB XK
 have BZ := Lib.hid tBZ
 have XP := Lib.hid tXP
 have V0 := Lib.hid tV0
 have XB := Lib.hid tXB
 have XK := Lib.hid tXK
 clear tBZ tXP tV0 tXB tXK bN
 obtain ⟨k0, k1, k2, k3, k4, k5⟩ := cell6_of XP.out
 go_wp2_with fail
 refine (rwrite12_any _ _ key p w3 XK.out V0.out).mono ?_
 rintro e w4 ⟨u4, rfl, hu4, bN⟩
 have XW : Hid (Txt w4 w4.heap.size u4 (writeV key p)) := Lib.hid (hu4.txt (by have := writeV_len key p; unfold maxLen; omega))
 clear hu4
 clear k0 k1 k2 k3 k4 k5
 have tBZ := BZ.out.trans (bN.mono BZ.out.size)
 have tXP := (bN.block _ (heap_lt XP.out)).trans XP.out
 have tV0 := ((V0.out.below bN).more bN.size)
 have tXB := ((XB.out.below bN).more bN.size)
 have tXK := ((XK.out.below bN).more bN.size)
 have tXU := ((XU.out.below bN).more bN.size)
 clear BZ XP V0 XB XK XU
 have BZ := Lib.hid tBZ
 have XP := Lib.hid tXP
 have V0 := Lib.hid tV0
 have XB := Lib.hid tXB
 have XK := Lib.hid tXK
 have XU := Lib.hid tXU
 clear tBZ tXP tV0 tXB tXK tXU bN
 go_wp2_with fail
 refine (hk.read _ _ key b w4 (HT.out.below BZ.out T0.out) XK.out XB.out (by have := HBL.out; omega)).mono ?_
 rintro e w5a ⟨y2, y3, y4, y5, rfl, hpo, bN⟩
 obtain ⟨Q2, Qc2, rfl⟩ := hpo.secs.slice
 obtain ⟨Q3, Qc3, rfl⟩ := hpo.pts.slice
 obtain ⟨Q4, Qc4, rfl⟩ := hpo.sigs.slice
 obtain ⟨Q5, Qc5, rfl⟩ := hpo.routes.slice
 obtain ⟨Qn2, hQ2⟩ : ∃ n, n = (readP key b).secs.length := ⟨_, rfl⟩
 obtain ⟨Qn3, hQ3⟩ : ∃ n, n = (readP key b).pts.length := ⟨_, rfl⟩
 obtain ⟨Qn4, hQ4⟩ : ∃ n, n = (readP key b).sigs.length := ⟨_, rfl⟩
 obtain ⟨Qn5, hQ5⟩ : ∃ n, n = (readP key b).routes.length := ⟨_, rfl⟩
 have Vp12 : Hid (PlanV w5a w5a.heap.size (.agg #[.int .i64 (readP key b).ver, .int .i64 (readP key b).par, .slice Q2 Qn2 Qc2, .slice Q3 Qn3 Qc3, .slice Q4 Qn4 Qc4, .slice Q5 Qn5 Qc5]) (readP key b)) := Lib.hid ⟨_, _, _, _, rfl, by rw [hQ2, hQ3, hQ4, hQ5]; exact hpo.in_⟩
 rw [← hQ2, ← hQ3, ← hQ4, ← hQ5]
 clear hpo hQ2 hQ3 hQ4 hQ5
 have tBZ := BZ.out.trans (bN.mono BZ.out.size)
 have tXP := (bN.block _ (heap_lt XP.out)).trans XP.out
 have tV0 := ((V0.out.below bN).more bN.size)
 have tXB := ((XB.out.below bN).more bN.size)
 have tXK := ((XK.out.below bN).more bN.size)
 have tXU := ((XU.out.below bN).more bN.size)
 have tXW := ((XW.out.below bN).more bN.size)
 clear BZ XP V0 XB XK XU XW
 have BZ := Lib.hid tBZ
 have XP := Lib.hid tXP
 have V0 := Lib.hid tV0
 have XB := Lib.hid tXB
 have XK := Lib.hid tXK
 have XU := Lib.hid tXU
 have XW := Lib.hid tXW
 clear tBZ tXP tV0 tXB tXK tXU tXW bN
 have XX0 := heap_alloc_self w5a (.cells #[.int .i64 0, .int .i64 0, .slice none 0 0, .slice none 0 0, .slice none 0 0, .slice none 0 0] 28)
 have hb6 := below_setRow (below_new w5a (.cells #[.int .i64 0, .int .i64 0, .slice none 0 0, .slice none 0 0, .slice none 0 0, .slice none 0 0] 28)) (Nat.le_refl _) #[.int .i64 (readP key b).ver, .int .i64 (readP key b).par, .slice Q2 Qn2 Qc2, .slice Q3 Qn3 Qc3, .slice Q4 Qn4 Qc4, .slice Q5 Qn5 Qc5]
 have hx6 := setRow_heap (w5a.alloc (.cells #[.int .i64 0, .int .i64 0, .slice none 0 0, .slice none 0 0, .slice none 0 0, .slice none 0 0] 28)) w5a.heap.size _ #[.int .i64 (readP key b).ver, .int .i64 (readP key b).par, .slice Q2 Qn2 Qc2, .slice Q3 Qn3 Qc3, .slice Q4 Qn4 Qc4, .slice Q5 Qn5 Qc5] 28 _ XX0
 go_upto_region 7 with ((with_reducible show wpList _ _ _ (⟨none, _, _, _, _, _⟩ :: _) _ _); refine wpList_store_rowS rfl _ (.tmp 12) (.tmp 46) rfl w5a.heap.size rfl (c' := #[.int .i64 (readP key b).ver, .int .i64 (readP key b).par, .slice Q2 Qn2 Qc2, .slice Q3 Qn3 Qc3, .slice Q4 Qn4 Qc4, .slice Q5 Qn5 Qc5]) rfl XX0 infoPlanA rfl (by simp [Value.oneCell']) ?_)
 generalize (w5a.alloc (.cells #[.int .i64 0, .int .i64 0, .slice none 0 0, .slice none 0 0, .slice none 0 0, .slice none 0 0] 28)).setRow w5a.heap.size #[.int .i64 (readP key b).ver, .int .i64 (readP key b).par, .slice Q2 Qn2 Qc2, .slice Q3 Qn3 Qc3, .slice Q4 Qn4 Qc4, .slice Q5 Qn5 Qc5] = w5 at hb6 hx6 ⊢
 obtain ⟨p12, hp_⟩ : ∃ n, n = w5a.heap.size := ⟨_, rfl⟩
 rw [← hp_] at hx6 ⊢
 have Xp12 := Lib.hid hx6
 have tV := Lib.hid ((Vp12.out.below hb6).more hb6.size)
 clear Vp12 XX0 hx6 hp_
 have Vp12 := tV
 clear tV
 have tBZ := BZ.out.trans (hb6.mono BZ.out.size)
 have tXP := (hb6.block _ (heap_lt XP.out)).trans XP.out
 have tV0 := ((V0.out.below hb6).more hb6.size)
 have tXB := ((XB.out.below hb6).more hb6.size)
 have tXK := ((XK.out.below hb6).more hb6.size)
 have tXU := ((XU.out.below hb6).more hb6.size)
 have tXW := ((XW.out.below hb6).more hb6.size)
 clear BZ XP V0 XB XK XU XW
 have BZ := Lib.hid tBZ
 have XP := Lib.hid tXP
 have V0 := Lib.hid tV0
 have XB := Lib.hid tXB
 have XK := Lib.hid tXK
 have XU := Lib.hid tXU
 have XW := Lib.hid tXW
 clear tBZ tXP tV0 tXB tXK tXU tXW hb6
 go_wp2_with fail
 refine (rread12_any _ _ key b w5 XK.out XB.out (by have := HBL.out; omega)).mono ?_
 rintro e w6a ⟨y2, y3, y4, y5, rfl, hpo, bN⟩
 obtain ⟨R2, Rc2, rfl⟩ := hpo.secs.slice
 obtain ⟨R3, Rc3, rfl⟩ := hpo.pts.slice
 obtain ⟨R4, Rc4, rfl⟩ := hpo.sigs.slice
 obtain ⟨R5, Rc5, rfl⟩ := hpo.routes.slice
 obtain ⟨Rn2, hR2⟩ : ∃ n, n = (readP key b).secs.length := ⟨_, rfl⟩
 obtain ⟨Rn3, hR3⟩ : ∃ n, n = (readP key b).pts.length := ⟨_, rfl⟩
 obtain ⟨Rn4, hR4⟩ : ∃ n, n = (readP key b).sigs.length := ⟨_, rfl⟩
 obtain ⟨Rn5, hR5⟩ : ∃ n, n = (readP key b).routes.length := ⟨_, rfl⟩
 have Vp14 : Hid (PlanV w6a w6a.heap.size (.agg #[.int .i64 (readP key b).ver, .int .i64 (readP key b).par, .slice R2 Rn2 Rc2, .slice R3 Rn3 Rc3, .slice R4 Rn4 Rc4, .slice R5 Rn5 Rc5]) (readP key b)) := Lib.hid ⟨_, _, _, _, rfl, by rw [hR2, hR3, hR4, hR5]; exact hpo.in_⟩
 rw [← hR2, ← hR3, ← hR4, ← hR5]
 clear hpo hR2 hR3 hR4 hR5
 have tBZ := BZ.out.trans (bN.mono BZ.out.size)
 have tXP := (bN.block _ (heap_lt XP.out)).trans XP.out
 have tV0 := ((V0.out.below bN).more bN.size)
 have tXB := ((XB.out.below bN).more bN.size)
 have tXK := ((XK.out.below bN).more bN.size)
 have tXU := ((XU.out.below bN).more bN.size)
 have tXW := ((XW.out.below bN).more bN.size)
 have tXp12 := (bN.block _ (heap_lt Xp12.out)).trans Xp12.out
 have tVp12 := ((Vp12.out.below bN).more bN.size)
 clear BZ XP V0 XB XK XU XW Xp12 Vp12
 have BZ := Lib.hid tBZ
 have XP := Lib.hid tXP
 have V0 := Lib.hid tV0
 have XB := Lib.hid tXB
 have XK := Lib.hid tXK
 have XU := Lib.hid tXU
 have XW := Lib.hid tXW
 have Xp12 := Lib.hid tXp12
 have Vp12 := Lib.hid tVp12
 clear tBZ tXP tV0 tXB tXK tXU tXW tXp12 tVp12 bN
 have XX0 := heap_alloc_self w6a (.cells #[.int .i64 0, .int .i64 0, .slice none 0 0, .slice none 0 0, .slice none 0 0, .slice none 0 0] 28)
 have hb6 := below_setRow (below_new w6a (.cells #[.int .i64 0, .int .i64 0, .slice none 0 0, .slice none 0 0, .slice none 0 0, .slice none 0 0] 28)) (Nat.le_refl _) #[.int .i64 (readP key b).ver, .int .i64 (readP key b).par, .slice R2 Rn2 Rc2, .slice R3 Rn3 Rc3, .slice R4 Rn4 Rc4, .slice R5 Rn5 Rc5]
 have hx6 := setRow_heap (w6a.alloc (.cells #[.int .i64 0, .int .i64 0, .slice none 0 0, .slice none 0 0, .slice none 0 0, .slice none 0 0] 28)) w6a.heap.size _ #[.int .i64 (readP key b).ver, .int .i64 (readP key b).par, .slice R2 Rn2 Rc2, .slice R3 Rn3 Rc3, .slice R4 Rn4 Rc4, .slice R5 Rn5 Rc5] 28 _ XX0
 go_upto_region 8 with ((with_reducible show wpList _ _ _ (⟨none, _, _, _, _, _⟩ :: _) _ _); refine wpList_store_rowS rfl _ (.tmp 14) (.tmp 52) rfl w6a.heap.size rfl (c' := #[.int .i64 (readP key b).ver, .int .i64 (readP key b).par, .slice R2 Rn2 Rc2, .slice R3 Rn3 Rc3, .slice R4 Rn4 Rc4, .slice R5 Rn5 Rc5]) rfl XX0 infoPlanA rfl (by simp [Value.oneCell']) ?_)
 generalize (w6a.alloc (.cells #[.int .i64 0, .int .i64 0, .slice none 0 0, .slice none 0 0, .slice none 0 0, .slice none 0 0] 28)).setRow w6a.heap.size #[.int .i64 (readP key b).ver, .int .i64 (readP key b).par, .slice R2 Rn2 Rc2, .slice R3 Rn3 Rc3, .slice R4 Rn4 Rc4, .slice R5 Rn5 Rc5] = w6 at hb6 hx6 ⊢
 obtain ⟨p14, hp_⟩ : ∃ n, n = w6a.heap.size := ⟨_, rfl⟩
 rw [← hp_] at hx6 ⊢
 have Xp14 := Lib.hid hx6
 have tV := Lib.hid ((Vp14.out.below hb6).more hb6.size)
 clear Vp14 XX0 hx6 hp_
 have Vp14 := tV
 clear tV
 have tBZ := BZ.out.trans (hb6.mono BZ.out.size)
 have tXP := (hb6.block _ (heap_lt XP.out)).trans XP.out
 have tV0 := ((V0.out.below hb6).more hb6.size)
 have tXB := ((XB.out.below hb6).more hb6.size)
 have tXK := ((XK.out.below hb6).more hb6.size)
 have tXU := ((XU.out.below hb6).more hb6.size)
 have tXW := ((XW.out.below hb6).more hb6.size)
 have tXp12 := (hb6.block _ (heap_lt Xp12.out)).trans Xp12.out
 have tVp12 := ((Vp12.out.below hb6).more hb6.size)
 clear BZ XP V0 XB XK XU XW Xp12 Vp12
 have BZ := Lib.hid tBZ
 have XP := Lib.hid tXP
 have V0 := Lib.hid tV0
 have XB := Lib.hid tXB
 have XK := Lib.hid tXK
 have XU := Lib.hid tXU
 have XW := Lib.hid tXW
 have Xp12 := Lib.hid tXp12
 have Vp12 := Lib.hid tVp12
 clear tBZ tXP tV0 tXB tXK tXU tXW tXp12 tVp12 hb6
 have rc1 := run_txt_string XU.out
 have rc2 := run_txt_string XW.out
 obtain ⟨m0, m1, m2, m3, m4, m5⟩ := cell6_of Xp12.out
 obtain ⟨l0, l1, l2, l3, l4, l5⟩ := cell6_of Xp14.out
 go_wp2_with fail
 refine (rsame8_any _ _ (readP key b) (readP key b) w6 Vp12.out Vp14.out).mono ?_
 rintro e w7 ⟨rfl, bN⟩
 rw [eqB_true rfl]
 clear rc1 rc2
 clear m0 m1 m2 m3 m4 m5
 clear l0 l1 l2 l3 l4 l5
 have tBZ := BZ.out.trans (bN.mono BZ.out.size)
 have tXP := (bN.block _ (heap_lt XP.out)).trans XP.out
 have tV0 := ((V0.out.below bN).more bN.size)
 have tXB := ((XB.out.below bN).more bN.size)
 have tXK := ((XK.out.below bN).more bN.size)
 have tXU := ((XU.out.below bN).more bN.size)
 have tXW := ((XW.out.below bN).more bN.size)
 have tXp12 := (bN.block _ (heap_lt Xp12.out)).trans Xp12.out
 have tVp12 := ((Vp12.out.below bN).more bN.size)
 have tXp14 := (bN.block _ (heap_lt Xp14.out)).trans Xp14.out
 have tVp14 := ((Vp14.out.below bN).more bN.size)
 clear BZ XP V0 XB XK XU XW Xp12 Vp12 Xp14 Vp14
 have BZ := Lib.hid tBZ
 have XP := Lib.hid tXP
 have V0 := Lib.hid tV0
 have XB := Lib.hid tXB
 have XK := Lib.hid tXK
 have XU := Lib.hid tXU
 have XW := Lib.hid tXW
 have Xp12 := Lib.hid tXp12
 have Vp12 := Lib.hid tVp12
 have Xp14 := Lib.hid tXp14
 have Vp14 := Lib.hid tVp14
 clear tBZ tXP tV0 tXB tXK tXU tXW tXp12 tVp12 tXp14 tVp14 bN
 have rc3 := run_txt_string XB.out
 go_wp2_with fail
 go_ret
 exact ⟨rfl, BZ.out⟩
end Go.Proofs.YteloiajocjahmaaGreatDoor
