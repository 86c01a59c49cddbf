/-
 PackKeys: the walk, given the program's contracts.
 Conditions: none.
-/
import Derived.Test.YteloiajocjahmaaDoorSGPckA
import Derived.Test.YteloiajocjahmaaDoorSGPlnRefD
import Derived.Test.YteloiajocjahmaaDoorSGHmacN
import Derived.BigQuiet
set_option linter.unusedVariables false
set_option linter.unusedSimpArgs false
set_option maxRecDepth 100000
namespace Go.Proofs.YteloiajocjahmaaDoor
open Go.RowKit

theorem str_cat (x y : List UInt8) : (⟨x.toArray⟩ : ByteArray) ++ ⟨y.toArray⟩ = ⟨(x ++ y).toArray⟩ := by
 apply ByteArray.ext
 simp
theorem in_nilK {α : Type} {sz : Nat} {R : El α} {W : World} {B : Nat} : ListIn sz R W B (.slice none 0 0) ([] : List α) := ⟨none, 0, rfl, by simp, Nat.zero_le _, fun _ => rfl, fun h => absurd h (by simp)⟩
set_option maxHeartbeats 16000000 in
theorem walk_pack_keys (hp : PckSaid) (hk : PckKey) (vk v vb : Value) (key : List UInt8) (p : Pl) (b : List UInt8) (w : World) (hT : Tab w) (hxk : Txt w w.heap.size vk key) (h : PlanV w w.heap.size v p) (hxb : Txt w w.heap.size vb b) :
  Calls Tryd.prog 5 #[vk, v, vb] w fun e w' => e = .returned (.bool true) ∧ Below w.heap.size w w' := by
 have HT := Lib.hid hT
 have T0 : Hid (0 < w.heap.size) := Lib.hid (tab_pos hT)
 have XB0 := Lib.hid hxb
 have XK0 := Lib.hid hxk
 obtain ⟨AB, cB, rfl, -, -, -, -⟩ := hxb
 obtain ⟨AK, cK, rfl, -, -, -, -⟩ := hxk
 obtain ⟨nb, hnb⟩ : ∃ n, n = b.length := ⟨_, rfl⟩
 obtain ⟨nk, hnk⟩ : ∃ n, n = key.length := ⟨_, rfl⟩
 have HNB := Lib.hid hnb
 have HNK := Lib.hid hnk
 have XB1 : Hid (Txt w w.heap.size (.slice AB nb cB) b) := Lib.hid (by rw [hnb]; exact XB0.out)
 have XK1 : Hid (Txt w w.heap.size (.slice AK nk cK) key) := Lib.hid (by rw [hnk]; exact XK0.out)
 rw [← hnb, ← hnk]
 clear hT hnb hnk XB0 XK0
 obtain ⟨A2, c2, A3, c3, A4, c4, A5, c5, n2, n3, n4, n5, rfl, hm2, hm3, hm4, hm5, HCP, HIN, HN⟩ := open_plan h
 have hq0 := heap_alloc_self w (.cells #[.int .i64 p.ver, .int .i64 p.par, .slice A2 n2 c2, .slice A3 n3 c3, .slice A4 n4 c4, .slice A5 n5 c5] 31)
 have hqb := below_new w (.cells #[.int .i64 p.ver, .int .i64 p.par, .slice A2 n2 c2, .slice A3 n3 c3, .slice A4 n4 c4, .slice A5 n5 c5] 31)
 go_enter Tryd.func5, Tryd.ntmps5
 go_upto_region 1 with fail
 generalize w.alloc (.cells #[.int .i64 p.ver, .int .i64 p.par, .slice A2 n2 c2, .slice A3 n3 c3, .slice A4 n4 c4, .slice A5 n5 c5] 31) = q at hq0 hqb ⊢
 have XP := Lib.hid hq0
 have BQ := Lib.hid hqb
 clear hq0 hqb
 have BZ := BQ
 have V0 : Hid (PlanV q q.heap.size (.agg #[.int .i64 p.ver, .int .i64 p.par, .slice A2 n2 c2, .slice A3 n3 c3, .slice A4 n4 c4, .slice A5 n5 c5]) p) := Lib.hid ⟨_, _, _, _, rfl, (HIN.out.below BQ.out).more BQ.out.size⟩
 have XB := Lib.hid ((XB1.out.below BQ.out).more BQ.out.size)
 have XK := Lib.hid ((XK1.out.below BQ.out).more BQ.out.size)
 clear HIN XB1 XK1 BQ
 go_wp2_with fail
 refine (alive12 hp hk q (HT.out.below BZ.out T0.out)).mono ?_
 rintro e w1 ⟨rfl, bN⟩
 have tBZ := BZ.out.trans (bN.mono BZ.out.size)
 have tXP := (bN.block _ (heap_lt XP.out)).trans XP.out
 have tV0 := ((V0.out.below bN).more bN.size)
 have tXB := ((XB.out.below bN).more bN.size)
 have tXK := ((XK.out.below bN).more bN.size)
 clear BZ XP V0 XB XK
 have BZ := Lib.hid tBZ
 have XP := Lib.hid tXP
 have V0 := Lib.hid tV0
 have XB := Lib.hid tXB
 have XK := Lib.hid tXK
 clear tBZ tXP tV0 tXB tXK bN
 obtain ⟨k0, k1, k2, k3, k4, k5⟩ := cell6_of XP.out
 go_wp2_with fail
 refine (rgreat8_any _ p w1 V0.out).mono ?_
 rintro e w2 ⟨⟨g, rfl, hg⟩, bN⟩
 clear k0 k1 k2 k3 k4 k5
 have tBZ := BZ.out.trans (bN.mono BZ.out.size)
 have tXP := (bN.block _ (heap_lt XP.out)).trans XP.out
 have tV0 := ((V0.out.below bN).more bN.size)
 have tXB := ((XB.out.below bN).more bN.size)
 have tXK := ((XK.out.below bN).more bN.size)
 clear BZ XP V0 XB XK
 have BZ := Lib.hid tBZ
 have XP := Lib.hid tXP
 have V0 := Lib.hid tV0
 have XB := Lib.hid tXB
 have XK := Lib.hid tXK
 clear tBZ tXP tV0 tXB tXK bN
 clear hg
 cases g with
 | true =>
  go_wp2_with fail
  go_ret
  exact ⟨rfl, BZ.out⟩
 | false =>
 by_cases h4 : 5000 < nk
 ·have d0 : (5000 : Int) < nk := by omega
  have d1 : (nk : Int) > 5000 := d0
  go_wp2_with fail
  go_ret
  exact ⟨rfl, BZ.out⟩
 have d4 : ¬ (5000 : Int) < nk := by omega
 by_cases h5 : 5000 < nb
 ·have d0 : (5000 : Int) < nb := by omega
  have d1 : (nb : Int) > 5000 := d0
  go_wp2_with fail
  go_ret
  exact ⟨rfl, BZ.out⟩
 have d0 : ¬ (5000 : Int) < nb := by omega
 have HBL : Hid (b.length ≤ 5000) := Lib.hid (by rw [← HNB.out]; omega)
 clear h4 h5
 obtain ⟨k0, k1, k2, k3, k4, k5⟩ := cell6_of XP.out
 go_wp2_with fail
 refine (hk.write _ _ key p w2 (HT.out.below BZ.out T0.out) XK.out V0.out).mono ?_
 rintro e w3 ⟨u3, rfl, hu3, bN⟩
 clear d0 d4
 clear k0 k1 k2 k3 k4 k5
 have tBZ := BZ.out.trans (bN.mono BZ.out.size)
 have tXP := (bN.block _ (heap_lt XP.out)).trans XP.out
 have tV0 := ((V0.out.below bN).more bN.size)
 have tXB := ((XB.out.below bN).more bN.size)
 have tXK := ((XK.out.below bN).more bN.size)
 clear BZ XP V0 XB XK
 have BZ := Lib.hid tBZ
 have XP := Lib.hid tXP
 have V0 := Lib.hid tV0
 have XB := Lib.hid tXB
 have XK := Lib.hid tXK
 clear tBZ tXP tV0 tXB tXK bN
 rcases write_cases key p with ⟨hkl, hm, he, hv⟩ | ⟨he, hv⟩
 rotate_left
 ·have d7 : (writeE key p == 0) = false := by simpa using he
  clear he hv hu3
  go_wp2_with fail
  clear d7
  refine (hk.read _ _ key (b) w3 (HT.out.below BZ.out T0.out) XK.out XB.out (by have := HBL.out; omega)).mono ?_
  rintro e wba ⟨y2, y3, y4, y5, rfl, hpo, bN⟩
  obtain ⟨M2, Mc2, rfl⟩ := hpo.secs.slice
  obtain ⟨M3, Mc3, rfl⟩ := hpo.pts.slice
  obtain ⟨M4, Mc4, rfl⟩ := hpo.sigs.slice
  obtain ⟨M5, Mc5, rfl⟩ := hpo.routes.slice
  obtain ⟨Mn2, hM2⟩ : ∃ n, n = (readP key (b)).secs.length := ⟨_, rfl⟩
  obtain ⟨Mn3, hM3⟩ : ∃ n, n = (readP key (b)).pts.length := ⟨_, rfl⟩
  obtain ⟨Mn4, hM4⟩ : ∃ n, n = (readP key (b)).sigs.length := ⟨_, rfl⟩
  obtain ⟨Mn5, hM5⟩ : ∃ n, n = (readP key (b)).routes.length := ⟨_, rfl⟩
  have Vp12 : Hid (PlanV wba wba.heap.size (.agg #[.int .i64 (readP key (b)).ver, .int .i64 (readP key (b)).par, .slice M2 Mn2 Mc2, .slice M3 Mn3 Mc3, .slice M4 Mn4 Mc4, .slice M5 Mn5 Mc5]) (readP key (b))) := Lib.hid ⟨_, _, _, _, rfl, by rw [hM2, hM3, hM4, hM5]; exact hpo.in_⟩
  rw [← hM2, ← hM3, ← hM4, ← hM5]
  clear hpo hM2 hM3 hM4 hM5
  have tBZ := BZ.out.trans (bN.mono BZ.out.size)
  have tXP := (bN.block _ (heap_lt XP.out)).trans XP.out
  have tV0 := ((V0.out.below bN).more bN.size)
  have tXB := ((XB.out.below bN).more bN.size)
  have tXK := ((XK.out.below bN).more bN.size)
  clear BZ XP V0 XB XK
  have BZ := Lib.hid tBZ
  have XP := Lib.hid tXP
  have V0 := Lib.hid tV0
  have XB := Lib.hid tXB
  have XK := Lib.hid tXK
  clear tBZ tXP tV0 tXB tXK bN
  have XX0 := heap_alloc_self wba (.cells #[.int .i64 0, .int .i64 0, .slice none 0 0, .slice none 0 0, .slice none 0 0, .slice none 0 0] 31)
  have hb6 := below_setRow (below_new wba (.cells #[.int .i64 0, .int .i64 0, .slice none 0 0, .slice none 0 0, .slice none 0 0, .slice none 0 0] 31)) (Nat.le_refl _) #[.int .i64 (readP key (b)).ver, .int .i64 (readP key (b)).par, .slice M2 Mn2 Mc2, .slice M3 Mn3 Mc3, .slice M4 Mn4 Mc4, .slice M5 Mn5 Mc5]
  have hx6 := setRow_heap (wba.alloc (.cells #[.int .i64 0, .int .i64 0, .slice none 0 0, .slice none 0 0, .slice none 0 0, .slice none 0 0] 31)) wba.heap.size _ #[.int .i64 (readP key (b)).ver, .int .i64 (readP key (b)).par, .slice M2 Mn2 Mc2, .slice M3 Mn3 Mc3, .slice M4 Mn4 Mc4, .slice M5 Mn5 Mc5] 31 _ XX0
  go_upto_region 10 with ((with_reducible show wpList _ _ _ (⟨none, _, _, _, _, _⟩ :: _) _ _); refine wpList_store_rowS rfl _ (.tmp 12) (.tmp 67) rfl wba.heap.size rfl (c' := #[.int .i64 (readP key (b)).ver, .int .i64 (readP key (b)).par, .slice M2 Mn2 Mc2, .slice M3 Mn3 Mc3, .slice M4 Mn4 Mc4, .slice M5 Mn5 Mc5]) rfl XX0 infoPlanA rfl (by simp [Value.oneCell']) ?_)
  generalize (wba.alloc (.cells #[.int .i64 0, .int .i64 0, .slice none 0 0, .slice none 0 0, .slice none 0 0, .slice none 0 0] 31)).setRow wba.heap.size #[.int .i64 (readP key (b)).ver, .int .i64 (readP key (b)).par, .slice M2 Mn2 Mc2, .slice M3 Mn3 Mc3, .slice M4 Mn4 Mc4, .slice M5 Mn5 Mc5] = wb at hb6 hx6 ⊢
  obtain ⟨p12, hp_⟩ : ∃ n, n = wba.heap.size := ⟨_, rfl⟩
  rw [← hp_] at hx6 ⊢
  have Xp12 := Lib.hid hx6
  have tV := Lib.hid ((Vp12.out.below hb6).more hb6.size)
  clear Vp12 XX0 hx6 hp_
  have Vp12 := tV
  clear tV
  have tBZ := BZ.out.trans (hb6.mono BZ.out.size)
  have tXP := (hb6.block _ (heap_lt XP.out)).trans XP.out
  have tV0 := ((V0.out.below hb6).more hb6.size)
  have tXB := ((XB.out.below hb6).more hb6.size)
  have tXK := ((XK.out.below hb6).more hb6.size)
  clear BZ XP V0 XB XK
  have BZ := Lib.hid tBZ
  have XP := Lib.hid tXP
  have V0 := Lib.hid tV0
  have XB := Lib.hid tXB
  have XK := Lib.hid tXK
  clear tBZ tXP tV0 tXB tXK hb6
  by_cases hrz : readE key b = 0
  rotate_left
  ·have d1 : (readE key b != 0) = true := by simpa using hrz
   have HR : Hid (readP key b = zPl) := Lib.hid (read_not hrz)
   clear hrz
   obtain ⟨m0, m1, m2, m3, m4, m5⟩ := cell6_of Xp12.out
   go_wp2_with fail
   refine (rsame8_any _ _ (readP key b) zPl wb Vp12.out ⟨_, _, _, _, rfl, ⟨in_nilK, in_nilK, in_nilK, in_nilK⟩⟩).mono ?_
   rintro e w9 ⟨rfl, bN⟩
   rw [eqB_true HR.out]
   have BL := Lib.hid (BZ.out.trans (bN.mono BZ.out.size))
   clear bN
   go_wp2_with fail
   go_ret
   exact ⟨rfl, BL.out⟩
  rw [hrz]
  obtain ⟨Q, hQ⟩ : ∃ x, x = readP key b := ⟨_, rfl⟩
  have HR : Hid (key.length ≤ 64 ∧ PlanMay Q ∧ b = packL key Q) := Lib.hid (by rw [hQ]; exact read_zero hrz)
  rw [← hQ] at Xp12 Vp12 ⊢
  clear hrz hQ
  have HTE : Hid (textE Q = 0 ∧ textV Q = textL Q) := Lib.hid (by
   rcases text_cases Q with ⟨_, h1, h2⟩ | ⟨h1, _⟩
   ·exact ⟨h1, h2⟩
   ·exact absurd HR.out.2.1 h1)
  have d1 : ((0 : Int) != 0) = false := by decide
  obtain ⟨m0, m1, m2, m3, m4, m5⟩ := cell6_of Xp12.out
  go_wp2_with fail
  refine (hp.text _ Q wb Vp12.out).mono ?_
  rintro e wc ⟨u7, rfl, hu7, bN⟩
  rw [HTE.out.2] at hu7
  rw [HTE.out.1]
  have XU : Hid (Txt wc wc.heap.size u7 (textL Q)) := Lib.hid (hu7.txt (by have := (text_len HR.out.2.1).1; unfold maxLen; omega))
  clear hu7
  clear m0 m1 m2 m3 m4 m5
  have tBZ := BZ.out.trans (bN.mono BZ.out.size)
  have tXP := (bN.block _ (heap_lt XP.out)).trans XP.out
  have tV0 := ((V0.out.below bN).more bN.size)
  have tXB := ((XB.out.below bN).more bN.size)
  have tXK := ((XK.out.below bN).more bN.size)
  clear BZ XP V0 XB XK
  have BZ := Lib.hid tBZ
  have XP := Lib.hid tXP
  have V0 := Lib.hid tV0
  have XB := Lib.hid tXB
  have XK := Lib.hid tXK
  clear tBZ tXP tV0 tXB tXK bN
  go_wp2_with fail
  refine (tag_any _ _ key (textL Q) HR.out.1 (by have := (text_len HR.out.2.1).1; omega) wc (HT.out.below BZ.out T0.out) XK.out XU.out).mono ?_
  rintro e wd ⟨rfl, bN⟩
  have tBZ := BZ.out.trans (bN.mono BZ.out.size)
  have tXP := (bN.block _ (heap_lt XP.out)).trans XP.out
  have tV0 := ((V0.out.below bN).more bN.size)
  have tXB := ((XB.out.below bN).more bN.size)
  have tXK := ((XK.out.below bN).more bN.size)
  have tXU := ((XU.out.below bN).more bN.size)
  clear BZ XP V0 XB XK XU
  have BZ := Lib.hid tBZ
  have XP := Lib.hid tXP
  have V0 := Lib.hid tV0
  have XB := Lib.hid tXB
  have XK := Lib.hid tXK
  have XU := Lib.hid tXU
  clear tBZ tXP tV0 tXB tXK tXU bN
  have SL : Hid ((tagL key (textL Q)).length = 32) := Lib.hid (tagL_length _ _)
  go_upto_region 14 with (refine wpList_store_new rfl _ _ rfl rfl rfl SL.out ?_; intro q3 hx3 hb3; have X16 := hx3; have D3 := hb3; clear hx3 hb3)
  have bN := D3.out
  obtain ⟨p16, hp16⟩ : ∃ n, n = wd.heap.size := ⟨_, rfl⟩
  rw [← hp16] at X16 ⊢
  clear D3 hp16
  have tBZ := BZ.out.trans (bN.mono BZ.out.size)
  have tXP := (bN.block _ (heap_lt XP.out)).trans XP.out
  have tV0 := ((V0.out.below bN).more bN.size)
  have tXB := ((XB.out.below bN).more bN.size)
  have tXK := ((XK.out.below bN).more bN.size)
  have tXU := ((XU.out.below bN).more bN.size)
  clear BZ XP V0 XB XK XU
  have BZ := Lib.hid tBZ
  have XP := Lib.hid tXP
  have V0 := Lib.hid tV0
  have XB := Lib.hid tXB
  have XK := Lib.hid tXK
  have XU := Lib.hid tXU
  clear tBZ tXP tV0 tXB tXK tXU bN
  have TT : Hid (Txt q3 q3.heap.size (.slice (some ⟨p16, 0, none⟩) 32 32) (tagL key (textL Q))) := Lib.hid (by
   have h := txt_of_block X16.out (by rw [SL.out]; decide)
   rw [SL.out] at h
   exact h)
  have hcat := str_cat (textL Q) (tagL key (textL Q))
  have HB : Hid (b = textL Q ++ tagL key (textL Q)) := Lib.hid HR.out.2.2
  rw [← HB.out] at hcat
  have hlen : ¬ 9223372036854775807 < (textL Q).length + (tagL key (textL Q)).length := by have h1 := (text_len HR.out.2.1).1; have h2 := SL.out; omega
  refine wp_region_held_drew (S := fun v => Below q3.heap.size q3 v) (by kernel_rfl) (Below.refl q3.heap.size q3).drew (fun hHeld => ?_)
  refine tk 0 hHeld ?_;refine tk 1 hHeld ?_;refine tk 2 hHeld ?_;refine tk 3 hHeld ?_;refine tk 4 hHeld ?_;refine tk 5 hHeld ?_;refine tk 6 hHeld ?_;refine tk 7 hHeld ?_;refine tkc 8 hHeld (fun w' hSw => run_txt_string (XB.out.below hSw)) ?_;refine tk 9 hHeld ?_;refine tkc 10 hHeld (fun w' hSw => run_txt_string (XU.out.below hSw)) ?_;refine tkc 11 hHeld (fun w' hSw => (hSw.block _ (heap_lt X16.out)).trans X16.out) ?_;refine tkc 12 hHeld (fun w' hSw => run_txt_string (TT.out.below hSw)) ?_;refine tk 13 hHeld ?_;refine tk 14 hHeld ?_;refine tk 15 hHeld ?_;refine tk 16 hHeld ?_
  refine wpAnyH_done (by kernel_rfl) ?_ _
  have BL := Lib.hid (BZ.out.trans ((Below.refl q3.heap.size q3).drew.mono BZ.out.size))
  go_wp2_with fail
  go_ret
  exact ⟨rfl, BL.out⟩
 rw [hv] at hu3
 rw [he]
 have HPT : Hid (PlanMay p ∧ key.length ≤ 64) := Lib.hid ⟨hm, hkl⟩
 clear hm he hv hkl
 obtain ⟨A6, c6, rfl, hc6⟩ := hu3.len
 obtain ⟨n6, hn6⟩ : ∃ n, n = (packL key p).length := ⟨_, rfl⟩
 have HN6 : Hid (n6 ≤ 642) := Lib.hid (by rw [hn6]; exact (packL_len key HPT.out.1).2)
 have XU : Hid (Txt w3 w3.heap.size (.slice A6 n6 c6) (packL key p)) := Lib.hid (by have h := hu3.txt (by have := (packL_len key HPT.out.1).2; unfold maxLen; omega); rw [hn6]; exact h)
 have HPL : Hid ((packL key p).length ≤ 642) := Lib.hid (packL_len key HPT.out.1).2
 rw [← hn6]
 clear hu3 hc6 hn6
 go_wp2_with fail
 refine (hk.read _ _ key (packL key p) w3 (HT.out.below BZ.out T0.out) XK.out XU.out (by have := HPL.out; omega)).mono ?_
 rintro e wda ⟨y2, y3, y4, y5, rfl, hpo, bN⟩
 obtain ⟨N2, Nc2, rfl⟩ := hpo.secs.slice
 obtain ⟨N3, Nc3, rfl⟩ := hpo.pts.slice
 obtain ⟨N4, Nc4, rfl⟩ := hpo.sigs.slice
 obtain ⟨N5, Nc5, rfl⟩ := hpo.routes.slice
 obtain ⟨Nn2, hN2⟩ : ∃ n, n = (readP key (packL key p)).secs.length := ⟨_, rfl⟩
 obtain ⟨Nn3, hN3⟩ : ∃ n, n = (readP key (packL key p)).pts.length := ⟨_, rfl⟩
 obtain ⟨Nn4, hN4⟩ : ∃ n, n = (readP key (packL key p)).sigs.length := ⟨_, rfl⟩
 obtain ⟨Nn5, hN5⟩ : ∃ n, n = (readP key (packL key p)).routes.length := ⟨_, rfl⟩
 have Vp10 : Hid (PlanV wda wda.heap.size (.agg #[.int .i64 (readP key (packL key p)).ver, .int .i64 (readP key (packL key p)).par, .slice N2 Nn2 Nc2, .slice N3 Nn3 Nc3, .slice N4 Nn4 Nc4, .slice N5 Nn5 Nc5]) (readP key (packL key p))) := Lib.hid ⟨_, _, _, _, rfl, by rw [hN2, hN3, hN4, hN5]; exact hpo.in_⟩
 rw [← hN2, ← hN3, ← hN4, ← hN5]
 clear hpo hN2 hN3 hN4 hN5
 have tBZ := BZ.out.trans (bN.mono BZ.out.size)
 have tXP := (bN.block _ (heap_lt XP.out)).trans XP.out
 have tV0 := ((V0.out.below bN).more bN.size)
 have tXB := ((XB.out.below bN).more bN.size)
 have tXK := ((XK.out.below bN).more bN.size)
 have tXU := ((XU.out.below bN).more bN.size)
 clear BZ XP V0 XB XK XU
 have BZ := Lib.hid tBZ
 have XP := Lib.hid tXP
 have V0 := Lib.hid tV0
 have XB := Lib.hid tXB
 have XK := Lib.hid tXK
 have XU := Lib.hid tXU
 clear tBZ tXP tV0 tXB tXK tXU bN
 have XX0 := heap_alloc_self wda (.cells #[.int .i64 0, .int .i64 0, .slice none 0 0, .slice none 0 0, .slice none 0 0, .slice none 0 0] 31)
 have hb6 := below_setRow (below_new wda (.cells #[.int .i64 0, .int .i64 0, .slice none 0 0, .slice none 0 0, .slice none 0 0, .slice none 0 0] 31)) (Nat.le_refl _) #[.int .i64 (readP key (packL key p)).ver, .int .i64 (readP key (packL key p)).par, .slice N2 Nn2 Nc2, .slice N3 Nn3 Nc3, .slice N4 Nn4 Nc4, .slice N5 Nn5 Nc5]
 have hx6 := setRow_heap (wda.alloc (.cells #[.int .i64 0, .int .i64 0, .slice none 0 0, .slice none 0 0, .slice none 0 0, .slice none 0 0] 31)) wda.heap.size _ #[.int .i64 (readP key (packL key p)).ver, .int .i64 (readP key (packL key p)).par, .slice N2 Nn2 Nc2, .slice N3 Nn3 Nc3, .slice N4 Nn4 Nc4, .slice N5 Nn5 Nc5] 31 _ XX0
 go_upto_region 7 with ((with_reducible show wpList _ _ _ (⟨none, _, _, _, _, _⟩ :: _) _ _); refine wpList_store_rowS rfl _ (.tmp 10) (.tmp 48) rfl wda.heap.size rfl (c' := #[.int .i64 (readP key (packL key p)).ver, .int .i64 (readP key (packL key p)).par, .slice N2 Nn2 Nc2, .slice N3 Nn3 Nc3, .slice N4 Nn4 Nc4, .slice N5 Nn5 Nc5]) rfl XX0 infoPlanA rfl (by simp [Value.oneCell']) ?_)
 generalize (wda.alloc (.cells #[.int .i64 0, .int .i64 0, .slice none 0 0, .slice none 0 0, .slice none 0 0, .slice none 0 0] 31)).setRow wda.heap.size #[.int .i64 (readP key (packL key p)).ver, .int .i64 (readP key (packL key p)).par, .slice N2 Nn2 Nc2, .slice N3 Nn3 Nc3, .slice N4 Nn4 Nc4, .slice N5 Nn5 Nc5] = wd at hb6 hx6 ⊢
 obtain ⟨p10, hp_⟩ : ∃ n, n = wda.heap.size := ⟨_, rfl⟩
 rw [← hp_] at hx6 ⊢
 have Xp10 := Lib.hid hx6
 have tV := Lib.hid ((Vp10.out.below hb6).more hb6.size)
 clear Vp10 XX0 hx6 hp_
 have Vp10 := tV
 clear tV
 have tBZ := BZ.out.trans (hb6.mono BZ.out.size)
 have tXP := (hb6.block _ (heap_lt XP.out)).trans XP.out
 have tV0 := ((V0.out.below hb6).more hb6.size)
 have tXB := ((XB.out.below hb6).more hb6.size)
 have tXK := ((XK.out.below hb6).more hb6.size)
 have tXU := ((XU.out.below hb6).more hb6.size)
 clear BZ XP V0 XB XK XU
 have BZ := Lib.hid tBZ
 have XP := Lib.hid tXP
 have V0 := Lib.hid tV0
 have XB := Lib.hid tXB
 have XK := Lib.hid tXK
 have XU := Lib.hid tXU
 clear tBZ tXP tV0 tXB tXK tXU hb6
 have HR : Hid (readE key (packL key p) = 0 ∧ readP key (packL key p) = p) := Lib.hid (read_pack HPT.out.2 HPT.out.1)
 rw [HR.out.1]
 have d1 : ((0 : Int) != 0) = false := by decide
 have d2 : ¬ (2048 : Int) < n6 := by have := HN6.out; omega
 obtain ⟨k0, k1, k2, k3, k4, k5⟩ := cell6_of XP.out
 obtain ⟨m0, m1, m2, m3, m4, m5⟩ := cell6_of Xp10.out
 go_wp2_with fail
 refine (rsame8_any _ _ p (readP key (packL key p)) wd V0.out Vp10.out).mono ?_
 rintro e we ⟨rfl, bN⟩
 rw [eqB_true HR.out.2.symm]
 clear k0 k1 k2 k3 k4 k5
 clear m0 m1 m2 m3 m4 m5
 clear Xp10 Vp10
 have tBZ := BZ.out.trans (bN.mono BZ.out.size)
 have tXP := (bN.block _ (heap_lt XP.out)).trans XP.out
 have tV0 := ((V0.out.below bN).more bN.size)
 have tXB := ((XB.out.below bN).more bN.size)
 have tXK := ((XK.out.below bN).more bN.size)
 have tXU := ((XU.out.below bN).more bN.size)
 clear BZ XP V0 XB XK XU
 have BZ := Lib.hid tBZ
 have XP := Lib.hid tXP
 have V0 := Lib.hid tV0
 have XB := Lib.hid tXB
 have XK := Lib.hid tXK
 have XU := Lib.hid tXU
 clear tBZ tXP tV0 tXB tXK tXU bN
 clear XU HR
 go_wp2_with fail
 refine (hk.read _ _ key (b) we (HT.out.below BZ.out T0.out) XK.out XB.out (by have := HBL.out; omega)).mono ?_
 rintro e wba ⟨y2, y3, y4, y5, rfl, hpo, bN⟩
 obtain ⟨M2, Mc2, rfl⟩ := hpo.secs.slice
 obtain ⟨M3, Mc3, rfl⟩ := hpo.pts.slice
 obtain ⟨M4, Mc4, rfl⟩ := hpo.sigs.slice
 obtain ⟨M5, Mc5, rfl⟩ := hpo.routes.slice
 obtain ⟨Mn2, hM2⟩ : ∃ n, n = (readP key (b)).secs.length := ⟨_, rfl⟩
 obtain ⟨Mn3, hM3⟩ : ∃ n, n = (readP key (b)).pts.length := ⟨_, rfl⟩
 obtain ⟨Mn4, hM4⟩ : ∃ n, n = (readP key (b)).sigs.length := ⟨_, rfl⟩
 obtain ⟨Mn5, hM5⟩ : ∃ n, n = (readP key (b)).routes.length := ⟨_, rfl⟩
 have Vp12 : Hid (PlanV wba wba.heap.size (.agg #[.int .i64 (readP key (b)).ver, .int .i64 (readP key (b)).par, .slice M2 Mn2 Mc2, .slice M3 Mn3 Mc3, .slice M4 Mn4 Mc4, .slice M5 Mn5 Mc5]) (readP key (b))) := Lib.hid ⟨_, _, _, _, rfl, by rw [hM2, hM3, hM4, hM5]; exact hpo.in_⟩
 rw [← hM2, ← hM3, ← hM4, ← hM5]
 clear hpo hM2 hM3 hM4 hM5
 have tBZ := BZ.out.trans (bN.mono BZ.out.size)
 have tXP := (bN.block _ (heap_lt XP.out)).trans XP.out
 have tV0 := ((V0.out.below bN).more bN.size)
 have tXB := ((XB.out.below bN).more bN.size)
 have tXK := ((XK.out.below bN).more bN.size)
 clear BZ XP V0 XB XK
 have BZ := Lib.hid tBZ
 have XP := Lib.hid tXP
 have V0 := Lib.hid tV0
 have XB := Lib.hid tXB
 have XK := Lib.hid tXK
 clear tBZ tXP tV0 tXB tXK bN
 have XX0 := heap_alloc_self wba (.cells #[.int .i64 0, .int .i64 0, .slice none 0 0, .slice none 0 0, .slice none 0 0, .slice none 0 0] 31)
 have hb6 := below_setRow (below_new wba (.cells #[.int .i64 0, .int .i64 0, .slice none 0 0, .slice none 0 0, .slice none 0 0, .slice none 0 0] 31)) (Nat.le_refl _) #[.int .i64 (readP key (b)).ver, .int .i64 (readP key (b)).par, .slice M2 Mn2 Mc2, .slice M3 Mn3 Mc3, .slice M4 Mn4 Mc4, .slice M5 Mn5 Mc5]
 have hx6 := setRow_heap (wba.alloc (.cells #[.int .i64 0, .int .i64 0, .slice none 0 0, .slice none 0 0, .slice none 0 0, .slice none 0 0] 31)) wba.heap.size _ #[.int .i64 (readP key (b)).ver, .int .i64 (readP key (b)).par, .slice M2 Mn2 Mc2, .slice M3 Mn3 Mc3, .slice M4 Mn4 Mc4, .slice M5 Mn5 Mc5] 31 _ XX0
 go_upto_region 10 with ((with_reducible show wpList _ _ _ (⟨none, _, _, _, _, _⟩ :: _) _ _); refine wpList_store_rowS rfl _ (.tmp 12) (.tmp 67) rfl wba.heap.size rfl (c' := #[.int .i64 (readP key (b)).ver, .int .i64 (readP key (b)).par, .slice M2 Mn2 Mc2, .slice M3 Mn3 Mc3, .slice M4 Mn4 Mc4, .slice M5 Mn5 Mc5]) rfl XX0 infoPlanA rfl (by simp [Value.oneCell']) ?_)
 generalize (wba.alloc (.cells #[.int .i64 0, .int .i64 0, .slice none 0 0, .slice none 0 0, .slice none 0 0, .slice none 0 0] 31)).setRow wba.heap.size #[.int .i64 (readP key (b)).ver, .int .i64 (readP key (b)).par, .slice M2 Mn2 Mc2, .slice M3 Mn3 Mc3, .slice M4 Mn4 Mc4, .slice M5 Mn5 Mc5] = wb at hb6 hx6 ⊢
 obtain ⟨p12, hp_⟩ : ∃ n, n = wba.heap.size := ⟨_, rfl⟩
 rw [← hp_] at hx6 ⊢
 have Xp12 := Lib.hid hx6
 have tV := Lib.hid ((Vp12.out.below hb6).more hb6.size)
 clear Vp12 XX0 hx6 hp_
 have Vp12 := tV
 clear tV
 have tBZ := BZ.out.trans (hb6.mono BZ.out.size)
 have tXP := (hb6.block _ (heap_lt XP.out)).trans XP.out
 have tV0 := ((V0.out.below hb6).more hb6.size)
 have tXB := ((XB.out.below hb6).more hb6.size)
 have tXK := ((XK.out.below hb6).more hb6.size)
 clear BZ XP V0 XB XK
 have BZ := Lib.hid tBZ
 have XP := Lib.hid tXP
 have V0 := Lib.hid tV0
 have XB := Lib.hid tXB
 have XK := Lib.hid tXK
 clear tBZ tXP tV0 tXB tXK hb6
 by_cases hrz : readE key b = 0
 rotate_left
 ·have d1 : (readE key b != 0) = true := by simpa using hrz
  have HR : Hid (readP key b = zPl) := Lib.hid (read_not hrz)
  clear hrz
  obtain ⟨m0, m1, m2, m3, m4, m5⟩ := cell6_of Xp12.out
  go_wp2_with fail
  refine (rsame8_any _ _ (readP key b) zPl wb Vp12.out ⟨_, _, _, _, rfl, ⟨in_nilK, in_nilK, in_nilK, in_nilK⟩⟩).mono ?_
  rintro e w9 ⟨rfl, bN⟩
  rw [eqB_true HR.out]
  have BL := Lib.hid (BZ.out.trans (bN.mono BZ.out.size))
  clear bN
  go_wp2_with fail
  go_ret
  exact ⟨rfl, BL.out⟩
 rw [hrz]
 obtain ⟨Q, hQ⟩ : ∃ x, x = readP key b := ⟨_, rfl⟩
 have HR : Hid (key.length ≤ 64 ∧ PlanMay Q ∧ b = packL key Q) := Lib.hid (by rw [hQ]; exact read_zero hrz)
 rw [← hQ] at Xp12 Vp12 ⊢
 clear hrz hQ
 have HTE : Hid (textE Q = 0 ∧ textV Q = textL Q) := Lib.hid (by
  rcases text_cases Q with ⟨_, h1, h2⟩ | ⟨h1, _⟩
  ·exact ⟨h1, h2⟩
  ·exact absurd HR.out.2.1 h1)
 have d1 : ((0 : Int) != 0) = false := by decide
 obtain ⟨m0, m1, m2, m3, m4, m5⟩ := cell6_of Xp12.out
 go_wp2_with fail
 refine (hp.text _ Q wb Vp12.out).mono ?_
 rintro e wc ⟨u7, rfl, hu7, bN⟩
 rw [HTE.out.2] at hu7
 rw [HTE.out.1]
 have XU : Hid (Txt wc wc.heap.size u7 (textL Q)) := Lib.hid (hu7.txt (by have := (text_len HR.out.2.1).1; unfold maxLen; omega))
 clear hu7
 clear m0 m1 m2 m3 m4 m5
 have tBZ := BZ.out.trans (bN.mono BZ.out.size)
 have tXP := (bN.block _ (heap_lt XP.out)).trans XP.out
 have tV0 := ((V0.out.below bN).more bN.size)
 have tXB := ((XB.out.below bN).more bN.size)
 have tXK := ((XK.out.below bN).more bN.size)
 clear BZ XP V0 XB XK
 have BZ := Lib.hid tBZ
 have XP := Lib.hid tXP
 have V0 := Lib.hid tV0
 have XB := Lib.hid tXB
 have XK := Lib.hid tXK
 clear tBZ tXP tV0 tXB tXK bN
 go_wp2_with fail
 refine (tag_any _ _ key (textL Q) HR.out.1 (by have := (text_len HR.out.2.1).1; omega) wc (HT.out.below BZ.out T0.out) XK.out XU.out).mono ?_
 rintro e wd ⟨rfl, bN⟩
 have tBZ := BZ.out.trans (bN.mono BZ.out.size)
 have tXP := (bN.block _ (heap_lt XP.out)).trans XP.out
 have tV0 := ((V0.out.below bN).more bN.size)
 have tXB := ((XB.out.below bN).more bN.size)
 have tXK := ((XK.out.below bN).more bN.size)
 have tXU := ((XU.out.below bN).more bN.size)
 clear BZ XP V0 XB XK XU
 have BZ := Lib.hid tBZ
 have XP := Lib.hid tXP
 have V0 := Lib.hid tV0
 have XB := Lib.hid tXB
 have XK := Lib.hid tXK
 have XU := Lib.hid tXU
 clear tBZ tXP tV0 tXB tXK tXU bN
 have SL : Hid ((tagL key (textL Q)).length = 32) := Lib.hid (tagL_length _ _)
 go_upto_region 14 with (refine wpList_store_new rfl _ _ rfl rfl rfl SL.out ?_; intro q3 hx3 hb3; have X16 := hx3; have D3 := hb3; clear hx3 hb3)
 have bN := D3.out
 obtain ⟨p16, hp16⟩ : ∃ n, n = wd.heap.size := ⟨_, rfl⟩
 rw [← hp16] at X16 ⊢
 clear D3 hp16
 have tBZ := BZ.out.trans (bN.mono BZ.out.size)
 have tXP := (bN.block _ (heap_lt XP.out)).trans XP.out
 have tV0 := ((V0.out.below bN).more bN.size)
 have tXB := ((XB.out.below bN).more bN.size)
 have tXK := ((XK.out.below bN).more bN.size)
 have tXU := ((XU.out.below bN).more bN.size)
 clear BZ XP V0 XB XK XU
 have BZ := Lib.hid tBZ
 have XP := Lib.hid tXP
 have V0 := Lib.hid tV0
 have XB := Lib.hid tXB
 have XK := Lib.hid tXK
 have XU := Lib.hid tXU
 clear tBZ tXP tV0 tXB tXK tXU bN
 have TT : Hid (Txt q3 q3.heap.size (.slice (some ⟨p16, 0, none⟩) 32 32) (tagL key (textL Q))) := Lib.hid (by
  have h := txt_of_block X16.out (by rw [SL.out]; decide)
  rw [SL.out] at h
  exact h)
 have hcat := str_cat (textL Q) (tagL key (textL Q))
 have HB : Hid (b = textL Q ++ tagL key (textL Q)) := Lib.hid HR.out.2.2
 rw [← HB.out] at hcat
 have hlen : ¬ 9223372036854775807 < (textL Q).length + (tagL key (textL Q)).length := by have h1 := (text_len HR.out.2.1).1; have h2 := SL.out; omega
 refine wp_region_held_drew (S := fun v => Below q3.heap.size q3 v) (by kernel_rfl) (Below.refl q3.heap.size q3).drew (fun hHeld => ?_)
 refine tk 0 hHeld ?_;refine tk 1 hHeld ?_;refine tk 2 hHeld ?_;refine tk 3 hHeld ?_;refine tk 4 hHeld ?_;refine tk 5 hHeld ?_;refine tk 6 hHeld ?_;refine tk 7 hHeld ?_;refine tkc 8 hHeld (fun w' hSw => run_txt_string (XB.out.below hSw)) ?_;refine tk 9 hHeld ?_;refine tkc 10 hHeld (fun w' hSw => run_txt_string (XU.out.below hSw)) ?_;refine tkc 11 hHeld (fun w' hSw => (hSw.block _ (heap_lt X16.out)).trans X16.out) ?_;refine tkc 12 hHeld (fun w' hSw => run_txt_string (TT.out.below hSw)) ?_;refine tk 13 hHeld ?_;refine tk 14 hHeld ?_;refine tk 15 hHeld ?_;refine tk 16 hHeld ?_
 refine wpAnyH_done (by kernel_rfl) ?_ _
 have BL := Lib.hid (BZ.out.trans ((Below.refl q3.heap.size q3).drew.mono BZ.out.size))
 go_wp2_with fail
 go_ret
 exact ⟨rfl, BL.out⟩
end Go.Proofs.YteloiajocjahmaaDoor
