/-
  PlanSame: the walk, given the program's contracts.
  Conditions: none.
-/
import Derived.Test.YthlolpflgninjaaPlnProg
import Derived.Test.YthlolpflgninjaaPlnSameM
set_option linter.unusedVariables false
set_option linter.unusedSimpArgs false
set_option maxRecDepth 100000
namespace Go.Proofs.Ythlolpflgninjaa
open Go.RowKit

set_option maxHeartbeats 16000000 in
theorem walk_plan_same (hp : PlanSaid) (v y : Value) (p o : Pl) (w : World) (h : PlanV w w.heap.size v p) (h' : PlanV w w.heap.size y o) :
    Calls Try.prog 5 #[v, y] w fun e w' => e = .returned (.bool true) ∧ Below w.heap.size w w' := by
  obtain ⟨y2, y3, y4, y5, rfl, hi⟩ := h
  have HIp := Lib.hid hi
  obtain ⟨A2, c2, rfl, -, -⟩ := hi.secs.slice
  obtain ⟨A3, c3, rfl, -, -⟩ := hi.pts.slice
  obtain ⟨A4, c4, rfl, -, -⟩ := hi.sigs.slice
  obtain ⟨A5, c5, rfl, -, -⟩ := hi.routes.slice
  obtain ⟨n2, hn2⟩ : ∃ n, n = p.secs.length := ⟨_, rfl⟩
  obtain ⟨n3, hn3⟩ : ∃ n, n = p.pts.length := ⟨_, rfl⟩
  obtain ⟨n4, hn4⟩ : ∃ n, n = p.sigs.length := ⟨_, rfl⟩
  obtain ⟨n5, hn5⟩ : ∃ n, n = p.routes.length := ⟨_, rfl⟩
  have HP0 : Hid (PlanV w w.heap.size (.agg #[.int .i64 p.ver, .int .i64 p.par, .slice A2 n2 c2, .slice A3 n3 c3, .slice A4 n4 c4, .slice A5 n5 c5]) p) := Lib.hid ⟨_, _, _, _, rfl, by rw [hn2, hn3, hn4, hn5]; exact HIp.out⟩
  rw [← hn2, ← hn3, ← hn4, ← hn5]
  clear hn2 hn3 hn4 hn5 HIp hi
  obtain ⟨z2, z3, z4, z5, rfl, h2i⟩ := h'
  have HIo := Lib.hid h2i
  obtain ⟨B2, d2, rfl, -, -⟩ := h2i.secs.slice
  obtain ⟨B3, d3, rfl, -, -⟩ := h2i.pts.slice
  obtain ⟨B4, d4, rfl, -, -⟩ := h2i.sigs.slice
  obtain ⟨B5, d5, rfl, -, -⟩ := h2i.routes.slice
  obtain ⟨m2, hm2⟩ : ∃ n, n = o.secs.length := ⟨_, rfl⟩
  obtain ⟨m3, hm3⟩ : ∃ n, n = o.pts.length := ⟨_, rfl⟩
  obtain ⟨m4, hm4⟩ : ∃ n, n = o.sigs.length := ⟨_, rfl⟩
  obtain ⟨m5, hm5⟩ : ∃ n, n = o.routes.length := ⟨_, rfl⟩
  have HO0 : Hid (PlanV w w.heap.size (.agg #[.int .i64 o.ver, .int .i64 o.par, .slice B2 m2 d2, .slice B3 m3 d3, .slice B4 m4 d4, .slice B5 m5 d5]) o) := Lib.hid ⟨_, _, _, _, rfl, by rw [hm2, hm3, hm4, hm5]; exact HIo.out⟩
  rw [← hm2, ← hm3, ← hm4, ← hm5]
  clear hm2 hm3 hm4 hm5 HIo h2i
  obtain ⟨q, hq⟩ : ∃ x, x = w.alloc (.cells #[.int .i64 p.ver, .int .i64 p.par, .slice A2 n2 c2, .slice A3 n3 c3, .slice A4 n4 c4, .slice A5 n5 c5] 30) := ⟨_, rfl⟩
  obtain ⟨r, hr⟩ : ∃ x, x = q.alloc (.cells #[.int .i64 o.ver, .int .i64 o.par, .slice B2 m2 d2, .slice B3 m3 d3, .slice B4 m4 d4, .slice B5 m5 d5] 30) := ⟨_, rfl⟩
  have x1 := heap_alloc_self w (.cells #[.int .i64 p.ver, .int .i64 p.par, .slice A2 n2 c2, .slice A3 n3 c3, .slice A4 n4 c4, .slice A5 n5 c5] 30)
  have b1 := below_new w (.cells #[.int .i64 p.ver, .int .i64 p.par, .slice A2 n2 c2, .slice A3 n3 c3, .slice A4 n4 c4, .slice A5 n5 c5] 30)
  rw [← hq] at x1 b1
  have x2 := heap_alloc_self q (.cells #[.int .i64 o.ver, .int .i64 o.par, .slice B2 m2 d2, .slice B3 m3 d3, .slice B4 m4 d4, .slice B5 m5 d5] 30)
  have b2 := below_new q (.cells #[.int .i64 o.ver, .int .i64 o.par, .slice B2 m2 d2, .slice B3 m3 d3, .slice B4 m4 d4, .slice B5 m5 d5] 30)
  rw [← hr] at x2 b2
  go_enter Try.func5, Try.ntmps5
  go_upto_region 1 with fail
  rw [← hq, ← hr]
  have hs1 : q.heap.size = w.heap.size + 1 := by rw [hq]; exact heap_alloc_size w _
  have BZ := Lib.hid (b1.trans (b2.mono b1.size))
  have XP := Lib.hid ((b2.block _ (heap_lt x1)).trans x1)
  rw [hs1] at x2
  have XO := Lib.hid x2
  have HP := Lib.hid ((HP0.out.below BZ.out).more BZ.out.size)
  have HO := Lib.hid ((HO0.out.below BZ.out).more BZ.out.size)
  generalize w.heap.size + 1 = pO at XO ⊢
  clear x1 x2 b1 b2 hs1 HP0 HO0 hq hr
  obtain ⟨k0, k1, k2, k3, k4, k5⟩ := cell6_of XP.out
  go_wp2_with fail
  refine (rgreat8_any _ p r HP.out).mono ?_
  rintro e w1 ⟨⟨g, rfl, hg⟩, b⟩
  clear k0 k1 k2 k3 k4 k5
  have tBZ := BZ.out.trans (b.mono BZ.out.size)
  have tXP := (b.block _ (heap_lt XP.out)).trans XP.out
  have tXO := (b.block _ (heap_lt XO.out)).trans XO.out
  have tHP := (HP.out.below b).more b.size
  have tHO := (HO.out.below b).more b.size
  clear BZ XP XO HP HO b
  have BZ := Lib.hid tBZ
  have XP := Lib.hid tXP
  have XO := Lib.hid tXO
  have HP := Lib.hid tHP
  have HO := Lib.hid tHO
  clear tBZ tXP tXO tHP tHO
  cases g with
  | true =>
    go_wp2_with fail
    go_ret
    exact ⟨rfl, BZ.out⟩
  | false =>
  have FP := Lib.hid (hg rfl)
  clear hg
  obtain ⟨k0, k1, k2, k3, k4, k5⟩ := cell6_of XO.out
  go_wp2_with fail
  refine (rgreat8_any _ o w1 HO.out).mono ?_
  rintro e w2 ⟨⟨g, rfl, hg⟩, b⟩
  clear k0 k1 k2 k3 k4 k5
  have tBZ := BZ.out.trans (b.mono BZ.out.size)
  have tXP := (b.block _ (heap_lt XP.out)).trans XP.out
  have tXO := (b.block _ (heap_lt XO.out)).trans XO.out
  have tHP := (HP.out.below b).more b.size
  have tHO := (HO.out.below b).more b.size
  clear BZ XP XO HP HO b
  have BZ := Lib.hid tBZ
  have XP := Lib.hid tXP
  have XO := Lib.hid tXO
  have HP := Lib.hid tHP
  have HO := Lib.hid tHO
  clear tBZ tXP tXO tHP tHO
  cases g with
  | true =>
    go_wp2_with fail
    go_ret
    exact ⟨rfl, BZ.out⟩
  | false =>
  have FO := Lib.hid (hg rfl)
  clear hg
  obtain ⟨k0, k1, k2, k3, k4, k5⟩ := cell6_of XP.out
  go_wp2_with fail
  refine (hp.twin _ p w2 HP.out FP.out).mono ?_
  rintro e w3 ⟨u2, u3, u4, u5, rfl, ho, b⟩
  obtain ⟨U2, f2, rfl⟩ := ho.secs.slice
  obtain ⟨U3, f3, rfl⟩ := ho.pts.slice
  obtain ⟨U4, f4, rfl⟩ := ho.sigs.slice
  obtain ⟨U5, f5, rfl⟩ := ho.routes.slice
  clear k0 k1 k2 k3 k4 k5
  have HT : Hid (PlanV w3 w3.heap.size (.agg #[.int .i64 p.ver, .int .i64 p.par, .slice U2 p.secs.length f2, .slice U3 p.pts.length f3, .slice U4 p.sigs.length f4, .slice U5 p.routes.length f5]) p) := Lib.hid ⟨_, _, _, _, rfl, ho.in_⟩
  have RT := Lib.hid (rtB_of ho.routes rfl)
  have SC := Lib.hid (scB_of ho.secs rfl)
  have LO : Hid (w.heap.size ≤ w2.heap.size) := Lib.hid BZ.out.size
  obtain ⟨lo, hlo⟩ : ∃ x, x = w2.heap.size := ⟨_, rfl⟩
  obtain ⟨mid, hmid⟩ : ∃ x, x = w3.heap.size := ⟨_, rfl⟩
  have XPL : Hid (w.heap.size < lo ∧ pO < lo) := Lib.hid (by rw [hlo]; exact ⟨heap_lt XP.out, heap_lt XO.out⟩)
  have HML : Hid (lo ≤ mid) := Lib.hid (by rw [hlo, hmid]; exact b.size)
  have BL : Hid (Below lo w2 w3) := Lib.hid (by rw [hlo]; exact b)
  have HPL : Hid (PlanV w2 lo (.agg #[.int .i64 p.ver, .int .i64 p.par, .slice A2 n2 c2, .slice A3 n3 c3, .slice A4 n4 c4, .slice A5 n5 c5]) p) := Lib.hid (by rw [hlo]; exact HP.out)
  have B2Z := Lib.hid BZ.out
  have X2P := Lib.hid XP.out
  have LO2 : Hid (lo ≤ w2.heap.size) := Lib.hid (by rw [hlo]; exact Nat.le_refl _)
  rw [← hlo] at LO
  rw [← hlo, ← hmid] at RT SC
  clear ho
  have tBZ := BZ.out.trans (b.mono BZ.out.size)
  have tXP := (b.block _ (heap_lt XP.out)).trans XP.out
  have tXO := (b.block _ (heap_lt XO.out)).trans XO.out
  have tHP := (HP.out.below b).more b.size
  have tHO := (HO.out.below b).more b.size
  clear BZ XP XO HP HO b
  have BZ := Lib.hid tBZ
  have XP := Lib.hid tXP
  have XO := Lib.hid tXO
  have HP := Lib.hid tHP
  have HO := Lib.hid tHO
  clear tBZ tXP tXO tHP tHO
  have hx := heap_alloc_self w3 (.cells #[.int .i64 p.ver, .int .i64 p.par, .slice U2 p.secs.length f2, .slice U3 p.pts.length f3, .slice U4 p.sigs.length f4, .slice U5 p.routes.length f5] 30)
  have hb := below_new w3 (.cells #[.int .i64 p.ver, .int .i64 p.par, .slice U2 p.secs.length f2, .slice U3 p.pts.length f3, .slice U4 p.sigs.length f4, .slice U5 p.routes.length f5] 30)
  obtain ⟨q3, hq⟩ : ∃ x, x = w3.alloc (.cells #[.int .i64 p.ver, .int .i64 p.par, .slice U2 p.secs.length f2, .slice U3 p.pts.length f3, .slice U4 p.sigs.length f4, .slice U5 p.routes.length f5] 30) := ⟨_, rfl⟩
  rw [← hq] at hx hb
  go_upto_region 4 with fail
  rw [← hq]
  have XT := Lib.hid hx
  rw [← hmid] at XT hb ⊢
  have tBL := BL.out.trans (hb.mono HML.out)
  have tMT : mid ≤ q3.heap.size := Nat.le_of_lt (heap_lt XT.out)
  clear BL hx hq
  have BL := Lib.hid tBL
  have MT := Lib.hid tMT
  clear tBL tMT
  rw [hmid] at hb
  have tBZ := BZ.out.trans (hb.mono BZ.out.size)
  have tXP := (hb.block _ (heap_lt XP.out)).trans XP.out
  have tXO := (hb.block _ (heap_lt XO.out)).trans XO.out
  have tHP := (HP.out.below hb).more hb.size
  have tHO := (HO.out.below hb).more hb.size
  have tHT := (HT.out.below hb).more hb.size
  have tRT := rtB_below RT.out hb
  have tSC := scB_below SC.out hb
  clear BZ XP XO HP HO HT RT SC hb
  have BZ := Lib.hid tBZ
  have XP := Lib.hid tXP
  have XO := Lib.hid tXO
  have HP := Lib.hid tHP
  have HO := Lib.hid tHO
  have HT := Lib.hid tHT
  have RT := Lib.hid tRT
  have SC := Lib.hid tSC
  clear tBZ tXP tXO tHP tHO tHT tRT tSC
  clear hmid
  obtain ⟨bb, hbb⟩ : ∃ x, x = eqB p o := ⟨_, rfl⟩
  refine wp_region_held_drew (S := fun v => Below q3.heap.size q3 v) (by kernel_rfl) (Below.refl q3.heap.size q3).drew (fun hHeld => ?_)
  refine wpAnyH_take (i := 0) (v := ?_) rfl (by kernel_rfl) (by kernel_rfl) (by kernel_rfl) (fun _ _ _ h => h) (Or.inl ⟨by rfl, ?_⟩) hHeld ?_
  rotate_left
  · intro w' hSw; obtain ⟨cv0, cv1, cv2, cv3, cv4, cv5⟩ := cell6_of ((hSw.block _ (heap_lt XP.out)).trans XP.out); go_simp; try with_reducible rfl
  simp only [List.getElem_toArray, List.getElem_cons_succ, List.getElem_cons_zero, Act.put, List.setIfInBounds_toArray, List.set_cons_zero, List.set_cons_succ]
  refine wpAnyH_take (i := 1) (v := ?_) rfl (by kernel_rfl) (by kernel_rfl) (by kernel_rfl) (fun _ _ _ h => h) (Or.inl ⟨by rfl, ?_⟩) hHeld ?_
  rotate_left
  · intro w' hSw; obtain ⟨cv0, cv1, cv2, cv3, cv4, cv5⟩ := cell6_of ((hSw.block _ (heap_lt XO.out)).trans XO.out); go_simp; try with_reducible rfl
  simp only [List.getElem_toArray, List.getElem_cons_succ, List.getElem_cons_zero, Act.put, List.setIfInBounds_toArray, List.set_cons_zero, List.set_cons_succ]
  refine wpAnyH_take (i := 3) (v := ?_) rfl (by kernel_rfl) (by kernel_rfl) (by kernel_rfl) (fun _ _ _ h => h) (Or.inl ⟨by rfl, ?_⟩) hHeld ?_
  rotate_left
  · intro w' hSw; obtain ⟨cv0, cv1, cv2, cv3, cv4, cv5⟩ := cell6_of ((hSw.block _ (heap_lt XP.out)).trans XP.out); go_simp; try with_reducible rfl
  simp only [List.getElem_toArray, List.getElem_cons_succ, List.getElem_cons_zero, Act.put, List.setIfInBounds_toArray, List.set_cons_zero, List.set_cons_succ]
  refine wpAnyH_take (i := 4) (v := ?_) rfl (by kernel_rfl) (by kernel_rfl) (by kernel_rfl) (fun _ _ _ h => h) (Or.inl ⟨by rfl, ?_⟩) hHeld ?_
  rotate_left
  · intro w' hSw; obtain ⟨cv0, cv1, cv2, cv3, cv4, cv5⟩ := cell6_of ((hSw.block _ (heap_lt XO.out)).trans XO.out); go_simp; try with_reducible rfl
  simp only [List.getElem_toArray, List.getElem_cons_succ, List.getElem_cons_zero, Act.put, List.setIfInBounds_toArray, List.set_cons_zero, List.set_cons_succ]
  refine wpAnyH_ready (rs := [2]) (by kernel_rfl) (by simp) ?_
  refine AllReadyH.cons rfl (fun K hK => ?_) AllReadyH.nil
  go_simp
  refine (hp.same _ _ p o q3.drew (HP.out.below (Below.refl q3.heap.size q3).drew) (HO.out.below (Below.refl q3.heap.size q3).drew)).mono ?_
  rintro e wA ⟨rfl, bA⟩
  rw [← hbb]
  have SA : Hid (Below q3.heap.size q3 wA) := Lib.hid ((Below.refl q3.heap.size q3).drew.trans bA)
  clear bA
  try go_wp2_with fail
  refine hK.out _ _ ?_ (fun hHeld => ?_)
  · exact SA.out
  clear hK K
  try simp only [List.getElem_toArray, List.getElem_cons_succ, List.getElem_cons_zero, Act.put, List.setIfInBounds_toArray, List.set_cons_zero, List.set_cons_succ]
  refine wpAnyH_ready (rs := [5]) (by kernel_rfl) (by simp) ?_
  refine AllReadyH.cons rfl (fun K hK => ?_) AllReadyH.nil
  go_simp
  refine (rsame8_any _ _ p o wA ((HP.out.below SA.out).more SA.out.size) ((HO.out.below SA.out).more SA.out.size)).mono ?_
  rintro e wB ⟨rfl, bB⟩
  rw [← hbb]
  have SB : Hid (Below q3.heap.size q3 wB) := Lib.hid (SA.out.trans (bB.mono SA.out.size))
  clear bB
  try go_wp2_with fail
  refine hK.out _ _ ?_ (fun hHeld => ?_)
  · exact SB.out
  clear hK K
  try simp only [List.getElem_toArray, List.getElem_cons_succ, List.getElem_cons_zero, Act.put, List.setIfInBounds_toArray, List.set_cons_zero, List.set_cons_succ]
  refine wpAnyH_take (i := 6) (v := ?_) rfl (by kernel_rfl) (by kernel_rfl) (by kernel_rfl) (fun _ _ _ h => h) (Or.inl ⟨by rfl, ?_⟩) hHeld ?_
  rotate_left
  · intro w' hSw; go_simp; try with_reducible rfl
  simp only [List.getElem_toArray, List.getElem_cons_succ, List.getElem_cons_zero, Act.put, List.setIfInBounds_toArray, List.set_cons_zero, List.set_cons_succ]
  refine wpAnyH_take (i := 7) (v := ?_) rfl (by kernel_rfl) (by kernel_rfl) (by kernel_rfl) (fun _ _ _ h => h) (Or.inl ⟨by rfl, ?_⟩) hHeld ?_
  rotate_left
  · intro w' hSw; go_simp; try with_reducible rfl
  simp only [List.getElem_toArray, List.getElem_cons_succ, List.getElem_cons_zero, Act.put, List.setIfInBounds_toArray, List.set_cons_zero, List.set_cons_succ]
  refine wpAnyH_take (i := 8) (v := ?_) rfl (by kernel_rfl) (by kernel_rfl) (by kernel_rfl) (fun _ _ _ h => h) (Or.inl ⟨by rfl, ?_⟩) hHeld ?_
  rotate_left
  · intro w' hSw; obtain ⟨cv0, cv1, cv2, cv3, cv4, cv5⟩ := cell6_of ((hSw.block _ (heap_lt XT.out)).trans XT.out); go_simp; try with_reducible rfl
  simp only [List.getElem_toArray, List.getElem_cons_succ, List.getElem_cons_zero, Act.put, List.setIfInBounds_toArray, List.set_cons_zero, List.set_cons_succ]
  refine wpAnyH_take (i := 9) (v := ?_) rfl (by kernel_rfl) (by kernel_rfl) (by kernel_rfl) (fun _ _ _ h => h) (Or.inl ⟨by rfl, ?_⟩) hHeld ?_
  rotate_left
  · intro w' hSw; obtain ⟨cv0, cv1, cv2, cv3, cv4, cv5⟩ := cell6_of ((hSw.block _ (heap_lt XP.out)).trans XP.out); go_simp; try with_reducible rfl
  simp only [List.getElem_toArray, List.getElem_cons_succ, List.getElem_cons_zero, Act.put, List.setIfInBounds_toArray, List.set_cons_zero, List.set_cons_succ]
  refine wpAnyH_ready (rs := [10]) (by kernel_rfl) (by simp) ?_
  refine AllReadyH.cons rfl (fun K hK => ?_) AllReadyH.nil
  go_simp
  refine (rsame8_any _ _ p p wB ((HT.out.below SB.out).more SB.out.size) ((HP.out.below SB.out).more SB.out.size)).mono ?_
  rintro e wC ⟨rfl, bC⟩
  rw [eqB_true rfl]
  have SE : Hid (Below q3.heap.size q3 wC) := Lib.hid (SB.out.trans (bC.mono SB.out.size))
  clear bC
  try go_wp2_with fail
  refine hK.out _ _ ?_ (fun hHeld => ?_)
  · exact SE.out
  clear hK K
  try simp only [List.getElem_toArray, List.getElem_cons_succ, List.getElem_cons_zero, Act.put, List.setIfInBounds_toArray, List.set_cons_zero, List.set_cons_succ]
  refine wpAnyH_take (i := 11) (v := ?_) rfl (by kernel_rfl) (by kernel_rfl) (by kernel_rfl) (fun _ _ _ h => h) (Or.inl ⟨by rfl, ?_⟩) hHeld ?_
  rotate_left
  · intro w' hSw; go_simp; try with_reducible rfl
  simp only [List.getElem_toArray, List.getElem_cons_succ, List.getElem_cons_zero, Act.put, List.setIfInBounds_toArray, List.set_cons_zero, List.set_cons_succ]
  refine wpAnyH_take (i := 12) (v := ?_) rfl (by kernel_rfl) (by kernel_rfl) (by kernel_rfl) (fun _ _ _ h => h) (Or.inl ⟨by rfl, ?_⟩) hHeld ?_
  rotate_left
  · intro w' hSw; go_simp; try with_reducible rfl
  simp only [List.getElem_toArray, List.getElem_cons_succ, List.getElem_cons_zero, Act.put, List.setIfInBounds_toArray, List.set_cons_zero, List.set_cons_succ]
  refine wpAnyH_done (by kernel_rfl) ?_ _
  have b := SE.out
  have tBL := BL.out.trans (b.mono (by have := HML.out; have := MT.out; omega))
  have tMT : mid ≤ wC.heap.size := by have := MT.out; have := b.size; omega
  clear BL MT SA SB SE hbb
  have BL := Lib.hid tBL
  have MT := Lib.hid tMT
  clear tBL tMT
  have tBZ := BZ.out.trans (b.mono BZ.out.size)
  have tXP := (b.block _ (heap_lt XP.out)).trans XP.out
  have tXO := (b.block _ (heap_lt XO.out)).trans XO.out
  have tXT := (b.block _ (heap_lt XT.out)).trans XT.out
  have tHP := (HP.out.below b).more b.size
  have tHO := (HO.out.below b).more b.size
  have tHT := (HT.out.below b).more b.size
  have tRT := rtB_below RT.out b
  have tSC := scB_below SC.out b
  clear BZ XP XO XT HP HO HT RT SC b
  have BZ := Lib.hid tBZ
  have XP := Lib.hid tXP
  have XO := Lib.hid tXO
  have XT := Lib.hid tXT
  have HP := Lib.hid tHP
  have HO := Lib.hid tHO
  have HT := Lib.hid tHT
  have RT := Lib.hid tRT
  have SC := Lib.hid tSC
  clear tBZ tXP tXO tXT tHP tHO tHT tRT tSC
  go_upto_region 5 with fail
  obtain ⟨k0, k1, k2, k3, k4, k5⟩ := cell6_of XP.out
  go_wp2_with fail
  refine (rtwin8_any _ p wC HP.out FP.out).mono ?_
  rintro e wD ⟨u2, u3, u4, u5, rfl, ho, b⟩
  obtain ⟨V2, e2, rfl⟩ := ho.secs.slice
  obtain ⟨V3, e3, rfl⟩ := ho.pts.slice
  obtain ⟨V4, e4, rfl⟩ := ho.sigs.slice
  obtain ⟨V5, e5, rfl⟩ := ho.routes.slice
  clear k0 k1 k2 k3 k4 k5
  obtain ⟨top, htop⟩ : ∃ x, x = wC.heap.size := ⟨_, rfl⟩
  have HWO : Hid (PlOwn wD top (.slice V2 p.secs.length e2) (.slice V3 p.pts.length e3) (.slice V4 p.sigs.length e4) (.slice V5 p.routes.length e5) p) := Lib.hid (by rw [htop]; exact ho)
  have HTM : Hid (mid ≤ top) := Lib.hid (by rw [htop]; exact MT.out)
  have tBL := BL.out.trans (b.mono (by have := HML.out; have := MT.out; omega))
  clear ho MT htop BL
  have BL := Lib.hid tBL
  clear tBL
  have tBZ := BZ.out.trans (b.mono BZ.out.size)
  have tXP := (b.block _ (heap_lt XP.out)).trans XP.out
  have tXO := (b.block _ (heap_lt XO.out)).trans XO.out
  have tXT := (b.block _ (heap_lt XT.out)).trans XT.out
  have tHP := (HP.out.below b).more b.size
  have tHO := (HO.out.below b).more b.size
  have tHT := (HT.out.below b).more b.size
  have tRT := rtB_below RT.out b
  have tSC := scB_below SC.out b
  clear BZ XP XO XT HP HO HT RT SC b
  have BZ := Lib.hid tBZ
  have XP := Lib.hid tXP
  have XO := Lib.hid tXO
  have XT := Lib.hid tXT
  have HP := Lib.hid tHP
  have HO := Lib.hid tHO
  have HT := Lib.hid tHT
  have RT := Lib.hid tRT
  have SC := Lib.hid tSC
  clear tBZ tXP tXO tXT tHP tHO tHT tRT tSC
  have hx := heap_alloc_self wD (.cells #[.int .i64 p.ver, .int .i64 p.par, .slice V2 p.secs.length e2, .slice V3 p.pts.length e3, .slice V4 p.sigs.length e4, .slice V5 p.routes.length e5] 30)
  have hb := below_new wD (.cells #[.int .i64 p.ver, .int .i64 p.par, .slice V2 p.secs.length e2, .slice V3 p.pts.length e3, .slice V4 p.sigs.length e4, .slice V5 p.routes.length e5] 30)
  obtain ⟨q5, hq⟩ : ∃ x, x = wD.alloc (.cells #[.int .i64 p.ver, .int .i64 p.par, .slice V2 p.secs.length e2, .slice V3 p.pts.length e3, .slice V4 p.sigs.length e4, .slice V5 p.routes.length e5] 30) := ⟨_, rfl⟩
  rw [← hq] at hx hb
  go_upto_region 6 with fail
  rw [← hq]
  have tMW : mid ≤ wD.heap.size := heap_lt XT.out |> Nat.le_of_lt
  have MW := Lib.hid tMW
  clear tMW
  have XW := Lib.hid hx
  have tBL := BL.out.trans (hb.mono (by have := HML.out; have := MW.out; omega))
  clear BL
  have BL := Lib.hid tBL
  clear tBL
  clear hx hq
  have tBZ := BZ.out.trans (hb.mono BZ.out.size)
  have tXP := (hb.block _ (heap_lt XP.out)).trans XP.out
  have tXO := (hb.block _ (heap_lt XO.out)).trans XO.out
  have tXT := (hb.block _ (heap_lt XT.out)).trans XT.out
  have tHP := (HP.out.below hb).more hb.size
  have tHO := (HO.out.below hb).more hb.size
  have tHT := (HT.out.below hb).more hb.size
  have tRT := rtB_below RT.out hb
  have tSC := scB_below SC.out hb
  have tHWO := HWO.out.below hb
  clear BZ XP XO XT HP HO HT RT SC HWO hb
  have BZ := Lib.hid tBZ
  have XP := Lib.hid tXP
  have XO := Lib.hid tXO
  have XT := Lib.hid tXT
  have HP := Lib.hid tHP
  have HO := Lib.hid tHO
  have HT := Lib.hid tHT
  have RT := Lib.hid tRT
  have SC := Lib.hid tSC
  have HWO := Lib.hid tHWO
  clear tBZ tXP tXO tXT tHP tHO tHT tRT tSC tHWO
  generalize wD.heap.size = pW at XW MW ⊢
  have INV : Hid (SInv w2 lo mid top pW p.secs.length p.routes.length U2 U5 #[.int .i64 p.ver, .int .i64 p.par, .slice U2 p.secs.length f2, .slice U3 p.pts.length f3, .slice U4 p.sigs.length f4, .slice U5 p.routes.length f5] #[.int .i64 p.ver, .int .i64 p.par, .slice V2 p.secs.length e2, .slice V3 p.pts.length e3, .slice V4 p.sigs.length e4, .slice V5 p.routes.length e5] (.slice V2 p.secs.length e2) (.slice V3 p.pts.length e3) (.slice V4 p.sigs.length e4) (.slice V5 p.routes.length e5) p q5) := Lib.hid ⟨RT.out, SC.out, XT.out, XW.out, HWO.out, BL.out, HTM.out, MW.out⟩
  have N5B : Hid (p.routes.length ≤ 9223372036854775807) := Lib.hid (by have := FP.out.routes; omega)
  have N2B : Hid (p.secs.length ≤ 9223372036854775807) := Lib.hid (by have := FP.out.secs.1; omega)
  obtain ⟨N5, hN5⟩ : ∃ n, n = p.routes.length := ⟨_, rfl⟩
  obtain ⟨N2, hN2⟩ : ∃ n, n = p.secs.length := ⟨_, rfl⟩
  have hm5 : N5 ≤ 9223372036854775807 := by rw [hN5]; exact N5B.out
  have hm2 : N2 ≤ 9223372036854775807 := by rw [hN2]; exact N2B.out
  have tINV := INV.out
  rw [← hN5, ← hN2] at tINV
  rw [← hN5, ← hN2]
  have IV := Lib.hid tINV
  have H5 := Lib.hid hN5
  have H2 := Lib.hid hN2
  clear INV tINV hN5 hN2 N5B N2B RT SC XT XW HWO BL HTM MW HT HO XO FP FO
  go_wp2_with fail
  go_loopw [8] (fun s8 wr => ∃ i : Nat, i ≤ N5 ∧ s8 = .int .i64 i ∧ SInv w2 lo mid top pW N2 N5 U2 U5 #[.int .i64 p.ver, .int .i64 p.par, .slice U2 N2 f2, .slice U3 p.pts.length f3, .slice U4 p.sigs.length f4, .slice U5 N5 f5] #[.int .i64 p.ver, .int .i64 p.par, .slice V2 N2 e2, .slice V3 p.pts.length e3, .slice V4 p.sigs.length e4, .slice V5 N5 e5] (.slice V2 N2 e2) (.slice V3 p.pts.length e3) (.slice V4 p.sigs.length e4) (.slice V5 N5 e5) p wr) (fun s8 _ => N5 - (intOf s8).toNat)
  case atStart => exact ⟨0, by omega, by go_num, IV.out⟩
  case round =>
    obtain ⟨i, hi, rfl, hinv⟩ := hrel
    have IW := Lib.hid hinv
    clear hinv IV
    obtain ⟨k0, k1, k2, k3, k4, k5⟩ := cell6_of IW.out.xt
    by_cases hlt : i < N5
    · have hlt2 : (i : Int) < N5 := by omega
      rcases IW.out.rt with h | ⟨g, cur, rfl, hlo, hcur, hz⟩
      · omega
      obtain ⟨⟨z, hz6⟩, D, m, c, h3, hmm, hI⟩ := hz i hlt
      have hg : wr.cell? ⟨g, i * 7 + 6, none⟩ = some (.int .i64 z) := by rw [cell_of_row _ _ _ _ _ _ hcur]; exact hz6
      have hf := frozen2_of hcur (i * 7 + 6)
      have IW2 := Lib.hid (fun x => IW.out.timer hlo hcur hz i x)
      have PC := Lib.hid (fun x : Int => (show (wr.setCell ⟨g, i * 7 + 6, none⟩ (.int .i64 x)).cell? ⟨g, i * 7 + 3, none⟩ = some (.slice D m c) from by rw [cell_of_row _ _ _ _ _ _ (heap_setK hcur _), Array.getElem?_setIfInBounds_ne (by omega)]; exact h3))
      have PI := Lib.hid (fun x : Int => intB_far hI hcur (by decide) (i * 7 + 6) (.int .i64 x))
      clear hz hcur hlo hz6 h3 hI
      go_wp2_with fail
      go_loopw [9] (fun s9 wr => ∃ k : Nat, k ≤ m ∧ s9 = .int .i64 k ∧ SInv w2 lo mid top pW N2 N5 U2 (some ⟨g, 0, none⟩) #[.int .i64 p.ver, .int .i64 p.par, .slice U2 N2 f2, .slice U3 p.pts.length f3, .slice U4 p.sigs.length f4, .slice (some ⟨g, 0, none⟩) N5 f5] #[.int .i64 p.ver, .int .i64 p.par, .slice V2 N2 e2, .slice V3 p.pts.length e3, .slice V4 p.sigs.length e4, .slice V5 N5 e5] (.slice V2 N2 e2) (.slice V3 p.pts.length e3) (.slice V4 p.sigs.length e4) (.slice V5 N5 e5) p wr ∧ wr.cell? ⟨g, i * 7 + 3, none⟩ = some (.slice D m c) ∧ IntB wr lo mid m D) (fun s9 _ => m - (intOf s9).toNat)
      case atStart => exact ⟨0, by omega, by go_num, IW2.out _, PC.out _, PI.out _⟩
      case round =>
        obtain ⟨k, hk, rfl, hinv2, hpc, hpi⟩ := hrel
        have JW := Lib.hid hinv2
        clear hinv2 IW IW2 PC PI k0 k1 k2 k3 k4 k5 hg hf
        obtain ⟨k0, k1, k2, k3, k4, k5⟩ := cell6_of JW.out.xt
        by_cases hl : k < m
        · have hl2 : (k : Int) < m := by omega
          rcases hpi with h | ⟨b, cb, rfl, hb1, hb2, hb3⟩
          · omega
          obtain ⟨y, hy⟩ := hb3 k hl
          have hg : wr.cell? ⟨b, k, none⟩ = some (.int .i64 y) := by rw [cell_of_row _ _ _ _ _ _ hb2]; exact hy
          have hf := frozen2_of hb2 k
          have JW2 := Lib.hid (fun x => JW.out.path hb1 hb2 k x)
          have JI := Lib.hid (fun x => intB_set (i := k) hb1 hb2 hb3 x)
          have JC := Lib.hid (fun x : Int => (show (wr.setCell ⟨b, k, none⟩ (.int .i64 x)).cell? ⟨g, i * 7 + 3, none⟩ = some (.slice (some ⟨b, 0, none⟩) m c) from by
            rcases JW.out.rt with h | ⟨g2, cur2, e2, -, h2, -⟩
            · omega
            · cases e2
              rw [cell_of_row _ _ _ _ _ _ ((heap_setFar wr b k g _ (block_ne h2 hb2 (by decide))).trans h2), ← cell_of_row _ _ _ _ _ _ h2]
              exact hpc))
          have HPC := hpc
          clear hb1 hb2 hb3 hy
          go_wp2_with fail
          go_roundw
          case measure => simp [intOf]; omega
          case rel => exact ⟨k + 1, by omega, by go_num, JW2.out _, JC.out _, JI.out _⟩
        · have hl2 : ¬ (k : Int) < m := by omega
          clear hpi
          go_wp2_with fail
          go_roundw
          case measure => simp [intOf]; omega
          case rel => exact ⟨i + 1, by omega, by go_num, JW.out⟩
    · have hlt2 : ¬ (i : Int) < N5 := by omega
      have IV3 := Lib.hid IW.out.done
      clear IW
      go_wp2_with fail
      clear k0 k1 k2 k3 k4 k5
      go_loopw [10] (fun s10 wr => ∃ i : Nat, i ≤ N2 ∧ s10 = .int .i64 i ∧ SInv w2 lo mid top pW N2 0 U2 U5 #[.int .i64 p.ver, .int .i64 p.par, .slice U2 N2 f2, .slice U3 p.pts.length f3, .slice U4 p.sigs.length f4, .slice U5 N5 f5] #[.int .i64 p.ver, .int .i64 p.par, .slice V2 N2 e2, .slice V3 p.pts.length e3, .slice V4 p.sigs.length e4, .slice V5 N5 e5] (.slice V2 N2 e2) (.slice V3 p.pts.length e3) (.slice V4 p.sigs.length e4) (.slice V5 N5 e5) p wr) (fun s10 _ => N2 - (intOf s10).toNat)
      case atStart => exact ⟨0, by omega, by go_num, IV3.out⟩
      case round =>
        obtain ⟨i2, hi2, rfl, hinv⟩ := hrel
        have IW := Lib.hid hinv
        clear hinv IV3
        obtain ⟨k0, k1, k2, k3, k4, k5⟩ := cell6_of IW.out.xt
        by_cases hlt3 : i2 < N2
        · have hlt4 : (i2 : Int) < N2 := by omega
          rcases IW.out.sc with h | ⟨g, cur, rfl, hlo, hcur, hz⟩
          · omega
          obtain ⟨D, m, c, h3, hmm, hI⟩ := hz i2 hlt3
          have PC := Lib.hid (show wr.cell? ⟨g, i2 * 3 + 2, none⟩ = some (.slice D m c) from by rw [cell_of_row _ _ _ _ _ _ hcur]; exact h3)
          have PI := Lib.hid hI
          clear hz hcur hlo h3 hI
          go_wp2_with fail
          go_loopw [11] (fun s11 wr => ∃ k : Nat, k ≤ m ∧ s11 = .int .i64 k ∧ SInv w2 lo mid top pW N2 0 (some ⟨g, 0, none⟩) U5 #[.int .i64 p.ver, .int .i64 p.par, .slice (some ⟨g, 0, none⟩) N2 f2, .slice U3 p.pts.length f3, .slice U4 p.sigs.length f4, .slice U5 N5 f5] #[.int .i64 p.ver, .int .i64 p.par, .slice V2 N2 e2, .slice V3 p.pts.length e3, .slice V4 p.sigs.length e4, .slice V5 N5 e5] (.slice V2 N2 e2) (.slice V3 p.pts.length e3) (.slice V4 p.sigs.length e4) (.slice V5 N5 e5) p wr ∧ wr.cell? ⟨g, i2 * 3 + 2, none⟩ = some (.slice D m c) ∧ ToB wr lo mid m D) (fun s11 _ => m - (intOf s11).toNat)
          case atStart => exact ⟨0, by omega, by go_num, IW.out, PC.out, PI.out⟩
          case round =>
            obtain ⟨k, hk, rfl, hinv2, hpc, hpi⟩ := hrel
            have JW := Lib.hid hinv2
            clear hinv2 IW PC PI k0 k1 k2 k3 k4 k5
            obtain ⟨k0, k1, k2, k3, k4, k5⟩ := cell6_of JW.out.xt
            by_cases hl : k < m
            · have hl2 : (k : Int) < m := by omega
              rcases hpi with h | ⟨b, cb, rfl, hb1, hb2, hb3⟩
              · omega
              obtain ⟨y, hy⟩ := hb3 k hl
              have hg : wr.cell? ⟨b, k * 2, none⟩ = some (.int .i64 y) := by rw [cell_of_row _ _ _ _ _ _ hb2]; exact hy
              have hf := frozen2_of hb2 (k * 2)
              have JW2 := Lib.hid (fun x => JW.out.to hb1 hb2 k x)
              have JI := Lib.hid (fun x => toB_set (i := k) hb1 hb2 hb3 x)
              have JC := Lib.hid (fun x : Int => (show (wr.setCell ⟨b, k * 2, none⟩ (.int .i64 x)).cell? ⟨g, i2 * 3 + 2, none⟩ = some (.slice (some ⟨b, 0, none⟩) m c) from by
                rcases JW.out.sc with h | ⟨g2, cur2, e2, -, h2, -⟩
                · omega
                · cases e2
                  rw [cell_of_row _ _ _ _ _ _ ((heap_setFar wr b (k * 2) g _ (block_ne h2 hb2 (by decide))).trans h2), ← cell_of_row _ _ _ _ _ _ h2]
                  exact hpc))
              have HPC := hpc
              clear hb1 hb2 hb3 hy
              go_wp2_with fail
              go_roundw
              case measure => simp [intOf]; omega
              case rel => exact ⟨k + 1, by omega, by go_num, JW2.out _, JC.out _, JI.out _⟩
            · have hl2 : ¬ (k : Int) < m := by omega
              clear hpi
              go_wp2_with fail
              go_roundw
              case measure => simp [intOf]; omega
              case rel => exact ⟨i2 + 1, by omega, by go_num, JW.out⟩
        · have hlt4 : ¬ (i2 : Int) < N2 := by omega
          clear k0 k1 k3 k4 k5
          obtain ⟨r0, r1, r2, r3, r4, r5⟩ := cell6_of IW.out.xw
          obtain ⟨j0, j1, j2, j3, j4, j5⟩ := cell6_of ((IW.out.bl.block _ XPL.out.1).trans X2P.out)
          go_wp2_with fail
          refine (rsame8_any _ _ p p wr ((HPL.out.below IW.out.bl).more (Nat.le_trans LO2.out IW.out.bl.size)) ⟨_, _, _, _, rfl, by rw [H2.out, H5.out]; have h := IW.out.ho.in_; rw [H2.out, H5.out] at h; exact h⟩).mono ?_
          rintro e wZ ⟨rfl, bZ⟩
          rw [eqB_true rfl]
          have bW : Below w.heap.size w wr := B2Z.out.trans (IW.out.bl.mono LO.out)
          have BL := Lib.hid (bW.trans (bZ.mono bW.size))
          clear bZ bW
          go_wp2_with fail
          go_ret
          exact ⟨rfl, BL.out⟩
end Go.Proofs.Ythlolpflgninjaa
