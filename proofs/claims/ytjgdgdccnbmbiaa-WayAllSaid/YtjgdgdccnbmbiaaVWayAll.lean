/-
  WayAll: the walk.
  Conditions: none.
-/
import Derived.Test.YtjgdgdccnbmbiaaVWayPQ
import Derived.Test.YtjgdgdccnbmbiaaVWayRefH
import Derived.Test.YtjgdgdccnbmbiaaVGWayM
import Derived.Test.YtjgdgdccnbmbiaaVGPlnRefB
import Derived.Test.YtjgdgdccnbmbiaaVGPlnRefD
set_option linter.unusedVariables false
set_option linter.unusedSimpArgs false
set_option maxRecDepth 100000
namespace Go.Proofs.Ytjgdgdccnbmbiaa
open Go.RowKit

theorem jsO_cells {lo : Nat} {W : World} {B : Nat} (c c' : Nat → Option Value) (x : List Jn) (h : ∀ k, k < 1 → c k = c' k) (hx : JsO lo W B c x) : JsO lo W B c' x := by
  obtain ⟨u, h0, hr⟩ := hx
  exact ⟨u, (h 0 (by omega)).symm.trans h0, hr⟩
theorem all_lens (p : Pl) : (allL p).length = (allW p).length ∧ (allW p).length ≤ p.routes.length := by
  rcases all_cases p with ⟨-, -, h1, h2⟩ | ⟨-, h1, h2⟩
  · rw [h1, h2, List.length_map, List.length_map]; exact ⟨rfl, Nat.le_refl _⟩
  · rw [h1, h2]; exact ⟨rfl, Nat.zero_le _⟩
set_option maxHeartbeats 16000000 in
theorem walk_way_all (v : Value) (p : Pl) (w : World) (h : PlanV w w.heap.size v p) :
    Calls Try.prog 5 #[v] w fun e w' => e = .returned (.bool true) ∧ Below w.heap.size w w' := by
  obtain ⟨y2, y3, y4, y5, rfl, hin⟩ := h
  have HIN0 := Lib.hid hin
  obtain ⟨A2, c2, rfl, -, -⟩ := hin.secs.slice
  obtain ⟨A3, c3, rfl, -, -⟩ := hin.pts.slice
  obtain ⟨A4, c4, rfl, -, -⟩ := hin.sigs.slice
  obtain ⟨A5, c5, rfl, hcl5, hcm5⟩ := hin.routes.slice
  obtain ⟨n2, hn2⟩ : ∃ n, n = p.secs.length := ⟨_, rfl⟩
  obtain ⟨n3, hn3⟩ : ∃ n, n = p.pts.length := ⟨_, rfl⟩
  obtain ⟨n4, hn4⟩ : ∃ n, n = p.sigs.length := ⟨_, rfl⟩
  obtain ⟨n5, hn5⟩ : ∃ n, n = p.routes.length := ⟨_, rfl⟩
  have HM5 : Hid (n5 ≤ 9223372036854775807) := Lib.hid (by rw [hn5]; unfold maxLen at hcm5; omega)
  have HN5 := Lib.hid hn5
  have HP0 : Hid (PlanV w w.heap.size (.agg #[.int .i64 p.ver, .int .i64 p.par, .slice A2 n2 c2, .slice A3 n3 c3, .slice A4 n4 c4, .slice A5 n5 c5]) p) := Lib.hid ⟨_, _, _, _, rfl, by rw [hn2, hn3, hn4, hn5]; exact HIN0.out⟩
  rw [← hn2, ← hn3, ← hn4, ← hn5]
  clear hn2 hn3 hn4 hn5 HIN0 hin hcl5 hcm5
  have hq0 := heap_alloc_self w (.cells #[.int .i64 p.ver, .int .i64 p.par, .slice A2 n2 c2, .slice A3 n3 c3, .slice A4 n4 c4, .slice A5 n5 c5] 31)
  have hqb := below_new w (.cells #[.int .i64 p.ver, .int .i64 p.par, .slice A2 n2 c2, .slice A3 n3 c3, .slice A4 n4 c4, .slice A5 n5 c5] 31)
  go_enter Try.func5, Try.ntmps5
  go_upto_region 1 with fail
  generalize w.alloc (.cells #[.int .i64 p.ver, .int .i64 p.par, .slice A2 n2 c2, .slice A3 n3 c3, .slice A4 n4 c4, .slice A5 n5 c5] 31) = q at hq0 hqb ⊢
  have BZ := Lib.hid hqb
  have XP := Lib.hid hq0
  have HP := Lib.hid ((HP0.out.below hqb).more hqb.size)
  clear hq0 hqb HP0
  obtain ⟨k0, k1, k2, k3, k4, k5⟩ := cell6_of XP.out
  go_wp2_with fail
  refine (rgreat8_any _ p q HP.out).mono ?_
  rintro e w1 ⟨⟨g, rfl, hg⟩, b1⟩
  clear k0 k1 k2 k3 k4 k5
  have tBZ := BZ.out.trans (b1.mono BZ.out.size)
  have tXP := (b1.block _ (heap_lt XP.out)).trans XP.out
  have tHP := (HP.out.below b1).more b1.size
  clear BZ XP HP b1
  have BZ := Lib.hid tBZ
  have XP := Lib.hid tXP
  have HP := Lib.hid tHP
  clear tBZ tXP tHP
  cases g with
  | true =>
    go_wp2_with fail
    go_ret
    exact ⟨rfl, BZ.out⟩
  | false =>
  have FEW := Lib.hid (hg rfl)
  clear hg
  obtain ⟨k0, k1, k2, k3, k4, k5⟩ := cell6_of XP.out
  go_wp2_with fail
  refine (rtwin8_any _ p w1 HP.out FEW.out).mono ?_
  rintro e w2 ⟨u2, u3, u4, u5, rfl, ho, b2⟩
  obtain ⟨O2, f2, rfl⟩ := ho.secs.slice
  obtain ⟨O3, f3, rfl⟩ := ho.pts.slice
  obtain ⟨O4, f4, rfl⟩ := ho.sigs.slice
  obtain ⟨O5, f5, rfl⟩ := ho.routes.slice
  have HO : Hid (PlanV w2 w2.heap.size (.agg #[.int .i64 p.ver, .int .i64 p.par, .slice O2 p.secs.length f2, .slice O3 p.pts.length f3, .slice O4 p.sigs.length f4, .slice O5 p.routes.length f5]) p) := Lib.hid ⟨_, _, _, _, rfl, ho.in_⟩
  clear ho k0 k1 k2 k3 k4 k5
  have tBZ := BZ.out.trans (b2.mono BZ.out.size)
  have tXP := (b2.block _ (heap_lt XP.out)).trans XP.out
  have tHP := (HP.out.below b2).more b2.size
  clear BZ XP HP b2
  have BZ := Lib.hid tBZ
  have XP := Lib.hid tXP
  have HP := Lib.hid tHP
  clear tBZ tXP tHP
  have XX0 := heap_alloc_self w2 (.cells #[.int .i64 0, .int .i64 0, .slice none 0 0, .slice none 0 0, .slice none 0 0, .slice none 0 0] 31)
  have hb1 := below_setRow (below_new w2 (.cells #[.int .i64 0, .int .i64 0, .slice none 0 0, .slice none 0 0, .slice none 0 0, .slice none 0 0] 31)) (Nat.le_refl _) #[.int .i64 p.ver, .int .i64 p.par, .slice O2 p.secs.length f2, .slice O3 p.pts.length f3, .slice O4 p.sigs.length f4, .slice O5 p.routes.length f5]
  have hx1 := setRow_heap (w2.alloc (.cells #[.int .i64 0, .int .i64 0, .slice none 0 0, .slice none 0 0, .slice none 0 0, .slice none 0 0] 31)) w2.heap.size _ #[.int .i64 p.ver, .int .i64 p.par, .slice O2 p.secs.length f2, .slice O3 p.pts.length f3, .slice O4 p.sigs.length f4, .slice O5 p.routes.length f5] 31 _ XX0
  go_upto_region 4 with ((with_reducible show wpList _ _ _ (⟨none, _, _, _, _, _⟩ :: _) _ _); refine wpList_store_rowS rfl _ (.tmp 3) (.tmp 14) rfl w2.heap.size rfl (c' := #[.int .i64 p.ver, .int .i64 p.par, .slice O2 p.secs.length f2, .slice O3 p.pts.length f3, .slice O4 p.sigs.length f4, .slice O5 p.routes.length f5]) rfl XX0 infoPlan6 rfl (by simp [Value.oneCell']) ?_)
  generalize (w2.alloc (.cells #[.int .i64 0, .int .i64 0, .slice none 0 0, .slice none 0 0, .slice none 0 0, .slice none 0 0] 31)).setRow w2.heap.size #[.int .i64 p.ver, .int .i64 p.par, .slice O2 p.secs.length f2, .slice O3 p.pts.length f3, .slice O4 p.sigs.length f4, .slice O5 p.routes.length f5] = q1 at hb1 hx1 ⊢
  obtain ⟨p3, hp1⟩ : ∃ n, n = w2.heap.size := ⟨_, rfl⟩
  rw [← hp1] at hx1 ⊢
  have XO := Lib.hid hx1
  clear hx1 XX0 hp1
  have tBZ := BZ.out.trans (hb1.mono BZ.out.size)
  have tXP := (hb1.block _ (heap_lt XP.out)).trans XP.out
  have tHP := (HP.out.below hb1).more hb1.size
  have tHO := (HO.out.below hb1).more hb1.size
  clear BZ XP HP HO hb1
  have BZ := Lib.hid tBZ
  have XP := Lib.hid tXP
  have HP := Lib.hid tHP
  have HO := Lib.hid tHO
  clear tBZ tXP tHP tHO
  obtain ⟨l, hl⟩ : ∃ l, l = allW p := ⟨_, rfl⟩
  obtain ⟨m, hm⟩ : ∃ l, l = allL p := ⟨_, rfl⟩
  obtain ⟨E, hE⟩ : ∃ E, E = allE p := ⟨_, rfl⟩
  obtain ⟨nw, hnw⟩ : ∃ n, n = l.length := ⟨_, rfl⟩
  have HNJ : Hid (nw = m.length ∧ nw = l.length ∧ nw ≤ n5) := Lib.hid (by
    have h := all_lens p
    rw [← hl, ← hm, ← hnw] at h
    have := HN5.out
    exact ⟨h.1.symm, hnw, by omega⟩)
  have HQ : Hid (allW p = l ∧ allL p = m ∧ allE p = E) := Lib.hid ⟨hl.symm, hm.symm, hE.symm⟩
  clear hl hm hE hnw
  obtain ⟨k0, k1, k2, k3, k4, k5⟩ := cell6_of XO.out
  go_wp2_with fail
  refine (pall_any _ p q1 HO.out).mono ?_
  rintro e w3 ⟨u1, u2, rfl, hw, hj, b⟩
  rw [HQ.out.1] at hw
  rw [HQ.out.2.1] at hj
  rw [HQ.out.2.2]
  obtain ⟨PA, pc, rfl⟩ := hw.slice
  obtain ⟨PB, pd, rfl⟩ := hj.slice
  rw [← HNJ.out.2.1] at hw ⊢
  rw [← HNJ.out.1] at hj ⊢
  have PW := Lib.hid hw
  have PJ := Lib.hid hj
  clear hw hj k0 k1 k2 k3 k4 k5
  have tBZ := BZ.out.trans (b.mono BZ.out.size)
  have tXP := (b.block _ (heap_lt XP.out)).trans XP.out
  have tHP := (HP.out.below b).more b.size
  have tHO := (HO.out.below b).more b.size
  have tXO := (b.block _ (heap_lt XO.out)).trans XO.out
  clear BZ XP HP HO XO b
  have BZ := Lib.hid tBZ
  have XP := Lib.hid tXP
  have HP := Lib.hid tHP
  have HO := Lib.hid tHO
  have XO := Lib.hid tXO
  clear tBZ tXP tHP tHO tXO
  obtain ⟨k0, k1, k2, k3, k4, k5⟩ := cell6_of XP.out
  go_wp2_with fail
  refine (rall_any _ p w3 HP.out).mono ?_
  rintro e w4 ⟨u1, u2, rfl, hw, hj, b⟩
  rw [HQ.out.1] at hw
  rw [HQ.out.2.1] at hj
  rw [HQ.out.2.2]
  obtain ⟨DA, dc, rfl⟩ := hw.slice
  obtain ⟨DB, dd, rfl⟩ := hj.slice
  rw [← HNJ.out.2.1] at hw ⊢
  rw [← HNJ.out.1] at hj ⊢
  have DW := Lib.hid hw
  have DJ := Lib.hid hj
  clear hw hj k0 k1 k2 k3 k4 k5
  have tBZ := BZ.out.trans (b.mono BZ.out.size)
  have tXP := (b.block _ (heap_lt XP.out)).trans XP.out
  have tHP := (HP.out.below b).more b.size
  have tHO := (HO.out.below b).more b.size
  have tXO := (b.block _ (heap_lt XO.out)).trans XO.out
  have tPW := PW.out.below (wayO _) b
  have tPJ := PJ.out.below (jsO _) b
  clear BZ XP HP HO XO PW PJ b
  have BZ := Lib.hid tBZ
  have XP := Lib.hid tXP
  have HP := Lib.hid tHP
  have HO := Lib.hid tHO
  have XO := Lib.hid tXO
  have PW := Lib.hid tPW
  have PJ := Lib.hid tPJ
  clear tBZ tXP tHP tHO tXO tPW tPJ
  have he : (E != E) = false := by simp
  have hnn : ((nw : Int) != (nw : Int)) = false := by simp
  obtain ⟨k0, k1, k2, k3, k4, k5⟩ := cell6_of XP.out
  obtain ⟨m0, m1, m2, m3, m4, m5⟩ := cell6_of XO.out
  go_wp2_with fail
  refine (rsame8_any _ _ p p w4 HO.out HP.out).mono ?_
  rintro e wZ ⟨rfl, b⟩
  rw [eqB_true rfl]
  clear k0 k1 k2 k3 k4 k5 m0 m1 m2 m3 m4 m5
  have tBZ := BZ.out.trans (b.mono BZ.out.size)
  have tXP := (b.block _ (heap_lt XP.out)).trans XP.out
  have tHP := (HP.out.below b).more b.size
  have tHO := (HO.out.below b).more b.size
  have tXO := (b.block _ (heap_lt XO.out)).trans XO.out
  have tPW := PW.out.below (wayO _) b
  have tPJ := PJ.out.below (jsO _) b
  have tDW := DW.out.below (wayO _) b
  have tDJ := DJ.out.below (jsO _) b
  clear BZ XP HP HO XO PW PJ DW DJ b
  have BZ := Lib.hid tBZ
  have XP := Lib.hid tXP
  have HP := Lib.hid tHP
  have HO := Lib.hid tHO
  have XO := Lib.hid tXO
  have PW := Lib.hid tPW
  have PJ := Lib.hid tPJ
  have DW := Lib.hid tDW
  have DJ := Lib.hid tDJ
  clear tBZ tXP tHP tHO tXO tPW tPJ tDW tDJ
  have hn9 : nw ≤ 9223372036854775807 := by have := HM5.out; have := HNJ.out.2.2; omega
  go_wp2_with fail
  clear he hnn
  go_loopw [10] (fun s10 wr => ∃ i : Nat, i ≤ nw ∧ s10 = .int .i64 i ∧ Below wZ.heap.size wZ wr) (fun s10 _ => nw - (intOf s10).toNat)
  case atStart => exact ⟨0, by omega, by go_num, Below.refl _ _⟩
  case round =>
    obtain ⟨i, hi, rfl, hb⟩ := hrel
    have BW := Lib.hid hb
    clear hb
    by_cases hlt : i < nw
    · have hlt' : (i : Int) < nw := by omega
      have hil : i < l.length := by have := HNJ.out; omega
      have hij : i < m.length := by have := HNJ.out; omega
      obtain ⟨pb, po, e, -, ph3, pu0, pu1, pu2, ph0, ph1, ph2, pw, -⟩ := ((PW.out.below (wayO _) BW.out).in_ wayO_cells).at hil
      cases e
      obtain ⟨gb, go, e, -, gh3, gu0, gu1, gu2, gh0, gh1, gh2, gw, -⟩ := ((DW.out.below (wayO _) BW.out).in_ wayO_cells).at hil
      cases e
      obtain ⟨rb, ro, e, -, ru, rh0, rw_, -⟩ := ((PJ.out.below (jsO _) BW.out).in_ jsO_cells).at hij
      cases e
      obtain ⟨sb, so, e, -, su, sh0, sw_, -⟩ := ((DJ.out.below (jsO _) BW.out).in_ jsO_cells).at hij
      cases e
      obtain ⟨x, hx⟩ : ∃ x, x = l[i] := ⟨_, rfl⟩
      obtain ⟨y, hy⟩ : ∃ y, y = m[i] := ⟨_, rfl⟩
      rw [← hx] at ph3 pw gh3 gw
      rw [← hy] at rw_ sw_
      have WP : Hid (WayV wr wr.heap.size (.agg #[pu0, pu1, pu2, .int .i64 x.near]) x) := Lib.hid ⟨_, _, _, rfl, pw.in_⟩
      have pc0 : wr.cell? ⟨pb, po + i * 4, none⟩ = some (pu0) := ph0
      have pc1 : wr.cell? ⟨pb, po + i * 4 + 1, none⟩ = some (pu1) := ph1
      have pc2 : wr.cell? ⟨pb, po + i * 4 + 2, none⟩ = some (pu2) := ph2
      have pc3 : wr.cell? ⟨pb, po + i * 4 + 3, none⟩ = some (.int .i64 x.near) := ph3
      have CP := Lib.hid (And.intro pc0 (And.intro pc1 (And.intro pc2 pc3)))
      clear ph0 ph1 ph2 ph3 pw pc0 pc1 pc2 pc3
      have WG : Hid (WayV wr wr.heap.size (.agg #[gu0, gu1, gu2, .int .i64 x.near]) x) := Lib.hid ⟨_, _, _, rfl, gw.in_⟩
      have gc0 : wr.cell? ⟨gb, go + i * 4, none⟩ = some (gu0) := gh0
      have gc1 : wr.cell? ⟨gb, go + i * 4 + 1, none⟩ = some (gu1) := gh1
      have gc2 : wr.cell? ⟨gb, go + i * 4 + 2, none⟩ = some (gu2) := gh2
      have gc3 : wr.cell? ⟨gb, go + i * 4 + 3, none⟩ = some (.int .i64 x.near) := gh3
      have CG := Lib.hid (And.intro gc0 (And.intro gc1 (And.intro gc2 gc3)))
      clear gh0 gh1 gh2 gh3 gw gc0 gc1 gc2 gc3
      have WR : Hid (JoinsIn wr wr.heap.size ru y) := Lib.hid (rw_.in_ joinR_cells)
      have rc0 : wr.cell? ⟨rb, ro + i, none⟩ = some ru := by have h := rh0; simpa using h
      have CR := Lib.hid rc0
      clear rh0 rw_ rc0
      have WS : Hid (JoinsIn wr wr.heap.size su y) := Lib.hid (sw_.in_ joinR_cells)
      have sc0 : wr.cell? ⟨sb, so + i, none⟩ = some su := by have h := sh0; simpa using h
      have CS := Lib.hid sc0
      clear sh0 sw_ sc0
      clear hx hy
      go_upto_region 11 with fail
      refine wp_region_held_drew (S := fun v => Below wr.heap.size wr v) (by kernel_rfl) (Below.refl wr.heap.size wr).drew (fun hHeld => ?_)
      refine tkH 0 ?_ rfl hHeld ?_ ?_
      rotate_left
      · intro w' hSw; go_simp; try with_reducible rfl
      simp only [zn, Act.put]
      refine tkH 1 ?_ rfl hHeld ?_ ?_
      rotate_left
      · intro w' hSw; go_simp; try with_reducible rfl
      simp only [zn, Act.put]
      refine tkH 2 ?_ rfl hHeld ?_ ?_
      rotate_left
      · intro w' hSw; go_simp; try with_reducible rfl
      simp only [zn, Act.put]
      refine tkH 3 ?_ rfl hHeld ?_ ?_
      rotate_left
      · intro w' hSw; have cw0 := (hSw.cell (cell_lt CP.out.1)).trans CP.out.1; have cw1 := (hSw.cell (cell_lt CP.out.2.1)).trans CP.out.2.1; have cw2 := (hSw.cell (cell_lt CP.out.2.2.1)).trans CP.out.2.2.1; have cw3 := (hSw.cell (cell_lt CP.out.2.2.2)).trans CP.out.2.2.2; go_simp; try with_reducible rfl
      simp only [zn, Act.put]
      refine tkH 4 ?_ rfl hHeld ?_ ?_
      rotate_left
      · intro w' hSw; go_simp; try with_reducible rfl
      simp only [zn, Act.put]
      refine tkH 5 ?_ rfl hHeld ?_ ?_
      rotate_left
      · intro w' hSw; go_simp; try with_reducible rfl
      simp only [zn, Act.put]
      refine tkH 6 ?_ rfl hHeld ?_ ?_
      rotate_left
      · intro w' hSw; go_simp; try with_reducible rfl
      simp only [zn, Act.put]
      refine tkH 7 ?_ rfl hHeld ?_ ?_
      rotate_left
      · intro w' hSw; have cw0 := (hSw.cell (cell_lt CG.out.1)).trans CG.out.1; have cw1 := (hSw.cell (cell_lt CG.out.2.1)).trans CG.out.2.1; have cw2 := (hSw.cell (cell_lt CG.out.2.2.1)).trans CG.out.2.2.1; have cw3 := (hSw.cell (cell_lt CG.out.2.2.2)).trans CG.out.2.2.2; go_simp; try with_reducible rfl
      simp only [zn, Act.put]
      refine wpAnyH_ready (rs := [8]) (by kernel_rfl) (by simp) ?_
      refine AllReadyH.cons rfl (fun K hK => ?_) AllReadyH.nil
      go_simp
      refine (rsame9_any _ _ x x wr.drew ((WP.out.below ((Below.refl wr.heap.size wr).drew)).more ((Below.refl wr.heap.size wr).drew).size) ((WG.out.below ((Below.refl wr.heap.size wr).drew)).more ((Below.refl wr.heap.size wr).drew).size)).mono ?_
      rintro e wA ⟨rfl, b⟩
      rw [eqB_true rfl]
      have SA : Hid (Below wr.heap.size wr wA) := Lib.hid (((Below.refl wr.heap.size wr).drew).trans (b.mono ((Below.refl wr.heap.size wr).drew).size))
      clear b
      try go_wp2_with fail
      refine hK.out _ _ ?_ (fun hHeld => ?_)
      · exact SA.out
      clear hK K
      try simp only [zn, Act.put]
      refine tkH 9 ?_ rfl hHeld ?_ ?_
      rotate_left
      · intro w' hSw; go_simp; try with_reducible rfl
      simp only [zn, Act.put]
      refine tkH 10 ?_ rfl hHeld ?_ ?_
      rotate_left
      · intro w' hSw; go_simp; try with_reducible rfl
      simp only [zn, Act.put]
      refine tkH 11 ?_ rfl hHeld ?_ ?_
      rotate_left
      · intro w' hSw; go_simp; try with_reducible rfl
      simp only [zn, Act.put]
      refine tkH 12 ?_ rfl hHeld ?_ ?_
      rotate_left
      · intro w' hSw; go_simp; try with_reducible rfl
      simp only [zn, Act.put]
      refine tkH 13 ?_ rfl hHeld ?_ ?_
      rotate_left
      · intro w' hSw; go_simp; try with_reducible rfl
      simp only [zn, Act.put]
      refine tkH 14 ?_ rfl hHeld ?_ ?_
      rotate_left
      · intro w' hSw; have cj := (hSw.cell (cell_lt CR.out)).trans CR.out; go_simp; try with_reducible rfl
      simp only [zn, Act.put]
      refine tkH 15 ?_ rfl hHeld ?_ ?_
      rotate_left
      · intro w' hSw; go_simp; try with_reducible rfl
      simp only [zn, Act.put]
      refine tkH 16 ?_ rfl hHeld ?_ ?_
      rotate_left
      · intro w' hSw; go_simp; try with_reducible rfl
      simp only [zn, Act.put]
      refine tkH 17 ?_ rfl hHeld ?_ ?_
      rotate_left
      · intro w' hSw; go_simp; try with_reducible rfl
      simp only [zn, Act.put]
      refine tkH 18 ?_ rfl hHeld ?_ ?_
      rotate_left
      · intro w' hSw; have cj := (hSw.cell (cell_lt CS.out)).trans CS.out; go_simp; try with_reducible rfl
      simp only [zn, Act.put]
      refine wpAnyH_ready (rs := [19]) (by kernel_rfl) (by simp) ?_
      refine AllReadyH.cons rfl (fun K hK => ?_) AllReadyH.nil
      go_simp
      refine (rsamejoins_any _ _ y y wA ((WR.out.below joinR (SA.out)).more joinR (SA.out).size) ((WS.out.below joinR (SA.out)).more joinR (SA.out).size)).mono ?_
      rintro e wB ⟨rfl, b⟩
      rw [eqB_true rfl]
      have SB : Hid (Below wr.heap.size wr wB) := Lib.hid ((SA.out).trans (b.mono (SA.out).size))
      clear b
      try go_wp2_with fail
      refine hK.out _ _ ?_ (fun hHeld => ?_)
      · exact SB.out
      clear hK K
      try simp only [zn, Act.put]
      refine tkH 20 ?_ rfl hHeld ?_ ?_
      rotate_left
      · intro w' hSw; go_simp; try with_reducible rfl
      simp only [zn, Act.put]
      refine tkH 21 ?_ rfl hHeld ?_ ?_
      rotate_left
      · intro w' hSw; go_simp; try with_reducible rfl
      simp only [zn, Act.put]
      refine wpAnyH_done (by kernel_rfl) ?_ _
      have BR : Hid (Below wZ.heap.size wZ wB) := Lib.hid (BW.out.trans (SB.out.mono BW.out.size))
      go_wp2_with fail
      go_roundw
      case measure => simp [intOf]; omega
      case rel => exact ⟨i + 1, by omega, by go_num, BR.out⟩
    · have hlt' : ¬ ((i : Int) < nw) := by omega
      go_wp2_with fail
      go_ret
      exact ⟨rfl, BZ.out.trans (BW.out.mono BZ.out.size)⟩
end Go.Proofs.Ytjgdgdccnbmbiaa
