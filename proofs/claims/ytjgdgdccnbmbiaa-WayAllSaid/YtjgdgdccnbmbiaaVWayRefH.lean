/-
  The document's own function of package way: All.
  Conditions: none.
-/
import Derived.Test.YtjgdgdccnbmbiaaVGWayRefF
import Derived.Test.YtjgdgdccnbmbiaaVWayAllF
set_option linter.unusedVariables false
set_option linter.unusedSimpArgs false
set_option maxRecDepth 100000
namespace Go.Proofs.Ytjgdgdccnbmbiaa
open Go.RowKit

set_option maxHeartbeats 16000000 in
theorem rall_any (v : Value) (p : Pl) (w : World) (h : PlanV w w.heap.size v p) :
    Calls Try.prog 22 #[v] w fun e w' => ∃ u1 u2, e = .returned (.tuple #[u1, u2, .int .i64 (allE p)]) ∧ WaysOwn w' w.heap.size u1 (allW p) ∧ JssOwn w' w.heap.size u2 (allL p) ∧ Below w.heap.size w w' := by
  obtain ⟨y2, y3, y4, y5, rfl, hin⟩ := h
  have HIN0 := Lib.hid hin
  obtain ⟨A2, c2, rfl, hcl2, hcm2⟩ := hin.secs.slice
  obtain ⟨A3, c3, rfl, hcl3, hcm3⟩ := hin.pts.slice
  obtain ⟨A4, c4, rfl, hcl4, hcm4⟩ := hin.sigs.slice
  obtain ⟨A5, c5, rfl, hcl5, hcm5⟩ := hin.routes.slice
  unfold maxLen at hcm2 hcm3 hcm4 hcm5
  obtain ⟨n2, hn2⟩ : ∃ n, n = p.secs.length := ⟨_, rfl⟩
  obtain ⟨n3, hn3⟩ : ∃ n, n = p.pts.length := ⟨_, rfl⟩
  obtain ⟨n4, hn4⟩ : ∃ n, n = p.sigs.length := ⟨_, rfl⟩
  obtain ⟨n5, hn5⟩ : ∃ n, n = p.routes.length := ⟨_, rfl⟩
  have hm2 : n2 ≤ 9223372036854775807 := by omega
  have hm3 : n3 ≤ 9223372036854775807 := by omega
  have hm4 : n4 ≤ 9223372036854775807 := by omega
  have hm5 : n5 ≤ 9223372036854775807 := by omega
  have HCP : Hid (n2 ≤ c2 ∧ n3 ≤ c3 ∧ n4 ≤ c4 ∧ n5 ≤ c5) := Lib.hid (by omega)
  have HIN : Hid (PlIn w w.heap.size (.slice A2 n2 c2) (.slice A3 n3 c3) (.slice A4 n4 c4) (.slice A5 n5 c5) p) := Lib.hid (by rw [hn2, hn3, hn4, hn5]; exact HIN0.out)
  have HN : Hid (n2 = p.secs.length ∧ n3 = p.pts.length ∧ n4 = p.sigs.length ∧ n5 = p.routes.length) := Lib.hid ⟨hn2, hn3, hn4, hn5⟩
  rw [← hn2, ← hn3, ← hn4, ← hn5]
  clear hn2 hn3 hn4 hn5 HIN0 hin hcl2 hcm2 hcl3 hcm3 hcl4 hcm4 hcl5 hcm5
  obtain ⟨i0, hi, hz0, hz1, hz2⟩ := info_parts infoWayF
  have I0 := Lib.hid hi
  have I1 := Lib.hid hz0
  have I2 := Lib.hid hz1
  have I3 := Lib.hid hz2
  clear hi hz0 hz1 hz2
  obtain ⟨j0_, hi, hz0, hz1, hz2⟩ := info_parts infoJsF
  have K0 := Lib.hid hi
  have K1 := Lib.hid hz0
  have K2 := Lib.hid hz1
  have K3 := Lib.hid hz2
  clear hi hz0 hz1 hz2
  have hq0 := heap_alloc_self w (.cells #[.int .i64 p.ver, .int .i64 p.par, .slice A2 n2 c2, .slice A3 n3 c3, .slice A4 n4 c4, .slice A5 n5 c5] 31)
  have hqb := below_new w (.cells #[.int .i64 p.ver, .int .i64 p.par, .slice A2 n2 c2, .slice A3 n3 c3, .slice A4 n4 c4, .slice A5 n5 c5] 31)
  go_enter Try.func22, Try.ntmps22
  go_upto_region 1 with fail
  generalize w.alloc (.cells #[.int .i64 p.ver, .int .i64 p.par, .slice A2 n2 c2, .slice A3 n3 c3, .slice A4 n4 c4, .slice A5 n5 c5] 31) = q at hq0 hqb ⊢
  have XP := Lib.hid hq0
  have BQ := Lib.hid hqb
  clear hq0 hqb
  obtain ⟨k0, k1, k2, k3, k4, k5⟩ := cell6_of XP.out
  go_wp2_with fail
  refine (rmay8_any _ p q ⟨_, _, _, _, rfl, (HIN.out.below BQ.out).more BQ.out.size⟩).mono ?_
  rintro e w1 ⟨rfl, b1⟩
  have X1 := Lib.hid ((b1.block _ (heap_lt XP.out)).trans XP.out)
  have B1 := Lib.hid (BQ.out.trans (b1.mono BQ.out.size))
  clear b1 k0 k1 k2 k3 k4 k5
  cases hpm : planMay p with
  | false =>
    have AE : Hid (allE p = 8) := Lib.hid (all_not hpm)
    have AC := Lib.hid (all_cases p)
    clear hpm
    go_wp2_with fail
    go_ret3
    refine ⟨_, _, by rw [AE.out]; rfl, ?_, ?_, B1.out⟩
    · rcases AC.out with ⟨h, -⟩ | ⟨-, h, -⟩
      · rw [AE.out] at h; omega
      · rw [h]; exact ListOwn.nil_
    · rcases AC.out with ⟨h, -⟩ | ⟨-, -, h⟩
      · rw [AE.out] at h; omega
      · rw [h]; exact ListOwn.nil_
  | true =>
  have HPM := Lib.hid (planMay_iff.1 hpm)
  have HM := Lib.hid HPM.out.n
  clear hpm
  have HI := Lib.hid ((HIN.out.below B1.out).more B1.out.size)
  go_wp2_with fail
  go_loopw [5, 6, 7] (fun s5 s6 s7 wr => ∃ (i : Nat) (sa sb : Value), i ≤ n5 ∧ s7 = .int .i64 i ∧ sa = s5 ∧ sb = s6 ∧ WaysOwn wr w1.heap.size sa ((p.routes.map (wayR p)).take i) ∧ JssOwn wr w1.heap.size sb ((p.routes.map (leftR p)).take i) ∧ (∀ k (hk : k < p.routes.length), k < i → Hangs p p.routes[k]) ∧ Below w1.heap.size w1 wr) (fun _ _ s7 _ => n5 - (intOf s7).toNat)
  case atStart => exact ⟨0, _, _, by omega, by go_num, rfl, rfl, ListOwn.nil_, ListOwn.nil_, fun k _ h => absurd h (by omega), Below.refl _ _⟩
  case round =>
    obtain ⟨i, sa, sb, hi, rfl, rfl, rfl, hw5, hj6, hgd, hb⟩ := hrel
    have W5 := Lib.hid hw5
    have J6 := Lib.hid hj6
    have GD := Lib.hid hgd
    have BW := Lib.hid hb
    clear hw5 hj6 hgd hb
    have XR := Lib.hid ((BW.out.block _ (heap_lt X1.out)).trans X1.out)
    by_cases hlt : i < n5
    · have hlt' : (i : Int) < n5 := by omega
      have hil : i < p.routes.length := by have := HN.out; omega
      have HI16 : Hid (i < 16) := Lib.hid (by have := HM.out; omega)
      have HIr := Lib.hid ((HI.out.below BW.out).more BW.out.size)
      obtain ⟨br, ofr, rfl, hbr, g0, -⟩ := HIr.out.routes.at hil
      obtain ⟨id, hid⟩ : ∃ id, id = p.routes[i].id := ⟨_, rfl⟩
      rw [← hid] at g0
      have hr0 : wr.cell? ⟨br, ofr + i * 7, none⟩ = some (.int .i64 id) := g0
      have HR0 := Lib.hid hr0
      obtain ⟨x, hx⟩ : ∃ x, x = wayV p id := ⟨_, rfl⟩
      obtain ⟨y, hy⟩ : ∃ y, y = leftV p id := ⟨_, rfl⟩
      obtain ⟨E, hE⟩ : ∃ E, E = wayE p id := ⟨_, rfl⟩
      have HXE : Hid (wayV p id = x ∧ wayE p id = E ∧ leftV p id = y) := Lib.hid ⟨hx.symm, hE.symm, hy.symm⟩
      have HWA : Hid ((Hangs p p.routes[i] ∧ E = 0 ∧ x = wayR p p.routes[i] ∧ y = leftR p p.routes[i]) ∨ (¬ Hangs p p.routes[i] ∧ E = 90)) := Lib.hid (by
        rcases way_at HPM.out hil hid.symm with ⟨h1, h2, h3, h4⟩ | ⟨h1, h2⟩
        · exact .inl ⟨h1, hE.trans h2, hx.trans h3, hy.trans h4⟩
        · exact .inr ⟨h1, hE.trans h2⟩)
      obtain ⟨z0, hz0⟩ : ∃ n, n = x.path.length := ⟨_, rfl⟩
      obtain ⟨z1, hz1⟩ : ∃ n, n = x.over.length := ⟨_, rfl⟩
      obtain ⟨z2, hz2⟩ : ∃ n, n = x.asks.length := ⟨_, rfl⟩
      obtain ⟨nu, hnu⟩ : ∃ n, n = y.length := ⟨_, rfl⟩
      have HZ : Hid (z0 = x.path.length ∧ z1 = x.over.length ∧ z2 = x.asks.length ∧ nu = y.length) := Lib.hid ⟨hz0, hz1, hz2, hnu⟩
      clear hx hy hE hid hz0 hz1 hz2 hnu g0 hbr
      obtain ⟨k0, k1, k2, k3, k4, k5⟩ := cell6_of XR.out
      go_upto_region 8 with fail
      clear k0 k1 k2 k3 k4 k5
      go_cut [8, 9] from 22 to 32 (fun s8 s9 wx => ∃ p8 U0 f0 U1 f1 U2 f2, s8 = .pointer (some ⟨p8, 0, none⟩) ∧ s9 = .int .i64 E ∧ wx.heap[p8]? = some (.cells #[.slice U0 z0 f0, .slice U1 z1 f1, .slice U2 z2 f2, .int .i64 x.near] 36 (0, 0)) ∧ WyOwn wx wr.heap.size (.slice U0 z0 f0) (.slice U1 z1 f1) (.slice U2 z2 f2) x ∧ Below wr.heap.size wr wx)
      case first =>
        refine wp_region_held_drew (S := fun v => Below wr.heap.size wr v) (by kernel_rfl) (Below.refl wr.heap.size wr).drew (fun hHeld => ?_)
        refine tkH 0 ?_ rfl hHeld ?_ ?_
        rotate_left
        · intro w' hSw; obtain ⟨cv0, cv1, cv2, cv3, cv4, cv5⟩ := cell6_of ((hSw.block _ (heap_lt XR.out)).trans XR.out); go_simp; try with_reducible rfl
        simp only [zn, Act.put]
        refine tkH 1 ?_ rfl hHeld ?_ ?_
        rotate_left
        · intro w' hSw; go_simp; try with_reducible rfl
        simp only [zn, Act.put]
        refine tkH 2 ?_ rfl hHeld ?_ ?_
        rotate_left
        · intro w' hSw; obtain ⟨cv0, cv1, cv2, cv3, cv4, cv5⟩ := cell6_of ((hSw.block _ (heap_lt XR.out)).trans XR.out); go_simp; try with_reducible rfl
        simp only [zn, Act.put]
        refine tkH 3 ?_ rfl hHeld ?_ ?_
        rotate_left
        · intro w' hSw; go_simp; try with_reducible rfl
        simp only [zn, Act.put]
        refine tkH 4 ?_ rfl hHeld ?_ ?_
        rotate_left
        · intro w' hSw; go_simp; try with_reducible rfl
        simp only [zn, Act.put]
        refine tkH 5 ?_ rfl hHeld ?_ ?_
        rotate_left
        · intro w' hSw; go_simp; try with_reducible rfl
        simp only [zn, Act.put]
        refine tkH 6 ?_ rfl hHeld ?_ ?_
        rotate_left
        · intro w' hSw; have cl := (hSw.cell (cell_lt HR0.out)).trans HR0.out; go_simp; try with_reducible rfl
        simp only [zn, Act.put]
        have tb := (Below.refl wr.heap.size wr).drew
        generalize wr.drew = q0_ at tb hHeld ⊢
        have HB := Lib.hid tb
        clear tb
        refine wpAnyH_ready (rs := [7, 11]) (by kernel_rfl) (by simp) ?_
        refine AllReadyH.cons rfl (fun K hK => ?_) (AllReadyH.cons rfl (fun K hK => ?_) AllReadyH.nil)
        · go_simp
          refine (rof_any _ p id q0_ ⟨_, _, _, _, rfl, (HIr.out.below HB.out).more HB.out.size⟩).mono ?_
          rintro e qA_ ⟨u0, u1, u2, rfl, hu_, b⟩
          rw [HXE.out.1] at hu_
          rw [HXE.out.1, HXE.out.2.1]
          obtain ⟨U0, f0, rfl⟩ := hu_.path.slice
          obtain ⟨U1, f1, rfl⟩ := hu_.over.slice
          obtain ⟨U2, f2, rfl⟩ := hu_.asks.slice
          have hu0 := hu_.mono HB.out.size
          clear hu_
          rw [← HZ.out.1, ← HZ.out.2.1, ← HZ.out.2.2.1] at hu0 ⊢
          have HB' := Lib.hid (HB.out.trans (b.mono HB.out.size))
          have OU : Hid (WyOwn qA_ wr.heap.size (.slice U0 z0 f0) (.slice U1 z1 f1) (.slice U2 z2 f2) x) := Lib.hid hu0
          clear hu0
          clear HB
          have HB := HB'
          clear HB' b
          try go_wp2_with fail
          refine hK.out _ _ ?_ (fun hHeld => ?_)
          · exact HB.out
          clear hK K
          try simp only [zn, Act.put]
          refine tkH 8 ?_ rfl hHeld ?_ ?_
          rotate_left
          · intro w' hSw; go_simp; try with_reducible rfl
          simp only [zn, Act.put]
          refine tkH 9 ?_ rfl hHeld ?_ ?_
          rotate_left
          · intro w' hSw; go_simp; try with_reducible rfl
          simp only [zn, Act.put]
          refine tkH 10 ?_ rfl hHeld ?_ ?_
          rotate_left
          · intro w' hSw; go_simp; try with_reducible rfl
          simp only [zn, Act.put]
          refine wpAnyH_ready (rs := [11]) (by kernel_rfl) (by simp) ?_
          refine AllReadyH.cons rfl (fun K hK => ?_) AllReadyH.nil
          go_simp
          have tb := HB.out.alloc HB.out.size (.cells #[.slice none 0 0, .slice none 0 0, .slice none 0 0, .int .i64 0] 36)
          have t6 := heap_alloc_self qA_ (.cells #[.slice none 0 0, .slice none 0 0, .slice none 0 0, .int .i64 0] 36)
          have tO := OU.out.below (below_new qA_ (.cells #[.slice none 0 0, .slice none 0 0, .slice none 0 0, .int .i64 0] 36))
          refine hK.out _ _ ?_ (fun hHeld => ?_)
          · exact tb
          clear hK K
          try simp only [zn, Act.put]
          generalize qA_.alloc (.cells #[.slice none 0 0, .slice none 0 0, .slice none 0 0, .int .i64 0] 36) = qB_ at tb t6 tO hHeld ⊢
          obtain ⟨p8, hp⟩ : ∃ n, n = qA_.heap.size := ⟨_, rfl⟩
          rw [← hp] at t6 ⊢
          have PLB : Hid (wr.heap.size ≤ p8) := Lib.hid (by rw [hp]; exact HB.out.size)
          clear HB hp OU
          have HB := Lib.hid tb
          have XB := Lib.hid t6
          have OU := Lib.hid tO
          clear tb t6 tO
          refine wpAnyH_ready (rs := [12]) (by kernel_rfl) (by simp) ?_
          refine AllReadyH.cons rfl (fun K hK => ?_) AllReadyH.nil
          rw [if_pos (by rfl)]
          refine wp_store_rowS 36 (.tmp 8) (.tmp 31) rfl p8 rfl (c' := #[.slice U0 z0 f0, .slice U1 z1 f1, .slice U2 z2 f2, .int .i64 x.near]) rfl XB.out infoWay4 rfl (by simp [Value.oneCell']) ?_
          have tb := below_setRow HB.out PLB.out #[.slice U0 z0 f0, .slice U1 z1 f1, .slice U2 z2 f2, .int .i64 x.near]
          have t6 := setRow_heap _ _ _ #[.slice U0 z0 f0, .slice U1 z1 f1, .slice U2 z2 f2, .int .i64 x.near] _ _ XB.out
          have tO : WyOwn (qB_.setRow p8 #[.slice U0 z0 f0, .slice U1 z1 f1, .slice U2 z2 f2, .int .i64 x.near]) wr.heap.size (.slice U0 z0 f0) (.slice U1 z1 f1) (.slice U2 z2 f2) x := OU.out.offT (grownBy_setRow qB_ p8 #[.slice U0 z0 f0, .slice U1 z1 f1, .slice U2 z2 f2, .int .i64 x.near]) (by decide) (by decide) ⟨_, XB.out⟩
          refine hK.out _ _ ?_ (fun hHeld => ?_)
          · exact tb
          clear hK K
          try simp only [zn, Act.put]
          generalize qB_.setRow p8 #[.slice U0 z0 f0, .slice U1 z1 f1, .slice U2 z2 f2, .int .i64 x.near] = qC_ at tb t6 tO hHeld ⊢
          refine tkH 13 ?_ rfl hHeld ?_ ?_
          rotate_left
          · intro w' hSw; go_simp; try with_reducible rfl
          simp only [zn, Act.put]
          refine wpAnyH_done (by kernel_rfl) ?_ _
          go_wp2_with fail
          go_meet
          exact ⟨p8, U0, f0, U1, f1, U2, f2, rfl, rfl, t6, tO, tb⟩
        · go_simp
          have tb := HB.out.alloc HB.out.size (.cells #[.slice none 0 0, .slice none 0 0, .slice none 0 0, .int .i64 0] 36)
          have t6 := heap_alloc_self q0_ (.cells #[.slice none 0 0, .slice none 0 0, .slice none 0 0, .int .i64 0] 36)
          refine hK.out _ _ ?_ (fun hHeld => ?_)
          · exact tb
          clear hK K
          try simp only [zn, Act.put]
          generalize q0_.alloc (.cells #[.slice none 0 0, .slice none 0 0, .slice none 0 0, .int .i64 0] 36) = qA_ at tb t6 hHeld ⊢
          obtain ⟨p8, hp⟩ : ∃ n, n = q0_.heap.size := ⟨_, rfl⟩
          rw [← hp] at t6 ⊢
          have PLB : Hid (wr.heap.size ≤ p8) := Lib.hid (by rw [hp]; exact HB.out.size)
          clear HB hp
          have HB := Lib.hid tb
          have XA_ := Lib.hid t6
          clear tb t6
          refine wpAnyH_ready (rs := [7]) (by kernel_rfl) (by simp) ?_
          refine AllReadyH.cons rfl (fun K hK => ?_) AllReadyH.nil
          go_simp
          refine (rof_any _ p id qA_ ⟨_, _, _, _, rfl, (HIr.out.below HB.out).more HB.out.size⟩).mono ?_
          rintro e qB_ ⟨u0, u1, u2, rfl, hu_, b⟩
          rw [HXE.out.1] at hu_
          rw [HXE.out.1, HXE.out.2.1]
          obtain ⟨U0, f0, rfl⟩ := hu_.path.slice
          obtain ⟨U1, f1, rfl⟩ := hu_.over.slice
          obtain ⟨U2, f2, rfl⟩ := hu_.asks.slice
          have hu0 := hu_.mono HB.out.size
          clear hu_
          rw [← HZ.out.1, ← HZ.out.2.1, ← HZ.out.2.2.1] at hu0 ⊢
          have HB' := Lib.hid (HB.out.trans (b.mono HB.out.size))
          have OU : Hid (WyOwn qB_ wr.heap.size (.slice U0 z0 f0) (.slice U1 z1 f1) (.slice U2 z2 f2) x) := Lib.hid hu0
          clear hu0
          have XB := Lib.hid ((b.block _ (heap_lt XA_.out)).trans XA_.out)
          clear HB XA_
          have HB := HB'
          clear HB' b
          try go_wp2_with fail
          refine hK.out _ _ ?_ (fun hHeld => ?_)
          · exact HB.out
          clear hK K
          try simp only [zn, Act.put]
          refine tkH 8 ?_ rfl hHeld ?_ ?_
          rotate_left
          · intro w' hSw; go_simp; try with_reducible rfl
          simp only [zn, Act.put]
          refine tkH 9 ?_ rfl hHeld ?_ ?_
          rotate_left
          · intro w' hSw; go_simp; try with_reducible rfl
          simp only [zn, Act.put]
          refine tkH 10 ?_ rfl hHeld ?_ ?_
          rotate_left
          · intro w' hSw; go_simp; try with_reducible rfl
          simp only [zn, Act.put]
          refine wpAnyH_ready (rs := [12]) (by kernel_rfl) (by simp) ?_
          refine AllReadyH.cons rfl (fun K hK => ?_) AllReadyH.nil
          rw [if_pos (by rfl)]
          refine wp_store_rowS 36 (.tmp 8) (.tmp 31) rfl p8 rfl (c' := #[.slice U0 z0 f0, .slice U1 z1 f1, .slice U2 z2 f2, .int .i64 x.near]) rfl XB.out infoWay4 rfl (by simp [Value.oneCell']) ?_
          have tb := below_setRow HB.out PLB.out #[.slice U0 z0 f0, .slice U1 z1 f1, .slice U2 z2 f2, .int .i64 x.near]
          have t6 := setRow_heap _ _ _ #[.slice U0 z0 f0, .slice U1 z1 f1, .slice U2 z2 f2, .int .i64 x.near] _ _ XB.out
          have tO : WyOwn (qB_.setRow p8 #[.slice U0 z0 f0, .slice U1 z1 f1, .slice U2 z2 f2, .int .i64 x.near]) wr.heap.size (.slice U0 z0 f0) (.slice U1 z1 f1) (.slice U2 z2 f2) x := OU.out.offT (grownBy_setRow qB_ p8 #[.slice U0 z0 f0, .slice U1 z1 f1, .slice U2 z2 f2, .int .i64 x.near]) (by decide) (by decide) ⟨_, XB.out⟩
          refine hK.out _ _ ?_ (fun hHeld => ?_)
          · exact tb
          clear hK K
          try simp only [zn, Act.put]
          generalize qB_.setRow p8 #[.slice U0 z0 f0, .slice U1 z1 f1, .slice U2 z2 f2, .int .i64 x.near] = qC_ at tb t6 tO hHeld ⊢
          refine tkH 13 ?_ rfl hHeld ?_ ?_
          rotate_left
          · intro w' hSw; go_simp; try with_reducible rfl
          simp only [zn, Act.put]
          refine wpAnyH_done (by kernel_rfl) ?_ _
          go_wp2_with fail
          go_meet
          exact ⟨p8, U0, f0, U1, f1, U2, f2, rfl, rfl, t6, tO, tb⟩
      case rest =>
        obtain ⟨p8, U0, f0, U1, f1, U2, f2, rfl, rfl, hx8, hwo, hbv⟩ := hcut
        obtain ⟨v2, hv2⟩ : ∃ u, u = wc := ⟨_, rfl⟩
        subst hv2
        have X8 := Lib.hid hx8
        have WO := Lib.hid hwo
        have BV := Lib.hid hbv
        have BW2 : Hid (Below w1.heap.size w1 v2) := Lib.hid (BW.out.trans (BV.out.mono BW.out.size))
        clear hx8 hwo hbv
        rcases HWA.out with ⟨hh, rfl, hxw, hyl⟩ | ⟨hh, rfl⟩
        rotate_left
        · have AE : Hid (allE p = 90) := Lib.hid (all_bad HPM.out hil hh)
          have AC := Lib.hid (all_cases p)
          clear hh
          go_wp2_with fail
          go_ret3
          refine ⟨_, _, by rw [AE.out]; rfl, ?_, ?_, B1.out.trans (BW2.out.mono B1.out.size)⟩
          · rcases AC.out with ⟨h, -⟩ | ⟨-, h, -⟩
            · rw [AE.out] at h; omega
            · rw [h]; exact ListOwn.nil_
          · rcases AC.out with ⟨h, -⟩ | ⟨-, -, h⟩
            · rw [AE.out] at h; omega
            · rw [h]; exact ListOwn.nil_
        have HH := Lib.hid hh
        have HXW := Lib.hid hxw
        have HYL := Lib.hid hyl
        clear hh hxw hyl HWA
        have HXL : Hid (leftV p id = y) := Lib.hid HXE.out.2.2
        have XR2 := Lib.hid ((BV.out.block _ (heap_lt XR.out)).trans XR.out)
        have HR2 := Lib.hid ((BV.out.cell (cell_lt HR0.out)).trans HR0.out)
        have HI2 := Lib.hid ((HIr.out.below BV.out).more BV.out.size)
        go_upto_region 11 with fail
        refine wp_region_held_drew (S := fun v => Below v2.heap.size v2 v) (by kernel_rfl) (Below.refl v2.heap.size v2).drew (fun hHeld => ?_)
        refine tkH 0 ?_ rfl hHeld ?_ ?_
        rotate_left
        · intro w' hSw; obtain ⟨cv0, cv1, cv2, cv3, cv4, cv5⟩ := cell6_of ((hSw.block _ (heap_lt XR2.out)).trans XR2.out); go_simp; try with_reducible rfl
        simp only [zn, Act.put]
        refine tkH 1 ?_ rfl hHeld ?_ ?_
        rotate_left
        · intro w' hSw; go_simp; try with_reducible rfl
        simp only [zn, Act.put]
        refine tkH 2 ?_ rfl hHeld ?_ ?_
        rotate_left
        · intro w' hSw; obtain ⟨cv0, cv1, cv2, cv3, cv4, cv5⟩ := cell6_of ((hSw.block _ (heap_lt XR2.out)).trans XR2.out); go_simp; try with_reducible rfl
        simp only [zn, Act.put]
        refine tkH 3 ?_ rfl hHeld ?_ ?_
        rotate_left
        · intro w' hSw; go_simp; try with_reducible rfl
        simp only [zn, Act.put]
        refine tkH 4 ?_ rfl hHeld ?_ ?_
        rotate_left
        · intro w' hSw; go_simp; try with_reducible rfl
        simp only [zn, Act.put]
        refine tkH 5 ?_ rfl hHeld ?_ ?_
        rotate_left
        · intro w' hSw; go_simp; try with_reducible rfl
        simp only [zn, Act.put]
        refine tkH 6 ?_ rfl hHeld ?_ ?_
        rotate_left
        · intro w' hSw; have cl := (hSw.cell (cell_lt HR2.out)).trans HR2.out; go_simp; try with_reducible rfl
        simp only [zn, Act.put]
        refine wpAnyH_ready (rs := [7]) (by kernel_rfl) (by simp) ?_
        refine AllReadyH.cons rfl (fun K hK => ?_) AllReadyH.nil
        go_simp
        refine (routs_any _ p id v2.drew ⟨_, _, _, _, rfl, (HI2.out.below (Below.refl v2.heap.size v2).drew).more (Below.refl v2.heap.size v2).drew.size⟩).mono ?_
        rintro e_ vC ⟨u_, rfl, hu_, b⟩
        rw [HXL.out] at hu_
        obtain ⟨U, uc, rfl⟩ := hu_.slice
        rw [← HZ.out.2.2.2] at hu_ ⊢
        have BC : Hid (Below v2.heap.size v2 vC) := Lib.hid (((Below.refl v2.heap.size v2).drew).trans (b.mono (Below.refl v2.heap.size v2).drew.size))
        have UO : Hid (JoinsOwn vC w1.heap.size (.slice U nu uc) y) := Lib.hid (hu_.mono (Nat.le_trans BW2.out.size (Below.refl v2.heap.size v2).drew.size))
        clear b hu_
        try go_wp2_with fail
        refine hK.out _ _ ?_ (fun hHeld => ?_)
        · exact BC.out
        clear hK K
        try simp only [zn, Act.put]
        refine tkH 8 ?_ rfl hHeld ?_ ?_
        rotate_left
        · intro w' hSw; go_simp; try with_reducible rfl
        simp only [zn, Act.put]
        refine tkH 9 ?_ rfl hHeld ?_ ?_
        rotate_left
        · intro w' hSw; go_simp; try with_reducible rfl
        simp only [zn, Act.put]
        refine tkH 10 ?_ rfl hHeld ?_ ?_
        rotate_left
        · intro w' hSw; go_simp; try with_reducible rfl
        simp only [zn, Act.put]
        refine tkH 11 ?_ rfl hHeld ?_ ?_
        rotate_left
        · intro w' hSw; go_simp; try with_reducible rfl
        simp only [zn, Act.put]
        refine tkH 12 ?_ rfl hHeld ?_ ?_
        rotate_left
        · intro w' hSw; go_simp; try with_reducible rfl
        simp only [zn, Act.put]
        refine wpAnyH_done (by kernel_rfl) ?_ _
        have X8c := Lib.hid ((BC.out.block _ (heap_lt X8.out)).trans X8.out)
        have P0 : Hid (Pend vC w1.heap.size sa sb ((p.routes.map (wayR p)).take i) ((p.routes.map (leftR p)).take i) (.slice U0 z0 f0) (.slice U1 z1 f1) (.slice U2 z2 f2) (.slice U nu uc) x y) := Lib.hid (pend_of (b := 0) (Nat.le_trans BW2.out.size BC.out.size) ((W5.out.below (wayO _) BV.out).below (wayO _) BC.out) ((J6.out.below (jsO _) BV.out).below (jsO _) BC.out) ((WO.out.below BC.out).mono BW.out.size) UO.out)
        have P1 := Lib.hid (P0.out.below (below_new vC (.cells #[.slice U0 z0 f0, .slice U1 z1 f1, .slice U2 z2 f2, .int .i64 x.near] 36)))
        have BC1 : Hid (Below w1.heap.size w1 (vC.alloc (.cells #[.slice U0 z0 f0, .slice U1 z1 f1, .slice U2 z2 f2, .int .i64 x.near] 36))) := Lib.hid ((BW2.out.trans (BC.out.mono BW2.out.size)).alloc (Nat.le_trans BW2.out.size BC.out.size) _)
        have LW : Hid (((p.routes.map (wayR p)).take i).length = i) := Lib.hid (by rw [List.length_take, List.length_map]; omega)
        have LJ : Hid (((p.routes.map (leftR p)).take i).length = i) := Lib.hid (by rw [List.length_take, List.length_map]; omega)
        obtain ⟨yss, hown, hyl, -, hys, hyr⟩ := P1.out.ways
        rw [LW.out] at hown hyl
        have O := Lib.hid hown
        have YL := Lib.hid hyl
        have YS := Lib.hid hys
        have YR := Lib.hid hyr
        clear hown hyl hys hyr P0 W5 J6 UO
        obtain ⟨m0, m1, m2, m3⟩ := cell4_of X8c.out
        go_upto_region 13 with ((with_reducible show wpList _ _ _ (⟨some 50, _, _, _, _, _⟩ :: _) _ _); refine wpList_append_list rfl (.tmp 47) (.tmp 49) _ rfl Try.underlying52 I0.out I1.out rfl I2.out (by decide) I3.out (by decide) rfl O.out rfl (m := 1) (news := [.slice U0 z0 f0, .slice U1 z1 f1, .slice U2 z2 f2, .int .i64 x.near]) rfl (fun h => by cases h) (fun a ha j u hj => by cases ha; rw [Addr.add_lit, Nat.zero_add, World.cell?_alloc_new]; simpa using hj) (by simp [Value.oneCell']) (by have := HI16.out; omega) BC1.out.size ?_; intro v4 w4 hown4 hgrow4)
        clear m0 m1 m2 m3
        have P2 := Lib.hid ((P1.out.snocW LW.out O.out YL.out YS.out (by unfold maxLen; have := HI16.out; omega) YR.out hown4 hgrow4).below (below_new w4 (.cells #[.slice U nu uc] 22)))
        have B4 : Hid (Below w1.heap.size w1 w4) := Lib.hid (BC1.out.grown hgrow4 BC1.out.size (own_ge O.out))
        have B5 : Hid (Below w1.heap.size w1 (w4.alloc (.cells #[.slice U nu uc] 22))) := Lib.hid (B4.out.alloc B4.out.size _)
        clear hown4 hgrow4 P1 O YL YS YR yss
        obtain ⟨yss, hown, hyl, -, hys, hyr⟩ := P2.out.jss
        rw [LJ.out] at hown hyl
        have O := Lib.hid hown
        have YL := Lib.hid hyl
        have YS := Lib.hid hys
        have YR := Lib.hid hyr
        clear hown hyl hys hyr
        go_wp2_with ((with_reducible show wpList _ _ _ (⟨some 54, _, _, _, _, _⟩ :: _) _ _); refine wpList_append_list rfl (.tmp 51) (.tmp 53) _ rfl Try.underlying53 K0.out K1.out rfl K2.out (by decide) K3.out (by decide) rfl O.out rfl (m := 1) (news := [.slice U nu uc]) rfl (fun h => by cases h) (fun a ha j u hj => by cases ha; rw [Addr.add_lit, Nat.zero_add, World.cell?_alloc_new]; simpa using hj) (by simp [Value.oneCell']) (by have := HI16.out; omega) B5.out.size ?_; intro v6 w6 hown6 hgrow6)
        have P3 := Lib.hid (P2.out.snocJ LJ.out O.out YL.out YS.out (by unfold maxLen; have := HI16.out; omega) YR.out hown6 hgrow6)
        have B6 : Hid (Below w1.heap.size w1 w6) := Lib.hid (B5.out.grown hgrow6 B5.out.size (own_ge O.out))
        clear hown6 hgrow6
        go_roundw
        case measure => simp [intOf]; omega
        case rel =>
          refine ⟨i + 1, _, _, by omega, by go_num, rfl, rfl, ?_, ?_, fun k hk hki => ?_, B6.out⟩
          · rw [take_map _ _ hil, ← HXW.out]; exact P3.out.ways
          · rw [take_map _ _ hil, ← HYL.out]; exact P3.out.jss
          · rcases Nat.lt_or_ge k i with h | h
            · exact GD.out k hk h
            · obtain rfl : k = i := by omega
              exact HH.out
    · have hlt' : ¬ ((i : Int) < n5) := by omega
      have hin : i = p.routes.length := by have := HN.out; omega
      have AE : Hid (allE p = 0) := Lib.hid (all_good HPM.out fun k hk => GD.out k hk (by omega))
      have AC := Lib.hid (all_cases p)
      have HWS : Hid (WaysOwn wr w1.heap.size sa (p.routes.map (wayR p))) := Lib.hid (by have h := W5.out; rw [List.take_of_length_le (by rw [List.length_map]; omega)] at h; exact h)
      have HJS : Hid (JssOwn wr w1.heap.size sb (p.routes.map (leftR p))) := Lib.hid (by have h := J6.out; rw [List.take_of_length_le (by rw [List.length_map]; omega)] at h; exact h)
      clear hin W5 J6
      obtain ⟨k0, k1, k2, k3, k4, k5⟩ := cell6_of XR.out
      go_wp2_with fail
      go_ret3
      rcases AC.out with ⟨-, -, h1, h2⟩ | ⟨h, -⟩
      · exact ⟨_, _, by rw [AE.out]; rfl, by rw [h1]; exact ways_mono HWS.out B1.out.size, by rw [h2]; exact jss_mono HJS.out B1.out.size, B1.out.trans (BW.out.mono B1.out.size)⟩
      · exact absurd AE.out h
end Go.Proofs.Ytjgdgdccnbmbiaa
