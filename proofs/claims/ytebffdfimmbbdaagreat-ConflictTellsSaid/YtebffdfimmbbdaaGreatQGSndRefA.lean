/-
 The document's own package sound: Sound.
 Conditions: none.
-/
import Derived.Test.YtebffdfimmbbdaaGreatQGSndM
import Derived.Test.YtebffdfimmbbdaaGreatQGWayRefF
import Derived.Test.YtebffdfimmbbdaaGreatQWayAllF
import Derived.BigQuiet
set_option linter.unusedVariables false
set_option linter.unusedSimpArgs false
set_option maxRecDepth 100000
namespace Go.Proofs.YtebffdfimmbbdaaGreat
open Go.RowKit

set_option maxHeartbeats 16000000 in
theorem rsound_any (v y : Value) (p : Pl) (r : Rt) (kr : Nat) (hkr : kr < p.routes.length) (hr : p.routes[kr] = r) (w : World) (h : PlanV w w.heap.size v p) (h' : RouteV w w.heap.size y r) (hm : PlanMay p) :
  Calls Tryz.prog 46 #[v, y] w fun e w' => e = .returned (.bool (soundB p r)) ∧ Below w.heap.size w w' := by
 obtain ⟨A2, c2, A3, c3, A4, c4, A5, c5, n2, n3, n4, n5, rfl, hm2, hm3, hm4, hm5, HCP, HIN, HN⟩ := open_plan h
 obtain ⟨y3, y4, y5, rfl, hrt⟩ := h'
 have HRT0 := Lib.hid hrt
 obtain ⟨D3, d3, rfl, hcl3, hcm3⟩ := hrt.path.slice
 obtain ⟨D4, d4, rfl, -, -⟩ := hrt.over.slice
 obtain ⟨D5, d5, rfl, -, -⟩ := hrt.flanks.slice
 obtain ⟨l3, hl3⟩ : ∃ n, n = r.path.length := ⟨_, rfl⟩
 obtain ⟨l4, hl4⟩ : ∃ n, n = r.over.length := ⟨_, rfl⟩
 obtain ⟨l5, hl5⟩ : ∃ n, n = r.flanks.length := ⟨_, rfl⟩
 have HRT : Hid (RtIn w w.heap.size (.slice D3 l3 d3) (.slice D4 l4 d4) (.slice D5 l5 d5) r) := Lib.hid (by rw [hl3, hl4, hl5]; exact HRT0.out)
 have HL3 := Lib.hid hl3
 rw [← hl3, ← hl4, ← hl5]
 have HRI := Lib.hid (routeIn_of hm hkr hr)
 have HPM := Lib.hid hm
 have HKR : Hid (∃ _ : kr < p.routes.length, p.routes[kr] = r) := Lib.hid ⟨hkr, hr⟩
 have HAT : Hid (at1 (fun x : Rt => x.id) p.routes r.id = (kr : Int)) := Lib.hid (at1_some hkr (by rw [hr]) fun j hj => by
  have h1 := ids_up hm kr j hkr hj
  rw [hr] at h1
  omega)
 have hl6 : l3 ≤ 6 := by have := HRI.out.route.path; omega
 clear hl3 hl4 hl5 hrt HRT0 hcl3 hcm3 hm hkr hr
 have hq := two_boxes w (.cells #[.int .i64 p.ver, .int .i64 p.par, .slice A2 n2 c2, .slice A3 n3 c3, .slice A4 n4 c4, .slice A5 n5 c5] 27) (.cells #[.int .i64 r.id, .int .i64 r.entry, .int .i64 r.exit, .slice D3 l3 d3, .slice D4 l4 d4, .slice D5 l5 d5, .int .i64 r.timer] 46)
 go_enter Tryz.func46, Tryz.ntmps46
 go_upto_region 1 with fail
 generalize (w.alloc (.cells #[.int .i64 p.ver, .int .i64 p.par, .slice A2 n2 c2, .slice A3 n3 c3, .slice A4 n4 c4, .slice A5 n5 c5] 27)).alloc (.cells #[.int .i64 r.id, .int .i64 r.entry, .int .i64 r.exit, .slice D3 l3 d3, .slice D4 l4 d4, .slice D5 l5 d5, .int .i64 r.timer] 46) = q at hq ⊢
 obtain ⟨q0, q1, qb⟩ := hq
 generalize w.heap.size + 1 = p3 at q1 ⊢
 have XP := Lib.hid q0
 have XR := Lib.hid q1
 have BQ := Lib.hid qb
 clear q0 q1 qb
 obtain ⟨k0, k1, k2, k3, k4, k5⟩ := cell6_of XP.out
 obtain ⟨m0, m1, m2, m3, m4, m5, m6⟩ := cell7_of XR.out
 go_wp2_with fail
 refine (rends_any _ _ p r q ⟨_, _, _, _, rfl, (HIN.out.below BQ.out).more BQ.out.size⟩ ⟨_, _, _, rfl, (HRT.out.below BQ.out).more BQ.out.size⟩ HRI.out).mono ?_
 rintro e w1 ⟨b1, hcase⟩
 have B1 : Hid (Below w.heap.size w w1) := Lib.hid (BQ.out.trans (b1.mono BQ.out.size))
 have XP1 := Lib.hid ((b1.block _ (heap_lt XP.out)).trans XP.out)
 have XR1 := Lib.hid ((b1.block _ (heap_lt XR.out)).trans XR.out)
 have HI := Lib.hid ((HIN.out.below B1.out).more B1.out.size)
 have PT := Lib.hid ((HRT.out.path.below intR B1.out).more intR B1.out.size)
 clear b1 k0 k1 k2 k3 k4 k5 m0 m1 m2 m3 m4 m5 m6 XP XR BQ HIN HRT
 rcases hcase with ⟨hh, u, z, rfl, hu⟩ | ⟨hh, rfl⟩
 rotate_left
 ·have HR : Hid (soundB p r = false) := Lib.hid (soundB_false fun h => hh h.hangs)
  clear hh
  go_wp2_with fail
  go_ret
  exact ⟨by rw [HR.out]; rfl, B1.out⟩
 have HH := Lib.hid hh
 obtain ⟨nl, hnl⟩ : ∃ n, n = (allR r).length := ⟨_, rfl⟩
 rw [← hnl] at hu
 have HNL := Lib.hid hnl
 have ht := hu.b
 obtain ⟨AO, cO, rfl⟩ := ht.slice
 have OI : Hid (IntsIn w1 w1.heap.size (.slice AO nl cO) (outsL p r nl)) := Lib.hid (by have := ht.in_ intR_cells; rw [outsL_len] at this; exact this)
 rw [outsL_len]
 clear ht hu hnl hh
 go_upto_region 4 with fail
 obtain ⟨x, hx⟩ : ∃ x, x = wayR p r := ⟨_, rfl⟩
 have HXV := Lib.hid hx
 obtain ⟨z0, hz0⟩ : ∃ n, n = x.path.length := ⟨_, rfl⟩
 obtain ⟨z1, hz1⟩ : ∃ n, n = x.over.length := ⟨_, rfl⟩
 obtain ⟨z2, hz2⟩ : ∃ n, n = x.asks.length := ⟨_, rfl⟩
 have HZ : Hid (z0 = x.path.length ∧ z1 = x.over.length ∧ z2 = x.asks.length) := Lib.hid ⟨hz0, hz1, hz2⟩
 have PI : Hid (∀ V : World, Below w1.heap.size w1 V → PlanV V V.heap.size (.agg #[.int .i64 p.ver, .int .i64 p.par, .slice A2 n2 c2, .slice A3 n3 c3, .slice A4 n4 c4, .slice A5 n5 c5]) p) := Lib.hid (fun V hb => ⟨_, _, _, _, rfl, (HI.out.below hb).more hb.size⟩)
 have RI : Hid (∀ V : World, Below w1.heap.size w1 V → RoutesIn V V.heap.size (.slice A5 n5 c5) p.routes) := Lib.hid (fun V hb => ((HI.out.below hb).more hb.size).routes)
 clear hx hz0 hz1 hz2
 go_cut [8] from 22 to 28 (fun s8 wx => ∃ p8 U0 f0 U1 f1 U2 f2, s8 = .pointer (some ⟨p8, 0, none⟩) ∧ wx.heap[p8]? = some (.cells #[.slice U0 z0 f0, .slice U1 z1 f1, .slice U2 z2 f2, .int .i64 x.near] 56 (0, 0)) ∧ WyOwn wx w1.heap.size (.slice U0 z0 f0) (.slice U1 z1 f1) (.slice U2 z2 f2) x ∧ Below w1.heap.size w1 wx)
 case first =>
  refine wp_region_held_drew (S := fun v => Below w1.heap.size w1 v) (by kernel_rfl) (Below.refl w1.heap.size w1).drew (fun hHeld => ?_)
  refine tkc 0 hHeld (fun w' hSw => cell6_of ((hSw.block _ (heap_lt XP1.out)).trans XP1.out)) ?_;refine tk 1 hHeld ?_;refine tkc 2 hHeld (fun w' hSw => cell6_of ((hSw.block _ (heap_lt XP1.out)).trans XP1.out)) ?_;refine tk 3 hHeld ?_;refine tkc 4 hHeld (fun w' hSw => cell7_of ((hSw.block _ (heap_lt XR1.out)).trans XR1.out)) ?_
  have tb := (Below.refl w1.heap.size w1).drew
  generalize w1.drew = q0_ at tb hHeld ⊢
  have HB := Lib.hid tb
  clear tb
  refine wpAnyH_ready (rs := [5, 7]) (by kernel_rfl) (by simp) ?_
  refine AllReadyH.cons rfl (fun K hK => ?_) (AllReadyH.cons rfl (fun K hK => ?_) AllReadyH.nil)
  ·go_simp
   refine (rrouteat_any _ p.routes r.id q0_ (RI.out (q0_) HB.out)).mono ?_
   rintro e w' ⟨rfl, hw⟩
   rw [hw, HAT.out]
   clear hw w'
   try go_wp2_with fail
   refine hK.out _ _ ?_ fun hHeld => ?_;exact HB.out;clear hK K;try simp only [zn, Act.put]
   refine wpAnyH_ready (rs := [6, 7]) (by kernel_rfl) (by simp) ?_
   refine AllReadyH.cons rfl (fun K hK => ?_) (AllReadyH.cons rfl (fun K hK => ?_) AllReadyH.nil)
   ·go_simp
    refine (rmade_any _ p r kr HKR.out.1 HKR.out.2 q0_ (PI.out (q0_) HB.out) HPM.out (hangsB_true HH.out)).mono ?_
    rintro e qA_ ⟨u0, u1, u2, rfl, hu0, b⟩
    rw [← HXV.out] at hu0 ⊢
    obtain ⟨U0, f0, rfl⟩ := hu0.path.slice
    obtain ⟨U1, f1, rfl⟩ := hu0.over.slice
    obtain ⟨U2, f2, rfl⟩ := hu0.asks.slice
    have hu := hu0.mono HB.out.size
    clear hu0
    rw [← HZ.out.1, ← HZ.out.2.1, ← HZ.out.2.2] at hu ⊢
    have HB' := Lib.hid (HB.out.trans (b.mono HB.out.size))
    have OU : Hid (WyOwn qA_ w1.heap.size (.slice U0 z0 f0) (.slice U1 z1 f1) (.slice U2 z2 f2) x) := Lib.hid hu
    clear hu
    clear HB
    have HB := HB'
    clear HB' b
    try go_wp2_with fail
    refine hK.out _ _ ?_ fun hHeld => ?_;exact HB.out;clear hK K;try simp only [zn, Act.put]
    refine tkr 7 (fun K hK => ?_)
    go_simp
    have tb := HB.out.alloc HB.out.size (.cells #[.slice none 0 0, .slice none 0 0, .slice none 0 0, .int .i64 0] 56)
    have t6 := heap_alloc_self qA_ (.cells #[.slice none 0 0, .slice none 0 0, .slice none 0 0, .int .i64 0] 56)
    have tO := OU.out.below (below_new qA_ (.cells #[.slice none 0 0, .slice none 0 0, .slice none 0 0, .int .i64 0] 56))
    refine hK.out _ _ ?_ fun hHeld => ?_;exact tb;clear hK K;try simp only [zn, Act.put]
    generalize qA_.alloc (.cells #[.slice none 0 0, .slice none 0 0, .slice none 0 0, .int .i64 0] 56) = qB_ at tb t6 tO hHeld ⊢
    obtain ⟨p8, hp⟩ : ∃ n, n = qA_.heap.size := ⟨_, rfl⟩
    rw [← hp] at t6 ⊢
    have PLB : Hid (w1.heap.size ≤ p8) := Lib.hid (by rw [hp]; exact HB.out.size)
    clear HB hp OU
    have HB := Lib.hid tb
    have XB := Lib.hid t6
    have OU := Lib.hid tO
    clear tb t6 tO
    refine tkr 8 (fun K hK => ?_)
    rw [if_pos (by rfl)]
    refine wp_store_rowS 56 (.tmp 8) (.tmp 28) rfl p8 rfl (c' := #[.slice U0 z0 f0, .slice U1 z1 f1, .slice U2 z2 f2, .int .i64 x.near]) rfl XB.out infoWay4 rfl (by simp [Value.oneCell']) ?_
    have tb := below_setRow HB.out PLB.out #[.slice U0 z0 f0, .slice U1 z1 f1, .slice U2 z2 f2, .int .i64 x.near]
    have t6 := setRow_heap _ _ _ #[.slice U0 z0 f0, .slice U1 z1 f1, .slice U2 z2 f2, .int .i64 x.near] _ _ XB.out
    have tO : WyOwn (qB_.setRow p8 #[.slice U0 z0 f0, .slice U1 z1 f1, .slice U2 z2 f2, .int .i64 x.near]) w1.heap.size (.slice U0 z0 f0) (.slice U1 z1 f1) (.slice U2 z2 f2) x := OU.out.offT (grownBy_setRow qB_ p8 #[.slice U0 z0 f0, .slice U1 z1 f1, .slice U2 z2 f2, .int .i64 x.near]) (by decide) (by decide) ⟨_, XB.out⟩
    refine hK.out _ _ ?_ fun hHeld => ?_;exact tb;clear hK K;try simp only [zn, Act.put]
    generalize qB_.setRow p8 #[.slice U0 z0 f0, .slice U1 z1 f1, .slice U2 z2 f2, .int .i64 x.near] = qC_ at tb t6 tO hHeld ⊢
    refine wpAnyH_done (by kernel_rfl) ?_ _
    go_wp2_with fail
    go_meet
    exact ⟨p8, U0, f0, U1, f1, U2, f2, rfl, t6, tO, tb⟩
   ·go_simp
    have tb := HB.out.alloc HB.out.size (.cells #[.slice none 0 0, .slice none 0 0, .slice none 0 0, .int .i64 0] 56)
    have t6 := heap_alloc_self q0_ (.cells #[.slice none 0 0, .slice none 0 0, .slice none 0 0, .int .i64 0] 56)
    refine hK.out _ _ ?_ fun hHeld => ?_;exact tb;clear hK K;try simp only [zn, Act.put]
    generalize q0_.alloc (.cells #[.slice none 0 0, .slice none 0 0, .slice none 0 0, .int .i64 0] 56) = qA_ at tb t6 hHeld ⊢
    obtain ⟨p8, hp⟩ : ∃ n, n = q0_.heap.size := ⟨_, rfl⟩
    rw [← hp] at t6 ⊢
    have PLB : Hid (w1.heap.size ≤ p8) := Lib.hid (by rw [hp]; exact HB.out.size)
    clear HB hp
    have HB := Lib.hid tb
    have XB := Lib.hid t6
    clear tb t6
    refine tkr 6 (fun K hK => ?_)
    go_simp
    refine (rmade_any _ p r kr HKR.out.1 HKR.out.2 qA_ (PI.out (qA_) HB.out) HPM.out (hangsB_true HH.out)).mono ?_
    rintro e qB_ ⟨u0, u1, u2, rfl, hu0, b⟩
    rw [← HXV.out] at hu0 ⊢
    obtain ⟨U0, f0, rfl⟩ := hu0.path.slice
    obtain ⟨U1, f1, rfl⟩ := hu0.over.slice
    obtain ⟨U2, f2, rfl⟩ := hu0.asks.slice
    have hu := hu0.mono HB.out.size
    clear hu0
    rw [← HZ.out.1, ← HZ.out.2.1, ← HZ.out.2.2] at hu ⊢
    have HB' := Lib.hid (HB.out.trans (b.mono HB.out.size))
    have OU : Hid (WyOwn qB_ w1.heap.size (.slice U0 z0 f0) (.slice U1 z1 f1) (.slice U2 z2 f2) x) := Lib.hid hu
    clear hu
    have XBk := Lib.hid ((b.block _ (heap_lt XB.out)).trans XB.out)
    clear HB XB
    have HB := HB'
    have XB := XBk
    clear HB' b XBk
    try go_wp2_with fail
    refine hK.out _ _ ?_ fun hHeld => ?_;exact HB.out;clear hK K;try simp only [zn, Act.put]
    refine tkr 8 (fun K hK => ?_)
    rw [if_pos (by rfl)]
    refine wp_store_rowS 56 (.tmp 8) (.tmp 28) rfl p8 rfl (c' := #[.slice U0 z0 f0, .slice U1 z1 f1, .slice U2 z2 f2, .int .i64 x.near]) rfl XB.out infoWay4 rfl (by simp [Value.oneCell']) ?_
    have tb := below_setRow HB.out PLB.out #[.slice U0 z0 f0, .slice U1 z1 f1, .slice U2 z2 f2, .int .i64 x.near]
    have t6 := setRow_heap _ _ _ #[.slice U0 z0 f0, .slice U1 z1 f1, .slice U2 z2 f2, .int .i64 x.near] _ _ XB.out
    have tO : WyOwn (qB_.setRow p8 #[.slice U0 z0 f0, .slice U1 z1 f1, .slice U2 z2 f2, .int .i64 x.near]) w1.heap.size (.slice U0 z0 f0) (.slice U1 z1 f1) (.slice U2 z2 f2) x := OU.out.offT (grownBy_setRow qB_ p8 #[.slice U0 z0 f0, .slice U1 z1 f1, .slice U2 z2 f2, .int .i64 x.near]) (by decide) (by decide) ⟨_, XB.out⟩
    refine hK.out _ _ ?_ fun hHeld => ?_;exact tb;clear hK K;try simp only [zn, Act.put]
    generalize qB_.setRow p8 #[.slice U0 z0 f0, .slice U1 z1 f1, .slice U2 z2 f2, .int .i64 x.near] = qC_ at tb t6 tO hHeld ⊢
    refine wpAnyH_done (by kernel_rfl) ?_ _
    go_wp2_with fail
    go_meet
    exact ⟨p8, U0, f0, U1, f1, U2, f2, rfl, t6, tO, tb⟩
  ·go_simp
   have tb := HB.out.alloc HB.out.size (.cells #[.slice none 0 0, .slice none 0 0, .slice none 0 0, .int .i64 0] 56)
   have t6 := heap_alloc_self q0_ (.cells #[.slice none 0 0, .slice none 0 0, .slice none 0 0, .int .i64 0] 56)
   refine hK.out _ _ ?_ fun hHeld => ?_;exact tb;clear hK K;try simp only [zn, Act.put]
   generalize q0_.alloc (.cells #[.slice none 0 0, .slice none 0 0, .slice none 0 0, .int .i64 0] 56) = qA_ at tb t6 hHeld ⊢
   obtain ⟨p8, hp⟩ : ∃ n, n = q0_.heap.size := ⟨_, rfl⟩
   rw [← hp] at t6 ⊢
   have PLB : Hid (w1.heap.size ≤ p8) := Lib.hid (by rw [hp]; exact HB.out.size)
   clear HB hp
   have HB := Lib.hid tb
   have XB := Lib.hid t6
   clear tb t6
   refine tkr 5 (fun K hK => ?_)
   go_simp
   refine (rrouteat_any _ p.routes r.id qA_ (RI.out (qA_) HB.out)).mono ?_
   rintro e w' ⟨rfl, hw⟩
   rw [hw, HAT.out]
   clear hw w'
   try go_wp2_with fail
   refine hK.out _ _ ?_ fun hHeld => ?_;exact HB.out;clear hK K;try simp only [zn, Act.put]
   refine tkr 6 (fun K hK => ?_)
   go_simp
   refine (rmade_any _ p r kr HKR.out.1 HKR.out.2 qA_ (PI.out (qA_) HB.out) HPM.out (hangsB_true HH.out)).mono ?_
   rintro e qB_ ⟨u0, u1, u2, rfl, hu0, b⟩
   rw [← HXV.out] at hu0 ⊢
   obtain ⟨U0, f0, rfl⟩ := hu0.path.slice
   obtain ⟨U1, f1, rfl⟩ := hu0.over.slice
   obtain ⟨U2, f2, rfl⟩ := hu0.asks.slice
   have hu := hu0.mono HB.out.size
   clear hu0
   rw [← HZ.out.1, ← HZ.out.2.1, ← HZ.out.2.2] at hu ⊢
   have HB' := Lib.hid (HB.out.trans (b.mono HB.out.size))
   have OU : Hid (WyOwn qB_ w1.heap.size (.slice U0 z0 f0) (.slice U1 z1 f1) (.slice U2 z2 f2) x) := Lib.hid hu
   clear hu
   have XBk := Lib.hid ((b.block _ (heap_lt XB.out)).trans XB.out)
   clear HB XB
   have HB := HB'
   have XB := XBk
   clear HB' b XBk
   try go_wp2_with fail
   refine hK.out _ _ ?_ fun hHeld => ?_;exact HB.out;clear hK K;try simp only [zn, Act.put]
   refine tkr 8 (fun K hK => ?_)
   rw [if_pos (by rfl)]
   refine wp_store_rowS 56 (.tmp 8) (.tmp 28) rfl p8 rfl (c' := #[.slice U0 z0 f0, .slice U1 z1 f1, .slice U2 z2 f2, .int .i64 x.near]) rfl XB.out infoWay4 rfl (by simp [Value.oneCell']) ?_
   have tb := below_setRow HB.out PLB.out #[.slice U0 z0 f0, .slice U1 z1 f1, .slice U2 z2 f2, .int .i64 x.near]
   have t6 := setRow_heap _ _ _ #[.slice U0 z0 f0, .slice U1 z1 f1, .slice U2 z2 f2, .int .i64 x.near] _ _ XB.out
   have tO : WyOwn (qB_.setRow p8 #[.slice U0 z0 f0, .slice U1 z1 f1, .slice U2 z2 f2, .int .i64 x.near]) w1.heap.size (.slice U0 z0 f0) (.slice U1 z1 f1) (.slice U2 z2 f2) x := OU.out.offT (grownBy_setRow qB_ p8 #[.slice U0 z0 f0, .slice U1 z1 f1, .slice U2 z2 f2, .int .i64 x.near]) (by decide) (by decide) ⟨_, XB.out⟩
   refine hK.out _ _ ?_ fun hHeld => ?_;exact tb;clear hK K;try simp only [zn, Act.put]
   generalize qB_.setRow p8 #[.slice U0 z0 f0, .slice U1 z1 f1, .slice U2 z2 f2, .int .i64 x.near] = qC_ at tb t6 tO hHeld ⊢
   refine wpAnyH_done (by kernel_rfl) ?_ _
   go_wp2_with fail
   go_meet
   exact ⟨p8, U0, f0, U1, f1, U2, f2, rfl, t6, tO, tb⟩
 case rest =>
  obtain ⟨p8, U0, f0, U1, f1, U2, f2, rfl, hx8, hwo, hbv⟩ := hcut
  obtain ⟨v2, hv2⟩ : ∃ u, u = wc := ⟨_, rfl⟩
  subst hv2
  have X8 := Lib.hid hx8
  have AS := Lib.hid (hwo.asks.in_ sigR_cells)
  have hz9 : z2 ≤ 9223372036854775807 := by
   obtain ⟨_, _, _, _, h1⟩ := AS.out.slice
   unfold maxLen at h1
   have := HZ.out
   omega
  clear hx8 hwo PI RI
  have tB := B1.out.trans (hbv.mono B1.out.size)
  have tP := (hbv.block _ (heap_lt XP1.out)).trans XP1.out
  have tR := (hbv.block _ (heap_lt XR1.out)).trans XR1.out
  have tO := (OI.out.below intR hbv).more intR hbv.size
  have tH := (HI.out.below hbv).more hbv.size
  have tT := (PT.out.below intR hbv).more intR hbv.size
  clear B1 XP1 XR1 OI HI PT hbv
  have B1 := Lib.hid tB
  have XP1 := Lib.hid tP
  have XR1 := Lib.hid tR
  have OI := Lib.hid tO
  have HI := Lib.hid tH
  have PT := Lib.hid tT
  clear tB tP tR tO tH tT
  go_wp2_with fail
  go_loopw [9] (fun s9 wr => ∃ i : Nat, i ≤ z2 ∧ s9 = .int .i64 i ∧ (∀ a (ha : a < x.asks.length), a < i → ∀ k (hk : k < a), (x.asks[k]'(by omega)).1 ≠ x.asks[a].1) ∧ Below v2.heap.size v2 wr) (fun s9 _ => z2 - (intOf s9).toNat)
  case atStart => exact ⟨0, by omega, by go_num, fun a ha h => absurd h (by omega), Below.refl _ _⟩
  case round =>
   obtain ⟨i, hi, rfl, hall, hb⟩ := hrel
   have HALL := Lib.hid hall
   have BW := Lib.hid hb
   clear hall hb
   have X8a := Lib.hid ((BW.out.block _ (heap_lt X8.out)).trans X8.out)
   obtain ⟨k0, k1, k2, k3⟩ := cell4_of X8a.out
   by_cases hlt : i < z2
   ·have hlt' : (i : Int) < z2 := by omega
    have hia : i < x.asks.length := by have := HZ.out; omega
    go_wp2_with fail
    clear k0 k1 k2 k3
    go_loopw [10] (fun s10 wy => ∃ k : Nat, k ≤ i ∧ s10 = .int .i64 k ∧ (∀ m (hm : m < i), m < k → (x.asks[m]'(by omega)).1 ≠ x.asks[i].1) ∧ Below v2.heap.size v2 wy) (fun s10 _ => i - (intOf s10).toNat)
    case atStart => exact ⟨0, by omega, by go_num, fun m hm h => absurd h (by omega), BW.out⟩
    case round =>
     obtain ⟨wy, hwy⟩ : ∃ u, u = wr := ⟨_, rfl⟩
     subst hwy
     obtain ⟨k, hk, rfl, hall, hb⟩ := hrel
     have HK := Lib.hid hall
     have BY := Lib.hid hb
     clear hall hb
     by_cases hlk : k < i
     ·have hlk' : (k : Int) < i := by omega
      have hkz : (k : Int) < z2 := by omega
      have hka : k < x.asks.length := by omega
      have X8b := Lib.hid ((BY.out.block _ (heap_lt X8.out)).trans X8.out)
      obtain ⟨k0, k1, k2, k3⟩ := cell4_of X8b.out
      obtain ⟨e1, he1⟩ : ∃ e, e = x.asks[i] := ⟨_, rfl⟩
      obtain ⟨e2, he2⟩ : ∃ e, e = x.asks[k] := ⟨_, rfl⟩
      have HE1 := Lib.hid he1
      have HE2 := Lib.hid he2
      obtain ⟨bo, oo, e7, -, hg0, -⟩ := (AS.out.below sigR BY.out).at hia
      cases e7
      obtain ⟨bo', oo', e7, -, hg1, -⟩ := (AS.out.below sigR BY.out).at hka
      cases e7
      rw [← he1] at hg0
      rw [← he2] at hg1
      have G0 : wy.cell? ⟨bo, oo + i * 3, none⟩ = some (.int .i64 e1.1) := hg0
      have G1 : wy.cell? ⟨bo, oo + k * 3, none⟩ = some (.int .i64 e2.1) := hg1
      clear hg0 hg1 he1 he2
      have BD : Hid (∀ nq, Below wy.heap.size wy (wy.drewN nq)) := Lib.hid (fun nq => drewN_below wy nq)
      go_upto_region 11 with fail
      by_cases he : e2.1 = e1.1
      ·have d1 : (e2.1 == e1.1) = true := by simpa using he
       have HR : Hid (soundB p r = false) := Lib.hid (soundB_false fun h => by
        have h1 := h.once
        rw [← HXV.out] at h1
        exact once_not hia (by omega) (by rw [← HE1.out, ← HE2.out]; exact he) h1)
       clear he
       go_quiet (fail)
       have hdb := BD.out nq
       generalize wy.drewN nq = v3 at hdb ⊢
       have B3 := Lib.hid (B1.out.trans ((BY.out.trans (hdb.mono BY.out.size)).mono B1.out.size))
       clear hdb BD G0 G1 k0 k1 k2 k3
       go_wp2_with fail
       go_ret
       exact ⟨by rw [HR.out]; rfl, B3.out⟩
      ·have d1 : (e2.1 == e1.1) = false := by simpa using he
       have NX : Hid (∀ m (hm : m < i), m < k + 1 → (x.asks[m]'(by omega)).1 ≠ x.asks[i].1) := Lib.hid (fun m hm h => by
        rcases Nat.lt_or_ge m k with h2 | h2
        ·exact HK.out m hm h2
        ·obtain rfl : m = k := by omega
         rw [← HE1.out, ← HE2.out]; exact he)
       clear he
       go_quiet (fail)
       have hdb := BD.out nq
       generalize wy.drewN nq = v3 at hdb ⊢
       have B3 := Lib.hid (BY.out.trans (hdb.mono BY.out.size))
       clear hdb BD G0 G1 k0 k1 k2 k3
       go_wp2_with fail
       go_roundw
       case measure => simp [intOf]; omega
       case rel => exact ⟨k + 1, by omega, by go_num, NX.out, B3.out⟩
     ·obtain rfl : k = i := by omega
      have hlk' : ¬ (k : Int) < k := by omega
      have NX : Hid (∀ a (ha : a < x.asks.length), a < k + 1 → ∀ m (hm : m < a), (x.asks[m]'(by omega)).1 ≠ x.asks[a].1) := Lib.hid (fun a ha h m hm => by
       rcases Nat.lt_or_ge a k with h2 | h2
       ·exact HALL.out a ha h2 m hm
       ·obtain rfl : a = k := by omega
        exact HK.out m hm hm)
      go_wp2_with fail
      go_roundw
      case measure => simp [intOf]; omega
      case rel => exact ⟨k + 1, by omega, by go_num, NX.out, BY.out⟩
   ·obtain rfl : i = z2 := by omega
    have hlt' : ¬ (i : Int) < i := by omega
    have HO : Hid (OnceA (wayR p r).asks) := Lib.hid (by
     rw [← HXV.out]
     exact fun a ha k hk => HALL.out a ha (by have := HZ.out; omega) k hk)
    go_wp2_with fail
    clear k0 k1 k2 k3 HALL
    go_loopw [11] (fun s11 wr3 => ∃ i3 : Nat, i3 ≤ l3 ∧ s11 = .int .i64 i3 ∧ (∀ a (ha : a < r.path.length), a < i3 → (a + 1 < r.path.length → standsS p.sigs r.path[a] (outA p r a) = 0) ∧ (a + 1 = r.path.length → standsS p.sigs r.path[a] (outA p r a) = r.exit)) ∧ Below v2.heap.size v2 wr3) (fun s11 _ => l3 - (intOf s11).toNat)
    case atStart => exact ⟨0, by omega, by go_num, fun a ha h => absurd h (by omega), BW.out⟩
    case round =>
     obtain ⟨wr3, hwr⟩ : ∃ u, u = wr := ⟨_, rfl⟩
     subst hwr
     obtain ⟨i3, hi3, rfl, hall, hb⟩ := hrel
     have HA3 := Lib.hid hall
     have BW3 := Lib.hid hb
     clear hall hb
     have XR3 := Lib.hid ((BW3.out.block _ (heap_lt XR1.out)).trans XR1.out)
     have XP3 := Lib.hid ((BW3.out.block _ (heap_lt XP1.out)).trans XP1.out)
     have HI3 := Lib.hid ((HI.out.below BW3.out).more BW3.out.size)
     obtain ⟨k0, k1, k2, k3, k4, k5, k6⟩ := cell7_of XR3.out
     by_cases hl : i3 < l3
     ·have hl' : (i3 : Int) < l3 := by omega
      have hip : i3 < r.path.length := by have := HL3.out; omega
      have hil : i3 < nl := by have := HNL.out; have := HRI.out.len; omega
      have hil' : (i3 : Int) < nl := by omega
      obtain ⟨z, hz⟩ : ∃ z, z = r.path[i3] := ⟨_, rfl⟩
      obtain ⟨X, hX⟩ : ∃ z, z = outA p r i3 := ⟨_, rfl⟩
      obtain ⟨sg, hsg⟩ : ∃ y, y = standsS p.sigs z X := ⟨_, rfl⟩
      have HS := Lib.hid hsg
      have HSE : Hid (standsS p.sigs r.path[i3] (outA p r i3) = sg) := Lib.hid (by rw [hsg, hz, hX])
      obtain ⟨bl, ofl, e2, -, hc0⟩ := (PT.out.below intR BW3.out).at hip
      cases e2
      obtain ⟨bo, ofo, e3, -, hd0⟩ := (OI.out.below intR BW3.out).at (show i3 < (outsL p r nl).length by rw [outsL_len]; exact hil)
      cases e3
      have G0 : Hid (wr3.cell? ⟨bl, ofl + i3, none⟩ = some (.int .i64 z)) := Lib.hid (by rw [hz]; simpa [IntR] using hc0)
      have G1 : Hid (wr3.cell? ⟨bo, ofo + i3, none⟩ = some (.int .i64 X)) := Lib.hid (by rw [outsL_at p r hil, ← hX] at hd0; simpa [IntR] using hd0)
      clear hz hX hsg hc0 hd0
      go_upto_region 16 with fail
      clear k0 k1 k2 k3 k4 k5 k6
      refine wp_region_held_drew (S := fun v => Below wr3.heap.size wr3 v) (by kernel_rfl) (Below.refl wr3.heap.size wr3).drew (fun hHeld => ?_)
      refine tkc 0 hHeld (fun w' hSw => cell6_of ((hSw.block _ (heap_lt XP3.out)).trans XP3.out)) ?_;refine tk 1 hHeld ?_;refine tkc 2 hHeld (fun w' hSw => cell7_of ((hSw.block _ (heap_lt XR3.out)).trans XR3.out)) ?_;refine tk 3 hHeld ?_;refine tk 4 hHeld ?_;refine tkc 5 hHeld (fun w' hSw => (hSw.cell (cell_lt G0.out)).trans G0.out) ?_;refine tk 6 hHeld ?_;refine tk 7 hHeld ?_;refine tk 8 hHeld ?_;refine tkc 9 hHeld (fun w' hSw => (hSw.cell (cell_lt G1.out)).trans G1.out) ?_
      refine tkr 10 (fun K hK => ?_)
      go_simp
      refine (rat8_any _ p z X wr3.drew ⟨_, _, _, _, rfl, (HI3.out.below (Below.refl wr3.heap.size wr3).drew).more (Below.refl wr3.heap.size wr3).drew.size⟩).mono ?_
      rintro e v5 ⟨rfl, b⟩
      rw [← HS.out]
      have B5_ : Hid (Below wr3.heap.size wr3 v5) := Lib.hid ((Below.refl wr3.heap.size wr3).drew.trans (b.mono (Below.refl wr3.heap.size wr3).drew.size))
      clear b
      try go_wp2_with fail
      refine hK.out _ _ ?_ fun hHeld => ?_;exact B5_.out;clear hK K;try simp only [zn, Act.put]
      refine tk 11 hHeld ?_
      refine wpAnyH_done (by kernel_rfl) ?_ _
      have B5 : Hid (Below v2.heap.size v2 v5) := Lib.hid (BW3.out.trans (B5_.out.mono BW3.out.size))
      have XR5 := Lib.hid ((B5.out.block _ (heap_lt XR1.out)).trans XR1.out)
      have B6 := Lib.hid (B1.out.trans (B5.out.mono B1.out.size))
      obtain ⟨k0, k1, k2, k3, k4, k5, k6⟩ := cell7_of XR5.out
      have hw1 : IntKind.i64.wrap ((l3 : Int) - 1) = (l3 : Int) - 1 := wrap_id (by omega) (by omega)
      have NX : Hid ((i3 + 1 < r.path.length → sg = 0) → (i3 + 1 = r.path.length → sg = r.exit) → ∀ a (ha : a < r.path.length), a < i3 + 1 → (a + 1 < r.path.length → standsS p.sigs r.path[a] (outA p r a) = 0) ∧ (a + 1 = r.path.length → standsS p.sigs r.path[a] (outA p r a) = r.exit)) := Lib.hid (fun h1 h2 a ha h => by
       rcases Nat.lt_or_ge a i3 with h3 | h3
       ·exact HA3.out a ha h3
       ·obtain rfl : a = i3 := by omega
        rw [HSE.out]; exact ⟨h1, h2⟩)
      have BAD : Hid (¬ ((i3 + 1 < r.path.length → sg = 0) ∧ (i3 + 1 = r.path.length → sg = r.exit)) → soundB p r = false) := Lib.hid (fun h => soundB_false fun hs => h (by
       have h3 := hs.stands i3 hip
       rw [HSE.out] at h3
       exact h3))
      by_cases hla : i3 + 1 = l3
      ·have d2 : ((i3 : Int) == (l3 : Int) - 1) = true := by simp; omega
       have d3 : ¬ ((i3 : Int) < (l3 : Int) - 1) := by omega
       have e9 : i3 + 1 = r.path.length := by have := HL3.out; omega
       by_cases hs : sg = r.exit
       ·have d4 : (sg != r.exit) = false := by simpa using hs
        have NN := Lib.hid (NX.out (fun h => absurd h (by omega)) (fun _ => hs))
        clear hs NX BAD hla e9
        by_cases h0 : sg = 0
        ·have d1 : (sg != 0) = false := by simpa using h0
         clear h0
         go_wp2_with fail
         go_roundw
         case measure => simp [intOf]; omega
         case rel => exact ⟨i3 + 1, by omega, by go_num, NN.out, B5.out⟩
        ·have d1 : (sg != 0) = true := by simpa using h0
         clear h0
         go_wp2_with fail
         go_roundw
         case measure => simp [intOf]; omega
         case rel => exact ⟨i3 + 1, by omega, by go_num, NN.out, B5.out⟩
       ·have d4 : (sg != r.exit) = true := by simpa using hs
        have HR := Lib.hid (BAD.out (fun h => hs (h.2 e9)))
        clear hs NX BAD hla e9
        by_cases h0 : sg = 0
        ·have d1 : (sg != 0) = false := by simpa using h0
         clear h0
         go_wp2_with fail
         go_ret
         exact ⟨by rw [HR.out]; rfl, B6.out⟩
        ·have d1 : (sg != 0) = true := by simpa using h0
         clear h0
         go_wp2_with fail
         go_ret
         exact ⟨by rw [HR.out]; rfl, B6.out⟩
      ·have d2 : ((i3 : Int) == (l3 : Int) - 1) = false := by simp; omega
       have d3 : (i3 : Int) < (l3 : Int) - 1 := by omega
       have e9 : i3 + 1 < r.path.length := by have := HL3.out; omega
       by_cases h0 : sg = 0
       ·have d1 : (sg != 0) = false := by simpa using h0
        have NN := Lib.hid (NX.out (fun _ => h0) (fun h => absurd h (by omega)))
        clear h0 NX BAD hla e9
        go_wp2_with fail
        go_roundw
        case measure => simp [intOf]; omega
        case rel => exact ⟨i3 + 1, by omega, by go_num, NN.out, B5.out⟩
       ·have d1 : (sg != 0) = true := by simpa using h0
        have HR := Lib.hid (BAD.out (fun h => h0 (h.1 e9)))
        clear h0 NX BAD hla e9
        go_wp2_with fail
        go_ret
        exact ⟨by rw [HR.out]; rfl, B6.out⟩
     ·obtain rfl : i3 = l3 := by omega
      have hl' : ¬ (i3 : Int) < i3 := by omega
      have HR : Hid (soundB p r = true) := Lib.hid (soundB_true ⟨HH.out, HO.out, fun a ha => HA3.out a ha (by have := HL3.out; omega)⟩)
      go_wp2_with fail
      go_ret
      exact ⟨by rw [HR.out]; rfl, B1.out.trans (BW3.out.mono B1.out.size)⟩

set_option maxHeartbeats 8000000 in
theorem rmay10_any (v : Value) (p : Pl) (w : World) (h : PlanV w w.heap.size v p) :
  Calls Tryz.prog 32 #[v] w fun e w' => e = .returned (.bool (soundP p)) ∧ Below w.heap.size w w' := by
 obtain ⟨A2, c2, A3, c3, A4, c4, A5, c5, n2, n3, n4, n5, rfl, hm2, hm3, hm4, hm5, HCP, HIN, HN⟩ := open_plan h
 have hq0 := heap_alloc_self w (.cells #[.int .i64 p.ver, .int .i64 p.par, .slice A2 n2 c2, .slice A3 n3 c3, .slice A4 n4 c4, .slice A5 n5 c5] 27)
 have hqb := below_new w (.cells #[.int .i64 p.ver, .int .i64 p.par, .slice A2 n2 c2, .slice A3 n3 c3, .slice A4 n4 c4, .slice A5 n5 c5] 27)
 go_enter Tryz.func32, Tryz.ntmps32
 go_upto_region 1 with fail
 generalize w.alloc (.cells #[.int .i64 p.ver, .int .i64 p.par, .slice A2 n2 c2, .slice A3 n3 c3, .slice A4 n4 c4, .slice A5 n5 c5] 27) = q at hq0 hqb ⊢
 have XP := Lib.hid hq0
 have BQ := Lib.hid hqb
 clear hq0 hqb
 obtain ⟨k0, k1, k2, k3, k4, k5⟩ := cell6_of XP.out
 go_wp2_with fail
 refine (rmay8_any _ p q ⟨_, _, _, _, rfl, (HIN.out.below BQ.out).more BQ.out.size⟩).mono ?_
 rintro e w1 ⟨rfl, b1⟩
 have XP1 := Lib.hid ((b1.block _ (heap_lt XP.out)).trans XP.out)
 have B1 := Lib.hid (BQ.out.trans (b1.mono BQ.out.size))
 have HI := Lib.hid ((HIN.out.below B1.out).more B1.out.size)
 clear b1 k0 k1 k2 k3 k4 k5 XP BQ HIN
 cases hpm : planMay p with
 | false =>
  have HB : Hid (soundP p = false) := Lib.hid (soundP_false fun h => by rw [planMay_true h.may] at hpm; cases hpm)
  clear hpm
  go_wp2_with fail
  go_ret
  exact ⟨by rw [HB.out]; rfl, B1.out⟩
 | true =>
 have HPM := Lib.hid (planMay_iff.1 hpm)
 clear hpm
 go_wp2_with fail
 go_loopw [3] (fun s3 wr => ∃ i : Nat, i ≤ n5 ∧ s3 = .int .i64 i ∧ (∀ m (hm : m < p.routes.length), m < i → Sound p p.routes[m]) ∧ Below w1.heap.size w1 wr) (fun s3 _ => n5 - (intOf s3).toNat)
 case atStart => exact ⟨0, by omega, by go_num, fun m hm h => absurd h (by omega), Below.refl _ _⟩
 case round =>
  obtain ⟨i, hi, rfl, hall, hb⟩ := hrel
  have HALL := Lib.hid hall
  have BW := Lib.hid hb
  clear hall hb
  have XPw := Lib.hid ((BW.out.block _ (heap_lt XP1.out)).trans XP1.out)
  have HIw := Lib.hid ((HI.out.below BW.out).more BW.out.size)
  obtain ⟨k0, k1, k2, k3, k4, k5⟩ := cell6_of XPw.out
  by_cases hlt : i < n5
  ·have hlt' : (i : Int) < n5 := by omega
   have hir : i < p.routes.length := by have := HN.out; omega
   obtain ⟨bk, off, e5, -, hc0, hc1, hc2, hc6, u3, u4, u5, hc3, hc4, hc5, hri⟩ := (HIw.out.routes).at hir
   cases e5
   obtain ⟨r, hr⟩ : ∃ r, r = p.routes[i] := ⟨_, rfl⟩
   rw [← hr] at hc0 hc1 hc2 hc6 hri
   obtain ⟨D3, d3, rfl⟩ : ∃ A c, u3 = .slice A r.path.length c := by
    obtain ⟨A, c, e, -⟩ := hri.path.slice
    exact ⟨A, c, e⟩
   obtain ⟨D4, d4, rfl⟩ : ∃ A c, u4 = .slice A r.over.length c := by
    obtain ⟨A, c, e, -⟩ := hri.over.slice
    exact ⟨A, c, e⟩
   obtain ⟨D5, d5, rfl⟩ : ∃ A c, u5 = .slice A r.flanks.length c := by
    obtain ⟨A, c, e, -⟩ := hri.flanks.slice
    exact ⟨A, c, e⟩
   obtain ⟨l3, hl3⟩ : ∃ n, n = r.path.length := ⟨_, rfl⟩
   obtain ⟨l4, hl4⟩ : ∃ n, n = r.over.length := ⟨_, rfl⟩
   obtain ⟨l5, hl5⟩ : ∃ n, n = r.flanks.length := ⟨_, rfl⟩
   have RV : Hid (RouteV wr wr.heap.size (.agg #[.int .i64 r.id, .int .i64 r.entry, .int .i64 r.exit, .slice D3 l3 d3, .slice D4 l4 d4, .slice D5 l5 d5, .int .i64 r.timer]) r) := Lib.hid ⟨_, _, _, rfl, by rw [hl3, hl4, hl5]; exact hri⟩
   rw [← hl3] at hc3
   rw [← hl4] at hc4
   rw [← hl5] at hc5
   have G0 : Hid (wr.cell? ⟨bk, off + i * 7, none⟩ = some (.int .i64 r.id)) := Lib.hid hc0
   have G1 : Hid (wr.cell? ⟨bk, off + i * 7 + 1, none⟩ = some (.int .i64 r.entry)) := Lib.hid hc1
   have G2 : Hid (wr.cell? ⟨bk, off + i * 7 + 2, none⟩ = some (.int .i64 r.exit)) := Lib.hid hc2
   have G3 : Hid (wr.cell? ⟨bk, off + i * 7 + 3, none⟩ = some (.slice D3 l3 d3)) := Lib.hid hc3
   have G4 : Hid (wr.cell? ⟨bk, off + i * 7 + 4, none⟩ = some (.slice D4 l4 d4)) := Lib.hid hc4
   have G5 : Hid (wr.cell? ⟨bk, off + i * 7 + 5, none⟩ = some (.slice D5 l5 d5)) := Lib.hid hc5
   have G6 : Hid (wr.cell? ⟨bk, off + i * 7 + 6, none⟩ = some (.int .i64 r.timer)) := Lib.hid hc6
   have HR := Lib.hid hr.symm
   clear hc0 hc1 hc2 hc3 hc4 hc5 hc6 hri hr hl3 hl4 hl5
   have HIR := Lib.hid hir
   obtain ⟨S, hS⟩ : ∃ x, x = soundB p r := ⟨_, rfl⟩
   have HSB := Lib.hid hS
   clear hS
   go_upto_region 6 with fail
   clear k0 k1 k2 k3 k4 k5
   refine wp_region_held_drew (S := fun v => Below wr.heap.size wr v) (by kernel_rfl) (Below.refl wr.heap.size wr).drew (fun hHeld => ?_)
   refine tkc 0 hHeld (fun w' hSw => cell6_of ((hSw.block _ (heap_lt XPw.out)).trans XPw.out)) ?_;refine tk 1 hHeld ?_;refine tkc 2 hHeld (fun w' hSw => cell6_of ((hSw.block _ (heap_lt XPw.out)).trans XPw.out)) ?_;refine tk 3 hHeld ?_;refine tk 4 hHeld ?_
   refine wpAnyH_take (i := 5) (v := ?_) rfl (by kernel_rfl) (by kernel_rfl) (by kernel_rfl) (fun _ _ _ h => h) (Or.inl ⟨by rfl, ?_⟩) hHeld ?_
   rotate_left
   ·intro w' hSw; have cg0 := (hSw.cell (cell_lt G0.out)).trans G0.out; have cg1 := (hSw.cell (cell_lt G1.out)).trans G1.out; have cg2 := (hSw.cell (cell_lt G2.out)).trans G2.out; have cg3 := (hSw.cell (cell_lt G3.out)).trans G3.out; have cg4 := (hSw.cell (cell_lt G4.out)).trans G4.out; have cg5 := (hSw.cell (cell_lt G5.out)).trans G5.out; have cg6 := (hSw.cell (cell_lt G6.out)).trans G6.out; go_simp; try with_reducible rfl
   simp only [zn, Act.put]
   refine tkr 6 (fun K hK => ?_)
   go_simp
   refine (rsound_any _ _ p r i HIR.out HR.out wr.drew ⟨_, _, _, _, rfl, (HIw.out.below (Below.refl wr.heap.size wr).drew).more (Below.refl wr.heap.size wr).drew.size⟩ ((RV.out.below (Below.refl wr.heap.size wr).drew).more (Below.refl wr.heap.size wr).drew.size) HPM.out).mono ?_
   rintro e v5 ⟨rfl, b⟩
   rw [← HSB.out]
   have B5 : Hid (Below wr.heap.size wr v5) := Lib.hid (((Below.refl wr.heap.size wr).drew).trans (b.mono ((Below.refl wr.heap.size wr).drew).size))
   clear b
   try go_wp2_with fail
   refine hK.out _ _ ?_ fun hHeld => ?_;exact B5.out;clear hK K;try simp only [zn, Act.put]
   refine tk 7 hHeld ?_
   refine wpAnyH_done (by kernel_rfl) ?_ _
   have B6 := Lib.hid (BW.out.trans (B5.out.mono BW.out.size))
   clear B5
   cases S with
   | false =>
    have HB : Hid (soundP p = false) := Lib.hid (soundP_false fun h => by
     have h1 := h.each i HIR.out
     rw [HR.out] at h1
     rw [soundB_true h1] at HSB
     exact absurd HSB.out (by simp))
    go_wp2_with fail
    go_ret
    exact ⟨by rw [HB.out]; rfl, B1.out.trans (B6.out.mono B1.out.size)⟩
   | true =>
    have NX : Hid (∀ m (hm : m < p.routes.length), m < i + 1 → Sound p p.routes[m]) := Lib.hid (fun m hm h => by
     rcases Nat.lt_or_ge m i with h2 | h2
     ·exact HALL.out m hm h2
     ·obtain rfl : m = i := by omega
      rw [HR.out]; exact soundB_iff.1 HSB.out.symm)
    go_wp2_with fail
    go_roundw
    case measure => simp [intOf]; omega
    case rel => exact ⟨i + 1, by omega, by go_num, NX.out, B6.out⟩
  ·obtain rfl : i = n5 := by omega
   have hlt' : ¬ (i : Int) < i := by omega
   have HB : Hid (soundP p = true) := Lib.hid (soundP_true ⟨HPM.out, fun m hm => HALL.out m hm (by have := HN.out; omega)⟩)
   go_wp2_with fail
   go_ret
   exact ⟨by rw [HB.out]; rfl, B1.out.trans (BW.out.mono B1.out.size)⟩
set_option maxHeartbeats 4000000 in
theorem rcheck10_any (v : Value) (p : Pl) (w : World) (h : PlanV w w.heap.size v p) :
  Calls Tryz.prog 17 #[v] w fun e w' => e = .returned (.int .i64 (sndE p)) ∧ Below w.heap.size w w' := by
 obtain ⟨A2, c2, A3, c3, A4, c4, A5, c5, n2, n3, n4, n5, rfl, hm2, hm3, hm4, hm5, HCP, HIN, HN⟩ := open_plan h
 have hq0 := heap_alloc_self w (.cells #[.int .i64 p.ver, .int .i64 p.par, .slice A2 n2 c2, .slice A3 n3 c3, .slice A4 n4 c4, .slice A5 n5 c5] 27)
 have hqb := below_new w (.cells #[.int .i64 p.ver, .int .i64 p.par, .slice A2 n2 c2, .slice A3 n3 c3, .slice A4 n4 c4, .slice A5 n5 c5] 27)
 go_enter Tryz.func17, Tryz.ntmps17
 go_upto_region 1 with fail
 generalize w.alloc (.cells #[.int .i64 p.ver, .int .i64 p.par, .slice A2 n2 c2, .slice A3 n3 c3, .slice A4 n4 c4, .slice A5 n5 c5] 27) = q at hq0 hqb ⊢
 have XP := Lib.hid hq0
 have BQ := Lib.hid hqb
 clear hq0 hqb
 obtain ⟨S, hS⟩ : ∃ x, x = soundP p := ⟨_, rfl⟩
 have HS : Hid (sndE p = if S then 0 else 100) := Lib.hid (by rw [hS]; rfl)
 have HSP := Lib.hid hS
 clear hS
 obtain ⟨k0, k1, k2, k3, k4, k5⟩ := cell6_of XP.out
 go_wp2_with fail
 refine (rmay10_any _ p q ⟨_, _, _, _, rfl, (HIN.out.below BQ.out).more BQ.out.size⟩).mono ?_
 rintro e w1 ⟨rfl, b1⟩
 have B1 := Lib.hid (BQ.out.trans (b1.mono BQ.out.size))
 clear b1 k0 k1 k2 k3 k4 k5
 rw [← HSP.out]
 cases S with
 | false =>
  go_wp2_with fail
  go_ret
  exact ⟨by rw [HS.out]; rfl, B1.out⟩
 | true =>
  go_wp2_with fail
  go_ret
  exact ⟨by rw [HS.out]; rfl, B1.out⟩
end Go.Proofs.YtebffdfimmbbdaaGreat
