/-
 SoundEach: the walk, given the program's contracts.
 Conditions: none.
-/
import Derived.Test.YtccbdpeicemnjaaTGSndSt
import Derived.Test.YtccbdpeicemnjaaTGSndM
import Derived.Test.YtccbdpeicemnjaaTGPlnRefD
import Derived.Test.YtccbdpeicemnjaaTPlnFewW
import Derived.Test.YtccbdpeicemnjaaTWayAllM
set_option linter.unusedVariables false
set_option linter.unusedSimpArgs false
set_option maxRecDepth 100000
namespace Go.Proofs.Ytccbdpeicemnjaa
open Go.RowKit

set_option maxHeartbeats 16000000 in
theorem walk_sound_each (hs : SndSaid) (hp : PlanSaid) (v : Value) (p : Pl) (x : Int) (hx0 : 0 ≤ x) (hx1 : x < 256) (w : World) (h : PlanV w w.heap.size v p) :
  Calls Try.prog 5 #[v, .int .u8 x] w fun e w' => e = .returned (.bool true) ∧ Below w.heap.size w w' := by
 obtain ⟨y2, y3, y4, y5, rfl, hin⟩ := h
 have HIN0 := Lib.hid hin
 obtain ⟨A2, c2, rfl, -, -⟩ := hin.secs.slice
 obtain ⟨A3, c3, rfl, -, -⟩ := hin.pts.slice
 obtain ⟨A4, c4, rfl, -, -⟩ := hin.sigs.slice
 obtain ⟨A5, c5, rfl, hcl5, hcm5⟩ := hin.routes.slice
 obtain ⟨n2, hn2⟩ : ∃ n, n = p.secs.length := ⟨_, rfl⟩
 obtain ⟨n3, hn3⟩ : ∃ n, n = p.pts.length := ⟨_, rfl⟩
 obtain ⟨n4, hn4⟩ : ∃ n, n = p.sigs.length := ⟨_, rfl⟩
 obtain ⟨n5, hn5⟩ : ∃ n, n = p.routes.length := ⟨_, rfl⟩
 have HM5 : Hid (n5 ≤ 9223372036854775807) := Lib.hid (by rw [hn5]; unfold maxLen at hcm5; omega)
 have HN5 := Lib.hid hn5
 have HN : Hid (n2 = p.secs.length ∧ n3 = p.pts.length ∧ n4 = p.sigs.length ∧ n5 = p.routes.length) := Lib.hid ⟨hn2, hn3, hn4, hn5⟩
 have HX01 : Hid (0 ≤ x ∧ x < 256) := Lib.hid ⟨hx0, hx1⟩
 clear hx0 hx1
 have HP0 : Hid (PlanV w w.heap.size (.agg #[.int .i64 p.ver, .int .i64 p.par, .slice A2 n2 c2, .slice A3 n3 c3, .slice A4 n4 c4, .slice A5 n5 c5]) p) := Lib.hid ⟨_, _, _, _, rfl, by rw [hn2, hn3, hn4, hn5]; exact HIN0.out⟩
 rw [← hn2, ← hn3, ← hn4, ← hn5]
 clear hn2 hn3 hn4 hn5 HIN0 hin hcl5 hcm5
 have hq0 := heap_alloc_self w (.cells #[.int .i64 p.ver, .int .i64 p.par, .slice A2 n2 c2, .slice A3 n3 c3, .slice A4 n4 c4, .slice A5 n5 c5] 27)
 have hqb := below_new w (.cells #[.int .i64 p.ver, .int .i64 p.par, .slice A2 n2 c2, .slice A3 n3 c3, .slice A4 n4 c4, .slice A5 n5 c5] 27)
 go_enter Try.func5, Try.ntmps5
 go_upto_region 1 with fail
 generalize w.alloc (.cells #[.int .i64 p.ver, .int .i64 p.par, .slice A2 n2 c2, .slice A3 n3 c3, .slice A4 n4 c4, .slice A5 n5 c5] 27) = q at hq0 hqb ⊢
 have BZ := Lib.hid hqb
 have XP := Lib.hid hq0
 have HP := Lib.hid ((HP0.out.below hqb).more hqb.size)
 clear hq0 hqb HP0
 go_wp2_with fail
 refine (alive10 hs q).mono ?_
 rintro e w1 ⟨rfl, b1⟩
 replace BZ := Lib.hid (BZ.out.trans (b1.mono BZ.out.size))
 replace XP := Lib.hid ((b1.block _ (heap_lt XP.out)).trans XP.out)
 replace HP := Lib.hid ((HP.out.below b1).more b1.size)
 clear b1
 obtain ⟨k0, k1, k2, k3, k4, k5⟩ := cell6_of XP.out
 go_wp2_with fail
 refine (rgreat8_any _ p w1 HP.out).mono ?_
 rintro e w2 ⟨⟨g, rfl, hg⟩, bG⟩
 clear k0 k1 k2 k3 k4 k5
 replace BZ := Lib.hid (BZ.out.trans (bG.mono BZ.out.size))
 replace XP := Lib.hid ((bG.block _ (heap_lt XP.out)).trans XP.out)
 replace HP := Lib.hid ((HP.out.below bG).more bG.size)
 clear bG
 cases g with
 | true =>
  go_wp2_with fail
  go_ret
  exact ⟨rfl, BZ.out⟩
 | false =>
 have FEW := Lib.hid (hg rfl)
 clear hg
 obtain ⟨k0, k1, k2, k3, k4, k5⟩ := cell6_of XP.out
 go_wp2_with fail
 refine (hs.check _ p w2 HP.out).mono ?_
 rintro e w3 ⟨rfl, b3⟩
 clear k0 k1 k2 k3 k4 k5
 replace BZ := Lib.hid (BZ.out.trans (b3.mono BZ.out.size))
 replace XP := Lib.hid ((b3.block _ (heap_lt XP.out)).trans XP.out)
 replace HP := Lib.hid ((HP.out.below b3).more b3.size)
 clear b3
 obtain ⟨S, hS⟩ : ∃ x, x = sndE p := ⟨_, rfl⟩
 rw [← hS]
 have HS := Lib.hid hS.symm
 clear hS
 obtain ⟨k0, k1, k2, k3, k4, k5⟩ := cell6_of XP.out
 go_wp2_with fail
 refine (hp.check _ p w3 HP.out).mono ?_
 rintro e w4 ⟨rfl, b4⟩
 clear k0 k1 k2 k3 k4 k5
 replace BZ := Lib.hid (BZ.out.trans (b4.mono BZ.out.size))
 replace XP := Lib.hid ((b4.block _ (heap_lt XP.out)).trans XP.out)
 replace HP := Lib.hid ((HP.out.below b4).more b4.size)
 clear b4
 by_cases hm : planMay p = true
 rotate_left
 ·have hc : chk8 p = 8 := by rw [chk8, if_neg hm]
  rw [hc]
  have hS1 : S = 100 := by
   rw [← HS.out]
   rcases sndE_cases p with ⟨-, h1⟩ | ⟨h1, -⟩
   ·exact absurd (planMay_true h1.may) hm
   ·exact h1
  subst hS1
  clear hm hc
  go_wp2_with fail
  go_ret
  exact ⟨rfl, BZ.out⟩
 have hc : chk8 p = 0 := by rw [chk8, if_pos hm]
 rw [hc]
 have PM := Lib.hid (planMay_iff.1 hm)
 clear hm hc
 have hn9 := HM5.out
 go_wp2_with fail
 go_loopw [7, 8] (fun s7 s8 wr => ∃ (i : Nat) (bb : Bool), i ≤ n5 ∧ s8 = .int .i64 i ∧ s7 = .bool bb ∧ (bb = true ↔ ∀ m (hm : m < p.routes.length), m < i → Sound p p.routes[m]) ∧ Below w4.heap.size w4 wr) (fun _ s8 _ => n5 - (intOf s8).toNat)
 case atStart => exact ⟨0, true, by omega, by go_num, rfl, ⟨fun _ m hm h => absurd h (by omega), fun _ => rfl⟩, Below.refl _ _⟩
 case round =>
  obtain ⟨i, bb, hi, rfl, rfl, hall, hb⟩ := hrel
  have HALL := Lib.hid hall
  have BW := Lib.hid hb
  clear hall hb
  have XPw := Lib.hid ((BW.out.block _ (heap_lt XP.out)).trans XP.out)
  obtain ⟨k0, k1, k2, k3, k4, k5⟩ := cell6_of XPw.out
  by_cases hlt : i < n5
  ·have hlt' : (i : Int) < n5 := by omega
   have hir : i < p.routes.length := by rw [← HN5.out]; exact hlt
   obtain ⟨r, hr⟩ : ∃ r, r = p.routes[i] := ⟨_, rfl⟩
   have HR_ := Lib.hid hr
   have HRS : Hid (RoutesIn wr wr.heap.size (.slice A5 n5 c5) p.routes) := Lib.hid (by
    obtain ⟨_, _, _, _, e, hin⟩ := (HP.out.below BW.out).more BW.out.size
    cases e
    exact hin.routes)
   obtain ⟨bk, off, e5, -, hc0, -⟩ := HRS.out.at hir
   cases e5
   rw [← hr] at hc0
   have G0 : Hid (wr.cell? ⟨bk, off + i * 7, none⟩ = some (.int .i64 r.id)) := Lib.hid hc0
   obtain ⟨f, hf⟩ : ∃ f, f = sndR p r.id := ⟨_, rfl⟩
   have HF := Lib.hid hf
   have HFE : Hid ((f = 0 ∧ Sound p r) ∨ (f = 100 ∧ ¬ Sound p r)) := Lib.hid (by
    have h1 := sndR_at PM.out hir (at1_some (k := kRt) hir rfl fun j hj => by
     have := ids_up PM.out i j hir hj
     show p.routes[j].id ≠ p.routes[i].id
     omega)
    rw [← hr] at h1
    rw [hf, h1]
    by_cases h2 : Sound p r
    ·exact .inl ⟨by rw [soundB_true h2]; rfl, h2⟩
    ·exact .inr ⟨by rw [soundB_false h2]; rfl, h2⟩)
   have NX : Hid (∀ b2 : Bool, (b2 = true ↔ bb = true ∧ Sound p r) → (b2 = true ↔ ∀ m (hm : m < p.routes.length), m < i + 1 → Sound p p.routes[m])) := Lib.hid (fun b2 h => by
    rw [h, HALL.out]
    constructor
    ·rintro ⟨h1, h2⟩ m hm h3
     rcases Nat.lt_or_ge m i with h4 | h4
     ·exact h1 m hm h4
     ·obtain rfl : m = i := by omega
      rw [← HR_.out]; exact h2
    ·intro h1
     exact ⟨fun m hm h3 => h1 m hm (by omega), by rw [HR_.out]; exact h1 i _ (by omega)⟩)
   clear hc0 hr hf
   go_upto_region 11 with fail
   clear k0 k1 k2 k3 k4 k5
   refine wp_region_held_drew (S := fun v => Below wr.heap.size wr v) (by kernel_rfl) (Below.refl wr.heap.size wr).drew (fun hHeld => ?_)
   refine tkc 0 hHeld (fun w' hSw => cell6_of ((hSw.block _ (heap_lt XPw.out)).trans XPw.out)) ?_;refine tk 1 hHeld ?_;refine tkc 2 hHeld (fun w' hSw => cell6_of ((hSw.block _ (heap_lt XPw.out)).trans XPw.out)) ?_;refine tk 3 hHeld ?_;refine tk 4 hHeld ?_;refine tk 5 hHeld ?_;refine tkc 6 hHeld (fun w' hSw => (hSw.cell (cell_lt G0.out)).trans G0.out) ?_
   refine tkr 7 (fun K hK => ?_)
   go_simp
   refine (hs.route _ p r.id wr.drew (((HP.out.below BW.out).more BW.out.size).below (Below.refl wr.heap.size wr).drew |>.more (Below.refl wr.heap.size wr).drew.size)).mono ?_
   rintro e v5 ⟨rfl, b⟩
   rw [← HF.out]
   have B5 : Hid (Below wr.heap.size wr v5) := Lib.hid (((Below.refl wr.heap.size wr).drew).trans (b.mono ((Below.refl wr.heap.size wr).drew).size))
   clear b
   try go_wp2_with fail
   refine hK.out _ _ ?_ fun hHeld => ?_;exact B5.out;clear hK K;try simp only [zn, Act.put]
   refine tk 8 hHeld ?_
   refine wpAnyH_done (by kernel_rfl) ?_ _
   have B6 := Lib.hid (BW.out.trans (B5.out.mono BW.out.size))
   clear B5
   rcases HFE.out with ⟨h1, h2⟩ | ⟨h1, h2⟩
   ·subst h1
    have HN_ := Lib.hid (NX.out bb ⟨fun h => ⟨h, h2⟩, fun h => h.1⟩)
    clear h2 HFE NX HF
    cases bb with
    | true =>
     go_wp2_with fail
     go_roundw
     case measure => simp [intOf]; omega
     case rel => exact ⟨i + 1, true, by omega, by go_num, rfl, HN_.out, B6.out⟩
    | false =>
     go_wp2_with fail
     go_roundw
     case measure => simp [intOf]; omega
     case rel => exact ⟨i + 1, false, by omega, by go_num, rfl, HN_.out, B6.out⟩
   ·subst h1
    have HN_ := Lib.hid (NX.out false ⟨fun h => absurd h (by simp), fun h => absurd h.2 h2⟩)
    clear h2 HFE NX HF
    cases bb with
    | true =>
     go_wp2_with fail
     go_roundw
     case measure => simp [intOf]; omega
     case rel => exact ⟨i + 1, false, by omega, by go_num, rfl, HN_.out, B6.out⟩
    | false =>
     go_wp2_with fail
     go_roundw
     case measure => simp [intOf]; omega
     case rel => exact ⟨i + 1, false, by omega, by go_num, rfl, HN_.out, B6.out⟩
  ·obtain rfl : i = n5 := by omega
   have hlt' : ¬ ((i : Int) < i) := by omega
   have BZw : Hid (Below w.heap.size w wr) := Lib.hid (BZ.out.trans (BW.out.mono BZ.out.size))
   have HPw := Lib.hid ((HP.out.below BW.out).more BW.out.size)
   have HIFF : Hid (bb = true ↔ S = 0) := Lib.hid (by
    rw [HALL.out, ← HS.out, sndE_zero]
    exact ⟨fun h => ⟨PM.out, fun m hm => h m hm (by have := HN5.out; omega)⟩, fun h m hm _ => h.each m hm⟩)
   have HSC : Hid (S = 0 ∨ S = 100) := Lib.hid (by
    rw [← HS.out]
    rcases sndE_cases p with ⟨h1, -⟩ | ⟨h1, -⟩
    ·exact .inl h1
    ·exact .inr h1)
   rcases HSC.out with hS0 | hS0
   rotate_left
   ·subst hS0
    have hbb : bb = false := by
     cases bb with
     | false => rfl
     | true => exact absurd (HIFF.out.1 rfl) (by decide)
    subst hbb
    clear HIFF HSC HALL hi
    by_cases hz : i = 0
    ·have d0 : ((i : Int) == 0) = true := by rw [hz]; rfl
     clear hz
     go_wp2_with fail
     go_ret
     exact ⟨rfl, BZw.out⟩
    ·have d0 : ((i : Int) == 0) = false := by simp; omega
     clear hz
     go_wp2_with fail
     go_ret
     exact ⟨rfl, BZw.out⟩
   subst hS0
   have hbb : bb = true := HIFF.out.2 rfl
   subst hbb
   have HSN := Lib.hid (sndE_zero.1 HS.out)
   clear HIFF HSC HALL hi HS
   by_cases hnz : i = 0
   ·have d0 : ((i : Int) == 0) = true := by rw [hnz]; rfl
    clear hnz
    go_wp2_with fail
    go_ret
    exact ⟨rfl, BZw.out⟩
   have hn0 : ((i : Int) == 0) = false := by simp; omega
   have hn1 : ¬ (i : Int) = 0 := by omega
   obtain ⟨n5, hn5e⟩ : ∃ u, u = i := ⟨_, rfl⟩
   subst hn5e
   have L4 : Hid (n4 ≤ 40 ∧ n5 ≤ 40) := Lib.hid (by have := FEW.out.sigs; have := FEW.out.routes; have := HN.out; omega)
   obtain ⟨kk, hkr, hkn⟩ : ∃ r : Nat, x.tmod (n5 : Int) = (r : Int) ∧ r < n5 := by
    obtain ⟨X, rfl⟩ : ∃ X : Nat, x = (X : Int) := ⟨x.toNat, by have := HX01.out; omega⟩
    exact ⟨X % n5, rfl, Nat.mod_lt _ (by omega)⟩
   obtain ⟨K1, hK1⟩ : ∃ x, x = kk + 1 := ⟨_, rfl⟩
   have KB : Hid (K1 = kk + 1 ∧ kk < n5) := Lib.hid ⟨hK1, hkn⟩
   have hkk1 : (kk : Int) ≤ K1 := by omega
   have hx2 : IntKind.i64.wrap x = x := wrap_id (by have := HX01.out; omega) (by have := HX01.out; omega)
   have hwkk : IntKind.i64.wrap (kk : Int) = (kk : Int) := wrap_id (by have := L4.out; omega) (by have := L4.out; omega)
   go_wp2_with fail
   refine (rtwin8_any _ p wr HPw.out FEW.out).mono ?_
   rintro e w5 ⟨u2, u3, u4, u5, rfl, ho, b1⟩
   obtain ⟨U2, f2, rfl⟩ := ho.secs.slice
   obtain ⟨U3, f3, rfl⟩ := ho.pts.slice
   obtain ⟨U4, f4, rfl⟩ := ho.sigs.slice
   obtain ⟨U5, f5, rfl⟩ := ho.routes.slice
   rw [← HN.out.1, ← HN.out.2.1, ← HN.out.2.2.1, ← HN.out.2.2.2] at ho ⊢
   obtain ⟨lo, hlo⟩ : ∃ lo, lo = wr.heap.size := ⟨_, rfl⟩
   rw [← hlo] at ho
   have HO := Lib.hid ho
   have LW : Hid (w.heap.size ≤ lo ∧ lo ≤ w5.heap.size) := Lib.hid (by rw [hlo]; exact ⟨BZw.out.size, b1.size⟩)
   have tBQ := BZw.out.trans (b1.mono BZw.out.size)
   clear k0 k1 k2 k3 k4 k5 ho b1 hlo
   have BQ := Lib.hid tBQ
   clear tBQ
   obtain ⟨q4, hq⟩ : ∃ x, x = w5.alloc (.cells #[.int .i64 p.ver, .int .i64 p.par, .slice U2 n2 f2, .slice U3 n3 f3, .slice U4 n4 f4, .slice U5 n5 f5] 27) := ⟨_, rfl⟩
   have x1 := heap_alloc_self w5 (.cells #[.int .i64 p.ver, .int .i64 p.par, .slice U2 n2 f2, .slice U3 n3 f3, .slice U4 n4 f4, .slice U5 n5 f5] 27)
   have b1 := below_new w5 (.cells #[.int .i64 p.ver, .int .i64 p.par, .slice U2 n2 f2, .slice U3 n3 f3, .slice U4 n4 f4, .slice U5 n5 f5] 27)
   rw [← hq] at x1 b1
   have HC0 : Hid (CopyAt q4 lo w5.heap.size #[.int .i64 p.ver, .int .i64 p.par, .slice U2 n2 f2, .slice U3 n3 f3, .slice U4 n4 f4, .slice U5 n5 f5] (.slice U2 n2 f2) (.slice U3 n3 f3) (.slice U4 n4 f4) (.slice U5 n5 f5) p p.sigs p.routes) := Lib.hid ⟨x1, (HO.out.below b1).secs, (HO.out.below b1).pts, (HO.out.below b1).sigs, (HO.out.below b1).routes⟩
   have tBQ := BQ.out.trans (b1.mono BQ.out.size)
   have HQ := Lib.hid hq
   clear hq x1 b1 BQ HO
   have BQ := Lib.hid tBQ
   clear tBQ
   obtain ⟨g, yss, hA, hpt⟩ := routes_parted (HC0.out.below (Below.refl _ q4).drew).routes (k := kk) (by have := HN.out; omega)
   subst hA
   have PT := Lib.hid hpt
   have hcap := hpt.cap
   have hnf : n5 ≤ f5 := by have := HN.out; omega
   clear hpt
   have hwk : IntKind.i64.wrap ((kk : Int) + 1) = (K1 : Int) := by rw [wrap_id (by omega) (by unfold maxLen at hcap; omega)]; omega
   have hb5 : n5 ≤ 9223372036854775807 := by have := L4.out; omega
   have hkc : (kk : Int) ≤ f5 := by omega
   have hkc2 : kk ≤ f5 := by omega
   have hk1n : (K1 : Int) ≤ n5 := by omega
   obtain ⟨i0, hii, hz0, hz1, hz2⟩ := info_parts infoRouteI
   have I0 := Lib.hid hii
   have I1 := Lib.hid hz0
   have I2 := Lib.hid hz1
   have I3 := Lib.hid hz2
   clear hii hz0 hz1 hz2
   have HNF := Lib.hid hnf
   have HKL : Hid (kk < p.routes.length) := Lib.hid (by rw [← HN.out.2.2.2]; exact hkn)
   clear hK1 hcap hnf
   go_upto_region 21 with fail
   rw [← HQ.out]
   generalize w5.heap.size = p6 at HC0 LW ⊢
   clear hn0 hn1 hnz HQ
   by_cases hce : f5 = K1
   ·have CE : Hid (n5 = K1) := Lib.hid (by have := HNF.out; omega)
    obtain rfl : K1 = f5 := hce.symm
    refine wp_region_end (S := fun v' => v'.heap[p6]? = q4.heap[p6]?) 11 (by kernel_rfl) rfl (fun hHeld => ?_)
    refine tke [1, 3, 9, 11] 0 hHeld ?_;refine tkd [3, 9, 11] 1 hHeld (fun w' hSw => cell6_of (hSw.trans HC0.out.x6)) ?_;refine tke [3, 9, 11] 2 hHeld ?_;refine tke [9, 11] 3 hHeld ?_;refine tke [5, 8, 9, 11] 4 hHeld ?_;refine tkd [8, 9, 11] 5 hHeld (fun w' hSw => cell6_of (hSw.trans HC0.out.x6)) ?_;refine tke [7, 8, 9, 11] 6 hHeld ?_;refine tke [8, 9, 11] 7 hHeld ?_;refine tke [9, 11] 8 hHeld ?_
    refine wpAnyE_one (i := 9) (by kernel_rfl) rfl (by kernel_rfl) (fun K hK => ?_)
    rw [if_pos (by rfl)]
    refine wp_append_listB (.tmp 84) (.tmp 89) _ rfl Try.underlying25 I0.out I1.out rfl I2.out (by decide) I3.out (by decide) rfl PT.out.first rfl (news := (yss.drop (kk + 1)).flatten) (m := n5 - K1) (by have h := PT.out.last; rw [show p.routes.length - (kk + 1) = n5 - K1 from by have := KB.out; have := HN.out; omega] at h; exact h) (fun h => by cases h) (fun a ha j u hj => by have hl := (List.getElem?_eq_some_iff.1 hj).1; have := PT.out.last; have := CE.out; have := HN.out; have := KB.out; omega) PT.out.one (by have := L4.out; have := KB.out; omega) (by have := LW.out; have := heap_lt HC0.out.x6; show lo ≤ q4.heap.size; omega) ?_
    intro v7 w7 hown7 hgrow7
    have hown8 : w7.ownsRow lo 34 7 v7 (kk + (n5 - K1)) ((yss.take kk).flatten ++ (yss.drop (kk + 1)).flatten) := hown7
    obtain ⟨A7, c7, rfl⟩ := own_sliceN hown8
    obtain ⟨nr, hnr⟩ : ∃ x, x = kk + (n5 - K1) := ⟨_, rfl⟩
    rw [← hnr] at hown8 ⊢
    have NRE : Hid (nr = (p.routes.eraseIdx kk).length) := Lib.hid (by rw [List.length_eraseIdx, if_pos HKL.out, ← HN.out.2.2.2]; have := KB.out; omega)
    have CC := Lib.hid ((HC0.out.below (Below.refl _ q4).drew).cut PT.out HKL.out hgrow7 hown8 NRE.out (by have := L4.out; have := KB.out; unfold maxLen; omega))
    have B7 : Hid (Below w.heap.size w w7) := Lib.hid (BQ.out.drew.grown hgrow7 (show w.heap.size ≤ q4.heap.size from BQ.out.size) (fun k hk => by cases hk; exact Nat.le_trans LW.out.1 PT.out.ge))
    clear hown7 hgrow7 hown8 hnr
    refine hK.out _ _ ?_ fun hHeld => ?_;exact CC.out.x6.trans HC0.out.x6.symm;clear hK K;try simp only [zn, Act.put]
    refine tke [11] 10 hHeld ?_
    obtain ⟨m0, m1, m2, m3, m4, m5⟩ := cell6_of CC.out.x6
    have fz := frozen2_of CC.out.x6 5
    refine wpAnyE_last (by kernel_rfl) rfl (by kernel_rfl) (fun K hK => ?_)
    rw [if_pos (by rfl)]
    go_simp
    refine hK.out _ _ ?_
    clear hK K
    have tHC : CopyAt (w7.setCell ⟨p6, 5, none⟩ (.slice A7 nr c7)) lo p6 #[.int .i64 p.ver, .int .i64 p.par, .slice U2 n2 f2, .slice U3 n3 f3, .slice U4 n4 f4, .slice A7 nr c7] (.slice U2 n2 f2) (.slice U3 n3 f3) (.slice U4 n4 f4) (.slice A7 nr c7) p p.sigs (p.routes.eraseIdx kk) := CC.out.set 5 (.slice A7 nr c7)
    have tBQ := below_set B7.out (show w.heap.size ≤ p6 by have := LW.out; omega) 5 (.slice A7 nr c7)
    generalize w7.setCell ⟨p6, 5, none⟩ (.slice A7 nr c7) = wz at tHC tBQ ⊢
    have HV : Hid (PlanV wz wz.heap.size (.agg #[.int .i64 p.ver, .int .i64 p.par, .slice U2 n2 f2, .slice U3 n3 f3, .slice U4 n4 f4, .slice A7 nr c7]) (cutP p kk)) := Lib.hid (by
     refine ⟨_, _, _, _, rfl, ?_⟩
     have h1 := tHC.secs
     have h2 := tHC.pts
     have h3 := tHC.sigs
     have h4 := tHC.routes
     exact ⟨h1.in_, h2.in_ joinR_cells, h3.in_ sigR_cells, h4.in_⟩)
    obtain ⟨k0, k1, k2, k3, k4, k5⟩ := cell6_of tHC.x6
    have BF := Lib.hid tBQ
    clear tHC tBQ fz m0 m1 m2 m3 m4 m5
    go_wp2_with fail
    refine (hs.check _ (cutP p kk) wz HV.out).mono ?_
    rintro e w9 ⟨rfl, b9⟩
    rw [sndE_zero.2 (plan_cut HSN.out kk)]
    have BL := Lib.hid (BF.out.trans (b9.mono BF.out.size))
    clear b9 k0 k1 k2 k3 k4 k5
    go_wp2_with fail
    go_ret
    exact ⟨rfl, BL.out⟩
   ·have hce2 : ¬ (f5 : Int) = K1 := by omega
    refine wp_region_end (S := fun v' => v'.heap[p6]? = q4.heap[p6]?) 11 (by kernel_rfl) rfl (fun hHeld => ?_)
    refine tke [1, 3, 9, 11] 0 hHeld ?_;refine tkd [3, 9, 11] 1 hHeld (fun w' hSw => cell6_of (hSw.trans HC0.out.x6)) ?_;refine tke [3, 9, 11] 2 hHeld ?_;refine tke [9, 11] 3 hHeld ?_;refine tke [5, 8, 9, 11] 4 hHeld ?_;refine tkd [8, 9, 11] 5 hHeld (fun w' hSw => cell6_of (hSw.trans HC0.out.x6)) ?_;refine tke [7, 8, 9, 11] 6 hHeld ?_;refine tke [8, 9, 11] 7 hHeld ?_;refine tke [9, 11] 8 hHeld ?_
    refine wpAnyE_one (i := 9) (by kernel_rfl) rfl (by kernel_rfl) (fun K hK => ?_)
    rw [if_pos (by rfl)]
    refine wp_append_listB (.tmp 84) (.tmp 89) _ rfl Try.underlying25 I0.out I1.out rfl I2.out (by decide) I3.out (by decide) rfl PT.out.first rfl (news := (yss.drop (kk + 1)).flatten) (m := n5 - K1) (by have h := PT.out.last; rw [show p.routes.length - (kk + 1) = n5 - K1 from by have := KB.out; have := HN.out; omega] at h; exact h) (fun h => by cases h) (fun a ha j u hj => by cases ha; rw [Addr.add_lit]; have := PT.out.cells j u hj; rw [← KB.out.1] at this; simpa using this) PT.out.one (by have := L4.out; have := KB.out; omega) (by have := LW.out; have := heap_lt HC0.out.x6; show lo ≤ q4.heap.size; omega) ?_
    intro v7 w7 hown7 hgrow7
    have hown8 : w7.ownsRow lo 34 7 v7 (kk + (n5 - K1)) ((yss.take kk).flatten ++ (yss.drop (kk + 1)).flatten) := hown7
    obtain ⟨A7, c7, rfl⟩ := own_sliceN hown8
    obtain ⟨nr, hnr⟩ : ∃ x, x = kk + (n5 - K1) := ⟨_, rfl⟩
    rw [← hnr] at hown8 ⊢
    have NRE : Hid (nr = (p.routes.eraseIdx kk).length) := Lib.hid (by rw [List.length_eraseIdx, if_pos HKL.out, ← HN.out.2.2.2]; have := KB.out; omega)
    have CC := Lib.hid ((HC0.out.below (Below.refl _ q4).drew).cut PT.out HKL.out hgrow7 hown8 NRE.out (by have := L4.out; have := KB.out; unfold maxLen; omega))
    have B7 : Hid (Below w.heap.size w w7) := Lib.hid (BQ.out.drew.grown hgrow7 (show w.heap.size ≤ q4.heap.size from BQ.out.size) (fun k hk => by cases hk; exact Nat.le_trans LW.out.1 PT.out.ge))
    clear hown7 hgrow7 hown8 hnr
    refine hK.out _ _ ?_ fun hHeld => ?_;exact CC.out.x6.trans HC0.out.x6.symm;clear hK K;try simp only [zn, Act.put]
    refine tke [11] 10 hHeld ?_
    obtain ⟨m0, m1, m2, m3, m4, m5⟩ := cell6_of CC.out.x6
    have fz := frozen2_of CC.out.x6 5
    refine wpAnyE_last (by kernel_rfl) rfl (by kernel_rfl) (fun K hK => ?_)
    rw [if_pos (by rfl)]
    go_simp
    refine hK.out _ _ ?_
    clear hK K
    have tHC : CopyAt (w7.setCell ⟨p6, 5, none⟩ (.slice A7 nr c7)) lo p6 #[.int .i64 p.ver, .int .i64 p.par, .slice U2 n2 f2, .slice U3 n3 f3, .slice U4 n4 f4, .slice A7 nr c7] (.slice U2 n2 f2) (.slice U3 n3 f3) (.slice U4 n4 f4) (.slice A7 nr c7) p p.sigs (p.routes.eraseIdx kk) := CC.out.set 5 (.slice A7 nr c7)
    have tBQ := below_set B7.out (show w.heap.size ≤ p6 by have := LW.out; omega) 5 (.slice A7 nr c7)
    generalize w7.setCell ⟨p6, 5, none⟩ (.slice A7 nr c7) = wz at tHC tBQ ⊢
    have HV : Hid (PlanV wz wz.heap.size (.agg #[.int .i64 p.ver, .int .i64 p.par, .slice U2 n2 f2, .slice U3 n3 f3, .slice U4 n4 f4, .slice A7 nr c7]) (cutP p kk)) := Lib.hid (by
     refine ⟨_, _, _, _, rfl, ?_⟩
     have h1 := tHC.secs
     have h2 := tHC.pts
     have h3 := tHC.sigs
     have h4 := tHC.routes
     exact ⟨h1.in_, h2.in_ joinR_cells, h3.in_ sigR_cells, h4.in_⟩)
    obtain ⟨k0, k1, k2, k3, k4, k5⟩ := cell6_of tHC.x6
    have BF := Lib.hid tBQ
    clear tHC tBQ fz m0 m1 m2 m3 m4 m5
    go_wp2_with fail
    refine (hs.check _ (cutP p kk) wz HV.out).mono ?_
    rintro e w9 ⟨rfl, b9⟩
    rw [sndE_zero.2 (plan_cut HSN.out kk)]
    have BL := Lib.hid (BF.out.trans (b9.mono BF.out.size))
    clear b9 k0 k1 k2 k3 k4 k5
    go_wp2_with fail
    go_ret
    exact ⟨rfl, BL.out⟩
end Go.Proofs.Ytccbdpeicemnjaa
