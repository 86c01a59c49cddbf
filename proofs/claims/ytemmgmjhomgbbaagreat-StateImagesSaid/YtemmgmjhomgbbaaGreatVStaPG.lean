/-
 The program's package state: claimed: what the routes of a state hold and ask, or the error.
 Conditions: none.
-/
import Derived.Test.YtemmgmjhomgbbaaGreatVGStaPE
import Derived.Test.YtemmgmjhomgbbaaGreatVGStaPC
import Derived.Test.YtemmgmjhomgbbaaGreatVWayPQ
import Derived.Test.YtemmgmjhomgbbaaGreatVGSndM
set_option linter.unusedVariables false
set_option linter.unusedSimpArgs false
set_option maxRecDepth 100000
namespace Go.Proofs.YtemmgmjhomgbbaaGreat
open Go.RowKit

theorem infoClm : (Tryz.prog.info? 70).map (·.size) = some 2 := by kernel_rfl
theorem lockIn15 {p : Pl} {s : St15} (hm : PlanMay p) (h : PartsM p s) {i : Nat} (hi : i < s.lk.length) : s.lk[i].2.1 ≠ 0 → 0 ≤ s.lk[i].2.2.1 ∧ s.lk[i].2.2.1 < ((rtN p i).path.length : Int) := fun h0 => by
 have hi' : i < p.routes.length := by rw [← h.nl]; exact hi
 have := (h.lk i hi).2
 have hr := (routeIn_of hm hi' rfl).route.path.1
 rw [rtN_at hi']
 unfold PhaseM at this
 omega
theorem way_eight15 {p : Pl} (hm : PlanMay p) {i : Nat} (hi : i < p.routes.length) : (wayR p p.routes[i]).path.length + (wayR p p.routes[i]).over.length ≤ 1000 := by
 have h := (routeIn_of hm hi rfl).len
 show p.routes[i].path.length + p.routes[i].over.length ≤ 1000
 omega
theorem heldW_at {p : Pl} {s : St15} {i : Nat} (hi : i < s.lk.length) : heldN p s i = heldW (wayR p (rtN p i)) s.lk[i].2.1 s.lk[i].2.2.1 := by rw [held_way, lkN_at hi]
theorem askedW_at {p : Pl} {s : St15} {i : Nat} (hi : i < s.lk.length) : askedN p s i = askedW (wayR p (rtN p i)) s.lk[i].2.1 s.lk[i].2.2.1 := by rw [asked_way, lkN_at hi]
theorem bad_staE {p : Pl} {s : St15} (h : PlanSound p) (g : ¬ StMay p s) : staE p s = 8 := by rw [staE, if_pos (soundP_true h), stMay_no.2 g]; rfl
theorem claim_vals {p : Pl} {s : St15} {i : Nat} {es fs : EntsI} (h : ClaimAt p s i es fs) : ∀ y v, lookI fs y = some v → ∃ z : Int, v = .int .i64 z := fun y v hv => by
 obtain ⟨k, -, a, -, -, e⟩ := (h.l y v).1 hv
 exact ⟨_, e⟩
theorem map_setRow15 {W : World} {m b : Nat} {es : EntsI} {c : Array Value} (h : MapBI W m es) (hne : m ≠ b) : MapBI (W.setRow b c) m es := (setRow_other W b m c hne).trans h
/-- What claimed answers. -/
def ClmP (p : Pl) (s : St15) (w' : World) (c0 c1 : Option Nat) : Prop := staE p s = 0 → ∃ m1 m2 es fs, c0 = some m1 ∧ c1 = some m2 ∧ MapBI w' m1 es ∧ MapBI w' m2 fs ∧ ClaimAt p s s.lk.length es fs
set_option maxHeartbeats 16000000 in
theorem claimed_any (hs : SndSaid) (v y : Value) (p : Pl) (s : St15) (w : World) (h : PlanV w w.heap.size v p) (h' : StateV w w.heap.size y s) :
  Calls Tryz.prog 24 #[v, y] w fun e w' => (∃ c0 c1, e = .returned (.tuple #[.agg #[.map c0, .map c1], .int .i64 (staE p s)]) ∧ Hid (ClmP p s w' c0 c1)) ∧ Below w.heap.size w w' := by
 obtain ⟨p2, p3, p4, p5, rfl, h⟩ := h
 obtain ⟨A2, a2, rfl, -, -⟩ := h.secs.slice
 obtain ⟨b2, hb2⟩ : ∃ n, n = p.secs.length := ⟨_, rfl⟩
 have P2 : Hid (SectsIn w w.heap.size (.slice A2 b2 a2) p.secs) := Lib.hid (by rw [hb2]; exact h.secs)
 rw [← hb2]
 obtain ⟨A3, a3, rfl, -, -⟩ := h.pts.slice
 obtain ⟨b3, hb3⟩ : ∃ n, n = p.pts.length := ⟨_, rfl⟩
 have P3 : Hid (JoinsIn w w.heap.size (.slice A3 b3 a3) p.pts) := Lib.hid (by rw [hb3]; exact h.pts)
 rw [← hb3]
 obtain ⟨A4, a4, rfl, -, -⟩ := h.sigs.slice
 obtain ⟨b4, hb4⟩ : ∃ n, n = p.sigs.length := ⟨_, rfl⟩
 have P4 : Hid (SigsIn w w.heap.size (.slice A4 b4 a4) p.sigs) := Lib.hid (by rw [hb4]; exact h.sigs)
 rw [← hb4]
 obtain ⟨A5, a5, rfl, -, -⟩ := h.routes.slice
 obtain ⟨b5, hb5⟩ : ∃ n, n = p.routes.length := ⟨_, rfl⟩
 have P5 : Hid (RoutesIn w w.heap.size (.slice A5 b5 a5) p.routes) := Lib.hid (by rw [hb5]; exact h.routes)
 rw [← hb5]
 clear h hb2 hb3 hb4 hb5
 obtain ⟨_, _, _, rfl, h'⟩ := h'
 obtain ⟨S0, Sc0, rfl, hcl0, hcm0⟩ := h'.tr.slice
 obtain ⟨Sn0, hS0⟩ : ∃ n, n = s.tr.length := ⟨_, rfl⟩
 have HS0 : Hid (TrksIn w w.heap.size (.slice S0 Sn0 Sc0) s.tr) := Lib.hid (by rw [hS0]; exact h'.tr)
 have hSn0 : Sn0 ≤ 9223372036854775807 := by unfold maxLen at hcm0; omega
 rw [← hS0]
 obtain ⟨S1, Sc1, rfl, hcl1, hcm1⟩ := h'.sw.slice
 obtain ⟨Sn1, hS1⟩ : ∃ n, n = s.sw.length := ⟨_, rfl⟩
 have HS1 : Hid (SwisIn w w.heap.size (.slice S1 Sn1 Sc1) s.sw) := Lib.hid (by rw [hS1]; exact h'.sw)
 have hSn1 : Sn1 ≤ 9223372036854775807 := by unfold maxLen at hcm1; omega
 rw [← hS1]
 obtain ⟨S2, Sc2, rfl, hcl2, hcm2⟩ := h'.lk.slice
 obtain ⟨Sn2, hS2⟩ : ∃ n, n = s.lk.length := ⟨_, rfl⟩
 have HS2 : Hid (LcksIn w w.heap.size (.slice S2 Sn2 Sc2) s.lk) := Lib.hid (by rw [hS2]; exact h'.lk)
 have hSn2 : Sn2 ≤ 9223372036854775807 := by unfold maxLen at hcm2; omega
 rw [← hS2]
 have NS : Hid (Sn0 = s.tr.length ∧ Sn1 = s.sw.length ∧ Sn2 = s.lk.length) := Lib.hid ⟨hS0, hS1, hS2⟩
 clear hS0 hS1 hS2 hcl0 hcm0 hcl1 hcm1 hcl2 hcm2 h'
 obtain ⟨hx, hy, hz, hqb⟩ := three_new15 w (.cells #[.int .i64 p.ver, .int .i64 p.par, .slice A2 b2 a2, .slice A3 b3 a3, .slice A4 b4 a4, .slice A5 b5 a5] 27) (.cells #[.slice S0 Sn0 Sc0, .slice S1 Sn1 Sc1, .slice S2 Sn2 Sc2] 32) (.cells #[.map none, .map none] 70)
 go_enter Tryz.func24, Tryz.ntmps24
 go_upto_region 1 with fail
 generalize ((w.alloc (.cells #[.int .i64 p.ver, .int .i64 p.par, .slice A2 b2 a2, .slice A3 b3 a3, .slice A4 b4 a4, .slice A5 b5 a5] 27)).alloc (.cells #[.slice S0 Sn0 Sc0, .slice S1 Sn1 Sc1, .slice S2 Sn2 Sc2] 32)).alloc (.cells #[.map none, .map none] 70) = q at hx hy hz hqb ⊢
 obtain ⟨p0, hp⟩ : ∃ n, n = w.heap.size := ⟨_, rfl⟩
 rw [← hp] at hx hy hz ⊢
 have PW : Hid (p0 = w.heap.size) := Lib.hid hp
 have X := Lib.hid hx
 have Y := Lib.hid hy
 have Z := Lib.hid hz
 have BQ := Lib.hid hqb
 clear hx hy hz hqb hp
 have PV : Hid (∀ W, Below w.heap.size w W → PlanV W W.heap.size (.agg #[.int .i64 p.ver, .int .i64 p.par, .slice A2 b2 a2, .slice A3 b3 a3, .slice A4 b4 a4, .slice A5 b5 a5]) p) := Lib.hid (fun W b => ⟨_, _, _, _, rfl, ⟨(P2.out.below secR_ b).more secR_ b.size, (P3.out.below joinR b).more joinR b.size, (P4.out.below sigR b).more sigR b.size, (P5.out.below routeR b).more routeR b.size⟩⟩)
 have SV : Hid (∀ W, Below w.heap.size w W → StateV W W.heap.size (.agg #[.slice S0 Sn0 Sc0, .slice S1 Sn1 Sc1, .slice S2 Sn2 Sc2]) s) := Lib.hid (fun W b => ⟨_, _, _, rfl, ⟨(HS0.out.below trkR b).more trkR b.size, (HS1.out.below sigR b).more sigR b.size, (HS2.out.below lckR b).more lckR b.size⟩⟩)
 clear P2 P3 P4 P5
 obtain ⟨k0, k1, k2, k3, k4, k5⟩ := cell6_of X.out
 go_wp2_with fail
 refine (hs.check _ p q (PV.out q BQ.out)).mono ?_
 rintro e w1 ⟨rfl, b1⟩
 clear k0 k1 k2 k3 k4 k5
 have tX := ((b1).block _ (heap_lt X.out)).trans X.out
 have tY := ((b1).block _ (heap_lt Y.out)).trans Y.out
 have tZ := ((b1).block _ (heap_lt Z.out)).trans Z.out
 have tB := BQ.out.trans ((b1).mono (by have := BQ.out.size; have := PW.out; omega))
 clear X Y Z BQ
 have X := Lib.hid tX
 have Y := Lib.hid tY
 have Z := Lib.hid tZ
 have BQ := Lib.hid tB
 clear tX tY tZ tB
 clear b1
 rcases sndE_cases p with ⟨he, hS⟩ | ⟨he, hS⟩
 rotate_left
 ·rw [he]
  have HE : Hid (staE p s = 100) := Lib.hid (by rw [staE, soundP_false hS]; rfl)
  clear he hS
  go_wp2_with ((with_reducible show wpList _ _ _ (⟨none, .store _ _ _, _, _, _, _⟩ :: _) _ _); refine wpList_store_rowS rfl _ (.tmp 4) (.tmp 21) rfl (p0 + 2) rfl (c' := #[.map none, .map none]) rfl Z.out infoClm rfl (by simp [Value.oneCell']) ?_)
  exact bodyPost_ret (results_rowS_tmp (c := #[.map none, .map none]) rfl _ _ (p0 + 2) rfl (setRow_heap _ _ _ _ _ _ Z.out) Tryz.underlying70 infoClm (.int .i64 100) rfl) rfl ⟨⟨none, none, by rw [HE.out], Lib.hid fun h => absurd h (by rw [HE.out]; decide)⟩, below_setRow BQ.out (by have := PW.out; omega) _⟩
 rw [he]
 have HSD := Lib.hid hS
 have hAE : allE p = 0 := all_good hS.may (fun k hk => (hS.each k hk).hangs)
 have hAW : allW p = p.routes.map (wayR p) := by
  rcases all_cases p with ⟨-, -, h2, -⟩ | ⟨h1, -⟩
  ·exact h2
  ·exact absurd hAE h1
 have AE := Lib.hid hAE
 have AW := Lib.hid hAW
 clear he hS hAE hAW
 obtain ⟨k0, k1, k2, k3, k4, k5⟩ := cell6_of X.out
 go_wp2_with fail
 refine (pall_any _ p w1 (PV.out w1 BQ.out)).mono ?_
 rintro e w2 ⟨u1, u2, rfl, hw, hj, b1⟩
 obtain ⟨W1, e1, rfl⟩ := hw.slice
 rw [AE.out]
 rw [AW.out] at hw ⊢
 obtain ⟨wn, hwn⟩ : ∃ n, n = (p.routes.map (wayR p)).length := ⟨_, rfl⟩
 have WO : Hid (WaysOwn w2 w1.heap.size (.slice W1 wn e1) (p.routes.map (wayR p))) := Lib.hid (by rw [hwn]; exact hw)
 have WN : Hid (wn = p.routes.length) := Lib.hid (by rw [hwn, List.length_map])
 have hwb : wn ≤ 9223372036854775807 := by rw [WN.out]; have := HSD.out.may.n; omega
 rw [← hwn]
 have WS : Hid (ListIn 4 (WayO w1.heap.size) w2 w2.heap.size (.slice W1 wn e1) (p.routes.map (wayR p))) := Lib.hid (WO.out.in_ wayO_cells)
 clear hw hj hwn k0 k1 k2 k3 k4 k5 WO
 have tX := ((b1).block _ (heap_lt X.out)).trans X.out
 have tY := ((b1).block _ (heap_lt Y.out)).trans Y.out
 have tZ := ((b1).block _ (heap_lt Z.out)).trans Z.out
 have tB := BQ.out.trans ((b1).mono (by have := BQ.out.size; have := PW.out; omega))
 clear X Y Z BQ
 have X := Lib.hid tX
 have Y := Lib.hid tY
 have Z := Lib.hid tZ
 have BQ := Lib.hid tB
 clear tX tY tZ tB
 clear b1
 have d0 : ((0 : Int) != 0) = false := by decide
 obtain ⟨k0, k1, k2, k3, k4, k5⟩ := cell6_of X.out
 obtain ⟨j0, j1, j2⟩ := cell3_of Y.out
 go_wp2_with fail
 refine (fits_any _ _ p s w2 (PV.out w2 BQ.out) (SV.out w2 BQ.out)).mono ?_
 rintro e w3 ⟨rfl, b1⟩
 clear k0 k1 k2 k3 k4 k5 j0 j1 j2 d0
 have WS' : Hid (ListIn 4 (WayO w1.heap.size) w3 w3.heap.size (.slice W1 wn e1) (p.routes.map (wayR p))) := Lib.hid ((WS.out.below (wayO w1.heap.size) b1).more (wayO w1.heap.size) b1.size)
 have tX := ((b1).block _ (heap_lt X.out)).trans X.out
 have tY := ((b1).block _ (heap_lt Y.out)).trans Y.out
 have tZ := ((b1).block _ (heap_lt Z.out)).trans Z.out
 have tB := BQ.out.trans ((b1).mono (by have := BQ.out.size; have := PW.out; omega))
 clear X Y Z BQ
 have X := Lib.hid tX
 have Y := Lib.hid tY
 have Z := Lib.hid tZ
 have BQ := Lib.hid tB
 clear tX tY tZ tB
 clear b1 WS
 by_cases hP : PartsM p s
 rotate_left
 ·rw [partsB_no hP]
  have HE : Hid (staE p s = 8) := Lib.hid (bad_staE HSD.out fun g => hP g.parts)
  clear hP
  go_wp2_with ((with_reducible show wpList _ _ _ (⟨none, .store _ _ _, _, _, _, _⟩ :: _) _ _); refine wpList_store_rowS rfl _ (.tmp 4) (.tmp 37) rfl (p0 + 2) rfl (c' := #[.map none, .map none]) rfl Z.out infoClm rfl (by simp [Value.oneCell']) ?_)
  exact bodyPost_ret (results_rowS_tmp (c := #[.map none, .map none]) rfl _ _ (p0 + 2) rfl (setRow_heap _ _ _ _ _ _ Z.out) Tryz.underlying70 infoClm (.int .i64 8) rfl) rfl ⟨⟨none, none, by rw [HE.out], Lib.hid fun h => absurd h (by rw [HE.out]; decide)⟩, below_setRow BQ.out (by have := PW.out; omega) _⟩
 rw [partsB_yes hP]
 have HP := Lib.hid hP
 have WNL : Hid (wn = s.lk.length ∧ Sn2 = wn) := Lib.hid ⟨by rw [WN.out, hP.nl], by rw [NS.out.2.2, hP.nl, WN.out]⟩
 clear hP
 have hmm := @run_makeMap Tryz.prog
 obtain ⟨hx, hy, hz, hqb⟩ := three_new15 w3 (.map #[] 0) (.map #[] 0) (.cells #[.map (some w3.heap.size), .map (some (w3.heap.size + 1))] 70)
 go_upto_region 10 with fail
 generalize ((w3.alloc (.map #[] 0)).alloc (.map #[] 0)).alloc (.cells #[.map (some w3.heap.size), .map (some (w3.heap.size + 1))] 70) = q4 at hx hy hz hqb ⊢
 obtain ⟨m1, hm1⟩ : ∃ m, m = w3.heap.size := ⟨_, rfl⟩
 obtain ⟨m2, hm2⟩ : ∃ m, m = w3.heap.size + 1 := ⟨_, rfl⟩
 obtain ⟨pc, hpc⟩ : ∃ m, m = w3.heap.size + 2 := ⟨_, rfl⟩
 rw [← hpc] at hz ⊢
 rw [← hm2] at hy hz ⊢
 rw [← hm1] at hx hz ⊢
 have MM : Hid (m1 = w3.heap.size ∧ m2 = m1 + 1 ∧ pc = m1 + 2) := Lib.hid ⟨hm1, by omega, by omega⟩
 have A1 : Hid (MapBI q4 m1 []) := Lib.hid hx
 have A2 : Hid (MapBI q4 m2 []) := Lib.hid hy
 have C := Lib.hid hz
 have XL : Hid (p0 + 2 < m1) := Lib.hid (by rw [hm1]; exact heap_lt Z.out)
 have B4 : Hid (Below m1 w3 q4) := Lib.hid (by rw [hm1]; exact hqb)
 clear hx hy hz hqb hm1 hm2 hpc hmm
 go_wp2_with fail
 go_loopw [43] (fun s43 wr => ∃ i : Nat, i ≤ wn ∧ s43 = .int .i64 i ∧ (∃ es fs, MapBI wr m1 es ∧ MapBI wr m2 fs ∧ Hid (ClaimAt p s i es fs)) ∧ wr.heap[pc]? = some (.cells #[.map (some m1), .map (some m2)] 70 (0, 0)) ∧ Below m1 w3 wr) (fun s43 _ => wn - (intOf s43).toNat)
 case atStart => exact ⟨0, by omega, by go_num, ⟨[], [], A1.out, A2.out, Lib.hid (claim_zero p s)⟩, C.out, B4.out⟩
 case round =>
  obtain ⟨i, hi, rfl, ⟨es, fs, h1, h2, CL⟩, hc, hb⟩ := hrel
  have M1 := Lib.hid h1
  have M2 := Lib.hid h2
  have CW := Lib.hid hc
  have BW := Lib.hid hb
  have hMW : m1 ≤ w3.heap.size := Nat.le_of_eq MM.out.1
  have hMR : m1 ≤ wr.heap.size := Nat.le_trans hMW hb.size
  have HMR := Lib.hid hMR
  have XW := Lib.hid ((hb.block _ (by have := XL.out; omega)).trans X.out)
  have YW := Lib.hid ((hb.block _ (by have := XL.out; omega)).trans Y.out)
  have ZW := Lib.hid ((hb.block _ (by have := XL.out; omega)).trans Z.out)
  have BA : Hid (Below w.heap.size w wr) := Lib.hid (BQ.out.trans (hb.mono (by have := XL.out; have := PW.out; omega)))
  clear h1 h2 hc hb hMW hMR
  by_cases hlt : i < wn
  ·have hlt' : (i : Int) < wn := by omega
   have hlt2 : (i : Int) < Sn2 := by rw [WNL.out.2]; omega
   have hir : i < p.routes.length := by have := WN.out; omega
   have hil : i < s.lk.length := by have := WNL.out.1; omega
   obtain ⟨bw, ow, ew, hbw, ha3, A0_, A1_, A2_, ha0, ha1, ha2, hwa, -⟩ := (WS'.out.below (wayO w1.heap.size) (show Below w3.heap.size w3 wr by rw [← MM.out.1]; exact BW.out)).at (j := i) (by rw [List.length_map]; exact hir)
   cases ew
   rw [List.getElem_map] at ha3 hwa
   obtain ⟨x, hx⟩ : ∃ x, x = wayR p p.routes[i] := ⟨_, rfl⟩
   rw [← hx] at ha3 hwa
   obtain ⟨B0_, d0_, rfl⟩ := hwa.path.slice
   obtain ⟨B1_, d1_, rfl⟩ := hwa.over.slice
   obtain ⟨B2_, d2_, rfl⟩ := hwa.asks.slice
   obtain ⟨n0, hn0⟩ : ∃ n, n = x.path.length := ⟨_, rfl⟩
   obtain ⟨n1, hn1⟩ : ∃ n, n = x.over.length := ⟨_, rfl⟩
   obtain ⟨n2, hn2⟩ : ∃ n, n = x.asks.length := ⟨_, rfl⟩
   obtain ⟨nr, hnr⟩ : ∃ n, n = x.near := ⟨_, rfl⟩
   have IN := Lib.hid hwa.in_
   rw [← hn0, ← hn1, ← hn2] at IN
   rw [← hn0] at ha0
   rw [← hn1] at ha1
   rw [← hn2] at ha2
   rw [← hnr] at ha3
   have HNN : Hid (n0 = x.path.length ∧ n1 = x.over.length ∧ n2 = x.asks.length) := Lib.hid ⟨hn0, hn1, hn2⟩
   obtain ⟨bk, off, ek, hbk, hc0, hc1, hc2, hc3, -, -⟩ := (HS2.out.below lckR BA.out).at hil
   cases ek
   obtain ⟨a, b, c, d, hl⟩ : ∃ a b c d, s.lk[i] = (a, b, c, d) := ⟨_, _, _, _, rfl⟩
   have HE : Hid (heldN p s i = heldW x b c ∧ askedN p s i = askedW x b c ∧ (lkN s i).1 = a) := Lib.hid ⟨by rw [heldW_at hil, rtN_at hir, hl, hx], by rw [askedW_at hil, rtN_at hir, hl, hx], by rw [lkN_at hil, hl]⟩
   have HG : Hid (b ≠ 0 → 0 ≤ c ∧ c < (x.path.length : Int)) := Lib.hid (by have h := lockIn15 HSD.out.may HP.out hil; rw [hl, rtN_at hir] at h; rw [hx]; exact h)
   have H8 : Hid (x.path.length + x.over.length ≤ 1000) := Lib.hid (by rw [hx]; exact way_eight15 HSD.out.may hir)
   have HIL := Lib.hid hil
   rw [hl] at hc0 hc1 hc2 hc3
   dsimp only at hc0 hc1 hc2 hc3
   have HBK : Hid (bk < m1) := Lib.hid (by have := XL.out; have := PW.out; omega)
   have G0 : Hid (wr.cell? ⟨bk, off + i * 4, none⟩ = some (.int .i64 a)) := Lib.hid hc0
   have G1 : Hid (wr.cell? ⟨bk, off + i * 4 + 1, none⟩ = some (.int .u8 b)) := Lib.hid hc1
   have G2 : Hid (wr.cell? ⟨bk, off + i * 4 + 2, none⟩ = some (.int .i64 c)) := Lib.hid hc2
   have G3 : Hid (wr.cell? ⟨bk, off + i * 4 + 3, none⟩ = some (.int .i64 d)) := Lib.hid hc3
   have g0 : wr.cell? ⟨bw, ow + i * 4, none⟩ = some (.slice B0_ n0 d0_) := ha0
   have g1 : wr.cell? ⟨bw, ow + i * 4 + 1, none⟩ = some (.slice B1_ n1 d1_) := ha1
   have g2 : wr.cell? ⟨bw, ow + i * 4 + 2, none⟩ = some (.slice B2_ n2 d2_) := ha2
   have g3 : wr.cell? ⟨bw, ow + i * 4 + 3, none⟩ = some (.int .i64 nr) := ha3
   obtain ⟨q5, hq5⟩ : ∃ u, u = wr.alloc (.cells #[.slice B0_ n0 d0_, .slice B1_ n1 d1_, .slice B2_ n2 d2_, .int .i64 nr] 96) := ⟨_, rfl⟩
   have x5 := heap_alloc_self wr (.cells #[.slice B0_ n0 d0_, .slice B1_ n1 d1_, .slice B2_ n2 d2_, .int .i64 nr] 96)
   have b5 := below_new wr (.cells #[.slice B0_ n0 d0_, .slice B1_ n1 d1_, .slice B2_ n2 d2_, .int .i64 nr] 96)
   rw [← hq5] at x5 b5
   have HQ5 := Lib.hid hq5
   have B5 := Lib.hid b5
   have X5 := Lib.hid x5
   clear hc0 hc1 hc2 hc3 ha0 ha1 ha2 ha3 hwa hn0 hn1 hn2 hnr hx hl hbw hbk hq5 x5 b5 hir hil
   go_upto_region 13 with fail
   rw [← HQ5.out]
   clear g0 g1 g2 g3 HQ5
   have C5 := Lib.hid ((B5.out.block _ (heap_lt CW.out)).trans CW.out)
   have Y5 := Lib.hid ((B5.out.block _ (heap_lt YW.out)).trans YW.out)
   have Z5 := Lib.hid ((B5.out.block _ (heap_lt ZW.out)).trans ZW.out)
   have M15 : Hid (MapBI q5 m1 es) := Lib.hid ((B5.out.block _ M1.out.lt).trans M1.out)
   have M25 : Hid (MapBI q5 m2 fs) := Lib.hid ((B5.out.block _ M2.out.lt).trans M2.out)
   have IN5 : Hid (WyIn q5 q5.heap.size (.slice B0_ n0 d0_) (.slice B1_ n1 d1_) (.slice B2_ n2 d2_) x) := Lib.hid ((IN.out.below B5.out).more B5.out.size)
   have G05 := Lib.hid ((B5.out.cell (cell_lt G0.out)).trans G0.out)
   have G15 := Lib.hid ((B5.out.cell (cell_lt G1.out)).trans G1.out)
   have G25 := Lib.hid ((B5.out.cell (cell_lt G2.out)).trans G2.out)
   have G35 := Lib.hid ((B5.out.cell (cell_lt G3.out)).trans G3.out)
   have BW5 : Hid (Below m1 w3 q5) := Lib.hid (BW.out.trans (B5.out.mono HMR.out))
   obtain ⟨pw, hpw⟩ : ∃ n, n = wr.heap.size := ⟨_, rfl⟩
   rw [← hpw] at X5 ⊢
   have PWN : Hid (pw ≠ m1 ∧ pw ≠ m2) := Lib.hid (by have h1 := M1.out.lt; have h2 := M2.out.lt; omega)
   obtain ⟨CF, hCF⟩ : ∃ u, u = okB (okH es (heldW x b c) ∧ okA fs (askedW x b c)) := ⟨_, rfl⟩
   have HCF := Lib.hid hCF
   clear hpw hCF G0 G1 G2 G3 IN M1 M2 CW YW ZW B5 BW BA XW
   refine wp_region_held_drew (S := fun v => Below m1 q5 v ∧ v.heap[pc]? = some (.cells #[.map (some m1), .map (some m2)] 70 (0, 0)) ∧ v.heap[pw]? = some (.cells #[.slice B0_ n0 d0_, .slice B1_ n1 d1_, .slice B2_ n2 d2_, .int .i64 nr] 96 (0, 0))) (by kernel_rfl) ⟨(Below.refl m1 q5).drew, C5.out, X5.out⟩ (fun hHeld => ?_)
   refine tkc 0 hHeld (fun w' hSw => cell2_of hSw.2.1) ?_;refine tkc 1 hHeld (fun w' hSw => cell4_of hSw.2.2) ?_;refine tk 2 hHeld ?_
   refine wpAnyH_take (i := 3) (v := ?_) rfl (by kernel_rfl) (by kernel_rfl) (by kernel_rfl) (fun _ _ _ h => h) (Or.inl ⟨by rfl, ?_⟩) hHeld ?_
   rotate_left
   ·intro w' hSw; obtain ⟨cy0, cy1, cy2⟩ := cell3_of ((hSw.1.block _ (by have := XL.out; omega)).trans Y5.out); go_simp; try with_reducible rfl
   simp only [zn, Act.put]
   refine tk 4 hHeld ?_;refine tk 5 hHeld ?_
   refine wpAnyH_take (i := 6) (v := ?_) rfl (by kernel_rfl) (by kernel_rfl) (by kernel_rfl) (fun _ _ _ h => h) (Or.inl ⟨by rfl, ?_⟩) hHeld ?_
   rotate_left
   ·intro w' hSw; have cl0 := (hSw.1.cell (p := ⟨bk, off + i * 4, none⟩) HBK.out).trans G05.out; have cl1 := (hSw.1.cell (p := ⟨bk, off + i * 4 + 1, none⟩) HBK.out).trans G15.out; have cl2 := (hSw.1.cell (p := ⟨bk, off + i * 4 + 2, none⟩) HBK.out).trans G25.out; have cl3 := (hSw.1.cell (p := ⟨bk, off + i * 4 + 3, none⟩) HBK.out).trans G35.out; go_simp; try with_reducible rfl
   simp only [zn, Act.put]
   refine tkr 7 (fun K hK => ?_)
   go_simp
   refine (take_any B0_ B1_ B2_ n0 n1 n2 d0_ d1_ d2_ nr x a b c d m1 m2 es fs q5.drew ((IN5.out.below (Below.refl _ _).drew).more (Below.refl q5.heap.size q5).drew.size) HNN.out HG.out H8.out (by have := MM.out; omega) M15.out M25.out CL.out.nd CL.out.nd2 (claim_vals CL.out)).mono ?_
   rintro e w6 ⟨rfl, ⟨es', fs', h1, h2, HES⟩, HFR⟩
   rw [← HCF.out]
   have BM : Hid (Below m1 q5 w6) := Lib.hid ((Below.refl m1 q5).drew.trans (HFR.out.1 m1 (Nat.le_refl _) (by have := MM.out; omega)))
   have CP : Hid (w6.heap[pc]? = some (.cells #[.map (some m1), .map (some m2)] 70 (0, 0))) := Lib.hid ((HFR.out.2 pc (heap_lt C5.out) (by have := MM.out; omega) (by have := MM.out; omega)).trans C5.out)
   have XP : Hid (w6.heap[pw]? = some (.cells #[.slice B0_ n0 d0_, .slice B1_ n1 d1_, .slice B2_ n2 d2_, .int .i64 nr] 96 (0, 0))) := Lib.hid ((HFR.out.2 pw (heap_lt X5.out) PWN.out.1 PWN.out.2).trans X5.out)
   have N1 := Lib.hid h1
   have N2 := Lib.hid h2
   clear h1 h2 HFR
   try go_wp2_with fail
   refine hK.out _ _ ?_ fun hHeld => ?_;exact ⟨BM.out, CP.out, XP.out⟩;clear hK K;try simp only [zn, Act.put]
   refine tk 8 hHeld ?_
   refine wpAnyH_done (by kernel_rfl) ?_ _
   have BW6 : Hid (Below m1 w3 w6) := Lib.hid (BW5.out.trans BM.out)
   have C6 := Lib.hid CP.out
   have Z6 := Lib.hid ((BM.out.block _ XL.out).trans Z5.out)
   clear BM CP BW5 C5 Z5 M15 M25 IN5 X5 Y5 G05 G15 G25 G35 HBK
   cases hcf : CF with
   | true =>
    have OKS : okH es (heldW x b c) ∧ okA fs (askedW x b c) := by
     have h := HCF.out
     rw [hcf] at h
     refine Classical.byContradiction fun hn => ?_
     rw [okB_no hn] at h
     cases h
    obtain ⟨rfl, rfl⟩ := HES.out OKS.1 OKS.2
    have CL' : Hid (ClaimAt p s (i + 1) (putH es a (heldW x b c)) (putA fs (askedW x b c))) := Lib.hid (by
     have h := claim_step CL.out (by rw [HE.out.1]; exact OKS.1) (by rw [HE.out.2.1]; exact OKS.2)
     rw [HE.out.1, HE.out.2.1, HE.out.2.2] at h
     exact h)
    clear hcf OKS HCF HES CL
    go_wp2_with fail
    go_roundw
    case measure => simp [intOf]; omega
    case rel => exact ⟨i + 1, by omega, by go_num, ⟨_, _, N1.out, N2.out, CL'⟩, C6.out, BW6.out⟩
   | false =>
    have HE8 : Hid (staE p s = 8) := Lib.hid (by
     refine bad_staE HSD.out (claim_bad HSD.out.may HP.out CL.out HIL.out fun h => ?_)
     rw [HE.out.1, HE.out.2.1] at h
     have h2 := HCF.out
     rw [hcf, okB_yes h] at h2
     cases h2)
    have BF : Hid (Below w.heap.size w w6) := Lib.hid (BQ.out.trans (BW6.out.mono (by have := XL.out; have := PW.out; omega)))
    clear hcf HCF HES CL
    go_wp2_with ((with_reducible show wpList _ _ _ (⟨none, .store _ _ _, _, _, _, _⟩ :: _) _ _); refine wpList_store_rowS rfl _ (.tmp 4) (.tmp 57) rfl (p0 + 2) rfl (c' := #[.map none, .map none]) rfl Z6.out infoClm rfl (by simp [Value.oneCell']) ?_)
    exact bodyPost_ret (results_rowS_tmp (c := #[.map none, .map none]) rfl _ _ (p0 + 2) rfl (setRow_heap _ _ _ _ _ _ Z6.out) Tryz.underlying70 infoClm (.int .i64 8) rfl) rfl ⟨⟨none, none, by rw [HE8.out], Lib.hid fun h => absurd h (by rw [HE8.out]; decide)⟩, below_setRow BF.out (by have := PW.out; omega) _⟩
  ·obtain rfl : i = wn := by omega
   obtain ⟨wo, hwo⟩ : ∃ u, u = wr := ⟨_, rfl⟩
   subst hwo
   have hlt' : ¬ (i : Int) < i := by omega
   have CL' : Hid (ClaimAt p s s.lk.length es fs) := Lib.hid (by rw [← WNL.out.1]; exact CL.out)
   obtain ⟨j0, j1, j2⟩ := cell3_of YW.out
   go_upto_region 17 with fail
   clear j0 j1 j2
   go_loopw [62] (fun s62 wz => ∃ j : Nat, j ≤ Sn1 ∧ s62 = .int .i64 j ∧ Hid (∀ m (hm : m < s.sw.length), m < j → ∀ lie, lookI fs s.sw[m].1 = some (.int .i64 lie) → lie = s.sw[m].2.2) ∧ Below wo.heap.size wo wz) (fun s62 _ => Sn1 - (intOf s62).toNat)
   case atStart => exact ⟨0, by omega, by go_num, Lib.hid (fun m hm h => absurd h (by omega)), Below.refl _ _⟩
   case round =>
    obtain ⟨wz, hwz⟩ : ∃ u, u = wr := ⟨_, rfl⟩
    subst hwz
    obtain ⟨j, hj, rfl, HALL, hbz⟩ := hrel
    have CZ := Lib.hid ((hbz.block _ (heap_lt CW.out)).trans CW.out)
    have ZZ := Lib.hid ((hbz.block _ (heap_lt ZW.out)).trans ZW.out)
    have M1Z : Hid (MapBI wz m1 es) := Lib.hid ((hbz.block _ M1.out.lt).trans M1.out)
    have M2Z : Hid (MapBI wz m2 fs) := Lib.hid ((hbz.block _ M2.out.lt).trans M2.out)
    have BZ : Hid (Below w.heap.size w wz) := Lib.hid (BA.out.trans (hbz.mono BA.out.size))
    have BZR := Lib.hid hbz
    clear hbz
    by_cases hlj : j < Sn1
    ·have hlj' : (j : Int) < Sn1 := by omega
     have hjr : j < s.sw.length := by have := NS.out.2.1; omega
     obtain ⟨bk, off, ek, hbk, hc0, hc1, hc2⟩ := (HS1.out.below sigR BZ.out).at hjr
     cases ek
     obtain ⟨ka, kb, kc, hl⟩ : ∃ a b c, s.sw[j] = (a, b, c) := ⟨_, _, _, rfl⟩
     have HK := Lib.hid hl
     have HJ := Lib.hid hjr
     rw [hl] at hc0 hc1 hc2
     dsimp only at hc0 hc1 hc2
     have g0 : wz.cell? ⟨bk, off + j * 3, none⟩ = some (.int .i64 ka) := hc0
     have g1 : wz.cell? ⟨bk, off + j * 3 + 1, none⟩ = some (.int .i64 kb) := hc1
     have g2 : wz.cell? ⟨bk, off + j * 3 + 2, none⟩ = some (.int .i64 kc) := hc2
     obtain ⟨q7, hq7⟩ : ∃ u, u = wz.alloc (.cells #[.int .i64 ka, .int .i64 kb, .int .i64 kc] 55) := ⟨_, rfl⟩
     have x7 := heap_alloc_self wz (.cells #[.int .i64 ka, .int .i64 kb, .int .i64 kc] 55)
     have b7 := below_new wz (.cells #[.int .i64 ka, .int .i64 kb, .int .i64 kc] 55)
     rw [← hq7] at x7 b7
     have HQ7 := Lib.hid hq7
     have B7 := Lib.hid b7
     have X7 := Lib.hid x7
     clear hc0 hc1 hc2 hl hbk hq7 x7 b7
     go_upto_region 19 with fail
     rw [← HQ7.out]
     clear g0 g1 g2 HQ7
     have C7 := Lib.hid ((B7.out.block _ (heap_lt CZ.out)).trans CZ.out)
     have Z7 := Lib.hid ((B7.out.block _ (heap_lt ZZ.out)).trans ZZ.out)
     have M27 : Hid (MapBI q7 m2 fs) := Lib.hid ((B7.out.block _ M2Z.out.lt).trans M2Z.out)
     have BF : Hid (Below w.heap.size w q7 ∧ Below wo.heap.size wo q7) := Lib.hid ⟨BZ.out.trans (B7.out.mono BZ.out.size), BZR.out.trans (B7.out.mono BZR.out.size)⟩
     obtain ⟨k0, k1⟩ := cell2_of C7.out
     generalize wz.heap.size = pz at X7 ⊢
     obtain ⟨m0, m1_, m2_⟩ := cell3_of X7.out
     obtain ⟨sm, hsm⟩ : ∃ t : Bool, t = (lookI fs ka).isSome := ⟨_, rfl⟩
     have HS := Lib.hid hsm
     clear hsm
     obtain ⟨z, hz⟩ : ∃ z : Int, (lookI fs ka).getD (.int .i64 0) = .int .i64 z ∧ (sm = true → lookI fs ka = some (.int .i64 z)) := by
      cases e : lookI fs ka with
      | none => exact ⟨0, rfl, fun h => by rw [HS.out, e] at h; cases h⟩
      | some v =>
       obtain ⟨z, rfl⟩ := claim_vals CL'.out ka v e
       exact ⟨z, rfl, fun _ => rfl⟩
     have HZ := Lib.hid hz.1
     have HY := Lib.hid hz.2
     clear hz
     go_upto_region 20 with (((with_reducible show wpList _ _ _ (⟨some 71, .lookup _ _ _ _, _, _, _, _⟩ :: _) _ _); refine wpList_lookupI _ rfl (.tmp 68) (.tmp 70) 68 3 true rfl Tryz.underlying3 Tryz.underlying68 (zeroI15 _) m2 fs ka rfl rfl M27.out ?_; rw [if_pos rfl]); rw [← HS.out, HZ.out])
     cases hsmc : sm with
     | false =>
      have HN : Hid (∀ m (hm : m < s.sw.length), m < j + 1 → ∀ lie, lookI fs s.sw[m].1 = some (.int .i64 lie) → lie = s.sw[m].2.2) := Lib.hid (fun m hm h lie hlie => by
       rcases Nat.lt_or_ge m j with h2 | h2
       ·exact HALL.out m hm h2 lie hlie
       ·obtain rfl : m = j := by omega
        have h3 := HS.out
        rw [HK.out] at hlie
        rw [hsmc, hlie] at h3
        cases h3)
      clear hsmc
      go_wp2_with fail
      go_roundw
      case measure => simp [intOf]; omega
      case rel => exact ⟨j + 1, by omega, by go_num, HN, BF.out.2⟩
     | true =>
      by_cases hzk : z = kc
      ·have hzk' : (z != kc) = false := by simpa using hzk
       have HN : Hid (∀ m (hm : m < s.sw.length), m < j + 1 → ∀ lie, lookI fs s.sw[m].1 = some (.int .i64 lie) → lie = s.sw[m].2.2) := Lib.hid (fun m hm h lie hlie => by
        rcases Nat.lt_or_ge m j with h2 | h2
        ·exact HALL.out m hm h2 lie hlie
        ·obtain rfl : m = j := by omega
         have h3 := HY.out hsmc
         rw [HK.out] at hlie ⊢
         rw [h3] at hlie
         injection hlie with hlie
         injection hlie with _ hlie
         rw [← hlie]; exact hzk)
       clear hsmc hzk
       go_wp2_with fail
       go_roundw
       case measure => simp [intOf]; omega
       case rel => exact ⟨j + 1, by omega, by go_num, HN, BF.out.2⟩
      ·have hzk' : (z != kc) = true := by simpa using hzk
       have HE8 : Hid (staE p s = 8) := Lib.hid (bad_staE HSD.out (claim_call HSD.out HP.out CL'.out HJ.out (lie := z) (by rw [HK.out]; exact HY.out hsmc) (by rw [HK.out]; exact hzk)))
       have BF1 := Lib.hid BF.out.1
       clear hsmc hzk
       go_wp2_with ((with_reducible show wpList _ _ _ (⟨none, .store _ _ _, _, _, _, _⟩ :: _) _ _); refine wpList_store_rowS rfl _ (.tmp 4) (.tmp 81) rfl (p0 + 2) rfl (c' := #[.map none, .map none]) rfl Z7.out infoClm rfl (by simp [Value.oneCell']) ?_)
       exact bodyPost_ret (results_rowS_tmp (c := #[.map none, .map none]) rfl _ _ (p0 + 2) rfl (setRow_heap _ _ _ _ _ _ Z7.out) Tryz.underlying70 infoClm (.int .i64 8) rfl) rfl ⟨⟨none, none, by rw [HE8.out], Lib.hid fun h => absurd h (by rw [HE8.out]; decide)⟩, below_setRow BF1.out (by have := PW.out; omega) _⟩
    ·obtain rfl : j = Sn1 := by omega
     have hlj' : ¬ (j : Int) < j := by omega
     have HE0 : Hid (staE p s = 0) := Lib.hid (by rw [staE, if_pos (soundP_true HSD.out), if_pos (stMay_iff.2 (claim_may HSD.out HP.out CL'.out fun n hn lie h => HALL.out n hn (by have := NS.out.2.1; omega) lie h))])
     obtain ⟨k0, k1⟩ := cell2_of CZ.out
     go_wp2_with ((with_reducible show wpList _ _ _ (⟨none, .store _ _ _, _, _, _, _⟩ :: _) _ _); refine wpList_store_rowS rfl _ (.tmp 4) (.tmp 83) rfl (p0 + 2) rfl (c' := #[.map (some m1), .map (some m2)]) rfl ZZ.out infoClm rfl (by simp [Value.oneCell']) ?_)
     exact bodyPost_ret (results_rowS_tmp (c := #[.map (some m1), .map (some m2)]) rfl _ _ (p0 + 2) rfl (setRow_heap _ _ _ _ _ _ ZZ.out) Tryz.underlying70 infoClm (.int .i64 0) rfl) rfl ⟨⟨some m1, some m2, by rw [HE0.out], Lib.hid fun _ => ⟨m1, m2, es, fs, rfl, rfl, map_setRow15 M1Z.out (by have := XL.out; omega), map_setRow15 M2Z.out (by have := XL.out; have := MM.out; omega), CL'.out⟩⟩, below_setRow BZ.out (by have := PW.out; omega) _⟩
end Go.Proofs.YtemmgmjhomgbbaaGreat
