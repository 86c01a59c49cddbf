/-
 The document's own function of package way: Made.
 Conditions: none.
-/
import Derived.Test.YtebffdfimmbbdaaGreatQGWayRefD
import Derived.Test.YtebffdfimmbbdaaGreatQGPlnRefD
set_option linter.unusedVariables false
set_option linter.unusedSimpArgs false
set_option maxRecDepth 100000
namespace Go.Proofs.YtebffdfimmbbdaaGreat
open Go.RowKit

/-- A way in a box. -/
def WyBox (W : World) (pz : Nat) (row : Array Value) : Prop := W.heap[pz]? = some (.cells row 56 (0, 0))
theorem cell7_of' {w : World} {b : Nat} {v0 v1 v2 v3 v4 v5 v6 : Value} {t : TypeId} {fr : Nat × Nat} (h : w.heap[b]? = some (.cells #[v0, v1, v2, v3, v4, v5, v6] t fr)) : w.cell? ⟨b, 0, none⟩ = some v0 ∧ w.cell? ⟨b, 1, none⟩ = some v1 ∧ w.cell? ⟨b, 2, none⟩ = some v2 ∧ w.cell? ⟨b, 3, none⟩ = some v3 ∧ w.cell? ⟨b, 4, none⟩ = some v4 ∧ w.cell? ⟨b, 5, none⟩ = some v5 ∧ w.cell? ⟨b, 6, none⟩ = some v6 := cell7_of h

set_option maxHeartbeats 16000000 in
theorem rmade_any (v : Value) (p : Pl) (r : Rt) (kr : Nat) (hkr : kr < p.routes.length) (hr : p.routes[kr] = r) (w : World) (h : PlanV w w.heap.size v p) (hm : PlanMay p) (hg : hangsB p r = true) :
  Calls Tryz.prog 34 #[v, .int .i64 kr] w fun e w' => ∃ u0 u1 u2, e = .returned (.agg #[u0, u1, u2, .int .i64 (wayR p r).near]) ∧ WyOwn w' w.heap.size u0 u1 u2 (wayR p r) ∧ Below w.heap.size w w' := by
 have HRI : Hid (RouteIn p r) := Lib.hid (routeIn_of hm hkr hr)
 have HG := Lib.hid hg
 clear hm hg
 obtain ⟨A2, c2, A3, c3, A4, c4, A5, c5, n2, n3, n4, n5, rfl, hm2, hm3, hm4, hm5, HCP, HIN, HN⟩ := open_plan h
 have hq := two_boxes w (.cells #[.int .i64 p.ver, .int .i64 p.par, .slice A2 n2 c2, .slice A3 n3 c3, .slice A4 n4 c4, .slice A5 n5 c5] 27) (.cells #[.slice none 0 0, .slice none 0 0, .slice none 0 0, .int .i64 0] 56)
 go_enter Tryz.func34, Tryz.ntmps34
 go_upto_region 1 with fail
 generalize (w.alloc (.cells #[.int .i64 p.ver, .int .i64 p.par, .slice A2 n2 c2, .slice A3 n3 c3, .slice A4 n4 c4, .slice A5 n5 c5] 27)).alloc (.cells #[.slice none 0 0, .slice none 0 0, .slice none 0 0, .int .i64 0] 56) = q at hq ⊢
 obtain ⟨q0, q1, qb⟩ := hq
 have XP := Lib.hid q0
 have X4 := Lib.hid q1
 have BQ := Lib.hid qb
 clear q0 q1 qb
 have HI := Lib.hid ((HIN.out.below BQ.out).more BQ.out.size)
 have hkr' : (kr : Int) < n5 := by have := HN.out; omega
 obtain ⟨br, ofr, rfl, hbr, g0, g1, g2, g6, y3, y4, y5, g3, g4, g5, hrv⟩ := HI.out.routes.at hkr
 rw [hr] at g0 g1 g2 g6 hrv
 have hr0 : q.cell? ⟨br, ofr + kr * 7, none⟩ = some (.int .i64 r.id) := g0
 have hr1 : q.cell? ⟨br, ofr + kr * 7 + 1, none⟩ = some (.int .i64 r.entry) := g1
 have hr2 : q.cell? ⟨br, ofr + kr * 7 + 2, none⟩ = some (.int .i64 r.exit) := g2
 have hr3 : q.cell? ⟨br, ofr + kr * 7 + 3, none⟩ = some y3 := g3
 have hr4 : q.cell? ⟨br, ofr + kr * 7 + 4, none⟩ = some y4 := g4
 have hr5 : q.cell? ⟨br, ofr + kr * 7 + 5, none⟩ = some y5 := g5
 have hr6 : q.cell? ⟨br, ofr + kr * 7 + 6, none⟩ = some (.int .i64 r.timer) := g6
 have HRV := Lib.hid hrv
 clear g0 g1 g2 g6 g3 g4 g5 hrv hbr hkr hr
 obtain ⟨k0, k1, k2, k3, k4, k5⟩ := cell6_of XP.out
 go_wp2_with fail
 refine (rtwinroute_any _ r q ⟨_, _, _, rfl, HRV.out⟩ (by have := HRI.out.len; omega) (by have := HRI.out.len; omega) (by have := HRI.out.route.flank; omega)).mono ?_
 rintro e w1 ⟨u3, u4, u5, rfl, hu, b1⟩
 obtain ⟨D3, f3, rfl⟩ := hu.path.slice
 obtain ⟨D4, f4, rfl⟩ := hu.over.slice
 obtain ⟨D5, f5, rfl⟩ := hu.flanks.slice
 obtain ⟨l3, hl3⟩ : ∃ n, n = r.path.length := ⟨_, rfl⟩
 obtain ⟨l4, hl4⟩ : ∃ n, n = r.over.length := ⟨_, rfl⟩
 obtain ⟨l5, hl5⟩ : ∃ n, n = r.flanks.length := ⟨_, rfl⟩
 have RO1 : Hid (RtOwn w1 q.heap.size (.slice D3 l3 f3) (.slice D4 l4 f4) (.slice D5 l5 f5) r) := Lib.hid (by rw [hl3, hl4, hl5]; exact hu)
 have HL : Hid (l3 = r.path.length ∧ l4 = r.over.length ∧ l5 = r.flanks.length) := Lib.hid ⟨hl3, hl4, hl5⟩
 rw [← hl3, ← hl4, ← hl5]
 have B1 := Lib.hid b1
 clear hl3 hl4 hl5 hu b1 hr0 hr1 hr2 hr3 hr4 hr5 hr6 HRV k0 k1 k2 k3 k4 k5
 have hz0 := below_setRow (below_new w1 (.cells #[.int .i64 0, .int .i64 0, .int .i64 0, .slice none 0 0, .slice none 0 0, .slice none 0 0, .int .i64 0] 46)) (Nat.le_refl _) #[.int .i64 r.id, .int .i64 r.entry, .int .i64 r.exit, .slice D3 l3 f3, .slice D4 l4 f4, .slice D5 l5 f5, .int .i64 r.timer]
 have hz1 := setRow_heap (w1.alloc (.cells #[.int .i64 0, .int .i64 0, .int .i64 0, .slice none 0 0, .slice none 0 0, .slice none 0 0, .int .i64 0] 46)) w1.heap.size _ #[.int .i64 r.id, .int .i64 r.entry, .int .i64 r.exit, .slice D3 l3 f3, .slice D4 l4 f4, .slice D5 l5 f5, .int .i64 r.timer] 46 _ (heap_alloc_self _ _)
 have hza := heap_alloc_self w1 (.cells #[.int .i64 0, .int .i64 0, .int .i64 0, .slice none 0 0, .slice none 0 0, .slice none 0 0, .int .i64 0] 46)
 go_upto_region 2 with ((with_reducible show wpList _ _ _ (⟨none, _, _, _, _, _⟩ :: _) _ _); refine wpList_store_rowS rfl _ (.tmp 5) (.tmp 20) rfl w1.heap.size rfl (c' := #[.int .i64 r.id, .int .i64 r.entry, .int .i64 r.exit, .slice D3 l3 f3, .slice D4 l4 f4, .slice D5 l5 f5, .int .i64 r.timer]) rfl hza infoRoute7 rfl (by simp [Value.oneCell']) ?_)
 generalize (w1.alloc (.cells #[.int .i64 0, .int .i64 0, .int .i64 0, .slice none 0 0, .slice none 0 0, .slice none 0 0, .int .i64 0] 46)).setRow w1.heap.size #[.int .i64 r.id, .int .i64 r.entry, .int .i64 r.exit, .slice D3 l3 f3, .slice D4 l4 f4, .slice D5 l5 f5, .int .i64 r.timer] = q5 at hz0 hz1 ⊢
 obtain ⟨p5, hp5⟩ : ∃ n, n = w1.heap.size := ⟨_, rfl⟩
 rw [← hp5] at hz1 ⊢
 have X5 := Lib.hid hz1
 have BQ5 : Hid (Below q.heap.size q q5) := Lib.hid (B1.out.trans (hz0.mono B1.out.size))
 have RO5 := Lib.hid (RO1.out.below hz0)
 have XP5 := Lib.hid ((BQ5.out.block _ (heap_lt XP.out)).trans XP.out)
 have BW5 : Hid (Below w.heap.size w q5) := Lib.hid (BQ.out.trans (BQ5.out.mono BQ.out.size))
 clear hz0 hz1 hza hp5 RO1 B1
 obtain ⟨k0, k1, k2, k3, k4, k5⟩ := cell6_of XP5.out
 obtain ⟨m0, m1, m2, m3, m4, m5, m6⟩ := cell7_of X5.out
 go_wp2_with fail
 refine (rends_one _ _ p r q5 ⟨_, _, _, _, rfl, (HIN.out.below BW5.out).more BW5.out.size⟩ ⟨_, _, _, rfl, RO5.out.in_⟩ HRI.out).mono ?_
 rintro e wE ⟨bE, uI, uO, rfl, hT⟩
 have T := Lib.hid (hT HG.out)
 have XE5 := Lib.hid ((bE.block _ (heap_lt X5.out)).trans X5.out)
 have ROE := Lib.hid (RO5.out.below bE)
 have BQE : Hid (Below q.heap.size q wE) := Lib.hid (BQ5.out.trans (bE.mono BQ5.out.size))
 clear hT bE k0 k1 k2 k3 k4 k5 m0 m1 m2 m3 m4 m5 m6 X5 XP5 RO5
 rw [HG.out]
 obtain ⟨m0, m1, m2, m3, m4, m5, m6⟩ := cell7_of XE5.out
 go_wp2_with fail
 refine (rsections_any _ r wE ⟨_, _, _, rfl, ROE.out.in_⟩ (by have := HRI.out.len; omega) (by have := HRI.out.len; omega)).mono ?_
 rintro e wS ⟨u', rfl, hu, b9⟩
 obtain ⟨AL, cL, rfl⟩ := hu.slice
 obtain ⟨nl, hnl⟩ : ∃ n, n = (r.path ++ r.over).length := ⟨_, rfl⟩
 have HNL : Hid (nl = (allR r).length) := Lib.hid hnl
 have LI : Hid (IntsIn wS wS.heap.size (.slice AL nl cL) (allR r)) := Lib.hid (by rw [hnl]; exact hu.in_ intR_cells)
 rw [← hnl]
 have hta := (T.out.a.below intR b9)
 have htb := (T.out.b.below intR b9)
 obtain ⟨AI, cI, rfl⟩ := hta.slice
 obtain ⟨AO, cO, rfl⟩ := htb.slice
 have II : Hid (IntsIn wS wS.heap.size (.slice AI nl cI) (insL p r nl)) := Lib.hid (by have := hta.in_ intR_cells; rw [insL_len, ← HNL.out] at this; exact this)
 have OI : Hid (IntsIn wS wS.heap.size (.slice AO nl cO) (outsL p r nl)) := Lib.hid (by have := htb.in_ intR_cells; rw [outsL_len, ← HNL.out] at this; exact this)
 rw [insL_len, outsL_len, ← HNL.out]
 have X5S := Lib.hid ((b9.block _ (heap_lt XE5.out)).trans XE5.out)
 have ROS := Lib.hid (ROE.out.below b9)
 have BQS : Hid (Below q.heap.size q wS) := Lib.hid (BQE.out.trans (b9.mono BQE.out.size))
 have XPS := Lib.hid ((BQS.out.block _ (heap_lt XP.out)).trans XP.out)
 have BWS : Hid (Below w.heap.size w wS) := Lib.hid (BQ.out.trans (BQS.out.mono BQ.out.size))
 have hnl8 : nl ≤ 8 := by have := HRI.out.len; have := HNL.out; omega
 clear hnl hu b9 hta htb T XE5 ROE BQE BQ5 BW5 m0 m1 m2 m3 m4 m5 m6
 have HIS := Lib.hid ((HIN.out.below BWS.out).more BWS.out.size)
 obtain ⟨kg, hkg, hat1, hsg, -⟩ := HRI.out.entry
 have hkg' : (kg : Int) < n4 := by have := HN.out; omega
 obtain ⟨bg, og, rfl, hbg, hd0, hd1, hd2⟩ := HIS.out.sigs.at hkg
 obtain ⟨gsec, hgs⟩ : ∃ a, a = p.sigs[kg].2.1 := ⟨_, rfl⟩
 rw [← hgs] at hd1
 have HNEAR : Hid (gsec = (wayR p r).near) := Lib.hid (by rw [hgs, wayR, hsg])
 have hg1 : wS.cell? ⟨bg, og + kg * 3 + 1, none⟩ = some (.int .i64 gsec) := hd1
 have XC : Hid (∀ W, Below wS.heap.size wS W → Calls Tryz.prog 49 #[.slice (some ⟨bg, og, none⟩) n4 c4, .int .i64 r.entry] W fun e w' => e = .returned (.int .i64 (kg : Int)) ∧ w' = W) := Lib.hid (fun W hb => by
  have := rsignalat_any _ p.sigs r.entry W ((HIS.out.sigs.below sigR hb).more sigR hb.size)
  rw [show at1 (fun x => x.1) p.sigs r.entry = (kg : Int) from hat1] at this
  exact this)
 clear hd0 hd1 hd2 hgs hsg hat1 hkg hbg
 go_upto_region 4 with fail
 go_cut [10] from 30 to 44 (fun s10 wx => ∃ pz, s10 = .pointer (some ⟨pz, 0, none⟩) ∧ WyBox wx pz #[.slice D3 l3 f3, .slice D4 l4 f4, .slice none 0 0, .int .i64 gsec] ∧ wS.heap.size ≤ pz ∧ Below wS.heap.size wS wx)
 case first =>
  refine wp_region_held_drew (S := fun v => Below wS.heap.size wS v) (by kernel_rfl) (Below.refl wS.heap.size wS).drew (fun hHeld => ?_)
  refine tk 0 hHeld ?_;refine tkc 1 hHeld (fun w' hSw => cell7_of ((hSw.block _ (heap_lt X5S.out)).trans X5S.out)) ?_;refine tk 2 hHeld ?_;refine tkc 3 hHeld (fun w' hSw => cell7_of ((hSw.block _ (heap_lt X5S.out)).trans X5S.out)) ?_;refine tk 4 hHeld ?_;refine tkc 5 hHeld (fun w' hSw => cell6_of ((hSw.block _ (heap_lt XPS.out)).trans XPS.out)) ?_;refine tk 6 hHeld ?_;refine tkc 7 hHeld (fun w' hSw => cell6_of ((hSw.block _ (heap_lt XPS.out)).trans XPS.out)) ?_;refine tk 8 hHeld ?_;refine tkc 9 hHeld (fun w' hSw => cell7_of ((hSw.block _ (heap_lt X5S.out)).trans X5S.out)) ?_
  refine wpAnyH_ready (rs := [10, 15]) (by kernel_rfl) (by simp) ?_
  refine AllReadyH.cons rfl (fun K hK => ?_) (AllReadyH.cons rfl (fun K hK => ?_) AllReadyH.nil)
  ·go_simp
   refine (XC.out wS.drew (Below.refl wS.heap.size wS).drew).mono ?_
   rintro e w' ⟨rfl, rfl⟩
   try go_wp2_with fail
   refine hK.out _ _ ?_ fun hHeld => ?_;exact (Below.refl wS.heap.size wS).drew;clear hK K;try simp only [zn, Act.put]
   refine tk 11 hHeld ?_;refine tk 12 hHeld ?_;refine tkc 13 hHeld (fun w' hSw => (hSw.cell (cell_lt hg1)).trans hg1) ?_;refine tk 14 hHeld ?_
   refine tkr 15 (fun K hK => ?_)
   go_simp
   refine hK.out _ _ ?_ fun hHeld => ?_;exact (below_new wS (.cells #[.slice none 0 0, .slice none 0 0, .slice none 0 0, .int .i64 0] 56)).drew;clear hK K;try simp only [zn, Act.put]
   refine tkr 16 (fun K hK => ?_)
   rw [if_pos (by rfl)]
   refine wp_store_rowS 56 (.tmp 10) (.tmp 44) rfl wS.heap.size rfl (c' := #[.slice D3 l3 f3, .slice D4 l4 f4, .slice none 0 0, .int .i64 gsec]) rfl (show (wS.alloc (.cells #[.slice none 0 0, .slice none 0 0, .slice none 0 0, .int .i64 0] 56)).drew.heap[wS.heap.size]? = some (.cells #[.slice none 0 0, .slice none 0 0, .slice none 0 0, .int .i64 0] 56 (0, 0)) from heap_alloc_self _ _) infoWay4 rfl (by simp [Value.oneCell']) ?_
   refine hK.out _ _ ?_ fun hHeld => ?_;exact below_setRow (below_new wS (.cells #[.slice none 0 0, .slice none 0 0, .slice none 0 0, .int .i64 0] 56)).drew (Nat.le_refl _) _;clear hK K;try simp only [zn, Act.put]
   refine wpAnyH_done (by kernel_rfl) ?_ _
   go_wp2_with fail
   go_meet
   exact ⟨wS.heap.size, rfl, setRow_heap _ _ _ _ _ _ (show (wS.alloc (.cells #[.slice none 0 0, .slice none 0 0, .slice none 0 0, .int .i64 0] 56)).drew.heap[wS.heap.size]? = some (.cells #[.slice none 0 0, .slice none 0 0, .slice none 0 0, .int .i64 0] 56 (0, 0)) from heap_alloc_self _ _), Nat.le_refl _, below_setRow (below_new wS (.cells #[.slice none 0 0, .slice none 0 0, .slice none 0 0, .int .i64 0] 56)).drew (Nat.le_refl _) _⟩
  ·go_simp
   have hz0 : Below wS.heap.size wS (wS.alloc (.cells #[.slice none 0 0, .slice none 0 0, .slice none 0 0, .int .i64 0] 56)).drew := (below_new _ _).drew
   have hz1 : (wS.alloc (.cells #[.slice none 0 0, .slice none 0 0, .slice none 0 0, .int .i64 0] 56)).drew.heap[wS.heap.size]? = some (.cells #[.slice none 0 0, .slice none 0 0, .slice none 0 0, .int .i64 0] 56 (0, 0)) := heap_alloc_self _ _
   refine hK.out _ _ ?_ fun hHeld => ?_;exact hz0;clear hK K;try simp only [zn, Act.put]
   generalize (wS.alloc (.cells #[.slice none 0 0, .slice none 0 0, .slice none 0 0, .int .i64 0] 56)).drew = wB at hz0 hz1 hHeld ⊢
   have HZ0 := Lib.hid hz0
   have HZ1 := Lib.hid hz1
   clear hz0 hz1
   refine tkr 10 (fun K hK => ?_)
   go_simp
   refine (XC.out wB HZ0.out).mono ?_
   rintro e w' ⟨rfl, rfl⟩
   try go_wp2_with fail
   refine hK.out _ _ ?_ fun hHeld => ?_;exact HZ0.out;clear hK K;try simp only [zn, Act.put]
   refine tk 11 hHeld ?_;refine tk 12 hHeld ?_;refine tkc 13 hHeld (fun w' hSw => (hSw.cell (cell_lt hg1)).trans hg1) ?_;refine tk 14 hHeld ?_
   refine tkr 16 (fun K hK => ?_)
   rw [if_pos (by rfl)]
   refine wp_store_rowS 56 (.tmp 10) (.tmp 44) rfl wS.heap.size rfl (c' := #[.slice D3 l3 f3, .slice D4 l4 f4, .slice none 0 0, .int .i64 gsec]) rfl HZ1.out infoWay4 rfl (by simp [Value.oneCell']) ?_
   refine hK.out _ _ ?_ fun hHeld => ?_;exact below_setRow HZ0.out (Nat.le_refl _) _;clear hK K;try simp only [zn, Act.put]
   refine wpAnyH_done (by kernel_rfl) ?_ _
   go_wp2_with fail
   go_meet
   exact ⟨wS.heap.size, rfl, setRow_heap _ _ _ _ _ _ HZ1.out, Nat.le_refl _, below_setRow HZ0.out (Nat.le_refl _) _⟩
 case rest =>
  obtain ⟨pw, rfl, hbx, hpw, hbl⟩ := hcut
  obtain ⟨wX, hwX⟩ : ∃ z, z = wc := ⟨_, rfl⟩
  subst hwX
  have XW := Lib.hid hbx
  have PW : Hid (wS.heap.size ≤ pw ∧ pw < wX.heap.size) := Lib.hid ⟨hpw, heap_lt hbx⟩
  have BX := Lib.hid hbl
  clear hbx hpw hbl hg1 XC hkg'
  go_wp2_with fail
  go_loopw [11, 12, 13] (fun s11 s12 s13 wr => ∃ (i L : Nat) (A : Option Addr) (c : Nat), i ≤ nl ∧ s11 = .int .i64 i ∧ L = (asksL p r i).length ∧ AsksOwn wr wX.heap.size (.slice A L c) (asksL p r i) ∧ WyBox wr pw #[.slice D3 l3 f3, .slice D4 l4 f4, .slice A L c, .int .i64 gsec] ∧ wX.grownBy wr (some pw)) (fun s11 _ _ _ => nl - (intOf s11).toNat)
  case atStart => exact ⟨0, 0, none, 0, by omega, by go_num, rfl, ListOwn.nil_, XW.out, ⟨rfl, rfl, rfl, Nat.le_refl _, fun _ _ _ => rfl⟩⟩
  case round =>
   obtain ⟨i, L, A, c, hi, rfl, hL, ho, hx, hgb⟩ := hrel
   have HLL := Lib.hid hL
   have LLE : Hid (L ≤ i) := Lib.hid (by rw [hL]; exact Nat.le_trans (List.length_filterMap_le _ _) (by simp))
   have OW := Lib.hid ho
   have XWr := Lib.hid hx
   have GB := Lib.hid hgb
   have SZ : Hid (wX.heap.size ≤ wr.heap.size) := Lib.hid hgb.size
   have BSr : Hid (Below wS.heap.size wS wr) := Lib.hid (BX.out.trans (gb_low hgb PW.out.1 BX.out.size))
   clear hL ho hx hgb
   have BWr : Hid (Below w.heap.size w wr) := Lib.hid (BWS.out.trans (BSr.out.mono BWS.out.size))
   have XPr := Lib.hid ((BSr.out.block _ (heap_lt XPS.out)).trans XPS.out)
   by_cases hlt : i < nl
   ·have hlt' : (i : Int) < nl := by omega
    have hia : i < (allR r).length := by have := HNL.out; omega
    have hii : i < (insL p r nl).length := by rw [insL_len]; exact hlt
    have hio : i < (outsL p r nl).length := by rw [outsL_len]; exact hlt
    obtain ⟨bl, ofl, e2, hbl, hc0⟩ := (LI.out.below intR BSr.out).at hia
    obtain ⟨bi, ofi, e3, hbi, hd0⟩ := (II.out.below intR BSr.out).at hii
    obtain ⟨bo, ofo, e4, hbo, hf0⟩ := (OI.out.below intR BSr.out).at hio
    cases e2
    cases e3
    cases e4
    obtain ⟨z, hz⟩ : ∃ z, z = (allR r).getD i 0 := ⟨_, rfl⟩
    obtain ⟨X1, hX1⟩ : ∃ z, z = inN p r i := ⟨_, rfl⟩
    obtain ⟨X2, hX2⟩ : ∃ z, z = outA p r i := ⟨_, rfl⟩
    have hl1 : wr.cell? ⟨bl, ofl + i, none⟩ = some (.int .i64 z) := by rw [hz, List.getD, List.getElem?_eq_getElem hia]; simpa [IntR] using hc0
    have hi1 : wr.cell? ⟨bi, ofi + i, none⟩ = some (.int .i64 X1) := by rw [show (insL p r nl)[i] = X1 from by simp [insL, hX1]] at hd0; simpa [IntR] using hd0
    have ho1 : wr.cell? ⟨bo, ofo + i, none⟩ = some (.int .i64 X2) := by rw [outsL_at p r hlt, ← hX2] at hf0; simpa [IntR] using hf0
    obtain ⟨ks, hks, hatk, hsk, -⟩ := HRI.out.sec hia
    have hks' : (ks : Int) < n2 := by have := HN.out; omega
    have HIr := Lib.hid ((HIN.out.below BWr.out).more BWr.out.size)
    obtain ⟨bs, os, e5, hbs, hh0, hh1, u, hh2, hu⟩ := HIr.out.secs.at hks
    cases e5
    obtain ⟨Ae, ce, rfl, huc, hue⟩ := hu.slice
    obtain ⟨sid, spt, es, hx⟩ : ∃ a b c, p.secs[ks] = (a, b, c) := ⟨_, _, _, rfl⟩
    rw [hx] at hh0 hh1 hh2 hu huc hsk
    dsimp only at hh0 hh1 hh2 hu huc
    obtain ⟨ne, hne⟩ : ∃ n, n = es.length := ⟨_, rfl⟩
    rw [← hne] at hh2 hu
    have HES : Hid (JoinsIn wr wr.heap.size (.slice Ae ne ce) es) := Lib.hid hu
    have hs0 : wr.cell? ⟨bs, os + ks * 3, none⟩ = some (.int .i64 sid) := hh0
    have hs1 : wr.cell? ⟨bs, os + ks * 3 + 1, none⟩ = some (.int .i64 spt) := hh1
    have hs2 : wr.cell? ⟨bs, os + ks * 3 + 2, none⟩ = some (.slice Ae ne ce) := hh2
    have ASKE : Hid (askN p r i = if spt = 0 then none else if 0 < (if 0 ≤ X2 then lieS spt X1 X2 else X1) then some (spt, (if 0 ≤ X2 then lieS spt X1 X2 else X1), (i : Int)) else none) := Lib.hid (by rw [askN, hsk, ← hX1, ← hX2])
    have XE : Hid (∀ W, Below wr.heap.size wr W → Calls Tryz.prog 50 #[.slice (some ⟨bs, os, none⟩) n2 c2, .int .i64 z] W fun e w' => e = .returned (.int .i64 (ks : Int)) ∧ w' = W) := Lib.hid (fun W hb => by
     have := rat_any _ p.secs z W ((HIr.out.secs.below secR_ hb).more secR_ hb.size)
     rw [hz, hatk, ← hz] at this
     exact this)
    clear hc0 hd0 hf0 hh0 hh1 hh2 hu huc hue hx hne hsk hatk hz hX1 hX2 hbl hbi hbo hbs hks hia hii hio
    go_upto_region 8 with fail
    go_cut [12] from 51 to 61 (fun s12 wx => ∃ pz, s12 = .pointer (some ⟨pz, 0, none⟩) ∧ SecBox wx wr.heap.size pz #[.int .i64 sid, .int .i64 spt, .slice Ae ne ce] ∧ Below wr.heap.size wr wx)
    case first =>
     refine wp_region_held_drew (S := fun v => Below wr.heap.size wr v) (by kernel_rfl) (Below.refl wr.heap.size wr).drew (fun hHeld => ?_)
     refine tk 0 hHeld ?_;refine tkc 1 hHeld (fun w' hSw => cell6_of ((hSw.block _ (heap_lt XPr.out)).trans XPr.out)) ?_;refine tk 2 hHeld ?_;refine tkc 3 hHeld (fun w' hSw => cell6_of ((hSw.block _ (heap_lt XPr.out)).trans XPr.out)) ?_;refine tk 4 hHeld ?_;refine tk 5 hHeld ?_;refine tk 6 hHeld ?_;refine tkc 7 hHeld (fun w' hSw => (hSw.cell (cell_lt hl1)).trans hl1) ?_
     refine wpAnyH_ready (rs := [8, 11]) (by kernel_rfl) (by simp) ?_
     refine AllReadyH.cons rfl (fun K hK => ?_) (AllReadyH.cons rfl (fun K hK => ?_) AllReadyH.nil)
     ·go_simp
      refine (XE.out wr.drew (Below.refl wr.heap.size wr).drew).mono ?_
      rintro e w' ⟨rfl, rfl⟩
      try go_wp2_with fail
      refine hK.out _ _ ?_ fun hHeld => ?_;exact (Below.refl wr.heap.size wr).drew;clear hK K;try simp only [zn, Act.put]
      refine tk 9 hHeld ?_
      refine wpAnyH_take (i := 10) (v := ?_) rfl (by kernel_rfl) (by kernel_rfl) (by kernel_rfl) (fun _ _ _ h => h) (Or.inl ⟨by rfl, ?_⟩) hHeld ?_
      rotate_left
      ·intro w' hSw; have cs0 := (hSw.cell (cell_lt hs0)).trans hs0; have cs1 := (hSw.cell (cell_lt hs1)).trans hs1; have cs2 := (hSw.cell (cell_lt hs2)).trans hs2; go_simp; try with_reducible rfl
      simp only [zn, Act.put]
      refine tkr 11 (fun K hK => ?_)
      go_simp
      refine hK.out _ _ ?_ fun hHeld => ?_;exact (below_new wr (.cells #[.int .i64 0, .int .i64 0, .slice none 0 0] 50)).drew;clear hK K;try simp only [zn, Act.put]
      refine tkr 12 (fun K hK => ?_)
      rw [if_pos (by rfl)]
      refine wp_store_rowS 50 (.tmp 12) (.tmp 61) rfl wr.heap.size rfl (c' := #[.int .i64 sid, .int .i64 spt, .slice Ae ne ce]) rfl (show (wr.alloc (.cells #[.int .i64 0, .int .i64 0, .slice none 0 0] 50)).drew.heap[wr.heap.size]? = some (.cells #[.int .i64 0, .int .i64 0, .slice none 0 0] 50 (0, 0)) from heap_alloc_self _ _) infoSec3 rfl (by simp [Value.oneCell']) ?_
      refine hK.out _ _ ?_ fun hHeld => ?_;exact below_setRow (below_new wr (.cells #[.int .i64 0, .int .i64 0, .slice none 0 0] 50)).drew (Nat.le_refl _) _;clear hK K;try simp only [zn, Act.put]
      refine wpAnyH_done (by kernel_rfl) ?_ _
      go_wp2_with fail
      go_meet
      exact ⟨wr.heap.size, rfl, ⟨setRow_heap _ _ _ _ _ _ (show (wr.alloc (.cells #[.int .i64 0, .int .i64 0, .slice none 0 0] 50)).drew.heap[wr.heap.size]? = some (.cells #[.int .i64 0, .int .i64 0, .slice none 0 0] 50 (0, 0)) from heap_alloc_self _ _), Nat.le_refl _⟩, below_setRow (below_new wr (.cells #[.int .i64 0, .int .i64 0, .slice none 0 0] 50)).drew (Nat.le_refl _) _⟩
     ·go_simp
      have hz0 : Below wr.heap.size wr (wr.alloc (.cells #[.int .i64 0, .int .i64 0, .slice none 0 0] 50)).drew := (below_new _ _).drew
      have hz1 : (wr.alloc (.cells #[.int .i64 0, .int .i64 0, .slice none 0 0] 50)).drew.heap[wr.heap.size]? = some (.cells #[.int .i64 0, .int .i64 0, .slice none 0 0] 50 (0, 0)) := heap_alloc_self _ _
      refine hK.out _ _ ?_ fun hHeld => ?_;exact hz0;clear hK K;try simp only [zn, Act.put]
      generalize (wr.alloc (.cells #[.int .i64 0, .int .i64 0, .slice none 0 0] 50)).drew = wB at hz0 hz1 hHeld ⊢
      have HZ0 := Lib.hid hz0
      have HZ1 := Lib.hid hz1
      clear hz0 hz1
      refine tkr 8 (fun K hK => ?_)
      go_simp
      refine (XE.out wB HZ0.out).mono ?_
      rintro e w' ⟨rfl, rfl⟩
      try go_wp2_with fail
      refine hK.out _ _ ?_ fun hHeld => ?_;exact HZ0.out;clear hK K;try simp only [zn, Act.put]
      refine tk 9 hHeld ?_
      refine wpAnyH_take (i := 10) (v := ?_) rfl (by kernel_rfl) (by kernel_rfl) (by kernel_rfl) (fun _ _ _ h => h) (Or.inl ⟨by rfl, ?_⟩) hHeld ?_
      rotate_left
      ·intro w' hSw; have cs0 := (hSw.cell (cell_lt hs0)).trans hs0; have cs1 := (hSw.cell (cell_lt hs1)).trans hs1; have cs2 := (hSw.cell (cell_lt hs2)).trans hs2; go_simp; try with_reducible rfl
      simp only [zn, Act.put]
      refine tkr 12 (fun K hK => ?_)
      rw [if_pos (by rfl)]
      refine wp_store_rowS 50 (.tmp 12) (.tmp 61) rfl wr.heap.size rfl (c' := #[.int .i64 sid, .int .i64 spt, .slice Ae ne ce]) rfl HZ1.out infoSec3 rfl (by simp [Value.oneCell']) ?_
      refine hK.out _ _ ?_ fun hHeld => ?_;exact below_setRow HZ0.out (Nat.le_refl _) _;clear hK K;try simp only [zn, Act.put]
      refine wpAnyH_done (by kernel_rfl) ?_ _
      go_wp2_with fail
      go_meet
      exact ⟨wr.heap.size, rfl, ⟨setRow_heap _ _ _ _ _ _ HZ1.out, Nat.le_refl _⟩, below_setRow HZ0.out (Nat.le_refl _) _⟩
    case rest =>
     obtain ⟨pz, rfl, hbx, hbl⟩ := hcut
     obtain ⟨w8, hw8⟩ : ∃ z, z = wc := ⟨_, rfl⟩
     subst hw8
     have X12 := Lib.hid hbx.1
     have OW8 := Lib.hid (OW.out.below sigR hbl)
     have XW8 := Lib.hid ((hbl.block _ (heap_lt XWr.out)).trans XWr.out)
     have GB8 := Lib.hid (gb_below GB.out hbl SZ.out)
     have SZ8 : Hid (wX.heap.size ≤ w8.heap.size) := Lib.hid (Nat.le_trans SZ.out hbl.size)
     have HE8 : Hid (JoinsIn w8 w8.heap.size (.slice Ae ne ce) es) := Lib.hid ((HES.out.below joinR hbl).more joinR hbl.size)
     have hi2 := (hbl.cell (cell_lt hi1)).trans hi1
     have ho2 := (hbl.cell (cell_lt ho1)).trans ho1
     clear hbx hbl hl1 hi1 ho1 hs0 hs1 hs2 OW XWr GB HES XE BSr BWr XPr hks' HIr
     obtain ⟨s0, s1, s2⟩ := cell3_of X12.out
     by_cases hp : spt = 0
     ·have NO : Hid (asksL p r (i + 1) = asksL p r i) := Lib.hid (by rw [asksL_succ, ASKE.out, if_pos hp]; simp)
      have dp : (spt == 0) = true := by simpa using hp
      clear hp
      go_wp2_with fail
      go_roundw
      case measure => simp [intOf]; omega
      case rel => exact ⟨i + 1, L, A, c, by omega, by go_num, by rw [NO.out]; exact HLL.out, by rw [NO.out]; exact OW8.out, XW8.out, GB8.out⟩
     have dp : (spt == 0) = false := by simpa using hp
     by_cases hx2 : 0 ≤ X2
     ·have d2 : (0 ≤ X2) = True := eq_true hx2
      have ASK0 : Hid (askN p r i = if 0 < lieS spt X1 X2 then some (spt, lieS spt X1 X2, (i : Int)) else none) := Lib.hid (by rw [ASKE.out, if_neg hp, if_pos hx2])
      clear hp hx2
      go_upto_region 12 with fail
      clear s0 s1 s2
      refine wp_region_held_drew (S := fun v => Below w8.heap.size w8 v) (by kernel_rfl) (Below.refl w8.heap.size w8).drew (fun hHeld => ?_)
      refine tkc 0 hHeld (fun w' hSw => cell3_of ((hSw.block _ (heap_lt X12.out)).trans X12.out)) ?_;refine tk 1 hHeld ?_;refine tk 2 hHeld ?_;refine tk 3 hHeld ?_;refine tkc 4 hHeld (fun w' hSw => (hSw.cell (cell_lt hi2)).trans hi2) ?_;refine tk 5 hHeld ?_;refine tk 6 hHeld ?_;refine tk 7 hHeld ?_;refine tkc 8 hHeld (fun w' hSw => (hSw.cell (cell_lt ho2)).trans ho2) ?_
      refine tkr 9 (fun K hK => ?_)
      go_simp
      refine (rlie_any _ (sid, spt, es) X1 X2 w8.drew ⟨_, rfl, HE8.out.below joinR (Below.refl w8.heap.size w8).drew⟩).mono ?_
      rintro e wL ⟨rfl, bL⟩
      have BL : Hid (Below w8.heap.size w8 wL) := Lib.hid ((Below.refl w8.heap.size w8).drew.trans bL)
      clear bL
      try go_wp2_with fail
      refine hK.out _ _ ?_ fun hHeld => ?_;exact BL.out;clear hK K;try simp only [zn, Act.put]
      refine tk 10 hHeld ?_
      refine wpAnyH_done (by kernel_rfl) ?_ _
      have OW9 := Lib.hid (OW8.out.below sigR BL.out)
      have XW9 := Lib.hid ((BL.out.block _ (heap_lt XW8.out)).trans XW8.out)
      have GB9 := Lib.hid (gb_below GB8.out BL.out SZ8.out)
      have SZ9 : Hid (wX.heap.size ≤ wL.heap.size) := Lib.hid (Nat.le_trans SZ8.out BL.out.size)
      have X129 := Lib.hid ((BL.out.block _ (heap_lt X12.out)).trans X12.out)
      clear hi2 ho2 OW8 XW8 GB8 SZ8 X12 HE8 BL
      obtain ⟨ly, hly⟩ : ∃ z, z = lieS spt X1 X2 := ⟨_, rfl⟩
      rw [← hly] at ASK0
      have ASK := ASK0
      rw [← hly]
      clear hly ASK0
      by_cases hly : 0 < ly
      rotate_left
      ·have d9 : (0 < ly) = False := eq_false hly
       have NO : Hid (asksL p r (i + 1) = asksL p r i) := Lib.hid (by rw [asksL_succ, ASK.out, if_neg hly]; simp)
       clear hly
       go_wp2_with fail
       go_roundw
       case measure => simp [intOf]; omega
       case rel => exact ⟨i + 1, L, A, c, by omega, by go_num, by rw [NO.out]; exact HLL.out, by rw [NO.out]; exact OW9.out, XW9.out, GB9.out⟩
      have d9 : (0 < ly) = True := eq_true hly
      have YES : Hid (asksL p r (i + 1) = asksL p r i ++ [(spt, ly, (i : Int))]) := Lib.hid (by rw [asksL_succ, ASK.out, if_pos hly]; rfl)
      clear hly
      obtain ⟨i0, hii, hz0, hzz, hz2⟩ := info_parts infoAskI
      have I0 := Lib.hid hii
      have I1 := Lib.hid hz0
      have I2 := Lib.hid hzz
      have I3 := Lib.hid hz2
      obtain ⟨yss, hown, hyl, hm, hys, hyr⟩ := OW9.out
      rw [← HLL.out] at hown
      have O := Lib.hid hown
      have YL := Lib.hid hyl
      have YS := Lib.hid hys
      have YR := Lib.hid hyr
      have X4c := XW9.out
      obtain ⟨x0, x1, x2, x3⟩ := cell4_of X4c
      obtain ⟨s0, s1, s2⟩ := cell3_of X129.out
      clear hii hz0 hzz hz2 hown hyl hm hys hyr X4c
      go_wp2_with ((with_reducible show wpList _ _ _ (⟨some 94, _, _, _, _, _⟩ :: _) _ _); refine wpList_append_list rfl (.tmp 87) (.tmp 93) _ rfl Tryz.underlying54 I0.out I1.out rfl I2.out (by decide) I3.out (by decide) rfl (O.out.alloc _) (m := 1) rfl (news := [.int .i64 spt, .int .i64 ly, .int .i64 (i : Int)]) rfl (fun h => by cases h) (fun a ha j u hj => by cases ha; rw [Addr.add_lit, Nat.zero_add, World.cell?_alloc_new]; simpa using hj) (by simp [Value.oneCell']) (by have := LLE.out; omega) (by have := SZ9.out; simp; omega) ?_; intro v5 w5 hown5 hgrow5; have S5 : Hid (AsksOwn w5 wX.heap.size v5 (asksL p r (i + 1))) := Lib.hid (by rw [YES.out]; exact ListOwn.snoc (w1 := wL) (x := (spt, ly, (i : Int))) (ys := [.int .i64 spt, .int .i64 ly, .int .i64 (i : Int)]) sigR (fun _ h _ _ => h) (by rw [← HLL.out]; exact O.out) YL.out YS.out rfl (by have := LLE.out; have := HLL.out; unfold maxLen; omega) YR.out (Below.refl _ _) ⟨rfl, rfl, rfl⟩ (by rw [← HLL.out]; exact hown5) hgrow5); have B5 := Lib.hid (((Below.refl wX.heap.size wL).alloc SZ9.out _).grown hgrow5 (by have := SZ9.out; simp; omega) (own_ge O.out)); obtain ⟨A5, c5_, rfl⟩ := own_sliceN hown5; clear hown5 hgrow5; have X5' := Lib.hid ((B5.out.block _ PW.out.2).trans XW9.out); have X5c := X5'.out; have fz := frozen2_of X5c 2; clear x0 x1 x2 x3 s0 s1 s2; obtain ⟨x0, x1, x2, x3⟩ := cell4_of X5c; clear X5c)
      go_roundw
      case measure => simp [intOf]; omega
      case rel => exact ⟨i + 1, L + 1, A5, c5_, by omega, by go_num, by rw [YES.out, List.length_append, ← HLL.out]; rfl, own_kept sigF S5.out (grown_setK w5 pw 2 _) (fun k hk => by have := own_lo S5.out k hk; have := PW.out; omega), heap_setK (k := 2) X5'.out _, (gb_below GB9.out B5.out (Nat.le_refl _)).trans (grown_setK w5 pw 2 _)⟩
     ·have d2 : (0 ≤ X2) = False := eq_false hx2
      have ASK0 : Hid (askN p r i = if 0 < X1 then some (spt, X1, (i : Int)) else none) := Lib.hid (by rw [ASKE.out, if_neg hp, if_neg hx2])
      clear hp hx2
      have X128 := X12
      obtain ⟨ly, rfl⟩ : ∃ z, z = X1 := ⟨_, rfl⟩
      have ASK := ASK0
      go_upto_region 13 with fail
      clear s0 s1 s2 hi2 ho2 ASK0
      by_cases hly : 0 < ly
      rotate_left
      ·have d9 : (0 < ly) = False := eq_false hly
       have NO : Hid (asksL p r (i + 1) = asksL p r i) := Lib.hid (by rw [asksL_succ, ASK.out, if_neg hly]; simp)
       clear hly
       go_wp2_with fail
       go_roundw
       case measure => simp [intOf]; omega
       case rel => exact ⟨i + 1, L, A, c, by omega, by go_num, by rw [NO.out]; exact HLL.out, by rw [NO.out]; exact OW8.out, XW8.out, GB8.out⟩
      have d9 : (0 < ly) = True := eq_true hly
      have YES : Hid (asksL p r (i + 1) = asksL p r i ++ [(spt, ly, (i : Int))]) := Lib.hid (by rw [asksL_succ, ASK.out, if_pos hly]; rfl)
      clear hly
      obtain ⟨i0, hii, hz0, hzz, hz2⟩ := info_parts infoAskI
      have I0 := Lib.hid hii
      have I1 := Lib.hid hz0
      have I2 := Lib.hid hzz
      have I3 := Lib.hid hz2
      obtain ⟨yss, hown, hyl, hm, hys, hyr⟩ := OW8.out
      rw [← HLL.out] at hown
      have O := Lib.hid hown
      have YL := Lib.hid hyl
      have YS := Lib.hid hys
      have YR := Lib.hid hyr
      have X4c := XW8.out
      obtain ⟨x0, x1, x2, x3⟩ := cell4_of X4c
      obtain ⟨s0, s1, s2⟩ := cell3_of X128.out
      clear hii hz0 hzz hz2 hown hyl hm hys hyr X4c
      go_wp2_with ((with_reducible show wpList _ _ _ (⟨some 94, _, _, _, _, _⟩ :: _) _ _); refine wpList_append_list rfl (.tmp 87) (.tmp 93) _ rfl Tryz.underlying54 I0.out I1.out rfl I2.out (by decide) I3.out (by decide) rfl (O.out.alloc _) (m := 1) rfl (news := [.int .i64 spt, .int .i64 ly, .int .i64 (i : Int)]) rfl (fun h => by cases h) (fun a ha j u hj => by cases ha; rw [Addr.add_lit, Nat.zero_add, World.cell?_alloc_new]; simpa using hj) (by simp [Value.oneCell']) (by have := LLE.out; omega) (by have := SZ8.out; simp; omega) ?_; intro v5 w5 hown5 hgrow5; have S5 : Hid (AsksOwn w5 wX.heap.size v5 (asksL p r (i + 1))) := Lib.hid (by rw [YES.out]; exact ListOwn.snoc (w1 := w8) (x := (spt, ly, (i : Int))) (ys := [.int .i64 spt, .int .i64 ly, .int .i64 (i : Int)]) sigR (fun _ h _ _ => h) (by rw [← HLL.out]; exact O.out) YL.out YS.out rfl (by have := LLE.out; have := HLL.out; unfold maxLen; omega) YR.out (Below.refl _ _) ⟨rfl, rfl, rfl⟩ (by rw [← HLL.out]; exact hown5) hgrow5); have B5 := Lib.hid (((Below.refl wX.heap.size w8).alloc SZ8.out _).grown hgrow5 (by have := SZ8.out; simp; omega) (own_ge O.out)); obtain ⟨A5, c5_, rfl⟩ := own_sliceN hown5; clear hown5 hgrow5; have X5' := Lib.hid ((B5.out.block _ PW.out.2).trans XW8.out); have X5c := X5'.out; have fz := frozen2_of X5c 2; clear x0 x1 x2 x3 s0 s1 s2; obtain ⟨x0, x1, x2, x3⟩ := cell4_of X5c; clear X5c)
      go_roundw
      case measure => simp [intOf]; omega
      case rel => exact ⟨i + 1, L + 1, A5, c5_, by omega, by go_num, by rw [YES.out, List.length_append, ← HLL.out]; rfl, own_kept sigF S5.out (grown_setK w5 pw 2 _) (fun k hk => by have := own_lo S5.out k hk; have := PW.out; omega), heap_setK (k := 2) X5'.out _, (gb_below GB8.out B5.out (Nat.le_refl _)).trans (grown_setK w5 pw 2 _)⟩
   ·obtain rfl : nl = i := by omega
    have hlt' : ¬ (nl : Int) < nl := by omega
    obtain ⟨wY, hY⟩ : ∃ z, z = wr := ⟨_, rfl⟩
    subst hY
    have HL0 := HLL
    have LN8 : Hid (L ≤ 8) := Lib.hid (by have := LLE.out; omega)
    go_wp2_with fail
    go_loopw [14] (fun s14 wr => ∃ (i L : Nat) (A : Option Addr) (c : Nat), i ≤ l5 ∧ s14 = .int .i64 i ∧ L = (asksL p r nl ++ (r.flanks.take i).map flankA).length ∧ AsksOwn wr wX.heap.size (.slice A L c) (asksL p r nl ++ (r.flanks.take i).map flankA) ∧ WyBox wr pw #[.slice D3 l3 f3, .slice D4 l4 f4, .slice A L c, .int .i64 gsec] ∧ wX.grownBy wr (some pw)) (fun s14 _ => l5 - (intOf s14).toNat)
    case atStart => exact ⟨0, L, A, c, by omega, by go_num, by simpa using HL0.out, by simpa using OW.out, XWr.out, GB.out⟩
    case round =>
     clear HLL OW XWr GB SZ BSr BWr XPr LLE HL0 LN8
     obtain ⟨j, L, A, c, hi, rfl, hL, ho, hx, hgb⟩ := hrel
     have HLL := Lib.hid hL
     have LLE : Hid (L ≤ 8 + j) := Lib.hid (by
      rw [hL, List.length_append, List.length_map, List.length_take]
      have h1 : (asksL p r nl).length ≤ nl := Nat.le_trans (List.length_filterMap_le _ _) (by simp)
      omega)
     have OW := Lib.hid ho
     have XWr := Lib.hid hx
     have GB := Lib.hid hgb
     have SZ : Hid (wX.heap.size ≤ wr.heap.size) := Lib.hid hgb.size
     have BSr : Hid (Below wS.heap.size wS wr) := Lib.hid (BX.out.trans (gb_low hgb PW.out.1 BX.out.size))
     clear hL ho hx hgb
     have BWr : Hid (Below w.heap.size w wr) := Lib.hid (BWS.out.trans (BSr.out.mono BWS.out.size))
     have X5r := Lib.hid ((BSr.out.block _ (heap_lt X5S.out)).trans X5S.out)
     have HL5 : Hid (l5 ≤ 3) := Lib.hid (by have := HRI.out.route.flank; have := HL.out; omega)
     obtain ⟨m0, m1, m2, m3, m4, m5, m6⟩ := cell7_of X5r.out
     by_cases hlt : j < l5
     ·have hlt' : (j : Int) < l5 := by omega
      have hjf : j < r.flanks.length := by have := HL.out; omega
      obtain ⟨bf, off, e2, hbf, hd0, hd1⟩ := ((ROS.out.in_).flanks.below joinR BSr.out).at hjf
      cases e2
      obtain ⟨a1, a2, ht⟩ : ∃ a b, r.flanks[j] = (a, b) := ⟨_, _, rfl⟩
      rw [ht] at hd0 hd1
      have hf0 : wr.cell? ⟨bf, off + j * 2, none⟩ = some (.int .i64 a1) := hd0
      have hf1 : wr.cell? ⟨bf, off + j * 2 + 1, none⟩ = some (.int .i64 a2) := hd1
      have HBF : Hid (bf < wX.heap.size) := Lib.hid (Nat.lt_of_lt_of_le hbf BX.out.size)
      have HP5 : Hid (p5 < wX.heap.size) := Lib.hid (Nat.lt_of_lt_of_le (heap_lt X5S.out) BX.out.size)
      have YES : Hid (asksL p r nl ++ (r.flanks.take (j + 1)).map flankA = (asksL p r nl ++ (r.flanks.take j).map flankA) ++ [(a1, a2, (-1 : Int))]) := Lib.hid (by rw [← snoc_take hjf, List.map_append, ht, ← List.append_assoc]; rfl)
      have HX2 : Hid (wr.cell? ⟨pw, 2, none⟩ = some (.slice A L c)) := Lib.hid (cell4_of XWr.out).2.2.1
      obtain ⟨i0, hii, hz0, hzz, hz2⟩ := info_parts infoAskI
      have I0 := Lib.hid hii
      have I1 := Lib.hid hz0
      have I2 := Lib.hid hzz
      have I3 := Lib.hid hz2
      obtain ⟨yss, hown, hyl, hm, hys, hyr⟩ := OW.out
      rw [← HLL.out] at hown
      have O := Lib.hid hown
      have YL := Lib.hid hyl
      have YS := Lib.hid hys
      have YR := Lib.hid hyr
      clear hii hz0 hzz hz2 hown hyl hm hys hyr hd0 hd1 ht hjf hbf
      have hl53 : l5 ≤ 3 := HL5.out
      go_upto_region 18 with fail
      clear m0 m1 m2 m3 m4 m5 m6
      refine wp_region_end (S := fun v' => Below wX.heap.size wr v') 18 (by kernel_rfl) (Below.refl wX.heap.size wr).drew (fun hHeld => ?_)
      refine tke [1, 16, 18] 0 hHeld ?_;refine tkd [16, 18] 1 hHeld (fun w' hSw => (hSw.cell (p := ⟨pw, 2, none⟩) PW.out.2).trans HX2.out) ?_;refine tke [3, 5, 6, 7, 14, 15, 16, 18] 2 hHeld ?_;refine tkd [5, 6, 7, 14, 15, 16, 18] 3 hHeld (fun w' hSw => cell7_of ((hSw.block p5 HP5.out).trans X5r.out)) ?_;refine tke [5, 6, 7, 14, 15, 16, 18] 4 hHeld ?_;refine tke [6, 7, 14, 15, 16, 18] 5 hHeld ?_;refine tke [7, 14, 15, 16, 18] 6 hHeld ?_
      refine wpAnyE_take [14, 15, 16, 18] (i := 7) (v := ?_) rfl (by kernel_rfl) (by kernel_rfl) (by kernel_rfl) (fun _ _ _ h => h) (by kernel_rfl) (by kernel_rfl) (by kernel_rfl) (Or.inl ⟨by rfl, ?_⟩) hHeld ?_
      rotate_left
      ·intro w' hSw; have cf0 := (hSw.cell (p := ⟨bf, off + j * 2, none⟩) HBF.out).trans hf0; have cf1 := (hSw.cell (p := ⟨bf, off + j * 2 + 1, none⟩) HBF.out).trans hf1; go_simp; try with_reducible rfl
      simp only [zn, Act.put]
      refine tke [9, 11, 12, 13, 14, 15, 16, 18] 8 hHeld ?_;refine tkd [11, 12, 13, 14, 15, 16, 18] 9 hHeld (fun w' hSw => cell7_of ((hSw.block p5 HP5.out).trans X5r.out)) ?_;refine tke [11, 12, 13, 14, 15, 16, 18] 10 hHeld ?_;refine tke [12, 13, 14, 15, 16, 18] 11 hHeld ?_;refine tke [13, 14, 15, 16, 18] 12 hHeld ?_
      refine wpAnyE_take [14, 15, 16, 18] (i := 13) (v := ?_) rfl (by kernel_rfl) (by kernel_rfl) (by kernel_rfl) (fun _ _ _ h => h) (by kernel_rfl) (by kernel_rfl) (by kernel_rfl) (Or.inl ⟨by rfl, ?_⟩) hHeld ?_
      rotate_left
      ·intro w' hSw; have cf0 := (hSw.cell (p := ⟨bf, off + j * 2, none⟩) HBF.out).trans hf0; have cf1 := (hSw.cell (p := ⟨bf, off + j * 2 + 1, none⟩) HBF.out).trans hf1; go_simp; try with_reducible rfl
      simp only [zn, Act.put]
      refine tke [15, 16, 18] 14 hHeld ?_
      refine wpAnyE_one (i := 15) (by kernel_rfl) rfl (by kernel_rfl) (fun K hK => ?_)
      go_simp
      refine hK.out _ _ ?_ fun hHeld => ?_;exact ((Below.refl wX.heap.size wr).drew.alloc SZ.out _);clear hK K;try simp only [zn, Act.put]
      refine wpAnyE_one (i := 16) (by kernel_rfl) rfl (by kernel_rfl) (fun K hK => ?_)
      rw [if_pos (by rfl)]
      refine wp_append_list (.tmp 104) (.tmp 118) _ rfl Tryz.underlying54 I0.out I1.out rfl I2.out (by decide) I3.out (by decide) rfl (owns_below O.out ((Below.refl wr.heap.size wr).alloc (Nat.le_refl _) _).drew) rfl (m := 1) (news := [.int .i64 a1, .int .i64 a2, .int .i64 (-1)]) rfl (fun h => by cases h) (fun a ha j u hj => by cases ha; rw [Addr.add_lit, Nat.zero_add]; show (wr.alloc (.cells #[.int .i64 a1, .int .i64 a2, .int .i64 (-1)] 84)).cell? ⟨wr.heap.size, j, none⟩ = _; rw [World.cell?_alloc_new]; simpa using hj) (by simp [Value.oneCell']) (by have := LLE.out; omega) (by have := SZ.out; simp; omega) ?_
      intro v5 w5 hown5 hgrow6
      have hgrow5 : World.grownBy (wr.alloc (.cells #[.int .i64 a1, .int .i64 a2, .int .i64 (-1)] 84)) w5 (Value.ownBlock (.slice A L c)) := ⟨hgrow6.os, hgrow6.tape, hgrow6.output, hgrow6.size, hgrow6.block⟩
      have S5 : Hid (AsksOwn w5 wX.heap.size v5 (asksL p r nl ++ (r.flanks.take (j + 1)).map flankA)) := Lib.hid (by
       rw [YES.out]
       exact ListOwn.snoc (w1 := wr) (x := (a1, a2, (-1 : Int))) (ys := [.int .i64 a1, .int .i64 a2, .int .i64 (-1)]) sigR (fun _ h _ _ => h) (by rw [← HLL.out]; exact O.out) YL.out YS.out rfl (by have := LLE.out; have := HLL.out; unfold maxLen; omega) YR.out (Below.refl _ _) ⟨rfl, rfl, rfl⟩ (by rw [← HLL.out]; exact hown5) hgrow5)
      have B5 : Hid (Below wX.heap.size wr w5) := Lib.hid (((Below.refl wX.heap.size wr).alloc SZ.out _).grown hgrow5 (by have := SZ.out; simp; omega) (own_ge O.out))
      have LN5 : Hid (L + 1 = (asksL p r nl ++ (r.flanks.take (j + 1)).map flankA).length) := Lib.hid (by rw [YES.out, List.length_append (bs := [_]), ← HLL.out]; rfl)
      obtain ⟨A5, c5_, rfl⟩ := own_sliceN hown5
      clear hown5 hgrow5 hgrow6
      refine hK.out _ _ ?_ fun hHeld => ?_;exact B5.out;clear hK K;try simp only [zn, Act.put]
      refine tke [18] 17 hHeld ?_
      have X5' := Lib.hid ((B5.out.block _ PW.out.2).trans XWr.out)
      have X5c := X5'.out
      obtain ⟨y0, y1, y2, y3_⟩ := cell4_of X5c
      have fz := frozen2_of X5c 2
      clear X5c
      refine wpAnyE_last (by kernel_rfl) rfl (by kernel_rfl) (fun K hK => ?_)
      rw [if_pos (by rfl)]
      go_simp
      refine hK.out _ _ ?_
      clear hK K
      have tO : AsksOwn (w5.setCell ⟨pw, 2, none⟩ (.slice A5 (L + 1) c5_)) wX.heap.size (.slice A5 (L + 1) c5_) (asksL p r nl ++ (r.flanks.take (j + 1)).map flankA) := own_kept sigF S5.out (grown_setK w5 pw 2 (.slice A5 (L + 1) c5_)) (fun k hk => by have := own_lo S5.out k hk; have := PW.out; omega)
      have tX : WyBox (w5.setCell ⟨pw, 2, none⟩ (.slice A5 (L + 1) c5_)) pw #[.slice D3 l3 f3, .slice D4 l4 f4, .slice A5 (L + 1) c5_, .int .i64 gsec] := heap_setK (k := 2) X5'.out _
      have tG := (gb_below GB.out B5.out (Nat.le_refl _)).trans (grown_setK w5 pw 2 (.slice A5 (L + 1) c5_))
      generalize w5.setCell ⟨pw, 2, none⟩ (.slice A5 (L + 1) c5_) = wD at tO tX tG ⊢
      clear hf0 hf1 y0 y1 y2 y3_ fz
      go_wp2_with fail
      go_roundw
      case measure => simp [intOf]; omega
      case rel => exact ⟨j + 1, L + 1, A5, c5_, by omega, by go_num, LN5.out, tO, tX, tG⟩
     ·obtain rfl : l5 = j := by omega
      have hlt' : ¬ (l5 : Int) < l5 := by omega
      have X4r := Lib.hid ((BSr.out.block _ (heap_lt ((BQS.out.block _ (heap_lt X4.out)).trans X4.out))).trans ((BQS.out.block _ (heap_lt X4.out)).trans X4.out))
      have X4c := XWr.out
      obtain ⟨y0, y1, y2, y3_⟩ := cell4_of X4c
      clear X4c
      have WO : Hid (WyOwn wr q.heap.size (.slice D3 l3 f3) (.slice D4 l4 f4) (.slice A L c) (wayR p r)) := Lib.hid ⟨ROS.out.path.below intR BSr.out, ROS.out.over.below intR BSr.out, by
       have h1 := OW.out.mono (show q.heap.size ≤ wX.heap.size from Nat.le_trans BQS.out.size BX.out.size)
       rw [List.take_of_length_le (by have := HL.out; omega), HNL.out] at h1
       exact h1⟩
      have HQ4 : Hid (w.heap.size + 1 < q.heap.size) := Lib.hid (heap_lt X4.out)
      have hn := HNEAR.out
      subst hn
      go_wp2_with ((with_reducible show wpList _ _ _ (⟨none, _, _, _, _, _⟩ :: _) _ _); refine wpList_store_rowS rfl _ (.tmp 4) (.tmp 121) rfl (w.heap.size + 1) rfl (c' := #[.slice D3 l3 f3, .slice D4 l4 f4, .slice A L c, .int .i64 (wayR p r).near]) rfl X4r.out infoWay4 rfl (by simp [Value.oneCell']) ?_)
      refine bodyPost_ret (results_cell_row rfl _ _ (w.heap.size + 1) 56 #[.slice D3 l3 f3, .slice D4 l4 f4, .slice A L c, .int .i64 (wayR p r).near] (0, 0) _ rfl (setRow_heap _ _ _ _ _ _ X4r.out) Tryz.underlying56 rfl infoWay4) rfl ⟨_, _, _, rfl, ?_, below_setRow BWr.out (Nat.le_succ _) _⟩
      exact (WO.out.kept (grownBy_setRow wr (w.heap.size + 1) _) HQ4.out).mono BQ.out.size

theorem wyOwn_zero (W : World) (lo : Nat) : WyOwn W lo (.slice none 0 0) (.slice none 0 0) (.slice none 0 0) zWy := ⟨ListOwn.nil_, ListOwn.nil_, ListOwn.nil_⟩

set_option maxHeartbeats 8000000 in
theorem rof_any (v : Value) (p : Pl) (id : Int) (w : World) (h : PlanV w w.heap.size v p) :
  Calls Tryz.prog 19 #[v, .int .i64 id] w fun e w' => ∃ u0 u1 u2, e = .returned (.tuple #[.agg #[u0, u1, u2, .int .i64 (wayV p id).near], .int .i64 (wayE p id)]) ∧ WyOwn w' w.heap.size u0 u1 u2 (wayV p id) ∧ Below w.heap.size w w' := by
 obtain ⟨A2, c2, A3, c3, A4, c4, A5, c5, n2, n3, n4, n5, rfl, hm2, hm3, hm4, hm5, HCP, HIN, HN⟩ := open_plan h
 have hq := two_boxes w (.cells #[.int .i64 p.ver, .int .i64 p.par, .slice A2 n2 c2, .slice A3 n3 c3, .slice A4 n4 c4, .slice A5 n5 c5] 27) (.cells #[.slice none 0 0, .slice none 0 0, .slice none 0 0, .int .i64 0] 56)
 go_enter Tryz.func19, Tryz.ntmps19
 go_upto_region 1 with fail
 generalize (w.alloc (.cells #[.int .i64 p.ver, .int .i64 p.par, .slice A2 n2 c2, .slice A3 n3 c3, .slice A4 n4 c4, .slice A5 n5 c5] 27)).alloc (.cells #[.slice none 0 0, .slice none 0 0, .slice none 0 0, .int .i64 0] 56) = q at hq ⊢
 obtain ⟨q0, q1, qb⟩ := hq
 have XP := Lib.hid q0
 have X4 := Lib.hid q1
 have BQ := Lib.hid qb
 clear q0 q1 qb
 obtain ⟨k0, k1, k2, k3, k4, k5⟩ := cell6_of XP.out
 go_wp2_with fail
 refine (rasked_any _ p id q ⟨_, _, _, _, rfl, (HIN.out.below BQ.out).more BQ.out.size⟩).mono ?_
 rintro e w1 ⟨rfl, b1⟩
 have X1 := Lib.hid ((b1.block _ (heap_lt XP.out)).trans XP.out)
 have X41 := Lib.hid ((b1.block _ (heap_lt X4.out)).trans X4.out)
 have B1 := Lib.hid (BQ.out.trans (b1.mono BQ.out.size))
 clear b1 k0 k1 k2 k3 k4 k5
 obtain ⟨E, hE⟩ : ∃ E, E = wayE p id := ⟨_, rfl⟩
 obtain ⟨K, hK⟩ : ∃ K, K = askK p id := ⟨_, rfl⟩
 rw [← hE, ← hK]
 by_cases h0 : E = 0
 rotate_left
 ·have d0 : (E != 0) = true := by simpa using h0
  have HEE := Lib.hid hE.symm
  have HV : Hid (wayV p id = zWy) := Lib.hid (by rw [wayV, if_neg (by rw [← hE]; exact h0)])
  clear h0 hE hK
  go_wp2_with ((with_reducible show wpList _ _ _ (⟨none, _, _, _, _, _⟩ :: _) _ _); refine wpList_store_rowS rfl _ (.tmp 4) (.tmp 16) rfl (w.heap.size + 1) rfl (c' := #[.slice none 0 0, .slice none 0 0, .slice none 0 0, .int .i64 0]) rfl X41.out infoWay4 rfl (by simp [Value.oneCell']) ?_)
  refine bodyPost_ret (results_rowS_tmp (c := #[.slice none 0 0, .slice none 0 0, .slice none 0 0, .int .i64 0]) rfl _ _ (w.heap.size + 1) rfl (setRow_heap _ _ _ _ _ _ X41.out) Tryz.underlying56 infoWay4 (.int .i64 E) rfl) rfl ⟨_, _, _, by rw [HV.out, HEE.out]; rfl, by rw [HV.out]; exact wyOwn_zero _ _, below_setRow B1.out (Nat.le_succ _) _⟩
 subst h0
 obtain ⟨hm, ha, hg⟩ := wayE_zero hE.symm
 rw [askK_zero hE.symm] at hK
 obtain ⟨kr, hkr, hatr⟩ : ∃ k : Nat, k < p.routes.length ∧ at1 kRt p.routes id = (k : Int) := by
  rcases at1_cases kRt p.routes id with h | ⟨k, hk, h, -⟩
  ·omega
  ·exact ⟨k, hk, h⟩
 obtain rfl : K = (kr : Int) := hK.trans hatr
 obtain ⟨r, hr⟩ : ∃ r, p.routes[kr] = r := ⟨_, rfl⟩
 have HRN : Hid (routeN p id = r) := Lib.hid (by rw [routeN_at hkr hatr, hr])
 have HV : Hid (wayV p id = wayR p r) := Lib.hid (by rw [wayV, if_pos hE.symm, HRN.out])
 have HEE := Lib.hid hE.symm
 have HM : Hid (∃ _ : kr < p.routes.length, p.routes[kr] = r ∧ PlanMay p ∧ hangsB p r = true) := Lib.hid ⟨hkr, hr, planMay_iff.1 hm, by rw [← HRN.out]; exact hg⟩
 have HI := Lib.hid ((HIN.out.below B1.out).more B1.out.size)
 clear hm ha hg hE hK hatr hkr hr
 obtain ⟨k0, k1, k2, k3, k4, k5⟩ := cell6_of X1.out
 go_wp2_with fail
 refine (rmade_any _ p r kr HM.out.1 HM.out.2.1 w1 ⟨_, _, _, _, rfl, HI.out⟩ HM.out.2.2.1 HM.out.2.2.2).mono ?_
 rintro e w2 ⟨u0, u1, u2, rfl, hu, b2⟩
 obtain ⟨Z0, e0, rfl⟩ := hu.path.slice
 obtain ⟨Z1, e1, rfl⟩ := hu.over.slice
 obtain ⟨Z2, e2, rfl⟩ := hu.asks.slice
 obtain ⟨z0, hz0⟩ : ∃ n, n = (wayR p r).path.length := ⟨_, rfl⟩
 obtain ⟨z1, hz1⟩ : ∃ n, n = (wayR p r).over.length := ⟨_, rfl⟩
 obtain ⟨z2, hz2⟩ : ∃ n, n = (wayR p r).asks.length := ⟨_, rfl⟩
 have WO : Hid (WyOwn w2 w1.heap.size (.slice Z0 z0 e0) (.slice Z1 z1 e1) (.slice Z2 z2 e2) (wayR p r)) := Lib.hid (by rw [hz0, hz1, hz2]; exact hu)
 rw [← hz0, ← hz1, ← hz2]
 have X42 := Lib.hid ((b2.block _ (heap_lt X41.out)).trans X41.out)
 have B2 := Lib.hid (B1.out.trans (b2.mono B1.out.size))
 have LT := Lib.hid (heap_lt X41.out)
 clear hz0 hz1 hz2 hu b2 k0 k1 k2 k3 k4 k5
 go_wp2_with ((with_reducible show wpList _ _ _ (⟨none, _, _, _, _, _⟩ :: _) _ _); refine wpList_store_rowS rfl _ (.tmp 4) (.tmp 20) rfl (w.heap.size + 1) rfl (c' := #[.slice Z0 z0 e0, .slice Z1 z1 e1, .slice Z2 z2 e2, .int .i64 (wayR p r).near]) rfl X42.out infoWay4 rfl (by simp [Value.oneCell']) ?_)
 refine bodyPost_ret (results_rowS_tmp (c := #[.slice Z0 z0 e0, .slice Z1 z1 e1, .slice Z2 z2 e2, .int .i64 (wayR p r).near]) rfl _ _ (w.heap.size + 1) rfl (setRow_heap _ _ _ _ _ _ X42.out) Tryz.underlying56 infoWay4 (.int .i64 0) rfl) rfl ⟨_, _, _, by rw [HV.out, HEE.out], ?_, below_setRow B2.out (Nat.le_succ _) _⟩
 rw [HV.out]
 exact (WO.out.kept (grownBy_setRow w2 (w.heap.size + 1) _) LT.out).mono B1.out.size

end Go.Proofs.YtebffdfimmbbdaaGreat
