/-
 The stage's theorem: who uses what changes is in the area with all that it uses; who is not in it is the same in both plans: the walk, given the program's answers.
 Conditions: none.
-/
import Derived.Test.YtneeocnjfnneoaaGreatVAreClA
import Derived.Test.YtneeocnjfnneoaaGreatVGAreOne
import Derived.Test.YtneeocnjfnneoaaGreatVGPlnRefD
set_option linter.unusedVariables false
set_option linter.unusedSimpArgs false
set_option maxRecDepth 100000
namespace Go.Proofs.YtneeocnjfnneoaaGreat
open Go.RowKit

theorem planV_inC {W : World} {B : Nat} {p : Pl} {v2 v3 v4 v5 : Value} (h : PlanV W B (.agg #[.int .i64 p.ver, .int .i64 p.par, v2, v3, v4, v5]) p) : PlIn W B v2 v3 v4 v5 p := by
 obtain ⟨u2, u3, u4, u5, e, hin⟩ := h
 cases e
 exact hin
set_option maxHeartbeats 16000000 in
theorem walk_area_closes (hc : AreaSaid) (hp : PlanSaid) (hd : DifSaid) (v y : Value) (a b : Pl) (w : World) (h : PlanV w w.heap.size v a) (h' : PlanV w w.heap.size y b) :
  Calls Tryz.prog 6 #[v, y] w fun e w' => e = .returned (.bool true) ∧ Below w.heap.size w w' := by
 obtain ⟨u2, u3, u4, u5, rfl, hin⟩ := h
 obtain ⟨z2, z3, z4, z5, rfl, hin'⟩ := h'
 have hR9 := hin.routes.slice
 have hR9' := hin'.routes.slice
 obtain ⟨A2, c2, rfl, -, -⟩ := hin.secs.slice
 obtain ⟨n2, hn2⟩ : ∃ z_, z_ = a.secs.length := ⟨_, rfl⟩
 obtain ⟨A3, c3, rfl, -, -⟩ := hin.pts.slice
 obtain ⟨n3, hn3⟩ : ∃ z_, z_ = a.pts.length := ⟨_, rfl⟩
 obtain ⟨A4, c4, rfl, -, -⟩ := hin.sigs.slice
 obtain ⟨n4, hn4⟩ : ∃ z_, z_ = a.sigs.length := ⟨_, rfl⟩
 obtain ⟨AR, cR, rfl, -, -⟩ := hin.routes.slice
 obtain ⟨nR, hnR⟩ : ∃ z_, z_ = a.routes.length := ⟨_, rfl⟩
 rw [← hn2] at hin
 rw [← hn2]
 rw [← hn3] at hin
 rw [← hn3]
 rw [← hn4] at hin
 rw [← hn4]
 rw [← hnR] at hin
 rw [← hnR]
 obtain ⟨B2, e2, rfl, -, -⟩ := hin'.secs.slice
 obtain ⟨m2, hm2⟩ : ∃ z_, z_ = b.secs.length := ⟨_, rfl⟩
 obtain ⟨B3, e3, rfl, -, -⟩ := hin'.pts.slice
 obtain ⟨m3, hm3⟩ : ∃ z_, z_ = b.pts.length := ⟨_, rfl⟩
 obtain ⟨B4, e4, rfl, -, -⟩ := hin'.sigs.slice
 obtain ⟨m4, hm4⟩ : ∃ z_, z_ = b.sigs.length := ⟨_, rfl⟩
 obtain ⟨BR, eR, rfl, -, -⟩ := hin'.routes.slice
 obtain ⟨mR, hmR⟩ : ∃ z_, z_ = b.routes.length := ⟨_, rfl⟩
 rw [← hm2] at hin'
 rw [← hm2]
 rw [← hm3] at hin'
 rw [← hm3]
 rw [← hm4] at hin'
 rw [← hm4]
 rw [← hmR] at hin'
 rw [← hmR]
 have Na : Hid (nR = a.routes.length ∧ nR ≤ 9223372036854775807) := Lib.hid ⟨hnR, by obtain ⟨A, c, -, h1, h2⟩ := hR9; unfold maxLen at h2; omega⟩
 have Nb : Hid (mR = b.routes.length ∧ mR ≤ 9223372036854775807) := Lib.hid ⟨hmR, by obtain ⟨A, c, -, h1, h2⟩ := hR9'; unfold maxLen at h2; omega⟩
 clear hn2 hn3 hn4 hnR hm2 hm3 hm4 hmR hR9 hR9'
 obtain ⟨h0, h1, hqb⟩ := two_boxes w (.cells #[.int .i64 a.ver, .int .i64 a.par, .slice A2 n2 c2, .slice A3 n3 c3, .slice A4 n4 c4, .slice AR nR cR] 33) (.cells #[.int .i64 b.ver, .int .i64 b.par, .slice B2 m2 e2, .slice B3 m3 e3, .slice B4 m4 e4, .slice BR mR eR] 33)
 go_enter Tryz.func6, Tryz.ntmps6
 go_upto_region 1 with fail
 generalize (w.alloc (.cells #[.int .i64 a.ver, .int .i64 a.par, .slice A2 n2 c2, .slice A3 n3 c3, .slice A4 n4 c4, .slice AR nR cR] 33)).alloc (.cells #[.int .i64 b.ver, .int .i64 b.par, .slice B2 m2 e2, .slice B3 m3 e3, .slice B4 m4 e4, .slice BR mR eR] 33) = q at h0 h1 hqb ⊢
 have X0 := Lib.hid h0
 have X1 := Lib.hid h1
 have BQ := Lib.hid hqb
 have VA : Hid (PlanV q q.heap.size (.agg #[.int .i64 a.ver, .int .i64 a.par, .slice A2 n2 c2, .slice A3 n3 c3, .slice A4 n4 c4, .slice AR nR cR]) a) := Lib.hid ⟨_, _, _, _, rfl, (hin.below hqb).more hqb.size⟩
 have VB : Hid (PlanV q q.heap.size (.agg #[.int .i64 b.ver, .int .i64 b.par, .slice B2 m2 e2, .slice B3 m3 e3, .slice B4 m4 e4, .slice BR mR eR]) b) := Lib.hid ⟨_, _, _, _, rfl, (hin'.below hqb).more hqb.size⟩
 clear h0 h1 hqb hin hin'
 go_wp2_with fail
 refine (alive14 hc _).mono ?_
 rintro e wa ⟨rfl, bN⟩
 replace X0 := Lib.hid ((bN.block _ (heap_lt X0.out)).trans X0.out)
 replace X1 := Lib.hid ((bN.block _ (heap_lt X1.out)).trans X1.out)
 replace BQ := Lib.hid (BQ.out.trans (bN.mono BQ.out.size))
 replace VA := Lib.hid ((VA.out.below bN).more bN.size)
 replace VB := Lib.hid ((VB.out.below bN).more bN.size)
 clear bN
 obtain ⟨k0, k1, k2, k3, k4, k5⟩ := cell6_of X0.out
 go_wp2_with fail
 refine (rgreat8_any _ a wa VA.out).mono ?_
 rintro e w1 ⟨⟨g, rfl, hg⟩, bN⟩
 clear k0 k1 k2 k3 k4 k5
 replace X0 := Lib.hid ((bN.block _ (heap_lt X0.out)).trans X0.out)
 replace X1 := Lib.hid ((bN.block _ (heap_lt X1.out)).trans X1.out)
 replace BQ := Lib.hid (BQ.out.trans (bN.mono BQ.out.size))
 replace VA := Lib.hid ((VA.out.below bN).more bN.size)
 replace VB := Lib.hid ((VB.out.below bN).more bN.size)
 clear bN
 clear hg
 cases g with
 | true =>
  go_wp2_with fail
  go_ret
  exact ⟨rfl, BQ.out⟩
 | false =>
 obtain ⟨k0, k1, k2, k3, k4, k5⟩ := cell6_of X1.out
 go_wp2_with fail
 refine (rgreat8_any _ b w1 VB.out).mono ?_
 rintro e w2 ⟨⟨g, rfl, hg⟩, bN⟩
 clear k0 k1 k2 k3 k4 k5
 replace X0 := Lib.hid ((bN.block _ (heap_lt X0.out)).trans X0.out)
 replace X1 := Lib.hid ((bN.block _ (heap_lt X1.out)).trans X1.out)
 replace BQ := Lib.hid (BQ.out.trans (bN.mono BQ.out.size))
 replace VA := Lib.hid ((VA.out.below bN).more bN.size)
 replace VB := Lib.hid ((VB.out.below bN).more bN.size)
 clear bN
 clear hg
 cases g with
 | true =>
  go_wp2_with fail
  go_ret
  exact ⟨rfl, BQ.out⟩
 | false =>
 obtain ⟨E, hE⟩ : ∃ x, x = arE a b := ⟨_, rfl⟩
 obtain ⟨lx, hlx⟩ : ∃ x, x = arV a b := ⟨_, rfl⟩
 obtain ⟨G, hG⟩ : ∃ x, x = difE a b := ⟨_, rfl⟩
 have HE : Hid (E = arE a b ∧ lx = arV a b ∧ G = difE a b) := Lib.hid ⟨hE, hlx, hG⟩
 clear hE hlx hG
 obtain ⟨k0, k1, k2, k3, k4, k5⟩ := cell6_of X0.out
 obtain ⟨m0_, m1_, m2_, m3_, m4_, m5_⟩ := cell6_of X1.out
 go_wp2_with fail
 refine (hc.of _ _ a b w2 VA.out VB.out).mono ?_
 rintro e x3 ⟨u0, u1, u2, u3, rfl, hu, bN⟩
 rw [← HE.out.2.1] at hu
 rw [← HE.out.1]
 obtain ⟨U60, n60, c60, rfl⟩ := in_slC hu.secs
 obtain ⟨U61, n61, c61, rfl⟩ := in_slC hu.pts
 obtain ⟨U62, n62, c62, rfl⟩ := in_slC hu.sigs
 obtain ⟨U63, n63, c63, rfl⟩ := in_slC hu.routes
 clear k0 k1 k2 k3 k4 k5 m0_ m1_ m2_ m3_ m4_ m5_
 replace X0 := Lib.hid ((bN.block _ (heap_lt X0.out)).trans X0.out)
 replace X1 := Lib.hid ((bN.block _ (heap_lt X1.out)).trans X1.out)
 replace BQ := Lib.hid (BQ.out.trans (bN.mono BQ.out.size))
 replace VA := Lib.hid ((VA.out.below bN).more bN.size)
 replace VB := Lib.hid ((VB.out.below bN).more bN.size)
 clear bN
 have A6 := Lib.hid hu
 clear hu
 go_upto_region 5 with ((with_reducible show wpList _ _ _ (⟨none, _, _, _, _, _⟩ :: _) _ _); refine wpList_store_rowS rfl _ (.tmp 6) (.tmp 35) rfl x3.heap.size rfl (c' := #[.slice U60 n60 c60, .slice U61 n61 c61, .slice U62 n62 c62, .slice U63 n63 c63]) rfl (heap_alloc_self x3 (.cells #[.slice none 0 0, .slice none 0 0, .slice none 0 0, .slice none 0 0] 24)) infoArea4 rfl (by simp [Value.oneCell']) ?_)
 rw [World.setRow_alloc_new]
 have hx1 := heap_alloc_self x3 (.cells #[.slice U60 n60 c60, .slice U61 n61 c61, .slice U62 n62 c62, .slice U63 n63 c63] 24)
 have hb1 := below_new x3 (.cells #[.slice U60 n60 c60, .slice U61 n61 c61, .slice U62 n62 c62, .slice U63 n63 c63] 24)
 generalize x3.alloc (.cells #[.slice U60 n60 c60, .slice U61 n61 c61, .slice U62 n62 c62, .slice U63 n63 c63] 24) = w3 at hb1 hx1 ⊢
 obtain ⟨p6, hp1⟩ : ∃ n, n = x3.heap.size := ⟨_, rfl⟩
 rw [← hp1] at hx1 ⊢
 have X6 := Lib.hid hx1
 clear hx1 hp1
 replace X0 := Lib.hid ((hb1.block _ (heap_lt X0.out)).trans X0.out)
 replace X1 := Lib.hid ((hb1.block _ (heap_lt X1.out)).trans X1.out)
 replace BQ := Lib.hid (BQ.out.trans (hb1.mono BQ.out.size))
 replace VA := Lib.hid ((VA.out.below hb1).more hb1.size)
 replace VB := Lib.hid ((VB.out.below hb1).more hb1.size)
 replace A6 := Lib.hid ((A6.out.below hb1).more hb1.size)
 clear hb1
 obtain ⟨k0, k1, k2, k3, k4, k5⟩ := cell6_of X0.out
 obtain ⟨m0_, m1_, m2_, m3_, m4_, m5_⟩ := cell6_of X1.out
 go_wp2_with fail
 refine (hd.of _ _ a b w3 VA.out VB.out).mono ?_
 rintro e w4 ⟨ud, rfl, hdo, bN⟩
 rw [← HE.out.2.2]
 have hdi := hdo.in_ diffR_cells
 clear hdo k0 k1 k2 k3 k4 k5 m0_ m1_ m2_ m3_ m4_ m5_
 replace X0 := Lib.hid ((bN.block _ (heap_lt X0.out)).trans X0.out)
 replace X1 := Lib.hid ((bN.block _ (heap_lt X1.out)).trans X1.out)
 replace X6 := Lib.hid ((bN.block _ (heap_lt X6.out)).trans X6.out)
 replace BQ := Lib.hid (BQ.out.trans (bN.mono BQ.out.size))
 replace VA := Lib.hid ((VA.out.below bN).more bN.size)
 replace VB := Lib.hid ((VB.out.below bN).more bN.size)
 replace A6 := Lib.hid ((A6.out.below bN).more bN.size)
 clear bN
 by_cases hm : PlanMay a ∧ PlanMay b
 rotate_left
 ·have hE8 : E = 8 ∧ G = 8 := by
   refine ⟨?_, ?_⟩
   ·rcases ar_cases a b with ⟨g1, g2, -, -⟩ | ⟨-, g2, -⟩
    ·exact absurd ⟨g1, g2⟩ hm
    ·rw [HE.out.1, g2]
   ·rcases dif_cases a b with ⟨g1, g2, -, -⟩ | ⟨-, g2, -⟩
    ·exact absurd ⟨g1, g2⟩ hm
    ·rw [HE.out.2.2, g2]
  obtain ⟨rfl, rfl⟩ := hE8
  clear hm hdi
  go_wp2_with fail
  go_ret
  exact ⟨by first | rfl | simp, BQ.out⟩
 have HA := Lib.hid hm.1
 have HB_ := Lib.hid hm.2
 have hE0 : E = 0 ∧ G = 0 ∧ difV a b = diffL a b ∧ lx = arOf (areaB a b) := by
  rcases ar_cases a b with ⟨-, -, g1, g2⟩ | ⟨g, -⟩
  ·rcases dif_cases a b with ⟨-, -, g3, g4⟩ | ⟨g, -⟩
   ·exact ⟨by rw [HE.out.1, g1], by rw [HE.out.2.2, g3], g4, by rw [HE.out.2.1, g2]⟩
   ·exact absurd hm g
  ·exact absurd hm g
 obtain ⟨hE1, hE2, hE3, hE4⟩ := hE0
 subst hE1 hE2
 rw [hE3] at hdi
 have HLX := Lib.hid hE4
 have HCH : Hid (∀ x ∈ diffL a b, x.2.2 ≠ 0 → hasA lx x.1 x.2.1 = true) := Lib.hid (fun x hx h0 => by rw [hE4]; exact ch_has HA.out HB_.out hx h0)
 have HDK : Hid (∀ d ∈ diffL a b, 0 ≤ d.1 ∧ d.1 < 256) := Lib.hid (fun d hd => by
  obtain ⟨g1, g2, -⟩ := diffN_mem.1 hd
  have g2' : d.1 ≤ 4 := by exact_mod_cast g2
  omega)
 clear hm hE3 hE4 HE
 obtain ⟨Ad, cd, rfl, hcl, hcm⟩ := hdi.slice
 obtain ⟨nd, hnd⟩ : ∃ n, n = (diffL a b).length := ⟨_, rfl⟩
 have LD : Hid (ListIn 3 DiffR w4 w4.heap.size (.slice Ad nd cd) (diffL a b)) := Lib.hid (by rw [hnd]; exact hdi)
 have hn9 : nd ≤ 9223372036854775807 := by unfold maxLen at hcm; omega
 have HND := Lib.hid hnd
 rw [← hnd]
 clear hnd hdi hcl hcm
 go_upto_region 9 with fail
 go_loopw [10] (fun s10 wr => ∃ i : Nat, s10 = .int .i64 i ∧ i ≤ nd ∧ Below w4.heap.size w4 wr) (fun s10 _ => nd - (intOf s10).toNat)
 case atStart => exact ⟨0, by go_num, by omega, Below.refl _ _⟩
 case round =>
  obtain ⟨wx, hwx⟩ : ∃ z, z = wr := ⟨_, rfl⟩
  subst hwx
  obtain ⟨i, rfl, hi, hb⟩ := hrel
  have BW := Lib.hid hb
  clear hb
  by_cases hlt : i < nd
  ·have hlt' : (i : Int) < nd := by omega
   have hir : i < (diffL a b).length := by rw [← HND.out]; exact hlt
   obtain ⟨bd, od, rfl, hbd, hc0, hc1, hc2⟩ := LD.out.at hir
   obtain ⟨dk, hdk⟩ : ∃ z, z = (diffL a b)[i].1 := ⟨_, rfl⟩
   obtain ⟨di, hdi⟩ : ∃ z, z = (diffL a b)[i].2.1 := ⟨_, rfl⟩
   obtain ⟨ds, hds⟩ : ∃ z, z = (diffL a b)[i].2.2 := ⟨_, rfl⟩
   have HK : Hid (0 ≤ dk ∧ dk < 256) := Lib.hid (by rw [hdk]; exact HDK.out _ (List.getElem_mem hir))
   have HBD := Lib.hid hbd
   have G0 : Hid (w4.cell? ⟨bd, od + i * 3, none⟩ = some (.int .u8 dk)) := Lib.hid (by rw [hdk]; simpa using hc0)
   have G1 : Hid (w4.cell? ⟨bd, od + i * 3 + 1, none⟩ = some (.int .i64 di)) := Lib.hid (by rw [hdi]; simpa using hc1)
   have G2 : Hid (w4.cell? ⟨bd, od + i * 3 + 2, none⟩ = some (.int .u8 ds)) := Lib.hid (by rw [hds]; simpa using hc2)
   have HVV : Hid (ds ≠ 0 → hasA lx dk di = true) := Lib.hid (by rw [hdk, hdi, hds]; exact HCH.out _ (List.getElem_mem hir))
   clear hbd hc0 hc1 hc2 hdk hdi hds hir
   go_upto_region 11 with fail
   by_cases hz : ds ≠ 0
   ·have d0 : (ds != 0) = true := by simpa using hz
    have HV := Lib.hid (HVV.out hz)
    clear hz
    refine wp_region_held_drew (S := fun v => Below wx.heap.size wx v) (by kernel_rfl) (Below.refl wx.heap.size wx).drew (fun hHeld => ?_)
    refine tk 0 hHeld ?_;refine tk 1 hHeld ?_;refine tk 2 hHeld ?_;refine tk 3 hHeld ?_;refine tkc 4 hHeld (fun w' hSw => ((BW.out.trans (hSw.mono BW.out.size)).cell (p := ⟨bd, od + i * 3 + 2, none⟩) HBD.out).trans G2.out) ?_;refine tk 5 hHeld ?_;refine tk 6 hHeld ?_;refine tkc 7 hHeld (fun w' hSw => cell4A (((BW.out.trans (hSw.mono BW.out.size)).block _ (heap_lt X6.out)).trans X6.out)) ?_;refine tk 8 hHeld ?_;refine tk 9 hHeld ?_;refine tk 10 hHeld ?_;refine tk 11 hHeld ?_;refine tkc 12 hHeld (fun w' hSw => ((BW.out.trans (hSw.mono BW.out.size)).cell (p := ⟨bd, od + i * 3, none⟩) HBD.out).trans G0.out) ?_;refine tk 13 hHeld ?_;refine tk 14 hHeld ?_;refine tk 15 hHeld ?_;refine tk 16 hHeld ?_;refine tkc 17 hHeld (fun w' hSw => ((BW.out.trans (hSw.mono BW.out.size)).cell (p := ⟨bd, od + i * 3 + 1, none⟩) HBD.out).trans G1.out) ?_
    have tb := (Below.refl wx.heap.size wx).drew
    generalize wx.drew = q0 at tb hHeld ⊢
    have HB := Lib.hid tb
    clear tb
    refine tkr 18 (fun K hK => ?_)
    rw [if_pos (by rfl)]
    go_simp
    refine (hc.has _ lx dk di q0 ⟨_, _, _, _, rfl, (A6.out.below (BW.out.trans (HB.out.mono BW.out.size))).more (BW.out.trans (HB.out.mono BW.out.size)).size⟩ HK.out.1 HK.out.2).mono ?_
    rintro e qv ⟨rfl, b⟩
    rw [HV.out]
    have HB' := Lib.hid (HB.out.trans (b.mono HB.out.size))
    clear b HB
    try go_wp2_with fail
    refine hK.out _ _ ?_ fun hHeld => ?_;exact HB'.out;clear hK K;try simp only [zn, Act.put]
    refine tk 19 hHeld ?_;refine tk 20 hHeld ?_
    refine wpAnyH_done (by kernel_rfl) ?_ _
    have BE := Lib.hid (BW.out.trans (HB'.out.mono BW.out.size))
    go_wp2_with fail
    go_roundw
    case measure => simp [intOf]; omega
    case rel => exact ⟨i + 1, by go_num, by omega, BE.out⟩
   ·have d0 : (ds != 0) = false := by simpa using hz
    clear hz
    refine wp_region_held_drew (S := fun v => Below wx.heap.size wx v) (by kernel_rfl) (Below.refl wx.heap.size wx).drew (fun hHeld => ?_)
    refine tk 0 hHeld ?_;refine tk 1 hHeld ?_;refine tk 2 hHeld ?_;refine tk 3 hHeld ?_;refine tkc 4 hHeld (fun w' hSw => ((BW.out.trans (hSw.mono BW.out.size)).cell (p := ⟨bd, od + i * 3 + 2, none⟩) HBD.out).trans G2.out) ?_;refine tk 5 hHeld ?_;refine tk 6 hHeld ?_;refine tks 7 hHeld ?_;refine tks 8 hHeld ?_;refine tks 9 hHeld ?_;refine tks 10 hHeld ?_;refine tks 11 hHeld ?_;refine tks 12 hHeld ?_;refine tks 13 hHeld ?_;refine tks 14 hHeld ?_;refine tks 15 hHeld ?_;refine tks 16 hHeld ?_;refine tks 17 hHeld ?_;refine tks 18 hHeld ?_;refine tks 19 hHeld ?_;refine tk 20 hHeld ?_
    have tb := (Below.refl wx.heap.size wx).drew
    generalize wx.drew = q0 at tb hHeld ⊢
    have HB := Lib.hid tb
    clear tb
    refine wpAnyH_done (by kernel_rfl) ?_ _
    have BE := Lib.hid (BW.out.trans (HB.out.mono BW.out.size))
    go_wp2_with fail
    go_roundw
    case measure => simp [intOf]; omega
    case rel => exact ⟨i + 1, by go_num, by omega, BE.out⟩
  ·obtain rfl : nd = i := by omega
   have hlt' : ¬ (nd : Int) < nd := by omega
   go_upto_region 14 with fail
   clear hlt hlt' hi hn9
   go_loopw [11] (fun s11 wr => ∃ n : Nat, s11 = .int .i64 n ∧ n ≤ 2 ∧ Below w4.heap.size w4 wr) (fun s11 _ => 2 - (intOf s11).toNat)
   case atStart => exact ⟨0, by go_num, by omega, BW.out⟩
   case round =>
    clear BW
    obtain ⟨wx, hwx⟩ : ∃ z, z = wr := ⟨_, rfl⟩
    subst hwx
    obtain ⟨n, rfl, hn, hb⟩ := hrel
    have BW := Lib.hid hb
    clear hb
    obtain hi0 | hi1 | hi2 : n = 0 ∨ n = 1 ∨ n = 2 := by omega
    ·subst hi0
     clear hn
     have Y0 := Lib.hid ((BW.out.block _ (heap_lt X0.out)).trans X0.out)
     have Y1 := Lib.hid ((BW.out.block _ (heap_lt X1.out)).trans X1.out)
     obtain ⟨k0, k1, k2, k3, k4, k5⟩ := cell6_of Y0.out
     go_upto_region 17 with ((with_reducible show wpList _ _ _ (⟨none, .store _ _ _, _, _, _, _⟩ :: _) _ _); refine wpList_store_rowS rfl _ (.tmp 12) (.tmp 79) rfl wx.heap.size rfl (c' := #[.int .i64 a.ver, .int .i64 a.par, .slice A2 n2 c2, .slice A3 n3 c3, .slice A4 n4 c4, .slice AR nR cR]) rfl (heap_alloc_self wx (.cells #[.int .i64 0, .int .i64 0, .slice none 0 0, .slice none 0 0, .slice none 0 0, .slice none 0 0] 33)) infoPlan6 rfl (by simp [Value.oneCell']) ?_)
     rw [World.setRow_alloc_new]
     have b5 := below_new wx (.cells #[.int .i64 a.ver, .int .i64 a.par, .slice A2 n2 c2, .slice A3 n3 c3, .slice A4 n4 c4, .slice AR nR cR] 33)
     have x12 := heap_alloc_self wx (.cells #[.int .i64 a.ver, .int .i64 a.par, .slice A2 n2 c2, .slice A3 n3 c3, .slice A4 n4 c4, .slice AR nR cR] 33)
     have Z0 := Lib.hid ((b5.block _ (heap_lt Y0.out)).trans Y0.out)
     have Z1 := Lib.hid ((b5.block _ (heap_lt Y1.out)).trans Y1.out)
     have BW5 := Lib.hid (BW.out.trans (b5.mono BW.out.size))
     generalize wx.alloc (.cells #[.int .i64 a.ver, .int .i64 a.par, .slice A2 n2 c2, .slice A3 n3 c3, .slice A4 n4 c4, .slice AR nR cR] 33) = w5 at b5 x12 Z0 Z1 BW5 ⊢
     obtain ⟨p12, hp12⟩ : ∃ n, n = wx.heap.size := ⟨_, rfl⟩
     rw [← hp12] at x12 ⊢
     have L12 : Hid (w4.heap.size ≤ p12) := Lib.hid (by rw [hp12]; exact BW.out.size)
     clear hp12 b5 Y0 Y1 k0 k1 k2 k3 k4 k5
     obtain ⟨k0, k1, k2, k3, k4, k5⟩ := cell6_of Z1.out
     go_upto_region 18 with ((with_reducible show wpList _ _ _ (⟨none, .store _ _ _, _, _, _, _⟩ :: _) _ _); refine wpList_store_rowS rfl _ (.tmp 13) (.tmp 80) rfl w5.heap.size rfl (c' := #[.int .i64 b.ver, .int .i64 b.par, .slice B2 m2 e2, .slice B3 m3 e3, .slice B4 m4 e4, .slice BR mR eR]) rfl (heap_alloc_self w5 (.cells #[.int .i64 0, .int .i64 0, .slice none 0 0, .slice none 0 0, .slice none 0 0, .slice none 0 0] 33)) infoPlan6 rfl (by simp [Value.oneCell']) ?_)
     rw [World.setRow_alloc_new]
     have b6 := below_new w5 (.cells #[.int .i64 b.ver, .int .i64 b.par, .slice B2 m2 e2, .slice B3 m3 e3, .slice B4 m4 e4, .slice BR mR eR] 33)
     have x13 := heap_alloc_self w5 (.cells #[.int .i64 b.ver, .int .i64 b.par, .slice B2 m2 e2, .slice B3 m3 e3, .slice B4 m4 e4, .slice BR mR eR] 33)
     have x12' := (b6.block _ (heap_lt x12)).trans x12
     have Y0 := Lib.hid ((b6.block _ (heap_lt Z0.out)).trans Z0.out)
     have Y1 := Lib.hid ((b6.block _ (heap_lt Z1.out)).trans Z1.out)
     have BW6 := Lib.hid (BW5.out.trans (b6.mono BW5.out.size))
     generalize w5.alloc (.cells #[.int .i64 b.ver, .int .i64 b.par, .slice B2 m2 e2, .slice B3 m3 e3, .slice B4 m4 e4, .slice BR mR eR] 33) = w6 at b6 x13 x12' Y0 Y1 BW6 ⊢
     obtain ⟨p13, hp13⟩ : ∃ n, n = w5.heap.size := ⟨_, rfl⟩
     rw [← hp13] at x13 ⊢
     have L13 : Hid (w4.heap.size ≤ p13 ∧ p12 ≠ p13) := Lib.hid (by rw [hp13]; exact ⟨BW5.out.size, by have := heap_lt x12; omega⟩)
     have XP := Lib.hid x12'
     have XO := Lib.hid x13
     clear hp13 b6 x12 x12' x13 Z0 Z1 BW5 BW k0 k1 k2 k3 k4 k5
     go_upto_region 22 with fail
     obtain ⟨w8, hw8⟩ : ∃ z, z = w6 := ⟨_, rfl⟩
     rw [← hw8]
     have BW8 : Hid (Below w4.heap.size w4 w8) := by rw [hw8]; exact BW6
     have XP' : Hid (w8.heap[p12]? = some (.cells #[.int .i64 a.ver, .int .i64 a.par, .slice A2 n2 c2, .slice A3 n3 c3, .slice A4 n4 c4, .slice AR nR cR] 33 (0, 0))) := by rw [hw8]; exact XP
     have XO' : Hid (w8.heap[p13]? = some (.cells #[.int .i64 b.ver, .int .i64 b.par, .slice B2 m2 e2, .slice B3 m3 e3, .slice B4 m4 e4, .slice BR mR eR] 33 (0, 0))) := by rw [hw8]; exact XO
     clear hw8 XP XO BW6 Y0 Y1 L12 L13
     have XP := XP'
     have XO := XO'
     clear XP' XO'
     have Y6 := Lib.hid ((BW8.out.block _ (heap_lt X6.out)).trans X6.out)
     have B6_ := Lib.hid ((A6.out.below BW8.out).more BW8.out.size)
     have LD8 := Lib.hid ((LD.out.below diffR BW8.out).more diffR BW8.out.size)
     have VP := Lib.hid ((VA.out.below BW8.out).more BW8.out.size)
     have VO := Lib.hid ((VB.out.below BW8.out).more BW8.out.size)
     have RT := Lib.hid ((planV_inC VP.out).routes)
     have CLS : Hid (CloseR a b a b lx) := Lib.hid (by rw [HLX.out]; exact close_a HA.out HB_.out)
     have hR9 : nR ≤ 9223372036854775807 := Na.out.2
     go_loopw [14] (fun s14 wr => ∃ i : Nat, s14 = .int .i64 i ∧ i ≤ nR ∧ Below w8.heap.size w8 wr) (fun s14 _ => nR - (intOf s14).toNat)
     case atStart => exact ⟨0, by go_num, by omega, Below.refl _ _⟩
     case round =>
      obtain ⟨wx, hwx⟩ : ∃ z, z = wr := ⟨_, rfl⟩
      subst hwx
      obtain ⟨i, rfl, hi, hb⟩ := hrel
      have BW := Lib.hid hb
      clear hb
      obtain ⟨k0, k1, k2, k3, k4, k5⟩ := cell6_of ((BW.out.block _ (heap_lt XP.out)).trans XP.out)
      by_cases hlt : i < nR
      ·have hlt' : (i : Int) < nR := by omega
       have hir : i < a.routes.length := by have := Na.out; omega
       obtain ⟨bk, off, rfl, hbk, hc0, hc1, hc2, hc6, u3, u4, u5, hc3, hc4, hc5, hu⟩ := RT.out.at hir
       have HR : Hid (a.routes[i] ∈ a.routes) := Lib.hid (List.getElem_mem hir)
       obtain ⟨r, hr⟩ : ∃ x, x = a.routes[i] := ⟨_, rfl⟩
       rw [← hr] at hc0 hc1 hc2 hc6 hu HR
       obtain ⟨P0, pd0, rfl, -, -⟩ := hu.path.slice
       obtain ⟨P1, pd1, rfl, -, -⟩ := hu.over.slice
       obtain ⟨P2, pd2, rfl, -, -⟩ := hu.flanks.slice
       obtain ⟨pn0, hn0⟩ : ∃ n, n = r.path.length := ⟨_, rfl⟩
       obtain ⟨pn1, hn1⟩ : ∃ n, n = r.over.length := ⟨_, rfl⟩
       obtain ⟨pn2, hn2⟩ : ∃ n, n = r.flanks.length := ⟨_, rfl⟩
       rw [← hn0] at hu hc3
       rw [← hn1] at hu hc4
       rw [← hn2] at hu hc5
       have HBK := Lib.hid hbk
       have RI := Lib.hid hu
       have RTA : Hid (w8.cell? ⟨bk, off + i * 7, none⟩ = some (.int .i64 r.id) ∧ w8.cell? ⟨bk, off + i * 7 + 1, none⟩ = some (.int .i64 r.entry) ∧ w8.cell? ⟨bk, off + i * 7 + 2, none⟩ = some (.int .i64 r.exit) ∧ w8.cell? ⟨bk, off + i * 7 + 3, none⟩ = some (.slice P0 pn0 pd0) ∧ w8.cell? ⟨bk, off + i * 7 + 4, none⟩ = some (.slice P1 pn1 pd1) ∧ w8.cell? ⟨bk, off + i * 7 + 5, none⟩ = some (.slice P2 pn2 pd2) ∧ w8.cell? ⟨bk, off + i * 7 + 6, none⟩ = some (.int .i64 r.timer)) := Lib.hid ⟨hc0, hc1, hc2, hc3, hc4, hc5, hc6⟩
       have H0 := Lib.hid RTA.out.1
       have US := Lib.hid (CLS.out.us r HR.out)
       clear hr hn0 hn1 hn2 hc0 hc1 hc2 hc3 hc4 hc5 hc6 hu hbk hir
       go_upto_region 24 with fail
       clear k0 k1 k2 k3 k4 k5
       go_cut [15, 16] from 92 to 140 (fun s15 s16 wz => ∃ p15 U0 un0 ud0 U1 un1 ud1 U2 un2 ud2 U3 un3 ud3, s15 = .pointer (some ⟨p15, 0, none⟩) ∧ s16 = .int .i64 0 ∧ wz.heap[p15]? = some (.cells #[.slice U0 un0 ud0, .slice U1 un1 ud1, .slice U2 un2 ud2, .slice U3 un3 ud3] 24 (0, 0)) ∧ ArIn wz wz.heap.size (.slice U0 un0 ud0) (.slice U1 un1 ud1) (.slice U2 un2 ud2) (.slice U3 un3 ud3) (arOf (useB a r)) ∧ wx.heap.size ≤ p15 ∧ Below wx.heap.size wx wz)
       case first =>
        refine wp_region_held_drew (S := fun v => Below wx.heap.size wx v) (by kernel_rfl) (Below.refl wx.heap.size wx).drew (fun hHeld => ?_)
        refine tkc 0 hHeld (fun w' hSw => cell6_of (((BW.out.trans (hSw.mono BW.out.size)).block _ (heap_lt XP.out)).trans XP.out)) ?_;refine tk 1 hHeld ?_;refine tkc 2 hHeld (fun w' hSw => cell6_of (((BW.out.trans (hSw.mono BW.out.size)).block _ (heap_lt XP.out)).trans XP.out)) ?_;refine tk 3 hHeld ?_;refine tk 4 hHeld ?_;refine tk 5 hHeld ?_;refine tkc 6 hHeld (fun w' hSw => ((BW.out.trans (hSw.mono BW.out.size)).cell (p := ⟨bk, off + i * 7, none⟩) HBK.out).trans H0.out) ?_
        have tb := (Below.refl wx.heap.size wx).drew
        generalize wx.drew = q0 at tb hHeld ⊢
        have HB := Lib.hid tb
        clear tb
        refine wpAnyH_ready (rs := [7, 11]) (by kernel_rfl) (by simp) ?_
        refine AllReadyH.cons rfl (fun K hK => ?_) (AllReadyH.cons rfl (fun K hK => ?_) AllReadyH.nil)
        ·go_simp
         refine (hc.uses _ a r.id q0 ((VP.out.below (BW.out.trans (HB.out.mono BW.out.size))).more (BW.out.trans (HB.out.mono BW.out.size)).size)).mono ?_
         rintro e qA ⟨u0, u1, u2, u3, rfl, hu, b⟩
         rw [US.out.2] at hu
         rw [US.out.1]
         obtain ⟨U0, un0, ud0, rfl⟩ := in_slC hu.secs
         obtain ⟨U1, un1, ud1, rfl⟩ := in_slC hu.pts
         obtain ⟨U2, un2, ud2, rfl⟩ := in_slC hu.sigs
         obtain ⟨U3, un3, ud3, rfl⟩ := in_slC hu.routes
         have HU := Lib.hid hu
         have tb := HB.out.trans (b.mono HB.out.size)
         clear HB b hu
         have HB := Lib.hid tb
         clear tb
         try go_wp2_with fail
         refine hK.out _ _ ?_ fun hHeld => ?_;exact HB.out;clear hK K;try simp only [zn, Act.put]
         refine tk 8 hHeld ?_;refine tk 9 hHeld ?_;refine tk 10 hHeld ?_
         refine tkr 11 (fun K hK => ?_)
         go_simp
         have tb := HB.out.alloc HB.out.size (.cells #[.slice none 0 0, .slice none 0 0, .slice none 0 0, .slice none 0 0] 24)
         have t9 := heap_alloc_self qA (.cells #[.slice none 0 0, .slice none 0 0, .slice none 0 0, .slice none 0 0] 24)
         have tU := (HU.out.below (below_new qA (.cells #[.slice none 0 0, .slice none 0 0, .slice none 0 0, .slice none 0 0] 24))).more (below_new qA (.cells #[.slice none 0 0, .slice none 0 0, .slice none 0 0, .slice none 0 0] 24)).size
         refine hK.out _ _ ?_ fun hHeld => ?_;exact tb;clear hK K;try simp only [zn, Act.put]
         generalize qA.alloc (.cells #[.slice none 0 0, .slice none 0 0, .slice none 0 0, .slice none 0 0] 24) = qB at tb t9 tU hHeld ⊢
         obtain ⟨p15, hp_⟩ : ∃ n, n = qA.heap.size := ⟨_, rfl⟩
         rw [← hp_] at t9 ⊢
         have PLB : Hid (wx.heap.size ≤ p15) := Lib.hid (by rw [hp_]; exact HB.out.size)
         clear HB hp_ HU
         have HB := Lib.hid tb
         have XB := Lib.hid t9
         clear tb t9
         have HU := Lib.hid tU
         clear tU
         refine tkr 12 (fun K hK => ?_)
         rw [if_pos (by rfl)]
         refine wp_store_rowP 24 (.tmp 15) (.tmp 101) rfl p15 rfl (c' := #[.slice U0 un0 ud0, .slice U1 un1 ud1, .slice U2 un2 ud2, .slice U3 un3 ud3]) rfl XB.out infoArea4 rfl (by simp [Value.oneCell']) ?_
         have tb := below_setRow HB.out PLB.out #[.slice U0 un0 ud0, .slice U1 un1 ud1, .slice U2 un2 ud2, .slice U3 un3 ud3]
         have t9 := setRow_heap qB _ _ #[.slice U0 un0 ud0, .slice U1 un1 ud1, .slice U2 un2 ud2, .slice U3 un3 ud3] _ _ XB.out
         have tU := (HU.out.set14 (c' := #[.slice U0 un0 ud0, .slice U1 un1 ud1, .slice U2 un2 ud2, .slice U3 un3 ud3]) XB.out).more (grownBy_setRow qB p15 #[.slice U0 un0 ud0, .slice U1 un1 ud1, .slice U2 un2 ud2, .slice U3 un3 ud3]).size
         refine hK.out _ _ ?_ fun hHeld => ?_;exact tb;clear hK K;try simp only [zn, Act.put]
         generalize qB.setRow p15 #[.slice U0 un0 ud0, .slice U1 un1 ud1, .slice U2 un2 ud2, .slice U3 un3 ud3] = qZ at tb t9 tU hHeld ⊢
         refine tk 13 hHeld ?_
         refine wpAnyH_done (by kernel_rfl) ?_ _
         go_wp2_with fail
         go_meet
         exact ⟨p15, _, _, _, _, _, _, _, _, _, _, _, _, rfl, rfl, t9, tU, PLB.out, tb⟩
        ·go_simp
         have tb := HB.out.alloc HB.out.size (.cells #[.slice none 0 0, .slice none 0 0, .slice none 0 0, .slice none 0 0] 24)
         have t9 := heap_alloc_self q0 (.cells #[.slice none 0 0, .slice none 0 0, .slice none 0 0, .slice none 0 0] 24)
         refine hK.out _ _ ?_ fun hHeld => ?_;exact tb;clear hK K;try simp only [zn, Act.put]
         generalize q0.alloc (.cells #[.slice none 0 0, .slice none 0 0, .slice none 0 0, .slice none 0 0] 24) = qA at tb t9 hHeld ⊢
         obtain ⟨p15, hp_⟩ : ∃ n, n = q0.heap.size := ⟨_, rfl⟩
         rw [← hp_] at t9 ⊢
         have PLB : Hid (wx.heap.size ≤ p15) := Lib.hid (by rw [hp_]; exact HB.out.size)
         clear HB hp_
         have HB := Lib.hid tb
         have XB := Lib.hid t9
         clear tb t9
         refine tkr 7 (fun K hK => ?_)
         go_simp
         refine (hc.uses _ a r.id qA ((VP.out.below (BW.out.trans (HB.out.mono BW.out.size))).more (BW.out.trans (HB.out.mono BW.out.size)).size)).mono ?_
         rintro e qB ⟨u0, u1, u2, u3, rfl, hu, b⟩
         rw [US.out.2] at hu
         rw [US.out.1]
         obtain ⟨U0, un0, ud0, rfl⟩ := in_slC hu.secs
         obtain ⟨U1, un1, ud1, rfl⟩ := in_slC hu.pts
         obtain ⟨U2, un2, ud2, rfl⟩ := in_slC hu.sigs
         obtain ⟨U3, un3, ud3, rfl⟩ := in_slC hu.routes
         have HU := Lib.hid hu
         have tb := HB.out.trans (b.mono HB.out.size)
         have tX := (b.block _ (heap_lt XB.out)).trans XB.out
         clear XB
         have XB := Lib.hid tX
         clear tX
         clear HB b hu
         have HB := Lib.hid tb
         clear tb
         try go_wp2_with fail
         refine hK.out _ _ ?_ fun hHeld => ?_;exact HB.out;clear hK K;try simp only [zn, Act.put]
         refine tk 8 hHeld ?_;refine tk 9 hHeld ?_;refine tk 10 hHeld ?_
         refine tkr 12 (fun K hK => ?_)
         rw [if_pos (by rfl)]
         refine wp_store_rowP 24 (.tmp 15) (.tmp 101) rfl p15 rfl (c' := #[.slice U0 un0 ud0, .slice U1 un1 ud1, .slice U2 un2 ud2, .slice U3 un3 ud3]) rfl XB.out infoArea4 rfl (by simp [Value.oneCell']) ?_
         have tb := below_setRow HB.out PLB.out #[.slice U0 un0 ud0, .slice U1 un1 ud1, .slice U2 un2 ud2, .slice U3 un3 ud3]
         have t9 := setRow_heap qB _ _ #[.slice U0 un0 ud0, .slice U1 un1 ud1, .slice U2 un2 ud2, .slice U3 un3 ud3] _ _ XB.out
         have tU := (HU.out.set14 (c' := #[.slice U0 un0 ud0, .slice U1 un1 ud1, .slice U2 un2 ud2, .slice U3 un3 ud3]) XB.out).more (grownBy_setRow qB p15 #[.slice U0 un0 ud0, .slice U1 un1 ud1, .slice U2 un2 ud2, .slice U3 un3 ud3]).size
         refine hK.out _ _ ?_ fun hHeld => ?_;exact tb;clear hK K;try simp only [zn, Act.put]
         generalize qB.setRow p15 #[.slice U0 un0 ud0, .slice U1 un1 ud1, .slice U2 un2 ud2, .slice U3 un3 ud3] = qZ at tb t9 tU hHeld ⊢
         refine tk 13 hHeld ?_
         refine wpAnyH_done (by kernel_rfl) ?_ _
         go_wp2_with fail
         go_meet
         exact ⟨p15, _, _, _, _, _, _, _, _, _, _, _, _, rfl, rfl, t9, tU, PLB.out, tb⟩
       case rest =>
        obtain ⟨p15, U0, un0, ud0, U1, un1, ud1, U2, un2, ud2, U3, un3, ud3, rfl, rfl, h15, hu, -, hb⟩ := hcut
        obtain ⟨wz, hwz⟩ : ∃ x, x = wc := ⟨_, rfl⟩
        rw [← hwz] at h15 hu hb ⊢
        clear hwz wc
        have X15 := Lib.hid h15
        have A15 := Lib.hid hu
        have BZ := Lib.hid (BW.out.trans (hb.mono BW.out.size))
        clear h15 hu hb BW
        obtain ⟨mv, hmv⟩ : ∃ q_, q_ = metP a b a r := ⟨_, rfl⟩
        have HMV := Lib.hid hmv
        clear hmv
        obtain ⟨l0, l1, l2, l3⟩ := cell4A X15.out
        go_wp2_with fail
        refine (meets14_any hc _ _ (arOf (useB a r)) (diffL a b) wz ⟨_, _, _, _, rfl, A15.out⟩ ((LD8.out.below diffR BZ.out).more diffR BZ.out.size) HDK.out).mono ?_
        rintro e wy ⟨rfl, bN⟩
        rw [show metL (diffL a b) (arOf (useB a r)) = mv from HMV.out.symm]
        have BY := Lib.hid (BZ.out.trans (bN.mono BZ.out.size))
        have Y15 := Lib.hid ((bN.block _ (heap_lt X15.out)).trans X15.out)
        have C15 := Lib.hid ((A15.out.below bN).more bN.size)
        clear bN X15 A15 BZ l0 l1 l2 l3
        cases mv with
        | true =>
         have HIN := Lib.hid (CLS.out.yes r HR.out HMV.out.symm)
         obtain ⟨l0, l1, l2, l3⟩ := cell4A Y15.out
         obtain ⟨e0, e1, e2, e3⟩ := cell4A ((BY.out.block _ (heap_lt Y6.out)).trans Y6.out)
         go_wp2_with fail
         refine (within14_any hc _ _ (arOf (useB a r)) lx wy ⟨_, _, _, _, rfl, C15.out⟩ ⟨_, _, _, _, rfl, (B6_.out.below BY.out).more BY.out.size⟩ HIN.out).mono ?_
         rintro e wv ⟨rfl, bN⟩
         have BE := Lib.hid (BY.out.trans (bN.mono BY.out.size))
         clear bN l0 l1 l2 l3 e0 e1 e2 e3
         go_wp2_with fail
         go_roundw
         case measure => simp [intOf]; omega
         case rel => exact ⟨i + 1, by go_num, by omega, BE.out⟩
        | false =>
         have NO := Lib.hid (CLS.out.no r HR.out HMV.out.symm)
         obtain ⟨wx, hwx⟩ : ∃ z, z = wy := ⟨_, rfl⟩
         rw [← hwx] at BY ⊢
         have BW := BY
         clear hwx BY Y15 C15 wy
         go_upto_region 30 with fail
         go_cut [17, 18] from 112 to 140 (fun s17 s18 wz => ∃ p17 Q0 qn0 qd0 Q1 qn1 qd1 Q2 qn2 qd2, s17 = .pointer (some ⟨p17, 0, none⟩) ∧ s18 = .int .i64 0 ∧ wz.heap[p17]? = some (.cells #[.int .i64 r.id, .int .i64 r.entry, .int .i64 r.exit, .slice Q0 qn0 qd0, .slice Q1 qn1 qd1, .slice Q2 qn2 qd2, .int .i64 r.timer] 54 (0, 0)) ∧ RtIn wz wz.heap.size (.slice Q0 qn0 qd0) (.slice Q1 qn1 qd1) (.slice Q2 qn2 qd2) r ∧ wx.heap.size ≤ p17 ∧ Below wx.heap.size wx wz)
         case first =>
          refine wp_region_held_drew (S := fun v => Below wx.heap.size wx v) (by kernel_rfl) (Below.refl wx.heap.size wx).drew (fun hHeld => ?_)
          refine tkc 0 hHeld (fun w' hSw => cell6_of (((BW.out.trans (hSw.mono BW.out.size)).block _ (heap_lt XO.out)).trans XO.out)) ?_;refine tk 1 hHeld ?_;refine tkc 2 hHeld (fun w' hSw => cell6_of (((BW.out.trans (hSw.mono BW.out.size)).block _ (heap_lt XP.out)).trans XP.out)) ?_;refine tk 3 hHeld ?_;refine tk 4 hHeld ?_;refine tk 5 hHeld ?_;refine tkc 6 hHeld (fun w' hSw => ((BW.out.trans (hSw.mono BW.out.size)).cell (p := ⟨bk, off + i * 7, none⟩) HBK.out).trans H0.out) ?_
          have tb := (Below.refl wx.heap.size wx).drew
          generalize wx.drew = q0 at tb hHeld ⊢
          have HB := Lib.hid tb
          clear tb
          refine wpAnyH_ready (rs := [7, 11]) (by kernel_rfl) (by simp) ?_
          refine AllReadyH.cons rfl (fun K hK => ?_) (AllReadyH.cons rfl (fun K hK => ?_) AllReadyH.nil)
          ·go_simp
           refine (hp.route _ b r.id q0 ((VO.out.below (BW.out.trans (HB.out.mono BW.out.size))).more (BW.out.trans (HB.out.mono BW.out.size)).size)).mono ?_
           rintro e qA ⟨y3, y4, y5, rfl, hro, b⟩
           rw [NO.out.2.1] at hro
           rw [NO.out.2.1, NO.out.1]
           have hu := hro.in_
           obtain ⟨Q0, qn0, qd0, rfl⟩ := in_slC hu.path
           obtain ⟨Q1, qn1, qd1, rfl⟩ := in_slC hu.over
           obtain ⟨Q2, qd2, hQ2, -, -⟩ := hu.flanks.slice
           obtain ⟨qn2, hqn⟩ : ∃ n, n = r.flanks.length := ⟨_, rfl⟩
           subst hQ2
           rw [← hqn]
           have hro2 : RtOwn qA q0.heap.size (.slice Q0 qn0 qd0) (.slice Q1 qn1 qd1) (.slice Q2 qn2 qd2) r := by rw [hqn]; exact hro
           clear hqn hro
           have HU := Lib.hid hro2
           clear hro2
           have tb := HB.out.trans (b.mono HB.out.size)
           clear HB b hu
           have HB := Lib.hid tb
           clear tb
           try go_wp2_with fail
           refine hK.out _ _ ?_ fun hHeld => ?_;exact HB.out;clear hK K;try simp only [zn, Act.put]
           refine tk 8 hHeld ?_;refine tk 9 hHeld ?_;refine tk 10 hHeld ?_
           refine tkr 11 (fun K hK => ?_)
           go_simp
           have tb := HB.out.alloc HB.out.size (.cells #[.int .i64 0, .int .i64 0, .int .i64 0, .slice none 0 0, .slice none 0 0, .slice none 0 0, .int .i64 0] 54)
           have t9 := heap_alloc_self qA (.cells #[.int .i64 0, .int .i64 0, .int .i64 0, .slice none 0 0, .slice none 0 0, .slice none 0 0, .int .i64 0] 54)
           have tU := HU.out.below14 (below_new qA (.cells #[.int .i64 0, .int .i64 0, .int .i64 0, .slice none 0 0, .slice none 0 0, .slice none 0 0, .int .i64 0] 54))
           refine hK.out _ _ ?_ fun hHeld => ?_;exact tb;clear hK K;try simp only [zn, Act.put]
           generalize qA.alloc (.cells #[.int .i64 0, .int .i64 0, .int .i64 0, .slice none 0 0, .slice none 0 0, .slice none 0 0, .int .i64 0] 54) = qB at tb t9 tU hHeld ⊢
           obtain ⟨p17, hp_⟩ : ∃ n, n = qA.heap.size := ⟨_, rfl⟩
           rw [← hp_] at t9 ⊢
           have PLB : Hid (wx.heap.size ≤ p17) := Lib.hid (by rw [hp_]; exact HB.out.size)
           clear HB hp_ HU
           have HB := Lib.hid tb
           have XB := Lib.hid t9
           clear tb t9
           have HU := Lib.hid tU
           clear tU
           refine tkr 12 (fun K hK => ?_)
           rw [if_pos (by rfl)]
           refine wp_store_rowP 54 (.tmp 17) (.tmp 121) rfl p17 rfl (c' := #[.int .i64 r.id, .int .i64 r.entry, .int .i64 r.exit, .slice Q0 qn0 qd0, .slice Q1 qn1 qd1, .slice Q2 qn2 qd2, .int .i64 r.timer]) rfl XB.out infoRoute7 rfl (by simp [Value.oneCell']) ?_
           have tb := below_setRow HB.out PLB.out #[.int .i64 r.id, .int .i64 r.entry, .int .i64 r.exit, .slice Q0 qn0 qd0, .slice Q1 qn1 qd1, .slice Q2 qn2 qd2, .int .i64 r.timer]
           have t9 := setRow_heap qB _ _ #[.int .i64 r.id, .int .i64 r.entry, .int .i64 r.exit, .slice Q0 qn0 qd0, .slice Q1 qn1 qd1, .slice Q2 qn2 qd2, .int .i64 r.timer] _ _ XB.out
           have tU := (HU.out.off14 (grownBy_setRow qB p17 #[.int .i64 r.id, .int .i64 r.entry, .int .i64 r.exit, .slice Q0 qn0 qd0, .slice Q1 qn1 qd1, .slice Q2 qn2 qd2, .int .i64 r.timer]) ⟨_, XB.out⟩).in_
           refine hK.out _ _ ?_ fun hHeld => ?_;exact tb;clear hK K;try simp only [zn, Act.put]
           generalize qB.setRow p17 #[.int .i64 r.id, .int .i64 r.entry, .int .i64 r.exit, .slice Q0 qn0 qd0, .slice Q1 qn1 qd1, .slice Q2 qn2 qd2, .int .i64 r.timer] = qZ at tb t9 tU hHeld ⊢
           refine tk 13 hHeld ?_
           refine wpAnyH_done (by kernel_rfl) ?_ _
           go_wp2_with fail
           go_meet
           exact ⟨p17, _, _, _, _, _, _, _, _, _, rfl, rfl, t9, tU, PLB.out, tb⟩
          ·go_simp
           have tb := HB.out.alloc HB.out.size (.cells #[.int .i64 0, .int .i64 0, .int .i64 0, .slice none 0 0, .slice none 0 0, .slice none 0 0, .int .i64 0] 54)
           have t9 := heap_alloc_self q0 (.cells #[.int .i64 0, .int .i64 0, .int .i64 0, .slice none 0 0, .slice none 0 0, .slice none 0 0, .int .i64 0] 54)
           refine hK.out _ _ ?_ fun hHeld => ?_;exact tb;clear hK K;try simp only [zn, Act.put]
           generalize q0.alloc (.cells #[.int .i64 0, .int .i64 0, .int .i64 0, .slice none 0 0, .slice none 0 0, .slice none 0 0, .int .i64 0] 54) = qA at tb t9 hHeld ⊢
           obtain ⟨p17, hp_⟩ : ∃ n, n = q0.heap.size := ⟨_, rfl⟩
           rw [← hp_] at t9 ⊢
           have PLB : Hid (wx.heap.size ≤ p17) := Lib.hid (by rw [hp_]; exact HB.out.size)
           clear HB hp_
           have HB := Lib.hid tb
           have XB := Lib.hid t9
           clear tb t9
           refine tkr 7 (fun K hK => ?_)
           go_simp
           refine (hp.route _ b r.id qA ((VO.out.below (BW.out.trans (HB.out.mono BW.out.size))).more (BW.out.trans (HB.out.mono BW.out.size)).size)).mono ?_
           rintro e qB ⟨y3, y4, y5, rfl, hro, b⟩
           rw [NO.out.2.1] at hro
           rw [NO.out.2.1, NO.out.1]
           have hu := hro.in_
           obtain ⟨Q0, qn0, qd0, rfl⟩ := in_slC hu.path
           obtain ⟨Q1, qn1, qd1, rfl⟩ := in_slC hu.over
           obtain ⟨Q2, qd2, hQ2, -, -⟩ := hu.flanks.slice
           obtain ⟨qn2, hqn⟩ : ∃ n, n = r.flanks.length := ⟨_, rfl⟩
           subst hQ2
           rw [← hqn]
           have hro2 : RtOwn qB qA.heap.size (.slice Q0 qn0 qd0) (.slice Q1 qn1 qd1) (.slice Q2 qn2 qd2) r := by rw [hqn]; exact hro
           clear hqn hro
           have HU := Lib.hid hro2
           clear hro2
           have tb := HB.out.trans (b.mono HB.out.size)
           have tX := (b.block _ (heap_lt XB.out)).trans XB.out
           clear XB
           have XB := Lib.hid tX
           clear tX
           clear HB b hu
           have HB := Lib.hid tb
           clear tb
           try go_wp2_with fail
           refine hK.out _ _ ?_ fun hHeld => ?_;exact HB.out;clear hK K;try simp only [zn, Act.put]
           refine tk 8 hHeld ?_;refine tk 9 hHeld ?_;refine tk 10 hHeld ?_
           refine tkr 12 (fun K hK => ?_)
           rw [if_pos (by rfl)]
           refine wp_store_rowP 54 (.tmp 17) (.tmp 121) rfl p17 rfl (c' := #[.int .i64 r.id, .int .i64 r.entry, .int .i64 r.exit, .slice Q0 qn0 qd0, .slice Q1 qn1 qd1, .slice Q2 qn2 qd2, .int .i64 r.timer]) rfl XB.out infoRoute7 rfl (by simp [Value.oneCell']) ?_
           have tb := below_setRow HB.out PLB.out #[.int .i64 r.id, .int .i64 r.entry, .int .i64 r.exit, .slice Q0 qn0 qd0, .slice Q1 qn1 qd1, .slice Q2 qn2 qd2, .int .i64 r.timer]
           have t9 := setRow_heap qB _ _ #[.int .i64 r.id, .int .i64 r.entry, .int .i64 r.exit, .slice Q0 qn0 qd0, .slice Q1 qn1 qd1, .slice Q2 qn2 qd2, .int .i64 r.timer] _ _ XB.out
           have tU := (HU.out.off14 (grownBy_setRow qB p17 #[.int .i64 r.id, .int .i64 r.entry, .int .i64 r.exit, .slice Q0 qn0 qd0, .slice Q1 qn1 qd1, .slice Q2 qn2 qd2, .int .i64 r.timer]) ⟨_, XB.out⟩).in_
           refine hK.out _ _ ?_ fun hHeld => ?_;exact tb;clear hK K;try simp only [zn, Act.put]
           generalize qB.setRow p17 #[.int .i64 r.id, .int .i64 r.entry, .int .i64 r.exit, .slice Q0 qn0 qd0, .slice Q1 qn1 qd1, .slice Q2 qn2 qd2, .int .i64 r.timer] = qZ at tb t9 tU hHeld ⊢
           refine tk 13 hHeld ?_
           refine wpAnyH_done (by kernel_rfl) ?_ _
           go_wp2_with fail
           go_meet
           exact ⟨p17, _, _, _, _, _, _, _, _, _, rfl, rfl, t9, tU, PLB.out, tb⟩
         case rest =>
          obtain ⟨p17, Q0, qn0, qd0, Q1, qn1, qd1, Q2, qn2, qd2, rfl, rfl, h17, hu, -, hb⟩ := hcut
          obtain ⟨wz, hwz⟩ : ∃ x, x = wc := ⟨_, rfl⟩
          rw [← hwz] at h17 hu hb ⊢
          clear hwz wc
          have X17 := Lib.hid h17
          have R17 := Lib.hid hu
          have BZ := Lib.hid (BW.out.trans (hb.mono BW.out.size))
          clear h17 hu hb BW
          go_upto_region 31 with fail
          refine wp_region_held_drew (S := fun v => Below wz.heap.size wz v) (by kernel_rfl) (Below.refl wz.heap.size wz).drew (fun hHeld => ?_)
          refine tk 0 hHeld ?_;refine tk 1 hHeld ?_;refine tk 2 hHeld ?_;refine tkc 3 hHeld (fun w' hSw => cell7_of ((hSw.block _ (heap_lt X17.out)).trans X17.out)) ?_;refine tk 4 hHeld ?_;refine tkc 5 hHeld (fun w' hSw => cell6_of (((BZ.out.trans (hSw.mono BZ.out.size)).block _ (heap_lt XP.out)).trans XP.out)) ?_;refine tk 6 hHeld ?_;refine tk 7 hHeld ?_
          refine wpAnyH_take (i := 8) (v := ?_) rfl (by kernel_rfl) (by kernel_rfl) (by kernel_rfl) (fun _ _ _ h => h) (Or.inl ⟨by rfl, ?_⟩) hHeld ?_
          rotate_left
          ·intro w' hSw; have cc0 := ((BZ.out.trans (hSw.mono BZ.out.size)).cell (p := ⟨bk, off + i * 7, none⟩) HBK.out).trans RTA.out.1; have cc1 := ((BZ.out.trans (hSw.mono BZ.out.size)).cell (p := ⟨bk, off + i * 7 + 1, none⟩) HBK.out).trans RTA.out.2.1; have cc2 := ((BZ.out.trans (hSw.mono BZ.out.size)).cell (p := ⟨bk, off + i * 7 + 2, none⟩) HBK.out).trans RTA.out.2.2.1; have cc3 := ((BZ.out.trans (hSw.mono BZ.out.size)).cell (p := ⟨bk, off + i * 7 + 3, none⟩) HBK.out).trans RTA.out.2.2.2.1; have cc4 := ((BZ.out.trans (hSw.mono BZ.out.size)).cell (p := ⟨bk, off + i * 7 + 4, none⟩) HBK.out).trans RTA.out.2.2.2.2.1; have cc5 := ((BZ.out.trans (hSw.mono BZ.out.size)).cell (p := ⟨bk, off + i * 7 + 5, none⟩) HBK.out).trans RTA.out.2.2.2.2.2.1; have cc6 := ((BZ.out.trans (hSw.mono BZ.out.size)).cell (p := ⟨bk, off + i * 7 + 6, none⟩) HBK.out).trans RTA.out.2.2.2.2.2.2; go_simp; try with_reducible rfl
          simp only [zn, Act.put]
          have tb := (Below.refl wz.heap.size wz).drew
          generalize wz.drew = q0 at tb hHeld ⊢
          have HB := Lib.hid tb
          clear tb
          refine tkr 9 (fun K hK => ?_)
          rw [if_pos (by rfl)]
          go_simp
          refine (rsameroute_any _ _ r r q0 ⟨_, _, _, rfl, (R17.out.below HB.out).more HB.out.size⟩ ⟨_, _, _, rfl, (RI.out.below (BZ.out.trans (HB.out.mono BZ.out.size))).more (BZ.out.trans (HB.out.mono BZ.out.size)).size⟩).mono ?_
          rintro e q1 ⟨rfl, b⟩
          rw [eqB_iff.2 (rfl : r = r)]
          have HB1 := Lib.hid (HB.out.trans (b.mono HB.out.size))
          clear b HB
          try go_wp2_with fail
          refine hK.out _ _ ?_ fun hHeld => ?_;exact HB1.out;clear hK K;try simp only [zn, Act.put]
          refine tk 10 hHeld ?_;refine tk 11 hHeld ?_;refine tk 12 hHeld ?_;refine tkc 13 hHeld (fun w' hSw => cell4A (((BZ.out.trans (hSw.mono BZ.out.size)).block _ (heap_lt Y6.out)).trans Y6.out)) ?_;refine tk 14 hHeld ?_;refine tkc 15 hHeld (fun w' hSw => cell7_of ((hSw.block _ (heap_lt X17.out)).trans X17.out)) ?_
          refine tkr 16 (fun K hK => ?_)
          rw [if_pos (by rfl)]
          go_simp
          refine (hc.has _ lx 4 r.id q1 ⟨_, _, _, _, rfl, (B6_.out.below (BZ.out.trans (HB1.out.mono BZ.out.size))).more (BZ.out.trans (HB1.out.mono BZ.out.size)).size⟩ (by decide) (by decide)).mono ?_
          rintro e q2 ⟨rfl, b⟩
          rw [NO.out.2.2]
          have HB2 := Lib.hid (HB1.out.trans (b.mono HB1.out.size))
          clear b HB1
          try go_wp2_with fail
          refine hK.out _ _ ?_ fun hHeld => ?_;exact HB2.out;clear hK K;try simp only [zn, Act.put]
          refine tk 17 hHeld ?_
          refine wpAnyH_done (by kernel_rfl) ?_ _
          have BE := Lib.hid (BZ.out.trans (HB2.out.mono BZ.out.size))
          go_wp2_with fail
          go_roundw
          case measure => simp [intOf]; omega
          case rel => exact ⟨i + 1, by go_num, by omega, BE.out⟩
      ·obtain rfl : nR = i := by omega
       have hlt' : ¬ (nR : Int) < nR := by omega
       have BE := Lib.hid (BW8.out.trans (BW.out.mono BW8.out.size))
       go_wp2_with fail
       go_roundw
       case measure => simp [intOf]
       case rel => exact ⟨1, by first | rfl | go_num, by omega, BE.out⟩
    ·subst hi1
     clear hn
     have Y0 := Lib.hid ((BW.out.block _ (heap_lt X0.out)).trans X0.out)
     have Y1 := Lib.hid ((BW.out.block _ (heap_lt X1.out)).trans X1.out)
     obtain ⟨k0, k1, k2, k3, k4, k5⟩ := cell6_of Y0.out
     go_upto_region 17 with ((with_reducible show wpList _ _ _ (⟨none, .store _ _ _, _, _, _, _⟩ :: _) _ _); refine wpList_store_rowS rfl _ (.tmp 12) (.tmp 79) rfl wx.heap.size rfl (c' := #[.int .i64 a.ver, .int .i64 a.par, .slice A2 n2 c2, .slice A3 n3 c3, .slice A4 n4 c4, .slice AR nR cR]) rfl (heap_alloc_self wx (.cells #[.int .i64 0, .int .i64 0, .slice none 0 0, .slice none 0 0, .slice none 0 0, .slice none 0 0] 33)) infoPlan6 rfl (by simp [Value.oneCell']) ?_)
     rw [World.setRow_alloc_new]
     have b5 := below_new wx (.cells #[.int .i64 a.ver, .int .i64 a.par, .slice A2 n2 c2, .slice A3 n3 c3, .slice A4 n4 c4, .slice AR nR cR] 33)
     have x12 := heap_alloc_self wx (.cells #[.int .i64 a.ver, .int .i64 a.par, .slice A2 n2 c2, .slice A3 n3 c3, .slice A4 n4 c4, .slice AR nR cR] 33)
     have Z0 := Lib.hid ((b5.block _ (heap_lt Y0.out)).trans Y0.out)
     have Z1 := Lib.hid ((b5.block _ (heap_lt Y1.out)).trans Y1.out)
     have BW5 := Lib.hid (BW.out.trans (b5.mono BW.out.size))
     generalize wx.alloc (.cells #[.int .i64 a.ver, .int .i64 a.par, .slice A2 n2 c2, .slice A3 n3 c3, .slice A4 n4 c4, .slice AR nR cR] 33) = w5 at b5 x12 Z0 Z1 BW5 ⊢
     obtain ⟨p12, hp12⟩ : ∃ n, n = wx.heap.size := ⟨_, rfl⟩
     rw [← hp12] at x12 ⊢
     have L12 : Hid (w4.heap.size ≤ p12) := Lib.hid (by rw [hp12]; exact BW.out.size)
     clear hp12 b5 Y0 Y1 k0 k1 k2 k3 k4 k5
     obtain ⟨k0, k1, k2, k3, k4, k5⟩ := cell6_of Z1.out
     go_upto_region 18 with ((with_reducible show wpList _ _ _ (⟨none, .store _ _ _, _, _, _, _⟩ :: _) _ _); refine wpList_store_rowS rfl _ (.tmp 13) (.tmp 80) rfl w5.heap.size rfl (c' := #[.int .i64 b.ver, .int .i64 b.par, .slice B2 m2 e2, .slice B3 m3 e3, .slice B4 m4 e4, .slice BR mR eR]) rfl (heap_alloc_self w5 (.cells #[.int .i64 0, .int .i64 0, .slice none 0 0, .slice none 0 0, .slice none 0 0, .slice none 0 0] 33)) infoPlan6 rfl (by simp [Value.oneCell']) ?_)
     rw [World.setRow_alloc_new]
     have b6 := below_new w5 (.cells #[.int .i64 b.ver, .int .i64 b.par, .slice B2 m2 e2, .slice B3 m3 e3, .slice B4 m4 e4, .slice BR mR eR] 33)
     have x13 := heap_alloc_self w5 (.cells #[.int .i64 b.ver, .int .i64 b.par, .slice B2 m2 e2, .slice B3 m3 e3, .slice B4 m4 e4, .slice BR mR eR] 33)
     have x12' := (b6.block _ (heap_lt x12)).trans x12
     have Y0 := Lib.hid ((b6.block _ (heap_lt Z0.out)).trans Z0.out)
     have Y1 := Lib.hid ((b6.block _ (heap_lt Z1.out)).trans Z1.out)
     have BW6 := Lib.hid (BW5.out.trans (b6.mono BW5.out.size))
     generalize w5.alloc (.cells #[.int .i64 b.ver, .int .i64 b.par, .slice B2 m2 e2, .slice B3 m3 e3, .slice B4 m4 e4, .slice BR mR eR] 33) = w6 at b6 x13 x12' Y0 Y1 BW6 ⊢
     obtain ⟨p13, hp13⟩ : ∃ n, n = w5.heap.size := ⟨_, rfl⟩
     rw [← hp13] at x13 ⊢
     have L13 : Hid (w4.heap.size ≤ p13 ∧ p12 ≠ p13) := Lib.hid (by rw [hp13]; exact ⟨BW5.out.size, by have := heap_lt x12; omega⟩)
     have XP := Lib.hid x12'
     have XO := Lib.hid x13
     clear hp13 b6 x12 x12' x13 Z0 Z1 BW5 BW k0 k1 k2 k3 k4 k5
     obtain ⟨k0, k1, k2, k3, k4, k5⟩ := cell6_of Y1.out
     go_upto_region 20 with ((with_reducible show wpList _ _ _ (⟨none, .store _ _ _, _, _, _, _⟩ :: _) _ _); refine wpList_store_rowS rfl _ (.tmp 12) (.tmp 83) rfl p12 rfl (c' := #[.int .i64 b.ver, .int .i64 b.par, .slice B2 m2 e2, .slice B3 m3 e3, .slice B4 m4 e4, .slice BR mR eR]) rfl XP.out infoPlan6 rfl (by simp [Value.oneCell']) ?_)
     have b7 := below_setRow BW6.out L12.out #[.int .i64 b.ver, .int .i64 b.par, .slice B2 m2 e2, .slice B3 m3 e3, .slice B4 m4 e4, .slice BR mR eR]
     have x12 := setRow_heap w6 _ _ #[.int .i64 b.ver, .int .i64 b.par, .slice B2 m2 e2, .slice B3 m3 e3, .slice B4 m4 e4, .slice BR mR eR] _ _ XP.out
     have x13 := (setRow_other w6 p12 p13 #[.int .i64 b.ver, .int .i64 b.par, .slice B2 m2 e2, .slice B3 m3 e3, .slice B4 m4 e4, .slice BR mR eR] L13.out.2.symm).trans XO.out
     generalize w6.setRow p12 #[.int .i64 b.ver, .int .i64 b.par, .slice B2 m2 e2, .slice B3 m3 e3, .slice B4 m4 e4, .slice BR mR eR] = w7 at b7 x12 x13 ⊢
     have BW7 := Lib.hid b7
     clear b7 XP XO BW6 Y0 Y1 k0 k1 k2 k3 k4 k5
     have Y0 := Lib.hid ((BW7.out.block _ (heap_lt X0.out)).trans X0.out)
     obtain ⟨k0, k1, k2, k3, k4, k5⟩ := cell6_of Y0.out
     go_upto_region 21 with ((with_reducible show wpList _ _ _ (⟨none, .store _ _ _, _, _, _, _⟩ :: _) _ _); refine wpList_store_rowS rfl _ (.tmp 13) (.tmp 84) rfl p13 rfl (c' := #[.int .i64 a.ver, .int .i64 a.par, .slice A2 n2 c2, .slice A3 n3 c3, .slice A4 n4 c4, .slice AR nR cR]) rfl x13 infoPlan6 rfl (by simp [Value.oneCell']) ?_)
     have b8 := below_setRow BW7.out L13.out.1 #[.int .i64 a.ver, .int .i64 a.par, .slice A2 n2 c2, .slice A3 n3 c3, .slice A4 n4 c4, .slice AR nR cR]
     have x13' := setRow_heap w7 _ _ #[.int .i64 a.ver, .int .i64 a.par, .slice A2 n2 c2, .slice A3 n3 c3, .slice A4 n4 c4, .slice AR nR cR] _ _ x13
     have x12' := (setRow_other w7 p13 p12 #[.int .i64 a.ver, .int .i64 a.par, .slice A2 n2 c2, .slice A3 n3 c3, .slice A4 n4 c4, .slice AR nR cR] L13.out.2).trans x12
     generalize w7.setRow p13 #[.int .i64 a.ver, .int .i64 a.par, .slice A2 n2 c2, .slice A3 n3 c3, .slice A4 n4 c4, .slice AR nR cR] = w8 at b8 x12' x13' ⊢
     have BW8 := Lib.hid b8
     have XP' := Lib.hid x12'
     have XO' := Lib.hid x13'
     clear b8 x12 x13 x12' x13' Y0 BW7 L12 L13 k0 k1 k2 k3 k4 k5
     go_upto_region 22 with fail
     have XP := XP'
     have XO := XO'
     clear XP' XO'
     have Y6 := Lib.hid ((BW8.out.block _ (heap_lt X6.out)).trans X6.out)
     have B6_ := Lib.hid ((A6.out.below BW8.out).more BW8.out.size)
     have LD8 := Lib.hid ((LD.out.below diffR BW8.out).more diffR BW8.out.size)
     have VP := Lib.hid ((VB.out.below BW8.out).more BW8.out.size)
     have VO := Lib.hid ((VA.out.below BW8.out).more BW8.out.size)
     have RT := Lib.hid ((planV_inC VP.out).routes)
     have CLS : Hid (CloseR a b b a lx) := Lib.hid (by rw [HLX.out]; exact close_b HA.out HB_.out)
     have hR9 : mR ≤ 9223372036854775807 := Nb.out.2
     go_loopw [14] (fun s14 wr => ∃ i : Nat, s14 = .int .i64 i ∧ i ≤ mR ∧ Below w8.heap.size w8 wr) (fun s14 _ => mR - (intOf s14).toNat)
     case atStart => exact ⟨0, by go_num, by omega, Below.refl _ _⟩
     case round =>
      obtain ⟨wx, hwx⟩ : ∃ z, z = wr := ⟨_, rfl⟩
      subst hwx
      obtain ⟨i, rfl, hi, hb⟩ := hrel
      have BW := Lib.hid hb
      clear hb
      obtain ⟨k0, k1, k2, k3, k4, k5⟩ := cell6_of ((BW.out.block _ (heap_lt XP.out)).trans XP.out)
      by_cases hlt : i < mR
      ·have hlt' : (i : Int) < mR := by omega
       have hir : i < b.routes.length := by have := Nb.out; omega
       obtain ⟨bk, off, rfl, hbk, hc0, hc1, hc2, hc6, u3, u4, u5, hc3, hc4, hc5, hu⟩ := RT.out.at hir
       have HR : Hid (b.routes[i] ∈ b.routes) := Lib.hid (List.getElem_mem hir)
       obtain ⟨r, hr⟩ : ∃ x, x = b.routes[i] := ⟨_, rfl⟩
       rw [← hr] at hc0 hc1 hc2 hc6 hu HR
       obtain ⟨P0, pd0, rfl, -, -⟩ := hu.path.slice
       obtain ⟨P1, pd1, rfl, -, -⟩ := hu.over.slice
       obtain ⟨P2, pd2, rfl, -, -⟩ := hu.flanks.slice
       obtain ⟨pn0, hn0⟩ : ∃ n, n = r.path.length := ⟨_, rfl⟩
       obtain ⟨pn1, hn1⟩ : ∃ n, n = r.over.length := ⟨_, rfl⟩
       obtain ⟨pn2, hn2⟩ : ∃ n, n = r.flanks.length := ⟨_, rfl⟩
       rw [← hn0] at hu hc3
       rw [← hn1] at hu hc4
       rw [← hn2] at hu hc5
       have HBK := Lib.hid hbk
       have RI := Lib.hid hu
       have RTA : Hid (w8.cell? ⟨bk, off + i * 7, none⟩ = some (.int .i64 r.id) ∧ w8.cell? ⟨bk, off + i * 7 + 1, none⟩ = some (.int .i64 r.entry) ∧ w8.cell? ⟨bk, off + i * 7 + 2, none⟩ = some (.int .i64 r.exit) ∧ w8.cell? ⟨bk, off + i * 7 + 3, none⟩ = some (.slice P0 pn0 pd0) ∧ w8.cell? ⟨bk, off + i * 7 + 4, none⟩ = some (.slice P1 pn1 pd1) ∧ w8.cell? ⟨bk, off + i * 7 + 5, none⟩ = some (.slice P2 pn2 pd2) ∧ w8.cell? ⟨bk, off + i * 7 + 6, none⟩ = some (.int .i64 r.timer)) := Lib.hid ⟨hc0, hc1, hc2, hc3, hc4, hc5, hc6⟩
       have H0 := Lib.hid RTA.out.1
       have US := Lib.hid (CLS.out.us r HR.out)
       clear hr hn0 hn1 hn2 hc0 hc1 hc2 hc3 hc4 hc5 hc6 hu hbk hir
       go_upto_region 24 with fail
       clear k0 k1 k2 k3 k4 k5
       go_cut [15, 16] from 92 to 140 (fun s15 s16 wz => ∃ p15 U0 un0 ud0 U1 un1 ud1 U2 un2 ud2 U3 un3 ud3, s15 = .pointer (some ⟨p15, 0, none⟩) ∧ s16 = .int .i64 0 ∧ wz.heap[p15]? = some (.cells #[.slice U0 un0 ud0, .slice U1 un1 ud1, .slice U2 un2 ud2, .slice U3 un3 ud3] 24 (0, 0)) ∧ ArIn wz wz.heap.size (.slice U0 un0 ud0) (.slice U1 un1 ud1) (.slice U2 un2 ud2) (.slice U3 un3 ud3) (arOf (useB b r)) ∧ wx.heap.size ≤ p15 ∧ Below wx.heap.size wx wz)
       case first =>
        refine wp_region_held_drew (S := fun v => Below wx.heap.size wx v) (by kernel_rfl) (Below.refl wx.heap.size wx).drew (fun hHeld => ?_)
        refine tkc 0 hHeld (fun w' hSw => cell6_of (((BW.out.trans (hSw.mono BW.out.size)).block _ (heap_lt XP.out)).trans XP.out)) ?_;refine tk 1 hHeld ?_;refine tkc 2 hHeld (fun w' hSw => cell6_of (((BW.out.trans (hSw.mono BW.out.size)).block _ (heap_lt XP.out)).trans XP.out)) ?_;refine tk 3 hHeld ?_;refine tk 4 hHeld ?_;refine tk 5 hHeld ?_;refine tkc 6 hHeld (fun w' hSw => ((BW.out.trans (hSw.mono BW.out.size)).cell (p := ⟨bk, off + i * 7, none⟩) HBK.out).trans H0.out) ?_
        have tb := (Below.refl wx.heap.size wx).drew
        generalize wx.drew = q0 at tb hHeld ⊢
        have HB := Lib.hid tb
        clear tb
        refine wpAnyH_ready (rs := [7, 11]) (by kernel_rfl) (by simp) ?_
        refine AllReadyH.cons rfl (fun K hK => ?_) (AllReadyH.cons rfl (fun K hK => ?_) AllReadyH.nil)
        ·go_simp
         refine (hc.uses _ b r.id q0 ((VP.out.below (BW.out.trans (HB.out.mono BW.out.size))).more (BW.out.trans (HB.out.mono BW.out.size)).size)).mono ?_
         rintro e qA ⟨u0, u1, u2, u3, rfl, hu, b⟩
         rw [US.out.2] at hu
         rw [US.out.1]
         obtain ⟨U0, un0, ud0, rfl⟩ := in_slC hu.secs
         obtain ⟨U1, un1, ud1, rfl⟩ := in_slC hu.pts
         obtain ⟨U2, un2, ud2, rfl⟩ := in_slC hu.sigs
         obtain ⟨U3, un3, ud3, rfl⟩ := in_slC hu.routes
         have HU := Lib.hid hu
         have tb := HB.out.trans (b.mono HB.out.size)
         clear HB b hu
         have HB := Lib.hid tb
         clear tb
         try go_wp2_with fail
         refine hK.out _ _ ?_ fun hHeld => ?_;exact HB.out;clear hK K;try simp only [zn, Act.put]
         refine tk 8 hHeld ?_;refine tk 9 hHeld ?_;refine tk 10 hHeld ?_
         refine tkr 11 (fun K hK => ?_)
         go_simp
         have tb := HB.out.alloc HB.out.size (.cells #[.slice none 0 0, .slice none 0 0, .slice none 0 0, .slice none 0 0] 24)
         have t9 := heap_alloc_self qA (.cells #[.slice none 0 0, .slice none 0 0, .slice none 0 0, .slice none 0 0] 24)
         have tU := (HU.out.below (below_new qA (.cells #[.slice none 0 0, .slice none 0 0, .slice none 0 0, .slice none 0 0] 24))).more (below_new qA (.cells #[.slice none 0 0, .slice none 0 0, .slice none 0 0, .slice none 0 0] 24)).size
         refine hK.out _ _ ?_ fun hHeld => ?_;exact tb;clear hK K;try simp only [zn, Act.put]
         generalize qA.alloc (.cells #[.slice none 0 0, .slice none 0 0, .slice none 0 0, .slice none 0 0] 24) = qB at tb t9 tU hHeld ⊢
         obtain ⟨p15, hp_⟩ : ∃ n, n = qA.heap.size := ⟨_, rfl⟩
         rw [← hp_] at t9 ⊢
         have PLB : Hid (wx.heap.size ≤ p15) := Lib.hid (by rw [hp_]; exact HB.out.size)
         clear HB hp_ HU
         have HB := Lib.hid tb
         have XB := Lib.hid t9
         clear tb t9
         have HU := Lib.hid tU
         clear tU
         refine tkr 12 (fun K hK => ?_)
         rw [if_pos (by rfl)]
         refine wp_store_rowP 24 (.tmp 15) (.tmp 101) rfl p15 rfl (c' := #[.slice U0 un0 ud0, .slice U1 un1 ud1, .slice U2 un2 ud2, .slice U3 un3 ud3]) rfl XB.out infoArea4 rfl (by simp [Value.oneCell']) ?_
         have tb := below_setRow HB.out PLB.out #[.slice U0 un0 ud0, .slice U1 un1 ud1, .slice U2 un2 ud2, .slice U3 un3 ud3]
         have t9 := setRow_heap qB _ _ #[.slice U0 un0 ud0, .slice U1 un1 ud1, .slice U2 un2 ud2, .slice U3 un3 ud3] _ _ XB.out
         have tU := (HU.out.set14 (c' := #[.slice U0 un0 ud0, .slice U1 un1 ud1, .slice U2 un2 ud2, .slice U3 un3 ud3]) XB.out).more (grownBy_setRow qB p15 #[.slice U0 un0 ud0, .slice U1 un1 ud1, .slice U2 un2 ud2, .slice U3 un3 ud3]).size
         refine hK.out _ _ ?_ fun hHeld => ?_;exact tb;clear hK K;try simp only [zn, Act.put]
         generalize qB.setRow p15 #[.slice U0 un0 ud0, .slice U1 un1 ud1, .slice U2 un2 ud2, .slice U3 un3 ud3] = qZ at tb t9 tU hHeld ⊢
         refine tk 13 hHeld ?_
         refine wpAnyH_done (by kernel_rfl) ?_ _
         go_wp2_with fail
         go_meet
         exact ⟨p15, _, _, _, _, _, _, _, _, _, _, _, _, rfl, rfl, t9, tU, PLB.out, tb⟩
        ·go_simp
         have tb := HB.out.alloc HB.out.size (.cells #[.slice none 0 0, .slice none 0 0, .slice none 0 0, .slice none 0 0] 24)
         have t9 := heap_alloc_self q0 (.cells #[.slice none 0 0, .slice none 0 0, .slice none 0 0, .slice none 0 0] 24)
         refine hK.out _ _ ?_ fun hHeld => ?_;exact tb;clear hK K;try simp only [zn, Act.put]
         generalize q0.alloc (.cells #[.slice none 0 0, .slice none 0 0, .slice none 0 0, .slice none 0 0] 24) = qA at tb t9 hHeld ⊢
         obtain ⟨p15, hp_⟩ : ∃ n, n = q0.heap.size := ⟨_, rfl⟩
         rw [← hp_] at t9 ⊢
         have PLB : Hid (wx.heap.size ≤ p15) := Lib.hid (by rw [hp_]; exact HB.out.size)
         clear HB hp_
         have HB := Lib.hid tb
         have XB := Lib.hid t9
         clear tb t9
         refine tkr 7 (fun K hK => ?_)
         go_simp
         refine (hc.uses _ b r.id qA ((VP.out.below (BW.out.trans (HB.out.mono BW.out.size))).more (BW.out.trans (HB.out.mono BW.out.size)).size)).mono ?_
         rintro e qB ⟨u0, u1, u2, u3, rfl, hu, b⟩
         rw [US.out.2] at hu
         rw [US.out.1]
         obtain ⟨U0, un0, ud0, rfl⟩ := in_slC hu.secs
         obtain ⟨U1, un1, ud1, rfl⟩ := in_slC hu.pts
         obtain ⟨U2, un2, ud2, rfl⟩ := in_slC hu.sigs
         obtain ⟨U3, un3, ud3, rfl⟩ := in_slC hu.routes
         have HU := Lib.hid hu
         have tb := HB.out.trans (b.mono HB.out.size)
         have tX := (b.block _ (heap_lt XB.out)).trans XB.out
         clear XB
         have XB := Lib.hid tX
         clear tX
         clear HB b hu
         have HB := Lib.hid tb
         clear tb
         try go_wp2_with fail
         refine hK.out _ _ ?_ fun hHeld => ?_;exact HB.out;clear hK K;try simp only [zn, Act.put]
         refine tk 8 hHeld ?_;refine tk 9 hHeld ?_;refine tk 10 hHeld ?_
         refine tkr 12 (fun K hK => ?_)
         rw [if_pos (by rfl)]
         refine wp_store_rowP 24 (.tmp 15) (.tmp 101) rfl p15 rfl (c' := #[.slice U0 un0 ud0, .slice U1 un1 ud1, .slice U2 un2 ud2, .slice U3 un3 ud3]) rfl XB.out infoArea4 rfl (by simp [Value.oneCell']) ?_
         have tb := below_setRow HB.out PLB.out #[.slice U0 un0 ud0, .slice U1 un1 ud1, .slice U2 un2 ud2, .slice U3 un3 ud3]
         have t9 := setRow_heap qB _ _ #[.slice U0 un0 ud0, .slice U1 un1 ud1, .slice U2 un2 ud2, .slice U3 un3 ud3] _ _ XB.out
         have tU := (HU.out.set14 (c' := #[.slice U0 un0 ud0, .slice U1 un1 ud1, .slice U2 un2 ud2, .slice U3 un3 ud3]) XB.out).more (grownBy_setRow qB p15 #[.slice U0 un0 ud0, .slice U1 un1 ud1, .slice U2 un2 ud2, .slice U3 un3 ud3]).size
         refine hK.out _ _ ?_ fun hHeld => ?_;exact tb;clear hK K;try simp only [zn, Act.put]
         generalize qB.setRow p15 #[.slice U0 un0 ud0, .slice U1 un1 ud1, .slice U2 un2 ud2, .slice U3 un3 ud3] = qZ at tb t9 tU hHeld ⊢
         refine tk 13 hHeld ?_
         refine wpAnyH_done (by kernel_rfl) ?_ _
         go_wp2_with fail
         go_meet
         exact ⟨p15, _, _, _, _, _, _, _, _, _, _, _, _, rfl, rfl, t9, tU, PLB.out, tb⟩
       case rest =>
        obtain ⟨p15, U0, un0, ud0, U1, un1, ud1, U2, un2, ud2, U3, un3, ud3, rfl, rfl, h15, hu, -, hb⟩ := hcut
        obtain ⟨wz, hwz⟩ : ∃ x, x = wc := ⟨_, rfl⟩
        rw [← hwz] at h15 hu hb ⊢
        clear hwz wc
        have X15 := Lib.hid h15
        have A15 := Lib.hid hu
        have BZ := Lib.hid (BW.out.trans (hb.mono BW.out.size))
        clear h15 hu hb BW
        obtain ⟨mv, hmv⟩ : ∃ q_, q_ = metP a b b r := ⟨_, rfl⟩
        have HMV := Lib.hid hmv
        clear hmv
        obtain ⟨l0, l1, l2, l3⟩ := cell4A X15.out
        go_wp2_with fail
        refine (meets14_any hc _ _ (arOf (useB b r)) (diffL a b) wz ⟨_, _, _, _, rfl, A15.out⟩ ((LD8.out.below diffR BZ.out).more diffR BZ.out.size) HDK.out).mono ?_
        rintro e wy ⟨rfl, bN⟩
        rw [show metL (diffL a b) (arOf (useB b r)) = mv from HMV.out.symm]
        have BY := Lib.hid (BZ.out.trans (bN.mono BZ.out.size))
        have Y15 := Lib.hid ((bN.block _ (heap_lt X15.out)).trans X15.out)
        have C15 := Lib.hid ((A15.out.below bN).more bN.size)
        clear bN X15 A15 BZ l0 l1 l2 l3
        cases mv with
        | true =>
         have HIN := Lib.hid (CLS.out.yes r HR.out HMV.out.symm)
         obtain ⟨l0, l1, l2, l3⟩ := cell4A Y15.out
         obtain ⟨e0, e1, e2, e3⟩ := cell4A ((BY.out.block _ (heap_lt Y6.out)).trans Y6.out)
         go_wp2_with fail
         refine (within14_any hc _ _ (arOf (useB b r)) lx wy ⟨_, _, _, _, rfl, C15.out⟩ ⟨_, _, _, _, rfl, (B6_.out.below BY.out).more BY.out.size⟩ HIN.out).mono ?_
         rintro e wv ⟨rfl, bN⟩
         have BE := Lib.hid (BY.out.trans (bN.mono BY.out.size))
         clear bN l0 l1 l2 l3 e0 e1 e2 e3
         go_wp2_with fail
         go_roundw
         case measure => simp [intOf]; omega
         case rel => exact ⟨i + 1, by go_num, by omega, BE.out⟩
        | false =>
         have NO := Lib.hid (CLS.out.no r HR.out HMV.out.symm)
         obtain ⟨wx, hwx⟩ : ∃ z, z = wy := ⟨_, rfl⟩
         rw [← hwx] at BY ⊢
         have BW := BY
         clear hwx BY Y15 C15 wy
         go_upto_region 30 with fail
         go_cut [17, 18] from 112 to 140 (fun s17 s18 wz => ∃ p17 Q0 qn0 qd0 Q1 qn1 qd1 Q2 qn2 qd2, s17 = .pointer (some ⟨p17, 0, none⟩) ∧ s18 = .int .i64 0 ∧ wz.heap[p17]? = some (.cells #[.int .i64 r.id, .int .i64 r.entry, .int .i64 r.exit, .slice Q0 qn0 qd0, .slice Q1 qn1 qd1, .slice Q2 qn2 qd2, .int .i64 r.timer] 54 (0, 0)) ∧ RtIn wz wz.heap.size (.slice Q0 qn0 qd0) (.slice Q1 qn1 qd1) (.slice Q2 qn2 qd2) r ∧ wx.heap.size ≤ p17 ∧ Below wx.heap.size wx wz)
         case first =>
          refine wp_region_held_drew (S := fun v => Below wx.heap.size wx v) (by kernel_rfl) (Below.refl wx.heap.size wx).drew (fun hHeld => ?_)
          refine tkc 0 hHeld (fun w' hSw => cell6_of (((BW.out.trans (hSw.mono BW.out.size)).block _ (heap_lt XO.out)).trans XO.out)) ?_;refine tk 1 hHeld ?_;refine tkc 2 hHeld (fun w' hSw => cell6_of (((BW.out.trans (hSw.mono BW.out.size)).block _ (heap_lt XP.out)).trans XP.out)) ?_;refine tk 3 hHeld ?_;refine tk 4 hHeld ?_;refine tk 5 hHeld ?_;refine tkc 6 hHeld (fun w' hSw => ((BW.out.trans (hSw.mono BW.out.size)).cell (p := ⟨bk, off + i * 7, none⟩) HBK.out).trans H0.out) ?_
          have tb := (Below.refl wx.heap.size wx).drew
          generalize wx.drew = q0 at tb hHeld ⊢
          have HB := Lib.hid tb
          clear tb
          refine wpAnyH_ready (rs := [7, 11]) (by kernel_rfl) (by simp) ?_
          refine AllReadyH.cons rfl (fun K hK => ?_) (AllReadyH.cons rfl (fun K hK => ?_) AllReadyH.nil)
          ·go_simp
           refine (hp.route _ a r.id q0 ((VO.out.below (BW.out.trans (HB.out.mono BW.out.size))).more (BW.out.trans (HB.out.mono BW.out.size)).size)).mono ?_
           rintro e qA ⟨y3, y4, y5, rfl, hro, b⟩
           rw [NO.out.2.1] at hro
           rw [NO.out.2.1, NO.out.1]
           have hu := hro.in_
           obtain ⟨Q0, qn0, qd0, rfl⟩ := in_slC hu.path
           obtain ⟨Q1, qn1, qd1, rfl⟩ := in_slC hu.over
           obtain ⟨Q2, qd2, hQ2, -, -⟩ := hu.flanks.slice
           obtain ⟨qn2, hqn⟩ : ∃ n, n = r.flanks.length := ⟨_, rfl⟩
           subst hQ2
           rw [← hqn]
           have hro2 : RtOwn qA q0.heap.size (.slice Q0 qn0 qd0) (.slice Q1 qn1 qd1) (.slice Q2 qn2 qd2) r := by rw [hqn]; exact hro
           clear hqn hro
           have HU := Lib.hid hro2
           clear hro2
           have tb := HB.out.trans (b.mono HB.out.size)
           clear HB b hu
           have HB := Lib.hid tb
           clear tb
           try go_wp2_with fail
           refine hK.out _ _ ?_ fun hHeld => ?_;exact HB.out;clear hK K;try simp only [zn, Act.put]
           refine tk 8 hHeld ?_;refine tk 9 hHeld ?_;refine tk 10 hHeld ?_
           refine tkr 11 (fun K hK => ?_)
           go_simp
           have tb := HB.out.alloc HB.out.size (.cells #[.int .i64 0, .int .i64 0, .int .i64 0, .slice none 0 0, .slice none 0 0, .slice none 0 0, .int .i64 0] 54)
           have t9 := heap_alloc_self qA (.cells #[.int .i64 0, .int .i64 0, .int .i64 0, .slice none 0 0, .slice none 0 0, .slice none 0 0, .int .i64 0] 54)
           have tU := HU.out.below14 (below_new qA (.cells #[.int .i64 0, .int .i64 0, .int .i64 0, .slice none 0 0, .slice none 0 0, .slice none 0 0, .int .i64 0] 54))
           refine hK.out _ _ ?_ fun hHeld => ?_;exact tb;clear hK K;try simp only [zn, Act.put]
           generalize qA.alloc (.cells #[.int .i64 0, .int .i64 0, .int .i64 0, .slice none 0 0, .slice none 0 0, .slice none 0 0, .int .i64 0] 54) = qB at tb t9 tU hHeld ⊢
           obtain ⟨p17, hp_⟩ : ∃ n, n = qA.heap.size := ⟨_, rfl⟩
           rw [← hp_] at t9 ⊢
           have PLB : Hid (wx.heap.size ≤ p17) := Lib.hid (by rw [hp_]; exact HB.out.size)
           clear HB hp_ HU
           have HB := Lib.hid tb
           have XB := Lib.hid t9
           clear tb t9
           have HU := Lib.hid tU
           clear tU
           refine tkr 12 (fun K hK => ?_)
           rw [if_pos (by rfl)]
           refine wp_store_rowP 54 (.tmp 17) (.tmp 121) rfl p17 rfl (c' := #[.int .i64 r.id, .int .i64 r.entry, .int .i64 r.exit, .slice Q0 qn0 qd0, .slice Q1 qn1 qd1, .slice Q2 qn2 qd2, .int .i64 r.timer]) rfl XB.out infoRoute7 rfl (by simp [Value.oneCell']) ?_
           have tb := below_setRow HB.out PLB.out #[.int .i64 r.id, .int .i64 r.entry, .int .i64 r.exit, .slice Q0 qn0 qd0, .slice Q1 qn1 qd1, .slice Q2 qn2 qd2, .int .i64 r.timer]
           have t9 := setRow_heap qB _ _ #[.int .i64 r.id, .int .i64 r.entry, .int .i64 r.exit, .slice Q0 qn0 qd0, .slice Q1 qn1 qd1, .slice Q2 qn2 qd2, .int .i64 r.timer] _ _ XB.out
           have tU := (HU.out.off14 (grownBy_setRow qB p17 #[.int .i64 r.id, .int .i64 r.entry, .int .i64 r.exit, .slice Q0 qn0 qd0, .slice Q1 qn1 qd1, .slice Q2 qn2 qd2, .int .i64 r.timer]) ⟨_, XB.out⟩).in_
           refine hK.out _ _ ?_ fun hHeld => ?_;exact tb;clear hK K;try simp only [zn, Act.put]
           generalize qB.setRow p17 #[.int .i64 r.id, .int .i64 r.entry, .int .i64 r.exit, .slice Q0 qn0 qd0, .slice Q1 qn1 qd1, .slice Q2 qn2 qd2, .int .i64 r.timer] = qZ at tb t9 tU hHeld ⊢
           refine tk 13 hHeld ?_
           refine wpAnyH_done (by kernel_rfl) ?_ _
           go_wp2_with fail
           go_meet
           exact ⟨p17, _, _, _, _, _, _, _, _, _, rfl, rfl, t9, tU, PLB.out, tb⟩
          ·go_simp
           have tb := HB.out.alloc HB.out.size (.cells #[.int .i64 0, .int .i64 0, .int .i64 0, .slice none 0 0, .slice none 0 0, .slice none 0 0, .int .i64 0] 54)
           have t9 := heap_alloc_self q0 (.cells #[.int .i64 0, .int .i64 0, .int .i64 0, .slice none 0 0, .slice none 0 0, .slice none 0 0, .int .i64 0] 54)
           refine hK.out _ _ ?_ fun hHeld => ?_;exact tb;clear hK K;try simp only [zn, Act.put]
           generalize q0.alloc (.cells #[.int .i64 0, .int .i64 0, .int .i64 0, .slice none 0 0, .slice none 0 0, .slice none 0 0, .int .i64 0] 54) = qA at tb t9 hHeld ⊢
           obtain ⟨p17, hp_⟩ : ∃ n, n = q0.heap.size := ⟨_, rfl⟩
           rw [← hp_] at t9 ⊢
           have PLB : Hid (wx.heap.size ≤ p17) := Lib.hid (by rw [hp_]; exact HB.out.size)
           clear HB hp_
           have HB := Lib.hid tb
           have XB := Lib.hid t9
           clear tb t9
           refine tkr 7 (fun K hK => ?_)
           go_simp
           refine (hp.route _ a r.id qA ((VO.out.below (BW.out.trans (HB.out.mono BW.out.size))).more (BW.out.trans (HB.out.mono BW.out.size)).size)).mono ?_
           rintro e qB ⟨y3, y4, y5, rfl, hro, b⟩
           rw [NO.out.2.1] at hro
           rw [NO.out.2.1, NO.out.1]
           have hu := hro.in_
           obtain ⟨Q0, qn0, qd0, rfl⟩ := in_slC hu.path
           obtain ⟨Q1, qn1, qd1, rfl⟩ := in_slC hu.over
           obtain ⟨Q2, qd2, hQ2, -, -⟩ := hu.flanks.slice
           obtain ⟨qn2, hqn⟩ : ∃ n, n = r.flanks.length := ⟨_, rfl⟩
           subst hQ2
           rw [← hqn]
           have hro2 : RtOwn qB qA.heap.size (.slice Q0 qn0 qd0) (.slice Q1 qn1 qd1) (.slice Q2 qn2 qd2) r := by rw [hqn]; exact hro
           clear hqn hro
           have HU := Lib.hid hro2
           clear hro2
           have tb := HB.out.trans (b.mono HB.out.size)
           have tX := (b.block _ (heap_lt XB.out)).trans XB.out
           clear XB
           have XB := Lib.hid tX
           clear tX
           clear HB b hu
           have HB := Lib.hid tb
           clear tb
           try go_wp2_with fail
           refine hK.out _ _ ?_ fun hHeld => ?_;exact HB.out;clear hK K;try simp only [zn, Act.put]
           refine tk 8 hHeld ?_;refine tk 9 hHeld ?_;refine tk 10 hHeld ?_
           refine tkr 12 (fun K hK => ?_)
           rw [if_pos (by rfl)]
           refine wp_store_rowP 54 (.tmp 17) (.tmp 121) rfl p17 rfl (c' := #[.int .i64 r.id, .int .i64 r.entry, .int .i64 r.exit, .slice Q0 qn0 qd0, .slice Q1 qn1 qd1, .slice Q2 qn2 qd2, .int .i64 r.timer]) rfl XB.out infoRoute7 rfl (by simp [Value.oneCell']) ?_
           have tb := below_setRow HB.out PLB.out #[.int .i64 r.id, .int .i64 r.entry, .int .i64 r.exit, .slice Q0 qn0 qd0, .slice Q1 qn1 qd1, .slice Q2 qn2 qd2, .int .i64 r.timer]
           have t9 := setRow_heap qB _ _ #[.int .i64 r.id, .int .i64 r.entry, .int .i64 r.exit, .slice Q0 qn0 qd0, .slice Q1 qn1 qd1, .slice Q2 qn2 qd2, .int .i64 r.timer] _ _ XB.out
           have tU := (HU.out.off14 (grownBy_setRow qB p17 #[.int .i64 r.id, .int .i64 r.entry, .int .i64 r.exit, .slice Q0 qn0 qd0, .slice Q1 qn1 qd1, .slice Q2 qn2 qd2, .int .i64 r.timer]) ⟨_, XB.out⟩).in_
           refine hK.out _ _ ?_ fun hHeld => ?_;exact tb;clear hK K;try simp only [zn, Act.put]
           generalize qB.setRow p17 #[.int .i64 r.id, .int .i64 r.entry, .int .i64 r.exit, .slice Q0 qn0 qd0, .slice Q1 qn1 qd1, .slice Q2 qn2 qd2, .int .i64 r.timer] = qZ at tb t9 tU hHeld ⊢
           refine tk 13 hHeld ?_
           refine wpAnyH_done (by kernel_rfl) ?_ _
           go_wp2_with fail
           go_meet
           exact ⟨p17, _, _, _, _, _, _, _, _, _, rfl, rfl, t9, tU, PLB.out, tb⟩
         case rest =>
          obtain ⟨p17, Q0, qn0, qd0, Q1, qn1, qd1, Q2, qn2, qd2, rfl, rfl, h17, hu, -, hb⟩ := hcut
          obtain ⟨wz, hwz⟩ : ∃ x, x = wc := ⟨_, rfl⟩
          rw [← hwz] at h17 hu hb ⊢
          clear hwz wc
          have X17 := Lib.hid h17
          have R17 := Lib.hid hu
          have BZ := Lib.hid (BW.out.trans (hb.mono BW.out.size))
          clear h17 hu hb BW
          go_upto_region 31 with fail
          refine wp_region_held_drew (S := fun v => Below wz.heap.size wz v) (by kernel_rfl) (Below.refl wz.heap.size wz).drew (fun hHeld => ?_)
          refine tk 0 hHeld ?_;refine tk 1 hHeld ?_;refine tk 2 hHeld ?_;refine tkc 3 hHeld (fun w' hSw => cell7_of ((hSw.block _ (heap_lt X17.out)).trans X17.out)) ?_;refine tk 4 hHeld ?_;refine tkc 5 hHeld (fun w' hSw => cell6_of (((BZ.out.trans (hSw.mono BZ.out.size)).block _ (heap_lt XP.out)).trans XP.out)) ?_;refine tk 6 hHeld ?_;refine tk 7 hHeld ?_
          refine wpAnyH_take (i := 8) (v := ?_) rfl (by kernel_rfl) (by kernel_rfl) (by kernel_rfl) (fun _ _ _ h => h) (Or.inl ⟨by rfl, ?_⟩) hHeld ?_
          rotate_left
          ·intro w' hSw; have cc0 := ((BZ.out.trans (hSw.mono BZ.out.size)).cell (p := ⟨bk, off + i * 7, none⟩) HBK.out).trans RTA.out.1; have cc1 := ((BZ.out.trans (hSw.mono BZ.out.size)).cell (p := ⟨bk, off + i * 7 + 1, none⟩) HBK.out).trans RTA.out.2.1; have cc2 := ((BZ.out.trans (hSw.mono BZ.out.size)).cell (p := ⟨bk, off + i * 7 + 2, none⟩) HBK.out).trans RTA.out.2.2.1; have cc3 := ((BZ.out.trans (hSw.mono BZ.out.size)).cell (p := ⟨bk, off + i * 7 + 3, none⟩) HBK.out).trans RTA.out.2.2.2.1; have cc4 := ((BZ.out.trans (hSw.mono BZ.out.size)).cell (p := ⟨bk, off + i * 7 + 4, none⟩) HBK.out).trans RTA.out.2.2.2.2.1; have cc5 := ((BZ.out.trans (hSw.mono BZ.out.size)).cell (p := ⟨bk, off + i * 7 + 5, none⟩) HBK.out).trans RTA.out.2.2.2.2.2.1; have cc6 := ((BZ.out.trans (hSw.mono BZ.out.size)).cell (p := ⟨bk, off + i * 7 + 6, none⟩) HBK.out).trans RTA.out.2.2.2.2.2.2; go_simp; try with_reducible rfl
          simp only [zn, Act.put]
          have tb := (Below.refl wz.heap.size wz).drew
          generalize wz.drew = q0 at tb hHeld ⊢
          have HB := Lib.hid tb
          clear tb
          refine tkr 9 (fun K hK => ?_)
          rw [if_pos (by rfl)]
          go_simp
          refine (rsameroute_any _ _ r r q0 ⟨_, _, _, rfl, (R17.out.below HB.out).more HB.out.size⟩ ⟨_, _, _, rfl, (RI.out.below (BZ.out.trans (HB.out.mono BZ.out.size))).more (BZ.out.trans (HB.out.mono BZ.out.size)).size⟩).mono ?_
          rintro e q1 ⟨rfl, b⟩
          rw [eqB_iff.2 (rfl : r = r)]
          have HB1 := Lib.hid (HB.out.trans (b.mono HB.out.size))
          clear b HB
          try go_wp2_with fail
          refine hK.out _ _ ?_ fun hHeld => ?_;exact HB1.out;clear hK K;try simp only [zn, Act.put]
          refine tk 10 hHeld ?_;refine tk 11 hHeld ?_;refine tk 12 hHeld ?_;refine tkc 13 hHeld (fun w' hSw => cell4A (((BZ.out.trans (hSw.mono BZ.out.size)).block _ (heap_lt Y6.out)).trans Y6.out)) ?_;refine tk 14 hHeld ?_;refine tkc 15 hHeld (fun w' hSw => cell7_of ((hSw.block _ (heap_lt X17.out)).trans X17.out)) ?_
          refine tkr 16 (fun K hK => ?_)
          rw [if_pos (by rfl)]
          go_simp
          refine (hc.has _ lx 4 r.id q1 ⟨_, _, _, _, rfl, (B6_.out.below (BZ.out.trans (HB1.out.mono BZ.out.size))).more (BZ.out.trans (HB1.out.mono BZ.out.size)).size⟩ (by decide) (by decide)).mono ?_
          rintro e q2 ⟨rfl, b⟩
          rw [NO.out.2.2]
          have HB2 := Lib.hid (HB1.out.trans (b.mono HB1.out.size))
          clear b HB1
          try go_wp2_with fail
          refine hK.out _ _ ?_ fun hHeld => ?_;exact HB2.out;clear hK K;try simp only [zn, Act.put]
          refine tk 17 hHeld ?_
          refine wpAnyH_done (by kernel_rfl) ?_ _
          have BE := Lib.hid (BZ.out.trans (HB2.out.mono BZ.out.size))
          go_wp2_with fail
          go_roundw
          case measure => simp [intOf]; omega
          case rel => exact ⟨i + 1, by go_num, by omega, BE.out⟩
      ·obtain rfl : mR = i := by omega
       have hlt' : ¬ (mR : Int) < mR := by omega
       have BE := Lib.hid (BW8.out.trans (BW.out.mono BW8.out.size))
       go_wp2_with fail
       go_roundw
       case measure => simp [intOf]
       case rel => exact ⟨2, by first | rfl | go_num, by omega, BE.out⟩
    ·subst hi2
     clear hn
     have BF := Lib.hid (BQ.out.trans (BW.out.mono BQ.out.size))
     go_wp2_with fail
     go_ret
     exact ⟨rfl, BF.out⟩
end Go.Proofs.YtneeocnjfnneoaaGreat
