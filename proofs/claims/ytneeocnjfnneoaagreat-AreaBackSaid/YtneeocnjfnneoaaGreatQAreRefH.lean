/-
 The document's own package area: Of, Asked.
 Conditions: none.
-/
import Derived.Test.YtneeocnjfnneoaaGreatQAreRefG
set_option linter.unusedVariables false
set_option linter.unusedSimpArgs false
set_option maxRecDepth 100000
namespace Go.Proofs.YtneeocnjfnneoaaGreat
open Go.RowKit

theorem len14_of (u : Int → Int → Bool) : Len14 400 (arOf u) := by
 have h := arOf_len u
 exact ⟨by omega, by omega, by omega, by omega⟩
theorem used_len {p : Pl} (h : PlanMay p) {r : Rt} (hr : r ∈ p.routes) : Len14 400 (usedA p r) := by
 rw [used_is h hr]
 have h := arOf_len (useB p r)
 exact ⟨by omega, by omega, by omega, by omega⟩
theorem acc_len {a b : Pl} (ha : PlanMay a) (hb : PlanMay b) (i : Nat) : Len14 400 (goA a a b (arOf (chB a b)) (a.routes.take i)) := by
 rw [go_is ha ha hb _ _ fun r hr => List.mem_of_mem_take hr]
 exact len14_of _
theorem acc_len2 {a b : Pl} (ha : PlanMay a) (hb : PlanMay b) (i : Nat) : Len14 400 (goA b a b (goA a a b (arOf (chB a b)) a.routes) (b.routes.take i)) := by
 rw [go_is ha ha hb _ _ fun r hr => hr, go_is hb ha hb _ _ fun r hr => List.mem_of_mem_take hr]
 exact len14_of _
set_option maxHeartbeats 16000000 in
theorem rof14_any (v y : Value) (a b : Pl) (w : World) (h : PlanV w w.heap.size v a) (h' : PlanV w w.heap.size y b) (ha : PlanMay a) (hb : PlanMay b) :
  Calls Tryz.prog 41 #[v, y] w fun e w' => ∃ u0 u1 u2 u3, e = .returned (.agg #[u0, u1, u2, u3]) ∧ ArOwn w' w.heap.size u0 u1 u2 u3 (arOf (areaB a b)) ∧ Below w.heap.size w w' := by
 have HA := Lib.hid ha
 have HB_ := Lib.hid hb
 clear ha hb
 obtain ⟨u2, u3, u4, u5, rfl, hin⟩ := h
 obtain ⟨z2, z3, z4, z5, rfl, hin'⟩ := h'
 obtain ⟨AR, cR, rfl, -, -⟩ := hin.routes.slice
 obtain ⟨BR, eR, rfl, -, -⟩ := hin'.routes.slice
 obtain ⟨nR, hnR⟩ : ∃ n, n = a.routes.length := ⟨_, rfl⟩
 obtain ⟨mR, hmR⟩ : ∃ n, n = b.routes.length := ⟨_, rfl⟩
 have NA : Hid (nR = a.routes.length) := Lib.hid hnR
 have NB : Hid (mR = b.routes.length) := Lib.hid hmR
 have hn9 : nR ≤ 16 := by rw [hnR]; exact HA.out.n
 have hm9 : mR ≤ 16 := by rw [hmR]; exact HB_.out.n
 rw [← hnR] at hin ⊢
 rw [← hmR] at hin' ⊢
 clear hnR hmR
 obtain ⟨q, hq, h0, h1, h2, hsz, hqb⟩ := boxes3 w (.cells #[.int .i64 a.ver, .int .i64 a.par, u2, u3, u4, .slice AR nR cR] 33) (.cells #[.int .i64 b.ver, .int .i64 b.par, z2, z3, z4, .slice BR mR eR] 33) (.cells #[.slice none 0 0, .slice none 0 0, .slice none 0 0, .slice none 0 0] 24)
 go_enter Tryz.func41, Tryz.ntmps41
 go_upto_region 1 with fail
 rw [← hq]
 obtain ⟨lo, hlo⟩ : ∃ n, n = q.heap.size := ⟨_, rfl⟩
 have X0 := Lib.hid h0
 have X1 := Lib.hid h1
 have X4 := Lib.hid h2
 have BQ := Lib.hid hqb
 have P0 : Hid (w.heap.size < lo) := Lib.hid (by omega)
 have P1 : Hid (w.heap.size + 1 < lo) := Lib.hid (by omega)
 have P4 : Hid (w.heap.size + 1 + 1 < lo) := Lib.hid (by omega)
 have WL : Hid (w.heap.size ≤ lo) := Lib.hid (by omega)
 have LQ : Hid (lo ≤ q.heap.size) := Lib.hid (by omega)
 have LQ2 : Hid (q.heap.size = lo) := Lib.hid hlo.symm
 have IA := Lib.hid (hin.below hqb)
 have IB := Lib.hid (hin'.below hqb)
 clear h0 h1 h2 hq hqb hin hin' hsz hlo
 obtain ⟨k0, k1, k2, k3, k4, k5⟩ := cell6_of X0.out
 obtain ⟨l0, l1, l2, l3, l4, l5⟩ := cell6_of X1.out
 have HC := rchanges14_any (.agg #[.int .i64 a.ver, .int .i64 a.par, u2, u3, u4, .slice AR nR cR]) (.agg #[.int .i64 b.ver, .int .i64 b.par, z2, z3, z4, .slice BR mR eR]) a b q ⟨_, _, _, _, rfl, IA.out.more (Nat.le_trans WL.out LQ.out)⟩ ⟨_, _, _, _, rfl, IB.out.more (Nat.le_trans WL.out LQ.out)⟩
 rw [LQ2.out] at HC
 go_upto_region 2 with (first | (go_at_call 69; refine HC.mono ?_; rintro e v1 ⟨c0, c1, c2, c3, rfl, ho, b_⟩; have OC := Lib.hid ho; have BC := Lib.hid b_; clear ho b_ HC k0 k1 k2 k3 k4 k5 l0 l1 l2 l3 l4 l5; obtain ⟨C0, i0, j0, rfl⟩ := own_sl OC.out.secs; obtain ⟨C1, i1, j1, rfl⟩ := own_sl OC.out.pts; obtain ⟨C2, i2, j2, rfl⟩ := own_sl OC.out.sigs; obtain ⟨C3, i3, j3, rfl⟩ := own_sl OC.out.routes; skip) | ((with_reducible show wpList _ _ _ (⟨none, _, _, _, _, _⟩ :: _) _ _); refine wpList_store_rowS rfl _ (.tmp 5) (.tmp 13) rfl v1.heap.size rfl (c' := #[.slice C0 i0 j0, .slice C1 i1 j1, .slice C2 i2 j2, .slice C3 i3 j3]) rfl (heap_alloc_self v1 (.cells #[.slice none 0 0, .slice none 0 0, .slice none 0 0, .slice none 0 0] 24)) infoArea4 rfl (by simp [Value.oneCell']) ?_))
 rw [World.setRow_alloc_new]
 have s5 := heap_alloc_self v1 (.cells #[.slice C0 i0 j0, .slice C1 i1 j1, .slice C2 i2 j2, .slice C3 i3 j3] 24)
 have b5 := below_new v1 (.cells #[.slice C0 i0 j0, .slice C1 i1 j1, .slice C2 i2 j2, .slice C3 i3 j3] 24)
 have o5 := OC.out.below b5
 have e5 := BC.out.trans (b5.mono (Nat.le_trans LQ.out BC.out.size))
 obtain ⟨p5, hp⟩ : ∃ n, n = v1.heap.size := ⟨_, rfl⟩
 rw [← hp] at s5 ⊢
 have P5 : Hid (lo ≤ p5) := Lib.hid (by rw [hp]; exact Nat.le_trans LQ.out BC.out.size)
 generalize v1.alloc (.cells #[.slice C0 i0 j0, .slice C1 i1 j1, .slice C2 i2 j2, .slice C3 i3 j3] 24) = v2 at s5 b5 o5 e5 ⊢
 clear OC BC b5 hp
 obtain ⟨k0, k1, k2, k3⟩ := cell4A s5
 go_upto_region 4 with ((with_reducible show wpList _ _ _ (⟨none, _, _, _, _, _⟩ :: _) _ _); refine wpList_store_rowS rfl _ (.tmp 6) (.tmp 14) rfl v2.heap.size rfl (c' := #[.slice C0 i0 j0, .slice C1 i1 j1, .slice C2 i2 j2, .slice C3 i3 j3]) rfl (heap_alloc_self v2 (.cells #[.slice none 0 0, .slice none 0 0, .slice none 0 0, .slice none 0 0] 24)) infoArea4 rfl (by simp [Value.oneCell']) ?_)
 rw [World.setRow_alloc_new]
 have s6 := heap_alloc_self v2 (.cells #[.slice C0 i0 j0, .slice C1 i1 j1, .slice C2 i2 j2, .slice C3 i3 j3] 24)
 have b6 := below_new v2 (.cells #[.slice C0 i0 j0, .slice C1 i1 j1, .slice C2 i2 j2, .slice C3 i3 j3] 24)
 have o6 := o5.below b6
 have e6 := e5.trans (b6.mono (Nat.le_trans LQ.out e5.size))
 have t5 := (b6.block _ (heap_lt s5)).trans s5
 obtain ⟨p6, hp⟩ : ∃ n, n = v2.heap.size := ⟨_, rfl⟩
 rw [← hp] at s6 ⊢
 have P6 : Hid (lo ≤ p6) := Lib.hid (by rw [hp]; exact Nat.le_trans LQ.out e5.size)
 have P56 : Hid (p5 ≠ p6) := Lib.hid (by have := heap_lt s5; omega)
 generalize v2.alloc (.cells #[.slice C0 i0 j0, .slice C1 i1 j1, .slice C2 i2 j2, .slice C3 i3 j3] 24) = v3 at s6 b6 o6 e6 t5 ⊢
 clear s5 b6 o5 e5 hp k0 k1 k2 k3
 obtain ⟨c0, hc0⟩ : ∃ x, x = Value.slice C0 i0 j0 := ⟨_, rfl⟩
 obtain ⟨c1, hc1⟩ : ∃ x, x = Value.slice C1 i1 j1 := ⟨_, rfl⟩
 obtain ⟨c2, hc2⟩ : ∃ x, x = Value.slice C2 i2 j2 := ⟨_, rfl⟩
 obtain ⟨c3, hc3⟩ : ∃ x, x = Value.slice C3 i3 j3 := ⟨_, rfl⟩
 rw [← hc0, ← hc1, ← hc2, ← hc3] at s6 o6 t5
 have INV0 : Hid (∃ g0 g1 g2 g3, v3.heap[p6]? = some (.cells #[g0, g1, g2, g3] 24 (0, 0)) ∧ ArOwn v3 lo g0 g1 g2 g3 (goA a a b (arOf (chB a b)) (a.routes.take 0)) ∧ v3.heap[p5]? = some (.cells #[c0, c1, c2, c3] 24 (0, 0)) ∧ ArOwn v3 lo c0 c1 c2 c3 (arOf (chB a b)) ∧ Below lo q v3) := Lib.hid ⟨_, _, _, _, s6, o6, t5, o6, e6⟩
 clear hc0 hc1 hc2 hc3 s6 o6 t5 e6
 go_loopw [7, 8] (fun s7 s8 wr => ∃ (i : Nat) (g0 g1 g2 g3 : Value), s7 = .int .i64 i ∧ i ≤ nR ∧ wr.heap[p6]? = some (.cells #[g0, g1, g2, g3] 24 (0, 0)) ∧ wr.heap[p5]? = some (.cells #[c0, c1, c2, c3] 24 (0, 0)) ∧ ArOwn wr lo g0 g1 g2 g3 (goA a a b (arOf (chB a b)) (a.routes.take i)) ∧ ArOwn wr lo c0 c1 c2 c3 (arOf (chB a b)) ∧ Below lo q wr) (fun s7 _ _ => nR - (intOf s7).toNat)
 case atStart =>
  obtain ⟨g0, g1, g2, g3, h6, hg, h5, hc, hb⟩ := INV0.out
  exact ⟨0, g0, g1, g2, g3, by go_num, by omega, h6, h5, hg, hc, hb⟩
 case round =>
  clear INV0
  obtain ⟨i, g0, g1, g2, g3, rfl, hi, h6, h5, hg, hc, hb⟩ := hrel
  have X6 := Lib.hid h6
  have X5 := Lib.hid h5
  have OG := Lib.hid hg
  have OC := Lib.hid hc
  have BW := Lib.hid hb
  clear h6 h5 hg hc hb
  obtain ⟨k0, k1, k2, k3, k4, k5⟩ := cell6_of ((BW.out.block _ P0.out).trans X0.out)
  by_cases hlt : i < nR
  ·have hlt' : (i : Int) < nR := by omega
   have hir : i < a.routes.length := by have := NA.out; omega
   have HR : Hid (a.routes[i] ∈ a.routes) := Lib.hid (List.getElem_mem hir)
   obtain ⟨br, orr, y3, y4, y5, rfl, hbr, hrt, hri⟩ := route_at IA.out.routes hir
   obtain ⟨r, hr⟩ : ∃ r, r = a.routes[i] := ⟨_, rfl⟩
   have GS : Hid ((goA a a b (arOf (chB a b)) (a.routes.take (i + 1))) = if meetA (usedA a r) (arOf (chB a b)) then joinA (goA a a b (arOf (chB a b)) (a.routes.take i)) (usedA a r) else (goA a a b (arOf (chB a b)) (a.routes.take i))) := Lib.hid (by rw [hr]; exact go_snoc hir)
   rw [← hr] at hrt hri HR
   have RT : Hid (RtAt q br (orr + i * 7) r y3 y4 y5 ∧ br < w.heap.size) := Lib.hid ⟨hrt, hbr⟩
   have IR := Lib.hid hri
   have LW : Hid (lo ≤ wr.heap.size) := Lib.hid (Nat.le_trans LQ.out BW.out.size)
   clear hr hrt hri hbr
   go_upto_region 6 with fail
   clear k0 k1 k2 k3 k4 k5
   go_cut [8] from 15 to 34 (fun s8 wz => ∃ p8 e0 e1 e2 e3, s8 = .pointer (some ⟨p8, 0, none⟩) ∧ wz.heap[p8]? = some (.cells #[e0, e1, e2, e3] 24 (0, 0)) ∧ ArOwn wz lo e0 e1 e2 e3 (usedA a r) ∧ wr.heap.size ≤ p8 ∧ Below wr.heap.size wr wz)
   case first =>
    refine wp_region_held_drew (S := fun v => Below wr.heap.size wr v) (by kernel_rfl) (Below.refl wr.heap.size wr).drew (fun hHeld => ?_)
    refine tkc 0 hHeld (fun w' hSw => cell6_of (((BW.out.trans (hSw.mono LW.out)).block _ P0.out).trans X0.out)) ?_;refine tk 1 hHeld ?_;refine tkc 2 hHeld (fun w' hSw => cell6_of (((BW.out.trans (hSw.mono LW.out)).block _ P0.out).trans X0.out)) ?_;refine tk 3 hHeld ?_;refine tk 4 hHeld ?_;refine tkc 5 hHeld (fun w' hSw => (RT.out.1.below (BW.out.trans (hSw.mono LW.out)) (Nat.lt_of_lt_of_le RT.out.2 WL.out)).cells) ?_
    have tb := (Below.refl wr.heap.size wr).drew
    generalize wr.drew = q0 at tb hHeld ⊢
    have HB := Lib.hid tb
    clear tb
    refine wpAnyH_ready (rs := [6, 7]) (by kernel_rfl) (by simp) ?_
    refine AllReadyH.cons rfl (fun K hK => ?_) (AllReadyH.cons rfl (fun K hK => ?_) AllReadyH.nil)
    ·go_simp
     refine (rused14_any (.agg #[.int .i64 a.ver, .int .i64 a.par, u2, u3, u4, .slice (some ⟨br, orr, none⟩) nR cR]) (.agg #[.int .i64 r.id, .int .i64 r.entry, .int .i64 r.exit, y3, y4, y5, .int .i64 r.timer]) a r q0 ⟨_, _, _, _, rfl, (IA.out.below ((BW.out.trans (HB.out.mono LW.out)).mono WL.out)).more (Nat.le_trans WL.out (Nat.le_trans LW.out HB.out.size))⟩ ⟨_, _, _, rfl, (IR.out.below ((BW.out.trans (HB.out.mono LW.out)).mono WL.out)).more (Nat.le_trans WL.out (Nat.le_trans LW.out HB.out.size))⟩ HA.out HR.out).mono ?_
     rintro e qA ⟨e0, e1, e2, e3, rfl, ho, b⟩
     have tb := HB.out.trans (b.mono HB.out.size)
     have OU := Lib.hid (ho.mono (Nat.le_trans LW.out HB.out.size))
     clear HB b ho
     have HB := Lib.hid tb
     clear tb
     obtain ⟨E0, x0, f0, rfl⟩ := own_sl OU.out.secs; obtain ⟨E1, x1, f1, rfl⟩ := own_sl OU.out.pts; obtain ⟨E2, x2, f2, rfl⟩ := own_sl OU.out.sigs; obtain ⟨E3, x3, f3, rfl⟩ := own_sl OU.out.routes
     try go_wp2_with fail
     refine hK.out _ _ ?_ fun hHeld => ?_;exact HB.out;clear hK K;try simp only [zn, Act.put]
     refine tkr 7 (fun K hK => ?_)
     go_simp
     have tb := HB.out.alloc HB.out.size (.cells #[.slice none 0 0, .slice none 0 0, .slice none 0 0, .slice none 0 0] 24)
     have t9 := heap_alloc_self qA (.cells #[.slice none 0 0, .slice none 0 0, .slice none 0 0, .slice none 0 0] 24)
     have tO := OU.out.below (below_new qA (.cells #[.slice none 0 0, .slice none 0 0, .slice none 0 0, .slice none 0 0] 24))
     refine hK.out _ _ ?_ fun hHeld => ?_;exact tb;clear hK K;try simp only [zn, Act.put]
     generalize qA.alloc (.cells #[.slice none 0 0, .slice none 0 0, .slice none 0 0, .slice none 0 0] 24) = qB at tb t9 tO hHeld ⊢
     obtain ⟨p8, hp⟩ : ∃ n, n = qA.heap.size := ⟨_, rfl⟩
     rw [← hp] at t9 ⊢
     have PLB : Hid (wr.heap.size ≤ p8) := Lib.hid (by rw [hp]; exact HB.out.size)
     clear HB hp OU
     have HB := Lib.hid tb
     have XB := Lib.hid t9
     clear tb t9
     have OU := Lib.hid tO
     clear tO
     refine tkr 8 (fun K hK => ?_)
     rw [if_pos (by rfl)]
     refine wp_store_rowP 24 (.tmp 8) (.tmp 28) rfl p8 rfl (c' := #[.slice E0 x0 f0, .slice E1 x1 f1, .slice E2 x2 f2, .slice E3 x3 f3]) rfl XB.out infoArea4 rfl (by simp [Value.oneCell']) ?_
     have tb := below_setRow HB.out PLB.out #[.slice E0 x0 f0, .slice E1 x1 f1, .slice E2 x2 f2, .slice E3 x3 f3]
     have t9 := setRow_heap qB _ _ #[.slice E0 x0 f0, .slice E1 x1 f1, .slice E2 x2 f2, .slice E3 x3 f3] _ _ XB.out
     have tO := OU.out.off (grownBy_setRow qB p8 #[.slice E0 x0 f0, .slice E1 x1 f1, .slice E2 x2 f2, .slice E3 x3 f3]) ⟨_, XB.out⟩
     refine hK.out _ _ ?_ fun hHeld => ?_;exact tb;clear hK K;try simp only [zn, Act.put]
     generalize qB.setRow p8 #[.slice E0 x0 f0, .slice E1 x1 f1, .slice E2 x2 f2, .slice E3 x3 f3] = qZ at tb t9 tO hHeld ⊢
     refine wpAnyH_done (by kernel_rfl) ?_ _
     go_wp2_with fail
     go_meet
     exact ⟨p8, _, _, _, _, rfl, t9, tO, PLB.out, tb⟩
    ·go_simp
     have tb := HB.out.alloc HB.out.size (.cells #[.slice none 0 0, .slice none 0 0, .slice none 0 0, .slice none 0 0] 24)
     have t9 := heap_alloc_self q0 (.cells #[.slice none 0 0, .slice none 0 0, .slice none 0 0, .slice none 0 0] 24)
     refine hK.out _ _ ?_ fun hHeld => ?_;exact tb;clear hK K;try simp only [zn, Act.put]
     generalize q0.alloc (.cells #[.slice none 0 0, .slice none 0 0, .slice none 0 0, .slice none 0 0] 24) = qA at tb t9 hHeld ⊢
     obtain ⟨p8, hp⟩ : ∃ n, n = q0.heap.size := ⟨_, rfl⟩
     rw [← hp] at t9 ⊢
     have PLB : Hid (wr.heap.size ≤ p8) := Lib.hid (by rw [hp]; exact HB.out.size)
     clear HB hp
     have HB := Lib.hid tb
     have XB := Lib.hid t9
     clear tb t9
     refine tkr 6 (fun K hK => ?_)
     go_simp
     refine (rused14_any (.agg #[.int .i64 a.ver, .int .i64 a.par, u2, u3, u4, .slice (some ⟨br, orr, none⟩) nR cR]) (.agg #[.int .i64 r.id, .int .i64 r.entry, .int .i64 r.exit, y3, y4, y5, .int .i64 r.timer]) a r qA ⟨_, _, _, _, rfl, (IA.out.below ((BW.out.trans (HB.out.mono LW.out)).mono WL.out)).more (Nat.le_trans WL.out (Nat.le_trans LW.out HB.out.size))⟩ ⟨_, _, _, rfl, (IR.out.below ((BW.out.trans (HB.out.mono LW.out)).mono WL.out)).more (Nat.le_trans WL.out (Nat.le_trans LW.out HB.out.size))⟩ HA.out HR.out).mono ?_
     rintro e qB ⟨e0, e1, e2, e3, rfl, ho, b⟩
     have tb := HB.out.trans (b.mono HB.out.size)
     have OU := Lib.hid (ho.mono (Nat.le_trans LW.out HB.out.size))
     have tX := (b.block _ (heap_lt XB.out)).trans XB.out
     clear XB
     have XB := Lib.hid tX
     clear tX
     clear HB b ho
     have HB := Lib.hid tb
     clear tb
     obtain ⟨E0, x0, f0, rfl⟩ := own_sl OU.out.secs; obtain ⟨E1, x1, f1, rfl⟩ := own_sl OU.out.pts; obtain ⟨E2, x2, f2, rfl⟩ := own_sl OU.out.sigs; obtain ⟨E3, x3, f3, rfl⟩ := own_sl OU.out.routes
     try go_wp2_with fail
     refine hK.out _ _ ?_ fun hHeld => ?_;exact HB.out;clear hK K;try simp only [zn, Act.put]
     refine tkr 8 (fun K hK => ?_)
     rw [if_pos (by rfl)]
     refine wp_store_rowP 24 (.tmp 8) (.tmp 28) rfl p8 rfl (c' := #[.slice E0 x0 f0, .slice E1 x1 f1, .slice E2 x2 f2, .slice E3 x3 f3]) rfl XB.out infoArea4 rfl (by simp [Value.oneCell']) ?_
     have tb := below_setRow HB.out PLB.out #[.slice E0 x0 f0, .slice E1 x1 f1, .slice E2 x2 f2, .slice E3 x3 f3]
     have t9 := setRow_heap qB _ _ #[.slice E0 x0 f0, .slice E1 x1 f1, .slice E2 x2 f2, .slice E3 x3 f3] _ _ XB.out
     have tO := OU.out.off (grownBy_setRow qB p8 #[.slice E0 x0 f0, .slice E1 x1 f1, .slice E2 x2 f2, .slice E3 x3 f3]) ⟨_, XB.out⟩
     refine hK.out _ _ ?_ fun hHeld => ?_;exact tb;clear hK K;try simp only [zn, Act.put]
     generalize qB.setRow p8 #[.slice E0 x0 f0, .slice E1 x1 f1, .slice E2 x2 f2, .slice E3 x3 f3] = qZ at tb t9 tO hHeld ⊢
     refine wpAnyH_done (by kernel_rfl) ?_ _
     go_wp2_with fail
     go_meet
     exact ⟨p8, _, _, _, _, rfl, t9, tO, PLB.out, tb⟩
   case rest =>
    obtain ⟨p8, e0, e1, e2, e3, rfl, h8, he, hp8, hb⟩ := hcut
    obtain ⟨wz, hwz⟩ : ∃ x, x = wc := ⟨_, rfl⟩
    rw [← hwz] at h8 he hb ⊢
    clear hwz wc
    have X8 := Lib.hid h8
    have OE := Lib.hid he
    have X6' := Lib.hid ((hb.block _ (heap_lt X6.out)).trans X6.out)
    have X5' := Lib.hid ((hb.block _ (heap_lt X5.out)).trans X5.out)
    have OG' := Lib.hid (OG.out.below hb)
    have OC' := Lib.hid (OC.out.below hb)
    have BW' := Lib.hid (BW.out.trans (hb.mono LW.out))
    clear X6 X5 OG OC BW LW h8 he hb hp8 RT IR
    obtain ⟨k0, k1, k2, k3⟩ := cell4A X8.out
    obtain ⟨l0, l1, l2, l3⟩ := cell4A X5'.out
    have HM := rmeets14_any (.agg #[e0, e1, e2, e3]) (.agg #[c0, c1, c2, c3]) (usedA a r) (arOf (chB a b)) wz ⟨_, _, _, _, rfl, OE.out.in_⟩ ⟨_, _, _, _, rfl, OC'.out.in_⟩
    cases hm : meetA (usedA a r) (arOf (chB a b)) with
    | false =>
     rw [hm] at HM
     have HG : Hid ((goA a a b (arOf (chB a b)) (a.routes.take (i + 1))) = (goA a a b (arOf (chB a b)) (a.routes.take i))) := Lib.hid (by rw [GS.out, hm]; rfl)
     clear hm GS
     go_wp2_with (go_at_call 70; refine HM.mono ?_; rintro e v2 ⟨rfl, b_⟩; have Y6 := Lib.hid ((b_.block _ (heap_lt X6'.out)).trans X6'.out); have Y5 := Lib.hid ((b_.block _ (heap_lt X5'.out)).trans X5'.out); have OG2 := Lib.hid (OG'.out.below b_); have OC2 := Lib.hid (OC'.out.below b_); have BW2 := Lib.hid (BW'.out.trans (b_.mono (Nat.le_trans LQ.out BW'.out.size))); clear X6' X5' OG' OC' BW' X8 OE b_ HM k0 k1 k2 k3 l0 l1 l2 l3)
     go_roundw
     case measure => simp [intOf]; omega
     case rel => exact ⟨i + 1, _, _, _, _, by go_num, by omega, Y6.out, Y5.out, by rw [HG.out]; exact OG2.out, OC2.out, BW2.out⟩
    | true =>
     rw [hm] at HM
     have HG : Hid ((goA a a b (arOf (chB a b)) (a.routes.take (i + 1))) = joinA (goA a a b (arOf (chB a b)) (a.routes.take i)) (usedA a r)) := Lib.hid (by rw [GS.out, hm]; rfl)
     have LE1 : Hid (Len14 400 (goA a a b (arOf (chB a b)) (a.routes.take i))) := Lib.hid (acc_len HA.out HB_.out i)
     have LE2 : Hid (Len14 400 (usedA a r)) := Lib.hid (used_len HA.out HR.out)
     clear hm GS
     go_upto_region 8 with (go_at_call 70; refine HM.mono ?_; rintro e v2 ⟨rfl, b_⟩; have Y6 := Lib.hid ((b_.block _ (heap_lt X6'.out)).trans X6'.out); have Y5 := Lib.hid ((b_.block _ (heap_lt X5'.out)).trans X5'.out); have Y8 := Lib.hid ((b_.block _ (heap_lt X8.out)).trans X8.out); have OG2 := Lib.hid (OG'.out.below b_); have OC2 := Lib.hid (OC'.out.below b_); have OE2 := Lib.hid (OE.out.below b_); have BW2 := Lib.hid (BW'.out.trans (b_.mono (Nat.le_trans LQ.out BW'.out.size))); clear X6' X5' OG' OC' BW' X8 OE b_ HM k0 k1 k2 k3 l0 l1 l2 l3)
     obtain ⟨k0, k1, k2, k3⟩ := cell4A Y8.out
     obtain ⟨l0, l1, l2, l3⟩ := cell4A Y6.out
     have HJ := rjoin14_any g0 g1 g2 g3 (.agg #[e0, e1, e2, e3]) (goA a a b (arOf (chB a b)) (a.routes.take i)) (usedA a r) lo v2 OG2.out ⟨_, _, _, _, rfl, OE2.out.in_⟩ LE1.out LE2.out (Nat.le_trans LQ.out BW2.out.size)
     go_wp2_with (first | (go_at_call 71; refine HJ.mono ?_; rintro e v3 ⟨o0, o1, o2, o3, rfl, ho, b_⟩; have Z6 := Lib.hid ((b_.block _ (heap_lt Y6.out)).trans Y6.out); have Z5 := Lib.hid ((b_.block _ (heap_lt Y5.out)).trans Y5.out); have OJ := Lib.hid ho; have OC3 := Lib.hid (OC2.out.below b_); have BW3 := Lib.hid (BW2.out.trans (b_.mono (Nat.le_trans LQ.out BW2.out.size))); clear Y6 Y5 Y8 OG2 OC2 OE2 BW2 ho b_ HJ k0 k1 k2 k3 l0 l1 l2 l3; obtain ⟨G0, n0, d0, rfl⟩ := own_sl OJ.out.secs; obtain ⟨G1, n1, d1, rfl⟩ := own_sl OJ.out.pts; obtain ⟨G2, n2, d2, rfl⟩ := own_sl OJ.out.sigs; obtain ⟨G3, n3, d3, rfl⟩ := own_sl OJ.out.routes; skip) | ((with_reducible show wpList _ _ _ (⟨none, _, _, _, _, _⟩ :: _) _ _); refine wpList_store_rowS rfl _ (.tmp 6) (.tmp 34) rfl p6 rfl (c' := #[.slice G0 n0 d0, .slice G1 n1 d1, .slice G2 n2 d2, .slice G3 n3 d3]) rfl Z6.out infoArea4 rfl (by simp [Value.oneCell']) ?_))
     go_roundw
     case measure => simp [intOf]; omega
     case rel =>
      have hg := grownBy_setRow v3 p6 #[.slice G0 n0 d0, .slice G1 n1 d1, .slice G2 n2 d2, .slice G3 n3 d3]
      exact ⟨i + 1, _, _, _, _, by go_num, by omega, setRow_heap v3 _ _ _ _ _ Z6.out, (hg.block _ (heap_lt Z5.out) (fun e => P56.out (by injection e))).trans Z5.out, by rw [HG.out]; exact OJ.out.off hg ⟨_, Z6.out⟩, OC3.out.off hg ⟨_, Z6.out⟩, BW3.out.trans (gb_low14 hg P6.out (Nat.le_trans LQ.out BW3.out.size))⟩
  ·obtain rfl : nR = i := by omega
   have hlt' : ¬ (nR : Int) < nR := by omega
   have TK : Hid (a.routes.take nR = a.routes) := Lib.hid (List.take_of_length_le (by have := NA.out; omega))
   have INV1 : Hid (∃ g0 g1 g2 g3, wr.heap[p6]? = some (.cells #[g0, g1, g2, g3] 24 (0, 0)) ∧ ArOwn wr lo g0 g1 g2 g3 (goA b a b (goA a a b (arOf (chB a b)) a.routes) (b.routes.take 0)) ∧ wr.heap[p5]? = some (.cells #[c0, c1, c2, c3] 24 (0, 0)) ∧ ArOwn wr lo c0 c1 c2 c3 (arOf (chB a b)) ∧ Below lo q wr) := Lib.hid ⟨_, _, _, _, X6.out, by have h := OG.out; rw [TK.out] at h; exact h, X5.out, OC.out, BW.out⟩
   go_upto_region 10 with fail
   clear k0 k1 k2 k3 k4 k5 X6 X5 OG OC BW TK
   go_loopw [9, 10] (fun s9 s10 wr => ∃ (i : Nat) (g0 g1 g2 g3 : Value), s9 = .int .i64 i ∧ i ≤ mR ∧ wr.heap[p6]? = some (.cells #[g0, g1, g2, g3] 24 (0, 0)) ∧ wr.heap[p5]? = some (.cells #[c0, c1, c2, c3] 24 (0, 0)) ∧ ArOwn wr lo g0 g1 g2 g3 (goA b a b (goA a a b (arOf (chB a b)) a.routes) (b.routes.take i)) ∧ ArOwn wr lo c0 c1 c2 c3 (arOf (chB a b)) ∧ Below lo q wr) (fun s9 _ _ => mR - (intOf s9).toNat)
   case atStart =>
    obtain ⟨g0, g1, g2, g3, h6, hg, h5, hc, hb⟩ := INV1.out
    exact ⟨0, g0, g1, g2, g3, by go_num, by omega, h6, h5, hg, hc, hb⟩
   case round =>
    clear INV1
    obtain ⟨i, g0, g1, g2, g3, rfl, hi, h6, h5, hg, hc, hb⟩ := hrel
    have X6 := Lib.hid h6
    have X5 := Lib.hid h5
    have OG := Lib.hid hg
    have OC := Lib.hid hc
    have BW := Lib.hid hb
    clear h6 h5 hg hc hb
    obtain ⟨k0, k1, k2, k3, k4, k5⟩ := cell6_of ((BW.out.block _ P1.out).trans X1.out)
    by_cases hlt : i < mR
    ·have hlt' : (i : Int) < mR := by omega
     have hir : i < b.routes.length := by have := NB.out; omega
     have HR : Hid (b.routes[i] ∈ b.routes) := Lib.hid (List.getElem_mem hir)
     obtain ⟨br, orr, y3, y4, y5, rfl, hbr, hrt, hri⟩ := route_at IB.out.routes hir
     obtain ⟨r, hr⟩ : ∃ r, r = b.routes[i] := ⟨_, rfl⟩
     have GS : Hid ((goA b a b (goA a a b (arOf (chB a b)) a.routes) (b.routes.take (i + 1))) = if meetA (usedA b r) (arOf (chB a b)) then joinA (goA b a b (goA a a b (arOf (chB a b)) a.routes) (b.routes.take i)) (usedA b r) else (goA b a b (goA a a b (arOf (chB a b)) a.routes) (b.routes.take i))) := Lib.hid (by rw [hr]; exact go_snoc hir)
     rw [← hr] at hrt hri HR
     have RT : Hid (RtAt q br (orr + i * 7) r y3 y4 y5 ∧ br < w.heap.size) := Lib.hid ⟨hrt, hbr⟩
     have IR := Lib.hid hri
     have LW : Hid (lo ≤ wr.heap.size) := Lib.hid (Nat.le_trans LQ.out BW.out.size)
     clear hr hrt hri hbr
     go_upto_region 12 with fail
     clear k0 k1 k2 k3 k4 k5
     go_cut [10] from 35 to 54 (fun s8 wz => ∃ p8 e0 e1 e2 e3, s8 = .pointer (some ⟨p8, 0, none⟩) ∧ wz.heap[p8]? = some (.cells #[e0, e1, e2, e3] 24 (0, 0)) ∧ ArOwn wz lo e0 e1 e2 e3 (usedA b r) ∧ wr.heap.size ≤ p8 ∧ Below wr.heap.size wr wz)
     case first =>
      refine wp_region_held_drew (S := fun v => Below wr.heap.size wr v) (by kernel_rfl) (Below.refl wr.heap.size wr).drew (fun hHeld => ?_)
      refine tkc 0 hHeld (fun w' hSw => cell6_of (((BW.out.trans (hSw.mono LW.out)).block _ P1.out).trans X1.out)) ?_;refine tk 1 hHeld ?_;refine tkc 2 hHeld (fun w' hSw => cell6_of (((BW.out.trans (hSw.mono LW.out)).block _ P1.out).trans X1.out)) ?_;refine tk 3 hHeld ?_;refine tk 4 hHeld ?_;refine tkc 5 hHeld (fun w' hSw => (RT.out.1.below (BW.out.trans (hSw.mono LW.out)) (Nat.lt_of_lt_of_le RT.out.2 WL.out)).cells) ?_
      have tb := (Below.refl wr.heap.size wr).drew
      generalize wr.drew = q0 at tb hHeld ⊢
      have HB := Lib.hid tb
      clear tb
      refine wpAnyH_ready (rs := [6, 7]) (by kernel_rfl) (by simp) ?_
      refine AllReadyH.cons rfl (fun K hK => ?_) (AllReadyH.cons rfl (fun K hK => ?_) AllReadyH.nil)
      ·go_simp
       refine (rused14_any (.agg #[.int .i64 b.ver, .int .i64 b.par, z2, z3, z4, .slice (some ⟨br, orr, none⟩) mR eR]) (.agg #[.int .i64 r.id, .int .i64 r.entry, .int .i64 r.exit, y3, y4, y5, .int .i64 r.timer]) b r q0 ⟨_, _, _, _, rfl, (IB.out.below ((BW.out.trans (HB.out.mono LW.out)).mono WL.out)).more (Nat.le_trans WL.out (Nat.le_trans LW.out HB.out.size))⟩ ⟨_, _, _, rfl, (IR.out.below ((BW.out.trans (HB.out.mono LW.out)).mono WL.out)).more (Nat.le_trans WL.out (Nat.le_trans LW.out HB.out.size))⟩ HB_.out HR.out).mono ?_
       rintro e qA ⟨e0, e1, e2, e3, rfl, ho, b⟩
       have tb := HB.out.trans (b.mono HB.out.size)
       have OU := Lib.hid (ho.mono (Nat.le_trans LW.out HB.out.size))
       clear HB b ho
       have HB := Lib.hid tb
       clear tb
       obtain ⟨E0, x0, f0, rfl⟩ := own_sl OU.out.secs; obtain ⟨E1, x1, f1, rfl⟩ := own_sl OU.out.pts; obtain ⟨E2, x2, f2, rfl⟩ := own_sl OU.out.sigs; obtain ⟨E3, x3, f3, rfl⟩ := own_sl OU.out.routes
       try go_wp2_with fail
       refine hK.out _ _ ?_ fun hHeld => ?_;exact HB.out;clear hK K;try simp only [zn, Act.put]
       refine tkr 7 (fun K hK => ?_)
       go_simp
       have tb := HB.out.alloc HB.out.size (.cells #[.slice none 0 0, .slice none 0 0, .slice none 0 0, .slice none 0 0] 24)
       have t9 := heap_alloc_self qA (.cells #[.slice none 0 0, .slice none 0 0, .slice none 0 0, .slice none 0 0] 24)
       have tO := OU.out.below (below_new qA (.cells #[.slice none 0 0, .slice none 0 0, .slice none 0 0, .slice none 0 0] 24))
       refine hK.out _ _ ?_ fun hHeld => ?_;exact tb;clear hK K;try simp only [zn, Act.put]
       generalize qA.alloc (.cells #[.slice none 0 0, .slice none 0 0, .slice none 0 0, .slice none 0 0] 24) = qB at tb t9 tO hHeld ⊢
       obtain ⟨p8, hp⟩ : ∃ n, n = qA.heap.size := ⟨_, rfl⟩
       rw [← hp] at t9 ⊢
       have PLB : Hid (wr.heap.size ≤ p8) := Lib.hid (by rw [hp]; exact HB.out.size)
       clear HB hp OU
       have HB := Lib.hid tb
       have XB := Lib.hid t9
       clear tb t9
       have OU := Lib.hid tO
       clear tO
       refine tkr 8 (fun K hK => ?_)
       rw [if_pos (by rfl)]
       refine wp_store_rowP 24 (.tmp 10) (.tmp 48) rfl p8 rfl (c' := #[.slice E0 x0 f0, .slice E1 x1 f1, .slice E2 x2 f2, .slice E3 x3 f3]) rfl XB.out infoArea4 rfl (by simp [Value.oneCell']) ?_
       have tb := below_setRow HB.out PLB.out #[.slice E0 x0 f0, .slice E1 x1 f1, .slice E2 x2 f2, .slice E3 x3 f3]
       have t9 := setRow_heap qB _ _ #[.slice E0 x0 f0, .slice E1 x1 f1, .slice E2 x2 f2, .slice E3 x3 f3] _ _ XB.out
       have tO := OU.out.off (grownBy_setRow qB p8 #[.slice E0 x0 f0, .slice E1 x1 f1, .slice E2 x2 f2, .slice E3 x3 f3]) ⟨_, XB.out⟩
       refine hK.out _ _ ?_ fun hHeld => ?_;exact tb;clear hK K;try simp only [zn, Act.put]
       generalize qB.setRow p8 #[.slice E0 x0 f0, .slice E1 x1 f1, .slice E2 x2 f2, .slice E3 x3 f3] = qZ at tb t9 tO hHeld ⊢
       refine wpAnyH_done (by kernel_rfl) ?_ _
       go_wp2_with fail
       go_meet
       exact ⟨p8, _, _, _, _, rfl, t9, tO, PLB.out, tb⟩
      ·go_simp
       have tb := HB.out.alloc HB.out.size (.cells #[.slice none 0 0, .slice none 0 0, .slice none 0 0, .slice none 0 0] 24)
       have t9 := heap_alloc_self q0 (.cells #[.slice none 0 0, .slice none 0 0, .slice none 0 0, .slice none 0 0] 24)
       refine hK.out _ _ ?_ fun hHeld => ?_;exact tb;clear hK K;try simp only [zn, Act.put]
       generalize q0.alloc (.cells #[.slice none 0 0, .slice none 0 0, .slice none 0 0, .slice none 0 0] 24) = qA at tb t9 hHeld ⊢
       obtain ⟨p8, hp⟩ : ∃ n, n = q0.heap.size := ⟨_, rfl⟩
       rw [← hp] at t9 ⊢
       have PLB : Hid (wr.heap.size ≤ p8) := Lib.hid (by rw [hp]; exact HB.out.size)
       clear HB hp
       have HB := Lib.hid tb
       have XB := Lib.hid t9
       clear tb t9
       refine tkr 6 (fun K hK => ?_)
       go_simp
       refine (rused14_any (.agg #[.int .i64 b.ver, .int .i64 b.par, z2, z3, z4, .slice (some ⟨br, orr, none⟩) mR eR]) (.agg #[.int .i64 r.id, .int .i64 r.entry, .int .i64 r.exit, y3, y4, y5, .int .i64 r.timer]) b r qA ⟨_, _, _, _, rfl, (IB.out.below ((BW.out.trans (HB.out.mono LW.out)).mono WL.out)).more (Nat.le_trans WL.out (Nat.le_trans LW.out HB.out.size))⟩ ⟨_, _, _, rfl, (IR.out.below ((BW.out.trans (HB.out.mono LW.out)).mono WL.out)).more (Nat.le_trans WL.out (Nat.le_trans LW.out HB.out.size))⟩ HB_.out HR.out).mono ?_
       rintro e qB ⟨e0, e1, e2, e3, rfl, ho, b⟩
       have tb := HB.out.trans (b.mono HB.out.size)
       have OU := Lib.hid (ho.mono (Nat.le_trans LW.out HB.out.size))
       have tX := (b.block _ (heap_lt XB.out)).trans XB.out
       clear XB
       have XB := Lib.hid tX
       clear tX
       clear HB b ho
       have HB := Lib.hid tb
       clear tb
       obtain ⟨E0, x0, f0, rfl⟩ := own_sl OU.out.secs; obtain ⟨E1, x1, f1, rfl⟩ := own_sl OU.out.pts; obtain ⟨E2, x2, f2, rfl⟩ := own_sl OU.out.sigs; obtain ⟨E3, x3, f3, rfl⟩ := own_sl OU.out.routes
       try go_wp2_with fail
       refine hK.out _ _ ?_ fun hHeld => ?_;exact HB.out;clear hK K;try simp only [zn, Act.put]
       refine tkr 8 (fun K hK => ?_)
       rw [if_pos (by rfl)]
       refine wp_store_rowP 24 (.tmp 10) (.tmp 48) rfl p8 rfl (c' := #[.slice E0 x0 f0, .slice E1 x1 f1, .slice E2 x2 f2, .slice E3 x3 f3]) rfl XB.out infoArea4 rfl (by simp [Value.oneCell']) ?_
       have tb := below_setRow HB.out PLB.out #[.slice E0 x0 f0, .slice E1 x1 f1, .slice E2 x2 f2, .slice E3 x3 f3]
       have t9 := setRow_heap qB _ _ #[.slice E0 x0 f0, .slice E1 x1 f1, .slice E2 x2 f2, .slice E3 x3 f3] _ _ XB.out
       have tO := OU.out.off (grownBy_setRow qB p8 #[.slice E0 x0 f0, .slice E1 x1 f1, .slice E2 x2 f2, .slice E3 x3 f3]) ⟨_, XB.out⟩
       refine hK.out _ _ ?_ fun hHeld => ?_;exact tb;clear hK K;try simp only [zn, Act.put]
       generalize qB.setRow p8 #[.slice E0 x0 f0, .slice E1 x1 f1, .slice E2 x2 f2, .slice E3 x3 f3] = qZ at tb t9 tO hHeld ⊢
       refine wpAnyH_done (by kernel_rfl) ?_ _
       go_wp2_with fail
       go_meet
       exact ⟨p8, _, _, _, _, rfl, t9, tO, PLB.out, tb⟩
     case rest =>
      obtain ⟨p8, e0, e1, e2, e3, rfl, h8, he, hp8, hb⟩ := hcut
      obtain ⟨wz, hwz⟩ : ∃ x, x = wc := ⟨_, rfl⟩
      rw [← hwz] at h8 he hb ⊢
      clear hwz wc
      have X8 := Lib.hid h8
      have OE := Lib.hid he
      have X6' := Lib.hid ((hb.block _ (heap_lt X6.out)).trans X6.out)
      have X5' := Lib.hid ((hb.block _ (heap_lt X5.out)).trans X5.out)
      have OG' := Lib.hid (OG.out.below hb)
      have OC' := Lib.hid (OC.out.below hb)
      have BW' := Lib.hid (BW.out.trans (hb.mono LW.out))
      clear X6 X5 OG OC BW LW h8 he hb hp8 RT IR
      obtain ⟨k0, k1, k2, k3⟩ := cell4A X8.out
      obtain ⟨l0, l1, l2, l3⟩ := cell4A X5'.out
      have HM := rmeets14_any (.agg #[e0, e1, e2, e3]) (.agg #[c0, c1, c2, c3]) (usedA b r) (arOf (chB a b)) wz ⟨_, _, _, _, rfl, OE.out.in_⟩ ⟨_, _, _, _, rfl, OC'.out.in_⟩
      cases hm : meetA (usedA b r) (arOf (chB a b)) with
      | false =>
       rw [hm] at HM
       have HG : Hid ((goA b a b (goA a a b (arOf (chB a b)) a.routes) (b.routes.take (i + 1))) = (goA b a b (goA a a b (arOf (chB a b)) a.routes) (b.routes.take i))) := Lib.hid (by rw [GS.out, hm]; rfl)
       clear hm GS
       go_wp2_with (go_at_call 70; refine HM.mono ?_; rintro e v2 ⟨rfl, b_⟩; have Y6 := Lib.hid ((b_.block _ (heap_lt X6'.out)).trans X6'.out); have Y5 := Lib.hid ((b_.block _ (heap_lt X5'.out)).trans X5'.out); have OG2 := Lib.hid (OG'.out.below b_); have OC2 := Lib.hid (OC'.out.below b_); have BW2 := Lib.hid (BW'.out.trans (b_.mono (Nat.le_trans LQ.out BW'.out.size))); clear X6' X5' OG' OC' BW' X8 OE b_ HM k0 k1 k2 k3 l0 l1 l2 l3)
       go_roundw
       case measure => simp [intOf]; omega
       case rel => exact ⟨i + 1, _, _, _, _, by go_num, by omega, Y6.out, Y5.out, by rw [HG.out]; exact OG2.out, OC2.out, BW2.out⟩
      | true =>
       rw [hm] at HM
       have HG : Hid ((goA b a b (goA a a b (arOf (chB a b)) a.routes) (b.routes.take (i + 1))) = joinA (goA b a b (goA a a b (arOf (chB a b)) a.routes) (b.routes.take i)) (usedA b r)) := Lib.hid (by rw [GS.out, hm]; rfl)
       have LE1 : Hid (Len14 400 (goA b a b (goA a a b (arOf (chB a b)) a.routes) (b.routes.take i))) := Lib.hid (acc_len2 HA.out HB_.out i)
       have LE2 : Hid (Len14 400 (usedA b r)) := Lib.hid (used_len HB_.out HR.out)
       clear hm GS
       go_upto_region 14 with (go_at_call 70; refine HM.mono ?_; rintro e v2 ⟨rfl, b_⟩; have Y6 := Lib.hid ((b_.block _ (heap_lt X6'.out)).trans X6'.out); have Y5 := Lib.hid ((b_.block _ (heap_lt X5'.out)).trans X5'.out); have Y8 := Lib.hid ((b_.block _ (heap_lt X8.out)).trans X8.out); have OG2 := Lib.hid (OG'.out.below b_); have OC2 := Lib.hid (OC'.out.below b_); have OE2 := Lib.hid (OE.out.below b_); have BW2 := Lib.hid (BW'.out.trans (b_.mono (Nat.le_trans LQ.out BW'.out.size))); clear X6' X5' OG' OC' BW' X8 OE b_ HM k0 k1 k2 k3 l0 l1 l2 l3)
       obtain ⟨k0, k1, k2, k3⟩ := cell4A Y8.out
       obtain ⟨l0, l1, l2, l3⟩ := cell4A Y6.out
       have HJ := rjoin14_any g0 g1 g2 g3 (.agg #[e0, e1, e2, e3]) (goA b a b (goA a a b (arOf (chB a b)) a.routes) (b.routes.take i)) (usedA b r) lo v2 OG2.out ⟨_, _, _, _, rfl, OE2.out.in_⟩ LE1.out LE2.out (Nat.le_trans LQ.out BW2.out.size)
       go_wp2_with (first | (go_at_call 71; refine HJ.mono ?_; rintro e v3 ⟨o0, o1, o2, o3, rfl, ho, b_⟩; have Z6 := Lib.hid ((b_.block _ (heap_lt Y6.out)).trans Y6.out); have Z5 := Lib.hid ((b_.block _ (heap_lt Y5.out)).trans Y5.out); have OJ := Lib.hid ho; have OC3 := Lib.hid (OC2.out.below b_); have BW3 := Lib.hid (BW2.out.trans (b_.mono (Nat.le_trans LQ.out BW2.out.size))); clear Y6 Y5 Y8 OG2 OC2 OE2 BW2 ho b_ HJ k0 k1 k2 k3 l0 l1 l2 l3; obtain ⟨G0, n0, d0, rfl⟩ := own_sl OJ.out.secs; obtain ⟨G1, n1, d1, rfl⟩ := own_sl OJ.out.pts; obtain ⟨G2, n2, d2, rfl⟩ := own_sl OJ.out.sigs; obtain ⟨G3, n3, d3, rfl⟩ := own_sl OJ.out.routes; skip) | ((with_reducible show wpList _ _ _ (⟨none, _, _, _, _, _⟩ :: _) _ _); refine wpList_store_rowS rfl _ (.tmp 6) (.tmp 54) rfl p6 rfl (c' := #[.slice G0 n0 d0, .slice G1 n1 d1, .slice G2 n2 d2, .slice G3 n3 d3]) rfl Z6.out infoArea4 rfl (by simp [Value.oneCell']) ?_))
       go_roundw
       case measure => simp [intOf]; omega
       case rel =>
        have hg := grownBy_setRow v3 p6 #[.slice G0 n0 d0, .slice G1 n1 d1, .slice G2 n2 d2, .slice G3 n3 d3]
        exact ⟨i + 1, _, _, _, _, by go_num, by omega, setRow_heap v3 _ _ _ _ _ Z6.out, (hg.block _ (heap_lt Z5.out) (fun e => P56.out (by injection e))).trans Z5.out, by rw [HG.out]; exact OJ.out.off hg ⟨_, Z6.out⟩, OC3.out.off hg ⟨_, Z6.out⟩, BW3.out.trans (gb_low14 hg P6.out (Nat.le_trans LQ.out BW3.out.size))⟩
    ·obtain rfl : mR = i := by omega
     have hlt' : ¬ (mR : Int) < mR := by omega
     have TK : Hid (b.routes.take mR = b.routes) := Lib.hid (List.take_of_length_le (by have := NB.out; omega))
     obtain ⟨G0, n0, d0, rfl⟩ := own_sl OG.out.secs
     obtain ⟨G1, n1, d1, rfl⟩ := own_sl OG.out.pts
     obtain ⟨G2, n2, d2, rfl⟩ := own_sl OG.out.sigs
     obtain ⟨G3, n3, d3, rfl⟩ := own_sl OG.out.routes
     obtain ⟨f0, f1, f2, f3⟩ := cell4A X6.out
     have hrow := (BW.out.block _ P4.out).trans X4.out
     have hg := grownBy_setRow wr (w.heap.size + 1 + 1) #[.slice G0 n0 d0, .slice G1 n1 d1, .slice G2 n2 d2, .slice G3 n3 d3]
     have OL : Hid (ArOwn (wr.setRow (w.heap.size + 1 + 1) #[.slice G0 n0 d0, .slice G1 n1 d1, .slice G2 n2 d2, .slice G3 n3 d3]) w.heap.size (.slice G0 n0 d0) (.slice G1 n1 d1) (.slice G2 n2 d2) (.slice G3 n3 d3) (arOf (areaB a b))) := Lib.hid (by
      have h := (OG.out.mono WL.out).off hg ⟨_, hrow⟩
      rw [TK.out, all_is HA.out HB_.out] at h
      exact h)
     have BE : Hid (Below w.heap.size w (wr.setRow (w.heap.size + 1 + 1) #[.slice G0 n0 d0, .slice G1 n1 d1, .slice G2 n2 d2, .slice G3 n3 d3])) := Lib.hid ((BQ.out.trans (BW.out.mono WL.out)).trans (gb_low14 hg (by omega) (Nat.le_trans WL.out (Nat.le_trans LQ.out BW.out.size))))
     have XE := setRow_heap wr _ _ #[.slice G0 n0 d0, .slice G1 n1 d1, .slice G2 n2 d2, .slice G3 n3 d3] _ _ hrow
     go_wp2_with ((with_reducible show wpList _ _ _ (⟨none, _, _, _, _, _⟩ :: _) _ _); refine wpList_store_rowS rfl _ (.tmp 4) (.tmp 55) rfl (w.heap.size + 1 + 1) rfl (c' := #[.slice G0 n0 d0, .slice G1 n1 d1, .slice G2 n2 d2, .slice G3 n3 d3]) rfl hrow infoArea4 rfl (by simp [Value.oneCell']) ?_)
     refine bodyPost_ret (results_cell_row rfl _ _ (w.heap.size + 1 + 1) 24 #[.slice G0 n0 d0, .slice G1 n1 d1, .slice G2 n2 d2, .slice G3 n3 d3] (0, 0) _ rfl XE Tryz.underlying24 rfl infoArea4) rfl ⟨_, _, _, _, rfl, OL.out, BE.out⟩
end Go.Proofs.YtneeocnjfnneoaaGreat
