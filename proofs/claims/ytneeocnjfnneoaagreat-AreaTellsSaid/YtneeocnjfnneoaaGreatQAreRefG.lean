/-
 The document's own package area: Uses.
 Conditions: none.
-/
import Derived.Test.YtneeocnjfnneoaaGreatQAreRefF
set_option linter.unusedVariables false
set_option linter.unusedSimpArgs false
set_option maxRecDepth 100000
namespace Go.Proofs.YtneeocnjfnneoaaGreat
open Go.RowKit

/-- A route of a list, cell by cell, as a value. -/
theorem route_at {W : World} {B n c : Nat} {A : Option Addr} {l : List Rt} (h : RoutesIn W B (.slice A n c) l) {k : Nat} (hk : k < l.length) : ∃ b o y3 y4 y5, A = some ⟨b, o, none⟩ ∧ b < B ∧ (W.cell? ⟨b, o + k * 7, none⟩ = some (.int .i64 l[k].id) ∧ W.cell? ⟨b, o + k * 7 + 1, none⟩ = some (.int .i64 l[k].entry) ∧ W.cell? ⟨b, o + k * 7 + 2, none⟩ = some (.int .i64 l[k].exit) ∧ W.cell? ⟨b, o + k * 7 + 3, none⟩ = some y3 ∧ W.cell? ⟨b, o + k * 7 + 4, none⟩ = some y4 ∧ W.cell? ⟨b, o + k * 7 + 5, none⟩ = some y5 ∧ W.cell? ⟨b, o + k * 7 + 6, none⟩ = some (.int .i64 l[k].timer)) ∧ RtIn W B y3 y4 y5 l[k] := by
 obtain ⟨b, o, e, hb, h0, h1, h2, h6, y3, y4, y5, h3, h4, h5, hr⟩ := h.at hk
 exact ⟨b, o, y3, y4, y5, e, hb, ⟨by simpa using h0, by simpa using h1, by simpa using h2, by simpa using h3, by simpa using h4, by simpa using h5, by simpa using h6⟩, hr⟩
def RtAt (W : World) (b a : Nat) (r : Rt) (y3 y4 y5 : Value) : Prop := W.cell? ⟨b, a, none⟩ = some (.int .i64 r.id) ∧ W.cell? ⟨b, a + 1, none⟩ = some (.int .i64 r.entry) ∧ W.cell? ⟨b, a + 2, none⟩ = some (.int .i64 r.exit) ∧ W.cell? ⟨b, a + 3, none⟩ = some y3 ∧ W.cell? ⟨b, a + 4, none⟩ = some y4 ∧ W.cell? ⟨b, a + 5, none⟩ = some y5 ∧ W.cell? ⟨b, a + 6, none⟩ = some (.int .i64 r.timer)
theorem RtAt.cells {W : World} {b a : Nat} {r : Rt} {y3 y4 y5 : Value} (h : RtAt W b a r y3 y4 y5) : W.cell? ⟨b, a, none⟩ = some (.int .i64 r.id) ∧ W.cell? ⟨b, a + 1, none⟩ = some (.int .i64 r.entry) ∧ W.cell? ⟨b, a + 2, none⟩ = some (.int .i64 r.exit) ∧ W.cell? ⟨b, a + 3, none⟩ = some y3 ∧ W.cell? ⟨b, a + 4, none⟩ = some y4 ∧ W.cell? ⟨b, a + 5, none⟩ = some y5 ∧ W.cell? ⟨b, a + 6, none⟩ = some (.int .i64 r.timer) := h
theorem RtAt.below {W W' : World} {b a : Nat} {r : Rt} {y3 y4 y5 : Value} {B : Nat} (h : RtAt W b a r y3 y4 y5) (hb : Below B W W') (hlt : b < B) : RtAt W' b a r y3 y4 y5 := by
 obtain ⟨h0, h1, h2, h3, h4, h5, h6⟩ := h
 exact ⟨(hb.cell (p := ⟨b, a, none⟩) hlt).trans h0, (hb.cell (p := ⟨b, a + 1, none⟩) hlt).trans h1, (hb.cell (p := ⟨b, a + 2, none⟩) hlt).trans h2, (hb.cell (p := ⟨b, a + 3, none⟩) hlt).trans h3, (hb.cell (p := ⟨b, a + 4, none⟩) hlt).trans h4, (hb.cell (p := ⟨b, a + 5, none⟩) hlt).trans h5, (hb.cell (p := ⟨b, a + 6, none⟩) hlt).trans h6⟩
theorem us_bad {p : Pl} {id : Int} (h : ¬ PlanMay p) : usE p id = 8 ∧ usV p id = noAr := by
 have e : usE p id = 8 := by rw [usE, planMay_false h]; rfl
 exact ⟨e, by rw [usV, e]; rfl⟩
theorem us_none {p : Pl} {id : Int} (h : PlanMay p) (hk : at1 (fun x : Rt => x.id) p.routes id < 0) : usE p id = 6 ∧ usV p id = noAr := by
 have e : usE p id = 6 := by rw [usE, planMay_true h, if_pos rfl, if_pos hk]
 exact ⟨e, by rw [usV, e]; rfl⟩
theorem us_ok {p : Pl} {id : Int} {k : Nat} (h : PlanMay p) (hk : at1 (fun x : Rt => x.id) p.routes id = (k : Int)) (hl : k < p.routes.length) : usE p id = 0 ∧ usV p id = usedA p p.routes[k] := by
 have e : usE p id = 0 := by rw [usE, planMay_true h, if_pos rfl, if_neg (by omega)]
 have er : routeD p id = p.routes[k] := by rw [routeD, hk, Int.toNat_natCast, List.getD, List.getElem?_eq_getElem hl, Option.getD_some]
 exact ⟨e, by rw [usV, if_pos e, er, used_is h (List.getElem_mem hl)]⟩
set_option maxHeartbeats 8000000 in
theorem ruses14_any (v : Value) (p : Pl) (id : Int) (w : World) (h : PlanV w w.heap.size v p) :
  Calls Tryz.prog 18 #[v, .int .i64 id] w fun e w' => ∃ u0 u1 u2 u3, e = .returned (.tuple #[.agg #[u0, u1, u2, u3], .int .i64 (usE p id)]) ∧ ArIn w' w'.heap.size u0 u1 u2 u3 (usV p id) ∧ Below w.heap.size w w' := by
 obtain ⟨u2, u3, u4, u5, rfl, hin⟩ := h
 obtain ⟨AR, cR, rfl, hR8, hR9⟩ := hin.routes.slice
 obtain ⟨nR, hnR⟩ : ∃ n, n = p.routes.length := ⟨_, rfl⟩
 have NR : Hid (nR = p.routes.length ∧ nR ≤ 9223372036854775807) := Lib.hid ⟨hnR, by unfold maxLen at hR9; omega⟩
 rw [← hnR] at hin ⊢
 clear hnR hR8 hR9
 obtain ⟨h0, h1, hqb⟩ := two_boxes w (.cells #[.int .i64 p.ver, .int .i64 p.par, u2, u3, u4, .slice AR nR cR] 33) (.cells #[.slice none 0 0, .slice none 0 0, .slice none 0 0, .slice none 0 0] 24)
 go_enter Tryz.func18, Tryz.ntmps18
 go_upto_region 1 with fail
 have hsz : ((w.alloc (.cells #[.int .i64 p.ver, .int .i64 p.par, u2, u3, u4, .slice AR nR cR] 33)).alloc (.cells #[.slice none 0 0, .slice none 0 0, .slice none 0 0, .slice none 0 0] 24)).heap.size = w.heap.size + 1 + 1 := by unfold World.alloc; rw [Array.size_push, Array.size_push]
 generalize (w.alloc (.cells #[.int .i64 p.ver, .int .i64 p.par, u2, u3, u4, .slice AR nR cR] 33)).alloc (.cells #[.slice none 0 0, .slice none 0 0, .slice none 0 0, .slice none 0 0] 24) = q at h0 h1 hqb hsz ⊢
 have X0 := Lib.hid h0
 have X4 := Lib.hid h1
 have BQ := Lib.hid hqb
 have P4 : Hid (w.heap.size < w.heap.size + 1 ∧ w.heap.size ≤ q.heap.size) := Lib.hid (by omega)
 have P5 : Hid (w.heap.size + 1 ≤ q.heap.size) := Lib.hid (by omega)
 have IP := Lib.hid (hin.below hqb)
 clear h0 h1 hqb hin hsz
 have VP : Hid (PlanV q q.heap.size (.agg #[.int .i64 p.ver, .int .i64 p.par, u2, u3, u4, .slice AR nR cR]) p) := Lib.hid ⟨_, _, _, _, rfl, IP.out.more P4.out.2⟩
 obtain ⟨k0, k1, k2, k3, k4, k5⟩ := cell6_of X0.out
 have HM := rmay8_any (.agg #[.int .i64 p.ver, .int .i64 p.par, u2, u3, u4, .slice AR nR cR]) p q VP.out
 by_cases hp : PlanMay p
 rotate_left
 ·rw [planMay_false hp] at HM
  have HV := Lib.hid (us_bad (id := id) hp)
  clear hp
  go_upto_region 2 with (go_at_call 40; refine HM.mono ?_; rintro e v1 ⟨rfl, b_⟩; have BL := Lib.hid b_; clear b_ HM k0 k1 k2 k3 k4 k5)
  have hrow := (BL.out.block _ (heap_lt X4.out)).trans X4.out
  have hg := grownBy_setRow v1 (w.heap.size + 1) #[.slice none 0 0, .slice none 0 0, .slice none 0 0, .slice none 0 0]
  have BE : Hid (Below w.heap.size w (v1.setRow (w.heap.size + 1) #[.slice none 0 0, .slice none 0 0, .slice none 0 0, .slice none 0 0])) := Lib.hid ((BQ.out.trans (BL.out.mono P4.out.2)).trans (gb_low14 hg (Nat.le_succ _) (Nat.le_trans P4.out.2 BL.out.size)))
  have XE := setRow_heap v1 _ _ #[.slice none 0 0, .slice none 0 0, .slice none 0 0, .slice none 0 0] _ _ hrow
  go_wp2_with ((with_reducible show wpList _ _ _ (⟨none, _, _, _, _, _⟩ :: _) _ _); refine wpList_store_rowS rfl _ (.tmp 4) (.tmp 10) rfl (w.heap.size + 1) rfl (c' := #[.slice none 0 0, .slice none 0 0, .slice none 0 0, .slice none 0 0]) rfl hrow infoArea4 rfl (by simp [Value.oneCell']) ?_)
  refine bodyPost_ret (results_rowS_tmp (c := #[.slice none 0 0, .slice none 0 0, .slice none 0 0, .slice none 0 0]) rfl _ _ (w.heap.size + 1) rfl XE Tryz.underlying24 infoArea4 (.int .i64 8) rfl) rfl ⟨_, _, _, _, by rw [HV.out.1], ?_, BE.out⟩
  rw [HV.out.2]
  exact (ownNo _ 0).in_
 rw [planMay_true hp] at HM
 have HP := Lib.hid hp
 clear hp
 go_upto_region 3 with (go_at_call 40; refine HM.mono ?_; rintro e v1 ⟨rfl, b_⟩; have BL1 := Lib.hid b_; clear b_ HM k0 k1 k2 k3 k4 k5)
 obtain ⟨k0, k1, k2, k3, k4, k5⟩ := cell6_of ((BL1.out.block _ (heap_lt X0.out)).trans X0.out)
 have HA := rrouteat_any (.slice AR nR cR) p.routes id v1 ((IP.out.routes.below routeR (BL1.out.mono P4.out.2)).more routeR (Nat.le_trans P4.out.2 BL1.out.size))
 rcases at1_cases (fun x : Rt => x.id) p.routes id with ⟨hat, -⟩ | ⟨k, hk, hat, -, -⟩
 ·have HV := Lib.hid (us_none (id := id) HP.out (by omega))
  rw [hat] at HA
  clear hat
  go_upto_region 5 with (go_at_call 42; refine HA.mono ?_; rintro e v2 ⟨rfl, rfl⟩; have BL := BL1; clear BL1 HA k0 k1 k2 k3 k4 k5)
  have hrow := (BL.out.block _ (heap_lt X4.out)).trans X4.out
  have hg := grownBy_setRow v2 (w.heap.size + 1) #[.slice none 0 0, .slice none 0 0, .slice none 0 0, .slice none 0 0]
  have BE : Hid (Below w.heap.size w (v2.setRow (w.heap.size + 1) #[.slice none 0 0, .slice none 0 0, .slice none 0 0, .slice none 0 0])) := Lib.hid ((BQ.out.trans (BL.out.mono P4.out.2)).trans (gb_low14 hg (Nat.le_succ _) (Nat.le_trans P4.out.2 BL.out.size)))
  have XE := setRow_heap v2 _ _ #[.slice none 0 0, .slice none 0 0, .slice none 0 0, .slice none 0 0] _ _ hrow
  go_wp2_with ((with_reducible show wpList _ _ _ (⟨none, _, _, _, _, _⟩ :: _) _ _); refine wpList_store_rowS rfl _ (.tmp 4) (.tmp 17) rfl (w.heap.size + 1) rfl (c' := #[.slice none 0 0, .slice none 0 0, .slice none 0 0, .slice none 0 0]) rfl hrow infoArea4 rfl (by simp [Value.oneCell']) ?_)
  refine bodyPost_ret (results_rowS_tmp (c := #[.slice none 0 0, .slice none 0 0, .slice none 0 0, .slice none 0 0]) rfl _ _ (w.heap.size + 1) rfl XE Tryz.underlying24 infoArea4 (.int .i64 6) rfl) rfl ⟨_, _, _, _, by rw [HV.out.1], ?_, BE.out⟩
  rw [HV.out.2]
  exact (ownNo _ 0).in_
 have HV := Lib.hid (us_ok (id := id) HP.out hat hk)
 rw [hat] at HA
 have HR : Hid (p.routes[k] ∈ p.routes) := Lib.hid (List.getElem_mem hk)
 obtain ⟨br, orr, y3, y4, y5, rfl, hbr, hrt, hri⟩ := route_at IP.out.routes hk
 have hkn : (k : Int) < nR := by have := NR.out.1; omega
 have hk9 : k ≤ 9223372036854775807 := by have := NR.out; omega
 obtain ⟨r, hr⟩ : ∃ r, r = p.routes[k] := ⟨_, rfl⟩
 rw [← hr] at hrt hri HR HV
 have RT : Hid (RtAt q br (orr + k * 7) r y3 y4 y5 ∧ br < w.heap.size) := Lib.hid ⟨hrt, hbr⟩
 have IR := Lib.hid hri
 clear hat hk hrt hri hbr hr
 go_upto_region 6 with (go_at_call 42; refine HA.mono ?_; rintro e v2 ⟨rfl, rfl⟩; have BL := BL1; clear BL1 HA k0 k1 k2 k3 k4 k5)
 have BQ2 := Lib.hid (BL.out.mono P5.out)
 refine wp_region_held_drew (S := fun v => Below (w.heap.size + 1) q v) (by kernel_rfl) BQ2.out.drew (fun hHeld => ?_)
 refine tkc 0 hHeld (fun w' hSw => cell6_of ((hSw.block _ P4.out.1).trans X0.out)) ?_;refine tk 1 hHeld ?_;refine tkc 2 hHeld (fun w' hSw => cell6_of ((hSw.block _ P4.out.1).trans X0.out)) ?_;refine tk 3 hHeld ?_;refine tk 4 hHeld ?_;refine tkc 5 hHeld (fun w' hSw => (RT.out.1.below hSw (Nat.lt_trans RT.out.2 P4.out.1)).cells) ?_
 have tb := BL.out.drew
 generalize v2.drew = V0 at tb hHeld ⊢
 clear BL BQ2
 have BL := Lib.hid tb
 clear tb
 refine tkr 6 (fun K hK => ?_)
 go_simp
 refine (rused14_any (.agg #[.int .i64 p.ver, .int .i64 p.par, u2, u3, u4, .slice (some ⟨br, orr, none⟩) nR cR]) (.agg #[.int .i64 r.id, .int .i64 r.entry, .int .i64 r.exit, y3, y4, y5, .int .i64 r.timer]) p r V0 ⟨_, _, _, _, rfl, (IP.out.below (BL.out.mono P4.out.2)).more (Nat.le_trans P4.out.2 BL.out.size)⟩ ⟨_, _, _, rfl, (IR.out.below (BL.out.mono P4.out.2)).more (Nat.le_trans P4.out.2 BL.out.size)⟩ HP.out HR.out).mono ?_
 rintro e V1 ⟨g0, g1, g2, g3, rfl, ho, b⟩
 have tb := BL.out.trans (b.mono BL.out.size)
 clear b BL
 have BL := Lib.hid tb
 have OW := Lib.hid ho
 clear tb ho
 obtain ⟨G0, n0, d0, rfl⟩ := own_sl OW.out.secs
 obtain ⟨G1, n1, d1, rfl⟩ := own_sl OW.out.pts
 obtain ⟨G2, n2, d2, rfl⟩ := own_sl OW.out.sigs
 obtain ⟨G3, n3, d3, rfl⟩ := own_sl OW.out.routes
 try go_wp2_with fail
 refine hK.out _ _ ?_ fun hHeld => ?_;exact BL.out.mono P5.out;clear hK K;try simp only [zn, Act.put]
 refine tkr 7 (fun K hK => ?_)
 rw [if_pos (by rfl)]
 refine wp_store_rowP 24 (.tmp 4) (.tmp 24) rfl (w.heap.size + 1) rfl (c' := #[.slice G0 n0 d0, .slice G1 n1 d1, .slice G2 n2 d2, .slice G3 n3 d3]) rfl ((BL.out.block _ (heap_lt X4.out)).trans X4.out) infoArea4 rfl (by simp [Value.oneCell']) ?_
 have hrow := (BL.out.block _ (heap_lt X4.out)).trans X4.out
 have hg := grownBy_setRow V1 (w.heap.size + 1) #[.slice G0 n0 d0, .slice G1 n1 d1, .slice G2 n2 d2, .slice G3 n3 d3]
 have tb : Below (w.heap.size + 1) q (V1.setRow (w.heap.size + 1) #[.slice G0 n0 d0, .slice G1 n1 d1, .slice G2 n2 d2, .slice G3 n3 d3]) := (BL.out.mono P5.out).trans (gb_low14 hg (Nat.le_refl _) (Nat.le_trans P5.out BL.out.size))
 have tO := OW.out.off hg ⟨_, hrow⟩
 have t6 := setRow_heap V1 _ _ #[.slice G0 n0 d0, .slice G1 n1 d1, .slice G2 n2 d2, .slice G3 n3 d3] _ _ hrow
 refine hK.out _ _ ?_ fun hHeld => ?_;exact tb;clear hK K;try simp only [zn, Act.put]
 generalize V1.setRow (w.heap.size + 1) #[.slice G0 n0 d0, .slice G1 n1 d1, .slice G2 n2 d2, .slice G3 n3 d3] = v5 at tb tO t6 hHeld ⊢
 clear hrow hg OW BL
 have BL := Lib.hid (BQ.out.trans (tb.mono (Nat.le_succ _)))
 have OL := Lib.hid tO
 have X6 := Lib.hid t6
 clear tb tO t6
 refine tk 8 hHeld ?_
 refine wpAnyH_done (by kernel_rfl) ?_ _
 go_wp2_with fail
 refine bodyPost_ret (results_rowS_tmp (c := #[.slice G0 n0 d0, .slice G1 n1 d1, .slice G2 n2 d2, .slice G3 n3 d3]) rfl _ _ (w.heap.size + 1) rfl X6.out Tryz.underlying24 infoArea4 (.int .i64 0) rfl) rfl ⟨_, _, _, _, by rw [HV.out.1], ?_, BL.out⟩
 rw [HV.out.2]
 exact OL.out.in_
end Go.Proofs.YtneeocnjfnneoaaGreat
