/-
 What a route uses, and nothing else: the walk, given the program's answers.
 Conditions: none.
-/
import Derived.Test.YtneeocnjfnneoaaGreatQGAreOne
import Derived.Test.YtneeocnjfnneoaaGreatQGAreM
import Derived.Test.YtneeocnjfnneoaaGreatQGPlnRefD
set_option linter.unusedVariables false
set_option linter.unusedSimpArgs false
set_option maxRecDepth 100000
namespace Go.Proofs.YtneeocnjfnneoaaGreat
open Go.RowKit

theorem us_is {p : Pl} {id : Int} (h : usE p id = 0) : PlanMay p ∧ usV p id = arOf (useB p (routeD p id)) ∧ routeD p id ∈ p.routes ∧ (routeD p id).id = id ∧ elV p kRt p.routes id zRt = routeD p id := by
 rcases us_cases p id with ⟨h1, h2, h3, h4, h5⟩ | ⟨-, -, h2, -⟩ | ⟨-, h2, -⟩
 ·exact ⟨h1, h3, h4, h5, by rw [elV, if_pos (show elE p kRt p.routes id = 0 from h2)]; rfl⟩
 ·rw [h2] at h; exact absurd h (by decide)
 ·rw [h2] at h; exact absurd h (by decide)
theorem planV_in {W : World} {B : Nat} {p : Pl} {v2 v3 v4 v5 : Value} (h : PlanV W B (.agg #[.int .i64 p.ver, .int .i64 p.par, v2, v3, v4, v5]) p) : PlIn W B v2 v3 v4 v5 p := by
 obtain ⟨u2, u3, u4, u5, e, hin⟩ := h
 cases e
 exact hin
theorem in_len14 {W : World} {B n c : Nat} {A : Option Addr} {l : List Int} (h : IntsIn W B (.slice A n c) l) : n = l.length := by
 obtain ⟨A', c', e, -, -⟩ := h.slice
 injection e
theorem infoPoint14 : (Tryz.prog.info? 60).map (·.size) = some 2 := by kernel_rfl
theorem pt_el14 {p : Pl} (h : PlanMay p) {x : Int} {k : Nat} (hk : k < p.pts.length) (hat : at1 (fun x : Jn => x.1) p.pts x = (k : Int)) : elE p kPt p.pts x = 0 ∧ elV p kPt p.pts x (0, 0) = p.pts[k] := by
 have e : elE p kPt p.pts x = 0 := by rw [elE, planMay_true h, if_pos rfl, if_neg (by rw [show at1 kPt p.pts x = (k : Int) from hat]; omega)]
 exact ⟨e, by rw [elV, if_pos e, show at1 kPt p.pts x = (k : Int) from hat, Int.toNat_natCast, List.getD, List.getElem?_eq_getElem hk, Option.getD_some]⟩
set_option maxHeartbeats 16000000 in
theorem walk_area_uses (hc : AreaSaid) (hp : PlanSaid) (v : Value) (p : Pl) (id : Int) (w : World) (h : PlanV w w.heap.size v p) :
  Calls Tryz.prog 7 #[v, .int .i64 id] w fun e w' => e = .returned (.bool true) ∧ Below w.heap.size w w' := by
 obtain ⟨u2, u3, u4, u5, rfl, hin⟩ := h
 obtain ⟨AS, cS, rfl, hS8, hS9⟩ := hin.secs.slice
 obtain ⟨AG, cG, rfl, hG8, hG9⟩ := hin.sigs.slice
 obtain ⟨nS, hnS⟩ : ∃ n, n = p.secs.length := ⟨_, rfl⟩
 obtain ⟨nG, hnG⟩ : ∃ n, n = p.sigs.length := ⟨_, rfl⟩
 have NS : Hid (nS = p.secs.length ∧ nS ≤ 9223372036854775807) := Lib.hid ⟨hnS, by unfold maxLen at hS9; omega⟩
 have NG : Hid (nG = p.sigs.length ∧ nG ≤ 9223372036854775807) := Lib.hid ⟨hnG, by unfold maxLen at hG9; omega⟩
 rw [← hnS, ← hnG] at hin ⊢
 clear hnS hnG hS8 hS9 hG8 hG9
 have h0 := heap_alloc_self w (.cells #[.int .i64 p.ver, .int .i64 p.par, .slice AS nS cS, u3, .slice AG nG cG, u5] 33)
 have hqb := below_new w (.cells #[.int .i64 p.ver, .int .i64 p.par, .slice AS nS cS, u3, .slice AG nG cG, u5] 33)
 go_enter Tryz.func7, Tryz.ntmps7
 go_upto_region 1 with fail
 generalize w.alloc (.cells #[.int .i64 p.ver, .int .i64 p.par, .slice AS nS cS, u3, .slice AG nG cG, u5] 33) = q at h0 hqb ⊢
 have X0 := Lib.hid h0
 have BQ := Lib.hid hqb
 have IP0 := Lib.hid (hin.below hqb)
 have VP : Hid (PlanV q q.heap.size (.agg #[.int .i64 p.ver, .int .i64 p.par, .slice AS nS cS, u3, .slice AG nG cG, u5]) p) := Lib.hid ⟨_, _, _, _, rfl, (hin.below hqb).more hqb.size⟩
 clear h0 hqb hin
 go_wp2_with fail
 refine (alive14 hc _).mono ?_
 rintro e wa ⟨rfl, bN⟩
 replace X0 := Lib.hid ((bN.block _ (heap_lt X0.out)).trans X0.out)
 replace BQ := Lib.hid (BQ.out.trans (bN.mono BQ.out.size))
 replace VP := Lib.hid ((VP.out.below bN).more bN.size)
 clear bN
 obtain ⟨k0, k1, k2, k3, k4, k5⟩ := cell6_of X0.out
 go_wp2_with fail
 refine (rgreat8_any _ p wa VP.out).mono ?_
 rintro e w2 ⟨⟨g, rfl, hg⟩, bN⟩
 clear k0 k1 k2 k3 k4 k5
 replace X0 := Lib.hid ((bN.block _ (heap_lt X0.out)).trans X0.out)
 replace BQ := Lib.hid (BQ.out.trans (bN.mono BQ.out.size))
 replace VP := Lib.hid ((VP.out.below bN).more bN.size)
 clear bN
 clear hg
 cases g with
 | true =>
  go_wp2_with fail
  go_ret
  exact ⟨rfl, BQ.out⟩
 | false =>
 obtain ⟨E, hE⟩ : ∃ x, x = usE p id := ⟨_, rfl⟩
 obtain ⟨l, hl⟩ : ∃ x, x = usV p id := ⟨_, rfl⟩
 obtain ⟨r, hr⟩ : ∃ x, x = elV p kRt p.routes id zRt := ⟨_, rfl⟩
 have HE : Hid (E = usE p id ∧ l = usV p id ∧ r = elV p kRt p.routes id zRt) := Lib.hid ⟨hE, hl, hr⟩
 clear hE hl hr
 obtain ⟨k0, k1, k2, k3, k4, k5⟩ := cell6_of X0.out
 go_wp2_with fail
 refine (hc.uses _ p id w2 VP.out).mono ?_
 rintro e x3 ⟨u0, u1, u2, u3, rfl, hu, bN⟩
 rw [← HE.out.2.1] at hu
 rw [← HE.out.1]
 obtain ⟨U60, n60, c60, rfl⟩ := ints_sl hu.secs
 obtain ⟨U61, n61, c61, rfl⟩ := ints_sl hu.pts
 obtain ⟨U62, n62, c62, rfl⟩ := ints_sl hu.sigs
 obtain ⟨U63, n63, c63, rfl⟩ := ints_sl hu.routes
 clear k0 k1 k2 k3 k4 k5
 replace X0 := Lib.hid ((bN.block _ (heap_lt X0.out)).trans X0.out)
 replace BQ := Lib.hid (BQ.out.trans (bN.mono BQ.out.size))
 replace VP := Lib.hid ((VP.out.below bN).more bN.size)
 clear bN
 have A6 := Lib.hid hu
 clear hu
 go_upto_region 5 with ((with_reducible show wpList _ _ _ (⟨none, _, _, _, _, _⟩ :: _) _ _); refine wpList_store_rowS rfl _ (.tmp 6) (.tmp 32) rfl x3.heap.size rfl (c' := #[.slice U60 n60 c60, .slice U61 n61 c61, .slice U62 n62 c62, .slice U63 n63 c63]) rfl (heap_alloc_self x3 (.cells #[.slice none 0 0, .slice none 0 0, .slice none 0 0, .slice none 0 0] 24)) infoArea4 rfl (by simp [Value.oneCell']) ?_)
 rw [World.setRow_alloc_new]
 have hx1 := heap_alloc_self x3 (.cells #[.slice U60 n60 c60, .slice U61 n61 c61, .slice U62 n62 c62, .slice U63 n63 c63] 24)
 have hb1 := below_new x3 (.cells #[.slice U60 n60 c60, .slice U61 n61 c61, .slice U62 n62 c62, .slice U63 n63 c63] 24)
 generalize x3.alloc (.cells #[.slice U60 n60 c60, .slice U61 n61 c61, .slice U62 n62 c62, .slice U63 n63 c63] 24) = w3 at hb1 hx1 ⊢
 obtain ⟨p6, hp1⟩ : ∃ n, n = x3.heap.size := ⟨_, rfl⟩
 rw [← hp1] at hx1 ⊢
 have X6 := Lib.hid hx1
 clear hx1 hp1
 replace X0 := Lib.hid ((hb1.block _ (heap_lt X0.out)).trans X0.out)
 replace BQ := Lib.hid (BQ.out.trans (hb1.mono BQ.out.size))
 replace VP := Lib.hid ((VP.out.below hb1).more hb1.size)
 replace A6 := Lib.hid ((A6.out.below hb1).more hb1.size)
 clear hb1
 obtain ⟨k0, k1, k2, k3, k4, k5⟩ := cell6_of X0.out
 go_wp2_with fail
 refine (hp.route _ p id w3 VP.out).mono ?_
 rintro e x5 ⟨y3, y4, y5, rfl, hro, bN⟩
 rw [← HE.out.2.2] at hro
 rw [← HE.out.2.2, show elE p kRt p.routes id = usE p id from rfl, ← HE.out.1]
 have hri := hro.in_
 obtain ⟨P0, pd0, rfl, -, -⟩ := hri.path.slice
 obtain ⟨P1, pd1, rfl, -, -⟩ := hri.over.slice
 obtain ⟨P2, pd2, rfl, -, -⟩ := hri.flanks.slice
 obtain ⟨pn0, hn0⟩ : ∃ n, n = r.path.length := ⟨_, rfl⟩
 obtain ⟨pn1, hn1⟩ : ∃ n, n = r.over.length := ⟨_, rfl⟩
 obtain ⟨pn2, hn2⟩ : ∃ n, n = r.flanks.length := ⟨_, rfl⟩
 have N0 : Hid (pn0 = r.path.length ∧ pn1 = r.over.length ∧ pn2 = r.flanks.length) := Lib.hid ⟨hn0, hn1, hn2⟩
 rw [← hn0, ← hn1, ← hn2] at hri ⊢
 clear hn0 hn1 hn2 hro k0 k1 k2 k3 k4 k5
 replace X0 := Lib.hid ((bN.block _ (heap_lt X0.out)).trans X0.out)
 replace X6 := Lib.hid ((bN.block _ (heap_lt X6.out)).trans X6.out)
 replace BQ := Lib.hid (BQ.out.trans (bN.mono BQ.out.size))
 replace VP := Lib.hid ((VP.out.below bN).more bN.size)
 replace A6 := Lib.hid ((A6.out.below bN).more bN.size)
 clear bN
 go_upto_region 6 with ((with_reducible show wpList _ _ _ (⟨none, _, _, _, _, _⟩ :: _) _ _); refine wpList_store_rowS rfl _ (.tmp 8) (.tmp 38) rfl x5.heap.size rfl (c' := #[.int .i64 r.id, .int .i64 r.entry, .int .i64 r.exit, .slice P0 pn0 pd0, .slice P1 pn1 pd1, .slice P2 pn2 pd2, .int .i64 r.timer]) rfl (heap_alloc_self x5 (.cells #[.int .i64 0, .int .i64 0, .int .i64 0, .slice none 0 0, .slice none 0 0, .slice none 0 0, .int .i64 0] 54)) infoRoute7 rfl (by simp [Value.oneCell']) ?_)
 rw [World.setRow_alloc_new]
 have hx1 := heap_alloc_self x5 (.cells #[.int .i64 r.id, .int .i64 r.entry, .int .i64 r.exit, .slice P0 pn0 pd0, .slice P1 pn1 pd1, .slice P2 pn2 pd2, .int .i64 r.timer] 54)
 have hb1 := below_new x5 (.cells #[.int .i64 r.id, .int .i64 r.entry, .int .i64 r.exit, .slice P0 pn0 pd0, .slice P1 pn1 pd1, .slice P2 pn2 pd2, .int .i64 r.timer] 54)
 have hri2 := (hri.below hb1).more hb1.size
 generalize x5.alloc (.cells #[.int .i64 r.id, .int .i64 r.entry, .int .i64 r.exit, .slice P0 pn0 pd0, .slice P1 pn1 pd1, .slice P2 pn2 pd2, .int .i64 r.timer] 54) = w5 at hb1 hx1 hri2 ⊢
 obtain ⟨p8, hp1⟩ : ∃ n, n = x5.heap.size := ⟨_, rfl⟩
 rw [← hp1] at hx1 ⊢
 have X8 := Lib.hid hx1
 have RO := Lib.hid hri2
 clear hx1 hp1 hri hri2
 replace X0 := Lib.hid ((hb1.block _ (heap_lt X0.out)).trans X0.out)
 replace X6 := Lib.hid ((hb1.block _ (heap_lt X6.out)).trans X6.out)
 replace BQ := Lib.hid (BQ.out.trans (hb1.mono BQ.out.size))
 replace VP := Lib.hid ((VP.out.below hb1).more hb1.size)
 replace A6 := Lib.hid ((A6.out.below hb1).more hb1.size)
 clear hb1
 by_cases h0 : E = 0
 rotate_left
 ·have d1 : (E != 0) = true := by simpa using h0
  have d2 : (E == E) = true := by simp
  clear h0
  go_wp2_with fail
  go_ret
  exact ⟨rfl, BQ.out⟩
 subst h0
 have HU := us_is HE.out.1.symm
 have HP := Lib.hid HU.1
 have HL2 : Hid (l = arOf (useB p r)) := Lib.hid (by rw [HE.out.2.1, HU.2.1, HE.out.2.2, HU.2.2.2.2])
 have HR : Hid (r ∈ p.routes ∧ r.id = id) := Lib.hid (by rw [HE.out.2.2, HU.2.2.2.2]; exact ⟨HU.2.2.1, HU.2.2.2.1⟩)
 have RM : Hid (RouteMay p r) := Lib.hid (by
  obtain ⟨j, hj, e⟩ := List.getElem_of_mem HR.out.1
  have hm := (HP.out.each j hj).2.2
  rwa [e] at hm)
 have NN : Hid (pn0 = r.path.length ∧ pn1 = r.over.length ∧ pn2 = r.flanks.length ∧ pn0 ≤ 6 ∧ pn1 ≤ 2 ∧ pn2 ≤ 3) := Lib.hid (by
  have h1 := N0.out; have h2 := RM.out.path; have h3 := RM.out.over; have h4 := RM.out.flank
  exact ⟨h1.1, h1.2.1, h1.2.2, by omega, by omega, by omega⟩)
 clear HU N0
 go_upto_region 8 with fail
 obtain ⟨i0, hii, hz0, hzz, hz2⟩ := info_parts infoInt
 have I0 := Lib.hid hii
 have I1 := Lib.hid hz0
 have I2 := Lib.hid hzz
 have I3 := Lib.hid hz2
 clear hii hz0 hzz hz2
 refine wp_region_held_drew (S := fun v => Below w5.heap.size w5 v) (by kernel_rfl) (Below.refl w5.heap.size w5).drew (fun hHeld => ?_)
 refine tk 1 hHeld ?_;refine tkc 2 hHeld (fun w' hSw => cell7_of ((hSw.block _ (heap_lt X8.out)).trans X8.out)) ?_;refine tk 4 hHeld ?_;refine tkc 5 hHeld (fun w' hSw => cell7_of ((hSw.block _ (heap_lt X8.out)).trans X8.out)) ?_
 have tb := (Below.refl w5.heap.size w5).drew
 generalize w5.drew = qa at tb hHeld ⊢
 have HB := Lib.hid tb
 clear tb
 refine tkr 0 (fun K hK => ?_)
 go_simp
 have tb := HB.out.alloc HB.out.size (.cells #[] 3)
 have t0 := heap_alloc_self qa (.cells #[] 3)
 refine hK.out _ _ ?_ fun hHeld => ?_;exact tb;clear hK K;try simp only [zn, Act.put]
 generalize qa.alloc (.cells #[] 3) = qb at tb t0 hHeld ⊢
 obtain ⟨pb, hpb⟩ : ∃ n, n = qa.heap.size := ⟨_, rfl⟩
 rw [← hpb] at t0 ⊢
 have PB_ : Hid (w5.heap.size ≤ pb) := Lib.hid (by rw [hpb]; exact HB.out.size)
 have T0 := Lib.hid t0
 have HB2 := Lib.hid tb
 clear tb t0 hpb HB
 obtain ⟨Yss, hy1, hy2, hy3, hy4, hy5, hy6, hy7⟩ := ((RO.out.path.below intR HB2.out).more intR HB2.out.size).cells (by omega) intR_full intR_cells
 have Y1 := Lib.hid hy1
 have Y2 := Lib.hid hy2
 have Y3 := Lib.hid hy3
 have Y4 := Lib.hid hy4
 have Y6 := Lib.hid hy6
 have Y7 := Lib.hid hy7
 have YL : Hid (Yss.flatten.length = pn0 * 1) := Lib.hid (by rw [flat_length _ hy2, hy1, NN.out.1])
 clear hy1 hy2 hy3 hy4 hy5 hy6 hy7
 refine tkr 3 (fun K hK => ?_)
 rw [if_pos (by rfl)]
 refine wp_append_list (.tmp 45) (.tmp 47) _ rfl Tryz.underlying22 I0.out I1.out rfl I2.out (by decide) I3.out (by decide) rfl (base := w5.heap.size) (n := 0) (ys := []) ⟨rfl, .inr ⟨_, _, _, rfl, PB_.out, T0.out, Nat.zero_le _, Nat.zero_le _, rfl, rfl⟩⟩ rfl YL.out Y4.out Y7.out Y6.out (by have := NN.out; omega) HB2.out.size ?_
 intro v4 w4_ hown4 hgrow4
 rw [Nat.zero_add, List.nil_append] at hown4
 obtain ⟨B4, d4, rfl⟩ := own_sliceN hown4
 have O4 := Lib.hid hown4
 have G4 : Hid (Below w5.heap.size w5 w4_) := Lib.hid (HB2.out.grown hgrow4 HB2.out.size (fun k hk => by cases hk; exact PB_.out))
 clear hown4 hgrow4
 refine hK.out _ _ ?_ fun hHeld => ?_;exact G4.out;clear hK K;try simp only [zn, Act.put]
 obtain ⟨Zss, hy1, hy2, hy3, hy4, hy5, hy6, hy7⟩ := ((RO.out.over.below intR G4.out).more intR G4.out.size).cells (by omega) intR_full intR_cells
 have Z1 := Lib.hid hy1
 have Z2 := Lib.hid hy2
 have Z3 := Lib.hid hy3
 have Z4 := Lib.hid hy4
 have Z6 := Lib.hid hy6
 have Z7 := Lib.hid hy7
 have ZL : Hid (Zss.flatten.length = pn1 * 1) := Lib.hid (by rw [flat_length _ hy2, hy1, NN.out.2.1])
 clear hy1 hy2 hy3 hy4 hy5 hy6 hy7
 refine tkr 6 (fun K hK => ?_)
 rw [if_pos (by rfl)]
 refine wp_append_list (.tmp 48) (.tmp 50) _ rfl Tryz.underlying22 I0.out I1.out rfl I2.out (by decide) I3.out (by decide) rfl O4.out rfl ZL.out Z4.out Z7.out Z6.out (by have := NN.out; omega) G4.out.size ?_
 intro v5 w6 hown5 hgrow5
 have OC := own_cat (R := IntR) (sz := 1) intF hown5 (by rw [NN.out.1, NN.out.2.1]) Y1.out Z1.out Y2.out Z2.out Y3.out Z3.out (by have := NN.out; unfold maxLen; omega)
 obtain ⟨AL, cL, rfl⟩ := own_sliceN hown5
 obtain ⟨nL, hnl⟩ : ∃ n, n = pn0 + pn1 := ⟨_, rfl⟩
 rw [← hnl] at OC ⊢
 have HL : Hid (nL = r.path.length + r.over.length) := Lib.hid (by have := NN.out; omega)
 have LO : Hid (IntsOwn w6 w5.heap.size (.slice AL nL cL) (r.path ++ r.over)) := Lib.hid OC
 have B6 : Hid (Below w5.heap.size w5 w6) := Lib.hid (G4.out.grown hgrow5 G4.out.size (own_ge O4.out))
 clear OC hown5 hgrow5 hnl
 refine hK.out _ _ ?_ fun hHeld => ?_;exact B6.out;clear hK K;try simp only [zn, Act.put]
 refine tk 7 hHeld ?_
 refine wpAnyH_done (by kernel_rfl) ?_ _
 clear G4 O4 HB2 T0 PB_ Y1 Y2 Y3 Y4 Y6 Y7 YL Z1 Z2 Z3 Z4 Z6 Z7 ZL I0 I1 I2 I3
 go_upto_region 10 with fail
 have W6 : Hid (Below w5.heap.size w5 w6) := B6
 clear B6
 have hp9 : pn2 ≤ 3 := NN.out.2.2.2.2.2
 go_loopw [10, 11, 12, 13] (fun s10 s11 s12 s13 wr => ∃ (i m c : Nat) (A : Option Addr), s11 = .int .i64 i ∧ i ≤ pn2 ∧ s10 = .slice A m c ∧ IntsOwn wr w5.heap.size (.slice A m c) (flU p r i) ∧ Below w5.heap.size w5 wr) (fun _ s11 _ _ _ => pn2 - (intOf s11).toNat)
 case atStart => exact ⟨0, nL, cL, AL, by go_num, by omega, rfl, by simpa [flU] using LO.out, W6.out⟩
 case round =>
  clear LO W6 HL
  obtain ⟨i, m, c, A, rfl, hi, rfl, ho, hb⟩ := hrel
  have HO := Lib.hid ho
  have BW := Lib.hid hb
  have HM : Hid (m = (flU p r i).length) := Lib.hid (own_len ho)
  clear ho hb
  obtain ⟨c0, c1, c2, c3, c4, c5, c6⟩ := cell7_of ((BW.out.block _ (heap_lt X8.out)).trans X8.out)
  by_cases hlt : i < pn2
  ·have hlt' : (i : Int) < pn2 := by omega
   have hir : i < r.flanks.length := by have := NN.out; omega
   obtain ⟨bf, of_, rfl, hbf, hf⟩ := RO.out.flanks.at hir
   obtain ⟨kp, hkp, hat, hval⟩ := flank_spot HP.out HR.out.1 hir
   obtain ⟨x, hx⟩ : ∃ x, x = r.flanks[i].1 := ⟨_, rfl⟩
   obtain ⟨sx, hsx⟩ : ∃ x, x = p.pts[kp].2 := ⟨_, rfl⟩
   obtain ⟨x1, hx1⟩ : ∃ x, x = p.pts[kp].1 := ⟨_, rfl⟩
   rw [← hx] at hat hval
   have FS : Hid (flU p r (i + 1) = flU p r i ++ [sx]) := Lib.hid (by rw [flU_snoc p r hir, hsx, hval, hx])
   have HF0 : Hid (w5.cell? ⟨bf, of_ + i * 2, none⟩ = some (.int .i64 x) ∧ bf < w5.heap.size) := Lib.hid ⟨by rw [hx]; simpa [JoinR] using hf.1, hbf⟩
   have HPE : Hid ((elV p kPt p.pts x (0, 0)).1 = x1 ∧ (elV p kPt p.pts x (0, 0)).2 = sx ∧ elE p kPt p.pts x = 0) := Lib.hid (by
    obtain ⟨g1, g2⟩ := pt_el14 HP.out hkp hat
    rw [g1, g2, hx1, hsx]
    exact ⟨rfl, rfl, rfl⟩)
   have hm9 : m ≤ 100 := by
    have h1 := HM.out
    rw [flU_len p r (by omega)] at h1
    have := NN.out
    omega
   clear hx hsx hx1 hval hf hat hbf hkp
   go_upto_region 12 with fail
   clear c0 c1 c2 c3 c4 c5 c6
   go_cut [12, 13] from 52 to 76 (fun s12 s13 wz => ∃ p12, s12 = .pointer (some ⟨p12, 0, none⟩) ∧ s13 = .int .i64 0 ∧ wz.heap[p12]? = some (.cells #[.int .i64 x1, .int .i64 sx] 60 (0, 0)) ∧ wr.heap.size ≤ p12 ∧ Below wr.heap.size wr wz)
   case first =>
    refine wp_region_held_drew (S := fun v => Below wr.heap.size wr v) (by kernel_rfl) (Below.refl wr.heap.size wr).drew (fun hHeld => ?_)
    refine tkc 0 hHeld (fun w' hSw => cell6_of (((BW.out.trans (hSw.mono BW.out.size)).block _ (heap_lt X0.out)).trans X0.out)) ?_;refine tk 1 hHeld ?_;refine tkc 2 hHeld (fun w' hSw => cell7_of (((BW.out.trans (hSw.mono BW.out.size)).block _ (heap_lt X8.out)).trans X8.out)) ?_;refine tk 3 hHeld ?_;refine tk 4 hHeld ?_;refine tk 5 hHeld ?_;refine tkc 6 hHeld (fun w' hSw => ((BW.out.trans (hSw.mono BW.out.size)).cell (p := ⟨bf, of_ + i * 2, none⟩) HF0.out.2).trans HF0.out.1) ?_
    have tb := (Below.refl wr.heap.size wr).drew
    generalize wr.drew = q0 at tb hHeld ⊢
    have HB := Lib.hid tb
    clear tb
    refine wpAnyH_ready (rs := [7, 11]) (by kernel_rfl) (by simp) ?_
    refine AllReadyH.cons rfl (fun K hK => ?_) (AllReadyH.cons rfl (fun K hK => ?_) AllReadyH.nil)
    ·go_simp
     refine (hp.point _ p x q0 ((VP.out.below (BW.out.trans (HB.out.mono BW.out.size))).more (BW.out.trans (HB.out.mono BW.out.size)).size)).mono ?_
     rintro e qA ⟨rfl, b⟩
     rw [HPE.out.1, HPE.out.2.1, HPE.out.2.2]
     have tb := HB.out.trans (b.mono HB.out.size)
     clear HB b
     have HB := Lib.hid tb
     clear tb
     try go_wp2_with fail
     refine hK.out _ _ ?_ fun hHeld => ?_;exact HB.out;clear hK K;try simp only [zn, Act.put]
     refine tk 8 hHeld ?_;refine tk 9 hHeld ?_;refine tk 10 hHeld ?_
     refine tkr 11 (fun K hK => ?_)
     go_simp
     have tb := HB.out.alloc HB.out.size (.cells #[.int .i64 0, .int .i64 0] 60)
     have t9 := heap_alloc_self qA (.cells #[.int .i64 0, .int .i64 0] 60)
     refine hK.out _ _ ?_ fun hHeld => ?_;exact tb;clear hK K;try simp only [zn, Act.put]
     generalize qA.alloc (.cells #[.int .i64 0, .int .i64 0] 60) = qB at tb t9 hHeld ⊢
     obtain ⟨p12, hp_⟩ : ∃ n, n = qA.heap.size := ⟨_, rfl⟩
     rw [← hp_] at t9 ⊢
     have PLB : Hid (wr.heap.size ≤ p12) := Lib.hid (by rw [hp_]; exact HB.out.size)
     clear HB hp_
     have HB := Lib.hid tb
     have XB := Lib.hid t9
     clear tb t9
     refine tkr 12 (fun K hK => ?_)
     rw [if_pos (by rfl)]
     refine wp_store_rowP 60 (.tmp 12) (.tmp 68) rfl p12 rfl (c' := #[.int .i64 x1, .int .i64 sx]) rfl XB.out infoPoint14 rfl (by simp [Value.oneCell']) ?_
     have tb := below_setRow HB.out PLB.out #[.int .i64 x1, .int .i64 sx]
     have t9 := setRow_heap qB _ _ #[.int .i64 x1, .int .i64 sx] _ _ XB.out
     refine hK.out _ _ ?_ fun hHeld => ?_;exact tb;clear hK K;try simp only [zn, Act.put]
     generalize qB.setRow p12 #[.int .i64 x1, .int .i64 sx] = qZ at tb t9 hHeld ⊢
     refine tk 13 hHeld ?_
     refine wpAnyH_done (by kernel_rfl) ?_ _
     go_wp2_with fail
     go_meet
     exact ⟨p12, rfl, rfl, t9, PLB.out, tb⟩
    ·go_simp
     have tb := HB.out.alloc HB.out.size (.cells #[.int .i64 0, .int .i64 0] 60)
     have t9 := heap_alloc_self q0 (.cells #[.int .i64 0, .int .i64 0] 60)
     refine hK.out _ _ ?_ fun hHeld => ?_;exact tb;clear hK K;try simp only [zn, Act.put]
     generalize q0.alloc (.cells #[.int .i64 0, .int .i64 0] 60) = qA at tb t9 hHeld ⊢
     obtain ⟨p12, hp_⟩ : ∃ n, n = q0.heap.size := ⟨_, rfl⟩
     rw [← hp_] at t9 ⊢
     have PLB : Hid (wr.heap.size ≤ p12) := Lib.hid (by rw [hp_]; exact HB.out.size)
     clear HB hp_
     have HB := Lib.hid tb
     have XB := Lib.hid t9
     clear tb t9
     refine tkr 7 (fun K hK => ?_)
     go_simp
     refine (hp.point _ p x qA ((VP.out.below (BW.out.trans (HB.out.mono BW.out.size))).more (BW.out.trans (HB.out.mono BW.out.size)).size)).mono ?_
     rintro e qB ⟨rfl, b⟩
     rw [HPE.out.1, HPE.out.2.1, HPE.out.2.2]
     have tb := HB.out.trans (b.mono HB.out.size)
     have tX := (b.block _ (heap_lt XB.out)).trans XB.out
     clear XB
     have XB := Lib.hid tX
     clear tX
     clear HB b
     have HB := Lib.hid tb
     clear tb
     try go_wp2_with fail
     refine hK.out _ _ ?_ fun hHeld => ?_;exact HB.out;clear hK K;try simp only [zn, Act.put]
     refine tk 8 hHeld ?_;refine tk 9 hHeld ?_;refine tk 10 hHeld ?_
     refine tkr 12 (fun K hK => ?_)
     rw [if_pos (by rfl)]
     refine wp_store_rowP 60 (.tmp 12) (.tmp 68) rfl p12 rfl (c' := #[.int .i64 x1, .int .i64 sx]) rfl XB.out infoPoint14 rfl (by simp [Value.oneCell']) ?_
     have tb := below_setRow HB.out PLB.out #[.int .i64 x1, .int .i64 sx]
     have t9 := setRow_heap qB _ _ #[.int .i64 x1, .int .i64 sx] _ _ XB.out
     refine hK.out _ _ ?_ fun hHeld => ?_;exact tb;clear hK K;try simp only [zn, Act.put]
     generalize qB.setRow p12 #[.int .i64 x1, .int .i64 sx] = qZ at tb t9 hHeld ⊢
     refine tk 13 hHeld ?_
     refine wpAnyH_done (by kernel_rfl) ?_ _
     go_wp2_with fail
     go_meet
     exact ⟨p12, rfl, rfl, t9, PLB.out, tb⟩
   case rest =>
    obtain ⟨p12, rfl, rfl, h12, -, hb⟩ := hcut
    obtain ⟨wz, hwz⟩ : ∃ x, x = wc := ⟨_, rfl⟩
    rw [← hwz] at h12 hb ⊢
    clear hwz wc
    have HO2 := Lib.hid (HO.out.below intR hb)
    have BW2 := Lib.hid (BW.out.trans (hb.mono BW.out.size))
    obtain ⟨c0, c1⟩ := cell2_of h12
    clear HO BW h12 hb HPE HF0
    go_wp2_with ((with_reducible show wpList _ _ _ (⟨some 76, _, _, _, _, _⟩ :: _) _ _); refine wpList_append_one (W := wz) rfl (.tmp 72) (.tmp 75) rfl slI14 intR (fun _ h _ _ => h) rfl rfl HO2.out HM.out (ys := [.int .i64 sx]) (x := sx) rfl (by simp [Value.oneCell']) rfl (by omega) BW2.out.size ?_; intro A6 c6 w7 ho6 hb6; have O6 := Lib.hid ho6; have B6 := Lib.hid (BW2.out.trans hb6); clear ho6 hb6)
    go_roundw
    case measure => simp [intOf]; omega
    case rel => exact ⟨i + 1, m + 1, c6, A6, by go_num, by omega, rfl, by rw [FS.out]; exact O6.out, B6.out⟩
  ·obtain rfl : i = pn2 := by omega
   have hlt' : ¬ (i : Int) < i := by omega
   have LU : Hid (IntsOwn wr w5.heap.size (.slice A m c) (secsU p r)) := Lib.hid (by have h := HO.out; rwa [NN.out.2.2.1, flU_all] at h)
   have LM : Hid (m = (secsU p r).length) := Lib.hid (own_len LU.out)
   have hm9 : m ≤ 100 := by
    have h1 := HM.out
    rw [flU_len p r (by have := NN.out; omega)] at h1
    have := NN.out
    omega
   go_upto_region 17 with fail
   obtain ⟨w7, hw7⟩ : ∃ x, x = wr := ⟨_, rfl⟩
   rw [← hw7] at LU ⊢
   have BW7 : Hid (Below w5.heap.size w5 w7) := Lib.hid (by rw [hw7]; exact BW.out)
   clear hw7 BW HO c0 c1 c2 c3 c4 c5 c6
   have Y0 := Lib.hid ((BW7.out.block _ (heap_lt X0.out)).trans X0.out)
   have Y6 := Lib.hid ((BW7.out.block _ (heap_lt X6.out)).trans X6.out)
   have Y8 := Lib.hid ((BW7.out.block _ (heap_lt X8.out)).trans X8.out)
   have AA := Lib.hid ((A6.out.below BW7.out).more BW7.out.size)
   have PI := Lib.hid (((planV_in VP.out).below BW7.out).more BW7.out.size)
   have LI := Lib.hid (LU.out.in_ intR_cells)
   have BQ7 := Lib.hid (BQ.out.trans (BW7.out.mono BQ.out.size))
   clear X0 X6 X8 A6 VP LU BW7 RO HM
   have hS9 : nS ≤ 9223372036854775807 := NS.out.2
   go_loopw [14, 15, 16, 17] (fun s14 s15 s16 s17 wx => ∃ i : Nat, s14 = .int .i64 i ∧ i ≤ nS ∧ Below w7.heap.size w7 wx) (fun s14 _ _ _ _ => nS - (intOf s14).toNat)
   case atStart => exact ⟨0, by go_num, by omega, Below.refl _ _⟩
   case round =>
    obtain ⟨wx, hwx⟩ : ∃ z, z = wr := ⟨_, rfl⟩
    subst hwx
    obtain ⟨i, rfl, hi, hb⟩ := hrel
    have BW := Lib.hid hb
    clear hb
    obtain ⟨k0, k1, k2, k3, k4, k5⟩ := cell6_of ((BW.out.block _ (heap_lt Y0.out)).trans Y0.out)
    by_cases hlt2 : i < nS
    ·have hlt3 : (i : Int) < nS := by omega
     have hir : i < p.secs.length := by have := NS.out; omega
     obtain ⟨bs, os, rfl, hbs, hs0, hs1, ue, hs2, hj⟩ := PI.out.secs.at hir
     obtain ⟨Au, cu, hue, -, -⟩ := hj.slice
     obtain ⟨a1, ha1⟩ : ∃ x, x = p.secs[i].1 := ⟨_, rfl⟩
     obtain ⟨a2, ha2⟩ : ∃ x, x = p.secs[i].2.1 := ⟨_, rfl⟩
     have HS1 : Hid (hasA l 1 a1 = decide (a1 ∈ secsU p r)) := Lib.hid (by rw [HL2.out, ha1]; exact has_sec HP.out HR.out.1 (List.getElem_mem hir))
     have HS2 : Hid (a2 > 0 → hasA l 2 a2 = decide (a1 ∈ secsU p r)) := Lib.hid (by rw [HL2.out, ha1, ha2]; exact has_pt HP.out HR.out.1 (List.getElem_mem hir))
     rw [← ha1] at hs0
     rw [← ha2] at hs1
     have g0 : wx.cell? ⟨bs, os + i * 3, none⟩ = some (.int .i64 a1) := (BW.out.cell (p := ⟨bs, os + i * 3, none⟩) hbs).trans (by simpa using hs0)
     have g1 : wx.cell? ⟨bs, os + i * 3 + 1, none⟩ = some (.int .i64 a2) := (BW.out.cell (p := ⟨bs, os + i * 3 + 1, none⟩) hbs).trans (by simpa using hs1)
     have g2 : wx.cell? ⟨bs, os + i * 3 + 2, none⟩ = some ue := (BW.out.cell (p := ⟨bs, os + i * 3 + 2, none⟩) hbs).trans (by simpa using hs2)
     rw [hue] at g2
     clear hs0 hs1 hs2 hj ha1 ha2 hbs
     obtain ⟨nu, hnu⟩ : ∃ n, n = p.secs[i].2.2.length := ⟨_, rfl⟩
     rw [← hnu] at g2
     clear hnu hue ue
     go_upto_region 20 with ((with_reducible show wpList _ _ _ (⟨none, _, _, _, _, _⟩ :: _) _ _); refine wpList_store_rowS rfl _ (.tmp 15) (.tmp 88) rfl wx.heap.size rfl (c' := #[.int .i64 a1, .int .i64 a2, .slice Au nu cu]) rfl (heap_alloc_self wx (.cells #[.int .i64 0, .int .i64 0, .slice none 0 0] 67)) infoSec14 rfl (by simp [Value.oneCell']) ?_)
     rw [World.setRow_alloc_new]
     have hx1 := heap_alloc_self wx (.cells #[.int .i64 a1, .int .i64 a2, .slice Au nu cu] 67)
     have hb1 := below_new wx (.cells #[.int .i64 a1, .int .i64 a2, .slice Au nu cu] 67)
     generalize wx.alloc (.cells #[.int .i64 a1, .int .i64 a2, .slice Au nu cu] 67) = wy at hb1 hx1 ⊢
     obtain ⟨p15, hp1⟩ : ∃ n, n = wx.heap.size := ⟨_, rfl⟩
     rw [← hp1] at hx1 ⊢
     have X15 := Lib.hid hx1
     have BY := Lib.hid (BW.out.trans (hb1.mono BW.out.size))
     clear hx1 hb1 hp1 g0 g1 g2 k0 k1 k2 k3 k4 k5
     go_upto_region 22 with fail
     go_loopw [16, 17] (fun s16 s17 wz => ∃ (j : Nat) (u : Bool), s17 = .int .i64 j ∧ j ≤ m ∧ s16 = .bool u ∧ u = decide (a1 ∈ (secsU p r).take j) ∧ Below wy.heap.size wy wz) (fun _ s17 _ => m - (intOf s17).toNat)
     case atStart => exact ⟨0, false, by go_num, by omega, rfl, by simp, Below.refl _ _⟩
     case round =>
      obtain ⟨wz, hwz⟩ : ∃ z, z = wr := ⟨_, rfl⟩
      subst hwz
      obtain ⟨j, u, rfl, hj, rfl, hu, hb⟩ := hrel
      have BZ := Lib.hid hb
      have HU := Lib.hid hu
      clear hb hu
      by_cases hlj : j < m
      ·have hlj' : (j : Int) < m := by omega
       have hjr : j < (secsU p r).length := by have := LM.out; omega
       obtain ⟨bl, ol, rfl, hbl, hc_⟩ := LI.out.at hjr
       obtain ⟨x, hx⟩ : ∃ x, x = (secsU p r)[j] := ⟨_, rfl⟩
       have BWZ := Lib.hid (BY.out.trans (BZ.out.mono BY.out.size))
       have gl : wz.cell? ⟨bl, ol + j, none⟩ = some (.int .i64 x) := (BWZ.out.cell (p := ⟨bl, ol + j, none⟩) hbl).trans (by rw [hx]; simpa [IntR] using hc_)
       obtain ⟨e0, e1, e2⟩ := cell3_of ((BZ.out.block _ (heap_lt X15.out)).trans X15.out)
       have HN : Hid (decide (a1 ∈ (secsU p r).take (j + 1)) = (u || (x == a1))) := Lib.hid (by
        rw [HU.out, show (secsU p r).take (j + 1) = (secsU p r).take j ++ [x] by rw [hx]; simp, Bool.eq_iff_iff]
        simp only [decide_eq_true_eq, List.mem_append, List.mem_singleton, Bool.or_eq_true, beq_iff_eq]
        exact ⟨fun h => h.elim .inl fun h => .inr h.symm, fun h => h.elim .inl fun h => .inr h.symm⟩)
       have BD : Hid (∀ nq, Below wz.heap.size wz (wz.drewN nq)) := Lib.hid (fun nq => ⟨rfl, rfl, rfl, Nat.le_refl _, fun _ _ => rfl⟩)
       clear hx hc_ hbl
       go_upto_region 24 with fail
       cases u with
       | true =>
        go_quiet (fail)
        have hdb := BD.out nq
        generalize wz.drewN nq = wq at hdb ⊢
        have BQ3 := Lib.hid (BZ.out.trans (hdb.mono BZ.out.size))
        clear hdb BD gl e0 e1 e2
        go_wp2_with fail
        go_roundw
        case measure => simp [intOf]; omega
        case rel => exact ⟨j + 1, true, by go_num, by omega, rfl, by rw [HN.out]; rfl, BQ3.out⟩
       | false =>
        go_quiet (fail)
        have hdb := BD.out nq
        generalize wz.drewN nq = wq at hdb ⊢
        have BQ3 := Lib.hid (BZ.out.trans (hdb.mono BZ.out.size))
        clear hdb BD gl e0 e1 e2
        go_wp2_with fail
        go_roundw
        case measure => simp [intOf]; omega
        case rel => exact ⟨j + 1, (x == a1), by go_num, by omega, rfl, by rw [HN.out]; rfl, BQ3.out⟩
      ·obtain rfl : j = m := by omega
       have hlj' : ¬ (j : Int) < j := by omega
       have HUA : Hid (u = decide (a1 ∈ secsU p r)) := Lib.hid (by rw [HU.out, List.take_of_length_le (Nat.le_of_eq LM.out.symm)])
       have BZ7 := Lib.hid (BY.out.trans (BZ.out.mono BY.out.size))
       have Z6 := Lib.hid ((BZ7.out.block _ (heap_lt Y6.out)).trans Y6.out)
       have ZA := Lib.hid ((AA.out.below BZ7.out).more BZ7.out.size)
       have Z15 := Lib.hid ((BZ.out.block _ (heap_lt X15.out)).trans X15.out)
       have HS1' := HS1.out
       have HS2' := HS2.out
       rw [← HUA.out] at HS1' HS2'
       obtain ⟨k0, k1, k2, k3⟩ := cell4A Z6.out
       obtain ⟨e0, e1, e2⟩ := cell3_of Z15.out
       go_wp2_with fail
       refine (hc.has _ l 1 a1 wz ⟨_, _, _, _, rfl, ZA.out⟩ (by decide) (by decide)).mono ?_
       rintro e wv ⟨rfl, bN⟩
       rw [HS1']
       have BV := Lib.hid (BZ7.out.trans (bN.mono BZ7.out.size))
       have V6 := Lib.hid ((bN.block _ (heap_lt Z6.out)).trans Z6.out)
       have VA_ := Lib.hid ((ZA.out.below bN).more bN.size)
       have V15 := Lib.hid ((bN.block _ (heap_lt Z15.out)).trans Z15.out)
       clear k0 k1 k2 k3 e0 e1 e2 bN BZ BZ7 Z6 ZA Z15
       obtain ⟨k0, k1, k2, k3⟩ := cell4A V6.out
       obtain ⟨e0, e1, e2⟩ := cell3_of V15.out
       have du : (u != u) = false := by cases u <;> rfl
       by_cases hgt : a2 > 0
       ·have dg : decide (a2 > 0) = true := decide_eq_true hgt
        go_wp2_with fail
        refine (hc.has _ l 2 a2 wv ⟨_, _, _, _, rfl, VA_.out⟩ (by decide) (by decide)).mono ?_
        rintro e wu ⟨rfl, bN⟩
        rw [HS2' hgt]
        have BU := Lib.hid (BV.out.trans (bN.mono BV.out.size))
        clear bN k0 k1 k2 k3 e0 e1 e2
        go_wp2_with fail
        go_roundw
        case measure => simp [intOf]; omega
        case rel => exact ⟨i + 1, by go_num, by omega, BU.out⟩
       ·have dg : decide (a2 > 0) = false := decide_eq_false hgt
        go_wp2_with fail
        go_roundw
        case measure => simp [intOf]; omega
        case rel => exact ⟨i + 1, by go_num, by omega, BV.out⟩
    ·obtain rfl : i = nS := by omega
     have hlt3 : ¬ (i : Int) < i := by omega
     go_upto_region 28 with fail
     clear hlt2 hlt3 k0 k1 k2 k3 k4 k5 hlt'
     have hG9 : nG ≤ 9223372036854775807 := NG.out.2
     go_loopw [18, 19] (fun s18 s19 wr => ∃ k : Nat, s18 = .int .i64 k ∧ k ≤ nG ∧ Below w7.heap.size w7 wr) (fun s18 _ _ => nG - (intOf s18).toNat)
     case atStart => exact ⟨0, by go_num, by omega, BW.out⟩
     case round =>
      clear BW
      obtain ⟨wz, hwz⟩ : ∃ z, z = wr := ⟨_, rfl⟩
      subst hwz
      obtain ⟨k, rfl, hk, hb⟩ := hrel
      have BW := Lib.hid hb
      clear hb
      obtain ⟨k0, k1, k2, k3, k4, k5⟩ := cell6_of ((BW.out.block _ (heap_lt Y0.out)).trans Y0.out)
      by_cases hlt : k < nG
      ·have hlt' : (k : Int) < nG := by omega
       have hir : k < p.sigs.length := by have := NG.out; omega
       obtain ⟨bs, os, rfl, hbs, hs0, -⟩ := PI.out.sigs.at hir
       obtain ⟨n, hn⟩ : ∃ x, x = p.sigs[k].1 := ⟨_, rfl⟩
       have HSG : Hid (hasA l 3 n = (decide (n = r.entry) || decide (n = r.exit))) := Lib.hid (by
        have := HP.out.sigs.each k hir
        rw [HL2.out]
        exact has_sig HP.out (by rw [hn]; exact ⟨this.1, this.2.1⟩))
       rw [← hn] at hs0
       have g0 : wz.cell? ⟨bs, os + k * 3, none⟩ = some (.int .i64 n) := (BW.out.cell (p := ⟨bs, os + k * 3, none⟩) hbs).trans (by simpa using hs0)
       clear hs0 hn hbs
       go_upto_region 31 with fail
       clear g0 k0 k1 k2 k3 k4 k5
       by_cases he : n = r.entry
       ·have d0 : (n == r.entry) = true := by simpa using he
        have HV : Hid (hasA l 3 n = true) := Lib.hid (by rw [HSG.out, decide_eq_true he]; rfl)
        clear he HSG
        refine wp_region_held_drew (S := fun v => Below wz.heap.size wz v) (by kernel_rfl) (Below.refl wz.heap.size wz).drew (fun hHeld => ?_)
        refine tkc 0 hHeld (fun w' hSw => cell4A (((BW.out.trans (hSw.mono BW.out.size)).block _ (heap_lt Y6.out)).trans Y6.out)) ?_;refine tk 1 hHeld ?_;refine tk 3 hHeld ?_;refine tk 4 hHeld ?_;refine tkc 5 hHeld (fun w' hSw => cell7_of (((BW.out.trans (hSw.mono BW.out.size)).block _ (heap_lt Y8.out)).trans Y8.out)) ?_;refine tk 6 hHeld ?_
        have tb := (Below.refl wz.heap.size wz).drew
        generalize wz.drew = q0 at tb hHeld ⊢
        have HB := Lib.hid tb
        clear tb
        refine tkr 2 (fun K hK => ?_)
        go_simp
        refine (hc.has _ l 3 n q0 ⟨_, _, _, _, rfl, (AA.out.below (BW.out.trans (HB.out.mono BW.out.size))).more (BW.out.trans (HB.out.mono BW.out.size)).size⟩ (by decide) (by decide)).mono ?_
        rintro e qv ⟨rfl, b⟩
        rw [HV.out]
        have HB' := Lib.hid (HB.out.trans (b.mono HB.out.size))
        clear b HB
        try go_wp2_with fail
        refine hK.out _ _ ?_ fun hHeld => ?_;exact HB'.out;clear hK K;try simp only [zn, Act.put]
        refine tk 7 hHeld ?_;refine tks 8 hHeld ?_;refine tks 9 hHeld ?_;refine tks 10 hHeld ?_;refine tks 11 hHeld ?_;refine tk 12 hHeld ?_;refine tk 13 hHeld ?_
        refine wpAnyH_done (by kernel_rfl) ?_ _
        have BE := Lib.hid (BW.out.trans (HB'.out.mono BW.out.size))
        go_wp2_with fail
        go_roundw
        case measure => simp [intOf]; omega
        case rel => exact ⟨k + 1, by go_num, by omega, BE.out⟩
       ·have d0 : (n == r.entry) = false := by simpa using he
        obtain ⟨bx, hbx⟩ : ∃ x, x = decide (n = r.exit) := ⟨_, rfl⟩
        have d1 : (n == r.exit) = bx := by rw [hbx, Bool.eq_iff_iff]; simp
        have HV : Hid (hasA l 3 n = bx) := Lib.hid (by rw [HSG.out, decide_eq_false he, hbx]; rfl)
        have du : (bx != bx) = false := by cases bx <;> rfl
        clear he hbx HSG
        refine wp_region_held_drew (S := fun v => Below wz.heap.size wz v) (by kernel_rfl) (Below.refl wz.heap.size wz).drew (fun hHeld => ?_)
        refine tkc 0 hHeld (fun w' hSw => cell4A (((BW.out.trans (hSw.mono BW.out.size)).block _ (heap_lt Y6.out)).trans Y6.out)) ?_;refine tk 1 hHeld ?_;refine tk 3 hHeld ?_;refine tk 4 hHeld ?_;refine tkc 5 hHeld (fun w' hSw => cell7_of (((BW.out.trans (hSw.mono BW.out.size)).block _ (heap_lt Y8.out)).trans Y8.out)) ?_;refine tk 6 hHeld ?_
        have tb := (Below.refl wz.heap.size wz).drew
        generalize wz.drew = q0 at tb hHeld ⊢
        have HB := Lib.hid tb
        clear tb
        refine tkr 2 (fun K hK => ?_)
        go_simp
        refine (hc.has _ l 3 n q0 ⟨_, _, _, _, rfl, (AA.out.below (BW.out.trans (HB.out.mono BW.out.size))).more (BW.out.trans (HB.out.mono BW.out.size)).size⟩ (by decide) (by decide)).mono ?_
        rintro e qv ⟨rfl, b⟩
        rw [HV.out]
        have HB' := Lib.hid (HB.out.trans (b.mono HB.out.size))
        clear b HB
        try go_wp2_with fail
        refine hK.out _ _ ?_ fun hHeld => ?_;exact HB'.out;clear hK K;try simp only [zn, Act.put]
        refine tk 7 hHeld ?_;refine tk 8 hHeld ?_;refine tk 9 hHeld ?_;refine tkc 10 hHeld (fun w' hSw => cell7_of (((BW.out.trans (hSw.mono BW.out.size)).block _ (heap_lt Y8.out)).trans Y8.out)) ?_;refine tk 11 hHeld ?_;refine tk 12 hHeld ?_;refine tk 13 hHeld ?_
        refine wpAnyH_done (by kernel_rfl) ?_ _
        have BE := Lib.hid (BW.out.trans (HB'.out.mono BW.out.size))
        go_wp2_with fail
        go_roundw
        case measure => simp [intOf]; omega
        case rel => exact ⟨k + 1, by go_num, by omega, BE.out⟩
      ·obtain rfl : k = nG := by omega
       have hlt' : ¬ (k : Int) < k := by omega
       have e63 : n63 = 1 := by rw [in_len14 AA.out.routes, HL2.out, use_routes HP.out HR.out.1]; rfl
       have hle : n61 ≤ n60 := by rw [in_len14 AA.out.pts, in_len14 AA.out.secs, HL2.out]; exact pts_fewer HP.out HR.out.1
       have hl0 : l.routes = [id] := by rw [HL2.out, use_routes HP.out HR.out.1, HR.out.2]
       obtain ⟨br, orr, hU, hbr, hcr⟩ := AA.out.routes.at (j := 0) (by rw [hl0]; exact Nat.one_pos)
       subst hU
       subst e63
       have g0 : wz.cell? ⟨br, orr, none⟩ = some (.int .i64 id) := (BW.out.cell (p := ⟨br, orr, none⟩) hbr).trans (by simpa [IntR, hl0] using hcr)
       obtain ⟨f0, f1, f2, f3⟩ := cell4A ((BW.out.block _ (heap_lt Y6.out)).trans Y6.out)
       have dle : decide ((n61 : Int) ≤ n60) = true := decide_eq_true (by omega)
       have hle' : (n61 : Int) ≤ n60 := by omega
       have BF := Lib.hid (BQ7.out.trans (BW.out.mono BQ7.out.size))
       clear hcr hl0 hbr hle
       go_wp2_with fail
       go_ret
       exact ⟨by simp, BF.out⟩
end Go.Proofs.YtneeocnjfnneoaaGreat
