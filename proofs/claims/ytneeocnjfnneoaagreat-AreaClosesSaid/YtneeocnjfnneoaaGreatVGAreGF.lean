/-
 The program's package area: what the route of a number uses.
 Conditions: none.
-/
import Derived.Test.YtneeocnjfnneoaaGreatVAreGB
import Derived.Test.YtneeocnjfnneoaaGreatVGAreGC
import Derived.Test.YtneeocnjfnneoaaGreatVGPlnRefD
import Derived.Test.YtneeocnjfnneoaaGreatVAreGE
set_option linter.unusedVariables false
set_option linter.unusedSimpArgs false
set_option maxRecDepth 100000
namespace Go.Proofs.YtneeocnjfnneoaaGreat
open Go.RowKit

theorem gB_use (u : Int → Int → Bool) : arOf (fun k i => gB (fun z => u z.1 z.2 = true) (k, i)) = arOf u := by
 congr 1
 funext k i
 exact gB_of u k i
set_option maxHeartbeats 16000000 in
theorem puses14_any (hp : PlanSaid) (v : Value) (p : Pl) (id : Int) (w : World) (h : PlanV w w.heap.size v p) :
  Calls Tryz.prog 11 #[v, .int .i64 id] w fun e w' => ∃ u0 u1 u2 u3, e = .returned (.tuple #[.agg #[u0, u1, u2, u3], .int .i64 (usE p id)]) ∧ ArIn w' w'.heap.size u0 u1 u2 u3 (usV p id) ∧ Below w.heap.size w w' := by
 obtain ⟨y2, y3, y4, y5, rfl, hin⟩ := h
 obtain ⟨A2, c2, rfl, -, -⟩ := hin.secs.slice
 obtain ⟨n2, hn2⟩ : ∃ z_, z_ = p.secs.length := ⟨_, rfl⟩
 obtain ⟨A3, c3, rfl, -, -⟩ := hin.pts.slice
 obtain ⟨n3, hn3⟩ : ∃ z_, z_ = p.pts.length := ⟨_, rfl⟩
 obtain ⟨A4, c4, rfl, -, -⟩ := hin.sigs.slice
 obtain ⟨n4, hn4⟩ : ∃ z_, z_ = p.sigs.length := ⟨_, rfl⟩
 obtain ⟨AR, cR, rfl, -, -⟩ := hin.routes.slice
 obtain ⟨nR, hnR⟩ : ∃ z_, z_ = p.routes.length := ⟨_, rfl⟩
 rw [← hn2] at hin
 rw [← hn2]
 rw [← hn3] at hin
 rw [← hn3]
 rw [← hn4] at hin
 rw [← hn4]
 rw [← hnR] at hin
 rw [← hnR]
 clear hn2 hn3 hn4 hnR
 obtain ⟨h0, h1, hqb⟩ := two_boxes w (.cells #[.int .i64 p.ver, .int .i64 p.par, .slice A2 n2 c2, .slice A3 n3 c3, .slice A4 n4 c4, .slice AR nR cR] 33) (.cells #[.slice none 0 0, .slice none 0 0, .slice none 0 0, .slice none 0 0] 24)
 go_enter Tryz.func11, Tryz.ntmps11
 go_upto_region 1 with fail
 generalize (w.alloc (.cells #[.int .i64 p.ver, .int .i64 p.par, .slice A2 n2 c2, .slice A3 n3 c3, .slice A4 n4 c4, .slice AR nR cR] 33)).alloc (.cells #[.slice none 0 0, .slice none 0 0, .slice none 0 0, .slice none 0 0] 24) = q at h0 h1 hqb ⊢
 have X0 := Lib.hid h0
 have X4 := Lib.hid h1
 have BQ := Lib.hid hqb
 have P4 : Hid (w.heap.size + 1 < q.heap.size) := Lib.hid (heap_lt h1)
 have VP : Hid (PlanV q q.heap.size (.agg #[.int .i64 p.ver, .int .i64 p.par, .slice A2 n2 c2, .slice A3 n3 c3, .slice A4 n4 c4, .slice AR nR cR]) p) := Lib.hid ⟨_, _, _, _, rfl, (hin.below hqb).more hqb.size⟩
 clear h0 h1 hqb hin
 obtain ⟨E, hE⟩ : ∃ x, x = usE p id := ⟨_, rfl⟩
 obtain ⟨r, hr⟩ : ∃ x, x = elV p kRt p.routes id zRt := ⟨_, rfl⟩
 have HE : Hid (E = usE p id ∧ r = elV p kRt p.routes id zRt) := Lib.hid ⟨hE, hr⟩
 clear hE hr
 obtain ⟨k0, k1, k2, k3, k4, k5⟩ := cell6_of X0.out
 go_wp2_with fail
 refine (hp.route _ p id q VP.out).mono ?_
 rintro e x5 ⟨y3, y4, y5, rfl, hro, bN⟩
 rw [← HE.out.2] at hro
 rw [← HE.out.2, show elE p kRt p.routes id = usE p id from rfl, ← HE.out.1]
 have hri := hro.in_
 obtain ⟨P0, pd0, rfl, -, -⟩ := hri.path.slice
 obtain ⟨P1, pd1, rfl, -, -⟩ := hri.over.slice
 obtain ⟨P2, pd2, rfl, -, -⟩ := hri.flanks.slice
 obtain ⟨pn0, hn0⟩ : ∃ n, n = r.path.length := ⟨_, rfl⟩
 obtain ⟨pn1, hn1⟩ : ∃ n, n = r.over.length := ⟨_, rfl⟩
 obtain ⟨pn2, hn2⟩ : ∃ n, n = r.flanks.length := ⟨_, rfl⟩
 rw [← hn0, ← hn1, ← hn2] at hri
 rw [← hn0, ← hn1, ← hn2]
 clear hn0 hn1 hn2 hro k0 k1 k2 k3 k4 k5
 have tX0 := (bN.block _ (heap_lt X0.out)).trans X0.out
 have tX4 := (bN.block _ (heap_lt X4.out)).trans X4.out
 have tB := BQ.out.trans (bN.mono BQ.out.size)
 have tV := (VP.out.below bN).more bN.size
 have tP := Nat.lt_of_lt_of_le P4.out bN.size
 clear X0 X4 BQ VP P4 bN
 go_upto_region 2 with ((with_reducible show wpList _ _ _ (⟨none, .store _ _ _, _, _, _, _⟩ :: _) _ _); refine wpList_store_rowS rfl _ (.tmp 6) (.tmp 12) rfl x5.heap.size rfl (c' := #[.int .i64 r.id, .int .i64 r.entry, .int .i64 r.exit, .slice P0 pn0 pd0, .slice P1 pn1 pd1, .slice P2 pn2 pd2, .int .i64 r.timer]) rfl (heap_alloc_self x5 (.cells #[.int .i64 0, .int .i64 0, .int .i64 0, .slice none 0 0, .slice none 0 0, .slice none 0 0, .int .i64 0] 54)) infoRoute7 rfl (by simp [Value.oneCell']) ?_)
 rw [World.setRow_alloc_new]
 have hx1 := heap_alloc_self x5 (.cells #[.int .i64 r.id, .int .i64 r.entry, .int .i64 r.exit, .slice P0 pn0 pd0, .slice P1 pn1 pd1, .slice P2 pn2 pd2, .int .i64 r.timer] 54)
 have hb1 := below_new x5 (.cells #[.int .i64 r.id, .int .i64 r.entry, .int .i64 r.exit, .slice P0 pn0 pd0, .slice P1 pn1 pd1, .slice P2 pn2 pd2, .int .i64 r.timer] 54)
 have X0 := Lib.hid ((hb1.block _ (heap_lt tX0)).trans tX0)
 have X4 := Lib.hid ((hb1.block _ (heap_lt tX4)).trans tX4)
 have BQ := Lib.hid (tB.trans (hb1.mono tB.size))
 have VP := Lib.hid ((tV.below hb1).more hb1.size)
 have RI := Lib.hid ((hri.below hb1).more hb1.size)
 have P4 := Lib.hid (Nat.lt_of_lt_of_le tP hb1.size)
 generalize x5.alloc (.cells #[.int .i64 r.id, .int .i64 r.entry, .int .i64 r.exit, .slice P0 pn0 pd0, .slice P1 pn1 pd1, .slice P2 pn2 pd2, .int .i64 r.timer] 54) = w5 at hx1 hb1 X0 X4 BQ VP RI P4 ⊢
 obtain ⟨p6, hp6⟩ : ∃ n, n = x5.heap.size := ⟨_, rfl⟩
 rw [← hp6] at hx1 ⊢
 have X6 := Lib.hid hx1
 clear hx1 hb1 hp6 tX0 tX4 tB tV tP hri
 by_cases h0 : E = 0
 rotate_left
 ·have d1 : (E != 0) = true := by simpa using h0
  have HV : Hid (usV p id = noAr) := Lib.hid (by rw [usV, if_neg (by rw [← HE.out.1]; exact h0)])
  clear h0
  go_wp2_with ((with_reducible show wpList _ _ _ (⟨none, .store _ _ _, _, _, _, _⟩ :: _) _ _); refine wpList_store_rowS rfl _ (.tmp 4) (.tmp 16) rfl (w.heap.size + 1) rfl (c' := #[.slice none 0 0, .slice none 0 0, .slice none 0 0, .slice none 0 0]) rfl X4.out infoArea4 rfl (by simp [Value.oneCell']) ?_)
  have hg := grownBy_setRow w5 (w.heap.size + 1) #[.slice none 0 0, .slice none 0 0, .slice none 0 0, .slice none 0 0]
  have BE : Below w.heap.size w (w5.setRow (w.heap.size + 1) #[.slice none 0 0, .slice none 0 0, .slice none 0 0, .slice none 0 0]) := BQ.out.trans (gb_low14 hg (Nat.le_succ _) BQ.out.size)
  refine bodyPost_ret (results_rowS_tmp (c := #[.slice none 0 0, .slice none 0 0, .slice none 0 0, .slice none 0 0]) rfl _ _ (w.heap.size + 1) rfl (setRow_heap w5 _ _ #[.slice none 0 0, .slice none 0 0, .slice none 0 0, .slice none 0 0] _ _ X4.out) Tryz.underlying24 infoArea4 (.int .i64 E) rfl) rfl ⟨_, _, _, _, by rw [HE.out.1], ?_, BE⟩
  rw [HV.out]
  exact noAr_in _ _
 subst h0
 obtain ⟨hm, hv, hrm, -, hrr⟩ : PlanMay p ∧ usV p id = arOf (useB p (routeD p id)) ∧ routeD p id ∈ p.routes ∧ (routeD p id).id = id ∧ elV p kRt p.routes id zRt = routeD p id := by
  have hz := HE.out.1.symm
  rcases us_cases p id with ⟨g1, g2, g3, g4, g5⟩ | ⟨-, -, g2, -⟩ | ⟨-, g2, -⟩
  ·exact ⟨g1, g3, g4, g5, by rw [elV, if_pos (show elE p kRt p.routes id = 0 from g2)]; rfl⟩
  ·rw [g2] at hz; exact absurd hz (by decide)
  ·rw [g2] at hz; exact absurd hz (by decide)
 rw [← hrr, ← HE.out.2] at hv hrm
 have HP := Lib.hid hm
 have HR := Lib.hid hrm
 have HV := Lib.hid hv
 have HE0 := Lib.hid HE.out.1
 clear hm hv hrm hrr HE
 have d1 : ((0 : Int) != 0) = false := rfl
 obtain ⟨k0, k1, k2, k3, k4, k5⟩ := cell6_of X0.out
 obtain ⟨l0, l1, l2, l3, l4, l5, l6⟩ := cell7_of X6.out
 go_wp2_with fail
 refine (used14_any _ _ p r w5 VP.out ⟨_, _, _, rfl, RI.out⟩ HP.out HR.out).mono ?_
 rintro e w6 ⟨m, rfl, hG, hlo, b_⟩
 have G6 := Lib.hid hG
 have B6 := Lib.hid (BQ.out.trans (b_.mono BQ.out.size))
 have X4' := Lib.hid ((b_.block _ (heap_lt X4.out)).trans X4.out)
 have P4' := Lib.hid (Nat.lt_of_lt_of_le P4.out b_.size)
 clear hG hlo b_ X4 P4 BQ VP RI X0 X6 k0 k1 k2 k3 k4 k5 l0 l1 l2 l3 l4 l5 l6
 go_wp2_with fail
 refine (area14_any m _ w6 G6.out (fit_use HP.out HR.out)).mono ?_
 rintro e w7 ⟨A0, n0, c0, A1, n1, c1, A2, n2, c2, A3, n3, c3, rfl, hA, b_⟩
 rw [gB_use] at hA
 have OA := Lib.hid hA
 have B7 := Lib.hid (B6.out.trans (b_.mono B6.out.size))
 have X4 := Lib.hid ((b_.block _ (heap_lt X4'.out)).trans X4'.out)
 clear hA b_ B6 X4'
 go_wp2_with ((with_reducible show wpList _ _ _ (⟨none, .store _ _ _, _, _, _, _⟩ :: _) _ _); refine wpList_store_rowS rfl _ (.tmp 4) (.tmp 21) rfl (w.heap.size + 1) rfl (c' := #[.slice A0 n0 c0, .slice A1 n1 c1, .slice A2 n2 c2, .slice A3 n3 c3]) rfl X4.out infoArea4 rfl (by simp [Value.oneCell']) ?_)
 have hg := grownBy_setRow w7 (w.heap.size + 1) #[.slice A0 n0 c0, .slice A1 n1 c1, .slice A2 n2 c2, .slice A3 n3 c3]
 refine bodyPost_ret (results_rowS_tmp (c := #[.slice A0 n0 c0, .slice A1 n1 c1, .slice A2 n2 c2, .slice A3 n3 c3]) rfl _ _ (w.heap.size + 1) rfl (setRow_heap w7 _ _ #[.slice A0 n0 c0, .slice A1 n1 c1, .slice A2 n2 c2, .slice A3 n3 c3] _ _ X4.out) Tryz.underlying24 infoArea4 (.int .i64 0) rfl) rfl ⟨_, _, _, _, by rw [← HE0.out], ?_, B7.out.trans (gb_low14 hg (Nat.le_succ _) B7.out.size)⟩
 rw [HV.out]
 exact (OA.out.off hg ⟨_, X4.out⟩).in_

/-- What Of holds while it gathers: the map of all, the map of what changes, the answer's box, the two plans. -/
structure OfAt (w W : World) (ab ub p4 pb : Nat) (c4 cb : Array Value) (ch g : K13 → Prop) : Prop where
 g : Gath W ab g
 u : Gath W ub ch
 b : Below w.heap.size w W
 x4 : W.heap[p4]? = some (.cells c4 24 (0, 0))
 xb : W.heap[pb]? = some (.cells cb 33 (0, 0))
 lo : w.heap.size ≤ ab
 ne : ub ≠ ab
section
variable {w W W' : World} {ab ub p4 pb : Nat} {c4 cb : Array Value} {ch g g' : K13 → Prop}
theorem OfAt.below (h : OfAt w W ab ub p4 pb c4 cb ch g) (b : Below W.heap.size W W') : OfAt w W' ab ub p4 pb c4 cb ch g :=
 ⟨h.g.below b h.g.lt, h.u.below b h.u.lt, h.b.trans (b.mono h.b.size), (b.block _ (heap_lt h.x4)).trans h.x4, (b.block _ (heap_lt h.xb)).trans h.xb, h.lo, h.ne⟩
theorem gath_apart {c : Array Value} {t : TypeId} {p : Nat} (h : Gath W ab g) (hp : W.heap[p]? = some (.cells c t (0, 0))) : p ≠ ab := fun e => h.not_cells c t (0, 0) (by rw [← e]; exact hp)
theorem OfAt.turn (h : OfAt w W ab ub p4 pb c4 cb ch g) (hg : Gath W' ab g') (b : W.grownBy W' (some ab)) : OfAt w W' ab ub p4 pb c4 cb ch g' := by
 have hlo := h.lo
 have n4 := gath_apart h.g h.x4
 have nb := gath_apart h.g h.xb
 have nu := h.ne
 exact ⟨hg, h.u.same (b.block _ h.u.lt (fun e => by injection e with e; exact nu e)), h.b.grown b h.b.size (fun k e => by cases e; exact hlo), (b.block _ (heap_lt h.x4) (fun e => by injection e with e; exact n4 e)).trans h.x4, (b.block _ (heap_lt h.xb) (fun e => by injection e with e; exact nb e)).trans h.xb, h.lo, h.ne⟩
theorem OfAt.iff (h : OfAt w W ab ub p4 pb c4 cb ch g) (hg : ∀ k, g k ↔ g' k) : OfAt w W ab ub p4 pb c4 cb ch g' := ⟨h.g.iff hg, h.u, h.b, h.x4, h.xb, h.lo, h.ne⟩
end
def accO (a b : Pl) (ch : K13 → Prop) (i : Nat) (k : K13) : Prop := (ch k ∨ (1 ≤ i ∧ metK a ch a.routes.length k)) ∨ (2 ≤ i ∧ metK b ch b.routes.length k)
theorem accO_zero (a b : Pl) (ch : K13 → Prop) (k : K13) : accO a b ch 0 k ↔ ch k := by simp [accO]
theorem accO_one (a b : Pl) (ch : K13 → Prop) (k : K13) : accO a b ch 1 k ↔ (accO a b ch 0 k ∨ metK a ch a.routes.length k) := by simp [accO]
theorem accO_two (a b : Pl) (ch : K13 → Prop) (k : K13) : accO a b ch 2 k ↔ (accO a b ch 1 k ∨ metK b ch b.routes.length k) := by simp [accO]
theorem accO_all (a b : Pl) (k : K13) : accO a b (fun z => chB a b z.1 z.2 = true) 2 k ↔ areaB a b k.1 k.2 = true := by
 rw [← area_all]
 simp [accO]
theorem gB_area (a b : Pl) : arOf (fun k i => gB (accO a b (fun z => chB a b z.1 z.2 = true) 2) (k, i)) = arOf (areaB a b) := by
 congr 1
 funext k i
 rw [Bool.eq_iff_iff, gB_iff, accO_all]
theorem fit_acc {a b : Pl} (ha : PlanMay a) (hb : PlanMay b) : Fit14 (accO a b (fun z => chB a b z.1 z.2 = true) 2) := fun k hk => fit_area ha hb k ((accO_all a b k).1 hk)
set_option maxHeartbeats 16000000 in
theorem pof14_any (hd : DifSaid) (v y : Value) (a b : Pl) (w : World) (h : PlanV w w.heap.size v a) (h' : PlanV w w.heap.size y b) :
  Calls Tryz.prog 9 #[v, y] w fun e w' => ∃ u0 u1 u2 u3, e = .returned (.tuple #[.agg #[u0, u1, u2, u3], .int .i64 (arE a b)]) ∧ ArIn w' w'.heap.size u0 u1 u2 u3 (arV a b) ∧ Below w.heap.size w w' := by
 obtain ⟨u2, u3, u4, u5, rfl, hin⟩ := h
 obtain ⟨z2, z3, z4, z5, rfl, hin'⟩ := h'
 have hR9 := hin.routes.slice
 have hR9' := hin'.routes.slice
 obtain ⟨A2, c2, rfl, -, -⟩ := hin.secs.slice
 obtain ⟨n2, hn2⟩ : ∃ z_, z_ = a.secs.length := ⟨_, rfl⟩
 obtain ⟨A3, c3, rfl, -, -⟩ := hin.pts.slice
 obtain ⟨n3, hn3⟩ : ∃ z_, z_ = a.pts.length := ⟨_, rfl⟩
 obtain ⟨A4, c4, rfl, -, -⟩ := hin.sigs.slice
 obtain ⟨n4, hn4⟩ : ∃ z_, z_ = a.sigs.length := ⟨_, rfl⟩
 obtain ⟨AR, cR, rfl, -, -⟩ := hin.routes.slice
 obtain ⟨nR, hnR⟩ : ∃ z_, z_ = a.routes.length := ⟨_, rfl⟩
 rw [← hn2] at hin
 rw [← hn2]
 rw [← hn3] at hin
 rw [← hn3]
 rw [← hn4] at hin
 rw [← hn4]
 rw [← hnR] at hin
 rw [← hnR]
 obtain ⟨B2, e2, rfl, -, -⟩ := hin'.secs.slice
 obtain ⟨m2, hm2⟩ : ∃ z_, z_ = b.secs.length := ⟨_, rfl⟩
 obtain ⟨B3, e3, rfl, -, -⟩ := hin'.pts.slice
 obtain ⟨m3, hm3⟩ : ∃ z_, z_ = b.pts.length := ⟨_, rfl⟩
 obtain ⟨B4, e4, rfl, -, -⟩ := hin'.sigs.slice
 obtain ⟨m4, hm4⟩ : ∃ z_, z_ = b.sigs.length := ⟨_, rfl⟩
 obtain ⟨BR, eR, rfl, -, -⟩ := hin'.routes.slice
 obtain ⟨mR, hmR⟩ : ∃ z_, z_ = b.routes.length := ⟨_, rfl⟩
 rw [← hm2] at hin'
 rw [← hm2]
 rw [← hm3] at hin'
 rw [← hm3]
 rw [← hm4] at hin'
 rw [← hm4]
 rw [← hmR] at hin'
 rw [← hmR]
 have Na : Hid (nR = a.routes.length ∧ nR ≤ 9223372036854775807) := Lib.hid ⟨hnR, by obtain ⟨A, c, -, h1, h2⟩ := hR9; unfold maxLen at h2; omega⟩
 have Nb : Hid (mR = b.routes.length ∧ mR ≤ 9223372036854775807) := Lib.hid ⟨hmR, by obtain ⟨A, c, -, h1, h2⟩ := hR9'; unfold maxLen at h2; omega⟩
 clear hn2 hn3 hn4 hnR hm2 hm3 hm4 hmR hR9 hR9'
 have IA := Lib.hid hin
 have IB := Lib.hid hin'
 clear hin hin'
 obtain ⟨q, hq, h0, h1, h2, hsz, hqb⟩ := boxes3 w (.cells #[.int .i64 a.ver, .int .i64 a.par, .slice A2 n2 c2, .slice A3 n3 c3, .slice A4 n4 c4, .slice AR nR cR] 33) (.cells #[.int .i64 b.ver, .int .i64 b.par, .slice B2 m2 e2, .slice B3 m3 e3, .slice B4 m4 e4, .slice BR mR eR] 33) (.cells #[.slice none 0 0, .slice none 0 0, .slice none 0 0, .slice none 0 0] 24)
 go_enter Tryz.func9, Tryz.ntmps9
 go_upto_region 1 with fail
 rw [← hq]
 have X0 := Lib.hid h0
 have X1 := Lib.hid h1
 have X4 := Lib.hid h2
 have BQ := Lib.hid hqb
 have P4 : Hid (w.heap.size + 1 + 1 < q.heap.size) := Lib.hid (heap_lt h2)
 clear hq h0 h1 h2 hsz hqb
 obtain ⟨E, hE⟩ : ∃ x, x = difE a b := ⟨_, rfl⟩
 have HE := Lib.hid hE
 clear hE
 obtain ⟨k0, k1, k2, k3, k4, k5⟩ := cell6_of X0.out
 obtain ⟨l0, l1, l2, l3, l4, l5⟩ := cell6_of X1.out
 go_wp2_with fail
 refine (hd.of _ _ a b q ⟨_, _, _, _, rfl, (IA.out.below BQ.out).more BQ.out.size⟩ ⟨_, _, _, _, rfl, (IB.out.below BQ.out).more BQ.out.size⟩).mono ?_
 rintro e w1 ⟨ud, rfl, hdo, b_⟩
 rw [← HE.out]
 have DO := Lib.hid hdo
 have tX0 := Lib.hid ((b_.block _ (heap_lt X0.out)).trans X0.out)
 have tX1 := Lib.hid ((b_.block _ (heap_lt X1.out)).trans X1.out)
 have tX4 := Lib.hid ((b_.block _ (heap_lt X4.out)).trans X4.out)
 have tB := Lib.hid (BQ.out.trans (b_.mono BQ.out.size))
 have tP := Lib.hid (Nat.lt_of_lt_of_le P4.out b_.size)
 clear hdo b_ X0 X1 X4 BQ P4 k0 k1 k2 k3 k4 k5 l0 l1 l2 l3 l4 l5
 by_cases hm : PlanMay a ∧ PlanMay b
 rotate_left
 ·have hE8 : E = 8 := by
   rcases dif_cases a b with ⟨g1, g2, -, -⟩ | ⟨-, g2, -⟩
   ·exact absurd ⟨g1, g2⟩ hm
   ·rw [HE.out, g2]
  subst hE8
  have HV : Hid (arE a b = 8 ∧ arV a b = noAr) := Lib.hid (by
   rcases ar_cases a b with ⟨g1, g2, -, -⟩ | ⟨-, g2, g3⟩
   ·exact absurd ⟨g1, g2⟩ hm
   ·exact ⟨g2, g3⟩)
  clear hm
  go_wp2_with ((with_reducible show wpList _ _ _ (⟨none, .store _ _ _, _, _, _, _⟩ :: _) _ _); refine wpList_store_rowS rfl _ (.tmp 4) (.tmp 23) rfl (w.heap.size + 1 + 1) rfl (c' := #[.slice none 0 0, .slice none 0 0, .slice none 0 0, .slice none 0 0]) rfl tX4.out infoArea4 rfl (by simp [Value.oneCell']) ?_)
  have hg := grownBy_setRow w1 (w.heap.size + 1 + 1) #[.slice none 0 0, .slice none 0 0, .slice none 0 0, .slice none 0 0]
  have BE : Below w.heap.size w (w1.setRow (w.heap.size + 1 + 1) #[.slice none 0 0, .slice none 0 0, .slice none 0 0, .slice none 0 0]) := tB.out.trans (gb_low14 hg (by omega) tB.out.size)
  refine bodyPost_ret (results_rowS_tmp (c := #[.slice none 0 0, .slice none 0 0, .slice none 0 0, .slice none 0 0]) rfl _ _ (w.heap.size + 1 + 1) rfl (setRow_heap w1 _ _ #[.slice none 0 0, .slice none 0 0, .slice none 0 0, .slice none 0 0] _ _ tX4.out) Tryz.underlying24 infoArea4 (.int .i64 8) rfl) rfl ⟨_, _, _, _, by rw [HV.out.1], ?_, BE⟩
  rw [HV.out.2]
  exact noAr_in _ _
 have HA := Lib.hid hm.1
 have HB_ := Lib.hid hm.2
 have hE0 : E = 0 ∧ difV a b = diffL a b := by
  rcases dif_cases a b with ⟨-, -, g1, g2⟩ | ⟨g, -⟩
  ·exact ⟨by rw [HE.out, g1], g2⟩
  ·exact absurd hm g
 obtain ⟨hE1, hE2⟩ := hE0
 subst hE1
 have DL : Hid (ListIn 3 DiffR w1 w1.heap.size ud (diffL a b)) := Lib.hid (by rw [← hE2]; exact DO.out.in_ diffR_cells)
 have HV : Hid (arE a b = 0 ∧ arV a b = arOf (areaB a b)) := Lib.hid (by
  rcases ar_cases a b with ⟨-, -, g1, g2⟩ | ⟨g, -⟩
  ·exact ⟨g1, g2⟩
  ·exact absurd hm g)
 clear hm hE2 HE DO
 go_wp2_with fail
 refine (changing14_any ud a b w1 DL.out HA.out HB_.out).mono ?_
 rintro e w2 ⟨ub, rfl, hG, hlo, b_⟩
 have GU := Lib.hid hG
 have X0 := Lib.hid ((b_.block _ (heap_lt tX0.out)).trans tX0.out)
 have X1 := Lib.hid ((b_.block _ (heap_lt tX1.out)).trans tX1.out)
 have X4 := Lib.hid ((b_.block _ (heap_lt tX4.out)).trans tX4.out)
 have B2_ := Lib.hid (tB.out.trans (b_.mono tB.out.size))
 clear hG hlo b_ tX0 tX1 tX4 tB tP DL
 go_wp2_with fail
 refine (clone14_any ub _ w2 GU.out).mono ?_
 rintro e w3 ⟨ab, rfl, hG, hlo, b_⟩
 have GA_ := Lib.hid hG
 have GU3 := Lib.hid (GU.out.below b_ GU.out.lt)
 have NU : Hid (ub ≠ ab) := Lib.hid (by have := GU.out.lt; omega)
 have LA : Hid (w.heap.size ≤ ab) := Lib.hid (Nat.le_trans B2_.out.size hlo)
 have Y0 := Lib.hid ((b_.block _ (heap_lt X0.out)).trans X0.out)
 have Y1 := Lib.hid ((b_.block _ (heap_lt X1.out)).trans X1.out)
 have Y4 := Lib.hid ((b_.block _ (heap_lt X4.out)).trans X4.out)
 have B3_ := Lib.hid (B2_.out.trans (b_.mono B2_.out.size))
 clear hG hlo b_ X0 X1 X4 B2_ GU
 obtain ⟨k0, k1, k2, k3, k4, k5⟩ := cell6_of Y0.out
 obtain ⟨l0, l1, l2, l3, l4, l5⟩ := cell6_of Y1.out
 go_upto_region 7 with fail
 clear k0 k1 k2 k3 k4 k5 l0 l1 l2 l3 l4 l5
 have bn := below_new w3 (.cells #[.int .i64 a.ver, .int .i64 a.par, .slice A2 n2 c2, .slice A3 n3 c3, .slice A4 n4 c4, .slice AR nR cR, .int .i64 b.ver, .int .i64 b.par, .slice B2 m2 e2, .slice B3 m3 e3, .slice B4 m4 e4, .slice BR mR eR] 33)
 have hxb := heap_alloc_self w3 (.cells #[.int .i64 a.ver, .int .i64 a.par, .slice A2 n2 c2, .slice A3 n3 c3, .slice A4 n4 c4, .slice AR nR cR, .int .i64 b.ver, .int .i64 b.par, .slice B2 m2 e2, .slice B3 m3 e3, .slice B4 m4 e4, .slice BR mR eR] 33)
 have V0 : Hid (OfAt w (w3.alloc (.cells #[.int .i64 a.ver, .int .i64 a.par, .slice A2 n2 c2, .slice A3 n3 c3, .slice A4 n4 c4, .slice AR nR cR, .int .i64 b.ver, .int .i64 b.par, .slice B2 m2 e2, .slice B3 m3 e3, .slice B4 m4 e4, .slice BR mR eR] 33)) ab ub (w.heap.size + 1 + 1) w3.heap.size #[.slice none 0 0, .slice none 0 0, .slice none 0 0, .slice none 0 0] #[.int .i64 a.ver, .int .i64 a.par, .slice A2 n2 c2, .slice A3 n3 c3, .slice A4 n4 c4, .slice AR nR cR, .int .i64 b.ver, .int .i64 b.par, .slice B2 m2 e2, .slice B3 m3 e3, .slice B4 m4 e4, .slice BR mR eR] (fun z => chB a b z.1 z.2 = true) (accO a b (fun z => chB a b z.1 z.2 = true) 0)) := Lib.hid ⟨(GA_.out.below bn GA_.out.lt).iff fun k => (accO_zero a b (fun z => chB a b z.1 z.2 = true) k).symm, GU3.out.below bn GU3.out.lt, B3_.out.trans (bn.mono B3_.out.size), (bn.block _ (heap_lt Y4.out)).trans Y4.out, hxb, LA.out, NU.out⟩
 generalize w3.alloc (.cells #[.int .i64 a.ver, .int .i64 a.par, .slice A2 n2 c2, .slice A3 n3 c3, .slice A4 n4 c4, .slice AR nR cR, .int .i64 b.ver, .int .i64 b.par, .slice B2 m2 e2, .slice B3 m3 e3, .slice B4 m4 e4, .slice BR mR eR] 33) = w4 at V0 ⊢
 generalize w3.heap.size = pb at V0 ⊢
 clear bn hxb Y0 Y1 Y4 B3_ GU3 GA_ NU LA
 go_loopw [33] (fun s33 wr => ∃ i : Nat, s33 = .int .i64 i ∧ i ≤ 2 ∧ OfAt w wr ab ub (w.heap.size + 1 + 1) pb #[.slice none 0 0, .slice none 0 0, .slice none 0 0, .slice none 0 0] #[.int .i64 a.ver, .int .i64 a.par, .slice A2 n2 c2, .slice A3 n3 c3, .slice A4 n4 c4, .slice AR nR cR, .int .i64 b.ver, .int .i64 b.par, .slice B2 m2 e2, .slice B3 m3 e3, .slice B4 m4 e4, .slice BR mR eR] (fun z => chB a b z.1 z.2 = true) (accO a b (fun z => chB a b z.1 z.2 = true) i)) (fun s33 _ => 2 - (intOf s33).toNat)
 case atStart => exact ⟨0, by go_num, by omega, V0.out⟩
 case round =>
  clear V0
  obtain ⟨i, rfl, hi, hu⟩ := hrel
  have U := Lib.hid hu
  clear hu
  obtain hi0 | hi1 | hi2 : i = 0 ∨ i = 1 ∨ i = 2 := by omega
  ·subst hi0
   clear hi
   have g0 : wr.cell? ⟨pb, 0, none⟩ = some (.int .i64 a.ver) := by rw [cell_of_row _ _ _ _ _ _ U.out.xb]; rfl
   have g1 : wr.cell? ⟨pb, 1, none⟩ = some (.int .i64 a.par) := by rw [cell_of_row _ _ _ _ _ _ U.out.xb]; rfl
   have g2 : wr.cell? ⟨pb, 2, none⟩ = some (.slice A2 n2 c2) := by rw [cell_of_row _ _ _ _ _ _ U.out.xb]; rfl
   have g3 : wr.cell? ⟨pb, 3, none⟩ = some (.slice A3 n3 c3) := by rw [cell_of_row _ _ _ _ _ _ U.out.xb]; rfl
   have g4 : wr.cell? ⟨pb, 4, none⟩ = some (.slice A4 n4 c4) := by rw [cell_of_row _ _ _ _ _ _ U.out.xb]; rfl
   have g5 : wr.cell? ⟨pb, 5, none⟩ = some (.slice AR nR cR) := by rw [cell_of_row _ _ _ _ _ _ U.out.xb]; rfl
   go_upto_region 9 with ((with_reducible show wpList _ _ _ (⟨none, .store _ _ _, _, _, _, _⟩ :: _) _ _); refine wpList_store_rowS rfl _ (.tmp 11) (.tmp 36) rfl wr.heap.size rfl (c' := #[.int .i64 a.ver, .int .i64 a.par, .slice A2 n2 c2, .slice A3 n3 c3, .slice A4 n4 c4, .slice AR nR cR]) rfl (heap_alloc_self wr (.cells #[.int .i64 0, .int .i64 0, .slice none 0 0, .slice none 0 0, .slice none 0 0, .slice none 0 0] 33)) infoPlan6 rfl (by simp [Value.oneCell']) ?_)
   rw [World.setRow_alloc_new]
   have hx1 := heap_alloc_self wr (.cells #[.int .i64 a.ver, .int .i64 a.par, .slice A2 n2 c2, .slice A3 n3 c3, .slice A4 n4 c4, .slice AR nR cR] 33)
   have U5 := Lib.hid (U.out.below (below_new wr (.cells #[.int .i64 a.ver, .int .i64 a.par, .slice A2 n2 c2, .slice A3 n3 c3, .slice A4 n4 c4, .slice AR nR cR] 33)))
   generalize wr.alloc (.cells #[.int .i64 a.ver, .int .i64 a.par, .slice A2 n2 c2, .slice A3 n3 c3, .slice A4 n4 c4, .slice AR nR cR] 33) = w5 at hx1 U5 ⊢
   obtain ⟨p11, hp11⟩ : ∃ n, n = wr.heap.size := ⟨_, rfl⟩
   rw [← hp11] at hx1 ⊢
   have X11 := Lib.hid hx1
   clear hx1 hp11 U g0 g1 g2 g3 g4 g5
   obtain ⟨k0, k1, k2, k3, k4, k5⟩ := cell6_of X11.out
   go_upto_region 10 with fail
   clear k0 k1 k2 k3 k4 k5
   have hR9 : nR ≤ 9223372036854775807 := by have := Na.out; omega
   have V0 : Hid (OfAt w w5 ab ub (w.heap.size + 1 + 1) pb #[.slice none 0 0, .slice none 0 0, .slice none 0 0, .slice none 0 0] #[.int .i64 a.ver, .int .i64 a.par, .slice A2 n2 c2, .slice A3 n3 c3, .slice A4 n4 c4, .slice AR nR cR, .int .i64 b.ver, .int .i64 b.par, .slice B2 m2 e2, .slice B3 m3 e3, .slice B4 m4 e4, .slice BR mR eR] (fun z => chB a b z.1 z.2 = true) (fun k => accO a b (fun z => chB a b z.1 z.2 = true) 0 k ∨ metK a (fun z => chB a b z.1 z.2 = true) 0 k)) := Lib.hid (U5.out.iff fun k => by rw [metK_zero]; simp)
   clear U5
   go_loopw [40] (fun s40 wr => ∃ i : Nat, s40 = .int .i64 i ∧ i ≤ nR ∧ OfAt w wr ab ub (w.heap.size + 1 + 1) pb #[.slice none 0 0, .slice none 0 0, .slice none 0 0, .slice none 0 0] #[.int .i64 a.ver, .int .i64 a.par, .slice A2 n2 c2, .slice A3 n3 c3, .slice A4 n4 c4, .slice AR nR cR, .int .i64 b.ver, .int .i64 b.par, .slice B2 m2 e2, .slice B3 m3 e3, .slice B4 m4 e4, .slice BR mR eR] (fun z => chB a b z.1 z.2 = true) (fun k => accO a b (fun z => chB a b z.1 z.2 = true) 0 k ∨ metK a (fun z => chB a b z.1 z.2 = true) i k) ∧ wr.heap[p11]? = some (.cells #[.int .i64 a.ver, .int .i64 a.par, .slice A2 n2 c2, .slice A3 n3 c3, .slice A4 n4 c4, .slice AR nR cR] 33 (0, 0))) (fun s40 _ => nR - (intOf s40).toNat)
   case atStart => exact ⟨0, by go_num, by omega, V0.out, X11.out⟩
   case round =>
    obtain ⟨wx, hwx⟩ : ∃ z, z = wr := ⟨_, rfl⟩
    subst hwx
    clear V0 X11
    obtain ⟨i, rfl, hi, hu, hx⟩ := hrel
    have U := Lib.hid hu
    have X11 := Lib.hid hx
    clear hu hx
    by_cases hlt : i < nR
    ·have hlt' : (i : Int) < nR := by omega
     have hir : i < a.routes.length := by have := Na.out; omega
     obtain ⟨bk, off, rfl, hbk, hc0, hc1, hc2, hc6, u3, u4, u5, hc3, hc4, hc5, hu⟩ := IA.out.routes.at hir
     have HR : Hid (a.routes[i] ∈ a.routes) := Lib.hid (List.getElem_mem hir)
     have YES : Hid ((∃ z : K13, useB a a.routes[i] z.1 z.2 = true ∧ chB a b z.1 z.2 = true) → ∀ k, metK a (fun z => chB a b z.1 z.2 = true) (i + 1) k ↔ metK a (fun z => chB a b z.1 z.2 = true) i k ∨ useB a a.routes[i] k.1 k.2 = true) := Lib.hid (fun hh k => metK_yes (c := (fun z => chB a b z.1 z.2 = true)) hir hh k)
     have NO : Hid ((¬ ∃ z : K13, useB a a.routes[i] z.1 z.2 = true ∧ chB a b z.1 z.2 = true) → ∀ k, metK a (fun z => chB a b z.1 z.2 = true) (i + 1) k ↔ metK a (fun z => chB a b z.1 z.2 = true) i k) := Lib.hid (fun hh k => metK_no (c := (fun z => chB a b z.1 z.2 = true)) hir hh k)
     obtain ⟨r, hr⟩ : ∃ x, x = a.routes[i] := ⟨_, rfl⟩
     rw [← hr] at hc0 hc1 hc2 hc6 hu HR YES NO
     obtain ⟨P0, pd0, rfl, -, -⟩ := hu.path.slice
     obtain ⟨P1, pd1, rfl, -, -⟩ := hu.over.slice
     obtain ⟨P2, pd2, rfl, -, -⟩ := hu.flanks.slice
     obtain ⟨pn0, hn0⟩ : ∃ n, n = r.path.length := ⟨_, rfl⟩
     obtain ⟨pn1, hn1⟩ : ∃ n, n = r.over.length := ⟨_, rfl⟩
     obtain ⟨pn2, hn2⟩ : ∃ n, n = r.flanks.length := ⟨_, rfl⟩
     rw [← hn0] at hu hc3
     rw [← hn1] at hu hc4
     rw [← hn2] at hu hc5
     have BW := Lib.hid U.out.b
     have g0 : wx.cell? ⟨bk, off + i * 7, none⟩ = some (.int .i64 r.id) := (BW.out.cell (p := ⟨bk, off + i * 7, none⟩) hbk).trans hc0
     have g1 : wx.cell? ⟨bk, off + i * 7 + 1, none⟩ = some (.int .i64 r.entry) := (BW.out.cell (p := ⟨bk, off + i * 7 + 1, none⟩) hbk).trans hc1
     have g2 : wx.cell? ⟨bk, off + i * 7 + 2, none⟩ = some (.int .i64 r.exit) := (BW.out.cell (p := ⟨bk, off + i * 7 + 2, none⟩) hbk).trans hc2
     have g3 : wx.cell? ⟨bk, off + i * 7 + 3, none⟩ = some (.slice P0 pn0 pd0) := (BW.out.cell (p := ⟨bk, off + i * 7 + 3, none⟩) hbk).trans hc3
     have g4 : wx.cell? ⟨bk, off + i * 7 + 4, none⟩ = some (.slice P1 pn1 pd1) := (BW.out.cell (p := ⟨bk, off + i * 7 + 4, none⟩) hbk).trans hc4
     have g5 : wx.cell? ⟨bk, off + i * 7 + 5, none⟩ = some (.slice P2 pn2 pd2) := (BW.out.cell (p := ⟨bk, off + i * 7 + 5, none⟩) hbk).trans hc5
     have g6 : wx.cell? ⟨bk, off + i * 7 + 6, none⟩ = some (.int .i64 r.timer) := (BW.out.cell (p := ⟨bk, off + i * 7 + 6, none⟩) hbk).trans hc6
     have RI := Lib.hid hu
     clear hr hn0 hn1 hn2 hc0 hc1 hc2 hc3 hc4 hc5 hc6 hu hbk hir
     obtain ⟨k0, k1, k2, k3, k4, k5⟩ := cell6_of X11.out
     go_upto_region 12 with ((with_reducible show wpList _ _ _ (⟨none, .store _ _ _, _, _, _, _⟩ :: _) _ _); refine wpList_store_rowS rfl _ (.tmp 13) (.tmp 43) rfl wx.heap.size rfl (c' := #[.int .i64 r.id, .int .i64 r.entry, .int .i64 r.exit, .slice P0 pn0 pd0, .slice P1 pn1 pd1, .slice P2 pn2 pd2, .int .i64 r.timer]) rfl (heap_alloc_self wx (.cells #[.int .i64 0, .int .i64 0, .int .i64 0, .slice none 0 0, .slice none 0 0, .slice none 0 0, .int .i64 0] 54)) infoRoute7 rfl (by simp [Value.oneCell']) ?_)
     rw [World.setRow_alloc_new]
     have hx1 := heap_alloc_self wx (.cells #[.int .i64 r.id, .int .i64 r.entry, .int .i64 r.exit, .slice P0 pn0 pd0, .slice P1 pn1 pd1, .slice P2 pn2 pd2, .int .i64 r.timer] 54)
     have hb1 := below_new wx (.cells #[.int .i64 r.id, .int .i64 r.entry, .int .i64 r.exit, .slice P0 pn0 pd0, .slice P1 pn1 pd1, .slice P2 pn2 pd2, .int .i64 r.timer] 54)
     have U6 := Lib.hid (U.out.below hb1)
     have X11' := Lib.hid ((hb1.block _ (heap_lt X11.out)).trans X11.out)
     generalize wx.alloc (.cells #[.int .i64 r.id, .int .i64 r.entry, .int .i64 r.exit, .slice P0 pn0 pd0, .slice P1 pn1 pd1, .slice P2 pn2 pd2, .int .i64 r.timer] 54) = w6 at hx1 hb1 U6 X11' ⊢
     generalize wx.heap.size = p13 at hx1 ⊢
     clear hb1 g0 g1 g2 g3 g4 g5 g6 k0 k1 k2 k3 k4 k5 U X11 BW
     obtain ⟨k0, k1, k2, k3, k4, k5⟩ := cell6_of X11'.out
     obtain ⟨l0, l1, l2, l3, l4, l5, l6⟩ := cell7_of hx1
     clear hx1
     go_wp2_with fail
     refine (used14_any _ _ a r w6 ⟨_, _, _, _, rfl, (IA.out.below U6.out.b).more U6.out.b.size⟩ ⟨_, _, _, rfl, (RI.out.below U6.out.b).more U6.out.b.size⟩ HA.out HR.out).mono ?_
     rintro e w7 ⟨m, rfl, hG, hlo, b_⟩
     have GM := Lib.hid hG
     have U7 := Lib.hid (U6.out.below b_)
     have NM : Hid (ab ≠ m) := Lib.hid (by have := U6.out.g.lt; omega)
     have X11 := Lib.hid ((b_.block _ (heap_lt X11'.out)).trans X11'.out)
     clear hG hlo b_ U6 X11' k0 k1 k2 k3 k4 k5 l0 l1 l2 l3 l4 l5 l6
     obtain ⟨mv, hmv⟩ : ∃ q_, q_ = metB (fun k => useB a r k.1 k.2 = true) (fun z => chB a b z.1 z.2 = true) := ⟨_, rfl⟩
     have HMV := Lib.hid hmv
     clear hmv
     go_wp2_with fail
     refine (meet14_any m ub _ _ w7 GM.out U7.out.u).mono ?_
     rintro e w8 ⟨rfl, b_⟩
     rw [← HMV.out]
     have U8 := Lib.hid (U7.out.below b_)
     have GM8 := Lib.hid (GM.out.below b_ GM.out.lt)
     have X12 := Lib.hid ((b_.block _ (heap_lt X11.out)).trans X11.out)
     clear b_ U7 GM X11
     cases mv with
     | true =>
      have HS := Lib.hid (YES.out (metB_iff.1 HMV.out.symm))
      clear YES NO
      go_wp2_with fail
      refine (copy14_any ab m _ _ w8 U8.out.g GM8.out NM.out).mono ?_
      rintro e w9 ⟨rfl, hg9, gr9⟩
      have U9 := Lib.hid ((U8.out.turn hg9 gr9).iff (g' := fun k => accO a b (fun z => chB a b z.1 z.2 = true) 0 k ∨ metK a (fun z => chB a b z.1 z.2 = true) (i + 1) k) fun k => by rw [HS.out]; exact or_assoc)
      have X13 := Lib.hid ((gr9.block _ (heap_lt X12.out) (fun e => gath_apart U8.out.g X12.out (by injection e))).trans X12.out)
      clear hg9 gr9 U8 X12 GM8
      go_wp2_with fail
      go_roundw
      case measure => simp [intOf]; omega
      case rel => exact ⟨i + 1, by go_num, by omega, U9.out, X13.out⟩
     | false =>
      have HS := Lib.hid (NO.out (metB_no.1 HMV.out.symm))
      clear YES NO
      have U9 := Lib.hid (U8.out.iff (g' := fun k => accO a b (fun z => chB a b z.1 z.2 = true) 0 k ∨ metK a (fun z => chB a b z.1 z.2 = true) (i + 1) k) fun k => by rw [HS.out])
      clear U8 GM8
      go_wp2_with fail
      go_roundw
      case measure => simp [intOf]; omega
      case rel => exact ⟨i + 1, by go_num, by omega, U9.out, X12.out⟩
    ·obtain rfl : nR = i := by omega
     have hlt' : ¬ (nR : Int) < nR := by omega
     have U9 := Lib.hid (U.out.iff (g' := accO a b (fun z => chB a b z.1 z.2 = true) 1) fun k => by rw [accO_one, Na.out.1])
     clear U X11
     go_wp2_with fail
     go_roundw
     case measure => simp [intOf]
     case rel => exact ⟨1, by first | rfl | go_num, by omega, U9.out⟩
  ·subst hi1
   clear hi
   have g0 : wr.cell? ⟨pb, 6, none⟩ = some (.int .i64 b.ver) := by rw [cell_of_row _ _ _ _ _ _ U.out.xb]; rfl
   have g1 : wr.cell? ⟨pb, 7, none⟩ = some (.int .i64 b.par) := by rw [cell_of_row _ _ _ _ _ _ U.out.xb]; rfl
   have g2 : wr.cell? ⟨pb, 8, none⟩ = some (.slice B2 m2 e2) := by rw [cell_of_row _ _ _ _ _ _ U.out.xb]; rfl
   have g3 : wr.cell? ⟨pb, 9, none⟩ = some (.slice B3 m3 e3) := by rw [cell_of_row _ _ _ _ _ _ U.out.xb]; rfl
   have g4 : wr.cell? ⟨pb, 10, none⟩ = some (.slice B4 m4 e4) := by rw [cell_of_row _ _ _ _ _ _ U.out.xb]; rfl
   have g5 : wr.cell? ⟨pb, 11, none⟩ = some (.slice BR mR eR) := by rw [cell_of_row _ _ _ _ _ _ U.out.xb]; rfl
   go_upto_region 9 with ((with_reducible show wpList _ _ _ (⟨none, .store _ _ _, _, _, _, _⟩ :: _) _ _); refine wpList_store_rowS rfl _ (.tmp 11) (.tmp 36) rfl wr.heap.size rfl (c' := #[.int .i64 b.ver, .int .i64 b.par, .slice B2 m2 e2, .slice B3 m3 e3, .slice B4 m4 e4, .slice BR mR eR]) rfl (heap_alloc_self wr (.cells #[.int .i64 0, .int .i64 0, .slice none 0 0, .slice none 0 0, .slice none 0 0, .slice none 0 0] 33)) infoPlan6 rfl (by simp [Value.oneCell']) ?_)
   rw [World.setRow_alloc_new]
   have hx1 := heap_alloc_self wr (.cells #[.int .i64 b.ver, .int .i64 b.par, .slice B2 m2 e2, .slice B3 m3 e3, .slice B4 m4 e4, .slice BR mR eR] 33)
   have U5 := Lib.hid (U.out.below (below_new wr (.cells #[.int .i64 b.ver, .int .i64 b.par, .slice B2 m2 e2, .slice B3 m3 e3, .slice B4 m4 e4, .slice BR mR eR] 33)))
   generalize wr.alloc (.cells #[.int .i64 b.ver, .int .i64 b.par, .slice B2 m2 e2, .slice B3 m3 e3, .slice B4 m4 e4, .slice BR mR eR] 33) = w5 at hx1 U5 ⊢
   obtain ⟨p11, hp11⟩ : ∃ n, n = wr.heap.size := ⟨_, rfl⟩
   rw [← hp11] at hx1 ⊢
   have X11 := Lib.hid hx1
   clear hx1 hp11 U g0 g1 g2 g3 g4 g5
   obtain ⟨k0, k1, k2, k3, k4, k5⟩ := cell6_of X11.out
   go_upto_region 10 with fail
   clear k0 k1 k2 k3 k4 k5
   have hR9 : mR ≤ 9223372036854775807 := by have := Nb.out; omega
   have V0 : Hid (OfAt w w5 ab ub (w.heap.size + 1 + 1) pb #[.slice none 0 0, .slice none 0 0, .slice none 0 0, .slice none 0 0] #[.int .i64 a.ver, .int .i64 a.par, .slice A2 n2 c2, .slice A3 n3 c3, .slice A4 n4 c4, .slice AR nR cR, .int .i64 b.ver, .int .i64 b.par, .slice B2 m2 e2, .slice B3 m3 e3, .slice B4 m4 e4, .slice BR mR eR] (fun z => chB a b z.1 z.2 = true) (fun k => accO a b (fun z => chB a b z.1 z.2 = true) 1 k ∨ metK b (fun z => chB a b z.1 z.2 = true) 0 k)) := Lib.hid (U5.out.iff fun k => by rw [metK_zero]; simp)
   clear U5
   go_loopw [40] (fun s40 wr => ∃ i : Nat, s40 = .int .i64 i ∧ i ≤ mR ∧ OfAt w wr ab ub (w.heap.size + 1 + 1) pb #[.slice none 0 0, .slice none 0 0, .slice none 0 0, .slice none 0 0] #[.int .i64 a.ver, .int .i64 a.par, .slice A2 n2 c2, .slice A3 n3 c3, .slice A4 n4 c4, .slice AR nR cR, .int .i64 b.ver, .int .i64 b.par, .slice B2 m2 e2, .slice B3 m3 e3, .slice B4 m4 e4, .slice BR mR eR] (fun z => chB a b z.1 z.2 = true) (fun k => accO a b (fun z => chB a b z.1 z.2 = true) 1 k ∨ metK b (fun z => chB a b z.1 z.2 = true) i k) ∧ wr.heap[p11]? = some (.cells #[.int .i64 b.ver, .int .i64 b.par, .slice B2 m2 e2, .slice B3 m3 e3, .slice B4 m4 e4, .slice BR mR eR] 33 (0, 0))) (fun s40 _ => mR - (intOf s40).toNat)
   case atStart => exact ⟨0, by go_num, by omega, V0.out, X11.out⟩
   case round =>
    obtain ⟨wx, hwx⟩ : ∃ z, z = wr := ⟨_, rfl⟩
    subst hwx
    clear V0 X11
    obtain ⟨i, rfl, hi, hu, hx⟩ := hrel
    have U := Lib.hid hu
    have X11 := Lib.hid hx
    clear hu hx
    by_cases hlt : i < mR
    ·have hlt' : (i : Int) < mR := by omega
     have hir : i < b.routes.length := by have := Nb.out; omega
     obtain ⟨bk, off, rfl, hbk, hc0, hc1, hc2, hc6, u3, u4, u5, hc3, hc4, hc5, hu⟩ := IB.out.routes.at hir
     have HR : Hid (b.routes[i] ∈ b.routes) := Lib.hid (List.getElem_mem hir)
     have YES : Hid ((∃ z : K13, useB b b.routes[i] z.1 z.2 = true ∧ chB a b z.1 z.2 = true) → ∀ k, metK b (fun z => chB a b z.1 z.2 = true) (i + 1) k ↔ metK b (fun z => chB a b z.1 z.2 = true) i k ∨ useB b b.routes[i] k.1 k.2 = true) := Lib.hid (fun hh k => metK_yes (c := (fun z => chB a b z.1 z.2 = true)) hir hh k)
     have NO : Hid ((¬ ∃ z : K13, useB b b.routes[i] z.1 z.2 = true ∧ chB a b z.1 z.2 = true) → ∀ k, metK b (fun z => chB a b z.1 z.2 = true) (i + 1) k ↔ metK b (fun z => chB a b z.1 z.2 = true) i k) := Lib.hid (fun hh k => metK_no (c := (fun z => chB a b z.1 z.2 = true)) hir hh k)
     obtain ⟨r, hr⟩ : ∃ x, x = b.routes[i] := ⟨_, rfl⟩
     rw [← hr] at hc0 hc1 hc2 hc6 hu HR YES NO
     obtain ⟨P0, pd0, rfl, -, -⟩ := hu.path.slice
     obtain ⟨P1, pd1, rfl, -, -⟩ := hu.over.slice
     obtain ⟨P2, pd2, rfl, -, -⟩ := hu.flanks.slice
     obtain ⟨pn0, hn0⟩ : ∃ n, n = r.path.length := ⟨_, rfl⟩
     obtain ⟨pn1, hn1⟩ : ∃ n, n = r.over.length := ⟨_, rfl⟩
     obtain ⟨pn2, hn2⟩ : ∃ n, n = r.flanks.length := ⟨_, rfl⟩
     rw [← hn0] at hu hc3
     rw [← hn1] at hu hc4
     rw [← hn2] at hu hc5
     have BW := Lib.hid U.out.b
     have g0 : wx.cell? ⟨bk, off + i * 7, none⟩ = some (.int .i64 r.id) := (BW.out.cell (p := ⟨bk, off + i * 7, none⟩) hbk).trans hc0
     have g1 : wx.cell? ⟨bk, off + i * 7 + 1, none⟩ = some (.int .i64 r.entry) := (BW.out.cell (p := ⟨bk, off + i * 7 + 1, none⟩) hbk).trans hc1
     have g2 : wx.cell? ⟨bk, off + i * 7 + 2, none⟩ = some (.int .i64 r.exit) := (BW.out.cell (p := ⟨bk, off + i * 7 + 2, none⟩) hbk).trans hc2
     have g3 : wx.cell? ⟨bk, off + i * 7 + 3, none⟩ = some (.slice P0 pn0 pd0) := (BW.out.cell (p := ⟨bk, off + i * 7 + 3, none⟩) hbk).trans hc3
     have g4 : wx.cell? ⟨bk, off + i * 7 + 4, none⟩ = some (.slice P1 pn1 pd1) := (BW.out.cell (p := ⟨bk, off + i * 7 + 4, none⟩) hbk).trans hc4
     have g5 : wx.cell? ⟨bk, off + i * 7 + 5, none⟩ = some (.slice P2 pn2 pd2) := (BW.out.cell (p := ⟨bk, off + i * 7 + 5, none⟩) hbk).trans hc5
     have g6 : wx.cell? ⟨bk, off + i * 7 + 6, none⟩ = some (.int .i64 r.timer) := (BW.out.cell (p := ⟨bk, off + i * 7 + 6, none⟩) hbk).trans hc6
     have RI := Lib.hid hu
     clear hr hn0 hn1 hn2 hc0 hc1 hc2 hc3 hc4 hc5 hc6 hu hbk hir
     obtain ⟨k0, k1, k2, k3, k4, k5⟩ := cell6_of X11.out
     go_upto_region 12 with ((with_reducible show wpList _ _ _ (⟨none, .store _ _ _, _, _, _, _⟩ :: _) _ _); refine wpList_store_rowS rfl _ (.tmp 13) (.tmp 43) rfl wx.heap.size rfl (c' := #[.int .i64 r.id, .int .i64 r.entry, .int .i64 r.exit, .slice P0 pn0 pd0, .slice P1 pn1 pd1, .slice P2 pn2 pd2, .int .i64 r.timer]) rfl (heap_alloc_self wx (.cells #[.int .i64 0, .int .i64 0, .int .i64 0, .slice none 0 0, .slice none 0 0, .slice none 0 0, .int .i64 0] 54)) infoRoute7 rfl (by simp [Value.oneCell']) ?_)
     rw [World.setRow_alloc_new]
     have hx1 := heap_alloc_self wx (.cells #[.int .i64 r.id, .int .i64 r.entry, .int .i64 r.exit, .slice P0 pn0 pd0, .slice P1 pn1 pd1, .slice P2 pn2 pd2, .int .i64 r.timer] 54)
     have hb1 := below_new wx (.cells #[.int .i64 r.id, .int .i64 r.entry, .int .i64 r.exit, .slice P0 pn0 pd0, .slice P1 pn1 pd1, .slice P2 pn2 pd2, .int .i64 r.timer] 54)
     have U6 := Lib.hid (U.out.below hb1)
     have X11' := Lib.hid ((hb1.block _ (heap_lt X11.out)).trans X11.out)
     generalize wx.alloc (.cells #[.int .i64 r.id, .int .i64 r.entry, .int .i64 r.exit, .slice P0 pn0 pd0, .slice P1 pn1 pd1, .slice P2 pn2 pd2, .int .i64 r.timer] 54) = w6 at hx1 hb1 U6 X11' ⊢
     generalize wx.heap.size = p13 at hx1 ⊢
     clear hb1 g0 g1 g2 g3 g4 g5 g6 k0 k1 k2 k3 k4 k5 U X11 BW
     obtain ⟨k0, k1, k2, k3, k4, k5⟩ := cell6_of X11'.out
     obtain ⟨l0, l1, l2, l3, l4, l5, l6⟩ := cell7_of hx1
     clear hx1
     go_wp2_with fail
     refine (used14_any _ _ b r w6 ⟨_, _, _, _, rfl, (IB.out.below U6.out.b).more U6.out.b.size⟩ ⟨_, _, _, rfl, (RI.out.below U6.out.b).more U6.out.b.size⟩ HB_.out HR.out).mono ?_
     rintro e w7 ⟨m, rfl, hG, hlo, b_⟩
     have GM := Lib.hid hG
     have U7 := Lib.hid (U6.out.below b_)
     have NM : Hid (ab ≠ m) := Lib.hid (by have := U6.out.g.lt; omega)
     have X11 := Lib.hid ((b_.block _ (heap_lt X11'.out)).trans X11'.out)
     clear hG hlo b_ U6 X11' k0 k1 k2 k3 k4 k5 l0 l1 l2 l3 l4 l5 l6
     obtain ⟨mv, hmv⟩ : ∃ q_, q_ = metB (fun k => useB b r k.1 k.2 = true) (fun z => chB a b z.1 z.2 = true) := ⟨_, rfl⟩
     have HMV := Lib.hid hmv
     clear hmv
     go_wp2_with fail
     refine (meet14_any m ub _ _ w7 GM.out U7.out.u).mono ?_
     rintro e w8 ⟨rfl, b_⟩
     rw [← HMV.out]
     have U8 := Lib.hid (U7.out.below b_)
     have GM8 := Lib.hid (GM.out.below b_ GM.out.lt)
     have X12 := Lib.hid ((b_.block _ (heap_lt X11.out)).trans X11.out)
     clear b_ U7 GM X11
     cases mv with
     | true =>
      have HS := Lib.hid (YES.out (metB_iff.1 HMV.out.symm))
      clear YES NO
      go_wp2_with fail
      refine (copy14_any ab m _ _ w8 U8.out.g GM8.out NM.out).mono ?_
      rintro e w9 ⟨rfl, hg9, gr9⟩
      have U9 := Lib.hid ((U8.out.turn hg9 gr9).iff (g' := fun k => accO a b (fun z => chB a b z.1 z.2 = true) 1 k ∨ metK b (fun z => chB a b z.1 z.2 = true) (i + 1) k) fun k => by rw [HS.out]; exact or_assoc)
      have X13 := Lib.hid ((gr9.block _ (heap_lt X12.out) (fun e => gath_apart U8.out.g X12.out (by injection e))).trans X12.out)
      clear hg9 gr9 U8 X12 GM8
      go_wp2_with fail
      go_roundw
      case measure => simp [intOf]; omega
      case rel => exact ⟨i + 1, by go_num, by omega, U9.out, X13.out⟩
     | false =>
      have HS := Lib.hid (NO.out (metB_no.1 HMV.out.symm))
      clear YES NO
      have U9 := Lib.hid (U8.out.iff (g' := fun k => accO a b (fun z => chB a b z.1 z.2 = true) 1 k ∨ metK b (fun z => chB a b z.1 z.2 = true) (i + 1) k) fun k => by rw [HS.out])
      clear U8 GM8
      go_wp2_with fail
      go_roundw
      case measure => simp [intOf]; omega
      case rel => exact ⟨i + 1, by go_num, by omega, U9.out, X12.out⟩
    ·obtain rfl : mR = i := by omega
     have hlt' : ¬ (mR : Int) < mR := by omega
     have U9 := Lib.hid (U.out.iff (g' := accO a b (fun z => chB a b z.1 z.2 = true) 2) fun k => by rw [accO_two, Nb.out.1])
     clear U X11
     go_wp2_with fail
     go_roundw
     case measure => simp [intOf]
     case rel => exact ⟨2, by first | rfl | go_num, by omega, U9.out⟩
  ·subst hi2
   clear hi
   go_wp2_with fail
   refine (area14_any ab _ wr U.out.g (fit_acc HA.out HB_.out)).mono ?_
   rintro e w7 ⟨A0, n0, c0, A1, n1, c1, A2, n2, c2, A3, n3, c3, rfl, hA, b_⟩
   rw [gB_area] at hA
   have OA := Lib.hid (hA.mono U.out.b.size)
   have B7 := Lib.hid (U.out.b.trans (b_.mono U.out.b.size))
   have X4 := Lib.hid ((b_.block _ (heap_lt U.out.x4)).trans U.out.x4)
   clear hA b_ U
   go_wp2_with ((with_reducible show wpList _ _ _ (⟨none, .store _ _ _, _, _, _, _⟩ :: _) _ _); refine wpList_store_rowS rfl _ (.tmp 4) (.tmp 56) rfl (w.heap.size + 1 + 1) rfl (c' := #[.slice A0 n0 c0, .slice A1 n1 c1, .slice A2 n2 c2, .slice A3 n3 c3]) rfl X4.out infoArea4 rfl (by simp [Value.oneCell']) ?_)
   have hg := grownBy_setRow w7 (w.heap.size + 1 + 1) #[.slice A0 n0 c0, .slice A1 n1 c1, .slice A2 n2 c2, .slice A3 n3 c3]
   refine bodyPost_ret (results_rowS_tmp (c := #[.slice A0 n0 c0, .slice A1 n1 c1, .slice A2 n2 c2, .slice A3 n3 c3]) rfl _ _ (w.heap.size + 1 + 1) rfl (setRow_heap w7 _ _ #[.slice A0 n0 c0, .slice A1 n1 c1, .slice A2 n2 c2, .slice A3 n3 c3] _ _ X4.out) Tryz.underlying24 infoArea4 (.int .i64 0) rfl) rfl ⟨_, _, _, _, by rw [HV.out.1], ?_, B7.out.trans (gb_low14 hg (by omega) B7.out.size)⟩
   rw [HV.out.2]
   exact (OA.out.off hg ⟨_, X4.out⟩).in_

theorem areaSaid (hp : PlanSaid) (hd : DifSaid) : AreaSaid where
 of v y a b w h h' := pof14_any hd v y a b w h h'
 uses v p id w h := puses14_any hp v p id w h
 has v x kind id w h hk hk2 := phas14_any v x kind id w h hk hk2
 same v y x z w h h' := psame14_any v y x z w h h'
end Go.Proofs.YtneeocnjfnneoaaGreat
