/-
 The program's package diff: two plans' elements, side by side.
 Conditions: none.
-/
import Derived.Test.YtneeocnjfnneoaaGreatVDifPC
import Derived.Test.YtneeocnjfnneoaaGreatVGDifM
import Derived.Test.YtneeocnjfnneoaaGreatVGPlnRefD
import Derived.Test.YtneeocnjfnneoaaGreatVGBase
set_option linter.unusedVariables false
set_option linter.unusedSimpArgs false
set_option maxRecDepth 100000
namespace Go.Proofs.YtneeocnjfnneoaaGreat
open Go.RowKit

/-- What has come of a plan's elements. -/
def cutK (g : K13 → Any13) (vs : Ents) (k : K13) : Any13 := if k ∈ vs.map (·.1) then g k else .none
theorem cutK_nil (g : K13 → Any13) (k : K13) : cutK g [] k = .none := by simp [cutK]
theorem cutK_same (g : K13 → Any13) (vs : Ents) (p : K13 × Value) : cutK g (vs ++ [p]) p.1 = g p.1 := by simp [cutK]
theorem cutK_other (g : K13 → Any13) (vs : Ents) (p : K13 × Value) (z : K13) (h : z ≠ p.1) : cutK g (vs ++ [p]) z = cutK g vs z := by
 have e : z ∈ (vs ++ [p]).map (·.1) ↔ z ∈ vs.map (·.1) := by
  rw [List.map_append, List.mem_append, List.map_singleton, List.mem_singleton]
  exact ⟨fun g => g.resolve_right h, .inl⟩
 unfold cutK
 by_cases e1 : z ∈ vs.map (·.1)
 ·rw [if_pos e1, if_pos (e.2 e1)]
 ·rw [if_neg e1, if_neg fun g => e1 (e.1 g)]
theorem cutK_all {p : Pl} {W : World} {lo b : Nat} {es vs : Ents} (h : ElMap W lo b p (allK p) es) (hp : vs.Perm es) : cutK (elK p) vs = elK p := by
 funext k
 have h1 : k ∈ vs.map (·.1) ↔ k ∈ es.map (·.1) := (hp.map _).mem_iff
 unfold cutK
 by_cases e : k ∈ vs.map (·.1)
 ·rw [if_pos e]
 ·rw [if_neg e]
  exact (Classical.not_not.1 fun g => e (h1.2 ((h.keys k).2 (el_ne.1 fun e2 => g e2.symm))))
/-- Between two rounds of a walk over a plan's elements, while the map of all is laid. -/
structure LaidAt (w W : World) (mb m1 r : Nat) (g : K13 → Any13) (es1 vs : Ents) (cnt : Nat) (x y : K13 → Any13) (es : Ents) (pb : Nat) (c : Array Value) (t : TypeId) : Prop where
 it : Iter13 W m1 r es1 vs cnt
 el : ∀ q ∈ es1, ElemV W W.heap.size q.2 (g q.1)
 xb : W.heap[pb]? = some (.cells c t (0, 0))
 bw : Below w.heap.size w W
 pm : PMap W W.heap.size mb x y es
section
variable {w W W' : World} {mb m1 r : Nat} {g : K13 → Any13} {es1 vs : Ents} {cnt : Nat} {x y : K13 → Any13} {es : Ents} {pb : Nat} {c : Array Value} {t : TypeId}
theorem LaidAt.below (h : LaidAt w W mb m1 r g es1 vs cnt x y es pb c t) (b : Below W.heap.size W W') : LaidAt w W' mb m1 r g es1 vs cnt x y es pb c t :=
 ⟨h.it.below b h.it.map.lt h.it.lt, fun q hq => ((h.el q hq).same (below_same b)).more b.size, (b.block _ (heap_lt h.xb)).trans h.xb, h.bw.trans (b.mono h.bw.size), (h.pm.below (Nat.le_refl _) b).more b.size⟩
theorem LaidAt.iter {p : K13 × Value} {cnt' : Nat} (h : LaidAt w W mb m1 r g es1 vs cnt x y es pb c t) (hr : w.heap.size ≤ r) (hi : Iter13 W' m1 r es1 (vs ++ [p]) cnt') (hg : W.grownBy W' (some r)) : LaidAt w W' mb m1 r g es1 (vs ++ [p]) cnt' x y es pb c t := by
 have hs := iter_same hg h.it hi
 obtain ⟨s, c1, q1, g1⟩ := h.it.iter
 have hb : W.heap[mb]? = _ := h.pm.map
 have n1 : mb ≠ r := fun e => by rw [e, g1] at hb; cases hb
 have n2 : pb ≠ r := fun e => by have := h.xb; rw [e, g1] at this; cases this
 exact ⟨hi, fun q hq => ((h.el q hq).same hs).more hg.size, (hg.block pb (heap_lt h.xb) fun e => n2 (by injection e)).trans h.xb, h.bw.grown hg h.bw.size (fun k e => by cases e; exact hr),
  (h.pm.same (hg.block mb h.pm.map.lt fun e => n1 (by injection e)) hs).more hg.size⟩
theorem LaidAt.put {x' y' : K13 → Any13} (h : LaidAt w W mb m1 r g es1 vs cnt x y es pb c t) (hm : w.heap.size ≤ mb) (hne : mb ≠ m1) (k : K13) (v : Value) (hb : MapB W' mb (putE es k v)) (hg : W.grownBy W' (some mb)) (hv : PairV W W.heap.size v (x' k) (y' k))
  (h1 : x' k ≠ .none ∨ y' k ≠ .none) (h2 : ∀ z, z ≠ k → x' z = x z ∧ y' z = y z) : LaidAt w W' mb m1 r g es1 vs cnt x' y' (putE es k v) pb c t := by
 have hs := map_same hg h.pm.map hb
 obtain ⟨s, c1, q1, g1⟩ := h.it.iter
 have hb0 : W.heap[mb]? = _ := h.pm.map
 have n1 : r ≠ mb := fun e => by rw [e, hb0] at g1; cases g1
 have n2 : pb ≠ mb := fun e => by have := h.xb; rw [e, hb0] at this; cases this
 exact ⟨h.it.same (hg.block m1 h.it.map.lt fun e => hne (by injection e with e; exact e.symm)) (hg.block r h.it.lt fun e => n1 (by injection e)), fun q hq => ((h.el q hq).same hs).more hg.size,
  (hg.block pb (heap_lt h.xb) fun e => n2 (by injection e)).trans h.xb, h.bw.grown hg h.bw.size (fun k e => by cases e; exact hm), h.pm.put k v hb hg hv h1 h2⟩
end
theorem ElemC.one {W : World} {lo : Nat} {u2 u3 u4 u5 f : Value} {x : Any13} (h : ElemC W lo u2 u3 u4 u5 f x) : ∃ A2 n2 c2 A3 n3 c3 A4 n4 c4 A5 n5 c5, u2 = .slice A2 n2 c2 ∧ u3 = .slice A3 n3 c3 ∧ u4 = .slice A4 n4 c4 ∧ u5 = .slice A5 n5 c5 := by
 obtain ⟨A2, c2, e2, -, -⟩ := h.plan.secs.slice
 obtain ⟨A3, c3, e3, -, -⟩ := h.plan.pts.slice
 obtain ⟨A4, c4, e4, -, -⟩ := h.plan.sigs.slice
 obtain ⟨A5, c5, e5, -, -⟩ := h.plan.routes.slice
 exact ⟨A2, _, c2, A3, _, c3, A4, _, c4, A5, _, c5, e2, e3, e4, e5⟩
theorem field13 (c : Array Value) (w : World) : (Instr.field 110 (.agg c) 0).run Tryz.prog w = .ok (.agg (c.extract 0 7)) w := by
 have h1 := Tryz.isAgg108 w
 have h2 := Tryz.sizeOf108 w
 simp [Instr.field, run_underlying Tryz.underlying110, asAgg, part, Sem.run_bind, h1, h2]
theorem infoKey13 : (Tryz.prog.info? 102).map (·.size) = some 2 := by kernel_rfl
theorem zeroPair13 (w : World) : (zeroValue 110).run Tryz.prog w = .ok zPair w := Tryz.zeroValue110 w
set_option maxHeartbeats 16000000 in
theorem laid_any (v y : Value) (a b : Pl) (w : World) (h : PlanV w w.heap.size v a) (h' : PlanV w w.heap.size y b) (ha : PlanMay a) (hb : PlanMay b) :
  Calls Tryz.prog 52 #[v, y] w fun e w' => ∃ m, e = .returned (.map (some m)) ∧ (∃ es, PMap w' w'.heap.size m (elK a) (elK b) es) ∧ w.heap.size ≤ m ∧ Below w.heap.size w w' := by
 have HA := Lib.hid ha
 have HB := Lib.hid hb
 clear ha hb
 have VB := Lib.hid h'
 obtain ⟨u2, u3, u4, u5, rfl, hin⟩ := h
 obtain ⟨z2, z3, z4, z5, rfl, hin'⟩ := h'
 obtain ⟨h0, h1, hqb⟩ := two_boxes w (.cells #[.int .i64 a.ver, .int .i64 a.par, u2, u3, u4, u5] 33) (.cells #[.int .i64 b.ver, .int .i64 b.par, z2, z3, z4, z5] 33)
 go_enter Tryz.func52, Tryz.ntmps52
 go_upto_region 1 with fail
 generalize (w.alloc (.cells #[.int .i64 a.ver, .int .i64 a.par, u2, u3, u4, u5] 33)).alloc (.cells #[.int .i64 b.ver, .int .i64 b.par, z2, z3, z4, z5] 33) = q at h0 h1 hqb ⊢
 have X0 := Lib.hid h0
 have X1 := Lib.hid h1
 have BQ := Lib.hid hqb
 have VA : Hid (PlanV q q.heap.size (.agg #[.int .i64 a.ver, .int .i64 a.par, u2, u3, u4, u5]) a) := Lib.hid ⟨_, _, _, _, rfl, (hin.below hqb).more hqb.size⟩
 have VB_ : Hid (PlanV q q.heap.size (.agg #[.int .i64 b.ver, .int .i64 b.par, z2, z3, z4, z5]) b) := Lib.hid ⟨_, _, _, _, rfl, (hin'.below hqb).more hqb.size⟩
 clear h0 h1 hqb hin hin'
 have hmm := @run_makeMap Tryz.prog
 clear VB_
 go_upto_region 2 with fail
 have tM : MapB (q.alloc (.map #[] 0)) q.heap.size [] := MapB.new q
 have tA := (heap_alloc_lt q (.map #[] 0) (heap_lt X0.out)).trans X0.out
 have tP := (heap_alloc_lt q (.map #[] 0) (heap_lt X1.out)).trans X1.out
 have tB := BQ.out.alloc BQ.out.size (.map #[] 0)
 have tV := (VA.out.below (below_new q (.map #[] 0))).more (below_new q (.map #[] 0)).size
 have LM : Hid (w.heap.size ≤ q.heap.size) := Lib.hid BQ.out.size
 generalize q.alloc (.map #[] 0) = q0 at tM tA tP tB tV ⊢
 generalize q.heap.size = mb at tM LM ⊢
 obtain ⟨k0, k1, k2, k3, k4, k5⟩ := cell6_of tA
 clear tA X0 X1 BQ VA hmm
 go_wp2_with (first
  | (go_at_call 88; refine (elements_any _ a q0 tV HA.out).mono ?_; rintro e w1 ⟨m1, rfl, ⟨es1, hem1⟩, hlo1, b1⟩; clear k0 k1 k2 k3 k4 k5)
  | (at_range; refine wpList_range13 _ rfl _ 135 108 rfl Tryz.underlying135 m1 es1 rfl hem1.map ?_; intro w6 hi6 hg6 hs6))
 go_frame
 have bR : Below w1.heap.size w1 w6 := ⟨hg6.os, hg6.tape, hg6.output, hg6.size, fun i hi => hg6.block i hi (by simp)⟩
 have B1 := tB.trans (b1.mono tB.size)
 have E1 := Lib.hid hem1
 have LR1 : Hid (w.heap.size ≤ w1.heap.size) := Lib.hid B1.size
 have NM1 : Hid (mb ≠ m1) := Lib.hid (by have := tM.lt; omega)
 have L0 : Hid (LaidAt w w6 mb m1 w1.heap.size (elK a) es1 [] es1.length (cutK (elK a) []) (fun _ => .none) [] (w.heap.size + 1) (#[.int .i64 b.ver, .int .i64 b.par, z2, z3, z4, z5]) 33) := Lib.hid ⟨hi6, fun q hq => ((hem1.el q hq).same (below_same bR)).more bR.size, (bR.block _ (heap_lt ((b1.block _ (heap_lt tP)).trans tP))).trans ((b1.block _ (heap_lt tP)).trans tP), B1.trans (bR.mono B1.size), ⟨(tM.below b1 tM.lt).below bR (Nat.lt_of_lt_of_le tM.lt b1.size), by simp [KeysNd], fun k => by simp [cutK_nil], by simp⟩⟩
 generalize w1.heap.size = r1 at L0 LR1 ⊢
 clear hem1 hlo1 b1 tM tP tB tV hi6 hg6 hs6 bR B1
 go_loopw [7] (fun _ wr => ∃ (vs es : Ents) (cnt : Nat), LaidAt w wr mb m1 r1 (elK a) es1 vs cnt (cutK (elK a) vs) (fun _ => .none) es (w.heap.size + 1) (#[.int .i64 b.ver, .int .i64 b.par, z2, z3, z4, z5]) 33) (fun _ wr => wr.rangeLeft m1 r1)
 case atStart => exact ⟨[], _, _, L0.out⟩
 case round =>
  obtain ⟨vs, es, cnt, hL⟩ := hrel
  have LL := Lib.hid hL
  clear hL L0
  go_wp2_with (at_next; refine wpList_next13 _ rfl _ rfl m1 r1 es1 vs cnt E1.out.nd rfl LL.out.it ?_ ?_)
  ·intro hc0
   subst hc0
   have hall := cutK_all E1.out (LL.out.it.all E1.out.nd)
   have LA := Lib.hid LL.out
   rw [hall] at LA
   clear hall LL
   have XB1 := Lib.hid LA.out.xb
   obtain ⟨k0, k1, k2, k3, k4, k5⟩ := cell6_of XB1.out
   have VB1 := Lib.hid ((VB.out.below LA.out.bw).more LA.out.bw.size)
   go_wp2_with (first
    | (go_at_call 88; refine (elements_any _ b wr VB1.out HB.out).mono ?_; rintro e w5 ⟨m2, rfl, ⟨es2, hem2⟩, hlo2, b2⟩; have PM2 := (LA.out.pm.below (Nat.le_refl _) b2).more b2.size; have XB2 := (b2.block _ (heap_lt XB1.out)).trans XB1.out; have BW2 := LA.out.bw.trans (b2.mono LA.out.bw.size); have hmlt := LA.out.pm.map.lt; clear k0 k1 k2 k3 k4 k5)
    | (at_range; refine wpList_range13 _ rfl _ 135 108 rfl Tryz.underlying135 m2 es2 rfl hem2.map ?_; intro w6 hi6 hg6 hs6))
   go_frame
   have bR : Below w5.heap.size w5 w6 := ⟨hg6.os, hg6.tape, hg6.output, hg6.size, fun i hi => hg6.block i hi (by simp)⟩
   have E2 := Lib.hid hem2
   have LR2 : Hid (w.heap.size ≤ w5.heap.size) := Lib.hid BW2.size
   have NM2 : Hid (mb ≠ m2) := Lib.hid (by omega)
   have L0 : Hid (LaidAt w w6 mb m2 w5.heap.size (elK b) es2 [] es2.length (elK a) (cutK (elK b) []) es (w.heap.size + 1) (#[.int .i64 b.ver, .int .i64 b.par, z2, z3, z4, z5]) 33) := Lib.hid ⟨hi6, fun q hq => ((hem2.el q hq).same (below_same bR)).more bR.size, (bR.block _ (heap_lt XB2)).trans XB2, BW2.trans (bR.mono BW2.size), by
    have h := (PM2.below (Nat.le_refl _) bR).more bR.size
    have e : (cutK (elK b) []) = fun _ => Any13.none := funext fun k => cutK_nil (elK b) k
    rw [e]
    exact h⟩
   generalize w5.heap.size = r2 at L0 LR2 ⊢
   clear hem2 hlo2 b2 PM2 XB2 BW2 hmlt hi6 hg6 hs6 bR XB1 VB1 LA E1 LR1 NM1
   go_loopw [9] (fun _ wr => ∃ (vs es : Ents) (cnt : Nat), LaidAt w wr mb m2 r2 (elK b) es2 vs cnt (elK a) (cutK (elK b) vs) es (w.heap.size + 1) (#[.int .i64 b.ver, .int .i64 b.par, z2, z3, z4, z5]) 33) (fun _ wr => wr.rangeLeft m2 r2)
   case atStart => exact ⟨[], _, _, L0.out⟩
   case round =>
    obtain ⟨vs, es, cnt, hL⟩ := hrel
    have LL := Lib.hid hL
    clear hL L0
    go_wp2_with (at_next; refine wpList_next13 _ rfl _ rfl m2 r2 es2 vs cnt E2.out.nd rfl LL.out.it ?_ ?_)
    ·intro hc0
     subst hc0
     have hall := cutK_all E2.out (LL.out.it.all E2.out.nd)
     rw [hall] at LL
     clear hall
     go_wp2_with fail
     go_ret
     exact ⟨_, rfl, ⟨es, LL.out.pm⟩, LM.out, LL.out.bw⟩
    ·intro kd kid pv w2 cnt2 hpe hpn hi2 hlt hg2 hs2 hen
     have hpn : (kd, kid) ∉ vs.map (·.1) := by simpa using hpn
     have L2 := Lib.hid (LL.out.iter LR2.out hi2 hg2)
     have ML : Hid (cnt2 < wr.rangeLeft m2 r2) := Lib.hid (by rw [LL.out.it.left_eq]; exact hlt)
     have PE := Lib.hid hpe
     have PN := Lib.hid hpn
     have HNE : Hid (elK b (kd, kid) ≠ .none) := Lib.hid (el_ne.2 ((E2.out.keys (kd, kid)).1 (List.mem_map.2 ⟨_, hpe, rfl⟩)))
     clear hi2 hlt hg2 hs2 hpe hpn LL
     obtain ⟨u2, u3, u4, u5, f, hpv, hec⟩ := L2.out.el _ PE.out
     obtain ⟨A2, n2, c2, A3, n3, c3, A4, n4, c4, A5, n5, c5, e2, e3, e4, e5⟩ := hec.one
     obtain ⟨B, hf⟩ : ∃ B, f = fnV B := by
      rcases hec.fn with ⟨h1, -⟩ | ⟨-, B, h2, -⟩
      ·exact absurd h1 HNE.out
      ·exact ⟨B, h2⟩
     subst e2 e3 e4 e5 hf
     unfold fnV at hec hpv
     subst hpv
     have EC := Lib.hid hec
     clear hec
     have y0 : ((w2.alloc (.cells #[.int .u8 0, .int .i64 0] 102)).alloc (.cells #[.int .i64 0, .int .i64 0, .slice none 0 0, .slice none 0 0, .slice none 0 0, .slice none 0 0, .nilFunc] 108)).heap[w2.heap.size]? = some (.cells #[.int .u8 0, .int .i64 0] 102 (0, 0)) := (heap_alloc_lt _ _ (by simp)).trans (heap_alloc_self w2 _)
     have y1 : ((w2.alloc (.cells #[.int .u8 0, .int .i64 0] 102)).alloc (.cells #[.int .i64 0, .int .i64 0, .slice none 0 0, .slice none 0 0, .slice none 0 0, .slice none 0 0, .nilFunc] 108)).heap[w2.heap.size + 1]? = some (.cells #[.int .i64 0, .int .i64 0, .slice none 0 0, .slice none 0 0, .slice none 0 0, .slice none 0 0, .nilFunc] 108 (0, 0)) := by
      have h := heap_alloc_self (w2.alloc (.cells #[.int .u8 0, .int .i64 0] 102)) (.cells #[.int .i64 0, .int .i64 0, .slice none 0 0, .slice none 0 0, .slice none 0 0, .slice none 0 0, .nilFunc] 108)
      rw [World.size_alloc] at h
      exact h
     have yb : Below w2.heap.size w2 ((w2.alloc (.cells #[.int .u8 0, .int .i64 0] 102)).alloc (.cells #[.int .i64 0, .int .i64 0, .slice none 0 0, .slice none 0 0, .slice none 0 0, .slice none 0 0, .nilFunc] 108)) := ((Below.refl _ w2).alloc (Nat.le_refl _) _).alloc (by simp) _
     have s1 := setRow_heap _ _ _ #[.int .u8 kd, .int .i64 kid] 102 _ y0
     have s2 := (setRow_other ((w2.alloc (.cells #[.int .u8 0, .int .i64 0] 102)).alloc (.cells #[.int .i64 0, .int .i64 0, .slice none 0 0, .slice none 0 0, .slice none 0 0, .slice none 0 0, .nilFunc] 108)) w2.heap.size (w2.heap.size + 1) #[.int .u8 kd, .int .i64 kid] (by omega)).trans y1
     have s3 := setRow_heap _ _ _ #[.int .i64 0, .int .i64 0, .slice A2 n2 c2, .slice A3 n3 c3, .slice A4 n4 c4, .slice A5 n5 c5, .func (.func 129) #[] #[.pointer (some ⟨B, 0, none⟩)]] 108 _ s2
     have s4 := (setRow_other ((((w2.alloc (.cells #[.int .u8 0, .int .i64 0] 102)).alloc (.cells #[.int .i64 0, .int .i64 0, .slice none 0 0, .slice none 0 0, .slice none 0 0, .slice none 0 0, .nilFunc] 108)).setRow w2.heap.size #[.int .u8 kd, .int .i64 kid])) (w2.heap.size + 1) w2.heap.size #[.int .i64 0, .int .i64 0, .slice A2 n2 c2, .slice A3 n3 c3, .slice A4 n4 c4, .slice A5 n5 c5, .func (.func 129) #[] #[.pointer (some ⟨B, 0, none⟩)]] (by omega)).trans s1
     have sb := below_setRow (below_setRow yb (Nat.le_refl _) #[.int .u8 kd, .int .i64 kid]) (Nat.le_succ _) #[.int .i64 0, .int .i64 0, .slice A2 n2 c2, .slice A3 n3 c3, .slice A4 n4 c4, .slice A5 n5 c5, .func (.func 129) #[] #[.pointer (some ⟨B, 0, none⟩)]]
     go_upto_region 9 with (first
      | ((with_reducible show wpList _ _ _ (⟨none, .store 102 _ _, _, _, _, _⟩ :: _) _ _); refine wpList_store_rowS rfl _ (.tmp 8) (.tmp 29) rfl w2.heap.size rfl (c' := #[.int .u8 kd, .int .i64 kid]) rfl y0 infoKey13 rfl (by simp [Value.oneCell']) ?_)
      | ((with_reducible show wpList _ _ _ (⟨none, .store 108 _ _, _, _, _, _⟩ :: _) _ _); refine wpList_store_rowS rfl _ (.tmp 9) (.tmp 30) rfl (w2.heap.size + 1) rfl (c' := #[.int .i64 0, .int .i64 0, .slice A2 n2 c2, .slice A3 n3 c3, .slice A4 n4 c4, .slice A5 n5 c5, .func (.func 129) #[] #[.pointer (some ⟨B, 0, none⟩)]]) rfl s2 infoElem13 rfl (by simp [Value.oneCell']) ?_))
     generalize (((w2.alloc (.cells #[.int .u8 0, .int .i64 0] 102)).alloc (.cells #[.int .i64 0, .int .i64 0, .slice none 0 0, .slice none 0 0, .slice none 0 0, .slice none 0 0, .nilFunc] 108)).setRow w2.heap.size #[.int .u8 kd, .int .i64 kid]).setRow (w2.heap.size + 1) #[.int .i64 0, .int .i64 0, .slice A2 n2 c2, .slice A3 n3 c3, .slice A4 n4 c4, .slice A5 n5 c5, .func (.func 129) #[] #[.pointer (some ⟨B, 0, none⟩)]] = w3 at s3 s4 sb ⊢
     have L3 := Lib.hid (L2.out.below sb)
     have EC3 := Lib.hid ((EC.out.same (below_same sb)).more sb.size)
     have XK := Lib.hid s4
     have XE := Lib.hid s3
     have SZ : Hid (w2.heap.size + 1 < w3.heap.size) := Lib.hid (heap_lt s3)
     clear y0 y1 yb s1 s2 s3 s4 sb L2 EC hen
     generalize w2.heap.size = kb at XK XE SZ ⊢
     have D4 : Below w3.heap.size w3 w3.drew := (Below.refl w3.heap.size w3).drew
     have L4 := Lib.hid (L3.out.below D4)
     have EC4 := Lib.hid ((EC3.out.same (below_same D4)).more D4.size)
     have XK4 := Lib.hid ((D4.block _ (heap_lt XK.out)).trans XK.out)
     have XE4 := Lib.hid ((D4.block _ (heap_lt XE.out)).trans XE.out)
     refine wp_region_still_tail 8 (by kernel_rfl) (by kernel_rfl) ?_
     change wpStill _ _ (World.drew w3) (fun a' => wpList _ _ _ _ a' (World.drew w3)) _ _
     generalize World.drew w3 = w4 at L4 EC4 XK4 XE4 ⊢
     clear D4 L3 EC3 XK XE SZ
     have AT := Lib.hid (L4.out.pm.at (kd, kid)).1
     have LK : (Instr.lookup 97 (.map (some mb)) (.agg #[.int .u8 kd, .int .i64 kid]) false).run Tryz.prog w4 = .ok ((look es (kd, kid)).getD zPair) w4 := run_lookup13 keyT13 Tryz.underlying97 L4.out.pm.map (kd, kid) (zeroPair13 _) false
     obtain ⟨lv, hlv⟩ : ∃ lv, lv = (look es (kd, kid)).getD zPair := ⟨_, rfl⟩
     rw [← hlv] at AT LK
     clear hlv
     obtain ⟨x2, x3, x4, x5, xf, y2, y3, y4, y5, yf, rfl, hx1, hx2⟩ := AT.out
     have XC := Lib.hid hx1
     clear hx1 hx2 AT
     obtain ⟨k0, k1⟩ := cell2_of XK4.out
     obtain ⟨l0, l1, l2, l3, l4, l5, l6⟩ := cell7_of XE4.out
     have PV : Hid (PairV w4 w4.heap.size (.agg #[.int .i64 0, .int .i64 0, x2, x3, x4, x5, xf, .int .i64 0, .int .i64 0, .slice A2 n2 c2, .slice A3 n3 c3, .slice A4 n4 c4, .slice A5 n5 c5, .func (.func 129) #[] #[.pointer (some ⟨B, 0, none⟩)]]) (elK a (kd, kid)) (cutK (elK b) (vs ++ [((kd, kid), .agg #[.int .i64 0, .int .i64 0, .slice A2 n2 c2, .slice A3 n3 c3, .slice A4 n4 c4, .slice A5 n5 c5, .func (.func 129) #[] #[.pointer (some ⟨B, 0, none⟩)]])]) (kd, kid))) := Lib.hid (by
      rw [cutK_same (elK b) vs ((kd, kid), .agg #[.int .i64 0, .int .i64 0, .slice A2 n2 c2, .slice A3 n3 c3, .slice A4 n4 c4, .slice A5 n5 c5, .func (.func 129) #[] #[.pointer (some ⟨B, 0, none⟩)]])]
      exact ⟨_, _, _, _, _, _, _, _, _, _, rfl, XC.out, EC4.out⟩)
     have FD : (Instr.field 110 (.agg #[.int .i64 0, .int .i64 0, x2, x3, x4, x5, xf, .int .i64 0, .int .i64 0, y2, y3, y4, y5, yf]) 0).run Tryz.prog w4 = .ok (.agg #[.int .i64 0, .int .i64 0, x2, x3, x4, x5, xf]) w4 := field13 _ w4
     simp only [List.take_succ_cons, List.take_zero, List.drop_succ_cons, List.drop_zero]
     still_step
     still_step
     still_step
     still_step
     still_step
     still_step
     still_step
     still_step
     refine wpStill_nil ?_
     refine wpList_update13 _ rfl (.tmp 31) (.tmp 32) (.tmp 38) 97 110 rfl keyT13 Tryz.underlying97 mb es (kd, kid) (.agg #[.int .i64 0, .int .i64 0, x2, x3, x4, x5, xf, .int .i64 0, .int .i64 0, .slice A2 n2 c2, .slice A3 n3 c3, .slice A4 n4 c4, .slice A5 n5 c5, .func (.func 129) #[] #[.pointer (some ⟨B, 0, none⟩)]]) rfl rfl rfl L4.out.pm.map ?_
     intro w5 hm5 hg5 hs5
     have L5 := Lib.hid (L4.out.put (x' := elK a) (y' := cutK (elK b) (vs ++ [((kd, kid), .agg #[.int .i64 0, .int .i64 0, .slice A2 n2 c2, .slice A3 n3 c3, .slice A4 n4 c4, .slice A5 n5 c5, .func (.func 129) #[] #[.pointer (some ⟨B, 0, none⟩)]])])) LM.out NM2.out (kd, kid) _ hm5 hg5 PV.out (.inr (by rw [cutK_same (elK b) vs ((kd, kid), .agg #[.int .i64 0, .int .i64 0, .slice A2 n2 c2, .slice A3 n3 c3, .slice A4 n4 c4, .slice A5 n5 c5, .func (.func 129) #[] #[.pointer (some ⟨B, 0, none⟩)]])]; exact HNE.out)) (fun z hz => ⟨rfl, cutK_other (elK b) vs ((kd, kid), .agg #[.int .i64 0, .int .i64 0, .slice A2 n2 c2, .slice A3 n3 c3, .slice A4 n4 c4, .slice A5 n5 c5, .func (.func 129) #[] #[.pointer (some ⟨B, 0, none⟩)]]) z hz⟩))
     clear hm5 hg5 hs5 L4 XK4 XE4 PV EC4 LK XC
     go_frame
     go_wp2_with fail
     go_roundw
     case measure => rw [L5.out.it.left_eq]; exact ML.out
     case rel => exact ⟨_, _, _, L5.out⟩
  ·intro kd kid pv w2 cnt2 hpe hpn hi2 hlt hg2 hs2 hen
   have hpn : (kd, kid) ∉ vs.map (·.1) := by simpa using hpn
   have L2 := Lib.hid (LL.out.iter LR1.out hi2 hg2)
   have ML : Hid (cnt2 < wr.rangeLeft m1 r1) := Lib.hid (by rw [LL.out.it.left_eq]; exact hlt)
   have PE := Lib.hid hpe
   have PN := Lib.hid hpn
   have HNE : Hid (elK a (kd, kid) ≠ .none) := Lib.hid (el_ne.2 ((E1.out.keys (kd, kid)).1 (List.mem_map.2 ⟨_, hpe, rfl⟩)))
   clear hi2 hlt hg2 hs2 hpe hpn LL
   obtain ⟨u2, u3, u4, u5, f, hpv, hec⟩ := L2.out.el _ PE.out
   obtain ⟨A2, n2, c2, A3, n3, c3, A4, n4, c4, A5, n5, c5, e2, e3, e4, e5⟩ := hec.one
   obtain ⟨B, hf⟩ : ∃ B, f = fnV B := by
    rcases hec.fn with ⟨h1, -⟩ | ⟨-, B, h2, -⟩
    ·exact absurd h1 HNE.out
    ·exact ⟨B, h2⟩
   subst e2 e3 e4 e5 hf
   unfold fnV at hec hpv
   subst hpv
   have EC := Lib.hid hec
   clear hec
   have y0 : ((w2.alloc (.cells #[.int .u8 0, .int .i64 0] 102)).alloc (.cells #[.int .i64 0, .int .i64 0, .slice none 0 0, .slice none 0 0, .slice none 0 0, .slice none 0 0, .nilFunc] 108)).heap[w2.heap.size]? = some (.cells #[.int .u8 0, .int .i64 0] 102 (0, 0)) := (heap_alloc_lt _ _ (by simp)).trans (heap_alloc_self w2 _)
   have y1 : ((w2.alloc (.cells #[.int .u8 0, .int .i64 0] 102)).alloc (.cells #[.int .i64 0, .int .i64 0, .slice none 0 0, .slice none 0 0, .slice none 0 0, .slice none 0 0, .nilFunc] 108)).heap[w2.heap.size + 1]? = some (.cells #[.int .i64 0, .int .i64 0, .slice none 0 0, .slice none 0 0, .slice none 0 0, .slice none 0 0, .nilFunc] 108 (0, 0)) := by
    have h := heap_alloc_self (w2.alloc (.cells #[.int .u8 0, .int .i64 0] 102)) (.cells #[.int .i64 0, .int .i64 0, .slice none 0 0, .slice none 0 0, .slice none 0 0, .slice none 0 0, .nilFunc] 108)
    rw [World.size_alloc] at h
    exact h
   have yb : Below w2.heap.size w2 ((w2.alloc (.cells #[.int .u8 0, .int .i64 0] 102)).alloc (.cells #[.int .i64 0, .int .i64 0, .slice none 0 0, .slice none 0 0, .slice none 0 0, .slice none 0 0, .nilFunc] 108)) := ((Below.refl _ w2).alloc (Nat.le_refl _) _).alloc (by simp) _
   have s1 := setRow_heap _ _ _ #[.int .u8 kd, .int .i64 kid] 102 _ y0
   have s2 := (setRow_other ((w2.alloc (.cells #[.int .u8 0, .int .i64 0] 102)).alloc (.cells #[.int .i64 0, .int .i64 0, .slice none 0 0, .slice none 0 0, .slice none 0 0, .slice none 0 0, .nilFunc] 108)) w2.heap.size (w2.heap.size + 1) #[.int .u8 kd, .int .i64 kid] (by omega)).trans y1
   have s3 := setRow_heap _ _ _ #[.int .i64 0, .int .i64 0, .slice A2 n2 c2, .slice A3 n3 c3, .slice A4 n4 c4, .slice A5 n5 c5, .func (.func 129) #[] #[.pointer (some ⟨B, 0, none⟩)]] 108 _ s2
   have s4 := (setRow_other ((((w2.alloc (.cells #[.int .u8 0, .int .i64 0] 102)).alloc (.cells #[.int .i64 0, .int .i64 0, .slice none 0 0, .slice none 0 0, .slice none 0 0, .slice none 0 0, .nilFunc] 108)).setRow w2.heap.size #[.int .u8 kd, .int .i64 kid])) (w2.heap.size + 1) w2.heap.size #[.int .i64 0, .int .i64 0, .slice A2 n2 c2, .slice A3 n3 c3, .slice A4 n4 c4, .slice A5 n5 c5, .func (.func 129) #[] #[.pointer (some ⟨B, 0, none⟩)]] (by omega)).trans s1
   have sb := below_setRow (below_setRow yb (Nat.le_refl _) #[.int .u8 kd, .int .i64 kid]) (Nat.le_succ _) #[.int .i64 0, .int .i64 0, .slice A2 n2 c2, .slice A3 n3 c3, .slice A4 n4 c4, .slice A5 n5 c5, .func (.func 129) #[] #[.pointer (some ⟨B, 0, none⟩)]]
   go_upto_region 5 with (first
    | ((with_reducible show wpList _ _ _ (⟨none, .store 102 _ _, _, _, _, _⟩ :: _) _ _); refine wpList_store_rowS rfl _ (.tmp 6) (.tmp 17) rfl w2.heap.size rfl (c' := #[.int .u8 kd, .int .i64 kid]) rfl y0 infoKey13 rfl (by simp [Value.oneCell']) ?_)
    | ((with_reducible show wpList _ _ _ (⟨none, .store 108 _ _, _, _, _, _⟩ :: _) _ _); refine wpList_store_rowS rfl _ (.tmp 7) (.tmp 18) rfl (w2.heap.size + 1) rfl (c' := #[.int .i64 0, .int .i64 0, .slice A2 n2 c2, .slice A3 n3 c3, .slice A4 n4 c4, .slice A5 n5 c5, .func (.func 129) #[] #[.pointer (some ⟨B, 0, none⟩)]]) rfl s2 infoElem13 rfl (by simp [Value.oneCell']) ?_))
   generalize (((w2.alloc (.cells #[.int .u8 0, .int .i64 0] 102)).alloc (.cells #[.int .i64 0, .int .i64 0, .slice none 0 0, .slice none 0 0, .slice none 0 0, .slice none 0 0, .nilFunc] 108)).setRow w2.heap.size #[.int .u8 kd, .int .i64 kid]).setRow (w2.heap.size + 1) #[.int .i64 0, .int .i64 0, .slice A2 n2 c2, .slice A3 n3 c3, .slice A4 n4 c4, .slice A5 n5 c5, .func (.func 129) #[] #[.pointer (some ⟨B, 0, none⟩)]] = w3 at s3 s4 sb ⊢
   have L3 := Lib.hid (L2.out.below sb)
   have EC3 := Lib.hid ((EC.out.same (below_same sb)).more sb.size)
   have XK := Lib.hid s4
   have XE := Lib.hid s3
   have SZ : Hid (w2.heap.size + 1 < w3.heap.size) := Lib.hid (heap_lt s3)
   clear y0 y1 yb s1 s2 s3 s4 sb L2 EC hen
   generalize w2.heap.size = kb at XK XE SZ ⊢
   obtain ⟨k0, k1⟩ := cell2_of XK.out
   obtain ⟨l0, l1, l2, l3, l4, l5, l6⟩ := cell7_of XE.out
   have PV : Hid (PairV w3 w3.heap.size (.agg #[.int .i64 0, .int .i64 0, .slice A2 n2 c2, .slice A3 n3 c3, .slice A4 n4 c4, .slice A5 n5 c5, .func (.func 129) #[] #[.pointer (some ⟨B, 0, none⟩)], .int .i64 0, .int .i64 0, .slice none 0 0, .slice none 0 0, .slice none 0 0, .slice none 0 0, .nilFunc]) (cutK (elK a) (vs ++ [((kd, kid), .agg #[.int .i64 0, .int .i64 0, .slice A2 n2 c2, .slice A3 n3 c3, .slice A4 n4 c4, .slice A5 n5 c5, .func (.func 129) #[] #[.pointer (some ⟨B, 0, none⟩)]])]) (kd, kid)) .none) := Lib.hid (by
    rw [cutK_same (elK a) vs ((kd, kid), .agg #[.int .i64 0, .int .i64 0, .slice A2 n2 c2, .slice A3 n3 c3, .slice A4 n4 c4, .slice A5 n5 c5, .func (.func 129) #[] #[.pointer (some ⟨B, 0, none⟩)]])]
    exact ⟨_, _, _, _, _, _, _, _, _, _, rfl, EC3.out, elemC_none _ _⟩)
   go_wp2_with ((with_reducible show wpList _ _ _ (⟨none, .mapUpdate _ _ _ _, _, _, _, _⟩ :: _) _ _); refine wpList_update13 _ rfl (.tmp 19) (.tmp 20) (.tmp 22) 97 110 rfl keyT13 Tryz.underlying97 mb es (kd, kid) (.agg #[.int .i64 0, .int .i64 0, .slice A2 n2 c2, .slice A3 n3 c3, .slice A4 n4 c4, .slice A5 n5 c5, .func (.func 129) #[] #[.pointer (some ⟨B, 0, none⟩)], .int .i64 0, .int .i64 0, .slice none 0 0, .slice none 0 0, .slice none 0 0, .slice none 0 0, .nilFunc]) rfl rfl rfl L3.out.pm.map ?_; intro w4 hm4 hg4 hs4)
   have L4 := Lib.hid (L3.out.put (x' := cutK (elK a) (vs ++ [((kd, kid), .agg #[.int .i64 0, .int .i64 0, .slice A2 n2 c2, .slice A3 n3 c3, .slice A4 n4 c4, .slice A5 n5 c5, .func (.func 129) #[] #[.pointer (some ⟨B, 0, none⟩)]])])) (y' := fun _ => .none) LM.out NM1.out (kd, kid) _ hm4 hg4 PV.out (.inl (by rw [cutK_same (elK a) vs ((kd, kid), .agg #[.int .i64 0, .int .i64 0, .slice A2 n2 c2, .slice A3 n3 c3, .slice A4 n4 c4, .slice A5 n5 c5, .func (.func 129) #[] #[.pointer (some ⟨B, 0, none⟩)]])]; exact HNE.out)) (fun z hz => ⟨cutK_other (elK a) vs ((kd, kid), .agg #[.int .i64 0, .int .i64 0, .slice A2 n2 c2, .slice A3 n3 c3, .slice A4 n4 c4, .slice A5 n5 c5, .func (.func 129) #[] #[.pointer (some ⟨B, 0, none⟩)]]) z hz, rfl⟩))
   clear hm4 hg4 hs4 L3 XK XE PV EC3
   go_wp2_with fail
   go_roundw
   case measure => rw [L4.out.it.left_eq]; exact ML.out
   case rel => exact ⟨_, _, _, L4.out⟩
end Go.Proofs.YtneeocnjfnneoaaGreat
