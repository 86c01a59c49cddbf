/-
 The document's own package area: all elements that are not the same in two plans.
 Conditions: none.
-/
import Derived.Test.YtneeocnjfnneoaaGreatQGAreRefA
import Derived.Test.YtneeocnjfnneoaaGreatQGAreM
set_option linter.unusedVariables false
set_option linter.unusedSimpArgs false
set_option maxRecDepth 100000
namespace Go.Proofs.YtneeocnjfnneoaaGreat
open Go.RowKit

/-- The numbers up to one of which something holds. -/
def idsTo (f : Int → Bool) (i : Nat) : List Int := ((List.range i).map fun (j : Nat) => (j : Int) + 1).filter f
theorem idsTo_snoc (f : Int → Bool) (i : Nat) : idsTo f (i + 1) = if f ((i : Int) + 1) then idsTo f i ++ [(i : Int) + 1] else idsTo f i := by
 unfold idsTo
 rw [List.range_succ, List.map_append, List.filter_append]
 cases h : f ((i : Int) + 1) <;> simp [h]
theorem idsTo_len (f : Int → Bool) (i : Nat) : (idsTo f i).length ≤ i := Nat.le_trans (List.length_filter_le _ _) (by simp)
theorem ch_isV (a b : Pl) {kind : Int} (id : Int) (h : 1 ≤ kind ∧ kind ≤ 4) : decide (0 < isV a b kind id) = chB a b kind id := by
 have hr := isD_range a b kind id
 unfold isV chB
 refine decide_eq_decide.2 ?_
 split
 ·rename_i e
  exact ⟨fun h => by omega, fun h => absurd e h.2.2⟩
 ·rename_i e
  exact ⟨fun g => ⟨h, by omega, e⟩, fun g => by have := g.2.1; omega⟩
theorem own_len {W : World} {lo n c : Nat} {A : Option Addr} {l : List Int} (h : IntsOwn W lo (.slice A n c) l) : n = l.length := by
 obtain ⟨A', c', e⟩ := own_at h
 injection e
set_option maxHeartbeats 16000000 in
theorem rchanges14_any (v y : Value) (a b : Pl) (w : World) (h : PlanV w w.heap.size v a) (h' : PlanV w w.heap.size y b) :
  Calls Tryz.prog 69 #[v, y] w fun e w' => ∃ u0 u1 u2 u3, e = .returned (.agg #[u0, u1, u2, u3]) ∧ ArOwn w' w.heap.size u0 u1 u2 u3 (arOf (chB a b)) ∧ Below w.heap.size w w' := by
 obtain ⟨u2, u3, u4, u5, rfl, hin⟩ := h
 obtain ⟨z2, z3, z4, z5, rfl, hin'⟩ := h'
 obtain ⟨q3, hq, h0, h1, h2, hsz, hqb⟩ := boxes3 w (.cells #[.int .i64 a.ver, .int .i64 a.par, u2, u3, u4, u5] 33) (.cells #[.int .i64 b.ver, .int .i64 b.par, z2, z3, z4, z5] 33) (.cells #[.slice none 0 0, .slice none 0 0, .slice none 0 0, .slice none 0 0] 24)
 go_enter Tryz.func69, Tryz.ntmps69
 go_upto_region 3 with fail
 rw [← hq]
 have bn := below_new q3 (.cells #[.slice none 0 0, .slice none 0 0, .slice none 0 0, .slice none 0 0] 24)
 have X0 := Lib.hid ((bn.block _ (heap_lt h0)).trans h0)
 have X1 := Lib.hid ((bn.block _ (heap_lt h1)).trans h1)
 have X4 := Lib.hid ((bn.block _ (heap_lt h2)).trans h2)
 have h5 := heap_alloc_self q3 (.cells #[.slice none 0 0, .slice none 0 0, .slice none 0 0, .slice none 0 0] 24)
 have hqb2 := hqb.trans (bn.mono hqb.size)
 have hsz2 : (q3.alloc (.cells #[.slice none 0 0, .slice none 0 0, .slice none 0 0, .slice none 0 0] 24)).heap.size = q3.heap.size + 1 := by unfold World.alloc; exact Array.size_push ..
 generalize q3.alloc (.cells #[.slice none 0 0, .slice none 0 0, .slice none 0 0, .slice none 0 0] 24) = q at X0 X1 X4 h5 hqb2 hsz2 ⊢
 obtain ⟨p5, hp⟩ : ∃ n, n = w.heap.size + 1 + 1 + 1 := ⟨_, rfl⟩
 rw [show q3.heap.size = p5 by omega] at h5 hsz2
 rw [← hp]
 have P5 : Hid (p5 = w.heap.size + 3) := Lib.hid (by omega)
 have PL : Hid (w.heap.size ≤ p5) := Lib.hid (by omega)
 have PX : Hid (p5 ≤ q.heap.size) := Lib.hid (by omega)
 have PQ : Hid (w.heap.size ≤ q.heap.size) := Lib.hid (by omega)
 have PLT : Hid (w.heap.size < p5 ∧ w.heap.size + 1 < p5) := Lib.hid (by omega)
 have P4 : Hid (w.heap.size + 1 + 1 < p5) := Lib.hid (by omega)
 have IA := Lib.hid (hin.below hqb2)
 have IB := Lib.hid (hin'.below hqb2)
 have BQ := Lib.hid hqb2
 have AB0 : Hid (ArBox q (p5 + 1) p5 (.slice none 0 0) (.slice none 0 0) (.slice none 0 0) (.slice none 0 0) ⟨idsTo (chB a b 1) 0, idsTo (chB a b 2) 0, idsTo (chB a b 3) 0, idsTo (chB a b 4) 0⟩) := Lib.hid ⟨h5, by omega, by omega, ownNo q _⟩
 clear hq h0 h1 h2 hsz hqb bn h5 hqb2 hsz2 hp hin hin' q3
 go_loopw [6, 7, 8] (fun s6 s7 s8 wr => ∃ i : Nat, s6 = .int .i64 ((i : Int) + 1) ∧ i ≤ 99 ∧ ∃ g0 g1 g2 g3, ArBox wr (p5 + 1) p5 g0 g1 g2 g3 ⟨idsTo (chB a b 1) i, idsTo (chB a b 2) i, idsTo (chB a b 3) i, idsTo (chB a b 4) i⟩ ∧ Apart14 g0 g1 g2 g3 ∧ Below p5 q wr) (fun s6 _ _ _ => 100 - (intOf s6).toNat)
 case atStart => exact ⟨0, by go_num, by omega, _, _, _, _, AB0.out, ⟨off_nil, off_nil, off_nil, off_nil, off_nil, off_nil⟩, Below.refl _ _⟩
 case round =>
  obtain ⟨i, rfl, hi, g0, g1, g2, g3, ab, ap, hb⟩ := hrel
  have AB := Lib.hid ab
  have AP := Lib.hid ap
  have BL := Lib.hid hb
  clear ab ap hb AB0
  by_cases hlt : i < 99
  ·have hlt' : decide ((i : Int) + 1 < 100) = true := decide_eq_true (by omega)
   have VA : Hid (PlanV wr wr.heap.size (.agg #[.int .i64 a.ver, .int .i64 a.par, u2, u3, u4, u5]) a) := Lib.hid ⟨_, _, _, _, rfl, (IA.out.below (BL.out.mono PL.out)).more (Nat.le_trans PQ.out BL.out.size)⟩
   have VB : Hid (PlanV wr wr.heap.size (.agg #[.int .i64 b.ver, .int .i64 b.par, z2, z3, z4, z5]) b) := Lib.hid ⟨_, _, _, _, rfl, (IB.out.below (BL.out.mono PL.out)).more (Nat.le_trans PQ.out BL.out.size)⟩
   obtain ⟨k0, k1, k2, k3, k4, k5⟩ := cell6_of ((BL.out.block _ PLT.out.1).trans X0.out)
   obtain ⟨l0, l1, l2, l3, l4, l5⟩ := cell6_of ((BL.out.block _ PLT.out.2).trans X1.out)
   have hI := ris13_any (.agg #[.int .i64 a.ver, .int .i64 a.par, u2, u3, u4, u5]) (.agg #[.int .i64 b.ver, .int .i64 b.par, z2, z3, z4, z5]) a b 1 ((i : Int) + 1) wr VA.out VB.out
   obtain ⟨iv, hiv⟩ : ∃ x, x = isV a b 1 ((i : Int) + 1) := ⟨_, rfl⟩
   have HCH : Hid (decide (0 < iv) = chB a b 1 ((i : Int) + 1)) := Lib.hid (by rw [hiv]; exact ch_isV a b _ (by omega))
   rw [← hiv] at hI
   clear hiv VA VB
   go_upto_if 21 with (go_at_call 102; refine hI.mono ?_; rintro e v1_ ⟨rfl, bi⟩; have AB2 := Lib.hid (AB.out.below bi); have BL2 := Lib.hid (BL.out.trans (bi.mono (Nat.le_trans PX.out BL.out.size))); clear AB BL bi hI k0 k1 k2 k3 k4 k5 l0 l1 l2 l3 l4 l5)
   have AB := AB2
   have BL := BL2
   clear AB2 BL2
   go_cut [] from 9 to 72 (fun v1 => ∃ g0 g1 g2 g3, ArBox v1 (p5 + 1) p5 g0 g1 g2 g3 ⟨idsTo (chB a b 1) (i + 1), idsTo (chB a b 2) i, idsTo (chB a b 3) i, idsTo (chB a b 4) i⟩ ∧ Apart14 g0 g1 g2 g3 ∧ Below p5 q v1)
   case first =>
    have HSN := Lib.hid (idsTo_snoc (chB a b 1) i)
    cases hc : chB a b 1 ((i : Int) + 1) with
    | false =>
     have d1 : ¬ (0 < iv) := of_decide_eq_false (HCH.out.trans hc)
     have HS : Hid (idsTo (chB a b 1) (i + 1) = idsTo (chB a b 1) i) := Lib.hid (by rw [HSN.out, hc]; rfl)
     clear HCH hc HSN
     go_wp2_with fail
     go_meet
     exact ⟨_, _, _, _, by rw [HS.out]; exact AB.out, AP.out, BL.out⟩
    | true =>
     have d1 : 0 < iv := of_decide_eq_true (HCH.out.trans hc)
     have HS : Hid (idsTo (chB a b 1) (i + 1) = idsTo (chB a b 1) i ++ [(i : Int) + 1]) := Lib.hid (by rw [HSN.out, hc]; rfl)
     clear HCH hc HSN
     obtain ⟨A0, n0, c0, rfl⟩ := own_sl AB.out.own.secs
     have HN : Hid (n0 = (idsTo (chB a b 1) i).length) := Lib.hid (own_len AB.out.own.secs)
     have hn9 : n0 ≤ 99 := by rw [HN.out]; exact Nat.le_trans (idsTo_len _ _) (by omega)
     obtain ⟨f0, f1, f2, f3⟩ := cell4A AB.out.row
     go_wp2_with ((with_reducible show wpList _ _ _ (⟨some 26, _, _, _, _, _⟩ :: _) _ _); refine wpList_append_at (W := v1_) rfl (.tmp 23) (.tmp 25) rfl slI14 intR (fun _ h _ _ => h) rfl rfl AB.out.own.secs HN.out (ys := [.int .i64 ((i : Int) + 1)]) (x := (i : Int) + 1) rfl (by simp [Value.oneCell']) rfl (by omega) AB.out.size ?_; intro A6 c6 w6 ho6 hg6 he6; have hadd := AB.out.add0 AP.out (below_new v1_ _) ho6 hg6 he6; have hrow6 := row_grown (AB.out.own.secs.below intR (below_new v1_ _)) hg6 ((heap_alloc_lt v1_ _ AB.out.lt).trans AB.out.row); have HADD := Lib.hid hadd; obtain ⟨y0, y1, y2, y3⟩ := cell4A hrow6; have fz := frozen2_of hrow6 0; clear hadd ho6 hg6 he6 AB AP f0 f1 f2 f3)
     go_meet
     exact ⟨_, _, _, _, by rw [HS.out]; exact HADD.out.1, HADD.out.2.1, BL.out.trans HADD.out.2.2⟩
   case rest =>
    obtain ⟨h0, h1, h2, h3, ab, ap, hb⟩ := hcut
    obtain ⟨v1, hv⟩ : ∃ x, x = wc := ⟨_, rfl⟩
    rw [← hv] at ab hb ⊢
    clear hv wc AB AP BL HCH
    have AB := Lib.hid ab
    have AP := Lib.hid ap
    have BL := Lib.hid hb
    clear ab ap hb
    have VA : Hid (PlanV v1 v1.heap.size (.agg #[.int .i64 a.ver, .int .i64 a.par, u2, u3, u4, u5]) a) := Lib.hid ⟨_, _, _, _, rfl, (IA.out.below (BL.out.mono PL.out)).more (Nat.le_trans PQ.out BL.out.size)⟩
    have VB : Hid (PlanV v1 v1.heap.size (.agg #[.int .i64 b.ver, .int .i64 b.par, z2, z3, z4, z5]) b) := Lib.hid ⟨_, _, _, _, rfl, (IB.out.below (BL.out.mono PL.out)).more (Nat.le_trans PQ.out BL.out.size)⟩
    obtain ⟨k0, k1, k2, k3, k4, k5⟩ := cell6_of ((BL.out.block _ PLT.out.1).trans X0.out)
    obtain ⟨l0, l1, l2, l3, l4, l5⟩ := cell6_of ((BL.out.block _ PLT.out.2).trans X1.out)
    have hI := ris13_any (.agg #[.int .i64 a.ver, .int .i64 a.par, u2, u3, u4, u5]) (.agg #[.int .i64 b.ver, .int .i64 b.par, z2, z3, z4, z5]) a b 2 ((i : Int) + 1) v1 VA.out VB.out
    obtain ⟨iv, hiv⟩ : ∃ x, x = isV a b 2 ((i : Int) + 1) := ⟨_, rfl⟩
    have HCH : Hid (decide (0 < iv) = chB a b 2 ((i : Int) + 1)) := Lib.hid (by rw [hiv]; exact ch_isV a b _ (by omega))
    rw [← hiv] at hI
    clear hiv VA VB
    go_upto_if 36 with (go_at_call 102; refine hI.mono ?_; rintro e v2_ ⟨rfl, bi⟩; have AB2 := Lib.hid (AB.out.below bi); have BL2 := Lib.hid (BL.out.trans (bi.mono (Nat.le_trans PX.out BL.out.size))); clear AB BL bi hI k0 k1 k2 k3 k4 k5 l0 l1 l2 l3 l4 l5)
    have AB := AB2
    have BL := BL2
    clear AB2 BL2
    go_cut [] from 9 to 72 (fun v2 => ∃ g0 g1 g2 g3, ArBox v2 (p5 + 1) p5 g0 g1 g2 g3 ⟨idsTo (chB a b 1) (i + 1), idsTo (chB a b 2) (i + 1), idsTo (chB a b 3) i, idsTo (chB a b 4) i⟩ ∧ Apart14 g0 g1 g2 g3 ∧ Below p5 q v2)
    case first =>
     have HSN := Lib.hid (idsTo_snoc (chB a b 2) i)
     cases hc : chB a b 2 ((i : Int) + 1) with
     | false =>
      have d1 : ¬ (0 < iv) := of_decide_eq_false (HCH.out.trans hc)
      have HS : Hid (idsTo (chB a b 2) (i + 1) = idsTo (chB a b 2) i) := Lib.hid (by rw [HSN.out, hc]; rfl)
      clear HCH hc HSN
      go_wp2_with fail
      go_meet
      exact ⟨_, _, _, _, by rw [HS.out]; exact AB.out, AP.out, BL.out⟩
     | true =>
      have d1 : 0 < iv := of_decide_eq_true (HCH.out.trans hc)
      have HS : Hid (idsTo (chB a b 2) (i + 1) = idsTo (chB a b 2) i ++ [(i : Int) + 1]) := Lib.hid (by rw [HSN.out, hc]; rfl)
      clear HCH hc HSN
      obtain ⟨A1, n1, c1, rfl⟩ := own_sl AB.out.own.pts
      have HN : Hid (n1 = (idsTo (chB a b 2) i).length) := Lib.hid (own_len AB.out.own.pts)
      have hn9 : n1 ≤ 99 := by rw [HN.out]; exact Nat.le_trans (idsTo_len _ _) (by omega)
      obtain ⟨f0, f1, f2, f3⟩ := cell4A AB.out.row
      go_wp2_with ((with_reducible show wpList _ _ _ (⟨some 41, _, _, _, _, _⟩ :: _) _ _); refine wpList_append_at (W := v2_) rfl (.tmp 38) (.tmp 40) rfl slI14 intR (fun _ h _ _ => h) rfl rfl AB.out.own.pts HN.out (ys := [.int .i64 ((i : Int) + 1)]) (x := (i : Int) + 1) rfl (by simp [Value.oneCell']) rfl (by omega) AB.out.size ?_; intro A6 c6 w6 ho6 hg6 he6; have hadd := AB.out.add1 AP.out (below_new v2_ _) ho6 hg6 he6; have hrow6 := row_grown (AB.out.own.pts.below intR (below_new v2_ _)) hg6 ((heap_alloc_lt v2_ _ AB.out.lt).trans AB.out.row); have HADD := Lib.hid hadd; obtain ⟨y0, y1, y2, y3⟩ := cell4A hrow6; have fz := frozen2_of hrow6 1; clear hadd ho6 hg6 he6 AB AP f0 f1 f2 f3)
      go_meet
      exact ⟨_, _, _, _, by rw [HS.out]; exact HADD.out.1, HADD.out.2.1, BL.out.trans HADD.out.2.2⟩
    case rest =>
     obtain ⟨h0, h1, h2, h3, ab, ap, hb⟩ := hcut
     obtain ⟨v2, hv⟩ : ∃ x, x = wc := ⟨_, rfl⟩
     rw [← hv] at ab hb ⊢
     clear hv wc AB AP BL HCH
     have AB := Lib.hid ab
     have AP := Lib.hid ap
     have BL := Lib.hid hb
     clear ab ap hb
     have VA : Hid (PlanV v2 v2.heap.size (.agg #[.int .i64 a.ver, .int .i64 a.par, u2, u3, u4, u5]) a) := Lib.hid ⟨_, _, _, _, rfl, (IA.out.below (BL.out.mono PL.out)).more (Nat.le_trans PQ.out BL.out.size)⟩
     have VB : Hid (PlanV v2 v2.heap.size (.agg #[.int .i64 b.ver, .int .i64 b.par, z2, z3, z4, z5]) b) := Lib.hid ⟨_, _, _, _, rfl, (IB.out.below (BL.out.mono PL.out)).more (Nat.le_trans PQ.out BL.out.size)⟩
     obtain ⟨k0, k1, k2, k3, k4, k5⟩ := cell6_of ((BL.out.block _ PLT.out.1).trans X0.out)
     obtain ⟨l0, l1, l2, l3, l4, l5⟩ := cell6_of ((BL.out.block _ PLT.out.2).trans X1.out)
     have hI := ris13_any (.agg #[.int .i64 a.ver, .int .i64 a.par, u2, u3, u4, u5]) (.agg #[.int .i64 b.ver, .int .i64 b.par, z2, z3, z4, z5]) a b 3 ((i : Int) + 1) v2 VA.out VB.out
     obtain ⟨iv, hiv⟩ : ∃ x, x = isV a b 3 ((i : Int) + 1) := ⟨_, rfl⟩
     have HCH : Hid (decide (0 < iv) = chB a b 3 ((i : Int) + 1)) := Lib.hid (by rw [hiv]; exact ch_isV a b _ (by omega))
     rw [← hiv] at hI
     clear hiv VA VB
     go_upto_if 51 with (go_at_call 102; refine hI.mono ?_; rintro e v3_ ⟨rfl, bi⟩; have AB2 := Lib.hid (AB.out.below bi); have BL2 := Lib.hid (BL.out.trans (bi.mono (Nat.le_trans PX.out BL.out.size))); clear AB BL bi hI k0 k1 k2 k3 k4 k5 l0 l1 l2 l3 l4 l5)
     have AB := AB2
     have BL := BL2
     clear AB2 BL2
     go_cut [] from 9 to 72 (fun v3 => ∃ g0 g1 g2 g3, ArBox v3 (p5 + 1) p5 g0 g1 g2 g3 ⟨idsTo (chB a b 1) (i + 1), idsTo (chB a b 2) (i + 1), idsTo (chB a b 3) (i + 1), idsTo (chB a b 4) i⟩ ∧ Apart14 g0 g1 g2 g3 ∧ Below p5 q v3)
     case first =>
      have HSN := Lib.hid (idsTo_snoc (chB a b 3) i)
      cases hc : chB a b 3 ((i : Int) + 1) with
      | false =>
       have d1 : ¬ (0 < iv) := of_decide_eq_false (HCH.out.trans hc)
       have HS : Hid (idsTo (chB a b 3) (i + 1) = idsTo (chB a b 3) i) := Lib.hid (by rw [HSN.out, hc]; rfl)
       clear HCH hc HSN
       go_wp2_with fail
       go_meet
       exact ⟨_, _, _, _, by rw [HS.out]; exact AB.out, AP.out, BL.out⟩
      | true =>
       have d1 : 0 < iv := of_decide_eq_true (HCH.out.trans hc)
       have HS : Hid (idsTo (chB a b 3) (i + 1) = idsTo (chB a b 3) i ++ [(i : Int) + 1]) := Lib.hid (by rw [HSN.out, hc]; rfl)
       clear HCH hc HSN
       obtain ⟨A2, n2, c2, rfl⟩ := own_sl AB.out.own.sigs
       have HN : Hid (n2 = (idsTo (chB a b 3) i).length) := Lib.hid (own_len AB.out.own.sigs)
       have hn9 : n2 ≤ 99 := by rw [HN.out]; exact Nat.le_trans (idsTo_len _ _) (by omega)
       obtain ⟨f0, f1, f2, f3⟩ := cell4A AB.out.row
       go_wp2_with ((with_reducible show wpList _ _ _ (⟨some 56, _, _, _, _, _⟩ :: _) _ _); refine wpList_append_at (W := v3_) rfl (.tmp 53) (.tmp 55) rfl slI14 intR (fun _ h _ _ => h) rfl rfl AB.out.own.sigs HN.out (ys := [.int .i64 ((i : Int) + 1)]) (x := (i : Int) + 1) rfl (by simp [Value.oneCell']) rfl (by omega) AB.out.size ?_; intro A6 c6 w6 ho6 hg6 he6; have hadd := AB.out.add2 AP.out (below_new v3_ _) ho6 hg6 he6; have hrow6 := row_grown (AB.out.own.sigs.below intR (below_new v3_ _)) hg6 ((heap_alloc_lt v3_ _ AB.out.lt).trans AB.out.row); have HADD := Lib.hid hadd; obtain ⟨y0, y1, y2, y3⟩ := cell4A hrow6; have fz := frozen2_of hrow6 2; clear hadd ho6 hg6 he6 AB AP f0 f1 f2 f3)
       go_meet
       exact ⟨_, _, _, _, by rw [HS.out]; exact HADD.out.1, HADD.out.2.1, BL.out.trans HADD.out.2.2⟩
     case rest =>
      obtain ⟨h0, h1, h2, h3, ab, ap, hb⟩ := hcut
      obtain ⟨v3, hv⟩ : ∃ x, x = wc := ⟨_, rfl⟩
      rw [← hv] at ab hb ⊢
      clear hv wc AB AP BL HCH
      have AB := Lib.hid ab
      have AP := Lib.hid ap
      have BL := Lib.hid hb
      clear ab ap hb
      have VA : Hid (PlanV v3 v3.heap.size (.agg #[.int .i64 a.ver, .int .i64 a.par, u2, u3, u4, u5]) a) := Lib.hid ⟨_, _, _, _, rfl, (IA.out.below (BL.out.mono PL.out)).more (Nat.le_trans PQ.out BL.out.size)⟩
      have VB : Hid (PlanV v3 v3.heap.size (.agg #[.int .i64 b.ver, .int .i64 b.par, z2, z3, z4, z5]) b) := Lib.hid ⟨_, _, _, _, rfl, (IB.out.below (BL.out.mono PL.out)).more (Nat.le_trans PQ.out BL.out.size)⟩
      obtain ⟨k0, k1, k2, k3, k4, k5⟩ := cell6_of ((BL.out.block _ PLT.out.1).trans X0.out)
      obtain ⟨l0, l1, l2, l3, l4, l5⟩ := cell6_of ((BL.out.block _ PLT.out.2).trans X1.out)
      have hI := ris13_any (.agg #[.int .i64 a.ver, .int .i64 a.par, u2, u3, u4, u5]) (.agg #[.int .i64 b.ver, .int .i64 b.par, z2, z3, z4, z5]) a b 4 ((i : Int) + 1) v3 VA.out VB.out
      obtain ⟨iv, hiv⟩ : ∃ x, x = isV a b 4 ((i : Int) + 1) := ⟨_, rfl⟩
      have HCH : Hid (decide (0 < iv) = chB a b 4 ((i : Int) + 1)) := Lib.hid (by rw [hiv]; exact ch_isV a b _ (by omega))
      rw [← hiv] at hI
      clear hiv VA VB
      go_upto_if 66 with (go_at_call 102; refine hI.mono ?_; rintro e v4_ ⟨rfl, bi⟩; have AB2 := Lib.hid (AB.out.below bi); have BL2 := Lib.hid (BL.out.trans (bi.mono (Nat.le_trans PX.out BL.out.size))); clear AB BL bi hI k0 k1 k2 k3 k4 k5 l0 l1 l2 l3 l4 l5)
      have AB := AB2
      have BL := BL2
      clear AB2 BL2
      have HSN := Lib.hid (idsTo_snoc (chB a b 4) i)
      cases hc : chB a b 4 ((i : Int) + 1) with
      | false =>
       have d1 : ¬ (0 < iv) := of_decide_eq_false (HCH.out.trans hc)
       have HS : Hid (idsTo (chB a b 4) (i + 1) = idsTo (chB a b 4) i) := Lib.hid (by rw [HSN.out, hc]; rfl)
       clear HCH hc HSN
       go_wp2_with fail
       go_roundw
       case measure => simp [intOf]; omega
       case rel => exact ⟨i + 1, by go_num, by omega, _, _, _, _, by rw [HS.out]; exact AB.out, AP.out, BL.out⟩
      | true =>
       have d1 : 0 < iv := of_decide_eq_true (HCH.out.trans hc)
       have HS : Hid (idsTo (chB a b 4) (i + 1) = idsTo (chB a b 4) i ++ [(i : Int) + 1]) := Lib.hid (by rw [HSN.out, hc]; rfl)
       clear HCH hc HSN
       obtain ⟨A3, n3, c3, rfl⟩ := own_sl AB.out.own.routes
       have HN : Hid (n3 = (idsTo (chB a b 4) i).length) := Lib.hid (own_len AB.out.own.routes)
       have hn9 : n3 ≤ 99 := by rw [HN.out]; exact Nat.le_trans (idsTo_len _ _) (by omega)
       obtain ⟨f0, f1, f2, f3⟩ := cell4A AB.out.row
       go_wp2_with ((with_reducible show wpList _ _ _ (⟨some 71, _, _, _, _, _⟩ :: _) _ _); refine wpList_append_at (W := v4_) rfl (.tmp 68) (.tmp 70) rfl slI14 intR (fun _ h _ _ => h) rfl rfl AB.out.own.routes HN.out (ys := [.int .i64 ((i : Int) + 1)]) (x := (i : Int) + 1) rfl (by simp [Value.oneCell']) rfl (by omega) AB.out.size ?_; intro A6 c6 w6 ho6 hg6 he6; have hadd := AB.out.add3 AP.out (below_new v4_ _) ho6 hg6 he6; have hrow6 := row_grown (AB.out.own.routes.below intR (below_new v4_ _)) hg6 ((heap_alloc_lt v4_ _ AB.out.lt).trans AB.out.row); have HADD := Lib.hid hadd; obtain ⟨y0, y1, y2, y3⟩ := cell4A hrow6; have fz := frozen2_of hrow6 3; clear hadd ho6 hg6 he6 AB AP f0 f1 f2 f3)
       go_roundw
       case measure => simp [intOf]; omega
       case rel => exact ⟨i + 1, by go_num, by omega, _, _, _, _, by rw [HS.out]; exact HADD.out.1, HADD.out.2.1, BL.out.trans HADD.out.2.2⟩
  ·obtain rfl : i = 99 := by omega
   obtain ⟨A0, n0, c0, rfl⟩ := own_sl AB.out.own.secs
   obtain ⟨A1, n1, c1, rfl⟩ := own_sl AB.out.own.pts
   obtain ⟨A2, n2, c2, rfl⟩ := own_sl AB.out.own.sigs
   obtain ⟨A3, n3, c3, rfl⟩ := own_sl AB.out.own.routes
   obtain ⟨f0, f1, f2, f3⟩ := cell4A AB.out.row
   have hrow := (BL.out.block _ P4.out).trans X4.out
   have hg := grownBy_setRow wr (w.heap.size + 1 + 1) #[.slice A0 n0 c0, .slice A1 n1 c1, .slice A2 n2 c2, .slice A3 n3 c3]
   have OL : Hid (ArOwn (wr.setRow (w.heap.size + 1 + 1) #[.slice A0 n0 c0, .slice A1 n1 c1, .slice A2 n2 c2, .slice A3 n3 c3]) w.heap.size (.slice A0 n0 c0) (.slice A1 n1 c1) (.slice A2 n2 c2) (.slice A3 n3 c3) (arOf (chB a b))) := Lib.hid ((AB.out.own.mono (Nat.le_succ_of_le PL.out)).off hg ⟨_, hrow⟩)
   have BE : Hid (Below w.heap.size w (wr.setRow (w.heap.size + 1 + 1) #[.slice A0 n0 c0, .slice A1 n1 c1, .slice A2 n2 c2, .slice A3 n3 c3])) := Lib.hid ((BQ.out.trans (BL.out.mono PL.out)).trans (gb_low14 hg (by omega) (Nat.le_trans PQ.out BL.out.size)))
   have XE := setRow_heap wr _ _ #[.slice A0 n0 c0, .slice A1 n1 c1, .slice A2 n2 c2, .slice A3 n3 c3] _ _ hrow
   go_wp2_with ((with_reducible show wpList _ _ _ (⟨none, _, _, _, _, _⟩ :: _) _ _); refine wpList_store_rowS rfl _ (.tmp 4) (.tmp 73) rfl (w.heap.size + 1 + 1) rfl (c' := #[.slice A0 n0 c0, .slice A1 n1 c1, .slice A2 n2 c2, .slice A3 n3 c3]) rfl hrow infoArea4 rfl (by simp [Value.oneCell']) ?_)
   refine bodyPost_ret (results_cell_row rfl _ _ (w.heap.size + 1 + 1) 24 #[.slice A0 n0 c0, .slice A1 n1 c1, .slice A2 n2 c2, .slice A3 n3 c3] (0, 0) _ rfl XE Tryz.underlying24 rfl infoArea4) rfl ⟨_, _, _, _, rfl, OL.out, BE.out⟩
end Go.Proofs.YtneeocnjfnneoaaGreat
