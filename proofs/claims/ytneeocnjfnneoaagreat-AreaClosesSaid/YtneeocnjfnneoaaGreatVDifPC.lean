/-
 The program's package diff: a plan's elements.
 Conditions: none.
-/
import Derived.Test.YtneeocnjfnneoaaGreatVGDifPA
set_option linter.unusedVariables false
set_option linter.unusedSimpArgs false
set_option maxRecDepth 100000
namespace Go.Proofs.YtneeocnjfnneoaaGreat
open Go.RowKit

theorem wp_update13 {P : Program} {k : TypeId} {o : Oper} {a : Act} {w : World} {K : Act → World → Prop} {Q : Exit → Act → World → Prop} (m x v : Operand) (t e : TypeId) (hop : o.op = Op.mapUpdate t m x v) (KT : KeyT P k) (ht : P.underlying t = some (.map k e)) (b : Nat) (es : Ents) (y : K13) (u : Value)
  (hm : a.eval m = .map (some b)) (hx : a.eval x = keyV y) (hv : a.eval v = u) (hb : MapB w b es) (hK : ∀ w', MapB w' b (putE es y u) → w.grownBy w' (some b) → w'.heap.size = w.heap.size → K (a.put o.dst undef) w') : o.wp P a w K Q := by
 obtain ⟨w', hrun, r1, r2, r3⟩ := run_update13 KT ht hb y u
 unfold Oper.wp
 simp [execOp, hop, hm, hx, hv, hrun, Result.andThen]
 exact hK w' r1 r2 r3
theorem run_equalIn_agg13 (a b c d : Int) (w : World) : (Op.equalIn 10000 102 (.agg #[.int .u8 a, .int .i64 b]) (.agg #[.int .u8 c, .int .i64 d])).run Tryz.prog w = .ok ((a == c) && (b == d)) w := by
 have hagg : (isAgg 3).run Tryz.prog w = .ok false w := by
  unfold isAgg
  rw [Sem.run_bind, run_underlying Tryz.underlying3 w]
  simp
 have hagg8 : (isAgg 5).run Tryz.prog w = .ok false w := by
  unfold isAgg
  rw [Sem.run_bind, run_underlying Tryz.underlying5 w]
  simp
 rw [run_equalIn_agg w 9999 102 _ _ (by rw [Program.fieldsOf, Tryz.underlying102]) (by kernel_rfl)]
 simp only [Program.fieldsOf, Tryz.underlying102, Op.eqFields]
 have hi : ∀ x y : Int, (Op.equalIn 9999 3 (.int .i64 x) (.int .i64 y)).run Tryz.prog w = .ok (x == y) w := fun x y => run_equalIn_int w 9998 3 .i64 .i64 x y Tryz.underlying3
 have hi8 : ∀ x y : Int, (Op.equalIn 9999 5 (.int .u8 x) (.int .u8 y)).run Tryz.prog w = .ok (x == y) w := fun x y => run_equalIn_int w 9998 5 .u8 .u8 x y Tryz.underlying5
 by_cases h1 : a = c <;> by_cases h2 : b = d <;> simp [part, Sem.run_bind, Sem.run_ite, hagg, hagg8, hi, hi8, h1, h2]
theorem checkKey_int13 {P : Program} (em : Bool) (n : Nat) (t : TypeId) {k : IntKind} (h : P.underlying t = some (.int k)) (k' : IntKind) (z : Int) (w : World) : (Instr.checkKey em (n + 1) t (.int k' z)).run P w = .ok () w := by
 simp [Instr.checkKey, run_underlying h]
theorem keyT13 : KeyT Tryz.prog 102 where
 desc := ⟨_, Tryz.underlying102⟩
 eq x y w := by
  have h := run_equalIn_agg13 x.1 x.2 y.1 y.2 w
  have e : (Op.equal 102 (keyV x) (keyV y)).run Tryz.prog w = .ok ((x.1 == y.1) && (x.2 == y.2)) w := h
  rw [e]
  congr 1
  rw [Bool.eq_iff_iff]
  simp [Prod.ext_iff]
 check em x w := by
  have h1 : ∀ z, (Instr.checkKey em 9999 5 (.int .u8 z)).run Tryz.prog w = .ok () w := fun z => checkKey_int13 em 9998 5 Tryz.underlying5 .u8 z w
  have h2 : ∀ z, (Instr.checkKey em 9999 3 (.int .i64 z)).run Tryz.prog w = .ok () w := fun z => checkKey_int13 em 9998 3 Tryz.underlying3 .i64 z w
  have hagg : (isAgg 3).run Tryz.prog w = .ok false w := by
   unfold isAgg
   rw [Sem.run_bind, run_underlying Tryz.underlying3 w]
   simp
  have hagg8 : (isAgg 5).run Tryz.prog w = .ok false w := by
   unfold isAgg
   rw [Sem.run_bind, run_underlying Tryz.underlying5 w]
   simp
  unfold keyV
  rw [show (10000 : Nat) = 9999 + 1 from rfl, Instr.checkKey]
  simp [run_underlying Tryz.underlying102, part, Sem.run_bind, Sem.run_ite, hagg, hagg8, h1, h2]
theorem take_snoc13 {α : Type} {x : List α} {i : Nat} (hi : i < x.length) : x.take (i + 1) = x.take i ++ [x[i]] := by simp
/-- A list of one element, just made. -/
theorem one_list {α : Type} {sz : Nat} {R : El α} {W : World} {B p : Nat} {T : TypeId} {row : List Value} {x : α} (h : W.heap[p]? = some (.cells row.toArray T (0, 0))) (hx : R W B (fun k => row[k]?) x) (hlt : p < B) : ListIn sz R W B (.slice (some ⟨p, 0, none⟩) 1 1) [x] := by
 refine ⟨some ⟨p, 0, none⟩, 1, rfl, Nat.le_refl _, by unfold maxLen; omega, fun e => (by cases e), fun _ => ⟨p, 0, rfl, hlt, fun j hj => ?_⟩⟩
 have hj0 : j = 0 := by simpa using hj
 subst hj0
 have e : (fun k => W.cell? ⟨p, 0 + 0 * sz + k, none⟩) = fun k => row[k]? := funext fun k => by simp [World.cell?, h]
 rw [e]
 exact hx
set_option maxHeartbeats 16000000 in
theorem elements_any (v : Value) (p : Pl) (w : World) (h : PlanV w w.heap.size v p) (hmay : PlanMay p) :
  Calls Tryz.prog 88 #[v] w fun e w' => ∃ b, e = .returned (.map (some b)) ∧ (∃ es, ElMap w' w'.heap.size b p (allK p) es) ∧ w.heap.size ≤ b ∧ Below w.heap.size w w' := by
 have HM := Lib.hid hmay
 clear hmay
 obtain ⟨A2, c2, A3, c3, A4, c4, A5, c5, n2, n3, n4, n5, rfl, hm2, hm3, hm4, hm5, HCP, HIN, HN⟩ := open_plan h
 have hq0 := heap_alloc_self w (.cells #[.int .i64 p.ver, .int .i64 p.par, .slice A2 n2 c2, .slice A3 n3 c3, .slice A4 n4 c4, .slice A5 n5 c5] 33)
 have hqb := below_new w (.cells #[.int .i64 p.ver, .int .i64 p.par, .slice A2 n2 c2, .slice A3 n3 c3, .slice A4 n4 c4, .slice A5 n5 c5] 33)
 go_enter Tryz.func88, Tryz.ntmps88
 go_upto_region 1 with fail
 generalize w.alloc (.cells #[.int .i64 p.ver, .int .i64 p.par, .slice A2 n2 c2, .slice A3 n3 c3, .slice A4 n4 c4, .slice A5 n5 c5] 33) = q at hq0 hqb ⊢
 have XP := Lib.hid hq0
 have BQ := Lib.hid hqb
 clear hq0 hqb
 have hmm := @run_makeMap Tryz.prog
 go_upto_region 2 with fail
 have tM : MapB (q.alloc (.map #[] 0)) q.heap.size [] := MapB.new q
 have tP := (heap_alloc_lt q (.map #[] 0) (heap_lt XP.out)).trans XP.out
 have tB := BQ.out.alloc BQ.out.size (.map #[] 0)
 have LM : Hid (w.heap.size ≤ q.heap.size) := Lib.hid BQ.out.size
 generalize q.alloc (.map #[] 0) = q0 at tM tP tB ⊢
 generalize q.heap.size = mb at tM LM ⊢
 have EM : Hid (ElMap q0 q0.heap.size mb p [] []) := Lib.hid ⟨tM, by simp [KeysNd], by simp, by simp⟩
 have XB := Lib.hid tP
 have BW := Lib.hid tB
 clear tM tP tB XP BQ hmm
 obtain ⟨k0, k1, k2, k3, k4, k5⟩ := cell6_of XB.out
 go_wp2_with fail
 clear k0 k1 k2 k3 k4 k5
 go_loopw [16] (fun s16 wr => ∃ (i : Nat) (es : Ents), s16 = .int .i64 i ∧ i ≤ n2 ∧ wr.heap[w.heap.size]? = some (.cells #[.int .i64 p.ver, .int .i64 p.par, .slice A2 n2 c2, .slice A3 n3 c3, .slice A4 n4 c4, .slice A5 n5 c5] 33 (0, 0)) ∧ ElMap wr wr.heap.size mb p ((ksP p 1).take i) es ∧ Below w.heap.size w wr) (fun s16 _ => n2 - (intOf s16).toNat)
 case atStart => exact ⟨0, _, by go_num, by omega, XB.out, by rw [List.take_zero]; exact EM.out, BW.out⟩
 case round =>
  obtain ⟨i, es, rfl, hi, hxb, hem, hb⟩ := hrel
  have XBr := Lib.hid hxb
  have EMr := Lib.hid hem
  have BWr := Lib.hid hb
  clear hxb hem hb XB EM BW
  have XB := XBr
  have EM := EMr
  have BW := BWr
  clear XBr EMr BWr
  by_cases hlt : i < n2
  ·have hlt' : (i : Int) < n2 := by omega
   have hir : i < p.secs.length := by rw [← HN.out.1]; exact hlt
   obtain ⟨bk, off, rfl, hbk, hc0, hc1, u, hc2, hu⟩ := (((HIN.out.secs.below secR_ BW.out).more secR_ BW.out.size)).at hir
   obtain ⟨a, b, es_, hx⟩ : ∃ a b c, p.secs[i] = (a, b, c) := ⟨_, _, _, rfl⟩
   have HX := Lib.hid hx
   rw [hx] at hc0 hc1 hu
   dsimp only at hu
   obtain ⟨U, uc, rfl, -, -⟩ := hu.slice
   obtain ⟨un, hun⟩ : ∃ n, n = es_.length := ⟨_, rfl⟩
   have HV : Hid (JoinsIn wr wr.heap.size (.slice U un uc) es_) := Lib.hid (by rw [hun]; exact hu)
   rw [← hun] at hc2
   clear hun hu
   have hg0 : wr.cell? ⟨bk, off + i * 3, none⟩ = some (.int .i64 a) := hc0
   have hg1 : wr.cell? ⟨bk, off + i * 3 + 1, none⟩ = some (.int .i64 b) := hc1
   have hg2 : wr.cell? ⟨bk, off + i * 3 + 2, none⟩ = some (.slice U un uc) := hc2
   clear hc0 hc1 hc2 hx hbk
   obtain ⟨q1, hq⟩ : ∃ q_, q_ = wr.alloc (.cells #[.int .i64 a, .int .i64 b, .slice U un uc] 67) := ⟨_, rfl⟩
   have x1 := heap_alloc_self wr (.cells #[.int .i64 a, .int .i64 b, .slice U un uc] 67)
   have b1 := below_new wr (.cells #[.int .i64 a, .int .i64 b, .slice U un uc] 67)
   rw [← hq] at x1 b1
   go_upto_region 5 with fail
   rw [← hq]
   have X1 := Lib.hid x1
   have B1 := Lib.hid (BW.out.trans (b1.mono BW.out.size))
   generalize wr.heap.size = p1 at X1 ⊢
   clear hq hg0 hg1 hg2
   clear x1
   have tP := (b1.block _ (heap_lt XB.out)).trans XB.out
   have tE := (EM.out.below (Nat.le_refl _) b1).more b1.size
   have HVn := (HV.out.below joinR b1).more joinR b1.size
   clear HV
   have HV := Lib.hid HVn
   clear HVn
   clear XB EM b1
   have XB := Lib.hid tP
   have EM := Lib.hid tE
   clear tP tE
   have SD : Below q1.heap.size q1 q1.drew := (Below.refl q1.heap.size q1).drew
   refine wp_region_held_drew (S := fun v => v.heap[p1]? = some (.cells #[.int .i64 a, .int .i64 b, .slice U un uc] 67 (0, 0))) (by kernel_rfl) ((SD.block _ (heap_lt X1.out)).trans X1.out) (fun hHeld => ?_)
   refine tk 0 hHeld ?_;refine tk 1 hHeld ?_;refine tkc 2 hHeld (fun w' hSw => cell3_of hSw) ?_;refine tk 3 hHeld ?_;refine tkc 4 hHeld (fun w' hSw => cell3_of hSw) ?_
   have tX := (SD.block _ (heap_lt X1.out)).trans X1.out
   have tB := B1.out.trans (SD.mono B1.out.size)
   have tP := (SD.block _ (heap_lt XB.out)).trans XB.out
   have tE := (EM.out.below (Nat.le_refl _) SD).more SD.size
   have HVn := (HV.out.below joinR SD).more joinR SD.size
   generalize q1.drew = q2 at tX tB tP tE HVn hHeld ⊢
   clear X1 B1 XB EM SD
   have X1 := Lib.hid tX
   have B1 := Lib.hid tB
   have XB := Lib.hid tP
   have EM := Lib.hid tE
   clear tX tB tP tE
   clear HV
   have HV := Lib.hid HVn
   clear HVn
   refine tkr 5 (fun K hK => ?_)
   go_simp
   have tn := below_new q2 (.cells #[.int .i64 a, .int .i64 b, .slice U un uc] 67)
   have tS := heap_alloc_self q2 (.cells #[.int .i64 a, .int .i64 b, .slice U un uc] 67)
   have tX := (tn.block _ (heap_lt X1.out)).trans X1.out
   have tB := B1.out.trans (tn.mono B1.out.size)
   have tP := (tn.block _ (heap_lt XB.out)).trans XB.out
   have tE := (EM.out.below (Nat.le_refl _) tn).more tn.size
   have HVn := (HV.out.below joinR tn).more joinR tn.size
   refine hK.out _ _ ?_ fun hHeld => ?_;exact tX;clear hK K;try simp only [zn, Act.put]
   generalize q2.alloc (.cells #[.int .i64 a, .int .i64 b, .slice U un uc] 67) = q3 at tn tS tX tB tP tE HVn hHeld ⊢
   obtain ⟨p2, hp2⟩ : ∃ n, n = q2.heap.size := ⟨_, rfl⟩
   rw [← hp2] at tS ⊢
   clear X1 B1 XB EM tn hp2
   have X1 := Lib.hid tX
   have B1 := Lib.hid tB
   have XB := Lib.hid tP
   have EM := Lib.hid tE
   have XS := Lib.hid tS
   clear tX tB tP tE tS
   clear HV
   have HV := Lib.hid HVn
   clear HVn
   refine tk 6 hHeld ?_
   refine tkr 7 (fun K hK => ?_)
   go_simp
   refine (only_any (.slice (some ⟨p2, 0, none⟩) 1 1) (.slice none 0 0) (.slice none 0 0) (.slice none 0 0) q3 rfl rfl rfl rfl).mono ?_
   rintro e q4 ⟨rfl, hB, hlB, bY⟩
   have HPL : Hid (PlIn q4 q4.heap.size (.slice (some ⟨p2, 0, none⟩) 1 1) (.slice none 0 0) (.slice none 0 0) (.slice none 0 0) (aloneP (.sec (a, b, es_)))) := Lib.hid (PlIn.more (PlIn.below (show PlIn q3 q3.heap.size (.slice (some ⟨p2, 0, none⟩) 1 1) (.slice none 0 0) (.slice none 0 0) (.slice none 0 0) (aloneP (.sec (a, b, es_))) from by have HV2 := HV; exact ⟨one_list (x := (a, b, es_)) XS.out ⟨rfl, rfl, _, rfl, HV2.out⟩ (heap_lt XS.out), ListIn.nil_, ListIn.nil_, ListIn.nil_⟩) bY) bY.size)
   have HEL : Hid (ElemV q4 q4.heap.size (.agg #[.int .i64 0, .int .i64 0, .slice (some ⟨p2, 0, none⟩) 1 1, .slice none 0 0, .slice none 0 0, .slice none 0 0, fnV q3.heap.size]) (elK p (1, a))) := Lib.hid (by
    have h := el_sec (may_rising HM.out) hir
    rw [HX.out] at h
    rw [show elK p (1, a) = .sec (a, b, es_) from h]
    exact ⟨_, _, _, _, _, rfl, HPL.out, .inr ⟨by simp, _, rfl, hlB, hB⟩⟩)
   have tX := (bY.block _ (heap_lt X1.out)).trans X1.out
   have tB := B1.out.trans (bY.mono B1.out.size)
   have tP := (bY.block _ (heap_lt XB.out)).trans XB.out
   have tE := (EM.out.below (Nat.le_refl _) bY).more bY.size
   clear X1 B1 XB EM bY hB hlB HPL XS HV
   have X1 := Lib.hid tX
   have B1 := Lib.hid tB
   have XB := Lib.hid tP
   have EM := Lib.hid tE
   clear tX tB tP tE
   try go_wp2_with fail
   refine hK.out _ _ ?_ fun hHeld => ?_;exact X1.out;clear hK K;try simp only [zn, Act.put]
   refine tkr 8 (fun K hK => ?_)
   refine wp_update13 (.tmp 20) (.tmp 23) (.tmp 27) 135 108 rfl keyT13 Tryz.underlying135 mb es (1, a) _ rfl rfl rfl EM.out.map ?_
   intro q5 hm5 hg5 hs5
   have NE : mb ≠ p1 := fun e => by
    have h1 : q4.heap[mb]? = _ := EM.out.map
    rw [e, X1.out] at h1
    cases h1
   have NB : mb ≠ w.heap.size := fun e => by
    have h1 : q4.heap[mb]? = _ := EM.out.map
    rw [e, XB.out] at h1
    cases h1
   have tX := (hg5.block p1 (heap_lt X1.out) (fun e => NE (by injection e with e; exact e.symm))).trans X1.out
   have tP := (hg5.block w.heap.size (heap_lt XB.out) (fun e => NB (by injection e with e; exact e.symm))).trans XB.out
   have tB := B1.out.grown hg5 B1.out.size (fun k e => by cases e; exact LM.out)
   have tE := EM.out.put (1, a) _ hm5 hg5 HEL.out
   refine hK.out _ _ ?_ fun hHeld => ?_;exact tX;clear hK K;try simp only [zn, Act.put]
   refine wpAnyH_done (by kernel_rfl) ?_ _
   clear X1 B1 XB EM hm5 hg5 hs5 HEL NE NB tX
   have B1 := Lib.hid tB
   have XB := Lib.hid tP
   have EM := Lib.hid tE
   clear tB tP tE
   go_wp2_with fail
   go_roundw
   case measure => simp [intOf]; omega
   case rel =>
    have hk : i < (ksP p 1).length := by simp [ksP, keysD]; exact hir
    have e : (ksP p 1)[i] = (1, a) := by simp [ksP, keysD, HX.out]
    have h2 : (ksP p 1).take (i + 1) = ((ksP p 1).take i) ++ [(1, a)] := by rw [take_snoc13 hk, e]
    have hE := EM.out
    rw [← h2] at hE
    exact ⟨i + 1, _, by go_num, by omega, XB.out, hE, B1.out⟩
  ·obtain rfl : n2 = i := by omega
   have hlt' : ¬ (n2 : Int) < n2 := by omega
   have tE : ElMap wr wr.heap.size mb p (ksP p 1) es := by
    have h := EM.out
    have hk : (ksP p 1).take n2 = ksP p 1 := List.take_of_length_le (by rw [HN.out.1]; simp [ksP, keysD])
    rw [hk] at h
    exact h
   clear EM
   have EM := Lib.hid tE
   clear tE
   obtain ⟨k0, k1, k2, k3, k4, k5⟩ := cell6_of XB.out
   go_wp2_with fail
   clear k0 k1 k2 k3 k4 k5
   go_loopw [32] (fun s32 wr => ∃ (i : Nat) (es : Ents), s32 = .int .i64 i ∧ i ≤ n3 ∧ wr.heap[w.heap.size]? = some (.cells #[.int .i64 p.ver, .int .i64 p.par, .slice A2 n2 c2, .slice A3 n3 c3, .slice A4 n4 c4, .slice A5 n5 c5] 33 (0, 0)) ∧ ElMap wr wr.heap.size mb p (ksP p 1 ++ (ksP p 2).take i) es ∧ Below w.heap.size w wr) (fun s32 _ => n3 - (intOf s32).toNat)
   case atStart => exact ⟨0, _, by go_num, by omega, XB.out, by rw [List.take_zero, List.append_nil]; exact EM.out, BW.out⟩
   case round =>
    obtain ⟨i, es, rfl, hi, hxb, hem, hb⟩ := hrel
    have XBr := Lib.hid hxb
    have EMr := Lib.hid hem
    have BWr := Lib.hid hb
    clear hxb hem hb XB EM BW
    have XB := XBr
    have EM := EMr
    have BW := BWr
    clear XBr EMr BWr
    by_cases hlt : i < n3
    ·have hlt' : (i : Int) < n3 := by omega
     have hir : i < p.pts.length := by rw [← HN.out.2.1]; exact hlt
     obtain ⟨bk, off, rfl, hbk, hc0, hc1⟩ := (((HIN.out.pts.below joinR BW.out).more joinR BW.out.size)).at hir
     obtain ⟨a, b, hx⟩ : ∃ a b, p.pts[i] = (a, b) := ⟨_, _, rfl⟩
     have HX := Lib.hid hx
     rw [hx] at hc0 hc1
     have hg0 : wr.cell? ⟨bk, off + i * 2, none⟩ = some (.int .i64 a) := hc0
     have hg1 : wr.cell? ⟨bk, off + i * 2 + 1, none⟩ = some (.int .i64 b) := hc1
     clear hc0 hc1 hx hbk
     obtain ⟨q1, hq⟩ : ∃ q_, q_ = wr.alloc (.cells #[.int .i64 a, .int .i64 b] 60) := ⟨_, rfl⟩
     have x1 := heap_alloc_self wr (.cells #[.int .i64 a, .int .i64 b] 60)
     have b1 := below_new wr (.cells #[.int .i64 a, .int .i64 b] 60)
     rw [← hq] at x1 b1
     go_upto_region 10 with fail
     rw [← hq]
     have X1 := Lib.hid x1
     have B1 := Lib.hid (BW.out.trans (b1.mono BW.out.size))
     generalize wr.heap.size = p1 at X1 ⊢
     clear hq hg0 hg1
     clear x1
     have tP := (b1.block _ (heap_lt XB.out)).trans XB.out
     have tE := (EM.out.below (Nat.le_refl _) b1).more b1.size
     clear XB EM b1
     have XB := Lib.hid tP
     have EM := Lib.hid tE
     clear tP tE
     have SD : Below q1.heap.size q1 q1.drew := (Below.refl q1.heap.size q1).drew
     refine wp_region_held_drew (S := fun v => v.heap[p1]? = some (.cells #[.int .i64 a, .int .i64 b] 60 (0, 0))) (by kernel_rfl) ((SD.block _ (heap_lt X1.out)).trans X1.out) (fun hHeld => ?_)
     refine tk 0 hHeld ?_;refine tk 1 hHeld ?_;refine tkc 2 hHeld (fun w' hSw => cell2_of hSw) ?_;refine tk 3 hHeld ?_;refine tkc 4 hHeld (fun w' hSw => cell2_of hSw) ?_
     have tX := (SD.block _ (heap_lt X1.out)).trans X1.out
     have tB := B1.out.trans (SD.mono B1.out.size)
     have tP := (SD.block _ (heap_lt XB.out)).trans XB.out
     have tE := (EM.out.below (Nat.le_refl _) SD).more SD.size
     generalize q1.drew = q2 at tX tB tP tE hHeld ⊢
     clear X1 B1 XB EM SD
     have X1 := Lib.hid tX
     have B1 := Lib.hid tB
     have XB := Lib.hid tP
     have EM := Lib.hid tE
     clear tX tB tP tE
     refine tkr 5 (fun K hK => ?_)
     go_simp
     have tn := below_new q2 (.cells #[.int .i64 a, .int .i64 b] 60)
     have tS := heap_alloc_self q2 (.cells #[.int .i64 a, .int .i64 b] 60)
     have tX := (tn.block _ (heap_lt X1.out)).trans X1.out
     have tB := B1.out.trans (tn.mono B1.out.size)
     have tP := (tn.block _ (heap_lt XB.out)).trans XB.out
     have tE := (EM.out.below (Nat.le_refl _) tn).more tn.size
     refine hK.out _ _ ?_ fun hHeld => ?_;exact tX;clear hK K;try simp only [zn, Act.put]
     generalize q2.alloc (.cells #[.int .i64 a, .int .i64 b] 60) = q3 at tn tS tX tB tP tE hHeld ⊢
     obtain ⟨p2, hp2⟩ : ∃ n, n = q2.heap.size := ⟨_, rfl⟩
     rw [← hp2] at tS ⊢
     clear X1 B1 XB EM tn hp2
     have X1 := Lib.hid tX
     have B1 := Lib.hid tB
     have XB := Lib.hid tP
     have EM := Lib.hid tE
     have XS := Lib.hid tS
     clear tX tB tP tE tS
     refine tk 6 hHeld ?_
     refine tkr 7 (fun K hK => ?_)
     go_simp
     refine (only_any (.slice none 0 0) (.slice (some ⟨p2, 0, none⟩) 1 1) (.slice none 0 0) (.slice none 0 0) q3 rfl rfl rfl rfl).mono ?_
     rintro e q4 ⟨rfl, hB, hlB, bY⟩
     have HPL : Hid (PlIn q4 q4.heap.size (.slice none 0 0) (.slice (some ⟨p2, 0, none⟩) 1 1) (.slice none 0 0) (.slice none 0 0) (aloneP (.pt (a, b)))) := Lib.hid (PlIn.more (PlIn.below (show PlIn q3 q3.heap.size (.slice none 0 0) (.slice (some ⟨p2, 0, none⟩) 1 1) (.slice none 0 0) (.slice none 0 0) (aloneP (.pt (a, b))) from ⟨ListIn.nil_, one_list (x := (a, b)) XS.out ⟨rfl, rfl⟩ (heap_lt XS.out), ListIn.nil_, ListIn.nil_⟩) bY) bY.size)
     have HEL : Hid (ElemV q4 q4.heap.size (.agg #[.int .i64 0, .int .i64 0, .slice none 0 0, .slice (some ⟨p2, 0, none⟩) 1 1, .slice none 0 0, .slice none 0 0, fnV q3.heap.size]) (elK p (2, a))) := Lib.hid (by
      have h := el_pt (may_rising HM.out) hir
      rw [HX.out] at h
      rw [show elK p (2, a) = .pt (a, b) from h]
      exact ⟨_, _, _, _, _, rfl, HPL.out, .inr ⟨by simp, _, rfl, hlB, hB⟩⟩)
     have tX := (bY.block _ (heap_lt X1.out)).trans X1.out
     have tB := B1.out.trans (bY.mono B1.out.size)
     have tP := (bY.block _ (heap_lt XB.out)).trans XB.out
     have tE := (EM.out.below (Nat.le_refl _) bY).more bY.size
     clear X1 B1 XB EM bY hB hlB HPL XS 
     have X1 := Lib.hid tX
     have B1 := Lib.hid tB
     have XB := Lib.hid tP
     have EM := Lib.hid tE
     clear tX tB tP tE
     try go_wp2_with fail
     refine hK.out _ _ ?_ fun hHeld => ?_;exact X1.out;clear hK K;try simp only [zn, Act.put]
     refine tkr 8 (fun K hK => ?_)
     refine wp_update13 (.tmp 36) (.tmp 39) (.tmp 43) 135 108 rfl keyT13 Tryz.underlying135 mb es (2, a) _ rfl rfl rfl EM.out.map ?_
     intro q5 hm5 hg5 hs5
     have NE : mb ≠ p1 := fun e => by
      have h1 : q4.heap[mb]? = _ := EM.out.map
      rw [e, X1.out] at h1
      cases h1
     have NB : mb ≠ w.heap.size := fun e => by
      have h1 : q4.heap[mb]? = _ := EM.out.map
      rw [e, XB.out] at h1
      cases h1
     have tX := (hg5.block p1 (heap_lt X1.out) (fun e => NE (by injection e with e; exact e.symm))).trans X1.out
     have tP := (hg5.block w.heap.size (heap_lt XB.out) (fun e => NB (by injection e with e; exact e.symm))).trans XB.out
     have tB := B1.out.grown hg5 B1.out.size (fun k e => by cases e; exact LM.out)
     have tE := EM.out.put (2, a) _ hm5 hg5 HEL.out
     refine hK.out _ _ ?_ fun hHeld => ?_;exact tX;clear hK K;try simp only [zn, Act.put]
     refine wpAnyH_done (by kernel_rfl) ?_ _
     clear X1 B1 XB EM hm5 hg5 hs5 HEL NE NB tX
     have B1 := Lib.hid tB
     have XB := Lib.hid tP
     have EM := Lib.hid tE
     clear tB tP tE
     go_wp2_with fail
     go_roundw
     case measure => simp [intOf]; omega
     case rel =>
      have hk : i < (ksP p 2).length := by simp [ksP, keysD]; exact hir
      have e : (ksP p 2)[i] = (2, a) := by simp [ksP, keysD, HX.out]
      have h2 : ksP p 1 ++ (ksP p 2).take (i + 1) = (ksP p 1 ++ (ksP p 2).take i) ++ [(2, a)] := by rw [take_snoc13 hk, e, ← List.append_assoc]
      have hE := EM.out
      rw [← h2] at hE
      exact ⟨i + 1, _, by go_num, by omega, XB.out, hE, B1.out⟩
    ·obtain rfl : n3 = i := by omega
     have hlt' : ¬ (n3 : Int) < n3 := by omega
     have tE : ElMap wr wr.heap.size mb p (ksP p 1 ++ ksP p 2) es := by
      have h := EM.out
      have hk : (ksP p 2).take n3 = ksP p 2 := List.take_of_length_le (by rw [HN.out.2.1]; simp [ksP, keysD])
      rw [hk] at h
      exact h
     clear EM
     have EM := Lib.hid tE
     clear tE
     obtain ⟨k0, k1, k2, k3, k4, k5⟩ := cell6_of XB.out
     go_wp2_with fail
     clear k0 k1 k2 k3 k4 k5
     go_loopw [48] (fun s48 wr => ∃ (i : Nat) (es : Ents), s48 = .int .i64 i ∧ i ≤ n4 ∧ wr.heap[w.heap.size]? = some (.cells #[.int .i64 p.ver, .int .i64 p.par, .slice A2 n2 c2, .slice A3 n3 c3, .slice A4 n4 c4, .slice A5 n5 c5] 33 (0, 0)) ∧ ElMap wr wr.heap.size mb p (ksP p 1 ++ ksP p 2 ++ (ksP p 3).take i) es ∧ Below w.heap.size w wr) (fun s48 _ => n4 - (intOf s48).toNat)
     case atStart => exact ⟨0, _, by go_num, by omega, XB.out, by rw [List.take_zero, List.append_nil]; exact EM.out, BW.out⟩
     case round =>
      obtain ⟨i, es, rfl, hi, hxb, hem, hb⟩ := hrel
      have XBr := Lib.hid hxb
      have EMr := Lib.hid hem
      have BWr := Lib.hid hb
      clear hxb hem hb XB EM BW
      have XB := XBr
      have EM := EMr
      have BW := BWr
      clear XBr EMr BWr
      by_cases hlt : i < n4
      ·have hlt' : (i : Int) < n4 := by omega
       have hir : i < p.sigs.length := by rw [← HN.out.2.2.1]; exact hlt
       obtain ⟨bk, off, rfl, hbk, hc0, hc1, hc2⟩ := (((HIN.out.sigs.below sigR BW.out).more sigR BW.out.size)).at hir
       obtain ⟨a, b, c_, hx⟩ : ∃ a b c, p.sigs[i] = (a, b, c) := ⟨_, _, _, rfl⟩
       have HX := Lib.hid hx
       rw [hx] at hc0 hc1 hc2
       have hg0 : wr.cell? ⟨bk, off + i * 3, none⟩ = some (.int .i64 a) := hc0
       have hg1 : wr.cell? ⟨bk, off + i * 3 + 1, none⟩ = some (.int .i64 b) := hc1
       have hg2 : wr.cell? ⟨bk, off + i * 3 + 2, none⟩ = some (.int .i64 c_) := hc2
       clear hc0 hc1 hc2 hx hbk
       obtain ⟨q1, hq⟩ : ∃ q_, q_ = wr.alloc (.cells #[.int .i64 a, .int .i64 b, .int .i64 c_] 69) := ⟨_, rfl⟩
       have x1 := heap_alloc_self wr (.cells #[.int .i64 a, .int .i64 b, .int .i64 c_] 69)
       have b1 := below_new wr (.cells #[.int .i64 a, .int .i64 b, .int .i64 c_] 69)
       rw [← hq] at x1 b1
       go_upto_region 15 with fail
       rw [← hq]
       have X1 := Lib.hid x1
       have B1 := Lib.hid (BW.out.trans (b1.mono BW.out.size))
       generalize wr.heap.size = p1 at X1 ⊢
       clear hq hg0 hg1 hg2
       clear x1
       have tP := (b1.block _ (heap_lt XB.out)).trans XB.out
       have tE := (EM.out.below (Nat.le_refl _) b1).more b1.size
       clear XB EM b1
       have XB := Lib.hid tP
       have EM := Lib.hid tE
       clear tP tE
       have SD : Below q1.heap.size q1 q1.drew := (Below.refl q1.heap.size q1).drew
       refine wp_region_held_drew (S := fun v => v.heap[p1]? = some (.cells #[.int .i64 a, .int .i64 b, .int .i64 c_] 69 (0, 0))) (by kernel_rfl) ((SD.block _ (heap_lt X1.out)).trans X1.out) (fun hHeld => ?_)
       refine tk 0 hHeld ?_;refine tk 1 hHeld ?_;refine tkc 2 hHeld (fun w' hSw => cell3_of hSw) ?_;refine tk 3 hHeld ?_;refine tkc 4 hHeld (fun w' hSw => cell3_of hSw) ?_
       have tX := (SD.block _ (heap_lt X1.out)).trans X1.out
       have tB := B1.out.trans (SD.mono B1.out.size)
       have tP := (SD.block _ (heap_lt XB.out)).trans XB.out
       have tE := (EM.out.below (Nat.le_refl _) SD).more SD.size
       generalize q1.drew = q2 at tX tB tP tE hHeld ⊢
       clear X1 B1 XB EM SD
       have X1 := Lib.hid tX
       have B1 := Lib.hid tB
       have XB := Lib.hid tP
       have EM := Lib.hid tE
       clear tX tB tP tE
       refine tkr 5 (fun K hK => ?_)
       go_simp
       have tn := below_new q2 (.cells #[.int .i64 a, .int .i64 b, .int .i64 c_] 69)
       have tS := heap_alloc_self q2 (.cells #[.int .i64 a, .int .i64 b, .int .i64 c_] 69)
       have tX := (tn.block _ (heap_lt X1.out)).trans X1.out
       have tB := B1.out.trans (tn.mono B1.out.size)
       have tP := (tn.block _ (heap_lt XB.out)).trans XB.out
       have tE := (EM.out.below (Nat.le_refl _) tn).more tn.size
       refine hK.out _ _ ?_ fun hHeld => ?_;exact tX;clear hK K;try simp only [zn, Act.put]
       generalize q2.alloc (.cells #[.int .i64 a, .int .i64 b, .int .i64 c_] 69) = q3 at tn tS tX tB tP tE hHeld ⊢
       obtain ⟨p2, hp2⟩ : ∃ n, n = q2.heap.size := ⟨_, rfl⟩
       rw [← hp2] at tS ⊢
       clear X1 B1 XB EM tn hp2
       have X1 := Lib.hid tX
       have B1 := Lib.hid tB
       have XB := Lib.hid tP
       have EM := Lib.hid tE
       have XS := Lib.hid tS
       clear tX tB tP tE tS
       refine tk 6 hHeld ?_
       refine tkr 7 (fun K hK => ?_)
       go_simp
       refine (only_any (.slice none 0 0) (.slice none 0 0) (.slice (some ⟨p2, 0, none⟩) 1 1) (.slice none 0 0) q3 rfl rfl rfl rfl).mono ?_
       rintro e q4 ⟨rfl, hB, hlB, bY⟩
       have HPL : Hid (PlIn q4 q4.heap.size (.slice none 0 0) (.slice none 0 0) (.slice (some ⟨p2, 0, none⟩) 1 1) (.slice none 0 0) (aloneP (.sig (a, b, c_)))) := Lib.hid (PlIn.more (PlIn.below (show PlIn q3 q3.heap.size (.slice none 0 0) (.slice none 0 0) (.slice (some ⟨p2, 0, none⟩) 1 1) (.slice none 0 0) (aloneP (.sig (a, b, c_))) from ⟨ListIn.nil_, ListIn.nil_, one_list (x := (a, b, c_)) XS.out ⟨rfl, rfl, rfl⟩ (heap_lt XS.out), ListIn.nil_⟩) bY) bY.size)
       have HEL : Hid (ElemV q4 q4.heap.size (.agg #[.int .i64 0, .int .i64 0, .slice none 0 0, .slice none 0 0, .slice (some ⟨p2, 0, none⟩) 1 1, .slice none 0 0, fnV q3.heap.size]) (elK p (3, a))) := Lib.hid (by
        have h := el_sig (may_rising HM.out) hir
        rw [HX.out] at h
        rw [show elK p (3, a) = .sig (a, b, c_) from h]
        exact ⟨_, _, _, _, _, rfl, HPL.out, .inr ⟨by simp, _, rfl, hlB, hB⟩⟩)
       have tX := (bY.block _ (heap_lt X1.out)).trans X1.out
       have tB := B1.out.trans (bY.mono B1.out.size)
       have tP := (bY.block _ (heap_lt XB.out)).trans XB.out
       have tE := (EM.out.below (Nat.le_refl _) bY).more bY.size
       clear X1 B1 XB EM bY hB hlB HPL XS 
       have X1 := Lib.hid tX
       have B1 := Lib.hid tB
       have XB := Lib.hid tP
       have EM := Lib.hid tE
       clear tX tB tP tE
       try go_wp2_with fail
       refine hK.out _ _ ?_ fun hHeld => ?_;exact X1.out;clear hK K;try simp only [zn, Act.put]
       refine tkr 8 (fun K hK => ?_)
       refine wp_update13 (.tmp 52) (.tmp 55) (.tmp 59) 135 108 rfl keyT13 Tryz.underlying135 mb es (3, a) _ rfl rfl rfl EM.out.map ?_
       intro q5 hm5 hg5 hs5
       have NE : mb ≠ p1 := fun e => by
        have h1 : q4.heap[mb]? = _ := EM.out.map
        rw [e, X1.out] at h1
        cases h1
       have NB : mb ≠ w.heap.size := fun e => by
        have h1 : q4.heap[mb]? = _ := EM.out.map
        rw [e, XB.out] at h1
        cases h1
       have tX := (hg5.block p1 (heap_lt X1.out) (fun e => NE (by injection e with e; exact e.symm))).trans X1.out
       have tP := (hg5.block w.heap.size (heap_lt XB.out) (fun e => NB (by injection e with e; exact e.symm))).trans XB.out
       have tB := B1.out.grown hg5 B1.out.size (fun k e => by cases e; exact LM.out)
       have tE := EM.out.put (3, a) _ hm5 hg5 HEL.out
       refine hK.out _ _ ?_ fun hHeld => ?_;exact tX;clear hK K;try simp only [zn, Act.put]
       refine wpAnyH_done (by kernel_rfl) ?_ _
       clear X1 B1 XB EM hm5 hg5 hs5 HEL NE NB tX
       have B1 := Lib.hid tB
       have XB := Lib.hid tP
       have EM := Lib.hid tE
       clear tB tP tE
       go_wp2_with fail
       go_roundw
       case measure => simp [intOf]; omega
       case rel =>
        have hk : i < (ksP p 3).length := by simp [ksP, keysD]; exact hir
        have e : (ksP p 3)[i] = (3, a) := by simp [ksP, keysD, HX.out]
        have h2 : ksP p 1 ++ ksP p 2 ++ (ksP p 3).take (i + 1) = (ksP p 1 ++ ksP p 2 ++ (ksP p 3).take i) ++ [(3, a)] := by rw [take_snoc13 hk, e, ← List.append_assoc]
        have hE := EM.out
        rw [← h2] at hE
        exact ⟨i + 1, _, by go_num, by omega, XB.out, hE, B1.out⟩
      ·obtain rfl : n4 = i := by omega
       have hlt' : ¬ (n4 : Int) < n4 := by omega
       have tE : ElMap wr wr.heap.size mb p (ksP p 1 ++ ksP p 2 ++ ksP p 3) es := by
        have h := EM.out
        have hk : (ksP p 3).take n4 = ksP p 3 := List.take_of_length_le (by rw [HN.out.2.2.1]; simp [ksP, keysD])
        rw [hk] at h
        exact h
       clear EM
       have EM := Lib.hid tE
       clear tE
       obtain ⟨k0, k1, k2, k3, k4, k5⟩ := cell6_of XB.out
       go_wp2_with fail
       clear k0 k1 k2 k3 k4 k5
       go_loopw [64] (fun s64 wr => ∃ (i : Nat) (es : Ents), s64 = .int .i64 i ∧ i ≤ n5 ∧ wr.heap[w.heap.size]? = some (.cells #[.int .i64 p.ver, .int .i64 p.par, .slice A2 n2 c2, .slice A3 n3 c3, .slice A4 n4 c4, .slice A5 n5 c5] 33 (0, 0)) ∧ ElMap wr wr.heap.size mb p (ksP p 1 ++ ksP p 2 ++ ksP p 3 ++ (ksP p 4).take i) es ∧ Below w.heap.size w wr) (fun s64 _ => n5 - (intOf s64).toNat)
       case atStart => exact ⟨0, _, by go_num, by omega, XB.out, by rw [List.take_zero, List.append_nil]; exact EM.out, BW.out⟩
       case round =>
        obtain ⟨i, es, rfl, hi, hxb, hem, hb⟩ := hrel
        have XBr := Lib.hid hxb
        have EMr := Lib.hid hem
        have BWr := Lib.hid hb
        clear hxb hem hb XB EM BW
        have XB := XBr
        have EM := EMr
        have BW := BWr
        clear XBr EMr BWr
        by_cases hlt : i < n5
        ·have hlt' : (i : Int) < n5 := by omega
         have hir : i < p.routes.length := by rw [← HN.out.2.2.2]; exact hlt
         obtain ⟨bk, off, rfl, hbk, hc0, hc1, hc2, hc6, u3, u4, u5, hc3, hc4, hc5, hu⟩ := (((HIN.out.routes.below routeR BW.out).more routeR BW.out.size)).at hir
         obtain ⟨x, hx⟩ : ∃ x, p.routes[i] = x := ⟨_, rfl⟩
         have HX := Lib.hid hx
         rw [hx] at hc0 hc1 hc2 hc6 hu
         obtain ⟨U3, d3, rfl, -, -⟩ := hu.path.slice
         obtain ⟨U4, d4, rfl, -, -⟩ := hu.over.slice
         obtain ⟨U5, d5, rfl, -, -⟩ := hu.flanks.slice
         obtain ⟨m3, hm3⟩ : ∃ n, n = x.path.length := ⟨_, rfl⟩
         obtain ⟨m4, hm4⟩ : ∃ n, n = x.over.length := ⟨_, rfl⟩
         obtain ⟨m5, hm5⟩ : ∃ n, n = x.flanks.length := ⟨_, rfl⟩
         have HV : Hid (RtIn wr wr.heap.size (.slice U3 m3 d3) (.slice U4 m4 d4) (.slice U5 m5 d5) x) := Lib.hid (by rw [hm3, hm4, hm5]; exact hu)
         rw [← hm3] at hc3
         rw [← hm4] at hc4
         rw [← hm5] at hc5
         clear hm3 hm4 hm5 hu
         have hg0 : wr.cell? ⟨bk, off + i * 7, none⟩ = some (.int .i64 x.id) := hc0
         have hg1 : wr.cell? ⟨bk, off + i * 7 + 1, none⟩ = some (.int .i64 x.entry) := hc1
         have hg2 : wr.cell? ⟨bk, off + i * 7 + 2, none⟩ = some (.int .i64 x.exit) := hc2
         have hg3 : wr.cell? ⟨bk, off + i * 7 + 3, none⟩ = some (.slice U3 m3 d3) := hc3
         have hg4 : wr.cell? ⟨bk, off + i * 7 + 4, none⟩ = some (.slice U4 m4 d4) := hc4
         have hg5 : wr.cell? ⟨bk, off + i * 7 + 5, none⟩ = some (.slice U5 m5 d5) := hc5
         have hg6 : wr.cell? ⟨bk, off + i * 7 + 6, none⟩ = some (.int .i64 x.timer) := hc6
         clear hc0 hc1 hc2 hc3 hc4 hc5 hc6 hx hbk
         obtain ⟨q1, hq⟩ : ∃ q_, q_ = wr.alloc (.cells #[.int .i64 x.id, .int .i64 x.entry, .int .i64 x.exit, .slice U3 m3 d3, .slice U4 m4 d4, .slice U5 m5 d5, .int .i64 x.timer] 54) := ⟨_, rfl⟩
         have x1 := heap_alloc_self wr (.cells #[.int .i64 x.id, .int .i64 x.entry, .int .i64 x.exit, .slice U3 m3 d3, .slice U4 m4 d4, .slice U5 m5 d5, .int .i64 x.timer] 54)
         have b1 := below_new wr (.cells #[.int .i64 x.id, .int .i64 x.entry, .int .i64 x.exit, .slice U3 m3 d3, .slice U4 m4 d4, .slice U5 m5 d5, .int .i64 x.timer] 54)
         rw [← hq] at x1 b1
         go_upto_region 20 with fail
         rw [← hq]
         have X1 := Lib.hid x1
         have B1 := Lib.hid (BW.out.trans (b1.mono BW.out.size))
         generalize wr.heap.size = p1 at X1 ⊢
         clear hq hg0 hg1 hg2 hg3 hg4 hg5 hg6
         clear x1
         have tP := (b1.block _ (heap_lt XB.out)).trans XB.out
         have tE := (EM.out.below (Nat.le_refl _) b1).more b1.size
         have HVn := (HV.out.below b1).more b1.size
         clear HV
         have HV := Lib.hid HVn
         clear HVn
         clear XB EM b1
         have XB := Lib.hid tP
         have EM := Lib.hid tE
         clear tP tE
         have SD : Below q1.heap.size q1 q1.drew := (Below.refl q1.heap.size q1).drew
         refine wp_region_held_drew (S := fun v => v.heap[p1]? = some (.cells #[.int .i64 x.id, .int .i64 x.entry, .int .i64 x.exit, .slice U3 m3 d3, .slice U4 m4 d4, .slice U5 m5 d5, .int .i64 x.timer] 54 (0, 0))) (by kernel_rfl) ((SD.block _ (heap_lt X1.out)).trans X1.out) (fun hHeld => ?_)
         refine tk 0 hHeld ?_;refine tk 1 hHeld ?_;refine tkc 2 hHeld (fun w' hSw => cell7_of hSw) ?_;refine tk 3 hHeld ?_;refine tkc 4 hHeld (fun w' hSw => cell7_of hSw) ?_
         have tX := (SD.block _ (heap_lt X1.out)).trans X1.out
         have tB := B1.out.trans (SD.mono B1.out.size)
         have tP := (SD.block _ (heap_lt XB.out)).trans XB.out
         have tE := (EM.out.below (Nat.le_refl _) SD).more SD.size
         have HVn := (HV.out.below SD).more SD.size
         generalize q1.drew = q2 at tX tB tP tE HVn hHeld ⊢
         clear X1 B1 XB EM SD
         have X1 := Lib.hid tX
         have B1 := Lib.hid tB
         have XB := Lib.hid tP
         have EM := Lib.hid tE
         clear tX tB tP tE
         clear HV
         have HV := Lib.hid HVn
         clear HVn
         refine tkr 5 (fun K hK => ?_)
         go_simp
         have tn := below_new q2 (.cells #[.int .i64 x.id, .int .i64 x.entry, .int .i64 x.exit, .slice U3 m3 d3, .slice U4 m4 d4, .slice U5 m5 d5, .int .i64 x.timer] 54)
         have tS := heap_alloc_self q2 (.cells #[.int .i64 x.id, .int .i64 x.entry, .int .i64 x.exit, .slice U3 m3 d3, .slice U4 m4 d4, .slice U5 m5 d5, .int .i64 x.timer] 54)
         have tX := (tn.block _ (heap_lt X1.out)).trans X1.out
         have tB := B1.out.trans (tn.mono B1.out.size)
         have tP := (tn.block _ (heap_lt XB.out)).trans XB.out
         have tE := (EM.out.below (Nat.le_refl _) tn).more tn.size
         have HVn := (HV.out.below tn).more tn.size
         refine hK.out _ _ ?_ fun hHeld => ?_;exact tX;clear hK K;try simp only [zn, Act.put]
         generalize q2.alloc (.cells #[.int .i64 x.id, .int .i64 x.entry, .int .i64 x.exit, .slice U3 m3 d3, .slice U4 m4 d4, .slice U5 m5 d5, .int .i64 x.timer] 54) = q3 at tn tS tX tB tP tE HVn hHeld ⊢
         obtain ⟨p2, hp2⟩ : ∃ n, n = q2.heap.size := ⟨_, rfl⟩
         rw [← hp2] at tS ⊢
         clear X1 B1 XB EM tn hp2
         have X1 := Lib.hid tX
         have B1 := Lib.hid tB
         have XB := Lib.hid tP
         have EM := Lib.hid tE
         have XS := Lib.hid tS
         clear tX tB tP tE tS
         clear HV
         have HV := Lib.hid HVn
         clear HVn
         refine tk 6 hHeld ?_
         refine tkr 7 (fun K hK => ?_)
         go_simp
         refine (only_any (.slice none 0 0) (.slice none 0 0) (.slice none 0 0) (.slice (some ⟨p2, 0, none⟩) 1 1) q3 rfl rfl rfl rfl).mono ?_
         rintro e q4 ⟨rfl, hB, hlB, bY⟩
         have HPL : Hid (PlIn q4 q4.heap.size (.slice none 0 0) (.slice none 0 0) (.slice none 0 0) (.slice (some ⟨p2, 0, none⟩) 1 1) (aloneP (.route x))) := Lib.hid (PlIn.more (PlIn.below (show PlIn q3 q3.heap.size (.slice none 0 0) (.slice none 0 0) (.slice none 0 0) (.slice (some ⟨p2, 0, none⟩) 1 1) (aloneP (.route x)) from by have HV2 := HV; exact ⟨ListIn.nil_, ListIn.nil_, ListIn.nil_, one_list (x := x) XS.out ⟨rfl, rfl, rfl, rfl, _, _, _, rfl, rfl, rfl, HV2.out⟩ (heap_lt XS.out)⟩) bY) bY.size)
         have HEL : Hid (ElemV q4 q4.heap.size (.agg #[.int .i64 0, .int .i64 0, .slice none 0 0, .slice none 0 0, .slice none 0 0, .slice (some ⟨p2, 0, none⟩) 1 1, fnV q3.heap.size]) (elK p (4, x.id))) := Lib.hid (by
          have h := el_route (may_rising HM.out) hir
          rw [HX.out] at h
          rw [show elK p (4, x.id) = .route x from h]
          exact ⟨_, _, _, _, _, rfl, HPL.out, .inr ⟨by simp, _, rfl, hlB, hB⟩⟩)
         have tX := (bY.block _ (heap_lt X1.out)).trans X1.out
         have tB := B1.out.trans (bY.mono B1.out.size)
         have tP := (bY.block _ (heap_lt XB.out)).trans XB.out
         have tE := (EM.out.below (Nat.le_refl _) bY).more bY.size
         clear X1 B1 XB EM bY hB hlB HPL XS HV
         have X1 := Lib.hid tX
         have B1 := Lib.hid tB
         have XB := Lib.hid tP
         have EM := Lib.hid tE
         clear tX tB tP tE
         try go_wp2_with fail
         refine hK.out _ _ ?_ fun hHeld => ?_;exact X1.out;clear hK K;try simp only [zn, Act.put]
         refine tkr 8 (fun K hK => ?_)
         refine wp_update13 (.tmp 68) (.tmp 71) (.tmp 75) 135 108 rfl keyT13 Tryz.underlying135 mb es (4, x.id) _ rfl rfl rfl EM.out.map ?_
         intro q5 hm5 hg5 hs5
         have NE : mb ≠ p1 := fun e => by
          have h1 : q4.heap[mb]? = _ := EM.out.map
          rw [e, X1.out] at h1
          cases h1
         have NB : mb ≠ w.heap.size := fun e => by
          have h1 : q4.heap[mb]? = _ := EM.out.map
          rw [e, XB.out] at h1
          cases h1
         have tX := (hg5.block p1 (heap_lt X1.out) (fun e => NE (by injection e with e; exact e.symm))).trans X1.out
         have tP := (hg5.block w.heap.size (heap_lt XB.out) (fun e => NB (by injection e with e; exact e.symm))).trans XB.out
         have tB := B1.out.grown hg5 B1.out.size (fun k e => by cases e; exact LM.out)
         have tE := EM.out.put (4, x.id) _ hm5 hg5 HEL.out
         refine hK.out _ _ ?_ fun hHeld => ?_;exact tX;clear hK K;try simp only [zn, Act.put]
         refine wpAnyH_done (by kernel_rfl) ?_ _
         clear X1 B1 XB EM hm5 hg5 hs5 HEL NE NB tX
         have B1 := Lib.hid tB
         have XB := Lib.hid tP
         have EM := Lib.hid tE
         clear tB tP tE
         go_wp2_with fail
         go_roundw
         case measure => simp [intOf]; omega
         case rel =>
          have hk : i < (ksP p 4).length := by simp [ksP, keysD]; exact hir
          have e : (ksP p 4)[i] = (4, x.id) := by simp [ksP, keysD, HX.out]
          have h2 : ksP p 1 ++ ksP p 2 ++ ksP p 3 ++ (ksP p 4).take (i + 1) = (ksP p 1 ++ ksP p 2 ++ ksP p 3 ++ (ksP p 4).take i) ++ [(4, x.id)] := by rw [take_snoc13 hk, e, ← List.append_assoc]
          have hE := EM.out
          rw [← h2] at hE
          exact ⟨i + 1, _, by go_num, by omega, XB.out, hE, B1.out⟩
        ·obtain rfl : n5 = i := by omega
         have hlt' : ¬ (n5 : Int) < n5 := by omega
         have tE : ElMap wr wr.heap.size mb p (ksP p 1 ++ ksP p 2 ++ ksP p 3 ++ ksP p 4) es := by
          have h := EM.out
          have hk : (ksP p 4).take n5 = ksP p 4 := List.take_of_length_le (by rw [HN.out.2.2.2]; simp [ksP, keysD])
          rw [hk] at h
          exact h
         clear EM
         have EM := Lib.hid tE
         clear tE
         go_wp2_with fail
         go_ret
         exact ⟨_, rfl, ⟨es, EM.out⟩, LM.out, BW.out⟩
end Go.Proofs.YtneeocnjfnneoaaGreat
