/-
 The program's package plan: Route, Stands.
 Conditions: none.
-/
import Derived.Test.YtneeocnjfnneoaaGreatVPlnPH
import Derived.Test.YtneeocnjfnneoaaGreatVPlnPG
set_option linter.unusedVariables false
set_option linter.unusedSimpArgs false
set_option maxRecDepth 100000
namespace Go.Proofs.YtneeocnjfnneoaaGreat
open Go.RowKit

set_option maxHeartbeats 4000000 in
theorem find_rtB (v : Value) (l : List Rt) (id : Int) (w : World) (B : Nat) (hB : B ≤ w.heap.size) (h : RoutesIn w B v l) :
  Calls Tryz.prog 95 #[v, .int .i64 id] w fun e w' => (∃ x, e = .returned (.tuple #[x, .bool (findB kRt l id)]) ∧ RouteV w' B x (findV kRt l id zRt)) ∧ Below w.heap.size w w' := by
 have HBB := Lib.hid hB
 clear hB
 have H := Lib.hid h
 obtain ⟨A, c, rfl, hcl, hcm⟩ := h.slice
 have hml : l.length ≤ 9223372036854775807 := by unfold maxLen at hcm; omega
 obtain ⟨n, hn⟩ : ∃ n, n = l.length := ⟨_, rfl⟩
 have HN := Lib.hid hn
 have HA := Lib.hid (show RoutesIn w B (.slice A n c) l by rw [hn]; exact H.out)
 rw [← hn] at hml ⊢
 clear hn H hcl hcm h
 obtain ⟨q, hq⟩ : ∃ x, x = w.alloc (.cells #[.int .i64 0, .int .i64 0, .int .i64 0, .slice none 0 0, .slice none 0 0, .slice none 0 0, .int .i64 0] 54) := ⟨_, rfl⟩
 have x1 := heap_alloc_self w (.cells #[.int .i64 0, .int .i64 0, .int .i64 0, .slice none 0 0, .slice none 0 0, .slice none 0 0, .int .i64 0] 54)
 have b1 := below_new w (.cells #[.int .i64 0, .int .i64 0, .int .i64 0, .slice none 0 0, .slice none 0 0, .slice none 0 0, .int .i64 0] 54)
 rw [← hq] at x1 b1
 go_enter Tryz.func95, Tryz.ntmps95
 go_upto_region 1 with fail
 rw [← hq]
 have X1 := Lib.hid x1
 have B1 := Lib.hid b1
 clear x1 b1 hq
 go_wp2_with fail
 go_loopw [11] (fun s11 wr => ∃ i : Nat, i ≤ n ∧ s11 = .int .i64 i ∧ (∀ j (hj : j < i) (hl : j < l.length), kRt l[j] ≠ id) ∧ wr.heap[w.heap.size]? = some (.cells #[.int .i64 0, .int .i64 0, .int .i64 0, .slice none 0 0, .slice none 0 0, .slice none 0 0, .int .i64 0] 54 (0, 0)) ∧ Below w.heap.size w wr) (fun s11 _ => n - (intOf s11).toNat)
 case atStart => exact ⟨0, by omega, by go_num, fun j hj => absurd hj (by omega), X1.out, B1.out⟩
 case round =>
  obtain ⟨i, hi, rfl, hall, hx4, hb⟩ := hrel
  have HALL := Lib.hid hall
  have BW := Lib.hid hb
  have X4 := Lib.hid hx4
  clear hall hb hx4 X1 B1
  by_cases hlt : i < n
  ·have hlt' : (i : Int) < n := by omega
   have hir : i < l.length := by rw [← HN.out]; exact hlt
   obtain ⟨bk, off, rfl, hbk, hc0, hc1, hc2, hc6, u3, u4, u5, hc3, hc4, hc5, hr⟩ := (HA.out.below routeR (BW.out.mono HBB.out)).at hir
   obtain ⟨B3, d3, rfl, -, -⟩ := hr.path.slice
   obtain ⟨B4, d4, rfl, -, -⟩ := hr.over.slice
   obtain ⟨B5, d5, rfl, -, -⟩ := hr.flanks.slice
   obtain ⟨a, en, ex, lp, lo, lf, tm, hx⟩ : ∃ a en ex lp lo lf tm, l[i] = (⟨a, en, ex, lp, lo, lf, tm⟩ : Rt) := ⟨_, _, _, _, _, _, _, rfl⟩
   have HX := Lib.hid hx
   rw [hx] at hc0 hc1 hc2 hc3 hc4 hc5 hc6 hr
   dsimp only at hc0 hc1 hc2 hc3 hc4 hc5 hc6 hr
   obtain ⟨m3, e3⟩ : ∃ m, m = lp.length := ⟨_, rfl⟩
   obtain ⟨m4, e4⟩ : ∃ m, m = lo.length := ⟨_, rfl⟩
   obtain ⟨m5, e5⟩ : ∃ m, m = lf.length := ⟨_, rfl⟩
   rw [← e3] at hc3 hr
   rw [← e4] at hc4 hr
   rw [← e5] at hc5 hr
   have HR := Lib.hid hr
   have HM : Hid (m3 = lp.length ∧ m4 = lo.length ∧ m5 = lf.length) := Lib.hid ⟨e3, e4, e5⟩
   have hg0 : wr.cell? ⟨bk, off + i * 7, none⟩ = some (.int .i64 a) := hc0
   have hg1 : wr.cell? ⟨bk, off + i * 7 + 1, none⟩ = some (.int .i64 en) := hc1
   have hg2 : wr.cell? ⟨bk, off + i * 7 + 2, none⟩ = some (.int .i64 ex) := hc2
   have hg3 : wr.cell? ⟨bk, off + i * 7 + 3, none⟩ = some (.slice B3 m3 d3) := hc3
   have hg4 : wr.cell? ⟨bk, off + i * 7 + 4, none⟩ = some (.slice B4 m4 d4) := hc4
   have hg5 : wr.cell? ⟨bk, off + i * 7 + 5, none⟩ = some (.slice B5 m5 d5) := hc5
   have hg6 : wr.cell? ⟨bk, off + i * 7 + 6, none⟩ = some (.int .i64 tm) := hc6
   clear hc0 hc1 hc2 hc3 hc4 hc5 hc6 hx hbk hr e3 e4 e5
   obtain ⟨q2, hq2⟩ : ∃ x, x = wr.alloc (.cells #[.int .i64 a, .int .i64 en, .int .i64 ex, .slice B3 m3 d3, .slice B4 m4 d4, .slice B5 m5 d5, .int .i64 tm] 54) := ⟨_, rfl⟩
   have x1 := heap_alloc_self wr (.cells #[.int .i64 a, .int .i64 en, .int .i64 ex, .slice B3 m3 d3, .slice B4 m4 d4, .slice B5 m5 d5, .int .i64 tm] 54)
   have b1 := below_new wr (.cells #[.int .i64 a, .int .i64 en, .int .i64 ex, .slice B3 m3 d3, .slice B4 m4 d4, .slice B5 m5 d5, .int .i64 tm] 54)
   rw [← hq2] at x1 b1
   go_upto_region 4 with fail
   rw [← hq2]
   have X7 := Lib.hid x1
   have X47 := Lib.hid ((b1.block _ (heap_lt X4.out)).trans X4.out)
   have B1W := Lib.hid (b1.mono BW.out.size)
   have B1 := Lib.hid (BW.out.trans (b1.mono BW.out.size))
   generalize wr.heap.size = p1 at X7 ⊢
   clear x1 b1 hq2 hg0 hg1 hg2 hg3 hg4 hg5 hg6
   obtain ⟨k0, k1, k2, k3, k4, k5, k6⟩ := cell7_of X7.out
   have KX : Hid (kRt l[i] = a) := Lib.hid (by rw [HX.out])
   by_cases he : a = id
   ·have hd : (a == id) = true := by simpa using he
    have FY : Hid (findB kRt l id = true ∧ findV kRt l id zRt = l[i]) := Lib.hid (find_yes hir (KX.out.trans he) fun j hj => HALL.out j hj (by omega))
    rw [HX.out] at FY
    clear he
    go_upto_region 5 with ((with_reducible show Calls _ _ _ _ _); refine (number_rt a en ex tm B3 B4 B5 m3 m4 m5 d3 d4 d5 _).mono ?_; rintro e w2 ⟨rfl, b2⟩; have B2 := Lib.hid (B1.out.trans (b2.mono B1.out.size)); have B2W := Lib.hid (B1W.out.trans (b2.mono B1.out.size)); have X42 := Lib.hid ((b2.block _ (heap_lt X47.out)).trans X47.out); have X72 := Lib.hid ((b2.block _ (heap_lt X7.out)).trans X7.out); clear b2)
    clear k0 k1 k2 k3 k4 k5 k6
    obtain ⟨k0, k1, k2, k3, k4, k5, k6⟩ := cell7_of X72.out
    go_wp2_with ((with_reducible show wpList _ _ _ (⟨none, _, _, _, _, _⟩ :: _) _ _); refine wpList_store_rowS rfl _ (.tmp 4) (.tmp 19) rfl w.heap.size rfl (c' := #[.int .i64 a, .int .i64 en, .int .i64 ex, .slice B3 m3 d3, .slice B4 m4 d4, .slice B5 m5 d5, .int .i64 tm]) rfl X42.out infoRoute7 rfl (by simp [Value.oneCell']) ?_)
    refine bodyPost_ret (results_rowS_tmp (c := #[.int .i64 a, .int .i64 en, .int .i64 ex, .slice B3 m3 d3, .slice B4 m4 d4, .slice B5 m5 d5, .int .i64 tm]) rfl _ _ w.heap.size rfl (setRow_heap _ _ _ _ _ _ X42.out) Tryz.underlying54 infoRoute7 (.bool true) rfl) rfl ⟨⟨_, by rw [FY.out.1], ?_⟩, below_setRow B2.out (Nat.le_refl _) _⟩
    rw [FY.out.2]
    exact ⟨_, _, _, rfl, HR.out.below ((below_setRow B2W.out (Nat.le_refl _) _).mono HBB.out)⟩
   ·have hd : (a == id) = false := by simpa using he
    have NX : Hid (∀ j (hj : j < i + 1) (hl : j < l.length), kRt l[j] ≠ id) := Lib.hid (fun j hj hl => by
     rcases Nat.lt_or_ge j i with h | h
     ·exact HALL.out j h hl
     ·obtain rfl : j = i := by omega
      rw [KX.out]; exact he)
    clear he
    go_wp2_with ((with_reducible show Calls _ _ _ _ _); refine (number_rt a en ex tm B3 B4 B5 m3 m4 m5 d3 d4 d5 _).mono ?_; rintro e w2 ⟨rfl, b2⟩; have B2 := Lib.hid (B1.out.trans (b2.mono B1.out.size)); have X42 := Lib.hid ((b2.block _ (heap_lt X47.out)).trans X47.out); clear b2)
    go_roundw
    case measure => simp [intOf]; omega
    case rel => exact ⟨i + 1, by omega, by go_num, NX.out, X42.out, B2.out⟩
  ·obtain rfl : i = n := by omega
   have hlt' : ¬ (i : Int) < i := by omega
   have FN : Hid (findB kRt l id = false ∧ findV kRt l id zRt = zRt) := Lib.hid (find_no fun j hj => HALL.out j (by rw [HN.out]; exact hj) hj)
   obtain ⟨q8, hq8⟩ : ∃ x, x = wr.alloc (.cells #[.int .i64 0, .int .i64 0, .int .i64 0, .slice none 0 0, .slice none 0 0, .slice none 0 0, .int .i64 0] 54) := ⟨_, rfl⟩
   have x1 := heap_alloc_self wr (.cells #[.int .i64 0, .int .i64 0, .int .i64 0, .slice none 0 0, .slice none 0 0, .slice none 0 0, .int .i64 0] 54)
   have b1 := below_new wr (.cells #[.int .i64 0, .int .i64 0, .int .i64 0, .slice none 0 0, .slice none 0 0, .slice none 0 0, .int .i64 0] 54)
   rw [← hq8] at x1 b1
   go_upto_region 8 with fail
   rw [← hq8]
   have X8 := Lib.hid x1
   have X48 := Lib.hid ((b1.block _ (heap_lt X4.out)).trans X4.out)
   have B8 := Lib.hid (BW.out.trans (b1.mono BW.out.size))
   generalize wr.heap.size = p1 at X8 ⊢
   clear x1 b1 hq8
   obtain ⟨k0, k1, k2, k3, k4, k5, k6⟩ := cell7_of X8.out
   go_wp2_with ((with_reducible show wpList _ _ _ (⟨none, _, _, _, _, _⟩ :: _) _ _); refine wpList_store_rowS rfl _ (.tmp 4) (.tmp 21) rfl w.heap.size rfl (c' := #[.int .i64 0, .int .i64 0, .int .i64 0, .slice none 0 0, .slice none 0 0, .slice none 0 0, .int .i64 0]) rfl X48.out infoRoute7 rfl (by simp [Value.oneCell']) ?_)
   refine bodyPost_ret (results_rowS_tmp (c := #[.int .i64 0, .int .i64 0, .int .i64 0, .slice none 0 0, .slice none 0 0, .slice none 0 0, .int .i64 0]) rfl _ _ w.heap.size rfl (setRow_heap _ _ _ _ _ _ X48.out) Tryz.underlying54 infoRoute7 (.bool false) rfl) rfl ⟨⟨_, by rw [FN.out.1], ?_⟩, below_setRow B8.out (Nat.le_refl _) _⟩
   rw [FN.out.2]
   exact ⟨_, _, _, rfl, ⟨ListIn.nil_, ListIn.nil_, ListIn.nil_⟩⟩
set_option maxHeartbeats 8000000 in
theorem found_rt (v y : Value) (p : Pl) (l : List Rt) (id : Int) (w : World) (h : PlanV w w.heap.size v p) (h' : RoutesIn w w.heap.size y l) :
  Calls Tryz.prog 57 #[v, y, .int .i64 id] w fun e w' => (∃ x, e = .returned (.tuple #[x, .int .i64 (elE p kRt l id)]) ∧ RouteV w' w.heap.size x (elV p kRt l id zRt)) ∧ Below w.heap.size w w' := by
 obtain ⟨A2, c2, A3, c3, A4, c4, A5, c5, n2, n3, n4, n5, rfl, hm2, hm3, hm4, hm5, HCP, HIN, HN⟩ := open_plan h
 have H := Lib.hid h'
 obtain ⟨A, c, rfl, -, -⟩ := h'.slice
 obtain ⟨n, hn⟩ : ∃ n, n = l.length := ⟨_, rfl⟩
 have HL := Lib.hid (show RoutesIn w w.heap.size (.slice A n c) l by rw [hn]; exact H.out)
 rw [← hn]
 clear hn H h'
 have hq := boxes3 w (.cells #[.int .i64 p.ver, .int .i64 p.par, .slice A2 n2 c2, .slice A3 n3 c3, .slice A4 n4 c4, .slice A5 n5 c5] 33) (.cells #[.int .i64 0, .int .i64 0, .int .i64 0, .slice none 0 0, .slice none 0 0, .slice none 0 0, .int .i64 0] 54) (.cells #[.int .i64 0, .int .i64 0, .int .i64 0, .slice none 0 0, .slice none 0 0, .slice none 0 0, .int .i64 0] 54)
 have hk1 := cell6_of (heap_alloc_self w (.cells #[.int .i64 p.ver, .int .i64 p.par, .slice A2 n2 c2, .slice A3 n3 c3, .slice A4 n4 c4, .slice A5 n5 c5] 33))
 obtain ⟨q, hq', q0, q1, q2, qs, qb⟩ := hq
 go_enter Tryz.func57, Tryz.ntmps57
 go_upto_region 2 with fail
 rw [← hq']
 have XP := Lib.hid q0
 have X6 := Lib.hid q1
 have X8 := Lib.hid q2
 have BQ := Lib.hid qb
 clear hk1 hq' q0 q1 q2 qs qb
 have HI := Lib.hid ((HIN.out.below BQ.out).more BQ.out.size)
 obtain ⟨k0, k1, k2, k3, k4, k5⟩ := cell6_of XP.out
 go_wp2_with fail
 refine (check_prog _ p q ⟨_, _, _, _, rfl, HI.out⟩).mono ?_
 rintro e w1 ⟨rfl, b1⟩
 clear k0 k1 k2 k3 k4 k5 HI
 replace BQ := Lib.hid (BQ.out.trans (b1.mono BQ.out.size))
 replace X6 := Lib.hid ((b1.block _ (heap_lt X6.out)).trans X6.out)
 replace X8 := Lib.hid ((b1.block _ (heap_lt X8.out)).trans X8.out)
 clear b1
 have CB : Hid (planMay p = false → chk8 p = 8) := Lib.hid (fun h => by rw [chk8, h]; rfl)
 have CG : Hid (planMay p = true → chk8 p = 0) := Lib.hid (fun h => by rw [chk8, h]; rfl)
 generalize chk8 p = ck at CB CG ⊢
 cases hm : planMay p with
 | false =>
  obtain rfl := CB.out hm
  have HE := Lib.hid (elE_bad (k := kRt) (l := l) (id := id) (z := zRt) hm)
  clear hm
  obtain ⟨j0, j1, j2, j3, j4, j5, j6⟩ := cell7_of X8.out
  go_wp2_with ((with_reducible show wpList _ _ _ (⟨none, _, _, _, _, _⟩ :: _) _ _); refine wpList_store_rowS rfl _ (.tmp 6) (.tmp 16) rfl (w.heap.size + 1) rfl (c' := #[.int .i64 0, .int .i64 0, .int .i64 0, .slice none 0 0, .slice none 0 0, .slice none 0 0, .int .i64 0]) rfl X6.out infoRoute7 rfl (by simp [Value.oneCell']) ?_)
  refine bodyPost_ret (results_rowS_tmp (c := #[.int .i64 0, .int .i64 0, .int .i64 0, .slice none 0 0, .slice none 0 0, .slice none 0 0, .int .i64 0]) rfl _ _ (w.heap.size + 1) rfl (setRow_heap _ _ _ _ _ _ X6.out) Tryz.underlying54 infoRoute7 (.int .i64 8) rfl) rfl ⟨⟨_, by rw [HE.out.1], ?_⟩, below_setRow BQ.out (Nat.le_succ _) _⟩
  rw [HE.out.2]
  exact ⟨_, _, _, rfl, ⟨ListIn.nil_, ListIn.nil_, ListIn.nil_⟩⟩
 | true =>
  obtain rfl := CG.out hm
  have HM := Lib.hid hm
  have FA := Lib.hid (find_at1 kRt l id zRt)
  clear hm
  go_wp2_with fail
  refine (find_rtB _ l id w1 w.heap.size BQ.out.size (HL.out.below routeR BQ.out)).mono ?_
  rintro e w2 ⟨⟨x, rfl, hrv⟩, b1⟩
  have hrw : RouteV w2 w2.heap.size x (findV kRt l id zRt) := hrv.more (Nat.le_trans BQ.out.size b1.size)
  obtain ⟨u3, u4, u5, rfl, hin⟩ := hrw
  obtain ⟨B3, d3, rfl, -, -⟩ := hin.path.slice
  obtain ⟨B4, d4, rfl, -, -⟩ := hin.over.slice
  obtain ⟨B5, d5, rfl, -, -⟩ := hin.flanks.slice
  clear hin
  have HRV := Lib.hid hrv
  clear hrv
  generalize findV kRt l id zRt = fv at FA HRV ⊢
  generalize findB kRt l id = fb at FA ⊢
  replace BQ := Lib.hid (BQ.out.trans (b1.mono BQ.out.size))
  replace X6 := Lib.hid ((b1.block _ (heap_lt X6.out)).trans X6.out)
  replace X8 := Lib.hid ((b1.block _ (heap_lt X8.out)).trans X8.out)
  clear b1
  obtain ⟨q3, hq⟩ : ∃ x, x = w2.alloc (.cells #[.int .i64 fv.id, .int .i64 fv.entry, .int .i64 fv.exit, .slice B3 fv.path.length d3, .slice B4 fv.over.length d4, .slice B5 fv.flanks.length d5, .int .i64 fv.timer] 54) := ⟨_, rfl⟩
  have x1 := heap_alloc_self w2 (.cells #[.int .i64 fv.id, .int .i64 fv.entry, .int .i64 fv.exit, .slice B3 fv.path.length d3, .slice B4 fv.over.length d4, .slice B5 fv.flanks.length d5, .int .i64 fv.timer] 54)
  have b1 := below_new w2 (.cells #[.int .i64 fv.id, .int .i64 fv.entry, .int .i64 fv.exit, .slice B3 fv.path.length d3, .slice B4 fv.over.length d4, .slice B5 fv.flanks.length d5, .int .i64 fv.timer] 54)
  rw [← hq] at x1 b1
  go_upto_region 6 with fail
  rw [← hq]
  have X10 := Lib.hid x1
  have BR := Lib.hid (b1.mono BQ.out.size)
  generalize w2.heap.size = p10 at X10 ⊢
  clear x1 hq
  replace BQ := Lib.hid (BQ.out.trans (b1.mono BQ.out.size))
  replace X6 := Lib.hid ((b1.block _ (heap_lt X6.out)).trans X6.out)
  replace X8 := Lib.hid ((b1.block _ (heap_lt X8.out)).trans X8.out)
  clear b1
  rcases FA.out with ⟨rfl, -, ha⟩ | ⟨i, hi, rfl, hv, ha, -⟩
  ·have HE := Lib.hid (elE_none (k := kRt) (l := l) (id := id) (z := zRt) HM.out ha)
   obtain ⟨j0, j1, j2, j3, j4, j5, j6⟩ := cell7_of X8.out
   go_wp2_with ((with_reducible show wpList _ _ _ (⟨none, _, _, _, _, _⟩ :: _) _ _); refine wpList_store_rowS rfl _ (.tmp 6) (.tmp 26) rfl (w.heap.size + 1) rfl (c' := #[.int .i64 0, .int .i64 0, .int .i64 0, .slice none 0 0, .slice none 0 0, .slice none 0 0, .int .i64 0]) rfl X6.out infoRoute7 rfl (by simp [Value.oneCell']) ?_)
   refine bodyPost_ret (results_rowS_tmp (c := #[.int .i64 0, .int .i64 0, .int .i64 0, .slice none 0 0, .slice none 0 0, .slice none 0 0, .int .i64 0]) rfl _ _ (w.heap.size + 1) rfl (setRow_heap _ _ _ _ _ _ X6.out) Tryz.underlying54 infoRoute7 (.int .i64 6) rfl) rfl ⟨⟨_, by rw [HE.out.1], ?_⟩, below_setRow BQ.out (Nat.le_succ _) _⟩
   rw [HE.out.2]
   exact ⟨_, _, _, rfl, ⟨ListIn.nil_, ListIn.nil_, ListIn.nil_⟩⟩
  ·have HE0 := Lib.hid (elE_some (k := kRt) (z := zRt) HM.out hi ha)
   have HE : Hid ((elE p kRt l id) = 0 ∧ (elV p kRt l id zRt) = fv) := Lib.hid ⟨HE0.out.1, HE0.out.2.trans hv.symm⟩
   clear hv ha
   obtain ⟨j0, j1, j2, j3, j4, j5, j6⟩ := cell7_of X10.out
   go_wp2_with ((with_reducible show wpList _ _ _ (⟨none, _, _, _, _, _⟩ :: _) _ _); refine wpList_store_rowS rfl _ (.tmp 6) (.tmp 27) rfl (w.heap.size + 1) rfl (c' := #[.int .i64 fv.id, .int .i64 fv.entry, .int .i64 fv.exit, .slice B3 fv.path.length d3, .slice B4 fv.over.length d4, .slice B5 fv.flanks.length d5, .int .i64 fv.timer]) rfl X6.out infoRoute7 rfl (by simp [Value.oneCell']) ?_)
   refine bodyPost_ret (results_rowS_tmp (c := #[.int .i64 fv.id, .int .i64 fv.entry, .int .i64 fv.exit, .slice B3 fv.path.length d3, .slice B4 fv.over.length d4, .slice B5 fv.flanks.length d5, .int .i64 fv.timer]) rfl _ _ (w.heap.size + 1) rfl (setRow_heap _ _ _ _ _ _ X6.out) Tryz.underlying54 infoRoute7 (.int .i64 0) rfl) rfl ⟨⟨_, by rw [HE.out.1], ?_⟩, below_setRow BQ.out (Nat.le_succ _) _⟩
   rw [HE.out.2]
   obtain ⟨y3, y4, y5, e, hr⟩ := HRV.out
   cases e
   exact ⟨_, _, _, rfl, hr.below (below_setRow BR.out (Nat.le_succ _) _)⟩
theorem elV_few (p : Pl) (id : Int) : (elV p kRt p.routes id zRt).path.length ≤ 1000 ∧ (elV p kRt p.routes id zRt).over.length ≤ 1000 ∧ (elV p kRt p.routes id zRt).flanks.length ≤ 1000 := by
 cases hm : planMay p with
 | false => rw [(elE_bad (k := kRt) (l := p.routes) (id := id) (z := zRt) hm).2]; exact ⟨Nat.zero_le _, Nat.zero_le _, Nat.zero_le _⟩
 | true =>
  rcases at1_cases kRt p.routes id with ⟨h1, -⟩ | ⟨i, hi, h1, -, -⟩
  ·rw [(elE_none (k := kRt) (l := p.routes) (id := id) (z := zRt) hm (by omega)).2]; exact ⟨Nat.zero_le _, Nat.zero_le _, Nat.zero_le _⟩
  ·rw [(elE_some (z := zRt) hm hi h1).2]
   have h := ((planMay_iff.1 hm).each i hi).2.2
   have a := h.path.2
   have b := h.over
   have c := h.flank
   exact ⟨by omega, by omega, by omega⟩
set_option maxHeartbeats 8000000 in
theorem route_prog (v : Value) (p : Pl) (id : Int) (w : World) (h : PlanV w w.heap.size v p) :
  Calls Tryz.prog 25 #[v, .int .i64 id] w fun e w' => ∃ u3 u4 u5, e = .returned (.tuple #[.agg #[.int .i64 (elV p kRt p.routes id zRt).id, .int .i64 (elV p kRt p.routes id zRt).entry, .int .i64 (elV p kRt p.routes id zRt).exit, u3, u4, u5, .int .i64 (elV p kRt p.routes id zRt).timer], .int .i64 (elE p kRt p.routes id)]) ∧ RtOwn w' w.heap.size u3 u4 u5 (elV p kRt p.routes id zRt) ∧ Below w.heap.size w w' := by
 obtain ⟨A2, c2, A3, c3, A4, c4, A5, c5, n2, n3, n4, n5, rfl, hm2, hm3, hm4, hm5, HCP, HIN, HN⟩ := open_plan h
 have hq := two_boxes w (.cells #[.int .i64 p.ver, .int .i64 p.par, .slice A2 n2 c2, .slice A3 n3 c3, .slice A4 n4 c4, .slice A5 n5 c5] 33) (.cells #[.int .i64 0, .int .i64 0, .int .i64 0, .slice none 0 0, .slice none 0 0, .slice none 0 0, .int .i64 0] 54)
 go_enter Tryz.func25, Tryz.ntmps25
 go_upto_region 1 with fail
 have hqs : ((w.alloc (.cells #[.int .i64 p.ver, .int .i64 p.par, .slice A2 n2 c2, .slice A3 n3 c3, .slice A4 n4 c4, .slice A5 n5 c5] 33)).alloc (.cells #[.int .i64 0, .int .i64 0, .int .i64 0, .slice none 0 0, .slice none 0 0, .slice none 0 0, .int .i64 0] 54)).heap.size = w.heap.size + 2 := by simp
 generalize (w.alloc (.cells #[.int .i64 p.ver, .int .i64 p.par, .slice A2 n2 c2, .slice A3 n3 c3, .slice A4 n4 c4, .slice A5 n5 c5] 33)).alloc (.cells #[.int .i64 0, .int .i64 0, .int .i64 0, .slice none 0 0, .slice none 0 0, .slice none 0 0, .int .i64 0] 54) = q at hq hqs ⊢
 obtain ⟨q0, q1, qb⟩ := hq
 have XP := Lib.hid q0
 have X4 := Lib.hid q1
 have BQ := Lib.hid qb
 have QS : Hid (w.heap.size + 2 ≤ q.heap.size) := Lib.hid (by omega)
 clear q0 q1 qb hqs
 have HI := Lib.hid ((HIN.out.below BQ.out).more BQ.out.size)
 obtain ⟨k0, k1, k2, k3, k4, k5⟩ := cell6_of XP.out
 go_wp2_with fail
 refine (found_rt _ _ p p.routes id q ⟨_, _, _, _, rfl, HI.out⟩ HI.out.routes).mono ?_
 rintro e w1 ⟨⟨x, rfl, hrv⟩, b1⟩
 clear k0 k1 k2 k3 k4 k5 HI XP
 have EF := Lib.hid (elV_few p id)
 generalize hee : (elE p kRt p.routes id) = ee
 generalize hev : (elV p kRt p.routes id zRt) = ev at hrv EF ⊢
 have HV := Lib.hid (And.intro hee hev)
 clear hee hev
 obtain ⟨u3, u4, u5, rfl, hin⟩ := hrv.more b1.size
 obtain ⟨B3, d3, rfl, -, -⟩ := hin.path.slice
 obtain ⟨B4, d4, rfl, -, -⟩ := hin.over.slice
 obtain ⟨B5, d5, rfl, -, -⟩ := hin.flanks.slice
 obtain ⟨m3, e3⟩ : ∃ m, m = ev.path.length := ⟨_, rfl⟩
 obtain ⟨m4, e4⟩ : ∃ m, m = ev.over.length := ⟨_, rfl⟩
 obtain ⟨m5, e5⟩ : ∃ m, m = ev.flanks.length := ⟨_, rfl⟩
 rw [← e3, ← e4, ← e5] at hin ⊢
 have HR0 := Lib.hid hin
 have tS : w.heap.size + 2 ≤ w1.heap.size := Nat.le_trans QS.out b1.size
 clear QS hin hrv e3 e4 e5
 have QS := Lib.hid tS
 clear tS
 replace BQ := Lib.hid (BQ.out.trans (b1.mono BQ.out.size))
 replace X4 := Lib.hid ((b1.block _ (heap_lt X4.out)).trans X4.out)
 clear b1
 obtain ⟨q3, hq⟩ : ∃ x, x = w1.alloc (.cells #[.int .i64 ev.id, .int .i64 ev.entry, .int .i64 ev.exit, .slice B3 m3 d3, .slice B4 m4 d4, .slice B5 m5 d5, .int .i64 ev.timer] 54) := ⟨_, rfl⟩
 have x1 := heap_alloc_self w1 (.cells #[.int .i64 ev.id, .int .i64 ev.entry, .int .i64 ev.exit, .slice B3 m3 d3, .slice B4 m4 d4, .slice B5 m5 d5, .int .i64 ev.timer] 54)
 have b1 := below_new w1 (.cells #[.int .i64 ev.id, .int .i64 ev.entry, .int .i64 ev.exit, .slice B3 m3 d3, .slice B4 m4 d4, .slice B5 m5 d5, .int .i64 ev.timer] 54)
 rw [← hq] at x1 b1
 go_upto_region 2 with fail
 rw [← hq]
 have X6 := Lib.hid x1
 have HR := Lib.hid ((HR0.out.below b1).more b1.size)
 have tS : w.heap.size + 2 ≤ q3.heap.size := Nat.le_trans QS.out b1.size
 generalize w1.heap.size = p6 at X6 ⊢
 clear x1 hq HR0 QS
 have QS := Lib.hid tS
 clear tS
 replace BQ := Lib.hid (BQ.out.trans (b1.mono BQ.out.size))
 replace X4 := Lib.hid ((b1.block _ (heap_lt X4.out)).trans X4.out)
 clear b1
 obtain ⟨j0, j1, j2, j3, j4, j5, j6⟩ := cell7_of X6.out
 go_wp2_with fail
 refine (twinroute_any _ ev q3 ⟨_, _, _, rfl, HR.out⟩ EF.out.1 EF.out.2.1 EF.out.2.2).mono ?_
 rintro e w3 ⟨u3, u4, u5, rfl, ho, b1⟩
 obtain ⟨C3, e3, rfl⟩ := ho.path.slice
 obtain ⟨C4, e4, rfl⟩ := ho.over.slice
 obtain ⟨C5, e5, rfl⟩ := ho.flanks.slice
 have HO := Lib.hid (ho.mono QS.out)
 clear j0 j1 j2 j3 j4 j5 j6 ho X6 HR
 replace BQ := Lib.hid (BQ.out.trans (b1.mono BQ.out.size))
 replace X4 := Lib.hid ((b1.block _ (heap_lt X4.out)).trans X4.out)
 clear b1
 go_wp2_with ((with_reducible show wpList _ _ _ (⟨none, _, _, _, _, _⟩ :: _) _ _); refine wpList_store_rowS rfl _ (.tmp 4) (.tmp 17) rfl (w.heap.size + 1) rfl (c' := #[.int .i64 ev.id, .int .i64 ev.entry, .int .i64 ev.exit, .slice C3 ev.path.length e3, .slice C4 ev.over.length e4, .slice C5 ev.flanks.length e5, .int .i64 ev.timer]) rfl X4.out infoRoute7 rfl (by simp [Value.oneCell']) ?_)
 refine bodyPost_ret (results_rowS_tmp (c := #[.int .i64 ev.id, .int .i64 ev.entry, .int .i64 ev.exit, .slice C3 ev.path.length e3, .slice C4 ev.over.length e4, .slice C5 ev.flanks.length e5, .int .i64 ev.timer]) rfl _ _ (w.heap.size + 1) rfl (setRow_heap _ _ _ _ _ _ X4.out) Tryz.underlying54 infoRoute7 (.int .i64 ee) rfl) rfl ⟨_, _, _, by rw [HV.out.1, HV.out.2], ?_, below_setRow BQ.out (Nat.le_succ _) _⟩
 rw [HV.out.2]
 have hg := grownBy_setRow w3 (w.heap.size + 1) #[.int .i64 ev.id, .int .i64 ev.entry, .int .i64 ev.exit, .slice C3 ev.path.length e3, .slice C4 ev.over.length e4, .slice C5 ev.flanks.length e5, .int .i64 ev.timer]
 have M := HO.out
 exact ⟨(own_kept (R := IntR) intF M.path hg (fun k hk => by have := own_lo M.path k hk; omega)).mono (by omega), (own_kept (R := IntR) intF M.over hg (fun k hk => by have := own_lo M.over k hk; omega)).mono (by omega), (own_kept (R := JoinR) joinF M.flanks hg (fun k hk => by have := own_lo M.flanks k hk; omega)).mono (by omega)⟩

end Go.Proofs.YtneeocnjfnneoaaGreat
