/-
 The program's package pack: the numbers of a route.
 Conditions: none.
-/
import Derived.Test.YteloiajocjahmaaGreatDoorSGPckPA
import Derived.Test.YteloiajocjahmaaGreatDoorSGPlnRefD
set_option linter.unusedVariables false
set_option linter.unusedSimpArgs false
set_option maxRecDepth 100000
namespace Go.Proofs.YteloiajocjahmaaGreatDoor
open Go.RowKit

set_option maxHeartbeats 4000000 in
theorem proutenums_any (v : Value) (r : Rt) (w : World) (h : RouteV w w.heap.size v r) (hl : (numsR r).length ≤ 10000) :
  Calls Tryz.prog 60 #[v] w fun e w' => ∃ A n c, e = .returned (.slice A n c) ∧ n = (numsR r).length ∧ IntsOwn w' w.heap.size (.slice A n c) (numsR r) ∧ Below w.heap.size w w' := by
 obtain ⟨u3, u4, u5, rfl, hu⟩ := h
 have HU := Lib.hid hu
 obtain ⟨U3, c3, rfl, -, -⟩ := hu.path.slice
 obtain ⟨U4, c4, rfl, -, -⟩ := hu.over.slice
 obtain ⟨U5, c5, rfl, -, -⟩ := hu.flanks.slice
 have hlen : (numsR r).length = 7 + r.path.length + r.over.length + 2 * r.flanks.length := by
  simp only [numsR, List.length_cons, List.length_append, numsJ_len, List.length_nil]; omega
 rw [hlen] at hl
 have BD1 : Hid (([r.id, r.entry, r.exit] : List Int).length + 1 + (r.path.flatMap (fun z : Int => [z])).length ≤ 10000) := Lib.hid (by rw [flat_ints]; simp; omega)
 have BD2 : Hid (([r.id, r.entry, r.exit] ++ (r.path.length : Int) :: r.path.flatMap (fun z : Int => [z])).length + 1 + (r.over.flatMap (fun z : Int => [z])).length ≤ 10000) := Lib.hid (by rw [flat_ints, flat_ints]; simp; omega)
 have BD3 : Hid ((([r.id, r.entry, r.exit] ++ (r.path.length : Int) :: r.path.flatMap (fun z : Int => [z])) ++ (r.over.length : Int) :: r.over.flatMap (fun z : Int => [z])).length + 1 + (r.flanks.flatMap numsJ).length ≤ 10000) := Lib.hid (by rw [flat_ints, flat_ints, numsJ_len]; simp; omega)
 have BD4 : Hid (((([r.id, r.entry, r.exit] ++ (r.path.length : Int) :: r.path.flatMap (fun z : Int => [z])) ++ (r.over.length : Int) :: r.over.flatMap (fun z : Int => [z])) ++ (r.flanks.length : Int) :: r.flanks.flatMap numsJ).length + 1 ≤ 10000) := Lib.hid (by rw [flat_ints, flat_ints]; simp only [List.length_append, List.length_cons, numsJ_len, List.length_nil]; omega)
 have BQ1 : Hid (r.path.length ≤ 10000) := Lib.hid (by omega)
 have BQ2 : Hid (r.over.length ≤ 10000) := Lib.hid (by omega)
 have BQ3 : Hid (r.flanks.length ≤ 10000) := Lib.hid (by omega)
 have NF : Hid (((([r.id, r.entry, r.exit] ++ (r.path.length : Int) :: r.path.flatMap (fun z : Int => [z])) ++ (r.over.length : Int) :: r.over.flatMap (fun z : Int => [z])) ++ (r.flanks.length : Int) :: r.flanks.flatMap numsJ) ++ [r.timer] = numsR r) := Lib.hid (by rw [flat_ints, flat_ints]; simp [numsR])
 obtain ⟨n3, hn3⟩ : ∃ n, n = r.path.length := ⟨_, rfl⟩
 obtain ⟨n4, hn4⟩ : ∃ n, n = r.over.length := ⟨_, rfl⟩
 obtain ⟨n5, hn5⟩ : ∃ n, n = r.flanks.length := ⟨_, rfl⟩
 have HA : Hid (RtIn w w.heap.size (.slice U3 n3 c3) (.slice U4 n4 c4) (.slice U5 n5 c5) r) := Lib.hid (by rw [hn3, hn4, hn5]; exact HU.out)
 rw [← hn3, ← hn4, ← hn5]
 clear hn3 hn4 hn5 HU hu hl hlen
 have hq0 := heap_alloc_self w (.cells #[.int .i64 r.id, .int .i64 r.entry, .int .i64 r.exit, .slice U3 n3 c3, .slice U4 n4 c4, .slice U5 n5 c5, .int .i64 r.timer] 44)
 have hqb := below_new w (.cells #[.int .i64 r.id, .int .i64 r.entry, .int .i64 r.exit, .slice U3 n3 c3, .slice U4 n4 c4, .slice U5 n5 c5, .int .i64 r.timer] 44)
 go_enter Tryz.func60, Tryz.ntmps60
 go_upto_region 1 with fail
 generalize w.alloc (.cells #[.int .i64 r.id, .int .i64 r.entry, .int .i64 r.exit, .slice U3 n3 c3, .slice U4 n4 c4, .slice U5 n5 c5, .int .i64 r.timer] 44) = q at hq0 hqb ⊢
 have XP := Lib.hid hq0
 have BQ := Lib.hid hqb
 have HRq := Lib.hid ((HA.out.below hqb).more hqb.size)
 clear hq0 hqb HA
 obtain ⟨k0, k1, k2, k3, k4, k5, k6⟩ := cell7_of XP.out
 go_upto_region 3 with fail
 have O0 : Hid (IntsOwn (q.alloc (.cells #[.int .i64 r.id, .int .i64 r.entry, .int .i64 r.exit] 3)) q.heap.size (.slice (some ⟨q.heap.size, 0, none⟩) 3 3) [r.id, r.entry, r.exit]) := Lib.hid (ints_own_alloc q [r.id, r.entry, r.exit] (by simp))
 have O0b := Lib.hid (below_new q (.cells #[.int .i64 r.id, .int .i64 r.entry, .int .i64 r.exit] 3))
 generalize q.alloc (.cells #[.int .i64 r.id, .int .i64 r.entry, .int .i64 r.exit] 3) = w0 at O0 O0b ⊢
 have HRw0 : Hid (RtIn w0 q.heap.size (.slice U3 n3 c3) (.slice U4 n4 c4) (.slice U5 n5 c5) r) := Lib.hid (HRq.out.below O0b.out)
 clear k0 k1 k2 k3 k4 k5 k6
 obtain ⟨k0, k1, k2, k3, k4, k5, k6⟩ := cell7_of ((O0b.out.block _ (heap_lt XP.out)).trans XP.out)
 go_wp2_with fail
 refine (pcount_int _ _ _ q.heap.size [r.id, r.entry, r.exit] _ r.path w0 O0.out rfl HRw0.out.path O0b.out.size BD1.out BQ1.out _ rfl).mono ?_
 rintro e w1 ⟨A1, m1, d1, rfl, hm1, ho1, b1⟩
 have M1 := Lib.hid hm1
 have O1 := Lib.hid ho1
 have O1b : Hid (Below q.heap.size q w1) := Lib.hid (O0b.out.trans b1)
 have HRw1 : Hid (RtIn w1 q.heap.size (.slice U3 n3 c3) (.slice U4 n4 c4) (.slice U5 n5 c5) r) := Lib.hid (HRw0.out.below b1)
 obtain ⟨k0, k1, k2, k3, k4, k5, k6⟩ := cell7_of ((O1b.out.block _ (heap_lt XP.out)).trans XP.out)
 clear hm1 ho1 b1
 go_wp2_with fail
 refine (pcount_int _ _ _ q.heap.size ([r.id, r.entry, r.exit] ++ (r.path.length : Int) :: r.path.flatMap (fun z : Int => [z])) _ r.over w1 O1.out M1.out HRw1.out.over O1b.out.size BD2.out BQ2.out _ rfl).mono ?_
 rintro e w2 ⟨A2, m2, d2, rfl, hm2, ho2, b2⟩
 have M2 := Lib.hid hm2
 have O2 := Lib.hid ho2
 have O2b : Hid (Below q.heap.size q w2) := Lib.hid (O1b.out.trans b2)
 have HRw2 : Hid (RtIn w2 q.heap.size (.slice U3 n3 c3) (.slice U4 n4 c4) (.slice U5 n5 c5) r) := Lib.hid (HRw1.out.below b2)
 obtain ⟨k0, k1, k2, k3, k4, k5, k6⟩ := cell7_of ((O2b.out.block _ (heap_lt XP.out)).trans XP.out)
 clear hm2 ho2 b2
 go_wp2_with fail
 refine (pcount_flank _ _ _ q.heap.size (([r.id, r.entry, r.exit] ++ (r.path.length : Int) :: r.path.flatMap (fun z : Int => [z])) ++ (r.over.length : Int) :: r.over.flatMap (fun z : Int => [z])) _ r.flanks w2 O2.out M2.out HRw2.out.flanks O2b.out.size BD3.out BQ3.out _ rfl).mono ?_
 rintro e w3 ⟨A3, m3, d3, rfl, hm3, ho3, b3⟩
 have M3 := Lib.hid hm3
 have O3 := Lib.hid ho3
 have O3b : Hid (Below q.heap.size q w3) := Lib.hid (O2b.out.trans b3)
 have HRw3 : Hid (RtIn w3 q.heap.size (.slice U3 n3 c3) (.slice U4 n4 c4) (.slice U5 n5 c5) r) := Lib.hid (HRw2.out.below b3)
 obtain ⟨k0, k1, k2, k3, k4, k5, k6⟩ := cell7_of ((O3b.out.block _ (heap_lt XP.out)).trans XP.out)
 clear hm3 ho3 b3
 have M3b : Hid (m3 ≤ 10000) := Lib.hid (by rw [M3.out]; have := BD4.out; omega)
 go_wp2_with ((with_reducible show wpList _ _ _ (⟨some 30, _, _, _, _, _⟩ :: _) _ _); refine wpList_append_ints rfl (.tmp 26) (.tmp 29) rfl (lo := q.heap.size) rfl (O3.out.below intR (below_new _ _)) M3.out rfl (ints_alloc _ [r.timer] (by simp)) (m3 + 1) rfl (by have := M3b.out; omega) (by have := O3b.out.size; simp; omega) ?_; intro A5 c5 w5 ho5 hb5 _; have O5 := Lib.hid ho5; have B5 := Lib.hid hb5; clear ho5 hb5)
 go_ret
 exact ⟨_, _, _, rfl, by rw [← NF.out, List.length_append, M3.out]; rfl, by rw [← NF.out]; exact O5.out.mono BQ.out.size, (BQ.out.trans (O3b.out.mono BQ.out.size)).trans ((below_new w3 _).mono (Nat.le_trans BQ.out.size O3b.out.size) |>.trans (B5.out.mono BQ.out.size))⟩

set_option maxHeartbeats 4000000 in
theorem pcount_route (A0 : Option Addr) (n0 c0 lo : Nat) (L : List Int) (v : Value) (l : List Rt) (w : World) (hO : IntsOwn w lo (.slice A0 n0 c0) L) (hn0 : n0 = L.length) (h : RoutesIn w lo v l) (hlo : lo ≤ w.heap.size) (hbd : L.length + 1 + (l.flatMap numsR).length ≤ 10000) (hll : l.length ≤ 10000) (Lr : List Int) (hLr : L ++ (l.length : Int) :: l.flatMap numsR = Lr) :
  Calls Tryz.prog 59 #[.slice A0 n0 c0, v, .func (.func 60) #[] #[]] w fun e w' => ∃ A n c, e = .returned (.slice A n c) ∧ n = (Lr).length ∧ IntsOwn w' lo (.slice A n c) (Lr) ∧ Below lo w w' := by
 have HLR := Lib.hid hLr
 clear hLr
 have HO0 := Lib.hid hO
 have HN0 := Lib.hid hn0
 have HLO := Lib.hid hlo
 have HBD := Lib.hid hbd
 have H_ := Lib.hid h
 obtain ⟨A, c, rfl, hcl, hcm⟩ := h.slice
 obtain ⟨n, hn⟩ : ∃ n, n = l.length := ⟨_, rfl⟩
 have HN := Lib.hid hn
 have HA : Hid (RoutesIn w lo (.slice A n c) l) := Lib.hid (by rw [hn]; exact H_.out)
 have hn4 : n ≤ 10000 := by rw [hn]; exact hll
 have hbn : n0 ≤ 10000 := by rw [hn0]; omega
 have HLL := Lib.hid hn4
 rw [← hn]
 have I1 := Lib.hid (ints_alloc w [(n : Int)] (by simp))
 have O1_ := Lib.hid (hO.below intR (below_new w (.cells (([(n : Int)] : List Int).map fun z => Value.int .i64 z).toArray 3)))
 clear hn hO hn0 hlo hbd hll H_ h hcl hcm
 go_enter Tryz.func59, Tryz.ntmps59
 go_wp2_with ((with_reducible show wpList _ _ _ (⟨some 13, _, _, _, _, _⟩ :: _) _ _); refine wpList_append_ints rfl (.tmp 9) (.tmp 12) rfl (lo := lo) rfl O1_.out HN0.out rfl I1.out (n0 + 1) rfl (by omega) (by have := HLO.out; simp; omega) ?_; intro A5 c5 w5 ho5 hb5 _; have O5 := Lib.hid ho5; have B5 := Lib.hid hb5; clear ho5 hb5)
 have BB5 : Hid (Below lo w w5) := Lib.hid (((below_new w _).mono HLO.out).trans B5.out)
 go_loopw [0, 16] (fun s0 s16 wr => ∃ (i m c : Nat) (A : Option Addr), s16 = .int .i64 i ∧ i ≤ n ∧ s0 = .slice A m c ∧ m = (cntL numsR L l i).length ∧ m ≤ 10000 ∧ IntsOwn wr lo (.slice A m c) (cntL numsR L l i) ∧ Below lo w wr) (fun _ s16 _ => n - (intOf s16).toNat)
 case atStart => exact ⟨0, n0 + 1, c5, A5, by go_num, by omega, rfl, by rw [cntL_zero, List.length_append, HN0.out]; rfl, by have := HBD.out; have := HN0.out; omega, by rw [cntL_zero, ← HN.out]; exact O5.out, BB5.out⟩
 case round =>
  obtain ⟨i, m, c, A, rfl, hi, rfl, hm, hmb, ho, hb⟩ := hrel
  have HO := Lib.hid ho
  have BW := Lib.hid hb
  have HM := Lib.hid hm
  clear ho hb hm O5 B5 BB5 O1_ I1 HO0
  by_cases hlt : i < n
  ·have hlt' : (i : Int) < n := by omega
   have hir : i < l.length := by rw [← HN.out]; exact hlt
   obtain ⟨bk, off, rfl, hbk, hc0, hc1, hc2, hc6, u3, u4, u5, hc3, hc4, hc5, hu⟩ := ((HA.out.below routeR BW.out).more routeR (Nat.le_trans HLO.out BW.out.size)).at hir
   obtain ⟨x, hx⟩ : ∃ x, l[i] = x := ⟨_, rfl⟩
   have HX := Lib.hid hx
   rw [hx] at hc0 hc1 hc2 hc6 hu
   obtain ⟨U3, c3, rfl, -, -⟩ := hu.path.slice
   obtain ⟨U4, c4, rfl, -, -⟩ := hu.over.slice
   obtain ⟨U5, c5, rfl, -, -⟩ := hu.flanks.slice
   obtain ⟨n3, hn3⟩ : ∃ n, n = x.path.length := ⟨_, rfl⟩
   obtain ⟨n4, hn4⟩ : ∃ n, n = x.over.length := ⟨_, rfl⟩
   obtain ⟨n5, hn5⟩ : ∃ n, n = x.flanks.length := ⟨_, rfl⟩
   have HV : Hid (RouteV wr wr.heap.size (.agg #[.int .i64 x.id, .int .i64 x.entry, .int .i64 x.exit, .slice U3 n3 c3, .slice U4 n4 c4, .slice U5 n5 c5, .int .i64 x.timer]) x) := Lib.hid ⟨_, _, _, rfl, by rw [hn3, hn4, hn5]; exact hu⟩
   rw [← hn3] at hc3
   rw [← hn4] at hc4
   rw [← hn5] at hc5
   have HES : Hid ((numsR x).length ≤ 10000) := Lib.hid (by
    have h1 := cntL_len numsR L l (i + 1)
    rw [← cntL_succ hir, hx, List.length_append] at h1
    have := HBD.out
    omega)
   clear hn3 hn4 hn5 hu
   have hg0 : wr.cell? ⟨bk, off + i * 7, none⟩ = some (.int .i64 x.id) := hc0
   have hg1 : wr.cell? ⟨bk, off + i * 7 + 1, none⟩ = some (.int .i64 x.entry) := hc1
   have hg2 : wr.cell? ⟨bk, off + i * 7 + 2, none⟩ = some (.int .i64 x.exit) := hc2
   have hg3 : wr.cell? ⟨bk, off + i * 7 + 3, none⟩ = some (.slice U3 n3 c3) := hc3
   have hg4 : wr.cell? ⟨bk, off + i * 7 + 4, none⟩ = some (.slice U4 n4 c4) := hc4
   have hg5 : wr.cell? ⟨bk, off + i * 7 + 5, none⟩ = some (.slice U5 n5 c5) := hc5
   have hg6 : wr.cell? ⟨bk, off + i * 7 + 6, none⟩ = some (.int .i64 x.timer) := hc6
   clear hc0 hc1 hc2 hc3 hc4 hc5 hc6 hx hbk
   obtain ⟨q1, hq⟩ : ∃ q_, q_ = wr.alloc (.cells #[.int .i64 x.id, .int .i64 x.entry, .int .i64 x.exit, .slice U3 n3 c3, .slice U4 n4 c4, .slice U5 n5 c5, .int .i64 x.timer] 44) := ⟨_, rfl⟩
   have x1 := heap_alloc_self wr (.cells #[.int .i64 x.id, .int .i64 x.entry, .int .i64 x.exit, .slice U3 n3 c3, .slice U4 n4 c4, .slice U5 n5 c5, .int .i64 x.timer] 44)
   have b1 := below_new wr (.cells #[.int .i64 x.id, .int .i64 x.entry, .int .i64 x.exit, .slice U3 n3 c3, .slice U4 n4 c4, .slice U5 n5 c5, .int .i64 x.timer] 44)
   rw [← hq] at x1 b1
   go_upto_region 5 with fail
   rw [← hq]
   have X1 := Lib.hid x1
   have B1 := Lib.hid (BW.out.trans (b1.mono (Nat.le_trans HLO.out BW.out.size)))
   generalize wr.heap.size = p1 at X1 ⊢
   clear hq hg0 hg1 hg2 hg3 hg4 hg5 hg6
   have O1 := Lib.hid (HO.out.below intR b1)
   have HV1 := Lib.hid ((HV.out.below b1).more b1.size)
   clear x1 b1
   obtain ⟨k0, k1, k2, k3, k4, k5, k6⟩ := cell7_of X1.out
   go_wp2_with fail
   refine (proutenums_any _ x q1 HV1.out HES.out).mono ?_
   rintro e w2 ⟨A2, n2, c2, rfl, hn2, ho2, b2⟩
   have O2 := Lib.hid (O1.out.below intR b2)
   have E2 := Lib.hid (ho2.in_ intR_cells)
   have B2 := Lib.hid (B1.out.trans (b2.mono (Nat.le_trans HLO.out B1.out.size)))
   have NX := Lib.hid (cntL_succ (f := numsR) (L := L) hir)
   have LX := Lib.hid (cntL_len numsR L l (i + 1))
   rw [HX.out] at NX
   have HMN : Hid (m + n2 = (cntL numsR L l (i + 1)).length) := Lib.hid (by rw [← NX.out, List.length_append, ← HM.out, hn2]; try rfl)
   have HMN2 : Hid (m + n2 ≤ 10000) := Lib.hid (by rw [HMN.out]; exact Nat.le_trans LX.out HBD.out)
   have N2 := Lib.hid hn2
   clear ho2 b2 hn2
   go_wp2_with ((with_reducible show wpList _ _ _ (⟨some 24, _, _, _, _, _⟩ :: _) _ _); refine wpList_append_ints rfl (.tmp 20) (.tmp 23) rfl (lo := lo) rfl O2.out HM.out rfl E2.out (m + n2) (by rw [← N2.out]) (by have := HMN2.out; omega) (Nat.le_trans HLO.out B2.out.size) ?_; intro A5 c5 w5 ho5 hb5 _; have O5 := Lib.hid ho5; have B5 := Lib.hid hb5; clear ho5 hb5)
   go_roundw
   case measure => simp [intOf]; omega
   case rel => exact ⟨i + 1, m + n2, c5, A5, by go_num, by omega, rfl, HMN.out, HMN2.out, by rw [← NX.out]; exact O5.out, B2.out.trans B5.out⟩
  ·obtain rfl : n = i := by omega
   have hlt' : ¬ (n : Int) < n := by omega
   have HE : Hid (cntL numsR L l n = Lr) := Lib.hid (by rw [cntL_all HN.out]; exact HLR.out)
   go_wp2_with fail
   go_ret
   exact ⟨_, _, _, rfl, by rw [HM.out, HE.out], by rw [← HE.out]; exact HO.out, BW.out⟩
set_option maxHeartbeats 4000000 in
theorem pnumbers_any (v : Value) (p : Pl) (w : World) (h : PlanV w w.heap.size v p) (hm : PlanMay p) :
  Calls Tryz.prog 22 #[v] w fun e w' => ∃ A n c, e = .returned (.slice A n c) ∧ n = (numsP p).length ∧ IntsOwn w' w.heap.size (.slice A n c) (numsP p) ∧ Below w.heap.size w w' := by
 have hlen := rest_len hm
 have hlr : (restP p).length = 4 + (p.secs.flatMap numsS).length + (p.pts.flatMap numsJ).length + (p.sigs.flatMap numsG).length + (p.routes.flatMap numsR).length := by
  simp only [restP, List.length_cons, List.length_append]; omega
 have BD1 : Hid (([p.ver, p.par] : List Int).length + 1 + (p.secs.flatMap numsS).length ≤ 10000) := Lib.hid (by simp only [List.length_cons, List.length_nil]; omega)
 have BD2 : Hid (([p.ver, p.par] ++ (p.secs.length : Int) :: p.secs.flatMap numsS).length + 1 + (p.pts.flatMap numsJ).length ≤ 10000) := Lib.hid (by simp only [List.length_append, List.length_cons, List.length_nil]; omega)
 have BD3 : Hid ((([p.ver, p.par] ++ (p.secs.length : Int) :: p.secs.flatMap numsS) ++ (p.pts.length : Int) :: p.pts.flatMap numsJ).length + 1 + (p.sigs.flatMap numsG).length ≤ 10000) := Lib.hid (by simp only [List.length_append, List.length_cons, List.length_nil]; omega)
 have BD4 : Hid (((([p.ver, p.par] ++ (p.secs.length : Int) :: p.secs.flatMap numsS) ++ (p.pts.length : Int) :: p.pts.flatMap numsJ) ++ (p.sigs.length : Int) :: p.sigs.flatMap numsG).length + 1 + (p.routes.flatMap numsR).length ≤ 10000) := Lib.hid (by simp only [List.length_append, List.length_cons, List.length_nil]; omega)
 have BQ1 : Hid (p.secs.length ≤ 10000) := Lib.hid (by have := hm.secs.n; omega)
 have BQ2 : Hid (p.pts.length ≤ 10000) := Lib.hid (by have := hm.pts.n; omega)
 have BQ3 : Hid (p.sigs.length ≤ 10000) := Lib.hid (by have := hm.sigs.n; omega)
 have BQ4 : Hid (p.routes.length ≤ 10000) := Lib.hid (by have := hm.n; omega)
 have NF : Hid (((([p.ver, p.par] ++ (p.secs.length : Int) :: p.secs.flatMap numsS) ++ (p.pts.length : Int) :: p.pts.flatMap numsJ) ++ (p.sigs.length : Int) :: p.sigs.flatMap numsG) ++ (p.routes.length : Int) :: p.routes.flatMap numsR = numsP p) := Lib.hid (by simp [numsP])
 clear hlen hlr hm
 obtain ⟨A2, c2, A3, c3, A4, c4, A5, c5, n2, n3, n4, n5, rfl, hm2, hm3, hm4, hm5, HCP, HIN, HN⟩ := open_plan h
 have hq0 := heap_alloc_self w (.cells #[.int .i64 p.ver, .int .i64 p.par, .slice A2 n2 c2, .slice A3 n3 c3, .slice A4 n4 c4, .slice A5 n5 c5] 28)
 have hqb := below_new w (.cells #[.int .i64 p.ver, .int .i64 p.par, .slice A2 n2 c2, .slice A3 n3 c3, .slice A4 n4 c4, .slice A5 n5 c5] 28)
 go_enter Tryz.func22, Tryz.ntmps22
 go_upto_region 1 with fail
 generalize w.alloc (.cells #[.int .i64 p.ver, .int .i64 p.par, .slice A2 n2 c2, .slice A3 n3 c3, .slice A4 n4 c4, .slice A5 n5 c5] 28) = q at hq0 hqb ⊢
 have XP := Lib.hid hq0
 have BQ := Lib.hid hqb
 clear hq0 hqb
 have HRq := Lib.hid ((HIN.out.below BQ.out).more BQ.out.size)
 obtain ⟨k0, k1, k2, k3, k4, k5⟩ := cell6_of XP.out
 go_upto_region 2 with fail
 have O0 : Hid (IntsOwn (q.alloc (.cells #[.int .i64 p.ver, .int .i64 p.par] 3)) q.heap.size (.slice (some ⟨q.heap.size, 0, none⟩) 2 2) [p.ver, p.par]) := Lib.hid (ints_own_alloc q [p.ver, p.par] (by simp))
 have O0b := Lib.hid (below_new q (.cells #[.int .i64 p.ver, .int .i64 p.par] 3))
 generalize q.alloc (.cells #[.int .i64 p.ver, .int .i64 p.par] 3) = w0 at O0 O0b ⊢
 have HRw0 := Lib.hid (HRq.out.below O0b.out)
 clear k0 k1 k2 k3 k4 k5
 obtain ⟨k0, k1, k2, k3, k4, k5⟩ := cell6_of ((O0b.out.block _ (heap_lt XP.out)).trans XP.out)
 go_wp2_with fail
 refine (pcount_section _ _ _ q.heap.size [p.ver, p.par] _ p.secs w0 O0.out rfl HRw0.out.secs O0b.out.size BD1.out BQ1.out _ rfl).mono ?_
 rintro e w1 ⟨A1, m1, d1, rfl, hm1, ho1, b1⟩
 have M1 := Lib.hid hm1
 have O1 := Lib.hid ho1
 have O1b : Hid (Below q.heap.size q w1) := Lib.hid (O0b.out.trans b1)
 have HRw1 := Lib.hid (HRw0.out.below b1)
 obtain ⟨k0, k1, k2, k3, k4, k5⟩ := cell6_of ((O1b.out.block _ (heap_lt XP.out)).trans XP.out)
 clear hm1 ho1 b1
 go_wp2_with fail
 refine (pcount_point _ _ _ q.heap.size ([p.ver, p.par] ++ (p.secs.length : Int) :: p.secs.flatMap numsS) _ p.pts w1 O1.out M1.out HRw1.out.pts O1b.out.size BD2.out BQ2.out _ rfl).mono ?_
 rintro e w2 ⟨A2, m2, d2, rfl, hm2, ho2, b2⟩
 have M2 := Lib.hid hm2
 have O2 := Lib.hid ho2
 have O2b : Hid (Below q.heap.size q w2) := Lib.hid (O1b.out.trans b2)
 have HRw2 := Lib.hid (HRw1.out.below b2)
 obtain ⟨k0, k1, k2, k3, k4, k5⟩ := cell6_of ((O2b.out.block _ (heap_lt XP.out)).trans XP.out)
 clear hm2 ho2 b2
 go_wp2_with fail
 refine (pcount_signal _ _ _ q.heap.size (([p.ver, p.par] ++ (p.secs.length : Int) :: p.secs.flatMap numsS) ++ (p.pts.length : Int) :: p.pts.flatMap numsJ) _ p.sigs w2 O2.out M2.out HRw2.out.sigs O2b.out.size BD3.out BQ3.out _ rfl).mono ?_
 rintro e w3 ⟨A3, m3, d3, rfl, hm3, ho3, b3⟩
 have M3 := Lib.hid hm3
 have O3 := Lib.hid ho3
 have O3b : Hid (Below q.heap.size q w3) := Lib.hid (O2b.out.trans b3)
 have HRw3 := Lib.hid (HRw2.out.below b3)
 obtain ⟨k0, k1, k2, k3, k4, k5⟩ := cell6_of ((O3b.out.block _ (heap_lt XP.out)).trans XP.out)
 clear hm3 ho3 b3
 go_wp2_with fail
 refine (pcount_route _ _ _ q.heap.size ((([p.ver, p.par] ++ (p.secs.length : Int) :: p.secs.flatMap numsS) ++ (p.pts.length : Int) :: p.pts.flatMap numsJ) ++ (p.sigs.length : Int) :: p.sigs.flatMap numsG) _ p.routes w3 O3.out M3.out HRw3.out.routes O3b.out.size BD4.out BQ4.out _ rfl).mono ?_
 rintro e w4 ⟨A4, m4, d4, rfl, hm4, ho4, b4⟩
 have M4 := Lib.hid hm4
 have O4 := Lib.hid ho4
 have O4b : Hid (Below q.heap.size q w4) := Lib.hid (O3b.out.trans b4)
 have HRw4 := Lib.hid (HRw3.out.below b4)
 obtain ⟨k0, k1, k2, k3, k4, k5⟩ := cell6_of ((O4b.out.block _ (heap_lt XP.out)).trans XP.out)
 clear hm4 ho4 b4
 go_wp2_with fail
 go_ret
 exact ⟨_, _, _, rfl, by rw [← NF.out, M4.out], by rw [← NF.out]; exact O4.out.mono BQ.out.size, BQ.out.trans (O4b.out.mono BQ.out.size)⟩
theorem pputL_len : ∀ l : List Int, NumsOk l → (putL l).length ≤ 5 * l.length
 | [], _ => Nat.le_refl _
 | z :: l, h => by
  rw [putL_cons, List.length_append, List.length_cons]
  have h1 := h.head
  have h2 := bytesOf_length_le (n := z.toNat) (by omega)
  have h3 := pputL_len l h.tail
  omega
set_option maxHeartbeats 4000000 in
theorem ptext_any (hs : PlanSaid) (v : Value) (p : Pl) (w : World) (h : PlanV w w.heap.size v p) :
  Calls Tryz.prog 11 #[v] w fun e w' => ∃ u, e = .returned (.tuple #[u, .int .i64 (textE p)]) ∧ TxtOwn w' w.heap.size u (textV p) ∧ Below w.heap.size w w' := by
 obtain ⟨A2, c2, A3, c3, A4, c4, A5, c5, n2, n3, n4, n5, rfl, hm2, hm3, hm4, hm5, HCP, HIN, HN⟩ := open_plan h
 have hq0 := heap_alloc_self w (.cells #[.int .i64 p.ver, .int .i64 p.par, .slice A2 n2 c2, .slice A3 n3 c3, .slice A4 n4 c4, .slice A5 n5 c5] 28)
 have hqb := below_new w (.cells #[.int .i64 p.ver, .int .i64 p.par, .slice A2 n2 c2, .slice A3 n3 c3, .slice A4 n4 c4, .slice A5 n5 c5] 28)
 go_enter Tryz.func11, Tryz.ntmps11
 go_upto_region 1 with fail
 generalize w.alloc (.cells #[.int .i64 p.ver, .int .i64 p.par, .slice A2 n2 c2, .slice A3 n3 c3, .slice A4 n4 c4, .slice A5 n5 c5] 28) = q at hq0 hqb ⊢
 have XP := Lib.hid hq0
 have BQ := Lib.hid hqb
 clear hq0 hqb
 obtain ⟨k0, k1, k2, k3, k4, k5⟩ := cell6_of XP.out
 have PV : Hid (PlanV q q.heap.size (.agg #[.int .i64 p.ver, .int .i64 p.par, .slice A2 n2 c2, .slice A3 n3 c3, .slice A4 n4 c4, .slice A5 n5 c5]) p) := Lib.hid ⟨_, _, _, _, rfl, (HIN.out.below BQ.out).more BQ.out.size⟩
 go_wp2_with fail
 refine (hs.check _ p q PV.out).mono ?_
 rintro e w1 ⟨rfl, b1⟩
 have B1 := Lib.hid (BQ.out.trans (b1.mono BQ.out.size))
 have XP1 := Lib.hid ((b1.block _ (heap_lt XP.out)).trans XP.out)
 have PV1 := Lib.hid ((PV.out.below b1).more b1.size)
 clear b1 k0 k1 k2 k3 k4 k5 XP PV HIN
 rcases text_cases p with ⟨hm, he, hv⟩ | ⟨hm, he, hv⟩
 rotate_left
 ·have HE : Hid (textE p = 8 ∧ textV p = []) := Lib.hid ⟨he, hv⟩
  have HC : chk8 p = 8 := by rw [chk8, planMay_false hm]; rfl
  clear hm he hv
  rw [HC]
  clear HC
  go_wp2_with fail
  refine bodyPost_ret (results_tmp2 rfl _ _ _) rfl ?_
  exact ⟨_, by rw [HE.out.1]; rfl, by rw [HE.out.2]; exact TxtOwn.nil_, B1.out⟩
 have HE : Hid (textE p = 0 ∧ textV p = textL p) := Lib.hid ⟨he, hv⟩
 have HC : chk8 p = 0 := by rw [chk8, planMay_true hm]; rfl
 have HM_ := Lib.hid hm
 clear hm he hv
 rw [HC]
 clear HC
 obtain ⟨k0, k1, k2, k3, k4, k5⟩ := cell6_of XP1.out
 go_wp2_with fail
 refine (pnumbers_any _ p w1 PV1.out HM_.out).mono ?_
 rintro e w2 ⟨A, n, c, rfl, hn, ho, hb⟩
 have HA := Lib.hid (ho.in_ intR_cells)
 have B2 := Lib.hid (B1.out.trans (hb.mono B1.out.size))
 have HN := Lib.hid hn
 have HL : Hid (n ≤ 1000) := Lib.hid (by rw [hn, numsP_eq, List.length_cons, List.length_cons]; have := rest_len HM_.out; omega)
 have HK := Lib.hid (nums_ok HM_.out)
 have hn4 : n ≤ 1000 := HL.out
 have PLE : Hid (∀ m : List Int, (putL m).length ≤ 5 * m.length ∨ ¬ NumsOk m) := Lib.hid (fun m => by
  by_cases hm : NumsOk m
  ·exact .inl (pputL_len m hm)
  ·exact .inr hm)
 have HTL : Hid (putL (numsP p) = textL p) := Lib.hid rfl
 generalize numsP p = l at HA HN HK HTL hn
 clear ho hb hn k0 k1 k2 k3 k4 k5
 go_wp2_with fail
 go_loopw [5, 18] (fun s5 s18 wr => ∃ i : Nat, s18 = .int .i64 i ∧ i ≤ n ∧ TxtOwn wr w2.heap.size s5 (putL (l.take i)) ∧ Below w2.heap.size w2 wr) (fun _ s18 _ => n - (intOf s18).toNat)
 case atStart => exact ⟨0, by go_num, by omega, by rw [List.take_zero]; exact TxtOwn.nil_, Below.refl _ _⟩
 case round =>
  obtain ⟨i, rfl, hi, ho, hb⟩ := hrel
  have HO := Lib.hid ho
  have BW := Lib.hid hb
  clear ho hb
  by_cases hlt : i < n
  ·have hlt' : (i : Int) < n := by omega
   have hil : i < l.length := by rw [← HN.out]; exact hlt
   obtain ⟨N, hy⟩ : ∃ N : Nat, l.getD i 0 = (N : Int) := ⟨(l.getD i 0).toNat, by have := HK.out (l.getD i 0) (by rw [List.getD, List.getElem?_eq_getElem hil]; exact List.getElem_mem hil); omega⟩
   have HNB : Hid (N ≤ 2147483647) := Lib.hid (by have := HK.out (l.getD i 0) (by rw [List.getD, List.getElem?_eq_getElem hil]; exact List.getElem_mem hil); omega)
   obtain ⟨bs, os, e2, hbs, hq1⟩ := ints_atD ((HA.out.below intR BW.out).more intR BW.out.size) hil
   cases e2
   rw [hy] at hq1
   have NX : Hid (putL (l.take i) ++ bytesOf N = putL (l.take (i + 1))) := Lib.hid (by
    rw [take_snoc hil, putL_snoc]
    congr 2
    rw [List.getD, List.getElem?_eq_getElem hil] at hy
    have : l[i] = (N : Int) := hy
    omega)
   have LE : Hid ((putL (l.take i)).length ≤ 50000) := Lib.hid (by
    rcases PLE.out (l.take i) with h | h
    ·rw [List.length_take] at h
     have := HL.out
     omega
    ·exact absurd (fun z hz => HK.out z (List.mem_of_mem_take hz)) h)
   have PS : Hid (putSpec (N : Int) = (bytesOf N, 0)) := Lib.hid (by rw [putSpec, if_neg (by have := HNB.out; omega), Int.toNat_natCast])
   clear hbs hy
   go_wp2_with fail
   refine (put_any (N : Int) wr).mono ?_
   rw [PS.out]
   rintro e w5 ⟨u5, rfl, ho5, hb5⟩
   have O5 : Hid (TxtOwn w5 wr.heap.size u5 (bytesOf N)) := Lib.hid ho5
   have B5 := Lib.hid hb5
   have HO5 := Lib.hid (HO.out.below hb5)
   have LB := Lib.hid (bytesOf_length_le HNB.out)
   clear ho5 hb5
   go_wp2_with ((with_reducible show wpList _ _ _ (⟨some 29, _, _, _, _, _⟩ :: _) _ _); refine wpList_append_bytes rfl (.tmp 27) (.tmp 28) rfl rfl HO5.out rfl (O5.out.txt (by have := LB.out; unfold maxLen; omega)) (by have := LB.out; have := LE.out; omega) (Nat.le_trans BW.out.size B5.out.size) ?_; intro v6 w6 ho6 hb6 _; have O6 := Lib.hid ho6; have B6 := Lib.hid hb6; clear ho6 hb6)
   go_roundw
   case measure => simp [intOf]; omega
   case rel => exact ⟨i + 1, by go_num, by omega, by rw [← NX.out]; exact O6.out, BW.out.trans ((B5.out.mono BW.out.size).trans B6.out)⟩
  ·obtain rfl : n = i := by omega
   have hlt' : ¬ (n : Int) < n := by omega
   have HF : Hid (putL (l.take n) = textL p) := Lib.hid (by rw [HN.out, List.take_length]; exact HTL.out)
   go_wp2_with fail
   refine bodyPost_ret (results_tmp2 rfl _ _ _) rfl ?_
   exact ⟨_, by rw [HE.out.1]; rfl, by rw [HE.out.2, ← HF.out]; exact HO.out.mono B2.out.size, B2.out.trans (BW.out.mono B2.out.size)⟩
end Go.Proofs.YteloiajocjahmaaGreatDoor
