/-
 The document's own package state: what is great.
 Conditions: none.
-/
import Derived.Test.YtemmgmjhomgbbaaGreatVGStaMem
import Derived.Test.YtemmgmjhomgbbaaGreatVGPlnRefB
import Derived.Test.YtemmgmjhomgbbaaGreatVGPlnRefD
set_option linter.unusedVariables false
set_option linter.unusedSimpArgs false
set_option maxRecDepth 100000
namespace Go.Proofs.YtemmgmjhomgbbaaGreat
open Go.RowKit

set_option maxHeartbeats 4000000 in
theorem rgreatS_any (v : Value) (s : St15) (w : World) (h : StateV w w.heap.size v s) :
  Calls Tryz.prog 6 #[v] w fun e w' => (∃ g : Bool, e = .returned (.bool g) ∧ (g = false → FewS s)) ∧ Below w.heap.size w w' := by
 obtain ⟨u0, u1, u2, rfl, hin⟩ := h
 obtain ⟨S0, t0, rfl⟩ := st_sl hin.tr
 obtain ⟨s0, hs0⟩ : ∃ z_, z_ = s.tr.length := ⟨_, rfl⟩
 obtain ⟨S1, t1, rfl⟩ := st_sl hin.sw
 obtain ⟨s1, hs1⟩ : ∃ z_, z_ = s.sw.length := ⟨_, rfl⟩
 obtain ⟨S2, t2, rfl⟩ := st_sl hin.lk
 obtain ⟨s2, hs2⟩ : ∃ z_, z_ = s.lk.length := ⟨_, rfl⟩
 rw [← hs0] at hin
 rw [← hs0]
 rw [← hs1] at hin
 rw [← hs1]
 rw [← hs2] at hin
 rw [← hs2]
 have HN : Hid (s0 = s.tr.length ∧ s1 = s.sw.length ∧ s2 = s.lk.length) := Lib.hid ⟨hs0, hs1, hs2⟩
 clear hs0 hs1 hs2
 have h0 := heap_alloc_self w (.cells #[.slice S0 s0 t0, .slice S1 s1 t1, .slice S2 s2 t2] 32)
 have hb := below_new w (.cells #[.slice S0 s0 t0, .slice S1 s1 t1, .slice S2 s2 t2] 32)
 go_enter Tryz.func6, Tryz.ntmps6
 go_upto_region 1 with fail
 generalize w.alloc (.cells #[.slice S0 s0 t0, .slice S1 s1 t1, .slice S2 s2 t2] 32) = q at h0 hb ⊢
 obtain ⟨k0, k1, k2⟩ := cell3_of h0
 have BQ := Lib.hid hb
 clear h0 hb hin
 by_cases g0 : (s0 : Int) > 200
 ·have d0 : decide ((s0 : Int) > 200) = true := decide_eq_true g0
  go_wp2_with fail
  go_ret
  exact ⟨by first | exact ⟨true, rfl, fun e => by cases e⟩ | exact .inr rfl, BQ.out⟩
 have d0 : decide ((s0 : Int) > 200) = false := decide_eq_false g0
 by_cases g1 : (s1 : Int) > 200
 ·have d1 : decide ((s1 : Int) > 200) = true := decide_eq_true g1
  go_wp2_with fail
  go_ret
  exact ⟨by first | exact ⟨true, rfl, fun e => by cases e⟩ | exact .inr rfl, BQ.out⟩
 have d1 : decide ((s1 : Int) > 200) = false := decide_eq_false g1
 by_cases g2 : (s2 : Int) > 200
 ·have d2 : decide ((s2 : Int) > 200) = true := decide_eq_true g2
  go_wp2_with fail
  go_ret
  exact ⟨by first | exact ⟨true, rfl, fun e => by cases e⟩ | exact .inr rfl, BQ.out⟩
 have d2 : decide ((s2 : Int) > 200) = false := decide_eq_false g2
 have HF : Hid (FewS s) := Lib.hid (by have := HN.out; unfold FewS; omega)
 go_wp2_with fail
 go_ret
 exact ⟨by first | exact ⟨false, rfl, fun _ => HF.out⟩ | exact .inl ⟨rfl, HF.out⟩, BQ.out⟩
set_option maxHeartbeats 16000000 in
theorem rgreatP_any (v : Value) (p : Pl) (w : World) (h : PlanV w w.heap.size v p) :
  Calls Tryz.prog 5 #[v] w fun e w' => (∃ g : Bool, e = .returned (.bool g)) ∧ Below w.heap.size w w' := by
 obtain ⟨y2, y3, y4, y5, rfl, hin⟩ := h
 obtain ⟨A2, c2, rfl, -, -⟩ := hin.secs.slice
 obtain ⟨n2, hn2⟩ : ∃ z_, z_ = p.secs.length := ⟨_, rfl⟩
 obtain ⟨A3, c3, rfl, -, -⟩ := hin.pts.slice
 obtain ⟨n3, hn3⟩ : ∃ z_, z_ = p.pts.length := ⟨_, rfl⟩
 obtain ⟨A4, c4, rfl, -, -⟩ := hin.sigs.slice
 obtain ⟨n4, hn4⟩ : ∃ z_, z_ = p.sigs.length := ⟨_, rfl⟩
 obtain ⟨AR, cR, rfl, -, -⟩ := hin.routes.slice
 obtain ⟨nR, hnR⟩ : ∃ z_, z_ = p.routes.length := ⟨_, rfl⟩
 rw [← hn2] at hin
 rw [← hn2]
 rw [← hn3] at hin
 rw [← hn3]
 rw [← hn4] at hin
 rw [← hn4]
 rw [← hnR] at hin
 rw [← hnR]
 have HN : Hid (n2 = p.secs.length ∧ nR = p.routes.length) := Lib.hid ⟨hn2, hnR⟩
 clear hn2 hn3 hn4 hnR
 have h0 := heap_alloc_self w (.cells #[.int .i64 p.ver, .int .i64 p.par, .slice A2 n2 c2, .slice A3 n3 c3, .slice A4 n4 c4, .slice AR nR cR] 27)
 have hb := below_new w (.cells #[.int .i64 p.ver, .int .i64 p.par, .slice A2 n2 c2, .slice A3 n3 c3, .slice A4 n4 c4, .slice AR nR cR] 27)
 go_enter Tryz.func5, Tryz.ntmps5
 go_upto_region 1 with fail
 generalize w.alloc (.cells #[.int .i64 p.ver, .int .i64 p.par, .slice A2 n2 c2, .slice A3 n3 c3, .slice A4 n4 c4, .slice AR nR cR] 27) = q at h0 hb ⊢
 have X0 := Lib.hid h0
 have BQ := Lib.hid hb
 have HIN := Lib.hid ((hin.below hb).more hb.size)
 clear h0 hb hin
 obtain ⟨k0, k1, k2, k3, k4, k5⟩ := cell6_of X0.out
 by_cases gn2 : (n2 : Int) > 100
 ·have dn2 : decide ((n2 : Int) > 100) = true := decide_eq_true gn2
  go_wp2_with fail
  go_ret
  exact ⟨by first | exact ⟨true, rfl⟩ | exact .inr rfl, BQ.out⟩
 have dn2 : decide ((n2 : Int) > 100) = false := decide_eq_false gn2
 by_cases gn3 : (n3 : Int) > 100
 ·have dn3 : decide ((n3 : Int) > 100) = true := decide_eq_true gn3
  go_wp2_with fail
  go_ret
  exact ⟨by first | exact ⟨true, rfl⟩ | exact .inr rfl, BQ.out⟩
 have dn3 : decide ((n3 : Int) > 100) = false := decide_eq_false gn3
 by_cases gn4 : (n4 : Int) > 100
 ·have dn4 : decide ((n4 : Int) > 100) = true := decide_eq_true gn4
  go_wp2_with fail
  go_ret
  exact ⟨by first | exact ⟨true, rfl⟩ | exact .inr rfl, BQ.out⟩
 have dn4 : decide ((n4 : Int) > 100) = false := decide_eq_false gn4
 by_cases gnR : (nR : Int) > 100
 ·have dnR : decide ((nR : Int) > 100) = true := decide_eq_true gnR
  go_wp2_with fail
  go_ret
  exact ⟨by first | exact ⟨true, rfl⟩ | exact .inr rfl, BQ.out⟩
 have dnR : decide ((nR : Int) > 100) = false := decide_eq_false gnR
 have N2 : Hid (n2 ≤ 100) := Lib.hid (by omega)
 have NR : Hid (nR ≤ 100) := Lib.hid (by omega)
 go_upto_region 5 with fail
 clear gn2 dn2 gn3 dn3 gn4 dn4 gnR dnR k0 k1 k2 k3 k4 k5
 have hn2 : n2 ≤ 100 := N2.out
 go_loopw [4, 3] (fun s4 s3 wr => ∃ (i : Nat) (n : Int), s4 = .int .i64 i ∧ s3 = .int .i64 n ∧ i ≤ n2 ∧ wr = q) (fun s4 _ _ => n2 - (intOf s4).toNat)
 case atStart => exact ⟨0, 0, by go_num, rfl, by omega, rfl⟩
 case round =>
  obtain ⟨i, n, rfl, rfl, hi, rfl⟩ := hrel
  obtain ⟨k0, k1, k2, k3, k4, k5⟩ := cell6_of X0.out
  by_cases hlt : i < n2
  ·have hlt' : (i : Int) < n2 := by omega
   have hir : i < p.secs.length := by have := HN.out; omega
   obtain ⟨bs, os, rfl, hbs, hs0, hs1, ue, hs2, hj⟩ := HIN.out.secs.at hir
   obtain ⟨Au, cu, rfl, -, -⟩ := hj.slice
   have g2 : wr.cell? ⟨bs, os + i * 3 + 2, none⟩ = some (.slice Au p.secs[i].2.2.length cu) := by simpa using hs2
   obtain ⟨nu, hnu⟩ : ∃ n, n = p.secs[i].2.2.length := ⟨_, rfl⟩
   rw [← hnu] at g2
   clear hs0 hs1 hs2 hj hnu hbs
   go_wp2_with fail
   go_roundw
   case measure => simp [intOf]; omega
   case rel => exact ⟨i + 1, _, by go_num, rfl, by first | trivial | exact ⟨by omega, rfl⟩⟩
  ·obtain rfl : n2 = i := by omega
   have hlt' : ¬ (n2 : Int) < n2 := by omega
   go_upto_region 9 with fail
   clear hlt hlt' k0 k1 k2 k3 k4 k5
   obtain ⟨q, hq⟩ : ∃ z, z = wr := ⟨_, rfl⟩
   rw [← hq] at X0 BQ HIN ⊢
   clear hq
   have hnR : nR ≤ 100 := NR.out
   go_loopw [5, 3] (fun s5 s3 wr => ∃ (i : Nat) (n : Int), s5 = .int .i64 i ∧ s3 = .int .i64 n ∧ i ≤ nR ∧ Below q.heap.size q wr) (fun s5 _ _ => nR - (intOf s5).toNat)
   case atStart => exact ⟨0, _, by go_num, rfl, by omega, Below.refl _ _⟩
   case round =>
    obtain ⟨i, n, rfl, rfl, hi, hb⟩ := hrel
    have BW := Lib.hid hb
    clear hb
    obtain ⟨k0, k1, k2, k3, k4, k5⟩ := cell6_of ((BW.out.block _ (heap_lt X0.out)).trans X0.out)
    by_cases hlt : i < nR
    ·have hlt' : (i : Int) < nR := by omega
     have hir : i < p.routes.length := by have := HN.out; omega
     obtain ⟨br, orr, rfl, hbk, hc0, hc1, hc2, hc6, u3, u4, u5, hc3, hc4, hc5, hu⟩ := HIN.out.routes.at hir
     obtain ⟨P0, pd0, rfl, -, -⟩ := hu.path.slice
     obtain ⟨P1, pd1, rfl, -, -⟩ := hu.over.slice
     obtain ⟨P2, pd2, rfl, -, -⟩ := hu.flanks.slice
     obtain ⟨pn0, hn0⟩ : ∃ n, n = p.routes[i].path.length := ⟨_, rfl⟩
     obtain ⟨pn1, hn1⟩ : ∃ n, n = p.routes[i].over.length := ⟨_, rfl⟩
     obtain ⟨pn2, hn2⟩ : ∃ n, n = p.routes[i].flanks.length := ⟨_, rfl⟩
     rw [← hn0] at hc3
     rw [← hn1] at hc4
     rw [← hn2] at hc5
     have HB := Lib.hid hbk
     have G3 : Hid (q.cell? ⟨br, orr + i * 7 + 3, none⟩ = some (.slice P0 pn0 pd0)) := Lib.hid hc3
     have G4 : Hid (q.cell? ⟨br, orr + i * 7 + 4, none⟩ = some (.slice P1 pn1 pd1)) := Lib.hid hc4
     have G5 : Hid (q.cell? ⟨br, orr + i * 7 + 5, none⟩ = some (.slice P2 pn2 pd2)) := Lib.hid hc5
     clear hc0 hc1 hc2 hc3 hc4 hc5 hc6 hu hn0 hn1 hn2 hbk hir
     go_upto_region 11 with fail
     clear k0 k1 k2 k3 k4 k5
     refine wp_region_held_drew (S := fun v => Below q.heap.size q v) (by kernel_rfl) BW.out.drew (fun hHeld => ?_)
     refine tk 0 hHeld ?_;refine tk 1 hHeld ?_;refine tkc 2 hHeld (fun w' hSw => cell6_of (hSw.block _ (heap_lt X0.out) |>.trans X0.out)) ?_;refine tk 3 hHeld ?_;refine tk 4 hHeld ?_;refine tk 5 hHeld ?_;refine tkc 6 hHeld (fun w' hSw => (hSw.cell (p := ⟨br, orr + i * 7 + 3, none⟩) HB.out).trans G3.out) ?_;refine tk 7 hHeld ?_;refine tk 8 hHeld ?_;refine tk 9 hHeld ?_;refine tk 10 hHeld ?_;refine tkc 11 hHeld (fun w' hSw => cell6_of (hSw.block _ (heap_lt X0.out) |>.trans X0.out)) ?_;refine tk 12 hHeld ?_;refine tk 13 hHeld ?_;refine tk 14 hHeld ?_;refine tkc 15 hHeld (fun w' hSw => (hSw.cell (p := ⟨br, orr + i * 7 + 4, none⟩) HB.out).trans G4.out) ?_;refine tk 16 hHeld ?_;refine tk 17 hHeld ?_;refine tk 18 hHeld ?_;refine tk 19 hHeld ?_;refine tkc 20 hHeld (fun w' hSw => cell6_of (hSw.block _ (heap_lt X0.out) |>.trans X0.out)) ?_;refine tk 21 hHeld ?_;refine tk 22 hHeld ?_;refine tk 23 hHeld ?_;refine tkc 24 hHeld (fun w' hSw => (hSw.cell (p := ⟨br, orr + i * 7 + 5, none⟩) HB.out).trans G5.out) ?_;refine tk 25 hHeld ?_;refine tk 26 hHeld ?_;refine tk 27 hHeld ?_;refine tk 28 hHeld ?_
     have tb := BW.out.drew
     generalize wr.drew = q0 at tb hHeld ⊢
     have BE := Lib.hid tb
     clear tb
     refine wpAnyH_done (by kernel_rfl) ?_ _
     go_wp2_with fail
     go_roundw
     case measure => simp [intOf]; omega
     case rel => exact ⟨i + 1, _, by go_num, rfl, by omega, BE.out⟩
    ·obtain rfl : nR = i := by omega
     have hlt' : ¬ (nR : Int) < nR := by omega
     have BF := Lib.hid (BQ.out.trans (BW.out.mono BQ.out.size))
     by_cases gn : n > 1000
     ·have dn : decide (n > 1000) = true := decide_eq_true gn
      clear gn
      go_wp2_with fail
      go_ret
      exact ⟨by first | exact ⟨_, rfl⟩ | exact .inr rfl, BF.out⟩
     ·have dn : decide (n > 1000) = false := decide_eq_false gn
      clear gn
      go_wp2_with fail
      go_ret
      exact ⟨by first | exact ⟨_, rfl⟩ | exact .inl rfl, BF.out⟩
end Go.Proofs.YtemmgmjhomgbbaaGreat
