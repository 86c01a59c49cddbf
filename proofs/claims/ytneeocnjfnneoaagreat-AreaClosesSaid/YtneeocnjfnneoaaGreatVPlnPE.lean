/-
 The program's package plan: leaves, flanks, versions.
 Conditions: none.
-/
import Derived.Test.YtneeocnjfnneoaaGreatVPlnPD
set_option linter.unusedVariables false
set_option linter.unusedSimpArgs false
set_option maxRecDepth 100000
namespace Go.Proofs.YtneeocnjfnneoaaGreat
open Go.RowKit

def LeavesP (p : Pl) (r : Rt) : Prop := (r.exit = 0 → r.over.length = 0) ∧ (r.exit ≠ 0 → 0 ≤ at1 kSg p.sigs r.exit ∧ r.exit ≠ r.entry)
set_option maxHeartbeats 8000000 in
theorem leaves_any (v y : Value) (p : Pl) (r : Rt) (w : World) (h : PlanV w w.heap.size v p) (h' : RouteV w w.heap.size y r) :
  Calls Tryz.prog 114 #[v, y] w fun e w' => e = .returned (.bool (propB (LeavesP p r))) ∧ Below w.heap.size w w' := by
 obtain ⟨A2, c2, A3, c3, A4, c4, A5, c5, n2, n3, n4, n5, rfl, hm2, hm3, hm4, hm5, HCP, HIN, HN⟩ := open_plan h
 obtain ⟨z3, z4, z5, rfl, hrt⟩ := h'
 have HRT0 := Lib.hid hrt
 obtain ⟨C3, e3, rfl, hdl3, hdm3⟩ := hrt.path.slice
 obtain ⟨C4, e4, rfl, hdl4, hdm4⟩ := hrt.over.slice
 obtain ⟨C5, e5, rfl, hdl5, hdm5⟩ := hrt.flanks.slice
 unfold maxLen at hdm3 hdm4 hdm5
 obtain ⟨l3, hl3⟩ : ∃ n, n = r.path.length := ⟨_, rfl⟩
 obtain ⟨l4, hl4⟩ : ∃ n, n = r.over.length := ⟨_, rfl⟩
 obtain ⟨l5, hl5⟩ : ∃ n, n = r.flanks.length := ⟨_, rfl⟩
 have hk3 : l3 ≤ 9223372036854775807 := by omega
 have hk4 : l4 ≤ 9223372036854775807 := by omega
 have hk5 : l5 ≤ 9223372036854775807 := by omega
 have HRT : Hid (RtIn w w.heap.size (.slice C3 l3 e3) (.slice C4 l4 e4) (.slice C5 l5 e5) r) := Lib.hid (by rw [hl3, hl4, hl5]; exact HRT0.out)
 have HL : Hid (l3 = r.path.length ∧ l4 = r.over.length ∧ l5 = r.flanks.length) := Lib.hid ⟨hl3, hl4, hl5⟩
 rw [← hl3, ← hl4, ← hl5]
 clear hl3 hl4 hl5 HRT0 hrt hdl3 hdm3 hdl4 hdm4 hdl5 hdm5
 have hq := two_boxes w (.cells #[.int .i64 p.ver, .int .i64 p.par, .slice A2 n2 c2, .slice A3 n3 c3, .slice A4 n4 c4, .slice A5 n5 c5] 33) (.cells #[.int .i64 r.id, .int .i64 r.entry, .int .i64 r.exit, .slice C3 l3 e3, .slice C4 l4 e4, .slice C5 l5 e5, .int .i64 r.timer] 54)
 go_enter Tryz.func114, Tryz.ntmps114
 go_upto_region 1 with fail
 generalize (w.alloc (.cells #[.int .i64 p.ver, .int .i64 p.par, .slice A2 n2 c2, .slice A3 n3 c3, .slice A4 n4 c4, .slice A5 n5 c5] 33)).alloc (.cells #[.int .i64 r.id, .int .i64 r.entry, .int .i64 r.exit, .slice C3 l3 e3, .slice C4 l4 e4, .slice C5 l5 e5, .int .i64 r.timer] 54) = q at hq ⊢
 obtain ⟨q0, q1, qb⟩ := hq
 have XP := Lib.hid q0
 have XR := Lib.hid q1
 have BQ := Lib.hid qb
 clear q0 q1 qb
 obtain ⟨m0, m1, m2, m3, m4, m5, m6⟩ := cell7_of XR.out
 obtain ⟨k0, k1, k2, k3, k4, k5⟩ := cell6_of XP.out
 obtain ⟨ex, hex⟩ : ∃ x, x = r.exit := ⟨_, rfl⟩
 obtain ⟨en, hen⟩ : ∃ x, x = r.entry := ⟨_, rfl⟩
 have HEX : Hid (ex = r.exit ∧ en = r.entry) := Lib.hid ⟨hex, hen⟩
 rw [← hex, ← hen] at XR
 rw [← hex] at m2
 rw [← hen] at m1
 clear hex hen
 by_cases h0 : ex = 0
 ·have hd : (ex == 0) = true := by simpa using h0
  have H0 := Lib.hid (HEX.out.1.symm.trans h0)
  clear h0
  by_cases h4 : l4 = 0
  ·subst h4
   have HR : Hid (propB (LeavesP p r) = true) := Lib.hid (propB_true ⟨fun _ => HL.out.2.1.symm, fun h => absurd H0.out h⟩)
   go_wp2_with fail
   go_ret
   exact ⟨by rw [HR.out]; rfl, BQ.out⟩
  ·have hd4 : ((l4 : Int) == 0) = false := by simpa using (show ¬ (l4 : Int) = 0 by omega)
   have hd5 : (l4 == 0) = false := by simpa using h4
   have HR : Hid (propB (LeavesP p r) = false) := Lib.hid (propB_false fun h => h4 (HL.out.2.1.trans (h.1 H0.out)))
   clear h4
   go_wp2_with fail
   go_ret
   exact ⟨by rw [HR.out]; rfl, BQ.out⟩
 ·have hd : (ex == 0) = false := by simpa using h0
  have H0 := Lib.hid (fun h => h0 (HEX.out.1.trans h))
  clear h0
  have FA := Lib.hid (find_at1 kSg p.sigs ex (0, 0, 0))
  go_wp2_with fail
  refine (find_sg _ p.sigs ex _ (((HIN.out.below BQ.out).more BQ.out.size).sigs)).mono ?_
  rintro e w1 ⟨rfl, b1⟩
  generalize findV kSg p.sigs ex (0, 0, 0) = fv at FA ⊢
  generalize findB kSg p.sigs ex = fb at FA ⊢
  obtain ⟨f0, f1, f2⟩ := fv
  dsimp only
  clear k0 k1 k2 k3 k4 k5 m0 m1 m2 m3 m4 m5 m6 hd XP
  replace BQ := Lib.hid (BQ.out.trans (b1.mono BQ.out.size))
  replace XR := Lib.hid ((b1.block _ (heap_lt XR.out)).trans XR.out)
  clear b1
  obtain ⟨q3, hq⟩ : ∃ x, x = w1.alloc (.cells #[.int .i64 f0, .int .i64 f1, .int .i64 f2] 69) := ⟨_, rfl⟩
  have x1 := heap_alloc_self w1 (.cells #[.int .i64 f0, .int .i64 f1, .int .i64 f2] 69)
  have b1 := below_new w1 (.cells #[.int .i64 f0, .int .i64 f1, .int .i64 f2] 69)
  rw [← hq] at x1 b1
  go_upto_region 4 with fail
  rw [← hq]
  have X5 := Lib.hid x1
  generalize w1.heap.size = pX5 at X5 ⊢
  clear x1 hq
  replace BQ := Lib.hid (BQ.out.trans (b1.mono BQ.out.size))
  replace XR := Lib.hid ((b1.block _ (heap_lt XR.out)).trans XR.out)
  clear b1
  obtain ⟨m0, m1, m2, m3, m4, m5, m6⟩ := cell7_of XR.out
  rcases FA.out with ⟨rfl, -, ha⟩ | ⟨i, hi, rfl, -, ha, -⟩
  ·have HR : Hid (propB (LeavesP p r) = false) := Lib.hid (propB_false fun h => by have h2 := (h.2 H0.out).1; rw [← HEX.out.1] at h2; omega)
   go_wp2_with fail
   go_ret
   exact ⟨by rw [HR.out]; rfl, BQ.out⟩
  ·by_cases he : ex = en
   ·have hd : (ex != en) = false := by simpa using he
    have HR : Hid (propB (LeavesP p r) = false) := Lib.hid (propB_false fun h => (h.2 H0.out).2 (by rw [← HEX.out.1, ← HEX.out.2]; exact he))
    clear he
    go_wp2_with fail
    go_ret
    exact ⟨by rw [HR.out]; rfl, BQ.out⟩
   ·have hd : (ex != en) = true := by simpa using he
    have HR : Hid (propB (LeavesP p r) = true) := Lib.hid (propB_true ⟨fun h => absurd h H0.out, fun _ => ⟨by rw [← HEX.out.1]; omega, by rw [← HEX.out.1, ← HEX.out.2]; exact he⟩⟩)
    clear he
    go_wp2_with fail
    go_ret
    exact ⟨by rw [HR.out]; rfl, BQ.out⟩
set_option maxHeartbeats 8000000 in
theorem flanks_any (v y : Value) (p : Pl) (l : List Jn) (w : World) (h : PlanV w w.heap.size v p) (h' : JoinsIn w w.heap.size y l) (hr : RiseK kPt p.pts) :
  Calls Tryz.prog 86 #[v, y] w fun e w' => e = .returned (.bool (propB (FlanksP p l))) ∧ Below w.heap.size w w' := by
 obtain ⟨A2, c2, A3, c3, A4, c4, A5, c5, n2, n3, n4, n5, rfl, hm2, hm3, hm4, hm5, HCP, HIN, HN⟩ := open_plan h
 have HRI := Lib.hid hr
 have H := Lib.hid h'
 obtain ⟨A, c, rfl, hcl, hcm⟩ := h'.slice
 obtain ⟨n, hn⟩ : ∃ n, n = l.length := ⟨_, rfl⟩
 have hml : n ≤ 9223372036854775807 := by unfold maxLen at hcm; omega
 have HLN := Lib.hid hn
 have HF := Lib.hid (show JoinsIn w w.heap.size (.slice A n c) l by rw [hn]; exact H.out)
 rw [← hn]
 clear hn H hcl hcm h' hr
 have hq0 := heap_alloc_self w (.cells #[.int .i64 p.ver, .int .i64 p.par, .slice A2 n2 c2, .slice A3 n3 c3, .slice A4 n4 c4, .slice A5 n5 c5] 33)
 have hqb := below_new w (.cells #[.int .i64 p.ver, .int .i64 p.par, .slice A2 n2 c2, .slice A3 n3 c3, .slice A4 n4 c4, .slice A5 n5 c5] 33)
 go_enter Tryz.func86, Tryz.ntmps86
 go_upto_region 1 with fail
 generalize w.alloc (.cells #[.int .i64 p.ver, .int .i64 p.par, .slice A2 n2 c2, .slice A3 n3 c3, .slice A4 n4 c4, .slice A5 n5 c5] 33) = q at hq0 hqb ⊢
 have XP := Lib.hid hq0
 have BQ := Lib.hid hqb
 clear hq0 hqb
 by_cases h3 : 3 < n
 ·have hd : (3 : Int) < n := by omega
  have HR : Hid (propB (FlanksP p l) = false) := Lib.hid (propB_false fun h => by have := h.n; rw [← HLN.out] at this; omega)
  clear h3
  go_wp2_with fail
  go_ret
  exact ⟨by rw [HR.out]; rfl, BQ.out⟩
 have hd3 : ¬ (3 : Int) < n := by omega
 have L3 : Hid (l.length ≤ 3) := Lib.hid (by rw [← HLN.out]; omega)
 clear h3
 go_wp2_with fail
 go_loopw [5, 15] (fun s5 s15 wr => ∃ (i : Nat) (z : Int), i ≤ n ∧ s15 = .int .i64 i ∧ s5 = .int .i64 z ∧ LastK kPt l i z ∧ (∀ i' (hi : i' < i) (hl : i' < l.length), 0 ≤ at1 kPt p.pts l[i'].1 ∧ (∀ j (hj : j + 1 = i'), (l[j]'(by omega)).1 < l[i'].1) ∧ 1 ≤ l[i'].2 ∧ l[i'].2 ≤ 2) ∧ wr.heap[w.heap.size]? = some (.cells #[.int .i64 p.ver, .int .i64 p.par, .slice A2 n2 c2, .slice A3 n3 c3, .slice A4 n4 c4, .slice A5 n5 c5] 33 (0, 0)) ∧ Below w.heap.size w wr) (fun _ s15 _ => n - (intOf s15).toNat)
 case atStart => exact ⟨0, 0, by omega, by go_num, by go_num, .inl ⟨rfl, rfl⟩, fun i' hi => absurd hi (by omega), XP.out, BQ.out⟩
 case round =>
  obtain ⟨i, z, hi, rfl, rfl, hz, hall, hxp, hb⟩ := hrel
  have HZ := Lib.hid hz
  have HALL := Lib.hid hall
  have BW := Lib.hid hb
  clear XP BQ
  have XP := Lib.hid hxp
  clear hall hb hz hxp
  by_cases hlt : i < n
  ·have hlt' : (i : Int) < n := by omega
   have hir : i < l.length := by rw [← HLN.out]; exact hlt
   obtain ⟨bk, off, rfl, hbk, hc0, hc1⟩ := ((HF.out.below joinR BW.out).more joinR BW.out.size).at hir
   obtain ⟨a, b, hx⟩ : ∃ a b, l[i] = (a, b) := ⟨_, _, rfl⟩
   have HX := Lib.hid hx
   rw [hx] at hc0 hc1
   have hg0 : wr.cell? ⟨bk, off + i * 2, none⟩ = some (.int .i64 a) := hc0
   have hg1 : wr.cell? ⟨bk, off + i * 2 + 1, none⟩ = some (.int .i64 b) := hc1
   clear hc0 hc1 hx hbk
   obtain ⟨q, hq⟩ : ∃ x, x = wr.alloc (.cells #[.int .i64 a, .int .i64 b] 64) := ⟨_, rfl⟩
   have x1 := heap_alloc_self wr (.cells #[.int .i64 a, .int .i64 b] 64)
   have b1 := below_new wr (.cells #[.int .i64 a, .int .i64 b] 64)
   rw [← hq] at x1 b1
   go_upto_region 7 with fail
   rw [← hq]
   have XF := Lib.hid x1
   generalize wr.heap.size = p1 at XF ⊢
   clear x1 hq hg0 hg1
   replace BW := Lib.hid (BW.out.trans (b1.mono BW.out.size))
   replace XP := Lib.hid ((b1.block _ (heap_lt XP.out)).trans XP.out)
   clear b1
   obtain ⟨g0, g1⟩ := cell2_of XF.out
   obtain ⟨k0, k1, k2, k3, k4, k5⟩ := cell6_of XP.out
   have FA := Lib.hid (find_at1 kPt p.pts a (0, 0))
   go_wp2_with fail
   refine (find_pt _ p.pts a _ (((HIN.out.below BW.out).more BW.out.size).pts)).mono ?_
   rintro e w1 ⟨rfl, b1⟩
   generalize findV kPt p.pts a (0, 0) = fv at FA ⊢
   generalize findB kPt p.pts a = fb at FA ⊢
   obtain ⟨f0, f1⟩ := fv
   dsimp only
   clear g0 g1 k0 k1 k2 k3 k4 k5
   replace BW := Lib.hid (BW.out.trans (b1.mono BW.out.size))
   replace XP := Lib.hid ((b1.block _ (heap_lt XP.out)).trans XP.out)
   replace XF := Lib.hid ((b1.block _ (heap_lt XF.out)).trans XF.out)
   clear b1
   obtain ⟨q3, hq⟩ : ∃ x, x = w1.alloc (.cells #[.int .i64 f0, .int .i64 f1] 60) := ⟨_, rfl⟩
   have x1 := heap_alloc_self w1 (.cells #[.int .i64 f0, .int .i64 f1] 60)
   have b1 := below_new w1 (.cells #[.int .i64 f0, .int .i64 f1] 60)
   rw [← hq] at x1 b1
   go_upto_region 8 with fail
   rw [← hq]
   have XX := Lib.hid x1
   generalize w1.heap.size = pXX at XX ⊢
   clear x1 hq
   replace BW := Lib.hid (BW.out.trans (b1.mono BW.out.size))
   replace XP := Lib.hid ((b1.block _ (heap_lt XP.out)).trans XP.out)
   replace XF := Lib.hid ((b1.block _ (heap_lt XF.out)).trans XF.out)
   clear b1
   obtain ⟨g0, g1⟩ := cell2_of XF.out
   have FAIL : Hid (¬ (0 ≤ at1 kPt p.pts a ∧ z < a ∧ 1 ≤ b ∧ b ≤ 2) → propB (FlanksP p l) = false) := Lib.hid (fun hn => propB_false fun h => hn (by
    obtain ⟨h1, h2, h3, h4⟩ := h.each i hir
    rw [HX.out] at h1 h3 h4
    refine ⟨h1, ?_, h3, h4⟩
    rcases HZ.out with ⟨rfl, hz0⟩ | ⟨hr, hp, hz0⟩
    ·rcases at1_cases kPt p.pts a with ⟨h5, -⟩ | ⟨j, hj, -, h6, -⟩
     ·dsimp only at h1; omega
     ·have := (HRI.out j hj).1; omega
    ·have h5 := h2 (i - 1) (by omega)
     rw [HX.out] at h5
     rw [hz0]; exact h5))
   have NEXT : Hid (0 ≤ at1 kPt p.pts a → z < a → 1 ≤ b → b ≤ 2 → LastK kPt l (i + 1) a ∧ (∀ i' (hi : i' < i + 1) (hl : i' < l.length), 0 ≤ at1 kPt p.pts l[i'].1 ∧ (∀ j (hj : j + 1 = i'), (l[j]'(by omega)).1 < l[i'].1) ∧ 1 ≤ l[i'].2 ∧ l[i'].2 ≤ 2)) := Lib.hid (fun h1 h2 h3 h4 => by
    refine ⟨.inr ⟨hir, by omega, by show a = l[i].1; rw [HX.out]⟩, fun i' hi' hl => ?_⟩
    rcases Nat.lt_or_ge i' i with h | h
    ·exact HALL.out i' h hl
    ·obtain rfl : i' = i := by omega
     refine ⟨by rw [HX.out]; exact h1, fun j hj => ?_, by rw [HX.out]; exact h3, by rw [HX.out]; exact h4⟩
     rcases HZ.out with ⟨rfl, hz0⟩ | ⟨hr, hp, hz0⟩
     ·omega
     ·obtain rfl : j = i' - 1 := by omega
      rw [HX.out]; rw [hz0] at h2; exact h2)
   rcases FA.out with ⟨rfl, -, ha⟩ | ⟨j, hj, rfl, -, ha, -⟩
   ·have HR := Lib.hid (FAIL.out (fun h => by omega))
    go_wp2_with fail
    go_ret
    exact ⟨by rw [HR.out]; rfl, BW.out⟩
   have HA0 : Hid (0 ≤ at1 kPt p.pts a) := Lib.hid (by omega)
   clear ha
   by_cases h1 : a ≤ z
   ·have d1 : decide (a ≤ z) = true := decide_eq_true h1
    have HR := Lib.hid (FAIL.out (fun h => by omega))
    clear h1
    go_wp2_with fail
    go_ret
    exact ⟨by rw [HR.out]; rfl, BW.out⟩
   have d1 : decide (a ≤ z) = false := decide_eq_false h1
   by_cases hb1 : b = 1
   ·subst hb1
    have NX := Lib.hid (NEXT.out HA0.out (by omega) (by decide) (by decide))
    clear h1
    go_wp2_with fail
    go_roundw
    case measure => simp [intOf]; omega
    case rel => exact ⟨i + 1, a, by omega, by go_num, rfl, NX.out.1, NX.out.2, XP.out, BW.out⟩
   have db1 : (b != 1) = true := by simpa using hb1
   by_cases hb2 : b = 2
   ·subst hb2
    have NX := Lib.hid (NEXT.out HA0.out (by omega) (by decide) (by decide))
    clear h1 hb1 db1
    go_wp2_with fail
    go_roundw
    case measure => simp [intOf]; omega
    case rel => exact ⟨i + 1, a, by omega, by go_num, rfl, NX.out.1, NX.out.2, XP.out, BW.out⟩
   have db2 : (b != 2) = true := by simpa using hb2
   have HR := Lib.hid (FAIL.out (fun h => by omega))
   clear h1 hb1 hb2
   go_wp2_with fail
   go_ret
   exact ⟨by rw [HR.out]; rfl, BW.out⟩
  ·obtain rfl : i = n := by omega
   have hlt' : ¬ (i : Int) < i := by omega
   have HR : Hid (propB (FlanksP p l) = true) := Lib.hid (propB_true ⟨L3.out, fun a ha => HALL.out a (by rw [HLN.out]; exact ha) ha⟩)
   go_wp2_with fail
   go_ret
   exact ⟨by rw [HR.out]; rfl, BW.out⟩
set_option maxHeartbeats 4000000 in
theorem versions_any (v : Value) (p : Pl) (w : World) (h : PlanV w w.heap.size v p) :
  Calls Tryz.prog 46 #[v] w fun e w' => e = .returned (.bool (propB (VersP p))) ∧ Below w.heap.size w w' := by
 obtain ⟨A2, c2, A3, c3, A4, c4, A5, c5, n2, n3, n4, n5, rfl, hm2, hm3, hm4, hm5, HCP, HIN, HN⟩ := open_plan h
 have hq0 := heap_alloc_self w (.cells #[.int .i64 p.ver, .int .i64 p.par, .slice A2 n2 c2, .slice A3 n3 c3, .slice A4 n4 c4, .slice A5 n5 c5] 33)
 have hqb := below_new w (.cells #[.int .i64 p.ver, .int .i64 p.par, .slice A2 n2 c2, .slice A3 n3 c3, .slice A4 n4 c4, .slice A5 n5 c5] 33)
 go_enter Tryz.func46, Tryz.ntmps46
 go_upto_region 1 with fail
 generalize w.alloc (.cells #[.int .i64 p.ver, .int .i64 p.par, .slice A2 n2 c2, .slice A3 n3 c3, .slice A4 n4 c4, .slice A5 n5 c5] 33) = q at hq0 hqb ⊢
 have XP := Lib.hid hq0
 have BQ := Lib.hid hqb
 clear hq0 hqb
 obtain ⟨k0, k1, k2, k3, k4, k5⟩ := cell6_of XP.out
 obtain ⟨a, ha⟩ : ∃ x, x = p.ver := ⟨_, rfl⟩
 obtain ⟨b, hb⟩ : ∃ x, x = p.par := ⟨_, rfl⟩
 have HV : Hid (a = p.ver ∧ b = p.par) := Lib.hid ⟨ha, hb⟩
 rw [← ha] at k0
 rw [← hb] at k1
 clear ha hb XP
 have NO : Hid (¬ (1 ≤ a ∧ a ≤ 2147483647 ∧ 0 ≤ b ∧ b < a) → propB (VersP p) = false) := Lib.hid (fun hn => propB_false fun h => hn (by rw [HV.out.1, HV.out.2]; exact ⟨h.ver.1, h.ver.2, h.par.1, h.par.2⟩))
 by_cases h1 : 1 ≤ a
 ·have d1 : decide (1 ≤ a) = true := decide_eq_true h1
  by_cases h2 : a ≤ 2147483647
  ·have d2 : decide (a ≤ 2147483647) = true := decide_eq_true h2
   by_cases h3 : 0 ≤ b
   ·have d3 : decide (0 ≤ b) = true := decide_eq_true h3
    by_cases h4 : b < a
    ·have d4 : decide (b < a) = true := decide_eq_true h4
     have HR : Hid (propB (VersP p) = true) := Lib.hid (propB_true (by rw [HV.out.1, HV.out.2] at *; exact ⟨⟨h1, h2⟩, ⟨h3, h4⟩⟩))
     clear h1 h2 h3 h4
     go_wp2_with fail
     go_ret
     exact ⟨by rw [HR.out]; rfl, BQ.out⟩
    ·have d4 : decide (b < a) = false := decide_eq_false h4
     have HR := Lib.hid (NO.out (fun h => by omega))
     clear h1 h2 h3 h4
     go_wp2_with fail
     go_ret
     exact ⟨by rw [HR.out]; rfl, BQ.out⟩
   ·have d3 : decide (0 ≤ b) = false := decide_eq_false h3
    have HR := Lib.hid (NO.out (fun h => by omega))
    clear h1 h2 h3
    go_wp2_with fail
    go_ret
    exact ⟨by rw [HR.out]; rfl, BQ.out⟩
  ·have d2 : decide (a ≤ 2147483647) = false := decide_eq_false h2
   have HR := Lib.hid (NO.out (fun h => by omega))
   clear h1 h2
   go_wp2_with fail
   go_ret
   exact ⟨by rw [HR.out]; rfl, BQ.out⟩
 ·have d1 : decide (1 ≤ a) = false := decide_eq_false h1
  have HR := Lib.hid (NO.out (fun h => by omega))
  clear h1
  go_wp2_with fail
  go_ret
  exact ⟨by rw [HR.out]; rfl, BQ.out⟩
end Go.Proofs.YtneeocnjfnneoaaGreat
