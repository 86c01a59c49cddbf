/-
 The program's package sound: Route; what the package answers.
 Conditions: none.
-/
import Derived.Test.YtccbdpeicemnjaaTGSndPA
import Derived.Test.YtccbdpeicemnjaaTGSndM
import Derived.Test.YtccbdpeicemnjaaTGPlnRefD
import Derived.Test.YtccbdpeicemnjaaTPlnFar
set_option linter.unusedVariables false
set_option linter.unusedSimpArgs false
set_option maxRecDepth 100000
namespace Go.Proofs.Ytccbdpeicemnjaa
open Go.RowKit

set_option maxHeartbeats 16000000 in
theorem sroute_any (hp : PlanSaid) (v : Value) (p : Pl) (id : Int) (w : World) (h : PlanV w w.heap.size v p) :
  Calls Try.prog 14 #[v, .int .i64 id] w fun e w' => e = .returned (.int .i64 (sndR p id)) ∧ Below w.heap.size w w' := by
 obtain ⟨y2, y3, y4, y5, rfl, hin⟩ := h
 have HIN0 := Lib.hid hin
 obtain ⟨A2, c2, rfl, hcl2, hcm2⟩ := hin.secs.slice
 obtain ⟨A3, c3, rfl, hcl3, hcm3⟩ := hin.pts.slice
 obtain ⟨A4, c4, rfl, hcl4, hcm4⟩ := hin.sigs.slice
 obtain ⟨A5, c5, rfl, hcl5, hcm5⟩ := hin.routes.slice
 unfold maxLen at hcm2 hcm3 hcm4 hcm5
 obtain ⟨n2, hn2⟩ : ∃ n, n = p.secs.length := ⟨_, rfl⟩
 obtain ⟨n3, hn3⟩ : ∃ n, n = p.pts.length := ⟨_, rfl⟩
 obtain ⟨n4, hn4⟩ : ∃ n, n = p.sigs.length := ⟨_, rfl⟩
 obtain ⟨n5, hn5⟩ : ∃ n, n = p.routes.length := ⟨_, rfl⟩
 have hm2 : n2 ≤ 9223372036854775807 := by omega
 have hm3 : n3 ≤ 9223372036854775807 := by omega
 have hm4 : n4 ≤ 9223372036854775807 := by omega
 have hm5 : n5 ≤ 9223372036854775807 := by omega
 have HCP : Hid (n2 ≤ c2 ∧ n3 ≤ c3 ∧ n4 ≤ c4 ∧ n5 ≤ c5) := Lib.hid (by omega)
 have HIN : Hid (PlIn w w.heap.size (.slice A2 n2 c2) (.slice A3 n3 c3) (.slice A4 n4 c4) (.slice A5 n5 c5) p) := Lib.hid (by rw [hn2, hn3, hn4, hn5]; exact HIN0.out)
 have HN : Hid (n2 = p.secs.length ∧ n3 = p.pts.length ∧ n4 = p.sigs.length ∧ n5 = p.routes.length) := Lib.hid ⟨hn2, hn3, hn4, hn5⟩
 rw [← hn2, ← hn3, ← hn4, ← hn5]
 clear hn2 hn3 hn4 hn5 HIN0 hin hcl2 hcm2 hcl3 hcm3 hcl4 hcm4 hcl5 hcm5
 have hq0 := heap_alloc_self w (.cells #[.int .i64 p.ver, .int .i64 p.par, .slice A2 n2 c2, .slice A3 n3 c3, .slice A4 n4 c4, .slice A5 n5 c5] 27)
 have hqb := below_new w (.cells #[.int .i64 p.ver, .int .i64 p.par, .slice A2 n2 c2, .slice A3 n3 c3, .slice A4 n4 c4, .slice A5 n5 c5] 27)
 go_enter Try.func14, Try.ntmps14
 go_upto_region 1 with fail
 generalize w.alloc (.cells #[.int .i64 p.ver, .int .i64 p.par, .slice A2 n2 c2, .slice A3 n3 c3, .slice A4 n4 c4, .slice A5 n5 c5] 27) = q at hq0 hqb ⊢
 have XP := Lib.hid hq0
 have BQ := Lib.hid hqb
 clear hq0 hqb
 obtain ⟨lo, hlo⟩ : ∃ n, n = q.heap.size := ⟨_, rfl⟩
 obtain ⟨p2, hp2⟩ : ∃ n, n = w.heap.size := ⟨_, rfl⟩
 have LQ : Hid (p2 < lo ∧ p2 = w.heap.size) := Lib.hid ⟨by rw [hlo, hp2]; exact heap_lt XP.out, hp2⟩
 rw [← hp2] at XP ⊢
 obtain ⟨k0, k1, k2, k3, k4, k5⟩ := cell6_of XP.out
 clear hp2
 go_wp2_with fail
 refine (hp.route _ p id q ⟨_, _, _, _, rfl, (HIN.out.below BQ.out).more BQ.out.size⟩).mono ?_
 rintro e w1 ⟨u3, u4, u5, rfl, hro, b1⟩
 rw [← hlo] at hro
 have B1 : Hid (Below w.heap.size w w1) := Lib.hid (BQ.out.trans (b1.mono BQ.out.size))
 have XP1 := Lib.hid ((b1.block _ (heap_lt XP.out)).trans XP.out)
 clear b1 k0 k1 k2 k3 k4 k5 XP BQ hlo
 obtain ⟨r, hr⟩ : ∃ x, x = elV p kRt p.routes id zRt := ⟨_, rfl⟩
 obtain ⟨E, hE⟩ : ∃ x, x = elE p kRt p.routes id := ⟨_, rfl⟩
 rw [← hr] at hro
 rw [← hr, ← hE]
 obtain ⟨D3, d3, rfl⟩ := hro.path.slice
 obtain ⟨D4, d4, rfl⟩ := hro.over.slice
 obtain ⟨D5, d5, rfl⟩ := hro.flanks.slice
 obtain ⟨l3, hl3⟩ : ∃ n, n = r.path.length := ⟨_, rfl⟩
 obtain ⟨l4, hl4⟩ : ∃ n, n = r.over.length := ⟨_, rfl⟩
 obtain ⟨l5, hl5⟩ : ∃ n, n = r.flanks.length := ⟨_, rfl⟩
 rw [← hl3, ← hl4, ← hl5] at hro ⊢
 have RO := Lib.hid hro
 have HVR := Lib.hid hr
 have HVE := Lib.hid hE
 clear hro hl3 hl4 hl5 hr hE
 have XX0 := heap_alloc_self w1 (.cells #[.int .i64 0, .int .i64 0, .int .i64 0, .slice none 0 0, .slice none 0 0, .slice none 0 0, .int .i64 0] 34)
 have hb0 := below_setRow (below_new w1 (.cells #[.int .i64 0, .int .i64 0, .int .i64 0, .slice none 0 0, .slice none 0 0, .slice none 0 0, .int .i64 0] 34)) (Nat.le_refl _) #[.int .i64 r.id, .int .i64 r.entry, .int .i64 r.exit, .slice D3 l3 d3, .slice D4 l4 d4, .slice D5 l5 d5, .int .i64 r.timer]
 have hx0 := setRow_heap (w1.alloc (.cells #[.int .i64 0, .int .i64 0, .int .i64 0, .slice none 0 0, .slice none 0 0, .slice none 0 0, .int .i64 0] 34)) w1.heap.size _ #[.int .i64 r.id, .int .i64 r.entry, .int .i64 r.exit, .slice D3 l3 d3, .slice D4 l4 d4, .slice D5 l5 d5, .int .i64 r.timer] 34 _ XX0
 go_upto_region 2 with ((with_reducible show wpList _ _ _ (⟨none, _, _, _, _, _⟩ :: _) _ _); refine wpList_store_rowS rfl _ (.tmp 5) (.tmp 11) rfl w1.heap.size rfl (c' := #[.int .i64 r.id, .int .i64 r.entry, .int .i64 r.exit, .slice D3 l3 d3, .slice D4 l4 d4, .slice D5 l5 d5, .int .i64 r.timer]) rfl XX0 infoRoute7 rfl (by simp [Value.oneCell']) ?_)
 generalize (w1.alloc (.cells #[.int .i64 0, .int .i64 0, .int .i64 0, .slice none 0 0, .slice none 0 0, .slice none 0 0, .int .i64 0] 34)).setRow w1.heap.size #[.int .i64 r.id, .int .i64 r.entry, .int .i64 r.exit, .slice D3 l3 d3, .slice D4 l4 d4, .slice D5 l5 d5, .int .i64 r.timer] = q1 at hb0 hx0 ⊢
 obtain ⟨p5, hp5⟩ : ∃ n, n = w1.heap.size := ⟨_, rfl⟩
 rw [← hp5] at hx0 ⊢
 have XR := Lib.hid hx0
 have B2 := Lib.hid (B1.out.trans (hb0.mono B1.out.size))
 have XP2 := Lib.hid ((hb0.block _ (heap_lt XP1.out)).trans XP1.out)
 have RO2 := Lib.hid (RO.out.below hb0)
 clear XX0 hb0 hx0 hp5 B1 XP1 RO
 by_cases h0 : E = 0
 rotate_left
 ·have d0 : (E != 0) = true := by simpa using h0
  have HB : Hid (sndR p id = E) := Lib.hid (snd_err HVE.out.symm h0)
  clear h0
  go_wp2_with fail
  go_ret
  exact ⟨by rw [HB.out]; rfl, B2.out⟩
 subst h0
 have HS : Hid (sndE (withR p [r]) = sndR p id) := Lib.hid (by
  obtain ⟨k, hk, h1, h2, h3⟩ := el_at HVE.out.symm
  rw [HVR.out, h2]
  exact sole_snd h1 hk h3)
 have d0 : ((0 : Int) != 0) = false := by decide
 obtain ⟨m0, m1, m2, m3, m4, m5, m6⟩ := cell7_of XR.out
 obtain ⟨q2, hq2⟩ : ∃ x, x = q1.alloc (.cells #[.int .i64 r.id, .int .i64 r.entry, .int .i64 r.exit, .slice D3 l3 d3, .slice D4 l4 d4, .slice D5 l5 d5, .int .i64 r.timer] 34) := ⟨_, rfl⟩
 have x2 := heap_alloc_self q1 (.cells #[.int .i64 r.id, .int .i64 r.entry, .int .i64 r.exit, .slice D3 l3 d3, .slice D4 l4 d4, .slice D5 l5 d5, .int .i64 r.timer] 34)
 have b2 := below_new q1 (.cells #[.int .i64 r.id, .int .i64 r.entry, .int .i64 r.exit, .slice D3 l3 d3, .slice D4 l4 d4, .slice D5 l5 d5, .int .i64 r.timer] 34)
 rw [← hq2] at x2 b2
 have XP3 := Lib.hid ((b2.block _ (heap_lt XP2.out)).trans XP2.out)
 have HF : Hid (q2.frozen? ⟨p2, 5, none⟩ = false) := Lib.hid (frozen2_of XP3.out 5)
 have K5 : Hid (q2.cell? ⟨p2, 5, none⟩ = some (.slice A5 n5 c5)) := Lib.hid (row_cj _ _ _ 5 _ XP3.out rfl)
 have X2 := Lib.hid x2
 have B3 := Lib.hid (B2.out.trans (b2.mono B2.out.size))
 have RO3 := Lib.hid (RO2.out.below b2)
 obtain ⟨k0, k1, k2, k3, k4, k5⟩ := cell6_of XP2.out
 have hf := HF.out
 have hk5 := K5.out
 rw [hq2] at hf hk5
 have E2 := Lib.hid hq2.symm
 have GN : Hid (q1.heap.size ≠ p2) := Lib.hid (by have := heap_lt XP2.out; omega)
 clear x2 b2 hq2
 go_upto_region 5 with fail
 rw [E2.out]
 generalize q1.heap.size = g at X2 GN ⊢
 have tX := (heap_setFar q2 p2 5 _ (.slice (some ⟨g, 0, none⟩) 1 1) GN.out).trans X2.out
 have tP : (q2.setCell ⟨p2, 5, none⟩ (.slice (some ⟨g, 0, none⟩) 1 1)).heap[p2]? = some (.cells #[.int .i64 p.ver, .int .i64 p.par, .slice A2 n2 c2, .slice A3 n3 c3, .slice A4 n4 c4, .slice (some ⟨g, 0, none⟩) 1 1] 27 (0, 0)) := heap_setK XP3.out _
 have tB := below_set B3.out (show w.heap.size ≤ p2 by have := LQ.out; omega) 5 (.slice (some ⟨g, 0, none⟩) 1 1)
 have tO := RO3.out.far (W' := q2.setCell ⟨p2, 5, none⟩ (.slice (some ⟨g, 0, none⟩) 1 1)) (fun i hi => heap_setFar q2 p2 5 i _ (by have := LQ.out; omega))
 clear k0 k1 k2 k3 k4 k5 m0 m1 m2 m3 m4 m5 m6 hf hk5 XP3 HF K5 X2 B3 RO3 E2 GN RO2 B2 XP2 XR d0
 generalize q2.setCell ⟨p2, 5, none⟩ (.slice (some ⟨g, 0, none⟩) 1 1) = q3 at tX tP tB tO ⊢
 have tI := (HIN.out.below tB).more tB.size
 have tR := tO.in_
 have HV : Hid (PlanV q3 q3.heap.size (.agg #[.int .i64 p.ver, .int .i64 p.par, .slice A2 n2 c2, .slice A3 n3 c3, .slice A4 n4 c4, .slice (some ⟨g, 0, none⟩) 1 1]) (withR p [r])) := Lib.hid ⟨_, _, _, _, rfl, ⟨tI.secs, tI.pts, tI.sigs, list_row (l := [r]) tX (by simp) (fun j hj => by
  obtain rfl : j = 0 := by simpa using hj
  exact ⟨row_cj _ _ _ 0 _ tX rfl, row_cj _ _ _ 1 _ tX rfl, row_cj _ _ _ 2 _ tX rfl, row_cj _ _ _ 6 _ tX rfl, _, _, _, row_cj _ _ _ 3 _ tX rfl, row_cj _ _ _ 4 _ tX rfl, row_cj _ _ _ 5 _ tX rfl, tR⟩)⟩⟩
 have XP := Lib.hid tP
 have BZ := Lib.hid tB
 clear tX tP tB tO tI tR HIN HN HCP LQ
 obtain ⟨k0, k1, k2, k3, k4, k5⟩ := cell6_of XP.out
 go_wp2_with fail
 refine (scheck_any _ (withR p [r]) q3 HV.out).mono ?_
 rintro e w4 ⟨rfl, b4⟩
 rw [HS.out]
 have BL := Lib.hid (BZ.out.trans (b4.mono BZ.out.size))
 clear b4 k0 k1 k2 k3 k4 k5
 go_wp2_with fail
 go_ret
 exact ⟨rfl, BL.out⟩
theorem sndSaid (hp : PlanSaid) : SndSaid := ⟨scheck_any, sroute_any hp⟩
end Go.Proofs.Ytccbdpeicemnjaa
