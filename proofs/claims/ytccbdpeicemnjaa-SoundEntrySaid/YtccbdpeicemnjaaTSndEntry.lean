/-
 SoundEntry: the walk, given the program's contracts.
 Conditions: none.
-/
import Derived.Test.YtccbdpeicemnjaaTGSndSt
import Derived.Test.YtccbdpeicemnjaaTGSndM
import Derived.Test.YtccbdpeicemnjaaTGPlnRefD
import Derived.BigQuiet
set_option linter.unusedVariables false
set_option linter.unusedSimpArgs false
set_option maxRecDepth 100000
namespace Go.Proofs.Ytccbdpeicemnjaa
open Go.RowKit

set_option maxHeartbeats 16000000 in
theorem walk_sound_entry (hs : SndSaid) (hp : PlanSaid) (v : Value) (p : Pl) (a b : Int) (w : World) (h : PlanV w w.heap.size v p) :
  Calls Try.prog 7 #[v, .int .i64 a, .int .i64 b] w fun e w' => e = .returned (.bool true) ∧ Below w.heap.size w w' := by
 obtain ⟨y2, y3, y4, y5, rfl, hin⟩ := h
 have HIN0 := Lib.hid hin
 obtain ⟨A2, c2, rfl, -, -⟩ := hin.secs.slice
 obtain ⟨A3, c3, rfl, -, -⟩ := hin.pts.slice
 obtain ⟨A4, c4, rfl, -, -⟩ := hin.sigs.slice
 obtain ⟨A5, c5, rfl, hcl5, hcm5⟩ := hin.routes.slice
 obtain ⟨n2, hn2⟩ : ∃ n, n = p.secs.length := ⟨_, rfl⟩
 obtain ⟨n3, hn3⟩ : ∃ n, n = p.pts.length := ⟨_, rfl⟩
 obtain ⟨n4, hn4⟩ : ∃ n, n = p.sigs.length := ⟨_, rfl⟩
 obtain ⟨n5, hn5⟩ : ∃ n, n = p.routes.length := ⟨_, rfl⟩
 have HM5 : Hid (n5 ≤ 9223372036854775807) := Lib.hid (by rw [hn5]; unfold maxLen at hcm5; omega)
 have HN5 := Lib.hid hn5
 have HP0 : Hid (PlanV w w.heap.size (.agg #[.int .i64 p.ver, .int .i64 p.par, .slice A2 n2 c2, .slice A3 n3 c3, .slice A4 n4 c4, .slice A5 n5 c5]) p) := Lib.hid ⟨_, _, _, _, rfl, by rw [hn2, hn3, hn4, hn5]; exact HIN0.out⟩
 rw [← hn2, ← hn3, ← hn4, ← hn5]
 clear hn2 hn3 hn4 hn5 HIN0 hin hcl5 hcm5
 have hq0 := heap_alloc_self w (.cells #[.int .i64 p.ver, .int .i64 p.par, .slice A2 n2 c2, .slice A3 n3 c3, .slice A4 n4 c4, .slice A5 n5 c5] 27)
 have hqb := below_new w (.cells #[.int .i64 p.ver, .int .i64 p.par, .slice A2 n2 c2, .slice A3 n3 c3, .slice A4 n4 c4, .slice A5 n5 c5] 27)
 go_enter Try.func7, Try.ntmps7
 go_upto_region 1 with fail
 generalize w.alloc (.cells #[.int .i64 p.ver, .int .i64 p.par, .slice A2 n2 c2, .slice A3 n3 c3, .slice A4 n4 c4, .slice A5 n5 c5] 27) = q at hq0 hqb ⊢
 have BZ := Lib.hid hqb
 have XP := Lib.hid hq0
 have HP := Lib.hid ((HP0.out.below hqb).more hqb.size)
 clear hq0 hqb HP0
 go_wp2_with fail
 refine (alive10 hs q).mono ?_
 rintro e w1 ⟨rfl, b1⟩
 replace BZ := Lib.hid (BZ.out.trans (b1.mono BZ.out.size))
 replace XP := Lib.hid ((b1.block _ (heap_lt XP.out)).trans XP.out)
 replace HP := Lib.hid ((HP.out.below b1).more b1.size)
 clear b1
 obtain ⟨k0, k1, k2, k3, k4, k5⟩ := cell6_of XP.out
 go_wp2_with fail
 refine (rgreat8_any _ p w1 HP.out).mono ?_
 rintro e w2 ⟨⟨g, rfl, hg⟩, bG⟩
 clear k0 k1 k2 k3 k4 k5
 replace BZ := Lib.hid (BZ.out.trans (bG.mono BZ.out.size))
 replace XP := Lib.hid ((bG.block _ (heap_lt XP.out)).trans XP.out)
 replace HP := Lib.hid ((HP.out.below bG).more bG.size)
 clear bG
 cases g with
 | true =>
  go_wp2_with fail
  go_ret
  exact ⟨rfl, BZ.out⟩
 | false =>
 have FEW := Lib.hid (hg rfl)
 clear hg
 obtain ⟨k0, k1, k2, k3, k4, k5⟩ := cell6_of XP.out
 go_wp2_with fail
 refine (hs.check _ p w2 HP.out).mono ?_
 rintro e w3 ⟨rfl, b3⟩
 clear k0 k1 k2 k3 k4 k5
 replace BZ := Lib.hid (BZ.out.trans (b3.mono BZ.out.size))
 replace XP := Lib.hid ((b3.block _ (heap_lt XP.out)).trans XP.out)
 replace HP := Lib.hid ((HP.out.below b3).more b3.size)
 clear b3
 obtain ⟨S, hS⟩ : ∃ x, x = sndE p := ⟨_, rfl⟩
 rw [← hS]
 by_cases h0 : S = 0
 rotate_left
 ·have d0 : (S != 0) = true := by simpa using h0
  clear h0 hS
  go_wp2_with fail
  go_ret
  exact ⟨rfl, BZ.out⟩
 subst h0
 have HSN := Lib.hid (sndE_zero.1 hS.symm)
 clear hS
 obtain ⟨k0, k1, k2, k3, k4, k5⟩ := cell6_of XP.out
 obtain ⟨x, hrx⟩ : ∃ x, x = elV p kRt p.routes a zRt := ⟨_, rfl⟩
 obtain ⟨E, hEx⟩ : ∃ x, x = elE p kRt p.routes a := ⟨_, rfl⟩
 have Vx := Lib.hid hrx
 have VE := Lib.hid hEx
 clear hrx hEx
 go_wp2_with fail
 refine (hp.route _ p a w3 HP.out).mono ?_
 rintro e w4 ⟨u3, u4, u5, rfl, hro, bR⟩
 rw [← Vx.out] at hro
 rw [← Vx.out, ← VE.out]
 obtain ⟨P3, Pg3, rfl⟩ := hro.path.slice
 obtain ⟨P4, Pg4, rfl⟩ := hro.over.slice
 obtain ⟨P5, Pg5, rfl⟩ := hro.flanks.slice
 obtain ⟨Pl3, hl3⟩ : ∃ n, n = x.path.length := ⟨_, rfl⟩
 obtain ⟨Pl4, hl4⟩ : ∃ n, n = x.over.length := ⟨_, rfl⟩
 obtain ⟨Pl5, hl5⟩ : ∃ n, n = x.flanks.length := ⟨_, rfl⟩
 have Nx : Hid (Pl3 = x.path.length ∧ Pl4 = x.over.length ∧ Pl5 = x.flanks.length) := Lib.hid ⟨hl3, hl4, hl5⟩
 have Hx : Hid (RouteV w4 w4.heap.size (.agg #[.int .i64 x.id, .int .i64 x.entry, .int .i64 x.exit, .slice P3 Pl3 Pg3, .slice P4 Pl4 Pg4, .slice P5 Pl5 Pg5, .int .i64 x.timer]) x) := Lib.hid ⟨_, _, _, rfl, by rw [hl3, hl4, hl5]; exact hro.in_⟩
 rw [← hl3, ← hl4, ← hl5]
 clear hro hl3 hl4 hl5 k0 k1 k2 k3 k4 k5
 replace BZ := Lib.hid (BZ.out.trans (bR.mono BZ.out.size))
 replace XP := Lib.hid ((bR.block _ (heap_lt XP.out)).trans XP.out)
 replace HP := Lib.hid ((HP.out.below bR).more bR.size)
 clear bR
 have XX0 := heap_alloc_self w4 (.cells #[.int .i64 0, .int .i64 0, .int .i64 0, .slice none 0 0, .slice none 0 0, .slice none 0 0, .int .i64 0] 34)
 have hb1 := below_setRow (below_new w4 (.cells #[.int .i64 0, .int .i64 0, .int .i64 0, .slice none 0 0, .slice none 0 0, .slice none 0 0, .int .i64 0] 34)) (Nat.le_refl _) #[.int .i64 x.id, .int .i64 x.entry, .int .i64 x.exit, .slice P3 Pl3 Pg3, .slice P4 Pl4 Pg4, .slice P5 Pl5 Pg5, .int .i64 x.timer]
 have hx1 := setRow_heap (w4.alloc (.cells #[.int .i64 0, .int .i64 0, .int .i64 0, .slice none 0 0, .slice none 0 0, .slice none 0 0, .int .i64 0] 34)) w4.heap.size _ #[.int .i64 x.id, .int .i64 x.entry, .int .i64 x.exit, .slice P3 Pl3 Pg3, .slice P4 Pl4 Pg4, .slice P5 Pl5 Pg5, .int .i64 x.timer] 34 _ XX0
 go_upto_region 5 with ((with_reducible show wpList _ _ _ (⟨none, _, _, _, _, _⟩ :: _) _ _); refine wpList_store_rowS rfl _ (.tmp 8) (.tmp 29) rfl w4.heap.size rfl (c' := #[.int .i64 x.id, .int .i64 x.entry, .int .i64 x.exit, .slice P3 Pl3 Pg3, .slice P4 Pl4 Pg4, .slice P5 Pl5 Pg5, .int .i64 x.timer]) rfl XX0 infoRoute7 rfl (by simp [Value.oneCell']) ?_)
 generalize (w4.alloc (.cells #[.int .i64 0, .int .i64 0, .int .i64 0, .slice none 0 0, .slice none 0 0, .slice none 0 0, .int .i64 0] 34)).setRow w4.heap.size #[.int .i64 x.id, .int .i64 x.entry, .int .i64 x.exit, .slice P3 Pl3 Pg3, .slice P4 Pl4 Pg4, .slice P5 Pl5 Pg5, .int .i64 x.timer] = q1 at hb1 hx1 ⊢
 obtain ⟨px, hp1⟩ : ∃ n, n = w4.heap.size := ⟨_, rfl⟩
 rw [← hp1] at hx1 ⊢
 have XX := Lib.hid hx1
 clear hx1 XX0 hp1
 replace BZ := Lib.hid (BZ.out.trans (hb1.mono BZ.out.size))
 replace XP := Lib.hid ((hb1.block _ (heap_lt XP.out)).trans XP.out)
 replace HP := Lib.hid ((HP.out.below hb1).more hb1.size)
 replace Hx := Lib.hid ((Hx.out.below hb1).more hb1.size)
 clear hb1
 obtain ⟨k0, k1, k2, k3, k4, k5⟩ := cell6_of XP.out
 obtain ⟨y, hry⟩ : ∃ x, x = elV p kRt p.routes b zRt := ⟨_, rfl⟩
 obtain ⟨F, hEy⟩ : ∃ x, x = elE p kRt p.routes b := ⟨_, rfl⟩
 have Vy := Lib.hid hry
 have VF := Lib.hid hEy
 clear hry hEy
 go_wp2_with fail
 refine (hp.route _ p b q1 HP.out).mono ?_
 rintro e w5 ⟨u3, u4, u5, rfl, hro, bR⟩
 rw [← Vy.out] at hro
 rw [← Vy.out, ← VF.out]
 obtain ⟨Q3, Qg3, rfl⟩ := hro.path.slice
 obtain ⟨Q4, Qg4, rfl⟩ := hro.over.slice
 obtain ⟨Q5, Qg5, rfl⟩ := hro.flanks.slice
 obtain ⟨Ql3, hl3⟩ : ∃ n, n = y.path.length := ⟨_, rfl⟩
 obtain ⟨Ql4, hl4⟩ : ∃ n, n = y.over.length := ⟨_, rfl⟩
 obtain ⟨Ql5, hl5⟩ : ∃ n, n = y.flanks.length := ⟨_, rfl⟩
 have Ny : Hid (Ql3 = y.path.length ∧ Ql4 = y.over.length ∧ Ql5 = y.flanks.length) := Lib.hid ⟨hl3, hl4, hl5⟩
 have Hy : Hid (RouteV w5 w5.heap.size (.agg #[.int .i64 y.id, .int .i64 y.entry, .int .i64 y.exit, .slice Q3 Ql3 Qg3, .slice Q4 Ql4 Qg4, .slice Q5 Ql5 Qg5, .int .i64 y.timer]) y) := Lib.hid ⟨_, _, _, rfl, by rw [hl3, hl4, hl5]; exact hro.in_⟩
 rw [← hl3, ← hl4, ← hl5]
 clear hro hl3 hl4 hl5 k0 k1 k2 k3 k4 k5
 replace BZ := Lib.hid (BZ.out.trans (bR.mono BZ.out.size))
 replace XP := Lib.hid ((bR.block _ (heap_lt XP.out)).trans XP.out)
 replace XX := Lib.hid ((bR.block _ (heap_lt XX.out)).trans XX.out)
 replace HP := Lib.hid ((HP.out.below bR).more bR.size)
 replace Hx := Lib.hid ((Hx.out.below bR).more bR.size)
 clear bR
 have XX0 := heap_alloc_self w5 (.cells #[.int .i64 0, .int .i64 0, .int .i64 0, .slice none 0 0, .slice none 0 0, .slice none 0 0, .int .i64 0] 34)
 have hb2 := below_setRow (below_new w5 (.cells #[.int .i64 0, .int .i64 0, .int .i64 0, .slice none 0 0, .slice none 0 0, .slice none 0 0, .int .i64 0] 34)) (Nat.le_refl _) #[.int .i64 y.id, .int .i64 y.entry, .int .i64 y.exit, .slice Q3 Ql3 Qg3, .slice Q4 Ql4 Qg4, .slice Q5 Ql5 Qg5, .int .i64 y.timer]
 have hx2 := setRow_heap (w5.alloc (.cells #[.int .i64 0, .int .i64 0, .int .i64 0, .slice none 0 0, .slice none 0 0, .slice none 0 0, .int .i64 0] 34)) w5.heap.size _ #[.int .i64 y.id, .int .i64 y.entry, .int .i64 y.exit, .slice Q3 Ql3 Qg3, .slice Q4 Ql4 Qg4, .slice Q5 Ql5 Qg5, .int .i64 y.timer] 34 _ XX0
 go_upto_region 6 with ((with_reducible show wpList _ _ _ (⟨none, _, _, _, _, _⟩ :: _) _ _); refine wpList_store_rowS rfl _ (.tmp 10) (.tmp 35) rfl w5.heap.size rfl (c' := #[.int .i64 y.id, .int .i64 y.entry, .int .i64 y.exit, .slice Q3 Ql3 Qg3, .slice Q4 Ql4 Qg4, .slice Q5 Ql5 Qg5, .int .i64 y.timer]) rfl XX0 infoRoute7 rfl (by simp [Value.oneCell']) ?_)
 generalize (w5.alloc (.cells #[.int .i64 0, .int .i64 0, .int .i64 0, .slice none 0 0, .slice none 0 0, .slice none 0 0, .int .i64 0] 34)).setRow w5.heap.size #[.int .i64 y.id, .int .i64 y.entry, .int .i64 y.exit, .slice Q3 Ql3 Qg3, .slice Q4 Ql4 Qg4, .slice Q5 Ql5 Qg5, .int .i64 y.timer] = q2 at hb2 hx2 ⊢
 obtain ⟨py, hp2⟩ : ∃ n, n = w5.heap.size := ⟨_, rfl⟩
 rw [← hp2] at hx2 ⊢
 have XY := Lib.hid hx2
 clear hx2 XX0 hp2
 replace BZ := Lib.hid (BZ.out.trans (hb2.mono BZ.out.size))
 replace XP := Lib.hid ((hb2.block _ (heap_lt XP.out)).trans XP.out)
 replace XX := Lib.hid ((hb2.block _ (heap_lt XX.out)).trans XX.out)
 replace HP := Lib.hid ((HP.out.below hb2).more hb2.size)
 replace Hx := Lib.hid ((Hx.out.below hb2).more hb2.size)
 replace Hy := Lib.hid ((Hy.out.below hb2).more hb2.size)
 clear hb2
 obtain ⟨m0, m1, m2, m3, m4, m5, m6⟩ := cell7_of XX.out
 obtain ⟨n0, n1, n2_, n3_, n4_, n5_, n6⟩ := cell7_of XY.out
 have BD : Hid (∀ nq, Below q2.heap.size q2 (q2.drewN nq)) := Lib.hid (fun nq => drewN_below q2 nq)
 by_cases h1 : E = 0
 rotate_left
 ·have d0 : (E != 0) = true := by simpa using h1
  clear h1
  go_quiet (fail)
  have hdb := BD.out nq
  generalize q2.drewN nq = v3 at hdb ⊢
  have B3 := Lib.hid (BZ.out.trans (hdb.mono BZ.out.size))
  go_wp2_with fail
  go_ret
  exact ⟨rfl, B3.out⟩
 by_cases h2 : F = 0
 rotate_left
 ·have d0 : (E != 0) = false := by rw [h1]; rfl
  have d1 : (F != 0) = true := by simpa using h2
  clear h1 h2
  go_quiet (fail)
  have hdb := BD.out nq
  generalize q2.drewN nq = v3 at hdb ⊢
  have B3 := Lib.hid (BZ.out.trans (hdb.mono BZ.out.size))
  go_wp2_with fail
  go_ret
  exact ⟨rfl, B3.out⟩
 have d0 : (E != 0) = false := by rw [h1]; rfl
 have d1 : (F != 0) = false := by rw [h2]; rfl
 have HX : Hid (∃ k, ∃ hk : k < p.routes.length, x = p.routes[k] ∧ Sound p x) := Lib.hid (by
  obtain ⟨k, hk, -, h3, -⟩ := el_at (VE.out.symm.trans h1)
  have e := Vx.out.trans h3
  exact ⟨k, hk, e, by rw [e]; exact HSN.out.each k hk⟩)
 have HY : Hid (∃ k, ∃ hk : k < p.routes.length, y = p.routes[k] ∧ Sound p y) := Lib.hid (by
  obtain ⟨k, hk, -, h3, -⟩ := el_at (VF.out.symm.trans h2)
  have e := Vy.out.trans h3
  exact ⟨k, hk, e, by rw [e]; exact HSN.out.each k hk⟩)
 clear h1 h2
 by_cases h3 : x.entry = y.entry
 rotate_left
 ·have d2 : (x.entry != y.entry) = true := by simpa using h3
  clear h3
  go_quiet (fail)
  have hdb := BD.out nq
  generalize q2.drewN nq = v3 at hdb ⊢
  have B3 := Lib.hid (BZ.out.trans (hdb.mono BZ.out.size))
  go_wp2_with fail
  go_ret
  exact ⟨rfl, B3.out⟩
 have d2 : (x.entry != y.entry) = false := by simpa using h3
 have HPX : Hid (0 < x.path.length ∧ 0 < y.path.length) := Lib.hid (by
  obtain ⟨k, hk, e, -⟩ := HX.out
  obtain ⟨m, hm, e', -⟩ := HY.out
  have h4 := (HSN.out.may.each k hk).2.2.path
  have h5 := (HSN.out.may.each m hm).2.2.path
  rw [← e] at h4
  rw [← e'] at h5
  omega)
 have hpl : 0 < Pl3 := by have := HPX.out; have := Nx.out; omega
 have hql : 0 < Ql3 := by have := HPX.out; have := Ny.out; omega
 obtain ⟨f0, hf0⟩ : ∃ f, f = x.path[0]'(HPX.out.1) := ⟨_, rfl⟩
 have hyf : y.path[0]'(HPX.out.2) = f0 := by
  obtain ⟨k, hk, e, h4⟩ := HX.out
  obtain ⟨m, hm, e', h5⟩ := HY.out
  rw [hf0]
  exact (entry_first h4.hangs h5.hangs h3 HPX.out.1 HPX.out.2).symm
 have GX : Hid (IntsIn q2 q2.heap.size (.slice P3 Pl3 Pg3) x.path) := Lib.hid (by
  obtain ⟨_, _, _, e, h4⟩ := Hx.out
  cases e
  exact h4.path)
 have GY : Hid (IntsIn q2 q2.heap.size (.slice Q3 Ql3 Qg3) y.path) := Lib.hid (by
  obtain ⟨_, _, _, e, h4⟩ := Hy.out
  cases e
  exact h4.path)
 obtain ⟨bx, ox, e1, -, hx0⟩ := GX.out.at HPX.out.1
 obtain ⟨by_, oy, e2, -, hy0⟩ := GY.out.at HPX.out.2
 cases e1
 cases e2
 rw [← hf0] at hx0
 rw [hyf] at hy0
 have g0 : q2.cell? ⟨bx, ox, none⟩ = some (.int .i64 f0) := by simpa [IntR] using hx0
 have g1 : q2.cell? ⟨by_, oy, none⟩ = some (.int .i64 f0) := by simpa [IntR] using hy0
 have d3 : (f0 == f0) = true := by simp
 clear h3 hf0 hyf hx0 hy0
 go_quiet (fail)
 have hdb := BD.out nq
 generalize q2.drewN nq = v3 at hdb ⊢
 have B3 := Lib.hid (BZ.out.trans (hdb.mono BZ.out.size))
 go_wp2_with fail
 go_ret
 exact ⟨rfl, B3.out⟩
end Go.Proofs.Ytccbdpeicemnjaa
