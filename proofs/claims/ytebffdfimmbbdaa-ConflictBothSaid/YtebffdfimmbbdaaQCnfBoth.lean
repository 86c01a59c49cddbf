/-
 ConflictBoth: the walk, given the program's contracts.
 Conditions: none.
-/
import Derived.Test.YtebffdfimmbbdaaQGCnfSt
import Derived.Test.YtebffdfimmbbdaaQGSndM
import Derived.BigQuiet
set_option linter.unusedVariables false
set_option linter.unusedSimpArgs false
set_option maxRecDepth 100000
namespace Go.Proofs.Ytebffdfimmbbdaa
open Go.RowKit

theorem tabC_parts (p : Pl) (i : Nat) : ∀ m, i < m → ∃ t, tabC p m = tabC p i ++ rowC p i p.routes.length ++ t
 | 0, h => by omega
 | m + 1, h => by
  rcases Nat.lt_or_ge i m with h1 | h1
  ·obtain ⟨t, ht⟩ := tabC_parts p i m h1
   exact ⟨t ++ rowC p m p.routes.length, by rw [tabC_succ, ht, List.append_assoc]⟩
  ·obtain rfl : i = m := by omega
   exact ⟨[], by rw [tabC_succ, List.append_nil]⟩
theorem rowC_parts (p : Pl) (i k : Nat) : ∀ n, k ≤ n → ∃ t, rowC p i n = rowC p i k ++ t
 | 0, h => by
  obtain rfl : k = 0 := by omega
  exact ⟨[], by simp⟩
 | n + 1, h => by
  rcases Nat.lt_or_ge n k with h1 | h1
  ·obtain rfl : k = n + 1 := by omega
   exact ⟨[], by simp⟩
  ·obtain ⟨t, ht⟩ := rowC_parts p i k n h1
   by_cases hin : i < n
   ·cases hc : confW (wayR p (rtI p i)) (wayR p (rtI p n)) with
    | true => exact ⟨t ++ [((rtI p i).id, (rtI p n).id)], by rw [rowC_take hin hc, ht, List.append_assoc]⟩
    | false => exact ⟨t, by rw [rowC_skip hc, ht]⟩
   ·refine ⟨t, ?_⟩
    have h2 : rowC p i (n + 1) = rowC p i n := by rw [rowC_zero p i (by omega), rowC_zero p i (by omega)]
    rw [h2, ht]
theorem tabC_at {p : Pl} {i k m : Nat} {x : Jn} (hi : i < m) (hk : k < p.routes.length) (h : rowC p i (k + 1) = rowC p i k ++ [x]) : (tabC p i ++ rowC p i k).length < (tabC p m).length ∧ ∀ hn : (tabC p i ++ rowC p i k).length < (tabC p m).length, (tabC p m)[(tabC p i ++ rowC p i k).length] = x := by
 obtain ⟨t, ht⟩ := tabC_parts p i m hi
 obtain ⟨s, hs⟩ := rowC_parts p i (k + 1) p.routes.length (by omega)
 have e : tabC p m = (tabC p i ++ rowC p i k) ++ (x :: (s ++ t)) := by rw [ht, hs, h]; simp
 refine ⟨by rw [e, List.length_append]; simp, fun hn => ?_⟩
 have h2 : (tabC p m)[(tabC p i ++ rowC p i k).length]? = some x := by rw [e, List.getElem?_append_right (Nat.le_refl _)]; simp
 rw [List.getElem?_eq_getElem hn] at h2
 exact Option.some.inj h2
set_option maxHeartbeats 16000000 in
theorem walk_cnf_both (hc : CnfSaid) (hs : SndSaid) (v : Value) (p : Pl) (w : World) (h : PlanV w w.heap.size v p) :
  Calls Try.prog 4 #[v] w fun e w' => e = .returned (.bool true) ∧ Below w.heap.size w w' := by
 obtain ⟨y2, y3, y4, y5, rfl, hin⟩ := h
 have HIN0 := Lib.hid hin
 obtain ⟨A2, c2, rfl, -, -⟩ := hin.secs.slice
 obtain ⟨A3, c3, rfl, -, -⟩ := hin.pts.slice
 obtain ⟨A4, c4, rfl, -, -⟩ := hin.sigs.slice
 obtain ⟨A5, c5, rfl, hcl5, hcm5⟩ := hin.routes.slice
 obtain ⟨n2, hn2⟩ : ∃ n, n = p.secs.length := ⟨_, rfl⟩
 obtain ⟨n3, hn3⟩ : ∃ n, n = p.pts.length := ⟨_, rfl⟩
 obtain ⟨n4, hn4⟩ : ∃ n, n = p.sigs.length := ⟨_, rfl⟩
 obtain ⟨n5, hn5⟩ : ∃ n, n = p.routes.length := ⟨_, rfl⟩
 have HM5 : Hid (n5 ≤ 9223372036854775807) := Lib.hid (by rw [hn5]; unfold maxLen at hcm5; omega)
 have HN5 := Lib.hid hn5
 have HP0 : Hid (PlanV w w.heap.size (.agg #[.int .i64 p.ver, .int .i64 p.par, .slice A2 n2 c2, .slice A3 n3 c3, .slice A4 n4 c4, .slice A5 n5 c5]) p) := Lib.hid ⟨_, _, _, _, rfl, by rw [hn2, hn3, hn4, hn5]; exact HIN0.out⟩
 rw [← hn2, ← hn3, ← hn4, ← hn5]
 clear hn2 hn3 hn4 hn5 HIN0 hin hcl5 hcm5
 have hq0 := heap_alloc_self w (.cells #[.int .i64 p.ver, .int .i64 p.par, .slice A2 n2 c2, .slice A3 n3 c3, .slice A4 n4 c4, .slice A5 n5 c5] 30)
 have hqb := below_new w (.cells #[.int .i64 p.ver, .int .i64 p.par, .slice A2 n2 c2, .slice A3 n3 c3, .slice A4 n4 c4, .slice A5 n5 c5] 30)
 go_enter Try.func4, Try.ntmps4
 go_upto_region 1 with fail
 generalize w.alloc (.cells #[.int .i64 p.ver, .int .i64 p.par, .slice A2 n2 c2, .slice A3 n3 c3, .slice A4 n4 c4, .slice A5 n5 c5] 30) = q at hq0 hqb ⊢
 have BZ := Lib.hid hqb
 have XP := Lib.hid hq0
 have HP := Lib.hid ((HP0.out.below hqb).more hqb.size)
 clear hq0 hqb HP0
 go_wp2_with fail
 refine (alive11 hc q).mono ?_
 rintro e w1 ⟨rfl, b1⟩
 replace BZ := Lib.hid (BZ.out.trans (b1.mono BZ.out.size))
 replace XP := Lib.hid ((b1.block _ (heap_lt XP.out)).trans XP.out)
 replace HP := Lib.hid ((HP.out.below b1).more b1.size)
 clear b1
 obtain ⟨k0, k1, k2, k3, k4, k5⟩ := cell6_of XP.out
 go_wp2_with fail
 refine (rgreat8_any _ p w1 HP.out).mono ?_
 rintro e w2 ⟨⟨g, rfl, hg⟩, bG⟩
 clear k0 k1 k2 k3 k4 k5
 replace BZ := Lib.hid (BZ.out.trans (bG.mono BZ.out.size))
 replace XP := Lib.hid ((bG.block _ (heap_lt XP.out)).trans XP.out)
 replace HP := Lib.hid ((HP.out.below bG).more bG.size)
 clear bG
 cases g with
 | true =>
  go_wp2_with fail
  go_ret
  exact ⟨rfl, BZ.out⟩
 | false =>
 have FEW := Lib.hid (hg rfl)
 clear hg
 obtain ⟨S, hS⟩ : ∃ x, x = sndE p := ⟨_, rfl⟩
 obtain ⟨l, hl⟩ : ∃ x, x = tabL p := ⟨_, rfl⟩
 have HS := Lib.hid hS
 have HL := Lib.hid hl
 clear hS hl
 obtain ⟨k0, k1, k2, k3, k4, k5⟩ := cell6_of XP.out
 go_wp2_with fail
 refine (hc.table _ p w2 HP.out).mono ?_
 rintro e w3 ⟨u, rfl, hu, bN⟩
 rw [← HL.out] at hu
 rw [← HS.out]
 have LD := Lib.hid (hu.in_ joinR_cells)
 obtain ⟨nl, hnl⟩ : ∃ n, n = l.length := ⟨_, rfl⟩
 have HNL := Lib.hid hnl
 obtain ⟨DA, Dc, rfl⟩ := hu.slice
 rw [← HNL.out] at LD ⊢
 clear hu hnl
 clear k0 k1 k2 k3 k4 k5
 replace BZ := Lib.hid (BZ.out.trans (bN.mono BZ.out.size))
 replace XP := Lib.hid ((bN.block _ (heap_lt XP.out)).trans XP.out)
 replace HP := Lib.hid ((HP.out.below bN).more bN.size)
 clear bN
 by_cases h0 : S = 0
 rotate_left
 ·have d0 : (S != 0) = true := by simpa using h0
  have d1 : (S == S) = true := by simp
  have hn0 : nl = 0 := by
   rcases sndE_cases p with ⟨h1, -⟩ | ⟨-, h1⟩
   ·exact absurd (HS.out.trans h1) h0
   ·rw [HNL.out, HL.out, tabL, soundP_false h1]; rfl
  subst hn0
  clear h0
  obtain ⟨k0, k1, k2, k3, k4, k5⟩ := cell6_of XP.out
  go_wp2_with fail
  refine (hs.check _ p w3 HP.out).mono ?_
  rintro e w4 ⟨rfl, b4⟩
  rw [← HS.out]
  have BL := Lib.hid (BZ.out.trans (b4.mono BZ.out.size))
  clear b4 k0 k1 k2 k3 k4 k5
  go_wp2_with fail
  go_ret
  exact ⟨rfl, BL.out⟩
 subst h0
 have HSN := Lib.hid (sndE_zero.1 HS.out.symm)
 have N16 : Hid (n5 ≤ 16) := Lib.hid (by have := HSN.out.may.n; have := HN5.out; omega)
 have HLT : Hid (l = tabC p n5) := Lib.hid (by rw [HL.out, tabL, if_pos (soundP_true HSN.out), HN5.out])
 have N300 : Hid (nl ≤ 300) := Lib.hid (by
  rw [HNL.out, HLT.out]
  have h1 := tabC_len p n5
  have h3 := N16.out
  have h4 := HN5.out
  have h5 : n5 * p.routes.length ≤ 16 * 16 := Nat.mul_le_mul (by omega) (by omega)
  omega)
 have d0 : ((0 : Int) != 0) = false := by decide
 have hn9 := HM5.out
 go_wp2_with fail
 clear d0
 go_loopw [6, 7] (fun s6 s7 wr => ∃ i n : Nat, i ≤ n5 ∧ s7 = .int .i64 i ∧ s6 = .int .i64 n ∧ n = (tabC p i).length ∧ Below w3.heap.size w3 wr) (fun _ s7 _ => n5 - (intOf s7).toNat)
 case atStart => exact ⟨0, 0, by omega, by go_num, by go_num, rfl, Below.refl _ _⟩
 case round =>
  obtain ⟨i, m, hi, rfl, rfl, hm, hb⟩ := hrel
  have HM := Lib.hid hm
  have BW := Lib.hid hb
  clear hm hb
  have XPw := Lib.hid ((BW.out.block _ (heap_lt XP.out)).trans XP.out)
  obtain ⟨k0, k1, k2, k3, k4, k5⟩ := cell6_of XPw.out
  by_cases hlt : i < n5
  ·have hlt' : (i : Int) < n5 := by omega
   have hwi : IntKind.i64.wrap ((i : Int) + 1) = ((i + 1 : Nat) : Int) := by rw [wrap_id (by omega) (by have := N16.out; omega)]; omega
   go_wp2_with fail
   clear k0 k1 k2 k3 k4 k5 hwi
   go_loopw [6, 8] (fun s6 s8 wr => ∃ k n : Nat, i + 1 ≤ k ∧ k ≤ n5 ∧ s8 = .int .i64 k ∧ s6 = .int .i64 n ∧ n = (tabC p i ++ rowC p i k).length ∧ Below w3.heap.size w3 wr) (fun _ s8 _ => n5 - (intOf s8).toNat)
   case atStart => exact ⟨i + 1, m, by omega, by omega, by go_num, rfl, by rw [rowC_zero p i (Nat.le_refl _), List.append_nil]; exact HM.out, BW.out⟩
   case round =>
    obtain ⟨wy, hwy⟩ : ∃ u, u = wr := ⟨_, rfl⟩
    subst hwy
    obtain ⟨k, n, hik, hk, rfl, rfl, hn, hb⟩ := hrel
    have HNN := Lib.hid hn
    have BY := Lib.hid hb
    clear hn hb
    have XPy := Lib.hid ((BY.out.block _ (heap_lt XP.out)).trans XP.out)
    have HPy := Lib.hid ((HP.out.below BY.out).more BY.out.size)
    obtain ⟨k0, k1, k2, k3, k4, k5⟩ := cell6_of XPy.out
    by_cases hlk : k < n5
    ·have hlk' : (k : Int) < n5 := by omega
     have hir : i < p.routes.length := by have := HN5.out; omega
     have hkr : k < p.routes.length := by have := HN5.out; omega
     have hne : i ≠ k := by omega
     obtain ⟨r1, hr1⟩ : ∃ z, z = p.routes[i] := ⟨_, rfl⟩
     obtain ⟨r2, hr2⟩ : ∃ z, z = p.routes[k] := ⟨_, rfl⟩
     have e1 : rtI p i = r1 := by rw [hr1, rtI, List.getD, List.getElem?_eq_getElem hir]; rfl
     have e2 : rtI p k = r2 := by rw [hr2, rtI, List.getD, List.getElem?_eq_getElem hkr]; rfl
     obtain ⟨CF, hCF⟩ : ∃ c, c = confW (wayR p r1) (wayR p r2) := ⟨_, rfl⟩
     have HTW : Hid ((twoB p r1.id r2.id = CF ∧ twoE p r1.id r2.id = 0) ∧ twoB p r2.id r1.id = CF ∧ twoE p r2.id r1.id = 0) := Lib.hid (by
      have h1 := two_at HSN.out hir hkr hne
      have h2 := two_at HSN.out hkr hir (Ne.symm hne)
      rw [e1, e2] at h1 h2
      exact ⟨⟨h1.2.trans hCF.symm, h1.1⟩, by rw [h2.2, hCF]; exact confW_symm _ _, h2.1⟩)
     have HEN : Hid (r1.entry = r2.entry → CF = true) := Lib.hid (fun he => by
      have h1 := HSN.out.each i hir
      have h2 := HSN.out.each k hkr
      have h3 := (HSN.out.may.each i hir).2.2.path
      have h4 := (HSN.out.may.each k hkr).2.2.path
      rw [← hr1] at h1 h3
      rw [← hr2] at h2 h4
      rw [hCF]
      exact confW_true (conf_entry h1.hangs h2.hangs he (by omega) (by omega)))
     have HRT : Hid (CF = true → rowC p i (k + 1) = rowC p i k ++ [(r1.id, r2.id)]) := Lib.hid (fun h => by
      have h1 := rowC_take (p := p) (i := i) (n := k) (by omega) (by rw [e1, e2, ← hCF]; exact h)
      rw [e1, e2] at h1
      exact h1)
     have HRF : Hid (CF = false → rowC p i (k + 1) = rowC p i k) := Lib.hid (fun h => rowC_skip (by rw [e1, e2, ← hCF]; exact h))
     have HRIN : Hid (RoutesIn wy wy.heap.size (.slice A5 n5 c5) p.routes) := Lib.hid (by
      obtain ⟨_, _, _, _, e, hin⟩ := HPy.out
      cases e
      exact hin.routes)
     obtain ⟨bk, off, e5, -, hc0, hc1, -⟩ := HRIN.out.at hir
     obtain ⟨bk', off', e6, -, hd0, hd1, -⟩ := HRIN.out.at hkr
     cases e5
     cases e6
     rw [← hr1] at hc0 hc1
     rw [← hr2] at hd0 hd1
     have G0 : Hid (wy.cell? ⟨bk, off + i * 7, none⟩ = some (.int .i64 r1.id)) := Lib.hid hc0
     have G1 : Hid (wy.cell? ⟨bk, off + i * 7 + 1, none⟩ = some (.int .i64 r1.entry)) := Lib.hid hc1
     have G2 : Hid (wy.cell? ⟨bk, off + k * 7, none⟩ = some (.int .i64 r2.id)) := Lib.hid hd0
     have G3 : Hid (wy.cell? ⟨bk, off + k * 7 + 1, none⟩ = some (.int .i64 r2.entry)) := Lib.hid hd1
     have hg0 := G0.out
     have hg2 := G2.out
     clear hr1 hr2 e1 e2 hCF hne hc0 hc1 hd0 hd1
     go_wp2_with fail
     refine (hc.two _ p r1.id r2.id wy HPy.out).mono ?_
     rintro e v4 ⟨rfl, b4⟩
     rw [HTW.out.1.1, HTW.out.1.2]
     have B4 := Lib.hid (BY.out.trans (b4.mono BY.out.size))
     have XP4 := Lib.hid ((b4.block _ (heap_lt XPy.out)).trans XPy.out)
     have HP4 := Lib.hid ((HPy.out.below b4).more b4.size)
     have G1b := Lib.hid ((b4.cell (cell_lt G1.out)).trans G1.out)
     have G3b := Lib.hid ((b4.cell (cell_lt G3.out)).trans G3.out)
     clear b4 hg0 hg2 k0 k1 k2 k3 k4 k5 G0 G1 G2 G3 HRIN XPy HPy
     obtain ⟨k0, k1, k2, k3, k4, k5⟩ := cell6_of XP4.out
     go_wp2_with fail
     refine (hc.two _ p r2.id r1.id v4 HP4.out).mono ?_
     rintro e v5 ⟨rfl, b5⟩
     rw [HTW.out.2.1, HTW.out.2.2]
     have B5 := Lib.hid (B4.out.trans (b5.mono B4.out.size))
     have XP5 := Lib.hid ((b5.block _ (heap_lt XP4.out)).trans XP4.out)
     have g1 := (b5.cell (cell_lt G1b.out)).trans G1b.out
     have g3 := (b5.cell (cell_lt G3b.out)).trans G3b.out
     have BD : Hid (∀ nq, Below v5.heap.size v5 (v5.drewN nq)) := Lib.hid (fun nq => drewN_below v5 nq)
     clear b5 k0 k1 k2 k3 k4 k5 G1b G3b XP4 HP4 B4
     obtain ⟨k0, k1, k2, k3, k4, k5⟩ := cell6_of XP5.out
     go_upto_region 18 with fail
     cases CF with
     | false =>
      have d1 : (r1.entry == r2.entry) = false := by
       have h1 : ¬ r1.entry = r2.entry := fun h => by have := HEN.out h; cases this
       simpa using h1
      have NX : Hid (tabC p i ++ rowC p i (k + 1) = tabC p i ++ rowC p i k) := Lib.hid (by rw [HRF.out rfl])
      go_quiet (fail)
      have hdb := BD.out nq
      generalize v5.drewN nq = v6 at hdb ⊢
      have B6 := Lib.hid (B5.out.trans (hdb.mono B5.out.size))
      clear hdb BD g1 g3 d1 k0 k1 k2 k3 k4 k5
      go_wp2_with fail
      go_roundw
      case measure => simp [intOf]; omega
      case rel => exact ⟨k + 1, n, by omega, by omega, by go_num, rfl, by rw [NX.out]; exact HNN.out, B6.out⟩
     | true =>
      obtain ⟨D1, hD1⟩ : ∃ b, b = (r1.entry == r2.entry) := ⟨_, rfl⟩
      have hD2 := hD1.symm
      clear hD1
      have HP_ : Hid (n < nl ∧ ∀ h : n < l.length, l[n] = (r1.id, r2.id)) := Lib.hid (by
       have h1 := tabC_at (p := p) (i := i) (k := k) (m := n5) (by omega) (by have := HN5.out; omega) (HRT.out rfl)
       rw [← HNN.out, ← HLT.out] at h1
       exact ⟨by rw [HNL.out]; exact h1.1, fun h => h1.2 h⟩)
      have NX : Hid (n + 1 = (tabC p i ++ rowC p i (k + 1)).length) := Lib.hid (by rw [HRT.out rfl, ← List.append_assoc, List.length_append, ← HNN.out]; rfl)
      have hnl : n < nl := HP_.out.1
      have hnl' : (n : Int) < nl := by omega
      have dge : decide ((nl : Int) ≤ n) = false := decide_eq_false (by omega)
      have h300 := N300.out
      have hln : n < l.length := by rw [← HNL.out]; exact hnl
      obtain ⟨b1, o1, ee, -, c0, c1⟩ := (LD.out.below joinR B5.out).at hln
      cases ee
      rw [HP_.out.2 hln] at c0 c1
      have g5 : Hid (v5.cell? ⟨b1, o1 + n * 2, none⟩ = some (.int .i64 r1.id)) := Lib.hid c0
      have g6 : Hid (v5.cell? ⟨b1, o1 + n * 2 + 1, none⟩ = some (.int .i64 r2.id)) := Lib.hid c1
      have hcmp : ∀ w' : World, (Op.equalIn 10000 42 (.agg #[.int .i64 r1.id, .int .i64 r2.id]) (.agg #[.int .i64 r1.id, .int .i64 r2.id])).run Try.prog w' = .ok true w' := pair_self _ _
      clear c0 c1 hln
      cases D1 with
      | true =>
       go_quiet (fail)
       have hdb := BD.out nq
       generalize v5.drewN nq = v6 at hdb ⊢
       have B6 := Lib.hid (B5.out.trans (hdb.mono B5.out.size))
       have gg5 := (hdb.cell (cell_lt g5.out)).trans g5.out
       have gg6 := (hdb.cell (cell_lt g6.out)).trans g6.out
       clear hdb BD g1 g3 hD2 k0 k1 k2 k3 k4 k5
       go_wp2_with fail
       go_roundw
       case measure => simp [intOf]; omega
       case rel => exact ⟨k + 1, n + 1, by omega, by omega, by go_num, by go_num, NX.out, B6.out⟩
      | false =>
       go_quiet (fail)
       have hdb := BD.out nq
       generalize v5.drewN nq = v6 at hdb ⊢
       have B6 := Lib.hid (B5.out.trans (hdb.mono B5.out.size))
       have gg5 := (hdb.cell (cell_lt g5.out)).trans g5.out
       have gg6 := (hdb.cell (cell_lt g6.out)).trans g6.out
       clear hdb BD g1 g3 hD2 k0 k1 k2 k3 k4 k5
       go_wp2_with fail
       go_roundw
       case measure => simp [intOf]; omega
       case rel => exact ⟨k + 1, n + 1, by omega, by omega, by go_num, by go_num, NX.out, B6.out⟩
    ·obtain rfl : k = n5 := by omega
     have hlk' : ¬ (k : Int) < k := by omega
     have HE : Hid (tabC p (i + 1) = tabC p i ++ rowC p i k) := Lib.hid (by rw [tabC_succ, HN5.out])
     go_wp2_with fail
     go_roundw
     case measure => simp [intOf]; omega
     case rel => exact ⟨i + 1, n, by omega, by go_num, rfl, by rw [HE.out]; exact HNN.out, BY.out⟩
  ·obtain rfl : i = n5 := by omega
   have hlt' : ¬ (i : Int) < i := by omega
   have hmn : m = nl := by rw [HNL.out, HLT.out]; exact HM.out
   have d1 : ((m : Int) == (nl : Int)) = true := by simp; omega
   go_wp2_with fail
   go_ret
   exact ⟨rfl, BZ.out.trans (BW.out.mono BZ.out.size)⟩
end Go.Proofs.Ytebffdfimmbbdaa
