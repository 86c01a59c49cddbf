/-
 The program's package conflict: Two.
 Conditions: none.
-/
import Derived.Test.YtebffdfimmbbdaaGreatQCnfPB
import Derived.Test.YtebffdfimmbbdaaGreatQGCnfM
import Derived.Test.YtebffdfimmbbdaaGreatQGSndM
import Derived.Test.YtebffdfimmbbdaaGreatQWayProg
import Derived.Test.YtebffdfimmbbdaaGreatQWayPQ
set_option linter.unusedVariables false
set_option linter.unusedSimpArgs false
set_option maxRecDepth 100000
namespace Go.Proofs.YtebffdfimmbbdaaGreat
open Go.RowKit

set_option maxHeartbeats 16000000 in
theorem ptwo_any (hs : SndSaid) (hw : WaySaid) (v : Value) (p : Pl) (a b : Int) (w : World) (h : PlanV w w.heap.size v p) :
  Calls Tryz.prog 6 #[v, .int .i64 a, .int .i64 b] w fun e w' => e = .returned (.tuple #[.bool (twoB p a b), .int .i64 (twoE p a b)]) ∧ Below w.heap.size w w' := by
 obtain ⟨A2, c2, A3, c3, A4, c4, A5, c5, n2, n3, n4, n5, rfl, hm2, hm3, hm4, hm5, HCP, HIN, HN⟩ := open_plan h
 have hq0 := heap_alloc_self w (.cells #[.int .i64 p.ver, .int .i64 p.par, .slice A2 n2 c2, .slice A3 n3 c3, .slice A4 n4 c4, .slice A5 n5 c5] 27)
 have hqb := below_new w (.cells #[.int .i64 p.ver, .int .i64 p.par, .slice A2 n2 c2, .slice A3 n3 c3, .slice A4 n4 c4, .slice A5 n5 c5] 27)
 go_enter Tryz.func6, Tryz.ntmps6
 go_upto_region 1 with fail
 generalize w.alloc (.cells #[.int .i64 p.ver, .int .i64 p.par, .slice A2 n2 c2, .slice A3 n3 c3, .slice A4 n4 c4, .slice A5 n5 c5] 27) = q at hq0 hqb ⊢
 have XP := Lib.hid hq0
 have BQ := Lib.hid hqb
 clear hq0 hqb
 obtain ⟨k0, k1, k2, k3, k4, k5⟩ := cell6_of XP.out
 go_wp2_with fail
 refine (hs.check _ p q ⟨_, _, _, _, rfl, (HIN.out.below BQ.out).more BQ.out.size⟩).mono ?_
 rintro e w1 ⟨rfl, b1⟩
 have XP1 := Lib.hid ((b1.block _ (heap_lt XP.out)).trans XP.out)
 have B1 := Lib.hid (BQ.out.trans (b1.mono BQ.out.size))
 have HI := Lib.hid ((HIN.out.below B1.out).more B1.out.size)
 clear b1 k0 k1 k2 k3 k4 k5 XP BQ HIN
 obtain ⟨S, hS⟩ : ∃ x, x = sndE p := ⟨_, rfl⟩
 rw [← hS]
 by_cases h0 : S = 0
 rotate_left
 ·have d0 : (S != 0) = true := by simpa using h0
  have HT : Hid (twoE p a b = S ∧ twoB p a b = false) := Lib.hid (two_unsound hS.symm h0)
  clear h0 hS
  go_wp2_with fail
  refine bodyPost_ret (results_tmp2 rfl _ _ _) rfl ?_
  exact ⟨by rw [HT.out.1, HT.out.2]; rfl, B1.out⟩
 subst h0
 have HSN := Lib.hid (sndE_zero.1 hS.symm)
 have d0 : ((0 : Int) != 0) = false := by decide
 clear hS
 obtain ⟨k0, k1, k2, k3, k4, k5⟩ := cell6_of XP1.out
 go_wp2_with fail
 refine (hw.of _ p a w1 ⟨_, _, _, _, rfl, HI.out⟩).mono ?_
 rintro e w2 ⟨u0, u1, u2, rfl, hu, bO⟩
 obtain ⟨x, hx⟩ : ∃ x, x = wayV p a := ⟨_, rfl⟩
 obtain ⟨Ea, he⟩ : ∃ x, x = wayE p a := ⟨_, rfl⟩
 rw [← hx] at hu ⊢
 rw [← he]
 have Vx := Lib.hid hx
 have VEa := Lib.hid he
 obtain ⟨P0, pd0, rfl⟩ := hu.path.slice
 obtain ⟨P1, pd1, rfl⟩ := hu.over.slice
 obtain ⟨P2, pd2, rfl⟩ := hu.asks.slice
 obtain ⟨pn0, hn0⟩ : ∃ n, n = x.path.length := ⟨_, rfl⟩
 obtain ⟨pn1, hn1⟩ : ∃ n, n = x.over.length := ⟨_, rfl⟩
 obtain ⟨pn2, hn2⟩ : ∃ n, n = x.asks.length := ⟨_, rfl⟩
 have Wx : Hid (WayV w2 w2.heap.size (.agg #[.slice P0 pn0 pd0, .slice P1 pn1 pd1, .slice P2 pn2 pd2, .int .i64 x.near]) x) := Lib.hid ⟨_, _, _, rfl, by rw [hn0, hn1, hn2]; exact hu.in_⟩
 rw [← hn0, ← hn1, ← hn2]
 clear hu hx he hn0 hn1 hn2 k0 k1 k2 k3 k4 k5
 have XX0 := heap_alloc_self w2 (.cells #[.slice none 0 0, .slice none 0 0, .slice none 0 0, .int .i64 0] 56)
 have hb := below_setRow (below_new w2 (.cells #[.slice none 0 0, .slice none 0 0, .slice none 0 0, .int .i64 0] 56)) (Nat.le_refl _) #[.slice P0 pn0 pd0, .slice P1 pn1 pd1, .slice P2 pn2 pd2, .int .i64 x.near]
 have hx := setRow_heap (w2.alloc (.cells #[.slice none 0 0, .slice none 0 0, .slice none 0 0, .int .i64 0] 56)) w2.heap.size _ #[.slice P0 pn0 pd0, .slice P1 pn1 pd1, .slice P2 pn2 pd2, .int .i64 x.near] 56 _ XX0
 go_upto_region 5 with ((with_reducible show wpList _ _ _ (⟨none, _, _, _, _, _⟩ :: _) _ _); refine wpList_store_rowS rfl _ (.tmp 9) (.tmp 22) rfl w2.heap.size rfl (c' := #[.slice P0 pn0 pd0, .slice P1 pn1 pd1, .slice P2 pn2 pd2, .int .i64 x.near]) rfl XX0 infoWay4 rfl (by simp [Value.oneCell']) ?_)
 generalize (w2.alloc (.cells #[.slice none 0 0, .slice none 0 0, .slice none 0 0, .int .i64 0] 56)).setRow w2.heap.size #[.slice P0 pn0 pd0, .slice P1 pn1 pd1, .slice P2 pn2 pd2, .int .i64 x.near] = w2b at hb hx ⊢
 obtain ⟨p9, hp⟩ : ∃ n, n = w2.heap.size := ⟨_, rfl⟩
 rw [← hp] at hx ⊢
 have XX := Lib.hid hx
 have bb := bO.trans (hb.mono bO.size)
 have tB := B1.out.trans (bb.mono B1.out.size)
 have tP := (bb.block _ (heap_lt XP1.out)).trans XP1.out
 have tI := (HI.out.below bb).more bb.size
 have tW := (Wx.out.below hb).more hb.size
 clear B1 XP1 HI Wx  bO hb bb hx hp XX0
 have B1 := Lib.hid tB
 have XP1 := Lib.hid tP
 have HI := Lib.hid tI
 have Wx := Lib.hid tW
 clear tB tP tI tW 
 obtain ⟨k0, k1, k2, k3, k4, k5⟩ := cell6_of XP1.out
 go_wp2_with fail
 refine (hw.of _ p b w2b ⟨_, _, _, _, rfl, HI.out⟩).mono ?_
 rintro e w3 ⟨u0, u1, u2, rfl, hu, bO⟩
 obtain ⟨z, hx⟩ : ∃ x, x = wayV p b := ⟨_, rfl⟩
 obtain ⟨Eb, he⟩ : ∃ x, x = wayE p b := ⟨_, rfl⟩
 rw [← hx] at hu ⊢
 rw [← he]
 have Vz := Lib.hid hx
 have VEb := Lib.hid he
 obtain ⟨Q0, qd0, rfl⟩ := hu.path.slice
 obtain ⟨Q1, qd1, rfl⟩ := hu.over.slice
 obtain ⟨Q2, qd2, rfl⟩ := hu.asks.slice
 obtain ⟨qn0, hn0⟩ : ∃ n, n = z.path.length := ⟨_, rfl⟩
 obtain ⟨qn1, hn1⟩ : ∃ n, n = z.over.length := ⟨_, rfl⟩
 obtain ⟨qn2, hn2⟩ : ∃ n, n = z.asks.length := ⟨_, rfl⟩
 have Wz : Hid (WayV w3 w3.heap.size (.agg #[.slice Q0 qn0 qd0, .slice Q1 qn1 qd1, .slice Q2 qn2 qd2, .int .i64 z.near]) z) := Lib.hid ⟨_, _, _, rfl, by rw [hn0, hn1, hn2]; exact hu.in_⟩
 rw [← hn0, ← hn1, ← hn2]
 clear hu hx he hn0 hn1 hn2 k0 k1 k2 k3 k4 k5
 have XX0 := heap_alloc_self w3 (.cells #[.slice none 0 0, .slice none 0 0, .slice none 0 0, .int .i64 0] 56)
 have hb := below_setRow (below_new w3 (.cells #[.slice none 0 0, .slice none 0 0, .slice none 0 0, .int .i64 0] 56)) (Nat.le_refl _) #[.slice Q0 qn0 qd0, .slice Q1 qn1 qd1, .slice Q2 qn2 qd2, .int .i64 z.near]
 have hx := setRow_heap (w3.alloc (.cells #[.slice none 0 0, .slice none 0 0, .slice none 0 0, .int .i64 0] 56)) w3.heap.size _ #[.slice Q0 qn0 qd0, .slice Q1 qn1 qd1, .slice Q2 qn2 qd2, .int .i64 z.near] 56 _ XX0
 go_upto_region 6 with ((with_reducible show wpList _ _ _ (⟨none, _, _, _, _, _⟩ :: _) _ _); refine wpList_store_rowS rfl _ (.tmp 11) (.tmp 28) rfl w3.heap.size rfl (c' := #[.slice Q0 qn0 qd0, .slice Q1 qn1 qd1, .slice Q2 qn2 qd2, .int .i64 z.near]) rfl XX0 infoWay4 rfl (by simp [Value.oneCell']) ?_)
 generalize (w3.alloc (.cells #[.slice none 0 0, .slice none 0 0, .slice none 0 0, .int .i64 0] 56)).setRow w3.heap.size #[.slice Q0 qn0 qd0, .slice Q1 qn1 qd1, .slice Q2 qn2 qd2, .int .i64 z.near] = w3b at hb hx ⊢
 obtain ⟨p11, hp⟩ : ∃ n, n = w3.heap.size := ⟨_, rfl⟩
 rw [← hp] at hx ⊢
 have XZ := Lib.hid hx
 have bb := bO.trans (hb.mono bO.size)
 have tB := B1.out.trans (bb.mono B1.out.size)
 have tP := (bb.block _ (heap_lt XP1.out)).trans XP1.out
 have tI := (HI.out.below bb).more bb.size
 have tW := (Wz.out.below hb).more hb.size
 have tXX := (bb.block _ (heap_lt XX.out)).trans XX.out
 have tWx := (Wx.out.below bb).more bb.size
 clear B1 XP1 HI Wz XX Wx bO hb bb hx hp XX0
 have B1 := Lib.hid tB
 have XP1 := Lib.hid tP
 have HI := Lib.hid tI
 have Wz := Lib.hid tW
 have XX := Lib.hid tXX
 have Wx := Lib.hid tWx
 clear tB tP tI tW tXX tWx
 have HA := Lib.hid (way_told (c := a) HSN.out)
 have HB := Lib.hid (way_told (c := b) HSN.out)
 rw [← Vx.out, ← VEa.out] at HA
 rw [← Vz.out, ← VEb.out] at HB
 by_cases ha : Ea = 0
 rotate_left
 ·have d1 : (Ea != 0) = true := by simpa using ha
  have HT : Hid (twoE p a b = 6 ∧ twoB p a b = false) := Lib.hid (two_noone HSN.out (.inl (by have := HA.out.1; omega)))
  clear ha
  go_wp2_with fail
  refine bodyPost_ret (results_tmp2 rfl _ _ _) rfl ?_
  exact ⟨by rw [HT.out.1, HT.out.2]; rfl, B1.out⟩
 have d1 : (Ea != 0) = false := by simpa using ha
 by_cases hb : Eb = 0
 rotate_left
 ·have d2 : (Eb != 0) = true := by simpa using hb
  have HT : Hid (twoE p a b = 6 ∧ twoB p a b = false) := Lib.hid (two_noone HSN.out (.inr (by have := HB.out.1; omega)))
  clear ha hb
  go_wp2_with fail
  refine bodyPost_ret (results_tmp2 rfl _ _ _) rfl ?_
  exact ⟨by rw [HT.out.1, HT.out.2]; rfl, B1.out⟩
 have d2 : (Eb != 0) = false := by simpa using hb
 have HAB : Hid (0 ≤ at1 kRt p.routes a ∧ 0 ≤ at1 kRt p.routes b) := Lib.hid ⟨HA.out.1.1 ha, HB.out.1.1 hb⟩
 have LX := Lib.hid (HA.out.2 ha)
 have LZ := Lib.hid (HB.out.2 hb)
 clear ha hb HA HB
 by_cases hab : a = b
 ·have d3 : (a == b) = true := by simpa using hab
  have HT : Hid (twoE p a b = 2 ∧ twoB p a b = false) := Lib.hid (two_one HSN.out HAB.out.1 HAB.out.2 hab)
  clear hab
  go_wp2_with fail
  refine bodyPost_ret (results_tmp2 rfl _ _ _) rfl ?_
  exact ⟨by rw [HT.out.1, HT.out.2]; rfl, B1.out⟩
 have d3 : (a == b) = false := by simpa using hab
 have HT : Hid (twoE p a b = 0 ∧ twoB p a b = confW x z) := Lib.hid (by rw [LX.out.1, LZ.out.1]; exact two_two HSN.out HAB.out.1 HAB.out.2 hab)
 clear hab
 obtain ⟨m0, m1, m2, m3⟩ := cell4_of XX.out
 obtain ⟨n0, n1, n2_, n3_⟩ := cell4_of XZ.out
 go_wp2_with fail
 refine (clash_any _ _ x z w3b Wx.out Wz.out ⟨LX.out.2, LZ.out.2⟩).mono ?_
 rintro e w4 ⟨rfl, b4⟩
 have BL := Lib.hid (B1.out.trans (b4.mono B1.out.size))
 generalize confW x z = CB at HT ⊢
 clear b4 m0 m1 m2 m3 n0 n1 n2_ n3_
 go_wp2_with fail
 refine bodyPost_ret (results_tmp2 rfl _ _ _) rfl ?_
 exact ⟨by rw [HT.out.1, HT.out.2]; rfl, BL.out⟩

set_option maxHeartbeats 16000000 in
theorem ptable_any (hs : SndSaid) (v : Value) (p : Pl) (w : World) (h : PlanV w w.heap.size v p) :
  Calls Tryz.prog 8 #[v] w fun e w' => ∃ u, e = .returned (.tuple #[u, .int .i64 (sndE p)]) ∧ PairsOwn w' w.heap.size u (tabL p) ∧ Below w.heap.size w w' := by
 obtain ⟨A2, c2, A3, c3, A4, c4, A5, c5, n2, n3, n4, n5, rfl, hm2, hm3, hm4, hm5, HCP, HIN, HN⟩ := open_plan h
 have hq0 := heap_alloc_self w (.cells #[.int .i64 p.ver, .int .i64 p.par, .slice A2 n2 c2, .slice A3 n3 c3, .slice A4 n4 c4, .slice A5 n5 c5] 27)
 have hqb := below_new w (.cells #[.int .i64 p.ver, .int .i64 p.par, .slice A2 n2 c2, .slice A3 n3 c3, .slice A4 n4 c4, .slice A5 n5 c5] 27)
 go_enter Tryz.func8, Tryz.ntmps8
 go_upto_region 1 with fail
 generalize w.alloc (.cells #[.int .i64 p.ver, .int .i64 p.par, .slice A2 n2 c2, .slice A3 n3 c3, .slice A4 n4 c4, .slice A5 n5 c5] 27) = q at hq0 hqb ⊢
 have XP := Lib.hid hq0
 have BQ := Lib.hid hqb
 clear hq0 hqb
 obtain ⟨k0, k1, k2, k3, k4, k5⟩ := cell6_of XP.out
 go_wp2_with fail
 refine (hs.check _ p q ⟨_, _, _, _, rfl, (HIN.out.below BQ.out).more BQ.out.size⟩).mono ?_
 rintro e w1 ⟨rfl, b1⟩
 have XP1 := Lib.hid ((b1.block _ (heap_lt XP.out)).trans XP.out)
 have B1 := Lib.hid (BQ.out.trans (b1.mono BQ.out.size))
 have HI := Lib.hid ((HIN.out.below B1.out).more B1.out.size)
 clear b1 k0 k1 k2 k3 k4 k5 XP BQ HIN
 obtain ⟨S, hS⟩ : ∃ x, x = sndE p := ⟨_, rfl⟩
 rw [← hS]
 have HS := Lib.hid hS.symm
 clear hS
 by_cases h0 : S = 0
 rotate_left
 ·have d0 : (S != 0) = true := by simpa using h0
  have HT : Hid (tabL p = []) := Lib.hid (by
   rcases sndE_cases p with ⟨h1, -⟩ | ⟨-, h1⟩
   ·exact absurd (HS.out.symm.trans h1) h0
   ·rw [tabL, soundP_false h1]; rfl)
  clear h0
  go_wp2_with fail
  refine bodyPost_ret (results_tmp2 rfl _ _ _) rfl ?_
  exact ⟨_, by rw [HS.out]; rfl, by rw [HT.out]; exact ListOwn.nil_, B1.out⟩
 subst h0
 have HSN := Lib.hid (sndE_zero.1 HS.out)
 have N16 : Hid (n5 ≤ 16) := Lib.hid (by have := HSN.out.may.n; have := HN.out; omega)
 have d0 : ((0 : Int) != 0) = false := by decide
 obtain ⟨k0, k1, k2, k3, k4, k5⟩ := cell6_of XP1.out
 go_wp2_with fail
 refine (pall_any _ p w1 ⟨_, _, _, _, rfl, HI.out⟩).mono ?_
 rintro e w2 ⟨u1, u2, rfl, hws, -, b2⟩
 obtain ⟨hz0, hz1⟩ := all_sound HSN.out
 rw [hz1] at hws
 rw [hz0]
 obtain ⟨AW, cW, rfl⟩ := hws.slice
 have hlw : (p.routes.map (wayR p)).length = n5 := by rw [List.length_map]; exact HN.out.2.2.2.symm
 rw [hlw] at hws ⊢
 have WS := Lib.hid (hws.in_ wayO_cells)
 have tP := (b2.block _ (heap_lt XP1.out)).trans XP1.out
 have tB := B1.out.trans (b2.mono B1.out.size)
 have tI := (HI.out.below b2).more b2.size
 clear XP1 B1 HI
 have XP1 := Lib.hid tP
 have B1 := Lib.hid tB
 have HI := Lib.hid tI
 clear tP tB tI b2 hws hz0 hz1 hlw k0 k1 k2 k3 k4 k5
 have hn5 : n5 ≤ 9223372036854775807 := by have := N16.out; omega
 go_wp2_with fail
 clear d0
 go_loopw [8, 27] (fun s5 s6 wr => ∃ (i L : Nat) (A : Option Addr) (c : Nat), i ≤ n5 ∧ s6 = .int .i64 i ∧ s5 = .slice A L c ∧ L = (tabC p i).length ∧ PairsOwn wr w2.heap.size (.slice A L c) (tabC p i) ∧ Below w2.heap.size w2 wr) (fun _ s6 _ => n5 - (intOf s6).toNat)
 case atStart => exact ⟨0, 0, none, 0, by omega, by go_num, rfl, rfl, ListOwn.nil_, Below.refl _ _⟩
 case round =>
  obtain ⟨i, L0, A0, c0, hi, rfl, rfl, hL, ho, hb⟩ := hrel
  have HL0 := Lib.hid hL
  have HO0 := Lib.hid ho
  have BW := Lib.hid hb
  clear hL ho hb
  have XPw := Lib.hid ((BW.out.block _ (heap_lt XP1.out)).trans XP1.out)
  obtain ⟨k0, k1, k2, k3, k4, k5⟩ := cell6_of XPw.out
  by_cases hlt : i < n5
  ·have hlt' : (i : Int) < n5 := by omega
   have hwi : IntKind.i64.wrap ((i : Int) + 1) = ((i + 1 : Nat) : Int) := by rw [wrap_id (by omega) (by have := N16.out; omega)]; omega
   go_wp2_with fail
   clear k0 k1 k2 k3 k4 k5 hwi
   go_loopw [8, 10] (fun s5 s7 wr => ∃ (k L : Nat) (A : Option Addr) (c : Nat), i + 1 ≤ k ∧ k ≤ n5 ∧ s7 = .int .i64 k ∧ s5 = .slice A L c ∧ L = (tabC p i ++ rowC p i k).length ∧ PairsOwn wr w2.heap.size (.slice A L c) (tabC p i ++ rowC p i k) ∧ Below w2.heap.size w2 wr) (fun _ s7 _ => n5 - (intOf s7).toNat)
   case atStart => exact ⟨i + 1, L0, A0, c0, by omega, by omega, by go_num, rfl, by rw [rowC_zero p i (Nat.le_refl _), List.append_nil]; exact HL0.out, by rw [rowC_zero p i (Nat.le_refl _), List.append_nil]; exact HO0.out, BW.out⟩
   case round =>
    obtain ⟨wy, hwy⟩ : ∃ u, u = wr := ⟨_, rfl⟩
    subst hwy
    obtain ⟨k, L, A, c, hik, hk, rfl, rfl, hL, ho, hb⟩ := hrel
    have HLL := Lib.hid hL
    have HO := Lib.hid ho
    have BY := Lib.hid hb
    have HIK : Hid (i < k) := Lib.hid (by omega)
    clear hL ho hb
    have XPy := Lib.hid ((BY.out.block _ (heap_lt XP1.out)).trans XP1.out)
    have HIy := Lib.hid ((HI.out.below BY.out).more BY.out.size)
    obtain ⟨k0, k1, k2, k3, k4, k5⟩ := cell6_of XPy.out
    by_cases hlk : k < n5
    ·have hlk' : (k : Int) < n5 := by omega
     have hir : i < p.routes.length := by have := HN.out; omega
     have hkr : k < p.routes.length := by have := HN.out; omega
     obtain ⟨z1, hz1⟩ : ∃ z, z = (rtI p i).id := ⟨_, rfl⟩
     obtain ⟨z2, hz2⟩ : ∃ z, z = (rtI p k).id := ⟨_, rfl⟩
     have HZ : Hid ((rtI p i).id = z1 ∧ (rtI p k).id = z2) := Lib.hid ⟨hz1.symm, hz2.symm⟩
     obtain ⟨CF, hCF⟩ : ∃ c, c = confW (wayR p (rtI p i)) (wayR p (rtI p k)) := ⟨_, rfl⟩
     have HCF0 := Lib.hid hCF.symm
     have HCF1 := Lib.hid hCF
     have ei : rtI p i = p.routes[i] := by rw [rtI, List.getD, List.getElem?_eq_getElem hir]; rfl
     have ek : rtI p k = p.routes[k] := by rw [rtI, List.getD, List.getElem?_eq_getElem hkr]; rfl
     have LEN : Hid ((1 ≤ (wayR p (rtI p i)).path.length + (wayR p (rtI p i)).over.length ∧ (wayR p (rtI p i)).path.length + (wayR p (rtI p i)).over.length ≤ 1000) ∧ 1 ≤ (wayR p (rtI p k)).path.length + (wayR p (rtI p k)).over.length ∧ (wayR p (rtI p k)).path.length + (wayR p (rtI p k)).over.length ≤ 1000) := Lib.hid (by
      rw [ei, ek]
      exact ⟨way_eight HSN.out hir, way_eight HSN.out hkr⟩)
     obtain ⟨bw, ow, ew, hbw, ha3, A0_, A1_, A2_, ha0, ha1, ha2, hwa, -⟩ := ((WS.out.below (wayO w1.heap.size) BY.out).more (wayO w1.heap.size) BY.out.size).at (j := i) (by rw [List.length_map]; exact hir)
     obtain ⟨bw', ow', ew', -, hb3, B0_, B1_, B2_, hb0, hb1, hb2, hwb, -⟩ := ((WS.out.below (wayO w1.heap.size) BY.out).more (wayO w1.heap.size) BY.out.size).at (j := k) (by rw [List.length_map]; exact hkr)
     cases ew
     cases ew'
     rw [List.getElem_map, ← ei] at ha3 hwa
     rw [List.getElem_map, ← ek] at hb3 hwb
     have WVi : Hid (WayV wy wy.heap.size (.agg #[A0_, A1_, A2_, .int .i64 (wayR p (rtI p i)).near]) (wayR p (rtI p i))) := Lib.hid ⟨_, _, _, rfl, hwa.in_⟩
     have WVk : Hid (WayV wy wy.heap.size (.agg #[B0_, B1_, B2_, .int .i64 (wayR p (rtI p k)).near]) (wayR p (rtI p k))) := Lib.hid ⟨_, _, _, rfl, hwb.in_⟩
     have Gca0 : Hid (wy.cell? ⟨bw, ow + i * 4, none⟩ = some A0_) := Lib.hid ha0
     have Gca1 : Hid (wy.cell? ⟨bw, ow + i * 4 + 1, none⟩ = some A1_) := Lib.hid ha1
     have Gca2 : Hid (wy.cell? ⟨bw, ow + i * 4 + 2, none⟩ = some A2_) := Lib.hid ha2
     have Gca3 : Hid (wy.cell? ⟨bw, ow + i * 4 + 3, none⟩ = some (.int .i64 (wayR p (rtI p i)).near)) := Lib.hid ha3
     have Gcb0 : Hid (wy.cell? ⟨bw, ow + k * 4, none⟩ = some B0_) := Lib.hid hb0
     have Gcb1 : Hid (wy.cell? ⟨bw, ow + k * 4 + 1, none⟩ = some B1_) := Lib.hid hb1
     have Gcb2 : Hid (wy.cell? ⟨bw, ow + k * 4 + 2, none⟩ = some B2_) := Lib.hid hb2
     have Gcb3 : Hid (wy.cell? ⟨bw, ow + k * 4 + 3, none⟩ = some (.int .i64 (wayR p (rtI p k)).near)) := Lib.hid hb3
     clear ha0 ha1 ha2 ha3 hb0 hb1 hb2 hb3 hwa hwb ei ek hbw
     obtain ⟨bk, off, e5, hbk, hc0, -⟩ := (HI.out.routes.below routeR BY.out).at hir
     obtain ⟨bk', off', e6, -, hd0, -⟩ := (HI.out.routes.below routeR BY.out).at hkr
     cases e5
     cases e6
     have HBK := Lib.hid hbk
     have GI : Hid (wy.cell? ⟨bk, off + i * 7, none⟩ = some (.int .i64 z1)) := Lib.hid (by rw [hz1, rtI, List.getD, List.getElem?_eq_getElem hir]; exact hc0)
     have GK : Hid (wy.cell? ⟨bk, off + k * 7, none⟩ = some (.int .i64 z2)) := Lib.hid (by rw [hz2, rtI, List.getD, List.getElem?_eq_getElem hkr]; exact hd0)
     have LLE : Hid (L ≤ 300) := Lib.hid (by
      rw [HLL.out, List.length_append]
      have h1 := tabC_len p i
      have h2 := rowC_len p i k
      have h3 := N16.out
      have h4 := HN.out.2.2.2
      have h5 : i * p.routes.length ≤ 16 * 16 := Nat.mul_le_mul (by omega) (by omega)
      omega)
     clear hz1 hz2 hCF hbk hc0 hd0
     go_upto_region 14 with fail
     clear k0 k1 k2 k3 k4 k5
     refine wp_region_held_drew (S := fun v => Below wy.heap.size wy v) (by kernel_rfl) (Below.refl wy.heap.size wy).drew (fun hHeld => ?_)
     refine tk 0 hHeld ?_;refine tk 1 hHeld ?_;refine tk 2 hHeld ?_
     refine wpAnyH_take (i := 3) (v := ?_) rfl (by kernel_rfl) (by kernel_rfl) (by kernel_rfl) (fun _ _ _ h => h) (Or.inl ⟨by rfl, ?_⟩) hHeld ?_
     rotate_left
     ·intro w' hSw; have ca0 := (hSw.cell (cell_lt Gca0.out)).trans Gca0.out; have ca1 := (hSw.cell (cell_lt Gca1.out)).trans Gca1.out; have ca2 := (hSw.cell (cell_lt Gca2.out)).trans Gca2.out; have ca3 := (hSw.cell (cell_lt Gca3.out)).trans Gca3.out; go_simp; try with_reducible rfl
     simp only [zn, Act.put]
     refine tk 4 hHeld ?_;refine tk 5 hHeld ?_;refine tk 6 hHeld ?_
     refine wpAnyH_take (i := 7) (v := ?_) rfl (by kernel_rfl) (by kernel_rfl) (by kernel_rfl) (fun _ _ _ h => h) (Or.inl ⟨by rfl, ?_⟩) hHeld ?_
     rotate_left
     ·intro w' hSw; have cb0 := (hSw.cell (cell_lt Gcb0.out)).trans Gcb0.out; have cb1 := (hSw.cell (cell_lt Gcb1.out)).trans Gcb1.out; have cb2 := (hSw.cell (cell_lt Gcb2.out)).trans Gcb2.out; have cb3 := (hSw.cell (cell_lt Gcb3.out)).trans Gcb3.out; go_simp; try with_reducible rfl
     simp only [zn, Act.put]
     refine tkr 8 (fun K hK => ?_)
     go_simp
     refine (clash_any _ _ (wayR p (rtI p i)) (wayR p (rtI p k)) wy.drew ((WVi.out.below (Below.refl wy.heap.size wy).drew).more (Below.refl wy.heap.size wy).drew.size) ((WVk.out.below (Below.refl wy.heap.size wy).drew).more (Below.refl wy.heap.size wy).drew.size) LEN.out).mono ?_
     rintro e v5 ⟨rfl, b⟩
     rw [← HCF1.out]
     have B5 : Hid (Below wy.heap.size wy v5) := Lib.hid ((Below.refl wy.heap.size wy).drew.trans (b.mono (Below.refl wy.heap.size wy).drew.size))
     clear b
     try go_wp2_with fail
     refine hK.out _ _ ?_ fun hHeld => ?_;exact B5.out;clear hK K;try simp only [zn, Act.put]
     refine wpAnyH_done (by kernel_rfl) ?_ _
     have BV5 : Hid (Below w2.heap.size w2 v5) := Lib.hid (BY.out.trans (B5.out.mono BY.out.size))
     have HO5 := Lib.hid (HO.out.below joinR B5.out)
     have XP5 := Lib.hid ((B5.out.block _ (heap_lt XPy.out)).trans XPy.out)
     have HL5 : Hid (w.heap.size < w2.heap.size) := Lib.hid (heap_lt XP1.out)
     have GI5 := Lib.hid ((B5.out.cell (cell_lt GI.out)).trans GI.out)
     have GK5 := Lib.hid ((B5.out.cell (cell_lt GK.out)).trans GK.out)
     clear B5 HO XPy HIy GI GK BY
     cases CF with
     | false =>
      have NX : Hid (tabC p i ++ rowC p i (k + 1) = tabC p i ++ rowC p i k) := Lib.hid (by rw [rowC_skip HCF0.out])
      go_wp2_with fail
      go_roundw
      case measure => simp [intOf]; omega
      case rel => exact ⟨k + 1, L, A, c, by omega, by omega, by go_num, rfl, by rw [NX.out]; exact HLL.out, by rw [NX.out]; exact HO5.out, BV5.out⟩
     | true =>
      have HCF := HCF0
      obtain ⟨i0, hii, hz0, hzz, hz2⟩ := info_parts infoPair
      have I0 := Lib.hid hii
      have I1 := Lib.hid hz0
      have I2 := Lib.hid hzz
      have I3 := Lib.hid hz2
      obtain ⟨yss, hown, hyl, hm, hys, hyr⟩ := HO5.out
      rw [← HLL.out] at hown
      have O := Lib.hid hown
      have YL := Lib.hid hyl
      have YS := Lib.hid hys
      have YR := Lib.hid hyr
      clear hii hz0 hzz hz2 hown hyl hm hys hyr
      go_upto_region 15 with fail
      refine wp_region_held_drew (S := fun v => Below w2.heap.size v5 v) (by kernel_rfl) (Below.refl w2.heap.size v5).drew (fun hHeld => ?_)
      refine tk 0 hHeld ?_;refine tk 1 hHeld ?_;refine tkc 2 hHeld (fun w' hSw => cell6_of ((hSw.block _ HL5.out).trans XP5.out)) ?_;refine tk 3 hHeld ?_;refine tk 4 hHeld ?_;refine tk 5 hHeld ?_;refine tkc 6 hHeld (fun w' hSw => (hSw.cell (p := ⟨bk, off + i * 7, none⟩) HBK.out).trans GI5.out) ?_;refine tk 7 hHeld ?_;refine tkc 8 hHeld (fun w' hSw => cell6_of ((hSw.block _ HL5.out).trans XP5.out)) ?_;refine tk 9 hHeld ?_;refine tk 10 hHeld ?_;refine tk 11 hHeld ?_;refine tkc 12 hHeld (fun w' hSw => (hSw.cell (p := ⟨bk, off + k * 7, none⟩) HBK.out).trans GK5.out) ?_;refine tk 13 hHeld ?_
      refine tkr 14 (fun K hK => ?_)
      go_simp
      refine hK.out _ _ ?_ fun hHeld => ?_;exact ((Below.refl w2.heap.size v5).drew.alloc BV5.out.size _);clear hK K;try simp only [zn, Act.put]
      refine tkr 15 (fun K hK => ?_)
      rw [if_pos (by rfl)]
      refine wp_append_list (.tmp 47) (.tmp 61) _ rfl Tryz.underlying35 I0.out I1.out rfl I2.out (by decide) I3.out (by decide) rfl (owns_below O.out ((Below.refl v5.heap.size v5).alloc (Nat.le_refl _) _).drew) rfl (m := 1) (news := [.int .i64 z1, .int .i64 z2]) rfl (fun h => by cases h) (fun a ha j u hj => by cases ha; rw [Addr.add_lit, Nat.zero_add]; show (v5.alloc (.cells #[.int .i64 z1, .int .i64 z2] 41)).cell? ⟨v5.heap.size, j, none⟩ = _; rw [World.cell?_alloc_new]; simpa using hj) (by simp [Value.oneCell']) (by have := LLE.out; omega) (by have := BV5.out.size; simp; omega) ?_
      intro v6 w6 hown5 hgrow6
      have hgrow5 : World.grownBy (v5.alloc (.cells #[.int .i64 z1, .int .i64 z2] 41)) w6 (Value.ownBlock (.slice A L c)) := ⟨hgrow6.os, hgrow6.tape, hgrow6.output, hgrow6.size, hgrow6.block⟩
      have S6 : Hid (PairsOwn w6 w2.heap.size v6 (tabC p i ++ rowC p i (k + 1))) := Lib.hid (by
       rw [rowC_take HIK.out HCF.out, ← List.append_assoc, HZ.out.1, HZ.out.2]
       exact ListOwn.snoc (w1 := v5) (x := (z1, z2)) (ys := [.int .i64 z1, .int .i64 z2]) joinR (fun _ h _ _ => h) (by rw [← HLL.out]; exact O.out) YL.out YS.out rfl (by have := LLE.out; have := HLL.out; unfold maxLen; omega) YR.out (Below.refl _ _) ⟨rfl, rfl⟩ (by rw [← HLL.out]; exact hown5) hgrow5)
      have B6 : Hid (Below w2.heap.size v5 w6) := Lib.hid (((Below.refl w2.heap.size v5).alloc BV5.out.size _).grown hgrow5 (by have := BV5.out.size; simp; omega) (own_ge O.out))
      obtain ⟨A6, c6, rfl⟩ := own_sliceN hown5
      have LN6 : Hid (L + 1 = (tabC p i ++ rowC p i (k + 1)).length) := Lib.hid (by rw [rowC_take HIK.out HCF.out, ← List.append_assoc, List.length_append, ← HLL.out]; rfl)
      clear hown5 hgrow5 hgrow6
      refine hK.out _ _ ?_ fun hHeld => ?_;exact B6.out;clear hK K;try simp only [zn, Act.put]
      refine tk 16 hHeld ?_
      refine wpAnyH_done (by kernel_rfl) ?_ _
      have BV6 := Lib.hid (BV5.out.trans B6.out)
      go_wp2_with fail
      go_roundw
      case measure => simp [intOf]; omega
      case rel => exact ⟨k + 1, L + 1, A6, c6, by omega, by omega, by go_num, rfl, LN6.out, S6.out, BV6.out⟩
    ·obtain rfl : k = n5 := by omega
     have hlk' : ¬ (k : Int) < k := by omega
     have HE : Hid (tabC p (i + 1) = tabC p i ++ rowC p i k) := Lib.hid (by rw [tabC_succ, HN.out.2.2.2])
     go_wp2_with fail
     go_roundw
     case measure => simp [intOf]; omega
     case rel => exact ⟨i + 1, L, A, c, by omega, by go_num, rfl, by rw [HE.out]; exact HLL.out, by rw [HE.out]; exact HO.out, BY.out⟩
  ·obtain rfl : i = n5 := by omega
   have hlt' : ¬ (i : Int) < i := by omega
   have HT : Hid (tabL p = tabC p i) := Lib.hid (by rw [tabL, if_pos (soundP_true HSN.out), HN.out.2.2.2])
   go_wp2_with fail
   refine bodyPost_ret (results_tmp2 rfl _ _ _) rfl ?_
   exact ⟨_, by rw [HS.out]; rfl, by rw [HT.out]; exact HO0.out.mono B1.out.size, B1.out.trans (BW.out.mono B1.out.size)⟩
theorem cnfSaid (hs : SndSaid) (hw : WaySaid) : CnfSaid := ⟨ptwo_any hs hw, ptable_any hs⟩
end Go.Proofs.YtebffdfimmbbdaaGreat
