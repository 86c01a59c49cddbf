/-
 The document's own package conflict: Is.
 Conditions: none.
-/
import Derived.Test.YtebffdfimmbbdaaGreatQGCnfM
import Derived.Test.YtebffdfimmbbdaaGreatQGWayM
import Derived.Test.YtebffdfimmbbdaaGreatQGTrkRef
import Derived.Test.YtebffdfimmbbdaaGreatQGPlnRefB
import Derived.BigQuiet
import Derived.Test.YtebffdfimmbbdaaGreatQGSndRefA
import Derived.Test.YtebffdfimmbbdaaGreatQGWayRefF
set_option linter.unusedVariables false
set_option linter.unusedSimpArgs false
set_option maxRecDepth 100000
namespace Go.Proofs.YtebffdfimmbbdaaGreat
open Go.RowKit

set_option maxHeartbeats 16000000 in
theorem ris_any (v y : Value) (x z : Wy) (w : World) (h : WayV w w.heap.size v x) (h' : WayV w w.heap.size y z) (hl : x.path.length ≤ 1000 ∧ x.over.length ≤ 1000 ∧ z.path.length ≤ 1000 ∧ z.over.length ≤ 1000) :
  Calls Tryz.prog 20 #[v, y] w fun e w' => e = .returned (.bool (confW x z)) ∧ Below w.heap.size w w' := by
 have NLE := Lib.hid hl
 clear hl
 obtain ⟨u0, u1, u2, rfl, hin⟩ := h
 obtain ⟨P0, pd0, rfl⟩ : ∃ A c, u0 = .slice A x.path.length c := by
  obtain ⟨A, c, e, -⟩ := hin.path.slice
  exact ⟨A, c, e⟩
 obtain ⟨P1, pd1, rfl⟩ : ∃ A c, u1 = .slice A x.over.length c := by
  obtain ⟨A, c, e, -⟩ := hin.over.slice
  exact ⟨A, c, e⟩
 obtain ⟨P2, pd2, rfl⟩ : ∃ A c, u2 = .slice A x.asks.length c := by
  obtain ⟨A, c, e, -⟩ := hin.asks.slice
  exact ⟨A, c, e⟩
 obtain ⟨pn0, hn0⟩ : ∃ n, n = x.path.length := ⟨_, rfl⟩
 obtain ⟨pn1, hn1⟩ : ∃ n, n = x.over.length := ⟨_, rfl⟩
 obtain ⟨pn2, hn2⟩ : ∃ n, n = x.asks.length := ⟨_, rfl⟩
 have IP : Hid (WyIn w w.heap.size (.slice P0 pn0 pd0) (.slice P1 pn1 pd1) (.slice P2 pn2 pd2) x) := Lib.hid (by rw [hn0, hn1, hn2]; exact hin)
 have NP : Hid (pn0 = x.path.length ∧ pn1 = x.over.length ∧ pn2 = x.asks.length ∧ pn2 ≤ 9223372036854775807) := Lib.hid ⟨hn0, hn1, hn2, by
  obtain ⟨_, _, _, _, h1⟩ := hin.asks.slice
  unfold maxLen at h1
  omega⟩
 rw [← hn0, ← hn1, ← hn2]
 clear hin hn0 hn1 hn2
 obtain ⟨u0, u1, u2, rfl, hin⟩ := h'
 obtain ⟨Q0, qd0, rfl⟩ : ∃ A c, u0 = .slice A z.path.length c := by
  obtain ⟨A, c, e, -⟩ := hin.path.slice
  exact ⟨A, c, e⟩
 obtain ⟨Q1, qd1, rfl⟩ : ∃ A c, u1 = .slice A z.over.length c := by
  obtain ⟨A, c, e, -⟩ := hin.over.slice
  exact ⟨A, c, e⟩
 obtain ⟨Q2, qd2, rfl⟩ : ∃ A c, u2 = .slice A z.asks.length c := by
  obtain ⟨A, c, e, -⟩ := hin.asks.slice
  exact ⟨A, c, e⟩
 obtain ⟨qn0, hn0⟩ : ∃ n, n = z.path.length := ⟨_, rfl⟩
 obtain ⟨qn1, hn1⟩ : ∃ n, n = z.over.length := ⟨_, rfl⟩
 obtain ⟨qn2, hn2⟩ : ∃ n, n = z.asks.length := ⟨_, rfl⟩
 have IQ : Hid (WyIn w w.heap.size (.slice Q0 qn0 qd0) (.slice Q1 qn1 qd1) (.slice Q2 qn2 qd2) z) := Lib.hid (by rw [hn0, hn1, hn2]; exact hin)
 have NQ : Hid (qn0 = z.path.length ∧ qn1 = z.over.length ∧ qn2 = z.asks.length ∧ qn2 ≤ 9223372036854775807) := Lib.hid ⟨hn0, hn1, hn2, by
  obtain ⟨_, _, _, _, h1⟩ := hin.asks.slice
  unfold maxLen at h1
  omega⟩
 rw [← hn0, ← hn1, ← hn2]
 clear hin hn0 hn1 hn2
 have hq := two_boxes w (.cells #[.slice P0 pn0 pd0, .slice P1 pn1 pd1, .slice P2 pn2 pd2, .int .i64 x.near] 56) (.cells #[.slice Q0 qn0 qd0, .slice Q1 qn1 qd1, .slice Q2 qn2 qd2, .int .i64 z.near] 56)
 go_enter Tryz.func20, Tryz.ntmps20
 go_upto_region 1 with fail
 generalize (w.alloc (.cells #[.slice P0 pn0 pd0, .slice P1 pn1 pd1, .slice P2 pn2 pd2, .int .i64 x.near] 56)).alloc (.cells #[.slice Q0 qn0 qd0, .slice Q1 qn1 qd1, .slice Q2 qn2 qd2, .int .i64 z.near] 56) = q at hq ⊢
 obtain ⟨q0, q1, qb⟩ := hq
 generalize w.heap.size + 1 = p3 at q1 ⊢
 have XA := Lib.hid q0
 have XB := Lib.hid q1
 have BQ := Lib.hid qb
 have JP : Hid (WyIn q q.heap.size (.slice P0 pn0 pd0) (.slice P1 pn1 pd1) (.slice P2 pn2 pd2) x) := Lib.hid ((IP.out.below qb).more qb.size)
 have JQ : Hid (WyIn q q.heap.size (.slice Q0 qn0 qd0) (.slice Q1 qn1 qd1) (.slice Q2 qn2 qd2) z) := Lib.hid ((IQ.out.below qb).more qb.size)
 clear q0 q1 qb IP IQ
 obtain ⟨i0, hii, hz0, hzz, hz2⟩ := info_parts infoInt
 have I0 := Lib.hid hii
 have I1 := Lib.hid hz0
 have I2 := Lib.hid hzz
 have I3 := Lib.hid hz2
 clear hii hz0 hzz hz2
 refine wp_region_held_drew (S := fun v => Below q.heap.size q v) (by kernel_rfl) (Below.refl q.heap.size q).drew (fun hHeld => ?_)
 refine tk 1 hHeld ?_;refine tkc 2 hHeld (fun w' hSw => cell4_of ((hSw.block _ (heap_lt XA.out)).trans XA.out)) ?_;refine tk 4 hHeld ?_;refine tkc 5 hHeld (fun w' hSw => cell4_of ((hSw.block _ (heap_lt XA.out)).trans XA.out)) ?_
 have tb := (Below.refl q.heap.size q).drew
 generalize q.drew = qa at tb hHeld ⊢
 have HB := Lib.hid tb
 clear tb
 refine tkr 0 (fun K hK => ?_)
 go_simp
 have tb := HB.out.alloc HB.out.size (.cells #[] 3)
 have t0 := heap_alloc_self qa (.cells #[] 3)
 refine hK.out _ _ ?_ fun hHeld => ?_;exact tb;clear hK K;try simp only [zn, Act.put]
 generalize qa.alloc (.cells #[] 3) = qb at tb t0 hHeld ⊢
 obtain ⟨pb, hpb⟩ : ∃ n, n = qa.heap.size := ⟨_, rfl⟩
 rw [← hpb] at t0 ⊢
 have PB : Hid (q.heap.size ≤ pb) := Lib.hid (by rw [hpb]; exact HB.out.size)
 have T0 := Lib.hid t0
 have HB2 := Lib.hid tb
 clear tb t0 hpb HB
 obtain ⟨Yss, hy1, hy2, hy3, hy4, hy5, hy6, hy7⟩ := ((JP.out.path.below intR HB2.out).more intR HB2.out.size).cells (by omega) intR_full intR_cells
 have Y1 := Lib.hid hy1
 have Y2 := Lib.hid hy2
 have Y3 := Lib.hid hy3
 have Y4 := Lib.hid hy4
 have Y6 := Lib.hid hy6
 have Y7 := Lib.hid hy7
 have YL : Hid (Yss.flatten.length = pn0 * 1) := Lib.hid (by rw [flat_length _ hy2, hy1, NP.out.1])
 clear hy1 hy2 hy3 hy4 hy5 hy6 hy7
 refine tkr 3 (fun K hK => ?_)
 rw [if_pos (by rfl)]
 refine wp_append_list (.tmp 11) (.tmp 13) _ rfl Tryz.underlying43 I0.out I1.out rfl I2.out (by decide) I3.out (by decide) rfl (base := q.heap.size) (n := 0) (ys := []) ⟨rfl, .inr ⟨_, _, _, rfl, PB.out, T0.out, Nat.zero_le _, Nat.zero_le _, rfl, rfl⟩⟩ rfl YL.out Y4.out Y7.out Y6.out (by have := NLE.out; have := NP.out; omega) HB2.out.size ?_
 intro v4 w4_ hown4 hgrow4
 rw [Nat.zero_add, List.nil_append] at hown4
 obtain ⟨B4, d4, rfl⟩ := own_sliceN hown4
 have O4 := Lib.hid hown4
 have G4 : Hid (Below q.heap.size q w4_) := Lib.hid (HB2.out.grown hgrow4 HB2.out.size (fun k hk => by cases hk; exact PB.out))
 clear hown4 hgrow4
 refine hK.out _ _ ?_ fun hHeld => ?_;exact G4.out;clear hK K;try simp only [zn, Act.put]
 obtain ⟨Zss, hy1, hy2, hy3, hy4, hy5, hy6, hy7⟩ := ((JP.out.over.below intR G4.out).more intR G4.out.size).cells (by omega) intR_full intR_cells
 have Z1 := Lib.hid hy1
 have Z2 := Lib.hid hy2
 have Z3 := Lib.hid hy3
 have Z4 := Lib.hid hy4
 have Z6 := Lib.hid hy6
 have Z7 := Lib.hid hy7
 have ZL : Hid (Zss.flatten.length = pn1 * 1) := Lib.hid (by rw [flat_length _ hy2, hy1, NP.out.2.1])
 clear hy1 hy2 hy3 hy4 hy5 hy6 hy7
 refine tkr 6 (fun K hK => ?_)
 rw [if_pos (by rfl)]
 refine wp_append_list (.tmp 14) (.tmp 16) _ rfl Tryz.underlying43 I0.out I1.out rfl I2.out (by decide) I3.out (by decide) rfl O4.out rfl ZL.out Z4.out Z7.out Z6.out (by have := NLE.out; have := NP.out; omega) G4.out.size ?_
 intro v5 wS hown5 hgrow5
 have OC := own_cat (R := IntR) (sz := 1) intF hown5 (by rw [NP.out.1, NP.out.2.1]) Y1.out Z1.out Y2.out Z2.out Y3.out Z3.out (by have := NLE.out; have := NP.out; unfold maxLen; omega)
 obtain ⟨SA, Sc, rfl⟩ := own_sliceN hown5
 obtain ⟨nS, hnl⟩ : ∃ n, n = pn0 + pn1 := ⟨_, rfl⟩
 rw [← hnl] at OC ⊢
 have HS : Hid (nS = (x.path ++ x.over).length ∧ nS ≤ 2000) := Lib.hid (by have := NP.out; have := NLE.out; rw [List.length_append]; omega)
 have LS : Hid (IntsIn wS wS.heap.size (.slice SA nS Sc) (x.path ++ x.over)) := Lib.hid (OC.in_ intR_cells)
 have BS : Hid (Below q.heap.size q wS) := Lib.hid (G4.out.grown hgrow5 G4.out.size (own_ge O4.out))
 clear OC hown5 hgrow5 hnl
 refine hK.out _ _ ?_ fun hHeld => ?_;exact BS.out;clear hK K;try simp only [zn, Act.put]
 refine tk 7 hHeld ?_
 refine wpAnyH_done (by kernel_rfl) ?_ _
 clear G4 O4 HB2 T0 PB Y1 Y2 Y3 Y4 Y6 Y7 YL Z1 Z2 Z3 Z4 Z6 Z7 ZL I0 I1 I2 I3
 have XB1 := Lib.hid ((BS.out.block _ (heap_lt XB.out)).trans XB.out)
 have JQ1 := Lib.hid ((JQ.out.below BS.out).more BS.out.size)
 go_upto_region 2 with fail
 obtain ⟨i0, hii, hz0, hzz, hz2⟩ := info_parts infoInt
 have I0 := Lib.hid hii
 have I1 := Lib.hid hz0
 have I2 := Lib.hid hzz
 have I3 := Lib.hid hz2
 clear hii hz0 hzz hz2
 refine wp_region_held_drew (S := fun v => Below wS.heap.size wS v) (by kernel_rfl) (Below.refl wS.heap.size wS).drew (fun hHeld => ?_)
 refine tk 1 hHeld ?_;refine tkc 2 hHeld (fun w' hSw => cell4_of ((hSw.block _ (heap_lt XB1.out)).trans XB1.out)) ?_;refine tk 4 hHeld ?_;refine tkc 5 hHeld (fun w' hSw => cell4_of ((hSw.block _ (heap_lt XB1.out)).trans XB1.out)) ?_
 have tb := (Below.refl wS.heap.size wS).drew
 generalize wS.drew = qa at tb hHeld ⊢
 have HB := Lib.hid tb
 clear tb
 refine tkr 0 (fun K hK => ?_)
 go_simp
 have tb := HB.out.alloc HB.out.size (.cells #[] 3)
 have t0 := heap_alloc_self qa (.cells #[] 3)
 refine hK.out _ _ ?_ fun hHeld => ?_;exact tb;clear hK K;try simp only [zn, Act.put]
 generalize qa.alloc (.cells #[] 3) = qb at tb t0 hHeld ⊢
 obtain ⟨pb, hpb⟩ : ∃ n, n = qa.heap.size := ⟨_, rfl⟩
 rw [← hpb] at t0 ⊢
 have PB : Hid (wS.heap.size ≤ pb) := Lib.hid (by rw [hpb]; exact HB.out.size)
 have T0 := Lib.hid t0
 have HB2 := Lib.hid tb
 clear tb t0 hpb HB
 obtain ⟨Yss, hy1, hy2, hy3, hy4, hy5, hy6, hy7⟩ := ((JQ1.out.path.below intR HB2.out).more intR HB2.out.size).cells (by omega) intR_full intR_cells
 have Y1 := Lib.hid hy1
 have Y2 := Lib.hid hy2
 have Y3 := Lib.hid hy3
 have Y4 := Lib.hid hy4
 have Y6 := Lib.hid hy6
 have Y7 := Lib.hid hy7
 have YL : Hid (Yss.flatten.length = qn0 * 1) := Lib.hid (by rw [flat_length _ hy2, hy1, NQ.out.1])
 clear hy1 hy2 hy3 hy4 hy5 hy6 hy7
 refine tkr 3 (fun K hK => ?_)
 rw [if_pos (by rfl)]
 refine wp_append_list (.tmp 18) (.tmp 20) _ rfl Tryz.underlying43 I0.out I1.out rfl I2.out (by decide) I3.out (by decide) rfl (base := wS.heap.size) (n := 0) (ys := []) ⟨rfl, .inr ⟨_, _, _, rfl, PB.out, T0.out, Nat.zero_le _, Nat.zero_le _, rfl, rfl⟩⟩ rfl YL.out Y4.out Y7.out Y6.out (by have := NLE.out; have := NQ.out; omega) HB2.out.size ?_
 intro v4 w4_ hown4 hgrow4
 rw [Nat.zero_add, List.nil_append] at hown4
 obtain ⟨B4, d4, rfl⟩ := own_sliceN hown4
 have O4 := Lib.hid hown4
 have G4 : Hid (Below wS.heap.size wS w4_) := Lib.hid (HB2.out.grown hgrow4 HB2.out.size (fun k hk => by cases hk; exact PB.out))
 clear hown4 hgrow4
 refine hK.out _ _ ?_ fun hHeld => ?_;exact G4.out;clear hK K;try simp only [zn, Act.put]
 obtain ⟨Zss, hy1, hy2, hy3, hy4, hy5, hy6, hy7⟩ := ((JQ1.out.over.below intR G4.out).more intR G4.out.size).cells (by omega) intR_full intR_cells
 have Z1 := Lib.hid hy1
 have Z2 := Lib.hid hy2
 have Z3 := Lib.hid hy3
 have Z4 := Lib.hid hy4
 have Z6 := Lib.hid hy6
 have Z7 := Lib.hid hy7
 have ZL : Hid (Zss.flatten.length = qn1 * 1) := Lib.hid (by rw [flat_length _ hy2, hy1, NQ.out.2.1])
 clear hy1 hy2 hy3 hy4 hy5 hy6 hy7
 refine tkr 6 (fun K hK => ?_)
 rw [if_pos (by rfl)]
 refine wp_append_list (.tmp 21) (.tmp 23) _ rfl Tryz.underlying43 I0.out I1.out rfl I2.out (by decide) I3.out (by decide) rfl O4.out rfl ZL.out Z4.out Z7.out Z6.out (by have := NLE.out; have := NQ.out; omega) G4.out.size ?_
 intro v5 wT hown5 hgrow5
 have OC := own_cat (R := IntR) (sz := 1) intF hown5 (by rw [NQ.out.1, NQ.out.2.1]) Y1.out Z1.out Y2.out Z2.out Y3.out Z3.out (by have := NLE.out; have := NQ.out; unfold maxLen; omega)
 obtain ⟨TA, Tc, rfl⟩ := own_sliceN hown5
 obtain ⟨nT, hnl⟩ : ∃ n, n = qn0 + qn1 := ⟨_, rfl⟩
 rw [← hnl] at OC ⊢
 have HT : Hid (nT = (z.path ++ z.over).length ∧ nT ≤ 2000) := Lib.hid (by have := NQ.out; have := NLE.out; rw [List.length_append]; omega)
 have LT : Hid (IntsIn wT wT.heap.size (.slice TA nT Tc) (z.path ++ z.over)) := Lib.hid (OC.in_ intR_cells)
 have BT : Hid (Below wS.heap.size wS wT) := Lib.hid (G4.out.grown hgrow5 G4.out.size (own_ge O4.out))
 clear OC hown5 hgrow5 hnl
 refine hK.out _ _ ?_ fun hHeld => ?_;exact BT.out;clear hK K;try simp only [zn, Act.put]
 refine tk 7 hHeld ?_
 refine wpAnyH_done (by kernel_rfl) ?_ _
 clear G4 O4 HB2 T0 PB Y1 Y2 Y3 Y4 Y6 Y7 YL Z1 Z2 Z3 Z4 Z6 Z7 ZL I0 I1 I2 I3
 have BB : Hid (Below q.heap.size q wT) := Lib.hid (BS.out.trans (BT.out.mono BS.out.size))
 have LS1 := Lib.hid ((LS.out.below intR BT.out).more intR BT.out.size)
 have XA2 := Lib.hid ((BB.out.block _ (heap_lt XA.out)).trans XA.out)
 have XB2 := Lib.hid ((BT.out.block _ (heap_lt XB1.out)).trans XB1.out)
 have KP : Hid (AsksIn wT wT.heap.size (.slice P2 pn2 pd2) x.asks) := Lib.hid (((JP.out.below BB.out).more BB.out.size).asks)
 have KQ : Hid (AsksIn wT wT.heap.size (.slice Q2 qn2 qd2) z.asks) := Lib.hid (((JQ1.out.below BT.out).more BT.out.size).asks)
 have BZ : Hid (Below w.heap.size w wT) := Lib.hid (BQ.out.trans (BB.out.mono BQ.out.size))
 obtain ⟨l, hl⟩ : ∃ l, l = x.path ++ x.over := ⟨_, rfl⟩
 obtain ⟨m, hm⟩ : ∃ l, l = z.path ++ z.over := ⟨_, rfl⟩
 rw [← hl] at LS1 HS
 rw [← hm] at LT HT
 have HLM : Hid (l = x.path ++ x.over ∧ m = z.path ++ z.over) := Lib.hid ⟨hl, hm⟩
 have hs9 := HS.out.2
 have ht9 := HT.out.2
 have hp9 := NP.out.2.2.2
 have hq9 := NQ.out.2.2.2
 clear hl hm XA XB XB1 JP JQ JQ1 BS BT BB LS BQ
 go_wp2_with fail
 go_loopw [7] (fun s7 wr => ∃ i : Nat, i ≤ nS ∧ s7 = .int .i64 i ∧ (∀ a (ha : a < l.length), a < i → ∀ b (hb : b < m.length), l[a] ≠ m[b]) ∧ Below wT.heap.size wT wr) (fun s7 _ => nS - (intOf s7).toNat)
 case atStart => exact ⟨0, by omega, by go_num, fun a ha h => absurd h (by omega), Below.refl _ _⟩
 case round =>
  obtain ⟨i, hi, rfl, hall, hb⟩ := hrel
  have HALL := Lib.hid hall
  have BW := Lib.hid hb
  clear hall hb
  by_cases hlt : i < nS
  ·have hlt' : (i : Int) < nS := by omega
   have hia : i < l.length := by have := HS.out; omega
   go_wp2_with fail
   go_loopw [8] (fun s8 wr => ∃ k : Nat, k ≤ nT ∧ s8 = .int .i64 k ∧ (∀ b (hb : b < m.length), b < k → l[i] ≠ m[b]) ∧ Below wT.heap.size wT wr) (fun s8 _ => nT - (intOf s8).toNat)
   case atStart => exact ⟨0, by omega, by go_num, fun b hb h => absurd h (by omega), BW.out⟩
   case round =>
    obtain ⟨wy, hwy⟩ : ∃ u, u = wr := ⟨_, rfl⟩
    subst hwy
    obtain ⟨k, hk, rfl, hall, hb⟩ := hrel
    have HK := Lib.hid hall
    have BY := Lib.hid hb
    clear hall hb
    by_cases hlk : k < nT
    ·have hlk' : (k : Int) < nT := by omega
     have hka : k < m.length := by have := HT.out; omega
     obtain ⟨e1, he1⟩ : ∃ e, e = l[i] := ⟨_, rfl⟩
     obtain ⟨e2, he2⟩ : ∃ e, e = m[k] := ⟨_, rfl⟩
     have HE : Hid (l[i] = e1 ∧ m[k] = e2) := Lib.hid ⟨he1.symm, he2.symm⟩
     obtain ⟨bo, oo, e7, -, hg0⟩ := (LS1.out.below intR BY.out).at hia
     cases e7
     obtain ⟨b2, o2, e7, -, hg1⟩ := (LT.out.below intR BY.out).at hka
     cases e7
     have g0 : wy.cell? ⟨bo, oo + i, none⟩ = some (.int .i64 e1) := by rw [he1]; simpa [IntR] using hg0
     have g1 : wy.cell? ⟨b2, o2 + k, none⟩ = some (.int .i64 e2) := by rw [he2]; simpa [IntR] using hg1
     have BD : Hid (∀ nq, Below wy.heap.size wy (wy.drewN nq)) := Lib.hid (fun nq => drewN_below wy nq)
     clear hg0 hg1 he1 he2
     go_upto_region 9 with fail
     by_cases he : e1 = e2
     ·have d1 : (e1 == e2) = true := by simpa using he
      have HR : Hid (confW x z = true) := Lib.hid (confW_true (.inl ⟨e1, by rw [← HLM.out.1, ← HE.out.1]; exact List.getElem_mem hia, by rw [← HLM.out.2, he, ← HE.out.2]; exact List.getElem_mem hka⟩))
      clear he
      go_quiet (fail)
      have hdb := BD.out nq
      generalize wy.drewN nq = v3 at hdb ⊢
      have B3 := Lib.hid (BZ.out.trans ((BY.out.trans (hdb.mono BY.out.size)).mono BZ.out.size))
      clear hdb BD g0 g1
      go_wp2_with fail
      go_ret
      exact ⟨by rw [HR.out]; rfl, B3.out⟩
     ·have d1 : (e1 == e2) = false := by simpa using he
      have NX : Hid (∀ b (hb : b < m.length), b < k + 1 → l[i] ≠ m[b]) := Lib.hid (fun b hb h => by
       rcases Nat.lt_or_ge b k with h2 | h2
       ·exact HK.out b hb h2
       ·obtain rfl : b = k := by omega
        rw [HE.out.1, HE.out.2]; exact he)
      clear he
      go_quiet (fail)
      have hdb := BD.out nq
      generalize wy.drewN nq = v3 at hdb ⊢
      have B3 := Lib.hid (BY.out.trans (hdb.mono BY.out.size))
      clear hdb BD g0 g1
      go_wp2_with fail
      go_roundw
      case measure => simp [intOf]; omega
      case rel => exact ⟨k + 1, by omega, by go_num, NX.out, B3.out⟩
    ·obtain rfl : k = nT := by omega
     have hlk' : ¬ (k : Int) < k := by omega
     have NX : Hid (∀ a (ha : a < l.length), a < i + 1 → ∀ b (hb : b < m.length), l[a] ≠ m[b]) := Lib.hid (fun a ha h b hb => by
      rcases Nat.lt_or_ge a i with h2 | h2
      ·exact HALL.out a ha h2 b hb
      ·obtain rfl : a = i := by omega
       exact HK.out b hb (by have := HT.out; omega))
     go_wp2_with fail
     go_roundw
     case measure => simp [intOf]; omega
     case rel => exact ⟨i + 1, by omega, by go_num, NX.out, BY.out⟩
  ·obtain rfl : i = nS := by omega
   have hlt' : ¬ (i : Int) < i := by omega
   have NOS : Hid (¬ ∃ s, s ∈ x.path ++ x.over ∧ s ∈ z.path ++ z.over) := Lib.hid (by
    rintro ⟨s, h1, h2⟩
    rw [← HLM.out.1] at h1
    rw [← HLM.out.2] at h2
    obtain ⟨a, ha, rfl⟩ := List.getElem_of_mem h1
    obtain ⟨b, hb, e⟩ := List.getElem_of_mem h2
    exact HALL.out a ha (by have := HS.out; omega) b hb e.symm)
   clear HALL hlt
   go_wp2_with fail
   go_loopw [9] (fun s9 wr => ∃ i2 : Nat, i2 ≤ pn2 ∧ s9 = .int .i64 i2 ∧ (∀ a (ha : a < x.asks.length), a < i2 → ∀ b (hb : b < z.asks.length), ¬ (x.asks[a].1 = z.asks[b].1 ∧ x.asks[a].2.1 ≠ z.asks[b].2.1)) ∧ Below wT.heap.size wT wr) (fun s9 _ => pn2 - (intOf s9).toNat)
   case atStart => exact ⟨0, by omega, by go_num, fun a ha h => absurd h (by omega), BW.out⟩
   case round =>
    obtain ⟨wx, hwx⟩ : ∃ u, u = wr := ⟨_, rfl⟩
    subst hwx
    obtain ⟨i2, hi2, rfl, hall, hb⟩ := hrel
    have HALL := Lib.hid hall
    have BX := Lib.hid hb
    clear hall hb
    have X2w := Lib.hid ((BX.out.block _ (heap_lt XA2.out)).trans XA2.out)
    obtain ⟨k0, k1, k2, k3⟩ := cell4_of X2w.out
    by_cases hl2 : i2 < pn2
    ·have hl2' : (i2 : Int) < pn2 := by omega
     have hia : i2 < x.asks.length := by have := NP.out; omega
     go_wp2_with fail
     clear k0 k1 k2 k3
     go_loopw [10] (fun s10 wr => ∃ k : Nat, k ≤ qn2 ∧ s10 = .int .i64 k ∧ (∀ b (hb : b < z.asks.length), b < k → ¬ (x.asks[i2].1 = z.asks[b].1 ∧ x.asks[i2].2.1 ≠ z.asks[b].2.1)) ∧ Below wT.heap.size wT wr) (fun s10 _ => qn2 - (intOf s10).toNat)
     case atStart => exact ⟨0, by omega, by go_num, fun b hb h => absurd h (by omega), BX.out⟩
     case round =>
      obtain ⟨wy, hwy⟩ : ∃ u, u = wr := ⟨_, rfl⟩
      subst hwy
      obtain ⟨k, hk, rfl, hall, hb⟩ := hrel
      have HK := Lib.hid hall
      have BY := Lib.hid hb
      clear hall hb
      have X3w := Lib.hid ((BY.out.block _ (heap_lt XA2.out)).trans XA2.out)
      have X4w := Lib.hid ((BY.out.block _ (heap_lt XB2.out)).trans XB2.out)
      obtain ⟨k0, k1, k2, k3⟩ := cell4_of X3w.out
      obtain ⟨m0, m1, m2, m3⟩ := cell4_of X4w.out
      by_cases hlk : k < qn2
      ·have hlk' : (k : Int) < qn2 := by omega
       have hka : k < z.asks.length := by have := NQ.out; omega
       obtain ⟨a1, a2, a3, hx1⟩ : ∃ a b c, x.asks[i2] = (a, b, c) := ⟨_, _, _, rfl⟩
       obtain ⟨b1, b2, b3, hx2⟩ : ∃ a b c, z.asks[k] = (a, b, c) := ⟨_, _, _, rfl⟩
       have HE : Hid (x.asks[i2] = (a1, a2, a3) ∧ z.asks[k] = (b1, b2, b3)) := Lib.hid ⟨hx1, hx2⟩
       obtain ⟨bo, oo, e7, -, hg0, hg1, -⟩ := (KP.out.below sigR BY.out).at hia
       cases e7
       obtain ⟨c2, o2, e7, -, hg2, hg3, -⟩ := (KQ.out.below sigR BY.out).at hka
       cases e7
       rw [hx1] at hg0 hg1
       rw [hx2] at hg2 hg3
       have g0 : wy.cell? ⟨bo, oo + i2 * 3, none⟩ = some (.int .i64 a1) := hg0
       have g1 : wy.cell? ⟨bo, oo + i2 * 3 + 1, none⟩ = some (.int .i64 a2) := hg1
       have g2 : wy.cell? ⟨c2, o2 + k * 3, none⟩ = some (.int .i64 b1) := hg2
       have g3 : wy.cell? ⟨c2, o2 + k * 3 + 1, none⟩ = some (.int .i64 b2) := hg3
       have BD : Hid (∀ nq, Below wy.heap.size wy (wy.drewN nq)) := Lib.hid (fun nq => drewN_below wy nq)
       have NX : Hid (¬ (a1 = b1 ∧ a2 ≠ b2) → ∀ b (hb : b < z.asks.length), b < k + 1 → ¬ (x.asks[i2].1 = z.asks[b].1 ∧ x.asks[i2].2.1 ≠ z.asks[b].2.1)) := Lib.hid (fun h0 b hb h => by
        rcases Nat.lt_or_ge b k with h2 | h2
        ·exact HK.out b hb h2
        ·obtain rfl : b = k := by omega
         rw [HE.out.1, HE.out.2]; exact h0)
       clear hx1 hx2 hg0 hg1 hg2 hg3
       go_upto_region 17 with fail
       by_cases h1 : a1 = b1
       ·have d1 : (a1 == b1) = true := by simpa using h1
        by_cases h2 : a2 = b2
        ·have d2 : (a2 != b2) = false := by simpa using h2
         have NN := Lib.hid (NX.out (fun h => h.2 h2))
         clear h1 h2 NX
         go_quiet (fail)
         have hdb := BD.out nq
         generalize wy.drewN nq = v3 at hdb ⊢
         have B3 := Lib.hid (BY.out.trans (hdb.mono BY.out.size))
         clear hdb BD g0 g1 g2 g3 k0 k1 k2 k3 m0 m1 m2 m3
         go_wp2_with fail
         go_roundw
         case measure => simp [intOf]; omega
         case rel => exact ⟨k + 1, by omega, by go_num, NN.out, B3.out⟩
        ·have d2 : (a2 != b2) = true := by simpa using h2
         have HR : Hid (confW x z = true) := Lib.hid (confW_true (.inr ⟨_, List.getElem_mem hia, _, List.getElem_mem hka, by rw [HE.out.1, HE.out.2]; exact h1, by rw [HE.out.1, HE.out.2]; exact h2⟩))
         clear h1 h2 NX
         go_quiet (fail)
         have hdb := BD.out nq
         generalize wy.drewN nq = v3 at hdb ⊢
         have B3 := Lib.hid (BZ.out.trans ((BY.out.trans (hdb.mono BY.out.size)).mono BZ.out.size))
         clear hdb BD g0 g1 g2 g3 k0 k1 k2 k3 m0 m1 m2 m3
         go_wp2_with fail
         go_ret
         exact ⟨by rw [HR.out]; rfl, B3.out⟩
       ·have d1 : (a1 == b1) = false := by simpa using h1
        have NN := Lib.hid (NX.out (fun h => h1 h.1))
        clear h1 NX
        go_quiet (fail)
        have hdb := BD.out nq
        generalize wy.drewN nq = v3 at hdb ⊢
        have B3 := Lib.hid (BY.out.trans (hdb.mono BY.out.size))
        clear hdb BD g0 g1 g2 g3 k0 k1 k2 k3 m0 m1 m2 m3
        go_wp2_with fail
        go_roundw
        case measure => simp [intOf]; omega
        case rel => exact ⟨k + 1, by omega, by go_num, NN.out, B3.out⟩
      ·obtain rfl : k = qn2 := by omega
       have hlk' : ¬ (k : Int) < k := by omega
       have NX : Hid (∀ a (ha : a < x.asks.length), a < i2 + 1 → ∀ b (hb : b < z.asks.length), ¬ (x.asks[a].1 = z.asks[b].1 ∧ x.asks[a].2.1 ≠ z.asks[b].2.1)) := Lib.hid (fun a ha h b hb => by
        rcases Nat.lt_or_ge a i2 with h2 | h2
        ·exact HALL.out a ha h2 b hb
        ·obtain rfl : a = i2 := by omega
         exact HK.out b hb (by have := NQ.out; omega))
       go_wp2_with fail
       go_roundw
       case measure => simp [intOf]; omega
       case rel => exact ⟨i2 + 1, by omega, by go_num, NX.out, BY.out⟩
    ·obtain rfl : i2 = pn2 := by omega
     have hl2' : ¬ (i2 : Int) < i2 := by omega
     have HR : Hid (confW x z = false) := Lib.hid (confW_false (by
      rintro (h | ⟨k, hk, n, hn, h1, h2⟩)
      ·exact NOS.out h
      ·obtain ⟨a, ha, rfl⟩ := List.getElem_of_mem hk
       obtain ⟨b, hb, rfl⟩ := List.getElem_of_mem hn
       exact HALL.out a ha (by have := NP.out; omega) b hb ⟨h1, h2⟩))
     go_wp2_with fail
     go_ret
     exact ⟨by rw [HR.out]; rfl, BZ.out.trans (BX.out.mono BZ.out.size)⟩

set_option maxHeartbeats 16000000 in
theorem rtwo_any (v : Value) (p : Pl) (a b : Int) (w : World) (h : PlanV w w.heap.size v p) :
  Calls Tryz.prog 7 #[v, .int .i64 a, .int .i64 b] w fun e w' => e = .returned (.tuple #[.bool (twoB p a b), .int .i64 (twoE p a b)]) ∧ Below w.heap.size w w' := by
 obtain ⟨A2, c2, A3, c3, A4, c4, A5, c5, n2, n3, n4, n5, rfl, hm2, hm3, hm4, hm5, HCP, HIN, HN⟩ := open_plan h
 have hq0 := heap_alloc_self w (.cells #[.int .i64 p.ver, .int .i64 p.par, .slice A2 n2 c2, .slice A3 n3 c3, .slice A4 n4 c4, .slice A5 n5 c5] 27)
 have hqb := below_new w (.cells #[.int .i64 p.ver, .int .i64 p.par, .slice A2 n2 c2, .slice A3 n3 c3, .slice A4 n4 c4, .slice A5 n5 c5] 27)
 go_enter Tryz.func7, Tryz.ntmps7
 go_upto_region 1 with fail
 generalize w.alloc (.cells #[.int .i64 p.ver, .int .i64 p.par, .slice A2 n2 c2, .slice A3 n3 c3, .slice A4 n4 c4, .slice A5 n5 c5] 27) = q at hq0 hqb ⊢
 have XP := Lib.hid hq0
 have BQ := Lib.hid hqb
 clear hq0 hqb
 obtain ⟨k0, k1, k2, k3, k4, k5⟩ := cell6_of XP.out
 go_wp2_with fail
 refine (rcheck10_any _ p q ⟨_, _, _, _, rfl, (HIN.out.below BQ.out).more BQ.out.size⟩).mono ?_
 rintro e w1 ⟨rfl, b1⟩
 have XP1 := Lib.hid ((b1.block _ (heap_lt XP.out)).trans XP.out)
 have B1 := Lib.hid (BQ.out.trans (b1.mono BQ.out.size))
 have HI := Lib.hid ((HIN.out.below B1.out).more B1.out.size)
 clear b1 k0 k1 k2 k3 k4 k5 XP BQ HIN
 obtain ⟨S, hS⟩ : ∃ x, x = sndE p := ⟨_, rfl⟩
 rw [← hS]
 by_cases h0 : S = 0
 rotate_left
 ·have d0 : (S != 0) = true := by simpa using h0
  have HT : Hid (twoE p a b = S ∧ twoB p a b = false) := Lib.hid (two_unsound hS.symm h0)
  clear h0 hS
  go_wp2_with fail
  refine bodyPost_ret (results_tmp2 rfl _ _ _) rfl ?_
  exact ⟨by rw [HT.out.1, HT.out.2]; rfl, B1.out⟩
 subst h0
 have HSN := Lib.hid (sndE_zero.1 hS.symm)
 have d0 : ((0 : Int) != 0) = false := by decide
 clear hS
 obtain ⟨k0, k1, k2, k3, k4, k5⟩ := cell6_of XP1.out
 go_wp2_with fail
 refine (rrouteat_any _ p.routes a w1 HI.out.routes).mono ?_
 rintro e w' ⟨rfl, hw⟩
 rw [hw]
 clear hw w'
 obtain ⟨ia, hia⟩ : ∃ i, i = at1 kRt p.routes a := ⟨_, rfl⟩
 rw [show at1 (fun x : Rt => x.id) p.routes a = ia from hia.symm]
 have HIA := Lib.hid hia
 clear hia
 by_cases ha : ia < 0
 ·have d1 : decide (ia < 0) = true := decide_eq_true ha
  have HT : Hid (twoE p a b = 6 ∧ twoB p a b = false) := Lib.hid (two_noone HSN.out (.inl (by rw [← HIA.out]; exact ha)))
  clear ha
  go_wp2_with fail
  refine bodyPost_ret (results_tmp2 rfl _ _ _) rfl ?_
  exact ⟨by rw [HT.out.1, HT.out.2]; rfl, B1.out⟩
 have d1 : decide (ia < 0) = false := decide_eq_false ha
 go_wp2_with fail
 refine (rrouteat_any _ p.routes b w1 HI.out.routes).mono ?_
 rintro e w' ⟨rfl, hw⟩
 rw [hw]
 clear hw w'
 obtain ⟨ib, hib⟩ : ∃ i, i = at1 kRt p.routes b := ⟨_, rfl⟩
 rw [show at1 (fun x : Rt => x.id) p.routes b = ib from hib.symm]
 have HIB := Lib.hid hib
 clear hib
 by_cases hb : ib < 0
 ·have d2 : decide (ib < 0) = true := decide_eq_true hb
  have HT : Hid (twoE p a b = 6 ∧ twoB p a b = false) := Lib.hid (two_noone HSN.out (.inr (by rw [← HIB.out]; exact hb)))
  clear ha hb
  go_wp2_with fail
  refine bodyPost_ret (results_tmp2 rfl _ _ _) rfl ?_
  exact ⟨by rw [HT.out.1, HT.out.2]; rfl, B1.out⟩
 have d2 : decide (ib < 0) = false := decide_eq_false hb
 have HAB : Hid (0 ≤ at1 kRt p.routes a ∧ 0 ≤ at1 kRt p.routes b) := Lib.hid ⟨by rw [← HIA.out]; omega, by rw [← HIB.out]; omega⟩
 clear ha hb
 by_cases hab : a = b
 ·have d3 : (a == b) = true := by simpa using hab
  have HT : Hid (twoE p a b = 2 ∧ twoB p a b = false) := Lib.hid (two_one HSN.out HAB.out.1 HAB.out.2 hab)
  clear hab
  go_wp2_with fail
  refine bodyPost_ret (results_tmp2 rfl _ _ _) rfl ?_
  exact ⟨by rw [HT.out.1, HT.out.2]; rfl, B1.out⟩
 have d3 : (a == b) = false := by simpa using hab
 have HT : Hid (twoE p a b = 0 ∧ twoB p a b = confW (wayR p (routeN p a)) (wayR p (routeN p b))) := Lib.hid (two_two HSN.out HAB.out.1 HAB.out.2 hab)
 have HW : Hid (∀ c, 0 ≤ at1 kRt p.routes c → wayE p c = 0 ∧ wayV p c = wayR p (routeN p c)) := Lib.hid (fun c hc => way_sound HSN.out hc)
 have HLEN : Hid (∀ c, 0 ≤ at1 kRt p.routes c → (wayR p (routeN p c)).path.length ≤ 1000 ∧ (wayR p (routeN p c)).over.length ≤ 1000) := Lib.hid (fun c hc => way_len HSN.out hc)
 go_upto_region 8 with fail
 clear hab d0 d1 d2 d3 k0 k1 k2 k3 k4 k5
 obtain ⟨k0, k1, k2, k3, k4, k5⟩ := cell6_of XP1.out
 go_wp2_with fail
 refine (rof_any _ p a w1 ⟨_, _, _, _, rfl, HI.out⟩).mono ?_
 rintro e w2 ⟨u0, u1, u2, rfl, hu, bO⟩
 rw [(HW.out a (by first | exact HAB.out.1 | exact HAB.out.2)).2] at hu ⊢
 rw [(HW.out a (by first | exact HAB.out.1 | exact HAB.out.2)).1]
 obtain ⟨x, hx⟩ : ∃ x, x = wayR p (routeN p a) := ⟨_, rfl⟩
 rw [← hx] at hu ⊢
 have Vx := Lib.hid hx
 obtain ⟨P0, pd0, rfl⟩ := hu.path.slice
 obtain ⟨P1, pd1, rfl⟩ := hu.over.slice
 obtain ⟨P2, pd2, rfl⟩ := hu.asks.slice
 obtain ⟨pn0, hn0⟩ : ∃ n, n = x.path.length := ⟨_, rfl⟩
 obtain ⟨pn1, hn1⟩ : ∃ n, n = x.over.length := ⟨_, rfl⟩
 obtain ⟨pn2, hn2⟩ : ∃ n, n = x.asks.length := ⟨_, rfl⟩
 have Wx : Hid (WayV w2 w2.heap.size (.agg #[.slice P0 pn0 pd0, .slice P1 pn1 pd1, .slice P2 pn2 pd2, .int .i64 x.near]) x) := Lib.hid ⟨_, _, _, rfl, by rw [hn0, hn1, hn2]; exact hu.in_⟩
 rw [← hn0, ← hn1, ← hn2]
 clear hu hx hn0 hn1 hn2 k0 k1 k2 k3 k4 k5
 have XX0 := heap_alloc_self w2 (.cells #[.slice none 0 0, .slice none 0 0, .slice none 0 0, .int .i64 0] 56)
 have hb := below_setRow (below_new w2 (.cells #[.slice none 0 0, .slice none 0 0, .slice none 0 0, .int .i64 0] 56)) (Nat.le_refl _) #[.slice P0 pn0 pd0, .slice P1 pn1 pd1, .slice P2 pn2 pd2, .int .i64 x.near]
 have hx := setRow_heap (w2.alloc (.cells #[.slice none 0 0, .slice none 0 0, .slice none 0 0, .int .i64 0] 56)) w2.heap.size _ #[.slice P0 pn0 pd0, .slice P1 pn1 pd1, .slice P2 pn2 pd2, .int .i64 x.near] 56 _ XX0
 go_upto_region 9 with ((with_reducible show wpList _ _ _ (⟨none, _, _, _, _, _⟩ :: _) _ _); refine wpList_store_rowS rfl _ (.tmp 9) (.tmp 37) rfl w2.heap.size rfl (c' := #[.slice P0 pn0 pd0, .slice P1 pn1 pd1, .slice P2 pn2 pd2, .int .i64 x.near]) rfl XX0 infoWay4 rfl (by simp [Value.oneCell']) ?_)
 generalize (w2.alloc (.cells #[.slice none 0 0, .slice none 0 0, .slice none 0 0, .int .i64 0] 56)).setRow w2.heap.size #[.slice P0 pn0 pd0, .slice P1 pn1 pd1, .slice P2 pn2 pd2, .int .i64 x.near] = w2b at hb hx ⊢
 obtain ⟨p9, hp⟩ : ∃ n, n = w2.heap.size := ⟨_, rfl⟩
 rw [← hp] at hx ⊢
 have XX := Lib.hid hx
 have bb := bO.trans (hb.mono bO.size)
 have tB := B1.out.trans (bb.mono B1.out.size)
 have tP := (bb.block _ (heap_lt XP1.out)).trans XP1.out
 have tI := (HI.out.below bb).more bb.size
 have tW := (Wx.out.below hb).more hb.size
 clear B1 XP1 HI Wx  bO hb bb hx hp XX0
 have B1 := Lib.hid tB
 have XP1 := Lib.hid tP
 have HI := Lib.hid tI
 have Wx := Lib.hid tW
 clear tB tP tI tW 
 obtain ⟨k0, k1, k2, k3, k4, k5⟩ := cell6_of XP1.out
 go_wp2_with fail
 refine (rof_any _ p b w2b ⟨_, _, _, _, rfl, HI.out⟩).mono ?_
 rintro e w3 ⟨u0, u1, u2, rfl, hu, bO⟩
 rw [(HW.out b (by first | exact HAB.out.1 | exact HAB.out.2)).2] at hu ⊢
 rw [(HW.out b (by first | exact HAB.out.1 | exact HAB.out.2)).1]
 obtain ⟨z, hx⟩ : ∃ x, x = wayR p (routeN p b) := ⟨_, rfl⟩
 rw [← hx] at hu ⊢
 have Vz := Lib.hid hx
 obtain ⟨Q0, qd0, rfl⟩ := hu.path.slice
 obtain ⟨Q1, qd1, rfl⟩ := hu.over.slice
 obtain ⟨Q2, qd2, rfl⟩ := hu.asks.slice
 obtain ⟨qn0, hn0⟩ : ∃ n, n = z.path.length := ⟨_, rfl⟩
 obtain ⟨qn1, hn1⟩ : ∃ n, n = z.over.length := ⟨_, rfl⟩
 obtain ⟨qn2, hn2⟩ : ∃ n, n = z.asks.length := ⟨_, rfl⟩
 have Wz : Hid (WayV w3 w3.heap.size (.agg #[.slice Q0 qn0 qd0, .slice Q1 qn1 qd1, .slice Q2 qn2 qd2, .int .i64 z.near]) z) := Lib.hid ⟨_, _, _, rfl, by rw [hn0, hn1, hn2]; exact hu.in_⟩
 rw [← hn0, ← hn1, ← hn2]
 clear hu hx hn0 hn1 hn2 k0 k1 k2 k3 k4 k5
 have XX0 := heap_alloc_self w3 (.cells #[.slice none 0 0, .slice none 0 0, .slice none 0 0, .int .i64 0] 56)
 have hb := below_setRow (below_new w3 (.cells #[.slice none 0 0, .slice none 0 0, .slice none 0 0, .int .i64 0] 56)) (Nat.le_refl _) #[.slice Q0 qn0 qd0, .slice Q1 qn1 qd1, .slice Q2 qn2 qd2, .int .i64 z.near]
 have hx := setRow_heap (w3.alloc (.cells #[.slice none 0 0, .slice none 0 0, .slice none 0 0, .int .i64 0] 56)) w3.heap.size _ #[.slice Q0 qn0 qd0, .slice Q1 qn1 qd1, .slice Q2 qn2 qd2, .int .i64 z.near] 56 _ XX0
 go_upto_region 10 with ((with_reducible show wpList _ _ _ (⟨none, _, _, _, _, _⟩ :: _) _ _); refine wpList_store_rowS rfl _ (.tmp 11) (.tmp 43) rfl w3.heap.size rfl (c' := #[.slice Q0 qn0 qd0, .slice Q1 qn1 qd1, .slice Q2 qn2 qd2, .int .i64 z.near]) rfl XX0 infoWay4 rfl (by simp [Value.oneCell']) ?_)
 generalize (w3.alloc (.cells #[.slice none 0 0, .slice none 0 0, .slice none 0 0, .int .i64 0] 56)).setRow w3.heap.size #[.slice Q0 qn0 qd0, .slice Q1 qn1 qd1, .slice Q2 qn2 qd2, .int .i64 z.near] = w3b at hb hx ⊢
 obtain ⟨p11, hp⟩ : ∃ n, n = w3.heap.size := ⟨_, rfl⟩
 rw [← hp] at hx ⊢
 have XZ := Lib.hid hx
 have bb := bO.trans (hb.mono bO.size)
 have tB := B1.out.trans (bb.mono B1.out.size)
 have tP := (bb.block _ (heap_lt XP1.out)).trans XP1.out
 have tI := (HI.out.below bb).more bb.size
 have tW := (Wz.out.below hb).more hb.size
 have tXX := (bb.block _ (heap_lt XX.out)).trans XX.out
 have tWx := (Wx.out.below bb).more bb.size
 clear B1 XP1 HI Wz XX Wx bO hb bb hx hp XX0
 have B1 := Lib.hid tB
 have XP1 := Lib.hid tP
 have HI := Lib.hid tI
 have Wz := Lib.hid tW
 have XX := Lib.hid tXX
 have Wx := Lib.hid tWx
 clear tB tP tI tW tXX tWx
 obtain ⟨m0, m1, m2, m3⟩ := cell4_of XX.out
 obtain ⟨n0, n1, n2_, n3_⟩ := cell4_of XZ.out
 go_wp2_with fail
 refine (ris_any _ _ x z w3b Wx.out Wz.out ⟨by rw [Vx.out]; exact (HLEN.out a HAB.out.1).1, by rw [Vx.out]; exact (HLEN.out a HAB.out.1).2, by rw [Vz.out]; exact (HLEN.out b HAB.out.2).1, by rw [Vz.out]; exact (HLEN.out b HAB.out.2).2⟩).mono ?_
 rintro e w4 ⟨rfl, b4⟩
 have BL := Lib.hid (B1.out.trans (b4.mono B1.out.size))
 have HT2 : Hid (twoE p a b = 0 ∧ twoB p a b = confW x z) := Lib.hid (by rw [Vx.out, Vz.out]; exact HT.out)
 generalize confW x z = CB at HT2 ⊢
 clear b4 m0 m1 m2 m3 n0 n1 n2_ n3_
 go_wp2_with fail
 refine bodyPost_ret (results_tmp2 rfl _ _ _) rfl ?_
 exact ⟨by rw [HT2.out.1, HT2.out.2]; rfl, BL.out⟩

set_option maxHeartbeats 16000000 in
theorem rtable_any (v : Value) (p : Pl) (w : World) (h : PlanV w w.heap.size v p) :
  Calls Tryz.prog 9 #[v] w fun e w' => ∃ u, e = .returned (.tuple #[u, .int .i64 (sndE p)]) ∧ PairsOwn w' w.heap.size u (tabL p) ∧ Below w.heap.size w w' := by
 obtain ⟨A2, c2, A3, c3, A4, c4, A5, c5, n2, n3, n4, n5, rfl, hm2, hm3, hm4, hm5, HCP, HIN, HN⟩ := open_plan h
 have hq0 := heap_alloc_self w (.cells #[.int .i64 p.ver, .int .i64 p.par, .slice A2 n2 c2, .slice A3 n3 c3, .slice A4 n4 c4, .slice A5 n5 c5] 27)
 have hqb := below_new w (.cells #[.int .i64 p.ver, .int .i64 p.par, .slice A2 n2 c2, .slice A3 n3 c3, .slice A4 n4 c4, .slice A5 n5 c5] 27)
 go_enter Tryz.func9, Tryz.ntmps9
 go_upto_region 1 with fail
 generalize w.alloc (.cells #[.int .i64 p.ver, .int .i64 p.par, .slice A2 n2 c2, .slice A3 n3 c3, .slice A4 n4 c4, .slice A5 n5 c5] 27) = q at hq0 hqb ⊢
 have XP := Lib.hid hq0
 have BQ := Lib.hid hqb
 clear hq0 hqb
 obtain ⟨k0, k1, k2, k3, k4, k5⟩ := cell6_of XP.out
 go_wp2_with fail
 refine (rcheck10_any _ p q ⟨_, _, _, _, rfl, (HIN.out.below BQ.out).more BQ.out.size⟩).mono ?_
 rintro e w1 ⟨rfl, b1⟩
 have XP1 := Lib.hid ((b1.block _ (heap_lt XP.out)).trans XP.out)
 have B1 := Lib.hid (BQ.out.trans (b1.mono BQ.out.size))
 have HI := Lib.hid ((HIN.out.below B1.out).more B1.out.size)
 clear b1 k0 k1 k2 k3 k4 k5 XP BQ HIN
 obtain ⟨S, hS⟩ : ∃ x, x = sndE p := ⟨_, rfl⟩
 rw [← hS]
 have HS := Lib.hid hS.symm
 clear hS
 by_cases h0 : S = 0
 rotate_left
 ·have d0 : (S != 0) = true := by simpa using h0
  have HT : Hid (tabL p = []) := Lib.hid (by
   rcases sndE_cases p with ⟨h1, -⟩ | ⟨-, h1⟩
   ·exact absurd (HS.out.symm.trans h1) h0
   ·rw [tabL, soundP_false h1]; rfl)
  clear h0
  go_wp2_with fail
  refine bodyPost_ret (results_tmp2 rfl _ _ _) rfl ?_
  exact ⟨_, by rw [HS.out]; rfl, by rw [HT.out]; exact ListOwn.nil_, B1.out⟩
 subst h0
 have HSN := Lib.hid (sndE_zero.1 HS.out)
 have N16 : Hid (n5 ≤ 16) := Lib.hid (by have := HSN.out.may.n; have := HN.out; omega)
 have d0 : ((0 : Int) != 0) = false := by decide
 go_wp2_with fail
 clear d0
 go_loopw [5, 6] (fun s5 s6 wr => ∃ (i L : Nat) (A : Option Addr) (c : Nat), i ≤ n5 ∧ s6 = .int .i64 i ∧ s5 = .slice A L c ∧ L = (tabC p i).length ∧ PairsOwn wr w1.heap.size (.slice A L c) (tabC p i) ∧ Below w1.heap.size w1 wr) (fun _ s6 _ => n5 - (intOf s6).toNat)
 case atStart => exact ⟨0, 0, none, 0, by omega, by go_num, rfl, rfl, ListOwn.nil_, Below.refl _ _⟩
 case round =>
  obtain ⟨i, L0, A0, c0, hi, rfl, rfl, hL, ho, hb⟩ := hrel
  have HL0 := Lib.hid hL
  have HO0 := Lib.hid ho
  have BW := Lib.hid hb
  clear hL ho hb
  have XPw := Lib.hid ((BW.out.block _ (heap_lt XP1.out)).trans XP1.out)
  obtain ⟨k0, k1, k2, k3, k4, k5⟩ := cell6_of XPw.out
  by_cases hlt : i < n5
  ·have hlt' : (i : Int) < n5 := by omega
   have hwi : IntKind.i64.wrap ((i : Int) + 1) = ((i + 1 : Nat) : Int) := by rw [wrap_id (by omega) (by have := N16.out; omega)]; omega
   go_wp2_with fail
   clear k0 k1 k2 k3 k4 k5 hwi
   go_loopw [5, 7] (fun s5 s7 wr => ∃ (k L : Nat) (A : Option Addr) (c : Nat), i + 1 ≤ k ∧ k ≤ n5 ∧ s7 = .int .i64 k ∧ s5 = .slice A L c ∧ L = (tabC p i ++ rowC p i k).length ∧ PairsOwn wr w1.heap.size (.slice A L c) (tabC p i ++ rowC p i k) ∧ Below w1.heap.size w1 wr) (fun _ s7 _ => n5 - (intOf s7).toNat)
   case atStart => exact ⟨i + 1, L0, A0, c0, by omega, by omega, by go_num, rfl, by rw [rowC_zero p i (Nat.le_refl _), List.append_nil]; exact HL0.out, by rw [rowC_zero p i (Nat.le_refl _), List.append_nil]; exact HO0.out, BW.out⟩
   case round =>
    obtain ⟨wy, hwy⟩ : ∃ u, u = wr := ⟨_, rfl⟩
    subst hwy
    obtain ⟨k, L, A, c, hik, hk, rfl, rfl, hL, ho, hb⟩ := hrel
    have HLL := Lib.hid hL
    have HO := Lib.hid ho
    have BY := Lib.hid hb
    have HIK : Hid (i < k) := Lib.hid (by omega)
    clear hL ho hb
    have XPy := Lib.hid ((BY.out.block _ (heap_lt XP1.out)).trans XP1.out)
    have HIy := Lib.hid ((HI.out.below BY.out).more BY.out.size)
    obtain ⟨k0, k1, k2, k3, k4, k5⟩ := cell6_of XPy.out
    by_cases hlk : k < n5
    ·have hlk' : (k : Int) < n5 := by omega
     have hir : i < p.routes.length := by have := HN.out; omega
     have hkr : k < p.routes.length := by have := HN.out; omega
     obtain ⟨z1, hz1⟩ : ∃ z, z = (rtI p i).id := ⟨_, rfl⟩
     obtain ⟨z2, hz2⟩ : ∃ z, z = (rtI p k).id := ⟨_, rfl⟩
     have HZ : Hid ((rtI p i).id = z1 ∧ (rtI p k).id = z2) := Lib.hid ⟨hz1.symm, hz2.symm⟩
     obtain ⟨CF, hCF⟩ : ∃ c, c = confW (wayR p (rtI p i)) (wayR p (rtI p k)) := ⟨_, rfl⟩
     have HCF0 := Lib.hid hCF.symm
     have HTW : Hid (twoB p z1 z2 = CF ∧ twoE p z1 z2 = 0) := Lib.hid (by
      have h1 := two_at HSN.out hir hkr (by omega)
      rw [hz1, hz2, hCF]
      exact ⟨h1.2, h1.1⟩)
     obtain ⟨bk, off, e5, hbk, hc0, -⟩ := (HI.out.routes.below routeR BY.out).at hir
     obtain ⟨bk', off', e6, -, hd0, -⟩ := (HI.out.routes.below routeR BY.out).at hkr
     cases e5
     cases e6
     have HBK := Lib.hid hbk
     have GI : Hid (wy.cell? ⟨bk, off + i * 7, none⟩ = some (.int .i64 z1)) := Lib.hid (by rw [hz1, rtI, List.getD, List.getElem?_eq_getElem hir]; exact hc0)
     have GK : Hid (wy.cell? ⟨bk, off + k * 7, none⟩ = some (.int .i64 z2)) := Lib.hid (by rw [hz2, rtI, List.getD, List.getElem?_eq_getElem hkr]; exact hd0)
     have LLE : Hid (L ≤ 300) := Lib.hid (by
      rw [HLL.out, List.length_append]
      have h1 := tabC_len p i
      have h2 := rowC_len p i k
      have h3 := N16.out
      have h4 := HN.out.2.2.2
      have h5 : i * p.routes.length ≤ 16 * 16 := Nat.mul_le_mul (by omega) (by omega)
      omega)
     clear hz1 hz2 hCF hbk hc0 hd0
     go_upto_region 11 with fail
     clear k0 k1 k2 k3 k4 k5
     refine wp_region_held_drew (S := fun v => Below wy.heap.size wy v) (by kernel_rfl) (Below.refl wy.heap.size wy).drew (fun hHeld => ?_)
     refine tkc 0 hHeld (fun w' hSw => cell6_of ((hSw.block _ (heap_lt XPy.out)).trans XPy.out)) ?_;refine tk 1 hHeld ?_;refine tkc 2 hHeld (fun w' hSw => cell6_of ((hSw.block _ (heap_lt XPy.out)).trans XPy.out)) ?_;refine tk 3 hHeld ?_;refine tk 4 hHeld ?_;refine tk 5 hHeld ?_;refine tkc 6 hHeld (fun w' hSw => (hSw.cell (cell_lt GI.out)).trans GI.out) ?_;refine tk 7 hHeld ?_;refine tkc 8 hHeld (fun w' hSw => cell6_of ((hSw.block _ (heap_lt XPy.out)).trans XPy.out)) ?_;refine tk 9 hHeld ?_;refine tk 10 hHeld ?_;refine tk 11 hHeld ?_;refine tkc 12 hHeld (fun w' hSw => (hSw.cell (cell_lt GK.out)).trans GK.out) ?_
     refine tkr 13 (fun K hK => ?_)
     go_simp
     refine (rtwo_any _ p z1 z2 wy.drew ⟨_, _, _, _, rfl, (HIy.out.below (Below.refl wy.heap.size wy).drew).more (Below.refl wy.heap.size wy).drew.size⟩).mono ?_
     rintro e v5 ⟨rfl, b⟩
     rw [HTW.out.1, HTW.out.2]
     have B5 : Hid (Below wy.heap.size wy v5) := Lib.hid ((Below.refl wy.heap.size wy).drew.trans (b.mono (Below.refl wy.heap.size wy).drew.size))
     clear b
     try go_wp2_with fail
     refine hK.out _ _ ?_ fun hHeld => ?_;exact B5.out;clear hK K;try simp only [zn, Act.put]
     refine tk 14 hHeld ?_;refine tk 15 hHeld ?_;refine tk 16 hHeld ?_;refine tk 17 hHeld ?_;refine tk 18 hHeld ?_
     refine wpAnyH_done (by kernel_rfl) ?_ _
     have BV5 : Hid (Below w1.heap.size w1 v5) := Lib.hid (BY.out.trans (B5.out.mono BY.out.size))
     have HO5 := Lib.hid (HO.out.below joinR B5.out)
     have XP5 := Lib.hid ((B5.out.block _ (heap_lt XPy.out)).trans XPy.out)
     have HL5 : Hid (w.heap.size < w1.heap.size) := Lib.hid (heap_lt XP1.out)
     have GI5 := Lib.hid ((B5.out.cell (cell_lt GI.out)).trans GI.out)
     have GK5 := Lib.hid ((B5.out.cell (cell_lt GK.out)).trans GK.out)
     clear B5 HO XPy HIy GI GK BY
     cases CF with
     | false =>
      have NX : Hid (tabC p i ++ rowC p i (k + 1) = tabC p i ++ rowC p i k) := Lib.hid (by rw [rowC_skip HCF0.out])
      go_wp2_with fail
      go_roundw
      case measure => simp [intOf]; omega
      case rel => exact ⟨k + 1, L, A, c, by omega, by omega, by go_num, rfl, by rw [NX.out]; exact HLL.out, by rw [NX.out]; exact HO5.out, BV5.out⟩
     | true =>
      have HCF := HCF0
      obtain ⟨i0, hii, hz0, hzz, hz2⟩ := info_parts infoPair
      have I0 := Lib.hid hii
      have I1 := Lib.hid hz0
      have I2 := Lib.hid hzz
      have I3 := Lib.hid hz2
      obtain ⟨yss, hown, hyl, hm, hys, hyr⟩ := HO5.out
      rw [← HLL.out] at hown
      have O := Lib.hid hown
      have YL := Lib.hid hyl
      have YS := Lib.hid hys
      have YR := Lib.hid hyr
      clear hii hz0 hzz hz2 hown hyl hm hys hyr
      go_upto_region 13 with fail
      refine wp_region_held_drew (S := fun v => Below w1.heap.size v5 v) (by kernel_rfl) (Below.refl w1.heap.size v5).drew (fun hHeld => ?_)
      refine tk 0 hHeld ?_;refine tk 1 hHeld ?_;refine tkc 2 hHeld (fun w' hSw => cell6_of ((hSw.block _ HL5.out).trans XP5.out)) ?_;refine tk 3 hHeld ?_;refine tk 4 hHeld ?_;refine tk 5 hHeld ?_;refine tkc 6 hHeld (fun w' hSw => (hSw.cell (p := ⟨bk, off + i * 7, none⟩) HBK.out).trans GI5.out) ?_;refine tk 7 hHeld ?_;refine tkc 8 hHeld (fun w' hSw => cell6_of ((hSw.block _ HL5.out).trans XP5.out)) ?_;refine tk 9 hHeld ?_;refine tk 10 hHeld ?_;refine tk 11 hHeld ?_;refine tkc 12 hHeld (fun w' hSw => (hSw.cell (p := ⟨bk, off + k * 7, none⟩) HBK.out).trans GK5.out) ?_;refine tk 13 hHeld ?_
      refine tkr 14 (fun K hK => ?_)
      go_simp
      refine hK.out _ _ ?_ fun hHeld => ?_;exact ((Below.refl w1.heap.size v5).drew.alloc BV5.out.size _);clear hK K;try simp only [zn, Act.put]
      refine tkr 15 (fun K hK => ?_)
      rw [if_pos (by rfl)]
      refine wp_append_list (.tmp 49) (.tmp 63) _ rfl Tryz.underlying35 I0.out I1.out rfl I2.out (by decide) I3.out (by decide) rfl (owns_below O.out ((Below.refl v5.heap.size v5).alloc (Nat.le_refl _) _).drew) rfl (m := 1) (news := [.int .i64 z1, .int .i64 z2]) rfl (fun h => by cases h) (fun a ha j u hj => by cases ha; rw [Addr.add_lit, Nat.zero_add]; show (v5.alloc (.cells #[.int .i64 z1, .int .i64 z2] 41)).cell? ⟨v5.heap.size, j, none⟩ = _; rw [World.cell?_alloc_new]; simpa using hj) (by simp [Value.oneCell']) (by have := LLE.out; omega) (by have := BV5.out.size; simp; omega) ?_
      intro v6 w6 hown5 hgrow6
      have hgrow5 : World.grownBy (v5.alloc (.cells #[.int .i64 z1, .int .i64 z2] 41)) w6 (Value.ownBlock (.slice A L c)) := ⟨hgrow6.os, hgrow6.tape, hgrow6.output, hgrow6.size, hgrow6.block⟩
      have S6 : Hid (PairsOwn w6 w1.heap.size v6 (tabC p i ++ rowC p i (k + 1))) := Lib.hid (by
       rw [rowC_take HIK.out HCF.out, ← List.append_assoc, HZ.out.1, HZ.out.2]
       exact ListOwn.snoc (w1 := v5) (x := (z1, z2)) (ys := [.int .i64 z1, .int .i64 z2]) joinR (fun _ h _ _ => h) (by rw [← HLL.out]; exact O.out) YL.out YS.out rfl (by have := LLE.out; have := HLL.out; unfold maxLen; omega) YR.out (Below.refl _ _) ⟨rfl, rfl⟩ (by rw [← HLL.out]; exact hown5) hgrow5)
      have B6 : Hid (Below w1.heap.size v5 w6) := Lib.hid (((Below.refl w1.heap.size v5).alloc BV5.out.size _).grown hgrow5 (by have := BV5.out.size; simp; omega) (own_ge O.out))
      obtain ⟨A6, c6, rfl⟩ := own_sliceN hown5
      have LN6 : Hid (L + 1 = (tabC p i ++ rowC p i (k + 1)).length) := Lib.hid (by rw [rowC_take HIK.out HCF.out, ← List.append_assoc, List.length_append, ← HLL.out]; rfl)
      clear hown5 hgrow5 hgrow6
      refine hK.out _ _ ?_ fun hHeld => ?_;exact B6.out;clear hK K;try simp only [zn, Act.put]
      refine tk 16 hHeld ?_
      refine wpAnyH_done (by kernel_rfl) ?_ _
      have BV6 := Lib.hid (BV5.out.trans B6.out)
      go_wp2_with fail
      go_roundw
      case measure => simp [intOf]; omega
      case rel => exact ⟨k + 1, L + 1, A6, c6, by omega, by omega, by go_num, rfl, LN6.out, S6.out, BV6.out⟩
    ·obtain rfl : k = n5 := by omega
     have hlk' : ¬ (k : Int) < k := by omega
     have HE : Hid (tabC p (i + 1) = tabC p i ++ rowC p i k) := Lib.hid (by rw [tabC_succ, HN.out.2.2.2])
     go_wp2_with fail
     go_roundw
     case measure => simp [intOf]; omega
     case rel => exact ⟨i + 1, L, A, c, by omega, by go_num, rfl, by rw [HE.out]; exact HLL.out, by rw [HE.out]; exact HO.out, BY.out⟩
  ·obtain rfl : i = n5 := by omega
   have hlt' : ¬ (i : Int) < i := by omega
   have HT : Hid (tabL p = tabC p i) := Lib.hid (by rw [tabL, if_pos (soundP_true HSN.out), HN.out.2.2.2])
   go_wp2_with fail
   refine bodyPost_ret (results_tmp2 rfl _ _ _) rfl ?_
   exact ⟨_, by rw [HS.out]; rfl, by rw [HT.out]; exact HO0.out.mono B1.out.size, B1.out.trans (BW.out.mono B1.out.size)⟩
end Go.Proofs.YtebffdfimmbbdaaGreat
