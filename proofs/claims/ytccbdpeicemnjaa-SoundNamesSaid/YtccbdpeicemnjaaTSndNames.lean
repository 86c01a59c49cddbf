/-
 SoundNames: the walk, given the program's contracts.
 Conditions: none.
-/
import Derived.Test.YtccbdpeicemnjaaTGSndSt
import Derived.Test.YtccbdpeicemnjaaTGPlnRefD
import Derived.Test.YtccbdpeicemnjaaTGWayPA
import Derived.Test.YtccbdpeicemnjaaTWayAllM
set_option linter.unusedVariables false
set_option linter.unusedSimpArgs false
set_option maxRecDepth 100000
namespace Go.Proofs.Ytccbdpeicemnjaa
open Go.RowKit

theorem snd_not {p : Pl} (h : ¬ PlanSound p) : sndE p = 100 := by
 rcases sndE_cases p with ⟨-, h1⟩ | ⟨h1, -⟩
 ·exact absurd h1 h
 ·exact h1
theorem grownBy_setCell (w : World) (g k : Nat) (x : Value) : w.grownBy (w.setCell ⟨g, k, none⟩ x) (some g) :=
 ⟨rfl, rfl, rfl, by simp [World.setCell], fun i hi hne => heap_setFar w g k i x (fun e => hne (by rw [e]))⟩
set_option maxHeartbeats 16000000 in
theorem walk_sound_names (hs : SndSaid) (w : World) : Calls Try.prog 3 #[] w fun e w' => e = .returned (.bool true) ∧ Below w.heap.size w w' := by
 go_enter Try.func3, Try.ntmps3
 go_wp2_with fail
 refine (st_at _).mono ?_
 rintro e wA ⟨sA, rfl, hst, hsg, hlt, bb⟩
 have HS := Lib.hid hst
 have HG := Lib.hid hsg
 have BN := Lib.hid bb
 have LT := Lib.hid hlt
 clear hst hsg bb hlt
 have hx := heap_alloc_self wA (.cells #[.int .i64 1, .int .i64 0, .slice (some ⟨sA + 6, 0, none⟩) 6 6, .slice (some ⟨sA + 7, 0, none⟩) 2 2, .slice (some ⟨sA + 8, 0, none⟩) 4 4, .slice (some ⟨sA + 13, 0, none⟩) 3 3] 27)
 have hb := below_new wA (.cells #[.int .i64 1, .int .i64 0, .slice (some ⟨sA + 6, 0, none⟩) 6 6, .slice (some ⟨sA + 7, 0, none⟩) 2 2, .slice (some ⟨sA + 8, 0, none⟩) 4 4, .slice (some ⟨sA + 13, 0, none⟩) 3 3] 27)
 obtain ⟨qA, hq⟩ : ∃ q, q = wA.alloc (.cells #[.int .i64 1, .int .i64 0, .slice (some ⟨sA + 6, 0, none⟩) 6 6, .slice (some ⟨sA + 7, 0, none⟩) 2 2, .slice (some ⟨sA + 8, 0, none⟩) 4 4, .slice (some ⟨sA + 13, 0, none⟩) 3 3] 27) := ⟨_, rfl⟩
 rw [← hq] at hx hb
 go_upto_region 2 with fail
 rw [← hq]
 have XB := Lib.hid hx
 have HS1 := Lib.hid (HS.out.below hb)
 have HG1 := Lib.hid ((hb.block _ (heap_lt HG.out)).trans HG.out)
 have BB : Hid (Below w.heap.size w qA) := Lib.hid (BN.out.trans (hb.mono BN.out.size))
 obtain ⟨pA, hp⟩ : ∃ x, x = wA.heap.size := ⟨_, rfl⟩
 have GL : Hid (sA + 13 < pA) := Lib.hid (by rw [hp]; exact heap_lt HS.out.r13)
 have GE : Hid (w.heap.size ≤ sA ∧ w.heap.size ≤ pA) := Lib.hid (by have := LT.out; have := BN.out.size; omega)
 rw [← hp] at XB ⊢
 clear HS HG BN LT hx hb hq hp
 obtain ⟨k0, k1, k2, k3, k4, k5⟩ := cell6_of XB.out
 obtain ⟨qA2, hq⟩ : ∃ x, x = qA.alloc (.cells #[.int .i64 2, .int .i64 1] 30) := ⟨_, rfl⟩
 have tI : qA2.heap[qA.heap.size]? = some (.cells #[.int .i64 2, .int .i64 1] 30 (0, 0)) := by rw [hq]; exact heap_alloc_self qA _
 have tB : Below qA.heap.size qA qA2 := by rw [hq]; exact below_new qA _
 have HS2 := Lib.hid (HS1.out.below tB)
 have HG2 := Lib.hid ((tB.block _ (heap_lt HG1.out)).trans HG1.out)
 have XB2 := Lib.hid ((tB.block _ (heap_lt XB.out)).trans XB.out)
 have BB2 := Lib.hid (BB.out.trans (tB.mono BB.out.size))
 obtain ⟨g0, g1, g2, g3, g4, g5⟩ := cell6_of XB2.out
 have r0 : qA2.cell? ⟨sA + 13, 12, none⟩ = some (.slice none 0 0) := row_cj _ _ _ 12 _ HS2.out.r13 rfl
 have hf := frozen2_of HS2.out.r13 12
 have HI := Lib.hid tI
 have SZ : Hid (qA.heap.size ≠ sA + 13) := Lib.hid (by have := heap_lt HS1.out.r13; omega)
 clear tI tB
 rw [hq] at g0 g1 g2 g3 g4 g5 r0 hf
 go_upto_region 3 with fail
 rw [← hq]
 generalize qA.heap.size = gI at HI SZ ⊢
 have tS := HS2.out.flank1 (.slice (some ⟨gI, 0, none⟩) 1 1)
 have tG := (heap_setFar qA2 (sA + 13) 12 _ (.slice (some ⟨gI, 0, none⟩) 1 1) (show sA + 8 ≠ sA + 13 by omega)).trans HG2.out
 have tI := (heap_setFar qA2 (sA + 13) 12 _ (.slice (some ⟨gI, 0, none⟩) 1 1) SZ.out).trans HI.out
 have tX := (heap_setFar qA2 (sA + 13) 12 _ (.slice (some ⟨gI, 0, none⟩) 1 1) (show pA ≠ sA + 13 by have := GL.out; omega)).trans XB2.out
 have tB := below_set BB2.out (show w.heap.size ≤ sA + 13 by have := GE.out; omega) 12 (.slice (some ⟨gI, 0, none⟩) 1 1)
 clear k0 k1 k2 k3 k4 k5 g0 g1 g2 g3 g4 g5 r0 hf HS1 HG1 XB BB HS2 HG2 XB2 BB2 HI SZ GL GE hq
 generalize qA2.setCell ⟨sA + 13, 12, none⟩ (.slice (some ⟨gI, 0, none⟩) 1 1) = q_ at tS tG tI tX tB ⊢
 have tF : JoinsIn q_ q_.heap.size (.slice (some ⟨gI, 0, none⟩) 1 1) [(2, 1)] := list_row (l := [((2, 1) : Jn)]) tI (by decide) (fun j hj => by
  match j, hj with
  | 0, _ => exact ⟨row_cj _ _ _ 0 _ tI rfl, row_cj _ _ _ 1 _ tI rfl⟩)
 have HA : Hid (PlanV q_ q_.heap.size (.agg #[.int .i64 1, .int .i64 0, .slice (some ⟨sA + 6, 0, none⟩) 6 6, .slice (some ⟨sA + 7, 0, none⟩) 2 2, .slice (some ⟨sA + 8, 0, none⟩) 4 4, .slice (some ⟨sA + 13, 0, none⟩) 3 3]) (stPl' stSigs [] [(2, 1)] [])) := Lib.hid (tS.plan ((st_sigs tG).in_ sigR_cells) ListIn.nil_ tF ListIn.nil_)
 have XA := Lib.hid tX
 have tBB : Hid (Below w.heap.size w q_) := Lib.hid tB
 have tBA : Hid (Below w.heap.size w q_) := tBB
 clear tS tG tI tX tB tF tBB
 have BA := Lib.hid tBA.out
 clear tBA
 obtain ⟨qzA, hqz⟩ : ∃ u, u = q_ := ⟨_, rfl⟩
 subst hqz
 go_wp2_with fail
 refine (st_at _).mono ?_
 rintro e wB ⟨sB, rfl, hst, hsg, hlt, bb⟩
 have HS := Lib.hid hst
 have HG := Lib.hid hsg
 have BN := Lib.hid bb
 have LT := Lib.hid hlt
 clear hst hsg bb hlt
 have hx := heap_alloc_self wB (.cells #[.int .i64 1, .int .i64 0, .slice (some ⟨sB + 6, 0, none⟩) 6 6, .slice (some ⟨sB + 7, 0, none⟩) 2 2, .slice (some ⟨sB + 8, 0, none⟩) 4 4, .slice (some ⟨sB + 13, 0, none⟩) 3 3] 27)
 have hb := below_new wB (.cells #[.int .i64 1, .int .i64 0, .slice (some ⟨sB + 6, 0, none⟩) 6 6, .slice (some ⟨sB + 7, 0, none⟩) 2 2, .slice (some ⟨sB + 8, 0, none⟩) 4 4, .slice (some ⟨sB + 13, 0, none⟩) 3 3] 27)
 obtain ⟨qB, hq⟩ : ∃ q, q = wB.alloc (.cells #[.int .i64 1, .int .i64 0, .slice (some ⟨sB + 6, 0, none⟩) 6 6, .slice (some ⟨sB + 7, 0, none⟩) 2 2, .slice (some ⟨sB + 8, 0, none⟩) 4 4, .slice (some ⟨sB + 13, 0, none⟩) 3 3] 27) := ⟨_, rfl⟩
 rw [← hq] at hx hb
 go_upto_region 4 with fail
 rw [← hq]
 have XB := Lib.hid hx
 have HS1 := Lib.hid (HS.out.below hb)
 have HG1 := Lib.hid ((hb.block _ (heap_lt HG.out)).trans HG.out)
 have BB : Hid (Below qzA.heap.size qzA qB) := Lib.hid (BN.out.trans (hb.mono BN.out.size))
 obtain ⟨pB, hp⟩ : ∃ x, x = wB.heap.size := ⟨_, rfl⟩
 have GL : Hid (sB + 13 < pB) := Lib.hid (by rw [hp]; exact heap_lt HS.out.r13)
 have GE : Hid (qzA.heap.size ≤ sB ∧ qzA.heap.size ≤ pB) := Lib.hid (by have := LT.out; have := BN.out.size; omega)
 rw [← hp] at XB ⊢
 clear HS HG BN LT hx hb hq hp
 obtain ⟨k0, k1, k2, k3, k4, k5⟩ := cell6_of XB.out
 obtain ⟨qB2, hq⟩ : ∃ x, x = qB.alloc (.cells #[.int .i64 2, .int .i64 1] 30) := ⟨_, rfl⟩
 have tI : qB2.heap[qB.heap.size]? = some (.cells #[.int .i64 2, .int .i64 1] 30 (0, 0)) := by rw [hq]; exact heap_alloc_self qB _
 have tB : Below qB.heap.size qB qB2 := by rw [hq]; exact below_new qB _
 have HS2 := Lib.hid (HS1.out.below tB)
 have HG2 := Lib.hid ((tB.block _ (heap_lt HG1.out)).trans HG1.out)
 have XB2 := Lib.hid ((tB.block _ (heap_lt XB.out)).trans XB.out)
 have BB2 := Lib.hid (BB.out.trans (tB.mono BB.out.size))
 obtain ⟨g0, g1, g2, g3, g4, g5⟩ := cell6_of XB2.out
 have r0 : qB2.cell? ⟨sB + 13, 5, none⟩ = some (.slice none 0 0) := row_cj _ _ _ 5 _ HS2.out.r13 rfl
 have hf := frozen2_of HS2.out.r13 5
 have HI := Lib.hid tI
 have SZ : Hid (qB.heap.size ≠ sB + 13) := Lib.hid (by have := heap_lt HS1.out.r13; omega)
 clear tI tB
 rw [hq] at g0 g1 g2 g3 g4 g5 r0 hf
 go_upto_region 5 with fail
 rw [← hq]
 generalize qB.heap.size = gI at HI SZ ⊢
 have tS := HS2.out.flank0 (.slice (some ⟨gI, 0, none⟩) 1 1)
 have tG := (heap_setFar qB2 (sB + 13) 5 _ (.slice (some ⟨gI, 0, none⟩) 1 1) (show sB + 8 ≠ sB + 13 by omega)).trans HG2.out
 have tI := (heap_setFar qB2 (sB + 13) 5 _ (.slice (some ⟨gI, 0, none⟩) 1 1) SZ.out).trans HI.out
 have tX := (heap_setFar qB2 (sB + 13) 5 _ (.slice (some ⟨gI, 0, none⟩) 1 1) (show pB ≠ sB + 13 by have := GL.out; omega)).trans XB2.out
 have tB := below_set BB2.out (show qzA.heap.size ≤ sB + 13 by have := GE.out; omega) 5 (.slice (some ⟨gI, 0, none⟩) 1 1)
 clear k0 k1 k2 k3 k4 k5 g0 g1 g2 g3 g4 g5 r0 hf HS1 HG1 XB BB HS2 HG2 XB2 BB2 HI SZ GL GE hq
 generalize qB2.setCell ⟨sB + 13, 5, none⟩ (.slice (some ⟨gI, 0, none⟩) 1 1) = q_ at tS tG tI tX tB ⊢
 have tF : JoinsIn q_ q_.heap.size (.slice (some ⟨gI, 0, none⟩) 1 1) [(2, 1)] := list_row (l := [((2, 1) : Jn)]) tI (by decide) (fun j hj => by
  match j, hj with
  | 0, _ => exact ⟨row_cj _ _ _ 0 _ tI rfl, row_cj _ _ _ 1 _ tI rfl⟩)
 have HB : Hid (PlanV q_ q_.heap.size (.agg #[.int .i64 1, .int .i64 0, .slice (some ⟨sB + 6, 0, none⟩) 6 6, .slice (some ⟨sB + 7, 0, none⟩) 2 2, .slice (some ⟨sB + 8, 0, none⟩) 4 4, .slice (some ⟨sB + 13, 0, none⟩) 3 3]) (stPl' stSigs [(2, 1)] [] [])) := Lib.hid (tS.plan ((st_sigs tG).in_ sigR_cells) tF ListIn.nil_ ListIn.nil_)
 have XB := Lib.hid tX
 have tBB : Hid (Below qzA.heap.size qzA q_) := Lib.hid tB
 have tHA := Lib.hid ((HA.out.below tB).more tB.size)
 have tXA := Lib.hid ((tB.block _ (heap_lt XA.out)).trans XA.out)
 have tBA : Hid (Below w.heap.size w q_) := Lib.hid (BA.out.trans (tBB.out.mono BA.out.size))
 clear tS tG tI tX tB tF tBB HA XA BA
 have HA := Lib.hid tHA.out
 have XA := Lib.hid tXA.out
 clear tHA tXA
 have BA := Lib.hid tBA.out
 clear tBA
 obtain ⟨qzB, hqz⟩ : ∃ u, u = q_ := ⟨_, rfl⟩
 subst hqz
 go_wp2_with fail
 refine (st_at _).mono ?_
 rintro e wC ⟨sC, rfl, hst, hsg, hlt, bb⟩
 have HS := Lib.hid hst
 have HG := Lib.hid hsg
 have BN := Lib.hid bb
 have LT := Lib.hid hlt
 clear hst hsg bb hlt
 have hx := heap_alloc_self wC (.cells #[.int .i64 1, .int .i64 0, .slice (some ⟨sC + 6, 0, none⟩) 6 6, .slice (some ⟨sC + 7, 0, none⟩) 2 2, .slice (some ⟨sC + 8, 0, none⟩) 4 4, .slice (some ⟨sC + 13, 0, none⟩) 3 3] 27)
 have hb := below_new wC (.cells #[.int .i64 1, .int .i64 0, .slice (some ⟨sC + 6, 0, none⟩) 6 6, .slice (some ⟨sC + 7, 0, none⟩) 2 2, .slice (some ⟨sC + 8, 0, none⟩) 4 4, .slice (some ⟨sC + 13, 0, none⟩) 3 3] 27)
 obtain ⟨qC, hq⟩ : ∃ q, q = wC.alloc (.cells #[.int .i64 1, .int .i64 0, .slice (some ⟨sC + 6, 0, none⟩) 6 6, .slice (some ⟨sC + 7, 0, none⟩) 2 2, .slice (some ⟨sC + 8, 0, none⟩) 4 4, .slice (some ⟨sC + 13, 0, none⟩) 3 3] 27) := ⟨_, rfl⟩
 rw [← hq] at hx hb
 go_upto_region 6 with fail
 rw [← hq]
 have XB := Lib.hid hx
 have HS1 := Lib.hid (HS.out.below hb)
 have HG1 := Lib.hid ((hb.block _ (heap_lt HG.out)).trans HG.out)
 have BB : Hid (Below qzB.heap.size qzB qC) := Lib.hid (BN.out.trans (hb.mono BN.out.size))
 obtain ⟨pC, hp⟩ : ∃ x, x = wC.heap.size := ⟨_, rfl⟩
 have GL : Hid (sC + 13 < pC) := Lib.hid (by rw [hp]; exact heap_lt HS.out.r13)
 have GE : Hid (qzB.heap.size ≤ sC ∧ qzB.heap.size ≤ pC) := Lib.hid (by have := LT.out; have := BN.out.size; omega)
 rw [← hp] at XB ⊢
 clear HS HG BN LT hx hb hq hp
 obtain ⟨k0, k1, k2, k3, k4, k5⟩ := cell6_of XB.out
 obtain ⟨i0, hii, hz0, hzz, hz2⟩ := info_parts infoSigI
 have I0 := Lib.hid hii
 have I1 := Lib.hid hz0
 have I2 := Lib.hid hzz
 have I3 := Lib.hid hz2
 clear hii hz0 hzz hz2
 obtain ⟨qC2, hq⟩ : ∃ x, x = qC.alloc (.cells #[.int .i64 9, .int .i64 2, .int .i64 1] 36) := ⟨_, rfl⟩
 have tI : qC2.heap[qC.heap.size]? = some (.cells #[.int .i64 9, .int .i64 2, .int .i64 1] 36 (0, 0)) := by rw [hq]; exact heap_alloc_self qC _
 have tB : Below qC.heap.size qC qC2 := by rw [hq]; exact below_new qC _
 have HS2 := Lib.hid (HS1.out.below tB)
 have HG2 := Lib.hid ((tB.block _ (heap_lt HG1.out)).trans HG1.out)
 have XB2 := Lib.hid ((tB.block _ (heap_lt XB.out)).trans XB.out)
 have BB2 := Lib.hid (BB.out.trans (tB.mono BB.out.size))
 have HI := Lib.hid tI
 have E2 : Hid (qC.alloc (.cells #[.int .i64 9, .int .i64 2, .int .i64 1] 36) = qC2) := Lib.hid hq.symm
 have SZ : Hid (sC + 13 < qC2.heap.size ∧ pC < qC2.heap.size ∧ qzB.heap.size ≤ qC2.heap.size) := Lib.hid ⟨heap_lt HS2.out.r13, heap_lt XB2.out, BB2.out.size⟩
 clear tI tB hq
 obtain ⟨yss, hown, hyl, hm, hys, hyr⟩ := st_sigs HG2.out
 have O := Lib.hid hown
 have YL := Lib.hid hyl
 have YS := Lib.hid hys
 have YR := Lib.hid hyr
 clear hown hyl hm hys hyr
 go_upto_region 7 with ((with_reducible show wpList _ _ _ (⟨some 24, _, _, _, _, _⟩ :: _) _ _); rw [E2.out]; refine wpList_append_list rfl (.tmp 21) (.tmp 23) _ rfl Try.underlying24 I0.out I1.out rfl I2.out (by decide) I3.out (by decide) rfl O.out rfl (m := 1) (news := [.int .i64 9, .int .i64 2, .int .i64 1]) rfl (fun h => by cases h) (fun a ha j u hj => by cases ha; rw [Addr.add_lit, Nat.zero_add, cell_of_row _ _ _ _ _ _ HI.out]; simpa using hj) (by simp [Value.oneCell']) (by decide) (by have := SZ.out; omega) ?_; intro v4 w4 hown4 hgrow4; have hown5 : w4.ownsRow (sC + 8) 36 3 v4 5 (yss.flatten ++ [.int .i64 9, .int .i64 2, .int .i64 1]) := hown4; obtain ⟨AC, cC, rfl⟩ := own_sliceN hown5; have O4 := Lib.hid hown5; have G4 := Lib.hid hgrow4; clear hown4 hown5 hgrow4; have XB4 := Lib.hid ((G4.out.block _ SZ.out.2.1 (fun e => by have h2 : pC = sC + 8 := Option.some.inj e; have := GL.out; omega)).trans XB2.out); obtain ⟨c0_, c1_, c2_, c3_, c4_, c5_⟩ := cell6_of XB4.out; have hfr := frozen2_of XB4.out 4)
 have tS := (HS2.out.grown G4.out).setFar GL.out 4 (.slice AC 5 cC)
 have tX : (w4.setCell ⟨pC, 4, none⟩ (.slice AC 5 cC)).heap[pC]? = some (.cells #[.int .i64 1, .int .i64 0, .slice (some ⟨sC + 6, 0, none⟩) 6 6, .slice (some ⟨sC + 7, 0, none⟩) 2 2, .slice AC 5 cC, .slice (some ⟨sC + 13, 0, none⟩) 3 3] 27 (0, 0)) := heap_setK XB4.out _
 have tB := below_set (BB2.out.grown G4.out SZ.out.2.2 (fun k hk => by have h2 : sC + 8 = k := Option.some.inj hk; have := GE.out; omega)) GE.out.2 4 (.slice AC 5 cC)
 have tG : SigsOwn w4 (sC + 8) (.slice AC 5 cC) (stSigs ++ [((9, 2, 1) : Sg)]) := ListOwn.snocN (R := SigR) (W := qC2) (w2 := w4) (xs := stSigs) (fun h => h) O.out YL.out YS.out rfl (by decide) YR.out ⟨rfl, rfl, rfl⟩ O4.out
 have tG2 := (own_offT (R := SigR) sigF tG (grownBy_setCell w4 pC 4 (.slice AC 5 cC)) (by decide : 36 ≠ 27) ⟨_, XB4.out⟩).in_ sigR_cells
 clear k0 k1 k2 k3 k4 k5 c0_ c1_ c2_ c3_ c4_ c5_ hfr HS1 HG1 XB BB HS2 HG2 XB2 BB2 HI E2 SZ GL GE O YL YS YR O4 G4 XB4 I0 I1 I2 I3 tG
 generalize w4.setCell ⟨pC, 4, none⟩ (.slice AC 5 cC) = q_ at tS tX tB tG2 ⊢
 have HC : Hid (PlanV q_ q_.heap.size (.agg #[.int .i64 1, .int .i64 0, .slice (some ⟨sC + 6, 0, none⟩) 6 6, .slice (some ⟨sC + 7, 0, none⟩) 2 2, .slice AC 5 cC, .slice (some ⟨sC + 13, 0, none⟩) 3 3]) (stPl' (stSigs ++ [(9, 2, 1)]) [] [] [])) := Lib.hid (tS.plan tG2 ListIn.nil_ ListIn.nil_ ListIn.nil_)
 have XC := Lib.hid tX
 have tBB : Hid (Below qzB.heap.size qzB q_) := Lib.hid tB
 have tHA := Lib.hid ((HA.out.below tB).more tB.size)
 have tXA := Lib.hid ((tB.block _ (heap_lt XA.out)).trans XA.out)
 have tHB := Lib.hid ((HB.out.below tB).more tB.size)
 have tXB := Lib.hid ((tB.block _ (heap_lt XB.out)).trans XB.out)
 have tBA : Hid (Below w.heap.size w q_) := Lib.hid (BA.out.trans (tBB.out.mono BA.out.size))
 clear tS tX tB tG2 tBB HA XA HB XB BA
 have HA := Lib.hid tHA.out
 have XA := Lib.hid tXA.out
 clear tHA tXA
 have HB := Lib.hid tHB.out
 have XB := Lib.hid tXB.out
 clear tHB tXB
 have BA := Lib.hid tBA.out
 clear tBA
 obtain ⟨qzC, hqz⟩ : ∃ u, u = q_ := ⟨_, rfl⟩
 subst hqz
 go_wp2_with fail
 refine (st_at _).mono ?_
 rintro e wD ⟨sD, rfl, hst, hsg, hlt, bb⟩
 have HS := Lib.hid hst
 have HG := Lib.hid hsg
 have BN := Lib.hid bb
 have LT := Lib.hid hlt
 clear hst hsg bb hlt
 have hx := heap_alloc_self wD (.cells #[.int .i64 1, .int .i64 0, .slice (some ⟨sD + 6, 0, none⟩) 6 6, .slice (some ⟨sD + 7, 0, none⟩) 2 2, .slice (some ⟨sD + 8, 0, none⟩) 4 4, .slice (some ⟨sD + 13, 0, none⟩) 3 3] 27)
 have hb := below_new wD (.cells #[.int .i64 1, .int .i64 0, .slice (some ⟨sD + 6, 0, none⟩) 6 6, .slice (some ⟨sD + 7, 0, none⟩) 2 2, .slice (some ⟨sD + 8, 0, none⟩) 4 4, .slice (some ⟨sD + 13, 0, none⟩) 3 3] 27)
 obtain ⟨qD, hq⟩ : ∃ q, q = wD.alloc (.cells #[.int .i64 1, .int .i64 0, .slice (some ⟨sD + 6, 0, none⟩) 6 6, .slice (some ⟨sD + 7, 0, none⟩) 2 2, .slice (some ⟨sD + 8, 0, none⟩) 4 4, .slice (some ⟨sD + 13, 0, none⟩) 3 3] 27) := ⟨_, rfl⟩
 rw [← hq] at hx hb
 go_upto_region 8 with fail
 rw [← hq]
 have XB := Lib.hid hx
 have HS1 := Lib.hid (HS.out.below hb)
 have HG1 := Lib.hid ((hb.block _ (heap_lt HG.out)).trans HG.out)
 have BB : Hid (Below qzC.heap.size qzC qD) := Lib.hid (BN.out.trans (hb.mono BN.out.size))
 obtain ⟨pD, hp⟩ : ∃ x, x = wD.heap.size := ⟨_, rfl⟩
 have GL : Hid (sD + 13 < pD) := Lib.hid (by rw [hp]; exact heap_lt HS.out.r13)
 have GE : Hid (qzC.heap.size ≤ sD ∧ qzC.heap.size ≤ pD) := Lib.hid (by have := LT.out; have := BN.out.size; omega)
 rw [← hp] at XB ⊢
 clear HS HG BN LT hx hb hq hp
 obtain ⟨k0, k1, k2, k3, k4, k5⟩ := cell6_of XB.out
 obtain ⟨i0, hii, hz0, hzz, hz2⟩ := info_parts infoSigI
 have I0 := Lib.hid hii
 have I1 := Lib.hid hz0
 have I2 := Lib.hid hzz
 have I3 := Lib.hid hz2
 clear hii hz0 hzz hz2
 obtain ⟨qD2, hq⟩ : ∃ x, x = qD.alloc (.cells #[.int .i64 9, .int .i64 5, .int .i64 1] 36) := ⟨_, rfl⟩
 have tI : qD2.heap[qD.heap.size]? = some (.cells #[.int .i64 9, .int .i64 5, .int .i64 1] 36 (0, 0)) := by rw [hq]; exact heap_alloc_self qD _
 have tB : Below qD.heap.size qD qD2 := by rw [hq]; exact below_new qD _
 have HS2 := Lib.hid (HS1.out.below tB)
 have HG2 := Lib.hid ((tB.block _ (heap_lt HG1.out)).trans HG1.out)
 have XB2 := Lib.hid ((tB.block _ (heap_lt XB.out)).trans XB.out)
 have BB2 := Lib.hid (BB.out.trans (tB.mono BB.out.size))
 have HI := Lib.hid tI
 have E2 : Hid (qD.alloc (.cells #[.int .i64 9, .int .i64 5, .int .i64 1] 36) = qD2) := Lib.hid hq.symm
 have SZ : Hid (sD + 13 < qD2.heap.size ∧ pD < qD2.heap.size ∧ qzC.heap.size ≤ qD2.heap.size) := Lib.hid ⟨heap_lt HS2.out.r13, heap_lt XB2.out, BB2.out.size⟩
 clear tI tB hq
 obtain ⟨yss, hown, hyl, hm, hys, hyr⟩ := st_sigs HG2.out
 have O := Lib.hid hown
 have YL := Lib.hid hyl
 have YS := Lib.hid hys
 have YR := Lib.hid hyr
 clear hown hyl hm hys hyr
 go_upto_region 9 with ((with_reducible show wpList _ _ _ (⟨some 31, _, _, _, _, _⟩ :: _) _ _); rw [E2.out]; refine wpList_append_list rfl (.tmp 28) (.tmp 30) _ rfl Try.underlying24 I0.out I1.out rfl I2.out (by decide) I3.out (by decide) rfl O.out rfl (m := 1) (news := [.int .i64 9, .int .i64 5, .int .i64 1]) rfl (fun h => by cases h) (fun a ha j u hj => by cases ha; rw [Addr.add_lit, Nat.zero_add, cell_of_row _ _ _ _ _ _ HI.out]; simpa using hj) (by simp [Value.oneCell']) (by decide) (by have := SZ.out; omega) ?_; intro v4 w4 hown4 hgrow4; have hown5 : w4.ownsRow (sD + 8) 36 3 v4 5 (yss.flatten ++ [.int .i64 9, .int .i64 5, .int .i64 1]) := hown4; obtain ⟨AD, cD, rfl⟩ := own_sliceN hown5; have O4 := Lib.hid hown5; have G4 := Lib.hid hgrow4; clear hown4 hown5 hgrow4; have XB4 := Lib.hid ((G4.out.block _ SZ.out.2.1 (fun e => by have h2 : pD = sD + 8 := Option.some.inj e; have := GL.out; omega)).trans XB2.out); obtain ⟨c0_, c1_, c2_, c3_, c4_, c5_⟩ := cell6_of XB4.out; have hfr := frozen2_of XB4.out 4)
 have tS := (HS2.out.grown G4.out).setFar GL.out 4 (.slice AD 5 cD)
 have tX : (w4.setCell ⟨pD, 4, none⟩ (.slice AD 5 cD)).heap[pD]? = some (.cells #[.int .i64 1, .int .i64 0, .slice (some ⟨sD + 6, 0, none⟩) 6 6, .slice (some ⟨sD + 7, 0, none⟩) 2 2, .slice AD 5 cD, .slice (some ⟨sD + 13, 0, none⟩) 3 3] 27 (0, 0)) := heap_setK XB4.out _
 have tB := below_set (BB2.out.grown G4.out SZ.out.2.2 (fun k hk => by have h2 : sD + 8 = k := Option.some.inj hk; have := GE.out; omega)) GE.out.2 4 (.slice AD 5 cD)
 have tG : SigsOwn w4 (sD + 8) (.slice AD 5 cD) (stSigs ++ [((9, 5, 1) : Sg)]) := ListOwn.snocN (R := SigR) (W := qD2) (w2 := w4) (xs := stSigs) (fun h => h) O.out YL.out YS.out rfl (by decide) YR.out ⟨rfl, rfl, rfl⟩ O4.out
 have tG2 := (own_offT (R := SigR) sigF tG (grownBy_setCell w4 pD 4 (.slice AD 5 cD)) (by decide : 36 ≠ 27) ⟨_, XB4.out⟩).in_ sigR_cells
 clear k0 k1 k2 k3 k4 k5 c0_ c1_ c2_ c3_ c4_ c5_ hfr HS1 HG1 XB BB HS2 HG2 XB2 BB2 HI E2 SZ GL GE O YL YS YR O4 G4 XB4 I0 I1 I2 I3 tG
 generalize w4.setCell ⟨pD, 4, none⟩ (.slice AD 5 cD) = q_ at tS tX tB tG2 ⊢
 have HD : Hid (PlanV q_ q_.heap.size (.agg #[.int .i64 1, .int .i64 0, .slice (some ⟨sD + 6, 0, none⟩) 6 6, .slice (some ⟨sD + 7, 0, none⟩) 2 2, .slice AD 5 cD, .slice (some ⟨sD + 13, 0, none⟩) 3 3]) (stPl' (stSigs ++ [(9, 5, 1)]) [] [] [])) := Lib.hid (tS.plan tG2 ListIn.nil_ ListIn.nil_ ListIn.nil_)
 have XD := Lib.hid tX
 have tBB : Hid (Below qzC.heap.size qzC q_) := Lib.hid tB
 have tHA := Lib.hid ((HA.out.below tB).more tB.size)
 have tXA := Lib.hid ((tB.block _ (heap_lt XA.out)).trans XA.out)
 have tHB := Lib.hid ((HB.out.below tB).more tB.size)
 have tXB := Lib.hid ((tB.block _ (heap_lt XB.out)).trans XB.out)
 have tHC := Lib.hid ((HC.out.below tB).more tB.size)
 have tXC := Lib.hid ((tB.block _ (heap_lt XC.out)).trans XC.out)
 have tBA : Hid (Below w.heap.size w q_) := Lib.hid (BA.out.trans (tBB.out.mono BA.out.size))
 clear tS tX tB tG2 tBB HA XA HB XB HC XC BA
 have HA := Lib.hid tHA.out
 have XA := Lib.hid tXA.out
 clear tHA tXA
 have HB := Lib.hid tHB.out
 have XB := Lib.hid tXB.out
 clear tHB tXB
 have HC := Lib.hid tHC.out
 have XC := Lib.hid tXC.out
 clear tHC tXC
 have BA := Lib.hid tBA.out
 clear tBA
 obtain ⟨qzD, hqz⟩ : ∃ u, u = q_ := ⟨_, rfl⟩
 subst hqz
 go_wp2_with fail
 refine (alive10 hs _).mono ?_
 rintro e wE ⟨rfl, bE⟩
 have S0 : Hid (Below qzD.heap.size qzD wE) := Lib.hid bE
 clear bE
 obtain ⟨k0, k1, k2, k3, k4, k5⟩ := cell6_of ((S0.out.block _ (heap_lt XA.out)).trans XA.out)
 go_wp2_with fail
 refine (hs.check _ (stPl' stSigs [] [(2, 1)] []) _ ((HA.out.below S0.out).more S0.out.size)).mono ?_
 rintro e wF0 ⟨rfl, bF⟩
 rw [sndE_zero.2 sound_sta]
 have S1 : Hid (Below qzD.heap.size qzD wF0) := Lib.hid (S0.out.trans (bF.mono S0.out.size))
 clear bF k0 k1 k2 k3 k4 k5
 obtain ⟨k0, k1, k2, k3, k4, k5⟩ := cell6_of ((S1.out.block _ (heap_lt XB.out)).trans XB.out)
 go_wp2_with fail
 refine (hs.check _ (stPl' stSigs [(2, 1)] [] []) _ ((HB.out.below S1.out).more S1.out.size)).mono ?_
 rintro e wF1 ⟨rfl, bF⟩
 rw [snd_not sound_stb]
 have S2 : Hid (Below qzD.heap.size qzD wF1) := Lib.hid (S1.out.trans (bF.mono S1.out.size))
 clear bF k0 k1 k2 k3 k4 k5
 obtain ⟨k0, k1, k2, k3, k4, k5⟩ := cell6_of ((S2.out.block _ (heap_lt XC.out)).trans XC.out)
 go_wp2_with fail
 refine (hs.check _ (stPl' (stSigs ++ [(9, 2, 1)]) [] [] []) _ ((HC.out.below S2.out).more S2.out.size)).mono ?_
 rintro e wF2 ⟨rfl, bF⟩
 rw [snd_not sound_stc]
 have S3 : Hid (Below qzD.heap.size qzD wF2) := Lib.hid (S2.out.trans (bF.mono S2.out.size))
 clear bF k0 k1 k2 k3 k4 k5
 obtain ⟨k0, k1, k2, k3, k4, k5⟩ := cell6_of ((S3.out.block _ (heap_lt XD.out)).trans XD.out)
 go_wp2_with fail
 refine (hs.check _ (stPl' (stSigs ++ [(9, 5, 1)]) [] [] []) _ ((HD.out.below S3.out).more S3.out.size)).mono ?_
 rintro e wF3 ⟨rfl, bF⟩
 rw [sndE_zero.2 sound_std]
 have S4 : Hid (Below qzD.heap.size qzD wF3) := Lib.hid (S3.out.trans (bF.mono S3.out.size))
 clear bF k0 k1 k2 k3 k4 k5
 have BL := Lib.hid (BA.out.trans (S4.out.mono BA.out.size))
 go_wp2_with fail
 go_ret
 exact ⟨rfl, BL.out⟩
end Go.Proofs.Ytccbdpeicemnjaa
