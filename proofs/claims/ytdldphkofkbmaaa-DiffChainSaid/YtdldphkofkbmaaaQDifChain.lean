/-
 From one plan to another and on to a third: the walk, given the program's answers.
 Conditions: none.
-/
import Derived.Test.YtdldphkofkbmaaaQGDifOne
import Derived.Test.YtdldphkofkbmaaaQGDifRef
set_option linter.unusedVariables false
set_option linter.unusedSimpArgs false
set_option maxRecDepth 100000
namespace Go.Proofs.Ytdldphkofkbmaaa
open Go.RowKit

theorem chk8_zero {p : Pl} : chk8 p = 0 ↔ PlanMay p := by
 rw [chk8]
 by_cases h : PlanMay p
 ·rw [planMay_true h]; exact ⟨fun _ => h, fun _ => rfl⟩
 ·rw [planMay_false h]; exact ⟨fun e => (by cases e), fun e => absurd e h⟩
theorem oneE_zero {a b : Pl} {k i : Int} : oneE13 a b k i = 0 ↔ PlanMay a ∧ PlanMay b ∧ (1 ≤ k ∧ k ≤ 4) ∧ isD a b k i ≠ 4 := by
 rw [oneE13]
 rcases both_cases a b with ⟨h1, h2, h⟩ | ⟨h1, h⟩
 ·rw [h, if_pos rfl]
  by_cases hk : k < 1 ∨ 4 < k
  ·rw [if_pos hk]
   exact ⟨fun e => (by cases e), fun e => (by omega)⟩
  ·rw [if_neg hk]
   by_cases hd : isD a b k i = 4
   ·rw [if_pos hd]
    exact ⟨fun e => (by cases e), fun e => absurd hd e.2.2.2⟩
   ·rw [if_neg hd]
    exact ⟨fun _ => ⟨h1, h2, by omega, hd⟩, fun _ => rfl⟩
 ·rw [h, if_neg (by decide)]
  exact ⟨fun e => (by cases e), fun e => absurd ⟨e.1, e.2.1⟩ h1⟩
theorem chain_one {a b c : Pl} {k i : Int} (h1 : oneE13 a b k i = 0) (h2 : oneV13 a b k i = 0) (h3 : oneE13 b c k i = 0) (h4 : oneV13 b c k i = 0) : oneE13 a c k i = 0 ∧ oneV13 a c k i = 0 := by
 rw [oneV13, if_pos h1] at h2
 rw [oneV13, if_pos h3] at h4
 obtain ⟨g1, g2, g3, g4⟩ := oneE_zero.1 h1
 obtain ⟨g5, g6, -, -⟩ := oneE_zero.1 h3
 have h5 := isD_chain h2 h4
 have h6 : oneE13 a c k i = 0 := oneE_zero.2 ⟨g1, g6, g3, by rw [h5]; decide⟩
 exact ⟨h6, by rw [oneV13, if_pos h6, h5]⟩
theorem chain_two {a b c : Pl} {k i : Int} (h1 : oneE13 a c k i = 0) (h2 : oneV13 a c k i ≠ 0) (h3 : chk8 b = 0) : (oneE13 a b k i = 0 ∧ oneV13 a b k i ≠ 0) ∨ (oneE13 b c k i = 0 ∧ oneV13 b c k i ≠ 0) := by
 rw [oneV13, if_pos h1] at h2
 obtain ⟨g1, g2, g3, g4⟩ := oneE_zero.1 h1
 have gb := chk8_zero.1 h3
 have key : ∀ {p q : Pl}, PlanMay p → PlanMay q → isD p q k i ≠ 4 → isD p q k i ≠ 0 → oneE13 p q k i = 0 ∧ oneV13 p q k i ≠ 0 := fun hp hq h4 h0 => by
  have e := oneE_zero.2 ⟨hp, hq, g3, h4⟩
  exact ⟨e, by rw [oneV13, if_pos e]; exact h0⟩
 by_cases x4 : isD a b k i = 4
 ·obtain ⟨p1, p2⟩ := isD_four.1 x4
  refine .inr (key gb g2 (fun e => ?_) (fun e => ?_))
  ·exact g4 (isD_four.2 ⟨p1, (isD_four.1 e).2⟩)
  ·exact (isD_zero.1 e).2 p2
 by_cases x0 : isD a b k i = 0
 ·obtain ⟨p1, p2⟩ := isD_zero.1 x0
  refine .inr (key gb g2 (fun e => ?_) (fun e => ?_))
  ·have p3 := (elD_none b k i).2 (isD_four.1 e).1
   rw [← p1] at p3
   exact p2 ((elD_none a k i).1 p3)
  ·exact h2 (isD_chain x0 e)
 ·exact .inl (key g1 gb x4 x0)
set_option maxHeartbeats 16000000 in
theorem walk_diff_chain (hc : DifSaid) (hp : PlanSaid) (v y x : Value) (a b c : Pl) (kind id : Int) (w : World) (h : PlanV w w.heap.size v a) (h' : PlanV w w.heap.size y b) (h'' : PlanV w w.heap.size x c) (hk0 : 0 ≤ kind) (hk1 : kind < 256) :
  Calls Try.prog 6 #[v, y, x, .int .u8 kind, .int .i64 id] w fun e w' => e = .returned (.bool true) ∧ Below w.heap.size w w' := by
 have KK := Lib.hid (And.intro hk0 hk1)
 have CH : Hid ((oneE13 a b kind id = 0 → oneV13 a b kind id = 0 → oneE13 b c kind id = 0 → oneV13 b c kind id = 0 → oneE13 a c kind id = 0 ∧ oneV13 a c kind id = 0) ∧ (oneE13 a c kind id = 0 → oneV13 a c kind id ≠ 0 → chk8 b = 0 → (oneE13 a b kind id = 0 ∧ oneV13 a b kind id ≠ 0) ∨ (oneE13 b c kind id = 0 ∧ oneV13 b c kind id ≠ 0))) := Lib.hid ⟨chain_one, chain_two⟩
 clear hk0 hk1
 obtain ⟨u2, u3, u4, u5, rfl, hin⟩ := h
 obtain ⟨z2, z3, z4, z5, rfl, hin'⟩ := h'
 obtain ⟨t2, t3, t4, t5, rfl, hin''⟩ := h''
 obtain ⟨q, hq, h0, h1, h2, -, hqb⟩ := boxes3 w (.cells #[.int .i64 a.ver, .int .i64 a.par, u2, u3, u4, u5] 30) (.cells #[.int .i64 b.ver, .int .i64 b.par, z2, z3, z4, z5] 30) (.cells #[.int .i64 c.ver, .int .i64 c.par, t2, t3, t4, t5] 30)
 go_enter Try.func6, Try.ntmps6
 go_upto_region 1 with fail
 rw [← hq]
 clear hq
 have X0 := Lib.hid h0
 have X1 := Lib.hid h1
 have X2 := Lib.hid h2
 have BQ := Lib.hid hqb
 have VA : Hid (PlanV q q.heap.size (.agg #[.int .i64 a.ver, .int .i64 a.par, u2, u3, u4, u5]) a) := Lib.hid ⟨_, _, _, _, rfl, (hin.below hqb).more hqb.size⟩
 have VB : Hid (PlanV q q.heap.size (.agg #[.int .i64 b.ver, .int .i64 b.par, z2, z3, z4, z5]) b) := Lib.hid ⟨_, _, _, _, rfl, (hin'.below hqb).more hqb.size⟩
 have VC : Hid (PlanV q q.heap.size (.agg #[.int .i64 c.ver, .int .i64 c.par, t2, t3, t4, t5]) c) := Lib.hid ⟨_, _, _, _, rfl, (hin''.below hqb).more hqb.size⟩
 clear h0 h1 h2 hqb hin hin' hin''
 go_wp2_with fail
 refine (alive13 hc _).mono ?_
 rintro e wa ⟨rfl, bN⟩
 replace X0 := Lib.hid ((bN.block _ (heap_lt X0.out)).trans X0.out)
 replace X1 := Lib.hid ((bN.block _ (heap_lt X1.out)).trans X1.out)
 replace X2 := Lib.hid ((bN.block _ (heap_lt X2.out)).trans X2.out)
 replace BQ := Lib.hid (BQ.out.trans (bN.mono BQ.out.size))
 replace VA := Lib.hid ((VA.out.below bN).more bN.size)
 replace VB := Lib.hid ((VB.out.below bN).more bN.size)
 replace VC := Lib.hid ((VC.out.below bN).more bN.size)
 clear bN
 obtain ⟨k0, k1, k2, k3, k4, k5⟩ := cell6_of X0.out
 go_wp2_with fail
 refine (rgreat8_any _ a wa VA.out).mono ?_
 rintro e w1 ⟨⟨g, rfl, hg⟩, bN⟩
 clear k0 k1 k2 k3 k4 k5
 replace X0 := Lib.hid ((bN.block _ (heap_lt X0.out)).trans X0.out)
 replace X1 := Lib.hid ((bN.block _ (heap_lt X1.out)).trans X1.out)
 replace X2 := Lib.hid ((bN.block _ (heap_lt X2.out)).trans X2.out)
 replace BQ := Lib.hid (BQ.out.trans (bN.mono BQ.out.size))
 replace VA := Lib.hid ((VA.out.below bN).more bN.size)
 replace VB := Lib.hid ((VB.out.below bN).more bN.size)
 replace VC := Lib.hid ((VC.out.below bN).more bN.size)
 clear bN
 clear hg
 cases g with
 | true =>
  go_wp2_with fail
  go_ret
  exact ⟨rfl, BQ.out⟩
 | false =>
 obtain ⟨k0, k1, k2, k3, k4, k5⟩ := cell6_of X1.out
 go_wp2_with fail
 refine (rgreat8_any _ b w1 VB.out).mono ?_
 rintro e w2 ⟨⟨g, rfl, hg⟩, bN⟩
 clear k0 k1 k2 k3 k4 k5
 replace X0 := Lib.hid ((bN.block _ (heap_lt X0.out)).trans X0.out)
 replace X1 := Lib.hid ((bN.block _ (heap_lt X1.out)).trans X1.out)
 replace X2 := Lib.hid ((bN.block _ (heap_lt X2.out)).trans X2.out)
 replace BQ := Lib.hid (BQ.out.trans (bN.mono BQ.out.size))
 replace VA := Lib.hid ((VA.out.below bN).more bN.size)
 replace VB := Lib.hid ((VB.out.below bN).more bN.size)
 replace VC := Lib.hid ((VC.out.below bN).more bN.size)
 clear bN
 clear hg
 cases g with
 | true =>
  go_wp2_with fail
  go_ret
  exact ⟨rfl, BQ.out⟩
 | false =>
 obtain ⟨k0, k1, k2, k3, k4, k5⟩ := cell6_of X2.out
 go_wp2_with fail
 refine (rgreat8_any _ c w2 VC.out).mono ?_
 rintro e w3 ⟨⟨g, rfl, hg⟩, bN⟩
 clear k0 k1 k2 k3 k4 k5
 replace X0 := Lib.hid ((bN.block _ (heap_lt X0.out)).trans X0.out)
 replace X1 := Lib.hid ((bN.block _ (heap_lt X1.out)).trans X1.out)
 replace X2 := Lib.hid ((bN.block _ (heap_lt X2.out)).trans X2.out)
 replace BQ := Lib.hid (BQ.out.trans (bN.mono BQ.out.size))
 replace VA := Lib.hid ((VA.out.below bN).more bN.size)
 replace VB := Lib.hid ((VB.out.below bN).more bN.size)
 replace VC := Lib.hid ((VC.out.below bN).more bN.size)
 clear bN
 clear hg
 cases g with
 | true =>
  go_wp2_with fail
  go_ret
  exact ⟨rfl, BQ.out⟩
 | false =>
 obtain ⟨k0, k1, k2, k3, k4, k5⟩ := cell6_of X0.out
 obtain ⟨m0, m1, m2, m3, m4, m5⟩ := cell6_of X1.out
 go_wp2_with fail
 refine (hc.one _ _ a b kind id _ VA.out VB.out KK.out.1 KK.out.2).mono ?_
 rintro e w4 ⟨rfl, bN⟩
 clear k0 k1 k2 k3 k4 k5 m0 m1 m2 m3 m4 m5
 replace X0 := Lib.hid ((bN.block _ (heap_lt X0.out)).trans X0.out)
 replace X1 := Lib.hid ((bN.block _ (heap_lt X1.out)).trans X1.out)
 replace X2 := Lib.hid ((bN.block _ (heap_lt X2.out)).trans X2.out)
 replace BQ := Lib.hid (BQ.out.trans (bN.mono BQ.out.size))
 replace VA := Lib.hid ((VA.out.below bN).more bN.size)
 replace VB := Lib.hid ((VB.out.below bN).more bN.size)
 replace VC := Lib.hid ((VC.out.below bN).more bN.size)
 clear bN
 generalize hX : oneV13 a b kind id = X at CH ⊢
 generalize hE : oneE13 a b kind id = E at CH ⊢
 clear hX hE
 obtain ⟨k0, k1, k2, k3, k4, k5⟩ := cell6_of X1.out
 obtain ⟨m0, m1, m2, m3, m4, m5⟩ := cell6_of X2.out
 go_wp2_with fail
 refine (hc.one _ _ b c kind id _ VB.out VC.out KK.out.1 KK.out.2).mono ?_
 rintro e w5 ⟨rfl, bN⟩
 clear k0 k1 k2 k3 k4 k5 m0 m1 m2 m3 m4 m5
 replace X0 := Lib.hid ((bN.block _ (heap_lt X0.out)).trans X0.out)
 replace X1 := Lib.hid ((bN.block _ (heap_lt X1.out)).trans X1.out)
 replace X2 := Lib.hid ((bN.block _ (heap_lt X2.out)).trans X2.out)
 replace BQ := Lib.hid (BQ.out.trans (bN.mono BQ.out.size))
 replace VA := Lib.hid ((VA.out.below bN).more bN.size)
 replace VB := Lib.hid ((VB.out.below bN).more bN.size)
 replace VC := Lib.hid ((VC.out.below bN).more bN.size)
 clear bN
 generalize hY : oneV13 b c kind id = Y at CH ⊢
 generalize hF : oneE13 b c kind id = F at CH ⊢
 clear hY hF
 obtain ⟨k0, k1, k2, k3, k4, k5⟩ := cell6_of X0.out
 obtain ⟨m0, m1, m2, m3, m4, m5⟩ := cell6_of X2.out
 go_wp2_with fail
 refine (hc.one _ _ a c kind id _ VA.out VC.out KK.out.1 KK.out.2).mono ?_
 rintro e w6 ⟨rfl, bN⟩
 clear k0 k1 k2 k3 k4 k5 m0 m1 m2 m3 m4 m5
 replace X0 := Lib.hid ((bN.block _ (heap_lt X0.out)).trans X0.out)
 replace X1 := Lib.hid ((bN.block _ (heap_lt X1.out)).trans X1.out)
 replace X2 := Lib.hid ((bN.block _ (heap_lt X2.out)).trans X2.out)
 replace BQ := Lib.hid (BQ.out.trans (bN.mono BQ.out.size))
 replace VA := Lib.hid ((VA.out.below bN).more bN.size)
 replace VB := Lib.hid ((VB.out.below bN).more bN.size)
 replace VC := Lib.hid ((VC.out.below bN).more bN.size)
 clear bN
 generalize hZ : oneV13 a c kind id = Z at CH ⊢
 generalize hG : oneE13 a c kind id = G at CH ⊢
 clear hZ hG
 by_cases hE : E = 0
 ·subst hE
  by_cases hF : F = 0
  ·subst hF
   by_cases hX : X = 0
   ·subst hX
    by_cases hY : Y = 0
    ·subst hY
     obtain ⟨rfl, rfl⟩ := CH.out.1 rfl rfl rfl rfl
     go_wp2_with fail
     go_ret
     exact ⟨rfl, BQ.out⟩
    ·have nY : (Y != 0) = true := by simpa using hY
     have eY : (Y == 0) = false := by simpa using hY
     by_cases hG : G = 0
     ·subst hG
      by_cases hZ : Z = 0
      ·subst hZ
       go_wp2_with fail
       go_ret
       exact ⟨rfl, BQ.out⟩
      ·have nZ : (Z != 0) = true := by simpa using hZ
       have eZ : (Z == 0) = false := by simpa using hZ
       by_cases hC : chk8 b = 0
       ·obtain ⟨k0, k1, k2, k3, k4, k5⟩ := cell6_of X1.out
        go_wp2_with fail
        refine (hp.check _ b _ VB.out).mono ?_
        rintro e wc ⟨rfl, bN⟩
        have BF := Lib.hid (BQ.out.trans (bN.mono BQ.out.size))
        have CZ : Hid (chk8 b = 0) := Lib.hid hC
        generalize chk8 b = C at CZ ⊢
        obtain rfl : C = 0 := CZ.out
        clear k0 k1 k2 k3 k4 k5 bN
        go_wp2_with fail
        go_ret
        exact ⟨rfl, BF.out⟩
       ·obtain ⟨k0, k1, k2, k3, k4, k5⟩ := cell6_of X1.out
        go_wp2_with fail
        refine (hp.check _ b _ VB.out).mono ?_
        rintro e wc ⟨rfl, bN⟩
        have BF := Lib.hid (BQ.out.trans (bN.mono BQ.out.size))
        have CZ : Hid (¬ chk8 b = 0) := Lib.hid hC
        generalize chk8 b = C at CZ ⊢
        have nC : (C != 0) = true := by simpa using CZ.out
        clear k0 k1 k2 k3 k4 k5 bN
        go_wp2_with fail
        go_ret
        exact ⟨rfl, BF.out⟩
     ·have nG : (G != 0) = true := by simpa using hG
      have eG : (G == 0) = false := by simpa using hG
      go_wp2_with fail
      go_ret
      exact ⟨rfl, BQ.out⟩
   ·have nX : (X != 0) = true := by simpa using hX
    have eX : (X == 0) = false := by simpa using hX
    by_cases hG : G = 0
    ·subst hG
     by_cases hZ : Z = 0
     ·subst hZ
      go_wp2_with fail
      go_ret
      exact ⟨rfl, BQ.out⟩
     ·have nZ : (Z != 0) = true := by simpa using hZ
      have eZ : (Z == 0) = false := by simpa using hZ
      by_cases hC : chk8 b = 0
      ·obtain ⟨k0, k1, k2, k3, k4, k5⟩ := cell6_of X1.out
       go_wp2_with fail
       refine (hp.check _ b _ VB.out).mono ?_
       rintro e wc ⟨rfl, bN⟩
       have BF := Lib.hid (BQ.out.trans (bN.mono BQ.out.size))
       have CZ : Hid (chk8 b = 0) := Lib.hid hC
       generalize chk8 b = C at CZ ⊢
       obtain rfl : C = 0 := CZ.out
       clear k0 k1 k2 k3 k4 k5 bN
       go_wp2_with fail
       go_ret
       exact ⟨rfl, BF.out⟩
      ·obtain ⟨k0, k1, k2, k3, k4, k5⟩ := cell6_of X1.out
       go_wp2_with fail
       refine (hp.check _ b _ VB.out).mono ?_
       rintro e wc ⟨rfl, bN⟩
       have BF := Lib.hid (BQ.out.trans (bN.mono BQ.out.size))
       have CZ : Hid (¬ chk8 b = 0) := Lib.hid hC
       generalize chk8 b = C at CZ ⊢
       have nC : (C != 0) = true := by simpa using CZ.out
       clear k0 k1 k2 k3 k4 k5 bN
       go_wp2_with fail
       go_ret
       exact ⟨rfl, BF.out⟩
    ·have nG : (G != 0) = true := by simpa using hG
     have eG : (G == 0) = false := by simpa using hG
     go_wp2_with fail
     go_ret
     exact ⟨rfl, BQ.out⟩
  ·have nF : (F != 0) = true := by simpa using hF
   have eF : (F == 0) = false := by simpa using hF
   by_cases hG : G = 0
   ·subst hG
    by_cases hZ : Z = 0
    ·subst hZ
     go_wp2_with fail
     go_ret
     exact ⟨rfl, BQ.out⟩
    ·have nZ : (Z != 0) = true := by simpa using hZ
     have eZ : (Z == 0) = false := by simpa using hZ
     by_cases hC : chk8 b = 0
     ·have hT : X ≠ 0 := by
       rcases CH.out.2 rfl hZ hC with h | h
       ·exact h.2
       ·exact absurd h.1 hF
      have nX : (X != 0) = true := by simpa using hT
      obtain ⟨k0, k1, k2, k3, k4, k5⟩ := cell6_of X1.out
      go_wp2_with fail
      refine (hp.check _ b _ VB.out).mono ?_
      rintro e wc ⟨rfl, bN⟩
      have BF := Lib.hid (BQ.out.trans (bN.mono BQ.out.size))
      have CZ : Hid (chk8 b = 0) := Lib.hid hC
      generalize chk8 b = C at CZ ⊢
      obtain rfl : C = 0 := CZ.out
      clear k0 k1 k2 k3 k4 k5 bN
      go_wp2_with fail
      go_ret
      exact ⟨rfl, BF.out⟩
     ·obtain ⟨k0, k1, k2, k3, k4, k5⟩ := cell6_of X1.out
      go_wp2_with fail
      refine (hp.check _ b _ VB.out).mono ?_
      rintro e wc ⟨rfl, bN⟩
      have BF := Lib.hid (BQ.out.trans (bN.mono BQ.out.size))
      have CZ : Hid (¬ chk8 b = 0) := Lib.hid hC
      generalize chk8 b = C at CZ ⊢
      have nC : (C != 0) = true := by simpa using CZ.out
      clear k0 k1 k2 k3 k4 k5 bN
      go_wp2_with fail
      go_ret
      exact ⟨rfl, BF.out⟩
   ·have nG : (G != 0) = true := by simpa using hG
    have eG : (G == 0) = false := by simpa using hG
    go_wp2_with fail
    go_ret
    exact ⟨rfl, BQ.out⟩
 ·have nE : (E != 0) = true := by simpa using hE
  have eE : (E == 0) = false := by simpa using hE
  by_cases hG : G = 0
  ·subst hG
   by_cases hZ : Z = 0
   ·subst hZ
    go_wp2_with fail
    go_ret
    exact ⟨rfl, BQ.out⟩
   ·have nZ : (Z != 0) = true := by simpa using hZ
    have eZ : (Z == 0) = false := by simpa using hZ
    by_cases hC : chk8 b = 0
    ·have hT : F = 0 ∧ Y ≠ 0 := by
      rcases CH.out.2 rfl hZ hC with h | h
      ·exact absurd h.1 hE
      ·exact h
     obtain ⟨rfl, hY⟩ := hT
     have nY : (Y != 0) = true := by simpa using hY
     obtain ⟨k0, k1, k2, k3, k4, k5⟩ := cell6_of X1.out
     go_wp2_with fail
     refine (hp.check _ b _ VB.out).mono ?_
     rintro e wc ⟨rfl, bN⟩
     have BF := Lib.hid (BQ.out.trans (bN.mono BQ.out.size))
     have CZ : Hid (chk8 b = 0) := Lib.hid hC
     generalize chk8 b = C at CZ ⊢
     obtain rfl : C = 0 := CZ.out
     clear k0 k1 k2 k3 k4 k5 bN
     go_wp2_with fail
     go_ret
     exact ⟨rfl, BF.out⟩
    ·obtain ⟨k0, k1, k2, k3, k4, k5⟩ := cell6_of X1.out
     go_wp2_with fail
     refine (hp.check _ b _ VB.out).mono ?_
     rintro e wc ⟨rfl, bN⟩
     have BF := Lib.hid (BQ.out.trans (bN.mono BQ.out.size))
     have CZ : Hid (¬ chk8 b = 0) := Lib.hid hC
     generalize chk8 b = C at CZ ⊢
     have nC : (C != 0) = true := by simpa using CZ.out
     clear k0 k1 k2 k3 k4 k5 bN
     go_wp2_with fail
     go_ret
     exact ⟨rfl, BF.out⟩
  ·have nG : (G != 0) = true := by simpa using hG
   have eG : (G == 0) = false := by simpa using hG
   go_wp2_with fail
   go_ret
   exact ⟨rfl, BQ.out⟩
end Go.Proofs.Ytdldphkofkbmaaa
