/-
 The program's package conflict: whether what two routes come to has something in common.
 Conditions: none.
-/
import Derived.Test.YtebffdfimmbbdaaGreatQCnfPA
import Derived.Test.YtebffdfimmbbdaaGreatQWayPK
set_option linter.unusedVariables false
set_option linter.unusedSimpArgs false
set_option maxRecDepth 100000
namespace Go.Proofs.YtebffdfimmbbdaaGreat
open Go.RowKit

set_option maxHeartbeats 16000000 in
theorem clash_any (v y : Value) (x z : Wy) (w : World) (h : WayV w w.heap.size v x) (h' : WayV w w.heap.size y z) (hl : (1 ≤ x.path.length + x.over.length ∧ x.path.length + x.over.length ≤ 1000) ∧ 1 ≤ z.path.length + z.over.length ∧ z.path.length + z.over.length ≤ 1000) :
  Calls Tryz.prog 16 #[v, y] w fun e w' => e = .returned (.bool (confW x z)) ∧ Below w.heap.size w w' := by
 have NLE := Lib.hid hl
 clear hl
 obtain ⟨u0, u1, u2, rfl, hin⟩ := h
 obtain ⟨P0, pd0, rfl⟩ : ∃ A c, u0 = .slice A x.path.length c := by
  obtain ⟨A, c, e, -⟩ := hin.path.slice
  exact ⟨A, c, e⟩
 obtain ⟨P1, pd1, rfl⟩ : ∃ A c, u1 = .slice A x.over.length c := by
  obtain ⟨A, c, e, -⟩ := hin.over.slice
  exact ⟨A, c, e⟩
 obtain ⟨P2, pd2, rfl⟩ : ∃ A c, u2 = .slice A x.asks.length c := by
  obtain ⟨A, c, e, -⟩ := hin.asks.slice
  exact ⟨A, c, e⟩
 obtain ⟨pn0, hn0⟩ : ∃ n, n = x.path.length := ⟨_, rfl⟩
 obtain ⟨pn1, hn1⟩ : ∃ n, n = x.over.length := ⟨_, rfl⟩
 obtain ⟨pn2, hn2⟩ : ∃ n, n = x.asks.length := ⟨_, rfl⟩
 have IP : Hid (WyIn w w.heap.size (.slice P0 pn0 pd0) (.slice P1 pn1 pd1) (.slice P2 pn2 pd2) x) := Lib.hid (by rw [hn0, hn1, hn2]; exact hin)
 have NP : Hid (pn0 = x.path.length ∧ pn1 = x.over.length ∧ pn2 = x.asks.length ∧ pn2 ≤ 9223372036854775807) := Lib.hid ⟨hn0, hn1, hn2, by
  obtain ⟨_, _, _, _, h1⟩ := hin.asks.slice
  unfold maxLen at h1
  omega⟩
 rw [← hn0, ← hn1, ← hn2]
 clear hin hn0 hn1 hn2
 obtain ⟨u0, u1, u2, rfl, hin⟩ := h'
 obtain ⟨Q0, qd0, rfl⟩ : ∃ A c, u0 = .slice A z.path.length c := by
  obtain ⟨A, c, e, -⟩ := hin.path.slice
  exact ⟨A, c, e⟩
 obtain ⟨Q1, qd1, rfl⟩ : ∃ A c, u1 = .slice A z.over.length c := by
  obtain ⟨A, c, e, -⟩ := hin.over.slice
  exact ⟨A, c, e⟩
 obtain ⟨Q2, qd2, rfl⟩ : ∃ A c, u2 = .slice A z.asks.length c := by
  obtain ⟨A, c, e, -⟩ := hin.asks.slice
  exact ⟨A, c, e⟩
 obtain ⟨qn0, hn0⟩ : ∃ n, n = z.path.length := ⟨_, rfl⟩
 obtain ⟨qn1, hn1⟩ : ∃ n, n = z.over.length := ⟨_, rfl⟩
 obtain ⟨qn2, hn2⟩ : ∃ n, n = z.asks.length := ⟨_, rfl⟩
 have IQ : Hid (WyIn w w.heap.size (.slice Q0 qn0 qd0) (.slice Q1 qn1 qd1) (.slice Q2 qn2 qd2) z) := Lib.hid (by rw [hn0, hn1, hn2]; exact hin)
 have NQ : Hid (qn0 = z.path.length ∧ qn1 = z.over.length ∧ qn2 = z.asks.length ∧ qn2 ≤ 9223372036854775807) := Lib.hid ⟨hn0, hn1, hn2, by
  obtain ⟨_, _, _, _, h1⟩ := hin.asks.slice
  unfold maxLen at h1
  omega⟩
 rw [← hn0, ← hn1, ← hn2]
 clear hin hn0 hn1 hn2
 have hq := two_boxes w (.cells #[.slice P0 pn0 pd0, .slice P1 pn1 pd1, .slice P2 pn2 pd2, .int .i64 x.near] 56) (.cells #[.slice Q0 qn0 qd0, .slice Q1 qn1 qd1, .slice Q2 qn2 qd2, .int .i64 z.near] 56)
 go_enter Tryz.func16, Tryz.ntmps16
 go_upto_region 3 with fail
 obtain ⟨hx, hz, hqb⟩ := hq
 generalize (w.alloc (.cells #[.slice P0 pn0 pd0, .slice P1 pn1 pd1, .slice P2 pn2 pd2, .int .i64 x.near] 56)).alloc (.cells #[.slice Q0 qn0 qd0, .slice Q1 qn1 qd1, .slice Q2 qn2 qd2, .int .i64 z.near] 56) = q at hx hz hqb ⊢
 have IP' := Lib.hid ((IP.out.below hqb).more hqb.size)
 have IQ' := Lib.hid ((IQ.out.below hqb).more hqb.size)
 clear IP IQ
 have IP := IP'
 have IQ := IQ'
 clear IP' IQ'
 have X := Lib.hid hx
 have Z := Lib.hid hz
 have BQ := Lib.hid hqb
 clear hx hz hqb
 have G : Hid (commonL sameJ (x.path ++ x.over) (z.path ++ z.over) = true ∨ commonL sameJ (x.path ++ x.over) (z.path ++ z.over) = false) := Lib.hid (by cases commonL sameJ (x.path ++ x.over) (z.path ++ z.over) <;> simp)
 refine wp_region_held_drew (S := fun v => Below q.heap.size q v) (by kernel_rfl) (Below.refl q.heap.size q).drew (fun hHeld => ?_)
 refine tk 0 hHeld ?_;refine tkc 1 hHeld (fun w' hSw => cell4_of ((hSw.block _ (heap_lt X.out)).trans X.out)) ?_;refine tk 2 hHeld ?_;refine tkc 3 hHeld (fun w' hSw => cell4_of ((hSw.block _ (heap_lt X.out)).trans X.out)) ?_;refine tk 6 hHeld ?_;refine tkc 7 hHeld (fun w' hSw => cell4_of ((hSw.block _ (heap_lt Z.out)).trans Z.out)) ?_;refine tk 8 hHeld ?_;refine tkc 9 hHeld (fun w' hSw => cell4_of ((hSw.block _ (heap_lt Z.out)).trans Z.out)) ?_;refine tk 12 hHeld ?_
 have tb := (Below.refl q.heap.size q).drew
 generalize q.drew = q0 at tb hHeld ⊢
 have HB := Lib.hid tb
 clear tb
 refine wpAnyH_ready (rs := [4, 10]) (by kernel_rfl) (by simp) ?_
 refine AllReadyH.cons rfl (fun K hK => ?_) (AllReadyH.cons rfl (fun K hK => ?_) AllReadyH.nil)
 ·go_simp
  have tb := HB.out.alloc HB.out.size (.cells #[.slice P0 pn0 pd0, .slice P1 pn1 pd1] 43)
  have tx := heap_alloc_self q0 (.cells #[.slice P0 pn0 pd0, .slice P1 pn1 pd1] 43)
  refine hK.out _ _ ?_ fun hHeld => ?_;exact tb;clear hK K;try simp only [zn, Act.put]
  generalize q0.alloc (.cells #[.slice P0 pn0 pd0, .slice P1 pn1 pd1] 43) = q1 at tb tx hHeld ⊢
  obtain ⟨p1, hp⟩ : ∃ n, n = q0.heap.size := ⟨_, rfl⟩
  rw [← hp] at tx ⊢
  clear HB
  have HB := Lib.hid tb
  have X1 := Lib.hid tx
  clear tb tx hp
  refine wpAnyH_ready (rs := [5, 10]) (by kernel_rfl) (by simp) ?_
  refine AllReadyH.cons rfl (fun K hK => ?_) (AllReadyH.cons rfl (fun K hK => ?_) AllReadyH.nil)
  ·go_simp
   refine (concat_own p1 _ _ _ _ _ _ x.path x.over q1 X1.out ((IP.out.path.below intR HB.out).more intR HB.out.size) ((IP.out.over.below intR HB.out).more intR HB.out.size) NP.out.1 NP.out.2.1 (by rw [NP.out.1, NP.out.2.1]; exact NLE.out.1.1) (by rw [NP.out.1, NP.out.2.1]; exact NLE.out.1.2)).mono ?_
   rintro e q2 ⟨AL1, cL1, nl1, rfl, hnl, hol, b⟩
   have I1 : Hid (IntsIn q2 q2.heap.size (.slice AL1 nl1 cL1) (x.path ++ x.over)) := Lib.hid (hol.in_ intR_cells)
   have tb := HB.out.trans (b.mono HB.out.size)
   clear HB b hnl hol X1
   have HB := Lib.hid tb
   clear tb
   try go_wp2_with fail
   refine hK.out _ _ ?_ fun hHeld => ?_;exact HB.out;clear hK K;try simp only [zn, Act.put]
   refine tkr 10 (fun K hK => ?_)
   ·go_simp
    have tb := HB.out.alloc HB.out.size (.cells #[.slice Q0 qn0 qd0, .slice Q1 qn1 qd1] 43)
    have tx := heap_alloc_self q2 (.cells #[.slice Q0 qn0 qd0, .slice Q1 qn1 qd1] 43)
    have tq := (I1.out.below intR (below_new q2 (.cells #[.slice Q0 qn0 qd0, .slice Q1 qn1 qd1] 43))).more intR (below_new q2 (.cells #[.slice Q0 qn0 qd0, .slice Q1 qn1 qd1] 43)).size
    refine hK.out _ _ ?_ fun hHeld => ?_;exact tb;clear hK K;try simp only [zn, Act.put]
    generalize q2.alloc (.cells #[.slice Q0 qn0 qd0, .slice Q1 qn1 qd1] 43) = q3 at tb tx tq hHeld ⊢
    obtain ⟨p2, hp⟩ : ∃ n, n = q2.heap.size := ⟨_, rfl⟩
    rw [← hp] at tx ⊢
    clear HB I1
    have HB := Lib.hid tb
    have X2 := Lib.hid tx
    have I1 := Lib.hid tq
    clear tb tx hp tq
    refine tkr 11 (fun K hK => ?_)
    ·go_simp
     refine (concat_own p2 _ _ _ _ _ _ z.path z.over q3 X2.out ((IQ.out.path.below intR HB.out).more intR HB.out.size) ((IQ.out.over.below intR HB.out).more intR HB.out.size) NQ.out.1 NQ.out.2.1 (by rw [NQ.out.1, NQ.out.2.1]; exact NLE.out.2.1) (by rw [NQ.out.1, NQ.out.2.1]; exact NLE.out.2.2)).mono ?_
     rintro e q4 ⟨AL2, cL2, nl2, rfl, hnl, hol, b⟩
     have I2 : Hid (IntsIn q4 q4.heap.size (.slice AL2 nl2 cL2) (z.path ++ z.over)) := Lib.hid (hol.in_ intR_cells)
     have tq := (I1.out.below intR b).more intR b.size
     have tb := HB.out.trans (b.mono HB.out.size)
     clear HB b hnl hol X2 I1
     have HB := Lib.hid tb
     have I1 := Lib.hid tq
     clear tb tq
     try go_wp2_with fail
     refine hK.out _ _ ?_ fun hHeld => ?_;exact HB.out;clear hK K;try simp only [zn, Act.put]
     refine tkr 13 (fun K hK => ?_)
     go_simp
     refine (comi_any _ _ (x.path ++ x.over) (z.path ++ z.over) q4 I1.out I2.out).mono ?_
     rintro e q5 ⟨rfl, b⟩
     have HB' := Lib.hid (HB.out.trans (b.mono HB.out.size))
     clear b HB I1 I2
     rcases G.out with hg | hg
     ·rw [hg]
      have HT : Hid (confW x z = true) := Lib.hid (by rw [conf_common, hg]; rfl)
      try go_wp2_with fail
      refine hK.out _ _ ?_ fun hHeld => ?_;exact HB'.out;clear hK K;try simp only [zn, Act.put]
      refine tk 14 hHeld ?_;refine tks 15 hHeld ?_;refine tks 16 hHeld ?_;refine tks 17 hHeld ?_;refine tks 18 hHeld ?_;refine tks 19 hHeld ?_;refine tks 20 hHeld ?_;refine tk 21 hHeld ?_;refine tk 22 hHeld ?_
      refine wpAnyH_done (by kernel_rfl) ?_ _
      have BL := Lib.hid (BQ.out.trans (HB'.out.mono BQ.out.size))
      go_wp2_with fail
      go_ret
      exact ⟨by rw [HT.out]; rfl, BL.out⟩
     ·rw [hg]
      have HT : Hid (confW x z = commonL unlikeJ x.asks z.asks) := Lib.hid (by rw [conf_common, hg]; rfl)
      try go_wp2_with fail
      refine hK.out _ _ ?_ fun hHeld => ?_;exact HB'.out;clear hK K;try simp only [zn, Act.put]
      refine tk 14 hHeld ?_;refine tk 15 hHeld ?_;refine tkc 16 hHeld (fun w' hSw => cell4_of ((hSw.block _ (heap_lt X.out)).trans X.out)) ?_;refine tk 17 hHeld ?_;refine tkc 18 hHeld (fun w' hSw => cell4_of ((hSw.block _ (heap_lt Z.out)).trans Z.out)) ?_;refine tk 19 hHeld ?_
      refine tkr 20 (fun K hK => ?_)
      go_simp
      refine (coma_any _ _ x.asks z.asks q5 ((IP.out.asks.below sigR HB'.out).more sigR HB'.out.size) ((IQ.out.asks.below sigR HB'.out).more sigR HB'.out.size)).mono ?_
      rintro e q6 ⟨rfl, b⟩
      rw [← HT.out]
      have HB := Lib.hid (HB'.out.trans (b.mono HB'.out.size))
      clear b HB'
      try go_wp2_with fail
      refine hK.out _ _ ?_ fun hHeld => ?_;exact HB.out;clear hK K;try simp only [zn, Act.put]
      refine tk 21 hHeld ?_;refine tk 22 hHeld ?_
      refine wpAnyH_done (by kernel_rfl) ?_ _
      have BL := Lib.hid (BQ.out.trans (HB.out.mono BQ.out.size))
      go_wp2_with fail
      go_ret
      exact ⟨rfl, BL.out⟩
  ·go_simp
   have tb := HB.out.alloc HB.out.size (.cells #[.slice Q0 qn0 qd0, .slice Q1 qn1 qd1] 43)
   have tx := heap_alloc_self q1 (.cells #[.slice Q0 qn0 qd0, .slice Q1 qn1 qd1] 43)
   have tq := (heap_alloc_lt q1 (.cells #[.slice Q0 qn0 qd0, .slice Q1 qn1 qd1] 43) (heap_lt X1.out)).trans X1.out
   refine hK.out _ _ ?_ fun hHeld => ?_;exact tb;clear hK K;try simp only [zn, Act.put]
   generalize q1.alloc (.cells #[.slice Q0 qn0 qd0, .slice Q1 qn1 qd1] 43) = q7 at tb tx tq hHeld ⊢
   obtain ⟨p2, hp⟩ : ∃ n, n = q1.heap.size := ⟨_, rfl⟩
   rw [← hp] at tx ⊢
   clear HB X1
   have HB := Lib.hid tb
   have X2 := Lib.hid tx
   have X1 := Lib.hid tq
   clear tb tx hp tq
   refine tkr 5 (fun K hK => ?_)
   ·go_simp
    refine (concat_own p1 _ _ _ _ _ _ x.path x.over q7 X1.out ((IP.out.path.below intR HB.out).more intR HB.out.size) ((IP.out.over.below intR HB.out).more intR HB.out.size) NP.out.1 NP.out.2.1 (by rw [NP.out.1, NP.out.2.1]; exact NLE.out.1.1) (by rw [NP.out.1, NP.out.2.1]; exact NLE.out.1.2)).mono ?_
    rintro e q8 ⟨AL1, cL1, nl1, rfl, hnl, hol, b⟩
    have I1 : Hid (IntsIn q8 q8.heap.size (.slice AL1 nl1 cL1) (x.path ++ x.over)) := Lib.hid (hol.in_ intR_cells)
    have tq := (b.block _ (heap_lt X2.out)).trans X2.out
    have tb := HB.out.trans (b.mono HB.out.size)
    clear HB b hnl hol X1 X2
    have HB := Lib.hid tb
    have X2 := Lib.hid tq
    clear tb tq
    try go_wp2_with fail
    refine hK.out _ _ ?_ fun hHeld => ?_;exact HB.out;clear hK K;try simp only [zn, Act.put]
    refine tkr 11 (fun K hK => ?_)
    ·go_simp
     refine (concat_own p2 _ _ _ _ _ _ z.path z.over q8 X2.out ((IQ.out.path.below intR HB.out).more intR HB.out.size) ((IQ.out.over.below intR HB.out).more intR HB.out.size) NQ.out.1 NQ.out.2.1 (by rw [NQ.out.1, NQ.out.2.1]; exact NLE.out.2.1) (by rw [NQ.out.1, NQ.out.2.1]; exact NLE.out.2.2)).mono ?_
     rintro e q9 ⟨AL2, cL2, nl2, rfl, hnl, hol, b⟩
     have I2 : Hid (IntsIn q9 q9.heap.size (.slice AL2 nl2 cL2) (z.path ++ z.over)) := Lib.hid (hol.in_ intR_cells)
     have tq := (I1.out.below intR b).more intR b.size
     have tb := HB.out.trans (b.mono HB.out.size)
     clear HB b hnl hol X2 I1
     have HB := Lib.hid tb
     have I1 := Lib.hid tq
     clear tb tq
     try go_wp2_with fail
     refine hK.out _ _ ?_ fun hHeld => ?_;exact HB.out;clear hK K;try simp only [zn, Act.put]
     refine tkr 13 (fun K hK => ?_)
     go_simp
     refine (comi_any _ _ (x.path ++ x.over) (z.path ++ z.over) q9 I1.out I2.out).mono ?_
     rintro e q10 ⟨rfl, b⟩
     have HB' := Lib.hid (HB.out.trans (b.mono HB.out.size))
     clear b HB I1 I2
     rcases G.out with hg | hg
     ·rw [hg]
      have HT : Hid (confW x z = true) := Lib.hid (by rw [conf_common, hg]; rfl)
      try go_wp2_with fail
      refine hK.out _ _ ?_ fun hHeld => ?_;exact HB'.out;clear hK K;try simp only [zn, Act.put]
      refine tk 14 hHeld ?_;refine tks 15 hHeld ?_;refine tks 16 hHeld ?_;refine tks 17 hHeld ?_;refine tks 18 hHeld ?_;refine tks 19 hHeld ?_;refine tks 20 hHeld ?_;refine tk 21 hHeld ?_;refine tk 22 hHeld ?_
      refine wpAnyH_done (by kernel_rfl) ?_ _
      have BL := Lib.hid (BQ.out.trans (HB'.out.mono BQ.out.size))
      go_wp2_with fail
      go_ret
      exact ⟨by rw [HT.out]; rfl, BL.out⟩
     ·rw [hg]
      have HT : Hid (confW x z = commonL unlikeJ x.asks z.asks) := Lib.hid (by rw [conf_common, hg]; rfl)
      try go_wp2_with fail
      refine hK.out _ _ ?_ fun hHeld => ?_;exact HB'.out;clear hK K;try simp only [zn, Act.put]
      refine tk 14 hHeld ?_;refine tk 15 hHeld ?_;refine tkc 16 hHeld (fun w' hSw => cell4_of ((hSw.block _ (heap_lt X.out)).trans X.out)) ?_;refine tk 17 hHeld ?_;refine tkc 18 hHeld (fun w' hSw => cell4_of ((hSw.block _ (heap_lt Z.out)).trans Z.out)) ?_;refine tk 19 hHeld ?_
      refine tkr 20 (fun K hK => ?_)
      go_simp
      refine (coma_any _ _ x.asks z.asks q10 ((IP.out.asks.below sigR HB'.out).more sigR HB'.out.size) ((IQ.out.asks.below sigR HB'.out).more sigR HB'.out.size)).mono ?_
      rintro e q11 ⟨rfl, b⟩
      rw [← HT.out]
      have HB := Lib.hid (HB'.out.trans (b.mono HB'.out.size))
      clear b HB'
      try go_wp2_with fail
      refine hK.out _ _ ?_ fun hHeld => ?_;exact HB.out;clear hK K;try simp only [zn, Act.put]
      refine tk 21 hHeld ?_;refine tk 22 hHeld ?_
      refine wpAnyH_done (by kernel_rfl) ?_ _
      have BL := Lib.hid (BQ.out.trans (HB.out.mono BQ.out.size))
      go_wp2_with fail
      go_ret
      exact ⟨rfl, BL.out⟩
 ·go_simp
  have tb := HB.out.alloc HB.out.size (.cells #[.slice Q0 qn0 qd0, .slice Q1 qn1 qd1] 43)
  have tx := heap_alloc_self q0 (.cells #[.slice Q0 qn0 qd0, .slice Q1 qn1 qd1] 43)
  refine hK.out _ _ ?_ fun hHeld => ?_;exact tb;clear hK K;try simp only [zn, Act.put]
  generalize q0.alloc (.cells #[.slice Q0 qn0 qd0, .slice Q1 qn1 qd1] 43) = q12 at tb tx hHeld ⊢
  obtain ⟨p2, hp⟩ : ∃ n, n = q0.heap.size := ⟨_, rfl⟩
  rw [← hp] at tx ⊢
  clear HB
  have HB := Lib.hid tb
  have X2 := Lib.hid tx
  clear tb tx hp
  refine tkr 4 (fun K hK => ?_)
  ·go_simp
   have tb := HB.out.alloc HB.out.size (.cells #[.slice P0 pn0 pd0, .slice P1 pn1 pd1] 43)
   have tx := heap_alloc_self q12 (.cells #[.slice P0 pn0 pd0, .slice P1 pn1 pd1] 43)
   have tq := (heap_alloc_lt q12 (.cells #[.slice P0 pn0 pd0, .slice P1 pn1 pd1] 43) (heap_lt X2.out)).trans X2.out
   refine hK.out _ _ ?_ fun hHeld => ?_;exact tb;clear hK K;try simp only [zn, Act.put]
   generalize q12.alloc (.cells #[.slice P0 pn0 pd0, .slice P1 pn1 pd1] 43) = q13 at tb tx tq hHeld ⊢
   obtain ⟨p1, hp⟩ : ∃ n, n = q12.heap.size := ⟨_, rfl⟩
   rw [← hp] at tx ⊢
   clear HB X2
   have HB := Lib.hid tb
   have X1 := Lib.hid tx
   have X2 := Lib.hid tq
   clear tb tx hp tq
   refine tkr 5 (fun K hK => ?_)
   ·go_simp
    refine (concat_own p1 _ _ _ _ _ _ x.path x.over q13 X1.out ((IP.out.path.below intR HB.out).more intR HB.out.size) ((IP.out.over.below intR HB.out).more intR HB.out.size) NP.out.1 NP.out.2.1 (by rw [NP.out.1, NP.out.2.1]; exact NLE.out.1.1) (by rw [NP.out.1, NP.out.2.1]; exact NLE.out.1.2)).mono ?_
    rintro e q14 ⟨AL1, cL1, nl1, rfl, hnl, hol, b⟩
    have I1 : Hid (IntsIn q14 q14.heap.size (.slice AL1 nl1 cL1) (x.path ++ x.over)) := Lib.hid (hol.in_ intR_cells)
    have tq := (b.block _ (heap_lt X2.out)).trans X2.out
    have tb := HB.out.trans (b.mono HB.out.size)
    clear HB b hnl hol X1 X2
    have HB := Lib.hid tb
    have X2 := Lib.hid tq
    clear tb tq
    try go_wp2_with fail
    refine hK.out _ _ ?_ fun hHeld => ?_;exact HB.out;clear hK K;try simp only [zn, Act.put]
    refine tkr 11 (fun K hK => ?_)
    ·go_simp
     refine (concat_own p2 _ _ _ _ _ _ z.path z.over q14 X2.out ((IQ.out.path.below intR HB.out).more intR HB.out.size) ((IQ.out.over.below intR HB.out).more intR HB.out.size) NQ.out.1 NQ.out.2.1 (by rw [NQ.out.1, NQ.out.2.1]; exact NLE.out.2.1) (by rw [NQ.out.1, NQ.out.2.1]; exact NLE.out.2.2)).mono ?_
     rintro e q15 ⟨AL2, cL2, nl2, rfl, hnl, hol, b⟩
     have I2 : Hid (IntsIn q15 q15.heap.size (.slice AL2 nl2 cL2) (z.path ++ z.over)) := Lib.hid (hol.in_ intR_cells)
     have tq := (I1.out.below intR b).more intR b.size
     have tb := HB.out.trans (b.mono HB.out.size)
     clear HB b hnl hol X2 I1
     have HB := Lib.hid tb
     have I1 := Lib.hid tq
     clear tb tq
     try go_wp2_with fail
     refine hK.out _ _ ?_ fun hHeld => ?_;exact HB.out;clear hK K;try simp only [zn, Act.put]
     refine tkr 13 (fun K hK => ?_)
     go_simp
     refine (comi_any _ _ (x.path ++ x.over) (z.path ++ z.over) q15 I1.out I2.out).mono ?_
     rintro e q16 ⟨rfl, b⟩
     have HB' := Lib.hid (HB.out.trans (b.mono HB.out.size))
     clear b HB I1 I2
     rcases G.out with hg | hg
     ·rw [hg]
      have HT : Hid (confW x z = true) := Lib.hid (by rw [conf_common, hg]; rfl)
      try go_wp2_with fail
      refine hK.out _ _ ?_ fun hHeld => ?_;exact HB'.out;clear hK K;try simp only [zn, Act.put]
      refine tk 14 hHeld ?_;refine tks 15 hHeld ?_;refine tks 16 hHeld ?_;refine tks 17 hHeld ?_;refine tks 18 hHeld ?_;refine tks 19 hHeld ?_;refine tks 20 hHeld ?_;refine tk 21 hHeld ?_;refine tk 22 hHeld ?_
      refine wpAnyH_done (by kernel_rfl) ?_ _
      have BL := Lib.hid (BQ.out.trans (HB'.out.mono BQ.out.size))
      go_wp2_with fail
      go_ret
      exact ⟨by rw [HT.out]; rfl, BL.out⟩
     ·rw [hg]
      have HT : Hid (confW x z = commonL unlikeJ x.asks z.asks) := Lib.hid (by rw [conf_common, hg]; rfl)
      try go_wp2_with fail
      refine hK.out _ _ ?_ fun hHeld => ?_;exact HB'.out;clear hK K;try simp only [zn, Act.put]
      refine tk 14 hHeld ?_;refine tk 15 hHeld ?_;refine tkc 16 hHeld (fun w' hSw => cell4_of ((hSw.block _ (heap_lt X.out)).trans X.out)) ?_;refine tk 17 hHeld ?_;refine tkc 18 hHeld (fun w' hSw => cell4_of ((hSw.block _ (heap_lt Z.out)).trans Z.out)) ?_;refine tk 19 hHeld ?_
      refine tkr 20 (fun K hK => ?_)
      go_simp
      refine (coma_any _ _ x.asks z.asks q16 ((IP.out.asks.below sigR HB'.out).more sigR HB'.out.size) ((IQ.out.asks.below sigR HB'.out).more sigR HB'.out.size)).mono ?_
      rintro e q17 ⟨rfl, b⟩
      rw [← HT.out]
      have HB := Lib.hid (HB'.out.trans (b.mono HB'.out.size))
      clear b HB'
      try go_wp2_with fail
      refine hK.out _ _ ?_ fun hHeld => ?_;exact HB.out;clear hK K;try simp only [zn, Act.put]
      refine tk 21 hHeld ?_;refine tk 22 hHeld ?_
      refine wpAnyH_done (by kernel_rfl) ?_ _
      have BL := Lib.hid (BQ.out.trans (HB.out.mono BQ.out.size))
      go_wp2_with fail
      go_ret
      exact ⟨rfl, BL.out⟩
end Go.Proofs.YtebffdfimmbbdaaGreat
