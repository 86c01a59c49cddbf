/-
  The document's own function Put.
  Conditions: none.
-/
import Derived.Test.YtdjoflhcagfmiaaSixPut
import Derived.Test.YtdjoflhcagfmiaaMRef
set_option linter.unusedVariables false
set_option linter.unusedSimpArgs false
set_option maxRecDepth 100000
namespace Go.Proofs.Ytdjoflhcagfmiaa
open Go.RowKit
set_option maxHeartbeats 8000000 in
theorem rput6_any (d tv : Value) (ss : List Bs) (ws : List Wr) (g : Nat) (t : Bs) (hg : g < 4294967296) (w : World) (h : DiskIn w w.heap.size d ss ws) (ht : Txt w w.heap.size tv t) :
    Calls Try.prog 17 #[d, .agg #[.int .u32 (g : Int), tv]] w fun e w' => ∃ d', e = .returned (.tuple #[d', .int .i64 (putE ss ws g t)]) ∧ DiskAt w' w.heap.size d' (putS ss ws g t) (putW ss ws g t) ∧ Below w.heap.size w w' := by
  obtain ⟨v1, v2, rfl, h1, h2⟩ := id h
  have H := Lib.hid h
  have X := Lib.hid ht
  have HG := Lib.hid hg
  obtain ⟨A1, c1, rfl, -, -, -, -⟩ := h1
  obtain ⟨A2, c2, rfl, -, hwl, -, -⟩ := h2
  obtain ⟨A3, c3, rfl, -, -, -, -⟩ := ht
  obtain ⟨q, hq, q0, q1, q2, qs, qb⟩ := boxes3 w (.cells #[.slice A1 ss.length c1, .slice A2 ws.length c2] 29) (.cells #[.int .u32 (g : Int), .slice A3 t.length c3] 36) (.cells #[.slice none 0 0, .slice none 0 0] 29)
  have QB := Lib.hid qb
  have QS := Lib.hid qs
  clear h hwl qb qs
  go_enter Try.func17, Try.ntmps17
  go_wp2_with fail
  rw [← hq]
  clear hq
  refine (rmay_any _ ss ws q ((H.out.below QB.out).more QB.out.size)).mono ?_
  rintro e w1 ⟨rfl, b1⟩
  have B1 := Lib.hid (QB.out.trans (b1.mono QB.out.size))
  have C0 := Lib.hid ((b1.block _ (heap_lt q0)).trans q0)
  have C1 := Lib.hid ((b1.block _ (heap_lt q1)).trans q1)
  have C2 := Lib.hid ((b1.block _ (heap_lt q2)).trans q2)
  have L1 : Hid (w.heap.size + 3 ≤ w1.heap.size) := Lib.hid (by have := b1.size; have := QS.out; omega)
  clear q0 q1 q2 b1
  obtain ⟨k0, k1⟩ := cell2_of C0.out
  obtain ⟨m0, m1⟩ := cell2_of C1.out
  obtain ⟨r0, r1⟩ := cell2_of C2.out
  have f0 := frozen2_of C2.out 0
  have f1 := frozen2_of C2.out 1
  have BAD : Hid (∀ (r : Int) (u : World), u.heap[w.heap.size + 1 + 1]? = some (.cells #[.slice none 0 0, .slice none 0 0] 29 (0, 0)) → Below w.heap.size w u → putE ss ws g t = r → r ≠ 0 →
      ∃ d', Ending.returned (.tuple #[.agg #[.slice none 0 0, .slice none 0 0], .int .i64 r]) = .returned (.tuple #[d', .int .i64 (putE ss ws g t)]) ∧ DiskAt ((u.setCell ⟨w.heap.size + 1 + 1, 0, none⟩ (.slice none 0 0)).setCell ⟨w.heap.size + 1 + 1, 1, none⟩ (.slice none 0 0)) w.heap.size d' (putS ss ws g t) (putW ss ws g t) ∧ Below w.heap.size w ((u.setCell ⟨w.heap.size + 1 + 1, 0, none⟩ (.slice none 0 0)).setCell ⟨w.heap.size + 1 + 1, 1, none⟩ (.slice none 0 0))) :=
    Lib.hid (fun r u _ hb h h0 => ⟨_, by rw [h], by rw [putS, putW, h, if_neg h0, if_neg h0]; exact DiskAt.nil_ _ _, below_set2 hb (by omega) _ _⟩)
  cases hm : mayB ss ws with
  | false =>
    have hE : putE ss ws g t = 8 := by rw [putE, hm]; rfl
    have HE := Lib.hid hE
    clear hm hE
    go_wp2_with fail
    exact bodyPost_ret (results_2_tmp rfl _ _ (w.heap.size + 1 + 1) rfl (zero_kept C2.out) Try.underlying29 infoDisk2 (.int .i64 8) rfl) rfl (BAD.out 8 w1 C2.out B1.out HE.out (by decide))
  | true =>
    have hM := mayB_iff.1 hm
    have HM := Lib.hid hM
    have HMB := Lib.hid hm
    have hwm : ws.length ≤ 256 := hM.m
    clear hm hM
    by_cases hg0 : g = 0
    · have hE : putE ss ws g t = 2 := by rw [putE, HMB.out, if_pos rfl, if_pos hg0]
      have HE := Lib.hid hE
      have hg0' : (g : Int) = 0 := by omega
      clear hE
      go_wp2_with fail
      exact bodyPost_ret (results_2_tmp rfl _ _ (w.heap.size + 1 + 1) rfl (zero_kept C2.out) Try.underlying29 infoDisk2 (.int .i64 2) rfl) rfl (BAD.out 2 w1 C2.out B1.out HE.out (by decide))
    · have hg0' : ¬ (g : Int) = 0 := by omega
      by_cases hl : 1882 < t.length
      · have hE : putE ss ws g t = 3 := by rw [putE, HMB.out, if_pos rfl, if_neg hg0, if_pos hl]
        have HE := Lib.hid hE
        have hl' : (1882 : Int) < t.length := by omega
        clear hE
        go_wp2_with fail
        exact bodyPost_ret (results_2_tmp rfl _ _ (w.heap.size + 1 + 1) rfl (zero_kept C2.out) Try.underlying29 infoDisk2 (.int .i64 3) rfl) rfl (BAD.out 3 w1 C2.out B1.out HE.out (by decide))
      · have hl' : ¬ (1882 : Int) < t.length := by omega
        have hE : putE ss ws g t = if 256 < ws.length + cntR t then 9 else 0 := by rw [putE, HMB.out, if_pos rfl, if_neg hg0, if_neg hl]
        have HE := Lib.hid hE
        have HL : Hid (t.length ≤ 1882) := Lib.hid (by omega)
        have hn16 : cntR t ≤ 16 := cntR_le HL.out
        have hwr : IntKind.i64.wrap ((ws.length : Int) + cntR t) = (ws.length : Int) + cntR t := by simp [IntKind.wrap, IntKind.bits]; omega
        have Q0 := Lib.hid (Below.refl w1.heap.size w1).drew
        clear hE hl
        go_wp2_with fail
        clear k0 k1 m0 m1 r0 r1 f0 f1
        refine wp_region_held_drew (S := fun v => Below w1.heap.size w1 v) (by kernel_rfl) Q0.out (fun hHeld => ?_)
        refine wpAnyH_take (i := 0) (v := ?_) rfl (by kernel_rfl) (by kernel_rfl) (by kernel_rfl) (fun _ _ _ h => h) (Or.inl ⟨by rfl, ?_⟩) hHeld ?_
        rotate_left
        · intro w' hSw; obtain ⟨cu0, cu1⟩ := cell2_of ((hSw.block _ (heap_lt C0.out)).trans C0.out); go_simp; try with_reducible rfl
        simp only [List.getElem_toArray, List.getElem_cons_succ, List.getElem_cons_zero, Act.put, List.setIfInBounds_toArray, List.set_cons_zero, List.set_cons_succ]
        refine wpAnyH_take (i := 1) (v := ?_) rfl (by kernel_rfl) (by kernel_rfl) (by kernel_rfl) (fun _ _ _ h => h) (Or.inl ⟨by rfl, ?_⟩) hHeld ?_
        rotate_left
        · intro w' hSw; obtain ⟨cu0, cu1⟩ := cell2_of ((hSw.block _ (heap_lt C0.out)).trans C0.out); go_simp; try with_reducible rfl
        simp only [List.getElem_toArray, List.getElem_cons_succ, List.getElem_cons_zero, Act.put, List.setIfInBounds_toArray, List.set_cons_zero, List.set_cons_succ]
        refine wpAnyH_take (i := 2) (v := ?_) rfl (by kernel_rfl) (by kernel_rfl) (by kernel_rfl) (fun _ _ _ h => h) (Or.inl ⟨by rfl, ?_⟩) hHeld ?_
        rotate_left
        · intro w' hSw; go_simp; try with_reducible rfl
        simp only [List.getElem_toArray, List.getElem_cons_succ, List.getElem_cons_zero, Act.put, List.setIfInBounds_toArray, List.set_cons_zero, List.set_cons_succ]
        refine wpAnyH_take (i := 3) (v := ?_) rfl (by kernel_rfl) (by kernel_rfl) (by kernel_rfl) (fun _ _ _ h => h) (Or.inl ⟨by rfl, ?_⟩) hHeld ?_
        rotate_left
        · intro w' hSw; obtain ⟨cv0, cv1⟩ := cell2_of ((hSw.block _ (heap_lt C1.out)).trans C1.out); go_simp; try with_reducible rfl
        simp only [List.getElem_toArray, List.getElem_cons_succ, List.getElem_cons_zero, Act.put, List.setIfInBounds_toArray, List.set_cons_zero, List.set_cons_succ]
        refine wpAnyH_ready (rs := [4]) (by kernel_rfl) (by simp) ?_
        refine AllReadyH.cons rfl (fun K hK => ?_) AllReadyH.nil
        go_simp
        refine (rsectors_any g _ t hg HL.out w1.drew ((X.out.below B1.out.drew).more B1.out.size)).mono ?_
        rintro e wA ⟨y, rfl, ho, bA⟩
        obtain ⟨A5, c5, rfl⟩ := secs_slice ho
        rw [secsR_length]
        have BA := Lib.hid ((Q0.out).trans bA)
        clear ho bA
        try go_wp2_with fail
        refine hK.out _ _ ?_ (fun hHeld => ?_)
        · exact BA.out
        clear hK K
        try simp only [List.getElem_toArray, List.getElem_cons_succ, List.getElem_cons_zero, Act.put, List.setIfInBounds_toArray, List.set_cons_zero, List.set_cons_succ]
        refine wpAnyH_take (i := 5) (v := ?_) rfl (by kernel_rfl) (by kernel_rfl) (by kernel_rfl) (fun _ _ _ h => h) (Or.inl ⟨by rfl, ?_⟩) hHeld ?_
        rotate_left
        · intro w' hSw; go_simp; try with_reducible rfl
        simp only [List.getElem_toArray, List.getElem_cons_succ, List.getElem_cons_zero, Act.put, List.setIfInBounds_toArray, List.set_cons_zero, List.set_cons_succ]
        refine wpAnyH_take (i := 6) (v := ?_) rfl (by kernel_rfl) (by kernel_rfl) (by kernel_rfl) (fun _ _ _ h => h) (Or.inl ⟨by rfl, ?_⟩) hHeld ?_
        rotate_left
        · intro w' hSw; go_simp; try with_reducible rfl
        simp only [List.getElem_toArray, List.getElem_cons_succ, List.getElem_cons_zero, Act.put, List.setIfInBounds_toArray, List.set_cons_zero, List.set_cons_succ]
        refine wpAnyH_take (i := 7) (v := ?_) rfl (by kernel_rfl) (by kernel_rfl) (by kernel_rfl) (fun _ _ _ h => h) (Or.inl ⟨by rfl, ?_⟩) hHeld ?_
        rotate_left
        · intro w' hSw; go_simp; try with_reducible rfl
        simp only [List.getElem_toArray, List.getElem_cons_succ, List.getElem_cons_zero, Act.put, List.setIfInBounds_toArray, List.set_cons_zero, List.set_cons_succ]
        refine wpAnyH_done (by kernel_rfl) ?_ _
        have D0 := Lib.hid ((BA.out.block _ (heap_lt C0.out)).trans C0.out)
        have D1 := Lib.hid ((BA.out.block _ (heap_lt C1.out)).trans C1.out)
        have D2 := Lib.hid ((BA.out.block _ (heap_lt C2.out)).trans C2.out)
        have BB := Lib.hid (B1.out.trans (BA.out.mono B1.out.size))
        obtain ⟨k0, k1⟩ := cell2_of D0.out
        obtain ⟨m0, m1⟩ := cell2_of D1.out
        by_cases hr : 256 < ws.length + cntR t
        · have hr' : (256 : Int) < (ws.length : Int) + cntR t := by omega
          have hE9 : putE ss ws g t = 9 := by rw [HE.out, if_pos hr]
          have HE9 := Lib.hid hE9
          obtain ⟨r0, r1⟩ := cell2_of D2.out
          have f0 := frozen2_of D2.out 0
          have f1 := frozen2_of D2.out 1
          clear hE9
          go_wp2_with fail
          exact bodyPost_ret (results_2_tmp rfl _ _ (w.heap.size + 1 + 1) rfl (zero_kept D2.out) Try.underlying29 infoDisk2 (.int .i64 9) rfl) rfl (BAD.out 9 wA D2.out BB.out HE9.out (by decide))
        · have hr' : ¬ (256 : Int) < (ws.length : Int) + cntR t := by omega
          have hE0 : putE ss ws g t = 0 := by rw [HE.out, if_neg hr]
          have HE0 := Lib.hid hE0
          have HR : Hid (ws.length + cntR t ≤ 256) := Lib.hid (by omega)
          clear hE0 hr
          go_wp2_with fail
          refine (rwith6_any _ _ ss ws g t HG.out HL.out HM.out HR.out wA ((H.out.below BB.out).more BB.out.size) ((X.out.below BB.out).more BB.out.size)).mono ?_
          rintro e w5 ⟨d5, rfl, hd5, b5⟩
          obtain ⟨y1, y2, rfl, hy1, hy2⟩ := id hd5
          obtain ⟨A8, n8, c8, rfl⟩ := secs_any hy1
          obtain ⟨A9, n9, c9, rfl⟩ := wts_any hy2
          have E2 := Lib.hid ((b5.block _ (heap_lt D2.out)).trans D2.out)
          have HD5 := Lib.hid hd5
          have B5 := Lib.hid (BB.out.trans (b5.mono BB.out.size))
          clear hd5 b5 hy1 hy2
          obtain ⟨r0, r1⟩ := cell2_of E2.out
          have f0 := frozen2_of E2.out 0
          have f1 := frozen2_of E2.out 1
          go_wp2_with fail
          refine bodyPost_ret (results_2_tmp rfl _ _ (w.heap.size + 1 + 1) rfl (heap_set2 E2.out _ _) Try.underlying29 infoDisk2 (.int .i64 0) rfl) rfl ⟨_, by rw [HE0.out], ?_, below_set2 B5.out (by omega) _ _⟩
          rw [putS, putW, HE0.out, if_pos rfl, if_pos rfl]
          exact (disk_turned HD5.out E2.out (by decide) (by decide) (by decide) (grown_set2 w5 (w.heap.size + 1 + 1) _ _)).mono BB.out.size
end Go.Proofs.Ytdjoflhcagfmiaa
