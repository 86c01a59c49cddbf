/-
  The document's own functions: comes (what comes of a disk by numbers), Synced, Seen.
  Conditions: none.
-/
import Derived.Test.YtdpjdobmnkadjaaRefBox
set_option linter.unusedVariables false
set_option linter.unusedSimpArgs false
namespace Go.Proofs.Ytdpjdobmnkadjaa
open Go.RowKit

theorem comes_at {ss : List Bs} {ws : List Wr} {ks : List Int} {i : Nat} (hi : i < ss.length) : (comes ss ws (keptK ws ks))[i]? = some (rowR ss ws ks i) := by
  rw [comes, layAll_at, List.getElem?_eq_getElem hi, rowR, List.getD_eq_getElem?_getD, List.getElem?_eq_getElem hi]
  rfl
theorem take_snocR {R : List Bs} {i : Nat} {s : Bs} (h : R[i]? = some s) : R.take i ++ [s] = R.take (i + 1) := by
  rw [List.take_add_one, h]; rfl

set_option maxRecDepth 100000 in
set_option maxHeartbeats 4000000 in
theorem comes_any (d kv : Value) (ss : List Bs) (ws : List Wr) (ks : List Int) (w : World) (h : DiskIn w w.heap.size d ss ws) (hk : NumsIn w w.heap.size kv ks) (hm : May ss ws) (hl : ks = [] ∨ ks.length = ws.length) :
    Calls Try.prog 49 #[d, kv] w fun e w' => ∃ v1, e = .returned (.agg #[v1, .slice none 0 0]) ∧ SecsAt w' w.heap.size v1 (comes ss ws (keptK ws ks)) ∧ Below w.heap.size w w' := by
  obtain ⟨v1, v2, rfl, h1, h2⟩ := id h
  obtain ⟨i0, hi, hz0, hz1, hz2⟩ := info_parts infoSlice
  have I0 := Lib.hid hi
  have I1 := Lib.hid hz0
  have I2 := Lib.hid hz1
  have I3 := Lib.hid hz2
  have H := Lib.hid h
  have KN := Lib.hid hk
  have HM := Lib.hid hm
  have HL := Lib.hid hl
  obtain ⟨R, hR⟩ : ∃ R, R = comes ss ws (keptK ws ks) := ⟨_, rfl⟩
  have HRL := Lib.hid (show R.length = 32 by rw [hR, comes, layAll_length, hm.n])
  have HRA : Hid (∀ i, i < 32 → R[i]? = some (rowR ss ws ks i)) := Lib.hid (fun i hi => by rw [hR]; exact comes_at (by rw [hm.n]; exact hi))
  have HRR : Hid (∀ i, i < 32 → (rowR ss ws ks i).length = 128) := Lib.hid (fun i hi => rowR_length hm (by rw [hm.n]; exact hi))
  rw [← hR]
  have hq := three_boxes w (.cells #[v1, v2] 25) (.cells #[.slice none 0 0, .slice none 0 0] 25) (.cells #[.slice none 0 0, .slice none 0 0] 25)
  clear hi hz0 hz1 hz2 h1 h2 h hk hm hl hR
  go_enter Try.func49, Try.ntmps49
  go_wp2_with fail
  have hqs : (((w.alloc (.cells #[v1, v2] 25)).alloc (.cells #[.slice none 0 0, .slice none 0 0] 25)).alloc (.cells #[.slice none 0 0, .slice none 0 0] 25)).heap.size = w.heap.size + 3 := by simp
  generalize ((w.alloc (.cells #[v1, v2] 25)).alloc (.cells #[.slice none 0 0, .slice none 0 0] 25)).alloc (.cells #[.slice none 0 0, .slice none 0 0] 25) = q at hq hqs ⊢
  obtain ⟨q0, q1, q2, qb⟩ := hq
  have QB := Lib.hid qb
  have Q0 := Lib.hid q0
  have Q1 := Lib.hid q1
  have Q2 := Lib.hid q2
  have QS := Lib.hid hqs
  clear q0 q1 q2 qb hqs
  go_loopw [6] (fun s6 wr => ∃ (i : Nat) (v : Value), i ≤ 32 ∧ s6 = .int .i64 i ∧ wr.heap[w.heap.size + 2]? = some (.cells #[v, .slice none 0 0] 25 (0, 0)) ∧ SecsAt wr (w.heap.size + 3) v (R.take i) ∧ Below (w.heap.size + 2) q wr ∧ w.heap.size + 3 ≤ wr.heap.size) (fun s6 _ => 32 - (intOf s6).toNat)
  case atStart => exact ⟨0, _, by omega, rfl, Q2.out, SecsAt.nil_ _ _, Below.refl _ _, by rw [QS.out]; exact Nat.le_refl _⟩
  case round =>
    obtain ⟨i, v, hi, rfl, hd, hs, hb, hqs⟩ := hrel
    have hti : (R.take i).length = i := by rw [List.length_take, HRL.out]; omega
    obtain ⟨A, c, hv⟩ := secs_slice hs
    rw [hti] at hv
    subst hv
    have HD := Lib.hid hd
    have HB := Lib.hid hb
    have HQ := Lib.hid hqs
    have HTI := Lib.hid hti
    have WB : Hid (Below w.heap.size w wr) := Lib.hid (QB.out.trans (hb.mono (by omega)))
    have HX0 := Lib.hid ((hb.block w.heap.size (by omega)).trans Q0.out)
    by_cases hlt : i < 32
    · have hlt' : (i : Int) < 32 := by omega
      obtain ⟨ys, hown, hyl, hm, he, hdd⟩ := hs
      rw [hti] at hown hyl
      have O := Lib.hid hown
      have YL := Lib.hid hyl
      have E := Lib.hid he
      have D := Lib.hid hdd
      have HLT := Lib.hid hlt
      clear hd hb hqs hown hyl hm he hdd hti hlt
      obtain ⟨d0, d1⟩ := cell2_of HD.out
      go_wp2_with fail
      refine wp_region_held_drew (S := fun v => Below (w.heap.size + 2) wr v) (by kernel_rfl) ((Below.refl _ wr).drew) (fun hHeld => ?_)
      refine wpAnyH_take (i := 0) (v := ?_) rfl (by kernel_rfl) (by kernel_rfl) (by kernel_rfl) (fun _ _ _ h => h) (Or.inl ⟨by rfl, ?_⟩) hHeld ?_
      rotate_left
      · intro w' hSw; go_simp; try with_reducible rfl
      simp only [List.getElem_toArray, List.getElem_cons_succ, List.getElem_cons_zero, Act.put, List.setIfInBounds_toArray, List.set_cons_zero, List.set_cons_succ]
      refine wpAnyH_take (i := 2) (v := ?_) rfl (by kernel_rfl) (by kernel_rfl) (by kernel_rfl) (fun _ _ _ h => h) (Or.inl ⟨by rfl, ?_⟩) hHeld ?_
      rotate_left
      · intro w' hSw; obtain ⟨c0, c1⟩ := cell2_of (((show Below (w.heap.size + 2) wr w' from hSw).block w.heap.size (by omega)).trans HX0.out); go_simp; try with_reducible rfl
      simp only [List.getElem_toArray, List.getElem_cons_succ, List.getElem_cons_zero, Act.put, List.setIfInBounds_toArray, List.set_cons_zero, List.set_cons_succ]
      refine wpAnyH_take (i := 3) (v := ?_) rfl (by kernel_rfl) (by kernel_rfl) (by kernel_rfl) (fun _ _ _ h => h) (Or.inl ⟨by rfl, ?_⟩) hHeld ?_
      rotate_left
      · intro w' hSw; go_simp; try with_reducible rfl
      simp only [List.getElem_toArray, List.getElem_cons_succ, List.getElem_cons_zero, Act.put, List.setIfInBounds_toArray, List.set_cons_zero, List.set_cons_succ]
      refine wpAnyH_take (i := 4) (v := ?_) rfl (by kernel_rfl) (by kernel_rfl) (by kernel_rfl) (fun _ _ _ h => h) (Or.inl ⟨by rfl, ?_⟩) hHeld ?_
      rotate_left
      · intro w' hSw; go_simp; try with_reducible rfl
      simp only [List.getElem_toArray, List.getElem_cons_succ, List.getElem_cons_zero, Act.put, List.setIfInBounds_toArray, List.set_cons_zero, List.set_cons_succ]
      refine wpAnyH_ready (rs := [1, 5]) (by kernel_rfl) (by simp) ?_
      refine AllReadyH.cons rfl (fun K hK => ?_) (AllReadyH.cons rfl (fun K hK => ?_) AllReadyH.nil)
      · go_simp
        refine hK.out _ _ ?_ (fun hHeld => ?_)
        · exact (Below.refl _ wr).drew
        clear hK K
        try simp only [List.getElem_toArray, List.getElem_cons_succ, List.getElem_cons_zero, Act.put, List.setIfInBounds_toArray, List.set_cons_zero, List.set_cons_succ]
        refine wpAnyH_ready (rs := [5]) (by kernel_rfl) (by simp) ?_
        refine AllReadyH.cons rfl (fun K hK => ?_) AllReadyH.nil
        go_simp
        refine (row_any _ _ ss ws ks wr.drew ((H.out.below WB.out).more WB.out.size) ((KN.out.below WB.out).more WB.out.size) HM.out HL.out (a := i) (by rw [HM.out.n]; exact HLT.out)).mono ?_
        rintro e w3 ⟨y, rfl, hoy, b3⟩
        obtain ⟨A7, c7, rfl⟩ := own_slice_ hoy
        have MR := Lib.hid hoy
        have MB : Hid (Below wr.heap.size wr w3) := Lib.hid ((Below.refl _ wr).drew.trans b3)
        have MB4 : Hid (Below wr.heap.size wr (w3.alloc (.cells #[.slice A7 128 c7] 30))) := Lib.hid (MB.out.alloc MB.out.size _)
        have MB2 : Hid (Below (w.heap.size + 2) wr w3) := Lib.hid (MB.out.mono (by have := HQ.out; omega))
        clear hoy b3
        try go_wp2_with fail
        refine hK.out _ _ ?_ (fun hHeld => ?_)
        · exact MB2.out
        clear hK K
        try simp only [List.getElem_toArray, List.getElem_cons_succ, List.getElem_cons_zero, Act.put, List.setIfInBounds_toArray, List.set_cons_zero, List.set_cons_succ]
        refine wpAnyH_ready (rs := [6]) (by kernel_rfl) (by simp) ?_
        refine AllReadyH.cons rfl (fun K hK => ?_) AllReadyH.nil
        go_simp
        refine hK.out _ _ ?_ (fun hHeld => ?_)
        · exact MB4.out.mono (by have := HQ.out; omega)
        clear hK K
        try simp only [List.getElem_toArray, List.getElem_cons_succ, List.getElem_cons_zero, Act.put, List.setIfInBounds_toArray, List.set_cons_zero, List.set_cons_succ]
        refine wpAnyH_ready (rs := [7]) (by kernel_rfl) (by simp) ?_
        refine AllReadyH.cons rfl (fun K hK => ?_) AllReadyH.nil
        rw [if_pos (by rfl)]
        refine wp_append_any (.tmp 12) (.tmp 17) _ rfl Try.underlying22 I0.out I1.out rfl I2.out (by decide) I3.out (by decide) rfl ((owns_below O.out MB.out).alloc _) (m := 1) rfl (news := [.slice A7 128 c7]) rfl (fun j u hj => by rw [World.cell?_alloc_new]; simpa using hj) (by simp [Value.oneCell']) (by have := HLT.out; omega) (Nat.le_trans HQ.out MB4.out.size) ?_
        intro v5 w5 hown5 hgrow5
        obtain ⟨hc5, hb5, hc6, hs6, -, hb6, hl6⟩ := box_secs (p := w.heap.size + 2) (ss := R.take i) (s := rowR ss ws ks i) (ws := []) (by omega) HD.out (by rw [HTI.out]; exact O.out) (by rw [HTI.out]; exact YL.out) E.out D.out (WtsAt.nil_ _ _) HQ.out MB.out (by rw [HRR.out i HLT.out]; exact MR.out) (by rw [HRR.out i HLT.out]; unfold maxLen; omega) (by rw [HTI.out]; have := HLT.out; unfold maxLen; omega) (by rw [HTI.out]; exact hown5) hgrow5
        rw [take_snocR (HRA.out i HLT.out)] at hs6
        obtain ⟨A6, c6, h6⟩ := own_slice2_ hown5
        subst h6
        have C5 := Lib.hid hc5
        have B5 := Lib.hid hb5
        have C6 := Lib.hid hc6
        have S6 := Lib.hid hs6
        have B6 := Lib.hid hb6
        have L6 := Lib.hid hl6
        clear hown5 hgrow5 hc5 hb5 hc6 hs6 hb6 hl6
        refine hK.out _ _ ?_ (fun hHeld => ?_)
        · exact B5.out.mono (by omega)
        clear hK K
        try simp only [List.getElem_toArray, List.getElem_cons_succ, List.getElem_cons_zero, Act.put, List.setIfInBounds_toArray, List.set_cons_zero, List.set_cons_succ]
        refine wpAnyH_take (i := 8) (v := ?_) rfl (by kernel_rfl) (by kernel_rfl) (by kernel_rfl) (fun _ _ _ h => h) (Or.inl ⟨by rfl, ?_⟩) hHeld ?_
        rotate_left
        · intro w' hSw; go_simp; try with_reducible rfl
        simp only [List.getElem_toArray, List.getElem_cons_succ, List.getElem_cons_zero, Act.put, List.setIfInBounds_toArray, List.set_cons_zero, List.set_cons_succ]
        obtain ⟨m0, m1⟩ := cell2_of C5.out
        have f0 := frozen2_of C5.out 0
        refine wpAnyH_ready (rs := [9]) (by kernel_rfl) (by simp) ?_
        refine AllReadyH.cons rfl (fun K hK => ?_) AllReadyH.nil
        rw [if_pos (by rfl)]
        go_simp
        refine hK.out _ _ ?_ (fun hHeld => ?_)
        · exact B6.out
        clear hK K
        try simp only [List.getElem_toArray, List.getElem_cons_succ, List.getElem_cons_zero, Act.put, List.setIfInBounds_toArray, List.set_cons_zero, List.set_cons_succ]
        refine wpAnyH_done (by kernel_rfl) ?_ _
        generalize w5.setCell ⟨w.heap.size + 2, 0, none⟩ (.slice A6 (i + 1) c6) = w6 at C6 S6 B6 L6 ⊢
        clear m0 m1 f0
        go_wp2_with fail
        go_roundw
        case measure => have := HLT.out; simp [intOf]; omega
        case rel => exact ⟨i + 1, _, by have := HLT.out; omega, by go_num, C6.out, S6.out, HB.out.trans B6.out, L6.out⟩
      · go_simp
        refine (row_any _ _ ss ws ks wr.drew ((H.out.below WB.out).more WB.out.size) ((KN.out.below WB.out).more WB.out.size) HM.out HL.out (a := i) (by rw [HM.out.n]; exact HLT.out)).mono ?_
        rintro e w3 ⟨y, rfl, hoy, b3⟩
        obtain ⟨A7, c7, rfl⟩ := own_slice_ hoy
        have MR := Lib.hid hoy
        have MB : Hid (Below wr.heap.size wr w3) := Lib.hid ((Below.refl _ wr).drew.trans b3)
        have MB4 : Hid (Below wr.heap.size wr (w3.alloc (.cells #[.slice A7 128 c7] 30))) := Lib.hid (MB.out.alloc MB.out.size _)
        have MB2 : Hid (Below (w.heap.size + 2) wr w3) := Lib.hid (MB.out.mono (by have := HQ.out; omega))
        clear hoy b3
        try go_wp2_with fail
        refine hK.out _ _ ?_ (fun hHeld => ?_)
        · exact MB2.out
        clear hK K
        try simp only [List.getElem_toArray, List.getElem_cons_succ, List.getElem_cons_zero, Act.put, List.setIfInBounds_toArray, List.set_cons_zero, List.set_cons_succ]
        refine wpAnyH_ready (rs := [1, 6]) (by kernel_rfl) (by simp) ?_
        refine AllReadyH.cons rfl (fun K hK => ?_) (AllReadyH.cons rfl (fun K hK => ?_) AllReadyH.nil)
        · obtain ⟨k0, k1⟩ := cell2_of ((MB.out.block _ (heap_lt HD.out)).trans HD.out)
          go_simp
          refine hK.out _ _ ?_ (fun hHeld => ?_)
          · exact MB2.out
          clear hK K
          try simp only [List.getElem_toArray, List.getElem_cons_succ, List.getElem_cons_zero, Act.put, List.setIfInBounds_toArray, List.set_cons_zero, List.set_cons_succ]
          refine wpAnyH_ready (rs := [6]) (by kernel_rfl) (by simp) ?_
          refine AllReadyH.cons rfl (fun K hK => ?_) AllReadyH.nil
          go_simp
          refine hK.out _ _ ?_ (fun hHeld => ?_)
          · exact MB4.out.mono (by have := HQ.out; omega)
          clear hK K
          try simp only [List.getElem_toArray, List.getElem_cons_succ, List.getElem_cons_zero, Act.put, List.setIfInBounds_toArray, List.set_cons_zero, List.set_cons_succ]
          refine wpAnyH_ready (rs := [7]) (by kernel_rfl) (by simp) ?_
          refine AllReadyH.cons rfl (fun K hK => ?_) AllReadyH.nil
          rw [if_pos (by rfl)]
          refine wp_append_any (.tmp 12) (.tmp 17) _ rfl Try.underlying22 I0.out I1.out rfl I2.out (by decide) I3.out (by decide) rfl ((owns_below O.out MB.out).alloc _) (m := 1) rfl (news := [.slice A7 128 c7]) rfl (fun j u hj => by rw [World.cell?_alloc_new]; simpa using hj) (by simp [Value.oneCell']) (by have := HLT.out; omega) (Nat.le_trans HQ.out MB4.out.size) ?_
          intro v5 w5 hown5 hgrow5
          obtain ⟨hc5, hb5, hc6, hs6, -, hb6, hl6⟩ := box_secs (p := w.heap.size + 2) (ss := R.take i) (s := rowR ss ws ks i) (ws := []) (by omega) HD.out (by rw [HTI.out]; exact O.out) (by rw [HTI.out]; exact YL.out) E.out D.out (WtsAt.nil_ _ _) HQ.out MB.out (by rw [HRR.out i HLT.out]; exact MR.out) (by rw [HRR.out i HLT.out]; unfold maxLen; omega) (by rw [HTI.out]; have := HLT.out; unfold maxLen; omega) (by rw [HTI.out]; exact hown5) hgrow5
          rw [take_snocR (HRA.out i HLT.out)] at hs6
          obtain ⟨A6, c6, h6⟩ := own_slice2_ hown5
          subst h6
          have C5 := Lib.hid hc5
          have B5 := Lib.hid hb5
          have C6 := Lib.hid hc6
          have S6 := Lib.hid hs6
          have B6 := Lib.hid hb6
          have L6 := Lib.hid hl6
          clear hown5 hgrow5 hc5 hb5 hc6 hs6 hb6 hl6
          refine hK.out _ _ ?_ (fun hHeld => ?_)
          · exact B5.out.mono (by omega)
          clear hK K
          try simp only [List.getElem_toArray, List.getElem_cons_succ, List.getElem_cons_zero, Act.put, List.setIfInBounds_toArray, List.set_cons_zero, List.set_cons_succ]
          refine wpAnyH_take (i := 8) (v := ?_) rfl (by kernel_rfl) (by kernel_rfl) (by kernel_rfl) (fun _ _ _ h => h) (Or.inl ⟨by rfl, ?_⟩) hHeld ?_
          rotate_left
          · intro w' hSw; go_simp; try with_reducible rfl
          simp only [List.getElem_toArray, List.getElem_cons_succ, List.getElem_cons_zero, Act.put, List.setIfInBounds_toArray, List.set_cons_zero, List.set_cons_succ]
          obtain ⟨m0, m1⟩ := cell2_of C5.out
          have f0 := frozen2_of C5.out 0
          refine wpAnyH_ready (rs := [9]) (by kernel_rfl) (by simp) ?_
          refine AllReadyH.cons rfl (fun K hK => ?_) AllReadyH.nil
          rw [if_pos (by rfl)]
          go_simp
          refine hK.out _ _ ?_ (fun hHeld => ?_)
          · exact B6.out
          clear hK K
          try simp only [List.getElem_toArray, List.getElem_cons_succ, List.getElem_cons_zero, Act.put, List.setIfInBounds_toArray, List.set_cons_zero, List.set_cons_succ]
          refine wpAnyH_done (by kernel_rfl) ?_ _
          generalize w5.setCell ⟨w.heap.size + 2, 0, none⟩ (.slice A6 (i + 1) c6) = w6 at C6 S6 B6 L6 ⊢
          clear m0 m1 f0
          go_wp2_with fail
          go_roundw
          case measure => have := HLT.out; simp [intOf]; omega
          case rel => exact ⟨i + 1, _, by have := HLT.out; omega, by go_num, C6.out, S6.out, HB.out.trans B6.out, L6.out⟩
        · go_simp
          refine hK.out _ _ ?_ (fun hHeld => ?_)
          · exact MB4.out.mono (by have := HQ.out; omega)
          clear hK K
          try simp only [List.getElem_toArray, List.getElem_cons_succ, List.getElem_cons_zero, Act.put, List.setIfInBounds_toArray, List.set_cons_zero, List.set_cons_succ]
          refine wpAnyH_ready (rs := [1]) (by kernel_rfl) (by simp) ?_
          refine AllReadyH.cons rfl (fun K hK => ?_) AllReadyH.nil
          obtain ⟨k0, k1⟩ := cell2_of ((MB4.out.block _ (heap_lt HD.out)).trans HD.out)
          go_simp
          refine hK.out _ _ ?_ (fun hHeld => ?_)
          · exact MB4.out.mono (by have := HQ.out; omega)
          clear hK K
          try simp only [List.getElem_toArray, List.getElem_cons_succ, List.getElem_cons_zero, Act.put, List.setIfInBounds_toArray, List.set_cons_zero, List.set_cons_succ]
          refine wpAnyH_ready (rs := [7]) (by kernel_rfl) (by simp) ?_
          refine AllReadyH.cons rfl (fun K hK => ?_) AllReadyH.nil
          rw [if_pos (by rfl)]
          refine wp_append_any (.tmp 12) (.tmp 17) _ rfl Try.underlying22 I0.out I1.out rfl I2.out (by decide) I3.out (by decide) rfl ((owns_below O.out MB.out).alloc _) (m := 1) rfl (news := [.slice A7 128 c7]) rfl (fun j u hj => by rw [World.cell?_alloc_new]; simpa using hj) (by simp [Value.oneCell']) (by have := HLT.out; omega) (Nat.le_trans HQ.out MB4.out.size) ?_
          intro v5 w5 hown5 hgrow5
          obtain ⟨hc5, hb5, hc6, hs6, -, hb6, hl6⟩ := box_secs (p := w.heap.size + 2) (ss := R.take i) (s := rowR ss ws ks i) (ws := []) (by omega) HD.out (by rw [HTI.out]; exact O.out) (by rw [HTI.out]; exact YL.out) E.out D.out (WtsAt.nil_ _ _) HQ.out MB.out (by rw [HRR.out i HLT.out]; exact MR.out) (by rw [HRR.out i HLT.out]; unfold maxLen; omega) (by rw [HTI.out]; have := HLT.out; unfold maxLen; omega) (by rw [HTI.out]; exact hown5) hgrow5
          rw [take_snocR (HRA.out i HLT.out)] at hs6
          obtain ⟨A6, c6, h6⟩ := own_slice2_ hown5
          subst h6
          have C5 := Lib.hid hc5
          have B5 := Lib.hid hb5
          have C6 := Lib.hid hc6
          have S6 := Lib.hid hs6
          have B6 := Lib.hid hb6
          have L6 := Lib.hid hl6
          clear hown5 hgrow5 hc5 hb5 hc6 hs6 hb6 hl6
          refine hK.out _ _ ?_ (fun hHeld => ?_)
          · exact B5.out.mono (by omega)
          clear hK K
          try simp only [List.getElem_toArray, List.getElem_cons_succ, List.getElem_cons_zero, Act.put, List.setIfInBounds_toArray, List.set_cons_zero, List.set_cons_succ]
          refine wpAnyH_take (i := 8) (v := ?_) rfl (by kernel_rfl) (by kernel_rfl) (by kernel_rfl) (fun _ _ _ h => h) (Or.inl ⟨by rfl, ?_⟩) hHeld ?_
          rotate_left
          · intro w' hSw; go_simp; try with_reducible rfl
          simp only [List.getElem_toArray, List.getElem_cons_succ, List.getElem_cons_zero, Act.put, List.setIfInBounds_toArray, List.set_cons_zero, List.set_cons_succ]
          obtain ⟨m0, m1⟩ := cell2_of C5.out
          have f0 := frozen2_of C5.out 0
          refine wpAnyH_ready (rs := [9]) (by kernel_rfl) (by simp) ?_
          refine AllReadyH.cons rfl (fun K hK => ?_) AllReadyH.nil
          rw [if_pos (by rfl)]
          go_simp
          refine hK.out _ _ ?_ (fun hHeld => ?_)
          · exact B6.out
          clear hK K
          try simp only [List.getElem_toArray, List.getElem_cons_succ, List.getElem_cons_zero, Act.put, List.setIfInBounds_toArray, List.set_cons_zero, List.set_cons_succ]
          refine wpAnyH_done (by kernel_rfl) ?_ _
          generalize w5.setCell ⟨w.heap.size + 2, 0, none⟩ (.slice A6 (i + 1) c6) = w6 at C6 S6 B6 L6 ⊢
          clear m0 m1 f0
          go_wp2_with fail
          go_roundw
          case measure => have := HLT.out; simp [intOf]; omega
          case rel => exact ⟨i + 1, _, by have := HLT.out; omega, by go_num, C6.out, S6.out, HB.out.trans B6.out, L6.out⟩
    · obtain rfl : i = 32 := by omega
      have hlt' : ¬ ((32 : Nat) : Int) < 32 := by omega
      have hRR : R.take 32 = R := List.take_of_length_le (by rw [HRL.out]; exact Nat.le_refl _)
      rw [hRR] at hs
      have HS := Lib.hid hs
      obtain ⟨d0, d1⟩ := cell2_of hd
      have H1 := Lib.hid ((hb.block (w.heap.size + 1) (by omega)).trans Q1.out)
      obtain ⟨r0, r1⟩ := cell2_of H1.out
      have f0 := frozen2_of H1.out 0
      have f1 := frozen2_of H1.out 1
      clear hd hb hqs hs hlt hi hRR hti
      go_wp2_with fail
      have hgr := grown_set2 wr (w.heap.size + 1) (.slice A 32 c) (.slice none 0 0)
      refine bodyPost_ret (v := .agg #[.slice A 32 c, .slice none 0 0]) ?_ rfl ⟨_, rfl, ?_, ?_⟩
      · exact results_cell_2 rfl _ _ (w.heap.size + 1) rfl (heap_set2 H1.out _ _) Try.underlying25 infoDisk2
      · exact (secs_grown HS.out hgr (by omega)).mono (by omega)
      · exact WB.out.trans ((Below.refl _ _).grown hgr WB.out.size (fun k hk => by cases hk; omega))

theorem synced_any (d : Value) (ss : List Bs) (ws : List Wr) (w : World) (h : DiskIn w w.heap.size d ss ws) (hm : May ss ws) :
    Calls Try.prog 46 #[d] w fun e w' => ∃ v1, e = .returned (.agg #[v1, .slice none 0 0]) ∧ SecsAt w' w.heap.size v1 (comes ss ws (all128 ws)) ∧ Below w.heap.size w w' := by
  obtain ⟨v1, v2, rfl, h1, h2⟩ := id h
  have H := Lib.hid h
  have HM := Lib.hid hm
  have hq := two_boxes w (.cells #[v1, v2] 25) (.cells #[.slice none 0 0, .slice none 0 0] 25)
  clear h1 h2 h hm
  go_enter Try.func46, Try.ntmps46
  go_wp2_with fail
  generalize (w.alloc (.cells #[v1, v2] 25)).alloc (.cells #[.slice none 0 0, .slice none 0 0] 25) = q at hq ⊢
  obtain ⟨q0, q1, qb⟩ := hq
  have QB := Lib.hid qb
  refine (comes_any _ _ ss ws [] q ((H.out.below QB.out).more QB.out.size) ⟨none, 0, rfl, Nat.le_refl _, Nat.zero_le _, fun _ => rfl, fun h => absurd h (by simp)⟩ HM.out (.inl rfl)).mono ?_
  rintro e w1 ⟨y1, rfl, hs, b1⟩
  have S1 : Hid (SecsAt w1 q.heap.size y1 (comes ss ws (all128 ws))) := Lib.hid hs
  have B1 := Lib.hid (QB.out.trans (b1.mono QB.out.size))
  have C1 := Lib.hid ((b1.block _ (heap_lt q1)).trans q1)
  have L1 := Lib.hid (heap_lt q1)
  obtain ⟨A2, c2, rfl⟩ := secs_slice S1.out
  clear q0 q1 qb b1 hs QB
  obtain ⟨r0, r1⟩ := cell2_of C1.out
  have f0 := frozen2_of C1.out 0
  have f1 := frozen2_of C1.out 1
  go_wp2_with fail
  refine bodyPost_ret (v := .agg #[.slice A2 (comes ss ws (all128 ws)).length c2, .slice none 0 0]) ?_ rfl ⟨_, rfl, ?_, below_set2 B1.out (by omega) _ _⟩
  · exact results_cell_2 rfl _ _ (w.heap.size + 1) rfl (heap_set2 C1.out _ _) Try.underlying25 infoDisk2
  · exact (secs_grown S1.out (grown_set2 w1 (w.heap.size + 1) _ _) L1.out).mono (Nat.le_trans (Nat.le_succ _) (Nat.le_of_lt L1.out))
theorem seen_any (d : Value) (ss : List Bs) (ws : List Wr) (w : World) (h : DiskIn w w.heap.size d ss ws) (hm : May ss ws) {a : Nat} (ha : a < ss.length) :
    Calls Try.prog 44 #[d, .int .i64 (a : Int)] w fun e w' => ∃ y, e = .returned y ∧ w'.ownsRow w.heap.size 5 1 y 128 ((rowR ss ws [] a).map u8) ∧ Below w.heap.size w w' := by
  obtain ⟨v1, v2, rfl, h1, h2⟩ := id h
  have H := Lib.hid h
  have HM := Lib.hid hm
  have HA := Lib.hid ha
  have qb := below_new w (.cells #[v1, v2] 25)
  have q0 := heap_alloc_self w (.cells #[v1, v2] 25)
  clear h1 h2 h hm ha
  go_enter Try.func44, Try.ntmps44
  go_wp2_with fail
  generalize w.alloc (.cells #[v1, v2] 25) = q at q0 qb ⊢
  have QB := Lib.hid qb
  refine (row_any _ _ ss ws [] q ((H.out.below QB.out).more QB.out.size) ⟨none, 0, rfl, Nat.le_refl _, Nat.zero_le _, fun _ => rfl, fun h => absurd h (by simp)⟩ HM.out (.inl rfl) HA.out).mono ?_
  rintro e w1 ⟨y, rfl, ho, b1⟩
  have O := Lib.hid ho
  have B1 := Lib.hid (QB.out.trans (b1.mono QB.out.size))
  obtain ⟨A2, c2, rfl⟩ := own_slice_ ho
  clear ho b1 q0 qb
  go_wp2_with fail
  go_ret
  exact ⟨_, rfl, owns_mono O.out QB.out.size, B1.out⟩
end Go.Proofs.Ytdpjdobmnkadjaa
