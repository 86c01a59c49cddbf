/-
  The document's own functions: New.
  Conditions: none.
-/
import Derived.Test.YtdpjdobmnkadjaaRefBox
set_option linter.unusedVariables false
set_option linter.unusedSimpArgs false
namespace Go.Proofs.Ytdpjdobmnkadjaa
open Go.RowKit

def lenC : Option Value → Nat
  | some (.slice _ n _) => n
  | _ => 0

set_option maxHeartbeats 4000000 in
theorem rnew_any (w : World) : Calls Try.prog 27 #[] w fun e w' => ∃ v1, e = .returned (.agg #[v1, .slice none 0 0]) ∧ SecsAt w' w.heap.size v1 newD ∧ Below w.heap.size w w' := by
  obtain ⟨i0, hi, hz0, hz1, hz2⟩ := info_parts infoSlice
  have I0 := Lib.hid hi
  have I1 := Lib.hid hz0
  have I2 := Lib.hid hz1
  have I3 := Lib.hid hz2
  clear hi hz0 hz1 hz2
  have hq := two_boxes w (.cells #[.slice none 0 0, .slice none 0 0] 25) (.cells #[.slice none 0 0, .slice none 0 0] 25)
  have hqs : ((w.alloc (.cells #[.slice none 0 0, .slice none 0 0] 25)).alloc (.cells #[.slice none 0 0, .slice none 0 0] 25)).heap.size = w.heap.size + 2 := by simp
  go_enter Try.func27, Try.ntmps27
  go_wp2_with fail
  generalize (w.alloc (.cells #[.slice none 0 0, .slice none 0 0] 25)).alloc (.cells #[.slice none 0 0, .slice none 0 0] 25) = q at hq hqs ⊢
  obtain ⟨q0, q1, qb⟩ := hq
  have QB := Lib.hid qb
  have Q0 := Lib.hid q0
  have Q1 := Lib.hid q1
  have QS := Lib.hid hqs
  clear q0 q1 qb hqs
  go_loopw [2] (fun s2 wr => ∃ (i : Nat) (v : Value), i ≤ 32 ∧ wr.heap[w.heap.size + 1]? = some (.cells #[v, .slice none 0 0] 25 (0, 0)) ∧ SecsAt wr (w.heap.size + 2) v (List.replicate i z128) ∧ Below (w.heap.size + 1) q wr ∧ w.heap.size + 2 ≤ wr.heap.size) (fun _ wr => 32 - lenC (wr.cell? ⟨w.heap.size + 1, 0, none⟩))
  case atStart => exact ⟨0, _, by omega, Q1.out, SecsAt.nil_ _ _, Below.refl _ _, by rw [QS.out]; exact Nat.le_refl _⟩
  case round =>
    obtain ⟨i, v, hi, hd, hs, hb, hqs⟩ := hrel
    obtain ⟨A, c, hv⟩ := secs_slice hs
    rw [List.length_replicate] at hv
    subst hv
    have HD := Lib.hid hd
    have HB := Lib.hid hb
    have HQ := Lib.hid hqs
    have WB : Hid (Below w.heap.size w wr) := Lib.hid (QB.out.trans (hb.mono (by omega)))
    by_cases hlt : i < 32
    · have hlt' : (i : Int) < 32 := by omega
      obtain ⟨ys, hown, hyl, hm, he, hdd⟩ := hs
      rw [List.length_replicate] at hown hyl
      have O := Lib.hid hown
      have YL := Lib.hid hyl
      have E := Lib.hid he
      have D := Lib.hid hdd
      have HLT := Lib.hid hlt
      clear hd hb hqs hown hyl hm he hdd hlt
      obtain ⟨o, hmk, hmr⟩ := made_row2 wr
      have MR := Lib.hid hmr
      have MB : Hid (Below wr.heap.size wr (wr.alloc o).drew) := Lib.hid (below_new wr o).drew
      clear hmr
      have B4 : Hid (∀ w3, Below wr.heap.size wr w3 → Below wr.heap.size wr (w3.alloc (.cells #[.slice (some ⟨wr.heap.size, 0, none⟩) 128 128] 30))) := Lib.hid (fun w3 h => h.alloc h.size _)
      obtain ⟨d0, d1⟩ := cell2_of HD.out
      go_wp2_with fail
      refine wp_region_held_drew (S := fun _ => True) (by kernel_rfl) trivial (fun hHeld => ?_)
      refine wpAnyH_take (i := 0) (v := ?_) rfl (by kernel_rfl) (by kernel_rfl) (by kernel_rfl) (fun _ _ _ h => h) (Or.inl ⟨by rfl, ?_⟩) hHeld ?_
      rotate_left
      · intro w' hSw; go_simp; try with_reducible rfl
      simp only [List.getElem_toArray, List.getElem_cons_succ, List.getElem_cons_zero, Act.put, List.setIfInBounds_toArray, List.set_cons_zero, List.set_cons_succ]
      refine wpAnyH_ready (rs := [1, 2]) (by kernel_rfl) (by simp) ?_
      refine AllReadyH.cons rfl (fun K hK => ?_) (AllReadyH.cons rfl (fun K hK => ?_) AllReadyH.nil)
      · go_simp
        refine hK.out _ _ ?_ (fun hHeld => ?_)
        · exact trivial
        clear hK K
        try simp only [List.getElem_toArray, List.getElem_cons_succ, List.getElem_cons_zero, Act.put, List.setIfInBounds_toArray, List.set_cons_zero, List.set_cons_succ]
        refine wpAnyH_ready (rs := [2]) (by kernel_rfl) (by simp) ?_
        refine AllReadyH.cons rfl (fun K hK => ?_) AllReadyH.nil
        go_simp
        refine hK.out _ _ ?_ (fun hHeld => ?_)
        · exact trivial
        clear hK K
        try simp only [List.getElem_toArray, List.getElem_cons_succ, List.getElem_cons_zero, Act.put, List.setIfInBounds_toArray, List.set_cons_zero, List.set_cons_succ]
        generalize (wr.alloc o).drew = w3 at MR MB ⊢
        clear hmk
        refine wpAnyH_ready (rs := [3]) (by kernel_rfl) (by simp) ?_
        refine AllReadyH.cons rfl (fun K hK => ?_) AllReadyH.nil
        go_simp
        refine hK.out _ _ ?_ (fun hHeld => ?_)
        · exact trivial
        clear hK K
        try simp only [List.getElem_toArray, List.getElem_cons_succ, List.getElem_cons_zero, Act.put, List.setIfInBounds_toArray, List.set_cons_zero, List.set_cons_succ]
        refine wpAnyH_ready (rs := [4]) (by kernel_rfl) (by simp) ?_
        refine AllReadyH.cons rfl (fun K hK => ?_) AllReadyH.nil
        rw [if_pos (by rfl)]
        refine wp_append_any (.tmp 7) (.tmp 9) _ rfl Try.underlying22 I0.out I1.out rfl I2.out (by decide) I3.out (by decide) rfl ((owns_below O.out MB.out).alloc _) (m := 1) rfl (news := [.slice (some ⟨wr.heap.size, 0, none⟩) 128 128]) rfl (fun j u hj => by rw [World.cell?_alloc_new]; simpa using hj) (by simp [Value.oneCell']) (by have := HLT.out; omega) (Nat.le_trans HQ.out (B4.out w3 MB.out).size) ?_
        intro v5 w5 hown5 hgrow5
        obtain ⟨hc5, hb5, hc6, hs6, -, hb6, hl6⟩ := box_secs (p := w.heap.size + 1) (ss := List.replicate i z128) (s := z128) (ws := []) (by omega) HD.out (by rw [List.length_replicate]; exact O.out) (by rw [List.length_replicate]; exact YL.out) E.out D.out (WtsAt.nil_ _ _) HQ.out MB.out (by rw [z128_length]; exact MR.out) (by rw [z128_length]; unfold maxLen; omega) (by rw [List.length_replicate]; have := HLT.out; unfold maxLen; omega) (by rw [List.length_replicate]; exact hown5) hgrow5
        rw [← List.replicate_succ'] at hs6
        obtain ⟨A6, c6, h6⟩ := own_slice2_ hown5
        subst h6
        have C5 := Lib.hid hc5
        have C6 := Lib.hid hc6
        have S6 := Lib.hid hs6
        have B6 := Lib.hid hb6
        have L6 := Lib.hid hl6
        clear hown5 hgrow5 hc5 hb5 hc6 hs6 hb6 hl6
        refine hK.out _ _ ?_ (fun hHeld => ?_)
        · exact trivial
        clear hK K
        try simp only [List.getElem_toArray, List.getElem_cons_succ, List.getElem_cons_zero, Act.put, List.setIfInBounds_toArray, List.set_cons_zero, List.set_cons_succ]
        refine wpAnyH_take (i := 5) (v := ?_) rfl (by kernel_rfl) (by kernel_rfl) (by kernel_rfl) (fun _ _ _ h => h) (Or.inl ⟨by rfl, ?_⟩) hHeld ?_
        rotate_left
        · intro w' hSw; go_simp; try with_reducible rfl
        simp only [List.getElem_toArray, List.getElem_cons_succ, List.getElem_cons_zero, Act.put, List.setIfInBounds_toArray, List.set_cons_zero, List.set_cons_succ]
        obtain ⟨m0, m1⟩ := cell2_of C5.out
        have f0 := frozen2_of C5.out 0
        refine wpAnyH_ready (rs := [6]) (by kernel_rfl) (by simp) ?_
        refine AllReadyH.cons rfl (fun K hK => ?_) AllReadyH.nil
        rw [if_pos (by rfl)]
        go_simp
        refine hK.out _ _ ?_ (fun hHeld => ?_)
        · exact trivial
        clear hK K
        try simp only [List.getElem_toArray, List.getElem_cons_succ, List.getElem_cons_zero, Act.put, List.setIfInBounds_toArray, List.set_cons_zero, List.set_cons_succ]
        refine wpAnyH_done (by kernel_rfl) ?_ _
        generalize w5.setCell ⟨w.heap.size + 1, 0, none⟩ (.slice A6 (i + 1) c6) = w6 at C6 S6 B6 L6 ⊢
        clear m0 m1 f0
        go_wp2_with fail
        go_roundw
        case measure =>
          have e1 : lenC (w6.cell? ⟨w.heap.size + 1, 0, none⟩) = i + 1 := by rw [(cell2_of C6.out).1]; rfl
          have e2 : lenC (wr.cell? ⟨w.heap.size + 1, 0, none⟩) = i := by rw [(cell2_of HD.out).1]; rfl
          have := HLT.out
          omega
        case rel => exact ⟨i + 1, _, by have := HLT.out; omega, C6.out, S6.out, HB.out.trans B6.out, L6.out⟩
      · go_simp
        refine hK.out _ _ ?_ (fun hHeld => ?_)
        · exact trivial
        clear hK K
        try simp only [List.getElem_toArray, List.getElem_cons_succ, List.getElem_cons_zero, Act.put, List.setIfInBounds_toArray, List.set_cons_zero, List.set_cons_succ]
        generalize (wr.alloc o).drew = w3 at MR MB ⊢
        clear hmk
        refine wpAnyH_ready (rs := [1, 3]) (by kernel_rfl) (by simp) ?_
        refine AllReadyH.cons rfl (fun K hK => ?_) (AllReadyH.cons rfl (fun K hK => ?_) AllReadyH.nil)
        · obtain ⟨k0, k1⟩ := cell2_of ((MB.out.block _ (heap_lt HD.out)).trans HD.out)
          go_simp
          refine hK.out _ _ ?_ (fun hHeld => ?_)
          · exact trivial
          clear hK K
          try simp only [List.getElem_toArray, List.getElem_cons_succ, List.getElem_cons_zero, Act.put, List.setIfInBounds_toArray, List.set_cons_zero, List.set_cons_succ]
          refine wpAnyH_ready (rs := [3]) (by kernel_rfl) (by simp) ?_
          refine AllReadyH.cons rfl (fun K hK => ?_) AllReadyH.nil
          go_simp
          refine hK.out _ _ ?_ (fun hHeld => ?_)
          · exact trivial
          clear hK K
          try simp only [List.getElem_toArray, List.getElem_cons_succ, List.getElem_cons_zero, Act.put, List.setIfInBounds_toArray, List.set_cons_zero, List.set_cons_succ]
          refine wpAnyH_ready (rs := [4]) (by kernel_rfl) (by simp) ?_
          refine AllReadyH.cons rfl (fun K hK => ?_) AllReadyH.nil
          rw [if_pos (by rfl)]
          refine wp_append_any (.tmp 7) (.tmp 9) _ rfl Try.underlying22 I0.out I1.out rfl I2.out (by decide) I3.out (by decide) rfl ((owns_below O.out MB.out).alloc _) (m := 1) rfl (news := [.slice (some ⟨wr.heap.size, 0, none⟩) 128 128]) rfl (fun j u hj => by rw [World.cell?_alloc_new]; simpa using hj) (by simp [Value.oneCell']) (by have := HLT.out; omega) (Nat.le_trans HQ.out (B4.out w3 MB.out).size) ?_
          intro v5 w5 hown5 hgrow5
          obtain ⟨hc5, hb5, hc6, hs6, -, hb6, hl6⟩ := box_secs (p := w.heap.size + 1) (ss := List.replicate i z128) (s := z128) (ws := []) (by omega) HD.out (by rw [List.length_replicate]; exact O.out) (by rw [List.length_replicate]; exact YL.out) E.out D.out (WtsAt.nil_ _ _) HQ.out MB.out (by rw [z128_length]; exact MR.out) (by rw [z128_length]; unfold maxLen; omega) (by rw [List.length_replicate]; have := HLT.out; unfold maxLen; omega) (by rw [List.length_replicate]; exact hown5) hgrow5
          rw [← List.replicate_succ'] at hs6
          obtain ⟨A6, c6, h6⟩ := own_slice2_ hown5
          subst h6
          have C5 := Lib.hid hc5
          have C6 := Lib.hid hc6
          have S6 := Lib.hid hs6
          have B6 := Lib.hid hb6
          have L6 := Lib.hid hl6
          clear hown5 hgrow5 hc5 hb5 hc6 hs6 hb6 hl6
          refine hK.out _ _ ?_ (fun hHeld => ?_)
          · exact trivial
          clear hK K
          try simp only [List.getElem_toArray, List.getElem_cons_succ, List.getElem_cons_zero, Act.put, List.setIfInBounds_toArray, List.set_cons_zero, List.set_cons_succ]
          refine wpAnyH_take (i := 5) (v := ?_) rfl (by kernel_rfl) (by kernel_rfl) (by kernel_rfl) (fun _ _ _ h => h) (Or.inl ⟨by rfl, ?_⟩) hHeld ?_
          rotate_left
          · intro w' hSw; go_simp; try with_reducible rfl
          simp only [List.getElem_toArray, List.getElem_cons_succ, List.getElem_cons_zero, Act.put, List.setIfInBounds_toArray, List.set_cons_zero, List.set_cons_succ]
          obtain ⟨m0, m1⟩ := cell2_of C5.out
          have f0 := frozen2_of C5.out 0
          refine wpAnyH_ready (rs := [6]) (by kernel_rfl) (by simp) ?_
          refine AllReadyH.cons rfl (fun K hK => ?_) AllReadyH.nil
          rw [if_pos (by rfl)]
          go_simp
          refine hK.out _ _ ?_ (fun hHeld => ?_)
          · exact trivial
          clear hK K
          try simp only [List.getElem_toArray, List.getElem_cons_succ, List.getElem_cons_zero, Act.put, List.setIfInBounds_toArray, List.set_cons_zero, List.set_cons_succ]
          refine wpAnyH_done (by kernel_rfl) ?_ _
          generalize w5.setCell ⟨w.heap.size + 1, 0, none⟩ (.slice A6 (i + 1) c6) = w6 at C6 S6 B6 L6 ⊢
          clear m0 m1 f0
          go_wp2_with fail
          go_roundw
          case measure =>
            have e1 : lenC (w6.cell? ⟨w.heap.size + 1, 0, none⟩) = i + 1 := by rw [(cell2_of C6.out).1]; rfl
            have e2 : lenC (wr.cell? ⟨w.heap.size + 1, 0, none⟩) = i := by rw [(cell2_of HD.out).1]; rfl
            have := HLT.out
            omega
          case rel => exact ⟨i + 1, _, by have := HLT.out; omega, C6.out, S6.out, HB.out.trans B6.out, L6.out⟩
        · go_simp
          refine hK.out _ _ ?_ (fun hHeld => ?_)
          · exact trivial
          clear hK K
          try simp only [List.getElem_toArray, List.getElem_cons_succ, List.getElem_cons_zero, Act.put, List.setIfInBounds_toArray, List.set_cons_zero, List.set_cons_succ]
          refine wpAnyH_ready (rs := [1]) (by kernel_rfl) (by simp) ?_
          refine AllReadyH.cons rfl (fun K hK => ?_) AllReadyH.nil
          obtain ⟨k0, k1⟩ := cell2_of (((B4.out w3 MB.out).block _ (heap_lt HD.out)).trans HD.out)
          go_simp
          refine hK.out _ _ ?_ (fun hHeld => ?_)
          · exact trivial
          clear hK K
          try simp only [List.getElem_toArray, List.getElem_cons_succ, List.getElem_cons_zero, Act.put, List.setIfInBounds_toArray, List.set_cons_zero, List.set_cons_succ]
          refine wpAnyH_ready (rs := [4]) (by kernel_rfl) (by simp) ?_
          refine AllReadyH.cons rfl (fun K hK => ?_) AllReadyH.nil
          rw [if_pos (by rfl)]
          refine wp_append_any (.tmp 7) (.tmp 9) _ rfl Try.underlying22 I0.out I1.out rfl I2.out (by decide) I3.out (by decide) rfl ((owns_below O.out MB.out).alloc _) (m := 1) rfl (news := [.slice (some ⟨wr.heap.size, 0, none⟩) 128 128]) rfl (fun j u hj => by rw [World.cell?_alloc_new]; simpa using hj) (by simp [Value.oneCell']) (by have := HLT.out; omega) (Nat.le_trans HQ.out (B4.out w3 MB.out).size) ?_
          intro v5 w5 hown5 hgrow5
          obtain ⟨hc5, hb5, hc6, hs6, -, hb6, hl6⟩ := box_secs (p := w.heap.size + 1) (ss := List.replicate i z128) (s := z128) (ws := []) (by omega) HD.out (by rw [List.length_replicate]; exact O.out) (by rw [List.length_replicate]; exact YL.out) E.out D.out (WtsAt.nil_ _ _) HQ.out MB.out (by rw [z128_length]; exact MR.out) (by rw [z128_length]; unfold maxLen; omega) (by rw [List.length_replicate]; have := HLT.out; unfold maxLen; omega) (by rw [List.length_replicate]; exact hown5) hgrow5
          rw [← List.replicate_succ'] at hs6
          obtain ⟨A6, c6, h6⟩ := own_slice2_ hown5
          subst h6
          have C5 := Lib.hid hc5
          have C6 := Lib.hid hc6
          have S6 := Lib.hid hs6
          have B6 := Lib.hid hb6
          have L6 := Lib.hid hl6
          clear hown5 hgrow5 hc5 hb5 hc6 hs6 hb6 hl6
          refine hK.out _ _ ?_ (fun hHeld => ?_)
          · exact trivial
          clear hK K
          try simp only [List.getElem_toArray, List.getElem_cons_succ, List.getElem_cons_zero, Act.put, List.setIfInBounds_toArray, List.set_cons_zero, List.set_cons_succ]
          refine wpAnyH_take (i := 5) (v := ?_) rfl (by kernel_rfl) (by kernel_rfl) (by kernel_rfl) (fun _ _ _ h => h) (Or.inl ⟨by rfl, ?_⟩) hHeld ?_
          rotate_left
          · intro w' hSw; go_simp; try with_reducible rfl
          simp only [List.getElem_toArray, List.getElem_cons_succ, List.getElem_cons_zero, Act.put, List.setIfInBounds_toArray, List.set_cons_zero, List.set_cons_succ]
          obtain ⟨m0, m1⟩ := cell2_of C5.out
          have f0 := frozen2_of C5.out 0
          refine wpAnyH_ready (rs := [6]) (by kernel_rfl) (by simp) ?_
          refine AllReadyH.cons rfl (fun K hK => ?_) AllReadyH.nil
          rw [if_pos (by rfl)]
          go_simp
          refine hK.out _ _ ?_ (fun hHeld => ?_)
          · exact trivial
          clear hK K
          try simp only [List.getElem_toArray, List.getElem_cons_succ, List.getElem_cons_zero, Act.put, List.setIfInBounds_toArray, List.set_cons_zero, List.set_cons_succ]
          refine wpAnyH_done (by kernel_rfl) ?_ _
          generalize w5.setCell ⟨w.heap.size + 1, 0, none⟩ (.slice A6 (i + 1) c6) = w6 at C6 S6 B6 L6 ⊢
          clear m0 m1 f0
          go_wp2_with fail
          go_roundw
          case measure =>
            have e1 : lenC (w6.cell? ⟨w.heap.size + 1, 0, none⟩) = i + 1 := by rw [(cell2_of C6.out).1]; rfl
            have e2 : lenC (wr.cell? ⟨w.heap.size + 1, 0, none⟩) = i := by rw [(cell2_of HD.out).1]; rfl
            have := HLT.out
            omega
          case rel => exact ⟨i + 1, _, by have := HLT.out; omega, C6.out, S6.out, HB.out.trans B6.out, L6.out⟩
    · obtain rfl : i = 32 := by omega
      have hlt' : ¬ ((32 : Nat) : Int) < 32 := by omega
      have HS := Lib.hid hs
      obtain ⟨d0, d1⟩ := cell2_of hd
      have H1 := Lib.hid ((hb.block w.heap.size (by omega)).trans Q0.out)
      obtain ⟨r0, r1⟩ := cell2_of H1.out
      have f0 := frozen2_of H1.out 0
      have f1 := frozen2_of H1.out 1
      clear hd hb hqs hs hlt hi
      go_wp2_with fail
      have hgr := grown_set2 wr w.heap.size (.slice A 32 c) (.slice none 0 0)
      refine bodyPost_ret (v := .agg #[.slice A 32 c, .slice none 0 0]) ?_ rfl ⟨_, rfl, ?_, ?_⟩
      · exact results_cell_2 rfl _ _ w.heap.size rfl (heap_set2 H1.out _ _) Try.underlying25 infoDisk2
      · exact (secs_grown HS.out hgr (by omega)).mono (by omega)
      · exact WB.out.trans ((Below.refl _ _).grown hgr WB.out.size (fun k hk => by cases hk; exact Nat.le_refl _))
end Go.Proofs.Ytdpjdobmnkadjaa
