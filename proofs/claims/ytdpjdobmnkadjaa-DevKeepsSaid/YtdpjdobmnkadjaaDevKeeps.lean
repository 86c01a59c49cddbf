/-
  The statement DevKeeps' text returns true: disks are compared and copied as the document says, and what any call answers shares no memory with the disk.
  Conditions: each list is as long as a list may be that is read before the call.
-/
import Derived.Test.YtdpjdobmnkadjaaRefGreat
import Derived.Test.YtdpjdobmnkadjaaRefToldI
import Derived.Test.YtdpjdobmnkadjaaDevTurn
import Derived.Test.YtdpjdobmnkadjaaDevNums
import Derived.Test.YtdpjdobmnkadjaaDevTears
import Derived.Test.YtdpjdobmnkadjaaDevReads
import Derived.Deep.CutRange
set_option linter.unusedVariables false
set_option linter.unusedSimpArgs false
namespace Go.Proofs.Ytdpjdobmnkadjaa
open Go.RowKit

theorem sameT_small {ss tt : List Bs} {ws vs : List Wr} (h1 : Small ss ws) (r1 : Reach47 ss ws) (h2 : Small tt vs) (r2 : Reach47 tt vs) : sameT ss tt ws vs = decide (ss = tt ∧ ws = vs) :=
  sameT_eq (fun s hs => by have := sumS_mem hs; have := h1.t; omega) (fun s hs => by have := sumS_mem hs; have := h2.t; omega) (fun x hx => ⟨by have := sumW_mem hx; have := h1.t; omega, (r1.w x hx).2⟩) (fun x hx => ⟨by have := sumW_mem hx; have := h2.t; omega, (r2.w x hx).2⟩)

set_option maxRecDepth 100000 in
set_option maxHeartbeats 8000000 in
theorem walk_keeps (d o bv : Value) (ss tt : List Bs) (ws vs : List Wr) (n : Int) (bs : Bs) (w : World) (h : DiskIn w w.heap.size d ss ws) (h' : DiskIn w w.heap.size o tt vs) (hx : Txt w w.heap.size bv bs) (hr : Reach47 ss ws) (hr' : Reach47 tt vs) :
    Calls Try.prog 6 #[d, o, .int .i64 n, bv] w fun e w' => e = .returned (.bool true) ∧ Below w.heap.size w w' := by
  obtain ⟨v1, v2, rfl, h1, h2⟩ := id h
  obtain ⟨y1, y2, rfl, h3, h4⟩ := id h'
  have H := Lib.hid h
  have H' := Lib.hid h'
  have TX := Lib.hid hx
  have HR := Lib.hid hr
  have HR' := Lib.hid hr'
  obtain ⟨A1, c1, rfl, -, -, -, -⟩ := h1
  obtain ⟨A2, c2, rfl, -, -, -, -⟩ := h2
  obtain ⟨A3, c3, rfl, -, -, -, -⟩ := h3
  obtain ⟨A4, c4, rfl, -, -, -, -⟩ := h4
  obtain ⟨A5, c5, rfl, -, -, -, -⟩ := hx
  have hbl : (bs.length : Int) ≤ 9223372036854775807 := by have := TX.out.le; unfold maxLen at this; omega
  have hq := two_boxes w (.cells #[.slice A1 ss.length c1, .slice A2 ws.length c2] 25) (.cells #[.slice A3 tt.length c3, .slice A4 vs.length c4] 25)
  clear h h' hr hr'
  go_enter Try.func6, Try.ntmps6
  go_wp2_with fail
  generalize (w.alloc (.cells #[.slice A1 ss.length c1, .slice A2 ws.length c2] 25)).alloc (.cells #[.slice A3 tt.length c3, .slice A4 vs.length c4] 25) = q at hq ⊢
  obtain ⟨q0, q1, qb⟩ := hq
  generalize hp0 : w.heap.size = p0 at q0 q1 ⊢
  have HP0 := Lib.hid hp0
  clear hp0
  refine (great_small _ ss ws q ((H.out.below qb).more qb.size) HR.out).mono ?_
  rintro e w1 ⟨⟨g1, rfl, hg1⟩, b1⟩
  have BW := Lib.hid (qb.trans (b1.mono qb.size))
  have XD := Lib.hid ((b1.block _ (heap_lt q0)).trans q0)
  have XP := Lib.hid ((b1.block _ (heap_lt q1)).trans q1)
  obtain ⟨k0, k1⟩ := cell2_of XD.out
  obtain ⟨k2, k3⟩ := cell2_of XP.out
  clear q0 q1 qb b1
  cases g1 with
  | true =>
    clear hg1
    go_wp2_with fail
    go_ret
    exact ⟨rfl, HP0.out ▸ BW.out⟩
  | false =>
    have SM := Lib.hid (hg1 rfl)
    clear hg1
    go_wp2_with fail
    refine (great_small _ tt vs w1 ((H'.out.below BW.out).more BW.out.size) HR'.out).mono ?_
    rintro e w2 ⟨⟨g2, rfl, hg2⟩, b2⟩
    have tBW := BW.out.trans (b2.mono BW.out.size)
    have tXD := (b2.block _ (heap_lt XD.out)).trans XD.out
    have tXP := (b2.block _ (heap_lt XP.out)).trans XP.out
    clear BW XD XP k0 k1 k2 k3
    have BW := Lib.hid tBW
    have XD := Lib.hid tXD
    have XP := Lib.hid tXP
    clear tBW tXD tXP b2
    obtain ⟨k0, k1⟩ := cell2_of XD.out
    obtain ⟨k2, k3⟩ := cell2_of XP.out
    cases g2 with
    | true =>
      clear hg2
      go_wp2_with fail
      go_ret
      exact ⟨rfl, HP0.out ▸ BW.out⟩
    | false =>
      have SM' := Lib.hid (hg2 rfl)
      clear hg2
      by_cases hl : (10000 : Int) < bs.length
      · go_wp2_with fail
        go_ret
        exact ⟨rfl, HP0.out ▸ BW.out⟩
      · have hl' : decide ((10000 : Int) < bs.length) = false := decide_eq_false hl
        clear hl
        have DT : Hid (∀ v, Below w2.heap.size w2 v → DiskIn v v.heap.size (.agg #[.slice A1 ss.length c1, .slice A2 ws.length c2]) ss ws) := Lib.hid (fun v hv => (H.out.below (BW.out.trans (hv.mono BW.out.size))).more (BW.out.trans (hv.mono BW.out.size)).size)
        have DP : Hid (∀ v, Below w2.heap.size w2 v → DiskIn v v.heap.size (.agg #[.slice A3 tt.length c3, .slice A4 vs.length c4]) tt vs) := Lib.hid (fun v hv => (H'.out.below (BW.out.trans (hv.mono BW.out.size))).more (BW.out.trans (hv.mono BW.out.size)).size)
        have HCV : Hid (∀ v, Below w2.heap.size w2 v → (convert 30 9 (.slice A5 bs.length c5)).run Try.prog v = .ok (.string ⟨bs.toArray⟩) v) := Lib.hid (fun v hv => run_txt_string (TX.out.below (BW.out.trans (hv.mono BW.out.size))))
        go_wp2_with fail
        clear k0 k1 k2 k3
        go_cut [9, 10] from 22 to 116 (fun s9 s10 wx => ∃ p, s9 = .pointer (some ⟨p, 0, none⟩) ∧ s10 = .string ⟨bs.toArray⟩ ∧ BoxD wx p w2.heap.size ss ws ∧ Below w2.heap.size w2 wx)
        case first =>
          have Q0 := Lib.hid (Below.refl w2.heap.size w2).drew
          refine wp_region_held_drew (S := fun v => Below w2.heap.size w2 v) (by kernel_rfl) Q0.out (fun hHeld => ?_)
          refine wpAnyH_take (i := 0) (v := ?_) rfl (by kernel_rfl) (by kernel_rfl) (by kernel_rfl) (fun _ _ _ h => h) (Or.inl ⟨by rfl, ?_⟩) hHeld ?_
          rotate_left
          · intro w' hSw; obtain ⟨c0, c1⟩ := cell2_of ((hSw.block _ (heap_lt XD.out)).trans XD.out); go_simp; try with_reducible rfl
          simp only [List.getElem_toArray, List.getElem_cons_succ, List.getElem_cons_zero, Act.put, List.setIfInBounds_toArray, List.set_cons_zero, List.set_cons_succ]
          refine wpAnyH_take (i := 2) (v := ?_) rfl (by kernel_rfl) (by kernel_rfl) (by kernel_rfl) (fun _ _ _ h => h) (Or.inl ⟨by rfl, ?_⟩) hHeld ?_
          rotate_left
          · intro w' hSw; go_simp; try with_reducible rfl
          simp only [List.getElem_toArray, List.getElem_cons_succ, List.getElem_cons_zero, Act.put, List.setIfInBounds_toArray, List.set_cons_zero, List.set_cons_succ]
          refine wpAnyH_take (i := 3) (v := ?_) rfl (by kernel_rfl) (by kernel_rfl) (by kernel_rfl) (fun _ _ _ h => h) (Or.inl ⟨by rfl, ?_⟩) hHeld ?_
          rotate_left
          · intro w' hSw; have hcv := HCV.out w' hSw; go_simp; try with_reducible rfl
          simp only [List.getElem_toArray, List.getElem_cons_succ, List.getElem_cons_zero, Act.put, List.setIfInBounds_toArray, List.set_cons_zero, List.set_cons_succ]
          refine wpAnyH_ready (rs := [1, 4]) (by kernel_rfl) (by simp) ?_
          refine AllReadyH.cons rfl (fun K hK => ?_) (AllReadyH.cons rfl (fun K hK => ?_) AllReadyH.nil)
          · go_simp
            refine (rtwin_any _ ss ws w2.drew (DT.out _ Q0.out) SM.out.fits).mono ?_
            rintro e wA ⟨y1, y2, mA, rfl, hsA, hwA0, hmA, -, bA, -⟩
            have hwA := hwA0.mono hmA
            obtain ⟨A10, c10, rfl⟩ := secs_slice hsA
            obtain ⟨A11, c11, rfl⟩ := wts_slice hwA
            have BA := Lib.hid (Q0.out.trans (bA.mono Q0.out.size))
            clear bA
            try go_wp2_with fail
            refine hK.out _ _ ?_ (fun hHeld => ?_)
            · exact BA.out
            clear hK K
            try simp only [List.getElem_toArray, List.getElem_cons_succ, List.getElem_cons_zero, Act.put, List.setIfInBounds_toArray, List.set_cons_zero, List.set_cons_succ]
            refine wpAnyH_ready (rs := [4]) (by kernel_rfl) (by simp) ?_
            refine AllReadyH.cons rfl (fun K hK => ?_) AllReadyH.nil
            go_simp
            refine hK.out _ _ ?_ (fun hHeld => ?_)
            · exact BA.out.alloc BA.out.size _
            clear hK K
            try simp only [List.getElem_toArray, List.getElem_cons_succ, List.getElem_cons_zero, Act.put, List.setIfInBounds_toArray, List.set_cons_zero, List.set_cons_succ]
            refine wpAnyH_ready (rs := [5]) (by kernel_rfl) (by simp) ?_
            refine AllReadyH.cons rfl (fun K hK => ?_) AllReadyH.nil
            rw [if_pos (by rfl)]
            refine wp_store_2 25 _ _ rfl wA.heap.size rfl rfl (heap_alloc_self _ _) infoDisk2 rfl rfl ?_
            rw [World.setRow_alloc_new]
            refine hK.out _ _ ?_ (fun hHeld => ?_)
            · exact BA.out.alloc BA.out.size _
            clear hK K
            try simp only [List.getElem_toArray, List.getElem_cons_succ, List.getElem_cons_zero, Act.put, List.setIfInBounds_toArray, List.set_cons_zero, List.set_cons_succ]
            refine wpAnyH_take (i := 6) (v := ?_) rfl (by kernel_rfl) (by kernel_rfl) (by kernel_rfl) (fun _ _ _ h => h) (Or.inl ⟨by rfl, ?_⟩) hHeld ?_
            rotate_left
            · intro w' hSw; go_simp; try with_reducible rfl
            simp only [List.getElem_toArray, List.getElem_cons_succ, List.getElem_cons_zero, Act.put, List.setIfInBounds_toArray, List.set_cons_zero, List.set_cons_succ]
            refine wpAnyH_done (by kernel_rfl) ?_ _
            go_wp2_with fail
            go_meet
            exact ⟨wA.heap.size, rfl, rfl, ⟨_, _, heap_alloc_self _ _, hsA.below (below_new _ _), hwA.below (below_new _ _)⟩, BA.out.alloc BA.out.size _⟩
          · go_simp
            have hz0 : Below w2.heap.size w2 (w2.alloc (.cells #[.slice none 0 0, .slice none 0 0] 25)).drew := (below_new _ _).drew
            have hz1 : (w2.alloc (.cells #[.slice none 0 0, .slice none 0 0] 25)).drew.heap[w2.heap.size]? = some (.cells #[.slice none 0 0, .slice none 0 0] 25 (0, 0)) := heap_alloc_self _ _
            refine hK.out _ _ ?_ (fun hHeld => ?_)
            · exact hz0
            clear hK K
            try simp only [List.getElem_toArray, List.getElem_cons_succ, List.getElem_cons_zero, Act.put, List.setIfInBounds_toArray, List.set_cons_zero, List.set_cons_succ]
            generalize (w2.alloc (.cells #[.slice none 0 0, .slice none 0 0] 25)).drew = wB at hz0 hz1 hHeld ⊢
            have HZ0 := Lib.hid hz0
            have HZ1 := Lib.hid hz1
            clear hz0 hz1
            refine wpAnyH_ready (rs := [1]) (by kernel_rfl) (by simp) ?_
            refine AllReadyH.cons rfl (fun K hK => ?_) AllReadyH.nil
            go_simp
            refine (rtwin_any _ ss ws wB (DT.out _ HZ0.out) SM.out.fits).mono ?_
            rintro e wA ⟨y1, y2, mA, rfl, hsA, hwA0, hmA, -, bA, -⟩
            have hwA := hwA0.mono hmA
            obtain ⟨A10, c10, rfl⟩ := secs_slice hsA
            obtain ⟨A11, c11, rfl⟩ := wts_slice hwA
            have BA := Lib.hid (HZ0.out.trans (bA.mono HZ0.out.size))
            have HZ2 := Lib.hid ((bA.block _ (heap_lt HZ1.out)).trans HZ1.out)
            clear bA
            try go_wp2_with fail
            refine hK.out _ _ ?_ (fun hHeld => ?_)
            · exact BA.out
            clear hK K
            try simp only [List.getElem_toArray, List.getElem_cons_succ, List.getElem_cons_zero, Act.put, List.setIfInBounds_toArray, List.set_cons_zero, List.set_cons_succ]
            refine wpAnyH_ready (rs := [5]) (by kernel_rfl) (by simp) ?_
            refine AllReadyH.cons rfl (fun K hK => ?_) AllReadyH.nil
            rw [if_pos (by rfl)]
            refine wp_store_2 25 _ _ rfl w2.heap.size rfl rfl HZ2.out infoDisk2 rfl rfl ?_
            refine hK.out _ _ ?_ (fun hHeld => ?_)
            · exact below_setRow BA.out (Nat.le_refl _) _
            clear hK K
            try simp only [List.getElem_toArray, List.getElem_cons_succ, List.getElem_cons_zero, Act.put, List.setIfInBounds_toArray, List.set_cons_zero, List.set_cons_succ]
            refine wpAnyH_take (i := 6) (v := ?_) rfl (by kernel_rfl) (by kernel_rfl) (by kernel_rfl) (fun _ _ _ h => h) (Or.inl ⟨by rfl, ?_⟩) hHeld ?_
            rotate_left
            · intro w' hSw; go_simp; try with_reducible rfl
            simp only [List.getElem_toArray, List.getElem_cons_succ, List.getElem_cons_zero, Act.put, List.setIfInBounds_toArray, List.set_cons_zero, List.set_cons_succ]
            refine wpAnyH_done (by kernel_rfl) ?_ _
            go_wp2_with fail
            go_meet
            exact ⟨w2.heap.size, rfl, rfl, ⟨_, _, setRow_heap _ _ _ _ _ _ HZ2.out, (secs_setRow hsA (heap_lt HZ1.out) _).mono HZ0.out.size, (wts_setRow hwA (heap_lt HZ1.out) _).mono HZ0.out.size⟩, below_setRow BA.out (Nat.le_refl _) _⟩
        case rest =>
          obtain ⟨pO, rfl, rfl, hbd, hbl⟩ := hcut
          obtain ⟨z1, z2, hpc, hzs, hzw⟩ := hbd
          obtain ⟨AO, kO, rfl⟩ := secs_slice hzs
          obtain ⟨EO, jO, rfl⟩ := wts_slice hzw
          have XB := Lib.hid hpc
          have OD0 := Lib.hid (show DiskAt wc w2.heap.size (.agg #[.slice AO ss.length kO, .slice EO ws.length jO]) ss ws from ⟨_, _, rfl, hzs, hzw⟩)
          have BL := Lib.hid hbl
          have tBW := BW.out.trans (hbl.mono BW.out.size)
          have tXD := (hbl.block _ (heap_lt XD.out)).trans XD.out
          have tXP := (hbl.block _ (heap_lt XP.out)).trans XP.out
          clear BW XD XP hpc hzs hzw hbl
          have BW := Lib.hid tBW
          have XD := Lib.hid tXD
          have XP := Lib.hid tXP
          clear tBW tXD tXP
          obtain ⟨r, hr⟩ : ∃ r, r = decide (ss = tt ∧ ws = vs) := ⟨_, rfl⟩
          have HRR : Hid ((r != r) = false) := Lib.hid (by cases r <;> rfl)
          have HS1 : Hid (∀ v, Below wc.heap.size wc v → Calls Try.prog 32 #[.agg #[.slice A1 ss.length c1, .slice A2 ws.length c2], .agg #[.slice A3 tt.length c3, .slice A4 vs.length c4]] v fun e w' => e = .returned (.bool r) ∧ Below v.heap.size v w') := Lib.hid (fun v hv => by rw [hr]; exact same_disk _ _ ss tt ws vs v (Nat.le_refl _) (Nat.le_refl _) (DT.out v (BL.out.trans (hv.mono BL.out.size))) (DP.out v (BL.out.trans (hv.mono BL.out.size))))
          have HS2 : Hid (∀ v, Below wc.heap.size wc v → Calls Try.prog 26 #[.agg #[.slice A1 ss.length c1, .slice A2 ws.length c2], .agg #[.slice A3 tt.length c3, .slice A4 vs.length c4]] v fun e w' => e = .returned (.bool r) ∧ Below v.heap.size v w') := Lib.hid (fun v hv => by rw [hr, ← sameT_small SM.out HR.out SM'.out HR'.out]; exact rsame_any _ _ ss tt ws vs v (DT.out v (BL.out.trans (hv.mono BL.out.size))) (DP.out v (BL.out.trans (hv.mono BL.out.size))) (SM.out.tells HR.out) (SM'.out.tells HR'.out))
          have HS3 : Hid (∀ v, Below wc.heap.size wc v → Calls Try.prog 32 #[.agg #[.slice AO ss.length kO, .slice EO ws.length jO], .agg #[.slice A1 ss.length c1, .slice A2 ws.length c2]] v fun e w' => e = .returned (.bool true) ∧ Below v.heap.size v w') := Lib.hid (fun v hv => by
            have h1 := same_disk (.agg #[.slice AO ss.length kO, .slice EO ws.length jO]) (.agg #[.slice A1 ss.length c1, .slice A2 ws.length c2]) ss ss ws ws v (Nat.le_refl _) (Nat.le_refl _) (OD0.out.below hv).in_ (DT.out v (BL.out.trans (hv.mono BL.out.size)))
            rwa [decide_eq_true (p := ss = ss ∧ ws = ws) ⟨rfl, rfl⟩] at h1)
          clear hr
          go_wp2_with fail
          refine wp_region_held_drew (S := fun v => Below wc.heap.size wc v) (by kernel_rfl) ((Below.refl _ wc).drew) (fun hHeld => ?_)
          refine wpAnyH_take (i := 0) (v := ?_) rfl (by kernel_rfl) (by kernel_rfl) (by kernel_rfl) (fun _ _ _ h => h) (Or.inl ⟨by rfl, ?_⟩) hHeld ?_
          rotate_left
          · intro w' hSw; obtain ⟨c0, c1⟩ := cell2_of ((hSw.block _ (heap_lt XD.out)).trans XD.out); go_simp; try with_reducible rfl
          simp only [List.getElem_toArray, List.getElem_cons_succ, List.getElem_cons_zero, Act.put, List.setIfInBounds_toArray, List.set_cons_zero, List.set_cons_succ]
          refine wpAnyH_take (i := 1) (v := ?_) rfl (by kernel_rfl) (by kernel_rfl) (by kernel_rfl) (fun _ _ _ h => h) (Or.inl ⟨by rfl, ?_⟩) hHeld ?_
          rotate_left
          · intro w' hSw; obtain ⟨c0, c1⟩ := cell2_of ((hSw.block _ (heap_lt XP.out)).trans XP.out); go_simp; try with_reducible rfl
          simp only [List.getElem_toArray, List.getElem_cons_succ, List.getElem_cons_zero, Act.put, List.setIfInBounds_toArray, List.set_cons_zero, List.set_cons_succ]
          refine wpAnyH_take (i := 3) (v := ?_) rfl (by kernel_rfl) (by kernel_rfl) (by kernel_rfl) (fun _ _ _ h => h) (Or.inl ⟨by rfl, ?_⟩) hHeld ?_
          rotate_left
          · intro w' hSw; obtain ⟨c0, c1⟩ := cell2_of ((hSw.block _ (heap_lt XD.out)).trans XD.out); go_simp; try with_reducible rfl
          simp only [List.getElem_toArray, List.getElem_cons_succ, List.getElem_cons_zero, Act.put, List.setIfInBounds_toArray, List.set_cons_zero, List.set_cons_succ]
          refine wpAnyH_take (i := 4) (v := ?_) rfl (by kernel_rfl) (by kernel_rfl) (by kernel_rfl) (fun _ _ _ h => h) (Or.inl ⟨by rfl, ?_⟩) hHeld ?_
          rotate_left
          · intro w' hSw; obtain ⟨c0, c1⟩ := cell2_of ((hSw.block _ (heap_lt XP.out)).trans XP.out); go_simp; try with_reducible rfl
          simp only [List.getElem_toArray, List.getElem_cons_succ, List.getElem_cons_zero, Act.put, List.setIfInBounds_toArray, List.set_cons_zero, List.set_cons_succ]
          refine wpAnyH_ready (rs := [2]) (by kernel_rfl) (by simp) ?_
          refine AllReadyH.cons rfl (fun K hK => ?_) AllReadyH.nil
          go_simp
          refine (HS1.out wc.drew ((Below.refl _ wc).drew)).mono ?_
          rintro e wA ⟨rfl, bwA⟩
          have HwA : Hid (Below wc.heap.size wc wA) := Lib.hid ((Below.refl _ wc).drew.trans bwA)
          clear bwA
          try go_wp2_with fail
          refine hK.out _ _ ?_ (fun hHeld => ?_)
          · exact HwA.out
          clear hK K
          try simp only [List.getElem_toArray, List.getElem_cons_succ, List.getElem_cons_zero, Act.put, List.setIfInBounds_toArray, List.set_cons_zero, List.set_cons_succ]
          refine wpAnyH_ready (rs := [5]) (by kernel_rfl) (by simp) ?_
          refine AllReadyH.cons rfl (fun K hK => ?_) AllReadyH.nil
          go_simp
          refine (HS2.out wA (HwA.out)).mono ?_
          rintro e wB ⟨rfl, bwB⟩
          have HwB : Hid (Below wc.heap.size wc wB) := Lib.hid (HwA.out.trans (bwB.mono HwA.out.size))
          clear bwB
          try go_wp2_with fail
          refine hK.out _ _ ?_ (fun hHeld => ?_)
          · exact HwB.out
          clear hK K
          try simp only [List.getElem_toArray, List.getElem_cons_succ, List.getElem_cons_zero, Act.put, List.setIfInBounds_toArray, List.set_cons_zero, List.set_cons_succ]
          refine wpAnyH_take (i := 6) (v := ?_) rfl (by kernel_rfl) (by kernel_rfl) (by kernel_rfl) (fun _ _ _ h => h) (Or.inl ⟨by rfl, ?_⟩) hHeld ?_
          rotate_left
          · intro w' hSw; have hrr := HRR.out; go_simp; try with_reducible rfl
          simp only [List.getElem_toArray, List.getElem_cons_succ, List.getElem_cons_zero, Act.put, List.setIfInBounds_toArray, List.set_cons_zero, List.set_cons_succ]
          refine wpAnyH_take (i := 7) (v := ?_) rfl (by kernel_rfl) (by kernel_rfl) (by kernel_rfl) (fun _ _ _ h => h) (Or.inl ⟨by rfl, ?_⟩) hHeld ?_
          rotate_left
          · intro w' hSw; go_simp; try with_reducible rfl
          simp only [List.getElem_toArray, List.getElem_cons_succ, List.getElem_cons_zero, Act.put, List.setIfInBounds_toArray, List.set_cons_zero, List.set_cons_succ]
          refine wpAnyH_take (i := 8) (v := ?_) rfl (by kernel_rfl) (by kernel_rfl) (by kernel_rfl) (fun _ _ _ h => h) (Or.inl ⟨by rfl, ?_⟩) hHeld ?_
          rotate_left
          · intro w' hSw; obtain ⟨c0, c1⟩ := cell2_of ((hSw.block _ (heap_lt XB.out)).trans XB.out); go_simp; try with_reducible rfl
          simp only [List.getElem_toArray, List.getElem_cons_succ, List.getElem_cons_zero, Act.put, List.setIfInBounds_toArray, List.set_cons_zero, List.set_cons_succ]
          refine wpAnyH_take (i := 9) (v := ?_) rfl (by kernel_rfl) (by kernel_rfl) (by kernel_rfl) (fun _ _ _ h => h) (Or.inl ⟨by rfl, ?_⟩) hHeld ?_
          rotate_left
          · intro w' hSw; obtain ⟨c0, c1⟩ := cell2_of ((hSw.block _ (heap_lt XD.out)).trans XD.out); go_simp; try with_reducible rfl
          simp only [List.getElem_toArray, List.getElem_cons_succ, List.getElem_cons_zero, Act.put, List.setIfInBounds_toArray, List.set_cons_zero, List.set_cons_succ]
          refine wpAnyH_ready (rs := [10]) (by kernel_rfl) (by simp) ?_
          refine AllReadyH.cons rfl (fun K hK => ?_) AllReadyH.nil
          go_simp
          refine (HS3.out wB (HwB.out)).mono ?_
          rintro e wC ⟨rfl, bwC⟩
          have HwC : Hid (Below wc.heap.size wc wC) := Lib.hid (HwB.out.trans (bwC.mono HwB.out.size))
          clear bwC
          try go_wp2_with fail
          refine hK.out _ _ ?_ (fun hHeld => ?_)
          · exact HwC.out
          clear hK K
          try simp only [List.getElem_toArray, List.getElem_cons_succ, List.getElem_cons_zero, Act.put, List.setIfInBounds_toArray, List.set_cons_zero, List.set_cons_succ]
          refine wpAnyH_take (i := 11) (v := ?_) rfl (by kernel_rfl) (by kernel_rfl) (by kernel_rfl) (fun _ _ _ h => h) (Or.inl ⟨by rfl, ?_⟩) hHeld ?_
          rotate_left
          · intro w' hSw; go_simp; try with_reducible rfl
          simp only [List.getElem_toArray, List.getElem_cons_succ, List.getElem_cons_zero, Act.put, List.setIfInBounds_toArray, List.set_cons_zero, List.set_cons_succ]
          refine wpAnyH_take (i := 12) (v := ?_) rfl (by kernel_rfl) (by kernel_rfl) (by kernel_rfl) (fun _ _ _ h => h) (Or.inl ⟨by rfl, ?_⟩) hHeld ?_
          rotate_left
          · intro w' hSw; go_simp; try with_reducible rfl
          simp only [List.getElem_toArray, List.getElem_cons_succ, List.getElem_cons_zero, Act.put, List.setIfInBounds_toArray, List.set_cons_zero, List.set_cons_succ]
          refine wpAnyH_done (by kernel_rfl) ?_ _
          have OD := Lib.hid (OD0.out.below HwC.out)
          have QA : Hid (Below wC.heap.size wC wC) := Lib.hid (Below.refl _ _)
          have tBW := BW.out.trans (HwC.out.mono BW.out.size)
          have tXD := (HwC.out.block _ (heap_lt XD.out)).trans XD.out
          have tXB := (HwC.out.block _ (heap_lt XB.out)).trans XB.out
          clear BW XD XP XB OD0 HS1 HS2 HS3
          have BW := Lib.hid tBW
          have XD := Lib.hid tXD
          have XB := Lib.hid tXB
          have TXC := Lib.hid ((TX.out.below tBW).more tBW.size)
          clear tBW tXD tXB
          obtain ⟨E1, hE1⟩ : ∃ z, z = atE ss ws n := ⟨_, rfl⟩
          obtain ⟨R1, hR1⟩ : ∃ z, z = readS ss ws n := ⟨_, rfl⟩
          obtain ⟨E2, hE2⟩ : ∃ z, z = writeE ss ws n bs := ⟨_, rfl⟩
          obtain ⟨S2, hS2⟩ : ∃ z, z = writeS ss ws n bs := ⟨_, rfl⟩
          obtain ⟨W2, hW2⟩ : ∃ z, z = writeW ss ws n bs := ⟨_, rfl⟩
          obtain ⟨E3, hE3⟩ : ∃ z, z = syncE ss ws := ⟨_, rfl⟩
          obtain ⟨S3, hS3⟩ : ∃ z, z = syncS ss ws := ⟨_, rfl⟩
          obtain ⟨E4, hE4⟩ : ∃ z, z = crashE ss ws (noughts ws.length) := ⟨_, rfl⟩
          obtain ⟨S4, hS4⟩ : ∃ z, z = crashS ss ws (noughts ws.length) := ⟨_, rfl⟩
          obtain ⟨E5, hE5⟩ : ∃ z, z = spoilE ss ws n 0 := ⟨_, rfl⟩
          obtain ⟨S5, hS5⟩ : ∃ z, z = spoilS ss ws n 0 1 := ⟨_, rfl⟩
          obtain ⟨W5, hW5⟩ : ∃ z, z = spoilW ss ws n 0 := ⟨_, rfl⟩
          have LNT : Hid (ss.length ≤ 100000 ∧ ws.length ≤ 100000) := Lib.hid ⟨by have := SM.out.n; omega, by have := SM.out.n; omega⟩
          have LNW : Hid (S2.length ≤ 100000 ∧ W2.length ≤ 100000) := Lib.hid (by rw [hS2, hW2]; exact ⟨(tells_write ss ws n bs).n, (tells_write ss ws n bs).m⟩)
          have LNY : Hid (S3.length ≤ 100000 ∧ ([] : List Wr).length ≤ 100000) := Lib.hid (by rw [hS3]; exact ⟨(tells_sync ss ws).n, by simp⟩)
          have LNC : Hid (S4.length ≤ 100000 ∧ ([] : List Wr).length ≤ 100000) := Lib.hid (by rw [hS4]; exact ⟨(tells_crash ss ws _).n, by simp⟩)
          have LNP : Hid (S5.length ≤ 100000 ∧ W5.length ≤ 100000) := Lib.hid (by rw [hS5, hW5]; exact ⟨(tells_spoil ss ws n 0 1).n, (tells_spoil ss ws n 0 1).m⟩)
          have HR1 : Hid (R1.length ≤ 128) := Lib.hid (by rw [hR1]; exact readS_le ss ws n)
          have HT : Hid (∀ v, Below wC.heap.size wC v → Calls Try.prog 34 #[.agg #[.slice AO ss.length kO, .slice EO ws.length jO]] v fun e w' => ∃ d', e = .returned d' ∧ DiskAt w' v.heap.size d' ss ws ∧ Below v.heap.size v w') := Lib.hid (fun v hv => by exact twin_any _ ss ws v (Nat.le_refl _) ((OD.out.below hv).in_) SM.out.fits)
          have HW : Hid (∀ v, Below wC.heap.size wC v → Calls Try.prog 12 #[.agg #[.slice AO ss.length kO, .slice EO ws.length jO], .int .i64 n, .slice A5 bs.length c5] v fun e w' => ∃ d', e = .returned (.tuple #[d', .int .i64 E2]) ∧ DiskAt w' v.heap.size d' S2 W2 ∧ Below v.heap.size v w') := Lib.hid (fun v hv => by rw [hE2, hS2, hW2]; exact write_any _ _ ss ws n bs v ((OD.out.below hv).in_) ((TXC.out.below hv).more hv.size))
          have HY : Hid (∀ v, Below wC.heap.size wC v → Calls Try.prog 16 #[.agg #[.slice AO ss.length kO, .slice EO ws.length jO]] v fun e w' => ∃ d', e = .returned (.tuple #[d', .int .i64 E3]) ∧ DiskAt w' v.heap.size d' S3 [] ∧ Below v.heap.size v w') := Lib.hid (fun v hv => by rw [hE3, hS3]; exact sync_any _ ss ws v ((OD.out.below hv).in_))
          have HC : Hid (∀ v kv, Below wC.heap.size wC v → NumsIn v v.heap.size kv (noughts ws.length) → Calls Try.prog 17 #[.agg #[.slice AO ss.length kO, .slice EO ws.length jO], kv] v fun e w' => ∃ d', e = .returned (.tuple #[d', .int .i64 E4]) ∧ DiskAt w' v.heap.size d' S4 [] ∧ Below v.heap.size v w') := Lib.hid (fun v kv hv => by intro hkv; rw [hE4, hS4]; exact crash_any _ _ ss ws (noughts ws.length) v ((OD.out.below hv).in_) hkv)
          have HP : Hid (∀ v, Below wC.heap.size wC v → Calls Try.prog 29 #[.agg #[.slice AO ss.length kO, .slice EO ws.length jO], .int .i64 n, .int .i64 0, .int .u8 1] v fun e w' => ∃ d', e = .returned (.tuple #[d', .int .i64 E5]) ∧ DiskAt w' v.heap.size d' S5 W5 ∧ Below v.heap.size v w') := Lib.hid (fun v hv => by rw [hE5, hS5, hW5]; exact spoil_any _ ss ws n 0 1 v ((OD.out.below hv).in_))
          have HRD : Hid (∀ v, Below wC.heap.size wC v → Calls Try.prog 15 #[.agg #[.slice AO ss.length kO, .slice EO ws.length jO], .int .i64 n] v fun e w' => ∃ y, e = .returned (.tuple #[y, .int .i64 E1]) ∧ w'.ownsRow v.heap.size 5 1 y R1.length (R1.map u8) ∧ Below v.heap.size v w') := Lib.hid (fun v hv => by rw [hE1, hR1]; exact read_any _ ss ws n v ((OD.out.below hv).in_))
          clear hE1 hR1 hE2 hS2 hW2 hE3 hS3 hE4 hS4 hE5 hS5 hW5
          obtain ⟨k0, k1⟩ := cell2_of XB.out
          go_wp2_with fail
          refine (HT.out wC QA.out).mono ?_
          rintro e wT ⟨dT, rfl, hdT, bT⟩
          obtain ⟨x1, x2, rfl, hsT, hwT⟩ := hdT
          obtain ⟨AT, kT, rfl⟩ := secs_slice hsT
          obtain ⟨ET, jT, rfl⟩ := wts_slice hwT
          clear k0 k1
          go_wp2_with fail
          have hdT : DiskAt wT wC.heap.size (.agg #[.slice AT ss.length kT, .slice ET ws.length jT]) ss ws := ⟨_, _, rfl, hsT, hwT⟩
          have bqT := bT
          refine (turn_any _ ss ws wC.heap.size wT hdT bqT.size LNT.out.1 LNT.out.2).mono ?_
          rintro e uT ⟨⟨vT, rfl⟩, buT⟩
          have ball := bqT.trans buT
          clear hsT hwT hdT bT bqT buT
          have tBW := BW.out.trans (ball.mono BW.out.size)
          have tQA := QA.out.trans (ball.mono QA.out.size)
          have tXB := (ball.block _ (heap_lt XB.out)).trans XB.out
          have tXD := (ball.block _ (heap_lt XD.out)).trans XD.out
          clear BW QA XB XD
          have BW := Lib.hid tBW
          have QA := Lib.hid tQA
          have XB := Lib.hid tXB
          have XD := Lib.hid tXD
          clear tBW tQA tXB tXD ball
          obtain ⟨k0, k1⟩ := cell2_of XB.out
          go_wp2_with fail
          refine (HW.out uT QA.out).mono ?_
          rintro e wW ⟨dW, rfl, hdW, bW⟩
          obtain ⟨x1, x2, rfl, hsW, hwW⟩ := hdW
          obtain ⟨AW, kW, rfl⟩ := secs_slice hsW
          obtain ⟨EW, jW, rfl⟩ := wts_slice hwW
          clear k0 k1
          go_wp2_with fail
          have qb := below_new wW (.cells #[.slice AW S2.length kW, .slice EW W2.length jW] 25)
          have hdW : DiskAt (wW.alloc (.cells #[.slice AW S2.length kW, .slice EW W2.length jW] 25)) uT.heap.size (.agg #[.slice AW S2.length kW, .slice EW W2.length jW]) S2 W2 := ⟨_, _, rfl, hsW.below qb, hwW.below qb⟩
          generalize wW.alloc (.cells #[.slice AW S2.length kW, .slice EW W2.length jW] 25) = qW at qb hdW ⊢
          have bqW := bW.trans (qb.mono bW.size)
          clear qb
          refine (turn_any _ S2 W2 uT.heap.size qW hdW bqW.size LNW.out.1 LNW.out.2).mono ?_
          rintro e uW ⟨⟨vW, rfl⟩, buW⟩
          have ball := bqW.trans buW
          clear hsW hwW hdW bW bqW buW
          have tBW := BW.out.trans (ball.mono BW.out.size)
          have tQA := QA.out.trans (ball.mono QA.out.size)
          have tXB := (ball.block _ (heap_lt XB.out)).trans XB.out
          have tXD := (ball.block _ (heap_lt XD.out)).trans XD.out
          clear BW QA XB XD
          have BW := Lib.hid tBW
          have QA := Lib.hid tQA
          have XB := Lib.hid tXB
          have XD := Lib.hid tXD
          clear tBW tQA tXB tXD ball
          obtain ⟨k0, k1⟩ := cell2_of XB.out
          go_wp2_with fail
          refine (HY.out uW QA.out).mono ?_
          rintro e wY ⟨dY, rfl, hdY, bY⟩
          obtain ⟨x1, x2, rfl, hsY, hwY⟩ := hdY
          obtain ⟨AY, kY, rfl⟩ := secs_slice hsY
          obtain ⟨EY, jY, rfl⟩ := wts_slice hwY
          clear k0 k1
          go_wp2_with fail
          have qb := below_new wY (.cells #[.slice AY S3.length kY, .slice EY 0 jY] 25)
          have hdY : DiskAt (wY.alloc (.cells #[.slice AY S3.length kY, .slice EY 0 jY] 25)) uW.heap.size (.agg #[.slice AY S3.length kY, .slice EY 0 jY]) S3 [] := ⟨_, _, rfl, hsY.below qb, hwY.below qb⟩
          generalize wY.alloc (.cells #[.slice AY S3.length kY, .slice EY 0 jY] 25) = qY at qb hdY ⊢
          have bqY := bY.trans (qb.mono bY.size)
          clear qb
          refine (turn_any _ S3 [] uW.heap.size qY hdY bqY.size LNY.out.1 LNY.out.2).mono ?_
          rintro e uY ⟨⟨vY, rfl⟩, buY⟩
          have ball := bqY.trans buY
          clear hsY hwY hdY bY bqY buY
          have tBW := BW.out.trans (ball.mono BW.out.size)
          have tQA := QA.out.trans (ball.mono QA.out.size)
          have tXB := (ball.block _ (heap_lt XB.out)).trans XB.out
          have tXD := (ball.block _ (heap_lt XD.out)).trans XD.out
          clear BW QA XB XD
          have BW := Lib.hid tBW
          have QA := Lib.hid tQA
          have XB := Lib.hid tXB
          have XD := Lib.hid tXD
          clear tBW tQA tXB tXD ball
          obtain ⟨k0, k1⟩ := cell2_of XB.out
          go_wp2_with fail
          clear k0 k1
          go_cut [15, 16] from 22 to 116 (fun s15 s16 wx => ∃ p, s15 = .pointer (some ⟨p, 0, none⟩) ∧ s16 = .int .i64 E4 ∧ BoxD wx p uY.heap.size S4 [] ∧ Below uY.heap.size uY wx)
          case first =>
            have Q0 := Lib.hid (Below.refl uY.heap.size uY).drew
            refine wp_region_held_drew (S := fun v => Below uY.heap.size uY v) (by kernel_rfl) Q0.out (fun hHeld => ?_)
            refine wpAnyH_take (i := 0) (v := ?_) rfl (by kernel_rfl) (by kernel_rfl) (by kernel_rfl) (fun _ _ _ h => h) (Or.inl ⟨by rfl, ?_⟩) hHeld ?_
            rotate_left
            · intro w' hSw; obtain ⟨c0, c1⟩ := cell2_of ((hSw.block _ (heap_lt XB.out)).trans XB.out); go_simp; try with_reducible rfl
            simp only [List.getElem_toArray, List.getElem_cons_succ, List.getElem_cons_zero, Act.put, List.setIfInBounds_toArray, List.set_cons_zero, List.set_cons_succ]
            refine wpAnyH_take (i := 1) (v := ?_) rfl (by kernel_rfl) (by kernel_rfl) (by kernel_rfl) (fun _ _ _ h => h) (Or.inl ⟨by rfl, ?_⟩) hHeld ?_
            rotate_left
            · intro w' hSw; go_simp; try with_reducible rfl
            simp only [List.getElem_toArray, List.getElem_cons_succ, List.getElem_cons_zero, Act.put, List.setIfInBounds_toArray, List.set_cons_zero, List.set_cons_succ]
            refine wpAnyH_take (i := 2) (v := ?_) rfl (by kernel_rfl) (by kernel_rfl) (by kernel_rfl) (fun _ _ _ h => h) (Or.inl ⟨by rfl, ?_⟩) hHeld ?_
            rotate_left
            · intro w' hSw; obtain ⟨c0, c1⟩ := cell2_of ((hSw.block _ (heap_lt XB.out)).trans XB.out); go_simp; try with_reducible rfl
            simp only [List.getElem_toArray, List.getElem_cons_succ, List.getElem_cons_zero, Act.put, List.setIfInBounds_toArray, List.set_cons_zero, List.set_cons_succ]
            refine wpAnyH_take (i := 3) (v := ?_) rfl (by kernel_rfl) (by kernel_rfl) (by kernel_rfl) (fun _ _ _ h => h) (Or.inl ⟨by rfl, ?_⟩) hHeld ?_
            rotate_left
            · intro w' hSw; go_simp; try with_reducible rfl
            simp only [List.getElem_toArray, List.getElem_cons_succ, List.getElem_cons_zero, Act.put, List.setIfInBounds_toArray, List.set_cons_zero, List.set_cons_succ]
            refine wpAnyH_ready (rs := [4, 9]) (by kernel_rfl) (by simp) ?_
            refine AllReadyH.cons rfl (fun K hK => ?_) (AllReadyH.cons rfl (fun K hK => ?_) AllReadyH.nil)
            · obtain ⟨oM, hmk, hnm⟩ := made_ints uY.drew ws.length (by have := SM.out.n; omega)
              have bO := below_new uY.drew oM
              obtain ⟨wO, hwO⟩ : ∃ wO, wO = uY.drew.alloc oM := ⟨_, rfl⟩
              rw [← hwO] at hmk hnm bO
              clear hwO
              go_simp
              have XO := Lib.hid hnm
              clear hmk hnm
              have BO := Lib.hid (Q0.out.trans (bO.mono Q0.out.size))
              clear bO
              try go_wp2_with fail
              refine hK.out _ _ ?_ (fun hHeld => ?_)
              · exact BO.out
              clear hK K
              try simp only [List.getElem_toArray, List.getElem_cons_succ, List.getElem_cons_zero, Act.put, List.setIfInBounds_toArray, List.set_cons_zero, List.set_cons_succ]
              refine wpAnyH_ready (rs := [5, 9]) (by kernel_rfl) (by simp) ?_
              refine AllReadyH.cons rfl (fun K hK => ?_) (AllReadyH.cons rfl (fun K hK => ?_) AllReadyH.nil)
              · go_simp
                refine (HC.out wO _ (QA.out.trans (BO.out.mono QA.out.size)) XO.out).mono ?_
                rintro e wA ⟨dA, rfl, hdA, bA⟩
                obtain ⟨y1, y2, rfl, hsA, hwA⟩ := hdA
                obtain ⟨A10, c10, rfl⟩ := secs_slice hsA
                obtain ⟨A11, c11, rfl⟩ := wts_slice hwA
                have BA := Lib.hid (BO.out.trans (bA.mono BO.out.size))
                have LO0 := Lib.hid BO.out.size
                clear bA
                try go_wp2_with fail
                refine hK.out _ _ ?_ (fun hHeld => ?_)
                · exact BA.out
                clear hK K
                try simp only [List.getElem_toArray, List.getElem_cons_succ, List.getElem_cons_zero, Act.put, List.setIfInBounds_toArray, List.set_cons_zero, List.set_cons_succ]
                refine wpAnyH_take (i := 6) (v := ?_) rfl (by kernel_rfl) (by kernel_rfl) (by kernel_rfl) (fun _ _ _ h => h) (Or.inl ⟨by rfl, ?_⟩) hHeld ?_
                rotate_left
                · intro w' hSw; go_simp; try with_reducible rfl
                simp only [List.getElem_toArray, List.getElem_cons_succ, List.getElem_cons_zero, Act.put, List.setIfInBounds_toArray, List.set_cons_zero, List.set_cons_succ]
                refine wpAnyH_take (i := 7) (v := ?_) rfl (by kernel_rfl) (by kernel_rfl) (by kernel_rfl) (fun _ _ _ h => h) (Or.inl ⟨by rfl, ?_⟩) hHeld ?_
                rotate_left
                · intro w' hSw; go_simp; try with_reducible rfl
                simp only [List.getElem_toArray, List.getElem_cons_succ, List.getElem_cons_zero, Act.put, List.setIfInBounds_toArray, List.set_cons_zero, List.set_cons_succ]
                refine wpAnyH_take (i := 8) (v := ?_) rfl (by kernel_rfl) (by kernel_rfl) (by kernel_rfl) (fun _ _ _ h => h) (Or.inl ⟨by rfl, ?_⟩) hHeld ?_
                rotate_left
                · intro w' hSw; go_simp; try with_reducible rfl
                simp only [List.getElem_toArray, List.getElem_cons_succ, List.getElem_cons_zero, Act.put, List.setIfInBounds_toArray, List.set_cons_zero, List.set_cons_succ]
                refine wpAnyH_ready (rs := [9]) (by kernel_rfl) (by simp) ?_
                refine AllReadyH.cons rfl (fun K hK => ?_) AllReadyH.nil
                go_simp
                refine hK.out _ _ ?_ (fun hHeld => ?_)
                · exact BA.out.alloc BA.out.size _
                clear hK K
                try simp only [List.getElem_toArray, List.getElem_cons_succ, List.getElem_cons_zero, Act.put, List.setIfInBounds_toArray, List.set_cons_zero, List.set_cons_succ]
                refine wpAnyH_ready (rs := [10]) (by kernel_rfl) (by simp) ?_
                refine AllReadyH.cons rfl (fun K hK => ?_) AllReadyH.nil
                rw [if_pos (by rfl)]
                refine wp_store_2 25 _ _ rfl wA.heap.size rfl rfl (heap_alloc_self _ _) infoDisk2 rfl rfl ?_
                rw [World.setRow_alloc_new]
                refine hK.out _ _ ?_ (fun hHeld => ?_)
                · exact BA.out.alloc BA.out.size _
                clear hK K
                try simp only [List.getElem_toArray, List.getElem_cons_succ, List.getElem_cons_zero, Act.put, List.setIfInBounds_toArray, List.set_cons_zero, List.set_cons_succ]
                refine wpAnyH_take (i := 11) (v := ?_) rfl (by kernel_rfl) (by kernel_rfl) (by kernel_rfl) (fun _ _ _ h => h) (Or.inl ⟨by rfl, ?_⟩) hHeld ?_
                rotate_left
                · intro w' hSw; go_simp; try with_reducible rfl
                simp only [List.getElem_toArray, List.getElem_cons_succ, List.getElem_cons_zero, Act.put, List.setIfInBounds_toArray, List.set_cons_zero, List.set_cons_succ]
                refine wpAnyH_done (by kernel_rfl) ?_ _
                go_wp2_with fail
                go_meet
                exact ⟨wA.heap.size, rfl, rfl, ⟨_, _, heap_alloc_self _ _, (hsA.below (below_new _ _)).mono LO0.out, (hwA.below (below_new _ _)).mono LO0.out⟩, BA.out.alloc BA.out.size _⟩
              · go_simp
                have hz0 : Below uY.heap.size uY (wO.alloc (.cells #[.slice none 0 0, .slice none 0 0] 25)) := BO.out.alloc BO.out.size _
                have hz1 : (wO.alloc (.cells #[.slice none 0 0, .slice none 0 0] 25)).heap[wO.heap.size]? = some (.cells #[.slice none 0 0, .slice none 0 0] 25 (0, 0)) := heap_alloc_self _ _
                have hz3 := below_new wO (.cells #[.slice none 0 0, .slice none 0 0] 25)
                refine hK.out _ _ ?_ (fun hHeld => ?_)
                · exact hz0
                clear hK K
                try simp only [List.getElem_toArray, List.getElem_cons_succ, List.getElem_cons_zero, Act.put, List.setIfInBounds_toArray, List.set_cons_zero, List.set_cons_succ]
                generalize wO.alloc (.cells #[.slice none 0 0, .slice none 0 0] 25) = wB at hz0 hz1 hz3 hHeld ⊢
                have HZ0 := Lib.hid hz0
                have HZ1 := Lib.hid hz1
                have HZ3 := Lib.hid hz3
                clear hz0 hz1 hz3
                refine wpAnyH_ready (rs := [5]) (by kernel_rfl) (by simp) ?_
                refine AllReadyH.cons rfl (fun K hK => ?_) AllReadyH.nil
                go_simp
                refine (HC.out wB _ (QA.out.trans (HZ0.out.mono QA.out.size)) ((XO.out.below HZ3.out).more HZ3.out.size)).mono ?_
                rintro e wA ⟨dA, rfl, hdA, bA⟩
                obtain ⟨y1, y2, rfl, hsA, hwA⟩ := hdA
                obtain ⟨A10, c10, rfl⟩ := secs_slice hsA
                obtain ⟨A11, c11, rfl⟩ := wts_slice hwA
                have BA := Lib.hid (HZ0.out.trans (bA.mono HZ0.out.size))
                have HZ2 := Lib.hid ((bA.block _ (heap_lt HZ1.out)).trans HZ1.out)
                have LO0 := Lib.hid HZ0.out.size
                clear bA
                try go_wp2_with fail
                refine hK.out _ _ ?_ (fun hHeld => ?_)
                · exact BA.out
                clear hK K
                try simp only [List.getElem_toArray, List.getElem_cons_succ, List.getElem_cons_zero, Act.put, List.setIfInBounds_toArray, List.set_cons_zero, List.set_cons_succ]
                refine wpAnyH_take (i := 6) (v := ?_) rfl (by kernel_rfl) (by kernel_rfl) (by kernel_rfl) (fun _ _ _ h => h) (Or.inl ⟨by rfl, ?_⟩) hHeld ?_
                rotate_left
                · intro w' hSw; go_simp; try with_reducible rfl
                simp only [List.getElem_toArray, List.getElem_cons_succ, List.getElem_cons_zero, Act.put, List.setIfInBounds_toArray, List.set_cons_zero, List.set_cons_succ]
                refine wpAnyH_take (i := 7) (v := ?_) rfl (by kernel_rfl) (by kernel_rfl) (by kernel_rfl) (fun _ _ _ h => h) (Or.inl ⟨by rfl, ?_⟩) hHeld ?_
                rotate_left
                · intro w' hSw; go_simp; try with_reducible rfl
                simp only [List.getElem_toArray, List.getElem_cons_succ, List.getElem_cons_zero, Act.put, List.setIfInBounds_toArray, List.set_cons_zero, List.set_cons_succ]
                refine wpAnyH_take (i := 8) (v := ?_) rfl (by kernel_rfl) (by kernel_rfl) (by kernel_rfl) (fun _ _ _ h => h) (Or.inl ⟨by rfl, ?_⟩) hHeld ?_
                rotate_left
                · intro w' hSw; go_simp; try with_reducible rfl
                simp only [List.getElem_toArray, List.getElem_cons_succ, List.getElem_cons_zero, Act.put, List.setIfInBounds_toArray, List.set_cons_zero, List.set_cons_succ]
                refine wpAnyH_ready (rs := [10]) (by kernel_rfl) (by simp) ?_
                refine AllReadyH.cons rfl (fun K hK => ?_) AllReadyH.nil
                rw [if_pos (by rfl)]
                refine wp_store_2 25 _ _ rfl wO.heap.size rfl rfl HZ2.out infoDisk2 rfl rfl ?_
                refine hK.out _ _ ?_ (fun hHeld => ?_)
                · exact below_setRow BA.out BO.out.size _
                clear hK K
                try simp only [List.getElem_toArray, List.getElem_cons_succ, List.getElem_cons_zero, Act.put, List.setIfInBounds_toArray, List.set_cons_zero, List.set_cons_succ]
                refine wpAnyH_take (i := 11) (v := ?_) rfl (by kernel_rfl) (by kernel_rfl) (by kernel_rfl) (fun _ _ _ h => h) (Or.inl ⟨by rfl, ?_⟩) hHeld ?_
                rotate_left
                · intro w' hSw; go_simp; try with_reducible rfl
                simp only [List.getElem_toArray, List.getElem_cons_succ, List.getElem_cons_zero, Act.put, List.setIfInBounds_toArray, List.set_cons_zero, List.set_cons_succ]
                refine wpAnyH_done (by kernel_rfl) ?_ _
                go_wp2_with fail
                go_meet
                exact ⟨wO.heap.size, rfl, rfl, ⟨_, _, setRow_heap _ _ _ _ _ _ HZ2.out, (secs_setRow hsA (heap_lt HZ1.out) _).mono LO0.out, (wts_setRow hwA (heap_lt HZ1.out) _).mono LO0.out⟩, below_setRow BA.out BO.out.size _⟩
            · go_simp
              have hz0 : Below uY.heap.size uY (uY.alloc (.cells #[.slice none 0 0, .slice none 0 0] 25)).drew := (below_new _ _).drew
              have hz1 : (uY.alloc (.cells #[.slice none 0 0, .slice none 0 0] 25)).drew.heap[uY.heap.size]? = some (.cells #[.slice none 0 0, .slice none 0 0] 25 (0, 0)) := heap_alloc_self _ _
              refine hK.out _ _ ?_ (fun hHeld => ?_)
              · exact hz0
              clear hK K
              try simp only [List.getElem_toArray, List.getElem_cons_succ, List.getElem_cons_zero, Act.put, List.setIfInBounds_toArray, List.set_cons_zero, List.set_cons_succ]
              generalize (uY.alloc (.cells #[.slice none 0 0, .slice none 0 0] 25)).drew = wB at hz0 hz1 hHeld ⊢
              have HZ0 := Lib.hid hz0
              have HZ1 := Lib.hid hz1
              clear hz0 hz1
              refine wpAnyH_ready (rs := [4]) (by kernel_rfl) (by simp) ?_
              refine AllReadyH.cons rfl (fun K hK => ?_) AllReadyH.nil
              obtain ⟨oM, hmk, hnm⟩ := made_ints wB ws.length (by have := SM.out.n; omega)
              have bO := below_new wB oM
              obtain ⟨wO, hwO⟩ : ∃ wO, wO = wB.alloc oM := ⟨_, rfl⟩
              rw [← hwO] at hmk hnm bO
              clear hwO
              go_simp
              have XO := Lib.hid hnm
              clear hmk hnm
              have BO := Lib.hid (HZ0.out.trans (bO.mono HZ0.out.size))
              have HZ4 := Lib.hid ((bO.block _ (heap_lt HZ1.out)).trans HZ1.out)
              clear bO
              try go_wp2_with fail
              refine hK.out _ _ ?_ (fun hHeld => ?_)
              · exact BO.out
              clear hK K
              try simp only [List.getElem_toArray, List.getElem_cons_succ, List.getElem_cons_zero, Act.put, List.setIfInBounds_toArray, List.set_cons_zero, List.set_cons_succ]
              refine wpAnyH_ready (rs := [5]) (by kernel_rfl) (by simp) ?_
              refine AllReadyH.cons rfl (fun K hK => ?_) AllReadyH.nil
              go_simp
              refine (HC.out wO _ (QA.out.trans (BO.out.mono QA.out.size)) XO.out).mono ?_
              rintro e wA ⟨dA, rfl, hdA, bA⟩
              obtain ⟨y1, y2, rfl, hsA, hwA⟩ := hdA
              obtain ⟨A10, c10, rfl⟩ := secs_slice hsA
              obtain ⟨A11, c11, rfl⟩ := wts_slice hwA
              have BA := Lib.hid (BO.out.trans (bA.mono BO.out.size))
              have HZ2 := Lib.hid ((bA.block _ (heap_lt HZ4.out)).trans HZ4.out)
              have LO0 := Lib.hid BO.out.size
              clear bA
              try go_wp2_with fail
              refine hK.out _ _ ?_ (fun hHeld => ?_)
              · exact BA.out
              clear hK K
              try simp only [List.getElem_toArray, List.getElem_cons_succ, List.getElem_cons_zero, Act.put, List.setIfInBounds_toArray, List.set_cons_zero, List.set_cons_succ]
              refine wpAnyH_take (i := 6) (v := ?_) rfl (by kernel_rfl) (by kernel_rfl) (by kernel_rfl) (fun _ _ _ h => h) (Or.inl ⟨by rfl, ?_⟩) hHeld ?_
              rotate_left
              · intro w' hSw; go_simp; try with_reducible rfl
              simp only [List.getElem_toArray, List.getElem_cons_succ, List.getElem_cons_zero, Act.put, List.setIfInBounds_toArray, List.set_cons_zero, List.set_cons_succ]
              refine wpAnyH_take (i := 7) (v := ?_) rfl (by kernel_rfl) (by kernel_rfl) (by kernel_rfl) (fun _ _ _ h => h) (Or.inl ⟨by rfl, ?_⟩) hHeld ?_
              rotate_left
              · intro w' hSw; go_simp; try with_reducible rfl
              simp only [List.getElem_toArray, List.getElem_cons_succ, List.getElem_cons_zero, Act.put, List.setIfInBounds_toArray, List.set_cons_zero, List.set_cons_succ]
              refine wpAnyH_take (i := 8) (v := ?_) rfl (by kernel_rfl) (by kernel_rfl) (by kernel_rfl) (fun _ _ _ h => h) (Or.inl ⟨by rfl, ?_⟩) hHeld ?_
              rotate_left
              · intro w' hSw; go_simp; try with_reducible rfl
              simp only [List.getElem_toArray, List.getElem_cons_succ, List.getElem_cons_zero, Act.put, List.setIfInBounds_toArray, List.set_cons_zero, List.set_cons_succ]
              refine wpAnyH_ready (rs := [10]) (by kernel_rfl) (by simp) ?_
              refine AllReadyH.cons rfl (fun K hK => ?_) AllReadyH.nil
              rw [if_pos (by rfl)]
              refine wp_store_2 25 _ _ rfl uY.heap.size rfl rfl HZ2.out infoDisk2 rfl rfl ?_
              refine hK.out _ _ ?_ (fun hHeld => ?_)
              · exact below_setRow BA.out (Nat.le_refl _) _
              clear hK K
              try simp only [List.getElem_toArray, List.getElem_cons_succ, List.getElem_cons_zero, Act.put, List.setIfInBounds_toArray, List.set_cons_zero, List.set_cons_succ]
              refine wpAnyH_take (i := 11) (v := ?_) rfl (by kernel_rfl) (by kernel_rfl) (by kernel_rfl) (fun _ _ _ h => h) (Or.inl ⟨by rfl, ?_⟩) hHeld ?_
              rotate_left
              · intro w' hSw; go_simp; try with_reducible rfl
              simp only [List.getElem_toArray, List.getElem_cons_succ, List.getElem_cons_zero, Act.put, List.setIfInBounds_toArray, List.set_cons_zero, List.set_cons_succ]
              refine wpAnyH_done (by kernel_rfl) ?_ _
              go_wp2_with fail
              go_meet
              exact ⟨uY.heap.size, rfl, rfl, ⟨_, _, setRow_heap _ _ _ _ _ _ HZ2.out, (secs_setRow hsA (heap_lt HZ4.out) _).mono LO0.out, (wts_setRow hwA (heap_lt HZ4.out) _).mono LO0.out⟩, below_setRow BA.out (Nat.le_refl _) _⟩
          case rest =>
            obtain ⟨pC, rfl, rfl, hbd, hbl⟩ := hcut
            obtain ⟨z1, z2, hpc, hzs, hzw⟩ := hbd
            obtain ⟨AC, kC, rfl⟩ := secs_slice hzs
            obtain ⟨EC, jC, rfl⟩ := wts_slice hzw
            obtain ⟨m0, m1⟩ := cell2_of hpc
            have hdC : DiskAt wc uY.heap.size (.agg #[.slice AC S4.length kC, .slice EC 0 jC]) S4 [] := ⟨_, _, rfl, hzs, hzw⟩
            go_wp2_with fail
            refine (turn_any _ S4 [] uY.heap.size wc hdC hbl.size LNC.out.1 LNC.out.2).mono ?_
            rintro e uC ⟨⟨vC, rfl⟩, buC⟩
            have ball := hbl.trans buC
            clear m0 m1 hpc hzs hzw hbl buC hdC
            have tBW := BW.out.trans (ball.mono BW.out.size)
            have tQA := QA.out.trans (ball.mono QA.out.size)
            have tXB := (ball.block _ (heap_lt XB.out)).trans XB.out
            have tXD := (ball.block _ (heap_lt XD.out)).trans XD.out
            clear BW QA XB XD
            have BW := Lib.hid tBW
            have QA := Lib.hid tQA
            have XB := Lib.hid tXB
            have XD := Lib.hid tXD
            clear tBW tQA tXB tXD ball
            obtain ⟨k0, k1⟩ := cell2_of XB.out
            go_wp2_with fail
            refine (HP.out uC QA.out).mono ?_
            rintro e wP ⟨dP, rfl, hdP, bP⟩
            obtain ⟨x1, x2, rfl, hsP, hwP⟩ := hdP
            obtain ⟨AP, kP, rfl⟩ := secs_slice hsP
            obtain ⟨EP, jP, rfl⟩ := wts_slice hwP
            clear k0 k1
            go_wp2_with fail
            have qb := below_new wP (.cells #[.slice AP S5.length kP, .slice EP W5.length jP] 25)
            have hdP : DiskAt (wP.alloc (.cells #[.slice AP S5.length kP, .slice EP W5.length jP] 25)) uC.heap.size (.agg #[.slice AP S5.length kP, .slice EP W5.length jP]) S5 W5 := ⟨_, _, rfl, hsP.below qb, hwP.below qb⟩
            generalize wP.alloc (.cells #[.slice AP S5.length kP, .slice EP W5.length jP] 25) = qP at qb hdP ⊢
            have bqP := bP.trans (qb.mono bP.size)
            clear qb
            refine (turn_any _ S5 W5 uC.heap.size qP hdP bqP.size LNP.out.1 LNP.out.2).mono ?_
            rintro e uP ⟨⟨vP, rfl⟩, buP⟩
            have ball := bqP.trans buP
            clear hsP hwP hdP bP bqP buP
            have tBW := BW.out.trans (ball.mono BW.out.size)
            have tQA := QA.out.trans (ball.mono QA.out.size)
            have tXB := (ball.block _ (heap_lt XB.out)).trans XB.out
            have tXD := (ball.block _ (heap_lt XD.out)).trans XD.out
            clear BW QA XB XD
            have BW := Lib.hid tBW
            have QA := Lib.hid tQA
            have XB := Lib.hid tXB
            have XD := Lib.hid tXD
            clear tBW tQA tXB tXD ball
            obtain ⟨k0, k1⟩ := cell2_of XB.out
            go_wp2_with fail
            refine (HRD.out uP QA.out).mono ?_
            rintro e wR ⟨y, rfl, hoy, bR⟩
            obtain ⟨AR, kR, rfl⟩ := own_slice_ hoy
            have SH := Lib.hid (show RowSh wR uP.heap.size (.slice AR R1.length kR) from ⟨R1, hoy, by have := HR1.out; unfold maxLen; omega⟩)
            have BR := Lib.hid bR
            have hRl : (R1.length : Int) ≤ 128 := by have := HR1.out; omega
            obtain ⟨nR, hnR⟩ : ∃ nR, nR = R1.length := ⟨_, rfl⟩
            rw [← hnR] at SH hRl ⊢
            clear k0 k1 hoy bR hnR
            go_wp2_with fail
            go_loopw [21] (fun s21 wx => ∃ k : Nat, k ≤ nR ∧ s21 = .int .i64 k ∧ RowSh wx uP.heap.size (.slice AR nR kR) ∧ Below uP.heap.size uP wx) (fun s21 _ => nR - (intOf s21).toNat)
            case atStart => exact ⟨0, by omega, rfl, SH.out, BR.out⟩
            case round =>
              obtain ⟨k, hk, rfl, hsh, hbx⟩ := hrel
              by_cases hlt : k < nR
              · have hlt' : (k : Int) < nR := by omega
                have HSH := Lib.hid hsh
                have HBX := Lib.hid hbx
                obtain ⟨xs, hox, hxl⟩ := hsh
                rcases hox.2 with ⟨e, h0⟩ | ⟨g, cap, cur, e, hlo, hgb, -, -, -, -⟩
                · exfalso
                  injection e with e1 e2 e3
                  omega
                · injection e with e1 e2 e3
                  subst e1 e2 e3
                  have hcell := hox.cellAt k (by omega)
                  rw [List.getElem?_map, List.getElem?_eq_getElem hlt] at hcell
                  obtain ⟨b, hb⟩ : ∃ b : UInt8, b = xs[k] := ⟨_, rfl⟩
                  have hcb : wr.cell? ⟨g, k, none⟩ = some (.int .u8 (b.toNat : Int)) := by rw [hcell, hb]; rfl
                  have hfz := hox.frozenAt k
                  have hb256 : (b.toNat : Int) < 256 := by have := b.toNat_lt; omega
                  have GB := Lib.hid hgb
                  have GL := Lib.hid hlo
                  clear hox hxl hlo hgb hcell hb hbx
                  go_wp2_with fail
                  go_roundw
                  case measure => simp [intOf]; omega
                  case rel =>
                    refine ⟨k + 1, by omega, by go_num, ?_, ?_⟩
                    · rw [flip8]; exact HSH.out.set GB.out _
                    · exact below_set HBX.out GL.out k _
              · have hlt' : ¬ (k : Int) < nR := by omega
                clear hlt hsh SH BR
                have tBW := BW.out.trans (hbx.mono BW.out.size)
                have tQA := QA.out.trans (hbx.mono QA.out.size)
                have tXB := (hbx.block _ (heap_lt XB.out)).trans XB.out
                have tXD := (hbx.block _ (heap_lt XD.out)).trans XD.out
                clear BW QA XB XD
                have BW := Lib.hid tBW
                have QA := Lib.hid tQA
                have XB := Lib.hid tXB
                have XD := Lib.hid tXD
                clear tBW tQA tXB tXD hbx
                obtain ⟨k0, k1⟩ := cell2_of XB.out
                obtain ⟨k2, k3⟩ := cell2_of XD.out
                go_wp2_with fail
                refine (rsame_any (.agg #[.slice AO ss.length kO, .slice EO ws.length jO]) (.agg #[.slice A1 ss.length c1, .slice A2 ws.length c2]) ss ss ws ws wr ((OD.out.below QA.out).in_) ((H.out.below BW.out).more BW.out.size) (SM.out.tells HR.out) (SM.out.tells HR.out)).mono ?_
                rw [sameT_self]
                rintro e wS ⟨rfl, bS⟩
                clear k0 k1 k2 k3
                have tBW := BW.out.trans (bS.mono BW.out.size)
                have tQA := QA.out.trans (bS.mono QA.out.size)
                have tXB := (bS.block _ (heap_lt XB.out)).trans XB.out
                have tXD := (bS.block _ (heap_lt XD.out)).trans XD.out
                clear BW QA XB XD
                have BW := Lib.hid tBW
                have QA := Lib.hid tQA
                have XB := Lib.hid tXB
                have XD := Lib.hid tXD
                clear tBW tQA tXB tXD bS
                have hcv := run_txt_string (TX.out.below BW.out)
                go_wp2_with fail
                go_ret
                exact ⟨rfl, HP0.out ▸ BW.out⟩
end Go.Proofs.Ytdpjdobmnkadjaa
