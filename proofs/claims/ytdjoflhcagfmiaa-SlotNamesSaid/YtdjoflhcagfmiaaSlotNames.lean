/-
  The statement SlotNames' text returns true.
  Conditions: none.
-/
import Derived.Test.YtdjoflhcagfmiaaSlotAlive
import Derived.Deep.CutRange
set_option linter.unusedVariables false
set_option linter.unusedSimpArgs false
set_option maxRecDepth 100000
namespace Go.Proofs.Ytdjoflhcagfmiaa
open Go.RowKit

theorem putE0 : putE newD [] 0 [] = 2 := by rw [putE, mayB_iff.2 may_new]; rfl
theorem next0 : nextN (viewL newD []) 0 = 1 ∧ nextN (viewL newD [(((16 : Nat) : Int), secR 3 (bodyR 3 []) 0)]) 3 = 4 ∧ nextN (viewL newD [(((16 : Nat) : Int), secR 3 (bodyR 3 []) 0)]) 2 = 5 := by decide +kernel
theorem nextEG {ss : List Bs} {ws : List Wr} (h : May ss ws) {g n : Nat} (hn : nextN (viewL ss ws) g = n) (hl : n ≤ 4294967295) : nextE ss ws g = 0 ∧ nextG ss ws g = n := by
  have h1 : nextE ss ws g = 0 := by rw [nextE, mayB_iff.2 h, if_pos rfl, show comes ss ws (all128 ws) = viewL ss ws from rfl, hn, if_neg (by omega)]
  exact ⟨h1, by rw [nextG, h1, if_pos rfl]; exact hn⟩
def zeros (n : Nat) : Bs := List.replicate n 0
theorem zeros_length (n : Nat) : (zeros n).length = n := List.length_replicate
theorem cnt1882 : cntR (zeros 1882) = 16 := by rw [cntR, zeros_length]
theorem putE1 : putE newD [] 1 (zeros 1882) = 0 := by rw [putE, mayB_iff.2 may_new, cnt1882, zeros_length]; rfl
theorem putW1 : (putW newD [] 1 (zeros 1882)).length = 16 := by rw [putW, putE1, if_pos rfl, List.nil_append, putWs_length, cnt1882]

set_option maxHeartbeats 8000000 in
theorem walk_slotnames (w : World) : Calls Try.prog 3 #[] w fun e w' => e = .returned (.bool true) ∧ Below w.heap.size w w' := by
  go_enter Try.func3, Try.ntmps3
  go_wp2_with fail
  refine (new_any w).mono ?_
  rintro e w1 ⟨v1, rfl, hs1, b1⟩
  have B1 := Lib.hid b1
  have D1 : DiskIn w1 w1.heap.size (.agg #[v1, .slice none 0 0]) newD [] := ⟨_, _, rfl, hs1.in_, WtsIn.nil_⟩
  obtain ⟨A1, n1, c1, rfl⟩ := secs_any hs1
  go_wp2_with fail
  refine (sfind_any _ _ _ w1 D1).mono ?_
  rintro e w2 ⟨z2, rfl, hr2, b2⟩
  rw [sync0 may_new]
  rw [find0] at hr2
  obtain ⟨A2, c2, rfl⟩ := hr2.slice
  have B2 := Lib.hid (B1.out.trans (b2.mono B1.out.size))
  clear hs1 b1 D1 hr2 b2
  go_wp2_with fail
  refine (new_any w2).mono ?_
  rintro e w3 ⟨v3, rfl, hs3, b3⟩
  have B3 := Lib.hid (B2.out.trans (b3.mono B2.out.size))
  have D3 : DiskIn w3 w3.heap.size (.agg #[v3, .slice none 0 0]) newD [] := ⟨_, _, rfl, hs3.in_, WtsIn.nil_⟩
  obtain ⟨A3, n3, c3, rfl⟩ := secs_any hs3
  go_wp2_with fail
  refine (sput_any _ _ newD [] 0 [] (by omega) w3 D3 (Txt.nil_ _ _)).mono ?_
  rintro e w4 ⟨d4, rfl, hd4, b4⟩
  rw [putE0]
  have B4 := Lib.hid (B3.out.trans (b4.mono B3.out.size))
  obtain ⟨y1, y2, rfl, hy1, hy2⟩ := hd4
  obtain ⟨A4, n4, c4, rfl⟩ := secs_any hy1
  obtain ⟨A5, n5, c5, rfl⟩ := wts_any hy2
  have q4b := below_new w4 (.cells #[.slice A4 n4 c4, .slice A5 n5 c5] 29)
  have QB := Lib.hid (B4.out.trans (q4b.mono B4.out.size))
  clear hs3 b3 D3 b4 hy1 hy2 q4b
  go_wp2_with fail
  generalize w4.alloc (.cells #[.slice A4 n4 c4, .slice A5 n5 c5] 29) = q at QB ⊢
  go_cut [5, 6] from 17 to 34 (fun s5 s6 wx => (∃ p, s5 = .pointer (some ⟨p, 0, none⟩)) ∧ s6 = .int .i64 3 ∧ Below q.heap.size q wx)
  · have hmk : ∀ w' : World, (Instr.makeSlice 34 (.int .i64 1883) (.int .i64 1883)).run Try.prog w' = .ok (.slice (some ⟨w'.heap.size, 0, none⟩) 1883 1883) (w'.alloc (.cells (rowB (zeros 1883)) 5)) := make_noughts 1883 (by omega)
    have HPE : Hid (putE newD [] 1 (zeros 1883) = 3) := Lib.hid (by rw [putE, mayB_iff.2 may_new, zeros_length]; rfl)
    have HB0 : Hid (Below q.heap.size q q.drew) := Lib.hid (Below.refl _ _).drew
    refine wp_region_held_drew (S := fun _ => True) (by kernel_rfl) trivial (fun hHeld => ?_)
    generalize q.drew = x0 at HB0 ⊢
    refine wpAnyH_ready (rs := [0, 1, 7]) (by kernel_rfl) (by simp) ?_
    refine AllReadyH.cons rfl (fun K hK => ?_) (AllReadyH.cons rfl (fun K hK => ?_) (AllReadyH.cons rfl (fun K hK => ?_) (AllReadyH.nil)))
    · go_simp
      refine (new_any x0).mono ?_
      rintro e x1 ⟨vN, rfl, hsN, bN⟩
      obtain ⟨AN, nN, cN, rfl⟩ := secs_any hsN
      have DN1 : Hid (DiskIn x1 x1.heap.size (.agg #[.slice AN nN cN, .slice none 0 0]) newD []) := Lib.hid ⟨_, _, rfl, hsN.in_, WtsIn.nil_⟩
      have HB1 : Hid (Below q.heap.size q x1) := Lib.hid (HB0.out.trans ((bN).mono HB0.out.size))
      clear hsN bN
      try go_wp2_with fail
      refine hK.out _ _ ?_ (fun hHeld => ?_)
      · exact trivial
      clear hK K
      try simp only [List.getElem_toArray, List.getElem_cons_succ, List.getElem_cons_zero, Act.put, List.setIfInBounds_toArray, List.set_cons_zero, List.set_cons_succ]
      refine wpAnyH_ready (rs := [1, 7]) (by kernel_rfl) (by simp) ?_
      refine AllReadyH.cons rfl (fun K hK => ?_) (AllReadyH.cons rfl (fun K hK => ?_) (AllReadyH.nil))
      · go_simp
        have hxm := txt_of_block (heap_alloc_self x1 (.cells (rowB (zeros 1883)) 5)) (by rw [zeros_length]; unfold maxLen; omega)
        rw [zeros_length] at hxm
        have bM := below_new x1 (.cells (rowB (zeros 1883)) 5)
        refine hK.out _ _ ?_ (fun hHeld => ?_)
        · exact trivial
        clear hK K
        try simp only [List.getElem_toArray, List.getElem_cons_succ, List.getElem_cons_zero, Act.put, List.setIfInBounds_toArray, List.set_cons_zero, List.set_cons_succ]
        generalize x1.alloc (.cells (rowB (zeros 1883)) 5) = x2 at hxm bM ⊢
        have XM2 := Lib.hid hxm
        have HB2 : Hid (Below q.heap.size q x2) := Lib.hid (HB1.out.trans ((bM).mono HB1.out.size))
        have DN2 := Lib.hid ((DN1.out.below (bM)).more (bM).size)
        clear hxm bM
        refine wpAnyH_take (i := 2) (v := ?_) rfl (by kernel_rfl) (by kernel_rfl) (by kernel_rfl) (fun _ _ _ h => h) (Or.inl ⟨by rfl, ?_⟩) hHeld ?_
        rotate_left
        · intro w' hSw; go_simp; try with_reducible rfl
        simp only [List.getElem_toArray, List.getElem_cons_succ, List.getElem_cons_zero, Act.put, List.setIfInBounds_toArray, List.set_cons_zero, List.set_cons_succ]
        refine wpAnyH_ready (rs := [3, 7]) (by kernel_rfl) (by simp) ?_
        refine AllReadyH.cons rfl (fun K hK => ?_) (AllReadyH.cons rfl (fun K hK => ?_) (AllReadyH.nil))
        · go_simp
          refine (sput_any _ _ newD [] 1 (zeros 1883) (by omega) x2 DN2.out XM2.out).mono ?_
          rintro e x3 ⟨dP, rfl, hdP, bP⟩
          rw [HPE.out]
          obtain ⟨yP, yQ, rfl, hyP, hyQ⟩ := hdP
          obtain ⟨AP, nP, cP, rfl⟩ := secs_any hyP
          obtain ⟨AQ, nQ, cQ, hyq⟩ : ∃ A n c, yQ = .slice A n c ∧ n = (putW newD [] 1 (zeros 1883)).length := by
            obtain ⟨A, c, h⟩ := wts_slice hyQ
            exact ⟨A, _, c, h, rfl⟩
          obtain ⟨rfl, hnQ⟩ := hyq
          have HNQ := Lib.hid hnQ
          have HB3 : Hid (Below q.heap.size q x3) := Lib.hid (HB2.out.trans ((bP).mono HB2.out.size))
          have DN3 := Lib.hid ((DN2.out.below (bP)).more (bP).size)
          have XM3 := Lib.hid ((XM2.out.below (bP)).more (bP).size)
          clear hyP hyQ hnQ bP
          try go_wp2_with fail
          refine hK.out _ _ ?_ (fun hHeld => ?_)
          · exact trivial
          clear hK K
          try simp only [List.getElem_toArray, List.getElem_cons_succ, List.getElem_cons_zero, Act.put, List.setIfInBounds_toArray, List.set_cons_zero, List.set_cons_succ]
          refine wpAnyH_take (i := 4) (v := ?_) rfl (by kernel_rfl) (by kernel_rfl) (by kernel_rfl) (fun _ _ _ h => h) (Or.inl ⟨by rfl, ?_⟩) hHeld ?_
          rotate_left
          · intro w' hSw; go_simp; try with_reducible rfl
          simp only [List.getElem_toArray, List.getElem_cons_succ, List.getElem_cons_zero, Act.put, List.setIfInBounds_toArray, List.set_cons_zero, List.set_cons_succ]
          refine wpAnyH_take (i := 5) (v := ?_) rfl (by kernel_rfl) (by kernel_rfl) (by kernel_rfl) (fun _ _ _ h => h) (Or.inl ⟨by rfl, ?_⟩) hHeld ?_
          rotate_left
          · intro w' hSw; go_simp; try with_reducible rfl
          simp only [List.getElem_toArray, List.getElem_cons_succ, List.getElem_cons_zero, Act.put, List.setIfInBounds_toArray, List.set_cons_zero, List.set_cons_succ]
          refine wpAnyH_take (i := 6) (v := ?_) rfl (by kernel_rfl) (by kernel_rfl) (by kernel_rfl) (fun _ _ _ h => h) (Or.inl ⟨by rfl, ?_⟩) hHeld ?_
          rotate_left
          · intro w' hSw; go_simp; try with_reducible rfl
          simp only [List.getElem_toArray, List.getElem_cons_succ, List.getElem_cons_zero, Act.put, List.setIfInBounds_toArray, List.set_cons_zero, List.set_cons_succ]
          refine wpAnyH_ready (rs := [7]) (by kernel_rfl) (by simp) ?_
          refine AllReadyH.cons rfl (fun K hK => ?_) (AllReadyH.nil)
          go_simp
          have haA := heap_alloc_self x3 (.cells #[.slice none 0 0, .slice none 0 0] 29)
          have bA := below_new x3 (.cells #[.slice none 0 0, .slice none 0 0] 29)
          refine hK.out _ _ ?_ (fun hHeld => ?_)
          · exact trivial
          clear hK K
          try simp only [List.getElem_toArray, List.getElem_cons_succ, List.getElem_cons_zero, Act.put, List.setIfInBounds_toArray, List.set_cons_zero, List.set_cons_succ]
          generalize x3.alloc (.cells #[.slice none 0 0, .slice none 0 0] 29) = x4 at haA bA ⊢
          obtain ⟨pA, hpA⟩ : ∃ p, p = x3.heap.size := ⟨_, rfl⟩
          rw [← hpA] at haA ⊢
          have HPA : Hid (q.heap.size ≤ pA) := Lib.hid (by rw [hpA]; exact HB3.out.size)
          have HA4 := Lib.hid haA
          have HB4 : Hid (Below q.heap.size q x4) := Lib.hid (HB3.out.trans ((bA).mono HB3.out.size))
          clear haA bA hpA
          refine wpAnyH_ready (rs := [8]) (by kernel_rfl) (by simp) ?_
          refine AllReadyH.cons rfl (fun K hK => ?_) AllReadyH.nil
          rw [if_pos (by rfl)]
          refine wp_store_2 29 _ _ rfl pA rfl rfl HA4.out infoDisk2 rfl rfl ?_
          refine hK.out _ _ ?_ (fun hHeld => ?_)
          · exact trivial
          clear hK K
          try simp only [List.getElem_toArray, List.getElem_cons_succ, List.getElem_cons_zero, Act.put, List.setIfInBounds_toArray, List.set_cons_zero, List.set_cons_succ]
          refine wpAnyH_take (i := 9) (v := ?_) rfl (by kernel_rfl) (by kernel_rfl) (by kernel_rfl) (fun _ _ _ h => h) (Or.inl ⟨by rfl, ?_⟩) hHeld ?_
          rotate_left
          · intro w' hSw; go_simp; try with_reducible rfl
          simp only [List.getElem_toArray, List.getElem_cons_succ, List.getElem_cons_zero, Act.put, List.setIfInBounds_toArray, List.set_cons_zero, List.set_cons_succ]
          refine wpAnyH_done (by kernel_rfl) ?_ _
          have hst := setRow_heap x4 pA _ #[.slice AP nP cP, .slice AQ nQ cQ] _ _ HA4.out
          have hsb : Below q.heap.size q (x4.setRow pA #[.slice AP nP cP, .slice AQ nQ cQ]) := below_setRow HB4.out HPA.out _
          go_wp2_with fail
          go_meet
          exact ⟨⟨pA, rfl⟩, rfl, hsb⟩
        · go_simp
          have haA := heap_alloc_self x2 (.cells #[.slice none 0 0, .slice none 0 0] 29)
          have bA := below_new x2 (.cells #[.slice none 0 0, .slice none 0 0] 29)
          refine hK.out _ _ ?_ (fun hHeld => ?_)
          · exact trivial
          clear hK K
          try simp only [List.getElem_toArray, List.getElem_cons_succ, List.getElem_cons_zero, Act.put, List.setIfInBounds_toArray, List.set_cons_zero, List.set_cons_succ]
          generalize x2.alloc (.cells #[.slice none 0 0, .slice none 0 0] 29) = x3 at haA bA ⊢
          obtain ⟨pA, hpA⟩ : ∃ p, p = x2.heap.size := ⟨_, rfl⟩
          rw [← hpA] at haA ⊢
          have HPA : Hid (q.heap.size ≤ pA) := Lib.hid (by rw [hpA]; exact HB2.out.size)
          have HA3 := Lib.hid haA
          have HB3 : Hid (Below q.heap.size q x3) := Lib.hid (HB2.out.trans ((bA).mono HB2.out.size))
          have DN3 := Lib.hid ((DN2.out.below (bA)).more (bA).size)
          have XM3 := Lib.hid ((XM2.out.below (bA)).more (bA).size)
          clear haA bA hpA
          refine wpAnyH_ready (rs := [3]) (by kernel_rfl) (by simp) ?_
          refine AllReadyH.cons rfl (fun K hK => ?_) (AllReadyH.nil)
          go_simp
          refine (sput_any _ _ newD [] 1 (zeros 1883) (by omega) x3 DN3.out XM3.out).mono ?_
          rintro e x4 ⟨dP, rfl, hdP, bP⟩
          rw [HPE.out]
          obtain ⟨yP, yQ, rfl, hyP, hyQ⟩ := hdP
          obtain ⟨AP, nP, cP, rfl⟩ := secs_any hyP
          obtain ⟨AQ, nQ, cQ, hyq⟩ : ∃ A n c, yQ = .slice A n c ∧ n = (putW newD [] 1 (zeros 1883)).length := by
            obtain ⟨A, c, h⟩ := wts_slice hyQ
            exact ⟨A, _, c, h, rfl⟩
          obtain ⟨rfl, hnQ⟩ := hyq
          have HNQ := Lib.hid hnQ
          have HB4 : Hid (Below q.heap.size q x4) := Lib.hid (HB3.out.trans ((bP).mono HB3.out.size))
          have DN4 := Lib.hid ((DN3.out.below (bP)).more (bP).size)
          have XM4 := Lib.hid ((XM3.out.below (bP)).more (bP).size)
          have HA4 := Lib.hid (((bP).block _ (heap_lt HA3.out)).trans HA3.out)
          clear hyP hyQ hnQ bP
          try go_wp2_with fail
          refine hK.out _ _ ?_ (fun hHeld => ?_)
          · exact trivial
          clear hK K
          try simp only [List.getElem_toArray, List.getElem_cons_succ, List.getElem_cons_zero, Act.put, List.setIfInBounds_toArray, List.set_cons_zero, List.set_cons_succ]
          refine wpAnyH_take (i := 4) (v := ?_) rfl (by kernel_rfl) (by kernel_rfl) (by kernel_rfl) (fun _ _ _ h => h) (Or.inl ⟨by rfl, ?_⟩) hHeld ?_
          rotate_left
          · intro w' hSw; go_simp; try with_reducible rfl
          simp only [List.getElem_toArray, List.getElem_cons_succ, List.getElem_cons_zero, Act.put, List.setIfInBounds_toArray, List.set_cons_zero, List.set_cons_succ]
          refine wpAnyH_take (i := 5) (v := ?_) rfl (by kernel_rfl) (by kernel_rfl) (by kernel_rfl) (fun _ _ _ h => h) (Or.inl ⟨by rfl, ?_⟩) hHeld ?_
          rotate_left
          · intro w' hSw; go_simp; try with_reducible rfl
          simp only [List.getElem_toArray, List.getElem_cons_succ, List.getElem_cons_zero, Act.put, List.setIfInBounds_toArray, List.set_cons_zero, List.set_cons_succ]
          refine wpAnyH_take (i := 6) (v := ?_) rfl (by kernel_rfl) (by kernel_rfl) (by kernel_rfl) (fun _ _ _ h => h) (Or.inl ⟨by rfl, ?_⟩) hHeld ?_
          rotate_left
          · intro w' hSw; go_simp; try with_reducible rfl
          simp only [List.getElem_toArray, List.getElem_cons_succ, List.getElem_cons_zero, Act.put, List.setIfInBounds_toArray, List.set_cons_zero, List.set_cons_succ]
          refine wpAnyH_ready (rs := [8]) (by kernel_rfl) (by simp) ?_
          refine AllReadyH.cons rfl (fun K hK => ?_) AllReadyH.nil
          rw [if_pos (by rfl)]
          refine wp_store_2 29 _ _ rfl pA rfl rfl HA4.out infoDisk2 rfl rfl ?_
          refine hK.out _ _ ?_ (fun hHeld => ?_)
          · exact trivial
          clear hK K
          try simp only [List.getElem_toArray, List.getElem_cons_succ, List.getElem_cons_zero, Act.put, List.setIfInBounds_toArray, List.set_cons_zero, List.set_cons_succ]
          refine wpAnyH_take (i := 9) (v := ?_) rfl (by kernel_rfl) (by kernel_rfl) (by kernel_rfl) (fun _ _ _ h => h) (Or.inl ⟨by rfl, ?_⟩) hHeld ?_
          rotate_left
          · intro w' hSw; go_simp; try with_reducible rfl
          simp only [List.getElem_toArray, List.getElem_cons_succ, List.getElem_cons_zero, Act.put, List.setIfInBounds_toArray, List.set_cons_zero, List.set_cons_succ]
          refine wpAnyH_done (by kernel_rfl) ?_ _
          have hst := setRow_heap x4 pA _ #[.slice AP nP cP, .slice AQ nQ cQ] _ _ HA4.out
          have hsb : Below q.heap.size q (x4.setRow pA #[.slice AP nP cP, .slice AQ nQ cQ]) := below_setRow HB4.out HPA.out _
          go_wp2_with fail
          go_meet
          exact ⟨⟨pA, rfl⟩, rfl, hsb⟩
      · go_simp
        have haA := heap_alloc_self x1 (.cells #[.slice none 0 0, .slice none 0 0] 29)
        have bA := below_new x1 (.cells #[.slice none 0 0, .slice none 0 0] 29)
        refine hK.out _ _ ?_ (fun hHeld => ?_)
        · exact trivial
        clear hK K
        try simp only [List.getElem_toArray, List.getElem_cons_succ, List.getElem_cons_zero, Act.put, List.setIfInBounds_toArray, List.set_cons_zero, List.set_cons_succ]
        generalize x1.alloc (.cells #[.slice none 0 0, .slice none 0 0] 29) = x2 at haA bA ⊢
        obtain ⟨pA, hpA⟩ : ∃ p, p = x1.heap.size := ⟨_, rfl⟩
        rw [← hpA] at haA ⊢
        have HPA : Hid (q.heap.size ≤ pA) := Lib.hid (by rw [hpA]; exact HB1.out.size)
        have HA2 := Lib.hid haA
        have HB2 : Hid (Below q.heap.size q x2) := Lib.hid (HB1.out.trans ((bA).mono HB1.out.size))
        have DN2 := Lib.hid ((DN1.out.below (bA)).more (bA).size)
        clear haA bA hpA
        refine wpAnyH_ready (rs := [1]) (by kernel_rfl) (by simp) ?_
        refine AllReadyH.cons rfl (fun K hK => ?_) (AllReadyH.nil)
        go_simp
        have hxm := txt_of_block (heap_alloc_self x2 (.cells (rowB (zeros 1883)) 5)) (by rw [zeros_length]; unfold maxLen; omega)
        rw [zeros_length] at hxm
        have bM := below_new x2 (.cells (rowB (zeros 1883)) 5)
        refine hK.out _ _ ?_ (fun hHeld => ?_)
        · exact trivial
        clear hK K
        try simp only [List.getElem_toArray, List.getElem_cons_succ, List.getElem_cons_zero, Act.put, List.setIfInBounds_toArray, List.set_cons_zero, List.set_cons_succ]
        generalize x2.alloc (.cells (rowB (zeros 1883)) 5) = x3 at hxm bM ⊢
        have XM3 := Lib.hid hxm
        have HB3 : Hid (Below q.heap.size q x3) := Lib.hid (HB2.out.trans ((bM).mono HB2.out.size))
        have DN3 := Lib.hid ((DN2.out.below (bM)).more (bM).size)
        have HA3 := Lib.hid (((bM).block _ (heap_lt HA2.out)).trans HA2.out)
        clear hxm bM
        refine wpAnyH_take (i := 2) (v := ?_) rfl (by kernel_rfl) (by kernel_rfl) (by kernel_rfl) (fun _ _ _ h => h) (Or.inl ⟨by rfl, ?_⟩) hHeld ?_
        rotate_left
        · intro w' hSw; go_simp; try with_reducible rfl
        simp only [List.getElem_toArray, List.getElem_cons_succ, List.getElem_cons_zero, Act.put, List.setIfInBounds_toArray, List.set_cons_zero, List.set_cons_succ]
        refine wpAnyH_ready (rs := [3]) (by kernel_rfl) (by simp) ?_
        refine AllReadyH.cons rfl (fun K hK => ?_) (AllReadyH.nil)
        go_simp
        refine (sput_any _ _ newD [] 1 (zeros 1883) (by omega) x3 DN3.out XM3.out).mono ?_
        rintro e x4 ⟨dP, rfl, hdP, bP⟩
        rw [HPE.out]
        obtain ⟨yP, yQ, rfl, hyP, hyQ⟩ := hdP
        obtain ⟨AP, nP, cP, rfl⟩ := secs_any hyP
        obtain ⟨AQ, nQ, cQ, hyq⟩ : ∃ A n c, yQ = .slice A n c ∧ n = (putW newD [] 1 (zeros 1883)).length := by
          obtain ⟨A, c, h⟩ := wts_slice hyQ
          exact ⟨A, _, c, h, rfl⟩
        obtain ⟨rfl, hnQ⟩ := hyq
        have HNQ := Lib.hid hnQ
        have HB4 : Hid (Below q.heap.size q x4) := Lib.hid (HB3.out.trans ((bP).mono HB3.out.size))
        have DN4 := Lib.hid ((DN3.out.below (bP)).more (bP).size)
        have XM4 := Lib.hid ((XM3.out.below (bP)).more (bP).size)
        have HA4 := Lib.hid (((bP).block _ (heap_lt HA3.out)).trans HA3.out)
        clear hyP hyQ hnQ bP
        try go_wp2_with fail
        refine hK.out _ _ ?_ (fun hHeld => ?_)
        · exact trivial
        clear hK K
        try simp only [List.getElem_toArray, List.getElem_cons_succ, List.getElem_cons_zero, Act.put, List.setIfInBounds_toArray, List.set_cons_zero, List.set_cons_succ]
        refine wpAnyH_take (i := 4) (v := ?_) rfl (by kernel_rfl) (by kernel_rfl) (by kernel_rfl) (fun _ _ _ h => h) (Or.inl ⟨by rfl, ?_⟩) hHeld ?_
        rotate_left
        · intro w' hSw; go_simp; try with_reducible rfl
        simp only [List.getElem_toArray, List.getElem_cons_succ, List.getElem_cons_zero, Act.put, List.setIfInBounds_toArray, List.set_cons_zero, List.set_cons_succ]
        refine wpAnyH_take (i := 5) (v := ?_) rfl (by kernel_rfl) (by kernel_rfl) (by kernel_rfl) (fun _ _ _ h => h) (Or.inl ⟨by rfl, ?_⟩) hHeld ?_
        rotate_left
        · intro w' hSw; go_simp; try with_reducible rfl
        simp only [List.getElem_toArray, List.getElem_cons_succ, List.getElem_cons_zero, Act.put, List.setIfInBounds_toArray, List.set_cons_zero, List.set_cons_succ]
        refine wpAnyH_take (i := 6) (v := ?_) rfl (by kernel_rfl) (by kernel_rfl) (by kernel_rfl) (fun _ _ _ h => h) (Or.inl ⟨by rfl, ?_⟩) hHeld ?_
        rotate_left
        · intro w' hSw; go_simp; try with_reducible rfl
        simp only [List.getElem_toArray, List.getElem_cons_succ, List.getElem_cons_zero, Act.put, List.setIfInBounds_toArray, List.set_cons_zero, List.set_cons_succ]
        refine wpAnyH_ready (rs := [8]) (by kernel_rfl) (by simp) ?_
        refine AllReadyH.cons rfl (fun K hK => ?_) AllReadyH.nil
        rw [if_pos (by rfl)]
        refine wp_store_2 29 _ _ rfl pA rfl rfl HA4.out infoDisk2 rfl rfl ?_
        refine hK.out _ _ ?_ (fun hHeld => ?_)
        · exact trivial
        clear hK K
        try simp only [List.getElem_toArray, List.getElem_cons_succ, List.getElem_cons_zero, Act.put, List.setIfInBounds_toArray, List.set_cons_zero, List.set_cons_succ]
        refine wpAnyH_take (i := 9) (v := ?_) rfl (by kernel_rfl) (by kernel_rfl) (by kernel_rfl) (fun _ _ _ h => h) (Or.inl ⟨by rfl, ?_⟩) hHeld ?_
        rotate_left
        · intro w' hSw; go_simp; try with_reducible rfl
        simp only [List.getElem_toArray, List.getElem_cons_succ, List.getElem_cons_zero, Act.put, List.setIfInBounds_toArray, List.set_cons_zero, List.set_cons_succ]
        refine wpAnyH_done (by kernel_rfl) ?_ _
        have hst := setRow_heap x4 pA _ #[.slice AP nP cP, .slice AQ nQ cQ] _ _ HA4.out
        have hsb : Below q.heap.size q (x4.setRow pA #[.slice AP nP cP, .slice AQ nQ cQ]) := below_setRow HB4.out HPA.out _
        go_wp2_with fail
        go_meet
        exact ⟨⟨pA, rfl⟩, rfl, hsb⟩
    · go_simp
      have hxm := txt_of_block (heap_alloc_self x0 (.cells (rowB (zeros 1883)) 5)) (by rw [zeros_length]; unfold maxLen; omega)
      rw [zeros_length] at hxm
      have bM := below_new x0 (.cells (rowB (zeros 1883)) 5)
      refine hK.out _ _ ?_ (fun hHeld => ?_)
      · exact trivial
      clear hK K
      try simp only [List.getElem_toArray, List.getElem_cons_succ, List.getElem_cons_zero, Act.put, List.setIfInBounds_toArray, List.set_cons_zero, List.set_cons_succ]
      generalize x0.alloc (.cells (rowB (zeros 1883)) 5) = x1 at hxm bM ⊢
      have XM1 := Lib.hid hxm
      have HB1 : Hid (Below q.heap.size q x1) := Lib.hid (HB0.out.trans ((bM).mono HB0.out.size))
      clear hxm bM
      refine wpAnyH_take (i := 2) (v := ?_) rfl (by kernel_rfl) (by kernel_rfl) (by kernel_rfl) (fun _ _ _ h => h) (Or.inl ⟨by rfl, ?_⟩) hHeld ?_
      rotate_left
      · intro w' hSw; go_simp; try with_reducible rfl
      simp only [List.getElem_toArray, List.getElem_cons_succ, List.getElem_cons_zero, Act.put, List.setIfInBounds_toArray, List.set_cons_zero, List.set_cons_succ]
      refine wpAnyH_ready (rs := [0, 7]) (by kernel_rfl) (by simp) ?_
      refine AllReadyH.cons rfl (fun K hK => ?_) (AllReadyH.cons rfl (fun K hK => ?_) (AllReadyH.nil))
      · go_simp
        refine (new_any x1).mono ?_
        rintro e x2 ⟨vN, rfl, hsN, bN⟩
        obtain ⟨AN, nN, cN, rfl⟩ := secs_any hsN
        have DN2 : Hid (DiskIn x2 x2.heap.size (.agg #[.slice AN nN cN, .slice none 0 0]) newD []) := Lib.hid ⟨_, _, rfl, hsN.in_, WtsIn.nil_⟩
        have HB2 : Hid (Below q.heap.size q x2) := Lib.hid (HB1.out.trans ((bN).mono HB1.out.size))
        have XM2 := Lib.hid ((XM1.out.below (bN)).more (bN).size)
        clear hsN bN
        try go_wp2_with fail
        refine hK.out _ _ ?_ (fun hHeld => ?_)
        · exact trivial
        clear hK K
        try simp only [List.getElem_toArray, List.getElem_cons_succ, List.getElem_cons_zero, Act.put, List.setIfInBounds_toArray, List.set_cons_zero, List.set_cons_succ]
        refine wpAnyH_ready (rs := [3, 7]) (by kernel_rfl) (by simp) ?_
        refine AllReadyH.cons rfl (fun K hK => ?_) (AllReadyH.cons rfl (fun K hK => ?_) (AllReadyH.nil))
        · go_simp
          refine (sput_any _ _ newD [] 1 (zeros 1883) (by omega) x2 DN2.out XM2.out).mono ?_
          rintro e x3 ⟨dP, rfl, hdP, bP⟩
          rw [HPE.out]
          obtain ⟨yP, yQ, rfl, hyP, hyQ⟩ := hdP
          obtain ⟨AP, nP, cP, rfl⟩ := secs_any hyP
          obtain ⟨AQ, nQ, cQ, hyq⟩ : ∃ A n c, yQ = .slice A n c ∧ n = (putW newD [] 1 (zeros 1883)).length := by
            obtain ⟨A, c, h⟩ := wts_slice hyQ
            exact ⟨A, _, c, h, rfl⟩
          obtain ⟨rfl, hnQ⟩ := hyq
          have HNQ := Lib.hid hnQ
          have HB3 : Hid (Below q.heap.size q x3) := Lib.hid (HB2.out.trans ((bP).mono HB2.out.size))
          have DN3 := Lib.hid ((DN2.out.below (bP)).more (bP).size)
          have XM3 := Lib.hid ((XM2.out.below (bP)).more (bP).size)
          clear hyP hyQ hnQ bP
          try go_wp2_with fail
          refine hK.out _ _ ?_ (fun hHeld => ?_)
          · exact trivial
          clear hK K
          try simp only [List.getElem_toArray, List.getElem_cons_succ, List.getElem_cons_zero, Act.put, List.setIfInBounds_toArray, List.set_cons_zero, List.set_cons_succ]
          refine wpAnyH_take (i := 4) (v := ?_) rfl (by kernel_rfl) (by kernel_rfl) (by kernel_rfl) (fun _ _ _ h => h) (Or.inl ⟨by rfl, ?_⟩) hHeld ?_
          rotate_left
          · intro w' hSw; go_simp; try with_reducible rfl
          simp only [List.getElem_toArray, List.getElem_cons_succ, List.getElem_cons_zero, Act.put, List.setIfInBounds_toArray, List.set_cons_zero, List.set_cons_succ]
          refine wpAnyH_take (i := 5) (v := ?_) rfl (by kernel_rfl) (by kernel_rfl) (by kernel_rfl) (fun _ _ _ h => h) (Or.inl ⟨by rfl, ?_⟩) hHeld ?_
          rotate_left
          · intro w' hSw; go_simp; try with_reducible rfl
          simp only [List.getElem_toArray, List.getElem_cons_succ, List.getElem_cons_zero, Act.put, List.setIfInBounds_toArray, List.set_cons_zero, List.set_cons_succ]
          refine wpAnyH_take (i := 6) (v := ?_) rfl (by kernel_rfl) (by kernel_rfl) (by kernel_rfl) (fun _ _ _ h => h) (Or.inl ⟨by rfl, ?_⟩) hHeld ?_
          rotate_left
          · intro w' hSw; go_simp; try with_reducible rfl
          simp only [List.getElem_toArray, List.getElem_cons_succ, List.getElem_cons_zero, Act.put, List.setIfInBounds_toArray, List.set_cons_zero, List.set_cons_succ]
          refine wpAnyH_ready (rs := [7]) (by kernel_rfl) (by simp) ?_
          refine AllReadyH.cons rfl (fun K hK => ?_) (AllReadyH.nil)
          go_simp
          have haA := heap_alloc_self x3 (.cells #[.slice none 0 0, .slice none 0 0] 29)
          have bA := below_new x3 (.cells #[.slice none 0 0, .slice none 0 0] 29)
          refine hK.out _ _ ?_ (fun hHeld => ?_)
          · exact trivial
          clear hK K
          try simp only [List.getElem_toArray, List.getElem_cons_succ, List.getElem_cons_zero, Act.put, List.setIfInBounds_toArray, List.set_cons_zero, List.set_cons_succ]
          generalize x3.alloc (.cells #[.slice none 0 0, .slice none 0 0] 29) = x4 at haA bA ⊢
          obtain ⟨pA, hpA⟩ : ∃ p, p = x3.heap.size := ⟨_, rfl⟩
          rw [← hpA] at haA ⊢
          have HPA : Hid (q.heap.size ≤ pA) := Lib.hid (by rw [hpA]; exact HB3.out.size)
          have HA4 := Lib.hid haA
          have HB4 : Hid (Below q.heap.size q x4) := Lib.hid (HB3.out.trans ((bA).mono HB3.out.size))
          clear haA bA hpA
          refine wpAnyH_ready (rs := [8]) (by kernel_rfl) (by simp) ?_
          refine AllReadyH.cons rfl (fun K hK => ?_) AllReadyH.nil
          rw [if_pos (by rfl)]
          refine wp_store_2 29 _ _ rfl pA rfl rfl HA4.out infoDisk2 rfl rfl ?_
          refine hK.out _ _ ?_ (fun hHeld => ?_)
          · exact trivial
          clear hK K
          try simp only [List.getElem_toArray, List.getElem_cons_succ, List.getElem_cons_zero, Act.put, List.setIfInBounds_toArray, List.set_cons_zero, List.set_cons_succ]
          refine wpAnyH_take (i := 9) (v := ?_) rfl (by kernel_rfl) (by kernel_rfl) (by kernel_rfl) (fun _ _ _ h => h) (Or.inl ⟨by rfl, ?_⟩) hHeld ?_
          rotate_left
          · intro w' hSw; go_simp; try with_reducible rfl
          simp only [List.getElem_toArray, List.getElem_cons_succ, List.getElem_cons_zero, Act.put, List.setIfInBounds_toArray, List.set_cons_zero, List.set_cons_succ]
          refine wpAnyH_done (by kernel_rfl) ?_ _
          have hst := setRow_heap x4 pA _ #[.slice AP nP cP, .slice AQ nQ cQ] _ _ HA4.out
          have hsb : Below q.heap.size q (x4.setRow pA #[.slice AP nP cP, .slice AQ nQ cQ]) := below_setRow HB4.out HPA.out _
          go_wp2_with fail
          go_meet
          exact ⟨⟨pA, rfl⟩, rfl, hsb⟩
        · go_simp
          have haA := heap_alloc_self x2 (.cells #[.slice none 0 0, .slice none 0 0] 29)
          have bA := below_new x2 (.cells #[.slice none 0 0, .slice none 0 0] 29)
          refine hK.out _ _ ?_ (fun hHeld => ?_)
          · exact trivial
          clear hK K
          try simp only [List.getElem_toArray, List.getElem_cons_succ, List.getElem_cons_zero, Act.put, List.setIfInBounds_toArray, List.set_cons_zero, List.set_cons_succ]
          generalize x2.alloc (.cells #[.slice none 0 0, .slice none 0 0] 29) = x3 at haA bA ⊢
          obtain ⟨pA, hpA⟩ : ∃ p, p = x2.heap.size := ⟨_, rfl⟩
          rw [← hpA] at haA ⊢
          have HPA : Hid (q.heap.size ≤ pA) := Lib.hid (by rw [hpA]; exact HB2.out.size)
          have HA3 := Lib.hid haA
          have HB3 : Hid (Below q.heap.size q x3) := Lib.hid (HB2.out.trans ((bA).mono HB2.out.size))
          have DN3 := Lib.hid ((DN2.out.below (bA)).more (bA).size)
          have XM3 := Lib.hid ((XM2.out.below (bA)).more (bA).size)
          clear haA bA hpA
          refine wpAnyH_ready (rs := [3]) (by kernel_rfl) (by simp) ?_
          refine AllReadyH.cons rfl (fun K hK => ?_) (AllReadyH.nil)
          go_simp
          refine (sput_any _ _ newD [] 1 (zeros 1883) (by omega) x3 DN3.out XM3.out).mono ?_
          rintro e x4 ⟨dP, rfl, hdP, bP⟩
          rw [HPE.out]
          obtain ⟨yP, yQ, rfl, hyP, hyQ⟩ := hdP
          obtain ⟨AP, nP, cP, rfl⟩ := secs_any hyP
          obtain ⟨AQ, nQ, cQ, hyq⟩ : ∃ A n c, yQ = .slice A n c ∧ n = (putW newD [] 1 (zeros 1883)).length := by
            obtain ⟨A, c, h⟩ := wts_slice hyQ
            exact ⟨A, _, c, h, rfl⟩
          obtain ⟨rfl, hnQ⟩ := hyq
          have HNQ := Lib.hid hnQ
          have HB4 : Hid (Below q.heap.size q x4) := Lib.hid (HB3.out.trans ((bP).mono HB3.out.size))
          have DN4 := Lib.hid ((DN3.out.below (bP)).more (bP).size)
          have XM4 := Lib.hid ((XM3.out.below (bP)).more (bP).size)
          have HA4 := Lib.hid (((bP).block _ (heap_lt HA3.out)).trans HA3.out)
          clear hyP hyQ hnQ bP
          try go_wp2_with fail
          refine hK.out _ _ ?_ (fun hHeld => ?_)
          · exact trivial
          clear hK K
          try simp only [List.getElem_toArray, List.getElem_cons_succ, List.getElem_cons_zero, Act.put, List.setIfInBounds_toArray, List.set_cons_zero, List.set_cons_succ]
          refine wpAnyH_take (i := 4) (v := ?_) rfl (by kernel_rfl) (by kernel_rfl) (by kernel_rfl) (fun _ _ _ h => h) (Or.inl ⟨by rfl, ?_⟩) hHeld ?_
          rotate_left
          · intro w' hSw; go_simp; try with_reducible rfl
          simp only [List.getElem_toArray, List.getElem_cons_succ, List.getElem_cons_zero, Act.put, List.setIfInBounds_toArray, List.set_cons_zero, List.set_cons_succ]
          refine wpAnyH_take (i := 5) (v := ?_) rfl (by kernel_rfl) (by kernel_rfl) (by kernel_rfl) (fun _ _ _ h => h) (Or.inl ⟨by rfl, ?_⟩) hHeld ?_
          rotate_left
          · intro w' hSw; go_simp; try with_reducible rfl
          simp only [List.getElem_toArray, List.getElem_cons_succ, List.getElem_cons_zero, Act.put, List.setIfInBounds_toArray, List.set_cons_zero, List.set_cons_succ]
          refine wpAnyH_take (i := 6) (v := ?_) rfl (by kernel_rfl) (by kernel_rfl) (by kernel_rfl) (fun _ _ _ h => h) (Or.inl ⟨by rfl, ?_⟩) hHeld ?_
          rotate_left
          · intro w' hSw; go_simp; try with_reducible rfl
          simp only [List.getElem_toArray, List.getElem_cons_succ, List.getElem_cons_zero, Act.put, List.setIfInBounds_toArray, List.set_cons_zero, List.set_cons_succ]
          refine wpAnyH_ready (rs := [8]) (by kernel_rfl) (by simp) ?_
          refine AllReadyH.cons rfl (fun K hK => ?_) AllReadyH.nil
          rw [if_pos (by rfl)]
          refine wp_store_2 29 _ _ rfl pA rfl rfl HA4.out infoDisk2 rfl rfl ?_
          refine hK.out _ _ ?_ (fun hHeld => ?_)
          · exact trivial
          clear hK K
          try simp only [List.getElem_toArray, List.getElem_cons_succ, List.getElem_cons_zero, Act.put, List.setIfInBounds_toArray, List.set_cons_zero, List.set_cons_succ]
          refine wpAnyH_take (i := 9) (v := ?_) rfl (by kernel_rfl) (by kernel_rfl) (by kernel_rfl) (fun _ _ _ h => h) (Or.inl ⟨by rfl, ?_⟩) hHeld ?_
          rotate_left
          · intro w' hSw; go_simp; try with_reducible rfl
          simp only [List.getElem_toArray, List.getElem_cons_succ, List.getElem_cons_zero, Act.put, List.setIfInBounds_toArray, List.set_cons_zero, List.set_cons_succ]
          refine wpAnyH_done (by kernel_rfl) ?_ _
          have hst := setRow_heap x4 pA _ #[.slice AP nP cP, .slice AQ nQ cQ] _ _ HA4.out
          have hsb : Below q.heap.size q (x4.setRow pA #[.slice AP nP cP, .slice AQ nQ cQ]) := below_setRow HB4.out HPA.out _
          go_wp2_with fail
          go_meet
          exact ⟨⟨pA, rfl⟩, rfl, hsb⟩
      · go_simp
        have haA := heap_alloc_self x1 (.cells #[.slice none 0 0, .slice none 0 0] 29)
        have bA := below_new x1 (.cells #[.slice none 0 0, .slice none 0 0] 29)
        refine hK.out _ _ ?_ (fun hHeld => ?_)
        · exact trivial
        clear hK K
        try simp only [List.getElem_toArray, List.getElem_cons_succ, List.getElem_cons_zero, Act.put, List.setIfInBounds_toArray, List.set_cons_zero, List.set_cons_succ]
        generalize x1.alloc (.cells #[.slice none 0 0, .slice none 0 0] 29) = x2 at haA bA ⊢
        obtain ⟨pA, hpA⟩ : ∃ p, p = x1.heap.size := ⟨_, rfl⟩
        rw [← hpA] at haA ⊢
        have HPA : Hid (q.heap.size ≤ pA) := Lib.hid (by rw [hpA]; exact HB1.out.size)
        have HA2 := Lib.hid haA
        have HB2 : Hid (Below q.heap.size q x2) := Lib.hid (HB1.out.trans ((bA).mono HB1.out.size))
        have XM2 := Lib.hid ((XM1.out.below (bA)).more (bA).size)
        clear haA bA hpA
        refine wpAnyH_ready (rs := [0]) (by kernel_rfl) (by simp) ?_
        refine AllReadyH.cons rfl (fun K hK => ?_) (AllReadyH.nil)
        go_simp
        refine (new_any x2).mono ?_
        rintro e x3 ⟨vN, rfl, hsN, bN⟩
        obtain ⟨AN, nN, cN, rfl⟩ := secs_any hsN
        have DN3 : Hid (DiskIn x3 x3.heap.size (.agg #[.slice AN nN cN, .slice none 0 0]) newD []) := Lib.hid ⟨_, _, rfl, hsN.in_, WtsIn.nil_⟩
        have HB3 : Hid (Below q.heap.size q x3) := Lib.hid (HB2.out.trans ((bN).mono HB2.out.size))
        have XM3 := Lib.hid ((XM2.out.below (bN)).more (bN).size)
        have HA3 := Lib.hid (((bN).block _ (heap_lt HA2.out)).trans HA2.out)
        clear hsN bN
        try go_wp2_with fail
        refine hK.out _ _ ?_ (fun hHeld => ?_)
        · exact trivial
        clear hK K
        try simp only [List.getElem_toArray, List.getElem_cons_succ, List.getElem_cons_zero, Act.put, List.setIfInBounds_toArray, List.set_cons_zero, List.set_cons_succ]
        refine wpAnyH_ready (rs := [3]) (by kernel_rfl) (by simp) ?_
        refine AllReadyH.cons rfl (fun K hK => ?_) (AllReadyH.nil)
        go_simp
        refine (sput_any _ _ newD [] 1 (zeros 1883) (by omega) x3 DN3.out XM3.out).mono ?_
        rintro e x4 ⟨dP, rfl, hdP, bP⟩
        rw [HPE.out]
        obtain ⟨yP, yQ, rfl, hyP, hyQ⟩ := hdP
        obtain ⟨AP, nP, cP, rfl⟩ := secs_any hyP
        obtain ⟨AQ, nQ, cQ, hyq⟩ : ∃ A n c, yQ = .slice A n c ∧ n = (putW newD [] 1 (zeros 1883)).length := by
          obtain ⟨A, c, h⟩ := wts_slice hyQ
          exact ⟨A, _, c, h, rfl⟩
        obtain ⟨rfl, hnQ⟩ := hyq
        have HNQ := Lib.hid hnQ
        have HB4 : Hid (Below q.heap.size q x4) := Lib.hid (HB3.out.trans ((bP).mono HB3.out.size))
        have DN4 := Lib.hid ((DN3.out.below (bP)).more (bP).size)
        have XM4 := Lib.hid ((XM3.out.below (bP)).more (bP).size)
        have HA4 := Lib.hid (((bP).block _ (heap_lt HA3.out)).trans HA3.out)
        clear hyP hyQ hnQ bP
        try go_wp2_with fail
        refine hK.out _ _ ?_ (fun hHeld => ?_)
        · exact trivial
        clear hK K
        try simp only [List.getElem_toArray, List.getElem_cons_succ, List.getElem_cons_zero, Act.put, List.setIfInBounds_toArray, List.set_cons_zero, List.set_cons_succ]
        refine wpAnyH_take (i := 4) (v := ?_) rfl (by kernel_rfl) (by kernel_rfl) (by kernel_rfl) (fun _ _ _ h => h) (Or.inl ⟨by rfl, ?_⟩) hHeld ?_
        rotate_left
        · intro w' hSw; go_simp; try with_reducible rfl
        simp only [List.getElem_toArray, List.getElem_cons_succ, List.getElem_cons_zero, Act.put, List.setIfInBounds_toArray, List.set_cons_zero, List.set_cons_succ]
        refine wpAnyH_take (i := 5) (v := ?_) rfl (by kernel_rfl) (by kernel_rfl) (by kernel_rfl) (fun _ _ _ h => h) (Or.inl ⟨by rfl, ?_⟩) hHeld ?_
        rotate_left
        · intro w' hSw; go_simp; try with_reducible rfl
        simp only [List.getElem_toArray, List.getElem_cons_succ, List.getElem_cons_zero, Act.put, List.setIfInBounds_toArray, List.set_cons_zero, List.set_cons_succ]
        refine wpAnyH_take (i := 6) (v := ?_) rfl (by kernel_rfl) (by kernel_rfl) (by kernel_rfl) (fun _ _ _ h => h) (Or.inl ⟨by rfl, ?_⟩) hHeld ?_
        rotate_left
        · intro w' hSw; go_simp; try with_reducible rfl
        simp only [List.getElem_toArray, List.getElem_cons_succ, List.getElem_cons_zero, Act.put, List.setIfInBounds_toArray, List.set_cons_zero, List.set_cons_succ]
        refine wpAnyH_ready (rs := [8]) (by kernel_rfl) (by simp) ?_
        refine AllReadyH.cons rfl (fun K hK => ?_) AllReadyH.nil
        rw [if_pos (by rfl)]
        refine wp_store_2 29 _ _ rfl pA rfl rfl HA4.out infoDisk2 rfl rfl ?_
        refine hK.out _ _ ?_ (fun hHeld => ?_)
        · exact trivial
        clear hK K
        try simp only [List.getElem_toArray, List.getElem_cons_succ, List.getElem_cons_zero, Act.put, List.setIfInBounds_toArray, List.set_cons_zero, List.set_cons_succ]
        refine wpAnyH_take (i := 9) (v := ?_) rfl (by kernel_rfl) (by kernel_rfl) (by kernel_rfl) (fun _ _ _ h => h) (Or.inl ⟨by rfl, ?_⟩) hHeld ?_
        rotate_left
        · intro w' hSw; go_simp; try with_reducible rfl
        simp only [List.getElem_toArray, List.getElem_cons_succ, List.getElem_cons_zero, Act.put, List.setIfInBounds_toArray, List.set_cons_zero, List.set_cons_succ]
        refine wpAnyH_done (by kernel_rfl) ?_ _
        have hst := setRow_heap x4 pA _ #[.slice AP nP cP, .slice AQ nQ cQ] _ _ HA4.out
        have hsb : Below q.heap.size q (x4.setRow pA #[.slice AP nP cP, .slice AQ nQ cQ]) := below_setRow HB4.out HPA.out _
        go_wp2_with fail
        go_meet
        exact ⟨⟨pA, rfl⟩, rfl, hsb⟩
    · go_simp
      have haA := heap_alloc_self x0 (.cells #[.slice none 0 0, .slice none 0 0] 29)
      have bA := below_new x0 (.cells #[.slice none 0 0, .slice none 0 0] 29)
      refine hK.out _ _ ?_ (fun hHeld => ?_)
      · exact trivial
      clear hK K
      try simp only [List.getElem_toArray, List.getElem_cons_succ, List.getElem_cons_zero, Act.put, List.setIfInBounds_toArray, List.set_cons_zero, List.set_cons_succ]
      generalize x0.alloc (.cells #[.slice none 0 0, .slice none 0 0] 29) = x1 at haA bA ⊢
      obtain ⟨pA, hpA⟩ : ∃ p, p = x0.heap.size := ⟨_, rfl⟩
      rw [← hpA] at haA ⊢
      have HPA : Hid (q.heap.size ≤ pA) := Lib.hid (by rw [hpA]; exact HB0.out.size)
      have HA1 := Lib.hid haA
      have HB1 : Hid (Below q.heap.size q x1) := Lib.hid (HB0.out.trans ((bA).mono HB0.out.size))
      clear haA bA hpA
      refine wpAnyH_ready (rs := [0, 1]) (by kernel_rfl) (by simp) ?_
      refine AllReadyH.cons rfl (fun K hK => ?_) (AllReadyH.cons rfl (fun K hK => ?_) (AllReadyH.nil))
      · go_simp
        refine (new_any x1).mono ?_
        rintro e x2 ⟨vN, rfl, hsN, bN⟩
        obtain ⟨AN, nN, cN, rfl⟩ := secs_any hsN
        have DN2 : Hid (DiskIn x2 x2.heap.size (.agg #[.slice AN nN cN, .slice none 0 0]) newD []) := Lib.hid ⟨_, _, rfl, hsN.in_, WtsIn.nil_⟩
        have HB2 : Hid (Below q.heap.size q x2) := Lib.hid (HB1.out.trans ((bN).mono HB1.out.size))
        have HA2 := Lib.hid (((bN).block _ (heap_lt HA1.out)).trans HA1.out)
        clear hsN bN
        try go_wp2_with fail
        refine hK.out _ _ ?_ (fun hHeld => ?_)
        · exact trivial
        clear hK K
        try simp only [List.getElem_toArray, List.getElem_cons_succ, List.getElem_cons_zero, Act.put, List.setIfInBounds_toArray, List.set_cons_zero, List.set_cons_succ]
        refine wpAnyH_ready (rs := [1]) (by kernel_rfl) (by simp) ?_
        refine AllReadyH.cons rfl (fun K hK => ?_) (AllReadyH.nil)
        go_simp
        have hxm := txt_of_block (heap_alloc_self x2 (.cells (rowB (zeros 1883)) 5)) (by rw [zeros_length]; unfold maxLen; omega)
        rw [zeros_length] at hxm
        have bM := below_new x2 (.cells (rowB (zeros 1883)) 5)
        refine hK.out _ _ ?_ (fun hHeld => ?_)
        · exact trivial
        clear hK K
        try simp only [List.getElem_toArray, List.getElem_cons_succ, List.getElem_cons_zero, Act.put, List.setIfInBounds_toArray, List.set_cons_zero, List.set_cons_succ]
        generalize x2.alloc (.cells (rowB (zeros 1883)) 5) = x3 at hxm bM ⊢
        have XM3 := Lib.hid hxm
        have HB3 : Hid (Below q.heap.size q x3) := Lib.hid (HB2.out.trans ((bM).mono HB2.out.size))
        have DN3 := Lib.hid ((DN2.out.below (bM)).more (bM).size)
        have HA3 := Lib.hid (((bM).block _ (heap_lt HA2.out)).trans HA2.out)
        clear hxm bM
        refine wpAnyH_take (i := 2) (v := ?_) rfl (by kernel_rfl) (by kernel_rfl) (by kernel_rfl) (fun _ _ _ h => h) (Or.inl ⟨by rfl, ?_⟩) hHeld ?_
        rotate_left
        · intro w' hSw; go_simp; try with_reducible rfl
        simp only [List.getElem_toArray, List.getElem_cons_succ, List.getElem_cons_zero, Act.put, List.setIfInBounds_toArray, List.set_cons_zero, List.set_cons_succ]
        refine wpAnyH_ready (rs := [3]) (by kernel_rfl) (by simp) ?_
        refine AllReadyH.cons rfl (fun K hK => ?_) (AllReadyH.nil)
        go_simp
        refine (sput_any _ _ newD [] 1 (zeros 1883) (by omega) x3 DN3.out XM3.out).mono ?_
        rintro e x4 ⟨dP, rfl, hdP, bP⟩
        rw [HPE.out]
        obtain ⟨yP, yQ, rfl, hyP, hyQ⟩ := hdP
        obtain ⟨AP, nP, cP, rfl⟩ := secs_any hyP
        obtain ⟨AQ, nQ, cQ, hyq⟩ : ∃ A n c, yQ = .slice A n c ∧ n = (putW newD [] 1 (zeros 1883)).length := by
          obtain ⟨A, c, h⟩ := wts_slice hyQ
          exact ⟨A, _, c, h, rfl⟩
        obtain ⟨rfl, hnQ⟩ := hyq
        have HNQ := Lib.hid hnQ
        have HB4 : Hid (Below q.heap.size q x4) := Lib.hid (HB3.out.trans ((bP).mono HB3.out.size))
        have DN4 := Lib.hid ((DN3.out.below (bP)).more (bP).size)
        have XM4 := Lib.hid ((XM3.out.below (bP)).more (bP).size)
        have HA4 := Lib.hid (((bP).block _ (heap_lt HA3.out)).trans HA3.out)
        clear hyP hyQ hnQ bP
        try go_wp2_with fail
        refine hK.out _ _ ?_ (fun hHeld => ?_)
        · exact trivial
        clear hK K
        try simp only [List.getElem_toArray, List.getElem_cons_succ, List.getElem_cons_zero, Act.put, List.setIfInBounds_toArray, List.set_cons_zero, List.set_cons_succ]
        refine wpAnyH_take (i := 4) (v := ?_) rfl (by kernel_rfl) (by kernel_rfl) (by kernel_rfl) (fun _ _ _ h => h) (Or.inl ⟨by rfl, ?_⟩) hHeld ?_
        rotate_left
        · intro w' hSw; go_simp; try with_reducible rfl
        simp only [List.getElem_toArray, List.getElem_cons_succ, List.getElem_cons_zero, Act.put, List.setIfInBounds_toArray, List.set_cons_zero, List.set_cons_succ]
        refine wpAnyH_take (i := 5) (v := ?_) rfl (by kernel_rfl) (by kernel_rfl) (by kernel_rfl) (fun _ _ _ h => h) (Or.inl ⟨by rfl, ?_⟩) hHeld ?_
        rotate_left
        · intro w' hSw; go_simp; try with_reducible rfl
        simp only [List.getElem_toArray, List.getElem_cons_succ, List.getElem_cons_zero, Act.put, List.setIfInBounds_toArray, List.set_cons_zero, List.set_cons_succ]
        refine wpAnyH_take (i := 6) (v := ?_) rfl (by kernel_rfl) (by kernel_rfl) (by kernel_rfl) (fun _ _ _ h => h) (Or.inl ⟨by rfl, ?_⟩) hHeld ?_
        rotate_left
        · intro w' hSw; go_simp; try with_reducible rfl
        simp only [List.getElem_toArray, List.getElem_cons_succ, List.getElem_cons_zero, Act.put, List.setIfInBounds_toArray, List.set_cons_zero, List.set_cons_succ]
        refine wpAnyH_ready (rs := [8]) (by kernel_rfl) (by simp) ?_
        refine AllReadyH.cons rfl (fun K hK => ?_) AllReadyH.nil
        rw [if_pos (by rfl)]
        refine wp_store_2 29 _ _ rfl pA rfl rfl HA4.out infoDisk2 rfl rfl ?_
        refine hK.out _ _ ?_ (fun hHeld => ?_)
        · exact trivial
        clear hK K
        try simp only [List.getElem_toArray, List.getElem_cons_succ, List.getElem_cons_zero, Act.put, List.setIfInBounds_toArray, List.set_cons_zero, List.set_cons_succ]
        refine wpAnyH_take (i := 9) (v := ?_) rfl (by kernel_rfl) (by kernel_rfl) (by kernel_rfl) (fun _ _ _ h => h) (Or.inl ⟨by rfl, ?_⟩) hHeld ?_
        rotate_left
        · intro w' hSw; go_simp; try with_reducible rfl
        simp only [List.getElem_toArray, List.getElem_cons_succ, List.getElem_cons_zero, Act.put, List.setIfInBounds_toArray, List.set_cons_zero, List.set_cons_succ]
        refine wpAnyH_done (by kernel_rfl) ?_ _
        have hst := setRow_heap x4 pA _ #[.slice AP nP cP, .slice AQ nQ cQ] _ _ HA4.out
        have hsb : Below q.heap.size q (x4.setRow pA #[.slice AP nP cP, .slice AQ nQ cQ]) := below_setRow HB4.out HPA.out _
        go_wp2_with fail
        go_meet
        exact ⟨⟨pA, rfl⟩, rfl, hsb⟩
      · go_simp
        have hxm := txt_of_block (heap_alloc_self x1 (.cells (rowB (zeros 1883)) 5)) (by rw [zeros_length]; unfold maxLen; omega)
        rw [zeros_length] at hxm
        have bM := below_new x1 (.cells (rowB (zeros 1883)) 5)
        refine hK.out _ _ ?_ (fun hHeld => ?_)
        · exact trivial
        clear hK K
        try simp only [List.getElem_toArray, List.getElem_cons_succ, List.getElem_cons_zero, Act.put, List.setIfInBounds_toArray, List.set_cons_zero, List.set_cons_succ]
        generalize x1.alloc (.cells (rowB (zeros 1883)) 5) = x2 at hxm bM ⊢
        have XM2 := Lib.hid hxm
        have HB2 : Hid (Below q.heap.size q x2) := Lib.hid (HB1.out.trans ((bM).mono HB1.out.size))
        have HA2 := Lib.hid (((bM).block _ (heap_lt HA1.out)).trans HA1.out)
        clear hxm bM
        refine wpAnyH_take (i := 2) (v := ?_) rfl (by kernel_rfl) (by kernel_rfl) (by kernel_rfl) (fun _ _ _ h => h) (Or.inl ⟨by rfl, ?_⟩) hHeld ?_
        rotate_left
        · intro w' hSw; go_simp; try with_reducible rfl
        simp only [List.getElem_toArray, List.getElem_cons_succ, List.getElem_cons_zero, Act.put, List.setIfInBounds_toArray, List.set_cons_zero, List.set_cons_succ]
        refine wpAnyH_ready (rs := [0]) (by kernel_rfl) (by simp) ?_
        refine AllReadyH.cons rfl (fun K hK => ?_) (AllReadyH.nil)
        go_simp
        refine (new_any x2).mono ?_
        rintro e x3 ⟨vN, rfl, hsN, bN⟩
        obtain ⟨AN, nN, cN, rfl⟩ := secs_any hsN
        have DN3 : Hid (DiskIn x3 x3.heap.size (.agg #[.slice AN nN cN, .slice none 0 0]) newD []) := Lib.hid ⟨_, _, rfl, hsN.in_, WtsIn.nil_⟩
        have HB3 : Hid (Below q.heap.size q x3) := Lib.hid (HB2.out.trans ((bN).mono HB2.out.size))
        have XM3 := Lib.hid ((XM2.out.below (bN)).more (bN).size)
        have HA3 := Lib.hid (((bN).block _ (heap_lt HA2.out)).trans HA2.out)
        clear hsN bN
        try go_wp2_with fail
        refine hK.out _ _ ?_ (fun hHeld => ?_)
        · exact trivial
        clear hK K
        try simp only [List.getElem_toArray, List.getElem_cons_succ, List.getElem_cons_zero, Act.put, List.setIfInBounds_toArray, List.set_cons_zero, List.set_cons_succ]
        refine wpAnyH_ready (rs := [3]) (by kernel_rfl) (by simp) ?_
        refine AllReadyH.cons rfl (fun K hK => ?_) (AllReadyH.nil)
        go_simp
        refine (sput_any _ _ newD [] 1 (zeros 1883) (by omega) x3 DN3.out XM3.out).mono ?_
        rintro e x4 ⟨dP, rfl, hdP, bP⟩
        rw [HPE.out]
        obtain ⟨yP, yQ, rfl, hyP, hyQ⟩ := hdP
        obtain ⟨AP, nP, cP, rfl⟩ := secs_any hyP
        obtain ⟨AQ, nQ, cQ, hyq⟩ : ∃ A n c, yQ = .slice A n c ∧ n = (putW newD [] 1 (zeros 1883)).length := by
          obtain ⟨A, c, h⟩ := wts_slice hyQ
          exact ⟨A, _, c, h, rfl⟩
        obtain ⟨rfl, hnQ⟩ := hyq
        have HNQ := Lib.hid hnQ
        have HB4 : Hid (Below q.heap.size q x4) := Lib.hid (HB3.out.trans ((bP).mono HB3.out.size))
        have DN4 := Lib.hid ((DN3.out.below (bP)).more (bP).size)
        have XM4 := Lib.hid ((XM3.out.below (bP)).more (bP).size)
        have HA4 := Lib.hid (((bP).block _ (heap_lt HA3.out)).trans HA3.out)
        clear hyP hyQ hnQ bP
        try go_wp2_with fail
        refine hK.out _ _ ?_ (fun hHeld => ?_)
        · exact trivial
        clear hK K
        try simp only [List.getElem_toArray, List.getElem_cons_succ, List.getElem_cons_zero, Act.put, List.setIfInBounds_toArray, List.set_cons_zero, List.set_cons_succ]
        refine wpAnyH_take (i := 4) (v := ?_) rfl (by kernel_rfl) (by kernel_rfl) (by kernel_rfl) (fun _ _ _ h => h) (Or.inl ⟨by rfl, ?_⟩) hHeld ?_
        rotate_left
        · intro w' hSw; go_simp; try with_reducible rfl
        simp only [List.getElem_toArray, List.getElem_cons_succ, List.getElem_cons_zero, Act.put, List.setIfInBounds_toArray, List.set_cons_zero, List.set_cons_succ]
        refine wpAnyH_take (i := 5) (v := ?_) rfl (by kernel_rfl) (by kernel_rfl) (by kernel_rfl) (fun _ _ _ h => h) (Or.inl ⟨by rfl, ?_⟩) hHeld ?_
        rotate_left
        · intro w' hSw; go_simp; try with_reducible rfl
        simp only [List.getElem_toArray, List.getElem_cons_succ, List.getElem_cons_zero, Act.put, List.setIfInBounds_toArray, List.set_cons_zero, List.set_cons_succ]
        refine wpAnyH_take (i := 6) (v := ?_) rfl (by kernel_rfl) (by kernel_rfl) (by kernel_rfl) (fun _ _ _ h => h) (Or.inl ⟨by rfl, ?_⟩) hHeld ?_
        rotate_left
        · intro w' hSw; go_simp; try with_reducible rfl
        simp only [List.getElem_toArray, List.getElem_cons_succ, List.getElem_cons_zero, Act.put, List.setIfInBounds_toArray, List.set_cons_zero, List.set_cons_succ]
        refine wpAnyH_ready (rs := [8]) (by kernel_rfl) (by simp) ?_
        refine AllReadyH.cons rfl (fun K hK => ?_) AllReadyH.nil
        rw [if_pos (by rfl)]
        refine wp_store_2 29 _ _ rfl pA rfl rfl HA4.out infoDisk2 rfl rfl ?_
        refine hK.out _ _ ?_ (fun hHeld => ?_)
        · exact trivial
        clear hK K
        try simp only [List.getElem_toArray, List.getElem_cons_succ, List.getElem_cons_zero, Act.put, List.setIfInBounds_toArray, List.set_cons_zero, List.set_cons_succ]
        refine wpAnyH_take (i := 9) (v := ?_) rfl (by kernel_rfl) (by kernel_rfl) (by kernel_rfl) (fun _ _ _ h => h) (Or.inl ⟨by rfl, ?_⟩) hHeld ?_
        rotate_left
        · intro w' hSw; go_simp; try with_reducible rfl
        simp only [List.getElem_toArray, List.getElem_cons_succ, List.getElem_cons_zero, Act.put, List.setIfInBounds_toArray, List.set_cons_zero, List.set_cons_succ]
        refine wpAnyH_done (by kernel_rfl) ?_ _
        have hst := setRow_heap x4 pA _ #[.slice AP nP cP, .slice AQ nQ cQ] _ _ HA4.out
        have hsb : Below q.heap.size q (x4.setRow pA #[.slice AP nP cP, .slice AQ nQ cQ]) := below_setRow HB4.out HPA.out _
        go_wp2_with fail
        go_meet
        exact ⟨⟨pA, rfl⟩, rfl, hsb⟩
  · obtain ⟨⟨p5, rfl⟩, rfl, hbc⟩ := hcut
    have BC := Lib.hid (QB.out.trans (hbc.mono QB.out.size))
    clear hbc QB
    go_wp2_with fail
    obtain ⟨q1, hq1⟩ : ∃ q1 : World, q1 = wc := ⟨_, rfl⟩
    subst hq1
    go_cut [7, 8] from 17 to 41 (fun s7 s8 wx => (∃ p A n c A' c', s7 = .pointer (some ⟨p, 0, none⟩) ∧ wx.heap[p]? = some (.cells #[.slice A n c, .slice A' 16 c'] 29 (0, 0))) ∧ s8 = .int .i64 0 ∧ Below q1.heap.size q1 wx)
    · have hmk : ∀ w' : World, (Instr.makeSlice 34 (.int .i64 1882) (.int .i64 1882)).run Try.prog w' = .ok (.slice (some ⟨w'.heap.size, 0, none⟩) 1882 1882) (w'.alloc (.cells (rowB (zeros 1882)) 5)) := make_noughts 1882 (by omega)
      have HPE : Hid (putE newD [] 1 (zeros 1882) = 0) := Lib.hid putE1
      have HPW : Hid ((putW newD [] 1 (zeros 1882)).length = 16) := Lib.hid putW1
      have HB0 : Hid (Below q1.heap.size q1 q1.drew) := Lib.hid (Below.refl _ _).drew
      refine wp_region_held_drew (S := fun _ => True) (by kernel_rfl) trivial (fun hHeld => ?_)
      generalize q1.drew = x0 at HB0 ⊢
      refine wpAnyH_ready (rs := [0, 1, 7]) (by kernel_rfl) (by simp) ?_
      refine AllReadyH.cons rfl (fun K hK => ?_) (AllReadyH.cons rfl (fun K hK => ?_) (AllReadyH.cons rfl (fun K hK => ?_) (AllReadyH.nil)))
      · go_simp
        refine (new_any x0).mono ?_
        rintro e x1 ⟨vN, rfl, hsN, bN⟩
        obtain ⟨AN, nN, cN, rfl⟩ := secs_any hsN
        have DN1 : Hid (DiskIn x1 x1.heap.size (.agg #[.slice AN nN cN, .slice none 0 0]) newD []) := Lib.hid ⟨_, _, rfl, hsN.in_, WtsIn.nil_⟩
        have HB1 : Hid (Below q1.heap.size q1 x1) := Lib.hid (HB0.out.trans ((bN).mono HB0.out.size))
        clear hsN bN
        try go_wp2_with fail
        refine hK.out _ _ ?_ (fun hHeld => ?_)
        · exact trivial
        clear hK K
        try simp only [List.getElem_toArray, List.getElem_cons_succ, List.getElem_cons_zero, Act.put, List.setIfInBounds_toArray, List.set_cons_zero, List.set_cons_succ]
        refine wpAnyH_ready (rs := [1, 7]) (by kernel_rfl) (by simp) ?_
        refine AllReadyH.cons rfl (fun K hK => ?_) (AllReadyH.cons rfl (fun K hK => ?_) (AllReadyH.nil))
        · go_simp
          have hxm := txt_of_block (heap_alloc_self x1 (.cells (rowB (zeros 1882)) 5)) (by rw [zeros_length]; unfold maxLen; omega)
          rw [zeros_length] at hxm
          have bM := below_new x1 (.cells (rowB (zeros 1882)) 5)
          refine hK.out _ _ ?_ (fun hHeld => ?_)
          · exact trivial
          clear hK K
          try simp only [List.getElem_toArray, List.getElem_cons_succ, List.getElem_cons_zero, Act.put, List.setIfInBounds_toArray, List.set_cons_zero, List.set_cons_succ]
          generalize x1.alloc (.cells (rowB (zeros 1882)) 5) = x2 at hxm bM ⊢
          have XM2 := Lib.hid hxm
          have HB2 : Hid (Below q1.heap.size q1 x2) := Lib.hid (HB1.out.trans ((bM).mono HB1.out.size))
          have DN2 := Lib.hid ((DN1.out.below (bM)).more (bM).size)
          clear hxm bM
          refine wpAnyH_take (i := 2) (v := ?_) rfl (by kernel_rfl) (by kernel_rfl) (by kernel_rfl) (fun _ _ _ h => h) (Or.inl ⟨by rfl, ?_⟩) hHeld ?_
          rotate_left
          · intro w' hSw; go_simp; try with_reducible rfl
          simp only [List.getElem_toArray, List.getElem_cons_succ, List.getElem_cons_zero, Act.put, List.setIfInBounds_toArray, List.set_cons_zero, List.set_cons_succ]
          refine wpAnyH_ready (rs := [3, 7]) (by kernel_rfl) (by simp) ?_
          refine AllReadyH.cons rfl (fun K hK => ?_) (AllReadyH.cons rfl (fun K hK => ?_) (AllReadyH.nil))
          · go_simp
            refine (sput_any _ _ newD [] 1 (zeros 1882) (by omega) x2 DN2.out XM2.out).mono ?_
            rintro e x3 ⟨dP, rfl, hdP, bP⟩
            rw [HPE.out]
            obtain ⟨yP, yQ, rfl, hyP, hyQ⟩ := hdP
            obtain ⟨AP, nP, cP, rfl⟩ := secs_any hyP
            obtain ⟨AQ, nQ, cQ, hyq⟩ : ∃ A n c, yQ = .slice A n c ∧ n = (putW newD [] 1 (zeros 1882)).length := by
              obtain ⟨A, c, h⟩ := wts_slice hyQ
              exact ⟨A, _, c, h, rfl⟩
            obtain ⟨rfl, hnQ⟩ := hyq
            have HNQ := Lib.hid hnQ
            have HB3 : Hid (Below q1.heap.size q1 x3) := Lib.hid (HB2.out.trans ((bP).mono HB2.out.size))
            have DN3 := Lib.hid ((DN2.out.below (bP)).more (bP).size)
            have XM3 := Lib.hid ((XM2.out.below (bP)).more (bP).size)
            clear hyP hyQ hnQ bP
            try go_wp2_with fail
            refine hK.out _ _ ?_ (fun hHeld => ?_)
            · exact trivial
            clear hK K
            try simp only [List.getElem_toArray, List.getElem_cons_succ, List.getElem_cons_zero, Act.put, List.setIfInBounds_toArray, List.set_cons_zero, List.set_cons_succ]
            refine wpAnyH_take (i := 4) (v := ?_) rfl (by kernel_rfl) (by kernel_rfl) (by kernel_rfl) (fun _ _ _ h => h) (Or.inl ⟨by rfl, ?_⟩) hHeld ?_
            rotate_left
            · intro w' hSw; go_simp; try with_reducible rfl
            simp only [List.getElem_toArray, List.getElem_cons_succ, List.getElem_cons_zero, Act.put, List.setIfInBounds_toArray, List.set_cons_zero, List.set_cons_succ]
            refine wpAnyH_take (i := 5) (v := ?_) rfl (by kernel_rfl) (by kernel_rfl) (by kernel_rfl) (fun _ _ _ h => h) (Or.inl ⟨by rfl, ?_⟩) hHeld ?_
            rotate_left
            · intro w' hSw; go_simp; try with_reducible rfl
            simp only [List.getElem_toArray, List.getElem_cons_succ, List.getElem_cons_zero, Act.put, List.setIfInBounds_toArray, List.set_cons_zero, List.set_cons_succ]
            refine wpAnyH_take (i := 6) (v := ?_) rfl (by kernel_rfl) (by kernel_rfl) (by kernel_rfl) (fun _ _ _ h => h) (Or.inl ⟨by rfl, ?_⟩) hHeld ?_
            rotate_left
            · intro w' hSw; go_simp; try with_reducible rfl
            simp only [List.getElem_toArray, List.getElem_cons_succ, List.getElem_cons_zero, Act.put, List.setIfInBounds_toArray, List.set_cons_zero, List.set_cons_succ]
            refine wpAnyH_ready (rs := [7]) (by kernel_rfl) (by simp) ?_
            refine AllReadyH.cons rfl (fun K hK => ?_) (AllReadyH.nil)
            go_simp
            have haA := heap_alloc_self x3 (.cells #[.slice none 0 0, .slice none 0 0] 29)
            have bA := below_new x3 (.cells #[.slice none 0 0, .slice none 0 0] 29)
            refine hK.out _ _ ?_ (fun hHeld => ?_)
            · exact trivial
            clear hK K
            try simp only [List.getElem_toArray, List.getElem_cons_succ, List.getElem_cons_zero, Act.put, List.setIfInBounds_toArray, List.set_cons_zero, List.set_cons_succ]
            generalize x3.alloc (.cells #[.slice none 0 0, .slice none 0 0] 29) = x4 at haA bA ⊢
            obtain ⟨pA, hpA⟩ : ∃ p, p = x3.heap.size := ⟨_, rfl⟩
            rw [← hpA] at haA ⊢
            have HPA : Hid (q1.heap.size ≤ pA) := Lib.hid (by rw [hpA]; exact HB3.out.size)
            have HA4 := Lib.hid haA
            have HB4 : Hid (Below q1.heap.size q1 x4) := Lib.hid (HB3.out.trans ((bA).mono HB3.out.size))
            clear haA bA hpA
            refine wpAnyH_ready (rs := [8]) (by kernel_rfl) (by simp) ?_
            refine AllReadyH.cons rfl (fun K hK => ?_) AllReadyH.nil
            rw [if_pos (by rfl)]
            refine wp_store_2 29 _ _ rfl pA rfl rfl HA4.out infoDisk2 rfl rfl ?_
            refine hK.out _ _ ?_ (fun hHeld => ?_)
            · exact trivial
            clear hK K
            try simp only [List.getElem_toArray, List.getElem_cons_succ, List.getElem_cons_zero, Act.put, List.setIfInBounds_toArray, List.set_cons_zero, List.set_cons_succ]
            refine wpAnyH_take (i := 9) (v := ?_) rfl (by kernel_rfl) (by kernel_rfl) (by kernel_rfl) (fun _ _ _ h => h) (Or.inl ⟨by rfl, ?_⟩) hHeld ?_
            rotate_left
            · intro w' hSw; go_simp; try with_reducible rfl
            simp only [List.getElem_toArray, List.getElem_cons_succ, List.getElem_cons_zero, Act.put, List.setIfInBounds_toArray, List.set_cons_zero, List.set_cons_succ]
            refine wpAnyH_done (by kernel_rfl) ?_ _
            have hst := setRow_heap x4 pA _ #[.slice AP nP cP, .slice AQ nQ cQ] _ _ HA4.out
            have hsb : Below q1.heap.size q1 (x4.setRow pA #[.slice AP nP cP, .slice AQ nQ cQ]) := below_setRow HB4.out HPA.out _
            go_wp2_with fail
            go_meet
            exact ⟨⟨pA, AP, nP, cP, AQ, cQ, rfl, by rw [HNQ.out, HPW.out] at hst ⊢; exact hst⟩, rfl, hsb⟩
          · go_simp
            have haA := heap_alloc_self x2 (.cells #[.slice none 0 0, .slice none 0 0] 29)
            have bA := below_new x2 (.cells #[.slice none 0 0, .slice none 0 0] 29)
            refine hK.out _ _ ?_ (fun hHeld => ?_)
            · exact trivial
            clear hK K
            try simp only [List.getElem_toArray, List.getElem_cons_succ, List.getElem_cons_zero, Act.put, List.setIfInBounds_toArray, List.set_cons_zero, List.set_cons_succ]
            generalize x2.alloc (.cells #[.slice none 0 0, .slice none 0 0] 29) = x3 at haA bA ⊢
            obtain ⟨pA, hpA⟩ : ∃ p, p = x2.heap.size := ⟨_, rfl⟩
            rw [← hpA] at haA ⊢
            have HPA : Hid (q1.heap.size ≤ pA) := Lib.hid (by rw [hpA]; exact HB2.out.size)
            have HA3 := Lib.hid haA
            have HB3 : Hid (Below q1.heap.size q1 x3) := Lib.hid (HB2.out.trans ((bA).mono HB2.out.size))
            have DN3 := Lib.hid ((DN2.out.below (bA)).more (bA).size)
            have XM3 := Lib.hid ((XM2.out.below (bA)).more (bA).size)
            clear haA bA hpA
            refine wpAnyH_ready (rs := [3]) (by kernel_rfl) (by simp) ?_
            refine AllReadyH.cons rfl (fun K hK => ?_) (AllReadyH.nil)
            go_simp
            refine (sput_any _ _ newD [] 1 (zeros 1882) (by omega) x3 DN3.out XM3.out).mono ?_
            rintro e x4 ⟨dP, rfl, hdP, bP⟩
            rw [HPE.out]
            obtain ⟨yP, yQ, rfl, hyP, hyQ⟩ := hdP
            obtain ⟨AP, nP, cP, rfl⟩ := secs_any hyP
            obtain ⟨AQ, nQ, cQ, hyq⟩ : ∃ A n c, yQ = .slice A n c ∧ n = (putW newD [] 1 (zeros 1882)).length := by
              obtain ⟨A, c, h⟩ := wts_slice hyQ
              exact ⟨A, _, c, h, rfl⟩
            obtain ⟨rfl, hnQ⟩ := hyq
            have HNQ := Lib.hid hnQ
            have HB4 : Hid (Below q1.heap.size q1 x4) := Lib.hid (HB3.out.trans ((bP).mono HB3.out.size))
            have DN4 := Lib.hid ((DN3.out.below (bP)).more (bP).size)
            have XM4 := Lib.hid ((XM3.out.below (bP)).more (bP).size)
            have HA4 := Lib.hid (((bP).block _ (heap_lt HA3.out)).trans HA3.out)
            clear hyP hyQ hnQ bP
            try go_wp2_with fail
            refine hK.out _ _ ?_ (fun hHeld => ?_)
            · exact trivial
            clear hK K
            try simp only [List.getElem_toArray, List.getElem_cons_succ, List.getElem_cons_zero, Act.put, List.setIfInBounds_toArray, List.set_cons_zero, List.set_cons_succ]
            refine wpAnyH_take (i := 4) (v := ?_) rfl (by kernel_rfl) (by kernel_rfl) (by kernel_rfl) (fun _ _ _ h => h) (Or.inl ⟨by rfl, ?_⟩) hHeld ?_
            rotate_left
            · intro w' hSw; go_simp; try with_reducible rfl
            simp only [List.getElem_toArray, List.getElem_cons_succ, List.getElem_cons_zero, Act.put, List.setIfInBounds_toArray, List.set_cons_zero, List.set_cons_succ]
            refine wpAnyH_take (i := 5) (v := ?_) rfl (by kernel_rfl) (by kernel_rfl) (by kernel_rfl) (fun _ _ _ h => h) (Or.inl ⟨by rfl, ?_⟩) hHeld ?_
            rotate_left
            · intro w' hSw; go_simp; try with_reducible rfl
            simp only [List.getElem_toArray, List.getElem_cons_succ, List.getElem_cons_zero, Act.put, List.setIfInBounds_toArray, List.set_cons_zero, List.set_cons_succ]
            refine wpAnyH_take (i := 6) (v := ?_) rfl (by kernel_rfl) (by kernel_rfl) (by kernel_rfl) (fun _ _ _ h => h) (Or.inl ⟨by rfl, ?_⟩) hHeld ?_
            rotate_left
            · intro w' hSw; go_simp; try with_reducible rfl
            simp only [List.getElem_toArray, List.getElem_cons_succ, List.getElem_cons_zero, Act.put, List.setIfInBounds_toArray, List.set_cons_zero, List.set_cons_succ]
            refine wpAnyH_ready (rs := [8]) (by kernel_rfl) (by simp) ?_
            refine AllReadyH.cons rfl (fun K hK => ?_) AllReadyH.nil
            rw [if_pos (by rfl)]
            refine wp_store_2 29 _ _ rfl pA rfl rfl HA4.out infoDisk2 rfl rfl ?_
            refine hK.out _ _ ?_ (fun hHeld => ?_)
            · exact trivial
            clear hK K
            try simp only [List.getElem_toArray, List.getElem_cons_succ, List.getElem_cons_zero, Act.put, List.setIfInBounds_toArray, List.set_cons_zero, List.set_cons_succ]
            refine wpAnyH_take (i := 9) (v := ?_) rfl (by kernel_rfl) (by kernel_rfl) (by kernel_rfl) (fun _ _ _ h => h) (Or.inl ⟨by rfl, ?_⟩) hHeld ?_
            rotate_left
            · intro w' hSw; go_simp; try with_reducible rfl
            simp only [List.getElem_toArray, List.getElem_cons_succ, List.getElem_cons_zero, Act.put, List.setIfInBounds_toArray, List.set_cons_zero, List.set_cons_succ]
            refine wpAnyH_done (by kernel_rfl) ?_ _
            have hst := setRow_heap x4 pA _ #[.slice AP nP cP, .slice AQ nQ cQ] _ _ HA4.out
            have hsb : Below q1.heap.size q1 (x4.setRow pA #[.slice AP nP cP, .slice AQ nQ cQ]) := below_setRow HB4.out HPA.out _
            go_wp2_with fail
            go_meet
            exact ⟨⟨pA, AP, nP, cP, AQ, cQ, rfl, by rw [HNQ.out, HPW.out] at hst ⊢; exact hst⟩, rfl, hsb⟩
        · go_simp
          have haA := heap_alloc_self x1 (.cells #[.slice none 0 0, .slice none 0 0] 29)
          have bA := below_new x1 (.cells #[.slice none 0 0, .slice none 0 0] 29)
          refine hK.out _ _ ?_ (fun hHeld => ?_)
          · exact trivial
          clear hK K
          try simp only [List.getElem_toArray, List.getElem_cons_succ, List.getElem_cons_zero, Act.put, List.setIfInBounds_toArray, List.set_cons_zero, List.set_cons_succ]
          generalize x1.alloc (.cells #[.slice none 0 0, .slice none 0 0] 29) = x2 at haA bA ⊢
          obtain ⟨pA, hpA⟩ : ∃ p, p = x1.heap.size := ⟨_, rfl⟩
          rw [← hpA] at haA ⊢
          have HPA : Hid (q1.heap.size ≤ pA) := Lib.hid (by rw [hpA]; exact HB1.out.size)
          have HA2 := Lib.hid haA
          have HB2 : Hid (Below q1.heap.size q1 x2) := Lib.hid (HB1.out.trans ((bA).mono HB1.out.size))
          have DN2 := Lib.hid ((DN1.out.below (bA)).more (bA).size)
          clear haA bA hpA
          refine wpAnyH_ready (rs := [1]) (by kernel_rfl) (by simp) ?_
          refine AllReadyH.cons rfl (fun K hK => ?_) (AllReadyH.nil)
          go_simp
          have hxm := txt_of_block (heap_alloc_self x2 (.cells (rowB (zeros 1882)) 5)) (by rw [zeros_length]; unfold maxLen; omega)
          rw [zeros_length] at hxm
          have bM := below_new x2 (.cells (rowB (zeros 1882)) 5)
          refine hK.out _ _ ?_ (fun hHeld => ?_)
          · exact trivial
          clear hK K
          try simp only [List.getElem_toArray, List.getElem_cons_succ, List.getElem_cons_zero, Act.put, List.setIfInBounds_toArray, List.set_cons_zero, List.set_cons_succ]
          generalize x2.alloc (.cells (rowB (zeros 1882)) 5) = x3 at hxm bM ⊢
          have XM3 := Lib.hid hxm
          have HB3 : Hid (Below q1.heap.size q1 x3) := Lib.hid (HB2.out.trans ((bM).mono HB2.out.size))
          have DN3 := Lib.hid ((DN2.out.below (bM)).more (bM).size)
          have HA3 := Lib.hid (((bM).block _ (heap_lt HA2.out)).trans HA2.out)
          clear hxm bM
          refine wpAnyH_take (i := 2) (v := ?_) rfl (by kernel_rfl) (by kernel_rfl) (by kernel_rfl) (fun _ _ _ h => h) (Or.inl ⟨by rfl, ?_⟩) hHeld ?_
          rotate_left
          · intro w' hSw; go_simp; try with_reducible rfl
          simp only [List.getElem_toArray, List.getElem_cons_succ, List.getElem_cons_zero, Act.put, List.setIfInBounds_toArray, List.set_cons_zero, List.set_cons_succ]
          refine wpAnyH_ready (rs := [3]) (by kernel_rfl) (by simp) ?_
          refine AllReadyH.cons rfl (fun K hK => ?_) (AllReadyH.nil)
          go_simp
          refine (sput_any _ _ newD [] 1 (zeros 1882) (by omega) x3 DN3.out XM3.out).mono ?_
          rintro e x4 ⟨dP, rfl, hdP, bP⟩
          rw [HPE.out]
          obtain ⟨yP, yQ, rfl, hyP, hyQ⟩ := hdP
          obtain ⟨AP, nP, cP, rfl⟩ := secs_any hyP
          obtain ⟨AQ, nQ, cQ, hyq⟩ : ∃ A n c, yQ = .slice A n c ∧ n = (putW newD [] 1 (zeros 1882)).length := by
            obtain ⟨A, c, h⟩ := wts_slice hyQ
            exact ⟨A, _, c, h, rfl⟩
          obtain ⟨rfl, hnQ⟩ := hyq
          have HNQ := Lib.hid hnQ
          have HB4 : Hid (Below q1.heap.size q1 x4) := Lib.hid (HB3.out.trans ((bP).mono HB3.out.size))
          have DN4 := Lib.hid ((DN3.out.below (bP)).more (bP).size)
          have XM4 := Lib.hid ((XM3.out.below (bP)).more (bP).size)
          have HA4 := Lib.hid (((bP).block _ (heap_lt HA3.out)).trans HA3.out)
          clear hyP hyQ hnQ bP
          try go_wp2_with fail
          refine hK.out _ _ ?_ (fun hHeld => ?_)
          · exact trivial
          clear hK K
          try simp only [List.getElem_toArray, List.getElem_cons_succ, List.getElem_cons_zero, Act.put, List.setIfInBounds_toArray, List.set_cons_zero, List.set_cons_succ]
          refine wpAnyH_take (i := 4) (v := ?_) rfl (by kernel_rfl) (by kernel_rfl) (by kernel_rfl) (fun _ _ _ h => h) (Or.inl ⟨by rfl, ?_⟩) hHeld ?_
          rotate_left
          · intro w' hSw; go_simp; try with_reducible rfl
          simp only [List.getElem_toArray, List.getElem_cons_succ, List.getElem_cons_zero, Act.put, List.setIfInBounds_toArray, List.set_cons_zero, List.set_cons_succ]
          refine wpAnyH_take (i := 5) (v := ?_) rfl (by kernel_rfl) (by kernel_rfl) (by kernel_rfl) (fun _ _ _ h => h) (Or.inl ⟨by rfl, ?_⟩) hHeld ?_
          rotate_left
          · intro w' hSw; go_simp; try with_reducible rfl
          simp only [List.getElem_toArray, List.getElem_cons_succ, List.getElem_cons_zero, Act.put, List.setIfInBounds_toArray, List.set_cons_zero, List.set_cons_succ]
          refine wpAnyH_take (i := 6) (v := ?_) rfl (by kernel_rfl) (by kernel_rfl) (by kernel_rfl) (fun _ _ _ h => h) (Or.inl ⟨by rfl, ?_⟩) hHeld ?_
          rotate_left
          · intro w' hSw; go_simp; try with_reducible rfl
          simp only [List.getElem_toArray, List.getElem_cons_succ, List.getElem_cons_zero, Act.put, List.setIfInBounds_toArray, List.set_cons_zero, List.set_cons_succ]
          refine wpAnyH_ready (rs := [8]) (by kernel_rfl) (by simp) ?_
          refine AllReadyH.cons rfl (fun K hK => ?_) AllReadyH.nil
          rw [if_pos (by rfl)]
          refine wp_store_2 29 _ _ rfl pA rfl rfl HA4.out infoDisk2 rfl rfl ?_
          refine hK.out _ _ ?_ (fun hHeld => ?_)
          · exact trivial
          clear hK K
          try simp only [List.getElem_toArray, List.getElem_cons_succ, List.getElem_cons_zero, Act.put, List.setIfInBounds_toArray, List.set_cons_zero, List.set_cons_succ]
          refine wpAnyH_take (i := 9) (v := ?_) rfl (by kernel_rfl) (by kernel_rfl) (by kernel_rfl) (fun _ _ _ h => h) (Or.inl ⟨by rfl, ?_⟩) hHeld ?_
          rotate_left
          · intro w' hSw; go_simp; try with_reducible rfl
          simp only [List.getElem_toArray, List.getElem_cons_succ, List.getElem_cons_zero, Act.put, List.setIfInBounds_toArray, List.set_cons_zero, List.set_cons_succ]
          refine wpAnyH_done (by kernel_rfl) ?_ _
          have hst := setRow_heap x4 pA _ #[.slice AP nP cP, .slice AQ nQ cQ] _ _ HA4.out
          have hsb : Below q1.heap.size q1 (x4.setRow pA #[.slice AP nP cP, .slice AQ nQ cQ]) := below_setRow HB4.out HPA.out _
          go_wp2_with fail
          go_meet
          exact ⟨⟨pA, AP, nP, cP, AQ, cQ, rfl, by rw [HNQ.out, HPW.out] at hst ⊢; exact hst⟩, rfl, hsb⟩
      · go_simp
        have hxm := txt_of_block (heap_alloc_self x0 (.cells (rowB (zeros 1882)) 5)) (by rw [zeros_length]; unfold maxLen; omega)
        rw [zeros_length] at hxm
        have bM := below_new x0 (.cells (rowB (zeros 1882)) 5)
        refine hK.out _ _ ?_ (fun hHeld => ?_)
        · exact trivial
        clear hK K
        try simp only [List.getElem_toArray, List.getElem_cons_succ, List.getElem_cons_zero, Act.put, List.setIfInBounds_toArray, List.set_cons_zero, List.set_cons_succ]
        generalize x0.alloc (.cells (rowB (zeros 1882)) 5) = x1 at hxm bM ⊢
        have XM1 := Lib.hid hxm
        have HB1 : Hid (Below q1.heap.size q1 x1) := Lib.hid (HB0.out.trans ((bM).mono HB0.out.size))
        clear hxm bM
        refine wpAnyH_take (i := 2) (v := ?_) rfl (by kernel_rfl) (by kernel_rfl) (by kernel_rfl) (fun _ _ _ h => h) (Or.inl ⟨by rfl, ?_⟩) hHeld ?_
        rotate_left
        · intro w' hSw; go_simp; try with_reducible rfl
        simp only [List.getElem_toArray, List.getElem_cons_succ, List.getElem_cons_zero, Act.put, List.setIfInBounds_toArray, List.set_cons_zero, List.set_cons_succ]
        refine wpAnyH_ready (rs := [0, 7]) (by kernel_rfl) (by simp) ?_
        refine AllReadyH.cons rfl (fun K hK => ?_) (AllReadyH.cons rfl (fun K hK => ?_) (AllReadyH.nil))
        · go_simp
          refine (new_any x1).mono ?_
          rintro e x2 ⟨vN, rfl, hsN, bN⟩
          obtain ⟨AN, nN, cN, rfl⟩ := secs_any hsN
          have DN2 : Hid (DiskIn x2 x2.heap.size (.agg #[.slice AN nN cN, .slice none 0 0]) newD []) := Lib.hid ⟨_, _, rfl, hsN.in_, WtsIn.nil_⟩
          have HB2 : Hid (Below q1.heap.size q1 x2) := Lib.hid (HB1.out.trans ((bN).mono HB1.out.size))
          have XM2 := Lib.hid ((XM1.out.below (bN)).more (bN).size)
          clear hsN bN
          try go_wp2_with fail
          refine hK.out _ _ ?_ (fun hHeld => ?_)
          · exact trivial
          clear hK K
          try simp only [List.getElem_toArray, List.getElem_cons_succ, List.getElem_cons_zero, Act.put, List.setIfInBounds_toArray, List.set_cons_zero, List.set_cons_succ]
          refine wpAnyH_ready (rs := [3, 7]) (by kernel_rfl) (by simp) ?_
          refine AllReadyH.cons rfl (fun K hK => ?_) (AllReadyH.cons rfl (fun K hK => ?_) (AllReadyH.nil))
          · go_simp
            refine (sput_any _ _ newD [] 1 (zeros 1882) (by omega) x2 DN2.out XM2.out).mono ?_
            rintro e x3 ⟨dP, rfl, hdP, bP⟩
            rw [HPE.out]
            obtain ⟨yP, yQ, rfl, hyP, hyQ⟩ := hdP
            obtain ⟨AP, nP, cP, rfl⟩ := secs_any hyP
            obtain ⟨AQ, nQ, cQ, hyq⟩ : ∃ A n c, yQ = .slice A n c ∧ n = (putW newD [] 1 (zeros 1882)).length := by
              obtain ⟨A, c, h⟩ := wts_slice hyQ
              exact ⟨A, _, c, h, rfl⟩
            obtain ⟨rfl, hnQ⟩ := hyq
            have HNQ := Lib.hid hnQ
            have HB3 : Hid (Below q1.heap.size q1 x3) := Lib.hid (HB2.out.trans ((bP).mono HB2.out.size))
            have DN3 := Lib.hid ((DN2.out.below (bP)).more (bP).size)
            have XM3 := Lib.hid ((XM2.out.below (bP)).more (bP).size)
            clear hyP hyQ hnQ bP
            try go_wp2_with fail
            refine hK.out _ _ ?_ (fun hHeld => ?_)
            · exact trivial
            clear hK K
            try simp only [List.getElem_toArray, List.getElem_cons_succ, List.getElem_cons_zero, Act.put, List.setIfInBounds_toArray, List.set_cons_zero, List.set_cons_succ]
            refine wpAnyH_take (i := 4) (v := ?_) rfl (by kernel_rfl) (by kernel_rfl) (by kernel_rfl) (fun _ _ _ h => h) (Or.inl ⟨by rfl, ?_⟩) hHeld ?_
            rotate_left
            · intro w' hSw; go_simp; try with_reducible rfl
            simp only [List.getElem_toArray, List.getElem_cons_succ, List.getElem_cons_zero, Act.put, List.setIfInBounds_toArray, List.set_cons_zero, List.set_cons_succ]
            refine wpAnyH_take (i := 5) (v := ?_) rfl (by kernel_rfl) (by kernel_rfl) (by kernel_rfl) (fun _ _ _ h => h) (Or.inl ⟨by rfl, ?_⟩) hHeld ?_
            rotate_left
            · intro w' hSw; go_simp; try with_reducible rfl
            simp only [List.getElem_toArray, List.getElem_cons_succ, List.getElem_cons_zero, Act.put, List.setIfInBounds_toArray, List.set_cons_zero, List.set_cons_succ]
            refine wpAnyH_take (i := 6) (v := ?_) rfl (by kernel_rfl) (by kernel_rfl) (by kernel_rfl) (fun _ _ _ h => h) (Or.inl ⟨by rfl, ?_⟩) hHeld ?_
            rotate_left
            · intro w' hSw; go_simp; try with_reducible rfl
            simp only [List.getElem_toArray, List.getElem_cons_succ, List.getElem_cons_zero, Act.put, List.setIfInBounds_toArray, List.set_cons_zero, List.set_cons_succ]
            refine wpAnyH_ready (rs := [7]) (by kernel_rfl) (by simp) ?_
            refine AllReadyH.cons rfl (fun K hK => ?_) (AllReadyH.nil)
            go_simp
            have haA := heap_alloc_self x3 (.cells #[.slice none 0 0, .slice none 0 0] 29)
            have bA := below_new x3 (.cells #[.slice none 0 0, .slice none 0 0] 29)
            refine hK.out _ _ ?_ (fun hHeld => ?_)
            · exact trivial
            clear hK K
            try simp only [List.getElem_toArray, List.getElem_cons_succ, List.getElem_cons_zero, Act.put, List.setIfInBounds_toArray, List.set_cons_zero, List.set_cons_succ]
            generalize x3.alloc (.cells #[.slice none 0 0, .slice none 0 0] 29) = x4 at haA bA ⊢
            obtain ⟨pA, hpA⟩ : ∃ p, p = x3.heap.size := ⟨_, rfl⟩
            rw [← hpA] at haA ⊢
            have HPA : Hid (q1.heap.size ≤ pA) := Lib.hid (by rw [hpA]; exact HB3.out.size)
            have HA4 := Lib.hid haA
            have HB4 : Hid (Below q1.heap.size q1 x4) := Lib.hid (HB3.out.trans ((bA).mono HB3.out.size))
            clear haA bA hpA
            refine wpAnyH_ready (rs := [8]) (by kernel_rfl) (by simp) ?_
            refine AllReadyH.cons rfl (fun K hK => ?_) AllReadyH.nil
            rw [if_pos (by rfl)]
            refine wp_store_2 29 _ _ rfl pA rfl rfl HA4.out infoDisk2 rfl rfl ?_
            refine hK.out _ _ ?_ (fun hHeld => ?_)
            · exact trivial
            clear hK K
            try simp only [List.getElem_toArray, List.getElem_cons_succ, List.getElem_cons_zero, Act.put, List.setIfInBounds_toArray, List.set_cons_zero, List.set_cons_succ]
            refine wpAnyH_take (i := 9) (v := ?_) rfl (by kernel_rfl) (by kernel_rfl) (by kernel_rfl) (fun _ _ _ h => h) (Or.inl ⟨by rfl, ?_⟩) hHeld ?_
            rotate_left
            · intro w' hSw; go_simp; try with_reducible rfl
            simp only [List.getElem_toArray, List.getElem_cons_succ, List.getElem_cons_zero, Act.put, List.setIfInBounds_toArray, List.set_cons_zero, List.set_cons_succ]
            refine wpAnyH_done (by kernel_rfl) ?_ _
            have hst := setRow_heap x4 pA _ #[.slice AP nP cP, .slice AQ nQ cQ] _ _ HA4.out
            have hsb : Below q1.heap.size q1 (x4.setRow pA #[.slice AP nP cP, .slice AQ nQ cQ]) := below_setRow HB4.out HPA.out _
            go_wp2_with fail
            go_meet
            exact ⟨⟨pA, AP, nP, cP, AQ, cQ, rfl, by rw [HNQ.out, HPW.out] at hst ⊢; exact hst⟩, rfl, hsb⟩
          · go_simp
            have haA := heap_alloc_self x2 (.cells #[.slice none 0 0, .slice none 0 0] 29)
            have bA := below_new x2 (.cells #[.slice none 0 0, .slice none 0 0] 29)
            refine hK.out _ _ ?_ (fun hHeld => ?_)
            · exact trivial
            clear hK K
            try simp only [List.getElem_toArray, List.getElem_cons_succ, List.getElem_cons_zero, Act.put, List.setIfInBounds_toArray, List.set_cons_zero, List.set_cons_succ]
            generalize x2.alloc (.cells #[.slice none 0 0, .slice none 0 0] 29) = x3 at haA bA ⊢
            obtain ⟨pA, hpA⟩ : ∃ p, p = x2.heap.size := ⟨_, rfl⟩
            rw [← hpA] at haA ⊢
            have HPA : Hid (q1.heap.size ≤ pA) := Lib.hid (by rw [hpA]; exact HB2.out.size)
            have HA3 := Lib.hid haA
            have HB3 : Hid (Below q1.heap.size q1 x3) := Lib.hid (HB2.out.trans ((bA).mono HB2.out.size))
            have DN3 := Lib.hid ((DN2.out.below (bA)).more (bA).size)
            have XM3 := Lib.hid ((XM2.out.below (bA)).more (bA).size)
            clear haA bA hpA
            refine wpAnyH_ready (rs := [3]) (by kernel_rfl) (by simp) ?_
            refine AllReadyH.cons rfl (fun K hK => ?_) (AllReadyH.nil)
            go_simp
            refine (sput_any _ _ newD [] 1 (zeros 1882) (by omega) x3 DN3.out XM3.out).mono ?_
            rintro e x4 ⟨dP, rfl, hdP, bP⟩
            rw [HPE.out]
            obtain ⟨yP, yQ, rfl, hyP, hyQ⟩ := hdP
            obtain ⟨AP, nP, cP, rfl⟩ := secs_any hyP
            obtain ⟨AQ, nQ, cQ, hyq⟩ : ∃ A n c, yQ = .slice A n c ∧ n = (putW newD [] 1 (zeros 1882)).length := by
              obtain ⟨A, c, h⟩ := wts_slice hyQ
              exact ⟨A, _, c, h, rfl⟩
            obtain ⟨rfl, hnQ⟩ := hyq
            have HNQ := Lib.hid hnQ
            have HB4 : Hid (Below q1.heap.size q1 x4) := Lib.hid (HB3.out.trans ((bP).mono HB3.out.size))
            have DN4 := Lib.hid ((DN3.out.below (bP)).more (bP).size)
            have XM4 := Lib.hid ((XM3.out.below (bP)).more (bP).size)
            have HA4 := Lib.hid (((bP).block _ (heap_lt HA3.out)).trans HA3.out)
            clear hyP hyQ hnQ bP
            try go_wp2_with fail
            refine hK.out _ _ ?_ (fun hHeld => ?_)
            · exact trivial
            clear hK K
            try simp only [List.getElem_toArray, List.getElem_cons_succ, List.getElem_cons_zero, Act.put, List.setIfInBounds_toArray, List.set_cons_zero, List.set_cons_succ]
            refine wpAnyH_take (i := 4) (v := ?_) rfl (by kernel_rfl) (by kernel_rfl) (by kernel_rfl) (fun _ _ _ h => h) (Or.inl ⟨by rfl, ?_⟩) hHeld ?_
            rotate_left
            · intro w' hSw; go_simp; try with_reducible rfl
            simp only [List.getElem_toArray, List.getElem_cons_succ, List.getElem_cons_zero, Act.put, List.setIfInBounds_toArray, List.set_cons_zero, List.set_cons_succ]
            refine wpAnyH_take (i := 5) (v := ?_) rfl (by kernel_rfl) (by kernel_rfl) (by kernel_rfl) (fun _ _ _ h => h) (Or.inl ⟨by rfl, ?_⟩) hHeld ?_
            rotate_left
            · intro w' hSw; go_simp; try with_reducible rfl
            simp only [List.getElem_toArray, List.getElem_cons_succ, List.getElem_cons_zero, Act.put, List.setIfInBounds_toArray, List.set_cons_zero, List.set_cons_succ]
            refine wpAnyH_take (i := 6) (v := ?_) rfl (by kernel_rfl) (by kernel_rfl) (by kernel_rfl) (fun _ _ _ h => h) (Or.inl ⟨by rfl, ?_⟩) hHeld ?_
            rotate_left
            · intro w' hSw; go_simp; try with_reducible rfl
            simp only [List.getElem_toArray, List.getElem_cons_succ, List.getElem_cons_zero, Act.put, List.setIfInBounds_toArray, List.set_cons_zero, List.set_cons_succ]
            refine wpAnyH_ready (rs := [8]) (by kernel_rfl) (by simp) ?_
            refine AllReadyH.cons rfl (fun K hK => ?_) AllReadyH.nil
            rw [if_pos (by rfl)]
            refine wp_store_2 29 _ _ rfl pA rfl rfl HA4.out infoDisk2 rfl rfl ?_
            refine hK.out _ _ ?_ (fun hHeld => ?_)
            · exact trivial
            clear hK K
            try simp only [List.getElem_toArray, List.getElem_cons_succ, List.getElem_cons_zero, Act.put, List.setIfInBounds_toArray, List.set_cons_zero, List.set_cons_succ]
            refine wpAnyH_take (i := 9) (v := ?_) rfl (by kernel_rfl) (by kernel_rfl) (by kernel_rfl) (fun _ _ _ h => h) (Or.inl ⟨by rfl, ?_⟩) hHeld ?_
            rotate_left
            · intro w' hSw; go_simp; try with_reducible rfl
            simp only [List.getElem_toArray, List.getElem_cons_succ, List.getElem_cons_zero, Act.put, List.setIfInBounds_toArray, List.set_cons_zero, List.set_cons_succ]
            refine wpAnyH_done (by kernel_rfl) ?_ _
            have hst := setRow_heap x4 pA _ #[.slice AP nP cP, .slice AQ nQ cQ] _ _ HA4.out
            have hsb : Below q1.heap.size q1 (x4.setRow pA #[.slice AP nP cP, .slice AQ nQ cQ]) := below_setRow HB4.out HPA.out _
            go_wp2_with fail
            go_meet
            exact ⟨⟨pA, AP, nP, cP, AQ, cQ, rfl, by rw [HNQ.out, HPW.out] at hst ⊢; exact hst⟩, rfl, hsb⟩
        · go_simp
          have haA := heap_alloc_self x1 (.cells #[.slice none 0 0, .slice none 0 0] 29)
          have bA := below_new x1 (.cells #[.slice none 0 0, .slice none 0 0] 29)
          refine hK.out _ _ ?_ (fun hHeld => ?_)
          · exact trivial
          clear hK K
          try simp only [List.getElem_toArray, List.getElem_cons_succ, List.getElem_cons_zero, Act.put, List.setIfInBounds_toArray, List.set_cons_zero, List.set_cons_succ]
          generalize x1.alloc (.cells #[.slice none 0 0, .slice none 0 0] 29) = x2 at haA bA ⊢
          obtain ⟨pA, hpA⟩ : ∃ p, p = x1.heap.size := ⟨_, rfl⟩
          rw [← hpA] at haA ⊢
          have HPA : Hid (q1.heap.size ≤ pA) := Lib.hid (by rw [hpA]; exact HB1.out.size)
          have HA2 := Lib.hid haA
          have HB2 : Hid (Below q1.heap.size q1 x2) := Lib.hid (HB1.out.trans ((bA).mono HB1.out.size))
          have XM2 := Lib.hid ((XM1.out.below (bA)).more (bA).size)
          clear haA bA hpA
          refine wpAnyH_ready (rs := [0]) (by kernel_rfl) (by simp) ?_
          refine AllReadyH.cons rfl (fun K hK => ?_) (AllReadyH.nil)
          go_simp
          refine (new_any x2).mono ?_
          rintro e x3 ⟨vN, rfl, hsN, bN⟩
          obtain ⟨AN, nN, cN, rfl⟩ := secs_any hsN
          have DN3 : Hid (DiskIn x3 x3.heap.size (.agg #[.slice AN nN cN, .slice none 0 0]) newD []) := Lib.hid ⟨_, _, rfl, hsN.in_, WtsIn.nil_⟩
          have HB3 : Hid (Below q1.heap.size q1 x3) := Lib.hid (HB2.out.trans ((bN).mono HB2.out.size))
          have XM3 := Lib.hid ((XM2.out.below (bN)).more (bN).size)
          have HA3 := Lib.hid (((bN).block _ (heap_lt HA2.out)).trans HA2.out)
          clear hsN bN
          try go_wp2_with fail
          refine hK.out _ _ ?_ (fun hHeld => ?_)
          · exact trivial
          clear hK K
          try simp only [List.getElem_toArray, List.getElem_cons_succ, List.getElem_cons_zero, Act.put, List.setIfInBounds_toArray, List.set_cons_zero, List.set_cons_succ]
          refine wpAnyH_ready (rs := [3]) (by kernel_rfl) (by simp) ?_
          refine AllReadyH.cons rfl (fun K hK => ?_) (AllReadyH.nil)
          go_simp
          refine (sput_any _ _ newD [] 1 (zeros 1882) (by omega) x3 DN3.out XM3.out).mono ?_
          rintro e x4 ⟨dP, rfl, hdP, bP⟩
          rw [HPE.out]
          obtain ⟨yP, yQ, rfl, hyP, hyQ⟩ := hdP
          obtain ⟨AP, nP, cP, rfl⟩ := secs_any hyP
          obtain ⟨AQ, nQ, cQ, hyq⟩ : ∃ A n c, yQ = .slice A n c ∧ n = (putW newD [] 1 (zeros 1882)).length := by
            obtain ⟨A, c, h⟩ := wts_slice hyQ
            exact ⟨A, _, c, h, rfl⟩
          obtain ⟨rfl, hnQ⟩ := hyq
          have HNQ := Lib.hid hnQ
          have HB4 : Hid (Below q1.heap.size q1 x4) := Lib.hid (HB3.out.trans ((bP).mono HB3.out.size))
          have DN4 := Lib.hid ((DN3.out.below (bP)).more (bP).size)
          have XM4 := Lib.hid ((XM3.out.below (bP)).more (bP).size)
          have HA4 := Lib.hid (((bP).block _ (heap_lt HA3.out)).trans HA3.out)
          clear hyP hyQ hnQ bP
          try go_wp2_with fail
          refine hK.out _ _ ?_ (fun hHeld => ?_)
          · exact trivial
          clear hK K
          try simp only [List.getElem_toArray, List.getElem_cons_succ, List.getElem_cons_zero, Act.put, List.setIfInBounds_toArray, List.set_cons_zero, List.set_cons_succ]
          refine wpAnyH_take (i := 4) (v := ?_) rfl (by kernel_rfl) (by kernel_rfl) (by kernel_rfl) (fun _ _ _ h => h) (Or.inl ⟨by rfl, ?_⟩) hHeld ?_
          rotate_left
          · intro w' hSw; go_simp; try with_reducible rfl
          simp only [List.getElem_toArray, List.getElem_cons_succ, List.getElem_cons_zero, Act.put, List.setIfInBounds_toArray, List.set_cons_zero, List.set_cons_succ]
          refine wpAnyH_take (i := 5) (v := ?_) rfl (by kernel_rfl) (by kernel_rfl) (by kernel_rfl) (fun _ _ _ h => h) (Or.inl ⟨by rfl, ?_⟩) hHeld ?_
          rotate_left
          · intro w' hSw; go_simp; try with_reducible rfl
          simp only [List.getElem_toArray, List.getElem_cons_succ, List.getElem_cons_zero, Act.put, List.setIfInBounds_toArray, List.set_cons_zero, List.set_cons_succ]
          refine wpAnyH_take (i := 6) (v := ?_) rfl (by kernel_rfl) (by kernel_rfl) (by kernel_rfl) (fun _ _ _ h => h) (Or.inl ⟨by rfl, ?_⟩) hHeld ?_
          rotate_left
          · intro w' hSw; go_simp; try with_reducible rfl
          simp only [List.getElem_toArray, List.getElem_cons_succ, List.getElem_cons_zero, Act.put, List.setIfInBounds_toArray, List.set_cons_zero, List.set_cons_succ]
          refine wpAnyH_ready (rs := [8]) (by kernel_rfl) (by simp) ?_
          refine AllReadyH.cons rfl (fun K hK => ?_) AllReadyH.nil
          rw [if_pos (by rfl)]
          refine wp_store_2 29 _ _ rfl pA rfl rfl HA4.out infoDisk2 rfl rfl ?_
          refine hK.out _ _ ?_ (fun hHeld => ?_)
          · exact trivial
          clear hK K
          try simp only [List.getElem_toArray, List.getElem_cons_succ, List.getElem_cons_zero, Act.put, List.setIfInBounds_toArray, List.set_cons_zero, List.set_cons_succ]
          refine wpAnyH_take (i := 9) (v := ?_) rfl (by kernel_rfl) (by kernel_rfl) (by kernel_rfl) (fun _ _ _ h => h) (Or.inl ⟨by rfl, ?_⟩) hHeld ?_
          rotate_left
          · intro w' hSw; go_simp; try with_reducible rfl
          simp only [List.getElem_toArray, List.getElem_cons_succ, List.getElem_cons_zero, Act.put, List.setIfInBounds_toArray, List.set_cons_zero, List.set_cons_succ]
          refine wpAnyH_done (by kernel_rfl) ?_ _
          have hst := setRow_heap x4 pA _ #[.slice AP nP cP, .slice AQ nQ cQ] _ _ HA4.out
          have hsb : Below q1.heap.size q1 (x4.setRow pA #[.slice AP nP cP, .slice AQ nQ cQ]) := below_setRow HB4.out HPA.out _
          go_wp2_with fail
          go_meet
          exact ⟨⟨pA, AP, nP, cP, AQ, cQ, rfl, by rw [HNQ.out, HPW.out] at hst ⊢; exact hst⟩, rfl, hsb⟩
      · go_simp
        have haA := heap_alloc_self x0 (.cells #[.slice none 0 0, .slice none 0 0] 29)
        have bA := below_new x0 (.cells #[.slice none 0 0, .slice none 0 0] 29)
        refine hK.out _ _ ?_ (fun hHeld => ?_)
        · exact trivial
        clear hK K
        try simp only [List.getElem_toArray, List.getElem_cons_succ, List.getElem_cons_zero, Act.put, List.setIfInBounds_toArray, List.set_cons_zero, List.set_cons_succ]
        generalize x0.alloc (.cells #[.slice none 0 0, .slice none 0 0] 29) = x1 at haA bA ⊢
        obtain ⟨pA, hpA⟩ : ∃ p, p = x0.heap.size := ⟨_, rfl⟩
        rw [← hpA] at haA ⊢
        have HPA : Hid (q1.heap.size ≤ pA) := Lib.hid (by rw [hpA]; exact HB0.out.size)
        have HA1 := Lib.hid haA
        have HB1 : Hid (Below q1.heap.size q1 x1) := Lib.hid (HB0.out.trans ((bA).mono HB0.out.size))
        clear haA bA hpA
        refine wpAnyH_ready (rs := [0, 1]) (by kernel_rfl) (by simp) ?_
        refine AllReadyH.cons rfl (fun K hK => ?_) (AllReadyH.cons rfl (fun K hK => ?_) (AllReadyH.nil))
        · go_simp
          refine (new_any x1).mono ?_
          rintro e x2 ⟨vN, rfl, hsN, bN⟩
          obtain ⟨AN, nN, cN, rfl⟩ := secs_any hsN
          have DN2 : Hid (DiskIn x2 x2.heap.size (.agg #[.slice AN nN cN, .slice none 0 0]) newD []) := Lib.hid ⟨_, _, rfl, hsN.in_, WtsIn.nil_⟩
          have HB2 : Hid (Below q1.heap.size q1 x2) := Lib.hid (HB1.out.trans ((bN).mono HB1.out.size))
          have HA2 := Lib.hid (((bN).block _ (heap_lt HA1.out)).trans HA1.out)
          clear hsN bN
          try go_wp2_with fail
          refine hK.out _ _ ?_ (fun hHeld => ?_)
          · exact trivial
          clear hK K
          try simp only [List.getElem_toArray, List.getElem_cons_succ, List.getElem_cons_zero, Act.put, List.setIfInBounds_toArray, List.set_cons_zero, List.set_cons_succ]
          refine wpAnyH_ready (rs := [1]) (by kernel_rfl) (by simp) ?_
          refine AllReadyH.cons rfl (fun K hK => ?_) (AllReadyH.nil)
          go_simp
          have hxm := txt_of_block (heap_alloc_self x2 (.cells (rowB (zeros 1882)) 5)) (by rw [zeros_length]; unfold maxLen; omega)
          rw [zeros_length] at hxm
          have bM := below_new x2 (.cells (rowB (zeros 1882)) 5)
          refine hK.out _ _ ?_ (fun hHeld => ?_)
          · exact trivial
          clear hK K
          try simp only [List.getElem_toArray, List.getElem_cons_succ, List.getElem_cons_zero, Act.put, List.setIfInBounds_toArray, List.set_cons_zero, List.set_cons_succ]
          generalize x2.alloc (.cells (rowB (zeros 1882)) 5) = x3 at hxm bM ⊢
          have XM3 := Lib.hid hxm
          have HB3 : Hid (Below q1.heap.size q1 x3) := Lib.hid (HB2.out.trans ((bM).mono HB2.out.size))
          have DN3 := Lib.hid ((DN2.out.below (bM)).more (bM).size)
          have HA3 := Lib.hid (((bM).block _ (heap_lt HA2.out)).trans HA2.out)
          clear hxm bM
          refine wpAnyH_take (i := 2) (v := ?_) rfl (by kernel_rfl) (by kernel_rfl) (by kernel_rfl) (fun _ _ _ h => h) (Or.inl ⟨by rfl, ?_⟩) hHeld ?_
          rotate_left
          · intro w' hSw; go_simp; try with_reducible rfl
          simp only [List.getElem_toArray, List.getElem_cons_succ, List.getElem_cons_zero, Act.put, List.setIfInBounds_toArray, List.set_cons_zero, List.set_cons_succ]
          refine wpAnyH_ready (rs := [3]) (by kernel_rfl) (by simp) ?_
          refine AllReadyH.cons rfl (fun K hK => ?_) (AllReadyH.nil)
          go_simp
          refine (sput_any _ _ newD [] 1 (zeros 1882) (by omega) x3 DN3.out XM3.out).mono ?_
          rintro e x4 ⟨dP, rfl, hdP, bP⟩
          rw [HPE.out]
          obtain ⟨yP, yQ, rfl, hyP, hyQ⟩ := hdP
          obtain ⟨AP, nP, cP, rfl⟩ := secs_any hyP
          obtain ⟨AQ, nQ, cQ, hyq⟩ : ∃ A n c, yQ = .slice A n c ∧ n = (putW newD [] 1 (zeros 1882)).length := by
            obtain ⟨A, c, h⟩ := wts_slice hyQ
            exact ⟨A, _, c, h, rfl⟩
          obtain ⟨rfl, hnQ⟩ := hyq
          have HNQ := Lib.hid hnQ
          have HB4 : Hid (Below q1.heap.size q1 x4) := Lib.hid (HB3.out.trans ((bP).mono HB3.out.size))
          have DN4 := Lib.hid ((DN3.out.below (bP)).more (bP).size)
          have XM4 := Lib.hid ((XM3.out.below (bP)).more (bP).size)
          have HA4 := Lib.hid (((bP).block _ (heap_lt HA3.out)).trans HA3.out)
          clear hyP hyQ hnQ bP
          try go_wp2_with fail
          refine hK.out _ _ ?_ (fun hHeld => ?_)
          · exact trivial
          clear hK K
          try simp only [List.getElem_toArray, List.getElem_cons_succ, List.getElem_cons_zero, Act.put, List.setIfInBounds_toArray, List.set_cons_zero, List.set_cons_succ]
          refine wpAnyH_take (i := 4) (v := ?_) rfl (by kernel_rfl) (by kernel_rfl) (by kernel_rfl) (fun _ _ _ h => h) (Or.inl ⟨by rfl, ?_⟩) hHeld ?_
          rotate_left
          · intro w' hSw; go_simp; try with_reducible rfl
          simp only [List.getElem_toArray, List.getElem_cons_succ, List.getElem_cons_zero, Act.put, List.setIfInBounds_toArray, List.set_cons_zero, List.set_cons_succ]
          refine wpAnyH_take (i := 5) (v := ?_) rfl (by kernel_rfl) (by kernel_rfl) (by kernel_rfl) (fun _ _ _ h => h) (Or.inl ⟨by rfl, ?_⟩) hHeld ?_
          rotate_left
          · intro w' hSw; go_simp; try with_reducible rfl
          simp only [List.getElem_toArray, List.getElem_cons_succ, List.getElem_cons_zero, Act.put, List.setIfInBounds_toArray, List.set_cons_zero, List.set_cons_succ]
          refine wpAnyH_take (i := 6) (v := ?_) rfl (by kernel_rfl) (by kernel_rfl) (by kernel_rfl) (fun _ _ _ h => h) (Or.inl ⟨by rfl, ?_⟩) hHeld ?_
          rotate_left
          · intro w' hSw; go_simp; try with_reducible rfl
          simp only [List.getElem_toArray, List.getElem_cons_succ, List.getElem_cons_zero, Act.put, List.setIfInBounds_toArray, List.set_cons_zero, List.set_cons_succ]
          refine wpAnyH_ready (rs := [8]) (by kernel_rfl) (by simp) ?_
          refine AllReadyH.cons rfl (fun K hK => ?_) AllReadyH.nil
          rw [if_pos (by rfl)]
          refine wp_store_2 29 _ _ rfl pA rfl rfl HA4.out infoDisk2 rfl rfl ?_
          refine hK.out _ _ ?_ (fun hHeld => ?_)
          · exact trivial
          clear hK K
          try simp only [List.getElem_toArray, List.getElem_cons_succ, List.getElem_cons_zero, Act.put, List.setIfInBounds_toArray, List.set_cons_zero, List.set_cons_succ]
          refine wpAnyH_take (i := 9) (v := ?_) rfl (by kernel_rfl) (by kernel_rfl) (by kernel_rfl) (fun _ _ _ h => h) (Or.inl ⟨by rfl, ?_⟩) hHeld ?_
          rotate_left
          · intro w' hSw; go_simp; try with_reducible rfl
          simp only [List.getElem_toArray, List.getElem_cons_succ, List.getElem_cons_zero, Act.put, List.setIfInBounds_toArray, List.set_cons_zero, List.set_cons_succ]
          refine wpAnyH_done (by kernel_rfl) ?_ _
          have hst := setRow_heap x4 pA _ #[.slice AP nP cP, .slice AQ nQ cQ] _ _ HA4.out
          have hsb : Below q1.heap.size q1 (x4.setRow pA #[.slice AP nP cP, .slice AQ nQ cQ]) := below_setRow HB4.out HPA.out _
          go_wp2_with fail
          go_meet
          exact ⟨⟨pA, AP, nP, cP, AQ, cQ, rfl, by rw [HNQ.out, HPW.out] at hst ⊢; exact hst⟩, rfl, hsb⟩
        · go_simp
          have hxm := txt_of_block (heap_alloc_self x1 (.cells (rowB (zeros 1882)) 5)) (by rw [zeros_length]; unfold maxLen; omega)
          rw [zeros_length] at hxm
          have bM := below_new x1 (.cells (rowB (zeros 1882)) 5)
          refine hK.out _ _ ?_ (fun hHeld => ?_)
          · exact trivial
          clear hK K
          try simp only [List.getElem_toArray, List.getElem_cons_succ, List.getElem_cons_zero, Act.put, List.setIfInBounds_toArray, List.set_cons_zero, List.set_cons_succ]
          generalize x1.alloc (.cells (rowB (zeros 1882)) 5) = x2 at hxm bM ⊢
          have XM2 := Lib.hid hxm
          have HB2 : Hid (Below q1.heap.size q1 x2) := Lib.hid (HB1.out.trans ((bM).mono HB1.out.size))
          have HA2 := Lib.hid (((bM).block _ (heap_lt HA1.out)).trans HA1.out)
          clear hxm bM
          refine wpAnyH_take (i := 2) (v := ?_) rfl (by kernel_rfl) (by kernel_rfl) (by kernel_rfl) (fun _ _ _ h => h) (Or.inl ⟨by rfl, ?_⟩) hHeld ?_
          rotate_left
          · intro w' hSw; go_simp; try with_reducible rfl
          simp only [List.getElem_toArray, List.getElem_cons_succ, List.getElem_cons_zero, Act.put, List.setIfInBounds_toArray, List.set_cons_zero, List.set_cons_succ]
          refine wpAnyH_ready (rs := [0]) (by kernel_rfl) (by simp) ?_
          refine AllReadyH.cons rfl (fun K hK => ?_) (AllReadyH.nil)
          go_simp
          refine (new_any x2).mono ?_
          rintro e x3 ⟨vN, rfl, hsN, bN⟩
          obtain ⟨AN, nN, cN, rfl⟩ := secs_any hsN
          have DN3 : Hid (DiskIn x3 x3.heap.size (.agg #[.slice AN nN cN, .slice none 0 0]) newD []) := Lib.hid ⟨_, _, rfl, hsN.in_, WtsIn.nil_⟩
          have HB3 : Hid (Below q1.heap.size q1 x3) := Lib.hid (HB2.out.trans ((bN).mono HB2.out.size))
          have XM3 := Lib.hid ((XM2.out.below (bN)).more (bN).size)
          have HA3 := Lib.hid (((bN).block _ (heap_lt HA2.out)).trans HA2.out)
          clear hsN bN
          try go_wp2_with fail
          refine hK.out _ _ ?_ (fun hHeld => ?_)
          · exact trivial
          clear hK K
          try simp only [List.getElem_toArray, List.getElem_cons_succ, List.getElem_cons_zero, Act.put, List.setIfInBounds_toArray, List.set_cons_zero, List.set_cons_succ]
          refine wpAnyH_ready (rs := [3]) (by kernel_rfl) (by simp) ?_
          refine AllReadyH.cons rfl (fun K hK => ?_) (AllReadyH.nil)
          go_simp
          refine (sput_any _ _ newD [] 1 (zeros 1882) (by omega) x3 DN3.out XM3.out).mono ?_
          rintro e x4 ⟨dP, rfl, hdP, bP⟩
          rw [HPE.out]
          obtain ⟨yP, yQ, rfl, hyP, hyQ⟩ := hdP
          obtain ⟨AP, nP, cP, rfl⟩ := secs_any hyP
          obtain ⟨AQ, nQ, cQ, hyq⟩ : ∃ A n c, yQ = .slice A n c ∧ n = (putW newD [] 1 (zeros 1882)).length := by
            obtain ⟨A, c, h⟩ := wts_slice hyQ
            exact ⟨A, _, c, h, rfl⟩
          obtain ⟨rfl, hnQ⟩ := hyq
          have HNQ := Lib.hid hnQ
          have HB4 : Hid (Below q1.heap.size q1 x4) := Lib.hid (HB3.out.trans ((bP).mono HB3.out.size))
          have DN4 := Lib.hid ((DN3.out.below (bP)).more (bP).size)
          have XM4 := Lib.hid ((XM3.out.below (bP)).more (bP).size)
          have HA4 := Lib.hid (((bP).block _ (heap_lt HA3.out)).trans HA3.out)
          clear hyP hyQ hnQ bP
          try go_wp2_with fail
          refine hK.out _ _ ?_ (fun hHeld => ?_)
          · exact trivial
          clear hK K
          try simp only [List.getElem_toArray, List.getElem_cons_succ, List.getElem_cons_zero, Act.put, List.setIfInBounds_toArray, List.set_cons_zero, List.set_cons_succ]
          refine wpAnyH_take (i := 4) (v := ?_) rfl (by kernel_rfl) (by kernel_rfl) (by kernel_rfl) (fun _ _ _ h => h) (Or.inl ⟨by rfl, ?_⟩) hHeld ?_
          rotate_left
          · intro w' hSw; go_simp; try with_reducible rfl
          simp only [List.getElem_toArray, List.getElem_cons_succ, List.getElem_cons_zero, Act.put, List.setIfInBounds_toArray, List.set_cons_zero, List.set_cons_succ]
          refine wpAnyH_take (i := 5) (v := ?_) rfl (by kernel_rfl) (by kernel_rfl) (by kernel_rfl) (fun _ _ _ h => h) (Or.inl ⟨by rfl, ?_⟩) hHeld ?_
          rotate_left
          · intro w' hSw; go_simp; try with_reducible rfl
          simp only [List.getElem_toArray, List.getElem_cons_succ, List.getElem_cons_zero, Act.put, List.setIfInBounds_toArray, List.set_cons_zero, List.set_cons_succ]
          refine wpAnyH_take (i := 6) (v := ?_) rfl (by kernel_rfl) (by kernel_rfl) (by kernel_rfl) (fun _ _ _ h => h) (Or.inl ⟨by rfl, ?_⟩) hHeld ?_
          rotate_left
          · intro w' hSw; go_simp; try with_reducible rfl
          simp only [List.getElem_toArray, List.getElem_cons_succ, List.getElem_cons_zero, Act.put, List.setIfInBounds_toArray, List.set_cons_zero, List.set_cons_succ]
          refine wpAnyH_ready (rs := [8]) (by kernel_rfl) (by simp) ?_
          refine AllReadyH.cons rfl (fun K hK => ?_) AllReadyH.nil
          rw [if_pos (by rfl)]
          refine wp_store_2 29 _ _ rfl pA rfl rfl HA4.out infoDisk2 rfl rfl ?_
          refine hK.out _ _ ?_ (fun hHeld => ?_)
          · exact trivial
          clear hK K
          try simp only [List.getElem_toArray, List.getElem_cons_succ, List.getElem_cons_zero, Act.put, List.setIfInBounds_toArray, List.set_cons_zero, List.set_cons_succ]
          refine wpAnyH_take (i := 9) (v := ?_) rfl (by kernel_rfl) (by kernel_rfl) (by kernel_rfl) (fun _ _ _ h => h) (Or.inl ⟨by rfl, ?_⟩) hHeld ?_
          rotate_left
          · intro w' hSw; go_simp; try with_reducible rfl
          simp only [List.getElem_toArray, List.getElem_cons_succ, List.getElem_cons_zero, Act.put, List.setIfInBounds_toArray, List.set_cons_zero, List.set_cons_succ]
          refine wpAnyH_done (by kernel_rfl) ?_ _
          have hst := setRow_heap x4 pA _ #[.slice AP nP cP, .slice AQ nQ cQ] _ _ HA4.out
          have hsb : Below q1.heap.size q1 (x4.setRow pA #[.slice AP nP cP, .slice AQ nQ cQ]) := below_setRow HB4.out HPA.out _
          go_wp2_with fail
          go_meet
          exact ⟨⟨pA, AP, nP, cP, AQ, cQ, rfl, by rw [HNQ.out, HPW.out] at hst ⊢; exact hst⟩, rfl, hsb⟩
    · obtain ⟨⟨p7, A7, n7, c7, A8, c8, rfl, h7⟩, rfl, hbd⟩ := hcut
      have BD := Lib.hid (BC.out.trans (hbd.mono BC.out.size))
      have H7 := Lib.hid h7
      clear hbd BC h7
      go_wp2_with fail
      refine (new_any wc).mono ?_
      rintro e w6 ⟨v6, rfl, hs6, b6⟩
      have D6 : DiskIn w6 w6.heap.size (.agg #[v6, .slice none 0 0]) newD [] := ⟨_, _, rfl, hs6.in_, WtsIn.nil_⟩
      obtain ⟨A6, n6, c6, rfl⟩ := secs_any hs6
      have B6 := Lib.hid (BD.out.trans (b6.mono BD.out.size))
      have K6 := Lib.hid ((b6.block _ (heap_lt H7.out)).trans H7.out)
      clear hs6 b6 BD H7
      go_wp2_with fail
      refine (sput_any _ _ newD [] 3 [] (by omega) w6 D6 (Txt.nil_ _ _)).mono ?_
      rintro e w7 ⟨d9, rfl, hd9, b7⟩
      rw [put3]
      rw [put3S, put3W] at hd9
      have D9 := Lib.hid hd9
      have B7 := Lib.hid (B6.out.trans (b7.mono B6.out.size))
      have K7 := Lib.hid ((b7.block _ (heap_lt K6.out)).trans K6.out)
      obtain ⟨z1, z2, rfl, hz1, hz2⟩ := hd9
      obtain ⟨A9, n9, c9, rfl⟩ := secs_any hz1
      obtain ⟨A10, n10, c10, rfl⟩ := wts_any hz2
      clear b7 hz1 hz2 B6 K6 D6
      have hr := heap_alloc_self w7 (.cells #[.slice A9 n9 c9, .slice A10 n10 c10] 29)
      have hrb := below_new w7 (.cells #[.slice A9 n9 c9, .slice A10 n10 c10] 29)
      go_wp2_with fail
      generalize w7.alloc (.cells #[.slice A9 n9 c9, .slice A10 n10 c10] 29) = r at hr hrb ⊢
      have DR : Hid (DiskIn r r.heap.size (.agg #[.slice A9 n9 c9, .slice A10 n10 c10]) newD [(((16 : Nat) : Int), secR 3 (bodyR 3 []) 0)]) := Lib.hid ((D9.out.in_.below hrb).more hrb.size)
      have BR := Lib.hid (B7.out.trans (hrb.mono B7.out.size))
      have KR := Lib.hid ((hrb.block _ (heap_lt K7.out)).trans K7.out)
      have R0 := Lib.hid hr
      clear hr hrb B7 K7 D9
      generalize w7.heap.size = p9 at R0 ⊢
      refine (new_any r).mono ?_
      rintro e w8 ⟨v8, rfl, hs8, b8⟩
      have D8 : DiskIn w8 w8.heap.size (.agg #[v8, .slice none 0 0]) newD [] := ⟨_, _, rfl, hs8.in_, WtsIn.nil_⟩
      have B8 := Lib.hid (BR.out.trans (b8.mono BR.out.size))
      have K8 := Lib.hid ((b8.block _ (heap_lt KR.out)).trans KR.out)
      have R8 := Lib.hid ((b8.block _ (heap_lt R0.out)).trans R0.out)
      have E8 := Lib.hid ((DR.out.below b8).more b8.size)
      obtain ⟨A11, n11, c11, rfl⟩ := secs_any hs8
      clear hs8 b8 BR KR R0 DR
      go_wp2_with fail
      refine (snext_any _ newD [] 0 (by omega) w8 D8).mono ?_
      rintro e w9 ⟨rfl, b9⟩
      rw [(nextEG may_new next0.1 (by omega)).1, (nextEG may_new next0.1 (by omega)).2]
      have B9 := Lib.hid (B8.out.trans (b9.mono B8.out.size))
      have K9 := Lib.hid ((b9.block _ (heap_lt K8.out)).trans K8.out)
      have R9 := Lib.hid ((b9.block _ (heap_lt R8.out)).trans R8.out)
      have E9 := Lib.hid ((E8.out.below b9).more b9.size)
      obtain ⟨k0, k1⟩ := cell2_of R9.out
      clear b9 B8 K8 R8 E8 D8
      go_wp2_with fail
      refine (snext_any _ _ _ 3 (by omega) w9 E9.out).mono ?_
      rintro e w10 ⟨rfl, b9⟩
      rw [(nextEG may3 next0.2.1 (by omega)).1, (nextEG may3 next0.2.1 (by omega)).2]
      have B10 := Lib.hid (B9.out.trans (b9.mono B9.out.size))
      have K10 := Lib.hid ((b9.block _ (heap_lt K9.out)).trans K9.out)
      have R10 := Lib.hid ((b9.block _ (heap_lt R9.out)).trans R9.out)
      have E10 := Lib.hid ((E9.out.below b9).more b9.size)
      clear k0 k1
      obtain ⟨k0, k1⟩ := cell2_of R10.out
      clear b9 B9 K9 R9 E9
      go_wp2_with fail
      refine (snext_any _ _ _ 2 (by omega) w10 E10.out).mono ?_
      rintro e w11 ⟨rfl, b9⟩
      rw [(nextEG may3 next0.2.2 (by omega)).1, (nextEG may3 next0.2.2 (by omega)).2]
      have B11 := Lib.hid (B10.out.trans (b9.mono B10.out.size))
      have K11 := Lib.hid ((b9.block _ (heap_lt K10.out)).trans K10.out)
      clear b9 B10 K10 R10 E10 k0 k1
      go_wp2_with fail
      refine (alive6 w11).mono ?_
      rintro e w12 ⟨rfl, b9⟩
      have B12 := Lib.hid (B11.out.trans (b9.mono B11.out.size))
      have K12 := Lib.hid ((b9.block _ (heap_lt K11.out)).trans K11.out)
      obtain ⟨k0, k1⟩ := cell2_of K12.out
      clear b9 B11 K11
      go_wp2_with fail
      refine (sslot_any 2 w12).mono ?_
      rintro e w13 ⟨rfl, rfl⟩
      rw [show slotN 2 = 0 from rfl]
      go_wp2_with fail
      refine (sslot_any 7 w12).mono ?_
      rintro e w13 ⟨rfl, rfl⟩
      rw [show slotN 7 = 16 from rfl]
      go_wp2_with fail
      go_ret
      exact ⟨rfl, B12.out⟩
end Go.Proofs.Ytdjoflhcagfmiaa
