/-
  The walk of DevNames: the chapter's examples.
  Conditions: none.
-/
import Derived.Test.YtdpjdobmnkadjaaDevAlive
import Derived.Test.YtdpjdobmnkadjaaDevBox
import Derived.Deep.CutRange
set_option linter.unusedVariables false
set_option linter.unusedSimpArgs false
namespace Go.Proofs.Ytdpjdobmnkadjaa
open Go.RowKit

theorem leftL_whole : leftL 128 = ofL 7 := by
  rw [leftL, List.take_of_length_le (Nat.le_of_eq (ofL_length 7)), lay_whole (by rw [ofL_length, z128_length]; omega)]
theorem sync7E : syncE newD [((20 : Int), ofL 7)] = 0 := by rw [syncE, if_pos (mayB_iff.2 may7)]
theorem sync7S : syncS newD [((20 : Int), ofL 7)] = newD.set 20 (ofL 7) := by
  have h := crashS7 (k := 128) (by decide)
  rw [crashS, if_pos (crash7 (by decide))] at h
  have e : leftL (128 : Int).toNat = ofL 7 := leftL_whole
  have e2 : all128 [((20 : Int), ofL 7)] = ([128] : List Int).map Int.toNat := rfl
  rw [e] at h
  rw [syncS, if_pos (mayB_iff.2 may7), e2]
  exact h
theorem len7 : (newD.set 20 (ofL 7)).length = 32 := by rw [List.length_set]; exact may_new.n
theorem own_txt7 {W : World} {base : Nat} {y : Value} (h : W.ownsRow base 5 1 y 128 ((ofL 7).map u8)) : Txt W W.heap.size y (ofL 7) := Txt.own (by rw [ofL_length]; unfold maxLen; omega) (base := base) (e := 5) (by rw [ofL_length]; exact h)
theorem at7 : atE newD [((20 : Int), ofL 7)] 20 = 0 := by rw [atE, if_pos (mayB_iff.2 may7)]; rfl
theorem read7 : readS newD [((20 : Int), ofL 7)] 20 = ofL 7 := by
  rw [readS, if_pos at7, show (20 : Int).toNat = 20 from rfl, newD_at (by omega)]
  show lay z128 ((ofL 7).take 128) = ofL 7
  exact leftL_whole
theorem crash7n : crashE newD [((20 : Int), ofL 7)] [] = 4 := by rw [crashE, if_pos (mayB_iff.2 may7)]; rfl
theorem crash7b : crashE newD [((20 : Int), ofL 7)] [129] = 2 := by rw [crashE, if_pos (mayB_iff.2 may7), if_pos (show [(129 : Int)].length = [((20 : Int), ofL 7)].length from rfl), if_neg (fun h => absurd (h 129 (by simp)) (by unfold fitK; omega))]
theorem crash7nS : crashS newD [((20 : Int), ofL 7)] [] = [] := by rw [crashS, crash7n]; rfl
theorem crash7bS : crashS newD [((20 : Int), ofL 7)] [129] = [] := by rw [crashS, crash7b]; rfl
theorem write7b : writeE newD [((20 : Int), ofL 7)] 32 (ofL 7) = 2 := by
  have h : atE newD [((20 : Int), ofL 7)] 32 = 2 := by rw [atE, if_pos (mayB_iff.2 may7)]; rfl
  rw [writeE, h]; rfl
theorem write7bS : writeS newD [((20 : Int), ofL 7)] 32 (ofL 7) = [] := by rw [writeS, write7b]; rfl
theorem write7bW : writeW newD [((20 : Int), ofL 7)] 32 (ofL 7) = [] := by rw [writeW, write7b]; rfl
theorem NumsIn.nil_ {W : World} {B : Nat} : NumsIn W B (.slice none 0 0) [] := ⟨none, 0, rfl, Nat.le_refl _, Nat.zero_le _, fun _ => rfl, fun h => absurd h (by simp)⟩

theorem check_none (w : World) : Calls Try.prog 20 #[.agg #[.slice none 0 0, .slice none 0 0]] w fun e w' => e = .returned (.int .i64 8) ∧ Below w.heap.size w w' :=
  (check_any _ [] [] w (DiskAt.nil_ w 0).in_).mono (by rintro e w' ⟨rfl, b⟩; exact ⟨by rw [show mayB [] [] = false from rfl]; rfl, b⟩)

set_option maxRecDepth 100000 in
set_option maxHeartbeats 2000000 in
theorem walk_names (w : World) : Calls Try.prog 3 #[] w fun e w' => e = .returned (.bool true) ∧ Below w.heap.size w w' := by
  go_enter Try.func3, Try.ntmps3
  go_wp2_with fail
  refine (new_any w).mono ?_
  rintro e w1 ⟨v1, rfl, hs1, b1⟩
  have B1 := Lib.hid b1
  have D1 := Lib.hid (show DiskAt w1 w.heap.size (.agg #[v1, .slice none 0 0]) newD [] from ⟨_, _, rfl, hs1, WtsAt.nil_ _ _⟩)
  clear hs1 b1
  go_wp2_with fail
  refine (of_any 7 w1).mono ?_
  rintro e w2 ⟨y2, rfl, ho2, b2⟩
  have B2 := Lib.hid (B1.out.trans (b2.mono B1.out.size))
  have X2 : Hid (Txt w2 w2.heap.size y2 (ofL 7)) := Lib.hid (Txt.own (by rw [ofL_length]; unfold maxLen; omega) (base := w1.heap.size) (e := 5) (by rw [ofL_length]; exact ho2))
  have D2 := Lib.hid ((D1.out.below b2).in_)
  clear ho2 b2 D1 B1
  go_wp2_with fail
  refine (write_any _ _ newD [] 20 (ofL 7) w2 D2.out X2.out).mono ?_
  rintro e w3 ⟨d3, rfl, hd3, b3⟩
  rw [write7]
  rw [writeS, writeW, if_pos write7, if_pos write7] at hd3
  obtain ⟨a3, c3, rfl, hs3, hw3⟩ := hd3
  obtain ⟨A3, k3, rfl⟩ := secs_slice hs3
  obtain ⟨A4, k4, rfl⟩ := wts_slice hw3
  have B3 := Lib.hid (B2.out.trans (b3.mono B2.out.size))
  have D3 := Lib.hid (show DiskAt w3 w2.heap.size (.agg #[.slice A3 newD.length k3, .slice A4 ([] ++ [((20 : Int), ofL 7)]).length k4]) newD ([] ++ [((20 : Int), ofL 7)]) from ⟨_, _, rfl, hs3, hw3⟩)
  clear hs3 hw3 b3 D2 X2 B2
  go_wp2_with fail
  have hq := heap_alloc_self w3 (.cells #[.slice A3 newD.length k3, .slice A4 1 k4] 25)
  have qb := below_new w3 (.cells #[.slice A3 newD.length k3, .slice A4 1 k4] 25)
  generalize w3.alloc (.cells #[.slice A3 newD.length k3, .slice A4 1 k4] 25) = q at hq qb ⊢
  have QB := Lib.hid (B3.out.trans (qb.mono B3.out.size))
  have D4 := Lib.hid (D3.out.below qb)
  clear qb B3 D3
  generalize w3.heap.size = p1 at hq ⊢
  refine (read_any _ newD [((20 : Int), ofL 7)] 20 q D4.out.in_).mono ?_
  rintro e w4 ⟨y4, rfl, ho4, b4⟩
  rw [at7]
  rw [read7, ofL_length] at ho4
  have T4 := Lib.hid (own_txt7 ho4)
  obtain ⟨A5, k5, rfl⟩ := own_slice_ ho4
  have B4 := Lib.hid (QB.out.trans (b4.mono QB.out.size))
  have D5 := Lib.hid (D4.out.below b4)
  have C4 := Lib.hid ((b4.block _ (heap_lt hq)).trans hq)
  clear ho4 b4 D4 QB hq
  obtain ⟨h0, h1⟩ := cell2_of C4.out
  go_wp2_with fail
  refine (sync_any _ newD [((20 : Int), ofL 7)] w4 D5.out.in_).mono ?_
  rintro e w5 ⟨d5, rfl, hd5, b5⟩
  rw [sync7E]
  rw [sync7S] at hd5
  obtain ⟨x5, y5, rfl, hs5, hw5⟩ := hd5
  obtain ⟨A6, k6, rfl⟩ := secs_slice hs5
  obtain ⟨A7, k7, rfl⟩ := wts_slice hw5
  rw [len7] at hs5 ⊢
  have S5 := Lib.hid hs5
  have B5 := Lib.hid (B4.out.trans (b5.mono B4.out.size))
  have T5 := Lib.hid ((T4.out.below b5).more b5.size)
  have D6 := Lib.hid (D5.out.below b5)
  have C5 := Lib.hid ((b5.block _ (heap_lt C4.out)).trans C4.out)
  clear hs5 hw5 b5 T4 D5 B4 h0 h1 C4
  have h0 : ∀ o, (w5.alloc o).cell? ⟨p1, 0, none⟩ = some (.slice A3 newD.length k3) := fun o => (cell2_of (((below_new w5 o).block _ (heap_lt C5.out)).trans C5.out)).1
  have h1 : ∀ o, (w5.alloc o).cell? ⟨p1, 1, none⟩ = some (.slice A4 1 k4) := fun o => (cell2_of (((below_new w5 o).block _ (heap_lt C5.out)).trans C5.out)).2
  go_wp2_with fail
  have hq := heap_alloc_self w5 (.cells #[.slice A6 32 k6, .slice A7 0 k7] 25)
  have qb := below_new w5 (.cells #[.slice A6 32 k6, .slice A7 0 k7] 25)
  generalize w5.alloc (.cells #[.slice A6 32 k6, .slice A7 0 k7] 25) = q6 at hq qb h0 h1 ⊢
  have B6 := Lib.hid (B5.out.trans (qb.mono B5.out.size))
  have S6 := Lib.hid (S5.out.below qb)
  have T6 := Lib.hid ((T5.out.below qb).more qb.size)
  have D7 := Lib.hid (D6.out.below qb)
  have C6 := Lib.hid ((qb.block _ (heap_lt C5.out)).trans C5.out)
  have E6 := Lib.hid hq
  clear qb B5 S5 T5 D6 C5 hq h0 h1
  generalize w5.heap.size = p5 at E6 ⊢
  refine (crash_any _ _ newD [((20 : Int), ofL 7)] [] q6 D7.out.in_ NumsIn.nil_).mono ?_
  rintro e w7 ⟨d7, rfl, hd7, b7⟩
  rw [crash7n]
  rw [crash7nS] at hd7
  obtain ⟨x7, y7, rfl, hs7, hw7⟩ := hd7
  obtain ⟨A8, k8, rfl⟩ := secs_slice hs7
  obtain ⟨A9, k9, rfl⟩ := wts_slice hw7
  have B7 := Lib.hid (B6.out.trans (b7.mono B6.out.size))
  have S7 := Lib.hid (S6.out.below b7)
  have T7 := Lib.hid ((T6.out.below b7).more b7.size)
  have D8 := Lib.hid (D7.out.below b7)
  have C7 := Lib.hid ((b7.block _ (heap_lt C6.out)).trans C6.out)
  have E7 := Lib.hid ((b7.block _ (heap_lt E6.out)).trans E6.out)
  clear hs7 hw7 b7 B6 S6 T6 D7 C6 E6
  have h0 : ∀ o, (w7.alloc o).cell? ⟨p1, 0, none⟩ = some (.slice A3 newD.length k3) := fun o => (cell2_of (((below_new w7 o).block _ (heap_lt C7.out)).trans C7.out)).1
  have h1 : ∀ o, (w7.alloc o).cell? ⟨p1, 1, none⟩ = some (.slice A4 1 k4) := fun o => (cell2_of (((below_new w7 o).block _ (heap_lt C7.out)).trans C7.out)).2
  go_wp2_with fail
  have hq := two_boxes w7 (.cells #[.slice A8 0 k8, .slice A9 0 k9] 25) (.cells #[.int .i64 129] 3)
  generalize (w7.alloc (.cells #[.slice A8 0 k8, .slice A9 0 k9] 25)).alloc (.cells #[.int .i64 129] 3) = q8 at hq ⊢
  obtain ⟨-, hqn, qb⟩ := hq
  have B8 := Lib.hid (B7.out.trans (qb.mono B7.out.size))
  have S8 := Lib.hid (S7.out.below qb)
  have T8 := Lib.hid ((T7.out.below qb).more qb.size)
  have D9 := Lib.hid (D8.out.below qb)
  have C8 := Lib.hid ((qb.block _ (heap_lt C7.out)).trans C7.out)
  have E8 := Lib.hid ((qb.block _ (heap_lt E7.out)).trans E7.out)
  clear qb B7 S7 T7 D8 C7 E7 h0 h1
  refine (crash_any _ _ newD [((20 : Int), ofL 7)] [129] q8 D9.out.in_ (nums_one _ _ _ hqn)).mono ?_
  rintro e w9 ⟨d9, rfl, hd9, b9⟩
  rw [crash7b]
  rw [crash7bS] at hd9
  obtain ⟨x9, y9, rfl, hs9, hw9⟩ := hd9
  obtain ⟨A10, k10, rfl⟩ := secs_slice hs9
  obtain ⟨A11, k11, rfl⟩ := wts_slice hw9
  have B9 := Lib.hid (B8.out.trans (b9.mono B8.out.size))
  have S9 := Lib.hid (S8.out.below b9)
  have T9 := Lib.hid ((T8.out.below b9).more b9.size)
  have D10 := Lib.hid (D9.out.below b9)
  have C9 := Lib.hid ((b9.block _ (heap_lt C8.out)).trans C8.out)
  have E9 := Lib.hid ((b9.block _ (heap_lt E8.out)).trans E8.out)
  clear hs9 hw9 b9 B8 S8 T8 D9 C8 E8 hqn
  go_wp2_with fail
  have qb := below_new w9 (.cells #[.slice A10 0 k10, .slice A11 0 k11] 25)
  generalize w9.alloc (.cells #[.slice A10 0 k10, .slice A11 0 k11] 25) = w10 at qb ⊢
  have B10 := Lib.hid (B9.out.trans (qb.mono B9.out.size))
  have S10 := Lib.hid (S9.out.below qb)
  have T10 := Lib.hid ((T9.out.below qb).more qb.size)
  have D11 := Lib.hid (D10.out.below qb)
  have C10 := Lib.hid ((qb.block _ (heap_lt C9.out)).trans C9.out)
  have E10 := Lib.hid ((qb.block _ (heap_lt E9.out)).trans E9.out)
  have DT : Hid (∀ v, Below w10.heap.size w10 v → DiskIn v v.heap.size (.agg #[.slice A3 newD.length k3, .slice A4 1 k4]) newD [((20 : Int), ofL 7)]) := Lib.hid (fun v hv => (D11.out.below hv).in_)
  clear qb B9 S9 T9 D10 C9 E9
  generalize w9.heap.size = p9
  generalize w7.heap.size = p7
  go_cut [11, 12] from 13 to 46 (fun s11 s12 wx => (∃ p, s11 = .pointer (some ⟨p, 0, none⟩)) ∧ s12 = .int .i64 2 ∧ Below w10.heap.size w10 wx)
  case first =>
    have Q0 := Lib.hid (Below.refl w10.heap.size w10).drew
    refine wp_region_held_drew (S := fun v => Below w10.heap.size w10 v) (by kernel_rfl) Q0.out (fun hHeld => ?_)
    refine wpAnyH_take (i := 0) (v := ?_) rfl (by kernel_rfl) (by kernel_rfl) (by kernel_rfl) (fun _ _ _ h => h) (Or.inl ⟨by rfl, ?_⟩) hHeld ?_
    rotate_left
    · intro w' hSw; obtain ⟨c0, c1⟩ := cell2_of ((hSw.block _ (heap_lt C10.out)).trans C10.out); go_simp; try with_reducible rfl
    simp only [List.getElem_toArray, List.getElem_cons_succ, List.getElem_cons_zero, Act.put, List.setIfInBounds_toArray, List.set_cons_zero, List.set_cons_succ]
    refine wpAnyH_ready (rs := [1, 6]) (by kernel_rfl) (by simp) ?_
    refine AllReadyH.cons rfl (fun K hK => ?_) (AllReadyH.cons rfl (fun K hK => ?_) AllReadyH.nil)
    · go_simp
      refine (of_any 7 w10.drew).mono ?_
      rintro e wO ⟨yO, rfl, hoO, bO⟩
      have XO := Lib.hid (own_txt7 hoO)
      obtain ⟨AO, cO, rfl⟩ := own_slice_ hoO
      clear hoO
      have BO := Lib.hid (Q0.out.trans (bO.mono Q0.out.size))
      clear bO
      try go_wp2_with fail
      refine hK.out _ _ ?_ (fun hHeld => ?_)
      · exact BO.out
      clear hK K
      try simp only [List.getElem_toArray, List.getElem_cons_succ, List.getElem_cons_zero, Act.put, List.setIfInBounds_toArray, List.set_cons_zero, List.set_cons_succ]
      refine wpAnyH_ready (rs := [2, 6]) (by kernel_rfl) (by simp) ?_
      refine AllReadyH.cons rfl (fun K hK => ?_) (AllReadyH.cons rfl (fun K hK => ?_) AllReadyH.nil)
      · go_simp
        refine (write_any _ _ newD [((20 : Int), ofL 7)] 32 (ofL 7) wO (DT.out _ BO.out) XO.out).mono ?_
        rintro e wA ⟨dA, rfl, hdA, bA⟩
        rw [write7b]
        rw [write7bS, write7bW] at hdA
        obtain ⟨y1, y2, rfl, hsA, hwA⟩ := hdA
        obtain ⟨A6, c6, rfl⟩ := secs_slice hsA
        obtain ⟨A7, c7, rfl⟩ := wts_slice hwA
        have BA := Lib.hid (BO.out.trans (bA.mono BO.out.size))
        have LO0 := Lib.hid BO.out.size
        clear bA
        try go_wp2_with fail
        refine hK.out _ _ ?_ (fun hHeld => ?_)
        · exact BA.out
        clear hK K
        try simp only [List.getElem_toArray, List.getElem_cons_succ, List.getElem_cons_zero, Act.put, List.setIfInBounds_toArray, List.set_cons_zero, List.set_cons_succ]
        refine wpAnyH_take (i := 3) (v := ?_) rfl (by kernel_rfl) (by kernel_rfl) (by kernel_rfl) (fun _ _ _ h => h) (Or.inl ⟨by rfl, ?_⟩) hHeld ?_
        rotate_left
        · intro w' hSw; go_simp; try with_reducible rfl
        simp only [List.getElem_toArray, List.getElem_cons_succ, List.getElem_cons_zero, Act.put, List.setIfInBounds_toArray, List.set_cons_zero, List.set_cons_succ]
        refine wpAnyH_take (i := 4) (v := ?_) rfl (by kernel_rfl) (by kernel_rfl) (by kernel_rfl) (fun _ _ _ h => h) (Or.inl ⟨by rfl, ?_⟩) hHeld ?_
        rotate_left
        · intro w' hSw; go_simp; try with_reducible rfl
        simp only [List.getElem_toArray, List.getElem_cons_succ, List.getElem_cons_zero, Act.put, List.setIfInBounds_toArray, List.set_cons_zero, List.set_cons_succ]
        refine wpAnyH_take (i := 5) (v := ?_) rfl (by kernel_rfl) (by kernel_rfl) (by kernel_rfl) (fun _ _ _ h => h) (Or.inl ⟨by rfl, ?_⟩) hHeld ?_
        rotate_left
        · intro w' hSw; go_simp; try with_reducible rfl
        simp only [List.getElem_toArray, List.getElem_cons_succ, List.getElem_cons_zero, Act.put, List.setIfInBounds_toArray, List.set_cons_zero, List.set_cons_succ]
        refine wpAnyH_ready (rs := [6]) (by kernel_rfl) (by simp) ?_
        refine AllReadyH.cons rfl (fun K hK => ?_) AllReadyH.nil
        go_simp
        refine hK.out _ _ ?_ (fun hHeld => ?_)
        · exact BA.out.alloc BA.out.size _
        clear hK K
        try simp only [List.getElem_toArray, List.getElem_cons_succ, List.getElem_cons_zero, Act.put, List.setIfInBounds_toArray, List.set_cons_zero, List.set_cons_succ]
        refine wpAnyH_ready (rs := [7]) (by kernel_rfl) (by simp) ?_
        refine AllReadyH.cons rfl (fun K hK => ?_) AllReadyH.nil
        rw [if_pos (by rfl)]
        refine wp_store_2 25 _ _ rfl wA.heap.size rfl rfl (heap_alloc_self _ _) infoDisk2 rfl rfl ?_
        rw [World.setRow_alloc_new]
        refine hK.out _ _ ?_ (fun hHeld => ?_)
        · exact BA.out.alloc BA.out.size _
        clear hK K
        try simp only [List.getElem_toArray, List.getElem_cons_succ, List.getElem_cons_zero, Act.put, List.setIfInBounds_toArray, List.set_cons_zero, List.set_cons_succ]
        refine wpAnyH_take (i := 8) (v := ?_) rfl (by kernel_rfl) (by kernel_rfl) (by kernel_rfl) (fun _ _ _ h => h) (Or.inl ⟨by rfl, ?_⟩) hHeld ?_
        rotate_left
        · intro w' hSw; go_simp; try with_reducible rfl
        simp only [List.getElem_toArray, List.getElem_cons_succ, List.getElem_cons_zero, Act.put, List.setIfInBounds_toArray, List.set_cons_zero, List.set_cons_succ]
        refine wpAnyH_done (by kernel_rfl) ?_ _
        go_wp2_with fail
        go_meet
        exact ⟨⟨wA.heap.size, rfl⟩, rfl, BA.out.alloc BA.out.size _⟩
      · go_simp
        have hz0 : Below w10.heap.size w10 (wO.alloc (.cells #[.slice none 0 0, .slice none 0 0] 25)) := BO.out.alloc BO.out.size _
        have hz1 : (wO.alloc (.cells #[.slice none 0 0, .slice none 0 0] 25)).heap[wO.heap.size]? = some (.cells #[.slice none 0 0, .slice none 0 0] 25 (0, 0)) := heap_alloc_self _ _
        have hz3 := below_new wO (.cells #[.slice none 0 0, .slice none 0 0] 25)
        refine hK.out _ _ ?_ (fun hHeld => ?_)
        · exact hz0
        clear hK K
        try simp only [List.getElem_toArray, List.getElem_cons_succ, List.getElem_cons_zero, Act.put, List.setIfInBounds_toArray, List.set_cons_zero, List.set_cons_succ]
        generalize wO.alloc (.cells #[.slice none 0 0, .slice none 0 0] 25) = wB at hz0 hz1 hz3 hHeld ⊢
        have HZ0 := Lib.hid hz0
        have HZ1 := Lib.hid hz1
        have HZ3 := Lib.hid hz3
        clear hz0 hz1 hz3
        refine wpAnyH_ready (rs := [2]) (by kernel_rfl) (by simp) ?_
        refine AllReadyH.cons rfl (fun K hK => ?_) AllReadyH.nil
        go_simp
        refine (write_any _ _ newD [((20 : Int), ofL 7)] 32 (ofL 7) wB (DT.out _ HZ0.out) ((XO.out.below HZ3.out).more HZ3.out.size)).mono ?_
        rintro e wA ⟨dA, rfl, hdA, bA⟩
        rw [write7b]
        rw [write7bS, write7bW] at hdA
        obtain ⟨y1, y2, rfl, hsA, hwA⟩ := hdA
        obtain ⟨A6, c6, rfl⟩ := secs_slice hsA
        obtain ⟨A7, c7, rfl⟩ := wts_slice hwA
        have BA := Lib.hid (HZ0.out.trans (bA.mono HZ0.out.size))
        have HZ2 := Lib.hid ((bA.block _ (heap_lt HZ1.out)).trans HZ1.out)
        have LO0 := Lib.hid HZ0.out.size
        clear bA
        try go_wp2_with fail
        refine hK.out _ _ ?_ (fun hHeld => ?_)
        · exact BA.out
        clear hK K
        try simp only [List.getElem_toArray, List.getElem_cons_succ, List.getElem_cons_zero, Act.put, List.setIfInBounds_toArray, List.set_cons_zero, List.set_cons_succ]
        refine wpAnyH_take (i := 3) (v := ?_) rfl (by kernel_rfl) (by kernel_rfl) (by kernel_rfl) (fun _ _ _ h => h) (Or.inl ⟨by rfl, ?_⟩) hHeld ?_
        rotate_left
        · intro w' hSw; go_simp; try with_reducible rfl
        simp only [List.getElem_toArray, List.getElem_cons_succ, List.getElem_cons_zero, Act.put, List.setIfInBounds_toArray, List.set_cons_zero, List.set_cons_succ]
        refine wpAnyH_take (i := 4) (v := ?_) rfl (by kernel_rfl) (by kernel_rfl) (by kernel_rfl) (fun _ _ _ h => h) (Or.inl ⟨by rfl, ?_⟩) hHeld ?_
        rotate_left
        · intro w' hSw; go_simp; try with_reducible rfl
        simp only [List.getElem_toArray, List.getElem_cons_succ, List.getElem_cons_zero, Act.put, List.setIfInBounds_toArray, List.set_cons_zero, List.set_cons_succ]
        refine wpAnyH_take (i := 5) (v := ?_) rfl (by kernel_rfl) (by kernel_rfl) (by kernel_rfl) (fun _ _ _ h => h) (Or.inl ⟨by rfl, ?_⟩) hHeld ?_
        rotate_left
        · intro w' hSw; go_simp; try with_reducible rfl
        simp only [List.getElem_toArray, List.getElem_cons_succ, List.getElem_cons_zero, Act.put, List.setIfInBounds_toArray, List.set_cons_zero, List.set_cons_succ]
        refine wpAnyH_ready (rs := [7]) (by kernel_rfl) (by simp) ?_
        refine AllReadyH.cons rfl (fun K hK => ?_) AllReadyH.nil
        rw [if_pos (by rfl)]
        refine wp_store_2 25 _ _ rfl wO.heap.size rfl rfl HZ2.out infoDisk2 rfl rfl ?_
        refine hK.out _ _ ?_ (fun hHeld => ?_)
        · exact below_setRow BA.out BO.out.size _
        clear hK K
        try simp only [List.getElem_toArray, List.getElem_cons_succ, List.getElem_cons_zero, Act.put, List.setIfInBounds_toArray, List.set_cons_zero, List.set_cons_succ]
        refine wpAnyH_take (i := 8) (v := ?_) rfl (by kernel_rfl) (by kernel_rfl) (by kernel_rfl) (fun _ _ _ h => h) (Or.inl ⟨by rfl, ?_⟩) hHeld ?_
        rotate_left
        · intro w' hSw; go_simp; try with_reducible rfl
        simp only [List.getElem_toArray, List.getElem_cons_succ, List.getElem_cons_zero, Act.put, List.setIfInBounds_toArray, List.set_cons_zero, List.set_cons_succ]
        refine wpAnyH_done (by kernel_rfl) ?_ _
        go_wp2_with fail
        go_meet
        exact ⟨⟨wO.heap.size, rfl⟩, rfl, below_setRow BA.out BO.out.size _⟩
    · go_simp
      have hz0 : Below w10.heap.size w10 (w10.alloc (.cells #[.slice none 0 0, .slice none 0 0] 25)).drew := (below_new _ _).drew
      have hz1 : (w10.alloc (.cells #[.slice none 0 0, .slice none 0 0] 25)).drew.heap[w10.heap.size]? = some (.cells #[.slice none 0 0, .slice none 0 0] 25 (0, 0)) := heap_alloc_self _ _
      refine hK.out _ _ ?_ (fun hHeld => ?_)
      · exact hz0
      clear hK K
      try simp only [List.getElem_toArray, List.getElem_cons_succ, List.getElem_cons_zero, Act.put, List.setIfInBounds_toArray, List.set_cons_zero, List.set_cons_succ]
      generalize (w10.alloc (.cells #[.slice none 0 0, .slice none 0 0] 25)).drew = wB at hz0 hz1 hHeld ⊢
      have HZ0 := Lib.hid hz0
      have HZ1 := Lib.hid hz1
      clear hz0 hz1
      refine wpAnyH_ready (rs := [1]) (by kernel_rfl) (by simp) ?_
      refine AllReadyH.cons rfl (fun K hK => ?_) AllReadyH.nil
      go_simp
      refine (of_any 7 wB).mono ?_
      rintro e wO ⟨yO, rfl, hoO, bO⟩
      have XO := Lib.hid (own_txt7 hoO)
      obtain ⟨AO, cO, rfl⟩ := own_slice_ hoO
      clear hoO
      have BO := Lib.hid (HZ0.out.trans (bO.mono HZ0.out.size))
      have HZ4 := Lib.hid ((bO.block _ (heap_lt HZ1.out)).trans HZ1.out)
      clear bO
      try go_wp2_with fail
      refine hK.out _ _ ?_ (fun hHeld => ?_)
      · exact BO.out
      clear hK K
      try simp only [List.getElem_toArray, List.getElem_cons_succ, List.getElem_cons_zero, Act.put, List.setIfInBounds_toArray, List.set_cons_zero, List.set_cons_succ]
      refine wpAnyH_ready (rs := [2]) (by kernel_rfl) (by simp) ?_
      refine AllReadyH.cons rfl (fun K hK => ?_) AllReadyH.nil
      go_simp
      refine (write_any _ _ newD [((20 : Int), ofL 7)] 32 (ofL 7) wO (DT.out _ BO.out) XO.out).mono ?_
      rintro e wA ⟨dA, rfl, hdA, bA⟩
      rw [write7b]
      rw [write7bS, write7bW] at hdA
      obtain ⟨y1, y2, rfl, hsA, hwA⟩ := hdA
      obtain ⟨A6, c6, rfl⟩ := secs_slice hsA
      obtain ⟨A7, c7, rfl⟩ := wts_slice hwA
      have BA := Lib.hid (BO.out.trans (bA.mono BO.out.size))
      have HZ2 := Lib.hid ((bA.block _ (heap_lt HZ4.out)).trans HZ4.out)
      have LO0 := Lib.hid BO.out.size
      clear bA
      try go_wp2_with fail
      refine hK.out _ _ ?_ (fun hHeld => ?_)
      · exact BA.out
      clear hK K
      try simp only [List.getElem_toArray, List.getElem_cons_succ, List.getElem_cons_zero, Act.put, List.setIfInBounds_toArray, List.set_cons_zero, List.set_cons_succ]
      refine wpAnyH_take (i := 3) (v := ?_) rfl (by kernel_rfl) (by kernel_rfl) (by kernel_rfl) (fun _ _ _ h => h) (Or.inl ⟨by rfl, ?_⟩) hHeld ?_
      rotate_left
      · intro w' hSw; go_simp; try with_reducible rfl
      simp only [List.getElem_toArray, List.getElem_cons_succ, List.getElem_cons_zero, Act.put, List.setIfInBounds_toArray, List.set_cons_zero, List.set_cons_succ]
      refine wpAnyH_take (i := 4) (v := ?_) rfl (by kernel_rfl) (by kernel_rfl) (by kernel_rfl) (fun _ _ _ h => h) (Or.inl ⟨by rfl, ?_⟩) hHeld ?_
      rotate_left
      · intro w' hSw; go_simp; try with_reducible rfl
      simp only [List.getElem_toArray, List.getElem_cons_succ, List.getElem_cons_zero, Act.put, List.setIfInBounds_toArray, List.set_cons_zero, List.set_cons_succ]
      refine wpAnyH_take (i := 5) (v := ?_) rfl (by kernel_rfl) (by kernel_rfl) (by kernel_rfl) (fun _ _ _ h => h) (Or.inl ⟨by rfl, ?_⟩) hHeld ?_
      rotate_left
      · intro w' hSw; go_simp; try with_reducible rfl
      simp only [List.getElem_toArray, List.getElem_cons_succ, List.getElem_cons_zero, Act.put, List.setIfInBounds_toArray, List.set_cons_zero, List.set_cons_succ]
      refine wpAnyH_ready (rs := [7]) (by kernel_rfl) (by simp) ?_
      refine AllReadyH.cons rfl (fun K hK => ?_) AllReadyH.nil
      rw [if_pos (by rfl)]
      refine wp_store_2 25 _ _ rfl w10.heap.size rfl rfl HZ2.out infoDisk2 rfl rfl ?_
      refine hK.out _ _ ?_ (fun hHeld => ?_)
      · exact below_setRow BA.out (Nat.le_refl _) _
      clear hK K
      try simp only [List.getElem_toArray, List.getElem_cons_succ, List.getElem_cons_zero, Act.put, List.setIfInBounds_toArray, List.set_cons_zero, List.set_cons_succ]
      refine wpAnyH_take (i := 8) (v := ?_) rfl (by kernel_rfl) (by kernel_rfl) (by kernel_rfl) (fun _ _ _ h => h) (Or.inl ⟨by rfl, ?_⟩) hHeld ?_
      rotate_left
      · intro w' hSw; go_simp; try with_reducible rfl
      simp only [List.getElem_toArray, List.getElem_cons_succ, List.getElem_cons_zero, Act.put, List.setIfInBounds_toArray, List.set_cons_zero, List.set_cons_succ]
      refine wpAnyH_done (by kernel_rfl) ?_ _
      go_wp2_with fail
      go_meet
      exact ⟨⟨w10.heap.size, rfl⟩, rfl, below_setRow BA.out (Nat.le_refl _) _⟩
  case rest =>
    obtain ⟨⟨p, rfl⟩, rfl, hbl⟩ := hcut
    have B11 := Lib.hid (B10.out.trans (hbl.mono B10.out.size))
    have S11 := Lib.hid (S10.out.below hbl)
    have T11 := Lib.hid ((T10.out.below hbl).more hbl.size)
    have E11 := Lib.hid ((hbl.block _ (heap_lt E10.out)).trans E10.out)
    clear hbl B10 S10 T10 E10 C10 D11 DT
    go_wp2_with fail
    go_cut [68] from 13 to 68 (fun s68 wx => s68 = .bool false ∧ Below wc.heap.size wc wx)
    case first =>
      have Q0 := Lib.hid (Below.refl wc.heap.size wc).drew
      refine wp_region_held_drew (S := fun v => Below wc.heap.size wc v) (by kernel_rfl) Q0.out (fun hHeld => ?_)
      refine wpAnyH_take (i := 0) (v := ?_) rfl (by kernel_rfl) (by kernel_rfl) (by kernel_rfl) (fun _ _ _ h => h) (Or.inl ⟨by rfl, ?_⟩) hHeld ?_
      rotate_left
      · intro w' hSw; go_simp; try with_reducible rfl
      simp only [List.getElem_toArray, List.getElem_cons_succ, List.getElem_cons_zero, Act.put, List.setIfInBounds_toArray, List.set_cons_zero, List.set_cons_succ]
      refine wpAnyH_take (i := 1) (v := ?_) rfl (by kernel_rfl) (by kernel_rfl) (by kernel_rfl) (fun _ _ _ h => h) (Or.inl ⟨by rfl, ?_⟩) hHeld ?_
      rotate_left
      · intro w' hSw; go_simp; try with_reducible rfl
      simp only [List.getElem_toArray, List.getElem_cons_succ, List.getElem_cons_zero, Act.put, List.setIfInBounds_toArray, List.set_cons_zero, List.set_cons_succ]
      refine wpAnyH_take (i := 2) (v := ?_) rfl (by kernel_rfl) (by kernel_rfl) (by kernel_rfl) (fun _ _ _ h => h) (Or.inl ⟨by rfl, ?_⟩) hHeld ?_
      rotate_left
      · intro w' hSw; go_simp; try with_reducible rfl
      simp only [List.getElem_toArray, List.getElem_cons_succ, List.getElem_cons_zero, Act.put, List.setIfInBounds_toArray, List.set_cons_zero, List.set_cons_succ]
      refine wpAnyH_take (i := 3) (v := ?_) rfl (by kernel_rfl) (by kernel_rfl) (by kernel_rfl) (fun _ _ _ h => h) (Or.inl ⟨by rfl, ?_⟩) hHeld ?_
      rotate_left
      · intro w' hSw; go_simp; try with_reducible rfl
      simp only [List.getElem_toArray, List.getElem_cons_succ, List.getElem_cons_zero, Act.put, List.setIfInBounds_toArray, List.set_cons_zero, List.set_cons_succ]
      refine wpAnyH_take (i := 4) (v := ?_) rfl (by kernel_rfl) (by kernel_rfl) (by kernel_rfl) (fun _ _ _ h => h) (Or.inl ⟨by rfl, ?_⟩) hHeld ?_
      rotate_left
      · intro w' hSw; go_simp; try with_reducible rfl
      simp only [List.getElem_toArray, List.getElem_cons_succ, List.getElem_cons_zero, Act.put, List.setIfInBounds_toArray, List.set_cons_zero, List.set_cons_succ]
      refine wpAnyH_take (i := 5) (v := ?_) rfl (by kernel_rfl) (by kernel_rfl) (by kernel_rfl) (fun _ _ _ h => h) (Or.inl ⟨by rfl, ?_⟩) hHeld ?_
      rotate_left
      · intro w' hSw; go_simp; try with_reducible rfl
      simp only [List.getElem_toArray, List.getElem_cons_succ, List.getElem_cons_zero, Act.put, List.setIfInBounds_toArray, List.set_cons_zero, List.set_cons_succ]
      refine wpAnyH_take (i := 6) (v := ?_) rfl (by kernel_rfl) (by kernel_rfl) (by kernel_rfl) (fun _ _ _ h => h) (Or.inl ⟨by rfl, ?_⟩) hHeld ?_
      rotate_left
      · intro w' hSw; go_simp; try with_reducible rfl
      simp only [List.getElem_toArray, List.getElem_cons_succ, List.getElem_cons_zero, Act.put, List.setIfInBounds_toArray, List.set_cons_zero, List.set_cons_succ]
      refine wpAnyH_take (i := 7) (v := ?_) rfl (by kernel_rfl) (by kernel_rfl) (by kernel_rfl) (fun _ _ _ h => h) (Or.inl ⟨by rfl, ?_⟩) hHeld ?_
      rotate_left
      · intro w' hSw; go_simp; try with_reducible rfl
      simp only [List.getElem_toArray, List.getElem_cons_succ, List.getElem_cons_zero, Act.put, List.setIfInBounds_toArray, List.set_cons_zero, List.set_cons_succ]
      refine wpAnyH_take (i := 8) (v := ?_) rfl (by kernel_rfl) (by kernel_rfl) (by kernel_rfl) (fun _ _ _ h => h) (Or.inl ⟨by rfl, ?_⟩) hHeld ?_
      rotate_left
      · intro w' hSw; go_simp; try with_reducible rfl
      simp only [List.getElem_toArray, List.getElem_cons_succ, List.getElem_cons_zero, Act.put, List.setIfInBounds_toArray, List.set_cons_zero, List.set_cons_succ]
      refine wpAnyH_take (i := 9) (v := ?_) rfl (by kernel_rfl) (by kernel_rfl) (by kernel_rfl) (fun _ _ _ h => h) (Or.inl ⟨by rfl, ?_⟩) hHeld ?_
      rotate_left
      · intro w' hSw; go_simp; try with_reducible rfl
      simp only [List.getElem_toArray, List.getElem_cons_succ, List.getElem_cons_zero, Act.put, List.setIfInBounds_toArray, List.set_cons_zero, List.set_cons_succ]
      refine wpAnyH_take (i := 10) (v := ?_) rfl (by kernel_rfl) (by kernel_rfl) (by kernel_rfl) (fun _ _ _ h => h) (Or.inl ⟨by rfl, ?_⟩) hHeld ?_
      rotate_left
      · intro w' hSw; go_simp; try with_reducible rfl
      simp only [List.getElem_toArray, List.getElem_cons_succ, List.getElem_cons_zero, Act.put, List.setIfInBounds_toArray, List.set_cons_zero, List.set_cons_succ]
      refine wpAnyH_take (i := 11) (v := ?_) rfl (by kernel_rfl) (by kernel_rfl) (by kernel_rfl) (fun _ _ _ h => h) (Or.inl ⟨by rfl, ?_⟩) hHeld ?_
      rotate_left
      · intro w' hSw; go_simp; try with_reducible rfl
      simp only [List.getElem_toArray, List.getElem_cons_succ, List.getElem_cons_zero, Act.put, List.setIfInBounds_toArray, List.set_cons_zero, List.set_cons_succ]
      refine wpAnyH_take (i := 12) (v := ?_) rfl (by kernel_rfl) (by kernel_rfl) (by kernel_rfl) (fun _ _ _ h => h) (Or.inl ⟨by rfl, ?_⟩) hHeld ?_
      rotate_left
      · intro w' hSw; have hs := run_txt_string (T11.out.below hSw); go_simp; try with_reducible rfl
      simp only [List.getElem_toArray, List.getElem_cons_succ, List.getElem_cons_zero, Act.put, List.setIfInBounds_toArray, List.set_cons_zero, List.set_cons_succ]
      refine wpAnyH_ready (rs := [13]) (by kernel_rfl) (by simp) ?_
      refine AllReadyH.cons rfl (fun K hK => ?_) AllReadyH.nil
      go_simp
      refine (of_any 7 wc.drew).mono ?_
      rintro e wX ⟨yA, rfl, hoA, bA⟩
      have XwX := Lib.hid (own_txt7 hoA)
      obtain ⟨AwX, cwX, rfl⟩ := own_slice_ hoA
      clear hoA
      have BwX := Lib.hid (Q0.out.trans (bA.mono Q0.out.size))
      clear bA
      try go_wp2_with fail
      refine hK.out _ _ ?_ (fun hHeld => ?_)
      · exact BwX.out
      clear hK K
      try simp only [List.getElem_toArray, List.getElem_cons_succ, List.getElem_cons_zero, Act.put, List.setIfInBounds_toArray, List.set_cons_zero, List.set_cons_succ]
      have hswX := run_txt_string XwX.out
      refine wpAnyH_ready (rs := [14]) (by kernel_rfl) (by simp) ?_
      refine AllReadyH.cons rfl (fun K hK => ?_) AllReadyH.nil
      rw [if_pos (by rfl)]
      go_simp
      refine hK.out _ _ ?_ (fun hHeld => ?_)
      · exact BwX.out
      clear hK K
      try simp only [List.getElem_toArray, List.getElem_cons_succ, List.getElem_cons_zero, Act.put, List.setIfInBounds_toArray, List.set_cons_zero, List.set_cons_succ]
      refine wpAnyH_take (i := 15) (v := ?_) rfl (by kernel_rfl) (by kernel_rfl) (by kernel_rfl) (fun _ _ _ h => h) (Or.inl ⟨by rfl, ?_⟩) hHeld ?_
      rotate_left
      · intro w' hSw; go_simp; try with_reducible rfl
      simp only [List.getElem_toArray, List.getElem_cons_succ, List.getElem_cons_zero, Act.put, List.setIfInBounds_toArray, List.set_cons_zero, List.set_cons_succ]
      refine wpAnyH_take (i := 16) (v := ?_) rfl (by kernel_rfl) (by kernel_rfl) (by kernel_rfl) (fun _ _ _ h => h) (Or.inl ⟨by rfl, ?_⟩) hHeld ?_
      rotate_left
      · intro w' hSw; go_simp; try with_reducible rfl
      simp only [List.getElem_toArray, List.getElem_cons_succ, List.getElem_cons_zero, Act.put, List.setIfInBounds_toArray, List.set_cons_zero, List.set_cons_succ]
      refine wpAnyH_take (i := 17) (v := ?_) rfl (by kernel_rfl) (by kernel_rfl) (by kernel_rfl) (fun _ _ _ h => h) (Or.inl ⟨by rfl, ?_⟩) hHeld ?_
      rotate_left
      · intro w' hSw; go_simp; try with_reducible rfl
      simp only [List.getElem_toArray, List.getElem_cons_succ, List.getElem_cons_zero, Act.put, List.setIfInBounds_toArray, List.set_cons_zero, List.set_cons_succ]
      refine wpAnyH_take (i := 18) (v := ?_) rfl (by kernel_rfl) (by kernel_rfl) (by kernel_rfl) (fun _ _ _ h => h) (Or.inl ⟨by rfl, ?_⟩) hHeld ?_
      rotate_left
      · intro w' hSw; go_simp; try with_reducible rfl
      simp only [List.getElem_toArray, List.getElem_cons_succ, List.getElem_cons_zero, Act.put, List.setIfInBounds_toArray, List.set_cons_zero, List.set_cons_succ]
      refine wpAnyH_take (i := 19) (v := ?_) rfl (by kernel_rfl) (by kernel_rfl) (by kernel_rfl) (fun _ _ _ h => h) (Or.inl ⟨by rfl, ?_⟩) hHeld ?_
      rotate_left
      · intro w' hSw; obtain ⟨c0, c1⟩ := cell2_of ((hSw.block _ (heap_lt E11.out)).trans E11.out); go_simp; try with_reducible rfl
      simp only [List.getElem_toArray, List.getElem_cons_succ, List.getElem_cons_zero, Act.put, List.setIfInBounds_toArray, List.set_cons_zero, List.set_cons_succ]
      refine wpAnyH_take (i := 20) (v := ?_) rfl (by kernel_rfl) (by kernel_rfl) (by kernel_rfl) (fun _ _ _ h => h) (Or.inl ⟨by rfl, ?_⟩) hHeld ?_
      rotate_left
      · intro w' hSw; go_simp; try with_reducible rfl
      simp only [List.getElem_toArray, List.getElem_cons_succ, List.getElem_cons_zero, Act.put, List.setIfInBounds_toArray, List.set_cons_zero, List.set_cons_succ]
      refine wpAnyH_take (i := 21) (v := ?_) rfl (by kernel_rfl) (by kernel_rfl) (by kernel_rfl) (fun _ _ _ h => h) (Or.inl ⟨by rfl, ?_⟩) hHeld ?_
      rotate_left
      · intro w' hSw; go_simp; try with_reducible rfl
      simp only [List.getElem_toArray, List.getElem_cons_succ, List.getElem_cons_zero, Act.put, List.setIfInBounds_toArray, List.set_cons_zero, List.set_cons_succ]
      refine wpAnyH_take (i := 22) (v := ?_) rfl (by kernel_rfl) (by kernel_rfl) (by kernel_rfl) (fun _ _ _ h => h) (Or.inl ⟨by rfl, ?_⟩) hHeld ?_
      rotate_left
      · intro w' hSw; go_simp; try with_reducible rfl
      simp only [List.getElem_toArray, List.getElem_cons_succ, List.getElem_cons_zero, Act.put, List.setIfInBounds_toArray, List.set_cons_zero, List.set_cons_succ]
      refine wpAnyH_done (by kernel_rfl) ?_ _
      go_wp2_with fail
      go_meet
      exact ⟨rfl, BwX.out⟩
    case rest =>
      obtain ⟨rfl, hbl⟩ := hcut
      have B12 := Lib.hid (B11.out.trans (hbl.mono B11.out.size))
      have E12 := Lib.hid ((hbl.block _ (heap_lt E11.out)).trans E11.out)
      have hs12 := (S11.out.below hbl).in_
      obtain ⟨g20, o20, u20, hA6, hg20, hc20, ht20⟩ := hs12.at (j := 20) (by rw [len7]; omega)
      rw [List.getElem_set_self] at ht20
      subst hA6
      have T20 := Lib.hid ht20
      obtain ⟨A20, c20, rfl, -, -, -, -⟩ := ht20
      have LG := Lib.hid hg20
      have CG := Lib.hid hc20
      clear hbl B11 S11 T11 E11 hs12 hg20 hc20
      go_wp2_with fail
      have Q0 := Lib.hid (Below.refl wc.heap.size wc).drew
      refine wp_region_held_drew (S := fun v => Below wc.heap.size wc v) (by kernel_rfl) Q0.out (fun hHeld => ?_)
      refine wpAnyH_take (i := 0) (v := ?_) rfl (by kernel_rfl) (by kernel_rfl) (by kernel_rfl) (fun _ _ _ h => h) (Or.inl ⟨by rfl, ?_⟩) hHeld ?_
      rotate_left
      · intro w' hSw; go_simp; try with_reducible rfl
      simp only [List.getElem_toArray, List.getElem_cons_succ, List.getElem_cons_zero, Act.put, List.setIfInBounds_toArray, List.set_cons_zero, List.set_cons_succ]
      refine wpAnyH_ready (rs := [1]) (by kernel_rfl) (by simp) ?_
      refine AllReadyH.cons rfl (fun K hK => ?_) AllReadyH.nil
      go_simp
      refine (alive_true wc.drew).mono ?_
      rintro e wX ⟨rfl, bA⟩
      have BwX := Lib.hid (Q0.out.trans (bA.mono Q0.out.size))
      clear bA
      try go_wp2_with fail
      refine hK.out _ _ ?_ (fun hHeld => ?_)
      · exact BwX.out
      clear hK K
      try simp only [List.getElem_toArray, List.getElem_cons_succ, List.getElem_cons_zero, Act.put, List.setIfInBounds_toArray, List.set_cons_zero, List.set_cons_succ]
      refine wpAnyH_take (i := 2) (v := ?_) rfl (by kernel_rfl) (by kernel_rfl) (by kernel_rfl) (fun _ _ _ h => h) (Or.inl ⟨by rfl, ?_⟩) hHeld ?_
      rotate_left
      · intro w' hSw; go_simp; try with_reducible rfl
      simp only [List.getElem_toArray, List.getElem_cons_succ, List.getElem_cons_zero, Act.put, List.setIfInBounds_toArray, List.set_cons_zero, List.set_cons_succ]
      refine wpAnyH_take (i := 3) (v := ?_) rfl (by kernel_rfl) (by kernel_rfl) (by kernel_rfl) (fun _ _ _ h => h) (Or.inl ⟨by rfl, ?_⟩) hHeld ?_
      rotate_left
      · intro w' hSw; go_simp; try with_reducible rfl
      simp only [List.getElem_toArray, List.getElem_cons_succ, List.getElem_cons_zero, Act.put, List.setIfInBounds_toArray, List.set_cons_zero, List.set_cons_succ]
      refine wpAnyH_ready (rs := [4]) (by kernel_rfl) (by simp) ?_
      refine AllReadyH.cons rfl (fun K hK => ?_) AllReadyH.nil
      go_simp
      refine (left0 wX).mono ?_
      rintro e wY ⟨rfl, bA⟩
      have BwY := Lib.hid (BwX.out.trans (bA.mono BwX.out.size))
      clear bA
      try go_wp2_with fail
      refine hK.out _ _ ?_ (fun hHeld => ?_)
      · exact BwY.out
      clear hK K
      try simp only [List.getElem_toArray, List.getElem_cons_succ, List.getElem_cons_zero, Act.put, List.setIfInBounds_toArray, List.set_cons_zero, List.set_cons_succ]
      refine wpAnyH_take (i := 5) (v := ?_) rfl (by kernel_rfl) (by kernel_rfl) (by kernel_rfl) (fun _ _ _ h => h) (Or.inl ⟨by rfl, ?_⟩) hHeld ?_
      rotate_left
      · intro w' hSw; go_simp; try with_reducible rfl
      simp only [List.getElem_toArray, List.getElem_cons_succ, List.getElem_cons_zero, Act.put, List.setIfInBounds_toArray, List.set_cons_zero, List.set_cons_succ]
      refine wpAnyH_take (i := 6) (v := ?_) rfl (by kernel_rfl) (by kernel_rfl) (by kernel_rfl) (fun _ _ _ h => h) (Or.inl ⟨by rfl, ?_⟩) hHeld ?_
      rotate_left
      · intro w' hSw; go_simp; try with_reducible rfl
      simp only [List.getElem_toArray, List.getElem_cons_succ, List.getElem_cons_zero, Act.put, List.setIfInBounds_toArray, List.set_cons_zero, List.set_cons_succ]
      refine wpAnyH_take (i := 7) (v := ?_) rfl (by kernel_rfl) (by kernel_rfl) (by kernel_rfl) (fun _ _ _ h => h) (Or.inl ⟨by rfl, ?_⟩) hHeld ?_
      rotate_left
      · intro w' hSw; go_simp; try with_reducible rfl
      simp only [List.getElem_toArray, List.getElem_cons_succ, List.getElem_cons_zero, Act.put, List.setIfInBounds_toArray, List.set_cons_zero, List.set_cons_succ]
      refine wpAnyH_take (i := 8) (v := ?_) rfl (by kernel_rfl) (by kernel_rfl) (by kernel_rfl) (fun _ _ _ h => h) (Or.inl ⟨by rfl, ?_⟩) hHeld ?_
      rotate_left
      · intro w' hSw; go_simp; try with_reducible rfl
      simp only [List.getElem_toArray, List.getElem_cons_succ, List.getElem_cons_zero, Act.put, List.setIfInBounds_toArray, List.set_cons_zero, List.set_cons_succ]
      refine wpAnyH_take (i := 9) (v := ?_) rfl (by kernel_rfl) (by kernel_rfl) (by kernel_rfl) (fun _ _ _ h => h) (Or.inl ⟨by rfl, ?_⟩) hHeld ?_
      rotate_left
      · intro w' hSw; obtain ⟨c0, c1⟩ := cell2_of ((hSw.block _ (heap_lt E12.out)).trans E12.out); go_simp; try with_reducible rfl
      simp only [List.getElem_toArray, List.getElem_cons_succ, List.getElem_cons_zero, Act.put, List.setIfInBounds_toArray, List.set_cons_zero, List.set_cons_succ]
      refine wpAnyH_take (i := 10) (v := ?_) rfl (by kernel_rfl) (by kernel_rfl) (by kernel_rfl) (fun _ _ _ h => h) (Or.inl ⟨by rfl, ?_⟩) hHeld ?_
      rotate_left
      · intro w' hSw; go_simp; try with_reducible rfl
      simp only [List.getElem_toArray, List.getElem_cons_succ, List.getElem_cons_zero, Act.put, List.setIfInBounds_toArray, List.set_cons_zero, List.set_cons_succ]
      refine wpAnyH_take (i := 11) (v := ?_) rfl (by kernel_rfl) (by kernel_rfl) (by kernel_rfl) (fun _ _ _ h => h) (Or.inl ⟨by rfl, ?_⟩) hHeld ?_
      rotate_left
      · intro w' hSw; have cu := (hSw.cell (p := ⟨g20, o20 + 20, none⟩) LG.out).trans CG.out; go_simp; try with_reducible rfl
      simp only [List.getElem_toArray, List.getElem_cons_succ, List.getElem_cons_zero, Act.put, List.setIfInBounds_toArray, List.set_cons_zero, List.set_cons_succ]
      refine wpAnyH_take (i := 12) (v := ?_) rfl (by kernel_rfl) (by kernel_rfl) (by kernel_rfl) (fun _ _ _ h => h) (Or.inl ⟨by rfl, ?_⟩) hHeld ?_
      rotate_left
      · intro w' hSw; have hs := run_txt_string (T20.out.below hSw); go_simp; try with_reducible rfl
      simp only [List.getElem_toArray, List.getElem_cons_succ, List.getElem_cons_zero, Act.put, List.setIfInBounds_toArray, List.set_cons_zero, List.set_cons_succ]
      refine wpAnyH_ready (rs := [13]) (by kernel_rfl) (by simp) ?_
      refine AllReadyH.cons rfl (fun K hK => ?_) AllReadyH.nil
      go_simp
      refine (of_any 7 wY).mono ?_
      rintro e wZ ⟨yA, rfl, hoA, bA⟩
      have XwZ := Lib.hid (own_txt7 hoA)
      obtain ⟨AwZ, cwZ, rfl⟩ := own_slice_ hoA
      clear hoA
      have BwZ := Lib.hid (BwY.out.trans (bA.mono BwY.out.size))
      clear bA
      try go_wp2_with fail
      refine hK.out _ _ ?_ (fun hHeld => ?_)
      · exact BwZ.out
      clear hK K
      try simp only [List.getElem_toArray, List.getElem_cons_succ, List.getElem_cons_zero, Act.put, List.setIfInBounds_toArray, List.set_cons_zero, List.set_cons_succ]
      have hswZ := run_txt_string XwZ.out
      refine wpAnyH_ready (rs := [14]) (by kernel_rfl) (by simp) ?_
      refine AllReadyH.cons rfl (fun K hK => ?_) AllReadyH.nil
      rw [if_pos (by rfl)]
      go_simp
      refine hK.out _ _ ?_ (fun hHeld => ?_)
      · exact BwZ.out
      clear hK K
      try simp only [List.getElem_toArray, List.getElem_cons_succ, List.getElem_cons_zero, Act.put, List.setIfInBounds_toArray, List.set_cons_zero, List.set_cons_succ]
      refine wpAnyH_take (i := 15) (v := ?_) rfl (by kernel_rfl) (by kernel_rfl) (by kernel_rfl) (fun _ _ _ h => h) (Or.inl ⟨by rfl, ?_⟩) hHeld ?_
      rotate_left
      · intro w' hSw; go_simp; try with_reducible rfl
      simp only [List.getElem_toArray, List.getElem_cons_succ, List.getElem_cons_zero, Act.put, List.setIfInBounds_toArray, List.set_cons_zero, List.set_cons_succ]
      refine wpAnyH_take (i := 16) (v := ?_) rfl (by kernel_rfl) (by kernel_rfl) (by kernel_rfl) (fun _ _ _ h => h) (Or.inl ⟨by rfl, ?_⟩) hHeld ?_
      rotate_left
      · intro w' hSw; go_simp; try with_reducible rfl
      simp only [List.getElem_toArray, List.getElem_cons_succ, List.getElem_cons_zero, Act.put, List.setIfInBounds_toArray, List.set_cons_zero, List.set_cons_succ]
      refine wpAnyH_take (i := 17) (v := ?_) rfl (by kernel_rfl) (by kernel_rfl) (by kernel_rfl) (fun _ _ _ h => h) (Or.inl ⟨by rfl, ?_⟩) hHeld ?_
      rotate_left
      · intro w' hSw; go_simp; try with_reducible rfl
      simp only [List.getElem_toArray, List.getElem_cons_succ, List.getElem_cons_zero, Act.put, List.setIfInBounds_toArray, List.set_cons_zero, List.set_cons_succ]
      refine wpAnyH_take (i := 18) (v := ?_) rfl (by kernel_rfl) (by kernel_rfl) (by kernel_rfl) (fun _ _ _ h => h) (Or.inl ⟨by rfl, ?_⟩) hHeld ?_
      rotate_left
      · intro w' hSw; go_simp; try with_reducible rfl
      simp only [List.getElem_toArray, List.getElem_cons_succ, List.getElem_cons_zero, Act.put, List.setIfInBounds_toArray, List.set_cons_zero, List.set_cons_succ]
      refine wpAnyH_take (i := 19) (v := ?_) rfl (by kernel_rfl) (by kernel_rfl) (by kernel_rfl) (fun _ _ _ h => h) (Or.inl ⟨by rfl, ?_⟩) hHeld ?_
      rotate_left
      · intro w' hSw; obtain ⟨c0, c1⟩ := cell2_of ((hSw.block _ (heap_lt E12.out)).trans E12.out); go_simp; try with_reducible rfl
      simp only [List.getElem_toArray, List.getElem_cons_succ, List.getElem_cons_zero, Act.put, List.setIfInBounds_toArray, List.set_cons_zero, List.set_cons_succ]
      refine wpAnyH_take (i := 20) (v := ?_) rfl (by kernel_rfl) (by kernel_rfl) (by kernel_rfl) (fun _ _ _ h => h) (Or.inl ⟨by rfl, ?_⟩) hHeld ?_
      rotate_left
      · intro w' hSw; go_simp; try with_reducible rfl
      simp only [List.getElem_toArray, List.getElem_cons_succ, List.getElem_cons_zero, Act.put, List.setIfInBounds_toArray, List.set_cons_zero, List.set_cons_succ]
      refine wpAnyH_take (i := 21) (v := ?_) rfl (by kernel_rfl) (by kernel_rfl) (by kernel_rfl) (fun _ _ _ h => h) (Or.inl ⟨by rfl, ?_⟩) hHeld ?_
      rotate_left
      · intro w' hSw; go_simp; try with_reducible rfl
      simp only [List.getElem_toArray, List.getElem_cons_succ, List.getElem_cons_zero, Act.put, List.setIfInBounds_toArray, List.set_cons_zero, List.set_cons_succ]
      refine wpAnyH_take (i := 22) (v := ?_) rfl (by kernel_rfl) (by kernel_rfl) (by kernel_rfl) (fun _ _ _ h => h) (Or.inl ⟨by rfl, ?_⟩) hHeld ?_
      rotate_left
      · intro w' hSw; go_simp; try with_reducible rfl
      simp only [List.getElem_toArray, List.getElem_cons_succ, List.getElem_cons_zero, Act.put, List.setIfInBounds_toArray, List.set_cons_zero, List.set_cons_succ]
      refine wpAnyH_take (i := 23) (v := ?_) rfl (by kernel_rfl) (by kernel_rfl) (by kernel_rfl) (fun _ _ _ h => h) (Or.inl ⟨by rfl, ?_⟩) hHeld ?_
      rotate_left
      · intro w' hSw; go_simp; try with_reducible rfl
      simp only [List.getElem_toArray, List.getElem_cons_succ, List.getElem_cons_zero, Act.put, List.setIfInBounds_toArray, List.set_cons_zero, List.set_cons_succ]
      refine wpAnyH_take (i := 24) (v := ?_) rfl (by kernel_rfl) (by kernel_rfl) (by kernel_rfl) (fun _ _ _ h => h) (Or.inl ⟨by rfl, ?_⟩) hHeld ?_
      rotate_left
      · intro w' hSw; go_simp; try with_reducible rfl
      simp only [List.getElem_toArray, List.getElem_cons_succ, List.getElem_cons_zero, Act.put, List.setIfInBounds_toArray, List.set_cons_zero, List.set_cons_succ]
      refine wpAnyH_take (i := 25) (v := ?_) rfl (by kernel_rfl) (by kernel_rfl) (by kernel_rfl) (fun _ _ _ h => h) (Or.inl ⟨by rfl, ?_⟩) hHeld ?_
      rotate_left
      · intro w' hSw; go_simp; try with_reducible rfl
      simp only [List.getElem_toArray, List.getElem_cons_succ, List.getElem_cons_zero, Act.put, List.setIfInBounds_toArray, List.set_cons_zero, List.set_cons_succ]
      refine wpAnyH_take (i := 26) (v := ?_) rfl (by kernel_rfl) (by kernel_rfl) (by kernel_rfl) (fun _ _ _ h => h) (Or.inl ⟨by rfl, ?_⟩) hHeld ?_
      rotate_left
      · intro w' hSw; go_simp; try with_reducible rfl
      simp only [List.getElem_toArray, List.getElem_cons_succ, List.getElem_cons_zero, Act.put, List.setIfInBounds_toArray, List.set_cons_zero, List.set_cons_succ]
      refine wpAnyH_take (i := 27) (v := ?_) rfl (by kernel_rfl) (by kernel_rfl) (by kernel_rfl) (fun _ _ _ h => h) (Or.inl ⟨by rfl, ?_⟩) hHeld ?_
      rotate_left
      · intro w' hSw; go_simp; try with_reducible rfl
      simp only [List.getElem_toArray, List.getElem_cons_succ, List.getElem_cons_zero, Act.put, List.setIfInBounds_toArray, List.set_cons_zero, List.set_cons_succ]
      refine wpAnyH_take (i := 28) (v := ?_) rfl (by kernel_rfl) (by kernel_rfl) (by kernel_rfl) (fun _ _ _ h => h) (Or.inl ⟨by rfl, ?_⟩) hHeld ?_
      rotate_left
      · intro w' hSw; go_simp; try with_reducible rfl
      simp only [List.getElem_toArray, List.getElem_cons_succ, List.getElem_cons_zero, Act.put, List.setIfInBounds_toArray, List.set_cons_zero, List.set_cons_succ]
      refine wpAnyH_take (i := 29) (v := ?_) rfl (by kernel_rfl) (by kernel_rfl) (by kernel_rfl) (fun _ _ _ h => h) (Or.inl ⟨by rfl, ?_⟩) hHeld ?_
      rotate_left
      · intro w' hSw; go_simp; try with_reducible rfl
      simp only [List.getElem_toArray, List.getElem_cons_succ, List.getElem_cons_zero, Act.put, List.setIfInBounds_toArray, List.set_cons_zero, List.set_cons_succ]
      refine wpAnyH_take (i := 30) (v := ?_) rfl (by kernel_rfl) (by kernel_rfl) (by kernel_rfl) (fun _ _ _ h => h) (Or.inl ⟨by rfl, ?_⟩) hHeld ?_
      rotate_left
      · intro w' hSw; go_simp; try with_reducible rfl
      simp only [List.getElem_toArray, List.getElem_cons_succ, List.getElem_cons_zero, Act.put, List.setIfInBounds_toArray, List.set_cons_zero, List.set_cons_succ]
      refine wpAnyH_take (i := 31) (v := ?_) rfl (by kernel_rfl) (by kernel_rfl) (by kernel_rfl) (fun _ _ _ h => h) (Or.inl ⟨by rfl, ?_⟩) hHeld ?_
      rotate_left
      · intro w' hSw; go_simp; try with_reducible rfl
      simp only [List.getElem_toArray, List.getElem_cons_succ, List.getElem_cons_zero, Act.put, List.setIfInBounds_toArray, List.set_cons_zero, List.set_cons_succ]
      refine wpAnyH_take (i := 32) (v := ?_) rfl (by kernel_rfl) (by kernel_rfl) (by kernel_rfl) (fun _ _ _ h => h) (Or.inl ⟨by rfl, ?_⟩) hHeld ?_
      rotate_left
      · intro w' hSw; go_simp; try with_reducible rfl
      simp only [List.getElem_toArray, List.getElem_cons_succ, List.getElem_cons_zero, Act.put, List.setIfInBounds_toArray, List.set_cons_zero, List.set_cons_succ]
      refine wpAnyH_take (i := 33) (v := ?_) rfl (by kernel_rfl) (by kernel_rfl) (by kernel_rfl) (fun _ _ _ h => h) (Or.inl ⟨by rfl, ?_⟩) hHeld ?_
      rotate_left
      · intro w' hSw; go_simp; try with_reducible rfl
      simp only [List.getElem_toArray, List.getElem_cons_succ, List.getElem_cons_zero, Act.put, List.setIfInBounds_toArray, List.set_cons_zero, List.set_cons_succ]
      refine wpAnyH_take (i := 34) (v := ?_) rfl (by kernel_rfl) (by kernel_rfl) (by kernel_rfl) (fun _ _ _ h => h) (Or.inl ⟨by rfl, ?_⟩) hHeld ?_
      rotate_left
      · intro w' hSw; go_simp; try with_reducible rfl
      simp only [List.getElem_toArray, List.getElem_cons_succ, List.getElem_cons_zero, Act.put, List.setIfInBounds_toArray, List.set_cons_zero, List.set_cons_succ]
      refine wpAnyH_take (i := 35) (v := ?_) rfl (by kernel_rfl) (by kernel_rfl) (by kernel_rfl) (fun _ _ _ h => h) (Or.inl ⟨by rfl, ?_⟩) hHeld ?_
      rotate_left
      · intro w' hSw; go_simp; try with_reducible rfl
      simp only [List.getElem_toArray, List.getElem_cons_succ, List.getElem_cons_zero, Act.put, List.setIfInBounds_toArray, List.set_cons_zero, List.set_cons_succ]
      refine wpAnyH_take (i := 36) (v := ?_) rfl (by kernel_rfl) (by kernel_rfl) (by kernel_rfl) (fun _ _ _ h => h) (Or.inl ⟨by rfl, ?_⟩) hHeld ?_
      rotate_left
      · intro w' hSw; go_simp; try with_reducible rfl
      simp only [List.getElem_toArray, List.getElem_cons_succ, List.getElem_cons_zero, Act.put, List.setIfInBounds_toArray, List.set_cons_zero, List.set_cons_succ]
      refine wpAnyH_ready (rs := [37]) (by kernel_rfl) (by simp) ?_
      refine AllReadyH.cons rfl (fun K hK => ?_) AllReadyH.nil
      go_simp
      refine (check_none wZ).mono ?_
      rintro e wV ⟨rfl, bA⟩
      have BwV := Lib.hid (BwZ.out.trans (bA.mono BwZ.out.size))
      clear bA
      try go_wp2_with fail
      refine hK.out _ _ ?_ (fun hHeld => ?_)
      · exact BwV.out
      clear hK K
      try simp only [List.getElem_toArray, List.getElem_cons_succ, List.getElem_cons_zero, Act.put, List.setIfInBounds_toArray, List.set_cons_zero, List.set_cons_succ]
      refine wpAnyH_take (i := 38) (v := ?_) rfl (by kernel_rfl) (by kernel_rfl) (by kernel_rfl) (fun _ _ _ h => h) (Or.inl ⟨by rfl, ?_⟩) hHeld ?_
      rotate_left
      · intro w' hSw; go_simp; try with_reducible rfl
      simp only [List.getElem_toArray, List.getElem_cons_succ, List.getElem_cons_zero, Act.put, List.setIfInBounds_toArray, List.set_cons_zero, List.set_cons_succ]
      refine wpAnyH_take (i := 39) (v := ?_) rfl (by kernel_rfl) (by kernel_rfl) (by kernel_rfl) (fun _ _ _ h => h) (Or.inl ⟨by rfl, ?_⟩) hHeld ?_
      rotate_left
      · intro w' hSw; go_simp; try with_reducible rfl
      simp only [List.getElem_toArray, List.getElem_cons_succ, List.getElem_cons_zero, Act.put, List.setIfInBounds_toArray, List.set_cons_zero, List.set_cons_succ]
      refine wpAnyH_take (i := 40) (v := ?_) rfl (by kernel_rfl) (by kernel_rfl) (by kernel_rfl) (fun _ _ _ h => h) (Or.inl ⟨by rfl, ?_⟩) hHeld ?_
      rotate_left
      · intro w' hSw; go_simp; try with_reducible rfl
      simp only [List.getElem_toArray, List.getElem_cons_succ, List.getElem_cons_zero, Act.put, List.setIfInBounds_toArray, List.set_cons_zero, List.set_cons_succ]
      refine wpAnyH_done (by kernel_rfl) ?_ _
      have HALL := Lib.hid (B12.out.trans (BwV.out.mono B12.out.size))
      go_wp2_with fail
      go_ret
      exact ⟨rfl, HALL.out⟩
end Go.Proofs.Ytdpjdobmnkadjaa
