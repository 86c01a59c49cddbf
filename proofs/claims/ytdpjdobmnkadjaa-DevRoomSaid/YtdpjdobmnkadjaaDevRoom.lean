/-
  The walk of DevRoom: just as many writes fit as there is room.
  Conditions: none.
-/
import Derived.Test.YtdpjdobmnkadjaaDevAlive
import Derived.Test.YtdpjdobmnkadjaaDevBox
import Derived.Deep.CutRange
set_option linter.unusedVariables false
set_option linter.unusedSimpArgs false
namespace Go.Proofs.Ytdpjdobmnkadjaa
open Go.RowKit

theorem atE_zero {ss : List Bs} {ws : List Wr} {n : Int} (h : May ss ws) (h0 : 0 ≤ n) (h1 : n < 32) : atE ss ws n = 0 := by rw [atE, if_pos (mayB_iff.2 h), if_pos ⟨h0, h1⟩]
theorem WtsIn.take {W : World} {B n c k : Nat} {A : Option Addr} {ws : List Wr} (h : WtsIn W B (.slice A n c) ws) (hk : k ≤ ws.length) : WtsIn W B (.slice A k c) (ws.take k) := by
  obtain ⟨A', c', e, h1, h2, hn, h3⟩ := h
  cases e
  have hl : (ws.take k).length = k := by rw [List.length_take]; omega
  refine ⟨A, c, by rw [hl], by omega, h2, hn, fun hp => ?_⟩
  obtain ⟨b, off, ha, hb, hc⟩ := h3 (by omega)
  exact ⟨b, off, ha, hb, fun j hj => by simpa using hc j (by omega)⟩
theorem txt_of_ofL {W : World} {base : Nat} {y : Value} {n : UInt8} (h : W.ownsRow base 5 1 y 128 ((ofL n).map u8)) : Txt W W.heap.size y (ofL n) := Txt.own (by rw [ofL_length]; unfold maxLen; omega) (base := base) (e := 5) (by rw [ofL_length]; exact h)


set_option maxRecDepth 100000 in
set_option maxHeartbeats 600000 in
theorem walk_room (d : Value) (ss : List Bs) (ws : List Wr) (a x : UInt8) (w : World) (h : DiskIn w w.heap.size d ss ws) :
    Calls Try.prog 10 #[d, .int .u8 (a.toNat : Int), .int .u8 (x.toNat : Int)] w fun e w' => e = .returned (.bool true) ∧ Below w.heap.size w w' := by
  obtain ⟨v1, v2, rfl, h1, h2⟩ := id h
  have H := Lib.hid h
  have H1 := Lib.hid h1
  have H2 := Lib.hid h2
  obtain ⟨A1, c1, rfl, -, -, -, -⟩ := h1
  obtain ⟨A2, c2, rfl, -, -, -, -⟩ := h2
  have hwl : (ws.length : Int) ≤ 9223372036854775807 := by have := H2.out.le; unfold maxLen at *; omega
  clear h
  have hq0 := heap_alloc_self w (.cells #[.slice A1 ss.length c1, .slice A2 ws.length c2] 25)
  have hqb := below_new w (.cells #[.slice A1 ss.length c1, .slice A2 ws.length c2] 25)
  go_enter Try.func10, Try.ntmps10
  go_wp2_with fail
  generalize w.alloc (.cells #[.slice A1 ss.length c1, .slice A2 ws.length c2] 25) = q at hq0 hqb ⊢
  refine (alive_true q).mono ?_
  rintro e w1 ⟨rfl, b1⟩
  have B1 := Lib.hid (hqb.trans (b1.mono hqb.size))
  have C1 := Lib.hid ((b1.block _ (heap_lt hq0)).trans hq0)
  obtain ⟨k0, k1⟩ := cell2_of C1.out
  clear hq0 hqb b1
  go_wp2_with fail
  refine (great_any _ ss ws w1 ((H.out.below B1.out).more B1.out.size)).mono ?_
  rintro e w2 ⟨⟨gr, rfl⟩, b2⟩
  have B2 := Lib.hid (B1.out.trans (b2.mono B1.out.size))
  have C2 := Lib.hid ((b2.block _ (heap_lt C1.out)).trans C1.out)
  clear b2 k0 k1 B1 C1
  obtain ⟨k0, k1⟩ := cell2_of C2.out
  cases gr with
  | true =>
    go_wp2_with fail
    go_ret
    exact ⟨rfl, B2.out⟩
  | false =>
    go_wp2_with fail
    refine (check_any _ ss ws w2 ((H.out.below B2.out).more B2.out.size)).mono ?_
    rintro e w3 ⟨rfl, b3⟩
    have B4 := Lib.hid (B2.out.trans (b3.mono B2.out.size))
    have C4 := Lib.hid ((b3.block _ (heap_lt C2.out)).trans C2.out)
    clear b3 k0 k1
    obtain ⟨k0, k1⟩ := cell2_of C4.out
    cases hmay : mayB ss ws with
    | false =>
      simp only [Bool.false_eq_true, ↓reduceIte]
      clear hmay
      go_wp2_with fail
      go_ret
      exact ⟨rfl, B4.out⟩
    | true =>
      simp only [↓reduceIte]
      have HM := Lib.hid (mayB_iff.1 hmay)
      obtain ⟨m, hm⟩ : ∃ m : Nat, m = a.toNat % 32 := ⟨_, rfl⟩
      have hml : (m : Int) < 32 := by omega
      have hrem : (a.toNat : Int) % 32 = (m : Int) := by omega
      have hrem2 : Int.tmod (a.toNat : Int) 32 = (m : Int) := by rw [Int.tmod_eq_emod_of_nonneg (by omega)]; exact hrem
      obtain ⟨E, hE⟩ : ∃ E, E = writeE ss ws m (ofL x) := ⟨_, rfl⟩
      have HA0 := Lib.hid (atE_zero HM.out (n := (m : Int)) (by omega) hml)
      have HE := Lib.hid hE.symm
      obtain ⟨SS, hSS⟩ : ∃ SS, SS = writeS ss ws m (ofL x) := ⟨_, rfl⟩
      obtain ⟨WW, hWW⟩ : ∃ WW, WW = writeW ss ws m (ofL x) := ⟨_, rfl⟩
      have HES := Lib.hid hSS.symm
      have HEW := Lib.hid hWW.symm
      have hEE : E = if ws.length = 256 then 9 else 0 := by rw [hE, writeE, if_pos HA0.out, if_pos (ofL_length x)]
      have HEE := Lib.hid hEE
      clear hEE
      have hwr : IntKind.i64.wrap (m : Int) = (m : Int) := by rw [IntKind.wrap_i64]; omega
      clear hmay hm hE hSS hWW
      have DT : Hid (∀ v, Below w3.heap.size w3 v → DiskIn v v.heap.size (.agg #[.slice A1 ss.length c1, .slice A2 ws.length c2]) ss ws) := Lib.hid (fun v hv => (H.out.below (B4.out.trans (hv.mono B4.out.size))).more (Nat.le_trans B4.out.size hv.size))
      go_wp2_with fail
      go_cut [9, 10] from 11 to 36 (fun s9 s10 wx => ∃ p, s9 = .pointer (some ⟨p, 0, none⟩) ∧ s10 = .int .i64 E ∧ BoxD wx p w3.heap.size SS WW ∧ Below w3.heap.size w3 wx)
      case first =>
        have Q0 := Lib.hid (Below.refl w3.heap.size w3).drew
        refine wp_region_held_drew (S := fun v => Below w3.heap.size w3 v) (by kernel_rfl) Q0.out (fun hHeld => ?_)
        refine wpAnyH_take (i := 0) (v := ?_) rfl (by kernel_rfl) (by kernel_rfl) (by kernel_rfl) (fun _ _ _ h => h) (Or.inl ⟨by rfl, ?_⟩) hHeld ?_
        rotate_left
        · intro w' hSw; obtain ⟨c0, c1⟩ := cell2_of ((hSw.block _ (heap_lt C4.out)).trans C4.out); go_simp; try with_reducible rfl
        simp only [List.getElem_toArray, List.getElem_cons_succ, List.getElem_cons_zero, Act.put, List.setIfInBounds_toArray, List.set_cons_zero, List.set_cons_succ]
        refine wpAnyH_take (i := 1) (v := ?_) rfl (by kernel_rfl) (by kernel_rfl) (by kernel_rfl) (fun _ _ _ h => h) (Or.inl ⟨by rfl, ?_⟩) hHeld ?_
        rotate_left
        · intro w' hSw; go_simp; try with_reducible rfl
        simp only [List.getElem_toArray, List.getElem_cons_succ, List.getElem_cons_zero, Act.put, List.setIfInBounds_toArray, List.set_cons_zero, List.set_cons_succ]
        refine wpAnyH_take (i := 2) (v := ?_) rfl (by kernel_rfl) (by kernel_rfl) (by kernel_rfl) (fun _ _ _ h => h) (Or.inl ⟨by rfl, ?_⟩) hHeld ?_
        rotate_left
        · intro w' hSw; go_simp; try with_reducible rfl
        simp only [List.getElem_toArray, List.getElem_cons_succ, List.getElem_cons_zero, Act.put, List.setIfInBounds_toArray, List.set_cons_zero, List.set_cons_succ]
        refine wpAnyH_take (i := 3) (v := ?_) rfl (by kernel_rfl) (by kernel_rfl) (by kernel_rfl) (fun _ _ _ h => h) (Or.inl ⟨by rfl, ?_⟩) hHeld ?_
        rotate_left
        · intro w' hSw; go_simp; try with_reducible rfl
        simp only [List.getElem_toArray, List.getElem_cons_succ, List.getElem_cons_zero, Act.put, List.setIfInBounds_toArray, List.set_cons_zero, List.set_cons_succ]
        refine wpAnyH_take (i := 4) (v := ?_) rfl (by kernel_rfl) (by kernel_rfl) (by kernel_rfl) (fun _ _ _ h => h) (Or.inl ⟨by rfl, ?_⟩) hHeld ?_
        rotate_left
        · intro w' hSw; go_simp; try with_reducible rfl
        simp only [List.getElem_toArray, List.getElem_cons_succ, List.getElem_cons_zero, Act.put, List.setIfInBounds_toArray, List.set_cons_zero, List.set_cons_succ]
        refine wpAnyH_ready (rs := [5, 10]) (by kernel_rfl) (by simp) ?_
        refine AllReadyH.cons rfl (fun K hK => ?_) (AllReadyH.cons rfl (fun K hK => ?_) AllReadyH.nil)
        · go_simp
          refine (of_any x w3.drew).mono ?_
          rintro e wO ⟨yO, rfl, hoO, bO⟩
          have XO := Lib.hid (txt_of_ofL hoO)
          obtain ⟨AO, cO, rfl⟩ := own_slice_ hoO
          clear hoO
          have BO := Lib.hid (Q0.out.trans (bO.mono Q0.out.size))
          clear bO
          try go_wp2_with fail
          refine hK.out _ _ ?_ (fun hHeld => ?_)
          · exact BO.out
          clear hK K
          try simp only [List.getElem_toArray, List.getElem_cons_succ, List.getElem_cons_zero, Act.put, List.setIfInBounds_toArray, List.set_cons_zero, List.set_cons_succ]
          refine wpAnyH_ready (rs := [6, 10]) (by kernel_rfl) (by simp) ?_
          refine AllReadyH.cons rfl (fun K hK => ?_) (AllReadyH.cons rfl (fun K hK => ?_) AllReadyH.nil)
          · go_simp
            refine (write_any _ _ ss ws m (ofL x) wO (DT.out _ BO.out) XO.out).mono ?_
            rintro e wA ⟨dA, rfl, hdA, bA⟩
            rw [HE.out]
            rw [HES.out, HEW.out] at hdA
            obtain ⟨y1, y2, rfl, hsA, hwA⟩ := hdA
            obtain ⟨A6, c6, rfl⟩ := secs_slice hsA
            obtain ⟨A7, c7, rfl⟩ := wts_slice hwA
            have BA := Lib.hid (BO.out.trans (bA.mono BO.out.size))
            have LO0 := Lib.hid BO.out.size
            clear bA
            try go_wp2_with fail
            refine hK.out _ _ ?_ (fun hHeld => ?_)
            · exact BA.out
            clear hK K
            try simp only [List.getElem_toArray, List.getElem_cons_succ, List.getElem_cons_zero, Act.put, List.setIfInBounds_toArray, List.set_cons_zero, List.set_cons_succ]
            refine wpAnyH_take (i := 7) (v := ?_) rfl (by kernel_rfl) (by kernel_rfl) (by kernel_rfl) (fun _ _ _ h => h) (Or.inl ⟨by rfl, ?_⟩) hHeld ?_
            rotate_left
            · intro w' hSw; go_simp; try with_reducible rfl
            simp only [List.getElem_toArray, List.getElem_cons_succ, List.getElem_cons_zero, Act.put, List.setIfInBounds_toArray, List.set_cons_zero, List.set_cons_succ]
            refine wpAnyH_take (i := 8) (v := ?_) rfl (by kernel_rfl) (by kernel_rfl) (by kernel_rfl) (fun _ _ _ h => h) (Or.inl ⟨by rfl, ?_⟩) hHeld ?_
            rotate_left
            · intro w' hSw; go_simp; try with_reducible rfl
            simp only [List.getElem_toArray, List.getElem_cons_succ, List.getElem_cons_zero, Act.put, List.setIfInBounds_toArray, List.set_cons_zero, List.set_cons_succ]
            refine wpAnyH_take (i := 9) (v := ?_) rfl (by kernel_rfl) (by kernel_rfl) (by kernel_rfl) (fun _ _ _ h => h) (Or.inl ⟨by rfl, ?_⟩) hHeld ?_
            rotate_left
            · intro w' hSw; go_simp; try with_reducible rfl
            simp only [List.getElem_toArray, List.getElem_cons_succ, List.getElem_cons_zero, Act.put, List.setIfInBounds_toArray, List.set_cons_zero, List.set_cons_succ]
            refine wpAnyH_ready (rs := [10]) (by kernel_rfl) (by simp) ?_
            refine AllReadyH.cons rfl (fun K hK => ?_) AllReadyH.nil
            go_simp
            refine hK.out _ _ ?_ (fun hHeld => ?_)
            · exact BA.out.alloc BA.out.size _
            clear hK K
            try simp only [List.getElem_toArray, List.getElem_cons_succ, List.getElem_cons_zero, Act.put, List.setIfInBounds_toArray, List.set_cons_zero, List.set_cons_succ]
            refine wpAnyH_ready (rs := [11]) (by kernel_rfl) (by simp) ?_
            refine AllReadyH.cons rfl (fun K hK => ?_) AllReadyH.nil
            rw [if_pos (by rfl)]
            refine wp_store_2 25 _ _ rfl wA.heap.size rfl rfl (heap_alloc_self _ _) infoDisk2 rfl rfl ?_
            rw [World.setRow_alloc_new]
            refine hK.out _ _ ?_ (fun hHeld => ?_)
            · exact BA.out.alloc BA.out.size _
            clear hK K
            try simp only [List.getElem_toArray, List.getElem_cons_succ, List.getElem_cons_zero, Act.put, List.setIfInBounds_toArray, List.set_cons_zero, List.set_cons_succ]
            refine wpAnyH_take (i := 12) (v := ?_) rfl (by kernel_rfl) (by kernel_rfl) (by kernel_rfl) (fun _ _ _ h => h) (Or.inl ⟨by rfl, ?_⟩) hHeld ?_
            rotate_left
            · intro w' hSw; go_simp; try with_reducible rfl
            simp only [List.getElem_toArray, List.getElem_cons_succ, List.getElem_cons_zero, Act.put, List.setIfInBounds_toArray, List.set_cons_zero, List.set_cons_succ]
            refine wpAnyH_done (by kernel_rfl) ?_ _
            go_wp2_with fail
            go_meet
            exact ⟨wA.heap.size, rfl, rfl, ⟨_, _, heap_alloc_self _ _, (hsA.below (below_new _ _)).mono LO0.out, (hwA.below (below_new _ _)).mono LO0.out⟩, BA.out.alloc BA.out.size _⟩
          · go_simp
            have hz0 : Below w3.heap.size w3 (wO.alloc (.cells #[.slice none 0 0, .slice none 0 0] 25)) := BO.out.alloc BO.out.size _
            have hz1 : (wO.alloc (.cells #[.slice none 0 0, .slice none 0 0] 25)).heap[wO.heap.size]? = some (.cells #[.slice none 0 0, .slice none 0 0] 25 (0, 0)) := heap_alloc_self _ _
            have hz3 := below_new wO (.cells #[.slice none 0 0, .slice none 0 0] 25)
            refine hK.out _ _ ?_ (fun hHeld => ?_)
            · exact hz0
            clear hK K
            try simp only [List.getElem_toArray, List.getElem_cons_succ, List.getElem_cons_zero, Act.put, List.setIfInBounds_toArray, List.set_cons_zero, List.set_cons_succ]
            generalize wO.alloc (.cells #[.slice none 0 0, .slice none 0 0] 25) = wB at hz0 hz1 hz3 hHeld ⊢
            have HZ0 := Lib.hid hz0
            have HZ1 := Lib.hid hz1
            have HZ3 := Lib.hid hz3
            clear hz0 hz1 hz3
            refine wpAnyH_ready (rs := [6]) (by kernel_rfl) (by simp) ?_
            refine AllReadyH.cons rfl (fun K hK => ?_) AllReadyH.nil
            go_simp
            refine (write_any _ _ ss ws m (ofL x) wB (DT.out _ HZ0.out) ((XO.out.below HZ3.out).more HZ3.out.size)).mono ?_
            rintro e wA ⟨dA, rfl, hdA, bA⟩
            rw [HE.out]
            rw [HES.out, HEW.out] at hdA
            obtain ⟨y1, y2, rfl, hsA, hwA⟩ := hdA
            obtain ⟨A6, c6, rfl⟩ := secs_slice hsA
            obtain ⟨A7, c7, rfl⟩ := wts_slice hwA
            have BA := Lib.hid (HZ0.out.trans (bA.mono HZ0.out.size))
            have HZ2 := Lib.hid ((bA.block _ (heap_lt HZ1.out)).trans HZ1.out)
            have LO0 := Lib.hid HZ0.out.size
            clear bA
            try go_wp2_with fail
            refine hK.out _ _ ?_ (fun hHeld => ?_)
            · exact BA.out
            clear hK K
            try simp only [List.getElem_toArray, List.getElem_cons_succ, List.getElem_cons_zero, Act.put, List.setIfInBounds_toArray, List.set_cons_zero, List.set_cons_succ]
            refine wpAnyH_take (i := 7) (v := ?_) rfl (by kernel_rfl) (by kernel_rfl) (by kernel_rfl) (fun _ _ _ h => h) (Or.inl ⟨by rfl, ?_⟩) hHeld ?_
            rotate_left
            · intro w' hSw; go_simp; try with_reducible rfl
            simp only [List.getElem_toArray, List.getElem_cons_succ, List.getElem_cons_zero, Act.put, List.setIfInBounds_toArray, List.set_cons_zero, List.set_cons_succ]
            refine wpAnyH_take (i := 8) (v := ?_) rfl (by kernel_rfl) (by kernel_rfl) (by kernel_rfl) (fun _ _ _ h => h) (Or.inl ⟨by rfl, ?_⟩) hHeld ?_
            rotate_left
            · intro w' hSw; go_simp; try with_reducible rfl
            simp only [List.getElem_toArray, List.getElem_cons_succ, List.getElem_cons_zero, Act.put, List.setIfInBounds_toArray, List.set_cons_zero, List.set_cons_succ]
            refine wpAnyH_take (i := 9) (v := ?_) rfl (by kernel_rfl) (by kernel_rfl) (by kernel_rfl) (fun _ _ _ h => h) (Or.inl ⟨by rfl, ?_⟩) hHeld ?_
            rotate_left
            · intro w' hSw; go_simp; try with_reducible rfl
            simp only [List.getElem_toArray, List.getElem_cons_succ, List.getElem_cons_zero, Act.put, List.setIfInBounds_toArray, List.set_cons_zero, List.set_cons_succ]
            refine wpAnyH_ready (rs := [11]) (by kernel_rfl) (by simp) ?_
            refine AllReadyH.cons rfl (fun K hK => ?_) AllReadyH.nil
            rw [if_pos (by rfl)]
            refine wp_store_2 25 _ _ rfl wO.heap.size rfl rfl HZ2.out infoDisk2 rfl rfl ?_
            refine hK.out _ _ ?_ (fun hHeld => ?_)
            · exact below_setRow BA.out BO.out.size _
            clear hK K
            try simp only [List.getElem_toArray, List.getElem_cons_succ, List.getElem_cons_zero, Act.put, List.setIfInBounds_toArray, List.set_cons_zero, List.set_cons_succ]
            refine wpAnyH_take (i := 12) (v := ?_) rfl (by kernel_rfl) (by kernel_rfl) (by kernel_rfl) (fun _ _ _ h => h) (Or.inl ⟨by rfl, ?_⟩) hHeld ?_
            rotate_left
            · intro w' hSw; go_simp; try with_reducible rfl
            simp only [List.getElem_toArray, List.getElem_cons_succ, List.getElem_cons_zero, Act.put, List.setIfInBounds_toArray, List.set_cons_zero, List.set_cons_succ]
            refine wpAnyH_done (by kernel_rfl) ?_ _
            go_wp2_with fail
            go_meet
            exact ⟨wO.heap.size, rfl, rfl, ⟨_, _, setRow_heap _ _ _ _ _ _ HZ2.out, (secs_setRow hsA (heap_lt HZ1.out) _).mono LO0.out, (wts_setRow hwA (heap_lt HZ1.out) _).mono LO0.out⟩, below_setRow BA.out BO.out.size _⟩
        · go_simp
          have hz0 : Below w3.heap.size w3 (w3.alloc (.cells #[.slice none 0 0, .slice none 0 0] 25)).drew := (below_new _ _).drew
          have hz1 : (w3.alloc (.cells #[.slice none 0 0, .slice none 0 0] 25)).drew.heap[w3.heap.size]? = some (.cells #[.slice none 0 0, .slice none 0 0] 25 (0, 0)) := heap_alloc_self _ _
          refine hK.out _ _ ?_ (fun hHeld => ?_)
          · exact hz0
          clear hK K
          try simp only [List.getElem_toArray, List.getElem_cons_succ, List.getElem_cons_zero, Act.put, List.setIfInBounds_toArray, List.set_cons_zero, List.set_cons_succ]
          generalize (w3.alloc (.cells #[.slice none 0 0, .slice none 0 0] 25)).drew = wB at hz0 hz1 hHeld ⊢
          have HZ0 := Lib.hid hz0
          have HZ1 := Lib.hid hz1
          clear hz0 hz1
          refine wpAnyH_ready (rs := [5]) (by kernel_rfl) (by simp) ?_
          refine AllReadyH.cons rfl (fun K hK => ?_) AllReadyH.nil
          go_simp
          refine (of_any x wB).mono ?_
          rintro e wO ⟨yO, rfl, hoO, bO⟩
          have XO := Lib.hid (txt_of_ofL hoO)
          obtain ⟨AO, cO, rfl⟩ := own_slice_ hoO
          clear hoO
          have BO := Lib.hid (HZ0.out.trans (bO.mono HZ0.out.size))
          have HZ4 := Lib.hid ((bO.block _ (heap_lt HZ1.out)).trans HZ1.out)
          clear bO
          try go_wp2_with fail
          refine hK.out _ _ ?_ (fun hHeld => ?_)
          · exact BO.out
          clear hK K
          try simp only [List.getElem_toArray, List.getElem_cons_succ, List.getElem_cons_zero, Act.put, List.setIfInBounds_toArray, List.set_cons_zero, List.set_cons_succ]
          refine wpAnyH_ready (rs := [6]) (by kernel_rfl) (by simp) ?_
          refine AllReadyH.cons rfl (fun K hK => ?_) AllReadyH.nil
          go_simp
          refine (write_any _ _ ss ws m (ofL x) wO (DT.out _ BO.out) XO.out).mono ?_
          rintro e wA ⟨dA, rfl, hdA, bA⟩
          rw [HE.out]
          rw [HES.out, HEW.out] at hdA
          obtain ⟨y1, y2, rfl, hsA, hwA⟩ := hdA
          obtain ⟨A6, c6, rfl⟩ := secs_slice hsA
          obtain ⟨A7, c7, rfl⟩ := wts_slice hwA
          have BA := Lib.hid (BO.out.trans (bA.mono BO.out.size))
          have HZ2 := Lib.hid ((bA.block _ (heap_lt HZ4.out)).trans HZ4.out)
          have LO0 := Lib.hid BO.out.size
          clear bA
          try go_wp2_with fail
          refine hK.out _ _ ?_ (fun hHeld => ?_)
          · exact BA.out
          clear hK K
          try simp only [List.getElem_toArray, List.getElem_cons_succ, List.getElem_cons_zero, Act.put, List.setIfInBounds_toArray, List.set_cons_zero, List.set_cons_succ]
          refine wpAnyH_take (i := 7) (v := ?_) rfl (by kernel_rfl) (by kernel_rfl) (by kernel_rfl) (fun _ _ _ h => h) (Or.inl ⟨by rfl, ?_⟩) hHeld ?_
          rotate_left
          · intro w' hSw; go_simp; try with_reducible rfl
          simp only [List.getElem_toArray, List.getElem_cons_succ, List.getElem_cons_zero, Act.put, List.setIfInBounds_toArray, List.set_cons_zero, List.set_cons_succ]
          refine wpAnyH_take (i := 8) (v := ?_) rfl (by kernel_rfl) (by kernel_rfl) (by kernel_rfl) (fun _ _ _ h => h) (Or.inl ⟨by rfl, ?_⟩) hHeld ?_
          rotate_left
          · intro w' hSw; go_simp; try with_reducible rfl
          simp only [List.getElem_toArray, List.getElem_cons_succ, List.getElem_cons_zero, Act.put, List.setIfInBounds_toArray, List.set_cons_zero, List.set_cons_succ]
          refine wpAnyH_take (i := 9) (v := ?_) rfl (by kernel_rfl) (by kernel_rfl) (by kernel_rfl) (fun _ _ _ h => h) (Or.inl ⟨by rfl, ?_⟩) hHeld ?_
          rotate_left
          · intro w' hSw; go_simp; try with_reducible rfl
          simp only [List.getElem_toArray, List.getElem_cons_succ, List.getElem_cons_zero, Act.put, List.setIfInBounds_toArray, List.set_cons_zero, List.set_cons_succ]
          refine wpAnyH_ready (rs := [11]) (by kernel_rfl) (by simp) ?_
          refine AllReadyH.cons rfl (fun K hK => ?_) AllReadyH.nil
          rw [if_pos (by rfl)]
          refine wp_store_2 25 _ _ rfl w3.heap.size rfl rfl HZ2.out infoDisk2 rfl rfl ?_
          refine hK.out _ _ ?_ (fun hHeld => ?_)
          · exact below_setRow BA.out (Nat.le_refl _) _
          clear hK K
          try simp only [List.getElem_toArray, List.getElem_cons_succ, List.getElem_cons_zero, Act.put, List.setIfInBounds_toArray, List.set_cons_zero, List.set_cons_succ]
          refine wpAnyH_take (i := 12) (v := ?_) rfl (by kernel_rfl) (by kernel_rfl) (by kernel_rfl) (fun _ _ _ h => h) (Or.inl ⟨by rfl, ?_⟩) hHeld ?_
          rotate_left
          · intro w' hSw; go_simp; try with_reducible rfl
          simp only [List.getElem_toArray, List.getElem_cons_succ, List.getElem_cons_zero, Act.put, List.setIfInBounds_toArray, List.set_cons_zero, List.set_cons_succ]
          refine wpAnyH_done (by kernel_rfl) ?_ _
          go_wp2_with fail
          go_meet
          exact ⟨w3.heap.size, rfl, rfl, ⟨_, _, setRow_heap _ _ _ _ _ _ HZ2.out, (secs_setRow hsA (heap_lt HZ4.out) _).mono LO0.out, (wts_setRow hwA (heap_lt HZ4.out) _).mono LO0.out⟩, below_setRow BA.out (Nat.le_refl _) _⟩
      case rest =>
        obtain ⟨p, rfl, rfl, hbd, hbl⟩ := hcut
        obtain ⟨y1, y2, hp, hys, hyw⟩ := hbd
        have B5 := Lib.hid (B4.out.trans (hbl.mono B4.out.size))
        have hc5 := (hbl.block _ (heap_lt C4.out)).trans C4.out
        have C5 := Lib.hid hc5
        clear k0 k1 hc5
        by_cases hf : ws.length = 256
        · have hf' : ((ws.length : Int) == 256) = true := by rw [beq_iff_eq]; omega
          have hE9 : E = 9 := by rw [HEE.out, if_pos hf]
          have hSS : SS = [] := by rw [← HES.out, writeS, HE.out, hE9]; rfl
          rw [hSS] at hys
          obtain ⟨A5, c5, rfl⟩ := secs_slice hys
          obtain ⟨p0, p1⟩ := cell2_of hp
          subst hE9
          clear hp hys hyw hSS hbl hf HEE HE HES HEW DT
          go_wp2_with fail
          go_ret
          exact ⟨rfl, B5.out⟩
        · have hf' : ((ws.length : Int) == 256) = false := by rw [beq_eq_false_iff_ne]; omega
          have hE0 : E = 0 := by rw [HEE.out, if_neg hf]
          have hSS : SS = ss := by rw [← HES.out, writeS, HE.out, hE0]; rfl
          have hWW : WW = ws ++ [((m : Int), ofL x)] := by rw [← HEW.out, writeW, HE.out, hE0]; rfl
          rw [hSS] at hys
          rw [hWW] at hyw
          obtain ⟨A5, c5, rfl⟩ := secs_slice hys
          obtain ⟨A6, c6, rfl⟩ := wts_slice hyw
          have hin := hyw.in_
          have hD5 : DiskAt wc w3.heap.size (.agg #[.slice A5 ss.length c5, .slice A6 (ws ++ [((m : Int), ofL x)]).length c6]) ss (ws ++ [((m : Int), ofL x)]) := ⟨_, _, rfl, hys, hyw⟩
          have D5 := Lib.hid hD5
          have hkw : ws.length < (ws ++ [((m : Int), ofL x)]).length := by simp
          obtain ⟨g, og, ud, hA6, hgb, hd0, hd1, hdt⟩ := hin.at hkw
          subst hA6
          have hat : (ws ++ [((m : Int), ofL x)])[ws.length] = ((m : Int), ofL x) := by simp
          rw [hat] at hd0 hdt
          have TD := Lib.hid hdt
          obtain ⟨A7, c7, rfl, -, -, -, -⟩ := hdt
          have hwl1 : (ws ++ [((m : Int), ofL x)]).length = ws.length + 1 := by simp
          obtain ⟨N1, hN1⟩ : ∃ N1, N1 = ws.length + 1 := ⟨_, rfl⟩
          rw [hwl1, ← hN1] at hp
          rw [hwl1] at hkw
          have HW1 := Lib.hid hwl1
          have P5 := Lib.hid hp
          have HSAME : Hid (∀ v, Below wc.heap.size wc v → Calls Try.prog 32 #[.agg #[.slice A5 ss.length c5, .slice (some ⟨g, og, none⟩) ws.length c6], .agg #[.slice A1 ss.length c1, .slice A2 ws.length c2]] v fun e w' => e = .returned (.bool true) ∧ Below v.heap.size v w') := Lib.hid (fun v hv => by
            have h0 := (hyw.below hv).in_.take (k := ws.length) (by simp)
            rw [List.take_left] at h0
            have h1 := same_disk (.agg #[.slice A5 ss.length c5, .slice (some ⟨g, og, none⟩) ws.length c6]) (.agg #[.slice A1 ss.length c1, .slice A2 ws.length c2]) ss ss ws ws v (Nat.le_refl _) (Nat.le_refl _) ⟨_, _, rfl, (hys.below hv).in_, h0⟩ ((H.out.below (B5.out.trans (hv.mono B5.out.size))).more (Nat.le_trans B5.out.size hv.size))
            rwa [decide_eq_true (p := ss = ss ∧ ws = ws) ⟨rfl, rfl⟩] at h1)
          have HC0 := Lib.hid hd0
          have HC1 := Lib.hid hd1
          have LG := Lib.hid hgb
          have hk256 : (ws.length : Int) ≤ 256 := by have := HM.out.m; omega
          have hkk : (ws.length : Int) < (N1 : Int) := by omega
          have hk1 : (ws.length : Int) + 1 = (N1 : Int) := by omega
          have hwN : IntKind.i64.wrap (N1 : Int) = (N1 : Int) := by rw [IntKind.wrap_i64]; omega
          have hkc : (ws.length : Int) ≤ c6 := by
            obtain ⟨_, _, e, h5, _⟩ := hin
            cases e
            rw [hwl1] at h5
            omega
          subst hE0
          clear hp hys hyw hin hSS hWW hbl HEE HE HES HEW DT hD5 hd0 hd1 hgb hkw hat hwl1 hN1
          go_wp2_with fail
          go_cut [84] from 11 to 84 (fun s84 wx => s84 = .bool false ∧ Below wc.heap.size wc wx)
          case first =>
            have Q0 := Lib.hid (Below.refl wc.heap.size wc).drew
            refine wp_region_held_drew (S := fun v => Below wc.heap.size wc v) (by kernel_rfl) Q0.out (fun hHeld => ?_)
            refine wpAnyH_take (i := 0) (v := ?_) rfl (by kernel_rfl) (by kernel_rfl) (by kernel_rfl) (fun _ _ _ h => h) (Or.inl ⟨by rfl, ?_⟩) hHeld ?_
            rotate_left
            · intro w' hSw; go_simp; try with_reducible rfl
            simp only [List.getElem_toArray, List.getElem_cons_succ, List.getElem_cons_zero, Act.put, List.setIfInBounds_toArray, List.set_cons_zero, List.set_cons_succ]
            refine wpAnyH_take (i := 1) (v := ?_) rfl (by kernel_rfl) (by kernel_rfl) (by kernel_rfl) (fun _ _ _ h => h) (Or.inl ⟨by rfl, ?_⟩) hHeld ?_
            rotate_left
            · intro w' hSw; go_simp; try with_reducible rfl
            simp only [List.getElem_toArray, List.getElem_cons_succ, List.getElem_cons_zero, Act.put, List.setIfInBounds_toArray, List.set_cons_zero, List.set_cons_succ]
            refine wpAnyH_take (i := 2) (v := ?_) rfl (by kernel_rfl) (by kernel_rfl) (by kernel_rfl) (fun _ _ _ h => h) (Or.inl ⟨by rfl, ?_⟩) hHeld ?_
            rotate_left
            · intro w' hSw; go_simp; try with_reducible rfl
            simp only [List.getElem_toArray, List.getElem_cons_succ, List.getElem_cons_zero, Act.put, List.setIfInBounds_toArray, List.set_cons_zero, List.set_cons_succ]
            refine wpAnyH_take (i := 3) (v := ?_) rfl (by kernel_rfl) (by kernel_rfl) (by kernel_rfl) (fun _ _ _ h => h) (Or.inl ⟨by rfl, ?_⟩) hHeld ?_
            rotate_left
            · intro w' hSw; go_simp; try with_reducible rfl
            simp only [List.getElem_toArray, List.getElem_cons_succ, List.getElem_cons_zero, Act.put, List.setIfInBounds_toArray, List.set_cons_zero, List.set_cons_succ]
            refine wpAnyH_take (i := 4) (v := ?_) rfl (by kernel_rfl) (by kernel_rfl) (by kernel_rfl) (fun _ _ _ h => h) (Or.inl ⟨by rfl, ?_⟩) hHeld ?_
            rotate_left
            · intro w' hSw; obtain ⟨c0, c1⟩ := cell2_of ((hSw.block _ (heap_lt P5.out)).trans P5.out); go_simp; try with_reducible rfl
            simp only [List.getElem_toArray, List.getElem_cons_succ, List.getElem_cons_zero, Act.put, List.setIfInBounds_toArray, List.set_cons_zero, List.set_cons_succ]
            refine wpAnyH_take (i := 5) (v := ?_) rfl (by kernel_rfl) (by kernel_rfl) (by kernel_rfl) (fun _ _ _ h => h) (Or.inl ⟨by rfl, ?_⟩) hHeld ?_
            rotate_left
            · intro w' hSw; go_simp; try with_reducible rfl
            simp only [List.getElem_toArray, List.getElem_cons_succ, List.getElem_cons_zero, Act.put, List.setIfInBounds_toArray, List.set_cons_zero, List.set_cons_succ]
            refine wpAnyH_take (i := 6) (v := ?_) rfl (by kernel_rfl) (by kernel_rfl) (by kernel_rfl) (fun _ _ _ h => h) (Or.inl ⟨by rfl, ?_⟩) hHeld ?_
            rotate_left
            · intro w' hSw; go_simp; try with_reducible rfl
            simp only [List.getElem_toArray, List.getElem_cons_succ, List.getElem_cons_zero, Act.put, List.setIfInBounds_toArray, List.set_cons_zero, List.set_cons_succ]
            refine wpAnyH_take (i := 7) (v := ?_) rfl (by kernel_rfl) (by kernel_rfl) (by kernel_rfl) (fun _ _ _ h => h) (Or.inl ⟨by rfl, ?_⟩) hHeld ?_
            rotate_left
            · intro w' hSw; go_simp; try with_reducible rfl
            simp only [List.getElem_toArray, List.getElem_cons_succ, List.getElem_cons_zero, Act.put, List.setIfInBounds_toArray, List.set_cons_zero, List.set_cons_succ]
            refine wpAnyH_take (i := 8) (v := ?_) rfl (by kernel_rfl) (by kernel_rfl) (by kernel_rfl) (fun _ _ _ h => h) (Or.inl ⟨by rfl, ?_⟩) hHeld ?_
            rotate_left
            · intro w' hSw; go_simp; try with_reducible rfl
            simp only [List.getElem_toArray, List.getElem_cons_succ, List.getElem_cons_zero, Act.put, List.setIfInBounds_toArray, List.set_cons_zero, List.set_cons_succ]
            refine wpAnyH_take (i := 9) (v := ?_) rfl (by kernel_rfl) (by kernel_rfl) (by kernel_rfl) (fun _ _ _ h => h) (Or.inl ⟨by rfl, ?_⟩) hHeld ?_
            rotate_left
            · intro w' hSw; go_simp; try with_reducible rfl
            simp only [List.getElem_toArray, List.getElem_cons_succ, List.getElem_cons_zero, Act.put, List.setIfInBounds_toArray, List.set_cons_zero, List.set_cons_succ]
            refine wpAnyH_take (i := 10) (v := ?_) rfl (by kernel_rfl) (by kernel_rfl) (by kernel_rfl) (fun _ _ _ h => h) (Or.inl ⟨by rfl, ?_⟩) hHeld ?_
            rotate_left
            · intro w' hSw; go_simp; try with_reducible rfl
            simp only [List.getElem_toArray, List.getElem_cons_succ, List.getElem_cons_zero, Act.put, List.setIfInBounds_toArray, List.set_cons_zero, List.set_cons_succ]
            refine wpAnyH_take (i := 11) (v := ?_) rfl (by kernel_rfl) (by kernel_rfl) (by kernel_rfl) (fun _ _ _ h => h) (Or.inl ⟨by rfl, ?_⟩) hHeld ?_
            rotate_left
            · intro w' hSw; go_simp; try with_reducible rfl
            simp only [List.getElem_toArray, List.getElem_cons_succ, List.getElem_cons_zero, Act.put, List.setIfInBounds_toArray, List.set_cons_zero, List.set_cons_succ]
            refine wpAnyH_take (i := 12) (v := ?_) rfl (by kernel_rfl) (by kernel_rfl) (by kernel_rfl) (fun _ _ _ h => h) (Or.inl ⟨by rfl, ?_⟩) hHeld ?_
            rotate_left
            · intro w' hSw; obtain ⟨c0, c1⟩ := cell2_of ((hSw.block _ (heap_lt P5.out)).trans P5.out); go_simp; try with_reducible rfl
            simp only [List.getElem_toArray, List.getElem_cons_succ, List.getElem_cons_zero, Act.put, List.setIfInBounds_toArray, List.set_cons_zero, List.set_cons_succ]
            refine wpAnyH_take (i := 13) (v := ?_) rfl (by kernel_rfl) (by kernel_rfl) (by kernel_rfl) (fun _ _ _ h => h) (Or.inl ⟨by rfl, ?_⟩) hHeld ?_
            rotate_left
            · intro w' hSw; go_simp; try with_reducible rfl
            simp only [List.getElem_toArray, List.getElem_cons_succ, List.getElem_cons_zero, Act.put, List.setIfInBounds_toArray, List.set_cons_zero, List.set_cons_succ]
            refine wpAnyH_take (i := 14) (v := ?_) rfl (by kernel_rfl) (by kernel_rfl) (by kernel_rfl) (fun _ _ _ h => h) (Or.inl ⟨by rfl, ?_⟩) hHeld ?_
            rotate_left
            · intro w' hSw; go_simp; try with_reducible rfl
            simp only [List.getElem_toArray, List.getElem_cons_succ, List.getElem_cons_zero, Act.put, List.setIfInBounds_toArray, List.set_cons_zero, List.set_cons_succ]
            refine wpAnyH_take (i := 15) (v := ?_) rfl (by kernel_rfl) (by kernel_rfl) (by kernel_rfl) (fun _ _ _ h => h) (Or.inl ⟨by rfl, ?_⟩) hHeld ?_
            rotate_left
            · intro w' hSw; go_simp; try with_reducible rfl
            simp only [List.getElem_toArray, List.getElem_cons_succ, List.getElem_cons_zero, Act.put, List.setIfInBounds_toArray, List.set_cons_zero, List.set_cons_succ]
            refine wpAnyH_take (i := 16) (v := ?_) rfl (by kernel_rfl) (by kernel_rfl) (by kernel_rfl) (fun _ _ _ h => h) (Or.inl ⟨by rfl, ?_⟩) hHeld ?_
            rotate_left
            · intro w' hSw; have cg0 := (hSw.cell (p := ⟨g, og + ws.length * 2, none⟩) LG.out).trans HC0.out; have cg1 := (hSw.cell (p := ⟨g, og + ws.length * 2 + 1, none⟩) LG.out).trans HC1.out; go_simp; try with_reducible rfl
            simp only [List.getElem_toArray, List.getElem_cons_succ, List.getElem_cons_zero, Act.put, List.setIfInBounds_toArray, List.set_cons_zero, List.set_cons_succ]
            refine wpAnyH_take (i := 17) (v := ?_) rfl (by kernel_rfl) (by kernel_rfl) (by kernel_rfl) (fun _ _ _ h => h) (Or.inl ⟨by rfl, ?_⟩) hHeld ?_
            rotate_left
            · intro w' hSw; go_simp; try with_reducible rfl
            simp only [List.getElem_toArray, List.getElem_cons_succ, List.getElem_cons_zero, Act.put, List.setIfInBounds_toArray, List.set_cons_zero, List.set_cons_succ]
            refine wpAnyH_take (i := 18) (v := ?_) rfl (by kernel_rfl) (by kernel_rfl) (by kernel_rfl) (fun _ _ _ h => h) (Or.inl ⟨by rfl, ?_⟩) hHeld ?_
            rotate_left
            · intro w' hSw; go_simp; try with_reducible rfl
            simp only [List.getElem_toArray, List.getElem_cons_succ, List.getElem_cons_zero, Act.put, List.setIfInBounds_toArray, List.set_cons_zero, List.set_cons_succ]
            refine wpAnyH_take (i := 19) (v := ?_) rfl (by kernel_rfl) (by kernel_rfl) (by kernel_rfl) (fun _ _ _ h => h) (Or.inl ⟨by rfl, ?_⟩) hHeld ?_
            rotate_left
            · intro w' hSw; go_simp; try with_reducible rfl
            simp only [List.getElem_toArray, List.getElem_cons_succ, List.getElem_cons_zero, Act.put, List.setIfInBounds_toArray, List.set_cons_zero, List.set_cons_succ]
            refine wpAnyH_take (i := 20) (v := ?_) rfl (by kernel_rfl) (by kernel_rfl) (by kernel_rfl) (fun _ _ _ h => h) (Or.inl ⟨by rfl, ?_⟩) hHeld ?_
            rotate_left
            · intro w' hSw; go_simp; try with_reducible rfl
            simp only [List.getElem_toArray, List.getElem_cons_succ, List.getElem_cons_zero, Act.put, List.setIfInBounds_toArray, List.set_cons_zero, List.set_cons_succ]
            refine wpAnyH_take (i := 21) (v := ?_) rfl (by kernel_rfl) (by kernel_rfl) (by kernel_rfl) (fun _ _ _ h => h) (Or.inl ⟨by rfl, ?_⟩) hHeld ?_
            rotate_left
            · intro w' hSw; go_simp; try with_reducible rfl
            simp only [List.getElem_toArray, List.getElem_cons_succ, List.getElem_cons_zero, Act.put, List.setIfInBounds_toArray, List.set_cons_zero, List.set_cons_succ]
            refine wpAnyH_take (i := 22) (v := ?_) rfl (by kernel_rfl) (by kernel_rfl) (by kernel_rfl) (fun _ _ _ h => h) (Or.inl ⟨by rfl, ?_⟩) hHeld ?_
            rotate_left
            · intro w' hSw; go_simp; try with_reducible rfl
            simp only [List.getElem_toArray, List.getElem_cons_succ, List.getElem_cons_zero, Act.put, List.setIfInBounds_toArray, List.set_cons_zero, List.set_cons_succ]
            refine wpAnyH_take (i := 23) (v := ?_) rfl (by kernel_rfl) (by kernel_rfl) (by kernel_rfl) (fun _ _ _ h => h) (Or.inl ⟨by rfl, ?_⟩) hHeld ?_
            rotate_left
            · intro w' hSw; go_simp; try with_reducible rfl
            simp only [List.getElem_toArray, List.getElem_cons_succ, List.getElem_cons_zero, Act.put, List.setIfInBounds_toArray, List.set_cons_zero, List.set_cons_succ]
            refine wpAnyH_take (i := 24) (v := ?_) rfl (by kernel_rfl) (by kernel_rfl) (by kernel_rfl) (fun _ _ _ h => h) (Or.inl ⟨by rfl, ?_⟩) hHeld ?_
            rotate_left
            · intro w' hSw; obtain ⟨c0, c1⟩ := cell2_of ((hSw.block _ (heap_lt P5.out)).trans P5.out); go_simp; try with_reducible rfl
            simp only [List.getElem_toArray, List.getElem_cons_succ, List.getElem_cons_zero, Act.put, List.setIfInBounds_toArray, List.set_cons_zero, List.set_cons_succ]
            refine wpAnyH_take (i := 25) (v := ?_) rfl (by kernel_rfl) (by kernel_rfl) (by kernel_rfl) (fun _ _ _ h => h) (Or.inl ⟨by rfl, ?_⟩) hHeld ?_
            rotate_left
            · intro w' hSw; go_simp; try with_reducible rfl
            simp only [List.getElem_toArray, List.getElem_cons_succ, List.getElem_cons_zero, Act.put, List.setIfInBounds_toArray, List.set_cons_zero, List.set_cons_succ]
            refine wpAnyH_take (i := 26) (v := ?_) rfl (by kernel_rfl) (by kernel_rfl) (by kernel_rfl) (fun _ _ _ h => h) (Or.inl ⟨by rfl, ?_⟩) hHeld ?_
            rotate_left
            · intro w' hSw; go_simp; try with_reducible rfl
            simp only [List.getElem_toArray, List.getElem_cons_succ, List.getElem_cons_zero, Act.put, List.setIfInBounds_toArray, List.set_cons_zero, List.set_cons_succ]
            refine wpAnyH_take (i := 27) (v := ?_) rfl (by kernel_rfl) (by kernel_rfl) (by kernel_rfl) (fun _ _ _ h => h) (Or.inl ⟨by rfl, ?_⟩) hHeld ?_
            rotate_left
            · intro w' hSw; go_simp; try with_reducible rfl
            simp only [List.getElem_toArray, List.getElem_cons_succ, List.getElem_cons_zero, Act.put, List.setIfInBounds_toArray, List.set_cons_zero, List.set_cons_succ]
            refine wpAnyH_take (i := 28) (v := ?_) rfl (by kernel_rfl) (by kernel_rfl) (by kernel_rfl) (fun _ _ _ h => h) (Or.inl ⟨by rfl, ?_⟩) hHeld ?_
            rotate_left
            · intro w' hSw; have cg0 := (hSw.cell (p := ⟨g, og + ws.length * 2, none⟩) LG.out).trans HC0.out; have cg1 := (hSw.cell (p := ⟨g, og + ws.length * 2 + 1, none⟩) LG.out).trans HC1.out; go_simp; try with_reducible rfl
            simp only [List.getElem_toArray, List.getElem_cons_succ, List.getElem_cons_zero, Act.put, List.setIfInBounds_toArray, List.set_cons_zero, List.set_cons_succ]
            refine wpAnyH_take (i := 29) (v := ?_) rfl (by kernel_rfl) (by kernel_rfl) (by kernel_rfl) (fun _ _ _ h => h) (Or.inl ⟨by rfl, ?_⟩) hHeld ?_
            rotate_left
            · intro w' hSw; have hs := run_txt_string (TD.out.below hSw); go_simp; try with_reducible rfl
            simp only [List.getElem_toArray, List.getElem_cons_succ, List.getElem_cons_zero, Act.put, List.setIfInBounds_toArray, List.set_cons_zero, List.set_cons_succ]
            refine wpAnyH_take (i := 30) (v := ?_) rfl (by kernel_rfl) (by kernel_rfl) (by kernel_rfl) (fun _ _ _ h => h) (Or.inl ⟨by rfl, ?_⟩) hHeld ?_
            rotate_left
            · intro w' hSw; go_simp; try with_reducible rfl
            simp only [List.getElem_toArray, List.getElem_cons_succ, List.getElem_cons_zero, Act.put, List.setIfInBounds_toArray, List.set_cons_zero, List.set_cons_succ]
            refine wpAnyH_ready (rs := [31]) (by kernel_rfl) (by simp) ?_
            refine AllReadyH.cons rfl (fun K hK => ?_) AllReadyH.nil
            go_simp
            refine (of_any x wc.drew).mono ?_
            rintro e wA ⟨yA, rfl, hoA, bA⟩
            have XA := Lib.hid (txt_of_ofL hoA)
            obtain ⟨AA, cA, rfl⟩ := own_slice_ hoA
            have BA := Lib.hid (Q0.out.trans (bA.mono Q0.out.size))
            clear hoA bA
            try go_wp2_with fail
            refine hK.out _ _ ?_ (fun hHeld => ?_)
            · exact BA.out
            clear hK K
            try simp only [List.getElem_toArray, List.getElem_cons_succ, List.getElem_cons_zero, Act.put, List.setIfInBounds_toArray, List.set_cons_zero, List.set_cons_succ]
            have hsA := run_txt_string XA.out
            refine wpAnyH_ready (rs := [32]) (by kernel_rfl) (by simp) ?_
            refine AllReadyH.cons rfl (fun K hK => ?_) AllReadyH.nil
            rw [if_pos (by rfl)]
            go_simp
            refine hK.out _ _ ?_ (fun hHeld => ?_)
            · exact BA.out
            clear hK K
            try simp only [List.getElem_toArray, List.getElem_cons_succ, List.getElem_cons_zero, Act.put, List.setIfInBounds_toArray, List.set_cons_zero, List.set_cons_succ]
            refine wpAnyH_take (i := 33) (v := ?_) rfl (by kernel_rfl) (by kernel_rfl) (by kernel_rfl) (fun _ _ _ h => h) (Or.inl ⟨by rfl, ?_⟩) hHeld ?_
            rotate_left
            · intro w' hSw; go_simp; try with_reducible rfl
            simp only [List.getElem_toArray, List.getElem_cons_succ, List.getElem_cons_zero, Act.put, List.setIfInBounds_toArray, List.set_cons_zero, List.set_cons_succ]
            refine wpAnyH_take (i := 34) (v := ?_) rfl (by kernel_rfl) (by kernel_rfl) (by kernel_rfl) (fun _ _ _ h => h) (Or.inl ⟨by rfl, ?_⟩) hHeld ?_
            rotate_left
            · intro w' hSw; go_simp; try with_reducible rfl
            simp only [List.getElem_toArray, List.getElem_cons_succ, List.getElem_cons_zero, Act.put, List.setIfInBounds_toArray, List.set_cons_zero, List.set_cons_succ]
            refine wpAnyH_done (by kernel_rfl) ?_ _
            go_wp2_with fail
            go_meet
            exact ⟨rfl, BA.out⟩
          case rest =>
            obtain ⟨q8, hq8⟩ : ∃ q8 : World, q8 = wc := ⟨_, rfl⟩
            obtain ⟨rfl, hbl8⟩ := hcut
            have B8 := Lib.hid (B5.out.trans (hbl8.mono B5.out.size))
            have HSAME8 : Hid (∀ v, Below wc.heap.size wc v → Calls Try.prog 32 #[.agg #[.slice A5 ss.length c5, .slice (some ⟨g, og, none⟩) ws.length c6], .agg #[.slice A1 ss.length c1, .slice A2 ws.length c2]] v fun e w' => e = .returned (.bool true) ∧ Below v.heap.size v w') := Lib.hid (fun v hv => HSAME.out v (hbl8.trans (hv.mono hbl8.size)))
            have C8 := Lib.hid ((hbl8.block _ (heap_lt C5.out)).trans C5.out)
            have P8 := Lib.hid ((hbl8.block _ (heap_lt P5.out)).trans P5.out)
            clear hq8 hbl8 HSAME C5 P5 B5
            go_wp2_with fail
            have Q0 := Lib.hid (Below.refl wc.heap.size wc).drew
            refine wp_region_held_drew (S := fun v => Below wc.heap.size wc v) (by kernel_rfl) Q0.out (fun hHeld => ?_)
            refine wpAnyH_take (i := 0) (v := ?_) rfl (by kernel_rfl) (by kernel_rfl) (by kernel_rfl) (fun _ _ _ h => h) (Or.inl ⟨by rfl, ?_⟩) hHeld ?_
            rotate_left
            · intro w' hSw; go_simp; try with_reducible rfl
            simp only [List.getElem_toArray, List.getElem_cons_succ, List.getElem_cons_zero, Act.put, List.setIfInBounds_toArray, List.set_cons_zero, List.set_cons_succ]
            refine wpAnyH_take (i := 1) (v := ?_) rfl (by kernel_rfl) (by kernel_rfl) (by kernel_rfl) (fun _ _ _ h => h) (Or.inl ⟨by rfl, ?_⟩) hHeld ?_
            rotate_left
            · intro w' hSw; go_simp; try with_reducible rfl
            simp only [List.getElem_toArray, List.getElem_cons_succ, List.getElem_cons_zero, Act.put, List.setIfInBounds_toArray, List.set_cons_zero, List.set_cons_succ]
            refine wpAnyH_take (i := 2) (v := ?_) rfl (by kernel_rfl) (by kernel_rfl) (by kernel_rfl) (fun _ _ _ h => h) (Or.inl ⟨by rfl, ?_⟩) hHeld ?_
            rotate_left
            · intro w' hSw; go_simp; try with_reducible rfl
            simp only [List.getElem_toArray, List.getElem_cons_succ, List.getElem_cons_zero, Act.put, List.setIfInBounds_toArray, List.set_cons_zero, List.set_cons_succ]
            refine wpAnyH_take (i := 3) (v := ?_) rfl (by kernel_rfl) (by kernel_rfl) (by kernel_rfl) (fun _ _ _ h => h) (Or.inl ⟨by rfl, ?_⟩) hHeld ?_
            rotate_left
            · intro w' hSw; obtain ⟨c0, c1⟩ := cell2_of ((hSw.block _ (heap_lt P8.out)).trans P8.out); go_simp; try with_reducible rfl
            simp only [List.getElem_toArray, List.getElem_cons_succ, List.getElem_cons_zero, Act.put, List.setIfInBounds_toArray, List.set_cons_zero, List.set_cons_succ]
            refine wpAnyH_take (i := 4) (v := ?_) rfl (by kernel_rfl) (by kernel_rfl) (by kernel_rfl) (fun _ _ _ h => h) (Or.inl ⟨by rfl, ?_⟩) hHeld ?_
            rotate_left
            · intro w' hSw; go_simp; try with_reducible rfl
            simp only [List.getElem_toArray, List.getElem_cons_succ, List.getElem_cons_zero, Act.put, List.setIfInBounds_toArray, List.set_cons_zero, List.set_cons_succ]
            refine wpAnyH_take (i := 5) (v := ?_) rfl (by kernel_rfl) (by kernel_rfl) (by kernel_rfl) (fun _ _ _ h => h) (Or.inl ⟨by rfl, ?_⟩) hHeld ?_
            rotate_left
            · intro w' hSw; obtain ⟨c0, c1⟩ := cell2_of ((hSw.block _ (heap_lt P8.out)).trans P8.out); go_simp; try with_reducible rfl
            simp only [List.getElem_toArray, List.getElem_cons_succ, List.getElem_cons_zero, Act.put, List.setIfInBounds_toArray, List.set_cons_zero, List.set_cons_succ]
            refine wpAnyH_take (i := 6) (v := ?_) rfl (by kernel_rfl) (by kernel_rfl) (by kernel_rfl) (fun _ _ _ h => h) (Or.inl ⟨by rfl, ?_⟩) hHeld ?_
            rotate_left
            · intro w' hSw; go_simp; try with_reducible rfl
            simp only [List.getElem_toArray, List.getElem_cons_succ, List.getElem_cons_zero, Act.put, List.setIfInBounds_toArray, List.set_cons_zero, List.set_cons_succ]
            refine wpAnyH_take (i := 7) (v := ?_) rfl (by kernel_rfl) (by kernel_rfl) (by kernel_rfl) (fun _ _ _ h => h) (Or.inl ⟨by rfl, ?_⟩) hHeld ?_
            rotate_left
            · intro w' hSw; go_simp; try with_reducible rfl
            simp only [List.getElem_toArray, List.getElem_cons_succ, List.getElem_cons_zero, Act.put, List.setIfInBounds_toArray, List.set_cons_zero, List.set_cons_succ]
            refine wpAnyH_take (i := 8) (v := ?_) rfl (by kernel_rfl) (by kernel_rfl) (by kernel_rfl) (fun _ _ _ h => h) (Or.inl ⟨by rfl, ?_⟩) hHeld ?_
            rotate_left
            · intro w' hSw; go_simp; try with_reducible rfl
            simp only [List.getElem_toArray, List.getElem_cons_succ, List.getElem_cons_zero, Act.put, List.setIfInBounds_toArray, List.set_cons_zero, List.set_cons_succ]
            refine wpAnyH_take (i := 9) (v := ?_) rfl (by kernel_rfl) (by kernel_rfl) (by kernel_rfl) (fun _ _ _ h => h) (Or.inl ⟨by rfl, ?_⟩) hHeld ?_
            rotate_left
            · intro w' hSw; obtain ⟨c0, c1⟩ := cell2_of ((hSw.block _ (heap_lt C8.out)).trans C8.out); go_simp; try with_reducible rfl
            simp only [List.getElem_toArray, List.getElem_cons_succ, List.getElem_cons_zero, Act.put, List.setIfInBounds_toArray, List.set_cons_zero, List.set_cons_succ]
            refine wpAnyH_ready (rs := [10]) (by kernel_rfl) (by simp) ?_
            refine AllReadyH.cons rfl (fun K hK => ?_) AllReadyH.nil
            go_simp
            refine (HSAME8.out _ Q0.out).mono ?_
            rintro e wA ⟨rfl, bA⟩
            have BA := Lib.hid (Q0.out.trans (bA.mono Q0.out.size))
            clear bA
            try go_wp2_with fail
            refine hK.out _ _ ?_ (fun hHeld => ?_)
            · exact BA.out
            clear hK K
            try simp only [List.getElem_toArray, List.getElem_cons_succ, List.getElem_cons_zero, Act.put, List.setIfInBounds_toArray, List.set_cons_zero, List.set_cons_succ]
            refine wpAnyH_take (i := 11) (v := ?_) rfl (by kernel_rfl) (by kernel_rfl) (by kernel_rfl) (fun _ _ _ h => h) (Or.inl ⟨by rfl, ?_⟩) hHeld ?_
            rotate_left
            · intro w' hSw; go_simp; try with_reducible rfl
            simp only [List.getElem_toArray, List.getElem_cons_succ, List.getElem_cons_zero, Act.put, List.setIfInBounds_toArray, List.set_cons_zero, List.set_cons_succ]
            refine wpAnyH_take (i := 12) (v := ?_) rfl (by kernel_rfl) (by kernel_rfl) (by kernel_rfl) (fun _ _ _ h => h) (Or.inl ⟨by rfl, ?_⟩) hHeld ?_
            rotate_left
            · intro w' hSw; go_simp; try with_reducible rfl
            simp only [List.getElem_toArray, List.getElem_cons_succ, List.getElem_cons_zero, Act.put, List.setIfInBounds_toArray, List.set_cons_zero, List.set_cons_succ]
            refine wpAnyH_done (by kernel_rfl) ?_ _
            have HALL := Lib.hid (B8.out.trans (BA.out.mono B8.out.size))
            go_wp2_with fail
            go_ret
            exact ⟨rfl, HALL.out⟩
end Go.Proofs.Ytdpjdobmnkadjaa
