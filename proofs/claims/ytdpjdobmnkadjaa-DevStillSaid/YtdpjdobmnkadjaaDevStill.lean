/-
  The walk of DevStill: a write of what a sector has as it lasts changes nothing that lasts, however it is torn, and is seen as it lasts.
  Conditions: none.
-/
import Derived.Test.YtdpjdobmnkadjaaDevAlive
import Derived.Test.YtdpjdobmnkadjaaDevBox
import Derived.Deep.CutRange
set_option linter.unusedVariables false
set_option linter.unusedSimpArgs false
namespace Go.Proofs.Ytdpjdobmnkadjaa
open Go.RowKit

theorem may_none {ss : List Bs} {ws : List Wr} (h : May ss ws) : May ss [] := ⟨h.n, by simp, h.s, by simp⟩
theorem may_one {ss : List Bs} {ws : List Wr} (h : May ss ws) {m : Nat} (hm : m < ss.length) : May ss [((m : Int), ss[m])] := ⟨h.n, by simp, h.s, fun x hx => by
  rw [List.mem_singleton.1 hx]
  exact ⟨by show (0 : Int) ≤ m; omega, by show (m : Int) < 32; have := h.n; omega, h.s _ (List.getElem_mem hm)⟩⟩
theorem atE_zero {ss : List Bs} {ws : List Wr} {n : Int} (h : May ss ws) (h0 : 0 ≤ n) (h1 : n < 32) : atE ss ws n = 0 := by rw [atE, if_pos (mayB_iff.2 h), if_pos ⟨h0, h1⟩]
theorem set_self {α : Type} (l : List α) (i : Nat) (h : i < l.length) : l.set i l[i] = l := by
  apply List.ext_getElem?
  intro j
  by_cases e : j = i
  · subst e; rw [List.getElem?_set_self h, List.getElem?_eq_getElem h]
  · rw [List.getElem?_set_ne (by omega)]
theorem still_come {ss : List Bs} {m : Nat} (hm : m < ss.length) (k : Nat) : comes ss [((m : Int), ss[m])] [k] = ss := by
  show layAll ss [(m, ss[m].take k)] = ss
  rw [layAll_cons, layAll_nil, modify_set _ _ _ hm]
  show ss.set m (lay ss[m] (ss[m].take k)) = ss
  rw [lay_own, set_self]
theorem still_see {ss : List Bs} {m : Nat} (hm : m < ss.length) (h : May ss [((m : Int), ss[m])]) : readS ss [((m : Int), ss[m])] m = ss[m] := by
  rw [readS, if_pos (atE_zero h (by omega) (by have := h.n; omega))]
  show seeAll (ss.getD m []) m [(m, ss[m].take 128)] = ss[m]
  rw [seeAll_cons, if_pos rfl]
  show lay (ss.getD m []) (ss[m].take 128) = ss[m]
  rw [List.getD_eq_getElem?_getD, List.getElem?_eq_getElem hm]
  exact lay_own _ _


set_option maxRecDepth 100000 in
set_option maxHeartbeats 4000000 in
theorem walk_still (d : Value) (ss : List Bs) (ws : List Wr) (n k : Int) (w : World) (h : DiskIn w w.heap.size d ss ws) :
    Calls Try.prog 9 #[d, .int .i64 n, .int .i64 k] w fun e w' => e = .returned (.bool true) ∧ Below w.heap.size w w' := by
  obtain ⟨v1, v2, rfl, h1, h2⟩ := id h
  have H := Lib.hid h
  have H1 := Lib.hid h1
  obtain ⟨A1, c1, rfl, -, -, -, -⟩ := h1
  obtain ⟨A2, c2, rfl, -, -, -, -⟩ := h2
  clear h
  have hq0 := heap_alloc_self w (.cells #[.slice A1 ss.length c1, .slice A2 ws.length c2] 25)
  have hqb := below_new w (.cells #[.slice A1 ss.length c1, .slice A2 ws.length c2] 25)
  go_enter Try.func9, Try.ntmps9
  go_wp2_with fail
  generalize w.alloc (.cells #[.slice A1 ss.length c1, .slice A2 ws.length c2] 25) = q at hq0 hqb ⊢
  refine (alive_true q).mono ?_
  rintro e w1 ⟨rfl, b1⟩
  have B1 := Lib.hid (hqb.trans (b1.mono hqb.size))
  have C1 := Lib.hid ((b1.block _ (heap_lt hq0)).trans hq0)
  obtain ⟨k0, k1⟩ := cell2_of C1.out
  clear hq0 hqb b1
  go_wp2_with fail
  refine (great_any _ ss ws w1 ((H.out.below B1.out).more B1.out.size)).mono ?_
  rintro e w2 ⟨⟨gr, rfl⟩, b2⟩
  have B2 := Lib.hid (B1.out.trans (b2.mono B1.out.size))
  have C2 := Lib.hid ((b2.block _ (heap_lt C1.out)).trans C1.out)
  clear b2 k0 k1 B1 C1
  obtain ⟨k0, k1⟩ := cell2_of C2.out
  have f1 := frozen2_of C2.out 1
  cases gr with
  | true =>
    go_wp2_with fail
    go_ret
    exact ⟨rfl, B2.out⟩
  | false =>
    rcases (by omega : n < 0 ∨ (¬ n < 0 ∧ 31 < n) ∨ (¬ n < 0 ∧ ¬ 31 < n ∧ k < 0) ∨ (¬ n < 0 ∧ ¬ 31 < n ∧ ¬ k < 0 ∧ 128 < k) ∨ (¬ n < 0 ∧ ¬ 31 < n ∧ ¬ k < 0 ∧ ¬ 128 < k)) with g1 | ⟨g1, g2⟩ | ⟨g1, g2, g3⟩ | ⟨g1, g2, g3, g4⟩ | ⟨g1, g2, g3, g4⟩
    · go_wp2_with fail
      go_ret
      exact ⟨rfl, B2.out⟩
    · go_wp2_with fail
      go_ret
      exact ⟨rfl, B2.out⟩
    · go_wp2_with fail
      go_ret
      exact ⟨rfl, B2.out⟩
    · go_wp2_with fail
      go_ret
      exact ⟨rfl, B2.out⟩
    · go_wp2_with fail
      refine (check_any _ ss ws w2 ((H.out.below B2.out).more B2.out.size)).mono ?_
      rintro e w3 ⟨rfl, b3⟩
      have B3 := Lib.hid (B2.out.trans (b3.mono B2.out.size))
      have C3 := Lib.hid ((b3.block _ (heap_lt C2.out)).trans C2.out)
      clear b3 k0 k1 f1
      obtain ⟨k0, k1⟩ := cell2_of C3.out
      have f1 := frozen2_of C3.out 1
      cases hmay : mayB ss ws with
      | false =>
        simp only [Bool.false_eq_true, ↓reduceIte]
        clear hmay
        go_wp2_with fail
        go_ret
        exact ⟨rfl, B3.out⟩
      | true =>
        simp only [↓reduceIte]
        have HM := Lib.hid (mayB_iff.1 hmay)
        obtain ⟨m, hm⟩ : ∃ m : Nat, n = (m : Int) := ⟨n.toNat, by omega⟩
        subst hm
        have hml : m < ss.length := by have := HM.out.n; omega
        have hml' : (m : Int) < ss.length := by omega
        obtain ⟨b0, o0, u0, hA, hb0, hcu, htu⟩ := H1.out.at hml
        subst hA
        have h128 := HM.out.s _ (List.getElem_mem hml)
        have HU := Lib.hid htu
        have HCU := Lib.hid hcu
        have H128 := Lib.hid h128
        obtain ⟨A3, c3, rfl, -, -, -, -⟩ := htu
        clear hmay h128
        have hC4 := heap_setB C3.out (.slice none 0 0)
        have hB4 := below_set B3.out (Nat.le_refl _) 1 (.slice none 0 0)
        go_wp2_with fail
        generalize w3.setCell ⟨w.heap.size, 1, none⟩ (.slice none 0 0) = q4 at hC4 hB4 ⊢
        have C4 := Lib.hid hC4
        have B4 := Lib.hid hB4
        have CU := Lib.hid ((hB4.cell (p := ⟨b0, o0 + m, none⟩) hb0).trans hcu)
        have LU : Hid (b0 < q4.heap.size) := Lib.hid (Nat.lt_of_lt_of_le hb0 hB4.size)
        have DT : Hid (∀ v, Below q4.heap.size q4 v → DiskIn v v.heap.size (.agg #[.slice (some ⟨b0, o0, none⟩) ss.length c1, .slice none 0 0]) ss []) := Lib.hid (fun v hv => ⟨_, _, rfl, (H1.out.below (hB4.trans (hv.mono hB4.size))).more (Nat.le_trans hB4.size hv.size), WtsIn.nil_⟩)
        have UT : Hid (∀ v, Below q4.heap.size q4 v → Txt v v.heap.size (.slice A3 ss[m].length c3) ss[m]) := Lib.hid (fun v hv => (HU.out.below (hB4.trans (hv.mono hB4.size))).more (Nat.le_trans hB4.size hv.size))
        have HA0 := Lib.hid (atE_zero (may_none HM.out) (n := (m : Int)) (by omega) (by omega))
        have HW0 : Hid (writeE ss [] m ss[m] = 0) := Lib.hid (by rw [writeE, if_pos HA0.out, if_pos H128.out]; rfl)
        have HWS : Hid (writeS ss [] m ss[m] = ss) := Lib.hid (by rw [writeS, if_pos HW0.out])
        have HWW : Hid (writeW ss [] m ss[m] = [((m : Int), ss[m])]) := Lib.hid (by rw [writeW, if_pos HW0.out]; rfl)
        clear hC4 hB4 k0 k1 f1 hcu C3 C2 B3 B2
        go_cut [8, 9] from 14 to 54 (fun s8 s9 wx => ∃ p, s8 = .pointer (some ⟨p, 0, none⟩) ∧ s9 = .int .i64 0 ∧ BoxD wx p q4.heap.size ss [((m : Int), ss[m])] ∧ Below q4.heap.size q4 wx)
        case first =>
          have Q0 := Lib.hid (Below.refl q4.heap.size q4).drew
          refine wp_region_held_drew (S := fun v => Below q4.heap.size q4 v) (by kernel_rfl) Q0.out (fun hHeld => ?_)
          refine wpAnyH_take (i := 0) (v := ?_) rfl (by kernel_rfl) (by kernel_rfl) (by kernel_rfl) (fun _ _ _ h => h) (Or.inl ⟨by rfl, ?_⟩) hHeld ?_
          rotate_left
          · intro w' hSw; obtain ⟨c0, c1⟩ := cell2_of ((hSw.block _ (heap_lt C4.out)).trans C4.out); go_simp; try with_reducible rfl
          simp only [List.getElem_toArray, List.getElem_cons_succ, List.getElem_cons_zero, Act.put, List.setIfInBounds_toArray, List.set_cons_zero, List.set_cons_succ]
          refine wpAnyH_take (i := 1) (v := ?_) rfl (by kernel_rfl) (by kernel_rfl) (by kernel_rfl) (fun _ _ _ h => h) (Or.inl ⟨by rfl, ?_⟩) hHeld ?_
          rotate_left
          · intro w' hSw; go_simp; try with_reducible rfl
          simp only [List.getElem_toArray, List.getElem_cons_succ, List.getElem_cons_zero, Act.put, List.setIfInBounds_toArray, List.set_cons_zero, List.set_cons_succ]
          refine wpAnyH_take (i := 2) (v := ?_) rfl (by kernel_rfl) (by kernel_rfl) (by kernel_rfl) (fun _ _ _ h => h) (Or.inl ⟨by rfl, ?_⟩) hHeld ?_
          rotate_left
          · intro w' hSw; go_simp; try with_reducible rfl
          simp only [List.getElem_toArray, List.getElem_cons_succ, List.getElem_cons_zero, Act.put, List.setIfInBounds_toArray, List.set_cons_zero, List.set_cons_succ]
          refine wpAnyH_take (i := 3) (v := ?_) rfl (by kernel_rfl) (by kernel_rfl) (by kernel_rfl) (fun _ _ _ h => h) (Or.inl ⟨by rfl, ?_⟩) hHeld ?_
          rotate_left
          · intro w' hSw; obtain ⟨c0, c1⟩ := cell2_of ((hSw.block _ (heap_lt C4.out)).trans C4.out); go_simp; try with_reducible rfl
          simp only [List.getElem_toArray, List.getElem_cons_succ, List.getElem_cons_zero, Act.put, List.setIfInBounds_toArray, List.set_cons_zero, List.set_cons_succ]
          refine wpAnyH_take (i := 4) (v := ?_) rfl (by kernel_rfl) (by kernel_rfl) (by kernel_rfl) (fun _ _ _ h => h) (Or.inl ⟨by rfl, ?_⟩) hHeld ?_
          rotate_left
          · intro w' hSw; go_simp; try with_reducible rfl
          simp only [List.getElem_toArray, List.getElem_cons_succ, List.getElem_cons_zero, Act.put, List.setIfInBounds_toArray, List.set_cons_zero, List.set_cons_succ]
          refine wpAnyH_take (i := 5) (v := ?_) rfl (by kernel_rfl) (by kernel_rfl) (by kernel_rfl) (fun _ _ _ h => h) (Or.inl ⟨by rfl, ?_⟩) hHeld ?_
          rotate_left
          · intro w' hSw; go_simp; try with_reducible rfl
          simp only [List.getElem_toArray, List.getElem_cons_succ, List.getElem_cons_zero, Act.put, List.setIfInBounds_toArray, List.set_cons_zero, List.set_cons_succ]
          refine wpAnyH_take (i := 6) (v := ?_) rfl (by kernel_rfl) (by kernel_rfl) (by kernel_rfl) (fun _ _ _ h => h) (Or.inl ⟨by rfl, ?_⟩) hHeld ?_
          rotate_left
          · intro w' hSw; have cu := (hSw.cell (p := ⟨b0, o0 + m, none⟩) LU.out).trans CU.out; go_simp; try with_reducible rfl
          simp only [List.getElem_toArray, List.getElem_cons_succ, List.getElem_cons_zero, Act.put, List.setIfInBounds_toArray, List.set_cons_zero, List.set_cons_succ]
          refine wpAnyH_ready (rs := [7, 11]) (by kernel_rfl) (by simp) ?_
          refine AllReadyH.cons rfl (fun K hK => ?_) (AllReadyH.cons rfl (fun K hK => ?_) AllReadyH.nil)
          · go_simp
            refine (write_any _ _ ss [] m ss[m] q4.drew (DT.out _ Q0.out) (UT.out _ Q0.out)).mono ?_
            rintro e wA ⟨dA, rfl, hdA, bA⟩
            rw [HW0.out]
            rw [HWS.out, HWW.out] at hdA
            obtain ⟨y1, y2, rfl, hsA, hwA⟩ := hdA
            obtain ⟨A6, c6, rfl⟩ := secs_slice hsA
            obtain ⟨A7, c7, rfl⟩ := wts_slice hwA
            have BA := Lib.hid (Q0.out.trans (bA.mono Q0.out.size))
            clear bA
            try go_wp2_with fail
            refine hK.out _ _ ?_ (fun hHeld => ?_)
            · exact BA.out
            clear hK K
            try simp only [List.getElem_toArray, List.getElem_cons_succ, List.getElem_cons_zero, Act.put, List.setIfInBounds_toArray, List.set_cons_zero, List.set_cons_succ]
            refine wpAnyH_take (i := 8) (v := ?_) rfl (by kernel_rfl) (by kernel_rfl) (by kernel_rfl) (fun _ _ _ h => h) (Or.inl ⟨by rfl, ?_⟩) hHeld ?_
            rotate_left
            · intro w' hSw; go_simp; try with_reducible rfl
            simp only [List.getElem_toArray, List.getElem_cons_succ, List.getElem_cons_zero, Act.put, List.setIfInBounds_toArray, List.set_cons_zero, List.set_cons_succ]
            refine wpAnyH_take (i := 9) (v := ?_) rfl (by kernel_rfl) (by kernel_rfl) (by kernel_rfl) (fun _ _ _ h => h) (Or.inl ⟨by rfl, ?_⟩) hHeld ?_
            rotate_left
            · intro w' hSw; go_simp; try with_reducible rfl
            simp only [List.getElem_toArray, List.getElem_cons_succ, List.getElem_cons_zero, Act.put, List.setIfInBounds_toArray, List.set_cons_zero, List.set_cons_succ]
            refine wpAnyH_take (i := 10) (v := ?_) rfl (by kernel_rfl) (by kernel_rfl) (by kernel_rfl) (fun _ _ _ h => h) (Or.inl ⟨by rfl, ?_⟩) hHeld ?_
            rotate_left
            · intro w' hSw; go_simp; try with_reducible rfl
            simp only [List.getElem_toArray, List.getElem_cons_succ, List.getElem_cons_zero, Act.put, List.setIfInBounds_toArray, List.set_cons_zero, List.set_cons_succ]
            refine wpAnyH_ready (rs := [11]) (by kernel_rfl) (by simp) ?_
            refine AllReadyH.cons rfl (fun K hK => ?_) AllReadyH.nil
            go_simp
            refine hK.out _ _ ?_ (fun hHeld => ?_)
            · exact BA.out.alloc BA.out.size _
            clear hK K
            try simp only [List.getElem_toArray, List.getElem_cons_succ, List.getElem_cons_zero, Act.put, List.setIfInBounds_toArray, List.set_cons_zero, List.set_cons_succ]
            refine wpAnyH_ready (rs := [12]) (by kernel_rfl) (by simp) ?_
            refine AllReadyH.cons rfl (fun K hK => ?_) AllReadyH.nil
            rw [if_pos (by rfl)]
            refine wp_store_2 25 _ _ rfl wA.heap.size rfl rfl (heap_alloc_self _ _) infoDisk2 rfl rfl ?_
            rw [World.setRow_alloc_new]
            refine hK.out _ _ ?_ (fun hHeld => ?_)
            · exact BA.out.alloc BA.out.size _
            clear hK K
            try simp only [List.getElem_toArray, List.getElem_cons_succ, List.getElem_cons_zero, Act.put, List.setIfInBounds_toArray, List.set_cons_zero, List.set_cons_succ]
            refine wpAnyH_take (i := 13) (v := ?_) rfl (by kernel_rfl) (by kernel_rfl) (by kernel_rfl) (fun _ _ _ h => h) (Or.inl ⟨by rfl, ?_⟩) hHeld ?_
            rotate_left
            · intro w' hSw; go_simp; try with_reducible rfl
            simp only [List.getElem_toArray, List.getElem_cons_succ, List.getElem_cons_zero, Act.put, List.setIfInBounds_toArray, List.set_cons_zero, List.set_cons_succ]
            refine wpAnyH_done (by kernel_rfl) ?_ _
            go_wp2_with fail
            go_meet
            exact ⟨wA.heap.size, rfl, rfl, ⟨_, _, heap_alloc_self _ _, hsA.below (below_new _ _), hwA.below (below_new _ _)⟩, BA.out.alloc BA.out.size _⟩
          · go_simp
            have hz0 : Below q4.heap.size q4 (q4.alloc (.cells #[.slice none 0 0, .slice none 0 0] 25)).drew := (below_new _ _).drew
            have hz1 : (q4.alloc (.cells #[.slice none 0 0, .slice none 0 0] 25)).drew.heap[q4.heap.size]? = some (.cells #[.slice none 0 0, .slice none 0 0] 25 (0, 0)) := heap_alloc_self _ _
            refine hK.out _ _ ?_ (fun hHeld => ?_)
            · exact hz0
            clear hK K
            try simp only [List.getElem_toArray, List.getElem_cons_succ, List.getElem_cons_zero, Act.put, List.setIfInBounds_toArray, List.set_cons_zero, List.set_cons_succ]
            generalize (q4.alloc (.cells #[.slice none 0 0, .slice none 0 0] 25)).drew = wB at hz0 hz1 hHeld ⊢
            have HZ0 := Lib.hid hz0
            have HZ1 := Lib.hid hz1
            clear hz0 hz1
            refine wpAnyH_ready (rs := [7]) (by kernel_rfl) (by simp) ?_
            refine AllReadyH.cons rfl (fun K hK => ?_) AllReadyH.nil
            go_simp
            refine (write_any _ _ ss [] m ss[m] wB (DT.out _ HZ0.out) (UT.out _ HZ0.out)).mono ?_
            rintro e wA ⟨dA, rfl, hdA, bA⟩
            rw [HW0.out]
            rw [HWS.out, HWW.out] at hdA
            obtain ⟨y1, y2, rfl, hsA, hwA⟩ := hdA
            obtain ⟨A6, c6, rfl⟩ := secs_slice hsA
            obtain ⟨A7, c7, rfl⟩ := wts_slice hwA
            have BA := Lib.hid (HZ0.out.trans (bA.mono HZ0.out.size))
            have HZ2 := Lib.hid ((bA.block _ (heap_lt HZ1.out)).trans HZ1.out)
            clear bA
            try go_wp2_with fail
            refine hK.out _ _ ?_ (fun hHeld => ?_)
            · exact BA.out
            clear hK K
            try simp only [List.getElem_toArray, List.getElem_cons_succ, List.getElem_cons_zero, Act.put, List.setIfInBounds_toArray, List.set_cons_zero, List.set_cons_succ]
            refine wpAnyH_take (i := 8) (v := ?_) rfl (by kernel_rfl) (by kernel_rfl) (by kernel_rfl) (fun _ _ _ h => h) (Or.inl ⟨by rfl, ?_⟩) hHeld ?_
            rotate_left
            · intro w' hSw; go_simp; try with_reducible rfl
            simp only [List.getElem_toArray, List.getElem_cons_succ, List.getElem_cons_zero, Act.put, List.setIfInBounds_toArray, List.set_cons_zero, List.set_cons_succ]
            refine wpAnyH_take (i := 9) (v := ?_) rfl (by kernel_rfl) (by kernel_rfl) (by kernel_rfl) (fun _ _ _ h => h) (Or.inl ⟨by rfl, ?_⟩) hHeld ?_
            rotate_left
            · intro w' hSw; go_simp; try with_reducible rfl
            simp only [List.getElem_toArray, List.getElem_cons_succ, List.getElem_cons_zero, Act.put, List.setIfInBounds_toArray, List.set_cons_zero, List.set_cons_succ]
            refine wpAnyH_take (i := 10) (v := ?_) rfl (by kernel_rfl) (by kernel_rfl) (by kernel_rfl) (fun _ _ _ h => h) (Or.inl ⟨by rfl, ?_⟩) hHeld ?_
            rotate_left
            · intro w' hSw; go_simp; try with_reducible rfl
            simp only [List.getElem_toArray, List.getElem_cons_succ, List.getElem_cons_zero, Act.put, List.setIfInBounds_toArray, List.set_cons_zero, List.set_cons_succ]
            refine wpAnyH_ready (rs := [12]) (by kernel_rfl) (by simp) ?_
            refine AllReadyH.cons rfl (fun K hK => ?_) AllReadyH.nil
            rw [if_pos (by rfl)]
            refine wp_store_2 25 _ _ rfl q4.heap.size rfl rfl HZ2.out infoDisk2 rfl rfl ?_
            refine hK.out _ _ ?_ (fun hHeld => ?_)
            · exact below_setRow BA.out (Nat.le_refl _) _
            clear hK K
            try simp only [List.getElem_toArray, List.getElem_cons_succ, List.getElem_cons_zero, Act.put, List.setIfInBounds_toArray, List.set_cons_zero, List.set_cons_succ]
            refine wpAnyH_take (i := 13) (v := ?_) rfl (by kernel_rfl) (by kernel_rfl) (by kernel_rfl) (fun _ _ _ h => h) (Or.inl ⟨by rfl, ?_⟩) hHeld ?_
            rotate_left
            · intro w' hSw; go_simp; try with_reducible rfl
            simp only [List.getElem_toArray, List.getElem_cons_succ, List.getElem_cons_zero, Act.put, List.setIfInBounds_toArray, List.set_cons_zero, List.set_cons_succ]
            refine wpAnyH_done (by kernel_rfl) ?_ _
            go_wp2_with fail
            go_meet
            exact ⟨q4.heap.size, rfl, rfl, ⟨_, _, setRow_heap _ _ _ _ _ _ HZ2.out, (secs_setRow hsA (heap_lt HZ1.out) _).mono HZ0.out.size, (wts_setRow hwA (heap_lt HZ1.out) _).mono HZ0.out.size⟩, below_setRow BA.out (Nat.le_refl _) _⟩
        case rest =>
          obtain ⟨p, rfl, rfl, hbd, hbl⟩ := hcut
          obtain ⟨y1, y2, hp, hys, hyw⟩ := hbd
          obtain ⟨A5, c5, rfl⟩ := secs_slice hys
          obtain ⟨A6, c6, rfl⟩ := wts_slice hyw
          have B5 := Lib.hid (B4.out.trans (hbl.mono B4.out.size))
          have P5 := Lib.hid hp
          have C5 := Lib.hid ((hbl.block _ (heap_lt C4.out)).trans C4.out)
          have D5 := Lib.hid (show DiskAt wc _ (.agg #[.slice A5 ss.length c5, .slice A6 1 c6]) ss [((m : Int), ss[m])] from ⟨_, _, rfl, hys, hyw⟩)
          obtain ⟨p0, p1⟩ := cell2_of hp
          clear hbl hp hys hyw B4 C4 DT UT CU LU
          go_wp2_with fail
          have hu0 := heap_alloc_self wc (.cells #[.int .i64 k] 3)
          have hub := below_new wc (.cells #[.int .i64 k] 3)
          generalize wc.alloc (.cells #[.int .i64 k] 3) = u at hu0 hub ⊢
          have HFIT : Hid (fitK k) := Lib.hid ⟨by omega, by omega⟩
          have HM1 := Lib.hid (may_one HM.out hml)
          have HC0 : Hid (crashE ss [((m : Int), ss[m])] [k] = 0) := Lib.hid (crashE_zero HM1.out rfl (fun z hz => by rw [List.mem_singleton.1 hz]; exact HFIT.out))
          have HCS : Hid (crashS ss [((m : Int), ss[m])] [k] = ss) := Lib.hid (by rw [crashS, if_pos HC0.out]; exact still_come hml _)
          refine (crash_any _ _ ss [((m : Int), ss[m])] [k] u ((D5.out.below hub).in_) (nums_one _ _ _ hu0)).mono ?_
          rintro e w6 ⟨d6, rfl, hd6, b6⟩
          rw [HC0.out]
          rw [HCS.out] at hd6
          obtain ⟨x1, x2, rfl, hxs, hxw⟩ := hd6
          obtain ⟨A7, c7, rfl⟩ := secs_slice hxs
          obtain ⟨A8, c8, rfl⟩ := wts_slice hxw
          have hb6 : Below wc.heap.size wc w6 := hub.trans (b6.mono hub.size)
          have hn6 := below_new w6 (.cells #[.slice A7 ss.length c7, .slice A8 0 c8] 25)
          have hb7 := hb6.trans (hn6.mono hb6.size)
          have hx7 := heap_alloc_self w6 (.cells #[.slice A7 ss.length c7, .slice A8 0 c8] 25)
          have D7 := Lib.hid (show DiskAt (w6.alloc (.cells #[.slice A7 ss.length c7, .slice A8 0 c8] 25)) _ (.agg #[.slice A7 ss.length c7, .slice A8 0 c8]) ss [] from ⟨_, _, rfl, hxs.below hn6, hxw.below hn6⟩)
          have hp7 := (hb7.block _ (heap_lt P5.out)).trans P5.out
          have hc7 := (hb7.block _ (heap_lt C5.out)).trans C5.out
          have E7 := Lib.hid (D5.out.below hb7)
          have B7 := Lib.hid (B5.out.trans (hb7.mono B5.out.size))
          obtain ⟨s0, s1⟩ := cell2_of hp7
          clear p0 p1 hu0 hub b6 hb6 hxs hxw hn6 hb7 D5
          go_wp2_with fail
          generalize w6.alloc (.cells #[.slice A7 ss.length c7, .slice A8 0 c8] 25) = q7 at *
          refine (read_any _ ss [((m : Int), ss[m])] m q7 E7.out.in_).mono ?_
          rintro e w8 ⟨y8, rfl, ho8, b8⟩
          rw [atE_zero HM1.out (n := (m : Int)) (by omega) (by omega)]
          rw [still_see hml HM1.out, H128.out] at ho8
          obtain ⟨A9, c9, rfl⟩ := own_slice_ ho8
          have TB : Hid (Txt w8 w8.heap.size (.slice A9 128 c9) ss[m]) := Lib.hid (Txt.own (by rw [H128.out]; unfold maxLen; omega) (base := q7.heap.size) (e := 5) (by rw [H128.out]; exact ho8))
          have XC := Lib.hid ((b8.block _ (heap_lt hx7)).trans hx7)
          have C8 := Lib.hid ((b8.block _ (heap_lt hc7)).trans hc7)
          have D8 := Lib.hid (D7.out.below b8)
          have B8 := Lib.hid (B7.out.trans (b8.mono B7.out.size))
          have CU8 : Hid (w8.cell? ⟨b0, o0 + m, none⟩ = some (.slice A3 ss[m].length c3)) := Lib.hid ((B8.out.cell (p := ⟨b0, o0 + m, none⟩) hb0).trans HCU.out)
          have LU8 : Hid (b0 < w8.heap.size) := Lib.hid (Nat.lt_of_lt_of_le hb0 B8.out.size)
          have HSAME : Hid (∀ v, Below w8.heap.size w8 v → Calls Try.prog 32 #[.agg #[.slice A7 ss.length c7, .slice A8 0 c8], .agg #[.slice (some ⟨b0, o0, none⟩) ss.length c1, .slice none 0 0]] v fun e w' => e = .returned (.bool true) ∧ Below v.heap.size v w') := Lib.hid (fun v hv => by
            have h1 := same_disk (.agg #[.slice A7 ss.length c7, .slice A8 0 c8]) (.agg #[.slice (some ⟨b0, o0, none⟩) ss.length c1, .slice none 0 0]) ss ss [] [] v (Nat.le_refl _) (Nat.le_refl _) (D8.out.below hv).in_ ⟨_, _, rfl, (H1.out.below (B8.out.trans (hv.mono B8.out.size))).more (Nat.le_trans B8.out.size hv.size), WtsIn.nil_⟩
            rwa [decide_eq_true (p := ss = ss ∧ ([] : List Wr) = []) ⟨rfl, rfl⟩] at h1)
          have TU8 : Hid (∀ v, Below w8.heap.size w8 v → Txt v v.heap.size (.slice A3 ss[m].length c3) ss[m]) := Lib.hid (fun v hv => (HU.out.below (B8.out.trans (hv.mono B8.out.size))).more (Nat.le_trans B8.out.size hv.size))
          clear s0 s1 hx7 hp7 hc7 ho8 b8 E7 D7 B7 P5 C5 B5
          go_wp2_with fail
          have Q0 := Lib.hid (Below.refl w8.heap.size w8).drew
          refine wp_region_held_drew (S := fun v => Below w8.heap.size w8 v) (by kernel_rfl) Q0.out (fun hHeld => ?_)
          refine wpAnyH_take (i := 0) (v := ?_) rfl (by kernel_rfl) (by kernel_rfl) (by kernel_rfl) (fun _ _ _ h => h) (Or.inl ⟨by rfl, ?_⟩) hHeld ?_
          rotate_left
          · intro w' hSw; go_simp; try with_reducible rfl
          simp only [List.getElem_toArray, List.getElem_cons_succ, List.getElem_cons_zero, Act.put, List.setIfInBounds_toArray, List.set_cons_zero, List.set_cons_succ]
          refine wpAnyH_take (i := 1) (v := ?_) rfl (by kernel_rfl) (by kernel_rfl) (by kernel_rfl) (fun _ _ _ h => h) (Or.inl ⟨by rfl, ?_⟩) hHeld ?_
          rotate_left
          · intro w' hSw; go_simp; try with_reducible rfl
          simp only [List.getElem_toArray, List.getElem_cons_succ, List.getElem_cons_zero, Act.put, List.setIfInBounds_toArray, List.set_cons_zero, List.set_cons_succ]
          refine wpAnyH_take (i := 2) (v := ?_) rfl (by kernel_rfl) (by kernel_rfl) (by kernel_rfl) (fun _ _ _ h => h) (Or.inl ⟨by rfl, ?_⟩) hHeld ?_
          rotate_left
          · intro w' hSw; go_simp; try with_reducible rfl
          simp only [List.getElem_toArray, List.getElem_cons_succ, List.getElem_cons_zero, Act.put, List.setIfInBounds_toArray, List.set_cons_zero, List.set_cons_succ]
          refine wpAnyH_take (i := 3) (v := ?_) rfl (by kernel_rfl) (by kernel_rfl) (by kernel_rfl) (fun _ _ _ h => h) (Or.inl ⟨by rfl, ?_⟩) hHeld ?_
          rotate_left
          · intro w' hSw; go_simp; try with_reducible rfl
          simp only [List.getElem_toArray, List.getElem_cons_succ, List.getElem_cons_zero, Act.put, List.setIfInBounds_toArray, List.set_cons_zero, List.set_cons_succ]
          refine wpAnyH_take (i := 4) (v := ?_) rfl (by kernel_rfl) (by kernel_rfl) (by kernel_rfl) (fun _ _ _ h => h) (Or.inl ⟨by rfl, ?_⟩) hHeld ?_
          rotate_left
          · intro w' hSw; go_simp; try with_reducible rfl
          simp only [List.getElem_toArray, List.getElem_cons_succ, List.getElem_cons_zero, Act.put, List.setIfInBounds_toArray, List.set_cons_zero, List.set_cons_succ]
          refine wpAnyH_take (i := 5) (v := ?_) rfl (by kernel_rfl) (by kernel_rfl) (by kernel_rfl) (fun _ _ _ h => h) (Or.inl ⟨by rfl, ?_⟩) hHeld ?_
          rotate_left
          · intro w' hSw; go_simp; try with_reducible rfl
          simp only [List.getElem_toArray, List.getElem_cons_succ, List.getElem_cons_zero, Act.put, List.setIfInBounds_toArray, List.set_cons_zero, List.set_cons_succ]
          refine wpAnyH_take (i := 6) (v := ?_) rfl (by kernel_rfl) (by kernel_rfl) (by kernel_rfl) (fun _ _ _ h => h) (Or.inl ⟨by rfl, ?_⟩) hHeld ?_
          rotate_left
          · intro w' hSw; go_simp; try with_reducible rfl
          simp only [List.getElem_toArray, List.getElem_cons_succ, List.getElem_cons_zero, Act.put, List.setIfInBounds_toArray, List.set_cons_zero, List.set_cons_succ]
          refine wpAnyH_take (i := 7) (v := ?_) rfl (by kernel_rfl) (by kernel_rfl) (by kernel_rfl) (fun _ _ _ h => h) (Or.inl ⟨by rfl, ?_⟩) hHeld ?_
          rotate_left
          · intro w' hSw; go_simp; try with_reducible rfl
          simp only [List.getElem_toArray, List.getElem_cons_succ, List.getElem_cons_zero, Act.put, List.setIfInBounds_toArray, List.set_cons_zero, List.set_cons_succ]
          refine wpAnyH_take (i := 8) (v := ?_) rfl (by kernel_rfl) (by kernel_rfl) (by kernel_rfl) (fun _ _ _ h => h) (Or.inl ⟨by rfl, ?_⟩) hHeld ?_
          rotate_left
          · intro w' hSw; go_simp; try with_reducible rfl
          simp only [List.getElem_toArray, List.getElem_cons_succ, List.getElem_cons_zero, Act.put, List.setIfInBounds_toArray, List.set_cons_zero, List.set_cons_succ]
          refine wpAnyH_take (i := 9) (v := ?_) rfl (by kernel_rfl) (by kernel_rfl) (by kernel_rfl) (fun _ _ _ h => h) (Or.inl ⟨by rfl, ?_⟩) hHeld ?_
          rotate_left
          · intro w' hSw; go_simp; try with_reducible rfl
          simp only [List.getElem_toArray, List.getElem_cons_succ, List.getElem_cons_zero, Act.put, List.setIfInBounds_toArray, List.set_cons_zero, List.set_cons_succ]
          refine wpAnyH_take (i := 10) (v := ?_) rfl (by kernel_rfl) (by kernel_rfl) (by kernel_rfl) (fun _ _ _ h => h) (Or.inl ⟨by rfl, ?_⟩) hHeld ?_
          rotate_left
          · intro w' hSw; go_simp; try with_reducible rfl
          simp only [List.getElem_toArray, List.getElem_cons_succ, List.getElem_cons_zero, Act.put, List.setIfInBounds_toArray, List.set_cons_zero, List.set_cons_succ]
          refine wpAnyH_take (i := 11) (v := ?_) rfl (by kernel_rfl) (by kernel_rfl) (by kernel_rfl) (fun _ _ _ h => h) (Or.inl ⟨by rfl, ?_⟩) hHeld ?_
          rotate_left
          · intro w' hSw; go_simp; try with_reducible rfl
          simp only [List.getElem_toArray, List.getElem_cons_succ, List.getElem_cons_zero, Act.put, List.setIfInBounds_toArray, List.set_cons_zero, List.set_cons_succ]
          refine wpAnyH_take (i := 12) (v := ?_) rfl (by kernel_rfl) (by kernel_rfl) (by kernel_rfl) (fun _ _ _ h => h) (Or.inl ⟨by rfl, ?_⟩) hHeld ?_
          rotate_left
          · intro w' hSw; go_simp; try with_reducible rfl
          simp only [List.getElem_toArray, List.getElem_cons_succ, List.getElem_cons_zero, Act.put, List.setIfInBounds_toArray, List.set_cons_zero, List.set_cons_succ]
          refine wpAnyH_take (i := 13) (v := ?_) rfl (by kernel_rfl) (by kernel_rfl) (by kernel_rfl) (fun _ _ _ h => h) (Or.inl ⟨by rfl, ?_⟩) hHeld ?_
          rotate_left
          · intro w' hSw; go_simp; try with_reducible rfl
          simp only [List.getElem_toArray, List.getElem_cons_succ, List.getElem_cons_zero, Act.put, List.setIfInBounds_toArray, List.set_cons_zero, List.set_cons_succ]
          refine wpAnyH_take (i := 14) (v := ?_) rfl (by kernel_rfl) (by kernel_rfl) (by kernel_rfl) (fun _ _ _ h => h) (Or.inl ⟨by rfl, ?_⟩) hHeld ?_
          rotate_left
          · intro w' hSw; obtain ⟨c0, c1⟩ := cell2_of ((hSw.block _ (heap_lt XC.out)).trans XC.out); go_simp; try with_reducible rfl
          simp only [List.getElem_toArray, List.getElem_cons_succ, List.getElem_cons_zero, Act.put, List.setIfInBounds_toArray, List.set_cons_zero, List.set_cons_succ]
          refine wpAnyH_take (i := 15) (v := ?_) rfl (by kernel_rfl) (by kernel_rfl) (by kernel_rfl) (fun _ _ _ h => h) (Or.inl ⟨by rfl, ?_⟩) hHeld ?_
          rotate_left
          · intro w' hSw; obtain ⟨c0, c1⟩ := cell2_of ((hSw.block _ (heap_lt C8.out)).trans C8.out); go_simp; try with_reducible rfl
          simp only [List.getElem_toArray, List.getElem_cons_succ, List.getElem_cons_zero, Act.put, List.setIfInBounds_toArray, List.set_cons_zero, List.set_cons_succ]
          refine wpAnyH_ready (rs := [16]) (by kernel_rfl) (by simp) ?_
          refine AllReadyH.cons rfl (fun K hK => ?_) AllReadyH.nil
          go_simp
          refine (HSAME.out _ Q0.out).mono ?_
          rintro e wA ⟨rfl, bA⟩
          have BA := Lib.hid (Q0.out.trans (bA.mono Q0.out.size))
          clear bA
          try go_wp2_with fail
          refine hK.out _ _ ?_ (fun hHeld => ?_)
          · exact BA.out
          clear hK K
          try simp only [List.getElem_toArray, List.getElem_cons_succ, List.getElem_cons_zero, Act.put, List.setIfInBounds_toArray, List.set_cons_zero, List.set_cons_succ]
          refine wpAnyH_take (i := 17) (v := ?_) rfl (by kernel_rfl) (by kernel_rfl) (by kernel_rfl) (fun _ _ _ h => h) (Or.inl ⟨by rfl, ?_⟩) hHeld ?_
          rotate_left
          · intro w' hSw; go_simp; try with_reducible rfl
          simp only [List.getElem_toArray, List.getElem_cons_succ, List.getElem_cons_zero, Act.put, List.setIfInBounds_toArray, List.set_cons_zero, List.set_cons_succ]
          refine wpAnyH_take (i := 18) (v := ?_) rfl (by kernel_rfl) (by kernel_rfl) (by kernel_rfl) (fun _ _ _ h => h) (Or.inl ⟨by rfl, ?_⟩) hHeld ?_
          rotate_left
          · intro w' hSw; go_simp; try with_reducible rfl
          simp only [List.getElem_toArray, List.getElem_cons_succ, List.getElem_cons_zero, Act.put, List.setIfInBounds_toArray, List.set_cons_zero, List.set_cons_succ]
          refine wpAnyH_take (i := 19) (v := ?_) rfl (by kernel_rfl) (by kernel_rfl) (by kernel_rfl) (fun _ _ _ h => h) (Or.inl ⟨by rfl, ?_⟩) hHeld ?_
          rotate_left
          · intro w' hSw; go_simp; try with_reducible rfl
          simp only [List.getElem_toArray, List.getElem_cons_succ, List.getElem_cons_zero, Act.put, List.setIfInBounds_toArray, List.set_cons_zero, List.set_cons_succ]
          refine wpAnyH_take (i := 20) (v := ?_) rfl (by kernel_rfl) (by kernel_rfl) (by kernel_rfl) (fun _ _ _ h => h) (Or.inl ⟨by rfl, ?_⟩) hHeld ?_
          rotate_left
          · intro w' hSw; have hs := run_txt_string (TB.out.below hSw); go_simp; try with_reducible rfl
          simp only [List.getElem_toArray, List.getElem_cons_succ, List.getElem_cons_zero, Act.put, List.setIfInBounds_toArray, List.set_cons_zero, List.set_cons_succ]
          refine wpAnyH_take (i := 21) (v := ?_) rfl (by kernel_rfl) (by kernel_rfl) (by kernel_rfl) (fun _ _ _ h => h) (Or.inl ⟨by rfl, ?_⟩) hHeld ?_
          rotate_left
          · intro w' hSw; go_simp; try with_reducible rfl
          simp only [List.getElem_toArray, List.getElem_cons_succ, List.getElem_cons_zero, Act.put, List.setIfInBounds_toArray, List.set_cons_zero, List.set_cons_succ]
          refine wpAnyH_take (i := 22) (v := ?_) rfl (by kernel_rfl) (by kernel_rfl) (by kernel_rfl) (fun _ _ _ h => h) (Or.inl ⟨by rfl, ?_⟩) hHeld ?_
          rotate_left
          · intro w' hSw; obtain ⟨c0, c1⟩ := cell2_of ((hSw.block _ (heap_lt C8.out)).trans C8.out); go_simp; try with_reducible rfl
          simp only [List.getElem_toArray, List.getElem_cons_succ, List.getElem_cons_zero, Act.put, List.setIfInBounds_toArray, List.set_cons_zero, List.set_cons_succ]
          refine wpAnyH_take (i := 23) (v := ?_) rfl (by kernel_rfl) (by kernel_rfl) (by kernel_rfl) (fun _ _ _ h => h) (Or.inl ⟨by rfl, ?_⟩) hHeld ?_
          rotate_left
          · intro w' hSw; go_simp; try with_reducible rfl
          simp only [List.getElem_toArray, List.getElem_cons_succ, List.getElem_cons_zero, Act.put, List.setIfInBounds_toArray, List.set_cons_zero, List.set_cons_succ]
          refine wpAnyH_take (i := 24) (v := ?_) rfl (by kernel_rfl) (by kernel_rfl) (by kernel_rfl) (fun _ _ _ h => h) (Or.inl ⟨by rfl, ?_⟩) hHeld ?_
          rotate_left
          · intro w' hSw; go_simp; try with_reducible rfl
          simp only [List.getElem_toArray, List.getElem_cons_succ, List.getElem_cons_zero, Act.put, List.setIfInBounds_toArray, List.set_cons_zero, List.set_cons_succ]
          refine wpAnyH_take (i := 25) (v := ?_) rfl (by kernel_rfl) (by kernel_rfl) (by kernel_rfl) (fun _ _ _ h => h) (Or.inl ⟨by rfl, ?_⟩) hHeld ?_
          rotate_left
          · intro w' hSw; have cu := (hSw.cell (p := ⟨b0, o0 + m, none⟩) LU8.out).trans CU8.out; go_simp; try with_reducible rfl
          simp only [List.getElem_toArray, List.getElem_cons_succ, List.getElem_cons_zero, Act.put, List.setIfInBounds_toArray, List.set_cons_zero, List.set_cons_succ]
          refine wpAnyH_take (i := 26) (v := ?_) rfl (by kernel_rfl) (by kernel_rfl) (by kernel_rfl) (fun _ _ _ h => h) (Or.inl ⟨by rfl, ?_⟩) hHeld ?_
          rotate_left
          · intro w' hSw; have hs := run_txt_string (TU8.out _ hSw); go_simp; try with_reducible rfl
          simp only [List.getElem_toArray, List.getElem_cons_succ, List.getElem_cons_zero, Act.put, List.setIfInBounds_toArray, List.set_cons_zero, List.set_cons_succ]
          refine wpAnyH_take (i := 27) (v := ?_) rfl (by kernel_rfl) (by kernel_rfl) (by kernel_rfl) (fun _ _ _ h => h) (Or.inl ⟨by rfl, ?_⟩) hHeld ?_
          rotate_left
          · intro w' hSw; go_simp; try with_reducible rfl
          simp only [List.getElem_toArray, List.getElem_cons_succ, List.getElem_cons_zero, Act.put, List.setIfInBounds_toArray, List.set_cons_zero, List.set_cons_succ]
          refine wpAnyH_take (i := 28) (v := ?_) rfl (by kernel_rfl) (by kernel_rfl) (by kernel_rfl) (fun _ _ _ h => h) (Or.inl ⟨by rfl, ?_⟩) hHeld ?_
          rotate_left
          · intro w' hSw; go_simp; try with_reducible rfl
          simp only [List.getElem_toArray, List.getElem_cons_succ, List.getElem_cons_zero, Act.put, List.setIfInBounds_toArray, List.set_cons_zero, List.set_cons_succ]
          refine wpAnyH_take (i := 29) (v := ?_) rfl (by kernel_rfl) (by kernel_rfl) (by kernel_rfl) (fun _ _ _ h => h) (Or.inl ⟨by rfl, ?_⟩) hHeld ?_
          rotate_left
          · intro w' hSw; go_simp; try with_reducible rfl
          simp only [List.getElem_toArray, List.getElem_cons_succ, List.getElem_cons_zero, Act.put, List.setIfInBounds_toArray, List.set_cons_zero, List.set_cons_succ]
          refine wpAnyH_done (by kernel_rfl) ?_ _
          have HALL := Lib.hid (B8.out.trans (BA.out.mono B8.out.size))
          go_wp2_with fail
          go_ret
          exact ⟨rfl, HALL.out⟩
end Go.Proofs.Ytdpjdobmnkadjaa
