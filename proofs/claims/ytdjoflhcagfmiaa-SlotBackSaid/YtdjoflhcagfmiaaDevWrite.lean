/-
  Write, as the program answers it.
  Conditions: none.
-/
import Derived.Test.YtdjoflhcagfmiaaDevSpoil
set_option linter.unusedVariables false
set_option linter.unusedSimpArgs false
set_option maxRecDepth 100000
namespace Go.Proofs.Ytdjoflhcagfmiaa
open Go.RowKit

def writeE (ss : List Bs) (ws : List Wr) (n : Int) (bs : Bs) : Int := if atE ss ws n = 0 then (if bs.length = 128 then (if ws.length = 256 then 9 else 0) else 3) else atE ss ws n
def writeS (ss : List Bs) (ws : List Wr) (n : Int) (bs : Bs) : List Bs := if writeE ss ws n bs = 0 then ss else []
def writeW (ss : List Bs) (ws : List Wr) (n : Int) (bs : Bs) : List Wr := if writeE ss ws n bs = 0 then ws ++ [(n, bs)] else []
theorem secs_kept {W W' : World} {lo : Nat} {v v0 : Value} {ss : List Bs} {b e size n : Nat} {xs : List Value} (h : SecsAt W lo v ss) (h0 : W.ownsRow b e size v0 n xs) (h1 : 34 ≠ e) (h2 : 5 ≠ e) (hg : W.grownBy W' v0.ownBlock) : SecsAt W' lo v ss := by
  obtain ⟨ys, ho, hl, hm, he, hd⟩ := h
  exact ⟨ys, ho.kept hg (owns_apart h1 ho h0), hl, hm, fun j y s h3 h4 => ⟨(he j y s h3 h4).1.kept hg (owns_apart h2 (he j y s h3 h4).1 h0), (he j y s h3 h4).2⟩, hd⟩

theorem secs_turnedRow {W W' : World} {lo g : Nat} {v : Value} {ss : List Bs} {cur : Array Value} {e : TypeId} (h : SecsAt W lo v ss) (hc : W.heap[g]? = some (.cells cur e (0, 0))) (h1 : 34 ≠ e) (h2 : 5 ≠ e) (hg : W.grownBy W' (some g)) : SecsAt W' lo v ss := by
  obtain ⟨ys, ho, hl, hm, he, hd⟩ := h
  have ap : ∀ {e' size n : Nat} {v : Value} {xs : List Value}, e' ≠ e → W.ownsRow lo e' size v n xs → v.ownBlock = none ∨ v.ownBlock ≠ some g := fun hne h => by
    cases hv : Value.ownBlock _ with
    | none => exact .inl rfl
    | some q => exact .inr (fun e1 => by
        cases e1
        obtain ⟨c, h3, _⟩ := owns_block h hv
        rw [hc] at h3
        cases h3
        exact hne rfl)
  exact ⟨ys, ho.kept hg (ap h1 ho), hl, hm, fun j y s h3 h4 => ⟨(he j y s h3 h4).1.kept hg (ap h2 (he j y s h3 h4).1), (he j y s h3 h4).2⟩, hd⟩
theorem wts_turnedRow {W W' : World} {lo g : Nat} {v : Value} {ws : List Wr} {cur : Array Value} {e : TypeId} (h : WtsAt W lo v ws) (hc : W.heap[g]? = some (.cells cur e (0, 0))) (h1 : 52 ≠ e) (h2 : 5 ≠ e) (hg : W.grownBy W' (some g)) : WtsAt W' lo v ws := by
  obtain ⟨ys, ho, hl, hm, he⟩ := h
  have ap : ∀ {e' size n : Nat} {v : Value} {xs : List Value}, e' ≠ e → W.ownsRow lo e' size v n xs → v.ownBlock = none ∨ v.ownBlock ≠ some g := fun hne h => by
    cases hv : Value.ownBlock _ with
    | none => exact .inl rfl
    | some q => exact .inr (fun e1 => by
        cases e1
        obtain ⟨c, h3, _⟩ := owns_block h hv
        rw [hc] at h3
        cases h3
        exact hne rfl)
  exact ⟨ys, ho.kept hg (ap h1 ho), hl, hm, fun j y s h3 h4 => ⟨(he j y s h3 h4).1.kept hg (ap h2 (he j y s h3 h4).1), (he j y s h3 h4).2⟩⟩

set_option maxRecDepth 100000 in
set_option maxHeartbeats 2000000 in
theorem write_any (d bv : Value) (ss : List Bs) (ws : List Wr) (n : Int) (bs : Bs) (w : World) (h : DiskIn w w.heap.size d ss ws) (hx : Txt w w.heap.size bv bs) :
    Calls Try.prog 37 #[d, .int .i64 n, bv] w fun e w' => ∃ d', e = .returned (.tuple #[d', .int .i64 (writeE ss ws n bs)]) ∧ DiskAt w' w.heap.size d' (writeS ss ws n bs) (writeW ss ws n bs) ∧ Below w.heap.size w w' := by
  obtain ⟨v1, v2, rfl, h1, h2⟩ := id h
  have H := Lib.hid h
  have X := Lib.hid hx
  obtain ⟨A2, c2, rfl, -, -, -, -⟩ := h2
  obtain ⟨A3, c3, rfl, -, -, -, -⟩ := hx
  clear h1 h
  have hq := two_boxes w (.cells #[v1, .slice A2 ws.length c2] 29) (.cells #[.slice none 0 0, .slice none 0 0] 29)
  go_enter Try.func37, Try.ntmps37
  go_wp2_with fail
  generalize (w.alloc (.cells #[v1, .slice A2 ws.length c2] 29)).alloc (.cells #[.slice none 0 0, .slice none 0 0] 29) = q at hq ⊢
  obtain ⟨q0, q1, qb⟩ := hq
  have QB := Lib.hid qb
  refine (checkAt_any _ ss ws n q ((H.out.below QB.out).more QB.out.size)).mono ?_
  rintro e w1 ⟨rfl, b1⟩
  have B1 := Lib.hid (QB.out.trans (b1.mono QB.out.size))
  have C0 := Lib.hid ((b1.block _ (heap_lt q0)).trans q0)
  have C1 := Lib.hid ((b1.block _ (heap_lt q1)).trans q1)
  clear q0 q1 qb b1 QB
  obtain ⟨k0, k1⟩ := cell2_of C0.out
  obtain ⟨r0, r1⟩ := cell2_of C1.out
  have f0 := frozen2_of C1.out 0
  have f1 := frozen2_of C1.out 1
  have bad : ∀ r : Int, writeE ss ws n bs = r → r ≠ 0 → ∃ d', Ending.returned (.tuple #[.agg #[.slice none 0 0, .slice none 0 0], .int .i64 r]) = .returned (.tuple #[d', .int .i64 (writeE ss ws n bs)]) ∧ DiskAt ((w1.setCell ⟨w.heap.size + 1, 0, none⟩ (.slice none 0 0)).setCell ⟨w.heap.size + 1, 1, none⟩ (.slice none 0 0)) w.heap.size d' (writeS ss ws n bs) (writeW ss ws n bs) ∧ Below w.heap.size w ((w1.setCell ⟨w.heap.size + 1, 0, none⟩ (.slice none 0 0)).setCell ⟨w.heap.size + 1, 1, none⟩ (.slice none 0 0)) := fun r h h0 =>
    ⟨_, by rw [h], by rw [writeS, writeW, h, if_neg h0, if_neg h0]; exact DiskAt.nil_ _ _, below_set2 B1.out (by omega) _ _⟩
  have BAD := Lib.hid bad
  clear bad
  by_cases hm : atE ss ws n = 0
  · have HM := Lib.hid (atE_may hm)
    rw [hm]
    by_cases hl : bs.length = 128
    · have hl' : (bs.length : Int) = 128 := by omega
      have HB128 := Lib.hid hl
      by_cases hf : ws.length = 256
      · have hf' : ((ws.length : Int) == 256) = true := by rw [beq_iff_eq]; omega
        have hE : writeE ss ws n bs = 9 := by rw [writeE, if_pos hm, if_pos hl, if_pos hf]
        have HE := Lib.hid hE
        clear hE hf hl hm
        go_wp2_with fail
        refine bodyPost_ret (v := .tuple #[.agg #[.slice none 0 0, .slice none 0 0], .int .i64 9]) ?_ rfl (BAD.out 9 HE.out (by decide))
        exact results_2_tmp rfl _ _ (w.heap.size + 1) rfl (zero_kept C1.out) Try.underlying29 infoDisk2 _ rfl
      · have hf' : ((ws.length : Int) == 256) = false := by rw [beq_eq_false_iff_ne]; omega
        have hE : writeE ss ws n bs = 0 := by rw [writeE, if_pos hm, if_pos hl, if_neg hf]
        have HE := Lib.hid hE
        clear hE hf hl hm BAD
        obtain ⟨i0, hi, hz0, hz1, hz2⟩ := info_parts infoWrite
        have I0 := Lib.hid hi
        have I1 := Lib.hid hz0
        have I2 := Lib.hid hz1
        have I3 := Lib.hid hz2
        clear hi hz0 hz1 hz2
        go_wp2_with fail
        refine (twin_apart _ ss ws w1 (B := w.heap.size) B1.out.size (H.out.below B1.out) HM.out.1.fits).mono ?_
        rintro e w2 ⟨y1, y2, m, rfl, hs, hw, hm1, hlt, b2, hmw⟩
        obtain ⟨A9, c9, rfl⟩ := secs_slice hs
        obtain ⟨ys, ho, hyl, -, he⟩ := hw
        obtain ⟨A8, c8, rfl⟩ := own_slice2_ ho
        have HRM := Lib.hid (Nat.lt_of_lt_of_le (heap_lt C1.out) hm1)
        have hq9 := heap_alloc_self w2 (.cells #[.slice A9 ss.length c9, .slice A8 ws.length c8] 29)
        have hqb := below_new w2 (.cells #[.slice A9 ss.length c9, .slice A8 ws.length c8] 29)
        clear k0 k1 r0 r1 f0 f1 hlt
        go_wp2_with fail
        have hQ3 := B1.out.trans ((b2.trans (hqb.mono b2.size)).mono B1.out.size)
        have hmq : m ≤ (w2.alloc (.cells #[.slice A9 ss.length c9, .slice A8 ws.length c8] 29)).heap.size := Nat.le_trans hmw hqb.size
        have hcr := ((b2.trans (hqb.mono b2.size)).block _ (heap_lt C1.out)).trans C1.out
        have hoq := owns_below ho hqb
        have heq : ∀ (j : Nat) (y : Value) (x : Wr), ys[j]? = some y → ws[j]? = some x → (w2.alloc (.cells #[.slice A9 ss.length c9, .slice A8 ws.length c8] 29)).ownsRow m 5 1 y x.2.length (x.2.map u8) ∧ x.2.length ≤ maxLen := fun j y x h1 h2 => ⟨owns_below (he j y x h1 h2).1 hqb, (he j y x h1 h2).2⟩
        have hsq := hs.below hqb
        obtain ⟨b9, hb9⟩ : ∃ b9, b9 = w2.heap.size := ⟨_, rfl⟩
        rw [← hb9] at hq9 hmw ⊢
        generalize w2.alloc (.cells #[.slice A9 ss.length c9, .slice A8 ws.length c8] 29) = q3 at hq9 hqb hQ3 hmq hcr hoq heq hsq ⊢
        have QB3 := Lib.hid hQ3
        have C9 := Lib.hid hq9
        have CR := Lib.hid hcr
        have O := Lib.hid hoq
        have E := Lib.hid heq
        have YL := Lib.hid hyl
        have SQ := Lib.hid hsq
        have HMQ := Lib.hid hmq
        have HLO := Lib.hid hmq
        have HM9 := Lib.hid hmw
        have HWM := Lib.hid (Nat.le_trans B1.out.size hm1)
        have hn256 : ws.length ≤ 256 := HM.out.1.m
        obtain ⟨d0, d1⟩ := cell2_of hq9
        clear hq9 hqb hQ3 hmq hcr hoq heq hsq hs ho he hyl hb9 hmw b2 hm1
        refine wp_region_held_drew (S := fun _ => True) (by kernel_rfl) trivial (fun hHeld => ?_)
        refine wpAnyH_take (i := 0) (v := ?_) rfl (by kernel_rfl) (by kernel_rfl) (by kernel_rfl) (fun _ _ _ h => h) (Or.inl ⟨by rfl, ?_⟩) hHeld ?_
        rotate_left
        · intro w' hSw; go_simp; try with_reducible rfl
        simp only [List.getElem_toArray, List.getElem_cons_succ, List.getElem_cons_zero, Act.put, List.setIfInBounds_toArray, List.set_cons_zero, List.set_cons_succ]
        refine wpAnyH_take (i := 2) (v := ?_) rfl (by kernel_rfl) (by kernel_rfl) (by kernel_rfl) (fun _ _ _ h => h) (Or.inl ⟨by rfl, ?_⟩) hHeld ?_
        rotate_left
        · intro w' hSw; go_simp; try with_reducible rfl
        simp only [List.getElem_toArray, List.getElem_cons_succ, List.getElem_cons_zero, Act.put, List.setIfInBounds_toArray, List.set_cons_zero, List.set_cons_succ]
        refine wpAnyH_take (i := 3) (v := ?_) rfl (by kernel_rfl) (by kernel_rfl) (by kernel_rfl) (fun _ _ _ h => h) (Or.inl ⟨by rfl, ?_⟩) hHeld ?_
        rotate_left
        · intro w' hSw; go_simp; try with_reducible rfl
        simp only [List.getElem_toArray, List.getElem_cons_succ, List.getElem_cons_zero, Act.put, List.setIfInBounds_toArray, List.set_cons_zero, List.set_cons_succ]
        refine wpAnyH_ready (rs := [1, 4]) (by kernel_rfl) (by simp) ?_
        refine AllReadyH.cons rfl (fun K hK => ?_) (AllReadyH.cons rfl (fun K hK => ?_) AllReadyH.nil)
        · go_simp
          refine hK.out _ _ ?_ (fun hHeld => ?_)
          · exact trivial
          clear hK K
          try simp only [List.getElem_toArray, List.getElem_cons_succ, List.getElem_cons_zero, Act.put, List.setIfInBounds_toArray, List.set_cons_zero, List.set_cons_succ]
          refine wpAnyH_ready (rs := [4]) (by kernel_rfl) (by simp) ?_
          refine AllReadyH.cons rfl (fun K hK => ?_) AllReadyH.nil
          go_simp
          refine (clone_any _ bs q3.drew (B := w.heap.size) QB3.out.size (X.out.below QB3.out.drew) (by rw [HB128.out]; omega)).mono ?_
          rintro e wA ⟨yA, rfl, hoA, bA⟩
          have OA := Lib.hid hoA
          have BA : Hid (Below q3.heap.size q3 wA) := Lib.hid ((Below.refl _ q3).drew.trans bA)
          obtain ⟨A7, c7, rfl⟩ := own_slice_ hoA
          clear hoA bA
          try go_wp2_with fail
          refine hK.out _ _ ?_ (fun hHeld => ?_)
          · exact trivial
          clear hK K
          try simp only [List.getElem_toArray, List.getElem_cons_succ, List.getElem_cons_zero, Act.put, List.setIfInBounds_toArray, List.set_cons_zero, List.set_cons_succ]
          refine wpAnyH_take (i := 5) (v := ?_) rfl (by kernel_rfl) (by kernel_rfl) (by kernel_rfl) (fun _ _ _ h => h) (Or.inl ⟨by rfl, ?_⟩) hHeld ?_
          rotate_left
          · intro w' hSw; go_simp; try with_reducible rfl
          simp only [List.getElem_toArray, List.getElem_cons_succ, List.getElem_cons_zero, Act.put, List.setIfInBounds_toArray, List.set_cons_zero, List.set_cons_succ]
          refine wpAnyH_ready (rs := [6]) (by kernel_rfl) (by simp) ?_
          refine AllReadyH.cons rfl (fun K hK => ?_) AllReadyH.nil
          go_simp
          refine hK.out _ _ ?_ (fun hHeld => ?_)
          · exact trivial
          clear hK K
          try simp only [List.getElem_toArray, List.getElem_cons_succ, List.getElem_cons_zero, Act.put, List.setIfInBounds_toArray, List.set_cons_zero, List.set_cons_succ]
          refine wpAnyH_ready (rs := [7]) (by kernel_rfl) (by simp) ?_
          refine AllReadyH.cons rfl (fun K hK => ?_) AllReadyH.nil
          rw [if_pos (by rfl)]
          refine wp_append_any (.tmp 29) (.tmp 34) _ rfl Try.underlying27 I0.out I1.out rfl I2.out (by decide) I3.out (by decide) rfl ((owns_below O.out BA.out).alloc _) (m := 1) rfl (news := [.int .i64 n, .slice A7 bs.length c7]) rfl (fun j u hj => by rw [World.cell?_alloc_new]; simpa using hj) (by simp [Value.oneCell']) (by have := HM.out.1.m; omega) (by have := BA.out.size; have := HLO.out; simp; omega) ?_
          intro v5 w5 hown5 hgrow5
          have B4 : Hid (Below q3.heap.size q3 (wA.alloc (.cells #[.int .i64 n, .slice A7 bs.length c7] 52))) := Lib.hid (BA.out.alloc BA.out.size _)
          have W5 := Lib.hid (wts_snoc (x := (n, bs)) O.out YL.out E.out HLO.out BA.out OA.out (by show bs.length ≤ _; rw [HB128.out]; unfold maxLen; omega) (by have := HM.out.1.m; unfold maxLen; omega) hown5 hgrow5)
          have S5 := Lib.hid (secs_kept ((SQ.out.below BA.out).below (below_new _ _)) ((owns_below O.out BA.out).alloc _) (by decide) (by decide) hgrow5)
          have B5 := Lib.hid ((B4.out.mono HMQ.out).grown hgrow5 (Nat.le_trans HMQ.out B4.out.size) (own_ge O.out))
          have hne : ∀ b, b < m → some b ≠ (Value.slice A8 ws.length c8).ownBlock := fun b hb e => by have := own_ge O.out b e.symm; omega
          have C5 := Lib.hid ((hgrow5.block _ (Nat.lt_of_lt_of_le (heap_lt C9.out) B4.out.size) (fun e => by obtain ⟨cur, h1, _⟩ := owns_block O.out e.symm; rw [C9.out] at h1; cases h1)).trans ((B4.out.block _ (heap_lt C9.out)).trans C9.out))
          have R5 := Lib.hid ((hgrow5.block _ (Nat.lt_of_lt_of_le (heap_lt CR.out) B4.out.size) (hne _ HRM.out)).trans ((B4.out.block _ (heap_lt CR.out)).trans CR.out))
          obtain ⟨A6, c6, h6⟩ := own_slice2_ hown5
          subst h6
          clear hown5 hgrow5 hne
          refine hK.out _ _ ?_ (fun hHeld => ?_)
          · exact trivial
          clear hK K
          try simp only [List.getElem_toArray, List.getElem_cons_succ, List.getElem_cons_zero, Act.put, List.setIfInBounds_toArray, List.set_cons_zero, List.set_cons_succ]
          refine wpAnyH_take (i := 8) (v := ?_) rfl (by kernel_rfl) (by kernel_rfl) (by kernel_rfl) (fun _ _ _ h => h) (Or.inl ⟨by rfl, ?_⟩) hHeld ?_
          rotate_left
          · intro w' hSw; go_simp; try with_reducible rfl
          simp only [List.getElem_toArray, List.getElem_cons_succ, List.getElem_cons_zero, Act.put, List.setIfInBounds_toArray, List.set_cons_zero, List.set_cons_succ]
          obtain ⟨m0, m1⟩ := cell2_of C5.out
          have g1 := frozen2_of C5.out 1
          refine wpAnyH_ready (rs := [9]) (by kernel_rfl) (by simp) ?_
          refine AllReadyH.cons rfl (fun K hK => ?_) AllReadyH.nil
          rw [if_pos (by rfl)]
          go_simp
          refine hK.out _ _ ?_ (fun hHeld => ?_)
          · exact trivial
          clear hK K
          try simp only [List.getElem_toArray, List.getElem_cons_succ, List.getElem_cons_zero, Act.put, List.setIfInBounds_toArray, List.set_cons_zero, List.set_cons_succ]
          refine wpAnyH_done (by kernel_rfl) ?_ _
          have C6 := Lib.hid (heap_setB C5.out (.slice A6 (ws.length + 1) c6))
          have HN9 := Lib.hid (show w.heap.size + 1 < m ∧ m ≤ b9 from ⟨HRM.out, HM9.out⟩)
          have R6 := Lib.hid ((heap_setFar w5 b9 1 (w.heap.size + 1) (.slice A6 (ws.length + 1) c6) (by have := HN9.out; omega)).trans R5.out)
          have S6 := Lib.hid (secs_turnedRow S5.out C5.out (by decide) (by decide) (grown_set w5 b9 1 (.slice A6 (ws.length + 1) c6)))
          have W6 := Lib.hid (wts_turnedRow W5.out C5.out (by decide) (by decide) (grown_set w5 b9 1 (.slice A6 (ws.length + 1) c6)))
          have B6 := Lib.hid (below_set (QB3.out.trans (B5.out.mono HWM.out)) (show w.heap.size ≤ b9 by have := HN9.out; omega) 1 (.slice A6 (ws.length + 1) c6))
          generalize w5.setCell ⟨b9, 1, none⟩ (.slice A6 (ws.length + 1) c6) = w6 at C6 R6 S6 W6 B6 ⊢
          clear m0 m1 g1
          obtain ⟨s0, s1⟩ := cell2_of C6.out
          obtain ⟨t0, t1⟩ := cell2_of R6.out
          have g0 := frozen2_of R6.out 0
          have g1 := frozen2_of R6.out 1
          go_wp2_with fail
          refine bodyPost_ret (v := .tuple #[.agg #[.slice A9 ss.length c9, .slice A6 (ws.length + 1) c6], .int .i64 0]) ?_ rfl ⟨_, by rw [HE.out], ?_, below_set2 B6.out (Nat.le_succ _) _ _⟩
          · exact results_2_tmp rfl _ _ (w.heap.size + 1) rfl (heap_set2 R6.out _ _) Try.underlying29 infoDisk2 _ rfl
          · rw [writeS, writeW, if_pos HE.out, if_pos HE.out]
            refine ⟨_, _, rfl, ?_, ?_⟩
            · exact (secs_turnedRow S6.out R6.out (by decide) (by decide) (grown_set2 w6 (w.heap.size + 1) _ _)).mono B1.out.size
            · exact (wts_turnedRow W6.out R6.out (by decide) (by decide) (grown_set2 w6 (w.heap.size + 1) _ _)).mono HWM.out
        · go_simp
          refine (clone_any _ bs q3.drew (B := w.heap.size) QB3.out.size (X.out.below QB3.out.drew) (by rw [HB128.out]; omega)).mono ?_
          rintro e wA ⟨yA, rfl, hoA, bA⟩
          have OA := Lib.hid hoA
          have BA : Hid (Below q3.heap.size q3 wA) := Lib.hid ((Below.refl _ q3).drew.trans bA)
          obtain ⟨A7, c7, rfl⟩ := own_slice_ hoA
          clear hoA bA
          try go_wp2_with fail
          refine hK.out _ _ ?_ (fun hHeld => ?_)
          · exact trivial
          clear hK K
          try simp only [List.getElem_toArray, List.getElem_cons_succ, List.getElem_cons_zero, Act.put, List.setIfInBounds_toArray, List.set_cons_zero, List.set_cons_succ]
          refine wpAnyH_take (i := 5) (v := ?_) rfl (by kernel_rfl) (by kernel_rfl) (by kernel_rfl) (fun _ _ _ h => h) (Or.inl ⟨by rfl, ?_⟩) hHeld ?_
          rotate_left
          · intro w' hSw; go_simp; try with_reducible rfl
          simp only [List.getElem_toArray, List.getElem_cons_succ, List.getElem_cons_zero, Act.put, List.setIfInBounds_toArray, List.set_cons_zero, List.set_cons_succ]
          refine wpAnyH_ready (rs := [1, 6]) (by kernel_rfl) (by simp) ?_
          refine AllReadyH.cons rfl (fun K hK => ?_) (AllReadyH.cons rfl (fun K hK => ?_) AllReadyH.nil)
          · obtain ⟨k0, k1⟩ := cell2_of ((BA.out.block _ (heap_lt C9.out)).trans C9.out)
            go_simp
            refine hK.out _ _ ?_ (fun hHeld => ?_)
            · exact trivial
            clear hK K
            try simp only [List.getElem_toArray, List.getElem_cons_succ, List.getElem_cons_zero, Act.put, List.setIfInBounds_toArray, List.set_cons_zero, List.set_cons_succ]
            refine wpAnyH_ready (rs := [6]) (by kernel_rfl) (by simp) ?_
            refine AllReadyH.cons rfl (fun K hK => ?_) AllReadyH.nil
            go_simp
            refine hK.out _ _ ?_ (fun hHeld => ?_)
            · exact trivial
            clear hK K
            try simp only [List.getElem_toArray, List.getElem_cons_succ, List.getElem_cons_zero, Act.put, List.setIfInBounds_toArray, List.set_cons_zero, List.set_cons_succ]
            refine wpAnyH_ready (rs := [7]) (by kernel_rfl) (by simp) ?_
            refine AllReadyH.cons rfl (fun K hK => ?_) AllReadyH.nil
            rw [if_pos (by rfl)]
            refine wp_append_any (.tmp 29) (.tmp 34) _ rfl Try.underlying27 I0.out I1.out rfl I2.out (by decide) I3.out (by decide) rfl ((owns_below O.out BA.out).alloc _) (m := 1) rfl (news := [.int .i64 n, .slice A7 bs.length c7]) rfl (fun j u hj => by rw [World.cell?_alloc_new]; simpa using hj) (by simp [Value.oneCell']) (by have := HM.out.1.m; omega) (by have := BA.out.size; have := HLO.out; simp; omega) ?_
            intro v5 w5 hown5 hgrow5
            have B4 : Hid (Below q3.heap.size q3 (wA.alloc (.cells #[.int .i64 n, .slice A7 bs.length c7] 52))) := Lib.hid (BA.out.alloc BA.out.size _)
            have W5 := Lib.hid (wts_snoc (x := (n, bs)) O.out YL.out E.out HLO.out BA.out OA.out (by show bs.length ≤ _; rw [HB128.out]; unfold maxLen; omega) (by have := HM.out.1.m; unfold maxLen; omega) hown5 hgrow5)
            have S5 := Lib.hid (secs_kept ((SQ.out.below BA.out).below (below_new _ _)) ((owns_below O.out BA.out).alloc _) (by decide) (by decide) hgrow5)
            have B5 := Lib.hid ((B4.out.mono HMQ.out).grown hgrow5 (Nat.le_trans HMQ.out B4.out.size) (own_ge O.out))
            have hne : ∀ b, b < m → some b ≠ (Value.slice A8 ws.length c8).ownBlock := fun b hb e => by have := own_ge O.out b e.symm; omega
            have C5 := Lib.hid ((hgrow5.block _ (Nat.lt_of_lt_of_le (heap_lt C9.out) B4.out.size) (fun e => by obtain ⟨cur, h1, _⟩ := owns_block O.out e.symm; rw [C9.out] at h1; cases h1)).trans ((B4.out.block _ (heap_lt C9.out)).trans C9.out))
            have R5 := Lib.hid ((hgrow5.block _ (Nat.lt_of_lt_of_le (heap_lt CR.out) B4.out.size) (hne _ HRM.out)).trans ((B4.out.block _ (heap_lt CR.out)).trans CR.out))
            obtain ⟨A6, c6, h6⟩ := own_slice2_ hown5
            subst h6
            clear hown5 hgrow5 hne
            refine hK.out _ _ ?_ (fun hHeld => ?_)
            · exact trivial
            clear hK K
            try simp only [List.getElem_toArray, List.getElem_cons_succ, List.getElem_cons_zero, Act.put, List.setIfInBounds_toArray, List.set_cons_zero, List.set_cons_succ]
            refine wpAnyH_take (i := 8) (v := ?_) rfl (by kernel_rfl) (by kernel_rfl) (by kernel_rfl) (fun _ _ _ h => h) (Or.inl ⟨by rfl, ?_⟩) hHeld ?_
            rotate_left
            · intro w' hSw; go_simp; try with_reducible rfl
            simp only [List.getElem_toArray, List.getElem_cons_succ, List.getElem_cons_zero, Act.put, List.setIfInBounds_toArray, List.set_cons_zero, List.set_cons_succ]
            obtain ⟨m0, m1⟩ := cell2_of C5.out
            have g1 := frozen2_of C5.out 1
            refine wpAnyH_ready (rs := [9]) (by kernel_rfl) (by simp) ?_
            refine AllReadyH.cons rfl (fun K hK => ?_) AllReadyH.nil
            rw [if_pos (by rfl)]
            go_simp
            refine hK.out _ _ ?_ (fun hHeld => ?_)
            · exact trivial
            clear hK K
            try simp only [List.getElem_toArray, List.getElem_cons_succ, List.getElem_cons_zero, Act.put, List.setIfInBounds_toArray, List.set_cons_zero, List.set_cons_succ]
            refine wpAnyH_done (by kernel_rfl) ?_ _
            have C6 := Lib.hid (heap_setB C5.out (.slice A6 (ws.length + 1) c6))
            have HN9 := Lib.hid (show w.heap.size + 1 < m ∧ m ≤ b9 from ⟨HRM.out, HM9.out⟩)
            have R6 := Lib.hid ((heap_setFar w5 b9 1 (w.heap.size + 1) (.slice A6 (ws.length + 1) c6) (by have := HN9.out; omega)).trans R5.out)
            have S6 := Lib.hid (secs_turnedRow S5.out C5.out (by decide) (by decide) (grown_set w5 b9 1 (.slice A6 (ws.length + 1) c6)))
            have W6 := Lib.hid (wts_turnedRow W5.out C5.out (by decide) (by decide) (grown_set w5 b9 1 (.slice A6 (ws.length + 1) c6)))
            have B6 := Lib.hid (below_set (QB3.out.trans (B5.out.mono HWM.out)) (show w.heap.size ≤ b9 by have := HN9.out; omega) 1 (.slice A6 (ws.length + 1) c6))
            generalize w5.setCell ⟨b9, 1, none⟩ (.slice A6 (ws.length + 1) c6) = w6 at C6 R6 S6 W6 B6 ⊢
            clear m0 m1 g1
            obtain ⟨s0, s1⟩ := cell2_of C6.out
            obtain ⟨t0, t1⟩ := cell2_of R6.out
            have g0 := frozen2_of R6.out 0
            have g1 := frozen2_of R6.out 1
            go_wp2_with fail
            refine bodyPost_ret (v := .tuple #[.agg #[.slice A9 ss.length c9, .slice A6 (ws.length + 1) c6], .int .i64 0]) ?_ rfl ⟨_, by rw [HE.out], ?_, below_set2 B6.out (Nat.le_succ _) _ _⟩
            · exact results_2_tmp rfl _ _ (w.heap.size + 1) rfl (heap_set2 R6.out _ _) Try.underlying29 infoDisk2 _ rfl
            · rw [writeS, writeW, if_pos HE.out, if_pos HE.out]
              refine ⟨_, _, rfl, ?_, ?_⟩
              · exact (secs_turnedRow S6.out R6.out (by decide) (by decide) (grown_set2 w6 (w.heap.size + 1) _ _)).mono B1.out.size
              · exact (wts_turnedRow W6.out R6.out (by decide) (by decide) (grown_set2 w6 (w.heap.size + 1) _ _)).mono HWM.out
          · go_simp
            refine hK.out _ _ ?_ (fun hHeld => ?_)
            · exact trivial
            clear hK K
            try simp only [List.getElem_toArray, List.getElem_cons_succ, List.getElem_cons_zero, Act.put, List.setIfInBounds_toArray, List.set_cons_zero, List.set_cons_succ]
            refine wpAnyH_ready (rs := [1]) (by kernel_rfl) (by simp) ?_
            refine AllReadyH.cons rfl (fun K hK => ?_) AllReadyH.nil
            obtain ⟨k0, k1⟩ := cell2_of (((BA.out.alloc BA.out.size (.cells #[.int .i64 n, .slice A7 bs.length c7] 52)).block _ (heap_lt C9.out)).trans C9.out)
            go_simp
            refine hK.out _ _ ?_ (fun hHeld => ?_)
            · exact trivial
            clear hK K
            try simp only [List.getElem_toArray, List.getElem_cons_succ, List.getElem_cons_zero, Act.put, List.setIfInBounds_toArray, List.set_cons_zero, List.set_cons_succ]
            refine wpAnyH_ready (rs := [7]) (by kernel_rfl) (by simp) ?_
            refine AllReadyH.cons rfl (fun K hK => ?_) AllReadyH.nil
            rw [if_pos (by rfl)]
            refine wp_append_any (.tmp 29) (.tmp 34) _ rfl Try.underlying27 I0.out I1.out rfl I2.out (by decide) I3.out (by decide) rfl ((owns_below O.out BA.out).alloc _) (m := 1) rfl (news := [.int .i64 n, .slice A7 bs.length c7]) rfl (fun j u hj => by rw [World.cell?_alloc_new]; simpa using hj) (by simp [Value.oneCell']) (by have := HM.out.1.m; omega) (by have := BA.out.size; have := HLO.out; simp; omega) ?_
            intro v5 w5 hown5 hgrow5
            have B4 : Hid (Below q3.heap.size q3 (wA.alloc (.cells #[.int .i64 n, .slice A7 bs.length c7] 52))) := Lib.hid (BA.out.alloc BA.out.size _)
            have W5 := Lib.hid (wts_snoc (x := (n, bs)) O.out YL.out E.out HLO.out BA.out OA.out (by show bs.length ≤ _; rw [HB128.out]; unfold maxLen; omega) (by have := HM.out.1.m; unfold maxLen; omega) hown5 hgrow5)
            have S5 := Lib.hid (secs_kept ((SQ.out.below BA.out).below (below_new _ _)) ((owns_below O.out BA.out).alloc _) (by decide) (by decide) hgrow5)
            have B5 := Lib.hid ((B4.out.mono HMQ.out).grown hgrow5 (Nat.le_trans HMQ.out B4.out.size) (own_ge O.out))
            have hne : ∀ b, b < m → some b ≠ (Value.slice A8 ws.length c8).ownBlock := fun b hb e => by have := own_ge O.out b e.symm; omega
            have C5 := Lib.hid ((hgrow5.block _ (Nat.lt_of_lt_of_le (heap_lt C9.out) B4.out.size) (fun e => by obtain ⟨cur, h1, _⟩ := owns_block O.out e.symm; rw [C9.out] at h1; cases h1)).trans ((B4.out.block _ (heap_lt C9.out)).trans C9.out))
            have R5 := Lib.hid ((hgrow5.block _ (Nat.lt_of_lt_of_le (heap_lt CR.out) B4.out.size) (hne _ HRM.out)).trans ((B4.out.block _ (heap_lt CR.out)).trans CR.out))
            obtain ⟨A6, c6, h6⟩ := own_slice2_ hown5
            subst h6
            clear hown5 hgrow5 hne
            refine hK.out _ _ ?_ (fun hHeld => ?_)
            · exact trivial
            clear hK K
            try simp only [List.getElem_toArray, List.getElem_cons_succ, List.getElem_cons_zero, Act.put, List.setIfInBounds_toArray, List.set_cons_zero, List.set_cons_succ]
            refine wpAnyH_take (i := 8) (v := ?_) rfl (by kernel_rfl) (by kernel_rfl) (by kernel_rfl) (fun _ _ _ h => h) (Or.inl ⟨by rfl, ?_⟩) hHeld ?_
            rotate_left
            · intro w' hSw; go_simp; try with_reducible rfl
            simp only [List.getElem_toArray, List.getElem_cons_succ, List.getElem_cons_zero, Act.put, List.setIfInBounds_toArray, List.set_cons_zero, List.set_cons_succ]
            obtain ⟨m0, m1⟩ := cell2_of C5.out
            have g1 := frozen2_of C5.out 1
            refine wpAnyH_ready (rs := [9]) (by kernel_rfl) (by simp) ?_
            refine AllReadyH.cons rfl (fun K hK => ?_) AllReadyH.nil
            rw [if_pos (by rfl)]
            go_simp
            refine hK.out _ _ ?_ (fun hHeld => ?_)
            · exact trivial
            clear hK K
            try simp only [List.getElem_toArray, List.getElem_cons_succ, List.getElem_cons_zero, Act.put, List.setIfInBounds_toArray, List.set_cons_zero, List.set_cons_succ]
            refine wpAnyH_done (by kernel_rfl) ?_ _
            have C6 := Lib.hid (heap_setB C5.out (.slice A6 (ws.length + 1) c6))
            have HN9 := Lib.hid (show w.heap.size + 1 < m ∧ m ≤ b9 from ⟨HRM.out, HM9.out⟩)
            have R6 := Lib.hid ((heap_setFar w5 b9 1 (w.heap.size + 1) (.slice A6 (ws.length + 1) c6) (by have := HN9.out; omega)).trans R5.out)
            have S6 := Lib.hid (secs_turnedRow S5.out C5.out (by decide) (by decide) (grown_set w5 b9 1 (.slice A6 (ws.length + 1) c6)))
            have W6 := Lib.hid (wts_turnedRow W5.out C5.out (by decide) (by decide) (grown_set w5 b9 1 (.slice A6 (ws.length + 1) c6)))
            have B6 := Lib.hid (below_set (QB3.out.trans (B5.out.mono HWM.out)) (show w.heap.size ≤ b9 by have := HN9.out; omega) 1 (.slice A6 (ws.length + 1) c6))
            generalize w5.setCell ⟨b9, 1, none⟩ (.slice A6 (ws.length + 1) c6) = w6 at C6 R6 S6 W6 B6 ⊢
            clear m0 m1 g1
            obtain ⟨s0, s1⟩ := cell2_of C6.out
            obtain ⟨t0, t1⟩ := cell2_of R6.out
            have g0 := frozen2_of R6.out 0
            have g1 := frozen2_of R6.out 1
            go_wp2_with fail
            refine bodyPost_ret (v := .tuple #[.agg #[.slice A9 ss.length c9, .slice A6 (ws.length + 1) c6], .int .i64 0]) ?_ rfl ⟨_, by rw [HE.out], ?_, below_set2 B6.out (Nat.le_succ _) _ _⟩
            · exact results_2_tmp rfl _ _ (w.heap.size + 1) rfl (heap_set2 R6.out _ _) Try.underlying29 infoDisk2 _ rfl
            · rw [writeS, writeW, if_pos HE.out, if_pos HE.out]
              refine ⟨_, _, rfl, ?_, ?_⟩
              · exact (secs_turnedRow S6.out R6.out (by decide) (by decide) (grown_set2 w6 (w.heap.size + 1) _ _)).mono B1.out.size
              · exact (wts_turnedRow W6.out R6.out (by decide) (by decide) (grown_set2 w6 (w.heap.size + 1) _ _)).mono HWM.out
    · have hl' : ((bs.length : Int) == 128) = false := by rw [beq_eq_false_iff_ne]; omega
      have hE : writeE ss ws n bs = 3 := by rw [writeE, if_pos hm, if_neg hl]
      have HE := Lib.hid hE
      have hl2 : ¬ (bs.length : Int) = 128 := by omega
      clear hE hl hm
      go_wp2_with fail
      refine bodyPost_ret (v := .tuple #[.agg #[.slice none 0 0, .slice none 0 0], .int .i64 3]) ?_ rfl (BAD.out 3 HE.out (by decide))
      exact results_2_tmp rfl _ _ (w.heap.size + 1) rfl (zero_kept C1.out) Try.underlying29 infoDisk2 _ rfl
  · obtain ⟨r, hr⟩ : ∃ r, r = atE ss ws n := ⟨_, rfl⟩
    rw [← hr] at hm ⊢
    have hE : writeE ss ws n bs = r := by rw [writeE, if_neg (by rw [← hr]; exact hm), hr]
    have HE := Lib.hid hE
    have hrb : (r == 0) = false := by rw [beq_eq_false_iff_ne]; exact hm
    clear hE hr
    go_wp2_with fail
    refine bodyPost_ret (v := .tuple #[.agg #[.slice none 0 0, .slice none 0 0], .int .i64 r]) ?_ rfl (BAD.out r HE.out hm)
    exact results_2_tmp rfl _ _ (w.heap.size + 1) rfl (zero_kept C1.out) Try.underlying29 infoDisk2 _ rfl
end Go.Proofs.Ytdjoflhcagfmiaa
