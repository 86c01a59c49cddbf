/-
  The document's own functions: told (a disk as one text).
  Conditions: the text has at most 8,000,000 bytes.
-/
import Derived.Test.YtdpjdobmnkadjaaRefToldM
import Derived.Test.YtdpjdobmnkadjaaRefBox
set_option linter.unusedVariables false
set_option linter.unusedSimpArgs false
namespace Go.Proofs.Ytdpjdobmnkadjaa
open Go.RowKit

set_option maxRecDepth 100000 in
set_option maxHeartbeats 8000000 in
theorem told_any (d : Value) (ss : List Bs) (ws : List Wr) (w : World) (h : DiskIn w w.heap.size d ss ws) (ht : Tells ss ws) :
    Calls Try.prog 48 #[d] w fun e w' => e = .returned (.string (strB (toldD ss ws))) ∧ Below w.heap.size w w' := by
  obtain ⟨v1, v2, rfl, h1, h2⟩ := id h
  have H1 := Lib.hid h1
  have H2 := Lib.hid h2
  have HT := Lib.hid ht
  obtain ⟨A1, c1, rfl, -, -, -, -⟩ := h1
  obtain ⟨A2, c2, rfl, -, -, -, -⟩ := h2
  have hns : (ss.length : Int) ≤ 100000 := by have := ht.n; omega
  have hnw : (ws.length : Int) ≤ 100000 := by have := ht.m; omega
  have q0 := heap_alloc_self w (.cells #[.slice A1 ss.length c1, .slice A2 ws.length c2] 25)
  have qb := below_new w (.cells #[.slice A1 ss.length c1, .slice A2 ws.length c2] 25)
  have qs : (w.alloc (.cells #[.slice A1 ss.length c1, .slice A2 ws.length c2] 25)).heap.size = w.heap.size + 1 := by simp
  clear h ht
  go_enter Try.func48, Try.ntmps48
  go_wp2_with fail
  generalize w.alloc (.cells #[.slice A1 ss.length c1, .slice A2 ws.length c2] 25) = q at q0 qb qs ⊢
  have Q0 := Lib.hid q0
  have QB := Lib.hid qb
  have QS := Lib.hid qs
  clear q0 qb qs
  go_loopw [3, 4] (fun s3 s4 wr => ∃ i : Nat, i ≤ ss.length ∧ s4 = .int .i64 i ∧ s3 = .string (strB (told1 (ss.take i))) ∧ Below q.heap.size q wr) (fun _ s4 _ => ss.length - (intOf s4).toNat)
  case atStart => exact ⟨0, by omega, rfl, rfl, Below.refl _ _⟩
  case round =>
    obtain ⟨i, hi, rfl, rfl, hb⟩ := hrel
    have HB := Lib.hid hb
    have WB : Hid (Below w.heap.size w wr) := Lib.hid (QB.out.trans (hb.mono QB.out.size))
    have HX0 := Lib.hid ((hb.block _ (heap_lt Q0.out)).trans Q0.out)
    obtain ⟨x0, x1⟩ := cell2_of HX0.out
    clear hb
    by_cases hlt : i < ss.length
    · have hlt' : (i : Int) < ss.length := by omega
      obtain ⟨s, hse, sb, so, u, hA, hsb, hcs, ht⟩ : ∃ s, ss[i]? = some s ∧ ∃ sb so u, A1 = some ⟨sb, so, none⟩ ∧ sb < w.heap.size ∧ w.cell? ⟨sb, so + i, none⟩ = some u ∧ Txt w w.heap.size u s := ⟨ss[i], List.getElem?_eq_getElem hlt, H1.out.at hlt⟩
      subst hA
      have HTX := Lib.hid ht
      have hsn := told1_snoc hse
      have hlast := told1_take_le ss (i + 1)
      have hbnd : (told1 (ss.take (i + 1))).length ≤ 8000002 := by have := HT.out.l; omega
      obtain ⟨A3, c3, rfl, -, -, -, -⟩ := ht
      have HLS : Hid ((-9223372036854775808 : Int) ≤ (s.length : Int) ∧ (s.length : Int) ≤ 9223372036854775807) := Lib.hid (by have := HTX.out.le; unfold maxLen at this; omega)
      have hx1 : (told1 (ss.take i) ++ longT s.length).length ≤ 8000002 := by
        rw [hsn] at hbnd
        simp only [List.length_append] at hbnd ⊢
        omega
      have hadd1 := strB_add wr (told1 (ss.take i)) (longT s.length) _ rfl hx1
      have hadd2 := strB_add wr (told1 (ss.take i) ++ longT s.length) s (told1 (ss.take (i + 1))) (by rw [hsn, List.append_assoc]) hbnd
      obtain ⟨X0, hX0⟩ : ∃ X, X = strB (told1 (ss.take i)) := ⟨_, rfl⟩
      obtain ⟨X1, hX1⟩ : ∃ X, X = strB (told1 (ss.take i) ++ longT s.length) := ⟨_, rfl⟩
      obtain ⟨X2, hX2⟩ : ∃ X, X = strB (told1 (ss.take (i + 1))) := ⟨_, rfl⟩
      obtain ⟨XS, hXS⟩ : ∃ X, X = strB s := ⟨_, rfl⟩
      obtain ⟨XL, hXL⟩ : ∃ X, X = strB (longT s.length) := ⟨_, rfl⟩
      have HCV : Hid (∀ w', Below wr.heap.size wr w' → (convert 30 9 (.slice A3 s.length c3)).run Try.prog w' = .ok (.string XS) w') := Lib.hid (fun w' hb => by
        rw [hXS]
        exact run_txt_string ((HTX.out.below WB.out).below (hb.mono WB.out.size)))
      have HLG : Hid (∀ w' : World, Calls Try.prog 59 #[.int .i64 (s.length : Int)] w' fun e w2 => e = .returned (.string XL) ∧ Below w'.heap.size w' w2) := Lib.hid (fun w' => by rw [hXL]; exact long_any _ HLS.out w')
      have HX2 := Lib.hid hX2
      rw [← hX0, ← hXL, ← hX1] at hadd1
      rw [← hX1, ← hXS, ← hX2] at hadd2
      rw [← hX0]
      have HSB := Lib.hid hsb
      have HCS := Lib.hid hcs
      have HQL : Hid (w.heap.size < wr.heap.size) := Lib.hid (heap_lt HX0.out)
      clear hsn hlast hbnd hx1 hX0 hX1 hX2 hXS hXL hse hsb hcs hlt
      go_wp2_with fail
      refine wp_region_held_drew (S := fun v => Below wr.heap.size wr v) (by kernel_rfl) ((Below.refl _ wr).drew) (fun hHeld => ?_)
      refine wpAnyH_take (i := 0) (v := ?_) rfl (by kernel_rfl) (by kernel_rfl) (by kernel_rfl) (fun _ _ _ h => h) (Or.inl ⟨by rfl, ?_⟩) hHeld ?_
      rotate_left
      · intro w' hSw; go_simp; try with_reducible rfl
      simp only [List.getElem_toArray, List.getElem_cons_succ, List.getElem_cons_zero, Act.put, List.setIfInBounds_toArray, List.set_cons_zero, List.set_cons_succ]
      refine wpAnyH_take (i := 1) (v := ?_) rfl (by kernel_rfl) (by kernel_rfl) (by kernel_rfl) (fun _ _ _ h => h) (Or.inl ⟨by rfl, ?_⟩) hHeld ?_
      rotate_left
      · intro w' hSw; go_simp; try with_reducible rfl
      simp only [List.getElem_toArray, List.getElem_cons_succ, List.getElem_cons_zero, Act.put, List.setIfInBounds_toArray, List.set_cons_zero, List.set_cons_succ]
      refine wpAnyH_take (i := 2) (v := ?_) rfl (by kernel_rfl) (by kernel_rfl) (by kernel_rfl) (fun _ _ _ h => h) (Or.inl ⟨by rfl, ?_⟩) hHeld ?_
      rotate_left
      · intro w' hSw; obtain ⟨c0, c1⟩ := cell2_of (((show Below wr.heap.size wr w' from hSw).block w.heap.size HQL.out).trans HX0.out); go_simp; try with_reducible rfl
      simp only [List.getElem_toArray, List.getElem_cons_succ, List.getElem_cons_zero, Act.put, List.setIfInBounds_toArray, List.set_cons_zero, List.set_cons_succ]
      refine wpAnyH_take (i := 3) (v := ?_) rfl (by kernel_rfl) (by kernel_rfl) (by kernel_rfl) (fun _ _ _ h => h) (Or.inl ⟨by rfl, ?_⟩) hHeld ?_
      rotate_left
      · intro w' hSw; go_simp; try with_reducible rfl
      simp only [List.getElem_toArray, List.getElem_cons_succ, List.getElem_cons_zero, Act.put, List.setIfInBounds_toArray, List.set_cons_zero, List.set_cons_succ]
      refine wpAnyH_take (i := 4) (v := ?_) rfl (by kernel_rfl) (by kernel_rfl) (by kernel_rfl) (fun _ _ _ h => h) (Or.inl ⟨by rfl, ?_⟩) hHeld ?_
      rotate_left
      · intro w' hSw; go_simp; try with_reducible rfl
      simp only [List.getElem_toArray, List.getElem_cons_succ, List.getElem_cons_zero, Act.put, List.setIfInBounds_toArray, List.set_cons_zero, List.set_cons_succ]
      refine wpAnyH_take (i := 5) (v := ?_) rfl (by kernel_rfl) (by kernel_rfl) (by kernel_rfl) (fun _ _ _ h => h) (Or.inl ⟨by rfl, ?_⟩) hHeld ?_
      rotate_left
      · intro w' hSw; have cs := ((show Below wr.heap.size wr w' from hSw).cell (p := ⟨sb, so + i, none⟩) (Nat.lt_trans HSB.out HQL.out)).trans ((WB.out.cell (p := ⟨sb, so + i, none⟩) HSB.out).trans HCS.out); go_simp; try with_reducible rfl
      simp only [List.getElem_toArray, List.getElem_cons_succ, List.getElem_cons_zero, Act.put, List.setIfInBounds_toArray, List.set_cons_zero, List.set_cons_succ]
      refine wpAnyH_take (i := 6) (v := ?_) rfl (by kernel_rfl) (by kernel_rfl) (by kernel_rfl) (fun _ _ _ h => h) (Or.inl ⟨by rfl, ?_⟩) hHeld ?_
      rotate_left
      · intro w' hSw; go_simp; try with_reducible rfl
      simp only [List.getElem_toArray, List.getElem_cons_succ, List.getElem_cons_zero, Act.put, List.setIfInBounds_toArray, List.set_cons_zero, List.set_cons_succ]
      refine wpAnyH_take (i := 9) (v := ?_) rfl (by kernel_rfl) (by kernel_rfl) (by kernel_rfl) (fun _ _ _ h => h) (Or.inl ⟨by rfl, ?_⟩) hHeld ?_
      rotate_left
      · intro w' hSw; go_simp; try with_reducible rfl
      simp only [List.getElem_toArray, List.getElem_cons_succ, List.getElem_cons_zero, Act.put, List.setIfInBounds_toArray, List.set_cons_zero, List.set_cons_succ]
      refine wpAnyH_take (i := 10) (v := ?_) rfl (by kernel_rfl) (by kernel_rfl) (by kernel_rfl) (fun _ _ _ h => h) (Or.inl ⟨by rfl, ?_⟩) hHeld ?_
      rotate_left
      · intro w' hSw; obtain ⟨c0, c1⟩ := cell2_of (((show Below wr.heap.size wr w' from hSw).block w.heap.size HQL.out).trans HX0.out); go_simp; try with_reducible rfl
      simp only [List.getElem_toArray, List.getElem_cons_succ, List.getElem_cons_zero, Act.put, List.setIfInBounds_toArray, List.set_cons_zero, List.set_cons_succ]
      refine wpAnyH_take (i := 11) (v := ?_) rfl (by kernel_rfl) (by kernel_rfl) (by kernel_rfl) (fun _ _ _ h => h) (Or.inl ⟨by rfl, ?_⟩) hHeld ?_
      rotate_left
      · intro w' hSw; go_simp; try with_reducible rfl
      simp only [List.getElem_toArray, List.getElem_cons_succ, List.getElem_cons_zero, Act.put, List.setIfInBounds_toArray, List.set_cons_zero, List.set_cons_succ]
      refine wpAnyH_take (i := 12) (v := ?_) rfl (by kernel_rfl) (by kernel_rfl) (by kernel_rfl) (fun _ _ _ h => h) (Or.inl ⟨by rfl, ?_⟩) hHeld ?_
      rotate_left
      · intro w' hSw; go_simp; try with_reducible rfl
      simp only [List.getElem_toArray, List.getElem_cons_succ, List.getElem_cons_zero, Act.put, List.setIfInBounds_toArray, List.set_cons_zero, List.set_cons_succ]
      refine wpAnyH_take (i := 13) (v := ?_) rfl (by kernel_rfl) (by kernel_rfl) (by kernel_rfl) (fun _ _ _ h => h) (Or.inl ⟨by rfl, ?_⟩) hHeld ?_
      rotate_left
      · intro w' hSw; have cs := ((show Below wr.heap.size wr w' from hSw).cell (p := ⟨sb, so + i, none⟩) (Nat.lt_trans HSB.out HQL.out)).trans ((WB.out.cell (p := ⟨sb, so + i, none⟩) HSB.out).trans HCS.out); go_simp; try with_reducible rfl
      simp only [List.getElem_toArray, List.getElem_cons_succ, List.getElem_cons_zero, Act.put, List.setIfInBounds_toArray, List.set_cons_zero, List.set_cons_succ]
      refine wpAnyH_take (i := 14) (v := ?_) rfl (by kernel_rfl) (by kernel_rfl) (by kernel_rfl) (fun _ _ _ h => h) (Or.inl ⟨by rfl, ?_⟩) hHeld ?_
      rotate_left
      · intro w' hSw; have hcv := HCV.out w' (show Below wr.heap.size wr w' from hSw); go_simp; try with_reducible rfl
      simp only [List.getElem_toArray, List.getElem_cons_succ, List.getElem_cons_zero, Act.put, List.setIfInBounds_toArray, List.set_cons_zero, List.set_cons_succ]
      refine wpAnyH_ready (rs := [7]) (by kernel_rfl) (by simp) ?_
      refine AllReadyH.cons rfl (fun K hK => ?_) AllReadyH.nil
      go_simp
      refine (HLG.out wr.drew).mono ?_
      rintro e w2 ⟨rfl, bw2⟩
      have Bw2 : Hid (Below wr.heap.size wr w2) := Lib.hid ((Below.refl _ wr).drew.trans bw2)
      clear bw2
      try go_wp2_with fail
      refine hK.out _ _ ?_ (fun hHeld => ?_)
      · exact Bw2.out
      clear hK K
      try simp only [List.getElem_toArray, List.getElem_cons_succ, List.getElem_cons_zero, Act.put, List.setIfInBounds_toArray, List.set_cons_zero, List.set_cons_succ]
      refine wpAnyH_take (i := 8) (v := ?_) rfl (by kernel_rfl) (by kernel_rfl) (by kernel_rfl) (fun _ _ _ h => h) (Or.inl ⟨by rfl, ?_⟩) hHeld ?_
      rotate_left
      · intro w' hSw; have hadd := hadd1 w'; go_simp; try with_reducible rfl
      simp only [List.getElem_toArray, List.getElem_cons_succ, List.getElem_cons_zero, Act.put, List.setIfInBounds_toArray, List.set_cons_zero, List.set_cons_succ]
      refine wpAnyH_take (i := 15) (v := ?_) rfl (by kernel_rfl) (by kernel_rfl) (by kernel_rfl) (fun _ _ _ h => h) (Or.inl ⟨by rfl, ?_⟩) hHeld ?_
      rotate_left
      · intro w' hSw; have hadd := hadd2 w'; go_simp; try with_reducible rfl
      simp only [List.getElem_toArray, List.getElem_cons_succ, List.getElem_cons_zero, Act.put, List.setIfInBounds_toArray, List.set_cons_zero, List.set_cons_succ]
      refine wpAnyH_take (i := 16) (v := ?_) rfl (by kernel_rfl) (by kernel_rfl) (by kernel_rfl) (fun _ _ _ h => h) (Or.inl ⟨by rfl, ?_⟩) hHeld ?_
      rotate_left
      · intro w' hSw; go_simp; try with_reducible rfl
      simp only [List.getElem_toArray, List.getElem_cons_succ, List.getElem_cons_zero, Act.put, List.setIfInBounds_toArray, List.set_cons_zero, List.set_cons_succ]
      refine wpAnyH_done (by kernel_rfl) ?_ _
      clear hadd1 hadd2
      go_wp2_with fail
      go_roundw
      case measure => simp [intOf]; omega
      case rel => exact ⟨i + 1, by omega, by go_num, by rw [HX2.out], HB.out.trans (Bw2.out.mono HB.out.size)⟩
    · obtain rfl : i = ss.length := by omega
      have hlt' : ¬ ((ss.length : Int) < ss.length) := by omega
      rw [List.take_length]
      have hadd0 := strB_add wr (told1 ss) [124] (told1 ss ++ [124]) rfl (by have := HT.out.l; simp; omega)
      obtain ⟨X0, hX0⟩ : ∃ X, X = strB (told1 ss) := ⟨_, rfl⟩
      have hbar : strB [124] = { data := #[124] } := rfl
      rw [hbar, ← hX0] at hadd0
      rw [← hX0]
      obtain ⟨T1, hT1⟩ : ∃ T, T = told1 ss ++ [124] := ⟨_, rfl⟩
      have HT1 := Lib.hid hT1
      rw [← hT1] at hadd0
      have hT1l : T1.length + (told2 ws).length ≤ 8000001 := by rw [hT1]; have := HT.out.l; simp; omega
      have HT1L := Lib.hid hT1l
      clear hlt hi hX0 hbar hT1 hT1l
      go_wp2_with fail
      clear hadd0 x0 x1
      go_loopw [3, 5] (fun s3 s5 wx => ∃ k : Nat, k ≤ ws.length ∧ s5 = .int .i64 k ∧ s3 = .string (strB (T1 ++ told2 (ws.take k))) ∧ Below q.heap.size q wx) (fun _ s5 _ => ws.length - (intOf s5).toNat)
      case atStart => exact ⟨0, by omega, rfl, by simp [told2], HB.out⟩
      case round =>
        obtain ⟨i, hi, rfl, rfl, hb⟩ := hrel
        clear HB WB HX0
        have HB := Lib.hid hb
        have WB : Hid (Below w.heap.size w wr) := Lib.hid (QB.out.trans (hb.mono QB.out.size))
        have HX0 := Lib.hid ((hb.block _ (heap_lt Q0.out)).trans Q0.out)
        obtain ⟨x0, x1⟩ := cell2_of HX0.out
        clear hb
        by_cases hlt : i < ws.length
        · have hlt' : (i : Int) < ws.length := by omega
          obtain ⟨x, hse, hxm, sb, so, u, hA, hsb, hci, hcs, ht⟩ : ∃ x, ws[i]? = some x ∧ x ∈ ws ∧ ∃ sb so u, A2 = some ⟨sb, so, none⟩ ∧ sb < w.heap.size ∧ w.cell? ⟨sb, so + i * 2, none⟩ = some (.int .i64 x.1) ∧ w.cell? ⟨sb, so + i * 2 + 1, none⟩ = some u ∧ Txt w w.heap.size u x.2 := ⟨ws[i], List.getElem?_eq_getElem hlt, List.getElem_mem hlt, H2.out.at hlt⟩
          subst hA
          have HTX := Lib.hid ht
          have hsn := told2_snoc hse
          have hlast := told2_take_le ws (i + 1)
          have hbnd : (T1 ++ told2 (ws.take (i + 1))).length ≤ 8000002 := by rw [List.length_append]; have := HT1L.out; omega
          obtain ⟨A3, c3, rfl, -, -, -, -⟩ := ht
          have HLS : Hid ((-9223372036854775808 : Int) ≤ (x.2.length : Int) ∧ (x.2.length : Int) ≤ 9223372036854775807) := Lib.hid (by have := HTX.out.le; unfold maxLen at this; omega)
          have HLA := Lib.hid (HT.out.a x hxm)
          have hx2 : (T1 ++ told2 (ws.take i) ++ longT x.1 ++ longT x.2.length).length ≤ 8000002 := by
            rw [hsn] at hbnd
            simp only [List.length_append] at hbnd ⊢
            omega
          have hx1 : (T1 ++ told2 (ws.take i) ++ longT x.1).length ≤ 8000002 := by
            simp only [List.length_append] at hx2 ⊢
            omega
          have hadd1 := strB_add wr (T1 ++ told2 (ws.take i)) (longT x.1) _ rfl hx1
          have hadd2 := strB_add wr (T1 ++ told2 (ws.take i) ++ longT x.1) (longT x.2.length) _ rfl hx2
          have hadd3 := strB_add wr (T1 ++ told2 (ws.take i) ++ longT x.1 ++ longT x.2.length) x.2 (T1 ++ told2 (ws.take (i + 1))) (by rw [hsn]; simp only [List.append_assoc]) hbnd
          obtain ⟨X0, hX0⟩ : ∃ X, X = strB (T1 ++ told2 (ws.take i)) := ⟨_, rfl⟩
          obtain ⟨X1, hX1⟩ : ∃ X, X = strB (T1 ++ told2 (ws.take i) ++ longT x.1) := ⟨_, rfl⟩
          obtain ⟨X2, hX2⟩ : ∃ X, X = strB (T1 ++ told2 (ws.take i) ++ longT x.1 ++ longT x.2.length) := ⟨_, rfl⟩
          obtain ⟨X3, hX3⟩ : ∃ X, X = strB (T1 ++ told2 (ws.take (i + 1))) := ⟨_, rfl⟩
          obtain ⟨XS, hXS⟩ : ∃ X, X = strB x.2 := ⟨_, rfl⟩
          obtain ⟨XA, hXA⟩ : ∃ X, X = strB (longT x.1) := ⟨_, rfl⟩
          obtain ⟨XL, hXL⟩ : ∃ X, X = strB (longT x.2.length) := ⟨_, rfl⟩
          have HCV : Hid (∀ w', Below wr.heap.size wr w' → (convert 30 9 (.slice A3 x.2.length c3)).run Try.prog w' = .ok (.string XS) w') := Lib.hid (fun w' hb => by
            rw [hXS]
            exact run_txt_string ((HTX.out.below WB.out).below (hb.mono WB.out.size)))
          have HLG : Hid (∀ w' : World, Calls Try.prog 59 #[.int .i64 (x.2.length : Int)] w' fun e w2 => e = .returned (.string XL) ∧ Below w'.heap.size w' w2) := Lib.hid (fun w' => by rw [hXL]; exact long_any _ HLS.out w')
          have HLB : Hid (∀ w' : World, Calls Try.prog 59 #[.int .i64 x.1] w' fun e w2 => e = .returned (.string XA) ∧ Below w'.heap.size w' w2) := Lib.hid (fun w' => by rw [hXA]; exact long_any _ HLA.out w')
          have HX3 := Lib.hid hX3
          rw [← hX0, ← hXA, ← hX1] at hadd1
          rw [← hX1, ← hXL, ← hX2] at hadd2
          rw [← hX2, ← hXS, ← hX3] at hadd3
          rw [← hX0]
          have HSB := Lib.hid hsb
          have HCS := Lib.hid hcs
          have HCI := Lib.hid hci
          have HQL : Hid (w.heap.size < wr.heap.size) := Lib.hid (heap_lt HX0.out)
          clear hsn hlast hbnd hx1 hx2 hX0 hX1 hX2 hX3 hXS hXA hXL hse hsb hcs hci hlt hxm
          go_wp2_with fail
          refine wp_region_held_drew (S := fun v => Below wr.heap.size wr v) (by kernel_rfl) ((Below.refl _ wr).drew) (fun hHeld => ?_)
          refine wpAnyH_take (i := 0) (v := ?_) rfl (by kernel_rfl) (by kernel_rfl) (by kernel_rfl) (fun _ _ _ h => h) (Or.inl ⟨by rfl, ?_⟩) hHeld ?_
          rotate_left
          · intro w' hSw; go_simp; try with_reducible rfl
          simp only [List.getElem_toArray, List.getElem_cons_succ, List.getElem_cons_zero, Act.put, List.setIfInBounds_toArray, List.set_cons_zero, List.set_cons_succ]
          refine wpAnyH_take (i := 1) (v := ?_) rfl (by kernel_rfl) (by kernel_rfl) (by kernel_rfl) (fun _ _ _ h => h) (Or.inl ⟨by rfl, ?_⟩) hHeld ?_
          rotate_left
          · intro w' hSw; go_simp; try with_reducible rfl
          simp only [List.getElem_toArray, List.getElem_cons_succ, List.getElem_cons_zero, Act.put, List.setIfInBounds_toArray, List.set_cons_zero, List.set_cons_succ]
          refine wpAnyH_take (i := 2) (v := ?_) rfl (by kernel_rfl) (by kernel_rfl) (by kernel_rfl) (fun _ _ _ h => h) (Or.inl ⟨by rfl, ?_⟩) hHeld ?_
          rotate_left
          · intro w' hSw; obtain ⟨c0, c1⟩ := cell2_of (((show Below wr.heap.size wr w' from hSw).block w.heap.size HQL.out).trans HX0.out); go_simp; try with_reducible rfl
          simp only [List.getElem_toArray, List.getElem_cons_succ, List.getElem_cons_zero, Act.put, List.setIfInBounds_toArray, List.set_cons_zero, List.set_cons_succ]
          refine wpAnyH_take (i := 3) (v := ?_) rfl (by kernel_rfl) (by kernel_rfl) (by kernel_rfl) (fun _ _ _ h => h) (Or.inl ⟨by rfl, ?_⟩) hHeld ?_
          rotate_left
          · intro w' hSw; go_simp; try with_reducible rfl
          simp only [List.getElem_toArray, List.getElem_cons_succ, List.getElem_cons_zero, Act.put, List.setIfInBounds_toArray, List.set_cons_zero, List.set_cons_succ]
          refine wpAnyH_take (i := 4) (v := ?_) rfl (by kernel_rfl) (by kernel_rfl) (by kernel_rfl) (fun _ _ _ h => h) (Or.inl ⟨by rfl, ?_⟩) hHeld ?_
          rotate_left
          · intro w' hSw; go_simp; try with_reducible rfl
          simp only [List.getElem_toArray, List.getElem_cons_succ, List.getElem_cons_zero, Act.put, List.setIfInBounds_toArray, List.set_cons_zero, List.set_cons_succ]
          refine wpAnyH_take (i := 5) (v := ?_) rfl (by kernel_rfl) (by kernel_rfl) (by kernel_rfl) (fun _ _ _ h => h) (Or.inl ⟨by rfl, ?_⟩) hHeld ?_
          rotate_left
          · intro w' hSw; go_simp; try with_reducible rfl
          simp only [List.getElem_toArray, List.getElem_cons_succ, List.getElem_cons_zero, Act.put, List.setIfInBounds_toArray, List.set_cons_zero, List.set_cons_succ]
          refine wpAnyH_take (i := 6) (v := ?_) rfl (by kernel_rfl) (by kernel_rfl) (by kernel_rfl) (fun _ _ _ h => h) (Or.inl ⟨by rfl, ?_⟩) hHeld ?_
          rotate_left
          · intro w' hSw; have cs := ((show Below wr.heap.size wr w' from hSw).cell (p := ⟨sb, so + i * 2, none⟩) (Nat.lt_trans HSB.out HQL.out)).trans ((WB.out.cell (p := ⟨sb, so + i * 2, none⟩) HSB.out).trans HCI.out); go_simp; try with_reducible rfl
          simp only [List.getElem_toArray, List.getElem_cons_succ, List.getElem_cons_zero, Act.put, List.setIfInBounds_toArray, List.set_cons_zero, List.set_cons_succ]
          refine wpAnyH_take (i := 9) (v := ?_) rfl (by kernel_rfl) (by kernel_rfl) (by kernel_rfl) (fun _ _ _ h => h) (Or.inl ⟨by rfl, ?_⟩) hHeld ?_
          rotate_left
          · intro w' hSw; go_simp; try with_reducible rfl
          simp only [List.getElem_toArray, List.getElem_cons_succ, List.getElem_cons_zero, Act.put, List.setIfInBounds_toArray, List.set_cons_zero, List.set_cons_succ]
          refine wpAnyH_take (i := 10) (v := ?_) rfl (by kernel_rfl) (by kernel_rfl) (by kernel_rfl) (fun _ _ _ h => h) (Or.inl ⟨by rfl, ?_⟩) hHeld ?_
          rotate_left
          · intro w' hSw; obtain ⟨c0, c1⟩ := cell2_of (((show Below wr.heap.size wr w' from hSw).block w.heap.size HQL.out).trans HX0.out); go_simp; try with_reducible rfl
          simp only [List.getElem_toArray, List.getElem_cons_succ, List.getElem_cons_zero, Act.put, List.setIfInBounds_toArray, List.set_cons_zero, List.set_cons_succ]
          refine wpAnyH_take (i := 11) (v := ?_) rfl (by kernel_rfl) (by kernel_rfl) (by kernel_rfl) (fun _ _ _ h => h) (Or.inl ⟨by rfl, ?_⟩) hHeld ?_
          rotate_left
          · intro w' hSw; go_simp; try with_reducible rfl
          simp only [List.getElem_toArray, List.getElem_cons_succ, List.getElem_cons_zero, Act.put, List.setIfInBounds_toArray, List.set_cons_zero, List.set_cons_succ]
          refine wpAnyH_take (i := 12) (v := ?_) rfl (by kernel_rfl) (by kernel_rfl) (by kernel_rfl) (fun _ _ _ h => h) (Or.inl ⟨by rfl, ?_⟩) hHeld ?_
          rotate_left
          · intro w' hSw; go_simp; try with_reducible rfl
          simp only [List.getElem_toArray, List.getElem_cons_succ, List.getElem_cons_zero, Act.put, List.setIfInBounds_toArray, List.set_cons_zero, List.set_cons_succ]
          refine wpAnyH_take (i := 13) (v := ?_) rfl (by kernel_rfl) (by kernel_rfl) (by kernel_rfl) (fun _ _ _ h => h) (Or.inl ⟨by rfl, ?_⟩) hHeld ?_
          rotate_left
          · intro w' hSw; go_simp; try with_reducible rfl
          simp only [List.getElem_toArray, List.getElem_cons_succ, List.getElem_cons_zero, Act.put, List.setIfInBounds_toArray, List.set_cons_zero, List.set_cons_succ]
          refine wpAnyH_take (i := 14) (v := ?_) rfl (by kernel_rfl) (by kernel_rfl) (by kernel_rfl) (fun _ _ _ h => h) (Or.inl ⟨by rfl, ?_⟩) hHeld ?_
          rotate_left
          · intro w' hSw; have cs := ((show Below wr.heap.size wr w' from hSw).cell (p := ⟨sb, so + i * 2 + 1, none⟩) (Nat.lt_trans HSB.out HQL.out)).trans ((WB.out.cell (p := ⟨sb, so + i * 2 + 1, none⟩) HSB.out).trans HCS.out); go_simp; try with_reducible rfl
          simp only [List.getElem_toArray, List.getElem_cons_succ, List.getElem_cons_zero, Act.put, List.setIfInBounds_toArray, List.set_cons_zero, List.set_cons_succ]
          refine wpAnyH_take (i := 15) (v := ?_) rfl (by kernel_rfl) (by kernel_rfl) (by kernel_rfl) (fun _ _ _ h => h) (Or.inl ⟨by rfl, ?_⟩) hHeld ?_
          rotate_left
          · intro w' hSw; go_simp; try with_reducible rfl
          simp only [List.getElem_toArray, List.getElem_cons_succ, List.getElem_cons_zero, Act.put, List.setIfInBounds_toArray, List.set_cons_zero, List.set_cons_succ]
          refine wpAnyH_take (i := 18) (v := ?_) rfl (by kernel_rfl) (by kernel_rfl) (by kernel_rfl) (fun _ _ _ h => h) (Or.inl ⟨by rfl, ?_⟩) hHeld ?_
          rotate_left
          · intro w' hSw; go_simp; try with_reducible rfl
          simp only [List.getElem_toArray, List.getElem_cons_succ, List.getElem_cons_zero, Act.put, List.setIfInBounds_toArray, List.set_cons_zero, List.set_cons_succ]
          refine wpAnyH_take (i := 19) (v := ?_) rfl (by kernel_rfl) (by kernel_rfl) (by kernel_rfl) (fun _ _ _ h => h) (Or.inl ⟨by rfl, ?_⟩) hHeld ?_
          rotate_left
          · intro w' hSw; obtain ⟨c0, c1⟩ := cell2_of (((show Below wr.heap.size wr w' from hSw).block w.heap.size HQL.out).trans HX0.out); go_simp; try with_reducible rfl
          simp only [List.getElem_toArray, List.getElem_cons_succ, List.getElem_cons_zero, Act.put, List.setIfInBounds_toArray, List.set_cons_zero, List.set_cons_succ]
          refine wpAnyH_take (i := 20) (v := ?_) rfl (by kernel_rfl) (by kernel_rfl) (by kernel_rfl) (fun _ _ _ h => h) (Or.inl ⟨by rfl, ?_⟩) hHeld ?_
          rotate_left
          · intro w' hSw; go_simp; try with_reducible rfl
          simp only [List.getElem_toArray, List.getElem_cons_succ, List.getElem_cons_zero, Act.put, List.setIfInBounds_toArray, List.set_cons_zero, List.set_cons_succ]
          refine wpAnyH_take (i := 21) (v := ?_) rfl (by kernel_rfl) (by kernel_rfl) (by kernel_rfl) (fun _ _ _ h => h) (Or.inl ⟨by rfl, ?_⟩) hHeld ?_
          rotate_left
          · intro w' hSw; go_simp; try with_reducible rfl
          simp only [List.getElem_toArray, List.getElem_cons_succ, List.getElem_cons_zero, Act.put, List.setIfInBounds_toArray, List.set_cons_zero, List.set_cons_succ]
          refine wpAnyH_take (i := 22) (v := ?_) rfl (by kernel_rfl) (by kernel_rfl) (by kernel_rfl) (fun _ _ _ h => h) (Or.inl ⟨by rfl, ?_⟩) hHeld ?_
          rotate_left
          · intro w' hSw; go_simp; try with_reducible rfl
          simp only [List.getElem_toArray, List.getElem_cons_succ, List.getElem_cons_zero, Act.put, List.setIfInBounds_toArray, List.set_cons_zero, List.set_cons_succ]
          refine wpAnyH_take (i := 23) (v := ?_) rfl (by kernel_rfl) (by kernel_rfl) (by kernel_rfl) (fun _ _ _ h => h) (Or.inl ⟨by rfl, ?_⟩) hHeld ?_
          rotate_left
          · intro w' hSw; have cs := ((show Below wr.heap.size wr w' from hSw).cell (p := ⟨sb, so + i * 2 + 1, none⟩) (Nat.lt_trans HSB.out HQL.out)).trans ((WB.out.cell (p := ⟨sb, so + i * 2 + 1, none⟩) HSB.out).trans HCS.out); go_simp; try with_reducible rfl
          simp only [List.getElem_toArray, List.getElem_cons_succ, List.getElem_cons_zero, Act.put, List.setIfInBounds_toArray, List.set_cons_zero, List.set_cons_succ]
          refine wpAnyH_take (i := 24) (v := ?_) rfl (by kernel_rfl) (by kernel_rfl) (by kernel_rfl) (fun _ _ _ h => h) (Or.inl ⟨by rfl, ?_⟩) hHeld ?_
          rotate_left
          · intro w' hSw; have hcv := HCV.out w' (show Below wr.heap.size wr w' from hSw); go_simp; try with_reducible rfl
          simp only [List.getElem_toArray, List.getElem_cons_succ, List.getElem_cons_zero, Act.put, List.setIfInBounds_toArray, List.set_cons_zero, List.set_cons_succ]
          refine wpAnyH_ready (rs := [7]) (by kernel_rfl) (by simp) ?_
          refine AllReadyH.cons rfl (fun K hK => ?_) AllReadyH.nil
          go_simp
          refine (HLB.out wr.drew).mono ?_
          rintro e w2 ⟨rfl, bw2⟩
          have Bw2 : Hid (Below wr.heap.size wr w2) := Lib.hid ((Below.refl _ wr).drew.trans bw2)
          clear bw2
          try go_wp2_with fail
          refine hK.out _ _ ?_ (fun hHeld => ?_)
          · exact Bw2.out
          clear hK K
          try simp only [List.getElem_toArray, List.getElem_cons_succ, List.getElem_cons_zero, Act.put, List.setIfInBounds_toArray, List.set_cons_zero, List.set_cons_succ]
          refine wpAnyH_take (i := 8) (v := ?_) rfl (by kernel_rfl) (by kernel_rfl) (by kernel_rfl) (fun _ _ _ h => h) (Or.inl ⟨by rfl, ?_⟩) hHeld ?_
          rotate_left
          · intro w' hSw; have hadd := hadd1 w'; go_simp; try with_reducible rfl
          simp only [List.getElem_toArray, List.getElem_cons_succ, List.getElem_cons_zero, Act.put, List.setIfInBounds_toArray, List.set_cons_zero, List.set_cons_succ]
          refine wpAnyH_ready (rs := [16]) (by kernel_rfl) (by simp) ?_
          refine AllReadyH.cons rfl (fun K hK => ?_) AllReadyH.nil
          go_simp
          refine (HLG.out w2).mono ?_
          rintro e w3 ⟨rfl, bw3⟩
          have Bw3 : Hid (Below wr.heap.size wr w3) := Lib.hid (Bw2.out.trans (bw3.mono Bw2.out.size))
          clear bw3
          try go_wp2_with fail
          refine hK.out _ _ ?_ (fun hHeld => ?_)
          · exact Bw3.out
          clear hK K
          try simp only [List.getElem_toArray, List.getElem_cons_succ, List.getElem_cons_zero, Act.put, List.setIfInBounds_toArray, List.set_cons_zero, List.set_cons_succ]
          refine wpAnyH_take (i := 17) (v := ?_) rfl (by kernel_rfl) (by kernel_rfl) (by kernel_rfl) (fun _ _ _ h => h) (Or.inl ⟨by rfl, ?_⟩) hHeld ?_
          rotate_left
          · intro w' hSw; have hadd := hadd2 w'; go_simp; try with_reducible rfl
          simp only [List.getElem_toArray, List.getElem_cons_succ, List.getElem_cons_zero, Act.put, List.setIfInBounds_toArray, List.set_cons_zero, List.set_cons_succ]
          refine wpAnyH_take (i := 25) (v := ?_) rfl (by kernel_rfl) (by kernel_rfl) (by kernel_rfl) (fun _ _ _ h => h) (Or.inl ⟨by rfl, ?_⟩) hHeld ?_
          rotate_left
          · intro w' hSw; have hadd := hadd3 w'; go_simp; try with_reducible rfl
          simp only [List.getElem_toArray, List.getElem_cons_succ, List.getElem_cons_zero, Act.put, List.setIfInBounds_toArray, List.set_cons_zero, List.set_cons_succ]
          refine wpAnyH_take (i := 26) (v := ?_) rfl (by kernel_rfl) (by kernel_rfl) (by kernel_rfl) (fun _ _ _ h => h) (Or.inl ⟨by rfl, ?_⟩) hHeld ?_
          rotate_left
          · intro w' hSw; go_simp; try with_reducible rfl
          simp only [List.getElem_toArray, List.getElem_cons_succ, List.getElem_cons_zero, Act.put, List.setIfInBounds_toArray, List.set_cons_zero, List.set_cons_succ]
          refine wpAnyH_done (by kernel_rfl) ?_ _
          clear hadd1 hadd2 hadd3
          go_wp2_with fail
          go_roundw
          case measure => simp [intOf]; omega
          case rel => exact ⟨i + 1, by omega, by go_num, by rw [HX3.out], HB.out.trans (Bw3.out.mono HB.out.size)⟩
        · obtain rfl : i = ws.length := by omega
          have hlt' : ¬ ((ws.length : Int) < ws.length) := by omega
          have hend : T1 ++ told2 (ws.take ws.length) = toldD ss ws := by rw [List.take_length, HT1.out, toldD, List.append_assoc]; rfl
          rw [hend]
          obtain ⟨X0, hX0⟩ : ∃ X, X = strB (toldD ss ws) := ⟨_, rfl⟩
          rw [← hX0]
          have HXE := Lib.hid hX0
          clear hend hlt hi hX0
          go_wp2_with fail
          go_ret
          exact ⟨by rw [← HXE.out]; rfl, WB.out⟩
end Go.Proofs.Ytdpjdobmnkadjaa
