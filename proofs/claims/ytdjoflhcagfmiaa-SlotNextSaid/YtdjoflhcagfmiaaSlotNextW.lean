/-
  The statement SlotNext's text returns true: the generation behind another one.
  Conditions: none.
-/
import Derived.Test.YtdjoflhcagfmiaaSlotFour
import Derived.Test.YtdjoflhcagfmiaaMFind
import Derived.Test.YtdjoflhcagfmiaaMDisk
import Derived.Deep.CutRange
set_option linter.unusedVariables false
set_option linter.unusedSimpArgs false
set_option maxRecDepth 100000
namespace Go.Proofs.Ytdjoflhcagfmiaa
open Go.RowKit

set_option maxHeartbeats 16000000 in
theorem walk_next (d tv : Value) (ss : List Bs) (ws : List Wr) (g : Nat) (t : Bs) (hg : g < 4294967296) (w : World) (h : DiskIn w w.heap.size d ss ws) (h1 : Txt w w.heap.size tv t) :
    Calls Try.prog 7 #[d, .int .u32 (g : Int), tv] w fun e w' => e = .returned (.bool true) ∧ Below w.heap.size w w' := by
  obtain ⟨v1, v2, rfl, h3, h4⟩ := id h
  have HG := Lib.hid hg
  obtain ⟨q, hq, q0, qb⟩ : ∃ q : World, q = w.alloc (.cells #[v1, v2] 29) ∧ q.heap[w.heap.size]? = some (.cells #[v1, v2] 29 (0, 0)) ∧ Below w.heap.size w q := ⟨_, rfl, heap_alloc_self _ _, below_new _ _⟩
  have BW := Lib.hid qb
  have XD := Lib.hid q0
  have ID := Lib.hid ((h.below qb).more qb.size)
  have IT := Lib.hid ((h1.below qb).more qb.size)
  obtain ⟨A3, c3, rfl, -, -, -, -⟩ := h1
  clear h h3 h4 hg q0 qb
  go_enter Try.func7, Try.ntmps7
  go_wp2_with fail
  rw [← hq]
  clear hq
  refine (alive6 q).mono ?_
  rintro e w1 ⟨rfl, b1⟩
  have tBW := BW.out.trans (b1.mono BW.out.size)
  have tXD := (b1.block _ (heap_lt XD.out)).trans XD.out
  have tID := (ID.out.below b1).more b1.size
  have tIT := (IT.out.below b1).more b1.size
  clear BW XD ID IT
  have BW := Lib.hid tBW
  have XD := Lib.hid tXD
  have ID := Lib.hid tID
  have IT := Lib.hid tIT
  clear tBW tXD tID tIT b1
  obtain ⟨k0, k1⟩ := cell2_of XD.out
  go_wp2_with fail
  refine (great_any _ ss ws w1 ID.out).mono ?_
  rintro e w2 ⟨⟨gr, rfl⟩, b2⟩
  clear k0 k1
  have tBW := BW.out.trans (b2.mono BW.out.size)
  have tXD := (b2.block _ (heap_lt XD.out)).trans XD.out
  have tID := (ID.out.below b2).more b2.size
  have tIT := (IT.out.below b2).more b2.size
  clear BW XD ID IT
  have BW := Lib.hid tBW
  have XD := Lib.hid tXD
  have ID := Lib.hid tID
  have IT := Lib.hid tIT
  clear tBW tXD tID tIT b2
  cases gr with
  | true =>
    go_wp2_with fail
    go_ret
    exact ⟨rfl, BW.out⟩
  | false =>
    by_cases hl : (10000 : Int) < t.length
    · go_wp2_with fail
      go_ret
      exact ⟨rfl, BW.out⟩
    obtain ⟨k0, k1⟩ := cell2_of XD.out
    go_wp2_with fail
    clear k0 k1
    clear hl
    refine (snext_any _ ss ws g HG.out w2 ID.out).mono ?_
    rintro e w3 ⟨rfl, b3⟩
    have tBW := BW.out.trans (b3.mono BW.out.size)
    have tXD := (b3.block _ (heap_lt XD.out)).trans XD.out
    have tID := (ID.out.below b3).more b3.size
    have tIT := (IT.out.below b3).more b3.size
    clear BW XD ID IT
    have BW := Lib.hid tBW
    have XD := Lib.hid tXD
    have ID := Lib.hid tID
    have IT := Lib.hid tIT
    clear tBW tXD tID tIT b3
    obtain ⟨k0, k1⟩ := cell2_of XD.out
    cases hm : mayB ss ws with
    | false =>
      have hE : nextE ss ws g = 8 := by rw [nextE, hm]; rfl
      have hG : nextG ss ws g = 0 := by rw [nextG, hE]; rfl
      rw [hE, hG]
      clear hE hG
      go_wp2_with fail
      refine (check_any _ ss ws w3 ID.out).mono ?_
      rintro e w4 ⟨rfl, b4⟩
      rw [hm]
      simp only [Bool.false_eq_true, ↓reduceIte]
      have tBW := BW.out.trans (b4.mono BW.out.size)
      have tXD := (b4.block _ (heap_lt XD.out)).trans XD.out
      have tID := (ID.out.below b4).more b4.size
      have tIT := (IT.out.below b4).more b4.size
      clear BW XD ID IT
      have BW := Lib.hid tBW
      have XD := Lib.hid tXD
      have ID := Lib.hid tID
      have IT := Lib.hid tIT
      clear tBW tXD tID tIT b4
      go_wp2_with fail
      go_ret
      exact ⟨rfl, BW.out⟩
    | true =>
      have HM := Lib.hid (mayB_iff.1 hm)
      by_cases hn : 4294967295 < nextN (viewL ss ws) g
      · have hE : nextE ss ws g = 9 := by rw [nextE, hm, if_pos rfl, show comes ss ws (all128 ws) = viewL ss ws from rfl, if_pos hn]
        have hG : nextG ss ws g = 0 := by rw [nextG, hE]; rfl
        rw [hE, hG]
        clear hE hG hn
        go_wp2_with fail
        refine (check_any _ ss ws w3 ID.out).mono ?_
        rintro e w4 ⟨rfl, b4⟩
        rw [hm]
        simp only [↓reduceIte]
        have tBW := BW.out.trans (b4.mono BW.out.size)
        have tXD := (b4.block _ (heap_lt XD.out)).trans XD.out
        have tID := (ID.out.below b4).more b4.size
        have tIT := (IT.out.below b4).more b4.size
        clear BW XD ID IT
        have BW := Lib.hid tBW
        have XD := Lib.hid tXD
        have ID := Lib.hid tID
        have IT := Lib.hid tIT
        clear tBW tXD tID tIT b4
        go_wp2_with fail
        go_ret
        exact ⟨rfl, BW.out⟩
      · obtain ⟨hE, hG⟩ := next_eg HM.out (g := g) (by omega)
        rw [hE, hG]
        obtain ⟨hp1, hp2, hp3⟩ := next_parts (viewL ss ws) g
        obtain ⟨hs1, hs2⟩ := next_slot (viewL ss ws) g
        have hge := mostL_ge (otherS (viewL ss ws) g) g
        generalize nextN (viewL ss ws) g = n at hn hp1 hp2 hp3 hs1 hs2 ⊢
        obtain ⟨S, hS⟩ : ∃ S, S = otherS (viewL ss ws) g := ⟨_, rfl⟩
        rw [← hS] at hp1 hp2 hge
        have HS := Lib.hid hS
        have HSL := Lib.hid (show S.length = 16 by rw [hS]; exact other_length HM.out g)
        have HP1 := Lib.hid hp1
        have HP2 := Lib.hid hp2
        have HGE := Lib.hid hge
        have HS1 := Lib.hid hs1
        have HS2 := Lib.hid hs2
        have hnl : (n : Int) ≤ 4294967295 := by omega
        have HN := Lib.hid hnl
        have hle : decide (n ≤ g) = false := decide_eq_false (by omega)
        have hle2 : decide ((n : Int) ≤ g) = false := decide_eq_false (by omega)
        have hse : (((slotN n : Nat) : Int) == ((slotN g : Nat) : Int)) = false := by rw [beq_eq_false_iff_ne]; omega
        have hse2 : (slotN n == slotN g) = false := by rw [beq_eq_false_iff_ne]; omega
        have hsub : (n : Int) - g ≤ 4294967295 := by omega
        have hsub2 : (0 : Int) ≤ (n : Int) - g := by omega
        have hng : (g : Int) ≤ n := by omega
        clear hm hE hG hn hp1 hp2 hp3 hs1 hs2 hge hS k0 k1
        go_wp2_with (refine (sslot_any _ _).mono ?_; rintro e w' ⟨rfl, rfl⟩)
        go_loopw [10, 11] (fun s10 s11 wr => ∃ i : Nat, i ≤ 16 ∧ s10 = .bool (decide (n < mostL g (S.take i) + 3)) ∧ s11 = .int .i64 i ∧ Below w3.heap.size w3 wr) (fun _ s11 _ => 16 - (intOf s11).toNat)
        case atStart => exact ⟨0, by omega, congrArg Value.bool (decide_eq_decide.2 (show ((n : Int) - g < 3) ↔ n < g + 3 by omega)), rfl, Below.refl _ _⟩
        case round =>
          obtain ⟨i, hi, rfl, rfl, hb⟩ := hrel
          have HB := Lib.hid hb
          have tBW := BW.out.trans (hb.mono BW.out.size)
          have tXD := (hb.block _ (heap_lt XD.out)).trans XD.out
          have tID := (ID.out.below hb).more hb.size
          have tIT := (IT.out.below hb).more hb.size
          clear BW XD ID IT
          have BW := Lib.hid tBW
          have XD := Lib.hid tXD
          have ID := Lib.hid tID
          have IT := Lib.hid tIT
          clear tBW tXD tID tIT hb
          by_cases hlt : i < 16
          · have hlt' : (i : Int) < 16 := by omega
            have hsn := HS1.out
            have hse := slotN_le g
            obtain ⟨m, hm⟩ : ∃ m : Nat, m = 16 - slotN g + i := ⟨_, rfl⟩
            have hai : ((slotN n : Nat) : Int) + i = (m : Int) := by omega
            have hmI : (m : Int) < 32 := by omega
            have hat : atE ss ws (m : Int) = 0 := atE_good HM.out ⟨by omega, by omega⟩
            have hlr : (readS ss ws (m : Int)).length = 128 := readS_length HM.out (by omega)
            have hiS : i < S.length := by rw [HSL.out]; exact hlt
            have hsi : S[i] = readS ss ws (m : Int) := by
              have := other_at HM.out g hlt
              rw [← HS.out, List.getElem?_eq_getElem hiS, ← hm] at this
              exact Option.some.inj this
            have hmx : mostL g (S.take (i + 1)) = max (max (mostL g (S.take i)) (headG S[i])) (tailG S[i]) := by
              rw [List.take_add_one, List.getElem?_eq_getElem hiS, Option.toList_some, mostL_snoc]
            have hmm := mostL_mem S g S[i] (List.getElem_mem hiS)
            rw [hsi] at hmx hmm
            have HAI := Lib.hid hai
            have HWM : Hid (IntKind.i64.wrap (m : Int) = (m : Int)) := Lib.hid (by simp [IntKind.wrap, IntKind.bits]; omega)
            have HAT := Lib.hid hat
            have HMX := Lib.hid hmx
            have HMM := Lib.hid hmm
            generalize hR : readS ss ws (m : Int) = R at hlr HMX HMM
            have HR := Lib.hid hR
            have HLR := Lib.hid hlr
            obtain ⟨nb, hnb⟩ : ∃ nb, nb = decide (n < mostL g (S.take i) + 3) := ⟨_, rfl⟩
            rw [← hnb]
            have HNB := Lib.hid hnb
            clear hm
            clear hsn hse hai hat hlr hiS hsi hmx hmm hR hnb
            go_wp2_with fail
            have Q0 := Lib.hid (Below.refl wr.heap.size wr).drew
            refine wp_region_held_drew (S := fun v => Below wr.heap.size wr v) (by kernel_rfl) Q0.out (fun hHeld => ?_)
            refine wpAnyH_take (i := 0) (v := ?_) rfl (by kernel_rfl) (by kernel_rfl) (by kernel_rfl) (fun _ _ _ h => h) (Or.inl ⟨by rfl, ?_⟩) hHeld ?_
            rotate_left
            · intro w' hSw; obtain ⟨cu0, cu1⟩ := cell2_of ((hSw.block _ (heap_lt XD.out)).trans XD.out); go_simp; try with_reducible rfl
            simp only [List.getElem_toArray, List.getElem_cons_succ, List.getElem_cons_zero, Act.put, List.setIfInBounds_toArray, List.set_cons_zero, List.set_cons_succ]
            refine wpAnyH_take (i := 1) (v := ?_) rfl (by kernel_rfl) (by kernel_rfl) (by kernel_rfl) (fun _ _ _ h => h) (Or.inl ⟨by rfl, ?_⟩) hHeld ?_
            rotate_left
            · intro w' hSw; go_simp; try with_reducible rfl
            simp only [List.getElem_toArray, List.getElem_cons_succ, List.getElem_cons_zero, Act.put, List.setIfInBounds_toArray, List.set_cons_zero, List.set_cons_succ]
            refine wpAnyH_take (i := 3) (v := ?_) rfl (by kernel_rfl) (by kernel_rfl) (by kernel_rfl) (fun _ _ _ h => h) (Or.inl ⟨by rfl, ?_⟩) hHeld ?_
            rotate_left
            · intro w' hSw; go_simp; try with_reducible rfl
            simp only [List.getElem_toArray, List.getElem_cons_succ, List.getElem_cons_zero, Act.put, List.setIfInBounds_toArray, List.set_cons_zero, List.set_cons_succ]
            refine wpAnyH_ready (rs := [2]) (by kernel_rfl) (by simp) ?_
            refine AllReadyH.cons rfl (fun K hK => ?_) AllReadyH.nil
            go_simp
            refine (sslot_any n _).mono ?_
            rintro e wS ⟨rfl, rfl⟩
            try go_wp2_with fail
            refine hK.out _ _ ?_ (fun hHeld => ?_)
            · exact Q0.out
            clear hK K
            try simp only [List.getElem_toArray, List.getElem_cons_succ, List.getElem_cons_zero, Act.put, List.setIfInBounds_toArray, List.set_cons_zero, List.set_cons_succ]
            refine wpAnyH_take (i := 4) (v := ?_) rfl (by kernel_rfl) (by kernel_rfl) (by kernel_rfl) (fun _ _ _ h => h) (Or.inl ⟨by rfl, ?_⟩) hHeld ?_
            rotate_left
            · intro w' hSw; have hai := HAI.out; have hwm := HWM.out; go_simp; try with_reducible rfl
            simp only [List.getElem_toArray, List.getElem_cons_succ, List.getElem_cons_zero, Act.put, List.setIfInBounds_toArray, List.set_cons_zero, List.set_cons_succ]
            refine wpAnyH_ready (rs := [5]) (by kernel_rfl) (by simp) ?_
            refine AllReadyH.cons rfl (fun K hK => ?_) AllReadyH.nil
            go_simp
            refine (read_any _ ss ws (m : Int) _ ((ID.out.below Q0.out).more Q0.out.size)).mono ?_
            rintro e wA ⟨yA, rfl, hoA, bA⟩
            rw [HR.out, HLR.out] at hoA
            rw [HAT.out]
            obtain ⟨AO, cO, rfl⟩ := own_slice_ hoA
            have BA := Lib.hid (Q0.out.trans (bA.mono Q0.out.size))
            have OA := Lib.hid hoA
            clear bA hoA
            try go_wp2_with fail
            refine hK.out _ _ ?_ (fun hHeld => ?_)
            · exact BA.out
            clear hK K
            try simp only [List.getElem_toArray, List.getElem_cons_succ, List.getElem_cons_zero, Act.put, List.setIfInBounds_toArray, List.set_cons_zero, List.set_cons_succ]
            refine wpAnyH_take (i := 6) (v := ?_) rfl (by kernel_rfl) (by kernel_rfl) (by kernel_rfl) (fun _ _ _ h => h) (Or.inl ⟨by rfl, ?_⟩) hHeld ?_
            rotate_left
            · intro w' hSw; go_simp; try with_reducible rfl
            simp only [List.getElem_toArray, List.getElem_cons_succ, List.getElem_cons_zero, Act.put, List.setIfInBounds_toArray, List.set_cons_zero, List.set_cons_succ]
            refine wpAnyH_take (i := 7) (v := ?_) rfl (by kernel_rfl) (by kernel_rfl) (by kernel_rfl) (fun _ _ _ h => h) (Or.inl ⟨by rfl, ?_⟩) hHeld ?_
            rotate_left
            · intro w' hSw; go_simp; try with_reducible rfl
            simp only [List.getElem_toArray, List.getElem_cons_succ, List.getElem_cons_zero, Act.put, List.setIfInBounds_toArray, List.set_cons_zero, List.set_cons_succ]
            refine wpAnyH_take (i := 8) (v := ?_) rfl (by kernel_rfl) (by kernel_rfl) (by kernel_rfl) (fun _ _ _ h => h) (Or.inl ⟨by rfl, ?_⟩) hHeld ?_
            rotate_left
            · intro w' hSw; go_simp; try with_reducible rfl
            simp only [List.getElem_toArray, List.getElem_cons_succ, List.getElem_cons_zero, Act.put, List.setIfInBounds_toArray, List.set_cons_zero, List.set_cons_succ]
            refine wpAnyH_take (i := 9) (v := ?_) rfl (by kernel_rfl) (by kernel_rfl) (by kernel_rfl) (fun _ _ _ h => h) (Or.inl ⟨by rfl, ?_⟩) hHeld ?_
            rotate_left
            · intro w' hSw; go_simp; try with_reducible rfl
            simp only [List.getElem_toArray, List.getElem_cons_succ, List.getElem_cons_zero, Act.put, List.setIfInBounds_toArray, List.set_cons_zero, List.set_cons_succ]
            refine wpAnyH_take (i := 10) (v := ?_) rfl (by kernel_rfl) (by kernel_rfl) (by kernel_rfl) (fun _ _ _ h => h) (Or.inl ⟨by rfl, ?_⟩) hHeld ?_
            rotate_left
            · intro w' hSw; go_simp; try with_reducible rfl
            simp only [List.getElem_toArray, List.getElem_cons_succ, List.getElem_cons_zero, Act.put, List.setIfInBounds_toArray, List.set_cons_zero, List.set_cons_succ]
            refine wpAnyH_done (by kernel_rfl) ?_ _
            have hba := BA.out
            have hoA := OA.out
            have TR : Hid (Txt wA wA.heap.size (.slice AO 128 cO) R) := Lib.hid (Txt.own (by rw [HLR.out]; unfold maxLen; omega) (e := 5) (by rw [HLR.out]; exact hoA))
            clear OA BA Q0 hoA
            have tBW := BW.out.trans (hba.mono BW.out.size)
            have tXD := (hba.block _ (heap_lt XD.out)).trans XD.out
            have tID := (ID.out.below hba).more hba.size
            have tIT := (IT.out.below hba).more hba.size
            clear BW XD ID IT
            have BW := Lib.hid tBW
            have XD := Lib.hid tXD
            have ID := Lib.hid tID
            have IT := Lib.hid tIT
            clear tBW tXD tID tIT
            have HB2 := Lib.hid (HB.out.trans (hba.mono HB.out.size))
            clear HB hba
            have hc4 : (4 : Int) ≤ cO := by obtain ⟨A, c, e, h5, _⟩ := TR.out; injection e with e1 e2 e3; rw [HLR.out] at h5; omega
            have hcn : ¬ cO = 124 := by obtain ⟨A, c, e, h5, _⟩ := TR.out; injection e with e1 e2 e3; rw [HLR.out] at h5; omega
            have ht4 : Txt wA wA.heap.size (.slice AO 4 cO) (R.take 4) := by
              have h := TR.out
              rw [← HLR.out] at h
              exact h.cut (by rw [HLR.out]; omega)
            have ht124 : ∃ b6 o6, AO = some ⟨b6, o6, none⟩ ∧ Txt wA wA.heap.size (.slice (some ⟨b6, o6 + 124, none⟩) 4 (cO - 124)) (R.drop 124) := by
              have h := TR.out
              rw [← HLR.out] at h
              obtain ⟨b6, o6, e6, _, h6⟩ := h.sub (k := 124) (L := 4) (by omega) (by rw [HLR.out]; omega)
              rw [List.take_of_length_le (by rw [List.length_drop, HLR.out]; omega)] at h6
              exact ⟨b6, o6, e6, h6⟩
            obtain ⟨b6, o6, rfl, ht124⟩ := ht124
            have HT4 := Lib.hid ht4
            have HT124 := Lib.hid ht124
            obtain ⟨x, hx⟩ : ∃ x, x = headG R := ⟨_, rfl⟩
            obtain ⟨y, hy⟩ : ∃ y, y = tailG R := ⟨_, rfl⟩
            have HX : Hid (leN ((R.take 4).take 4) = x) := Lib.hid (by rw [List.take_take]; exact hx.symm)
            have HY : Hid (leN ((R.drop 124).take 4) = y) := Lib.hid (by rw [List.take_of_length_le (by rw [List.length_drop, HLR.out]; omega)]; exact hy.symm)
            rw [← hx, ← hy] at HMX HMM
            clear ht4 ht124 TR hx hy
            go_wp2_with fail
            have Q1 := Lib.hid (Below.refl wA.heap.size wA).drew
            refine wp_region_held_drew (S := fun v => Below wA.heap.size wA v) (by kernel_rfl) Q1.out (fun hHeld => ?_)
            refine wpAnyH_take (i := 0) (v := ?_) rfl (by kernel_rfl) (by kernel_rfl) (by kernel_rfl) (fun _ _ _ h => h) (Or.inl ⟨by rfl, ?_⟩) hHeld ?_
            rotate_left
            · intro w' hSw; go_simp; try with_reducible rfl
            simp only [List.getElem_toArray, List.getElem_cons_succ, List.getElem_cons_zero, Act.put, List.setIfInBounds_toArray, List.set_cons_zero, List.set_cons_succ]
            refine wpAnyH_take (i := 1) (v := ?_) rfl (by kernel_rfl) (by kernel_rfl) (by kernel_rfl) (fun _ _ _ h => h) (Or.inl ⟨by rfl, ?_⟩) hHeld ?_
            rotate_left
            · intro w' hSw; go_simp; try with_reducible rfl
            simp only [List.getElem_toArray, List.getElem_cons_succ, List.getElem_cons_zero, Act.put, List.setIfInBounds_toArray, List.set_cons_zero, List.set_cons_succ]
            refine wpAnyH_take (i := 3) (v := ?_) rfl (by kernel_rfl) (by kernel_rfl) (by kernel_rfl) (fun _ _ _ h => h) (Or.inl ⟨by rfl, ?_⟩) hHeld ?_
            rotate_left
            · intro w' hSw; go_simp; try with_reducible rfl
            simp only [List.getElem_toArray, List.getElem_cons_succ, List.getElem_cons_zero, Act.put, List.setIfInBounds_toArray, List.set_cons_zero, List.set_cons_succ]
            refine wpAnyH_take (i := 4) (v := ?_) rfl (by kernel_rfl) (by kernel_rfl) (by kernel_rfl) (fun _ _ _ h => h) (Or.inl ⟨by rfl, ?_⟩) hHeld ?_
            rotate_left
            · intro w' hSw; go_simp; try with_reducible rfl
            simp only [List.getElem_toArray, List.getElem_cons_succ, List.getElem_cons_zero, Act.put, List.setIfInBounds_toArray, List.set_cons_zero, List.set_cons_succ]
            refine wpAnyH_ready (rs := [2]) (by kernel_rfl) (by simp) ?_
            refine AllReadyH.cons rfl (fun K hK => ?_) AllReadyH.nil
            go_simp
            refine (lnum_any _ _ _ ((HT4.out.below Q1.out).more Q1.out.size) (by rw [List.length_take, HLR.out]; omega)).mono ?_
            rintro e wB ⟨rfl, bB⟩
            have BB := Lib.hid (Q1.out.trans (bB.mono Q1.out.size))
            clear bB
            rw [HX.out]
            try go_wp2_with fail
            refine hK.out _ _ ?_ (fun hHeld => ?_)
            · exact BB.out
            clear hK K
            try simp only [List.getElem_toArray, List.getElem_cons_succ, List.getElem_cons_zero, Act.put, List.setIfInBounds_toArray, List.set_cons_zero, List.set_cons_succ]
            refine wpAnyH_ready (rs := [5]) (by kernel_rfl) (by simp) ?_
            refine AllReadyH.cons rfl (fun K hK => ?_) AllReadyH.nil
            go_simp
            refine (lnum_any _ _ _ ((HT124.out.below BB.out).more BB.out.size) (by rw [List.length_drop, HLR.out]; omega)).mono ?_
            rintro e wC ⟨rfl, bC⟩
            have BC := Lib.hid (BB.out.trans (bC.mono BB.out.size))
            clear bC
            rw [HY.out]
            try go_wp2_with fail
            refine hK.out _ _ ?_ (fun hHeld => ?_)
            · exact BC.out
            clear hK K
            try simp only [List.getElem_toArray, List.getElem_cons_succ, List.getElem_cons_zero, Act.put, List.setIfInBounds_toArray, List.set_cons_zero, List.set_cons_succ]
            refine wpAnyH_take (i := 6) (v := ?_) rfl (by kernel_rfl) (by kernel_rfl) (by kernel_rfl) (fun _ _ _ h => h) (Or.inl ⟨by rfl, ?_⟩) hHeld ?_
            rotate_left
            · intro w' hSw; go_simp; try with_reducible rfl
            simp only [List.getElem_toArray, List.getElem_cons_succ, List.getElem_cons_zero, Act.put, List.setIfInBounds_toArray, List.set_cons_zero, List.set_cons_succ]
            refine wpAnyH_take (i := 7) (v := ?_) rfl (by kernel_rfl) (by kernel_rfl) (by kernel_rfl) (fun _ _ _ h => h) (Or.inl ⟨by rfl, ?_⟩) hHeld ?_
            rotate_left
            · intro w' hSw; go_simp; try with_reducible rfl
            simp only [List.getElem_toArray, List.getElem_cons_succ, List.getElem_cons_zero, Act.put, List.setIfInBounds_toArray, List.set_cons_zero, List.set_cons_succ]
            refine wpAnyH_done (by kernel_rfl) ?_ _
            have hM := HMX.out
            obtain ⟨hx1, hy1⟩ := HMM.out
            have hp1 := HP1.out
            have hnl := HN.out
            have HC := Lib.hid (HB2.out.trans (BC.out.mono HB2.out.size))
            have hx2 : decide (n ≤ x) = false := decide_eq_false (by omega)
            have hx3 : decide ((n : Int) ≤ x) = false := decide_eq_false (by omega)
            have hy2 : decide (n ≤ y) = false := decide_eq_false (by omega)
            have hy3 : decide ((n : Int) ≤ y) = false := decide_eq_false (by omega)
            have hx4 : (x : Int) ≤ n := by omega
            have hy4 : (y : Int) ≤ n := by omega
            have hnb := HNB.out
            generalize mostL g (S.take i) = M at hM hnb
            clear BB BC Q1 HMX HMM HNB
            cases nb with
            | true =>
              have hnm : n < M + 3 := of_decide_eq_true hnb.symm
              have HZ : Hid (decide (n < mostL g (S.take (i + 1)) + 3) = true) := Lib.hid (decide_eq_true (by omega))
              clear hM hnb hnm hp1
              go_wp2_with fail
              go_roundw
              case measure => simp [intOf]; omega
              case rel => exact ⟨i + 1, by omega, congrArg Value.bool HZ.out.symm, by go_num, HC.out⟩
            | false =>
              have hnm : ¬ n < M + 3 := of_decide_eq_false hnb.symm
              by_cases k1 : (n : Int) - x < 3
              · have k2 : decide ((n : Int) - x < 3) = true := decide_eq_true k1
                have HZ : Hid (decide (n < mostL g (S.take (i + 1)) + 3) = true) := Lib.hid (decide_eq_true (by omega))
                clear hM hnb hnm hp1 k1
                go_wp2_with fail
                go_roundw
                case measure => simp [intOf]; omega
                case rel => exact ⟨i + 1, by omega, congrArg Value.bool HZ.out.symm, by go_num, HC.out⟩
              · have k2 : decide ((n : Int) - x < 3) = false := decide_eq_false k1
                by_cases k3 : (n : Int) - y < 3
                · have k4 : decide ((n : Int) - y < 3) = true := decide_eq_true k3
                  have HZ : Hid (decide (n < mostL g (S.take (i + 1)) + 3) = true) := Lib.hid (decide_eq_true (by omega))
                  clear hM hnb hnm hp1 k1 k3
                  go_wp2_with fail
                  go_roundw
                  case measure => simp [intOf]; omega
                  case rel => exact ⟨i + 1, by omega, congrArg Value.bool HZ.out.symm, by go_num, HC.out⟩
                · have k4 : decide ((n : Int) - y < 3) = false := decide_eq_false k3
                  have HZ : Hid (decide (n < mostL g (S.take (i + 1)) + 3) = false) := Lib.hid (decide_eq_false (by omega))
                  clear hM hnb hnm hp1 k1 k3
                  go_wp2_with fail
                  go_roundw
                  case measure => simp [intOf]; omega
                  case rel => exact ⟨i + 1, by omega, congrArg Value.bool HZ.out.symm, by go_num, HC.out⟩
          · obtain rfl : i = 16 := by omega
            have hlt' : ¬ (16 : Int) < 16 := by omega
            rw [List.take_of_length_le (by rw [HSL.out]; exact Nat.le_refl _), decide_eq_true (by have := HP2.out; omega : n < mostL g S + 3)]
            have hn4 : n < 4294967296 := by have := HN.out; omega
            obtain ⟨k0, k1⟩ := cell2_of XD.out
            clear hlt hi
            go_wp2_with fail
            refine (sput_any _ _ ss ws n t hn4 wr ID.out IT.out).mono ?_
            rintro e w4 ⟨d4, rfl, hd4, b4⟩
            obtain ⟨y1, y2, rfl, hy1, hy2⟩ := id hd4
            obtain ⟨A6, n6, c6, rfl⟩ := secs_any hy1
            obtain ⟨A7, n7, c7, rfl⟩ := wts_any hy2
            have DX := Lib.hid hd4
            clear hd4 hy1 hy2 k0 k1 hlt'
            have tBW := BW.out.trans (b4.mono BW.out.size)
            have tXD := (b4.block _ (heap_lt XD.out)).trans XD.out
            have tID := (ID.out.below b4).more b4.size
            have tIT := (IT.out.below b4).more b4.size
            clear BW XD ID IT
            have BW := Lib.hid tBW
            have XD := Lib.hid tXD
            have ID := Lib.hid tID
            have IT := Lib.hid tIT
            clear tBW tXD tID tIT b4
            obtain ⟨q4, hq4, q40, q4b⟩ : ∃ q : World, q = w4.alloc (.cells #[.slice A6 n6 c6, .slice A7 n7 c7] 29) ∧ q.heap[w4.heap.size]? = some (.cells #[.slice A6 n6 c6, .slice A7 n7 c7] 29 (0, 0)) ∧ Below w4.heap.size w4 q := ⟨_, rfl, heap_alloc_self _ _, below_new _ _⟩
            have tBW := BW.out.trans (q4b.mono BW.out.size)
            have tXD := (q4b.block _ (heap_lt XD.out)).trans XD.out
            have tID := (ID.out.below q4b).more q4b.size
            have tIT := (IT.out.below q4b).more q4b.size
            have tDX := DX.out.below q4b
            clear BW XD ID IT DX
            have BW := Lib.hid tBW
            have XD := Lib.hid tXD
            have ID := Lib.hid tID
            have IT := Lib.hid tIT
            have DX := Lib.hid tDX
            clear tBW tXD tID tIT tDX q4b
            clear q40
            by_cases hs : putE ss ws n t = 0
            · obtain ⟨hM, hok, hr, hS, hW⟩ := putE_zero hn4 hs
              rw [hs]
              rw [hS, hW] at DX
              have HPM := Lib.hid (put_may (g := n) hM hok.2.2 hr)
              obtain ⟨f, hf, hff⟩ := next_first hM hok hr
              have HFF := Lib.hid hff
              clear hs hM hok hr hS hW
              go_wp2_with fail
              rw [← hq4]
              clear hq4
              refine (sfind_any _ _ _ q4 DX.out.in_).mono ?_
              rintro e w5 ⟨z5, rfl, hr5, b5⟩
              rw [sync0 HPM.out]
              generalize findR ss (ws ++ putWs n t) = L at hf hr5
              obtain ⟨A8, c8, rfl⟩ := hr5.slice
              have RN := hr5.in_
              have tBW := BW.out.trans (b5.mono BW.out.size)
              have tXD := (b5.block _ (heap_lt XD.out)).trans XD.out
              have tID := (ID.out.below b5).more b5.size
              have tIT := (IT.out.below b5).more b5.size
              have tDX := DX.out.below b5
              clear BW XD ID IT DX
              have BW := Lib.hid tBW
              have XD := Lib.hid tXD
              have ID := Lib.hid tID
              have IT := Lib.hid tIT
              have DX := Lib.hid tDX
              clear tBW tXD tID tIT tDX b5
              have hL0 : 0 < L.length := (List.getElem?_eq_some_iff.1 hf).1
              obtain ⟨b9, o9, ua, rfl, hb9, ca0, ca1, hta⟩ := RN.at (j := 0) hL0
              have hL1 : L[0] = f := Option.some.inj ((List.getElem?_eq_getElem hL0).symm.trans hf)
              rw [hL1] at ca0
              have cf : w5.cell? ⟨b9, o9, none⟩ = some (.int .u32 (f.1 : Int)) := by simpa using ca0
              have hLI : decide ((0 : Int) < L.length) = true := decide_eq_true (by omega)
              have hLJ : (0 : Int) < L.length := by omega
              clear hr5 RN ca0 ca1 hta hL0 hL1 hf hb9
              rcases HFF.out with hA | ⟨hA, hB⟩
              · have e1 : ((f.1 : Int) == (n : Int)) = true := by rw [beq_iff_eq]; omega
                have e2 : (f.1 == n) = true := by rw [beq_iff_eq]; omega
                clear hA
                go_wp2_with fail
                go_ret
                exact ⟨rfl, BW.out⟩
              · have e1 : ((f.1 : Int) == (n : Int)) = false := by rw [beq_eq_false_iff_ne]; omega
                have e2 : (f.1 == n) = false := by rw [beq_eq_false_iff_ne]; omega
                have e3 : decide ((n : Int) < f.1) = true := decide_eq_true (by omega)
                have e4 : decide (n < f.1) = true := decide_eq_true (by omega)
                have e5 : (((slotN f.1 : Nat) : Int) != ((slotN n : Nat) : Int)) = true := by rw [bne_iff_ne]; omega
                have e6 : (slotN f.1 != slotN n) = true := by rw [bne_iff_ne]; omega
                clear hA hB
                go_wp2_with (refine (sslot_any _ _).mono ?_; rintro e w' ⟨rfl, rfl⟩)
                go_ret
                exact ⟨rfl, BW.out⟩
            · have e1 : (putE ss ws n t != 0) = true := by rw [bne_iff_ne]; exact hs
              clear hs
              generalize putE ss ws n t = E at e1 ⊢
              go_wp2_with fail
              rw [← hq4]
              clear hq4
              refine (sfind_any _ _ _ q4 DX.out.in_).mono ?_
              rintro e w5 ⟨z5, rfl, hr5, b5⟩
              clear hr5
              have tBW := BW.out.trans (b5.mono BW.out.size)
              have tXD := (b5.block _ (heap_lt XD.out)).trans XD.out
              have tID := (ID.out.below b5).more b5.size
              have tIT := (IT.out.below b5).more b5.size
              have tDX := DX.out.below b5
              clear BW XD ID IT DX
              have BW := Lib.hid tBW
              have XD := Lib.hid tXD
              have ID := Lib.hid tID
              have IT := Lib.hid tIT
              have DX := Lib.hid tDX
              clear tBW tXD tID tIT tDX b5
              go_wp2_with fail
              go_ret
              exact ⟨rfl, BW.out⟩
end Go.Proofs.Ytdjoflhcagfmiaa
