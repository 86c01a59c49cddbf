/-
  The statement SlotOther's text returns true.
  Conditions: none.
-/
import Derived.Test.YtdjoflhcagfmiaaSlotAmong
import Derived.Test.YtdjoflhcagfmiaaDevGreat
import Derived.Test.YtdjoflhcagfmiaaDevSpoil
set_option linter.unusedVariables false
set_option linter.unusedSimpArgs false
set_option maxRecDepth 100000
namespace Go.Proofs.Ytdjoflhcagfmiaa
open Go.RowKit

theorem view_nil (ss : List Bs) : viewL ss [] = ss := rfl
theorem turned_may {ss : List Bs} (h : May ss []) (n k : Nat) (x : UInt8) : May (turned ss n k x) [] :=
  ⟨by rw [turned, List.length_modify]; exact h.n, by simp, fun s hs => by
    obtain ⟨j, hj⟩ := List.mem_iff_getElem?.1 hs
    rw [turned, List.getElem?_modify] at hj
    cases hs2 : ss[j]? with
    | none => rw [hs2] at hj; cases hj
    | some s2 =>
      rw [hs2] at hj
      have hl := h.s s2 (List.mem_iff_getElem?.2 ⟨j, hs2⟩)
      have e := Option.some.inj hj
      rw [← e]
      show (if n = j then s2.modify k _ else s2).length = 128
      split
      · rw [List.length_modify]; exact hl
      · exact hl, by simp⟩
theorem turned_slot {ss : List Bs} (n k : Nat) (x : UInt8) {m : Nat} (hm : m = 0 ∨ m = 16) (h : m ≠ n / 16 * 16) (hn : n < 32) : slotS (turned ss n k x) m = slotS ss m := by
  refine slotS_eq fun i hi => ?_
  have hne : n ≠ m + i := by omega
  rw [turned, List.getElem?_modify]
  cases hx : ss[m + i]? with
  | none => rfl
  | some s => simp [hne]
theorem turned_find {ss : List Bs} (h : May ss []) (n k : Nat) (x : UInt8) (hn : n < 32) {r : Rc} (hr : slotN r.1 ≠ n / 16 * 16) : r ∈ findR (turned ss n k x) [] ↔ r ∈ findR ss [] := by
  rw [findR_may (turned_may h n k x), findR_may h, view_nil, view_nil, find_slot (turned_may h n k x), find_slot h, halfL_def, halfL_def, turned_slot n k x (slotN_cases _) hr hn]
theorem findR_le (ss : List Bs) (ws : List Wr) : (findR ss ws).length ≤ 2 := by
  rw [findR]
  split
  · exact find_length _
  · simp

set_option maxHeartbeats 8000000 in
theorem walk_other (d : Value) (ss : List Bs) (ws : List Wr) (n k : Int) (x : UInt8) (w : World) (h : DiskIn w w.heap.size d ss ws) :
    Calls Try.prog 6 #[d, .int .i64 n, .int .i64 k, .int .u8 (x.toNat : Int)] w fun e w' => e = .returned (.bool true) ∧ Below w.heap.size w w' := by
  obtain ⟨v1, v2, rfl, h1, h2⟩ := id h
  have H := Lib.hid h
  obtain ⟨A2, c2, rfl, -, -, -, -⟩ := h2
  have q0 := heap_alloc_self w (.cells #[v1, .slice A2 ws.length c2] 29)
  have qb := below_new w (.cells #[v1, .slice A2 ws.length c2] 29)
  clear h1 h
  go_enter Try.func6, Try.ntmps6
  go_wp2_with fail
  generalize w.alloc (.cells #[v1, .slice A2 ws.length c2] 29) = q at q0 qb ⊢
  refine (alive6 q).mono ?_
  rintro e w1 ⟨rfl, b1⟩
  have B1 := Lib.hid (qb.trans (b1.mono qb.size))
  have C1 := Lib.hid ((b1.block _ (heap_lt q0)).trans q0)
  clear q0 qb b1
  obtain ⟨k0, k1⟩ := cell2_of C1.out
  go_wp2_with fail
  refine (great_any _ ss ws w1 ((H.out.below B1.out).more B1.out.size)).mono ?_
  rintro e w2 ⟨⟨gr, rfl⟩, b2⟩
  have B2 := Lib.hid (B1.out.trans (b2.mono B1.out.size))
  have C2 := Lib.hid ((b2.block _ (heap_lt C1.out)).trans C1.out)
  clear k0 k1 b2
  cases gr with
  | true =>
    go_wp2_with fail
    go_ret
    exact ⟨rfl, B2.out⟩
  | false =>
    obtain ⟨k0, k1⟩ := cell2_of C2.out
    by_cases hw : 0 < ws.length
    · have hw' : (0 : Int) < ws.length := by omega
      go_wp2_with fail
      go_ret
      exact ⟨rfl, B2.out⟩
    · have hw0 : ws = [] := List.eq_nil_of_length_eq_zero (by omega)
      have hw' : ¬ (0 : Int) < ws.length := by omega
      have HW0 := Lib.hid hw0
      clear hw hw0
      go_wp2_with fail
      refine (sfind_any _ ss ws w2 ((H.out.below B2.out).more B2.out.size)).mono ?_
      rintro e w3 ⟨z3, rfl, hr3, b3⟩
      have B3 := Lib.hid (B2.out.trans (b3.mono B2.out.size))
      have C3 := Lib.hid ((b3.block _ (heap_lt C2.out)).trans C2.out)
      obtain ⟨A3, c3, rfl⟩ := hr3.slice
      have R3 := Lib.hid hr3.in_
      clear k0 k1 hr3 b3
      obtain ⟨k0, k1⟩ := cell2_of C3.out
      go_wp2_with fail
      refine (spoil_any _ ss ws n k x w3 ((H.out.below B3.out).more B3.out.size)).mono ?_
      rintro e w4 ⟨d4, rfl, hd4, b4⟩
      have B4 := Lib.hid (B3.out.trans (b4.mono B3.out.size))
      have R4 := Lib.hid ((R3.out.below b4).more b4.size)
      have D4 := Lib.hid hd4.in_
      obtain ⟨y1, y2, rfl, hy1, hy2⟩ := hd4
      obtain ⟨A5, n5, c5, rfl⟩ := secs_any hy1
      obtain ⟨A6, n6, c6, rfl⟩ := wts_any hy2
      have q4 := heap_alloc_self w4 (.cells #[.slice A5 n5 c5, .slice A6 n6 c6] 29)
      have q4b := below_new w4 (.cells #[.slice A5 n5 c5, .slice A6 n6 c6] 29)
      have QB := Lib.hid (B4.out.trans (q4b.mono B4.out.size))
      have Q4 := Lib.hid q4
      have DQ := Lib.hid ((D4.out.below q4b).more q4b.size)
      have RQ := Lib.hid ((R4.out.below q4b).more q4b.size)
      clear k0 k1 b4 hy1 hy2 q4 q4b
      by_cases hm : mayB ss ws = true
      · by_cases hs : spoilE ss ws n k = 0
        · have hE : syncE ss ws = 0 := by rw [syncE, hm]; rfl
          rw [hE, hs]
          have hM := mayB_iff.1 hm
          have hat : atE ss ws n = 0 ∧ 0 ≤ k ∧ k < 128 := by
            by_cases ha : atE ss ws n = 0
            · refine ⟨ha, ?_⟩
              rw [spoilE, if_pos ha] at hs
              split at hs
              · assumption
              · cases hs
            · rw [spoilE, if_neg ha] at hs
              exact absurd hs ha
          obtain ⟨_, hn0, hn1⟩ := atE_may hat.1
          obtain ⟨i, hi⟩ : ∃ i : Nat, n = (i : Int) := ⟨n.toNat, by omega⟩
          subst hi
          have hi32 : i < 32 := by omega
          have hS : spoilS ss ws (i : Int) k x = turned ss i k.toNat x := by rw [spoilS, hs, if_pos rfl]; rfl
          have hW : spoilW ss ws (i : Int) k = ws := by rw [spoilW, hs, if_pos rfl]
          have hw0 := HW0.out
          subst hw0
          have hF : ∀ r : Rc, slotN r.1 ≠ i / 16 * 16 → (r ∈ findR (turned ss i k.toNat x) [] ↔ r ∈ findR ss []) := fun r hr => turned_find hM i k.toNat x hi32 hr
          rw [hS, hW] at DQ
          have HF := Lib.hid hF
          have HT := Lib.hid (sync0 (turned_may hM i k.toNat x))
          clear hm hs hE hM hat hS hW hF
          go_wp2_with fail
          generalize w4.alloc (.cells #[.slice A5 n5 c5, .slice A6 n6 c6] 29) = q4 at DQ RQ QB ⊢
          refine (sfind_any _ _ _ q4 DQ.out).mono ?_
          rintro e w5 ⟨z5, rfl, hr5, b5⟩
          rw [HT.out]
          obtain ⟨A7, c7, rfl⟩ := hr5.slice
          have R5 := Lib.hid hr5.in_
          have RW := Lib.hid ((RQ.out.below b5).more b5.size)
          have B5 := Lib.hid (QB.out.trans (b5.mono QB.out.size))
          have hl1 := findR_le ss []
          have hl2 := findR_le (turned ss i k.toNat x) []
          generalize findR (turned ss i k.toNat x) [] = l2 at R5 HF hl2 ⊢
          generalize findR ss [] = l1 at RW HF hl1 ⊢
          obtain ⟨M, hM⟩ : ∃ M, M = i / 16 * 16 := ⟨_, rfl⟩
          rw [← hM] at HF
          have hMI : (i : Int) / 16 * 16 = M := by omega
          have LB : Hid (Below w5.heap.size w5 w5) := Lib.hid (Below.refl _ _)
          clear hr5 b5 hM
          go_wp2_with fail
          go_loopw [16] (fun s16 wr => ∃ j : Nat, j ≤ l1.length ∧ s16 = .int .i64 j ∧ Below w5.heap.size w5 wr) (fun s16 _ => l1.length - (intOf s16).toNat)
          case atStart => exact ⟨0, Nat.zero_le _, rfl, LB.out⟩
          case round =>
            obtain ⟨j, hj, rfl, hb⟩ := hrel
            have HB := Lib.hid hb
            clear hb
            by_cases hlt : j < l1.length
            · have hlt' : (j : Int) < l1.length := by omega
              obtain ⟨b, off, u, rfl, hb0, hc0, hc1, ht⟩ := RW.out.at hlt
              have hc0 := (HB.out.cell (p := ⟨b, _, none⟩) hb0).trans hc0
              have hc1 := (HB.out.cell (p := ⟨b, _, none⟩) hb0).trans hc1
              have HT := Lib.hid ((ht.below HB.out).more HB.out.size)
              obtain ⟨A8, k8, q8, h8⟩ : ∃ A n c, u = .slice A n c := by obtain ⟨A, c, e, _⟩ := ht; exact ⟨A, _, c, e⟩
              subst h8
              have HMEM := Lib.hid (List.getElem_mem hlt)
              generalize l1[j] = r at hc0 HT HMEM
              clear ht
              by_cases hs : slotN r.1 = M
              · have hs' : ((slotN r.1 : Nat) : Int) = M := by omega
                go_wp2_with (refine (sslot_any r.1 _).mono ?_; rintro e w' ⟨rfl, rfl⟩)
                go_roundw
                case measure => simp [intOf]; omega
                case rel => exact ⟨j + 1, by omega, by go_num, HB.out⟩
              · have hs' : ¬ ((slotN r.1 : Nat) : Int) = M := by omega
                have hin : decide (r ∈ l2) = true := decide_eq_true ((HF.out r hs).2 HMEM.out)
                have HRO := Lib.hid ((R5.out.below HB.out).more HB.out.size)
                go_wp2_with (refine (sslot_any r.1 _).mono ?_; rintro e w' ⟨rfl, rfl⟩)
                refine (among6 _ _ l2 r wr HRO.out ⟨_, rfl, HT.out⟩ (by omega)).mono ?_
                rintro e w6 ⟨rfl, b6⟩
                rw [hin]
                have B6 := Lib.hid (HB.out.trans (b6.mono HB.out.size))
                clear b6
                go_wp2_with fail
                go_roundw
                case measure => simp [intOf]; omega
                case rel => exact ⟨j + 1, by omega, by go_num, B6.out⟩
            · obtain rfl : j = l1.length := by omega
              have hlt' : ¬ (l1.length : Int) < l1.length := by omega
              have LB : Hid (Below w5.heap.size w5 wr) := HB
              clear hlt'
              go_wp2_with fail
              go_loopw [17] (fun s17 wr => ∃ j : Nat, j ≤ l2.length ∧ s17 = .int .i64 j ∧ Below w5.heap.size w5 wr) (fun s17 _ => l2.length - (intOf s17).toNat)
              case atStart => exact ⟨0, Nat.zero_le _, rfl, LB.out⟩
              case round =>
                obtain ⟨j, hj, rfl, hb⟩ := hrel
                have HB := Lib.hid hb
                clear hb
                by_cases hlt : j < l2.length
                · have hlt' : (j : Int) < l2.length := by omega
                  obtain ⟨b, off, u, rfl, hb0, hc0, hc1, ht⟩ := R5.out.at hlt
                  have hc0 := (HB.out.cell (p := ⟨b, _, none⟩) hb0).trans hc0
                  have hc1 := (HB.out.cell (p := ⟨b, _, none⟩) hb0).trans hc1
                  have HT := Lib.hid ((ht.below HB.out).more HB.out.size)
                  obtain ⟨A8, k8, q8, h8⟩ : ∃ A n c, u = .slice A n c := by obtain ⟨A, c, e, _⟩ := ht; exact ⟨A, _, c, e⟩
                  subst h8
                  have HMEM := Lib.hid (List.getElem_mem hlt)
                  generalize l2[j] = r at hc0 HT HMEM
                  clear ht
                  by_cases hs : slotN r.1 = M
                  · have hs' : ((slotN r.1 : Nat) : Int) = M := by omega
                    go_wp2_with (refine (sslot_any r.1 _).mono ?_; rintro e w' ⟨rfl, rfl⟩)
                    go_roundw
                    case measure => simp [intOf]; omega
                    case rel => exact ⟨j + 1, by omega, by go_num, HB.out⟩
                  · have hs' : ¬ ((slotN r.1 : Nat) : Int) = M := by omega
                    have hin : decide (r ∈ l1) = true := decide_eq_true ((HF.out r hs).1 HMEM.out)
                    have HRO := Lib.hid ((RW.out.below HB.out).more HB.out.size)
                    go_wp2_with (refine (sslot_any r.1 _).mono ?_; rintro e w' ⟨rfl, rfl⟩)
                    refine (among6 _ _ l1 r wr HRO.out ⟨_, rfl, HT.out⟩ (by omega)).mono ?_
                    rintro e w6 ⟨rfl, b6⟩
                    rw [hin]
                    have B6 := Lib.hid (HB.out.trans (b6.mono HB.out.size))
                    clear b6
                    go_wp2_with fail
                    go_roundw
                    case measure => simp [intOf]; omega
                    case rel => exact ⟨j + 1, by omega, by go_num, B6.out⟩
                · obtain rfl : j = l2.length := by omega
                  have hlt' : ¬ (l2.length : Int) < l2.length := by omega
                  go_wp2_with fail
                  go_ret
                  exact ⟨rfl, B5.out.trans (HB.out.mono B5.out.size)⟩
        · have hs' : ¬ spoilE ss ws n k = 0 := hs
          have hE : syncE ss ws = 0 := by rw [syncE, hm]; rfl
          rw [hE]
          clear hm hE
          go_wp2_with fail
          go_ret
          exact ⟨rfl, QB.out⟩
      · have hE : syncE ss ws = 8 := by rw [syncE, if_neg hm]
        rw [hE]
        clear hm hE
        go_wp2_with fail
        go_ret
        exact ⟨rfl, QB.out⟩
end Go.Proofs.Ytdjoflhcagfmiaa
