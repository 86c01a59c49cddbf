/-
  The statement TrackWays's text returns true.
  Conditions: none.
-/
import Derived.Test.YtnhglgpmmipjaaaTrkWaysM
set_option linter.unusedVariables false
set_option linter.unusedSimpArgs false
set_option maxRecDepth 100000
namespace Go.Proofs.Ytnhglgpmmipjaaa
open Go.RowKit

set_option maxHeartbeats 4000000 in
theorem walk_ways (hp : TrkSaid) (v : Value) (s : Sec) (w : World) (h : SecV w w.heap.size v s) :
    Calls Try.prog 7 #[v] w fun e w' => e = .returned (.bool true) ∧ Below w.heap.size w w' := by
  have H := Lib.hid h
  obtain ⟨u, rfl, hu⟩ := h
  obtain ⟨A, c, rfl, -, -⟩ := hu.slice
  clear hu
  obtain ⟨S, hS⟩ : ∃ S, S = s := ⟨_, rfl⟩
  have HS := Lib.hid hS
  obtain ⟨id, pt, l⟩ := s
  dsimp only at H ⊢
  obtain ⟨n, hn⟩ : ∃ n, n = l.length := ⟨_, rfl⟩
  have HN : Hid (n = S.2.2.length) := Lib.hid (by rw [hS, hn])
  rw [← hn, ← hS] at H
  rw [← hn]
  clear hn hS
  have hq0 := heap_alloc_self w (.cells #[.int .i64 id, .int .i64 pt, .slice A n c] 33)
  have hqb := below_new w (.cells #[.int .i64 id, .int .i64 pt, .slice A n c] 33)
  go_enter Try.func7, Try.ntmps7
  go_upto_region 1 with fail
  generalize w.alloc (.cells #[.int .i64 id, .int .i64 pt, .slice A n c] 33) = q at hq0 hqb ⊢
  have X0 := Lib.hid hq0
  have BW := Lib.hid hqb
  clear hq0 hqb
  generalize w.heap.size = p at X0 ⊢
  go_wp2_with fail
  refine (alive7 hp q).mono ?_
  rintro e w1 ⟨rfl, b1⟩
  have B1 := Lib.hid (BW.out.trans (b1.mono BW.out.size))
  have X1 := Lib.hid ((b1.block _ (heap_lt X0.out)).trans X0.out)
  clear b1
  obtain ⟨k0, k1, k2⟩ := cell3_of X1.out
  by_cases hl : 1000 < n
  · have hl' : (1000 : Int) < n := by omega
    go_wp2_with fail
    go_ret
    exact ⟨rfl, B1.out⟩
  have hl' : ¬ (1000 : Int) < n := by omega
  have HL : Hid (n ≤ 1000) := Lib.hid (by omega)
  clear hl
  go_wp2_with fail
  go_loopw [4, 5] (fun s4 s5 wr => ∃ (a : Int) (i N : Nat), a + 1 = i ∧ i ≤ 6 ∧ s5 = .int .i64 a ∧ s4 = .int .i64 (N : Int) ∧ N = cntA S i ∧ wr.heap[p]? = some (.cells #[.int .i64 id, .int .i64 pt, .slice A n c] 33 (0, 0)) ∧ Below w.heap.size w wr) (fun _ s5 _ => (5 - intOf s5).toNat)
  case atStart => exact ⟨-1, 0, 0, by decide, by decide, rfl, rfl, rfl, X1.out, B1.out⟩
  case round =>
    obtain ⟨a, i, N, hai, hi, rfl, rfl, hN, hx, hb⟩ := hrel
    have HAI := Lib.hid hai
    have HI := Lib.hid hi
    have HNA := Lib.hid hN
    have XA := Lib.hid hx
    have BA := Lib.hid hb
    clear hN hx hb k0 k1 k2
    by_cases hlt : a < 5
    · go_wp2_with fail
      go_loopw [4, 6] (fun s4 s6 wr => ∃ (b : Int) (j M : Nat), b + 1 = j ∧ j ≤ 6 ∧ s6 = .int .i64 b ∧ s4 = .int .i64 (M : Int) ∧ M = N + cntB S a j ∧ wr.heap[p]? = some (.cells #[.int .i64 id, .int .i64 pt, .slice A n c] 33 (0, 0)) ∧ Below w.heap.size w wr) (fun _ s6 _ => (5 - intOf s6).toNat)
      case atStart => exact ⟨-1, 0, N, by decide, by decide, rfl, rfl, rfl, XA.out, BA.out⟩
      case round =>
        obtain ⟨b, j, M, hbj, hj, rfl, rfl, hM, hx, hb⟩ := hrel
        have HBJ := Lib.hid hbj
        have HJ := Lib.hid hj
        have HMA := Lib.hid hM
        have XB := Lib.hid hx
        have BB := Lib.hid hb
        have HMB : Hid (M ≤ 100) := Lib.hid (by have := cntA_le S i; have := cntB_le S a j; have := HNA.out; omega)
        clear hM hb
        obtain ⟨k0, k1, k2⟩ := cell3_of hx
        clear hx
        by_cases hlt2 : b < 5
        · have HSYE := Lib.hid (thrE_sym S a b)
          have HSYL := Lib.hid (thrL_sym S a b)
          go_wp2_with fail
          refine (hp.through _ S a b wr ((H.out.below BB.out).more BB.out.size)).mono ?_
          rintro e w2 ⟨rfl, b0⟩
          have Bw2 := Lib.hid (BB.out.trans (b0.mono BB.out.size))
          have Xw2 := Lib.hid ((b0.block _ (heap_lt XB.out)).trans XB.out)
          clear b0 k0 k1 k2
          obtain ⟨k0, k1, k2⟩ := cell3_of Xw2.out
          go_wp2_with fail
          refine (hp.through _ S b a w2 ((H.out.below Bw2.out).more Bw2.out.size)).mono ?_
          rintro e w3 ⟨rfl, b0⟩
          have Bw3 := Lib.hid (Bw2.out.trans (b0.mono Bw2.out.size))
          have Xw3 := Lib.hid ((b0.block _ (heap_lt Xw2.out)).trans Xw2.out)
          clear b0 k0 k1 k2
          obtain ⟨k0, k1, k2⟩ := cell3_of Xw3.out
          rw [HSYE.out, HSYL.out]
          have HCB : Hid (cntB S a (j + 1) = cntB S a j + if thrE S a b = 0 then 1 else 0) := Lib.hid (by rw [cntB, show (j : Int) - 1 = b from by have := HBJ.out; omega])
          have HOUT : Hid (thrE S a b = 0 → outE S a (thrL S a b) = 0 ∧ outV S a (thrL S a b) = b ∧ 0 ≤ a ∧ a < n ∧ a ≠ b) := Lib.hid (fun h => by rw [HN.out]; exact out_of_thr h)
          clear HSYE HSYL
          generalize thrE S a b = E at HCB HOUT ⊢
          generalize thrL S a b = L at HOUT ⊢
          by_cases hE : E = 0
          · subst hE
            have HC1 : Hid (cntB S a (j + 1) = cntB S a j + 1) := Lib.hid (by have := HCB.out; simpa using this)
            obtain ⟨o1, o2, o3, o4, o5⟩ := HOUT.out rfl
            have HO1 := Lib.hid o1
            have HO2 := Lib.hid o2
            have hab : (a == b) = false := by simpa using o5
            have ha0 : decide (a < 0) = false := decide_eq_false (by omega)
            have han : decide ((n : Int) ≤ a) = false := decide_eq_false (by omega)
            have hmb := HMB.out
            clear o1 o2 o3 o4 o5
            go_wp2_with fail
            refine (hp.out _ S a L w3 ((H.out.below Bw3.out).more Bw3.out.size)).mono ?_
            rintro e w4 ⟨rfl, b0⟩
            have Bw4 := Lib.hid (Bw3.out.trans (b0.mono Bw3.out.size))
            have Xw4 := Lib.hid ((b0.block _ (heap_lt Xw3.out)).trans Xw3.out)
            clear b0 k0 k1 k2
            obtain ⟨k0, k1, k2⟩ := cell3_of Xw4.out
            rw [HO1.out, HO2.out]
            go_wp2_with fail
            go_roundw
            case measure => simp [intOf]; omega
            case rel => exact ⟨b + 1, j + 1, M + 1, by omega, by omega, by go_num, by go_num, by rw [HC1.out, HMA.out, Nat.add_assoc], Xw4.out, Bw4.out⟩
          · have hEb : (E != 0) = true := by simpa using hE
            have HE := Lib.hid hE
            clear hE
            go_wp2_with fail
            go_roundw
            case measure => simp [intOf]; omega
            case rel => exact ⟨b + 1, j + 1, M, by omega, by omega, by go_num, rfl, by rw [HCB.out, HMA.out, if_neg HE.out, Nat.add_zero], Xw3.out, Bw3.out⟩
        · have HJ6 : Hid (M = cntA S (i + 1)) := Lib.hid (by rw [HMA.out, HNA.out, show j = 6 from by omega, cntA, show (i : Int) - 1 = a from by omega])
          go_wp2_with fail
          go_loopw [13] (fun s13 wr => ∃ (t : Int) (j : Nat), t + 1 = j ∧ j ≤ 6 ∧ s13 = .int .i64 t ∧ wr.heap[p]? = some (.cells #[.int .i64 id, .int .i64 pt, .slice A n c] 33 (0, 0)) ∧ Below w.heap.size w wr) (fun s13 _ => (5 - intOf s13).toNat)
          case atStart => exact ⟨-1, 0, by decide, by decide, rfl, XB.out, BB.out⟩
          case round =>
            obtain ⟨t, j, htj, hj6, rfl, hx, hb⟩ := hrel
            have XC := Lib.hid hx
            have BC := Lib.hid hb
            clear k0 k1 k2 hb
            obtain ⟨k0, k1, k2⟩ := cell3_of hx
            clear hx
            by_cases hlt3 : t < 5
            · go_wp2_with fail
              refine (hp.out _ S a t wr ((H.out.below BC.out).more BC.out.size)).mono ?_
              rintro e w5 ⟨rfl, b0⟩
              have Bw5 := Lib.hid (BC.out.trans (b0.mono BC.out.size))
              have Xw5 := Lib.hid ((b0.block _ (heap_lt XC.out)).trans XC.out)
              clear b0 k0 k1 k2
              obtain ⟨k0, k1, k2⟩ := cell3_of Xw5.out
              have HTO : Hid (outE S a t = 0 → thrE S a (outV S a t) = 0 ∧ thrL S a (outV S a t) = t) := Lib.hid (fun h => thr_of_out h)
              generalize outE S a t = E at HTO ⊢
              generalize outV S a t = U at HTO ⊢
              by_cases hE : E = 0
              · subst hE
                obtain ⟨o1, o2⟩ := HTO.out rfl
                have HO1 := Lib.hid o1
                have HO2 := Lib.hid o2
                clear o1 o2
                go_wp2_with fail
                refine (hp.through _ S a U w5 ((H.out.below Bw5.out).more Bw5.out.size)).mono ?_
                rintro e w6 ⟨rfl, b0⟩
                have Bw6 := Lib.hid (Bw5.out.trans (b0.mono Bw5.out.size))
                have Xw6 := Lib.hid ((b0.block _ (heap_lt Xw5.out)).trans Xw5.out)
                clear b0 k0 k1 k2
                obtain ⟨k0, k1, k2⟩ := cell3_of Xw6.out
                rw [HO1.out, HO2.out]
                go_wp2_with fail
                go_roundw
                case measure => simp [intOf]; omega
                case rel => exact ⟨t + 1, j + 1, by omega, by omega, by go_num, Xw6.out, Bw6.out⟩
              · have hEb : (E != 0) = true := by simpa using hE
                clear hE
                go_wp2_with fail
                go_roundw
                case measure => simp [intOf]; omega
                case rel => exact ⟨t + 1, j + 1, by omega, by omega, by go_num, Xw5.out, Bw5.out⟩
            · go_wp2_with fail
              go_roundw
              case measure => simp [intOf]; omega
              case rel => exact ⟨a + 1, i + 1, M, by omega, by omega, by go_num, rfl, HJ6.out, XC.out, BC.out⟩
    · have hN6 : N = cntA S 6 := by rw [HNA.out, show i = 6 from by omega]
      have HN6 := Lib.hid hN6
      clear hN6
      obtain ⟨k0, k1, k2⟩ := cell3_of XA.out
      go_wp2_with fail
      refine (hp.through _ S 0 1 wr ((H.out.below BA.out).more BA.out.size)).mono ?_
      rintro e w7 ⟨rfl, b0⟩
      have Bw7 := Lib.hid (BA.out.trans (b0.mono BA.out.size))
      have Xw7 := Lib.hid ((b0.block _ (heap_lt XA.out)).trans XA.out)
      clear b0 k0 k1 k2
      obtain ⟨k0, k1, k2⟩ := cell3_of Xw7.out
      cases hsh : shapedB S with
      | false =>
        obtain ⟨o1, o2⟩ := cnt_not hsh
        obtain rfl : N = 0 := HN6.out.trans o2
        rw [o1]
        clear o1 o2 hsh
        go_wp2_with fail
        go_ret
        exact ⟨rfl, Bw7.out⟩
      | true =>
        obtain ⟨o1, o2⟩ := cnt_is hsh
        rw [o1]
        rcases o2 with ⟨o2, o3⟩ | ⟨o2, o3⟩
        · obtain rfl : N = 2 := HN6.out.trans o3
          obtain rfl : n = 2 := HN.out.trans o2
          clear o1 o2 o3 hsh
          go_wp2_with fail
          go_ret
          exact ⟨rfl, Bw7.out⟩
        · obtain rfl : N = 4 := HN6.out.trans o3
          obtain rfl : n = 3 := HN.out.trans o2
          clear o1 o2 o3 hsh
          go_wp2_with fail
          go_ret
          exact ⟨rfl, Bw7.out⟩
end Go.Proofs.Ytnhglgpmmipjaaa
