/-
  The document's own functions: May, Check.
  Conditions: none.
-/
import Derived.Test.YtdpjdobmnkadjaaRefByte
set_option linter.unusedVariables false
set_option linter.unusedSimpArgs false
namespace Go.Proofs.Ytdpjdobmnkadjaa
open Go.RowKit

set_option maxHeartbeats 8000000 in
theorem rmay_any (d : Value) (ss : List Bs) (ws : List Wr) (w : World) (hd : DiskIn w w.heap.size d ss ws) :
    Calls Try.prog 47 #[d] w fun e w' => e = .returned (.bool (mayB ss ws)) ∧ Below w.heap.size w w' := by
  obtain ⟨v1, v2, rfl, h1, h2⟩ := hd
  have H1 := Lib.hid h1
  have H2 := Lib.hid h2
  obtain ⟨A1, c1, rfl, -, -, -, -⟩ := h1
  obtain ⟨A2, c2, rfl, -, -, -, -⟩ := h2
  have hq0 := heap_alloc_self w (.cells #[.slice A1 ss.length c1, .slice A2 ws.length c2] 25)
  have Q := Lib.hid (below_new w (.cells #[.slice A1 ss.length c1, .slice A2 ws.length c2] 25))
  have C := Lib.hid hq0
  obtain ⟨k0, k1⟩ := cell2_of hq0
  have hmaxs : (ss.length : Int) ≤ 9223372036854775807 := by have := H1.out.le; unfold maxLen at *; omega
  have hmaxw : (ws.length : Int) ≤ 9223372036854775807 := by have := H2.out.le; unfold maxLen at *; omega
  clear hq0
  by_cases hn : ss.length = 32
  · by_cases hm : ws.length ≤ 256
    · have hn' : (ss.length : Int) = 32 := by omega
      have hm' : (ws.length : Int) ≤ 256 := by omega
      have HN := Lib.hid hn
      have HMX := Lib.hid hm
      clear hn hm
      go_enter Try.func47, Try.ntmps47
      go_wp2_with fail
      generalize w.alloc (.cells #[.slice A1 ss.length c1, .slice A2 ws.length c2] 25) = q at Q C k0 k1 ⊢
      clear k0 k1
      go_loopw [3, 4] (fun s3 s4 wr => ∃ (i : Nat) (g : Bool), i ≤ ss.length ∧ s4 = .int .i64 i ∧ s3 = .bool g ∧ (g = true → ∀ j, ∀ hj : j < ss.length, j < i → ss[j].length = 128) ∧ (g = false → mayB ss ws = false) ∧ wr = q) (fun _ s4 _ => ss.length - (intOf s4).toNat)
      case atStart => exact ⟨0, true, by omega, by go_num, rfl, fun _ j hj h0 => by omega, fun h => (by cases h), rfl⟩
      case round =>
        obtain ⟨i, g, hi, rfl, rfl, hyes, hno, rfl⟩ := hrel
        have YES := Lib.hid hyes
        have NO := Lib.hid hno
        clear hyes hno
        obtain ⟨k0, k1⟩ := cell2_of C.out
        cases g with
        | false =>
          by_cases hpos : (i : Int) < ss.length
          · go_wp2_with fail
            clear k0 k1
            go_loopw [3, 5] (fun s3 s5 wx => s3 = .bool false ∧ s5 = .int .i64 0 ∧ wx = wr) (fun _ _ _ => 0)
            case atStart => exact ⟨rfl, rfl, rfl⟩
            case round =>
              obtain ⟨rfl, rfl, rfl⟩ := hrel
              obtain ⟨k0, k1⟩ := cell2_of C.out
              by_cases hpos : (0 : Int) < ws.length
              · go_wp2_with fail
                go_ret
                exact ⟨by rw [NO.out (by first | rfl | trivial)]; rfl, Q.out⟩
              · have hpos' : decide ((0 : Int) < ws.length) = false := decide_eq_false hpos
                go_wp2_with fail
                go_ret
                exact ⟨by rw [NO.out (by first | rfl | trivial)]; rfl, Q.out⟩
          · have hpos' : decide ((i : Int) < ss.length) = false := decide_eq_false hpos
            go_wp2_with fail
            clear k0 k1 hpos'
            go_loopw [3, 5] (fun s3 s5 wx => s3 = .bool false ∧ s5 = .int .i64 0 ∧ wx = wr) (fun _ _ _ => 0)
            case atStart => exact ⟨rfl, rfl, rfl⟩
            case round =>
              obtain ⟨rfl, rfl, rfl⟩ := hrel
              obtain ⟨k0, k1⟩ := cell2_of C.out
              by_cases hpos : (0 : Int) < ws.length
              · go_wp2_with fail
                go_ret
                exact ⟨by rw [NO.out (by first | rfl | trivial)]; rfl, Q.out⟩
              · have hpos' : decide ((0 : Int) < ws.length) = false := decide_eq_false hpos
                go_wp2_with fail
                go_ret
                exact ⟨by rw [NO.out (by first | rfl | trivial)]; rfl, Q.out⟩
        | true =>
          by_cases hlt : i < ss.length
          · have hlt' : (i : Int) < ss.length := by omega
            obtain ⟨b, off, u, rfl, hbb, hc, ht⟩ := (H1.out.below Q.out).at hlt
            obtain ⟨A3, c3, rfl, -, -, -, -⟩ := ht
            by_cases hl : ss[i].length = 128
            · have hl' : (ss[i].length : Int) = 128 := by omega
              have HLI := Lib.hid hl
              clear hl
              go_wp2_with fail
              go_roundw
              case measure => simp [intOf]; omega
              case rel => exact ⟨i + 1, true, by omega, by go_num, rfl, fun _ j hj h' => by
                rcases Nat.lt_or_ge j i with h2 | h2
                · exact YES.out (by first | rfl | trivial) j hj h2
                · obtain rfl : j = i := by omega
                  exact HLI.out, fun h => (by cases h), by first | rfl | trivial⟩
            · have hl' : ((ss[i].length : Int) == 128) = false := by rw [beq_eq_false_iff_ne]; omega
              have HNO := Lib.hid (mayB_s (ws := ws) hlt hl)
              clear hl
              go_wp2_with fail
              go_roundw
              case measure => simp [intOf]; omega
              case rel => exact ⟨i + 1, false, by omega, by go_num, rfl, fun h => (by cases h), fun _ => HNO.out, by first | rfl | trivial⟩
          · have hpos' : decide ((i : Int) < ss.length) = false := decide_eq_false (by omega)
            go_wp2_with fail
            clear k0 k1 hpos'
            go_loopw [3, 5] (fun s3 s5 wx => ∃ (k : Nat) (g2 : Bool), k ≤ ws.length ∧ s5 = .int .i64 k ∧ s3 = .bool g2 ∧ (g2 = true → ∀ j, ∀ hj : j < ws.length, j < k → okW ws[j]) ∧ (g2 = false → mayB ss ws = false) ∧ wx = wr) (fun _ s5 _ => ws.length - (intOf s5).toNat)
            case atStart => exact ⟨0, true, by omega, by go_num, rfl, fun _ j hj h0 => by omega, fun h => (by cases h), rfl⟩
            case round =>
              obtain ⟨k, g2, hk, rfl, rfl, hy2, hn2, rfl⟩ := hrel
              have Y2 := Lib.hid hy2
              have N2 := Lib.hid hn2
              clear hy2 hn2
              obtain ⟨k0, k1⟩ := cell2_of C.out
              cases g2 with
              | false =>
                by_cases hpos : (k : Int) < ws.length
                · go_wp2_with fail
                  go_ret
                  exact ⟨by rw [N2.out (by first | rfl | trivial)]; rfl, Q.out⟩
                · have hpos' : decide ((k : Int) < ws.length) = false := decide_eq_false hpos
                  go_wp2_with fail
                  go_ret
                  exact ⟨by rw [N2.out (by first | rfl | trivial)]; rfl, Q.out⟩
              | true =>
                by_cases hlt : k < ws.length
                · have hlt' : (k : Int) < ws.length := by omega
                  obtain ⟨b, off, u, rfl, hbb, hc0, hc1, ht⟩ := (H2.out.below Q.out).at hlt
                  obtain ⟨A3, c3, rfl, -, -, -, -⟩ := ht
                  by_cases ha : 0 ≤ ws[k].1 ∧ ws[k].1 < 32
                  · have hda : decide (0 ≤ ws[k].1 ∧ ws[k].1 < 32) = true := decide_eq_true ha
                    by_cases hl : ws[k].2.length = 128
                    · have hl' : (ws[k].2.length : Int) = 128 := by omega
                      have HOK := Lib.hid (show okW ws[k] from ⟨ha.1, ha.2, hl⟩)
                      clear hl ha
                      go_wp2_with fail
                      refine (number_any _ _ _).mono ?_
                      rintro e w' ⟨rfl, rfl⟩
                      go_wp2_with fail
                      go_roundw
                      case measure => simp [intOf]; omega
                      case rel => exact ⟨k + 1, true, by omega, by go_num, rfl, fun _ j hj h' => by
                        rcases Nat.lt_or_ge j k with h2 | h2
                        · exact Y2.out (by first | rfl | trivial) j hj h2
                        · obtain rfl : j = k := by omega
                          exact HOK.out, fun h => (by cases h), by first | rfl | trivial⟩
                    · have hl' : ((ws[k].2.length : Int) == 128) = false := by rw [beq_eq_false_iff_ne]; omega
                      have HNO := Lib.hid (mayB_w (ss := ss) hlt (fun h => hl h.2.2))
                      clear hl ha
                      go_wp2_with fail
                      refine (number_any _ _ _).mono ?_
                      rintro e w' ⟨rfl, rfl⟩
                      go_wp2_with fail
                      go_roundw
                      case measure => simp [intOf]; omega
                      case rel => exact ⟨k + 1, false, by omega, by go_num, rfl, fun h => (by cases h), fun _ => HNO.out, by first | rfl | trivial⟩
                  · have hda : decide (0 ≤ ws[k].1 ∧ ws[k].1 < 32) = false := decide_eq_false ha
                    have HNO := Lib.hid (mayB_w (ss := ss) hlt (fun h => ha ⟨h.1, h.2.1⟩))
                    clear ha
                    go_wp2_with fail
                    refine (number_any _ _ _).mono ?_
                    rintro e w' ⟨rfl, rfl⟩
                    go_wp2_with fail
                    go_roundw
                    case measure => simp [intOf]; omega
                    case rel => exact ⟨k + 1, false, by omega, by go_num, rfl, fun h => (by cases h), fun _ => HNO.out, by first | rfl | trivial⟩
                · have hpos' : decide ((k : Int) < ws.length) = false := decide_eq_false (by omega)
                  have HALL := Lib.hid (mayB_all HN.out HMX.out (fun j hj => YES.out (by first | rfl | trivial) j hj (by omega)) (fun j hj => Y2.out (by first | rfl | trivial) j hj (by omega)))
                  go_wp2_with fail
                  go_ret
                  exact ⟨by rw [HALL.out]; rfl, Q.out⟩
    · have hm' : decide ((ws.length : Int) ≤ 256) = false := by rw [decide_eq_false_iff_not]; omega
      have hn' : (ss.length : Int) = 32 := by omega
      have NO := Lib.hid (mayB_m (ss := ss) hm)
      clear hm hn
      go_enter Try.func47, Try.ntmps47
      go_wp2_with fail
      generalize w.alloc (.cells #[.slice A1 ss.length c1, .slice A2 ws.length c2] 25) = q at Q C k0 k1 ⊢
      clear k0 k1
      go_loopw [3, 4] (fun s3 s4 wr => s3 = .bool false ∧ s4 = .int .i64 0 ∧ wr = q) (fun _ _ _ => 0)
      case atStart => exact ⟨rfl, rfl, rfl⟩
      case round =>
        obtain ⟨rfl, rfl, rfl⟩ := hrel
        obtain ⟨k0, k1⟩ := cell2_of C.out
        by_cases hpos : (0 : Int) < ss.length
        · go_wp2_with fail
          clear k0 k1
          go_loopw [3, 5] (fun s3 s5 wx => s3 = .bool false ∧ s5 = .int .i64 0 ∧ wx = wr) (fun _ _ _ => 0)
          case atStart => exact ⟨rfl, rfl, rfl⟩
          case round =>
            obtain ⟨rfl, rfl, rfl⟩ := hrel
            obtain ⟨k0, k1⟩ := cell2_of C.out
            by_cases hpos : (0 : Int) < ws.length
            · go_wp2_with fail
              go_ret
              exact ⟨by rw [NO.out]; rfl, Q.out⟩
            · have hpos' : decide ((0 : Int) < ws.length) = false := decide_eq_false hpos
              go_wp2_with fail
              go_ret
              exact ⟨by rw [NO.out]; rfl, Q.out⟩
        · exact (hpos (by omega)).elim
  · have hn' : ((ss.length : Int) == 32) = false := by rw [beq_eq_false_iff_ne]; omega
    have NO := Lib.hid (mayB_n (ws := ws) hn)
    clear hn
    go_enter Try.func47, Try.ntmps47
    go_wp2_with fail
    generalize w.alloc (.cells #[.slice A1 ss.length c1, .slice A2 ws.length c2] 25) = q at Q C k0 k1 ⊢
    clear k0 k1
    go_loopw [3, 4] (fun s3 s4 wr => s3 = .bool false ∧ s4 = .int .i64 0 ∧ wr = q) (fun _ _ _ => 0)
    case atStart => exact ⟨rfl, rfl, rfl⟩
    case round =>
      obtain ⟨rfl, rfl, rfl⟩ := hrel
      obtain ⟨k0, k1⟩ := cell2_of C.out
      by_cases hpos : (0 : Int) < ss.length
      · go_wp2_with fail
        clear k0 k1
        go_loopw [3, 5] (fun s3 s5 wx => s3 = .bool false ∧ s5 = .int .i64 0 ∧ wx = wr) (fun _ _ _ => 0)
        case atStart => exact ⟨rfl, rfl, rfl⟩
        case round =>
          obtain ⟨rfl, rfl, rfl⟩ := hrel
          obtain ⟨k0, k1⟩ := cell2_of C.out
          by_cases hpos : (0 : Int) < ws.length
          · go_wp2_with fail
            go_ret
            exact ⟨by rw [NO.out]; rfl, Q.out⟩
          · have hpos' : decide ((0 : Int) < ws.length) = false := decide_eq_false hpos
            go_wp2_with fail
            go_ret
            exact ⟨by rw [NO.out]; rfl, Q.out⟩
      · have hpos' : decide ((0 : Int) < ss.length) = false := decide_eq_false hpos
        go_wp2_with fail
        clear k0 k1 hpos'
        go_loopw [3, 5] (fun s3 s5 wx => s3 = .bool false ∧ s5 = .int .i64 0 ∧ wx = wr) (fun _ _ _ => 0)
        case atStart => exact ⟨rfl, rfl, rfl⟩
        case round =>
          obtain ⟨rfl, rfl, rfl⟩ := hrel
          obtain ⟨k0, k1⟩ := cell2_of C.out
          by_cases hpos : (0 : Int) < ws.length
          · go_wp2_with fail
            go_ret
            exact ⟨by rw [NO.out]; rfl, Q.out⟩
          · have hpos' : decide ((0 : Int) < ws.length) = false := decide_eq_false hpos
            go_wp2_with fail
            go_ret
            exact ⟨by rw [NO.out]; rfl, Q.out⟩
end Go.Proofs.Ytdpjdobmnkadjaa
